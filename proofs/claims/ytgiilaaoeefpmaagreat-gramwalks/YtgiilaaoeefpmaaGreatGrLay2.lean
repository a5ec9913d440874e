import Derived.Test.YtgiilaaoeefpmaaGreatGrLay
import Derived.Deep.RegionLaw
namespace Go.Proofs.YtgiilaaoeefpmaaGreat.Gr
open Go.RowKit Go.Proofs.YtgiilaaoeefpmaaGreat.Sp Go.Proofs.YtgiilaaoeefpmaaGreat.Lx

section
variable (E : Env) (ok : E.Ok) (w : World) (rv pv : Value) (s : PS) (h : Par w E rv pv s)
include ok h

set_option maxHeartbeats 3200000 in
set_option maxRecDepth 100000 in
theorem lay_ok (k : Nat) (hb : E.bad s = false) (hr : s.rows.length ≤ s.next) (hp : s.places.length ≤ s.next) :
    Calls Tryz.prog 93 #[.pointer (some ⟨E.g, 0, none⟩), .int .i64 k] w fun e w' => Post E w rv pv (fun n => .int .i64 (n : Nat)) (lay E k s) e w' := by
  have HN : Hid (lay E k s = .ok s.rows.length { s with rows := s.rows ++ [row0 k], places := s.places ++ [(E.tok s).at_] }) := by show _ = _; unfold lay; rw [if_neg (by simp [hb])]
  have HK : Hid ((E.tok s).kind ≠ 0 ∨ E.ce = 0) := bad_not hb
  have HP0 : Hid (Par w E rv pv s) := h
  have HR : Hid (s.rows.length ≤ s.next ∧ s.places.length ≤ s.next ∧ s.next < 65537) := ⟨hr, hp, by have := h.nx; have := ok.len; omega⟩
  obtain ⟨i0, hi, hz0, hz1, hz2⟩ := info_parts info46
  obtain ⟨j0, hj, hj0, hj1, hj2⟩ := info_parts info3
  have hb1 : Below w.heap.size w (w.alloc (.cells #[.int .i64 k, .string ⟨#[]⟩, .int .i64 0, .int .i64 0, .int .i64 (least k : Nat)] 46)) := (Below.refl _ w).alloc (Nat.le_refl _) _
  have HB1 : Hid (Below w.heap.size w (w.alloc (.cells #[.int .i64 k, .string ⟨#[]⟩, .int .i64 0, .int .i64 0, .int .i64 (least k : Nat)] 46))) := hb1
  have HP1 : Hid (Par (w.alloc (.cells #[.int .i64 k, .string ⟨#[]⟩, .int .i64 0, .int .i64 0, .int .i64 (least k : Nat)] 46)) E rv pv s) := h.below hb1
  obtain ⟨_, _, _, _, _, _, c6, _⟩ := h.cells
  clear h hb hr hp hb1
  go_enter Tryz.func93, Tryz.ntmps93
  go_wp2_with fail
  refine (kidsOf_any _ w).mono ?_
  intro e w' hp
  obtain ⟨rfl, hw⟩ := hp
  rw [hw]
  clear hw w'
  go_wp2_with (at_builtin; refine append_gone _ rfl _ _ 22 rfl E.w0.heap.size 46 i0 (.agg #[.int .i64 0, .string ⟨#[]⟩, .int .i64 0, .int .i64 0, .int .i64 0]) 5 48 Tryz.underlying22 hi hz0 hz1 hz2 rfl (by decide) rv s.rows.length (s.rows.flatMap rc) rfl HP1.out.rows ⟨w.heap.size, 0, none⟩ 1 1 (rc (row0 k)) rfl rfl ?c1 ?c2 ?c3 ?c4 ?c5 ?c6 ?_)
  case c1 => exact cell_five w _ _ _ _ _ _
  case c2 => intro u hu; simp only [rc, row0, List.mem_cons, List.not_mem_nil, or_false] at hu; rcases hu with rfl | rfl | rfl | rfl | rfl <;> rfl
  case c3 => have := HR.out; unfold maxLen; omega
  case c4 => have := HR.out; omega
  case c5 => exact HP1.out.fix.size
  case c6 => decide
  intro v' w1 ho hG
  have hflat : s.rows.flatMap rc ++ rc (row0 k) = (s.rows ++ [row0 k]).flatMap rc := by simp
  have hlen : s.rows.length + 1 = (s.rows ++ [row0 k]).length := by simp
  rw [hflat, hlen] at ho
  have hpr := HP1.out.putRows ok hG ho (by have := HR.out; rw [← hlen]; omega)
  have hcell : w1.cell? ⟨E.g, 6, none⟩ = some rv := by simp [World.cell?, HP1.out.gblk ok (Or.inl rfl) hG, Env.cells]
  have hfro : w1.frozen? ⟨E.g, 6, none⟩ = false := by simp [World.frozen?, HP1.out.gblk ok (Or.inl rfl) hG]
  rw [← hlen] at ho
  obtain ⟨bo, bc, rfl⟩ := own_form ho
  have HP2 : Hid (Par (w1.setCell ⟨E.g, 6, none⟩ (.slice bo (s.rows.length + 1) bc)) E (.slice bo (s.rows.length + 1) bc) pv { s with rows := s.rows ++ [row0 k] }) := hpr.1
  have HM2 : Hid (Mv E w rv pv (w1.setCell ⟨E.g, 6, none⟩ (.slice bo (s.rows.length + 1) bc)) (.slice bo (s.rows.length + 1) bc) pv) := (Mv.of1 rv pv (Mv1.of_below HB1.out)).trans hpr.2
  clear hpr ho hG hflat hlen
  go_wp2_with fail
  generalize w1.setCell ⟨E.g, 6, none⟩ (.slice bo (s.rows.length + 1) bc) = w2 at *
  clear hcell hfro c6
  have hf1 := fld1
  have hc7 : w2.cell? ⟨E.g, 7, none⟩ = some pv := HP2.out.cells.2.2.2.2.2.2.2
  have HT : Hid (Calls Tryz.prog 99 #[.pointer (some ⟨E.g, 0, none⟩)] w2.drew fun e w' => e = .returned (.agg #[.int .i64 (E.tok s).kind, .int .i64 (E.tok s).at_, .int .i64 (E.tok s).stop, .int .i64 (E.tok s).n]) ∧ Below w2.heap.size w2 w') :=
    (token_ok E ok w2.drew _ pv { s with rows := s.rows ++ [row0 k] } (HP2.out.below (Below.refl _ _).drew) (E.tok s) (Env.tok_at HP2.out.nx) HK.out).mono fun e w' hh => ⟨hh.1, ((Below.refl w2.heap.size w2).drew).trans hh.2⟩
  go_region_law (first
    | (go_simp
       go_at_call 99
       refine HT.out.mono ?_
       rintro e wz ⟨rfl, hbz⟩
       have hb3 : Below w2.heap.size w2 (wz.alloc (.cells #[.int .i64 (E.tok s).at_] 3)) := hbz.alloc hbz.size _
       have HB3 : Hid (Below w2.heap.size w2 (wz.alloc (.cells #[.int .i64 (E.tok s).at_] 3))) := hb3
       have HP3 : Hid (Par (wz.alloc (.cells #[.int .i64 (E.tok s).at_] 3)) E (.slice bo (s.rows.length + 1) bc) pv { s with rows := s.rows ++ [row0 k] }) := HP2.out.below hb3
       have hcz : wz.cell? ⟨E.g, 7, none⟩ = some pv := (HP2.out.below hbz).cells.2.2.2.2.2.2.2
       have hcy : (wz.alloc (.cells #[.int .i64 (E.tok s).at_] 3)).cell? ⟨E.g, 7, none⟩ = some pv := HP3.out.cells.2.2.2.2.2.2.2
       clear hb3 hbz)
    | (refine step_gone _ rfl (.tmp 28) (.tmp 32) 30 rfl E.w0.heap.size 3 j0 (.int .i64 0) 1 8 Tryz.underlying30 hj hj0 hj1 hj2 rfl (by decide) pv s.places.length (s.places.map nc) (by simp [Act.eval]) HP3.out.places ⟨wz.heap.size, 0, none⟩ 1 1 [nc (E.tok s).at_] (by simp [Act.eval]) rfl (cell_one wz _ _) (by intro u hu; simp only [nc, List.mem_cons, List.not_mem_nil, or_false] at hu; subst hu; rfl) (by have := HR.out; unfold maxLen; omega) (by have := HR.out; omega) HP3.out.fix.size (by decide) ?_
       intro v3 w3 ho hG
       have hflat : s.places.map nc ++ [nc (E.tok s).at_] = (s.places ++ [(E.tok s).at_]).map nc := by simp
       have hlen : s.places.length + 1 = (s.places ++ [(E.tok s).at_]).length := by simp
       rw [hflat, hlen] at ho
       have hpr := HP3.out.putPlaces ok hG ho (by have := HR.out; rw [← hlen]; show s.places.length + 1 ≤ s.next + 1; omega)
       have hcell : w3.cell? ⟨E.g, 7, none⟩ = some pv := by simp [World.cell?, HP3.out.gblk ok (Or.inr rfl) hG, Env.cells]
       have hfro : w3.frozen? ⟨E.g, 7, none⟩ = false := by simp [World.frozen?, HP3.out.gblk ok (Or.inr rfl) hG]
       rw [← hlen] at ho
       obtain ⟨po, pc, rfl⟩ := own_form ho
       have HP4 : Hid (Par (w3.setCell ⟨E.g, 7, none⟩ (.slice po (s.places.length + 1) pc)) E (.slice bo (s.rows.length + 1) bc) (.slice po (s.places.length + 1) pc) { s with rows := s.rows ++ [row0 k], places := s.places ++ [(E.tok s).at_] }) := hpr.1
       have HM4 : Hid (Mv E w rv pv (w3.setCell ⟨E.g, 7, none⟩ (.slice po (s.places.length + 1) pc)) (.slice bo (s.rows.length + 1) bc) (.slice po (s.places.length + 1) pc)) := (HM2.out.trans (Mv.of1 _ pv (Mv1.of_below HB3.out))).trans hpr.2
       have hlast := HP4.out.cells.2.2.2.2.2.2.1
       clear hpr ho hG hflat hlen))
  all_goals clear hi hz0 hz1 hz2 hj hj0 hj1 hj2 hf1
  all_goals (have hr0 : (0 : Int) ≤ (s.rows.length : Int) := by omega)
  all_goals (have hr1 : (s.rows.length : Int) < 65537 := by have := HR.out; omega)
  all_goals go_wp2_with fail
  all_goals go_ret
  all_goals rw [HN.out]
  all_goals refine ⟨?_, _, _, HP4.out, HM4.out⟩
  all_goals exact ret_i (by omega)
end
end Go.Proofs.YtgiilaaoeefpmaaGreat.Gr
