import Derived.Test.YtelbakkgobkdaaaDoorVfHgt
import Derived.Test.YtelbakkgobkdaaaDoorVfSml
namespace Go.Proofs.YtelbakkgobkdaaaDoor.Vf
open Go.RowKit Go.Proofs.YtelbakkgobkdaaaDoor.Nm
/-- one that pops too much -/
def smQ : Pg := ⟨[false], [], [], [-1], 0, [⟨13, 0, 0, 0, 0⟩, ⟨0, 0, 0, 0, 0⟩]⟩
theorem sm_ok : ∃ g, judge smP = .ok g := ⟨_, by rfl⟩
theorem sm_cst : cst smP smP.miss = 2 := by decide +kernel
theorem sm_on : smP.on.map (cst smP) = [0] := rfl
theorem sq_err : judge smQ = .error (93, 0) := by rfl
/-- two new blocks -/
theorem al2 (w : World) (a b : Obj) : Below w.heap.size w ((w.alloc a).alloc b) ∧ ((w.alloc a).alloc b).heap[w.heap.size]? = some a ∧ ((w.alloc a).alloc b).heap[w.heap.size + 1]? = some b := by
  have s1 : (w.alloc a).heap.size = w.heap.size + 1 := by simp
  have h0 := heap_alloc_new w a
  have h1 := heap_alloc_new (w.alloc a) b
  rw [s1] at h1
  have b0 : Below w.heap.size w (w.alloc a) := (Below.refl _ w).alloc (Nat.le_refl _) _
  have b1 : Below (w.alloc a).heap.size (w.alloc a) ((w.alloc a).alloc b) := (Below.refl _ _).alloc (Nat.le_refl _) _
  rw [s1] at b1
  exact ⟨b0.trans (b1.mono (by omega)), (b1.block _ (by omega)).trans h0, h1⟩
theorem blw_at {n : Nat} {w w' : World} {k : Nat} {o : Obj} (h : Below w.heap.size w w') (hk : w.heap[k]? = some o) (_ : n = 0) : w'.heap[k]? = some o := (h.block _ (blk_lt hk)).trans hk
theorem bel_step {w W W' : World} (h : Below w.heap.size w W) (h2 : Below W.heap.size W W') : Below w.heap.size w W' := h.trans (h2.mono h.size)
theorem run_sm (v : PV) (w : World) (hP : IsPg w v smP) (hE : Ef w) : Calls Tryd.prog 9 #[.agg (pvC v smP)] w fun e w' => ∃ b, e = .returned (.tuple #[.agg #[.slice (some ⟨b, 0, none⟩) 1 1, .int .i64 2], .agg #[.int .i64 0, .int .i64 0]]) ∧ w'.cell? ⟨b, 0, none⟩ = some (.int .i64 0) ∧ Below w.heap.size w w' ∧ b < w'.heap.size := by
  refine (run_any v smP w hP hE).mono ?_
  rintro e w' h
  obtain ⟨g, hg⟩ := sm_ok
  obtain ⟨b, hr, -, hrd, -⟩ := h.ok g hg
  rw [sm_cst] at hr
  rw [sm_on] at hrd
  obtain ⟨g', f', e', h1, h2⟩ := hrd 0 _ rfl
  cases e'
  exact ⟨b, hr, h2, h.bel, h1⟩
theorem run_sq (v : PV) (w : World) (hP : IsPg w v smQ) (hE : Ef w) : Calls Tryd.prog 9 #[.agg (pvC v smQ)] w fun e w' => e = .returned (.tuple #[.agg #[.slice none 0 0, .int .i64 0], .agg #[.int .i64 93, .int .i64 0]]) ∧ Below w.heap.size w w' := by
  refine (run_any v smQ w hP hE).mono ?_
  rintro e w' h
  exact ⟨h.err 93 0 sq_err, h.bel⟩
theorem hgt_sm (v : PV) (w : World) (hP : IsPg w v smP) (hE : Ef w) : Calls Tryd.prog 13 #[.agg (pvC v smP)] w fun e w' => ∃ b, e = .returned (.tuple #[.slice (some ⟨b, 0, none⟩) 2 2, .agg #[.int .i64 0, .int .i64 0]]) ∧ Below w.heap.size w w' := by
  refine (heights_any v smP w hP hE).mono ?_
  rintro e w' h
  obtain ⟨g, hg⟩ := sm_ok
  obtain ⟨b, hr, -, -⟩ := h.ok g hg
  exact ⟨b, hr, h.bel⟩
set_option maxHeartbeats 6400000 in
set_option maxRecDepth 100000 in
theorem head_any (w : World) (hE : Ef w) : Calls Tryd.prog 7 #[] w fun e w' => e = .returned (.bool true) ∧ Below w.heap.size w w' := by
  have HEf : Hid (∀ W, Below w.heap.size w W → Ef W) := fun W hb => hE.below hb
  clear hE
  go_enter Tryd.func7, Tryd.ntmps7
  go_wp2_with fail
  refine (small_any _).mono ?_
  rintro e w1 ⟨hb1, a, b, c, rfl, -, -, -, hp1⟩
  go_wp2_with fail
  refine (run_sm ⟨some ⟨a, 0, none⟩, 1, none, 0, none, 0, some ⟨b, 0, none⟩, 1, some ⟨c, 0, none⟩, 2⟩ w1 hp1 (HEf.out _ hb1)).mono ?_
  rintro e w2 ⟨b2, rfl, hc2, hb2, hl2⟩
  have HA3 : Hid _ := al2 w2 (.cells #[.slice (some ⟨b2, 0, none⟩) 1 1, .int .i64 2] 32) (.cells #[.int .i64 0, .int .i64 0] 35)
  have HB2 : Hid (Below w.heap.size w w2) := bel_step hb1 hb2
  have HC2 : Hid (w2.cell? ⟨b2, 0, none⟩ = some (.int .i64 0) ∧ b2 < w2.heap.size) := ⟨hc2, hl2⟩
  clear hp1 hb1 hb2 hc2 hl2
  go_upto_region 2 with fail
  generalize ((w2.alloc (.cells #[.slice (some ⟨b2, 0, none⟩) 1 1, .int .i64 2] 32)).alloc (.cells #[.int .i64 0, .int .i64 0] 35)) = W3 at *
  have HB3 : Hid (Below w.heap.size w W3) := bel_step HB2.out HA3.out.1
  have HC3 : Hid (W3.cell? ⟨b2, 0, none⟩ = some (.int .i64 0) ∧ b2 < W3.heap.size) := ⟨(HA3.out.1.cell (p := ⟨b2, 0, none⟩) HC2.out.2).trans HC2.out.1, Nat.lt_of_lt_of_le HC2.out.2 HA3.out.1.size⟩
  go_wp2_with fail
  refine (small_any _).mono ?_
  rintro e w4 ⟨hb4, a4, b4, c4, rfl, -, -, -, hp4⟩
  have HA5 : Hid _ := al2 w4 (.cells #[.slice (some ⟨a4, 0, none⟩) 1 1, .slice none 0 0, .slice none 0 0, .slice (some ⟨b4, 0, none⟩) 1 1, .int .i64 0, .slice (some ⟨w4.heap.size + 1, 0, none⟩) 2 2] 27) (.cells #[.int .i64 13, .int .i64 0, .int .i64 0, .int .i64 0, .int .i64 0, .int .i64 0, .int .i64 0, .int .i64 0, .int .i64 0, .int .i64 0] 54)
  have HB4 : Hid (Below w.heap.size w w4 ∧ Below W3.heap.size W3 w4) := ⟨bel_step HB3.out hb4, hb4⟩
  have HP4 : Hid (IsPg w4 ⟨some ⟨a4, 0, none⟩, 1, none, 0, none, 0, some ⟨b4, 0, none⟩, 1, some ⟨c4, 0, none⟩, 2⟩ smP) := hp4
  clear hb4 hp4
  go_upto_region 4 with fail
  generalize ((w4.alloc (.cells #[.slice (some ⟨a4, 0, none⟩) 1 1, .slice none 0 0, .slice none 0 0, .slice (some ⟨b4, 0, none⟩) 1 1, .int .i64 0, .slice (some ⟨w4.heap.size + 1, 0, none⟩) 2 2] 27)).alloc (.cells #[.int .i64 13, .int .i64 0, .int .i64 0, .int .i64 0, .int .i64 0, .int .i64 0, .int .i64 0, .int .i64 0, .int .i64 0, .int .i64 0] 54)) = W5 at *
  have HB5 : Hid (Below w.heap.size w W5 ∧ Below W3.heap.size W3 W5) := ⟨bel_step HB4.out.1 HA5.out.1, bel_step HB4.out.2 HA5.out.1⟩
  have HP5 : Hid (IsPg W5 ⟨some ⟨a4, 0, none⟩, 1, none, 0, none, 0, some ⟨b4, 0, none⟩, 1, some ⟨w4.heap.size + 1, 0, none⟩, 2⟩ smQ) := by
    have h := HP4.out.below HA5.out.1
    exact ⟨h.gh, h.vs, h.ts, h.on, rd_blk (xs := cC [⟨13, 0, 0, 0, 0⟩, ⟨0, 0, 0, 0, 0⟩]) HA5.out.2.2, by decide, by decide, by decide, by decide, by decide⟩
  obtain ⟨i0, i1, i2, i3, i4, i5⟩ := cells6 HA5.out.2.1
  clear HP4 HB4 HA5
  go_wp2_with fail
  refine (run_sq ⟨some ⟨a4, 0, none⟩, 1, none, 0, none, 0, some ⟨b4, 0, none⟩, 1, some ⟨w4.heap.size + 1, 0, none⟩, 2⟩ W5 HP5.out (HEf.out _ HB5.out.1)).mono ?_
  rintro e w6 ⟨rfl, hb6⟩
  have HA7 : Hid _ := al2 w6 (.cells #[.slice none 0 0, .int .i64 0] 32) (.cells #[.int .i64 93, .int .i64 0] 35)
  have HB6 : Hid (Below w.heap.size w w6 ∧ Below W3.heap.size W3 w6) := ⟨bel_step HB5.out.1 hb6, bel_step HB5.out.2 hb6⟩
  clear hb6 HB5 HP5 i0 i1 i2 i3 i4 i5
  go_upto_region 5 with fail
  generalize ((w6.alloc (.cells #[.slice none 0 0, .int .i64 0] 32)).alloc (.cells #[.int .i64 93, .int .i64 0] 35)) = W7 at *
  have HB7 : Hid (Below w.heap.size w W7 ∧ Below W3.heap.size W3 W7 ∧ W7.heap[w6.heap.size + 1]? = some (.cells #[.int .i64 93, .int .i64 0] 35 (0, 0))) := ⟨bel_step HB6.out.1 HA7.out.1, bel_step HB6.out.2 HA7.out.1, HA7.out.2.2⟩
  clear HA7 HB6
  go_wp2_with fail
  refine (small_any _).mono ?_
  rintro e w8 ⟨hb8, a8, b8, c8, rfl, -, -, -, hp8⟩
  go_wp2_with fail
  refine (hgt_sm ⟨some ⟨a8, 0, none⟩, 1, none, 0, none, 0, some ⟨b8, 0, none⟩, 1, some ⟨c8, 0, none⟩, 2⟩ w8 hp8 (HEf.out _ (bel_step HB7.out.1 hb8))).mono ?_
  rintro e w9 ⟨b9, rfl, hb9⟩
  have hbA : Below w9.heap.size w9 (w9.alloc (.cells #[.int .i64 0, .int .i64 0] 35)) := (Below.refl _ w9).alloc (Nat.le_refl _) _
  have hb79 : Below W7.heap.size W7 (w9.alloc (.cells #[.int .i64 0, .int .i64 0] 35)) := bel_step (bel_step hb8 hb9) hbA
  have HBA : Hid (Below w.heap.size w (w9.alloc (.cells #[.int .i64 0, .int .i64 0] 35)) ∧ Below W3.heap.size W3 (w9.alloc (.cells #[.int .i64 0, .int .i64 0] 35)) ∧ (w9.alloc (.cells #[.int .i64 0, .int .i64 0] 35)).heap[w6.heap.size + 1]? = some (.cells #[.int .i64 93, .int .i64 0] 35 (0, 0)) ∧ (w9.alloc (.cells #[.int .i64 0, .int .i64 0] 35)).heap[w9.heap.size]? = some (.cells #[.int .i64 0, .int .i64 0] 35 (0, 0))) := ⟨bel_step HB7.out.1 hb79, bel_step HB7.out.2.1 hb79, (hb79.block _ (blk_lt HB7.out.2.2)).trans HB7.out.2.2, heap_alloc_new _ _⟩
  clear hb8 hp8 hb9 hbA hb79 HB7
  go_upto_region 6 with fail
  generalize w9.alloc (.cells #[.int .i64 0, .int .i64 0] 35) = WA at *
  obtain ⟨y0, y1⟩ := cells2 ((HBA.out.2.1.block _ (blk_lt HA3.out.2.1)).trans HA3.out.2.1)
  obtain ⟨z0, z1⟩ := cells2 ((HBA.out.2.1.block _ (blk_lt HA3.out.2.2)).trans HA3.out.2.2)
  obtain ⟨x0, x1⟩ := cells2 HBA.out.2.2.1
  obtain ⟨v0, v1⟩ := cells2 HBA.out.2.2.2
  have u0 := (HBA.out.2.1.cell (p := ⟨b2, 0, none⟩) HC3.out.2).trans HC3.out.1
  have HR : Hid (Below w.heap.size w WA) := HBA.out.1
  clear HBA HA3 HC3 HC2 HB3 HB2 HEf
  go_wp2_with fail
  go_ret
  exact ⟨rfl, HR.out⟩
end Go.Proofs.YtelbakkgobkdaaaDoor.Vf
