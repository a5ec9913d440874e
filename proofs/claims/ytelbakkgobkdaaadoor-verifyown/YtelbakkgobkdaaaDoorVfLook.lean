import Derived.Test.YtelbakkgobkdaaaDoorVfGo
namespace Go.Proofs.YtelbakkgobkdaaaDoor.Vf
open Go.RowKit Go.Proofs.YtelbakkgobkdaaaDoor.Nm

/-- an instruction that Check takes -/
structure OkI (p : Pg) (x : Ins) : Prop where
  op : 0 ≤ x.op ∧ x.op < 42
  qa : x.op = 32 ∨ x.op = 40 ∨ x.op = 41 ∨ x.op = 38 ∨ x.op = 39 ∨ x.op = 35 ∨ x.op = 34 → 0 ≤ x.a ∧ x.a < (p.gh.length : Int)
  qc : x.op = 38 ∨ x.op = 39 → 0 ≤ x.c ∧ x.c < (p.gh.length : Int)
  pa : x.op = 22 ∨ x.op = 23 ∨ x.op = 25 ∨ x.op = 26 ∨ x.op = 27 → 0 ≤ x.a ∧ x.a < (p.cd.length : Int)
  la : x.op = 24 → 0 ≤ x.a ∧ x.a ≤ 4194304
theorem inK1 {p : Pg} {n : Int} (h : inK p 1 n = true) : 0 ≤ n ∧ n < (p.gh.length : Int) := by
  unfold inK loK hiK at h
  simp only [Bool.and_eq_true, decide_eq_true_eq] at h
  simp at h
  omega
theorem inK8 {p : Pg} {n : Int} (h : inK p 8 n = true) : 0 ≤ n ∧ n < (p.cd.length : Int) := by
  unfold inK loK hiK at h
  simp only [Bool.and_eq_true, decide_eq_true_eq] at h
  simp at h
  omega
theorem inK7 {p : Pg} {n : Int} (h : inK p 7 n = true) : 0 ≤ n ∧ n ≤ 4194304 := by
  unfold inK loK hiK at h
  simp only [Bool.and_eq_true, decide_eq_true_eq] at h
  simp at h
  omega
theorem okI_of {p : Pg} {x : Ins} (h : insF p x = 0) : OkI p x := by
  obtain ⟨xo, xa, xb, xc, xd⟩ := x
  unfold insF at h
  dsimp only at h
  by_cases ho : 0 ≤ xo ∧ xo < 42
  case neg =>
    rw [← Bool.decide_and, decide_eq_false ho] at h
    cases h
  rw [← Bool.decide_and, decide_eq_true ho] at h
  simp only [if_true] at h
  by_cases hk : (inK p (kd4 xo.toNat).1 xa && (inK p (kd4 xo.toNat).2.1 xb && (inK p (kd4 xo.toNat).2.2.1 xc && inK p (kd4 xo.toNat).2.2.2 xd))) = true
  case neg =>
    rw [if_neg hk] at h
    cases h
  simp only [Bool.and_eq_true] at hk
  obtain ⟨ka, -, kc, -⟩ := hk
  refine ⟨ho, ?_, ?_, ?_, ?_⟩
  · rintro (rfl | rfl | rfl | rfl | rfl | rfl | rfl) <;> exact inK1 ka
  · rintro (rfl | rfl) <;> exact inK1 kc
  · rintro (rfl | rfl | rfl | rfl | rfl) <;> exact inK8 ka
  · rintro rfl; exact inK7 ka
set_option maxHeartbeats 12800000 in
set_option maxRecDepth 100000 in
/-- look where nothing is known -/
theorem look_none {w : World} {wb gb : Nat} {v : PV} {p : Pg} {eo : Option Addr} {ec gc : Nat} {g : Nat → Option Sd} (h : Wk w wb gb v p eo ec gc g) (i : Nat) (hi : i < p.cd.length) (hs : g i = none) :
    Calls Tryd.prog 42 #[.pointer (some ⟨wb, 0, none⟩), .int .i64 (i : Int)] w fun e w' => e = .returned (.int .i64 99) ∧ Below w.heap.size w w' := by
  obtain ⟨qo, qc, vo, vc, tto, tc, oo, oc, co, cc⟩ := v
  obtain ⟨cg, cf, rfl, c5, c7, d0, d1, d2, d3, d4⟩ := h.reads hi
  obtain ⟨e0, e1, e2, e3, e4, e5, e6, e7⟩ := h.isN hi hs
  have n3 : (p.cd.length : Int) ≤ 1000000000000000 := by have := h.pg.lcd; omega
  have hi' : (i : Int) < (p.cd.length : Int) := by omega
  generalize p.cd[i].op = y0 at *
  generalize p.cd[i].a = y1 at *
  generalize p.cd[i].b = y2 at *
  generalize p.cd[i].c = y3 at *
  generalize p.cd[i].d = y4 at *
  have HSb : Hid (∀ W, Below w.heap.size w W → (fun w' : World => w'.cell? ⟨wb, 5, none⟩ = some (.slice (some ⟨cg, cf, none⟩) p.cd.length cc) ∧ w'.cell? ⟨wb, 7, none⟩ = some (.slice (some ⟨gb, 0, none⟩) p.cd.length gc) ∧ w'.cell? ⟨gb, i * 8, none⟩ = some (.int .i64 0) ∧ w'.cell? ⟨gb, i * 8 + 1, none⟩ = some (.int .u64 0) ∧ w'.cell? ⟨gb, i * 8 + 2, none⟩ = some (.int .u64 0) ∧ w'.cell? ⟨gb, i * 8 + 3, none⟩ = some (.int .u64 0) ∧ w'.cell? ⟨gb, i * 8 + 4, none⟩ = some (.int .u64 0) ∧ w'.cell? ⟨gb, i * 8 + 5, none⟩ = some (.bool false) ∧ w'.cell? ⟨gb, i * 8 + 6, none⟩ = some (.int .i64 0) ∧ w'.cell? ⟨gb, i * 8 + 7, none⟩ = some (.int .i64 0) ∧ w'.cell? ⟨cg, cf + i * 5, none⟩ = some (.int .i64 y0) ∧ w'.cell? ⟨cg, cf + i * 5 + 1, none⟩ = some (.int .i64 y1) ∧ w'.cell? ⟨cg, cf + i * 5 + 2, none⟩ = some (.int .i64 y2) ∧ w'.cell? ⟨cg, cf + i * 5 + 3, none⟩ = some (.int .i64 y3) ∧ w'.cell? ⟨cg, cf + i * 5 + 4, none⟩ = some (.int .i64 y4)) W) := fun W hb => by
    have hc : ∀ b o v, w.cell? ⟨b, o, none⟩ = some v → W.cell? ⟨b, o, none⟩ = some v := fun b o v hv => by
      have hlt : b < w.heap.size := by
        rcases Nat.lt_or_ge b w.heap.size with h1 | h1
        · exact h1
        · exfalso
          simp [World.cell?, Array.getElem?_eq_none h1] at hv
      exact (hb.cell (p := ⟨b, o, none⟩) hlt).trans hv
    exact ⟨hc _ _ _ c5, hc _ _ _ c7, hc _ _ _ e0, hc _ _ _ e1, hc _ _ _ e2, hc _ _ _ e3, hc _ _ _ e4, hc _ _ _ e5, hc _ _ _ e6, hc _ _ _ e7, hc _ _ _ d0, hc _ _ _ d1, hc _ _ _ d2, hc _ _ _ d3, hc _ _ _ d4⟩
  clear h c5 c7 d0 d1 d2 d3 d4 e0 e1 e2 e3 e4 e5 e6 e7
  go_enter Tryd.func42, Tryd.ntmps42
  go_upto_region 1 with fail
  go_cut [5, 6] (fun s5 s6 wx => ∃ bs bi, s5 = .pointer (some ⟨bs, 0, none⟩) ∧ s6 = .pointer (some ⟨bi, 0, none⟩) ∧ Si w.heap.size w wx bs bi #[.int .i64 0, .int .u64 0, .int .u64 0, .int .u64 0, .int .u64 0, .bool false, .int .i64 0, .int .i64 0] #[.int .i64 y0, .int .i64 y1, .int .i64 y2, .int .i64 y3, .int .i64 y4])
  case first =>
    refine wp_region_held (S := fun w' : World => w'.cell? ⟨wb, 5, none⟩ = some (.slice (some ⟨cg, cf, none⟩) p.cd.length cc) ∧ w'.cell? ⟨wb, 7, none⟩ = some (.slice (some ⟨gb, 0, none⟩) p.cd.length gc) ∧ w'.cell? ⟨gb, i * 8, none⟩ = some (.int .i64 0) ∧ w'.cell? ⟨gb, i * 8 + 1, none⟩ = some (.int .u64 0) ∧ w'.cell? ⟨gb, i * 8 + 2, none⟩ = some (.int .u64 0) ∧ w'.cell? ⟨gb, i * 8 + 3, none⟩ = some (.int .u64 0) ∧ w'.cell? ⟨gb, i * 8 + 4, none⟩ = some (.int .u64 0) ∧ w'.cell? ⟨gb, i * 8 + 5, none⟩ = some (.bool false) ∧ w'.cell? ⟨gb, i * 8 + 6, none⟩ = some (.int .i64 0) ∧ w'.cell? ⟨gb, i * 8 + 7, none⟩ = some (.int .i64 0) ∧ w'.cell? ⟨cg, cf + i * 5, none⟩ = some (.int .i64 y0) ∧ w'.cell? ⟨cg, cf + i * 5 + 1, none⟩ = some (.int .i64 y1) ∧ w'.cell? ⟨cg, cf + i * 5 + 2, none⟩ = some (.int .i64 y2) ∧ w'.cell? ⟨cg, cf + i * 5 + 3, none⟩ = some (.int .i64 y3) ∧ w'.cell? ⟨cg, cf + i * 5 + 4, none⟩ = some (.int .i64 y4)) (by kernel_rfl) ?_
    have hS : (fun w' : World => w'.cell? ⟨wb, 5, none⟩ = some (.slice (some ⟨cg, cf, none⟩) p.cd.length cc) ∧ w'.cell? ⟨wb, 7, none⟩ = some (.slice (some ⟨gb, 0, none⟩) p.cd.length gc) ∧ w'.cell? ⟨gb, i * 8, none⟩ = some (.int .i64 0) ∧ w'.cell? ⟨gb, i * 8 + 1, none⟩ = some (.int .u64 0) ∧ w'.cell? ⟨gb, i * 8 + 2, none⟩ = some (.int .u64 0) ∧ w'.cell? ⟨gb, i * 8 + 3, none⟩ = some (.int .u64 0) ∧ w'.cell? ⟨gb, i * 8 + 4, none⟩ = some (.int .u64 0) ∧ w'.cell? ⟨gb, i * 8 + 5, none⟩ = some (.bool false) ∧ w'.cell? ⟨gb, i * 8 + 6, none⟩ = some (.int .i64 0) ∧ w'.cell? ⟨gb, i * 8 + 7, none⟩ = some (.int .i64 0) ∧ w'.cell? ⟨cg, cf + i * 5, none⟩ = some (.int .i64 y0) ∧ w'.cell? ⟨cg, cf + i * 5 + 1, none⟩ = some (.int .i64 y1) ∧ w'.cell? ⟨cg, cf + i * 5 + 2, none⟩ = some (.int .i64 y2) ∧ w'.cell? ⟨cg, cf + i * 5 + 3, none⟩ = some (.int .i64 y3) ∧ w'.cell? ⟨cg, cf + i * 5 + 4, none⟩ = some (.int .i64 y4)) w.drew := HSb.out _ (Below.refl _ w).drew
    change wpAnyH _ _ _ _ _ _ _ _ w.drew
    refine tqA 0 rfl hS ?_
    refine tqA 1 rfl hS ?_
    refine tqA 2 rfl hS ?_
    refine tqA 3 rfl hS ?_
    refine tqA 4 rfl hS ?_
    refine tqA 5 rfl hS ?_
    refine tqA 6 rfl hS ?_
    refine tqA 7 rfl hS ?_
    refine tqA 8 rfl hS ?_
    refine tqA 9 rfl hS ?_
    refine tqA 10 rfl hS ?_
    refine tqA 11 rfl hS ?_
    refine tqA 12 rfl hS ?_
    refine tqA 13 rfl hS ?_
    refine tqA 14 rfl hS ?_
    refine wpAnyH_ready (rs := [15, 16]) (by kernel_rfl) (by simp) ?_
    refine AllReadyH.cons rfl (fun K hK => ?_) (AllReadyH.cons rfl (fun K hK => ?_) AllReadyH.nil)
    · go_simp
      refine hK.out _ _ (HSb.out _ ((Below.refl _ w).alloc (Nat.le_refl _) _).drew) (fun hS => ?_)
      refine wpAnyH_ready (rs := [16]) (by kernel_rfl) (by simp) ?_
      refine AllReadyH.cons rfl (fun K hK => ?_) AllReadyH.nil
      go_simp
      refine hK.out _ _ (HSb.out _ (((Below.refl _ w).alloc (Nat.le_refl _) _).alloc (by simp) _).drew) (fun hS => ?_)
      refine wpAnyH_ready (rs := [17]) (by kernel_rfl) (by simp) ?_
      refine AllReadyH.cons rfl (fun K hK => ?_) AllReadyH.nil
      go_simp
      refine hK.out _ _ (HSb.out _ (((Below.refl _ w).alloc (Nat.le_refl _) _).alloc (by simp) _).drew) (fun hS => ?_)
      refine wpAnyH_ready (rs := [18]) (by kernel_rfl) (by simp) ?_
      refine AllReadyH.cons rfl (fun K hK => ?_) AllReadyH.nil
      go_simp
      refine hK.out _ _ (HSb.out _ (((Below.refl _ w).alloc (Nat.le_refl _) _).alloc (by simp) _).drew) (fun hS => ?_)
      refine wpAnyH_done (by kernel_rfl) ?_ _
      clear hK K hS
      go_wp2_with fail
      go_meet
      exact ⟨_, _, rfl, rfl, Si.mk1 w _ _⟩
    · go_simp
      refine hK.out _ _ (HSb.out _ ((Below.refl _ w).alloc (Nat.le_refl _) _).drew) (fun hS => ?_)
      refine wpAnyH_ready (rs := [15]) (by kernel_rfl) (by simp) ?_
      refine AllReadyH.cons rfl (fun K hK => ?_) AllReadyH.nil
      go_simp
      refine hK.out _ _ (HSb.out _ (((Below.refl _ w).alloc (Nat.le_refl _) _).alloc (by simp) _).drew) (fun hS => ?_)
      refine wpAnyH_ready (rs := [17]) (by kernel_rfl) (by simp) ?_
      refine AllReadyH.cons rfl (fun K hK => ?_) AllReadyH.nil
      go_simp
      refine hK.out _ _ (HSb.out _ (((Below.refl _ w).alloc (Nat.le_refl _) _).alloc (by simp) _).drew) (fun hS => ?_)
      refine wpAnyH_ready (rs := [18]) (by kernel_rfl) (by simp) ?_
      refine AllReadyH.cons rfl (fun K hK => ?_) AllReadyH.nil
      go_simp
      refine hK.out _ _ (HSb.out _ (((Below.refl _ w).alloc (Nat.le_refl _) _).alloc (by simp) _).drew) (fun hS => ?_)
      refine wpAnyH_done (by kernel_rfl) ?_ _
      clear hK K hS
      go_wp2_with fail
      go_meet
      exact ⟨_, _, rfl, rfl, Si.mk2 w _ _⟩
  case rest =>
    obtain ⟨bs, bi, rfl, rfl, hsi⟩ := hcut
    obtain ⟨j0, j1, j2, j3, j4, j5, j6, j7⟩ := cells8 hsi.hs
    have HB : Hid (Below w.heap.size w wc) := hsi.bel
    clear hsi HSb
    go_wp2_with fail
    go_ret
    exact ⟨rfl, HB.out⟩
set_option maxHeartbeats 12800000 in
set_option maxRecDepth 100000 in
/-- look -/
theorem look_some {w : World} {wb gb : Nat} {v : PV} {p : Pg} {eo : Option Addr} {ec gc : Nat} {g : Nat → Option Sd} (h : Wk w wb gb v p eo ec gc g) (hE : Ef w) (hI : Inv p g) (i : Nat) (hi : i < p.cd.length) (hk : OkI p (p.at i)) (s : Sd) (hs : g i = some s) :
    Calls Tryd.prog 42 #[.pointer (some ⟨wb, 0, none⟩), .int .i64 (i : Int)] w fun e w' => e = .returned (.int .i64 (lookN p g i : Int)) ∧ Below w.heap.size w w' := by
  have hlen := hI.ht i s hs
  have hop := hk.op
  have hopN : (((p.at i).op.toNat : Nat) : Int) = (p.at i).op := by omega
  have hopL : (p.at i).op.toNat < 42 := by omega
  have HH : Hid (∀ W, Below w.heap.size w W → Calls Tryd.prog 63 #[.pointer (some ⟨wb, 0, none⟩), .int .i64 (s.hand : Int), .agg #[.int .i64 (p.at i).op, .int .i64 (p.at i).a, .int .i64 (p.at i).b, .int .i64 (p.at i).c, .int .i64 (p.at i).d]] W fun e w' => e = .returned (.bool (holdB p s.hand (p.at i))) ∧ Below W.heap.size W w') := fun W hb => hold_any (h.below hb) (p.at i) s.hand (fun e => hk.qa (by omega))
  have HFi : Hid (∀ W, Below w.heap.size w W → Calls Tryd.prog 64 #[.agg (opV s.ty).toArray, .int .i64 (p.at i).op] W fun e w' => e = .returned (.bool (fitsB s.ty (p.at i).op.toNat)) ∧ Below W.heap.size W w') := fun W hb => by
    have := fits_any s.ty (p.at i).op.toNat hopL hlen W (hE.below hb)
    rw [hopN] at this
    exact this
  have HSu : Hid (fitsB s.ty (p.at i).op.toNat = true → ∀ W, Below w.heap.size w W → Calls Tryd.prog 65 #[.agg (opV s.ty).toArray, .int .i64 (p.at i).op] W fun e w' => e = .returned (.bool (suitsB s.ty (p.at i).op.toNat)) ∧ Below W.heap.size W w') := fun hf W hb => by
    have h1 : (ef (p.at i).op.toNat).1 ≤ s.ty.length := by
      unfold fitsB at hf
      simp only [Bool.and_eq_true, decide_eq_true_eq] at hf
      exact hf.1
    have := suits_any s.ty (p.at i).op.toNat hopL hlen h1 W (hE.below hb)
    rw [hopN] at this
    exact this
  have HBr : Hid (∀ W, Below w.heap.size w W → Calls Tryd.prog 66 #[.pointer (some ⟨wb, 0, none⟩), .agg #[.int .i64 (p.at i).op, .int .i64 (p.at i).a, .int .i64 (p.at i).b, .int .i64 (p.at i).c, .int .i64 (p.at i).d]] W fun e w' => e = .returned (.bool (bringB p (p.at i))) ∧ Below W.heap.size W w') := fun W hb => bring_any (h.below hb) (p.at i) (fun e => hk.qa (by omega)) hk.qc
  have HGo : Hid (∀ W, Below w.heap.size w W → Calls Tryd.prog 67 #[.pointer (some ⟨wb, 0, none⟩), .int .i64 (i : Int)] W fun e w' => e = .returned (.bool (goB p g i s)) ∧ Below W.heap.size W w') := fun W hb => go_any (h.below hb) hI i hi s hs (fun e => (hk.pa (by omega)).1)
  obtain ⟨R, hR⟩ : ∃ R, R = lookN p g i := ⟨_, rfl⟩
  rw [← hR]
  unfold lookN at hR
  rw [hs] at hR
  dsimp only at hR
  obtain ⟨qo, qc, vo, vc, tto, tc, oo, oc, co, cc⟩ := v
  obtain ⟨cg, cf, rfl, c5, c7, d0, d1, d2, d3, d4⟩ := h.reads hi
  obtain ⟨e0, e1, e2, e3, e4, e5, e6, e7⟩ := h.isS hi hs
  obtain ⟨ty, hd, tn⟩ := s
  dsimp only at e0 e1 e2 e3 e4 e6 e7 HH HFi HSu hR
  have n3 : (p.cd.length : Int) ≤ 1000000000000000 := by have := h.pg.lcd; omega
  have hi' : (i : Int) < (p.cd.length : Int) := by omega
  have hx : p.at i = p.cd[i] := at_eq hi
  rw [hx] at HH HFi HSu HBr hR
  generalize holdB p hd p.cd[i] = b1 at *
  generalize fitsB ty p.cd[i].op.toNat = b2 at *
  generalize suitsB ty p.cd[i].op.toNat = b3 at *
  generalize bringB p p.cd[i] = b4 at *
  generalize goB p g i ⟨ty, hd, tn⟩ = b5 at *
  generalize p.cd[i].op = y0 at *
  generalize p.cd[i].a = y1 at *
  generalize p.cd[i].b = y2 at *
  generalize p.cd[i].c = y3 at *
  generalize p.cd[i].d = y4 at *
  have HSb : Hid (∀ W, Below w.heap.size w W → (fun w' : World => w'.cell? ⟨wb, 5, none⟩ = some (.slice (some ⟨cg, cf, none⟩) p.cd.length cc) ∧ w'.cell? ⟨wb, 7, none⟩ = some (.slice (some ⟨gb, 0, none⟩) p.cd.length gc) ∧ w'.cell? ⟨gb, i * 8, none⟩ = some (.int .i64 (ty.length : Int)) ∧ w'.cell? ⟨gb, i * 8 + 1, none⟩ = some (.int .u64 (wd ty 0 : Int)) ∧ w'.cell? ⟨gb, i * 8 + 2, none⟩ = some (.int .u64 (wd ty 1 : Int)) ∧ w'.cell? ⟨gb, i * 8 + 3, none⟩ = some (.int .u64 (wd ty 2 : Int)) ∧ w'.cell? ⟨gb, i * 8 + 4, none⟩ = some (.int .u64 (wd ty 3 : Int)) ∧ w'.cell? ⟨gb, i * 8 + 5, none⟩ = some (.bool true) ∧ w'.cell? ⟨gb, i * 8 + 6, none⟩ = some (.int .i64 (hd : Int)) ∧ w'.cell? ⟨gb, i * 8 + 7, none⟩ = some (.int .i64 tn) ∧ w'.cell? ⟨cg, cf + i * 5, none⟩ = some (.int .i64 y0) ∧ w'.cell? ⟨cg, cf + i * 5 + 1, none⟩ = some (.int .i64 y1) ∧ w'.cell? ⟨cg, cf + i * 5 + 2, none⟩ = some (.int .i64 y2) ∧ w'.cell? ⟨cg, cf + i * 5 + 3, none⟩ = some (.int .i64 y3) ∧ w'.cell? ⟨cg, cf + i * 5 + 4, none⟩ = some (.int .i64 y4)) W) := fun W hb => by
    have hc : ∀ b o v, w.cell? ⟨b, o, none⟩ = some v → W.cell? ⟨b, o, none⟩ = some v := fun b o v hv => by
      have hlt : b < w.heap.size := by
        rcases Nat.lt_or_ge b w.heap.size with h1 | h1
        · exact h1
        · exfalso
          simp [World.cell?, Array.getElem?_eq_none h1] at hv
      exact (hb.cell (p := ⟨b, o, none⟩) hlt).trans hv
    exact ⟨hc _ _ _ c5, hc _ _ _ c7, hc _ _ _ e0, hc _ _ _ e1, hc _ _ _ e2, hc _ _ _ e3, hc _ _ _ e4, hc _ _ _ e5, hc _ _ _ e6, hc _ _ _ e7, hc _ _ _ d0, hc _ _ _ d1, hc _ _ _ d2, hc _ _ _ d3, hc _ _ _ d4⟩
  have HR : Hid _ := hR
  clear hx h c5 c7 d0 d1 d2 d3 d4 e0 e1 e2 e3 e4 e5 e6 e7 hE hI hk hop hopN hopL hlen hs hR
  go_enter Tryd.func42, Tryd.ntmps42
  go_upto_region 1 with fail
  go_cut [5, 6] (fun s5 s6 wx => ∃ bs bi, s5 = .pointer (some ⟨bs, 0, none⟩) ∧ s6 = .pointer (some ⟨bi, 0, none⟩) ∧ Si w.heap.size w wx bs bi #[.int .i64 (ty.length : Int), .int .u64 (wd ty 0 : Int), .int .u64 (wd ty 1 : Int), .int .u64 (wd ty 2 : Int), .int .u64 (wd ty 3 : Int), .bool true, .int .i64 (hd : Int), .int .i64 tn] #[.int .i64 y0, .int .i64 y1, .int .i64 y2, .int .i64 y3, .int .i64 y4])
  case first =>
    refine wp_region_held (S := fun w' : World => w'.cell? ⟨wb, 5, none⟩ = some (.slice (some ⟨cg, cf, none⟩) p.cd.length cc) ∧ w'.cell? ⟨wb, 7, none⟩ = some (.slice (some ⟨gb, 0, none⟩) p.cd.length gc) ∧ w'.cell? ⟨gb, i * 8, none⟩ = some (.int .i64 (ty.length : Int)) ∧ w'.cell? ⟨gb, i * 8 + 1, none⟩ = some (.int .u64 (wd ty 0 : Int)) ∧ w'.cell? ⟨gb, i * 8 + 2, none⟩ = some (.int .u64 (wd ty 1 : Int)) ∧ w'.cell? ⟨gb, i * 8 + 3, none⟩ = some (.int .u64 (wd ty 2 : Int)) ∧ w'.cell? ⟨gb, i * 8 + 4, none⟩ = some (.int .u64 (wd ty 3 : Int)) ∧ w'.cell? ⟨gb, i * 8 + 5, none⟩ = some (.bool true) ∧ w'.cell? ⟨gb, i * 8 + 6, none⟩ = some (.int .i64 (hd : Int)) ∧ w'.cell? ⟨gb, i * 8 + 7, none⟩ = some (.int .i64 tn) ∧ w'.cell? ⟨cg, cf + i * 5, none⟩ = some (.int .i64 y0) ∧ w'.cell? ⟨cg, cf + i * 5 + 1, none⟩ = some (.int .i64 y1) ∧ w'.cell? ⟨cg, cf + i * 5 + 2, none⟩ = some (.int .i64 y2) ∧ w'.cell? ⟨cg, cf + i * 5 + 3, none⟩ = some (.int .i64 y3) ∧ w'.cell? ⟨cg, cf + i * 5 + 4, none⟩ = some (.int .i64 y4)) (by kernel_rfl) ?_
    have hS : (fun w' : World => w'.cell? ⟨wb, 5, none⟩ = some (.slice (some ⟨cg, cf, none⟩) p.cd.length cc) ∧ w'.cell? ⟨wb, 7, none⟩ = some (.slice (some ⟨gb, 0, none⟩) p.cd.length gc) ∧ w'.cell? ⟨gb, i * 8, none⟩ = some (.int .i64 (ty.length : Int)) ∧ w'.cell? ⟨gb, i * 8 + 1, none⟩ = some (.int .u64 (wd ty 0 : Int)) ∧ w'.cell? ⟨gb, i * 8 + 2, none⟩ = some (.int .u64 (wd ty 1 : Int)) ∧ w'.cell? ⟨gb, i * 8 + 3, none⟩ = some (.int .u64 (wd ty 2 : Int)) ∧ w'.cell? ⟨gb, i * 8 + 4, none⟩ = some (.int .u64 (wd ty 3 : Int)) ∧ w'.cell? ⟨gb, i * 8 + 5, none⟩ = some (.bool true) ∧ w'.cell? ⟨gb, i * 8 + 6, none⟩ = some (.int .i64 (hd : Int)) ∧ w'.cell? ⟨gb, i * 8 + 7, none⟩ = some (.int .i64 tn) ∧ w'.cell? ⟨cg, cf + i * 5, none⟩ = some (.int .i64 y0) ∧ w'.cell? ⟨cg, cf + i * 5 + 1, none⟩ = some (.int .i64 y1) ∧ w'.cell? ⟨cg, cf + i * 5 + 2, none⟩ = some (.int .i64 y2) ∧ w'.cell? ⟨cg, cf + i * 5 + 3, none⟩ = some (.int .i64 y3) ∧ w'.cell? ⟨cg, cf + i * 5 + 4, none⟩ = some (.int .i64 y4)) w.drew := HSb.out _ (Below.refl _ w).drew
    change wpAnyH _ _ _ _ _ _ _ _ w.drew
    refine tqA 0 rfl hS ?_
    refine tqA 1 rfl hS ?_
    refine tqA 2 rfl hS ?_
    refine tqA 3 rfl hS ?_
    refine tqA 4 rfl hS ?_
    refine tqA 5 rfl hS ?_
    refine tqA 6 rfl hS ?_
    refine tqA 7 rfl hS ?_
    refine tqA 8 rfl hS ?_
    refine tqA 9 rfl hS ?_
    refine tqA 10 rfl hS ?_
    refine tqA 11 rfl hS ?_
    refine tqA 12 rfl hS ?_
    refine tqA 13 rfl hS ?_
    refine tqA 14 rfl hS ?_
    refine wpAnyH_ready (rs := [15, 16]) (by kernel_rfl) (by simp) ?_
    refine AllReadyH.cons rfl (fun K hK => ?_) (AllReadyH.cons rfl (fun K hK => ?_) AllReadyH.nil)
    · go_simp
      refine hK.out _ _ (HSb.out _ ((Below.refl _ w).alloc (Nat.le_refl _) _).drew) (fun hS => ?_)
      refine wpAnyH_ready (rs := [16]) (by kernel_rfl) (by simp) ?_
      refine AllReadyH.cons rfl (fun K hK => ?_) AllReadyH.nil
      go_simp
      refine hK.out _ _ (HSb.out _ (((Below.refl _ w).alloc (Nat.le_refl _) _).alloc (by simp) _).drew) (fun hS => ?_)
      refine wpAnyH_ready (rs := [17]) (by kernel_rfl) (by simp) ?_
      refine AllReadyH.cons rfl (fun K hK => ?_) AllReadyH.nil
      go_simp
      refine hK.out _ _ (HSb.out _ (((Below.refl _ w).alloc (Nat.le_refl _) _).alloc (by simp) _).drew) (fun hS => ?_)
      refine wpAnyH_ready (rs := [18]) (by kernel_rfl) (by simp) ?_
      refine AllReadyH.cons rfl (fun K hK => ?_) AllReadyH.nil
      go_simp
      refine hK.out _ _ (HSb.out _ (((Below.refl _ w).alloc (Nat.le_refl _) _).alloc (by simp) _).drew) (fun hS => ?_)
      refine wpAnyH_done (by kernel_rfl) ?_ _
      clear hK K hS
      go_wp2_with fail
      go_meet
      exact ⟨_, _, rfl, rfl, Si.mk1 w _ _⟩
    · go_simp
      refine hK.out _ _ (HSb.out _ ((Below.refl _ w).alloc (Nat.le_refl _) _).drew) (fun hS => ?_)
      refine wpAnyH_ready (rs := [15]) (by kernel_rfl) (by simp) ?_
      refine AllReadyH.cons rfl (fun K hK => ?_) AllReadyH.nil
      go_simp
      refine hK.out _ _ (HSb.out _ (((Below.refl _ w).alloc (Nat.le_refl _) _).alloc (by simp) _).drew) (fun hS => ?_)
      refine wpAnyH_ready (rs := [17]) (by kernel_rfl) (by simp) ?_
      refine AllReadyH.cons rfl (fun K hK => ?_) AllReadyH.nil
      go_simp
      refine hK.out _ _ (HSb.out _ (((Below.refl _ w).alloc (Nat.le_refl _) _).alloc (by simp) _).drew) (fun hS => ?_)
      refine wpAnyH_ready (rs := [18]) (by kernel_rfl) (by simp) ?_
      refine AllReadyH.cons rfl (fun K hK => ?_) AllReadyH.nil
      go_simp
      refine hK.out _ _ (HSb.out _ (((Below.refl _ w).alloc (Nat.le_refl _) _).alloc (by simp) _).drew) (fun hS => ?_)
      refine wpAnyH_done (by kernel_rfl) ?_ _
      clear hK K hS
      go_wp2_with fail
      go_meet
      exact ⟨_, _, rfl, rfl, Si.mk2 w _ _⟩
  case rest =>
    obtain ⟨bs, bi, rfl, rfl, hsi⟩ := hcut
    obtain ⟨i0, i1, i2, i3, i4⟩ := cells5 hsi.hi
    obtain ⟨j0, j1, j2, j3, j4, j5, j6, j7⟩ := cells8 hsi.hs
    have HX0 : Hid (Si w.heap.size w wc bs bi #[.int .i64 (ty.length : Int), .int .u64 (wd ty 0 : Int), .int .u64 (wd ty 1 : Int), .int .u64 (wd ty 2 : Int), .int .u64 (wd ty 3 : Int), .bool true, .int .i64 (hd : Int), .int .i64 tn] #[.int .i64 y0, .int .i64 y1, .int .i64 y2, .int .i64 y3, .int .i64 y4]) := hsi
    unfold opV at HFi HSu
    have hR := HR.out
    clear hsi HSb HR
    go_wp2_with fail
    refine Calls.mono (HH.out _ HX0.out.bel) ?_
    rintro e w1 ⟨rfl, hb1⟩
    have HX1 : Hid (Si w.heap.size w w1 bs bi #[.int .i64 (ty.length : Int), .int .u64 (wd ty 0 : Int), .int .u64 (wd ty 1 : Int), .int .u64 (wd ty 2 : Int), .int .u64 (wd ty 3 : Int), .bool true, .int .i64 (hd : Int), .int .i64 tn] #[.int .i64 y0, .int .i64 y1, .int .i64 y2, .int .i64 y3, .int .i64 y4]) := HX0.out.below (HX0.out.bel.size) hb1
    clear hb1 i0 i1 i2 i3 i4 j0 j1 j2 j3 j4 j5 j6 j7
    obtain ⟨i0, i1, i2, i3, i4⟩ := cells5 HX1.out.hi
    obtain ⟨j0, j1, j2, j3, j4, j5, j6, j7⟩ := cells8 HX1.out.hs
    cases b1
    · have hr : R = 96 := hR
      go_wp2_with fail
      go_ret
      exact ⟨by rw [hr]; rfl, HX1.out.bel⟩
    go_wp2_with fail
    refine Calls.mono (HFi.out _ HX1.out.bel) ?_
    rintro e w2 ⟨rfl, hb2⟩
    have HX2 : Hid (Si w.heap.size w w2 bs bi #[.int .i64 (ty.length : Int), .int .u64 (wd ty 0 : Int), .int .u64 (wd ty 1 : Int), .int .u64 (wd ty 2 : Int), .int .u64 (wd ty 3 : Int), .bool true, .int .i64 (hd : Int), .int .i64 tn] #[.int .i64 y0, .int .i64 y1, .int .i64 y2, .int .i64 y3, .int .i64 y4]) := HX1.out.below (HX1.out.bel.size) hb2
    clear hb2 i0 i1 i2 i3 i4 j0 j1 j2 j3 j4 j5 j6 j7
    obtain ⟨i0, i1, i2, i3, i4⟩ := cells5 HX2.out.hi
    obtain ⟨j0, j1, j2, j3, j4, j5, j6, j7⟩ := cells8 HX2.out.hs
    cases b2
    · have hr : R = 93 := hR
      go_wp2_with fail
      go_ret
      exact ⟨by rw [hr]; rfl, HX2.out.bel⟩
    have HSu2 := show Hid _ from HSu.out rfl
    clear HSu
    go_wp2_with fail
    refine Calls.mono (HSu2.out _ HX2.out.bel) ?_
    rintro e w3 ⟨rfl, hb3⟩
    have HX3 : Hid (Si w.heap.size w w3 bs bi #[.int .i64 (ty.length : Int), .int .u64 (wd ty 0 : Int), .int .u64 (wd ty 1 : Int), .int .u64 (wd ty 2 : Int), .int .u64 (wd ty 3 : Int), .bool true, .int .i64 (hd : Int), .int .i64 tn] #[.int .i64 y0, .int .i64 y1, .int .i64 y2, .int .i64 y3, .int .i64 y4]) := HX2.out.below (HX2.out.bel.size) hb3
    clear hb3 i0 i1 i2 i3 i4 j0 j1 j2 j3 j4 j5 j6 j7
    obtain ⟨i0, i1, i2, i3, i4⟩ := cells5 HX3.out.hi
    obtain ⟨j0, j1, j2, j3, j4, j5, j6, j7⟩ := cells8 HX3.out.hs
    cases b3
    · have hr : R = 94 := hR
      go_wp2_with fail
      go_ret
      exact ⟨by rw [hr]; rfl, HX3.out.bel⟩
    go_wp2_with fail
    refine Calls.mono (HBr.out _ HX3.out.bel) ?_
    rintro e w4 ⟨rfl, hb4⟩
    have HX4 : Hid (Si w.heap.size w w4 bs bi #[.int .i64 (ty.length : Int), .int .u64 (wd ty 0 : Int), .int .u64 (wd ty 1 : Int), .int .u64 (wd ty 2 : Int), .int .u64 (wd ty 3 : Int), .bool true, .int .i64 (hd : Int), .int .i64 tn] #[.int .i64 y0, .int .i64 y1, .int .i64 y2, .int .i64 y3, .int .i64 y4]) := HX3.out.below (HX3.out.bel.size) hb4
    clear hb4 i0 i1 i2 i3 i4 j0 j1 j2 j3 j4 j5 j6 j7
    obtain ⟨i0, i1, i2, i3, i4⟩ := cells5 HX4.out.hi
    obtain ⟨j0, j1, j2, j3, j4, j5, j6, j7⟩ := cells8 HX4.out.hs
    cases b4
    · have hr : R = 92 := hR
      go_wp2_with fail
      go_ret
      exact ⟨by rw [hr]; rfl, HX4.out.bel⟩
    go_wp2_with fail
    refine Calls.mono (HGo.out _ HX4.out.bel) ?_
    rintro e w5 ⟨rfl, hb5⟩
    have HX5 : Hid (Si w.heap.size w w5 bs bi #[.int .i64 (ty.length : Int), .int .u64 (wd ty 0 : Int), .int .u64 (wd ty 1 : Int), .int .u64 (wd ty 2 : Int), .int .u64 (wd ty 3 : Int), .bool true, .int .i64 (hd : Int), .int .i64 tn] #[.int .i64 y0, .int .i64 y1, .int .i64 y2, .int .i64 y3, .int .i64 y4]) := HX4.out.below (HX4.out.bel.size) hb5
    clear hb5 i0 i1 i2 i3 i4 j0 j1 j2 j3 j4 j5 j6 j7
    obtain ⟨i0, i1, i2, i3, i4⟩ := cells5 HX5.out.hi
    obtain ⟨j0, j1, j2, j3, j4, j5, j6, j7⟩ := cells8 HX5.out.hs
    cases b5
    · have hr : R = 95 := hR
      go_wp2_with fail
      go_ret
      exact ⟨by rw [hr]; rfl, HX5.out.bel⟩
    have hr : R = 0 := hR
    go_wp2_with fail
    go_ret
    exact ⟨by rw [hr]; rfl, HX5.out.bel⟩
end Go.Proofs.YtelbakkgobkdaaaDoor.Vf
