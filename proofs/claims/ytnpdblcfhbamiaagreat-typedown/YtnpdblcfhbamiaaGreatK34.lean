import Derived.Test.YtnpdblcfhbamiaaGreatK32
set_option maxHeartbeats 12800000
set_option maxRecDepth 100000
namespace Go.Proofs.YtnpdblcfhbamiaaGreat.Nm.Ty
open Go.RowKit Go.Maps Go.Proofs.YtnpdblcfhbamiaaGreat.Sp Go.Proofs.YtnpdblcfhbamiaaGreat.Lx Go.Proofs.YtnpdblcfhbamiaaGreat.Gr
theorem fcells2 {wq : World} {B : Nat} {v0 v1 : Value} {T : TypeId} (h : wq.heap[B]? = some (.cells #[v0, v1] T (0, 0))) : wq.cell? ⟨B, 0, none⟩ = some v0 ∧ wq.cell? ⟨B, 1, none⟩ = some v1 := by
  refine ⟨?_, ?_⟩
  all_goals
    simp only [World.cell?, h]
    rfl
theorem fput2L {n : Nat} {w wx : World} {B : Nat} {T : TypeId} {a b v0 v1 : Value} (hb : Below n w wx) (hB : n ≤ B) (hz : wx.heap[B]? = some (.cells #[a, b] T (0, 0))) : ((wx.setCell ⟨B, 0, none⟩ v0).setCell ⟨B, 1, none⟩ v1).heap[B]? = some (.cells #[v0, v1] T (0, 0)) ∧ Below n w ((wx.setCell ⟨B, 0, none⟩ v0).setCell ⟨B, 1, none⟩ v1) := by
  have h0 := set_at hz v0 (cs' := #[v0, b]) (i := 0) rfl
  have h1 := set_at h0 v1 (cs' := #[v0, v1]) (i := 1) rfl
  exact ⟨h1, (hb.trans ((Below.refl n wx).setCell (p := ⟨B, 0, none⟩) hB _)).trans ((Below.refl n _).setCell (p := ⟨B, 1, none⟩) hB _)⟩
/-- capacities: sums of the residents', of the ghosts', and whether each may be -/
def resS (gh : Nat → Bool) (cs : Nat → Int) : Nat → Int
  | 0 => 0
  | k + 1 => if gh k = true then resS gh cs k else resS gh cs k + cs k
def ghoS (gh : Nat → Bool) (cs : Nat → Int) : Nat → Int
  | 0 => 0
  | k + 1 => if gh k = true then ghoS gh cs k + cs k else ghoS gh cs k
def okC (gh : Nat → Bool) (size : Int) (cs : Nat → Int) (k : Nat) : Prop := 1 ≤ cs k ∧ cs k ≤ 1048576 ∧ (gh k = true ∨ cs k ≤ size)
def fitZ (gh : Nat → Bool) (nq : Nat) (size : Int) (cs : Nat → Int) (nc : Nat) : Prop := 1 ≤ size ∧ size ≤ 1048576 ∧ nc = nq ∧ (∀ k, k < nc → okC gh size cs k) ∧ min size (resS gh cs nc) + ghoS gh cs nc ≤ 4194304
instance (gh : Nat → Bool) (size : Int) (cs : Nat → Int) (k : Nat) : Decidable (okC gh size cs k) := inferInstanceAs (Decidable (_ ∧ _))
instance (gh : Nat → Bool) (nq : Nat) (size : Int) (cs : Nat → Int) (nc : Nat) : Decidable (fitZ gh nq size cs nc) := inferInstanceAs (Decidable (_ ∧ _))
def fitE (gh : Nat → Bool) (nq : Nat) (size : Int) (cs : Nat → Int) (nc : Nat) : Int := if fitZ gh nq size cs nc then 0 else 45
theorem sums_le {gh : Nat → Bool} {size : Int} {cs : Nat → Int} : ∀ k, (∀ j, j < k → okC gh size cs j) → 0 ≤ resS gh cs k ∧ 0 ≤ ghoS gh cs k ∧ resS gh cs k + ghoS gh cs k ≤ 1048576 * k := by
  intro k
  induction k with
  | zero => intro _; simp [resS, ghoS]
  | succ k ih =>
    intro h
    obtain ⟨h1, h2, h3⟩ := ih (fun j hj => h j (by omega))
    obtain ⟨h4, h5, _⟩ := h k (by omega)
    simp only [resS, ghoS]
    split <;> omega
theorem fits_any {qs : List (ByteArray × Bool)} {qo co : Option Addr} {qc cc nc : Nat} {size : Int} {cs : Nat → Int} {w : World} (hq : IsVals w qo (qF qs)) (hc : IsVals w co (fL nc (fun i => .int .i64 (cs i)))) (hql : qs.length ≤ 5864062014634) (hcl : nc ≤ 17592186043904) :
    Calls Tryz.prog 34 #[.slice qo qs.length qc, .agg #[.int .i64 size, .slice co nc cc]] w fun e w' => e = .returned (.agg #[.int .i64 (fitE (ghL qs) qs.length size cs nc), .int .i64 0]) ∧ Below w.heap.size w w' := by
  have HQ := show Hid _ from hq
  have HC := show Hid _ from hc
  have hql' : (qs.length : Int) ≤ 5864062014634 := by omega
  have hcl' : (nc : Int) ≤ 17592186043904 := by omega
  have H0 : Hid (Below w.heap.size w (((w.alloc (.cells #[.int .i64 size, .slice co nc cc] 25)).alloc (.cells #[.int .i64 0, .int .i64 0] 33)).alloc (.cells #[.int .i64 45, .int .i64 0] 33)) ∧ (((w.alloc (.cells #[.int .i64 size, .slice co nc cc] 25)).alloc (.cells #[.int .i64 0, .int .i64 0] 33)).alloc (.cells #[.int .i64 45, .int .i64 0] 33)).heap[w.heap.size]? = some (.cells #[.int .i64 size, .slice co nc cc] 25 (0, 0)) ∧ (((w.alloc (.cells #[.int .i64 size, .slice co nc cc] 25)).alloc (.cells #[.int .i64 0, .int .i64 0] 33)).alloc (.cells #[.int .i64 45, .int .i64 0] 33)).heap[w.heap.size + 1]? = some (.cells #[.int .i64 0, .int .i64 0] 33 (0, 0)) ∧ (((w.alloc (.cells #[.int .i64 size, .slice co nc cc] 25)).alloc (.cells #[.int .i64 0, .int .i64 0] 33)).alloc (.cells #[.int .i64 45, .int .i64 0] 33)).heap[w.heap.size + 1 + 1]? = some (.cells #[.int .i64 45, .int .i64 0] 33 (0, 0))) := by
    refine ⟨(((Below.refl _ w).alloc (Nat.le_refl _) _).alloc (by simp) _).alloc (by simp; omega) _, ?_, ?_, ?_⟩
    · rw [alloc_old _ _ _ (by simp; omega), alloc_old _ _ _ (by simp)]
      exact alloc_at _ _ _ rfl
    · rw [alloc_old _ _ _ (by simp)]
      exact alloc_at _ _ _ (by simp)
    · exact alloc_at _ _ _ (by simp)
  clear hq hc
  obtain ⟨b0, b1⟩ := fcells2 H0.out.2.1
  obtain ⟨f0, f1⟩ := fcells2 H0.out.2.2.1
  obtain ⟨r0, r1⟩ := fcells2 H0.out.2.2.2
  have hfz : ∀ j, (((w.alloc (.cells #[.int .i64 size, .slice co nc cc] 25)).alloc (.cells #[.int .i64 0, .int .i64 0] 33)).alloc (.cells #[.int .i64 45, .int .i64 0] 33)).frozen? ⟨w.heap.size + 1, j, none⟩ = false := fun j => by have := H0.out.2.2.1; simp only [World.frozen?, this]; rfl
  by_cases hs1 : size < 1
  · have hs1' : decide (size < 1) = true := decide_eq_true hs1
    have HZ : Hid (fitE (ghL qs) qs.length size cs nc = 45) := if_neg (fun h => by have := h.1; omega)
    clear HQ HC
    go_enter Tryz.func34, Tryz.ntmps34
    go_wp2_with fail
    refine bodyPost_ret (v := .agg #[.int .i64 45, .int .i64 0]) (by simp [results, Tryz.results34, go_sem]) rfl ?_
    rw [HZ.out]
    exact ⟨rfl, (((Below.refl _ w).alloc (Nat.le_refl _) _).alloc (by simp) _).alloc (by simp; omega) _⟩
  · have hs1' : decide (size < 1) = false := decide_eq_false hs1
    by_cases hs2 : 1048576 < size
    · have hs2' : decide (1048576 < size) = true := decide_eq_true hs2
      have HZ : Hid (fitE (ghL qs) qs.length size cs nc = 45) := if_neg (fun h => by have := h.2.1; omega)
      clear HQ HC
      go_enter Tryz.func34, Tryz.ntmps34
      go_wp2_with fail
      refine bodyPost_ret (v := .agg #[.int .i64 45, .int .i64 0]) (by simp [results, Tryz.results34, go_sem]) rfl ?_
      rw [HZ.out]
      exact ⟨rfl, (((Below.refl _ w).alloc (Nat.le_refl _) _).alloc (by simp) _).alloc (by simp; omega) _⟩
    · have hs2' : decide (1048576 < size) = false := decide_eq_false hs2
      by_cases hs3 : nc = qs.length
      · have hs3' : ((nc : Int) != (qs.length : Int)) = false := by simp [hs3]
        have HE : Hid (nc = qs.length) := hs3
        have hsz : size ≤ 1048576 := by omega
        have hsz0 : 1 ≤ size := by omega
        clear hs3
        go_enter Tryz.func34, Tryz.ntmps34
        go_wp2_with fail
        generalize hW0 : (((w.alloc (.cells #[.int .i64 size, .slice co nc cc] 25)).alloc (.cells #[.int .i64 0, .int .i64 0] 33)).alloc (.cells #[.int .i64 45, .int .i64 0] 33)) = W0 at *
        clear hW0
        go_loopg [6, 7, 31] nc (fun gq a b x wr => ∃ k : Nat, k ≤ nc ∧ gq = nc - k ∧ a = .int .i64 (resS (ghL qs) cs k) ∧ b = .int .i64 (ghoS (ghL qs) cs k) ∧ x = .int .i64 k ∧ (∀ j, j < k → okC (ghL qs) size cs j) ∧ wr = W0)
        case atStart => exact ⟨0, Nat.zero_le _, rfl, rfl, rfl, by go_num, fun j hj => by omega, rfl⟩
        case round =>
          obtain ⟨k, hk, hgk, rfl, rfl, rfl, hok, hw⟩ := hrel
          rw [hw]
          clear hw
          obtain ⟨e1, e2, e3⟩ := sums_le k hok
          have HOk : Hid (∀ j, j < k → okC (ghL qs) size cs j) := hok
          have HG : Hid (gk = nc - k) := hgk
          have hk2 : (k : Int) ≤ 5864062014634 := by have := HE.out; omega
          have hr1 : resS (ghL qs) cs k ≤ 6148914691236517888 := by omega
          have hr2 : ghoS (ghL qs) cs k ≤ 6148914691236517888 := by omega
          have hr3 : resS (ghL qs) cs k + ghoS (ghL qs) cs k ≤ 6148914691236517888 := by omega
          have HSr : Hid (resS (ghL qs) cs (k + 1) = if ghL qs k = true then resS (ghL qs) cs k else resS (ghL qs) cs k + cs k) := rfl
          have HSg : Hid (ghoS (ghL qs) cs (k + 1) = if ghL qs k = true then ghoS (ghL qs) cs k + cs k else ghoS (ghL qs) cs k) := rfl
          clear hok hgk e3
          by_cases hlt : k < nc
          · have hlt' : (k : Int) < (nc : Int) := by omega
            obtain ⟨gc, oc, rfl, hgc, ck⟩ := HC.out k _ (fL_at hlt)
            have ck0 := (H0.out.1.cell (p := ⟨gc, oc + k, none⟩) hgc).trans ck
            have hkq : k < qs.length := by have := HE.out; omega
            have hkq' : (k : Int) < (qs.length : Int) := by omega
            obtain ⟨gq, oq, rfl, hgq, cq⟩ := HQ.out (k * 2 + 1) _ (qF_at hkq)
            have cq0 := (H0.out.1.cell (p := ⟨gq, oq + (k * 2 + 1), none⟩) hgq).trans cq
            rw [← Nat.add_assoc] at cq0
            have HNo : Hid (¬ okC (ghL qs) size cs k → fitE (ghL qs) qs.length size cs nc = 45) := fun h => if_neg (fun h2 => h (h2.2.2.2.1 k hlt))
            have HOn : Hid (okC (ghL qs) size cs k → ∀ j, j < k + 1 → okC (ghL qs) size cs j) := fun h j hj => by
              by_cases e : j = k
              · rw [e]; exact h
              · exact HOk.out j (by omega)
            have HOc : Hid (okC (ghL qs) size cs k ↔ (1 ≤ cs k ∧ cs k ≤ 1048576 ∧ (ghL qs k = true ∨ cs k ≤ size))) := Iff.rfl
            clear ck cq HC HQ
            generalize okC (ghL qs) size cs k = okk at *
            generalize resS (ghL qs) cs k = rs at *
            generalize ghoS (ghL qs) cs k = gs at *
            generalize cs k = c at *
            by_cases hc1 : c < 1
            · have hc1' : decide (c < 1) = true := decide_eq_true hc1
              have HZ : Hid (fitE (ghL qs) qs.length size cs nc = 45) := HNo.out (fun h => by have := (HOc.out.1 h).1; omega)
              go_wp2_with fail
              obtain ⟨x1, x2⟩ := fput2L (B := w.heap.size + 1) (v0 := .int .i64 45) (v1 := .int .i64 0) H0.out.1 (Nat.le_succ _) H0.out.2.2.1
              obtain ⟨y0, y1⟩ := fcells2 x1
              refine bodyPost_ret (v := .agg #[.int .i64 45, .int .i64 0]) (by simp [results, Tryz.results34, go_sem, y0, y1]) rfl ?_
              rw [HZ.out]
              exact ⟨rfl, x2⟩
            · have hc1' : decide (c < 1) = false := decide_eq_false hc1
              by_cases hc2 : 1048576 < c
              · have hc2' : decide (1048576 < c) = true := decide_eq_true hc2
                have HZ : Hid (fitE (ghL qs) qs.length size cs nc = 45) := HNo.out (fun h => by have := (HOc.out.1 h).2.1; omega)
                go_wp2_with fail
                obtain ⟨x1, x2⟩ := fput2L (B := w.heap.size + 1) (v0 := .int .i64 45) (v1 := .int .i64 0) H0.out.1 (Nat.le_succ _) H0.out.2.2.1
                obtain ⟨y0, y1⟩ := fcells2 x1
                refine bodyPost_ret (v := .agg #[.int .i64 45, .int .i64 0]) (by simp [results, Tryz.results34, go_sem, y0, y1]) rfl ?_
                rw [HZ.out]
                exact ⟨rfl, x2⟩
              · have hc2' : decide (1048576 < c) = false := decide_eq_false hc2
                cases hgh : ghL qs k with
                | true =>
                  rw [hgh] at cq0
                  have HOo := show Hid _ from HOn.out (HOc.out.2 ⟨by omega, by omega, Or.inl hgh⟩)
                  have HS1 : Hid (resS (ghL qs) cs (k + 1) = rs ∧ ghoS (ghL qs) cs (k + 1) = gs + c) := ⟨by rw [HSr.out, if_pos hgh], by rw [HSg.out, if_pos hgh]⟩
                  have hw2 : IntKind.i64.wrap (gs + c) = gs + c := by rw [IntKind.wrap_i64]; omega
                  clear hgh
                  go_wp2_with fail
                  go_roundg (nc - (k + 1))
                  case measure => have := HG.out; omega
                  case rel => exact ⟨k + 1, by omega, rfl, by rw [HS1.out.1], by rw [HS1.out.2], by go_num, HOo.out, rfl⟩
                | false =>
                  rw [hgh] at cq0
                  by_cases hc3 : size < c
                  · have hc3' : decide (size < c) = true := decide_eq_true hc3
                    have HZ : Hid (fitE (ghL qs) qs.length size cs nc = 45) := HNo.out (fun h => by have := (HOc.out.1 h).2.2; rw [hgh] at this; exact this.elim nofun (fun h => by omega))
                    clear hgh
                    go_wp2_with fail
                    obtain ⟨x1, x2⟩ := fput2L (B := w.heap.size + 1) (v0 := .int .i64 45) (v1 := .int .i64 0) H0.out.1 (Nat.le_succ _) H0.out.2.2.1
                    obtain ⟨y0, y1⟩ := fcells2 x1
                    refine bodyPost_ret (v := .agg #[.int .i64 45, .int .i64 0]) (by simp [results, Tryz.results34, go_sem, y0, y1]) rfl ?_
                    rw [HZ.out]
                    exact ⟨rfl, x2⟩
                  · have hc3' : decide (size < c) = false := decide_eq_false hc3
                    have HOo := show Hid _ from HOn.out (HOc.out.2 ⟨by omega, by omega, Or.inr (by omega)⟩)
                    have HS1 : Hid (resS (ghL qs) cs (k + 1) = rs + c ∧ ghoS (ghL qs) cs (k + 1) = gs) := ⟨by rw [HSr.out, if_neg (by simp [hgh])], by rw [HSg.out, if_neg (by simp [hgh])]⟩
                    have hw2 : IntKind.i64.wrap (rs + c) = rs + c := by rw [IntKind.wrap_i64]; omega
                    clear hgh
                    go_wp2_with fail
                    go_roundg (nc - (k + 1))
                    case measure => have := HG.out; omega
                    case rel => exact ⟨k + 1, by omega, rfl, by rw [HS1.out.1], by rw [HS1.out.2], by go_num, HOo.out, rfl⟩
          · have hlt' : ¬ (k : Int) < (nc : Int) := by omega
            have hke : k = nc := by omega
            have HFt : Hid (fitE (ghL qs) qs.length size cs nc = if min size (resS (ghL qs) cs k) + ghoS (ghL qs) cs k ≤ 4194304 then 0 else 45) := by
              show (if fitZ _ _ _ _ _ then (0 : Int) else 45) = _
              have : fitZ (ghL qs) qs.length size cs nc ↔ min size (resS (ghL qs) cs k) + ghoS (ghL qs) cs k ≤ 4194304 := by
                rw [hke]
                exact ⟨fun h => h.2.2.2.2, fun h => ⟨hsz0, hsz, HE.out, fun j hj => HOk.out j (by omega), h⟩⟩
              by_cases h : min size (resS (ghL qs) cs k) + ghoS (ghL qs) cs k ≤ 4194304
              · rw [if_pos h, if_pos (this.2 h)]
              · rw [if_neg h, if_neg (fun h2 => h (this.1 h2))]
            clear hke HSr HSg HQ HC
            generalize resS (ghL qs) cs k = rs at *
            generalize ghoS (ghL qs) cs k = gs at *
            have hmn : min size rs ≤ 1048576 := by omega
            have hmn0 : 0 ≤ min size rs := by omega
            generalize hmz : min size rs = mz at *
            have hw2 : IntKind.i64.wrap (mz + gs) = mz + gs := by rw [IntKind.wrap_i64]; omega
            by_cases h4 : mz + gs ≤ 4194304
            · have h4' : decide (4194304 < mz + gs) = false := decide_eq_false (by omega)
              have HZ : Hid (fitE (ghL qs) qs.length size cs nc = 0) := by show _ = _; rw [HFt.out, if_pos h4]
              go_wp2_with fail
              obtain ⟨x1, x2⟩ := fput2L (B := w.heap.size + 1) (v0 := .int .i64 0) (v1 := .int .i64 0) H0.out.1 (Nat.le_succ _) H0.out.2.2.1
              obtain ⟨y0, y1⟩ := fcells2 x1
              refine bodyPost_ret (v := .agg #[.int .i64 0, .int .i64 0]) (by simp [results, Tryz.results34, go_sem, y0, y1]) rfl ?_
              rw [HZ.out]
              exact ⟨rfl, x2⟩
            · have h4' : decide (4194304 < mz + gs) = true := decide_eq_true (by omega)
              have HZ : Hid (fitE (ghL qs) qs.length size cs nc = 45) := by show _ = _; rw [HFt.out, if_neg h4]
              go_wp2_with fail
              obtain ⟨x1, x2⟩ := fput2L (B := w.heap.size + 1) (v0 := .int .i64 45) (v1 := .int .i64 0) H0.out.1 (Nat.le_succ _) H0.out.2.2.1
              obtain ⟨y0, y1⟩ := fcells2 x1
              refine bodyPost_ret (v := .agg #[.int .i64 45, .int .i64 0]) (by simp [results, Tryz.results34, go_sem, y0, y1]) rfl ?_
              rw [HZ.out]
              exact ⟨rfl, x2⟩
      · have hs3' : ((nc : Int) != (qs.length : Int)) = true := by simp; omega
        have HZ : Hid (fitE (ghL qs) qs.length size cs nc = 45) := if_neg (fun h => hs3 h.2.2.1)
        clear HQ HC
        go_enter Tryz.func34, Tryz.ntmps34
        go_wp2_with fail
        refine bodyPost_ret (v := .agg #[.int .i64 45, .int .i64 0]) (by simp [results, Tryz.results34, go_sem]) rfl ?_
        rw [HZ.out]
        exact ⟨rfl, (((Below.refl _ w).alloc (Nat.le_refl _) _).alloc (by simp) _).alloc (by simp; omega) _⟩
/-- Fit at work: its boxes -/
structure Fq (w wx : World) (pc cc : Array Value) : Prop where
  p : wx.heap[w.heap.size]? = some (.cells pc 30 (0, 0))
  c : wx.heap[w.heap.size + 1]? = some (.cells cc 25 (0, 0))
  f : wx.heap[w.heap.size + 1 + 1]? = some (.cells #[.int .i64 0, .int .i64 0] 33 (0, 0))
  be : Below w.heap.size w wx
theorem Fq.below {w wx w' : World} {pc cc : Array Value} (h : Fq w wx pc cc) (hb : Below wx.heap.size wx w') : Fq w w' pc cc := ⟨(hb.block _ (blk_lt h.p)).trans h.p, (hb.block _ (blk_lt h.c)).trans h.c, (hb.block _ (blk_lt h.f)).trans h.f, h.be.trans (hb.mono h.be.size)⟩
theorem fq_start (w : World) (pc cc : Array Value) : Fq w (((w.alloc (.cells pc 30)).alloc (.cells cc 25)).alloc (.cells #[.int .i64 0, .int .i64 0] 33)) pc cc := by
  refine ⟨?_, ?_, ?_, (((Below.refl _ w).alloc (Nat.le_refl _) _).alloc (by simp) _).alloc (by simp; omega) _⟩
  · rw [alloc_old _ _ _ (by simp; omega), alloc_old _ _ _ (by simp)]
    exact alloc_at _ _ _ rfl
  · rw [alloc_old _ _ _ (by simp)]
    exact alloc_at _ _ _ (by simp)
  · exact alloc_at _ _ _ (by simp)
/-- names.Check takes it -/
def IsOk (P : Pg) : Prop := ∃ p', res (P.rows.map unn) = .ok p' ∧ p'.g = P
theorem fit_any {P : Pg} {ao qo vo tto uo oo co : Option Addr} {ac qc vc tc uc oc nc cc : Nat} {size : Int} {cs : Nat → Int} {w : World} (h : RdG w P ao qo vo tto uo oo) (hs : P.Sm) (hnil : ao = none → ac = 0) (hc : IsVals w co (fL nc (fun i => .int .i64 (cs i)))) (hcl : nc ≤ 17592186043904) :
    Calls Tryz.prog 15 #[pvG P ao qo vo tto uo oo ac qc vc tc uc oc, .agg #[.int .i64 size, .slice co nc cc]] w fun e w' => Below w.heap.size w w' ∧ ((¬ IsOk P ∧ e = .returned (.agg #[.int .i64 23, .int .i64 0])) ∨ (IsOk P ∧ e = .returned (.agg #[.int .i64 (fitE (ghL P.qs) P.qs.length size cs nc), .int .i64 0]))) := by
  have H1 : Hid (Fq w (((w.alloc (.cells #[.string P.name, .slice ao P.rows.length ac, .slice qo P.qs.length qc, .slice vo P.vs.length vc, .slice tto P.ts.length tc, .slice uo P.us.length uc, .slice oo P.on.length oc, .int .i64 P.miss] 30)).alloc (.cells #[.int .i64 size, .slice co nc cc] 25)).alloc (.cells #[.int .i64 0, .int .i64 0] 33)) #[.string P.name, .slice ao P.rows.length ac, .slice qo P.qs.length qc, .slice vo P.vs.length vc, .slice tto P.ts.length tc, .slice uo P.us.length uc, .slice oo P.on.length oc, .int .i64 P.miss] #[.int .i64 size, .slice co nc cc]) := fq_start w _ _
  have HG := show Hid _ from h
  have HC : Hid (IsVals w co (fL nc (fun i => .int .i64 (cs i)))) := hc
  have HCl : Hid (nc ≤ 17592186043904 ∧ P.qs.length ≤ 5864062014634) := ⟨hcl, hs.q⟩
  have HCk := show Hid _ from checkP_any (ac := ac) (qc := qc) (vc := vc) (tc := tc) (uc := uc) (oc := oc) (h.below H1.out.be) hs hnil
  obtain ⟨k0, k1, k2, k3, k4, k5, k6, k7⟩ := pol8 H1.out.p
  dsimp only [pvG] at *
  clear h hs hnil hc hcl
  go_enter Tryz.func15, Tryz.ntmps15
  go_wp2_with fail
  generalize (((w.alloc (.cells #[.string P.name, .slice ao P.rows.length ac, .slice qo P.qs.length qc, .slice vo P.vs.length vc, .slice tto P.ts.length tc, .slice uo P.us.length uc, .slice oo P.on.length oc, .int .i64 P.miss] 30)).alloc (.cells #[.int .i64 size, .slice co nc cc] 25)).alloc (.cells #[.int .i64 0, .int .i64 0] 33)) = w1 at *
  refine Calls.mono HCk.out ?_
  rintro e w2 ⟨hck, hb2⟩
  have H2 := show Hid _ from H1.out.below hb2
  clear H1 hb2 HCk k0 k1 k2 k3 k4 k5 k6 k7
  obtain ⟨f0, f1⟩ := cells2 H2.out.f
  have hf : ∀ j, w2.frozen? ⟨w.heap.size + 1 + 1, j, none⟩ = false := fun j => by have := H2.out.f; simp only [World.frozen?, this]; rfl
  rcases hck with ⟨p', hp1, hp2, rfl⟩ | ⟨hno, rfl⟩
  · have HIs : Hid (IsOk P) := ⟨p', hp1, hp2⟩
    have HFi := show Hid _ from fits_any (qc := qc) (cc := cc) (size := size) (HG.out.below H2.out.be).q (HC.out.below H2.out.be) HCl.out.2 HCl.out.1
    obtain ⟨k0, k1, k2, k3, k4, k5, k6, k7⟩ := pol8 H2.out.p
    obtain ⟨d0, d1⟩ := cells2 H2.out.c
    clear hp1 hp2 p'
    go_wp2_with fail
    refine Calls.mono HFi.out ?_
    rintro e w3 ⟨rfl, hb3⟩
    have H3 := show Hid _ from H2.out.below hb3
    clear hb3 HFi H2 k0 k1 k2 k3 k4 k5 k6 k7 d0 d1 f0 f1 hf
    obtain ⟨f0, f1⟩ := cells2 H3.out.f
    have hf : ∀ j, w3.frozen? ⟨w.heap.size + 1 + 1, j, none⟩ = false := fun j => by have := H3.out.f; simp only [World.frozen?, this]; rfl
    generalize hfe : fitE (ghL P.qs) P.qs.length size cs nc = fe at *
    have HFe : Hid (fitE (ghL P.qs) P.qs.length size cs nc = fe) := hfe
    clear hfe
    go_wp2_with fail
    obtain ⟨c1, c2, c3⟩ := put2M (B := w.heap.size + 1 + 1) (v0 := .int .i64 fe) (v1 := .int .i64 0) H3.out.be (by omega) H3.out.f
    obtain ⟨y0, y1⟩ := cells2 c1
    refine bodyPost_ret (v := .agg #[.int .i64 fe, .int .i64 0]) (by simp [results, Tryz.results15, go_sem, y0, y1]) rfl ?_
    exact ⟨c2, Or.inr ⟨HIs.out, by rw [HFe.out]⟩⟩
  · have HNo : Hid (¬ IsOk P) := hno
    clear hno
    go_wp2_with fail
    obtain ⟨c1, c2, c3⟩ := put2M (B := w.heap.size + 1 + 1) (v0 := .int .i64 23) (v1 := .int .i64 0) H2.out.be (by omega) H2.out.f
    obtain ⟨y0, y1⟩ := cells2 c1
    refine bodyPost_ret (v := .agg #[.int .i64 23, .int .i64 0]) (by simp [results, Tryz.results15, go_sem, y0, y1]) rfl ?_
    exact ⟨c2, Or.inl ⟨HNo.out, rfl⟩⟩
theorem typesF_any {P : Pg} {ao qo vo tto uo oo : Option Addr} {ac qc vc tc uc oc : Nat} {w : World} (h : RdG w P ao qo vo tto uo oo) (hs : P.Sm) (hnil : ao = none → ac = 0) (hR : IsOk P → Rdy P) :
    Calls Tryz.prog 6 #[pvG P ao qo vo tto uo oo ac qc vc tc uc oc] w fun e w' => Below w.heap.size w w' ∧ ((¬ IsOk P ∧ e = .returned (.tuple #[pz, .agg #[.int .i64 23, .int .i64 0]])) ∨ (IsOk P ∧ (fltN P.rows (ghL P.qs) P.rows.length).1 ≠ 0 ∧ e = .returned (.tuple #[pz, .agg #[.int .i64 ((fltN P.rows (ghL P.qs) P.rows.length).1 : Nat), .int .i64 ((fltN P.rows (ghL P.qs) P.rows.length).2 : Nat)]]))
      ∨ (IsOk P ∧ (fltN P.rows (ghL P.qs) P.rows.length).1 = 0 ∧ ∃ g, e = .returned (.tuple #[.slice (some ⟨g, 0, none⟩) P.rows.length P.rows.length, .agg #[.int .i64 0, .int .i64 0]]) ∧ w.heap.size ≤ g ∧ RowI w' g P.rows.length (fun i => (rP P.rows i).is))) := by
  have hb1 : Below w.heap.size w ((w.alloc (.cells #[.string P.name, .slice ao P.rows.length ac, .slice qo P.qs.length qc, .slice vo P.vs.length vc, .slice tto P.ts.length tc, .slice uo P.us.length uc, .slice oo P.on.length oc, .int .i64 P.miss] 30)).alloc (.cells #[.int .i64 0, .int .i64 0] 33)) := ((Below.refl _ w).alloc (Nat.le_refl _) _).alloc (by simp) _
  have H1 : Hid (((w.alloc (.cells #[.string P.name, .slice ao P.rows.length ac, .slice qo P.qs.length qc, .slice vo P.vs.length vc, .slice tto P.ts.length tc, .slice uo P.us.length uc, .slice oo P.on.length oc, .int .i64 P.miss] 30)).alloc (.cells #[.int .i64 0, .int .i64 0] 33)).heap[w.heap.size]? = some (.cells #[.string P.name, .slice ao P.rows.length ac, .slice qo P.qs.length qc, .slice vo P.vs.length vc, .slice tto P.ts.length tc, .slice uo P.us.length uc, .slice oo P.on.length oc, .int .i64 P.miss] 30 (0, 0)) ∧ ((w.alloc (.cells #[.string P.name, .slice ao P.rows.length ac, .slice qo P.qs.length qc, .slice vo P.vs.length vc, .slice tto P.ts.length tc, .slice uo P.us.length uc, .slice oo P.on.length oc, .int .i64 P.miss] 30)).alloc (.cells #[.int .i64 0, .int .i64 0] 33)).heap[w.heap.size + 1]? = some (.cells #[.int .i64 0, .int .i64 0] 33 (0, 0)) ∧ Below w.heap.size w ((w.alloc (.cells #[.string P.name, .slice ao P.rows.length ac, .slice qo P.qs.length qc, .slice vo P.vs.length vc, .slice tto P.ts.length tc, .slice uo P.us.length uc, .slice oo P.on.length oc, .int .i64 P.miss] 30)).alloc (.cells #[.int .i64 0, .int .i64 0] 33))) := ⟨by rw [alloc_old _ _ _ (by simp)]; exact alloc_at _ _ _ rfl, alloc_at _ _ _ (by simp), hb1⟩
  have HRe := show Hid _ from read_any (ac := ac) (qc := qc) (vc := vc) (tc := tc) (uc := uc) (oc := oc) (h.below hb1) hs hnil hR
  have HRd := show Hid _ from hR
  obtain ⟨k0, k1, k2, k3, k4, k5, k6, k7⟩ := pol8 H1.out.1
  dsimp only [pvG] at *
  clear h hs hnil hR hb1
  go_enter Tryz.func6, Tryz.ntmps6
  go_wp2_with fail
  generalize ((w.alloc (.cells #[.string P.name, .slice ao P.rows.length ac, .slice qo P.qs.length qc, .slice vo P.vs.length vc, .slice tto P.ts.length tc, .slice uo P.us.length uc, .slice oo P.on.length oc, .int .i64 P.miss] 30)).alloc (.cells #[.int .i64 0, .int .i64 0] 33)) = w1 at *
  refine Calls.mono HRe.out ?_
  rintro e w2 ⟨hb2, hr⟩
  have H2 : Hid (w2.heap[w.heap.size + 1]? = some (.cells #[.int .i64 0, .int .i64 0] 33 (0, 0)) ∧ Below w.heap.size w w2) := ⟨(hb2.block _ (blk_lt H1.out.2.1)).trans H1.out.2.1, H1.out.2.2.trans (hb2.mono H1.out.2.2.size)⟩
  clear HRe H1 hb2 k0 k1 k2 k3 k4 k5 k6 k7
  rcases hr with ⟨hno, rfl⟩ | ⟨his, po, eo, pc, ec, rfl, hIr, _⟩
  · have HNo : Hid (¬ IsOk P) := hno
    clear hno
    have hbW : Below w2.heap.size w2 ((w2.alloc (.cells #[pz, pz, pz, pz] 72)).alloc (.cells #[.int .i64 23, .int .i64 0] 33)) := ((Below.refl _ w2).alloc (Nat.le_refl _) _).alloc (by simp) _
    have H3 : Hid (((w2.alloc (.cells #[pz, pz, pz, pz] 72)).alloc (.cells #[.int .i64 23, .int .i64 0] 33)).heap[w.heap.size + 1]? = some (.cells #[.int .i64 0, .int .i64 0] 33 (0, 0)) ∧ Below w.heap.size w ((w2.alloc (.cells #[pz, pz, pz, pz] 72)).alloc (.cells #[.int .i64 23, .int .i64 0] 33)) ∧ ((w2.alloc (.cells #[pz, pz, pz, pz] 72)).alloc (.cells #[.int .i64 23, .int .i64 0] 33)).heap[w2.heap.size + 1]? = some (.cells #[.int .i64 23, .int .i64 0] 33 (0, 0))) := ⟨(hbW.block _ (blk_lt H2.out.1)).trans H2.out.1, H2.out.2.trans (hbW.mono H2.out.2.size), alloc_at _ _ _ (by simp)⟩
    obtain ⟨q0, q1⟩ := cells2 H3.out.2.2
    obtain ⟨f0, f1⟩ := cells2 H3.out.1
    have hf : ∀ j, ((w2.alloc (.cells #[pz, pz, pz, pz] 72)).alloc (.cells #[.int .i64 23, .int .i64 0] 33)).frozen? ⟨w.heap.size + 1, j, none⟩ = false := fun j => by have := H3.out.1; simp only [World.frozen?, this]; rfl
    clear hbW
    go_wp2_with fail
    generalize ((w2.alloc (.cells #[pz, pz, pz, pz] 72)).alloc (.cells #[.int .i64 23, .int .i64 0] 33)) = w3 at *
    go_region
    go_wp2_with fail
    obtain ⟨c1, c2, c3⟩ := put2M (B := w.heap.size + 1) (v0 := .int .i64 23) (v1 := .int .i64 0) H3.out.2.1 (by omega) H3.out.1
    obtain ⟨y0, y1⟩ := cells2 c1
    refine bodyPost_ret (v := .tuple #[pz, .agg #[.int .i64 23, .int .i64 0]]) (by simp [results, Tryz.results6, go_sem, y0, y1]) rfl ?_
    exact ⟨c2.drew, Or.inl ⟨HNo.out, rfl⟩⟩
  · have HIs : Hid (IsOk P) := his
    have HRy := show Hid _ from HRd.out his
    generalize hfl : fltN P.rows (ghL P.qs) P.rows.length = fl at *
    have HFl : Hid (fltN P.rows (ghL P.qs) P.rows.length = fl) := hfl
    have HIr := show Hid _ from hIr
    clear his hIr hfl HRd
    have hbW : Below w2.heap.size w2 ((w2.alloc (.cells #[.slice ao P.rows.length ac, .slice qo P.qs.length qc, .slice po P.rows.length pc, .slice eo P.rows.length ec] 72)).alloc (.cells #[.int .i64 (fl.1 : Int), .int .i64 (fl.2 : Int)] 33)) := ((Below.refl _ w2).alloc (Nat.le_refl _) _).alloc (by simp) _
    have H3 : Hid (((w2.alloc (.cells #[.slice ao P.rows.length ac, .slice qo P.qs.length qc, .slice po P.rows.length pc, .slice eo P.rows.length ec] 72)).alloc (.cells #[.int .i64 (fl.1 : Int), .int .i64 (fl.2 : Int)] 33)).heap[w.heap.size + 1]? = some (.cells #[.int .i64 0, .int .i64 0] 33 (0, 0)) ∧ Below w.heap.size w ((w2.alloc (.cells #[.slice ao P.rows.length ac, .slice qo P.qs.length qc, .slice po P.rows.length pc, .slice eo P.rows.length ec] 72)).alloc (.cells #[.int .i64 (fl.1 : Int), .int .i64 (fl.2 : Int)] 33)) ∧ ((w2.alloc (.cells #[.slice ao P.rows.length ac, .slice qo P.qs.length qc, .slice po P.rows.length pc, .slice eo P.rows.length ec] 72)).alloc (.cells #[.int .i64 (fl.1 : Int), .int .i64 (fl.2 : Int)] 33)).heap[w2.heap.size + 1]? = some (.cells #[.int .i64 (fl.1 : Int), .int .i64 (fl.2 : Int)] 33 (0, 0)) ∧ ((w2.alloc (.cells #[.slice ao P.rows.length ac, .slice qo P.qs.length qc, .slice po P.rows.length pc, .slice eo P.rows.length ec] 72)).alloc (.cells #[.int .i64 (fl.1 : Int), .int .i64 (fl.2 : Int)] 33)).heap[w2.heap.size]? = some (.cells #[.slice ao P.rows.length ac, .slice qo P.qs.length qc, .slice po P.rows.length pc, .slice eo P.rows.length ec] 72 (0, 0)) ∧ IsRg ((w2.alloc (.cells #[.slice ao P.rows.length ac, .slice qo P.qs.length qc, .slice po P.rows.length pc, .slice eo P.rows.length ec] 72)).alloc (.cells #[.int .i64 (fl.1 : Int), .int .i64 (fl.2 : Int)] 33)) P.rows (qF P.qs) ao qo po eo) := ⟨(hbW.block _ (blk_lt H2.out.1)).trans H2.out.1, H2.out.2.trans (hbW.mono H2.out.2.size), alloc_at _ _ _ (by simp), by rw [alloc_old _ _ _ (by simp)]; exact alloc_at _ _ _ rfl, HIr.out.below hbW⟩
    obtain ⟨q0, q1⟩ := cells2 H3.out.2.2.1
    obtain ⟨f0, f1⟩ := cells2 H3.out.1
    obtain ⟨t0, t1, t2, t3⟩ := cells4 H3.out.2.2.2.1
    have hf : ∀ j, ((w2.alloc (.cells #[.slice ao P.rows.length ac, .slice qo P.qs.length qc, .slice po P.rows.length pc, .slice eo P.rows.length ec] 72)).alloc (.cells #[.int .i64 (fl.1 : Int), .int .i64 (fl.2 : Int)] 33)).frozen? ⟨w.heap.size + 1, j, none⟩ = false := fun j => by have := H3.out.1; simp only [World.frozen?, this]; rfl
    have HTy : Hid (Calls Tryz.prog 27 #[.agg #[.slice ao P.rows.length ac, .slice qo P.qs.length qc, .slice po P.rows.length pc, .slice eo P.rows.length ec]] ((w2.alloc (.cells #[.slice ao P.rows.length ac, .slice qo P.qs.length qc, .slice po P.rows.length pc, .slice eo P.rows.length ec] 72)).alloc (.cells #[.int .i64 (fl.1 : Int), .int .i64 (fl.2 : Int)] 33)) fun e w' => ∃ g, e = .returned (.slice (some ⟨g, 0, none⟩) P.rows.length P.rows.length) ∧ ((w2.alloc (.cells #[.slice ao P.rows.length ac, .slice qo P.qs.length qc, .slice po P.rows.length pc, .slice eo P.rows.length ec] 72)).alloc (.cells #[.int .i64 (fl.1 : Int), .int .i64 (fl.2 : Int)] 33)).heap.size ≤ g ∧ RowI w' g P.rows.length (fun i => (rP P.rows i).is) ∧ Below ((w2.alloc (.cells #[.slice ao P.rows.length ac, .slice qo P.qs.length qc, .slice po P.rows.length pc, .slice eo P.rows.length ec] 72)).alloc (.cells #[.int .i64 (fl.1 : Int), .int .i64 (fl.2 : Int)] 33)).heap.size ((w2.alloc (.cells #[.slice ao P.rows.length ac, .slice qo P.qs.length qc, .slice po P.rows.length pc, .slice eo P.rows.length ec] 72)).alloc (.cells #[.int .i64 (fl.1 : Int), .int .i64 (fl.2 : Int)] 33)) w') := types_any (nq := P.qs.length) (ac := ac) (qc := qc) (pc := pc) (ec := ec) H3.out.2.2.2.2 (by have := HRy.out.m; omega)
    dsimp only [rgC]
    clear hbW HIr
    have HFc : Hid ((fltN P.rows (ghL P.qs) P.rows.length).1 = fl.1 ∧ (fltN P.rows (ghL P.qs) P.rows.length).2 = fl.2) := ⟨by rw [HFl.out], by rw [HFl.out]⟩
    clear HFl
    generalize fl.1 = fc at *
    generalize fl.2 = fa at *
    by_cases h0 : fc = 0
    · have h0' : ((fc : Int) != 0) = false := by simp [h0]
      have HF0 : Hid ((fltN P.rows (ghL P.qs) P.rows.length).1 = 0) := by show _ = _; rw [HFc.out.1]; exact h0
      clear h0
      go_wp2_with fail
      generalize ((w2.alloc (.cells #[.slice ao P.rows.length ac, .slice qo P.qs.length qc, .slice po P.rows.length pc, .slice eo P.rows.length ec] 72)).alloc (.cells #[.int .i64 (fc : Int), .int .i64 (fa : Int)] 33)) = w3 at *
      refine Calls.mono HTy.out ?_
      rintro e w4 ⟨gt, rfl, hgt, hrow, hb4⟩
      have hz4 := (hb4.block _ (blk_lt H3.out.1)).trans H3.out.1
      have H4 : Hid (RowI w4 gt P.rows.length (fun i => (rP P.rows i).is) ∧ w.heap.size + 1 < gt) := ⟨hrow, by have := blk_lt H3.out.1; omega⟩
      have hB4 := H3.out.2.1.trans (hb4.mono H3.out.2.1.size)
      clear f0 f1 hf t0 t1 t2 t3 q0 q1 HTy
      obtain ⟨f0, f1⟩ := cells2 hz4
      have hf : ∀ j, w4.frozen? ⟨w.heap.size + 1, j, none⟩ = false := fun j => by simp only [World.frozen?, hz4]; rfl
      obtain ⟨c1, c2, c3⟩ := put2M (B := w.heap.size + 1) (v0 := .int .i64 0) (v1 := .int .i64 0) hB4 (by omega) hz4
      clear hb4 hrow hgt hB4 hz4
      go_wp2_with fail
      obtain ⟨y0, y1⟩ := cells2 c1
      refine bodyPost_ret (v := .tuple #[.slice (some ⟨gt, 0, none⟩) P.rows.length P.rows.length, .agg #[.int .i64 0, .int .i64 0]]) (by simp [results, Tryz.results6, go_sem, y0, y1]) rfl ?_
      exact ⟨c2, Or.inr (Or.inr ⟨HIs.out, HF0.out, gt, rfl, by have := H4.out.2; omega, H4.out.1.of_block (c3 _ (by have := H4.out.2; omega))⟩)⟩
    · have h0' : ((fc : Int) != 0) = true := by simp [h0]
      have HF0 : Hid ((fltN P.rows (ghL P.qs) P.rows.length).1 ≠ 0) := by show _ ≠ _; rw [HFc.out.1]; exact h0
      clear h0
      go_wp2_with fail
      generalize ((w2.alloc (.cells #[.slice ao P.rows.length ac, .slice qo P.qs.length qc, .slice po P.rows.length pc, .slice eo P.rows.length ec] 72)).alloc (.cells #[.int .i64 (fc : Int), .int .i64 (fa : Int)] 33)) = w3 at *
      go_region
      go_wp2_with fail
      obtain ⟨c1, c2, c3⟩ := put2M (B := w.heap.size + 1) (v0 := .int .i64 (fc : Int)) (v1 := .int .i64 (fa : Int)) H3.out.2.1 (by omega) H3.out.1
      obtain ⟨y0, y1⟩ := cells2 c1
      refine bodyPost_ret (v := .tuple #[pz, .agg #[.int .i64 (fc : Int), .int .i64 (fa : Int)]]) (by simp [results, Tryz.results6, go_sem, y0, y1]) rfl ?_
      exact ⟨c2.drew, Or.inr (Or.inl ⟨HIs.out, HF0.out, by rw [HFc.out.1, HFc.out.2]⟩)⟩
end Go.Proofs.YtnpdblcfhbamiaaGreat.Nm.Ty
