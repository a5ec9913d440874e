import Derived.Test.YtjoflihimpipcabGreatK39
set_option maxHeartbeats 6400000
set_option maxRecDepth 100000
namespace Go.Proofs.YtjoflihimpipcabGreat.Nm.Ty
open Go.RowKit Go.Maps Go.Proofs.YtjoflihimpipcabGreat.Sp Go.Proofs.YtjoflihimpipcabGreat.Lx Go.Proofs.YtjoflihimpipcabGreat.Gr Go.Proofs.YtjoflihimpipcabGreat.Nm
/-- the other capacities, when k of them are looked at -/
def dLst (l : List Rz) (ql ml : List Int) (k : Nat) : List Int := (List.range ql.length).map fun i => if i < k ∧ i < ml.length ∧ capN l i = false then ml.getD i 0 else ql.getD i 0
theorem dL_len (l : List Rz) (ql ml : List Int) (k : Nat) : (dLst l ql ml k).length = ql.length := by simp [dLst]
theorem dL_at {l : List Rz} {ql ml : List Int} {k i : Nat} (hi : i < ql.length) : (dLst l ql ml k)[i]? = some (if i < k ∧ i < ml.length ∧ capN l i = false then ml.getD i 0 else ql.getD i 0) := by simp [dLst, hi]
theorem dL_zero (l : List Rz) (ql ml : List Int) : dLst l ql ml 0 = ql := by
  apply List.ext_getElem?
  intro i
  by_cases hi : i < ql.length
  · rw [dL_at hi, if_neg (by omega), List.getElem?_eq_getElem hi]
    simp [List.getD_eq_getElem?_getD, List.getElem?_eq_getElem hi]
  · rw [List.getElem?_eq_none (by rw [dL_len]; omega), List.getElem?_eq_none (by omega)]
theorem dL_keep {l : List Rz} {ql ml : List Int} {k : Nat} (h : capN l k = true) : dLst l ql ml (k + 1) = dLst l ql ml k := by
  unfold dLst
  apply List.map_congr_left
  intro i _
  by_cases e : i = k
  · subst e
    rw [if_neg (by rw [h]; rintro ⟨_, _, h⟩; cases h), if_neg (by omega)]
  · have : (i < k + 1 ∧ i < ml.length ∧ capN l i = false) ↔ (i < k ∧ i < ml.length ∧ capN l i = false) := by constructor <;> rintro ⟨a, b, c⟩ <;> exact ⟨by omega, b, c⟩
    simp only [this]
theorem dL_put {l : List Rz} {ql ml : List Int} {k : Nat} (h : capN l k = false) (hk : k < ql.length) (hm : k < ml.length) : dLst l ql ml (k + 1) = (dLst l ql ml k).set k (ml.getD k 0) := by
  apply List.ext_getElem?
  intro i
  by_cases hi : i < ql.length
  · by_cases e : i = k
    · subst e
      rw [dL_at hi, if_pos ⟨by omega, hm, h⟩, List.getElem?_set_self (by rw [dL_len]; exact hk)]
    · rw [List.getElem?_set_ne (Ne.symm e), dL_at hi, dL_at hi]
      have : (i < k + 1 ∧ i < ml.length ∧ capN l i = false) ↔ (i < k ∧ i < ml.length ∧ capN l i = false) := by constructor <;> rintro ⟨a, b, c⟩ <;> exact ⟨by omega, b, c⟩
      simp only [this]
  · rw [List.getElem?_eq_none (by rw [dL_len]; omega), List.getElem?_eq_none (by rw [List.length_set, dL_len]; omega)]
theorem dL_end {l : List Rz} {ql ml : List Int} {k : Nat} (h : ¬ (k < ql.length ∧ k < ml.length)) : dLst l ql ml k = dLst l ql ml ql.length := by
  unfold dLst
  apply List.map_congr_left
  intro i hi
  have hi' : i < ql.length := by simpa using hi
  have : (i < k ∧ i < ml.length ∧ capN l i = false) ↔ (i < ql.length ∧ i < ml.length ∧ capN l i = false) := by constructor <;> rintro ⟨a, b, c⟩ <;> exact ⟨by omega, b, c⟩
  simp only [this]
theorem iv_fL (l : List Int) : iv l = fL l.length (fun i => .int .i64 (l.getD i 0)) := by
  apply List.ext_getElem?
  intro i
  by_cases hi : i < l.length
  · rw [fL_at hi]
    simp [iv, List.getD_eq_getElem?_getD, List.getElem?_eq_getElem hi]
  · rw [List.getElem?_eq_none (by simp [iv]; omega), List.getElem?_eq_none (by simp [fL]; omega)]
theorem in_getD {l : List Int} (h : ∀ n ∈ l, in64 n) (i : Nat) : in64 (l.getD i 0) := by
  by_cases hi : i < l.length
  · rw [List.getD_eq_getElem?_getD, List.getElem?_eq_getElem hi]
    exact h _ (List.getElem_mem hi)
  · rw [List.getD_eq_getElem?_getD, List.getElem?_eq_none (by omega)]
    exact ⟨by decide, by decide⟩
theorem dL_in {l : List Rz} {ql ml : List Int} (h1 : ∀ n ∈ ql, in64 n) (h2 : ∀ n ∈ ml, in64 n) (k : Nat) : ∀ n ∈ dLst l ql ml k, in64 n := by
  intro n hn
  simp only [dLst, List.mem_map] at hn
  obtain ⟨i, _, rfl⟩ := hn
  split
  · exact in_getD h2 i
  · exact in_getD h1 i
/-- a named queue's capacity is kept -/
theorem dL_named {l : List Rz} {ql ml : List Int} {k i : Nat} (h : capN l i = true) : (dLst l ql ml k).getD i 0 = ql.getD i 0 := by
  by_cases hi : i < ql.length
  · rw [List.getD_eq_getElem?_getD, dL_at hi, if_neg (by rw [h]; rintro ⟨_, _, h⟩; cases h)]
    rfl
  · rw [List.getD_eq_getElem?_getD, List.getElem?_eq_none (by rw [dL_len]; omega), List.getD_eq_getElem?_getD, List.getElem?_eq_none (by omega)]
/-- the law, as numbers -/
theorem sizes_same {P : Pg} (hR : Rdy P) (hD : Rdc P) (csz sz2 : Int) (ql ml : List Int) (h1 : (chkO P csz (fun i => ql.getD i 0) ql.length).e ≠ 45) (h2 : (chkO P (if sizN P.rows = true then csz else sz2) (fun i => (dLst P.rows ql ml ql.length).getD i 0) ql.length).e ≠ 45) : chkO P csz (fun i => ql.getD i 0) ql.length = chkO P (if sizN P.rows = true then csz else sz2) (fun i => (dLst P.rows ql ml ql.length).getD i 0) ql.length := by
  refine chkO_same hR.n (fun i hi hk => ?_) (fun i hi hk => ?_) h1 h2
  · by_cases h : sizN P.rows = true
    · rw [if_pos h]
    · exact absurd hk (sizN_no (by simpa using h) hi)
  · obtain ⟨m, hm, _⟩ := hD.c i hi hk
    have h : capN P.rows m = true := by
      cases hc : capN P.rows m with
      | true => rfl
      | false => exact absurd hm (capN_no hc hi hk)
    rw [hm, Int.toNat_natCast, dL_named h]
theorem own_putI {w : World} {base g cap n k : Nat} {l : List Int} {x : Int} (h : w.ownsRow base 3 1 (.slice (some ⟨g, 0, none⟩) n cap) n (iv l)) : (w.setCell ⟨g, k, none⟩ (.int .i64 x)).ownsRow base 3 1 (.slice (some ⟨g, 0, none⟩) n cap) n (iv (l.set k x)) ∧ w.frozen? ⟨g, k, none⟩ = false := by
  rcases h.2 with ⟨e, _⟩ | ⟨g', cap', cur, e, h1, h2, h3, h4, h5, h6⟩
  · cases e
  · cases e
    refine ⟨⟨by simpa [iv] using h.1, Or.inr ⟨g, cap, cur.setIfInBounds k (.int .i64 x), rfl, h1, set_at h2 _ rfl, h3, h4, by simpa using h5, ?_⟩⟩, by simp only [World.frozen?, h2]; rfl⟩
    rw [Array.toList_setIfInBounds, List.take_set, h6]
    simp [iv, List.map_set]
end Go.Proofs.YtjoflihimpipcabGreat.Nm.Ty
namespace Go.Proofs.YtjoflihimpipcabGreat.Nm.Ty
open Go.RowKit Go.Maps Go.Proofs.YtjoflihimpipcabGreat.Sp Go.Proofs.YtjoflihimpipcabGreat.Lx Go.Proofs.YtjoflihimpipcabGreat.Gr
/-- is one of the first k changing -/
def anyC (f : Nat → Prt) : Nat → Bool
  | 0 => false
  | k + 1 => anyC f k || (f k).changing
theorem anyC_of {f : Nat → Prt} {k n : Nat} (h : anyC f k = true) (hk : k ≤ n) : anyC f n = true := by
  induction n with
  | zero =>
    obtain rfl : k = 0 := by omega
    exact h
  | succ n ih =>
    by_cases e : k = n + 1
    · subst e; exact h
    · simp only [anyC, ih (by omega), Bool.true_or]
theorem indexF_any {f : Nat → Prt} {so : Option Addr} {n sc : Nat} {w : World} (h : IsVals w so (fL n (fun i => (f i).V))) (hn : n ≤ 2932031007317) :
    Calls Tryz.prog 80 #[.slice so n sc, .func (.func 61) #[] #[]] w fun e w' => ∃ z : Int, e = .returned (.int .i64 z) ∧ decide (0 ≤ z) = anyC f n ∧ Below w.heap.size w w' := by
  have HI : Hid (IsVals w so (fL n (fun i => (f i).V))) := h
  have hnl : (n : Int) ≤ 2932031007317 := by omega
  clear h
  go_enter Tryz.func80, Tryz.ntmps80
  go_wp2_with fail
  go_loopg [8] n (fun gq x wr => ∃ m : Nat, m ≤ n ∧ gq = n - m ∧ x = .int .i64 m ∧ anyC f m = false ∧ Below w.heap.size w wr)
  case atStart => exact ⟨0, Nat.zero_le _, rfl, by go_num, rfl, Below.refl _ _⟩
  case round =>
    obtain ⟨m, hm, hgk, rfl, hno, hB⟩ := hrel
    have HB := show Hid _ from hB
    have HNo : Hid (anyC f m = false) := hno
    have HG : Hid (gk = n - m) := hgk
    clear hgk hB hno
    by_cases hlt : m < n
    · have hlt' : (m : Int) < (n : Int) := by omega
      obtain ⟨g, o, rfl, hg, c0⟩ := (IsVals.below HI.out HB.out) m _ (fL_at hlt)
      have HC := show Hid _ from changing_any (f m) wr
      have HA : Hid (anyC f (m + 1) = (f m).changing) := by show (anyC f m || (f m).changing) = _; rw [HNo.out]; rfl
      have HT : Hid ((f m).changing = true → anyC f n = true) := fun hc => anyC_of (k := m + 1) (by rw [HA.out]; exact hc) (by omega)
      generalize hx : f m = x at *
      clear hx
      go_wp2_with fail
      refine Calls.mono HC.out ?_
      rintro e w2 ⟨rfl, hb2⟩
      have HB2 : Hid (Below w.heap.size w w2) := HB.out.trans (hb2.mono HB.out.size)
      clear hb2 HC
      cases hc : x.changing with
      | true =>
        have HT2 := show Hid _ from HT.out hc
        clear hc HT
        go_wp2_with fail
        go_ret
        exact ⟨(m : Int), rfl, by rw [HT2.out]; simp, HB2.out⟩
      | false =>
        have HN2 : Hid (anyC f (m + 1) = false) := by show _ = _; rw [HA.out]; exact hc
        clear hc HT
        go_wp2_with fail
        go_roundg (n - (m + 1))
        case measure => have := HG.out; omega
        case rel => exact ⟨m + 1, by omega, rfl, by go_num, HN2.out, HB2.out⟩
    · have hlt' : ¬ (m : Int) < (n : Int) := by omega
      have hme : m = n := by omega
      have HF : Hid (anyC f n = false) := by rw [hme] at HNo; exact HNo
      clear hme hlt
      go_wp2_with fail
      go_ret
      exact ⟨-1, rfl, by rw [HF.out]; rfl, HB.out⟩
theorem containsF_any {f : Nat → Prt} {so : Option Addr} {n sc : Nat} {w : World} (h : IsVals w so (fL n (fun i => (f i).V))) (hn : n ≤ 2932031007317) :
    Calls Tryz.prog 60 #[.slice so n sc, .func (.func 61) #[] #[]] w fun e w' => e = .returned (.bool (anyC f n)) ∧ Below w.heap.size w w' := by
  have HC := show Hid _ from indexF_any (sc := sc) h hn
  clear h hn
  go_enter Tryz.func60, Tryz.ntmps60
  go_wp2_with fail
  refine Calls.mono HC.out ?_
  rintro e w2 ⟨z, rfl, hz, hb2⟩
  have HZ := show Hid _ from hz
  have HB := show Hid _ from hb2
  clear hz hb2 HC
  go_wp2
  go_ret
  refine ⟨?_, HB.out⟩
  rw [← HZ.out]
  rfl
theorem vals_cut {w : World} {g o n i k : Nat} {f : Nat → Value} (h : IsVals w (some ⟨g, o, none⟩) (fL n f)) (hk : i + k ≤ n) : IsVals w (some ⟨g, o + i, none⟩) (fL k (fun j => f (i + j))) := fun j x hx => by
  have hj : j < k := by have := (List.getElem?_eq_some_iff.1 hx).1; simpa [fL] using this
  rw [fL_at hj] at hx
  cases hx
  obtain ⟨g', o', e, hg, hc⟩ := h (i + j) _ (fL_at (by omega))
  cases e
  exact ⟨g, o + i, rfl, hg, by rw [Nat.add_assoc]; exact hc⟩
theorem has_any {l : List Rz} {qv : List Value} {nq : Nat} {ao qo po eo : Option Addr} {ac qc pc ec : Nat} (i : Nat) {w : World} (h : IsRg w l qv ao qo po eo) (hn : l.length ≤ 2932031007317) (hT : TreeZ l) (hi : i < l.length) (hpc : l.length ≤ pc) :
    Calls Tryz.prog 37 #[.agg (rgC l nq ao qo po eo ac qc pc ec), .int .i64 i] w fun e w' => e = .returned (.bool (anyC (fun j => rP l (i + j)) (endp l i - i))) ∧ Below w.heap.size w w' := by
  have hb : Below w.heap.size w (w.alloc (.cells (rgC l nq ao qo po eo ac qc pc ec) 77)) := (Below.refl _ w).alloc (Nat.le_refl _) _
  have HI := show Hid _ from h.below hb
  have HB := show Hid _ from hb
  have HX := show Hid _ from heap_alloc_new w (.cells (rgC l nq ao qo po eo ac qc pc ec) 77)
  obtain ⟨gp, op, rfl, hgp, _⟩ := HI.out.part hi
  obtain ⟨ge, oe, rfl, hge, ce⟩ := HI.out.ends hi
  obtain ⟨b0, b1, b2, b3⟩ := cells4 HX.out
  obtain ⟨-, he1, he2⟩ := end_kid hT.whole hi
  have hi1 : (i : Int) < (l.length : Int) := by omega
  have hin : (i : Int) ≤ (endp l i : Int) := by omega
  have hen : (endp l i : Int) ≤ (l.length : Int) := by omega
  have hec : (endp l i : Int) ≤ (pc : Int) := by omega
  have hln : (l.length : Int) ≤ 2932031007317 := by omega
  have hnz : ¬ pc = i := by omega
  have hA : i ≤ endp l i := by omega
  have hBc : endp l i ≤ pc := by omega
  have hD1 : decide (i ≤ endp l i) = true := decide_eq_true hA
  have hD2 : decide (endp l i ≤ pc) = true := decide_eq_true hBc
  have hnz2 : ¬ pc - i = 0 := by omega
  have HCv : Hid (∀ W : World, Below (w.alloc (.cells (rgC l nq ao qo (some ⟨gp, op, none⟩) (some ⟨ge, oe, none⟩) ac qc pc ec) 77)).heap.size (w.alloc (.cells (rgC l nq ao qo (some ⟨gp, op, none⟩) (some ⟨ge, oe, none⟩) ac qc pc ec) 77)) W → Calls Tryz.prog 60 #[.slice (some ⟨gp, op + i, none⟩) (endp l i - i) (pc - i), .func (.func 61) #[] #[]] W fun e w' => e = .returned (.bool (anyC (fun j => rP l (i + j)) (endp l i - i))) ∧ Below W.heap.size W w') := fun W hW => containsF_any (f := fun j => rP l (i + j)) (vals_cut (HI.out.below hW).p (by omega)) (by omega)
  dsimp only [rgC] at *
  clear h hb hn hT
  generalize anyC (fun j => rP l (i + j)) (endp l i - i) = z at *
  generalize endp l i = en at *
  go_enter Tryz.func37, Tryz.ntmps37
  go_wp2_with fail
  generalize (w.alloc (.cells #[.slice ao l.length ac, .slice qo nq qc, .slice (some ⟨gp, op, none⟩) l.length pc, .slice (some ⟨ge, oe, none⟩) l.length ec] 77)) = w1 at *
  have hlt := blk_lt HX.out
  have y2 : ∀ y : Kin w1, y.u.cell? ⟨w.heap.size, 2, none⟩ = some (.slice (some ⟨gp, op, none⟩) l.length pc) := fun y => y.cell (a := ⟨w.heap.size, 2, none⟩) hlt b2
  have y3 : ∀ y : Kin w1, y.u.cell? ⟨w.heap.size, 3, none⟩ = some (.slice (some ⟨ge, oe, none⟩) l.length ec) := fun y => y.cell (a := ⟨w.heap.size, 3, none⟩) hlt b3
  have ye : ∀ y : Kin w1, y.u.cell? ⟨ge, oe + i, none⟩ = some (.int .i64 (en : Nat)) := fun y => y.cell (a := ⟨ge, oe + i, none⟩) hge ce
  have HC3 : Hid (∀ (y : Kin w1), Calls Tryz.prog 60 #[.slice (some ⟨gp, op + i, none⟩) (en - i) (pc - i), .func (.func 61) #[] #[]] y.u fun e w' => e = .returned (.bool z) ∧ Below y.u.heap.size y.u w') := fun y => HCv.out y.u y.ok
  clear HCv b0 b1 b2 b3 ce
  refine wp_region_kin (by kernel_rfl) (by kernel_rfl) ?_
  iterate 9 quiet_step (with_reducible rfl)
  quiet_step (first | with_reducible rfl | exact kin_of (HC3.out _))
  quiet_step (with_reducible rfl)
  refine wpQuiet_nil ?_
  rintro _ ⟨y, rfl⟩
  have HYk : Hid (Below w.heap.size w y.u) := HB.out.trans (y.ok.mono HB.out.size)
  clear y2 y3 ye HC3
  generalize y.u = w4 at *
  go_wp2
  go_ret
  exact ⟨rfl, HYk.out⟩
end Go.Proofs.YtjoflihimpipcabGreat.Nm.Ty
