import Derived.Test.YtnpdblcfhbamiaaGreatK07
namespace Go.Proofs.YtnpdblcfhbamiaaGreat.Gr
open Go.RowKit Go.Proofs.YtnpdblcfhbamiaaGreat.Sp Go.Proofs.YtnpdblcfhbamiaaGreat.Lx
/-- numbers in a block of their own -/
def RowI (w : World) (g n : Nat) (f : Nat → Int) : Prop := w.heap[g]? = some (.cells ((List.range n).map (fun i => Value.int .i64 (f i))).toArray 3 (0, 0))
theorem RowI.lt {w : World} {g n : Nat} {f : Nat → Int} (h : RowI w g n f) : g < w.heap.size := (Array.getElem?_eq_some_iff.1 h).1
theorem RowI.cell {w : World} {g n : Nat} {f : Nat → Int} (h : RowI w g n f) {j : Nat} (hj : j < n) : w.cell? ⟨g, j, none⟩ = some (.int .i64 (f j)) := by
  rw [World.cell?, h]
  simp [hj]
theorem RowI.frozen {w : World} {g n : Nat} {f : Nat → Int} (h : RowI w g n f) (j : Nat) : w.frozen? ⟨g, j, none⟩ = false := by
  rw [World.frozen?, h]
  simp
theorem RowI.ext {w : World} {g n : Nat} {f f' : Nat → Int} (h : RowI w g n f) (e : ∀ i, i < n → f i = f' i) : RowI w g n f' := by
  have : (List.range n).map (fun i => Value.int .i64 (f i)) = (List.range n).map (fun i => Value.int .i64 (f' i)) := by
    refine List.map_congr_left fun i hi => ?_
    rw [e i (List.mem_range.1 hi)]
  unfold RowI
  rw [← this]
  exact h
theorem RowI.of_block {w w' : World} {g n : Nat} {f : Nat → Int} (h : RowI w g n f) (e : w'.heap[g]? = w.heap[g]?) : RowI w' g n f := e.trans h
theorem RowI.below {w w' : World} {g n : Nat} {f : Nat → Int} (h : RowI w g n f) {b : Nat} (hb : Below b w w') (hg : g < b) : RowI w' g n f := h.of_block (hb.block g hg)
theorem RowI.other {w : World} {g n : Nat} {f : Nat → Int} (h : RowI w g n f) {a : Addr} (ha : g ≠ a.block) (v : Value) : RowI (w.setCell a v) g n f := h.of_block (Below.heap_setCell w a v g ha)
theorem RowI.set {w : World} {g n : Nat} {f : Nat → Int} (h : RowI w g n f) (k : Nat) (x : Int) : RowI (w.setCell ⟨g, k, none⟩ (.int .i64 x)) g n (fun i => if i = k then x else f i) := by
  have h1 : (w.setCell ⟨g, k, none⟩ (.int .i64 x)).heap[g]? = some (.cells (((List.range n).map (fun i => Value.int .i64 (f i))).toArray.setIfInBounds k (.int .i64 x)) 3 (0, 0)) := heap_setCell_same w g k _ _ _ h
  have h2 : ((List.range n).map (fun i => Value.int .i64 (f i))).toArray.setIfInBounds k (.int .i64 x) = ((List.range n).map (fun i => Value.int .i64 (if i = k then x else f i))).toArray := by
    apply Array.ext'
    rw [Array.toList_setIfInBounds]
    apply List.ext_getElem?
    intro i
    by_cases hi : i < n
    · by_cases hk : i = k
      · subst hk; simp [hi]
      · rw [List.getElem?_set_ne (fun e => hk e.symm)]
        simp [hi, hk]
    · rw [List.getElem?_eq_none (by simp; omega), List.getElem?_eq_none (by simp; omega)]
  unfold RowI
  rw [h1, h2]
/-- make([]int, n) -/
theorem mk_ints (n : Nat) (hn : n ≤ 2932031007317) : ∃ M : Array Value, (∀ u : World, (Instr.makeSlice 23 (.int .i64 (n : Int)) (.int .i64 (n : Int))).run Tryz.prog u = .ok (.slice (some ⟨u.heap.size, 0, none⟩) n n) (u.alloc (.cells M 3))) ∧
    ∀ u : World, RowI (u.alloc (.cells M 3)) u.heap.size n (fun _ => 0) := by
  obtain ⟨i0, hi, hz0, hz1, hz2⟩ := info_parts info3
  refine ⟨madeCells (Value.int .i64 0).cells ((n : Int).toNat * i0.size), fun u => ?_, fun u => ?_⟩
  · have h := run_make (P := Tryz.prog) u 23 3 i0 (.int .i64 0) Tryz.underlying23 hi hz0 .i64 .i64 (n : Int) (n : Int) (by omega) (Int.le_refl _) (by rw [hz2]; omega) (by omega)
    have e : (n : Int).toNat = n := by omega
    rw [e] at h ⊢
    exact h
  · have e : madeCells (Value.int .i64 0).cells ((n : Int).toNat * i0.size) = ((List.range n).map (fun _ => Value.int .i64 0)).toArray := by
      apply Array.ext'
      have e1 : (Value.int .i64 0).cells = #[.int .i64 0] := rfl
      rw [e1, toList_madeCells_one, hz1]
      apply List.ext_getElem?
      intro j
      have e2 : (n : Int).toNat * 1 = n := by omega
      rw [e2]
      by_cases hj : j < n
      · simp [hj]
      · simp [hj]
    rw [e]
    exact heap_alloc_new u _
end Go.Proofs.YtnpdblcfhbamiaaGreat.Gr
namespace Go.Proofs.YtnpdblcfhbamiaaGreat.Nm
open Go.Proofs.YtnpdblcfhbamiaaGreat.Gr
/-- numbers summed up, multiplied: those below 0 count as 0 -/
def tsum : List Int → Nat
  | [] => 0
  | n :: l => n.toNat + tsum l
def tprod : List Int → Nat
  | [] => 1
  | n :: l => n.toNat * tprod l
def capS (n : Nat) : Nat := min n 4611686018427387904
def sumL (l : List Int) : Nat := capS (tsum l)
def timL (l : List Int) : Nat := capS (tprod l)
theorem capS_le (n : Nat) : capS n ≤ 4611686018427387904 := by unfold capS; omega
theorem sumL_le (l : List Int) : sumL l ≤ 4611686018427387904 := capS_le _
theorem timL_le (l : List Int) : timL l ≤ 4611686018427387904 := capS_le _
theorem tsum_app (a b : List Int) : tsum (a ++ b) = tsum a + tsum b := by
  induction a with
  | nil => simp [tsum]
  | cons x a ih => simp only [List.cons_append, tsum, ih]; omega
theorem tprod_app (a b : List Int) : tprod (a ++ b) = tprod a * tprod b := by
  induction a with
  | nil => simp [tprod]
  | cons x a ih => simp only [List.cons_append, tprod, ih, Nat.mul_assoc]
theorem capS_add (a b : Nat) : capS (capS a + capS b) = capS (a + b) := by unfold capS; omega
theorem capS_mul (a b : Nat) : capS (capS a * capS b) = capS (a * b) := by
  unfold capS
  by_cases ha : a ≤ 4611686018427387904
  · by_cases hb : b ≤ 4611686018427387904
    · rw [Nat.min_eq_left ha, Nat.min_eq_left hb]
    · rw [Nat.min_eq_left ha, Nat.min_eq_right (a := b) (by omega)]
      cases a with
      | zero => simp
      | succ a =>
        have h1 : 4611686018427387904 ≤ (a + 1) * 4611686018427387904 := Nat.le_mul_of_pos_left _ (Nat.succ_pos a)
        have h2 : b ≤ (a + 1) * b := Nat.le_mul_of_pos_left _ (Nat.succ_pos a)
        omega
  · rw [Nat.min_eq_right (a := a) (by omega)]
    cases b with
    | zero => simp
    | succ b =>
      have h0 : 1 ≤ min (b + 1) 4611686018427387904 := by omega
      have h1 : 4611686018427387904 ≤ 4611686018427387904 * min (b + 1) 4611686018427387904 := Nat.le_mul_of_pos_right _ h0
      have h2 : a ≤ a * (b + 1) := Nat.le_mul_of_pos_right _ (Nat.succ_pos b)
      omega
theorem capS_one (a : Nat) (h : a ≤ 4611686018427387904) : capS a = a := by unfold capS; omega
theorem capS_idem (a : Nat) : capS (capS a) = capS a := capS_one _ (capS_le a)
theorem sumL_app (a b : List Int) : sumL (a ++ b) = capS (sumL a + sumL b) := by unfold sumL; rw [tsum_app, capS_add]
theorem timL_app (a b : List Int) : timL (a ++ b) = capS (timL a * timL b) := by unfold timL; rw [tprod_app, capS_mul]
theorem take_step {α : Type} {l : List α} {k : Nat} {x : α} (h : l[k]? = some x) : l.take (k + 1) = l.take k ++ [x] := by
  rw [List.take_add_one, h]
  rfl
/-- a step of the sum -/
theorem sumL_step {l : List Int} {k : Nat} {n : Int} (h : l[k]? = some n) : sumL (l.take (k + 1)) = capS (sumL (l.take k) + n.toNat) := by
  rw [take_step h, sumL_app]
  have : sumL [n] = capS n.toNat := by simp [sumL, tsum]
  rw [this]
  unfold capS sumL capS
  omega
theorem timL_step {l : List Int} {k : Nat} {n : Int} (h : l[k]? = some n) : timL (l.take (k + 1)) = capS (timL (l.take k) * n.toNat) := by
  rw [take_step h, timL_app]
  have : timL [n] = capS n.toNat := by simp [timL, tprod]
  rw [this]
  unfold timL
  rw [← capS_mul (capS (tprod (l.take k))) n.toNat, capS_idem]
theorem tprod_zero {l : List Int} {k : Nat} {n : Int} (h : l[k]? = some n) (hn : n ≤ 0) : timL l = 0 := by
  have e : l = l.take k ++ (n :: l.drop (k + 1)) := by
    have hk := (List.getElem?_eq_some_iff.1 h).1
    have hx : l[k] = n := (List.getElem?_eq_some_iff.1 h).2
    conv => lhs; rw [← List.take_append_drop k l, List.drop_eq_getElem_cons hk, hx]
  have hz : tprod l = 0 := by
    rw [e, tprod_app]
    simp only [tprod]
    rw [show n.toNat = 0 by omega]
    simp
  unfold timL
  rw [hz]
  rfl
/-- as the program has it -/
theorem sum_prog (s : Nat) (n : Int) (hs : s ≤ 4611686018427387904) : min (s : Int) (4611686018427387904 - min (max n 0) 4611686018427387904) + min (max n 0) 4611686018427387904 = ((capS (s + n.toNat) : Nat) : Int) := by
  unfold capS
  omega
theorem tim_over {p m : Nat} (h : 4611686018427387904 / m < p) (hm : 0 < m) : capS (p * m) = 4611686018427387904 := by
  have := (Nat.div_lt_iff_lt_mul hm).1 h
  unfold capS
  omega
theorem tim_in {p m : Nat} (h : ¬ 4611686018427387904 / m < p) (hm : 0 < m) : capS (p * m) = p * m ∧ p * m ≤ 4611686018427387904 := by
  have := mt (Nat.div_lt_iff_lt_mul hm).2 h
  unfold capS
  omega
/-- numbers as they lie in memory -/
abbrev zi (ks : List Nat) : List Int := ks.map (fun n : Nat => (n : Int))
/-- the greatest -/
def mxL : List Nat → Nat
  | [] => 0
  | n :: l => max n (mxL l)
/-- the bound of a row, by those of its kids -/
def overN (l : List Rz) (rd : List Int) (rs : List Nat) (i : Nat) (ks : List Nat) : Nat :=
  if (rat l i).kind = 12 then sumL [1, (ks.getD 0 0 : Nat), (mxL (ks.drop 1) : Nat)]
  else if (rat l i).kind = 13 then sumL [1, (timL [rd.getD i 0, (sumL (zi (ks.drop 1)) : Nat)] : Nat)]
  else if (rat l i).kind = 22 then sumL [1, (rs.getD (rat l i).n.toNat 0 : Nat)]
  else if (rat l i).kind = 24 then 0
  else sumL [1, (sumL (zi ks) : Nat)]
theorem overN_le (l : List Rz) (rd : List Int) (rs : List Nat) (i : Nat) (ks : List Nat) : overN l rd rs i ks ≤ 4611686018427387904 := by
  unfold overN
  repeat' split
  all_goals first | exact sumL_le _ | exact Nat.zero_le _
def bndF (l : List Rz) (rd : List Int) (rs : List Nat) : Nat → Nat → Nat
  | 0, _ => 0
  | f + 1, i => overN l rd rs i ((List.range (km l i)).map fun k => bndF l rd rs f (kidp l i k))
/-- the bound of a row -/
def bnd (l : List Rz) (rd : List Int) (rs : List Nat) (i : Nat) : Nat := bndF l rd rs (endp l i - i) i
theorem bndF_le (l : List Rz) (rd : List Int) (rs : List Nat) (f i : Nat) : bndF l rd rs f i ≤ 4611686018427387904 := by
  cases f with
  | zero => exact Nat.zero_le _
  | succ f => exact overN_le _ _ _ _ _
theorem bnd_le (l : List Rz) (rd : List Int) (rs : List Nat) (i : Nat) : bnd l rd rs i ≤ 4611686018427387904 := bndF_le _ _ _ _ _
/-- kids end where their row does, at the latest -/
theorem kidMono {l : List Rz} (h : Whole l) {i : Nat} (hi : i < l.length) : ∀ d k, k + d ≤ km l i → kidp l i k ≤ kidp l i (k + d) := by
  intro d
  induction d with
  | zero => intro k _; exact Nat.le_refl _
  | succ d ih =>
    intro k hk
    have h1 := ih k (by omega)
    obtain ⟨h2, h3, _⟩ := kid_at h hi (k := k + d) (by omega)
    have h4 := (end_kid h h2).2.1
    rw [show k + (d + 1) = k + d + 1 by omega, h3]
    omega
theorem kidIn {l : List Rz} (h : Whole l) {i k : Nat} (hi : i < l.length) (hk : k < km l i) : i < kidp l i k ∧ kidp l i k < l.length ∧ endp l (kidp l i k) ≤ endp l i ∧ kidp l i (k + 1) = endp l (kidp l i k) := by
  obtain ⟨h1, h2, h3⟩ := kid_at h hi hk
  refine ⟨h3, h1, ?_, h2⟩
  rw [(end_kid h hi).1, ← h2]
  have := kidMono h hi (km l i - (k + 1)) (k + 1) (by omega)
  rwa [show k + 1 + (km l i - (k + 1)) = km l i by omega] at this
theorem bndF_fuel {l : List Rz} (rd : List Int) (rs : List Nat) (h : Whole l) : ∀ (f g i : Nat), i < l.length → endp l i - i ≤ f → endp l i - i ≤ g → bndF l rd rs f i = bndF l rd rs g i := by
  intro f
  induction f with
  | zero => intro g i hi hf; have := (end_kid h hi).2.1; omega
  | succ f ih =>
    intro g i hi hf hg
    cases g with
    | zero => have := (end_kid h hi).2.1; omega
    | succ g =>
      simp only [bndF]
      congr 1
      apply List.map_congr_left
      intro k hk
      have hk := List.mem_range.1 hk
      obtain ⟨h1, h2, h3, _⟩ := kidIn h hi hk
      have := (end_kid h h2).2.1
      exact ih g _ h2 (by omega) (by omega)
/-- the bounds of a row's kids -/
def bks (l : List Rz) (rd : List Int) (rs : List Nat) (i : Nat) : Nat → List Nat := fun m => (List.range m).map fun k => bnd l rd rs (kidp l i k)
theorem bks_len (l : List Rz) (rd : List Int) (rs : List Nat) (i m : Nat) : (bks l rd rs i m).length = m := by simp [bks]
theorem bks_succ (l : List Rz) (rd : List Int) (rs : List Nat) (i m : Nat) : bks l rd rs i (m + 1) = bks l rd rs i m ++ [bnd l rd rs (kidp l i m)] := by simp [bks, List.range_succ]
theorem bks_le (l : List Rz) (rd : List Int) (rs : List Nat) (i m : Nat) : ∀ x ∈ bks l rd rs i m, x ≤ 4611686018427387904 := fun x hx => by
  obtain ⟨k, _, rfl⟩ := List.mem_map.1 hx
  exact bnd_le _ _ _ _
theorem bnd_eq {l : List Rz} (rd : List Int) (rs : List Nat) (h : Whole l) {i : Nat} (hi : i < l.length) : bnd l rd rs i = overN l rd rs i (bks l rd rs i (km l i)) := by
  have h1 := (end_kid h hi).2.1
  unfold bnd
  obtain ⟨f, hf⟩ : ∃ f, endp l i - i = f + 1 := ⟨endp l i - i - 1, by omega⟩
  rw [hf]
  simp only [bndF]
  congr 1
  unfold bks
  apply List.map_congr_left
  intro k hk
  have hk := List.mem_range.1 hk
  obtain ⟨h2, h3, h4, _⟩ := kidIn h hi hk
  have := (end_kid h h3).2.1
  exact bndF_fuel rd rs h _ _ _ h3 (by omega) (by omega)
/-- only the rules that are called count -/
theorem bnd_rs {l : List Rz} (rd : List Int) {rs rs' : List Nat} (h : Whole l) : ∀ (f i : Nat), i < l.length → endp l i - i ≤ f → (∀ j, i ≤ j → j < endp l i → (rat l j).kind = 22 → rs.getD (rat l j).n.toNat 0 = rs'.getD (rat l j).n.toNat 0) → bnd l rd rs i = bnd l rd rs' i := by
  intro f
  induction f with
  | zero => intro i hi hf; have := (end_kid h hi).2.1; omega
  | succ f ih =>
    intro i hi hf hc
    rw [bnd_eq rd rs h hi, bnd_eq rd rs' h hi]
    have e : bks l rd rs i (km l i) = bks l rd rs' i (km l i) := by
      unfold bks
      apply List.map_congr_left
      intro k hk
      have hk := List.mem_range.1 hk
      obtain ⟨h2, h3, h4, _⟩ := kidIn h hi hk
      have := (end_kid h h3).2.1
      exact ih _ h3 (by omega) (fun j hj1 hj2 hj3 => hc j (by omega) (by omega) hj3)
    rw [e]
    unfold overN
    by_cases h22 : (rat l i).kind = 22
    · rw [hc i (Nat.le_refl _) (end_kid h hi).2.1 h22]
    · rw [if_neg h22, if_neg h22]
/-- the bounds of the rules' blocks, so many of them -/
def rsN (l : List Rz) (rd : List Int) (us : List Nat) : Nat → List Nat
  | 0 => []
  | k + 1 => rsN l rd us k ++ [bnd l rd (rsN l rd us k) (us.getD k 0)]
theorem rsN_len (l : List Rz) (rd : List Int) (us : List Nat) (k : Nat) : (rsN l rd us k).length = k := by
  induction k with
  | zero => rfl
  | succ k ih => simp [rsN, ih]
theorem rsN_le (l : List Rz) (rd : List Int) (us : List Nat) (k : Nat) : ∀ x ∈ rsN l rd us k, x ≤ 4611686018427387904 := by
  induction k with
  | zero => intro x hx; cases hx
  | succ k ih =>
    intro x hx
    rcases List.mem_append.1 hx with h | h
    · exact ih x h
    · simp only [List.mem_cons, List.not_mem_nil, or_false] at h
      rw [h]
      exact bnd_le _ _ _ _
theorem rsN_pre (l : List Rz) (rd : List Int) (us : List Nat) (k j i : Nat) (hi : i < k) : (rsN l rd us (k + j)).getD i 0 = (rsN l rd us k).getD i 0 := by
  induction j with
  | zero => rfl
  | succ j ih =>
    rw [← ih]
    show (rsN l rd us (k + j) ++ _).getD i 0 = _
    simp only [List.getD_eq_getElem?_getD]
    rw [List.getElem?_append_left (by rw [rsN_len]; omega)]
/-- the bounds of all rules' blocks -/
def rsAll (l : List Rz) (rd : List Int) (us : List Nat) : List Nat := rsN l rd us us.length
/-- a rule's is the bound of its block -/
theorem rs_rule {l : List Rz} {us : List Nat} (rd : List Int) (h : Whole l) (hul : ∀ u ∈ us, u < l.length) (hc : ∀ k (hk : k < us.length) j, us[k] ≤ j → j < endp l us[k] → (rat l j).kind = 22 → 0 ≤ (rat l j).n ∧ (rat l j).n < (k : Int)) {n : Nat} (hn : n < us.length) : (rsAll l rd us).getD n 0 = bnd l rd (rsAll l rd us) us[n] := by
  have e : us.length = (n + 1) + (us.length - (n + 1)) := by omega
  have e2 : us.length = n + (us.length - n) := by omega
  have hg : us.getD n 0 = us[n] := by simp [List.getD_eq_getElem?_getD, List.getElem?_eq_getElem hn]
  unfold rsAll
  have h1 : (rsN l rd us us.length).getD n 0 = bnd l rd (rsN l rd us n) us[n] := by
    rw [e, rsN_pre l rd us (n + 1) _ n (by omega)]
    show (rsN l rd us n ++ [_]).getD n 0 = _
    rw [List.getD_eq_getElem?_getD, List.getElem?_append_right (by rw [rsN_len]; omega), rsN_len, hg]
    simp
  rw [h1]
  refine bnd_rs rd h _ _ (hul _ (List.getElem_mem hn)) (Nat.le_refl _) (fun j hj1 hj2 hj3 => ?_)
  obtain ⟨h2, h3⟩ := hc n hn j hj1 hj2 hj3
  rw [e2, rsN_pre l rd us n _ _ (by omega)]
theorem mxL_le {ks : List Nat} {m : Nat} (h : ∀ x ∈ ks, x ≤ m) : mxL ks ≤ m := by
  induction ks with
  | nil => exact Nat.zero_le _
  | cons x ks ih =>
    have h1 := h x (by simp)
    have h2 := ih (fun y hy => h y (by simp [hy]))
    simp only [mxL]
    omega
theorem mxL_app (a b : List Nat) : mxL (a ++ b) = max (mxL a) (mxL b) := by
  induction a with
  | nil => simp [mxL]
  | cons x a ih => simp only [List.cons_append, mxL, ih]; omega
end Go.Proofs.YtnpdblcfhbamiaaGreat.Nm
