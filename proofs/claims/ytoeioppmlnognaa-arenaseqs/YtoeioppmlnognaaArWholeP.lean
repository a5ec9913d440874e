import Derived.Test.YtoeioppmlnognaaArNodes
namespace Go.Proofs.Ytoeioppmlnognaa.Ar
open Go.RowKit

/-- what whole has written down when so many lists, so many nodes of the next one, are gone through -/
def fA (a : As) (i x : Nat) : Int := match a.wh x with
  | some j => if j < i then (j : Int) + 1 else 0
  | none => 0
def fB (a : As) (i k x : Nat) : Int := if x ∈ (a.L i).take k then (i : Int) + 1 else fA a i x
theorem fB_zero (a : As) (i : Nat) : fB a i 0 = fA a i := by
  funext x
  simp [fB]
section
variable {c : Cs} {a : As}
theorem fB_full (h : Inv c a []) {i : Nat} (hi : i < a.nl) : fB a i (a.L i).length = fA a (i + 1) := by
  funext x
  unfold fB
  rw [List.take_length]
  by_cases hx : x ∈ a.L i
  · rw [if_pos hx, fA, h.wh hi hx]
    dsimp only
    rw [if_pos (by omega)]
  · rw [if_neg hx]
    unfold fA
    cases hw : a.wh x with
    | none => rfl
    | some j =>
      dsimp only
      have hj : j ≠ i := fun e => hx (e ▸ (As.wh_some hw).2)
      by_cases h1 : j < i
      · rw [if_pos h1, if_pos (by omega)]
      · rw [if_neg h1, if_neg (by omega)]
theorem fB_at (h : Inv c a []) {i k x : Nat} (hi : i < a.nl) (hx : (a.L i)[k]? = some x) : fB a i k x = 0 ∧ fB a i (k + 1) = up (fB a i k) x ((i : Int) + 1) := by
  have hk := (List.getElem?_eq_some_iff.1 hx).1
  have ht : (a.L i).take (k + 1) = (a.L i).take k ++ [x] := by rw [List.take_add_one, hx]; rfl
  have hnd := h.nd i hi
  have hxt : x ∉ (a.L i).take k := by
    have h1 : ((a.L i).take (k + 1)).Nodup := hnd.sublist (List.take_sublist _ _)
    rw [ht, List.nodup_append] at h1
    intro hm
    exact h1.2.2 x hm x (by simp) rfl
  constructor
  · unfold fB
    rw [if_neg hxt, fA, h.wh hi (List.mem_of_getElem? hx)]
    dsimp only
    rw [if_neg (by omega)]
  · funext y
    unfold fB up
    rw [ht]
    by_cases hy : y = x
    · rw [if_pos hy, if_pos (by simp [hy])]
    · rw [if_neg hy]
      dsimp only
      by_cases hm : y ∈ (a.L i).take k
      · rw [if_pos hm, if_pos (by simp [hm])]
      · rw [if_neg hm, if_neg (by simp [hm, hy])]
theorem fA_zero (a : As) : fA a 0 = fun _ => 0 := by
  funext x
  unfold fA
  cases a.wh x <;> simp
theorem fA_full (a : As) (x : Nat) : decide (0 < fA a a.nl x) = (a.wh x).isSome := by
  unfold fA
  cases hw : a.wh x with
  | none => simp
  | some j =>
    have := (As.wh_some hw).1
    simp [this]
theorem Inv.sum (h : Inv c a []) : tl a.L a.nl + a.free = a.size := by
  have := h.tot
  have := h.used
  unfold As.free
  simp only [List.length_nil] at *
  omega
theorem tl_mono (L : Nat → List Nat) {i n : Nat} (h : i ≤ n) : tl L i ≤ tl L n := by
  induction n with
  | zero => have : i = 0 := by omega
            subst this; exact Nat.le_refl _
  | succ n ih =>
    by_cases e : i = n + 1
    · subst e; exact Nat.le_refl _
    · have := ih (by omega)
      simp only [tl]
      omega
/-- what the calls say of the k-th node of a list -/
theorem at_k (h : Inv c a []) {i k x : Nat} (hi : i < a.nl) (hx : (a.L i)[k]? = some x) :
    a.list (x : Int) = some i ∧ a.next (x : Int) 1 = (a.L i)[k + 1]? ∧ a.next (x : Int) 0 = (if k = 0 then none else (a.L i)[k - 1]?) ∧ x < a.size ∧ (a.L i).reverse[(a.L i).length - 1 - k]? = some x := by
  have hk := (List.getElem?_eq_some_iff.1 hx).1
  have hm := List.mem_of_getElem? hx
  have hw := h.wh hi hm
  have hs : a.L i = (a.L i).take k ++ x :: (a.L i).drop (k + 1) := by
    have := (List.getElem?_eq_some_iff.1 hx).2
    rw [← this]
    simp
  have hnd := h.nd i hi
  rw [hs, List.nodup_append] at hnd
  have hxp : x ∉ (a.L i).take k := fun hm => hnd.2.2 x hm x (by simp) rfl
  obtain ⟨n0, n1⟩ := nbr_mid (p := (a.L i).take k) (q := (a.L i).drop (k + 1)) hxp
  rw [← hs] at n0 n1
  refine ⟨?_, ?_, ?_, ?_, ?_⟩
  · unfold As.list
    rw [if_pos (by omega), Int.toNat_natCast, hw]
  · unfold As.next
    rw [if_pos ⟨by omega, Or.inr rfl⟩, Int.toNat_natCast, hw]
    show nbr (a.L i) x 1 = _
    rw [n1]
    simp
  · unfold As.next
    rw [if_pos ⟨by omega, Or.inl rfl⟩, Int.toNat_natCast, hw]
    show nbr (a.L i) x 0 = _
    rw [n0]
    by_cases h0 : k = 0
    · rw [if_pos h0, h0]; simp
    · rw [if_neg h0, List.getLast?_eq_getElem?, List.length_take, List.getElem?_take]
      rw [if_pos (by omega)]
      congr 1
      omega
  · exact Nat.lt_of_lt_of_le (h.lt i hi x hm).1 h.used
  · rw [List.getElem?_reverse (by omega)]
    rw [← hx]
    congr 1
    omega
end

/-- a row of numbers in a block of its own -/
def At (W : World) (b n : Nat) (f : Nat → Int) : Prop := ∃ cs, W.heap[b]? = some (.cells cs 3 (0, 0)) ∧ ∀ j, j < n → cs[j]? = some (I (f j))
section
variable {W W' : World} {b n : Nat} {f : Nat → Int}
theorem At.lt (h : At W b n f) : b < W.heap.size := by
  obtain ⟨cs, h1, _⟩ := h
  exact (Array.getElem?_eq_some_iff.1 h1).1
theorem At.cell (h : At W b n f) {j : Nat} (hj : j < n) : W.cell? ⟨b, j, none⟩ = some (I (f j)) ∧ W.frozen? ⟨b, j, none⟩ = false := by
  obtain ⟨cs, h1, h2⟩ := h
  exact ⟨by simp [World.cell?, h1, h2 j hj], by simp [World.frozen?, h1]⟩
theorem At.below (h : At W b n f) (hb : Below W.heap.size W W') : At W' b n f := by
  have hl := h.lt
  obtain ⟨cs, h1, h2⟩ := h
  exact ⟨cs, (hb.block b hl).trans h1, h2⟩
theorem At.put (h : At W b n f) (x : Nat) (v : Int) : At (W.setCell ⟨b, x, none⟩ (I v)) b n (up f x v) := by
  obtain ⟨cs, h1, h2⟩ := h
  refine ⟨_, set_blk h1, fun j hj => ?_⟩
  rw [set_get (h2 j hj)]
  unfold up
  by_cases e : x = j
  · rw [if_pos e, if_pos e.symm]
  · rw [if_neg e, if_neg (fun h => e h.symm)]
end
/-- make([]int, n) -/
theorem mk_ints (n : Nat) (hn : n ≤ 4194304) : ∃ M : Array Value, (∀ u : World, (Instr.makeSlice 31 (.int .i64 (n : Int)) (.int .i64 (n : Int))).run Try.prog u = .ok (.slice (some ⟨u.heap.size, 0, none⟩) n n) (u.alloc (.cells M 3))) ∧ ∀ u : World, At (u.alloc (.cells M 3)) u.heap.size n (fun _ => 0) := by
  obtain ⟨i0, hi, hz0, hz1, hz2⟩ := info_parts info3
  refine ⟨madeCells (Value.int .i64 0).cells (n * 1), fun u => ?_, fun u => ⟨_, heap_alloc_new u _, fun j hj => ?_⟩⟩
  · have h := run_make (P := Try.prog) u 31 3 i0 (.int .i64 0) Try.underlying31 hi hz0 .i64 .i64 (n : Int) (n : Int) (by omega) (Int.le_refl _) (by rw [hz2]; omega) (by omega)
    have e : (n : Int).toNat = n := by omega
    rw [e, hz1] at h
    exact h
  · have e1 : (Value.int .i64 0).cells = #[.int .i64 0] := rfl
    rw [e1]
    simp only [madeCells]
    simp [hj]
    rw [Nat.mod_one]
    rfl
/-- a row of nodes that is read -/
structure Rd (W : World) (b : Nat) (l : List Nat) : Prop where
  lt : b < W.heap.size
  at_ : ∀ (j x : Nat), l[j]? = some x → W.cell? ⟨b, j, none⟩ = some (I x)
theorem Rd.of {W : World} {base n : Nat} {v : Value} {l : List Nat} (h : W.ownsRow base 3 1 v n (l.map fun x : Nat => I x)) (hn : n = l.length) (h0 : 0 < l.length) : ∃ b c, v = .slice (some ⟨b, 0, none⟩) n c ∧ base ≤ b ∧ Rd W b l := by
  subst hn
  obtain ⟨b, c, cur, e1, hb, hh, _⟩ := own_block h h0
  refine ⟨b, c, e1, hb, (Array.getElem?_eq_some_iff.1 hh).1, fun j x hx => ?_⟩
  subst e1
  have hj : j < l.length := (List.getElem?_eq_some_iff.1 hx).1
  rw [h.cellAt j (by simpa using hj)]
  simp [hx]
theorem Rd.below {W W' : World} {b : Nat} {l : List Nat} (h : Rd W b l) (hb : Below W.heap.size W W') : Rd W' b l :=
  ⟨Nat.lt_of_lt_of_le h.lt hb.size, fun j x hx => (World.cell?_of_block (a := ⟨b, j, none⟩) (hb.block b h.lt)).trans (h.at_ j x hx)⟩
theorem Rd.set {W : World} {b b' i : Nat} {v : Value} {l : List Nat} (h : Rd W b l) (hne : b ≠ b') : Rd (W.setCell ⟨b', i, none⟩ v) b l :=
  ⟨by simpa [World.setCell] using h.lt, fun j x hx => (World.cell?_of_block (a := ⟨b, j, none⟩) (set_other hne)).trans (h.at_ j x hx)⟩
end Go.Proofs.Ytoeioppmlnognaa.Ar
