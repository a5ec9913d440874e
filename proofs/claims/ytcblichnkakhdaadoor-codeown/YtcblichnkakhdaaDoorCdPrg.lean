import Derived.Test.YtcblichnkakhdaaDoorCdTbs
namespace Go.Proofs.YtcblichnkakhdaaDoor.Cd
open Go.RowKit Go.Proofs.YtcblichnkakhdaaDoor.Nm

def onB (l : List Int) : List Nat := l.flatMap fun n => numB (n + 1).toNat
def cdB (l : List (Nat × (Nat → Int))) : List Nat := l.flatMap fun x => insB x.1 x.2
def cC (l : List (Nat × (Nat → Int))) : List Value := l.flatMap fun x => [.int .i64 (x.1 : Int), .int .i64 (x.2 0), .int .i64 (x.2 1), .int .i64 (x.2 2), .int .i64 (x.2 3)]
/-- a program's bytes -/
def prgB (p : Pr) : List Nat := [87] ++ (tabB p ++ (onB p.on ++ (numB (p.miss + 1).toNat ++ (numB p.cd.length ++ cdB p.cd))))
/-- what may be written -/
structure PrOk (p : Pr) : Prop where
  tb : TbOk p
  o : p.on.length ≤ 1000
  or : ∀ n ∈ p.on, -1 ≤ n ∧ n < 9223372036854775807
  ms : -1 ≤ p.miss ∧ p.miss < 9223372036854775807
  c : p.cd.length ≤ 1000000
  cr : ∀ x ∈ p.cd, x.1 < 42 ∧ ∀ j, j < 4 → OpOk (pick4 (kd4 x.1) j) (x.2 j)
theorem onB_take {l : List Int} {j : Nat} (h : j < l.length) : onB (l.take (j + 1)) = onB (l.take j) ++ numB (l[j] + 1).toNat := by
  rw [take_one h]
  unfold onB
  rw [List.flatMap_append, List.flatMap_singleton]
theorem cdB_take {l : List (Nat × (Nat → Int))} {j : Nat} (h : j < l.length) : cdB (l.take (j + 1)) = cdB (l.take j) ++ insB l[j].1 l[j].2 := by
  rw [take_one h]
  unfold cdB
  rw [List.flatMap_append, List.flatMap_singleton]
theorem onB_len : ∀ l : List Int, (∀ n ∈ l, -1 ≤ n ∧ n < 9223372036854775807) → (onB l).length ≤ 10 * l.length
  | [], _ => Nat.le_refl _
  | x :: l, h => by
    have h1 := onB_len l (fun y hy => h y (List.mem_cons_of_mem _ hy))
    have h2 := h x (by simp)
    have e2 := numB_ten (n := (x + 1).toNat) (by omega)
    have e : onB (x :: l) = numB (x + 1).toNat ++ onB l := rfl
    rw [e]
    simp only [List.length_append, List.length_cons]
    omega
theorem insB_len {op : Nat} {a : Nat → Int} (h : op < 42) (ha : ∀ j, j < 4 → OpOk (pick4 (kd4 op) j) (a j)) : (insB op a).length ≤ 50 := by
  have h1 := insP_len ha 4 (Nat.le_refl _)
  have h2 := numB_ten (n := op) (by omega)
  unfold insB
  rw [List.length_append]
  omega
theorem cdB_len : ∀ l : List (Nat × (Nat → Int)), (∀ x ∈ l, x.1 < 42 ∧ ∀ j, j < 4 → OpOk (pick4 (kd4 x.1) j) (x.2 j)) → (cdB l).length ≤ 50 * l.length
  | [], _ => Nat.le_refl _
  | x :: l, h => by
    have h1 := cdB_len l (fun y hy => h y (List.mem_cons_of_mem _ hy))
    have h2 := h x (by simp)
    have e2 := insB_len h2.1 h2.2
    have e : cdB (x :: l) = insB x.1 x.2 ++ cdB l := rfl
    rw [e]
    simp only [List.length_append, List.length_cons]
    omega
theorem tabB_len {p : Pr} (h : TbOk p) : (tabB p).length ≤ 50000 := by
  have h1 := vsB_len p.vs h.vr
  have h2 := nsB_len p.ts h.tr
  have h3 : (ghB p.gh).length = p.gh.length := by simp [ghB]
  have h4 := numB_ten (n := p.gh.length) (by have := h.q; omega)
  have h5 := numB_ten (n := p.vs.length) (by have := h.v; omega)
  have h6 := numB_ten (n := p.ts.length) (by have := h.t; omega)
  have := h.q
  have := h.v
  have := h.t
  unfold tabB
  simp only [List.length_append]
  omega
theorem cC_at {l : List (Nat × (Nat → Int))} {k : Nat} (h : k < l.length) : (cC l)[k * 5]? = some (.int .i64 (l[k].1 : Int)) ∧ (cC l)[k * 5 + 1]? = some (.int .i64 (l[k].2 0)) ∧ (cC l)[k * 5 + 2]? = some (.int .i64 (l[k].2 1)) ∧ (cC l)[k * 5 + 3]? = some (.int .i64 (l[k].2 2)) ∧ (cC l)[k * 5 + 4]? = some (.int .i64 (l[k].2 3)) := by
  induction l generalizing k with
  | nil => simp at h
  | cons x l ih =>
    cases k with
    | zero => exact ⟨rfl, rfl, rfl, rfl, rfl⟩
    | succ k =>
      have e : cC (x :: l) = [.int .i64 (x.1 : Int), .int .i64 (x.2 0), .int .i64 (x.2 1), .int .i64 (x.2 2), .int .i64 (x.2 3)] ++ cC l := rfl
      have h1 := ih (k := k) (by simpa using h)
      have hs : ∀ i, ([.int .i64 (x.1 : Int), .int .i64 (x.2 0), .int .i64 (x.2 1), .int .i64 (x.2 2), .int .i64 (x.2 3)] ++ cC l)[k * 5 + 5 + i]? = (cC l)[k * 5 + i]? := fun i => by
        rw [List.getElem?_append_right (by simp; omega)]
        have : k * 5 + 5 + i - [Value.int .i64 (x.1 : Int), .int .i64 (x.2 0), .int .i64 (x.2 1), .int .i64 (x.2 2), .int .i64 (x.2 3)].length = k * 5 + i := by simp; omega
        rw [this]
      rw [e, show (k + 1) * 5 = k * 5 + 5 by omega]
      exact ⟨(hs 0).trans h1.1, (hs 1).trans h1.2.1, (hs 2).trans h1.2.2.1, (hs 3).trans h1.2.2.2.1, (hs 4).trans h1.2.2.2.2⟩
end Go.Proofs.YtcblichnkakhdaaDoor.Cd
