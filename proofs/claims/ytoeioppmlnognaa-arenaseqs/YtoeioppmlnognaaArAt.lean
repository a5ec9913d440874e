import Derived.Test.YtoeioppmlnognaaArMem
namespace Go.Proofs.Ytoeioppmlnognaa.Ar
open Go.RowKit

section
variable {w : World} {g : Nat} {o : Lo} {c : Cs} {size nl used free : Nat} {freed : Int} (h : Mem w g o c size nl used free freed)
include h

set_option maxHeartbeats 800000 in
set_option maxRecDepth 100000 in
theorem at_any {x b : Nat} (hx : x < size) (hb : o.ps[x / 64]? = some b) : Calls Try.prog 58 #[.pointer (some ⟨g, 0, none⟩), I x] w fun e w' => e = .returned (.pointer (some ⟨b, x % 64 * 4, none⟩)) ∧ w' = w := by
  obtain ⟨pb, pc, h1, h2⟩ := h.pages hb
  obtain ⟨a0, _⟩ := h.cellsA
  rw [h1] at a0
  have hsz := h.sz
  have hk := (List.getElem?_eq_some_iff.1 hb).1
  have q1 : wrap64 ((x : Int) / 64) = ((x / 64 : Nat) : Int) := by unfold wrap64; omega
  have q2 : wrap64 ((x : Int) % 64) = ((x % 64 : Nat) : Int) := by unfold wrap64; omega
  have q3 : ((x / 64 : Nat) : Int) < (o.ps.length : Int) := by omega
  have q4 : ((x % 64 : Nat) : Int) < ((plen size (x / 64) : Nat) : Int) := by unfold plen; omega
  have q5 : (0 : Int) ≤ ((x / 64 : Nat) : Int) := by omega
  have q6 : (0 : Int) ≤ ((x % 64 : Nat) : Int) := by omega
  clear h hb h1 hk hx
  go_enter Try.func58, Try.ntmps58
  go_wp2
  go_ret
  exact ⟨rfl, rfl⟩

set_option maxHeartbeats 800000 in
theorem hasNode_any (n : Int) : Calls Try.prog 49 #[.pointer (some ⟨g, 0, none⟩), I n] w fun e w' => e = .returned (.bool (decide (0 ≤ n ∧ n < size))) ∧ w' = w := by
  obtain ⟨_, _, a2, _⟩ := h.cellsA
  clear h
  by_cases h0 : 0 ≤ n
  · by_cases h1 : n < size
    · rw [decide_eq_true (p := 0 ≤ n ∧ n < size) ⟨h0, h1⟩]
      go_enter Try.func49, Try.ntmps49
      go_wp2
      go_ret
      exact ⟨by simp, rfl⟩
    · rw [decide_eq_false (p := 0 ≤ n ∧ n < size) (fun h => h1 h.2)]
      go_enter Try.func49, Try.ntmps49
      go_wp2
      go_ret
      exact ⟨by simp, rfl⟩
  · rw [decide_eq_false (p := 0 ≤ n ∧ n < size) (fun h => h0 h.1)]
    go_enter Try.func49, Try.ntmps49
    go_wp2
    go_ret
    exact ⟨by simp, rfl⟩
set_option maxHeartbeats 800000 in
theorem hasList_any (n : Int) : Calls Try.prog 50 #[.pointer (some ⟨g, 0, none⟩), I n] w fun e w' => e = .returned (.bool (decide (0 ≤ n ∧ n < nl))) ∧ w' = w := by
  obtain ⟨_, a1, _⟩ := h.cellsA
  clear h
  by_cases h0 : 0 ≤ n
  · by_cases h1 : n < nl
    · rw [decide_eq_true (p := 0 ≤ n ∧ n < nl) ⟨h0, h1⟩]
      go_enter Try.func50, Try.ntmps50
      go_wp2
      go_ret
      exact ⟨by simp, rfl⟩
    · rw [decide_eq_false (p := 0 ≤ n ∧ n < nl) (fun h => h1 h.2)]
      go_enter Try.func50, Try.ntmps50
      go_wp2
      go_ret
      exact ⟨by simp, rfl⟩
  · rw [decide_eq_false (p := 0 ≤ n ∧ n < nl) (fun h => h0 h.1)]
    go_enter Try.func50, Try.ntmps50
    go_wp2
    go_ret
    exact ⟨by simp, rfl⟩
omit h in
set_option maxHeartbeats 800000 in
theorem isEnd_any (n : Int) (w : World) : Calls Try.prog 51 #[I n] w fun e w' => e = .returned (.bool (decide (n = 0 ∨ n = 1))) ∧ w' = w := by
  by_cases h0 : n = 0
  · subst h0
    go_enter Try.func51, Try.ntmps51
    go_wp2
    go_ret
    exact ⟨rfl, rfl⟩
  · by_cases h1 : n = 1
    · subst h1
      go_enter Try.func51, Try.ntmps51
      go_wp2
      go_ret
      exact ⟨rfl, rfl⟩
    · have k0 : (n == 0) = false := by simp [h0]
      have k1 : (n == 1) = false := by simp [h1]
      rw [decide_eq_false (p := n = 0 ∨ n = 1) (by omega)]
      go_enter Try.func51, Try.ntmps51
      go_wp2
      go_ret
      exact ⟨rfl, rfl⟩
omit h in
set_option maxHeartbeats 800000 in
theorem found_any (r : Option Nat) (w : World) : Calls Try.prog 78 #[I (enc r)] w fun e w' => e = .returned (.tuple #[I (r.getD 0 : Nat), .bool r.isSome]) ∧ w' = w := by
  cases r with
  | none =>
    show Calls Try.prog 78 #[I (-1)] w _
    go_enter Try.func78, Try.ntmps78
    go_wp2
    go_ret2
    exact ⟨rfl, rfl⟩
  | some x =>
    show Calls Try.prog 78 #[I (x : Int)] w _
    have k : ((x : Int) == -1) = false := by simp
    go_enter Try.func78, Try.ntmps78
    go_wp2
    go_ret2
    exact ⟨rfl, rfl⟩
set_option maxHeartbeats 800000 in
theorem isLinked_any (n : Int) : Calls Try.prog 52 #[.pointer (some ⟨g, 0, none⟩), I n] w fun e w' => e = .returned (.bool (decide (0 ≤ n ∧ n < used ∧ c.li n.toNat ≠ -1))) ∧ w' = w := by
  obtain ⟨_, _, _, a3, _⟩ := h.cellsA
  by_cases h0 : 0 ≤ n
  · by_cases h1 : n < used
    · obtain ⟨x, rfl⟩ := Int.eq_ofNat_of_zero_le h0
      have hx : x < used := by omega
      obtain ⟨b, hb⟩ := h.page hx
      obtain ⟨_, _, s2, _, _⟩ := h.cellsS (Nat.lt_of_lt_of_le hx h.us) hb
      have HA := show Hid (Calls Try.prog 58 #[.pointer (some ⟨g, 0, none⟩), I x] w fun e w' => e = .returned (.pointer (some ⟨b, x % 64 * 4, none⟩)) ∧ w' = w) from at_any h (Nat.lt_of_lt_of_le hx h.us) hb
      clear h
      rw [show decide (0 ≤ (x : Int) ∧ (x : Int) < used ∧ c.li (x : Int).toNat ≠ -1) = (c.li x != -1) by
        rw [Int.toNat_natCast, bne]
        by_cases hl : c.li x = -1
        · simp [hl]
        · simp [hl, h1]]
      go_enter Try.func52, Try.ntmps52
      go_wp2_with fail
      refine HA.out.mono ?_
      rintro e w1 ⟨rfl, rfl⟩
      go_wp2
      go_ret
      exact ⟨rfl, rfl⟩
    · rw [decide_eq_false (p := 0 ≤ n ∧ n < used ∧ c.li n.toNat ≠ -1) (fun h => h1 h.2.1)]
      have k1 : decide (n < used) = false := by simp; omega
      clear h
      go_enter Try.func52, Try.ntmps52
      go_wp2
      go_ret
      exact ⟨rfl, rfl⟩
  · rw [decide_eq_false (p := 0 ≤ n ∧ n < used ∧ c.li n.toNat ≠ -1) (fun h => h0 h.1)]
    clear h
    go_enter Try.func52, Try.ntmps52
    go_wp2
    go_ret
    exact ⟨rfl, rfl⟩

/-- why nothing can be done with a node -/
def refuse (size used : Nat) (li : Nat → Int) (n : Int) : Int := if 0 ≤ n ∧ n < size then (if 0 ≤ n ∧ n < used ∧ li n.toNat ≠ -1 then 0 else 53) else 1
set_option maxHeartbeats 800000 in
theorem refusal_any (n : Int) : Calls Try.prog 55 #[.pointer (some ⟨g, 0, none⟩), I n] w fun e w' => e = .returned (I (refuse size used c.li n)) ∧ w' = w := by
  have H1 := show Hid _ from hasNode_any h n
  have H2 := show Hid _ from isLinked_any h n
  clear h
  unfold refuse
  by_cases h1 : 0 ≤ n ∧ n < size
  · rw [if_pos h1]
    rw [decide_eq_true h1] at H1
    by_cases h2 : 0 ≤ n ∧ n < used ∧ c.li n.toNat ≠ -1
    · rw [if_pos h2]
      rw [decide_eq_true h2] at H2
      clear h1 h2
      go_enter Try.func55, Try.ntmps55
      go_wp2_with fail
      refine Calls.mono H1.out ?_
      rintro e w1 ⟨rfl, rfl⟩
      go_wp2_with fail
      refine Calls.mono H2.out ?_
      rintro e w1 ⟨rfl, rfl⟩
      go_wp2
      go_ret
      exact ⟨rfl, rfl⟩
    · rw [if_neg h2]
      rw [decide_eq_false h2] at H2
      clear h1 h2
      go_enter Try.func55, Try.ntmps55
      go_wp2_with fail
      refine Calls.mono H1.out ?_
      rintro e w1 ⟨rfl, rfl⟩
      go_wp2_with fail
      refine Calls.mono H2.out ?_
      rintro e w1 ⟨rfl, rfl⟩
      go_wp2
      go_ret
      exact ⟨rfl, rfl⟩
  · rw [if_neg h1]
    rw [decide_eq_false h1] at H1
    clear h1
    go_enter Try.func55, Try.ntmps55
    go_wp2_with fail
    refine Calls.mono H1.out ?_
    rintro e w1 ⟨rfl, rfl⟩
    go_wp2
    go_ret
    exact ⟨rfl, rfl⟩
end
end Go.Proofs.Ytoeioppmlnognaa.Ar
