import Derived.Test.YtoeioppmlnognaaArTake
namespace Go.Proofs.Ytoeioppmlnognaa.Ar
open Go.RowKit

theorem info92 : (Try.prog.info? 92).map (fun i => (i.zero, i.size, i.bytes)) = some (some (.agg #[.int .i64 0, .int .i64 0, .int .i64 0]), 3, 24) := by kernel_rfl
theorem mk_chain (m j : Nat) (h : j < m) : (madeCells (Value.agg #[.int .i64 0, .int .i64 0, .int .i64 0]).cells m)[j]? = some (I 0) := by
  have e1 : (Value.agg #[.int .i64 0, .int .i64 0, .int .i64 0]).cells = #[.int .i64 0, .int .i64 0, .int .i64 0] := rfl
  rw [e1]
  simp only [madeCells]
  simp [h]
  have hm : j % 3 < 3 := by omega
  generalize j % 3 = k at hm
  match k, hm with
  | 0, _ => rfl
  | 1, _ => rfl
  | 2, _ => rfl
/-- make([]chain, n) -/
theorem mk_chains (n : Nat) (hn : n ≤ 256) : ∃ M : Array Value, (∀ u : World, (Instr.makeSlice 83 (.int .i64 (n : Int)) (.int .i64 (n : Int))).run Try.prog u = .ok (.slice (some ⟨u.heap.size, 0, none⟩) n n) (u.alloc (.cells M 92))) ∧ ∀ j, j < n * 3 → M[j]? = some (I 0) := by
  obtain ⟨i0, hi, hz0, hz1, hz2⟩ := info_parts info92
  refine ⟨madeCells (Value.agg #[.int .i64 0, .int .i64 0, .int .i64 0]).cells (n * 3), fun u => ?_, fun j hj => mk_chain _ _ hj⟩
  have h := run_make (P := Try.prog) u 83 92 i0 (.agg #[.int .i64 0, .int .i64 0, .int .i64 0]) Try.underlying83 hi hz0 .i64 .i64 (n : Int) (n : Int) (by omega) (Int.le_refl _) (by rw [hz2]; omega) (by omega)
  have e : (n : Int).toNat = n := by omega
  rw [e, hz1] at h
  exact h
/-- k lists are empty ones -/
def Ch (w : World) (b n k : Nat) : Prop := ∃ cs, w.heap[b]? = some (.cells cs 92 (0, 0)) ∧ ∀ i, i < n → cs[i * 3]? = some (I (if i < k then -1 else 0)) ∧ cs[i * 3 + 1]? = some (I (if i < k then -1 else 0)) ∧ cs[i * 3 + 2]? = some (I 0)
theorem Ch.put {w : World} {b n k : Nat} (h : Ch w b n k) (_hk : k < n) : Ch ((w.setCell ⟨b, k * 3, none⟩ (I (-1))).setCell ⟨b, k * 3 + 1, none⟩ (I (-1))) b n (k + 1) := by
  obtain ⟨cs, h1, h2⟩ := h
  refine ⟨_, set_blk (set_blk h1), fun i hi => ?_⟩
  obtain ⟨a1, a2, a3⟩ := h2 i hi
  refine ⟨?_, ?_, ?_⟩
  · rw [set_get (set_get a1), if_neg (by omega)]
    by_cases e : i = k
    · subst e; rw [if_pos rfl, if_pos (by omega)]
    · rw [if_neg (by omega)]
      by_cases h3 : i < k
      · rw [if_pos h3, if_pos (by omega)]
      · rw [if_neg h3, if_neg (by omega)]
  · rw [set_get (set_get a2)]
    by_cases e : i = k
    · subst e; rw [if_pos rfl, if_pos (by omega)]
    · rw [if_neg (by omega), if_neg (by omega)]
      by_cases h3 : i < k
      · rw [if_pos h3, if_pos (by omega)]
      · rw [if_neg h3, if_neg (by omega)]
  · rw [set_get (set_get a3), if_neg (by omega), if_neg (by omega)]
theorem Ch.cells {w : World} {b n k : Nat} (h : Ch w b n k) {i : Nat} (hi : i < n) : (∃ v, w.cell? ⟨b, i * 3, none⟩ = some v) ∧ (∃ v, w.cell? ⟨b, i * 3 + 1, none⟩ = some v) ∧ ∀ j, w.frozen? ⟨b, j, none⟩ = false := by
  obtain ⟨cs, h1, h2⟩ := h
  obtain ⟨a1, a2, _⟩ := h2 i hi
  exact ⟨⟨_, by simp [World.cell?, h1, a1]; rfl⟩, ⟨_, by simp [World.cell?, h1, a2]; rfl⟩, fun j => by simp [World.frozen?, h1]⟩

set_option maxHeartbeats 1600000 in
set_option maxRecDepth 100000 in
theorem lists_any (w : World) (n : Nat) (hn : n ≤ 256) : Calls Try.prog 60 #[I n] w fun r w' => r = .returned (.slice (some ⟨w.heap.size, 0, none⟩) n n) ∧ Ch w' w.heap.size n n ∧ Below w.heap.size w w' ∧ w'.heap.size = w.heap.size + 1 := by
  obtain ⟨M, hmk, hM⟩ := mk_chains n hn
  have hz : Ch (w.alloc (.cells M 92)) w.heap.size n 0 := ⟨M, heap_alloc_new w _, fun i hi => ⟨hM _ (by omega), hM _ (by omega), hM _ (by omega)⟩⟩
  have HZ := show Hid _ from hz
  have hn2 : (n : Int) ≤ 256 := by omega
  clear hz hM hn
  go_enter Try.func60, Try.ntmps60
  go_wp2
  go_loopw [9] (fun i wr => ∃ k : Nat, k ≤ n ∧ i = .int .i64 k ∧ Ch wr w.heap.size n k ∧ Below w.heap.size w wr ∧ wr.heap.size = w.heap.size + 1) (fun i _ => n - (intOf i).toNat)
  case atStart => exact ⟨0, Nat.zero_le _, rfl, HZ.out, (Below.refl _ w).alloc (Nat.le_refl _) _, by simp⟩
  case round =>
    obtain ⟨k, hk, rfl, hC, hB, hS⟩ := hrel
    have HC := show Hid _ from And.intro hC (And.intro hB hS)
    clear hB hS
    by_cases hlt : k < n
    · obtain ⟨⟨v0, c0⟩, ⟨v1, c1⟩, cf⟩ := hC.cells hlt
      have hlt2 : (k : Int) < (n : Int) := by omega
      clear hC
      go_wp2
      go_roundw
      case rel => exact ⟨k + 1, by omega, by go_num, HC.out.1.put hlt, (HC.out.2.1.setCell (by simp) _).setCell (by simp) _, by rw [World.setCell, World.setCell]; simpa using HC.out.2.2⟩
      case measure => simp [intOf]; omega
    · obtain rfl : k = n := by omega
      clear hC
      go_wp2
      go_ret
      exact ⟨rfl, HC.out.1, HC.out.2.1, HC.out.2.2⟩

/-- a new arena -/
def As.new (n l : Nat) : As := ⟨n, l, 0, fun _ => [], [], fun _ => 0⟩
theorem tl_nil (l : Nat) : tl (fun _ => []) l = 0 := by
  induction l with
  | zero => rfl
  | succ l ih => simp only [tl, ih]; rfl
theorem new_inv (n l : Nat) : Inv ⟨fun _ _ => 0, fun _ => 0, fun _ => 0, fun _ _ => -1, fun _ => 0⟩ (As.new n l) [] := by
  refine ⟨Nat.zero_le _, fun _ _ => List.nodup_nil, fun _ _ x hx => (by cases hx), fun _ _ p x q hs => ?_, fun _ _ e _ => ?_, fun _ _ => rfl, List.nodup_nil, fun x hx => (by cases hx), fun p x q hs => ?_, fun x hx => (by cases hx), fun x hx => ?_, ?_⟩
  · have := congrArg List.length hs
    simp [As.new] at this
  · simp [As.new]
  · have := congrArg List.length hs
    simp [As.new] at this
  · simp [As.new] at hx
  · simp [As.new, tl_nil]
theorem new_ar {w w' : World} {n l : Nat} (hn : n ≤ 4194304) (hl : l ≤ 256) (hC : Ch w' w.heap.size l l) (_hB : Below w.heap.size w w') :
    IsAr (w'.alloc (.cells #[.slice none 0 0, .slice (some ⟨w.heap.size, 0, none⟩) l l, I n, I 0, I n, I (-1)] 85)) w'.heap.size ⟨w.heap.size, some ⟨w.heap.size, 0, none⟩, l, .slice none 0 0, [], fun _ => 0⟩ (As.new n l) := by
  refine ⟨_, ⟨heap_alloc_new w' _, fun _ => rfl, fun _ => ?_, ⟨rfl, Or.inl ⟨rfl, rfl⟩⟩, fun k b hk => (by cases hk), List.nodup_nil, by simp [As.new], Nat.zero_le _, hn, hl, ⟨_, rfl⟩⟩, new_inv n l⟩
  obtain ⟨cs, h1, h2⟩ := hC
  refine ⟨cs, (Below.heap_alloc w' _ _ (Array.getElem?_eq_some_iff.1 h1).1).trans h1, fun i hi => ?_⟩
  obtain ⟨a1, a2, a3⟩ := h2 i hi
  have hi' : i < l := hi
  rw [if_pos hi'] at a1 a2
  exact ⟨a1, a2, a3⟩
/-- may an arena be? -/
def okA (n l : Int) : Prop := (0 ≤ n ∧ n ≤ 4194304) ∧ 0 ≤ l ∧ l ≤ 256
/-- a new arena, in memory of its own -/
def Born (w : World) (a : As) (g : Nat) (w' : World) : Prop := ∃ o, IsAr w' g o a ∧ Below w.heap.size w w' ∧ ∀ k ∈ o.foot g a.nl, w.heap.size ≤ k

set_option maxHeartbeats 1600000 in
set_option maxRecDepth 100000 in
theorem new_ok (w : World) (n l : Int) (h : okA n l) : Calls Try.prog 29 #[I n, I l] w fun r w' => ∃ g, r = .returned (.tuple #[.pointer (some ⟨g, 0, none⟩), I 0]) ∧ Born w (As.new n.toNat l.toNat) g w' := by
  obtain ⟨⟨h0, h1⟩, h2, h3⟩ := h
  obtain ⟨n, rfl⟩ := Int.eq_ofNat_of_zero_le h0
  obtain ⟨l, rfl⟩ := Int.eq_ofNat_of_zero_le h2
  have HL := show Hid _ from lists_any w l (by omega)
  have q0 : decide ((n : Int) < 0) = false := by simp
  have q1 : decide ((4194304 : Int) < (n : Int)) = false := by simp; omega
  have q2 : decide ((l : Int) < 0) = false := by simp
  have q3 : decide ((256 : Int) < (l : Int)) = false := by simp; omega
  rw [Int.toNat_natCast, Int.toNat_natCast]
  go_enter Try.func29, Try.ntmps29
  go_wp2_with fail
  refine Calls.mono HL.out ?_
  rintro r w1 ⟨rfl, hC, hB, hS⟩
  have HC := show Hid _ from And.intro hC (And.intro hB hS)
  clear hC hB hS
  go_wp2
  go_ret2
  refine ⟨_, rfl, _, new_ar (by omega) (by omega) HC.out.1 HC.out.2.1, HC.out.2.1.alloc HC.out.2.1.size _, fun k hk => ?_⟩
  have hS := HC.out.2.2
  simp only [Lo.foot, List.mem_cons, List.mem_append, Option.mem_toList, Value.ownBlock, reduceCtorEq, List.not_mem_nil, or_false] at hk
  rcases hk with rfl | hk
  · omega
  · split at hk
    · have : k = w.heap.size := by simpa using hk
      omega
    · cases hk
set_option maxHeartbeats 1600000 in
theorem new_no (w : World) (n l : Int) (h : ¬ okA n l) : Calls Try.prog 29 #[I n, I l] w fun r w' => r = .returned (.tuple #[.pointer none, I 1]) ∧ w' = w := by
  by_cases h0 : n < 0
  · go_enter Try.func29, Try.ntmps29
    go_wp2
    go_ret2
    exact ⟨rfl, rfl⟩
  by_cases h1 : 4194304 < n
  · have q0 : decide (n < 0) = false := by simp; omega
    go_enter Try.func29, Try.ntmps29
    go_wp2
    go_ret2
    exact ⟨rfl, rfl⟩
  by_cases h2 : l < 0
  · have q0 : decide (n < 0) = false := by simp; omega
    have q1 : decide ((4194304 : Int) < n) = false := by simp; omega
    go_enter Try.func29, Try.ntmps29
    go_wp2
    go_ret2
    exact ⟨rfl, rfl⟩
  by_cases h3 : 256 < l
  · have q0 : decide (n < 0) = false := by simp; omega
    have q1 : decide ((4194304 : Int) < n) = false := by simp; omega
    have q2 : decide (l < 0) = false := by simp; omega
    go_enter Try.func29, Try.ntmps29
    go_wp2
    go_ret2
    exact ⟨rfl, rfl⟩
  · exact absurd ⟨⟨by omega, by omega⟩, by omega, by omega⟩ h
end Go.Proofs.Ytoeioppmlnognaa.Ar
