import Derived.Test.YtelbakkgobkdaaaDoorVfBel
namespace Go.Proofs.YtelbakkgobkdaaaDoor.Vf
open Go.RowKit

theorem or_bits {v r x : Nat} (hv : v < 18446744073709551616) (hr : r < 64) (h : (v ||| 2 ^ r : Nat) = x) : bits .or .u64 (v : Int) (IntKind.u64.wrap (2 ^ r)) = (x : Int) := by
  have h3 : (2 : Nat) ^ 64 = 18446744073709551616 := by decide
  have hp : 2 ^ r < 2 ^ 64 := Nat.pow_lt_pow_right (by omega) hr
  have e : IntKind.u64.wrap (2 ^ r) = ((2 ^ r : Nat) : Int) := by
    rw [IntKind.wrap_u64, show (2 ^ r : Int) = ((2 ^ r : Nat) : Int) by simp]
    generalize (2 : Nat) ^ r = y at *
    omega
  rw [e, bits_or_u64_nat _ _ hv (by omega), h]
theorem not_bits {v r x : Nat} (hv : v < 18446744073709551616) (hr : r < 64) (h : (v &&& (18446744073709551615 - 2 ^ r) : Nat) = x) : bits .andNot .u64 (v : Int) (IntKind.u64.wrap (2 ^ r)) = (x : Int) := by
  have h3 : (2 : Nat) ^ 64 = 18446744073709551616 := by decide
  have hp : 2 ^ r < 2 ^ 64 := Nat.pow_lt_pow_right (by omega) hr
  have e : IntKind.u64.wrap (2 ^ r) = ((2 ^ r : Nat) : Int) := by
    rw [IntKind.wrap_u64, show (2 ^ r : Int) = ((2 ^ r : Nat) : Int) by simp]
    generalize (2 : Nat) ^ r = y at *
    omega
  rw [e, bits_andNot_u64_nat _ _ hv (by omega), h]
set_option maxHeartbeats 3200000 in
set_option maxRecDepth 100000 in
theorem with_num (ty : List Bool) (hh : ty.length < 256) (w : World) :
    Calls Tryd.prog 102 #[.agg (opV ty).toArray, .int .i64 1] w fun e w' => e = .returned (.agg (opV (ty ++ [false])).toArray) ∧ Below w.heap.size w w' := by
  unfold opV
  rw [wd_snoc_f, wd_snoc_f, wd_snoc_f, wd_snoc_f, List.length_append, List.length_singleton]
  generalize (wd ty 0 : Int) = v0
  generalize (wd ty 1 : Int) = v1
  generalize (wd ty 2 : Int) = v2
  generalize (wd ty 3 : Int) = v3
  have hm1 : (ty.length : Int) < 256 := by omega
  generalize ty.length = h at *
  go_enter Tryd.func102, Tryd.ntmps102
  go_wp2_with fail
  refine bodyPost_ret ?_ rfl ⟨rfl, ((Below.refl _ w).alloc (Nat.le_refl _) _).alloc (by simp) _⟩
  simp [results, Tryd.results102, go_sem]
set_option maxHeartbeats 6400000 in
set_option maxRecDepth 100000 in
theorem with_tru (ty : List Bool) (hh : ty.length < 256) (w : World) :
    Calls Tryd.prog 102 #[.agg (opV ty).toArray, .int .i64 2] w fun e w' => e = .returned (.agg (opV (ty ++ [true])).toArray) ∧ Below w.heap.size w w' := by
  have ho := or_bits (wd_lt ty _) (Nat.mod_lt ty.length (by omega)) (wd_snoc_or ty)
  have hn := fun j => wd_snoc_ne ty true j
  obtain ⟨v0, e0⟩ : ∃ v, v = wd ty 0 := ⟨_, rfl⟩
  obtain ⟨v1, e1⟩ : ∃ v, v = wd ty 1 := ⟨_, rfl⟩
  obtain ⟨v2, e2⟩ : ∃ v, v = wd ty 2 := ⟨_, rfl⟩
  obtain ⟨v3, e3⟩ : ∃ v, v = wd ty 3 := ⟨_, rfl⟩
  obtain ⟨r, hr⟩ : ∃ r, r = ty.length % 64 := ⟨_, rfl⟩
  have hr64 : r < 64 := by omega
  rw [← hr] at ho
  unfold opV
  rw [List.length_append, List.length_singleton]
  have hm1 : (ty.length : Int) < 256 := by omega
  have hq : ty.length / 64 = 0 ∨ ty.length / 64 = 1 ∨ ty.length / 64 = 2 ∨ ty.length / 64 = 3 := by omega
  have hr' : ty.length % 64 = r := hr.symm
  clear hr
  rcases hq with hq | hq | hq | hq
  all_goals
    rw [hq] at ho hn
    first
      | rw [hn 1 (by omega), hn 2 (by omega), hn 3 (by omega)]
      | rw [hn 0 (by omega), hn 2 (by omega), hn 3 (by omega)]
      | rw [hn 0 (by omega), hn 1 (by omega), hn 3 (by omega)]
      | rw [hn 0 (by omega), hn 1 (by omega), hn 2 (by omega)]
    clear hn
    simp only [← e0, ← e1, ← e2, ← e3] at ho ⊢
    clear e0 e1 e2 e3 hh
    generalize ty.length = h at *
    go_enter Tryd.func102, Tryd.ntmps102
    go_wp2_with fail
    go_region
    go_wp2_with fail
    refine bodyPost_ret ?_ rfl ⟨rfl, (((Below.refl _ w).alloc (Nat.le_refl _) _).alloc (by simp) _).drew⟩
    simp [results, Tryd.results102, go_sem]
end Go.Proofs.YtelbakkgobkdaaaDoor.Vf
