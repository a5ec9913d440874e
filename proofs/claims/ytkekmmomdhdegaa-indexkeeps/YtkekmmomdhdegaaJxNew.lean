import Derived.Test.YtkekmmomdhdegaaJxDrop
import Derived.Test.YtkekmmomdhdegaaPureIx3
import Derived.Test.YtkekmmomdhdegaaShelfB
namespace Go.Proofs.Ytkekmmomdhdegaa.Ij
open Go.RowKit Go.Proofs.Ytkekmmomdhdegaa.Ix

/-- an index is born -/
def Born (w : World) (a : Ix El) (g : Nat) (w' : World) : Prop := ∃ o, IsIx w' g o a ∧ Below w.heap.size w w' ∧ ∀ k ∈ o.foot g, w.heap.size ≤ k
set_option maxHeartbeats 1600000 in
theorem new_no (m : Int) (hm : m < 0 ∨ 4194304 < m) (w : World) : Calls Try.prog 17 #[I m] w fun e w' => e = .returned (.tuple #[.pointer none, I 1]) ∧ w' = w := by
  by_cases h0 : m < 0
  · go_enter Try.func17, Try.ntmps17
    go_wp2
    go_ret2
    exact ⟨rfl, rfl⟩
  · have h1 : 4194304 < m := by omega
    have h2 : decide (m < 0) = false := decide_eq_false h0
    go_enter Try.func17, Try.ntmps17
    go_wp2
    go_ret2
    exact ⟨rfl, rfl⟩
set_option maxHeartbeats 1600000 in
set_option maxRecDepth 100000 in
theorem new_ok (m : Nat) (hm : m ≤ 4194304) (w : World) : Calls Try.prog 17 #[I m] w fun e w' => ∃ g, e = .returned (.tuple #[.pointer (some ⟨g, 0, none⟩), I 0]) ∧ Born w (Ix.new (dbl m) m) g w' := by
  have hL := fun u => Any.bits_Len Try.bitsLen ((max m 1 - 1 : Nat) : Int) u (by omega) (by omega)
  rw [Int.toNat_natCast] at hL
  change ∀ u, Calls Try.prog 39 _ _ _ at hL
  have h0 : ¬ (m : Int) < 0 := by omega
  have h1 : (m : Int) ≤ 4194304 := by omega
  have HL := show Hid _ from hL
  have hd : dbl m = Lib.bitLen (max m 1 - 1) := rfl
  go_enter Try.func17, Try.ntmps17
  go_wp2_with fail
  rw [show max (m : Int) 1 - 1 = ((max m 1 - 1 : Nat) : Int) by omega]
  refine Calls.mono (HL.out w) ?_
  rintro e w1 ⟨rfl, rfl⟩
  change Ix.dbl m = _ at hd
  rw [← hd]
  clear hL HL hd
  go_wp2
  go_ret2
  refine ⟨_, rfl, ⟨0, 0, 0, fun _ => none⟩, ⟨⟨heap_alloc_new _ _, Or.inl rfl, fun h => absurd h (Nat.lt_irrefl 0), fun k p hk => absurd hk (by simp), fun k k' p hk => absurd hk (by simp), fun k _ j _ => rfl⟩, Ok.new (dbl_le hm) (dbl_ub hm)⟩, (Below.refl _ _).alloc (Nat.le_refl _) _, fun k hk => ?_⟩
  rcases Lo.mem_foot.1 hk with rfl | ⟨h, _⟩ | ⟨i, h, _⟩
  · exact Nat.le_refl _
  · exact absurd h (Nat.lt_irrefl 0)
  · exact absurd h (Nat.not_lt_zero i)
end Go.Proofs.Ytkekmmomdhdegaa.Ij
