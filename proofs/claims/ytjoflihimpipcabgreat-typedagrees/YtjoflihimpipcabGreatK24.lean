import Derived.Test.YtjoflihimpipcabGreatK09
set_option maxHeartbeats 12800000
namespace Go.Proofs.YtjoflihimpipcabGreat.Nm.Ty
open Go.RowKit Go.Maps Go.Proofs.YtjoflihimpipcabGreat.Sp Go.Proofs.YtjoflihimpipcabGreat.Lx Go.Proofs.YtjoflihimpipcabGreat.Gr
theorem changing_any (x : Prt) (w : World) : Calls Tryz.prog 61 #[x.V] w fun e w' => e = .returned (.bool x.changing) ∧ Below w.heap.size w w' := by
  cases x with
  | dng a b c =>
    have a0 : ∀ w : World, (Instr.typeAssert (.iface 154 (.agg #[.int .i64 a, .int .i64 b, .int .i64 c])) 86 145 true).run Tryz.prog w = .ok (.tuple #[.agg #[.int .i64 0], .bool false]) w := fun _ => by kernel_rfl
    show Calls Tryz.prog 61 #[.iface 154 (.agg #[.int .i64 a, .int .i64 b, .int .i64 c])] w _
    go_enter Tryz.func61, Tryz.ntmps61
    go_wp2
    go_ret
    exact ⟨rfl, (Below.refl _ w).alloc (Nat.le_refl _) _⟩
  | wri t n =>
    have a0 : ∀ w : World, (Instr.typeAssert (.iface 139 (.agg #[.int .i64 t, .int .i64 n])) 86 145 true).run Tryz.prog w = .ok (.tuple #[.agg #[.int .i64 0], .bool false]) w := fun _ => by kernel_rfl
    show Calls Tryz.prog 61 #[.iface 139 (.agg #[.int .i64 t, .int .i64 n])] w _
    go_enter Tryz.func61, Tryz.ntmps61
    go_wp2
    go_ret
    exact ⟨rfl, (Below.refl _ w).alloc (Nat.le_refl _) _⟩
  | cpy q =>
    have a0 : ∀ w : World, (Instr.typeAssert (.iface 141 (.agg #[.int .i64 q])) 86 145 true).run Tryz.prog w = .ok (.tuple #[.agg #[.int .i64 0], .bool false]) w := fun _ => by kernel_rfl
    show Calls Tryz.prog 61 #[.iface 141 (.agg #[.int .i64 q])] w _
    go_enter Tryz.func61, Tryz.ntmps61
    go_wp2
    go_ret
    exact ⟨rfl, (Below.refl _ w).alloc (Nat.le_refl _) _⟩
  | siz  =>
    have a0 : ∀ w : World, (Instr.typeAssert (.iface 143 (.agg #[])) 86 145 true).run Tryz.prog w = .ok (.tuple #[.agg #[.int .i64 0], .bool false]) w := fun _ => by kernel_rfl
    show Calls Tryz.prog 61 #[.iface 143 (.agg #[])] w _
    go_enter Tryz.func61, Tryz.ntmps61
    go_wp2
    go_ret
    exact ⟨rfl, (Below.refl _ w).alloc (Nat.le_refl _) _⟩
  | chg t =>
    have a0 : ∀ w : World, (Instr.typeAssert (.iface 145 (.agg #[.int .i64 t])) 86 145 true).run Tryz.prog w = .ok (.tuple #[.agg #[.int .i64 t], .bool true]) w := fun _ => by kernel_rfl
    show Calls Tryz.prog 61 #[.iface 145 (.agg #[.int .i64 t])] w _
    go_enter Tryz.func61, Tryz.ntmps61
    go_wp2
    go_ret
    exact ⟨rfl, (Below.refl _ w).alloc (Nat.le_refl _) _⟩
  | rck k =>
    have a0 : ∀ w : World, (Instr.typeAssert (.iface 147 (.agg #[.int .i64 k])) 86 145 true).run Tryz.prog w = .ok (.tuple #[.agg #[.int .i64 0], .bool false]) w := fun _ => by kernel_rfl
    show Calls Tryz.prog 61 #[.iface 147 (.agg #[.int .i64 k])] w _
    go_enter Tryz.func61, Tryz.ntmps61
    go_wp2
    go_ret
    exact ⟨rfl, (Below.refl _ w).alloc (Nat.le_refl _) _⟩
  | cmp k =>
    have a0 : ∀ w : World, (Instr.typeAssert (.iface 148 (.agg #[.int .i64 k])) 86 145 true).run Tryz.prog w = .ok (.tuple #[.agg #[.int .i64 0], .bool false]) w := fun _ => by kernel_rfl
    show Calls Tryz.prog 61 #[.iface 148 (.agg #[.int .i64 k])] w _
    go_enter Tryz.func61, Tryz.ntmps61
    go_wp2
    go_ret
    exact ⟨rfl, (Below.refl _ w).alloc (Nat.le_refl _) _⟩
  | joi k =>
    have a0 : ∀ w : World, (Instr.typeAssert (.iface 149 (.agg #[.int .i64 k])) 86 145 true).run Tryz.prog w = .ok (.tuple #[.agg #[.int .i64 0], .bool false]) w := fun _ => by kernel_rfl
    show Calls Tryz.prog 61 #[.iface 149 (.agg #[.int .i64 k])] w _
    go_enter Tryz.func61, Tryz.ntmps61
    go_wp2
    go_ret
    exact ⟨rfl, (Below.refl _ w).alloc (Nat.le_refl _) _⟩
  | lik k =>
    have a0 : ∀ w : World, (Instr.typeAssert (.iface 150 (.agg #[.int .i64 k])) 86 145 true).run Tryz.prog w = .ok (.tuple #[.agg #[.int .i64 0], .bool false]) w := fun _ => by kernel_rfl
    show Calls Tryz.prog 61 #[.iface 150 (.agg #[.int .i64 k])] w _
    go_enter Tryz.func61, Tryz.ntmps61
    go_wp2
    go_ret
    exact ⟨rfl, (Below.refl _ w).alloc (Nat.le_refl _) _⟩
theorem asked_any (x : Prt) (kid : Nat) (first : Int) (w : World) : Calls Tryz.prog 94 #[x.V, .int .i64 kid, .int .i64 first] w fun e w' => e = .returned (.int .i64 (x.asked kid first)) ∧ Below w.heap.size w w' := by
  cases x with
  | dng a b c =>
    have a0 : ∀ w : World, (Instr.typeAssert (.iface 154 (.agg #[.int .i64 a, .int .i64 b, .int .i64 c])) 86 154 true).run Tryz.prog w = .ok (.tuple #[.agg #[.int .i64 a, .int .i64 b, .int .i64 c], .bool true]) w := fun _ => by kernel_rfl
    have a1 : ∀ w : World, (Instr.typeAssert (.iface 154 (.agg #[.int .i64 a, .int .i64 b, .int .i64 c])) 86 147 true).run Tryz.prog w = .ok (.tuple #[.agg #[.int .i64 0], .bool false]) w := fun _ => by kernel_rfl
    have a2 : ∀ w : World, (Instr.typeAssert (.iface 154 (.agg #[.int .i64 a, .int .i64 b, .int .i64 c])) 86 148 true).run Tryz.prog w = .ok (.tuple #[.agg #[.int .i64 0], .bool false]) w := fun _ => by kernel_rfl
    have a3 : ∀ w : World, (Instr.typeAssert (.iface 154 (.agg #[.int .i64 a, .int .i64 b, .int .i64 c])) 86 149 true).run Tryz.prog w = .ok (.tuple #[.agg #[.int .i64 0], .bool false]) w := fun _ => by kernel_rfl
    have a4 : ∀ w : World, (Instr.typeAssert (.iface 154 (.agg #[.int .i64 a, .int .i64 b, .int .i64 c])) 86 150 true).run Tryz.prog w = .ok (.tuple #[.agg #[.int .i64 0], .bool false]) w := fun _ => by kernel_rfl
    show Calls Tryz.prog 94 #[.iface 154 (.agg #[.int .i64 a, .int .i64 b, .int .i64 c]), _, _] w _
    by_cases h3 : kid < 3
    · obtain rfl | rfl | rfl : kid = 0 ∨ kid = 1 ∨ kid = 2 := by omega
      · go_enter Tryz.func94, Tryz.ntmps94
        go_wp2
        go_ret
        exact ⟨rfl, (Below.refl _ w).alloc (Nat.le_refl _) _⟩
      · go_enter Tryz.func94, Tryz.ntmps94
        go_wp2
        go_ret
        exact ⟨rfl, (Below.refl _ w).alloc (Nat.le_refl _) _⟩
      · go_enter Tryz.func94, Tryz.ntmps94
        go_wp2
        go_ret
        exact ⟨rfl, (Below.refl _ w).alloc (Nat.le_refl _) _⟩
    · have h3' : ¬ (kid : Int) < 3 := by omega
      have HA : Hid ((Prt.dng a b c).asked kid first = 0) := by
        show (if kid = 0 then a else if kid = 1 then b else if kid = 2 then c else 0) = 0
        rw [if_neg (by omega), if_neg (by omega), if_neg (by omega)]
      go_enter Tryz.func94, Tryz.ntmps94
      go_wp2
      go_ret
      rw [HA.out]
      exact ⟨rfl, (Below.refl _ w).alloc (Nat.le_refl _) _⟩
  | wri t n =>
    have a0 : ∀ w : World, (Instr.typeAssert (.iface 139 (.agg #[.int .i64 t, .int .i64 n])) 86 154 true).run Tryz.prog w = .ok (.tuple #[.agg #[.int .i64 0, .int .i64 0, .int .i64 0], .bool false]) w := fun _ => by kernel_rfl
    have a1 : ∀ w : World, (Instr.typeAssert (.iface 139 (.agg #[.int .i64 t, .int .i64 n])) 86 147 true).run Tryz.prog w = .ok (.tuple #[.agg #[.int .i64 0], .bool false]) w := fun _ => by kernel_rfl
    have a2 : ∀ w : World, (Instr.typeAssert (.iface 139 (.agg #[.int .i64 t, .int .i64 n])) 86 148 true).run Tryz.prog w = .ok (.tuple #[.agg #[.int .i64 0], .bool false]) w := fun _ => by kernel_rfl
    have a3 : ∀ w : World, (Instr.typeAssert (.iface 139 (.agg #[.int .i64 t, .int .i64 n])) 86 149 true).run Tryz.prog w = .ok (.tuple #[.agg #[.int .i64 0], .bool false]) w := fun _ => by kernel_rfl
    have a4 : ∀ w : World, (Instr.typeAssert (.iface 139 (.agg #[.int .i64 t, .int .i64 n])) 86 150 true).run Tryz.prog w = .ok (.tuple #[.agg #[.int .i64 0], .bool false]) w := fun _ => by kernel_rfl
    show Calls Tryz.prog 94 #[.iface 139 (.agg #[.int .i64 t, .int .i64 n]), _, _] w _
    go_enter Tryz.func94, Tryz.ntmps94
    go_wp2
    go_ret
    exact ⟨rfl, Below.refl _ _⟩
  | cpy q =>
    have a0 : ∀ w : World, (Instr.typeAssert (.iface 141 (.agg #[.int .i64 q])) 86 154 true).run Tryz.prog w = .ok (.tuple #[.agg #[.int .i64 0, .int .i64 0, .int .i64 0], .bool false]) w := fun _ => by kernel_rfl
    have a1 : ∀ w : World, (Instr.typeAssert (.iface 141 (.agg #[.int .i64 q])) 86 147 true).run Tryz.prog w = .ok (.tuple #[.agg #[.int .i64 0], .bool false]) w := fun _ => by kernel_rfl
    have a2 : ∀ w : World, (Instr.typeAssert (.iface 141 (.agg #[.int .i64 q])) 86 148 true).run Tryz.prog w = .ok (.tuple #[.agg #[.int .i64 0], .bool false]) w := fun _ => by kernel_rfl
    have a3 : ∀ w : World, (Instr.typeAssert (.iface 141 (.agg #[.int .i64 q])) 86 149 true).run Tryz.prog w = .ok (.tuple #[.agg #[.int .i64 0], .bool false]) w := fun _ => by kernel_rfl
    have a4 : ∀ w : World, (Instr.typeAssert (.iface 141 (.agg #[.int .i64 q])) 86 150 true).run Tryz.prog w = .ok (.tuple #[.agg #[.int .i64 0], .bool false]) w := fun _ => by kernel_rfl
    show Calls Tryz.prog 94 #[.iface 141 (.agg #[.int .i64 q]), _, _] w _
    go_enter Tryz.func94, Tryz.ntmps94
    go_wp2
    go_ret
    exact ⟨rfl, Below.refl _ _⟩
  | siz  =>
    have a0 : ∀ w : World, (Instr.typeAssert (.iface 143 (.agg #[])) 86 154 true).run Tryz.prog w = .ok (.tuple #[.agg #[.int .i64 0, .int .i64 0, .int .i64 0], .bool false]) w := fun _ => by kernel_rfl
    have a1 : ∀ w : World, (Instr.typeAssert (.iface 143 (.agg #[])) 86 147 true).run Tryz.prog w = .ok (.tuple #[.agg #[.int .i64 0], .bool false]) w := fun _ => by kernel_rfl
    have a2 : ∀ w : World, (Instr.typeAssert (.iface 143 (.agg #[])) 86 148 true).run Tryz.prog w = .ok (.tuple #[.agg #[.int .i64 0], .bool false]) w := fun _ => by kernel_rfl
    have a3 : ∀ w : World, (Instr.typeAssert (.iface 143 (.agg #[])) 86 149 true).run Tryz.prog w = .ok (.tuple #[.agg #[.int .i64 0], .bool false]) w := fun _ => by kernel_rfl
    have a4 : ∀ w : World, (Instr.typeAssert (.iface 143 (.agg #[])) 86 150 true).run Tryz.prog w = .ok (.tuple #[.agg #[.int .i64 0], .bool false]) w := fun _ => by kernel_rfl
    show Calls Tryz.prog 94 #[.iface 143 (.agg #[]), _, _] w _
    go_enter Tryz.func94, Tryz.ntmps94
    go_wp2
    go_ret
    exact ⟨rfl, Below.refl _ _⟩
  | chg t =>
    have a0 : ∀ w : World, (Instr.typeAssert (.iface 145 (.agg #[.int .i64 t])) 86 154 true).run Tryz.prog w = .ok (.tuple #[.agg #[.int .i64 0, .int .i64 0, .int .i64 0], .bool false]) w := fun _ => by kernel_rfl
    have a1 : ∀ w : World, (Instr.typeAssert (.iface 145 (.agg #[.int .i64 t])) 86 147 true).run Tryz.prog w = .ok (.tuple #[.agg #[.int .i64 0], .bool false]) w := fun _ => by kernel_rfl
    have a2 : ∀ w : World, (Instr.typeAssert (.iface 145 (.agg #[.int .i64 t])) 86 148 true).run Tryz.prog w = .ok (.tuple #[.agg #[.int .i64 0], .bool false]) w := fun _ => by kernel_rfl
    have a3 : ∀ w : World, (Instr.typeAssert (.iface 145 (.agg #[.int .i64 t])) 86 149 true).run Tryz.prog w = .ok (.tuple #[.agg #[.int .i64 0], .bool false]) w := fun _ => by kernel_rfl
    have a4 : ∀ w : World, (Instr.typeAssert (.iface 145 (.agg #[.int .i64 t])) 86 150 true).run Tryz.prog w = .ok (.tuple #[.agg #[.int .i64 0], .bool false]) w := fun _ => by kernel_rfl
    show Calls Tryz.prog 94 #[.iface 145 (.agg #[.int .i64 t]), _, _] w _
    go_enter Tryz.func94, Tryz.ntmps94
    go_wp2
    go_ret
    exact ⟨rfl, Below.refl _ _⟩
  | rck k =>
    have a0 : ∀ w : World, (Instr.typeAssert (.iface 147 (.agg #[.int .i64 k])) 86 154 true).run Tryz.prog w = .ok (.tuple #[.agg #[.int .i64 0, .int .i64 0, .int .i64 0], .bool false]) w := fun _ => by kernel_rfl
    have a1 : ∀ w : World, (Instr.typeAssert (.iface 147 (.agg #[.int .i64 k])) 86 147 true).run Tryz.prog w = .ok (.tuple #[.agg #[.int .i64 k], .bool true]) w := fun _ => by kernel_rfl
    have a2 : ∀ w : World, (Instr.typeAssert (.iface 147 (.agg #[.int .i64 k])) 86 148 true).run Tryz.prog w = .ok (.tuple #[.agg #[.int .i64 0], .bool false]) w := fun _ => by kernel_rfl
    have a3 : ∀ w : World, (Instr.typeAssert (.iface 147 (.agg #[.int .i64 k])) 86 149 true).run Tryz.prog w = .ok (.tuple #[.agg #[.int .i64 0], .bool false]) w := fun _ => by kernel_rfl
    have a4 : ∀ w : World, (Instr.typeAssert (.iface 147 (.agg #[.int .i64 k])) 86 150 true).run Tryz.prog w = .ok (.tuple #[.agg #[.int .i64 0], .bool false]) w := fun _ => by kernel_rfl
    show Calls Tryz.prog 94 #[.iface 147 (.agg #[.int .i64 k]), _, _] w _
    go_enter Tryz.func94, Tryz.ntmps94
    go_wp2
    go_ret
    exact ⟨rfl, Below.refl _ _⟩
  | cmp k =>
    have a0 : ∀ w : World, (Instr.typeAssert (.iface 148 (.agg #[.int .i64 k])) 86 154 true).run Tryz.prog w = .ok (.tuple #[.agg #[.int .i64 0, .int .i64 0, .int .i64 0], .bool false]) w := fun _ => by kernel_rfl
    have a1 : ∀ w : World, (Instr.typeAssert (.iface 148 (.agg #[.int .i64 k])) 86 147 true).run Tryz.prog w = .ok (.tuple #[.agg #[.int .i64 0], .bool false]) w := fun _ => by kernel_rfl
    have a2 : ∀ w : World, (Instr.typeAssert (.iface 148 (.agg #[.int .i64 k])) 86 148 true).run Tryz.prog w = .ok (.tuple #[.agg #[.int .i64 k], .bool true]) w := fun _ => by kernel_rfl
    have a3 : ∀ w : World, (Instr.typeAssert (.iface 148 (.agg #[.int .i64 k])) 86 149 true).run Tryz.prog w = .ok (.tuple #[.agg #[.int .i64 0], .bool false]) w := fun _ => by kernel_rfl
    have a4 : ∀ w : World, (Instr.typeAssert (.iface 148 (.agg #[.int .i64 k])) 86 150 true).run Tryz.prog w = .ok (.tuple #[.agg #[.int .i64 0], .bool false]) w := fun _ => by kernel_rfl
    show Calls Tryz.prog 94 #[.iface 148 (.agg #[.int .i64 k]), _, _] w _
    go_enter Tryz.func94, Tryz.ntmps94
    go_wp2
    go_ret
    exact ⟨rfl, Below.refl _ _⟩
  | joi k =>
    have a0 : ∀ w : World, (Instr.typeAssert (.iface 149 (.agg #[.int .i64 k])) 86 154 true).run Tryz.prog w = .ok (.tuple #[.agg #[.int .i64 0, .int .i64 0, .int .i64 0], .bool false]) w := fun _ => by kernel_rfl
    have a1 : ∀ w : World, (Instr.typeAssert (.iface 149 (.agg #[.int .i64 k])) 86 147 true).run Tryz.prog w = .ok (.tuple #[.agg #[.int .i64 0], .bool false]) w := fun _ => by kernel_rfl
    have a2 : ∀ w : World, (Instr.typeAssert (.iface 149 (.agg #[.int .i64 k])) 86 148 true).run Tryz.prog w = .ok (.tuple #[.agg #[.int .i64 0], .bool false]) w := fun _ => by kernel_rfl
    have a3 : ∀ w : World, (Instr.typeAssert (.iface 149 (.agg #[.int .i64 k])) 86 149 true).run Tryz.prog w = .ok (.tuple #[.agg #[.int .i64 k], .bool true]) w := fun _ => by kernel_rfl
    have a4 : ∀ w : World, (Instr.typeAssert (.iface 149 (.agg #[.int .i64 k])) 86 150 true).run Tryz.prog w = .ok (.tuple #[.agg #[.int .i64 0], .bool false]) w := fun _ => by kernel_rfl
    show Calls Tryz.prog 94 #[.iface 149 (.agg #[.int .i64 k]), _, _] w _
    go_enter Tryz.func94, Tryz.ntmps94
    go_wp2
    go_ret
    exact ⟨rfl, (Below.refl _ w).alloc (Nat.le_refl _) _⟩
  | lik k =>
    have a0 : ∀ w : World, (Instr.typeAssert (.iface 150 (.agg #[.int .i64 k])) 86 154 true).run Tryz.prog w = .ok (.tuple #[.agg #[.int .i64 0, .int .i64 0, .int .i64 0], .bool false]) w := fun _ => by kernel_rfl
    have a1 : ∀ w : World, (Instr.typeAssert (.iface 150 (.agg #[.int .i64 k])) 86 147 true).run Tryz.prog w = .ok (.tuple #[.agg #[.int .i64 0], .bool false]) w := fun _ => by kernel_rfl
    have a2 : ∀ w : World, (Instr.typeAssert (.iface 150 (.agg #[.int .i64 k])) 86 148 true).run Tryz.prog w = .ok (.tuple #[.agg #[.int .i64 0], .bool false]) w := fun _ => by kernel_rfl
    have a3 : ∀ w : World, (Instr.typeAssert (.iface 150 (.agg #[.int .i64 k])) 86 149 true).run Tryz.prog w = .ok (.tuple #[.agg #[.int .i64 0], .bool false]) w := fun _ => by kernel_rfl
    have a4 : ∀ w : World, (Instr.typeAssert (.iface 150 (.agg #[.int .i64 k])) 86 150 true).run Tryz.prog w = .ok (.tuple #[.agg #[.int .i64 k], .bool true]) w := fun _ => by kernel_rfl
    show Calls Tryz.prog 94 #[.iface 150 (.agg #[.int .i64 k]), _, _] w _
    by_cases h1 : kid = 1
    · subst h1
      go_enter Tryz.func94, Tryz.ntmps94
      go_wp2
      go_ret
      exact ⟨rfl, (Below.refl _ w).alloc (Nat.le_refl _) _⟩
    · have h1' : ((kid : Int) == 1) = false := beq_false_of_ne (by omega)
      have HA : Hid ((Prt.lik k).asked kid first = 0) := if_neg h1
      go_enter Tryz.func94, Tryz.ntmps94
      go_wp2
      go_ret
      rw [HA.out]
      exact ⟨rfl, (Below.refl _ w).alloc (Nat.le_refl _) _⟩
end Go.Proofs.YtjoflihimpipcabGreat.Nm.Ty
