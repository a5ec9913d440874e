import Derived.RangeFuncCalls
import Derived.Test.YtnpdblcfhbamiaaGreatK23
import Derived.OrdersIn
import Derived.OrdersHeld
import Derived.TacticsIn
set_option maxHeartbeats 12800000
set_option maxRecDepth 100000
namespace Go.Proofs.YtnpdblcfhbamiaaGreat.Nm.Ty
open Go.RowKit Go.Maps Go.Proofs.YtnpdblcfhbamiaaGreat.Sp Go.Proofs.YtnpdblcfhbamiaaGreat.Lx Go.Proofs.YtnpdblcfhbamiaaGreat.Gr
theorem changing_any (x : Prt) (w : World) : Calls Tryz.prog 54 #[x.V] w fun e w' => e = .returned (.bool x.changing) ∧ Below w.heap.size w w' := by
  cases x with
  | dng a b c =>
    have a0 : ∀ w : World, (Instr.typeAssert (.iface 145 (.agg #[.int .i64 a, .int .i64 b, .int .i64 c])) 80 136 true).run Tryz.prog w = .ok (.tuple #[.agg #[.int .i64 0], .bool false]) w := fun _ => by kernel_rfl
    show Calls Tryz.prog 54 #[.iface 145 (.agg #[.int .i64 a, .int .i64 b, .int .i64 c])] w _
    go_enter Tryz.func54, Tryz.ntmps54
    go_wp2
    go_ret
    exact ⟨rfl, (Below.refl _ w).alloc (Nat.le_refl _) _⟩
  | wri t n =>
    have a0 : ∀ w : World, (Instr.typeAssert (.iface 130 (.agg #[.int .i64 t, .int .i64 n])) 80 136 true).run Tryz.prog w = .ok (.tuple #[.agg #[.int .i64 0], .bool false]) w := fun _ => by kernel_rfl
    show Calls Tryz.prog 54 #[.iface 130 (.agg #[.int .i64 t, .int .i64 n])] w _
    go_enter Tryz.func54, Tryz.ntmps54
    go_wp2
    go_ret
    exact ⟨rfl, (Below.refl _ w).alloc (Nat.le_refl _) _⟩
  | cpy q =>
    have a0 : ∀ w : World, (Instr.typeAssert (.iface 132 (.agg #[.int .i64 q])) 80 136 true).run Tryz.prog w = .ok (.tuple #[.agg #[.int .i64 0], .bool false]) w := fun _ => by kernel_rfl
    show Calls Tryz.prog 54 #[.iface 132 (.agg #[.int .i64 q])] w _
    go_enter Tryz.func54, Tryz.ntmps54
    go_wp2
    go_ret
    exact ⟨rfl, (Below.refl _ w).alloc (Nat.le_refl _) _⟩
  | siz  =>
    have a0 : ∀ w : World, (Instr.typeAssert (.iface 134 (.agg #[])) 80 136 true).run Tryz.prog w = .ok (.tuple #[.agg #[.int .i64 0], .bool false]) w := fun _ => by kernel_rfl
    show Calls Tryz.prog 54 #[.iface 134 (.agg #[])] w _
    go_enter Tryz.func54, Tryz.ntmps54
    go_wp2
    go_ret
    exact ⟨rfl, (Below.refl _ w).alloc (Nat.le_refl _) _⟩
  | chg t =>
    have a0 : ∀ w : World, (Instr.typeAssert (.iface 136 (.agg #[.int .i64 t])) 80 136 true).run Tryz.prog w = .ok (.tuple #[.agg #[.int .i64 t], .bool true]) w := fun _ => by kernel_rfl
    show Calls Tryz.prog 54 #[.iface 136 (.agg #[.int .i64 t])] w _
    go_enter Tryz.func54, Tryz.ntmps54
    go_wp2
    go_ret
    exact ⟨rfl, (Below.refl _ w).alloc (Nat.le_refl _) _⟩
  | rck k =>
    have a0 : ∀ w : World, (Instr.typeAssert (.iface 138 (.agg #[.int .i64 k])) 80 136 true).run Tryz.prog w = .ok (.tuple #[.agg #[.int .i64 0], .bool false]) w := fun _ => by kernel_rfl
    show Calls Tryz.prog 54 #[.iface 138 (.agg #[.int .i64 k])] w _
    go_enter Tryz.func54, Tryz.ntmps54
    go_wp2
    go_ret
    exact ⟨rfl, (Below.refl _ w).alloc (Nat.le_refl _) _⟩
  | cmp k =>
    have a0 : ∀ w : World, (Instr.typeAssert (.iface 139 (.agg #[.int .i64 k])) 80 136 true).run Tryz.prog w = .ok (.tuple #[.agg #[.int .i64 0], .bool false]) w := fun _ => by kernel_rfl
    show Calls Tryz.prog 54 #[.iface 139 (.agg #[.int .i64 k])] w _
    go_enter Tryz.func54, Tryz.ntmps54
    go_wp2
    go_ret
    exact ⟨rfl, (Below.refl _ w).alloc (Nat.le_refl _) _⟩
  | joi k =>
    have a0 : ∀ w : World, (Instr.typeAssert (.iface 140 (.agg #[.int .i64 k])) 80 136 true).run Tryz.prog w = .ok (.tuple #[.agg #[.int .i64 0], .bool false]) w := fun _ => by kernel_rfl
    show Calls Tryz.prog 54 #[.iface 140 (.agg #[.int .i64 k])] w _
    go_enter Tryz.func54, Tryz.ntmps54
    go_wp2
    go_ret
    exact ⟨rfl, (Below.refl _ w).alloc (Nat.le_refl _) _⟩
  | lik k =>
    have a0 : ∀ w : World, (Instr.typeAssert (.iface 141 (.agg #[.int .i64 k])) 80 136 true).run Tryz.prog w = .ok (.tuple #[.agg #[.int .i64 0], .bool false]) w := fun _ => by kernel_rfl
    show Calls Tryz.prog 54 #[.iface 141 (.agg #[.int .i64 k])] w _
    go_enter Tryz.func54, Tryz.ntmps54
    go_wp2
    go_ret
    exact ⟨rfl, (Below.refl _ w).alloc (Nat.le_refl _) _⟩
theorem asked_any (x : Prt) (kid : Nat) (first : Int) (w : World) : Calls Tryz.prog 89 #[x.V, .int .i64 kid, .int .i64 first] w fun e w' => e = .returned (.int .i64 (x.asked kid first)) ∧ Below w.heap.size w w' := by
  cases x with
  | dng a b c =>
    have a0 : ∀ w : World, (Instr.typeAssert (.iface 145 (.agg #[.int .i64 a, .int .i64 b, .int .i64 c])) 80 145 true).run Tryz.prog w = .ok (.tuple #[.agg #[.int .i64 a, .int .i64 b, .int .i64 c], .bool true]) w := fun _ => by kernel_rfl
    have a1 : ∀ w : World, (Instr.typeAssert (.iface 145 (.agg #[.int .i64 a, .int .i64 b, .int .i64 c])) 80 138 true).run Tryz.prog w = .ok (.tuple #[.agg #[.int .i64 0], .bool false]) w := fun _ => by kernel_rfl
    have a2 : ∀ w : World, (Instr.typeAssert (.iface 145 (.agg #[.int .i64 a, .int .i64 b, .int .i64 c])) 80 139 true).run Tryz.prog w = .ok (.tuple #[.agg #[.int .i64 0], .bool false]) w := fun _ => by kernel_rfl
    have a3 : ∀ w : World, (Instr.typeAssert (.iface 145 (.agg #[.int .i64 a, .int .i64 b, .int .i64 c])) 80 140 true).run Tryz.prog w = .ok (.tuple #[.agg #[.int .i64 0], .bool false]) w := fun _ => by kernel_rfl
    have a4 : ∀ w : World, (Instr.typeAssert (.iface 145 (.agg #[.int .i64 a, .int .i64 b, .int .i64 c])) 80 141 true).run Tryz.prog w = .ok (.tuple #[.agg #[.int .i64 0], .bool false]) w := fun _ => by kernel_rfl
    show Calls Tryz.prog 89 #[.iface 145 (.agg #[.int .i64 a, .int .i64 b, .int .i64 c]), _, _] w _
    by_cases h3 : kid < 3
    · obtain rfl | rfl | rfl : kid = 0 ∨ kid = 1 ∨ kid = 2 := by omega
      rotate_right
      rotate_right
      rotate_right
      all_goals
        go_enter Tryz.func89, Tryz.ntmps89
        go_wp2
        go_ret
        exact ⟨rfl, (Below.refl _ w).alloc (Nat.le_refl _) _⟩
    · have h3' : ¬ (kid : Int) < 3 := by omega
      have HA : Hid ((Prt.dng a b c).asked kid first = 0) := by
        show (if kid = 0 then a else if kid = 1 then b else if kid = 2 then c else 0) = 0
        rw [if_neg (by omega), if_neg (by omega), if_neg (by omega)]
      go_enter Tryz.func89, Tryz.ntmps89
      go_wp2
      go_ret
      rw [HA.out]
      exact ⟨rfl, (Below.refl _ w).alloc (Nat.le_refl _) _⟩
  | wri t n =>
    have a0 : ∀ w : World, (Instr.typeAssert (.iface 130 (.agg #[.int .i64 t, .int .i64 n])) 80 145 true).run Tryz.prog w = .ok (.tuple #[.agg #[.int .i64 0, .int .i64 0, .int .i64 0], .bool false]) w := fun _ => by kernel_rfl
    have a1 : ∀ w : World, (Instr.typeAssert (.iface 130 (.agg #[.int .i64 t, .int .i64 n])) 80 138 true).run Tryz.prog w = .ok (.tuple #[.agg #[.int .i64 0], .bool false]) w := fun _ => by kernel_rfl
    have a2 : ∀ w : World, (Instr.typeAssert (.iface 130 (.agg #[.int .i64 t, .int .i64 n])) 80 139 true).run Tryz.prog w = .ok (.tuple #[.agg #[.int .i64 0], .bool false]) w := fun _ => by kernel_rfl
    have a3 : ∀ w : World, (Instr.typeAssert (.iface 130 (.agg #[.int .i64 t, .int .i64 n])) 80 140 true).run Tryz.prog w = .ok (.tuple #[.agg #[.int .i64 0], .bool false]) w := fun _ => by kernel_rfl
    have a4 : ∀ w : World, (Instr.typeAssert (.iface 130 (.agg #[.int .i64 t, .int .i64 n])) 80 141 true).run Tryz.prog w = .ok (.tuple #[.agg #[.int .i64 0], .bool false]) w := fun _ => by kernel_rfl
    show Calls Tryz.prog 89 #[.iface 130 (.agg #[.int .i64 t, .int .i64 n]), _, _] w _
    go_enter Tryz.func89, Tryz.ntmps89
    go_wp2
    go_ret
    exact ⟨rfl, Below.refl _ _⟩
  | cpy q =>
    have a0 : ∀ w : World, (Instr.typeAssert (.iface 132 (.agg #[.int .i64 q])) 80 145 true).run Tryz.prog w = .ok (.tuple #[.agg #[.int .i64 0, .int .i64 0, .int .i64 0], .bool false]) w := fun _ => by kernel_rfl
    have a1 : ∀ w : World, (Instr.typeAssert (.iface 132 (.agg #[.int .i64 q])) 80 138 true).run Tryz.prog w = .ok (.tuple #[.agg #[.int .i64 0], .bool false]) w := fun _ => by kernel_rfl
    have a2 : ∀ w : World, (Instr.typeAssert (.iface 132 (.agg #[.int .i64 q])) 80 139 true).run Tryz.prog w = .ok (.tuple #[.agg #[.int .i64 0], .bool false]) w := fun _ => by kernel_rfl
    have a3 : ∀ w : World, (Instr.typeAssert (.iface 132 (.agg #[.int .i64 q])) 80 140 true).run Tryz.prog w = .ok (.tuple #[.agg #[.int .i64 0], .bool false]) w := fun _ => by kernel_rfl
    have a4 : ∀ w : World, (Instr.typeAssert (.iface 132 (.agg #[.int .i64 q])) 80 141 true).run Tryz.prog w = .ok (.tuple #[.agg #[.int .i64 0], .bool false]) w := fun _ => by kernel_rfl
    show Calls Tryz.prog 89 #[.iface 132 (.agg #[.int .i64 q]), _, _] w _
    go_enter Tryz.func89, Tryz.ntmps89
    go_wp2
    go_ret
    exact ⟨rfl, Below.refl _ _⟩
  | siz  =>
    have a0 : ∀ w : World, (Instr.typeAssert (.iface 134 (.agg #[])) 80 145 true).run Tryz.prog w = .ok (.tuple #[.agg #[.int .i64 0, .int .i64 0, .int .i64 0], .bool false]) w := fun _ => by kernel_rfl
    have a1 : ∀ w : World, (Instr.typeAssert (.iface 134 (.agg #[])) 80 138 true).run Tryz.prog w = .ok (.tuple #[.agg #[.int .i64 0], .bool false]) w := fun _ => by kernel_rfl
    have a2 : ∀ w : World, (Instr.typeAssert (.iface 134 (.agg #[])) 80 139 true).run Tryz.prog w = .ok (.tuple #[.agg #[.int .i64 0], .bool false]) w := fun _ => by kernel_rfl
    have a3 : ∀ w : World, (Instr.typeAssert (.iface 134 (.agg #[])) 80 140 true).run Tryz.prog w = .ok (.tuple #[.agg #[.int .i64 0], .bool false]) w := fun _ => by kernel_rfl
    have a4 : ∀ w : World, (Instr.typeAssert (.iface 134 (.agg #[])) 80 141 true).run Tryz.prog w = .ok (.tuple #[.agg #[.int .i64 0], .bool false]) w := fun _ => by kernel_rfl
    show Calls Tryz.prog 89 #[.iface 134 (.agg #[]), _, _] w _
    go_enter Tryz.func89, Tryz.ntmps89
    go_wp2
    go_ret
    exact ⟨rfl, Below.refl _ _⟩
  | chg t =>
    have a0 : ∀ w : World, (Instr.typeAssert (.iface 136 (.agg #[.int .i64 t])) 80 145 true).run Tryz.prog w = .ok (.tuple #[.agg #[.int .i64 0, .int .i64 0, .int .i64 0], .bool false]) w := fun _ => by kernel_rfl
    have a1 : ∀ w : World, (Instr.typeAssert (.iface 136 (.agg #[.int .i64 t])) 80 138 true).run Tryz.prog w = .ok (.tuple #[.agg #[.int .i64 0], .bool false]) w := fun _ => by kernel_rfl
    have a2 : ∀ w : World, (Instr.typeAssert (.iface 136 (.agg #[.int .i64 t])) 80 139 true).run Tryz.prog w = .ok (.tuple #[.agg #[.int .i64 0], .bool false]) w := fun _ => by kernel_rfl
    have a3 : ∀ w : World, (Instr.typeAssert (.iface 136 (.agg #[.int .i64 t])) 80 140 true).run Tryz.prog w = .ok (.tuple #[.agg #[.int .i64 0], .bool false]) w := fun _ => by kernel_rfl
    have a4 : ∀ w : World, (Instr.typeAssert (.iface 136 (.agg #[.int .i64 t])) 80 141 true).run Tryz.prog w = .ok (.tuple #[.agg #[.int .i64 0], .bool false]) w := fun _ => by kernel_rfl
    show Calls Tryz.prog 89 #[.iface 136 (.agg #[.int .i64 t]), _, _] w _
    go_enter Tryz.func89, Tryz.ntmps89
    go_wp2
    go_ret
    exact ⟨rfl, Below.refl _ _⟩
  | rck k =>
    have a0 : ∀ w : World, (Instr.typeAssert (.iface 138 (.agg #[.int .i64 k])) 80 145 true).run Tryz.prog w = .ok (.tuple #[.agg #[.int .i64 0, .int .i64 0, .int .i64 0], .bool false]) w := fun _ => by kernel_rfl
    have a1 : ∀ w : World, (Instr.typeAssert (.iface 138 (.agg #[.int .i64 k])) 80 138 true).run Tryz.prog w = .ok (.tuple #[.agg #[.int .i64 k], .bool true]) w := fun _ => by kernel_rfl
    have a2 : ∀ w : World, (Instr.typeAssert (.iface 138 (.agg #[.int .i64 k])) 80 139 true).run Tryz.prog w = .ok (.tuple #[.agg #[.int .i64 0], .bool false]) w := fun _ => by kernel_rfl
    have a3 : ∀ w : World, (Instr.typeAssert (.iface 138 (.agg #[.int .i64 k])) 80 140 true).run Tryz.prog w = .ok (.tuple #[.agg #[.int .i64 0], .bool false]) w := fun _ => by kernel_rfl
    have a4 : ∀ w : World, (Instr.typeAssert (.iface 138 (.agg #[.int .i64 k])) 80 141 true).run Tryz.prog w = .ok (.tuple #[.agg #[.int .i64 0], .bool false]) w := fun _ => by kernel_rfl
    show Calls Tryz.prog 89 #[.iface 138 (.agg #[.int .i64 k]), _, _] w _
    go_enter Tryz.func89, Tryz.ntmps89
    go_wp2
    go_ret
    exact ⟨rfl, Below.refl _ _⟩
  | cmp k =>
    have a0 : ∀ w : World, (Instr.typeAssert (.iface 139 (.agg #[.int .i64 k])) 80 145 true).run Tryz.prog w = .ok (.tuple #[.agg #[.int .i64 0, .int .i64 0, .int .i64 0], .bool false]) w := fun _ => by kernel_rfl
    have a1 : ∀ w : World, (Instr.typeAssert (.iface 139 (.agg #[.int .i64 k])) 80 138 true).run Tryz.prog w = .ok (.tuple #[.agg #[.int .i64 0], .bool false]) w := fun _ => by kernel_rfl
    have a2 : ∀ w : World, (Instr.typeAssert (.iface 139 (.agg #[.int .i64 k])) 80 139 true).run Tryz.prog w = .ok (.tuple #[.agg #[.int .i64 k], .bool true]) w := fun _ => by kernel_rfl
    have a3 : ∀ w : World, (Instr.typeAssert (.iface 139 (.agg #[.int .i64 k])) 80 140 true).run Tryz.prog w = .ok (.tuple #[.agg #[.int .i64 0], .bool false]) w := fun _ => by kernel_rfl
    have a4 : ∀ w : World, (Instr.typeAssert (.iface 139 (.agg #[.int .i64 k])) 80 141 true).run Tryz.prog w = .ok (.tuple #[.agg #[.int .i64 0], .bool false]) w := fun _ => by kernel_rfl
    show Calls Tryz.prog 89 #[.iface 139 (.agg #[.int .i64 k]), _, _] w _
    go_enter Tryz.func89, Tryz.ntmps89
    go_wp2
    go_ret
    exact ⟨rfl, Below.refl _ _⟩
  | joi k =>
    have a0 : ∀ w : World, (Instr.typeAssert (.iface 140 (.agg #[.int .i64 k])) 80 145 true).run Tryz.prog w = .ok (.tuple #[.agg #[.int .i64 0, .int .i64 0, .int .i64 0], .bool false]) w := fun _ => by kernel_rfl
    have a1 : ∀ w : World, (Instr.typeAssert (.iface 140 (.agg #[.int .i64 k])) 80 138 true).run Tryz.prog w = .ok (.tuple #[.agg #[.int .i64 0], .bool false]) w := fun _ => by kernel_rfl
    have a2 : ∀ w : World, (Instr.typeAssert (.iface 140 (.agg #[.int .i64 k])) 80 139 true).run Tryz.prog w = .ok (.tuple #[.agg #[.int .i64 0], .bool false]) w := fun _ => by kernel_rfl
    have a3 : ∀ w : World, (Instr.typeAssert (.iface 140 (.agg #[.int .i64 k])) 80 140 true).run Tryz.prog w = .ok (.tuple #[.agg #[.int .i64 k], .bool true]) w := fun _ => by kernel_rfl
    have a4 : ∀ w : World, (Instr.typeAssert (.iface 140 (.agg #[.int .i64 k])) 80 141 true).run Tryz.prog w = .ok (.tuple #[.agg #[.int .i64 0], .bool false]) w := fun _ => by kernel_rfl
    show Calls Tryz.prog 89 #[.iface 140 (.agg #[.int .i64 k]), _, _] w _
    go_enter Tryz.func89, Tryz.ntmps89
    go_wp2
    go_ret
    exact ⟨rfl, (Below.refl _ w).alloc (Nat.le_refl _) _⟩
  | lik k =>
    have a0 : ∀ w : World, (Instr.typeAssert (.iface 141 (.agg #[.int .i64 k])) 80 145 true).run Tryz.prog w = .ok (.tuple #[.agg #[.int .i64 0, .int .i64 0, .int .i64 0], .bool false]) w := fun _ => by kernel_rfl
    have a1 : ∀ w : World, (Instr.typeAssert (.iface 141 (.agg #[.int .i64 k])) 80 138 true).run Tryz.prog w = .ok (.tuple #[.agg #[.int .i64 0], .bool false]) w := fun _ => by kernel_rfl
    have a2 : ∀ w : World, (Instr.typeAssert (.iface 141 (.agg #[.int .i64 k])) 80 139 true).run Tryz.prog w = .ok (.tuple #[.agg #[.int .i64 0], .bool false]) w := fun _ => by kernel_rfl
    have a3 : ∀ w : World, (Instr.typeAssert (.iface 141 (.agg #[.int .i64 k])) 80 140 true).run Tryz.prog w = .ok (.tuple #[.agg #[.int .i64 0], .bool false]) w := fun _ => by kernel_rfl
    have a4 : ∀ w : World, (Instr.typeAssert (.iface 141 (.agg #[.int .i64 k])) 80 141 true).run Tryz.prog w = .ok (.tuple #[.agg #[.int .i64 k], .bool true]) w := fun _ => by kernel_rfl
    show Calls Tryz.prog 89 #[.iface 141 (.agg #[.int .i64 k]), _, _] w _
    by_cases h1 : kid = 1
    · subst h1
      go_enter Tryz.func89, Tryz.ntmps89
      go_wp2
      go_ret
      exact ⟨rfl, (Below.refl _ w).alloc (Nat.le_refl _) _⟩
    · have h1' : ((kid : Int) == 1) = false := beq_false_of_ne (by omega)
      have HA : Hid ((Prt.lik k).asked kid first = 0) := if_neg h1
      go_enter Tryz.func89, Tryz.ntmps89
      go_wp2
      go_ret
      rw [HA.out]
      exact ⟨rfl, (Below.refl _ w).alloc (Nat.le_refl _) _⟩
theorem is_enter (x : Prt) (args : Array Value) (w : World) : (callFunc x.isF args).run Tryz.prog w = .ok (.enter x.isF args) w := by
  cases x
  · exact enters_of Tryz.func133 (by kernel_rfl) rfl args w
  · exact enters_of Tryz.func116 (by kernel_rfl) rfl args w
  · exact enters_of Tryz.func118 (by kernel_rfl) rfl args w
  · exact enters_of Tryz.func120 (by kernel_rfl) rfl args w
  · exact enters_of Tryz.func122 (by kernel_rfl) rfl args w
  · exact enters_of Tryz.func124 (by kernel_rfl) rfl args w
  · exact enters_of Tryz.func126 (by kernel_rfl) rfl args w
  · exact enters_of Tryz.func129 (by kernel_rfl) rfl args w
  · exact enters_of Tryz.func131 (by kernel_rfl) rfl args w
theorem co_enter (x : Prt) (args : Array Value) (w : World) : (callFunc x.coF args).run Tryz.prog w = .ok (.enter x.coF args) w := by
  cases x
  · exact enters_of Tryz.func132 (by kernel_rfl) rfl args w
  · exact enters_of Tryz.func115 (by kernel_rfl) rfl args w
  · exact enters_of Tryz.func117 (by kernel_rfl) rfl args w
  · exact enters_of Tryz.func119 (by kernel_rfl) rfl args w
  · exact enters_of Tryz.func121 (by kernel_rfl) rfl args w
  · exact enters_of Tryz.func123 (by kernel_rfl) rfl args w
  · exact enters_of Tryz.func125 (by kernel_rfl) rfl args w
  · exact enters_of Tryz.func128 (by kernel_rfl) rfl args w
  · exact enters_of Tryz.func130 (by kernel_rfl) rfl args w
theorem types_any {l : List Rz} {qv : List Value} {nq : Nat} {ao qo po eo : Option Addr} {ac qc pc ec : Nat} {w : World} (h : IsRg w l qv ao qo po eo) (hn : l.length ≤ 2932031007317) :
    Calls Tryz.prog 27 #[.agg (rgC l nq ao qo po eo ac qc pc ec)] w fun e w' => ∃ g, e = .returned (.slice (some ⟨g, 0, none⟩) l.length l.length) ∧ w.heap.size ≤ g ∧ RowI w' g l.length (fun i => (rP l i).is) ∧ Below w.heap.size w w' := by
  obtain ⟨M, hmk, hM⟩ := mk_ints l.length hn
  have HI : Hid (IsRg w l qv ao qo po eo) := h
  have hln : (l.length : Int) ≤ 2932031007317 := by omega
  have hient := is_enter
  have hifn := is_fn
  have H0 : Hid (RowI ((w.alloc (.cells (rgC l nq ao qo po eo ac qc pc ec) 72)).alloc (.cells M 3)) (w.heap.size + 1) l.length (fun _ => 0) ∧ Below w.heap.size w ((w.alloc (.cells (rgC l nq ao qo po eo ac qc pc ec) 72)).alloc (.cells M 3))) := by
    have e := hM (w.alloc (.cells (rgC l nq ao qo po eo ac qc pc ec) 72))
    rw [World.size_alloc] at e
    exact ⟨e, ((Below.refl _ w).alloc (Nat.le_refl _) _).alloc (by simp) _⟩
  dsimp only [rgC] at *
  clear h hn hM
  go_enter Tryz.func27, Tryz.ntmps27
  go_wp2_with fail
  generalize ((w.alloc (.cells #[.slice ao l.length ac, .slice qo nq qc, .slice po l.length pc, .slice eo l.length ec] 72)).alloc (.cells M 3)) = w1 at *
  clear hmk
  go_loopg [13] l.length (fun gq x wr => ∃ m : Nat, m ≤ l.length ∧ gq = l.length - m ∧ x = .int .i64 m ∧ RowI wr (w.heap.size + 1) l.length (fun i => if i < m then (rP l i).is else 0) ∧ Below w.heap.size w wr)
  case atStart => exact ⟨0, Nat.zero_le _, rfl, by go_num, H0.out.1.ext fun i _ => (if_neg (Nat.not_lt_zero _)).symm, H0.out.2⟩
  case round =>
    obtain ⟨m, hm, hgk, rfl, hR, hB⟩ := hrel
    have HR : Hid (RowI wr (w.heap.size + 1) l.length (fun i => if i < m then (rP l i).is else 0)) := hR
    have HB := show Hid _ from hB
    have HG : Hid (gk = l.length - m) := hgk
    clear hgk hR hB
    by_cases hlt : m < l.length
    · have hlt' : (m : Int) < (l.length : Int) := by omega
      obtain ⟨gp, op, rfl, hgp, cp⟩ := (HI.out.below HB.out).part hlt
      have HN : Hid (∀ W : World, Below wr.heap.size wr W → RowI (W.setCell ⟨w.heap.size + 1, m, none⟩ (.int .i64 (rP l m).is)) (w.heap.size + 1) l.length (fun i => if i < m + 1 then (rP l i).is else 0) ∧ Below w.heap.size w (W.setCell ⟨w.heap.size + 1, m, none⟩ (.int .i64 (rP l m).is))) := by
        intro W hW
        refine ⟨((HR.out.below hW HR.out.lt).set m _).ext fun i _ => ?_, (HB.out.trans (hW.mono HB.out.size)).trans ((Below.refl w.heap.size W).setCell (p := ⟨w.heap.size + 1, m, none⟩) (by simp) _)⟩
        by_cases e : i = m
        · subst e; rw [if_pos rfl, if_pos (by omega)]
        · rw [if_neg e]
          by_cases e2 : i < m
          · rw [if_pos e2, if_pos (by omega)]
          · rw [if_neg e2, if_neg (by omega)]
      generalize rP l m = x at *
      have HC := show Hid _ from is_any x wr
      go_wp2_with fail
      refine Calls.mono HC.out ?_
      rintro e w2 ⟨rfl, hb2⟩
      have HN2 := show Hid _ from HN.out w2 hb2
      have hc := (HR.out.below hb2 HR.out.lt).cell hlt
      have hf := (HR.out.below hb2 HR.out.lt).frozen m
      clear hb2 HC HN
      generalize x.is = y at *
      go_wp2_with fail
      go_roundg (l.length - (m + 1))
      case measure => have := HG.out; omega
      case rel => exact ⟨m + 1, by omega, rfl, by go_num, HN2.out.1, HN2.out.2⟩
    · have hlt' : ¬ (m : Int) < (l.length : Int) := by omega
      have hme : m = l.length := by omega
      have HF : Hid (RowI wr (w.heap.size + 1) l.length (fun i => (rP l i).is)) := HR.out.ext fun i hi => if_pos (by omega)
      clear hme hlt
      go_wp2_with fail
      go_ret
      exact ⟨w.heap.size + 1, rfl, by omega, HF.out, HB.out⟩
end Go.Proofs.YtnpdblcfhbamiaaGreat.Nm.Ty
namespace Go.Proofs.YtnpdblcfhbamiaaGreat.Nm.Ty
open Go.Proofs.YtnpdblcfhbamiaaGreat.Gr
/-- the ends that are known so far: of a row nothing, or its end, and then those of all its own -/
def Okf (l : List Rz) (f : Nat → Int) : Prop := ∀ i, i < l.length → f i = 0 ∨ (f i = (endp l i : Int) ∧ ∀ j, i < j → j < endp l i → f j = (endp l j : Int))
theorem in_kid {l : List Rz} (h : Whole l) {i j : Nat} (hi : i < l.length) (h1 : i < j) (h2 : j < endp l i) : ∃ m, m < km l i ∧ kidp l i m ≤ j ∧ j < endp l (kidp l i m) := by
  have key : ∀ k, k ≤ km l i → j < kidp l i k → ∃ m, m < km l i ∧ kidp l i m ≤ j ∧ j < endp l (kidp l i m) := by
    intro k
    induction k with
    | zero => intro _ h3; rw [kid_zero] at h3; omega
    | succ k ih =>
      intro hk h3
      by_cases h4 : j < kidp l i k
      · exact ih (by omega) h4
      · obtain ⟨_, h5, _⟩ := kid_at h hi (k := k) (by omega)
        exact ⟨k, by omega, by omega, by rw [← h5]; exact h3⟩
  refine key (km l i) (Nat.le_refl _) ?_
  rw [← (end_kid h hi).1]
  exact h2
/-- the walk over a row's kids, by what is known -/
def Stf (l : List Rz) (f : Nat → Int) (i k e : Nat) : Prop := (e = kidp l i k ∧ ∀ m, m < k → f (kidp l i m) = (endp l (kidp l i m) : Int)) ∨ (e = 0 ∧ f 0 = 0 ∧ ∃ m, m < k ∧ f (kidp l i m) = 0)
theorem stf_zero (l : List Rz) (f : Nat → Int) (i : Nat) : Stf l f i 0 (i + 1) := Or.inl ⟨(kid_zero l i).symm, fun m hm => by omega⟩
theorem stf_step {l : List Rz} {f : Nat → Int} (hT : Whole l) (hE : endp l 0 = l.length) (hF : Okf l f) {i k e : Nat} (hi : i < l.length) (hk : k < km l i) (h : Stf l f i k e) : e < l.length ∧ ∃ e' : Nat, f e = (e' : Int) ∧ Stf l f i (k + 1) e' := by
  obtain ⟨h1, h2, h3⟩ := kid_at hT hi hk
  rcases h with ⟨rfl, hr⟩ | ⟨rfl, hz, m, hm, hmz⟩
  · refine ⟨h1, ?_⟩
    rcases hF _ h1 with h0 | ⟨he, _⟩
    · refine ⟨0, h0, Or.inr ⟨rfl, ?_, k, by omega, h0⟩⟩
      rcases hF 0 (by omega) with h4 | ⟨_, h5⟩
      · exact h4
      · have := h5 (kidp l i k) (by omega) (by rw [hE]; exact h1)
        have h6 := (end_kid hT h1).2.1
        omega
    · refine ⟨endp l (kidp l i k), he, Or.inl ⟨h2.symm, fun m hm => ?_⟩⟩
      by_cases e : m = k
      · subst e; exact he
      · exact hr m (by omega)
  · exact ⟨by omega, 0, by simpa using hz, Or.inr ⟨rfl, hz, m, by omega, hmz⟩⟩
theorem stf_end {l : List Rz} {f : Nat → Int} (hT : Whole l) (hF : Okf l f) {i e : Nat} (hi : i < l.length) (h : Stf l f i (km l i) e) : e ≤ l.length ∧ Okf l (setF f i (e : Int)) ∧ ((∀ j, i < j → j < l.length → f j = (endp l j : Int)) → ∀ j, i ≤ j → j < l.length → setF f i (e : Int) j = (endp l j : Int)) := by
  obtain ⟨he1, he2, he3⟩ := end_kid hT hi
  have hkid : ∀ m, m < km l i → i < kidp l i m ∧ kidp l i m < endp l i ∧ kidp l i m < endp l (kidp l i m) := fun m hm => by
    obtain ⟨a, b, c, _⟩ := kidIn hT hi hm
    have := (end_kid hT b).2.1
    exact ⟨a, by omega, this⟩
  have hz : (∃ m, m < km l i ∧ f (kidp l i m) = 0) → ∀ i', i' < l.length → i' ≤ i → f i' = (endp l i' : Int) → (∀ j, i' < j → j < endp l i' → f j = (endp l j : Int)) → i < endp l i' → endp l i ≤ endp l i' → False := by
    rintro ⟨m, hm, h0⟩ i' hi' hle _ hcl h1 h2
    obtain ⟨a, b, c⟩ := hkid m hm
    have := hcl (kidp l i m) (by omega) (by omega)
    omega
  refine ⟨?_, ?_, ?_⟩
  · rcases h with ⟨rfl, _⟩ | ⟨rfl, _⟩
    · rw [← he1]; exact he3
    · omega
  · intro i' hi'
    by_cases e1 : i' = i
    · subst e1
      rcases h with ⟨rfl, hr⟩ | ⟨rfl, _⟩
      · refine Or.inr ⟨by simp [setF, he1], fun j h1 h2 => ?_⟩
        obtain ⟨m, hm, h3, h4⟩ := in_kid hT hi h1 h2
        have e2 : setF f i' ((kidp l i' (km l i') : Nat) : Int) j = f j := if_neg (by omega)
        rw [e2]
        by_cases h5 : j = kidp l i' m
        · rw [h5]; exact hr m hm
        · have hk := hr m hm
          rcases hF (kidp l i' m) (by have := (hkid m hm).2.1; omega) with h6 | ⟨_, h7⟩
          · have := (hkid m hm).2.2; omega
          · exact h7 j (by omega) h4
      · exact Or.inl (by simp [setF])
    · have e2 : setF f i (e : Int) i' = f i' := if_neg e1
      rw [e2]
      rcases hF i' hi' with h0 | ⟨h0, hcl⟩
      · exact Or.inl h0
      · refine Or.inr ⟨h0, fun j h1 h2 => ?_⟩
        by_cases e3 : j = i
        · subst e3
          have hfi := hcl j h1 h2
          have : e = endp l j := by
            rcases h with ⟨rfl, _⟩ | ⟨rfl, _, m, hm, h0m⟩
            · exact he1.symm
            · exfalso
              rcases hF j hi with h6 | ⟨_, h7⟩
              · omega
              · obtain ⟨a, b, c⟩ := hkid m hm
                have := h7 (kidp l j m) a b
                omega
          rw [this]
          exact if_pos rfl
        · rw [show setF f i (e : Int) j = f j from if_neg e3]
          exact hcl j h1 h2
  · intro hall j h1 h2
    by_cases e3 : j = i
    · subst e3
      have : e = endp l j := by
        rcases h with ⟨rfl, _⟩ | ⟨rfl, _, m, hm, h0m⟩
        · exact he1.symm
        · exfalso
          obtain ⟨a, b, c⟩ := hkid m hm
          have := hall (kidp l j m) a (by omega)
          omega
      rw [this]
      exact if_pos rfl
    · rw [show setF f i (e : Int) j = f j from if_neg e3]
      exact hall j (by omega) h2
end Go.Proofs.YtnpdblcfhbamiaaGreat.Nm.Ty
namespace Go.Proofs.YtnpdblcfhbamiaaGreat.Nm.Ty
open Go.RowKit Go.Shelf Go.Proofs.YtnpdblcfhbamiaaGreat.Sp Go.Proofs.YtnpdblcfhbamiaaGreat.Lx Go.Proofs.YtnpdblcfhbamiaaGreat.Gr
attribute [local go_sem] Oper.semAt_some
/-- the values, when k rows from the last on are reckoned -/
def vB (l : List Rz) (size : Int) (cq : Nat → Int) : Nat → Nat → Int
  | 0 => fun _ => 0
  | p + 1 => setF (vB l size cq p) (l.length - 1 - p) ((rP l (l.length - 1 - p)).cm size cq (if 0 < km l (l.length - 1 - p) then vB l size cq p (l.length - 1 - p + 1) else 0) (if 1 < km l (l.length - 1 - p) then vB l size cq p (endp l (l.length - 1 - p + 1)) else 0))
def in64 (n : Int) : Prop := -9223372036854775808 ≤ n ∧ n ≤ 9223372036854775807
theorem bits_in (a b : Int) : in64 (bits .and .i64 a b) ∧ in64 (bits .or .i64 a b) := by
  simp only [bits, IntKind.wrap_i64, in64]
  omega
theorem wrap_in (n : Int) : in64 (wrap64 n) := by unfold in64 wrap64; omega
theorem clamp64 (n : Int) : in64 (clampZ n) := by have := clamp_in n; unfold in64; omega
theorem one64 (b : Bool) : in64 (oneZ b) := by unfold oneZ in64; split <;> omega
theorem cm_in (x : Prt) {size : Int} {cq : Nat → Int} {a b : Int} (hs : in64 size) (hq : ∀ i, in64 (cq i)) (ha : in64 a) (hb : in64 b) (hn : ∀ t n, x = .wri t n → in64 n) : in64 (x.cm size cq a b) := by
  have h0 : in64 0 := by unfold in64; omega
  have hmin : in64 (min a b) := by unfold in64 at *; omega
  have hmax : in64 (max a b) := by unfold in64 at *; omega
  have hdiv : in64 (divZ a b) := by
    unfold divZ
    split
    · exact h0
    · split
      · have := clamp_in a; unfold in64; omega
      · exact clamp64 _
  cases x with
  | dng u v t => exact h0
  | wri t n => exact hn t n rfl
  | cpy q => exact hq _
  | siz => exact hs
  | chg t => exact h0
  | rck k =>
    simp only [Prt.cm]
    repeat' split
    all_goals first | exact hmin | exact hmax | exact clamp64 _ | exact hdiv
  | cmp k =>
    simp only [Prt.cm]
    repeat' split
    all_goals exact one64 _
  | joi k =>
    simp only [Prt.cm]
    repeat' split
    · exact wrap_in _
    · exact (bits_in a b).1
    · exact (bits_in a b).2
  | lik k => exact one64 _
end Go.Proofs.YtnpdblcfhbamiaaGreat.Nm.Ty
namespace Go.Proofs.YtnpdblcfhbamiaaGreat.Nm.Ty
open Go.RowKit Go.Proofs.YtnpdblcfhbamiaaGreat.Sp Go.Proofs.YtnpdblcfhbamiaaGreat.Lx
section
variable {P : Program} {ops : Array Oper} {md : Region.Mode} {Q : Exit → Act → World → Prop}
theorem uponIn_round (l n : Nat) {o : Oper} {a : Act} {K K' : Act → World → Prop} (hk : ∀ a w, K a w → K' a w) {r : Result Next} (h : o.upon P a K Q r) : o.uponIn (Fence.wide.inRound l) n P a K' Q r := by
  cases r with
  | ok x w' =>
    cases x <;> simp only [Oper.upon, Oper.uponIn] at h ⊢
    case value v => exact hk _ _ h
    case skip => exact hk _ _ h
    case defer d => exact hk _ _ h
    case enter f args =>
      refine ⟨fun hz => (by simp [Fence.wide, Fence.inRound] at hz), CallsIn.inRound l (callsIn_wide.2 (h.mono fun e w'' he => ?_))⟩
      cases e <;> first | exact hk _ _ he | exact he
    case row rw args =>
      refine ⟨fun hz => (by simp [Fence.wide, Fence.inRound] at hz), fun c cs _ => ?_⟩
      obtain ⟨v, w2, h1, h2⟩ := h c cs
      exact ⟨v, w2, hk _ _ h1, stepsIn_wide.2 h2⟩
  | halt x w' =>
    cases x <;> simp only [Oper.upon, Oper.uponIn] at h ⊢
    all_goals first | exact h | exact h.elim
theorem wpAnyIn_round (l n : Nat) (hL : ¬ LetsOut Q) (hd : ∀ (j : Nat) (o : Oper), ops[j]? = some o → ∀ c, o.op ≠ .defer c) :
    ∀ (fuel : Nat) (listed : Array Bool) (a : Act) (w : World), wpAny P md ops Q fuel listed a w → wpAnyIn (Fence.wide.inRound l) n P md ops Q fuel listed a w := by
  intro fuel
  induction fuel with
  | zero => intro listed a w h; exact h
  | succ fuel ih =>
    intro listed a w h
    refine ⟨h.1, fun i hi => ?_⟩
    have h1 := h.2 i hi
    unfold wpOp at h1
    unfold wpOpIn
    cases ho : ops[i]? with
    | none => rw [ho] at h1; exact ih _ _ _ h1
    | some o =>
      rw [ho] at h1
      dsimp only at h1 ⊢
      split
      · rename_i hw
        rw [if_pos hw] at h1
        refine ⟨fun _ _ => trivial, ?_⟩
        rw [Oper.semAt_eq _ _ _ (hd i o ho)]
        exact uponIn_round l n (fun a w h => ih _ _ _ h) (h1.resolve_right fun e => hL e.2)
      · rename_i hw
        rw [if_neg hw] at h1
        exact ⟨fun _ _ => trivial, ih _ _ _ h1⟩
/-- a region in a round of a range over a function: as outside of one -/
theorem wpIn_region_round {id l n : Nat} {a : Act} {w : World} (hm : P.follows .mixedOrders = true) (hL : ¬ LetsOut Q) (hd : ∀ (j : Nat) (o : Oper), ops[j]? = some o → ∀ c, o.op ≠ .defer c)
    (h : wpAny P .any ops Q ops.size (Array.replicate ops.size false) a { w with drawn := w.drawn + 1 }) : (Code.region id ops true).wpIn (Fence.wide.inRound l) n P Q a w :=
  wpIn_region_any hm (wpAnyIn_round l n hL hd _ _ _ _ h)
def noDefer (l : List Oper) : Bool := l.all fun o => match o.op with
  | .defer _ => false
  | _ => true
theorem noDefer_spec {l : List Oper} (h : noDefer l = true) : ∀ (j : Nat) (o : Oper), l.toArray[j]? = some o → ∀ c, o.op ≠ .defer c := by
  intro j o ho c he
  have hm : o ∈ l := by simpa using Array.mem_of_getElem? ho
  have h1 := List.all_eq_true.1 h o hm
  rw [he] at h1
  cases h1
end
section
variable {P : Program} {C : World → Prop}
/-- the same, of operations that are quiet in a class of worlds, and one chain behind them -/
theorem wpIn_round_tail {q nf id : Nat} {Q : Exit → Act → World → Prop} {a : Act} {w : World} {l : List Oper} (n : Nat) (hm : P.follows .mixedOrders = true) (hB : Region.lexTailB .any l.toArray n = true) (hd : noDefer l = true) (hL : ¬ LetsOut Q) (hC : C { w with drawn := w.drawn + 1 })
    (h : wpQuiet P l.toArray C (fun a' => ∀ w', C w' → wpList P l.toArray Q (l.drop n) a' w') (l.take n) a) : (Code.region id l.toArray true).wpIn (Fence.wide.inRound q) nf P Q a w := by
  simp only [Region.lexTailB, Bool.and_eq_true, decide_eq_true_eq] at hB
  obtain ⟨⟨⟨⟨hsel, hn⟩, hs⟩, hc⟩, hlex⟩ := hB
  have hn' : n < l.length := by simpa using hn
  have htl : (l.take n).length = n := by simp; omega
  have hdl : (l.drop n).length = l.toArray.size - n := by simp
  have inv0 : HeadInv .any l.toArray n (Array.replicate l.toArray.size false) :=
    ⟨by simp, fun j oj _ hl => (by rw [getD_replicate_false] at hl; cases hl), fun t _ ht => getD_in (by simpa using ht) (getD_replicate_false _ _)⟩
  have H := wpHead_lex (md := .any) (g := l.toArray.size - n) hsel hs hc hn (l.take n) 0 _ a (fun j hj => by
    have hj' : j < n := by rw [htl] at hj; exact hj
    simp [hj']) (by simpa using htl) inv0 (by rw [htl]; exact hlex) h
  refine wpIn_region_round hm hL (noDefer_spec hd) ?_
  have := wpAny_of_wpHead (Q' := Q) (g := l.toArray.size - n) (fun listed a' w' hw' hL => by
    have := wpAny_of_seq (md := .any) (Q' := Q) (l.drop n) n listed a' w' (fun j => by simp [List.getElem?_drop]) (by rw [hdl]; exact hL.1) (hL.2 w' hw')
    rwa [hdl] at this) _ _ _ { w with drawn := w.drawn + 1 } hC H
  rw [htl, show n + (l.toArray.size - n) = l.toArray.size by omega] at this
  exact this
/-- the same, of operations all of which are quiet -/
theorem wpIn_round_quiet {q nf id : Nat} {Q : Exit → Act → World → Prop} {a : Act} {w : World} {l : List Oper} (hm : P.follows .mixedOrders = true) (hB : Region.lexB .any l.toArray = true) (hd : noDefer l = true) (hL : ¬ LetsOut Q) (hC : C { w with drawn := w.drawn + 1 })
    (h : wpQuiet P l.toArray C (fun a' => ∀ w', C w' → Q .normal a' w') l a) : (Code.region id l.toArray true).wpIn (Fence.wide.inRound q) nf P Q a w := by
  simp only [Region.lexB, Bool.and_eq_true] at hB
  refine wpIn_region_round hm hL (noDefer_spec hd) (wpAny_of_quiet (Q := fun a' => ∀ w', C w' → Q .normal a' w') (fun _ w' hw' h => h w' hw') _ _ _ _ hC ?_)
  have := wpAnyQ_lex (C := C) (md := .any) hB.1 l 0 (Array.replicate l.toArray.size false) a (by simp) (by simpa using hB.2) h
  simpa using this
end
end Go.Proofs.YtnpdblcfhbamiaaGreat.Nm.Ty
