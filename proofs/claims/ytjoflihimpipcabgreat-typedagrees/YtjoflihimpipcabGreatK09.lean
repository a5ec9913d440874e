import Derived.Test.YtjoflihimpipcabGreatK08
set_option maxHeartbeats 12800000
set_option maxRecDepth 100000
namespace Go.Proofs.YtjoflihimpipcabGreat.Nm.Ty
open Go.RowKit Go.Maps Go.Proofs.YtjoflihimpipcabGreat.Sp Go.Proofs.YtjoflihimpipcabGreat.Lx Go.Proofs.YtjoflihimpipcabGreat.Gr
def Prt.T : Prt → TypeId
  | .dng _ _ _ => 154
  | .wri _ _ => 139
  | .cpy _ => 141
  | .siz => 143
  | .chg _ => 145
  | .rck _ => 147
  | .cmp _ => 148
  | .joi _ => 149
  | .lik _ => 150
def Prt.D : Prt → Value
  | .dng a b c => .agg #[.int .i64 a, .int .i64 b, .int .i64 c]
  | .wri t n => .agg #[.int .i64 t, .int .i64 n]
  | .cpy q => .agg #[.int .i64 q]
  | .siz => .agg #[]
  | .chg t => .agg #[.int .i64 t]
  | .rck k => .agg #[.int .i64 k]
  | .cmp k => .agg #[.int .i64 k]
  | .joi k => .agg #[.int .i64 k]
  | .lik k => .agg #[.int .i64 k]
abbrev Prt.V (x : Prt) : Value := .iface x.T x.D
def Prt.isF : Prt → Nat
  | .dng _ _ _ => 138
  | .wri _ _ => 121
  | .cpy _ => 123
  | .siz => 125
  | .chg _ => 127
  | .rck _ => 129
  | .cmp _ => 131
  | .joi _ => 134
  | .lik _ => 136
def Prt.coF : Prt → Nat
  | .dng _ _ _ => 137
  | .wri _ _ => 120
  | .cpy _ => 122
  | .siz => 124
  | .chg _ => 126
  | .rck _ => 128
  | .cmp _ => 130
  | .joi _ => 133
  | .lik _ => 135
theorem clamp_any (n : Int) (w : World) : Calls Tryz.prog 22 #[.int .i64 n] w fun e w' => e = .returned (.int .i64 (clampZ n)) ∧ w' = w := by
  go_enter Tryz.func22, Tryz.ntmps22
  go_wp2
  go_ret
  exact ⟨rfl, rfl⟩
theorem one_any (b : Bool) (w : World) : Calls Tryz.prog 132 #[.bool b] w fun e w' => e = .returned (.int .i64 (oneZ b)) ∧ w' = w := by
  cases b with
  | true =>
    go_enter Tryz.func132, Tryz.ntmps132
    go_wp2
    go_ret
    exact ⟨rfl, rfl⟩
  | false =>
    go_enter Tryz.func132, Tryz.ntmps132
    go_wp2
    go_ret
    exact ⟨rfl, rfl⟩
theorem ask_cases (k : Int) : k = 4 ∨ k = 5 ∨ k = 14 ∨ k = 15 ∨ k = 13 ∨ k = 6 ∨ k = 12 ∨ (¬ k = 4 ∧ ¬ k = 5 ∧ ¬ k = 14 ∧ ¬ k = 15 ∧ ¬ k = 13 ∧ ¬ k = 6 ∧ ¬ k = 12) := by omega
theorem asking_any (k : Int) (w : World) : Calls Tryz.prog 76 #[.int .i64 k] w fun e w' => e = .returned (.agg #[.int .i64 (askA k), .int .i64 (askB k), .int .i64 (askC k)]) ∧ Below w.heap.size w w' := by
  rcases ask_cases k with rfl | rfl | rfl | rfl | rfl | rfl | rfl | ⟨h4, h5, h14, h15, h13, h6, h12⟩
  · go_enter Tryz.func76, Tryz.ntmps76
    go_wp2
    refine bodyPost_ret (v := .agg #[.int .i64 (askA 4), .int .i64 (askB 4), .int .i64 (askC 4)]) (by simp [results, Tryz.results76, go_sem, askA, askB, askC]) rfl ?_
    exact ⟨rfl, (Below.refl _ w).alloc (Nat.le_refl _) _⟩
  · go_enter Tryz.func76, Tryz.ntmps76
    go_wp2
    refine bodyPost_ret (v := .agg #[.int .i64 (askA 5), .int .i64 (askB 5), .int .i64 (askC 5)]) (by simp [results, Tryz.results76, go_sem, askA, askB, askC]) rfl ?_
    exact ⟨rfl, (Below.refl _ w).alloc (Nat.le_refl _) _⟩
  · go_enter Tryz.func76, Tryz.ntmps76
    go_wp2
    refine bodyPost_ret (v := .agg #[.int .i64 (askA 14), .int .i64 (askB 14), .int .i64 (askC 14)]) (by simp [results, Tryz.results76, go_sem, askA, askB, askC]) rfl ?_
    exact ⟨rfl, (Below.refl _ w).alloc (Nat.le_refl _) _⟩
  · go_enter Tryz.func76, Tryz.ntmps76
    go_wp2
    refine bodyPost_ret (v := .agg #[.int .i64 (askA 15), .int .i64 (askB 15), .int .i64 (askC 15)]) (by simp [results, Tryz.results76, go_sem, askA, askB, askC]) rfl ?_
    exact ⟨rfl, (Below.refl _ w).alloc (Nat.le_refl _) _⟩
  · go_enter Tryz.func76, Tryz.ntmps76
    go_wp2
    refine bodyPost_ret (v := .agg #[.int .i64 (askA 13), .int .i64 (askB 13), .int .i64 (askC 13)]) (by simp [results, Tryz.results76, go_sem, askA, askB, askC]) rfl ?_
    exact ⟨rfl, (Below.refl _ w).alloc (Nat.le_refl _) _⟩
  · go_enter Tryz.func76, Tryz.ntmps76
    go_wp2
    refine bodyPost_ret (v := .agg #[.int .i64 (askA 6), .int .i64 (askB 6), .int .i64 (askC 6)]) (by simp [results, Tryz.results76, go_sem, askA, askB, askC]) rfl ?_
    exact ⟨rfl, (Below.refl _ w).alloc (Nat.le_refl _) _⟩
  · go_enter Tryz.func76, Tryz.ntmps76
    go_wp2
    refine bodyPost_ret (v := .agg #[.int .i64 (askA 12), .int .i64 (askB 12), .int .i64 (askC 12)]) (by simp [results, Tryz.results76, go_sem, askA, askB, askC]) rfl ?_
    exact ⟨rfl, (Below.refl _ w).alloc (Nat.le_refl _) _⟩
  · have HA : Hid (askA k = 0 ∧ askB k = 0 ∧ askC k = 0) := by
      simp [Hid, askA, askB, askC, h4, h5, h14, h15, h13, h6, h12]
    have b4 : (k == 4) = false := beq_false_of_ne h4
    have b5 : (k == 5) = false := beq_false_of_ne h5
    have b14 : (k == 14) = false := beq_false_of_ne h14
    have b15 : (k == 15) = false := beq_false_of_ne h15
    have b13 : (k == 13) = false := beq_false_of_ne h13
    have b6 : (k == 6) = false := beq_false_of_ne h6
    have b12 : (k == 12) = false := beq_false_of_ne h12
    go_enter Tryz.func76, Tryz.ntmps76
    go_wp2
    rw [HA.out.1, HA.out.2.1, HA.out.2.2]
    refine bodyPost_ret (v := .agg #[.int .i64 0, .int .i64 0, .int .i64 0]) (by simp [results, Tryz.results76, go_sem]) rfl ?_
    exact ⟨rfl, (Below.refl _ w).alloc (Nat.le_refl _) _⟩
theorem part_cases (k : Int) : k = 27 ∨ k = 29 ∨ k = 30 ∨ k = 32 ∨ k = 33 ∨ k = 28 ∨ k = 31 ∨ k = 34 ∨ k = 38 ∨ k = 35 ∨ k = 36 ∨ k = 37 ∨ k = 39 ∨ k = 40 ∨ k = 41 ∨ k = 43 ∨ k = 44 ∨ k = 45 ∨ k = 46 ∨ k = 49 ∨ k = 50 ∨ k = 51 ∨ k = 52 ∨ k = 42 ∨ k = 53 ∨ k = 54 ∨ k = 47 ∨ k = 48 ∨ (¬ k = 27 ∧ ¬ k = 29 ∧ ¬ k = 30 ∧ ¬ k = 32 ∧ ¬ k = 33 ∧ ¬ k = 28 ∧ ¬ k = 31 ∧ ¬ k = 34 ∧ ¬ k = 38 ∧ ¬ k = 35 ∧ ¬ k = 36 ∧ ¬ k = 37 ∧ ¬ k = 39 ∧ ¬ k = 40 ∧ ¬ k = 41 ∧ ¬ k = 43 ∧ ¬ k = 44 ∧ ¬ k = 45 ∧ ¬ k = 46 ∧ ¬ k = 49 ∧ ¬ k = 50 ∧ ¬ k = 51 ∧ ¬ k = 52 ∧ ¬ k = 42 ∧ ¬ k = 53 ∧ ¬ k = 54 ∧ ¬ k = 47 ∧ ¬ k = 48) := by omega
theorem part_any (k n st kd : Int) (nm : ByteArray) (w : World) : Calls Tryz.prog 58 #[.agg #[.int .i64 k, .string nm, .int .i64 st, .int .i64 n, .int .i64 kd]] w fun e w' => e = .returned (pOf k n).V ∧ Below w.heap.size w w' := by
  have hb := fun k : Int => (Below.refl w.heap.size w).alloc (Nat.le_refl _) (.cells #[.int .i64 k, .string nm, .int .i64 st, .int .i64 n, .int .i64 kd] 59)
  have HB := show Hid _ from hb
  clear hb
  rcases part_cases k with rfl | rfl | rfl | rfl | rfl | rfl | rfl | rfl | rfl | rfl | rfl | rfl | rfl | rfl | rfl | rfl | rfl | rfl | rfl | rfl | rfl | rfl | rfl | rfl | rfl | rfl | rfl | rfl | ⟨h27, h29, h30, h32, h33, h28, h31, h34, h38, h35, h36, h37, h39, h40, h41, h43, h44, h45, h46, h49, h50, h51, h52, h42, h53, h54, h47, h48⟩
  · go_enter Tryz.func58, Tryz.ntmps58
    go_wp2
    go_ret
    exact ⟨rfl, HB.out _⟩
  · go_enter Tryz.func58, Tryz.ntmps58
    go_wp2
    go_ret
    exact ⟨rfl, HB.out _⟩
  · go_enter Tryz.func58, Tryz.ntmps58
    go_wp2
    go_ret
    exact ⟨rfl, HB.out _⟩
  · go_enter Tryz.func58, Tryz.ntmps58
    go_wp2
    go_ret
    exact ⟨rfl, HB.out _⟩
  · go_enter Tryz.func58, Tryz.ntmps58
    go_wp2
    go_ret
    exact ⟨rfl, HB.out _⟩
  · go_enter Tryz.func58, Tryz.ntmps58
    go_wp2
    go_ret
    exact ⟨rfl, HB.out _⟩
  · go_enter Tryz.func58, Tryz.ntmps58
    go_wp2
    go_ret
    exact ⟨rfl, HB.out _⟩
  · go_enter Tryz.func58, Tryz.ntmps58
    go_wp2
    go_ret
    exact ⟨rfl, HB.out _⟩
  · go_enter Tryz.func58, Tryz.ntmps58
    go_wp2
    go_ret
    exact ⟨rfl, HB.out _⟩
  · go_enter Tryz.func58, Tryz.ntmps58
    go_wp2
    go_ret
    exact ⟨rfl, HB.out _⟩
  · go_enter Tryz.func58, Tryz.ntmps58
    go_wp2
    go_ret
    exact ⟨rfl, HB.out _⟩
  · go_enter Tryz.func58, Tryz.ntmps58
    go_wp2
    go_ret
    exact ⟨rfl, HB.out _⟩
  · go_enter Tryz.func58, Tryz.ntmps58
    go_wp2
    go_ret
    exact ⟨rfl, HB.out _⟩
  · go_enter Tryz.func58, Tryz.ntmps58
    go_wp2
    go_ret
    exact ⟨rfl, HB.out _⟩
  · go_enter Tryz.func58, Tryz.ntmps58
    go_wp2
    go_ret
    exact ⟨rfl, HB.out _⟩
  · go_enter Tryz.func58, Tryz.ntmps58
    go_wp2
    go_ret
    exact ⟨rfl, HB.out _⟩
  · go_enter Tryz.func58, Tryz.ntmps58
    go_wp2
    go_ret
    exact ⟨rfl, HB.out _⟩
  · go_enter Tryz.func58, Tryz.ntmps58
    go_wp2
    go_ret
    exact ⟨rfl, HB.out _⟩
  · go_enter Tryz.func58, Tryz.ntmps58
    go_wp2
    go_ret
    exact ⟨rfl, HB.out _⟩
  · go_enter Tryz.func58, Tryz.ntmps58
    go_wp2
    go_ret
    exact ⟨rfl, HB.out _⟩
  · go_enter Tryz.func58, Tryz.ntmps58
    go_wp2
    go_ret
    exact ⟨rfl, HB.out _⟩
  · go_enter Tryz.func58, Tryz.ntmps58
    go_wp2
    go_ret
    exact ⟨rfl, HB.out _⟩
  · go_enter Tryz.func58, Tryz.ntmps58
    go_wp2
    go_ret
    exact ⟨rfl, HB.out _⟩
  · go_enter Tryz.func58, Tryz.ntmps58
    go_wp2
    go_ret
    exact ⟨rfl, HB.out _⟩
  · go_enter Tryz.func58, Tryz.ntmps58
    go_wp2
    go_ret
    exact ⟨rfl, HB.out _⟩
  · go_enter Tryz.func58, Tryz.ntmps58
    go_wp2
    go_ret
    exact ⟨rfl, HB.out _⟩
  · go_enter Tryz.func58, Tryz.ntmps58
    go_wp2
    go_ret
    exact ⟨rfl, HB.out _⟩
  · go_enter Tryz.func58, Tryz.ntmps58
    go_wp2
    go_ret
    exact ⟨rfl, HB.out _⟩
  · have HP : Hid (pOf k n = .dng (askA k) (askB k) (askC k)) := by
      simp [Hid, pOf, h27, h29, h30, h32, h33, h28, h31, h34, h38, h35, h36, h37, h39, h40, h41, h43, h44, h45, h46, h49, h50, h51, h52, h42, h53, h54, h47, h48]
    have b27 : (k == 27) = false := beq_false_of_ne h27
    have b29 : (k == 29) = false := beq_false_of_ne h29
    have b30 : (k == 30) = false := beq_false_of_ne h30
    have b32 : (k == 32) = false := beq_false_of_ne h32
    have b33 : (k == 33) = false := beq_false_of_ne h33
    have b28 : (k == 28) = false := beq_false_of_ne h28
    have b31 : (k == 31) = false := beq_false_of_ne h31
    have b34 : (k == 34) = false := beq_false_of_ne h34
    have b38 : (k == 38) = false := beq_false_of_ne h38
    have b35 : (k == 35) = false := beq_false_of_ne h35
    have b36 : (k == 36) = false := beq_false_of_ne h36
    have b37 : (k == 37) = false := beq_false_of_ne h37
    have b39 : (k == 39) = false := beq_false_of_ne h39
    have b40 : (k == 40) = false := beq_false_of_ne h40
    have b41 : (k == 41) = false := beq_false_of_ne h41
    have b43 : (k == 43) = false := beq_false_of_ne h43
    have b44 : (k == 44) = false := beq_false_of_ne h44
    have b45 : (k == 45) = false := beq_false_of_ne h45
    have b46 : (k == 46) = false := beq_false_of_ne h46
    have b49 : (k == 49) = false := beq_false_of_ne h49
    have b50 : (k == 50) = false := beq_false_of_ne h50
    have b51 : (k == 51) = false := beq_false_of_ne h51
    have b52 : (k == 52) = false := beq_false_of_ne h52
    have b42 : (k == 42) = false := beq_false_of_ne h42
    have b53 : (k == 53) = false := beq_false_of_ne h53
    have b54 : (k == 54) = false := beq_false_of_ne h54
    have b47 : (k == 47) = false := beq_false_of_ne h47
    have b48 : (k == 48) = false := beq_false_of_ne h48
    clear h27 h29 h30 h32 h33 h28 h31 h34 h38 h35 h36 h37 h39 h40 h41 h43 h44 h45 h46 h49 h50 h51 h52 h42 h53 h54 h47 h48
    go_enter Tryz.func58, Tryz.ntmps58
    go_wp2_with fail
    refine Calls.mono (asking_any k _) ?_
    rintro e w1 ⟨rfl, hb1⟩
    have HB1 : Hid (Below w.heap.size w w1) := (HB.out k).trans (hb1.mono (HB.out k).size)
    clear hb1
    go_wp2
    go_ret
    rw [HP.out]
    exact ⟨rfl, HB1.out⟩
theorem is_any (x : Prt) (w : World) : Calls Tryz.prog x.isF #[x.D] w fun e w' => e = .returned (.int .i64 x.is) ∧ Below w.heap.size w w' := by
  cases x with
  | dng a b c =>
    have HB : Hid (Below w.heap.size w (w.alloc (.cells #[.int .i64 a, .int .i64 b, .int .i64 c] 154))) := (Below.refl _ w).alloc (Nat.le_refl _) _
    show Calls Tryz.prog 138 #[.agg #[.int .i64 a, .int .i64 b, .int .i64 c]] w _
    go_enter Tryz.func138, Tryz.ntmps138
    go_wp2
    go_ret
    exact ⟨rfl, HB.out⟩
  | wri t n =>
    have HB : Hid (Below w.heap.size w (w.alloc (.cells #[.int .i64 t, .int .i64 n] 139))) := (Below.refl _ w).alloc (Nat.le_refl _) _
    show Calls Tryz.prog 121 #[.agg #[.int .i64 t, .int .i64 n]] w _
    go_enter Tryz.func121, Tryz.ntmps121
    go_wp2
    go_ret
    exact ⟨rfl, HB.out⟩
  | cpy q =>
    have HB : Hid (Below w.heap.size w (w.alloc (.cells #[.int .i64 q] 141))) := (Below.refl _ w).alloc (Nat.le_refl _) _
    show Calls Tryz.prog 123 #[.agg #[.int .i64 q]] w _
    go_enter Tryz.func123, Tryz.ntmps123
    go_wp2
    go_ret
    exact ⟨rfl, HB.out⟩
  | siz  =>
    have HB : Hid (Below w.heap.size w (w.alloc (.cells #[] 143))) := (Below.refl _ w).alloc (Nat.le_refl _) _
    show Calls Tryz.prog 125 #[.agg #[]] w _
    go_enter Tryz.func125, Tryz.ntmps125
    go_wp2
    go_ret
    exact ⟨rfl, HB.out⟩
  | chg t =>
    have HB : Hid (Below w.heap.size w (w.alloc (.cells #[.int .i64 t] 145))) := (Below.refl _ w).alloc (Nat.le_refl _) _
    show Calls Tryz.prog 127 #[.agg #[.int .i64 t]] w _
    go_enter Tryz.func127, Tryz.ntmps127
    go_wp2
    go_ret
    exact ⟨rfl, HB.out⟩
  | rck k =>
    have HB : Hid (Below w.heap.size w (w.alloc (.cells #[.int .i64 k] 147))) := (Below.refl _ w).alloc (Nat.le_refl _) _
    show Calls Tryz.prog 129 #[.agg #[.int .i64 k]] w _
    go_enter Tryz.func129, Tryz.ntmps129
    go_wp2
    go_ret
    exact ⟨rfl, HB.out⟩
  | cmp k =>
    have HB : Hid (Below w.heap.size w (w.alloc (.cells #[.int .i64 k] 148))) := (Below.refl _ w).alloc (Nat.le_refl _) _
    show Calls Tryz.prog 131 #[.agg #[.int .i64 k]] w _
    go_enter Tryz.func131, Tryz.ntmps131
    go_wp2
    go_ret
    exact ⟨rfl, HB.out⟩
  | joi k =>
    have HB : Hid (Below w.heap.size w (w.alloc (.cells #[.int .i64 k] 149))) := (Below.refl _ w).alloc (Nat.le_refl _) _
    show Calls Tryz.prog 134 #[.agg #[.int .i64 k]] w _
    go_enter Tryz.func134, Tryz.ntmps134
    go_wp2
    go_ret
    exact ⟨rfl, HB.out⟩
  | lik k =>
    have HB : Hid (Below w.heap.size w (w.alloc (.cells #[.int .i64 k] 150))) := (Below.refl _ w).alloc (Nat.le_refl _) _
    show Calls Tryz.prog 136 #[.agg #[.int .i64 k]] w _
    go_enter Tryz.func136, Tryz.ntmps136
    go_wp2
    go_ret
    exact ⟨rfl, HB.out⟩
theorem is_nil (x : Prt) (w : World) : (nilAhead 285 x.T x.D "winnow/typed.is").run Tryz.prog w = .ok (some false) w := by
  cases x <;> kernel_rfl
theorem is_fn (x : Prt) (w : World) : (method 285 x.T x.D "winnow/typed.is").run Tryz.prog w = .ok (x.isF, x.D) w := by
  cases x <;> kernel_rfl
theorem co_nil (x : Prt) (w : World) : (nilAhead 285 x.T x.D "winnow/typed.comes").run Tryz.prog w = .ok (some false) w := by
  cases x <;> kernel_rfl
theorem co_fn (x : Prt) (w : World) : (method 285 x.T x.D "winnow/typed.comes").run Tryz.prog w = .ok (x.coF, x.D) w := by
  cases x <;> kernel_rfl
end Go.Proofs.YtjoflihimpipcabGreat.Nm.Ty
