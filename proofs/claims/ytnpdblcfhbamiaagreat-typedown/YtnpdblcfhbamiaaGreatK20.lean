import Derived.Test.YtnpdblcfhbamiaaGreatK08
set_option maxHeartbeats 12800000
set_option maxRecDepth 100000
namespace Go.Proofs.YtnpdblcfhbamiaaGreat.Nm.Ty
open Go.RowKit Go.Maps Go.Proofs.YtnpdblcfhbamiaaGreat.Sp Go.Proofs.YtnpdblcfhbamiaaGreat.Lx Go.Proofs.YtnpdblcfhbamiaaGreat.Gr
/-- a row's part, as typed has it -/
inductive Prt where
  | dng (a b c : Int)
  | wri (t n : Int)
  | cpy (q : Int)
  | siz
  | chg (t : Int)
  | rck (k : Int)
  | cmp (k : Int)
  | joi (k : Int)
  | lik (k : Int)
def askA (k : Int) : Int := if k = 4 then 1 else if k = 5 ∨ k = 14 then 1 else if k = 15 then 0 else if k = 13 then 1 else if k = 6 ∨ k = 12 then 2 else 0
def askB (k : Int) : Int := if k = 4 then 1 else if k = 5 ∨ k = 14 then 0 else if k = 15 then 1 else if k = 13 then 2 else 0
def askC (k : Int) : Int := if k = 4 then 1 else 0
def pOf (k n : Int) : Prt :=
  if k = 27 then .wri 1 n else if k = 29 then .wri 2 1 else if k = 30 then .wri 2 0 else if k = 32 then .cpy n else if k = 33 then .siz
  else if k = 28 ∨ k = 31 ∨ k = 34 ∨ k = 38 then .chg 1 else if k = 35 ∨ k = 36 ∨ k = 37 then .chg 2
  else if k = 39 ∨ k = 40 ∨ k = 41 ∨ k = 43 ∨ k = 44 ∨ k = 45 ∨ k = 46 then .rck k
  else if k = 49 ∨ k = 50 ∨ k = 51 ∨ k = 52 then .cmp k else if k = 42 ∨ k = 53 ∨ k = 54 then .joi k else if k = 47 ∨ k = 48 then .lik k
  else .dng (askA k) (askB k) (askC k)
def Prt.is : Prt → Int
  | .dng _ _ _ => 0
  | .wri t _ => t
  | .cpy _ => 1
  | .siz => 1
  | .chg t => t
  | .rck _ => 1
  | .cmp _ => 2
  | .joi _ => 2
  | .lik _ => 2
def clampZ (n : Int) : Int := max (-1073741824) (min n 1073741824)
def divZ (a b : Int) : Int := if b = 0 then 0 else if b = -1 then -clampZ a else clampZ (a.tdiv b - if a.tmod b ≠ 0 ∧ ¬ ((a.tmod b < 0) ↔ (b < 0)) then 1 else 0)
def oneZ (b : Bool) : Int := if b then 1 else 0
/-- asked: the type that is asked for of a kid -/
def Prt.asked (x : Prt) (kid : Nat) (first : Int) : Int := match x with
  | .dng a b c => if kid = 0 then a else if kid = 1 then b else if kid = 2 then c else 0
  | .rck _ => 1
  | .cmp _ => 1
  | .joi _ => 2
  | .lik _ => if kid = 1 then first else 0
  | _ => 0
def Prt.changing : Prt → Bool
  | .chg _ => true
  | _ => false
def rP (l : List Rz) (i : Nat) : Prt := pOf (rat l i).kind (rat l i).n
def setF (f : Nat → Int) (j : Nat) (x : Int) : Nat → Int := fun i => if i = j then x else f i
/-- the types that are asked for, when k kids of row i have asked; when n rows have -/
def askRow (l : List Rz) (i : Nat) (f : Nat → Int) : Nat → Nat → Int
  | 0 => f
  | k + 1 => setF (askRow l i f k) (kidp l i k) ((rP l i).asked k (rP l (i + 1)).is)
def asksN (l : List Rz) : Nat → Nat → Int
  | 0 => fun _ => 0
  | n + 1 => askRow l n (asksN l n) (km l n)
def tillZ (l : List Rz) (i : Nat) : Nat := let k := (rat l i).kind; if k = 4 ∨ k = 5 ∨ k = 6 then endp l i else if k = 13 then endp l (i + 1) else 0
def conN (l : List Rz) : Nat → Nat
  | 0 => 0
  | n + 1 => max (conN l n) (tillZ l n)
def ghZ (l : List Rz) (gh : Nat → Bool) (i : Nat) : Bool := gh (rat l i).n.toNat
def othZ (l : List Rz) (gh : Nat → Bool) (i : Nat) : Bool := let k := (rat l i).kind
  if k = 8 ∨ k = 17 ∨ k = 20 then ghZ l gh i else if k = 9 ∨ k = 21 then !ghZ l gh i
  else if k = 24 then (if (rat l (i - 1)).kind = 20 then !ghZ l gh i else ghZ l gh i != ghZ l gh (i - 1)) else false
/-- the fault at a row: 0 where there is none -/
def fltZ (l : List Rz) (gh : Nat → Bool) (i : Nat) : Nat :=
  if asksN l l.length i ≠ 0 ∧ asksN l l.length i ≠ (rP l i).is then 41 else if i < conN l i ∧ (rP l i).changing = true then 42 else if othZ l gh i = true then 46 else 0
def fltN (l : List Rz) (gh : Nat → Bool) : Nat → Nat × Nat
  | 0 => (0, 0)
  | n + 1 => if (fltN l gh n).1 ≠ 0 then fltN l gh n else if fltZ l gh n ≠ 0 then (fltZ l gh n, n) else (0, 0)
/-- what a part comes to -/
def Prt.comes (x : Prt) (size : Int) (cq : Nat → Int) (a b : Int) : Int := match x with
  | .wri _ n => n
  | .cpy q => cq q.toNat
  | .siz => size
  | .rck k => if k = 39 then min a b else if k = 40 then max a b else if k = 41 then clampZ (-a) else if k = 43 then clampZ (a * b) else if k = 44 then divZ a b else if k = 45 then clampZ (a + b) else clampZ (a - b)
  | .cmp k => if k = 49 then oneZ (a < b) else if k = 50 then oneZ (a ≤ b) else if k = 51 then oneZ (b < a) else oneZ (b ≤ a)
  | .joi k => if k = 42 then 1 - a else if k = 53 then min a b else max a b
  | .lik k => oneZ ((a == b) == (k == 47))
  | _ => 0
def Prt.T : Prt → TypeId
  | .dng _ _ _ => 145
  | .wri _ _ => 130
  | .cpy _ => 132
  | .siz => 134
  | .chg _ => 136
  | .rck _ => 138
  | .cmp _ => 139
  | .joi _ => 140
  | .lik _ => 141
def Prt.D : Prt → Value
  | .dng a b c => .agg #[.int .i64 a, .int .i64 b, .int .i64 c]
  | .wri t n => .agg #[.int .i64 t, .int .i64 n]
  | .cpy q => .agg #[.int .i64 q]
  | .siz => .agg #[]
  | .chg t => .agg #[.int .i64 t]
  | .rck k => .agg #[.int .i64 k]
  | .cmp k => .agg #[.int .i64 k]
  | .joi k => .agg #[.int .i64 k]
  | .lik k => .agg #[.int .i64 k]
abbrev Prt.V (x : Prt) : Value := .iface x.T x.D
def Prt.isF : Prt → Nat
  | .dng _ _ _ => 133
  | .wri _ _ => 116
  | .cpy _ => 118
  | .siz => 120
  | .chg _ => 122
  | .rck _ => 124
  | .cmp _ => 126
  | .joi _ => 129
  | .lik _ => 131
def Prt.coF : Prt → Nat
  | .dng _ _ _ => 132
  | .wri _ _ => 115
  | .cpy _ => 117
  | .siz => 119
  | .chg _ => 121
  | .rck _ => 123
  | .cmp _ => 125
  | .joi _ => 128
  | .lik _ => 130
theorem clamp_any (n : Int) (w : World) : Calls Tryz.prog 17 #[.int .i64 n] w fun e w' => e = .returned (.int .i64 (clampZ n)) ∧ w' = w := by
  go_enter Tryz.func17, Tryz.ntmps17
  go_wp2
  go_ret
  exact ⟨rfl, rfl⟩
theorem one_any (b : Bool) (w : World) : Calls Tryz.prog 127 #[.bool b] w fun e w' => e = .returned (.int .i64 (oneZ b)) ∧ w' = w := by
  cases b with
  | true =>
    go_enter Tryz.func127, Tryz.ntmps127
    go_wp2
    go_ret
    exact ⟨rfl, rfl⟩
  | false =>
    go_enter Tryz.func127, Tryz.ntmps127
    go_wp2
    go_ret
    exact ⟨rfl, rfl⟩
theorem ask_cases (k : Int) : k = 4 ∨ k = 5 ∨ k = 14 ∨ k = 15 ∨ k = 13 ∨ k = 6 ∨ k = 12 ∨ (¬ k = 4 ∧ ¬ k = 5 ∧ ¬ k = 14 ∧ ¬ k = 15 ∧ ¬ k = 13 ∧ ¬ k = 6 ∧ ¬ k = 12) := by omega
theorem asking_any (k : Int) (w : World) : Calls Tryz.prog 66 #[.int .i64 k] w fun e w' => e = .returned (.agg #[.int .i64 (askA k), .int .i64 (askB k), .int .i64 (askC k)]) ∧ Below w.heap.size w w' := by
  rcases ask_cases k with rfl | rfl | rfl | rfl | rfl | rfl | rfl | ⟨h4, h5, h14, h15, h13, h6, h12⟩
  · go_enter Tryz.func66, Tryz.ntmps66
    go_wp2
    refine bodyPost_ret (v := .agg #[.int .i64 (askA 4), .int .i64 (askB 4), .int .i64 (askC 4)]) (by simp [results, Tryz.results66, go_sem, askA, askB, askC]) rfl ?_
    exact ⟨rfl, (Below.refl _ w).alloc (Nat.le_refl _) _⟩
  · go_enter Tryz.func66, Tryz.ntmps66
    go_wp2
    refine bodyPost_ret (v := .agg #[.int .i64 (askA 5), .int .i64 (askB 5), .int .i64 (askC 5)]) (by simp [results, Tryz.results66, go_sem, askA, askB, askC]) rfl ?_
    exact ⟨rfl, (Below.refl _ w).alloc (Nat.le_refl _) _⟩
  · go_enter Tryz.func66, Tryz.ntmps66
    go_wp2
    refine bodyPost_ret (v := .agg #[.int .i64 (askA 14), .int .i64 (askB 14), .int .i64 (askC 14)]) (by simp [results, Tryz.results66, go_sem, askA, askB, askC]) rfl ?_
    exact ⟨rfl, (Below.refl _ w).alloc (Nat.le_refl _) _⟩
  · go_enter Tryz.func66, Tryz.ntmps66
    go_wp2
    refine bodyPost_ret (v := .agg #[.int .i64 (askA 15), .int .i64 (askB 15), .int .i64 (askC 15)]) (by simp [results, Tryz.results66, go_sem, askA, askB, askC]) rfl ?_
    exact ⟨rfl, (Below.refl _ w).alloc (Nat.le_refl _) _⟩
  · go_enter Tryz.func66, Tryz.ntmps66
    go_wp2
    refine bodyPost_ret (v := .agg #[.int .i64 (askA 13), .int .i64 (askB 13), .int .i64 (askC 13)]) (by simp [results, Tryz.results66, go_sem, askA, askB, askC]) rfl ?_
    exact ⟨rfl, (Below.refl _ w).alloc (Nat.le_refl _) _⟩
  · go_enter Tryz.func66, Tryz.ntmps66
    go_wp2
    refine bodyPost_ret (v := .agg #[.int .i64 (askA 6), .int .i64 (askB 6), .int .i64 (askC 6)]) (by simp [results, Tryz.results66, go_sem, askA, askB, askC]) rfl ?_
    exact ⟨rfl, (Below.refl _ w).alloc (Nat.le_refl _) _⟩
  · go_enter Tryz.func66, Tryz.ntmps66
    go_wp2
    refine bodyPost_ret (v := .agg #[.int .i64 (askA 12), .int .i64 (askB 12), .int .i64 (askC 12)]) (by simp [results, Tryz.results66, go_sem, askA, askB, askC]) rfl ?_
    exact ⟨rfl, (Below.refl _ w).alloc (Nat.le_refl _) _⟩
  · have HA : Hid (askA k = 0 ∧ askB k = 0 ∧ askC k = 0) := by
      simp [Hid, askA, askB, askC, h4, h5, h14, h15, h13, h6, h12]
    have b4 : (k == 4) = false := beq_false_of_ne h4
    have b5 : (k == 5) = false := beq_false_of_ne h5
    have b14 : (k == 14) = false := beq_false_of_ne h14
    have b15 : (k == 15) = false := beq_false_of_ne h15
    have b13 : (k == 13) = false := beq_false_of_ne h13
    have b6 : (k == 6) = false := beq_false_of_ne h6
    have b12 : (k == 12) = false := beq_false_of_ne h12
    go_enter Tryz.func66, Tryz.ntmps66
    go_wp2
    rw [HA.out.1, HA.out.2.1, HA.out.2.2]
    refine bodyPost_ret (v := .agg #[.int .i64 0, .int .i64 0, .int .i64 0]) (by simp [results, Tryz.results66, go_sem]) rfl ?_
    exact ⟨rfl, (Below.refl _ w).alloc (Nat.le_refl _) _⟩
theorem part_cases (k : Int) : k = 27 ∨ k = 29 ∨ k = 30 ∨ k = 32 ∨ k = 33 ∨ k = 28 ∨ k = 31 ∨ k = 34 ∨ k = 38 ∨ k = 35 ∨ k = 36 ∨ k = 37 ∨ k = 39 ∨ k = 40 ∨ k = 41 ∨ k = 43 ∨ k = 44 ∨ k = 45 ∨ k = 46 ∨ k = 49 ∨ k = 50 ∨ k = 51 ∨ k = 52 ∨ k = 42 ∨ k = 53 ∨ k = 54 ∨ k = 47 ∨ k = 48 ∨ (¬ k = 27 ∧ ¬ k = 29 ∧ ¬ k = 30 ∧ ¬ k = 32 ∧ ¬ k = 33 ∧ ¬ k = 28 ∧ ¬ k = 31 ∧ ¬ k = 34 ∧ ¬ k = 38 ∧ ¬ k = 35 ∧ ¬ k = 36 ∧ ¬ k = 37 ∧ ¬ k = 39 ∧ ¬ k = 40 ∧ ¬ k = 41 ∧ ¬ k = 43 ∧ ¬ k = 44 ∧ ¬ k = 45 ∧ ¬ k = 46 ∧ ¬ k = 49 ∧ ¬ k = 50 ∧ ¬ k = 51 ∧ ¬ k = 52 ∧ ¬ k = 42 ∧ ¬ k = 53 ∧ ¬ k = 54 ∧ ¬ k = 47 ∧ ¬ k = 48) := by omega
theorem part_any (k n st kd : Int) (nm : ByteArray) (w : World) : Calls Tryz.prog 50 #[.agg #[.int .i64 k, .string nm, .int .i64 st, .int .i64 n, .int .i64 kd]] w fun e w' => e = .returned (pOf k n).V ∧ Below w.heap.size w w' := by
  have hb := fun k : Int => (Below.refl w.heap.size w).alloc (Nat.le_refl _) (.cells #[.int .i64 k, .string nm, .int .i64 st, .int .i64 n, .int .i64 kd] 51)
  have HB := show Hid _ from hb
  clear hb
  rcases part_cases k with rfl | rfl | rfl | rfl | rfl | rfl | rfl | rfl | rfl | rfl | rfl | rfl | rfl | rfl | rfl | rfl | rfl | rfl | rfl | rfl | rfl | rfl | rfl | rfl | rfl | rfl | rfl | rfl | ⟨h27, h29, h30, h32, h33, h28, h31, h34, h38, h35, h36, h37, h39, h40, h41, h43, h44, h45, h46, h49, h50, h51, h52, h42, h53, h54, h47, h48⟩
  · go_enter Tryz.func50, Tryz.ntmps50
    go_wp2
    go_ret
    exact ⟨rfl, HB.out _⟩
  · go_enter Tryz.func50, Tryz.ntmps50
    go_wp2
    go_ret
    exact ⟨rfl, HB.out _⟩
  · go_enter Tryz.func50, Tryz.ntmps50
    go_wp2
    go_ret
    exact ⟨rfl, HB.out _⟩
  · go_enter Tryz.func50, Tryz.ntmps50
    go_wp2
    go_ret
    exact ⟨rfl, HB.out _⟩
  · go_enter Tryz.func50, Tryz.ntmps50
    go_wp2
    go_ret
    exact ⟨rfl, HB.out _⟩
  · go_enter Tryz.func50, Tryz.ntmps50
    go_wp2
    go_ret
    exact ⟨rfl, HB.out _⟩
  · go_enter Tryz.func50, Tryz.ntmps50
    go_wp2
    go_ret
    exact ⟨rfl, HB.out _⟩
  · go_enter Tryz.func50, Tryz.ntmps50
    go_wp2
    go_ret
    exact ⟨rfl, HB.out _⟩
  · go_enter Tryz.func50, Tryz.ntmps50
    go_wp2
    go_ret
    exact ⟨rfl, HB.out _⟩
  · go_enter Tryz.func50, Tryz.ntmps50
    go_wp2
    go_ret
    exact ⟨rfl, HB.out _⟩
  · go_enter Tryz.func50, Tryz.ntmps50
    go_wp2
    go_ret
    exact ⟨rfl, HB.out _⟩
  · go_enter Tryz.func50, Tryz.ntmps50
    go_wp2
    go_ret
    exact ⟨rfl, HB.out _⟩
  · go_enter Tryz.func50, Tryz.ntmps50
    go_wp2
    go_ret
    exact ⟨rfl, HB.out _⟩
  · go_enter Tryz.func50, Tryz.ntmps50
    go_wp2
    go_ret
    exact ⟨rfl, HB.out _⟩
  · go_enter Tryz.func50, Tryz.ntmps50
    go_wp2
    go_ret
    exact ⟨rfl, HB.out _⟩
  · go_enter Tryz.func50, Tryz.ntmps50
    go_wp2
    go_ret
    exact ⟨rfl, HB.out _⟩
  · go_enter Tryz.func50, Tryz.ntmps50
    go_wp2
    go_ret
    exact ⟨rfl, HB.out _⟩
  · go_enter Tryz.func50, Tryz.ntmps50
    go_wp2
    go_ret
    exact ⟨rfl, HB.out _⟩
  · go_enter Tryz.func50, Tryz.ntmps50
    go_wp2
    go_ret
    exact ⟨rfl, HB.out _⟩
  · go_enter Tryz.func50, Tryz.ntmps50
    go_wp2
    go_ret
    exact ⟨rfl, HB.out _⟩
  · go_enter Tryz.func50, Tryz.ntmps50
    go_wp2
    go_ret
    exact ⟨rfl, HB.out _⟩
  · go_enter Tryz.func50, Tryz.ntmps50
    go_wp2
    go_ret
    exact ⟨rfl, HB.out _⟩
  · go_enter Tryz.func50, Tryz.ntmps50
    go_wp2
    go_ret
    exact ⟨rfl, HB.out _⟩
  · go_enter Tryz.func50, Tryz.ntmps50
    go_wp2
    go_ret
    exact ⟨rfl, HB.out _⟩
  · go_enter Tryz.func50, Tryz.ntmps50
    go_wp2
    go_ret
    exact ⟨rfl, HB.out _⟩
  · go_enter Tryz.func50, Tryz.ntmps50
    go_wp2
    go_ret
    exact ⟨rfl, HB.out _⟩
  · go_enter Tryz.func50, Tryz.ntmps50
    go_wp2
    go_ret
    exact ⟨rfl, HB.out _⟩
  · go_enter Tryz.func50, Tryz.ntmps50
    go_wp2
    go_ret
    exact ⟨rfl, HB.out _⟩
  · have HP : Hid (pOf k n = .dng (askA k) (askB k) (askC k)) := by
      simp [Hid, pOf, h27, h29, h30, h32, h33, h28, h31, h34, h38, h35, h36, h37, h39, h40, h41, h43, h44, h45, h46, h49, h50, h51, h52, h42, h53, h54, h47, h48]
    have b27 : (k == 27) = false := beq_false_of_ne h27
    have b29 : (k == 29) = false := beq_false_of_ne h29
    have b30 : (k == 30) = false := beq_false_of_ne h30
    have b32 : (k == 32) = false := beq_false_of_ne h32
    have b33 : (k == 33) = false := beq_false_of_ne h33
    have b28 : (k == 28) = false := beq_false_of_ne h28
    have b31 : (k == 31) = false := beq_false_of_ne h31
    have b34 : (k == 34) = false := beq_false_of_ne h34
    have b38 : (k == 38) = false := beq_false_of_ne h38
    have b35 : (k == 35) = false := beq_false_of_ne h35
    have b36 : (k == 36) = false := beq_false_of_ne h36
    have b37 : (k == 37) = false := beq_false_of_ne h37
    have b39 : (k == 39) = false := beq_false_of_ne h39
    have b40 : (k == 40) = false := beq_false_of_ne h40
    have b41 : (k == 41) = false := beq_false_of_ne h41
    have b43 : (k == 43) = false := beq_false_of_ne h43
    have b44 : (k == 44) = false := beq_false_of_ne h44
    have b45 : (k == 45) = false := beq_false_of_ne h45
    have b46 : (k == 46) = false := beq_false_of_ne h46
    have b49 : (k == 49) = false := beq_false_of_ne h49
    have b50 : (k == 50) = false := beq_false_of_ne h50
    have b51 : (k == 51) = false := beq_false_of_ne h51
    have b52 : (k == 52) = false := beq_false_of_ne h52
    have b42 : (k == 42) = false := beq_false_of_ne h42
    have b53 : (k == 53) = false := beq_false_of_ne h53
    have b54 : (k == 54) = false := beq_false_of_ne h54
    have b47 : (k == 47) = false := beq_false_of_ne h47
    have b48 : (k == 48) = false := beq_false_of_ne h48
    clear h27 h29 h30 h32 h33 h28 h31 h34 h38 h35 h36 h37 h39 h40 h41 h43 h44 h45 h46 h49 h50 h51 h52 h42 h53 h54 h47 h48
    go_enter Tryz.func50, Tryz.ntmps50
    go_wp2_with fail
    refine Calls.mono (asking_any k _) ?_
    rintro e w1 ⟨rfl, hb1⟩
    have HB1 : Hid (Below w.heap.size w w1) := (HB.out k).trans (hb1.mono (HB.out k).size)
    clear hb1
    go_wp2
    go_ret
    rw [HP.out]
    exact ⟨rfl, HB1.out⟩
theorem is_any (x : Prt) (w : World) : Calls Tryz.prog x.isF #[x.D] w fun e w' => e = .returned (.int .i64 x.is) ∧ Below w.heap.size w w' := by
  cases x with
  | dng a b c =>
    have HB : Hid (Below w.heap.size w (w.alloc (.cells #[.int .i64 a, .int .i64 b, .int .i64 c] 145))) := (Below.refl _ w).alloc (Nat.le_refl _) _
    show Calls Tryz.prog 133 #[.agg #[.int .i64 a, .int .i64 b, .int .i64 c]] w _
    go_enter Tryz.func133, Tryz.ntmps133
    go_wp2
    go_ret
    exact ⟨rfl, HB.out⟩
  | wri t n =>
    have HB : Hid (Below w.heap.size w (w.alloc (.cells #[.int .i64 t, .int .i64 n] 130))) := (Below.refl _ w).alloc (Nat.le_refl _) _
    show Calls Tryz.prog 116 #[.agg #[.int .i64 t, .int .i64 n]] w _
    go_enter Tryz.func116, Tryz.ntmps116
    go_wp2
    go_ret
    exact ⟨rfl, HB.out⟩
  | cpy q =>
    have HB : Hid (Below w.heap.size w (w.alloc (.cells #[.int .i64 q] 132))) := (Below.refl _ w).alloc (Nat.le_refl _) _
    show Calls Tryz.prog 118 #[.agg #[.int .i64 q]] w _
    go_enter Tryz.func118, Tryz.ntmps118
    go_wp2
    go_ret
    exact ⟨rfl, HB.out⟩
  | siz  =>
    have HB : Hid (Below w.heap.size w (w.alloc (.cells #[] 134))) := (Below.refl _ w).alloc (Nat.le_refl _) _
    show Calls Tryz.prog 120 #[.agg #[]] w _
    go_enter Tryz.func120, Tryz.ntmps120
    go_wp2
    go_ret
    exact ⟨rfl, HB.out⟩
  | chg t =>
    have HB : Hid (Below w.heap.size w (w.alloc (.cells #[.int .i64 t] 136))) := (Below.refl _ w).alloc (Nat.le_refl _) _
    show Calls Tryz.prog 122 #[.agg #[.int .i64 t]] w _
    go_enter Tryz.func122, Tryz.ntmps122
    go_wp2
    go_ret
    exact ⟨rfl, HB.out⟩
  | rck k =>
    have HB : Hid (Below w.heap.size w (w.alloc (.cells #[.int .i64 k] 138))) := (Below.refl _ w).alloc (Nat.le_refl _) _
    show Calls Tryz.prog 124 #[.agg #[.int .i64 k]] w _
    go_enter Tryz.func124, Tryz.ntmps124
    go_wp2
    go_ret
    exact ⟨rfl, HB.out⟩
  | cmp k =>
    have HB : Hid (Below w.heap.size w (w.alloc (.cells #[.int .i64 k] 139))) := (Below.refl _ w).alloc (Nat.le_refl _) _
    show Calls Tryz.prog 126 #[.agg #[.int .i64 k]] w _
    go_enter Tryz.func126, Tryz.ntmps126
    go_wp2
    go_ret
    exact ⟨rfl, HB.out⟩
  | joi k =>
    have HB : Hid (Below w.heap.size w (w.alloc (.cells #[.int .i64 k] 140))) := (Below.refl _ w).alloc (Nat.le_refl _) _
    show Calls Tryz.prog 129 #[.agg #[.int .i64 k]] w _
    go_enter Tryz.func129, Tryz.ntmps129
    go_wp2
    go_ret
    exact ⟨rfl, HB.out⟩
  | lik k =>
    have HB : Hid (Below w.heap.size w (w.alloc (.cells #[.int .i64 k] 141))) := (Below.refl _ w).alloc (Nat.le_refl _) _
    show Calls Tryz.prog 131 #[.agg #[.int .i64 k]] w _
    go_enter Tryz.func131, Tryz.ntmps131
    go_wp2
    go_ret
    exact ⟨rfl, HB.out⟩
theorem is_nil (x : Prt) (w : World) : (nilAhead 280 x.T x.D "winnow/typed.is").run Tryz.prog w = .ok (some false) w := by
  cases x <;> kernel_rfl
theorem is_fn (x : Prt) (w : World) : (method 280 x.T x.D "winnow/typed.is").run Tryz.prog w = .ok (x.isF, x.D) w := by
  cases x <;> kernel_rfl
theorem co_nil (x : Prt) (w : World) : (nilAhead 280 x.T x.D "winnow/typed.comes").run Tryz.prog w = .ok (some false) w := by
  cases x <;> kernel_rfl
theorem co_fn (x : Prt) (w : World) : (method 280 x.T x.D "winnow/typed.comes").run Tryz.prog w = .ok (x.coF, x.D) w := by
  cases x <;> kernel_rfl
end Go.Proofs.YtnpdblcfhbamiaaGreat.Nm.Ty
