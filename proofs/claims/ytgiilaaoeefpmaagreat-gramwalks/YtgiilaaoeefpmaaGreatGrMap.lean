import Derived.Test.YtgiilaaoeefpmaaGreatGrRow
namespace Go.Proofs.YtgiilaaoeefpmaaGreat.Gr
open Go.RowKit Go.Proofs.YtgiilaaoeefpmaaGreat.Sp Go.Proofs.YtgiilaaoeefpmaaGreat.Lx Go.Maps

/-- an element of a table, as it is -/
def R0 (v : Value) : Option (DataW Value × List MemPlace) := some (.held v, [])
abbrev Tab := List (List UInt8 × Value)
def mkD (l : Tab) : DataW Value := l.foldl (fun m p => m.put (.string p.1) (.held p.2)) (.map [])
def look (l : Tab) (k : List UInt8) : Option Value := l.foldl (fun o p => if p.1 = k then some p.2 else o) none
def heldOr (o : Option Value) (z : DataW Value) : DataW Value :=
  match o with
  | some v => .held v
  | none => z
theorem key_lit (l : List UInt8) : WideAt.IsKeyLit (.string l) := by
  trivial
theorem look_fold (k : List UInt8) (z : DataW Value) : ∀ (l : Tab) (D : DataW Value) (o : Option Value), IsMap D → Maps.has D (.string k) = o.isSome → D.atKey (.string k) z = heldOr o z →
    Maps.has (l.foldl (fun m p => m.put (.string p.1) (.held p.2)) D) (.string k) = (l.foldl (fun o p => if p.1 = k then some p.2 else o) o).isSome ∧
    (l.foldl (fun m p => m.put (.string p.1) (.held p.2)) D).atKey (.string k) z = heldOr (l.foldl (fun o p => if p.1 = k then some p.2 else o) o) z := by
  intro l
  induction l with
  | nil => intro D o _ h1 h2; exact ⟨h1, h2⟩
  | cons p l ih =>
    intro D o hD h1 h2
    rw [List.foldl_cons, List.foldl_cons]
    refine ih _ _ (hD.put _ _) ?_ ?_
    · by_cases e : p.1 = k
      · rw [if_pos e, e, has_put_same hD (key_lit k)]; rfl
      · rw [if_neg e, has_put_other (fun e2 => e (by cases e2; rfl)), h1]
    · by_cases e : p.1 = k
      · rw [if_pos e, e, atKey_put_same hD (key_lit k)]; rfl
      · rw [if_neg e, atKey_put_other (fun e2 => e (by cases e2; rfl)), h2]
theorem look_has (l : Tab) (k : List UInt8) : Maps.has (mkD l) (.string k) = (look l k).isSome := (look_fold k (.held undef) l (.map []) none isMap_empty rfl rfl).1
theorem look_at (l : Tab) (k : List UInt8) (z : DataW Value) : (mkD l).atKey (.string k) z = heldOr (look l k) z := (look_fold k z l (.map []) none isMap_empty rfl rfl).2

theorem law : Keyed Tryz.prog 9 := string_keyed Tryz.underlying9
theorem wpList_insert_own {H : Type} {P : Program} (w : World) {ops : Array Oper} {rest : List Oper} {o : Oper} {a : Act} {Q : Exit → Act → World → Prop}
    (hg : o.guard = none) (m x v : Operand) (t : TypeId) (hop : o.op = Op.insert t m x v)
    (k e : TypeId) (K : Keyed P k) (ht : P.underlying t = some (.map k e)) (R : Value → Option (DataW H × List MemPlace)) (b n : Nat) (D : DataW H)
    (hm : a.eval m = .map (some b)) (hown : w.ownsMap P k R b n D) (hn : n < maxLen) (key val : Value) (kl : Lit) (hx : a.eval x = key) (hv : a.eval v = val) (hkey : keyOf P k key = some kl)
    (d : DataW H) (ps : List MemPlace) (hval : R val = some (d, ps))
    (hK : ∀ w', w'.ownsMap P k R b (n + 1) (D.put kl d) → w.grownBy w' (some b) → wpList P ops Q rest (a.put o.dst undef) w') :
    wpList P ops Q (o :: rest) a w := by
  refine wpList_plain hg fun K' hK' => ?_
  obtain ⟨w', hrun, r1, r2⟩ := hown.update K ht hn hkey hval
  unfold Oper.wp
  simp [execOp, hop, hm, hx, hv, hrun, Result.andThen]
  exact hK' _ _ (hK w' r1 r2)

def declTab (g : Nat) : Tab := [([113, 117, 101, 117, 101], .agg #[.int .i64 2, .func (.func 71) #[.pointer (some ⟨g, 0, none⟩)] #[]]), ([118, 97, 114], .agg #[.int .i64 4, .func (.func 72) #[.pointer (some ⟨g, 0, none⟩)] #[]]), ([116, 97, 103], .agg #[.int .i64 5, .func (.func 73) #[.pointer (some ⟨g, 0, none⟩)] #[]]), ([114, 101, 113, 117, 105, 114, 101], .agg #[.int .i64 6, .func (.func 74) #[.pointer (some ⟨g, 0, none⟩)] #[]]), ([114, 117, 108, 101], .agg #[.int .i64 7, .func (.func 75) #[.pointer (some ⟨g, 0, none⟩)] #[]])]
def eventTab (g : Nat) : Tab := [([111, 110], .agg #[.int .i64 8, .func (.func 76) #[.pointer (some ⟨g, 0, none⟩)] #[]])]
def doingTab (g : Nat) : Tab := [([123], .agg #[.int .i64 11, .func (.func 77) #[.pointer (some ⟨g, 0, none⟩)] #[]]), ([105, 102], .agg #[.int .i64 12, .func (.func 78) #[.pointer (some ⟨g, 0, none⟩)] #[]]), ([108, 111, 111, 112], .agg #[.int .i64 13, .func (.func 79) #[.pointer (some ⟨g, 0, none⟩)] #[]]), ([115, 101, 116], .agg #[.int .i64 14, .func (.func 80) #[.pointer (some ⟨g, 0, none⟩)] #[]]), ([109, 97, 114, 107], .agg #[.int .i64 15, .func (.func 81) #[.pointer (some ⟨g, 0, none⟩)] #[]]), ([105, 110, 115, 101, 114, 116], .agg #[.int .i64 16, .func (.func 82) #[.pointer (some ⟨g, 0, none⟩)] #[]]), ([109, 111, 118, 101], .agg #[.int .i64 17, .func (.func 82) #[.pointer (some ⟨g, 0, none⟩)] #[]]), ([102, 111, 114, 103, 101, 116], .agg #[.int .i64 18, .func (.func 83) #[.pointer (some ⟨g, 0, none⟩)] #[]]), ([115, 104, 105, 102, 116], .agg #[.int .i64 19, .func (.func 84) #[.pointer (some ⟨g, 0, none⟩)] #[]]), ([101, 118, 105, 99, 116], .agg #[.int .i64 20, .func (.func 85) #[.pointer (some ⟨g, 0, none⟩)] #[]]), ([100, 114, 111, 112], .agg #[.int .i64 21, .func (.func 82) #[.pointer (some ⟨g, 0, none⟩)] #[]]), ([99, 97, 108, 108], .agg #[.int .i64 22, .func (.func 86) #[.pointer (some ⟨g, 0, none⟩)] #[]]), ([112, 97, 115, 115], .agg #[.int .i64 23, .func (.func 83) #[.pointer (some ⟨g, 0, none⟩)] #[]])]
def itemTab (g : Nat) : Tab := [([120], .agg #[.int .i64 25, .func (.func 87) #[.pointer (some ⟨g, 0, none⟩)] #[]]), ([102, 114, 111, 110, 116], .agg #[.int .i64 26, .func (.func 88) #[.pointer (some ⟨g, 0, none⟩)] #[]]), ([98, 97, 99, 107], .agg #[.int .i64 26, .func (.func 88) #[.pointer (some ⟨g, 0, none⟩)] #[]])]
def bareTab (g : Nat) : Tab := [([45], .agg #[.int .i64 41, .func (.func 89) #[.pointer (some ⟨g, 0, none⟩)] #[]]), ([33], .agg #[.int .i64 42, .func (.func 89) #[.pointer (some ⟨g, 0, none⟩)] #[]]), ([116, 114, 117, 101], .agg #[.int .i64 29, .func (.func 87) #[.pointer (some ⟨g, 0, none⟩)] #[]]), ([102, 97, 108, 115, 101], .agg #[.int .i64 30, .func (.func 87) #[.pointer (some ⟨g, 0, none⟩)] #[]]), ([115, 105, 122, 101], .agg #[.int .i64 33, .func (.func 87) #[.pointer (some ⟨g, 0, none⟩)] #[]]), ([116, 111, 116, 97, 108], .agg #[.int .i64 34, .func (.func 87) #[.pointer (some ⟨g, 0, none⟩)] #[]]), ([108, 101, 110], .agg #[.int .i64 31, .func (.func 90) #[.pointer (some ⟨g, 0, none⟩)] #[]]), ([99, 97, 112], .agg #[.int .i64 32, .func (.func 90) #[.pointer (some ⟨g, 0, none⟩)] #[]]), ([101, 109, 112, 116, 121], .agg #[.int .i64 35, .func (.func 90) #[.pointer (some ⟨g, 0, none⟩)] #[]]), ([102, 117, 108, 108], .agg #[.int .i64 36, .func (.func 90) #[.pointer (some ⟨g, 0, none⟩)] #[]]), ([97, 116], .agg #[.int .i64 37, .func (.func 90) #[.pointer (some ⟨g, 0, none⟩)] #[]]), ([109, 105, 110], .agg #[.int .i64 39, .func (.func 91) #[.pointer (some ⟨g, 0, none⟩)] #[]]), ([109, 97, 120], .agg #[.int .i64 40, .func (.func 91) #[.pointer (some ⟨g, 0, none⟩)] #[]]), ([40], .agg #[.int .i64 0, .func (.func 92) #[.pointer (some ⟨g, 0, none⟩)] #[]])]
def signTab : Tab := [([124, 124], .int .i64 54), ([38, 38], .int .i64 53), ([61, 61], .int .i64 47), ([33, 61], .int .i64 48), ([60], .int .i64 49), ([60, 61], .int .i64 50), ([62], .int .i64 51), ([62, 61], .int .i64 52), ([43], .int .i64 45), ([45], .int .i64 46), ([42], .int .i64 43), ([47], .int .i64 44)]


set_option maxHeartbeats 3200000 in
set_option maxRecDepth 100000 in
theorem declRules_any (g : Nat) (w : World) : Calls Tryz.prog 45 #[.pointer (some ⟨g, 0, none⟩)] w fun e w' => e = .returned (.map (some w.heap.size)) ∧ w'.ownsMap Tryz.prog 9 R0 w.heap.size 5 (mkD (declTab g)) ∧ Below w.heap.size w w' := by
  have hmm := @run_makeMap Tryz.prog
  have hmf : ∀ (fn : Fn) (first cap : Array Value) (w : World), (Instr.makeFunc fn first cap).run Tryz.prog w = .ok (.func fn first cap) w := fun _ _ _ _ => rfl
  have HO : Hid ((w.alloc (.map #[] 0)).ownsMap Tryz.prog 9 R0 w.heap.size 0 (.map [])) := World.ownsMap_made _ _ _ _
  have HB : Hid (Below w.heap.size w (w.alloc (.map #[] 0))) := (Below.refl _ _).alloc (Nat.le_refl _) _
  go_enter Tryz.func45, Tryz.ntmps45
  go_wp2_with (
    guard_target =~ wpList _ _ _ (Oper.mk _ (Op.insert _ _ _ _) _ _ _ _ :: _) _ _
    refine wpList_insert_own _ rfl _ _ _ 78 rfl 9 98 law Tryz.underlying78 R0 _ _ _ rfl HO.out (by unfold maxLen; omega) _ _ _ rfl rfl (WideMaps.keyOf_string_mk Tryz.underlying9 (by decide)) _ [] rfl ?_
    intro w1 ho1 hg1
    replace HO := (show Hid _ from ho1)
    replace HB := (show Hid _ from (HB.out.grown hg1 HB.out.size (fun j hj => by cases hj; exact Nat.le_refl _)))
    clear ho1 hg1)
  go_ret
  exact ⟨rfl, HO.out, HB.out⟩

set_option maxHeartbeats 3200000 in
set_option maxRecDepth 100000 in
theorem eventRules_any (g : Nat) (w : World) : Calls Tryz.prog 46 #[.pointer (some ⟨g, 0, none⟩)] w fun e w' => e = .returned (.map (some w.heap.size)) ∧ w'.ownsMap Tryz.prog 9 R0 w.heap.size 1 (mkD (eventTab g)) ∧ Below w.heap.size w w' := by
  have hmm := @run_makeMap Tryz.prog
  have hmf : ∀ (fn : Fn) (first cap : Array Value) (w : World), (Instr.makeFunc fn first cap).run Tryz.prog w = .ok (.func fn first cap) w := fun _ _ _ _ => rfl
  have HO : Hid ((w.alloc (.map #[] 0)).ownsMap Tryz.prog 9 R0 w.heap.size 0 (.map [])) := World.ownsMap_made _ _ _ _
  have HB : Hid (Below w.heap.size w (w.alloc (.map #[] 0))) := (Below.refl _ _).alloc (Nat.le_refl _) _
  go_enter Tryz.func46, Tryz.ntmps46
  go_wp2_with (
    guard_target =~ wpList _ _ _ (Oper.mk _ (Op.insert _ _ _ _) _ _ _ _ :: _) _ _
    refine wpList_insert_own _ rfl _ _ _ 78 rfl 9 98 law Tryz.underlying78 R0 _ _ _ rfl HO.out (by unfold maxLen; omega) _ _ _ rfl rfl (WideMaps.keyOf_string_mk Tryz.underlying9 (by decide)) _ [] rfl ?_
    intro w1 ho1 hg1
    replace HO := (show Hid _ from ho1)
    replace HB := (show Hid _ from (HB.out.grown hg1 HB.out.size (fun j hj => by cases hj; exact Nat.le_refl _)))
    clear ho1 hg1)
  go_ret
  exact ⟨rfl, HO.out, HB.out⟩

set_option maxHeartbeats 3200000 in
set_option maxRecDepth 100000 in
theorem doingRules_any (g : Nat) (w : World) : Calls Tryz.prog 47 #[.pointer (some ⟨g, 0, none⟩)] w fun e w' => e = .returned (.map (some w.heap.size)) ∧ w'.ownsMap Tryz.prog 9 R0 w.heap.size 13 (mkD (doingTab g)) ∧ Below w.heap.size w w' := by
  have hmm := @run_makeMap Tryz.prog
  have hmf : ∀ (fn : Fn) (first cap : Array Value) (w : World), (Instr.makeFunc fn first cap).run Tryz.prog w = .ok (.func fn first cap) w := fun _ _ _ _ => rfl
  have HO : Hid ((w.alloc (.map #[] 0)).ownsMap Tryz.prog 9 R0 w.heap.size 0 (.map [])) := World.ownsMap_made _ _ _ _
  have HB : Hid (Below w.heap.size w (w.alloc (.map #[] 0))) := (Below.refl _ _).alloc (Nat.le_refl _) _
  go_enter Tryz.func47, Tryz.ntmps47
  go_wp2_with (
    guard_target =~ wpList _ _ _ (Oper.mk _ (Op.insert _ _ _ _) _ _ _ _ :: _) _ _
    refine wpList_insert_own _ rfl _ _ _ 78 rfl 9 98 law Tryz.underlying78 R0 _ _ _ rfl HO.out (by unfold maxLen; omega) _ _ _ rfl rfl (WideMaps.keyOf_string_mk Tryz.underlying9 (by decide)) _ [] rfl ?_
    intro w1 ho1 hg1
    replace HO := (show Hid _ from ho1)
    replace HB := (show Hid _ from (HB.out.grown hg1 HB.out.size (fun j hj => by cases hj; exact Nat.le_refl _)))
    clear ho1 hg1)
  go_ret
  exact ⟨rfl, HO.out, HB.out⟩

set_option maxHeartbeats 3200000 in
set_option maxRecDepth 100000 in
theorem itemRules_any (g : Nat) (w : World) : Calls Tryz.prog 48 #[.pointer (some ⟨g, 0, none⟩)] w fun e w' => e = .returned (.map (some w.heap.size)) ∧ w'.ownsMap Tryz.prog 9 R0 w.heap.size 3 (mkD (itemTab g)) ∧ Below w.heap.size w w' := by
  have hmm := @run_makeMap Tryz.prog
  have hmf : ∀ (fn : Fn) (first cap : Array Value) (w : World), (Instr.makeFunc fn first cap).run Tryz.prog w = .ok (.func fn first cap) w := fun _ _ _ _ => rfl
  have HO : Hid ((w.alloc (.map #[] 0)).ownsMap Tryz.prog 9 R0 w.heap.size 0 (.map [])) := World.ownsMap_made _ _ _ _
  have HB : Hid (Below w.heap.size w (w.alloc (.map #[] 0))) := (Below.refl _ _).alloc (Nat.le_refl _) _
  go_enter Tryz.func48, Tryz.ntmps48
  go_wp2_with (
    guard_target =~ wpList _ _ _ (Oper.mk _ (Op.insert _ _ _ _) _ _ _ _ :: _) _ _
    refine wpList_insert_own _ rfl _ _ _ 78 rfl 9 98 law Tryz.underlying78 R0 _ _ _ rfl HO.out (by unfold maxLen; omega) _ _ _ rfl rfl (WideMaps.keyOf_string_mk Tryz.underlying9 (by decide)) _ [] rfl ?_
    intro w1 ho1 hg1
    replace HO := (show Hid _ from ho1)
    replace HB := (show Hid _ from (HB.out.grown hg1 HB.out.size (fun j hj => by cases hj; exact Nat.le_refl _)))
    clear ho1 hg1)
  go_ret
  exact ⟨rfl, HO.out, HB.out⟩

set_option maxHeartbeats 3200000 in
set_option maxRecDepth 100000 in
theorem bareRules_any (g : Nat) (w : World) : Calls Tryz.prog 49 #[.pointer (some ⟨g, 0, none⟩)] w fun e w' => e = .returned (.map (some w.heap.size)) ∧ w'.ownsMap Tryz.prog 9 R0 w.heap.size 14 (mkD (bareTab g)) ∧ Below w.heap.size w w' := by
  have hmm := @run_makeMap Tryz.prog
  have hmf : ∀ (fn : Fn) (first cap : Array Value) (w : World), (Instr.makeFunc fn first cap).run Tryz.prog w = .ok (.func fn first cap) w := fun _ _ _ _ => rfl
  have HO : Hid ((w.alloc (.map #[] 0)).ownsMap Tryz.prog 9 R0 w.heap.size 0 (.map [])) := World.ownsMap_made _ _ _ _
  have HB : Hid (Below w.heap.size w (w.alloc (.map #[] 0))) := (Below.refl _ _).alloc (Nat.le_refl _) _
  go_enter Tryz.func49, Tryz.ntmps49
  go_wp2_with (
    guard_target =~ wpList _ _ _ (Oper.mk _ (Op.insert _ _ _ _) _ _ _ _ :: _) _ _
    refine wpList_insert_own _ rfl _ _ _ 78 rfl 9 98 law Tryz.underlying78 R0 _ _ _ rfl HO.out (by unfold maxLen; omega) _ _ _ rfl rfl (WideMaps.keyOf_string_mk Tryz.underlying9 (by decide)) _ [] rfl ?_
    intro w1 ho1 hg1
    replace HO := (show Hid _ from ho1)
    replace HB := (show Hid _ from (HB.out.grown hg1 HB.out.size (fun j hj => by cases hj; exact Nat.le_refl _)))
    clear ho1 hg1)
  go_ret
  exact ⟨rfl, HO.out, HB.out⟩

set_option maxHeartbeats 3200000 in
set_option maxRecDepth 100000 in
theorem signKinds_any (w : World) : Calls Tryz.prog 50 #[] w fun e w' => e = .returned (.map (some w.heap.size)) ∧ w'.ownsMap Tryz.prog 9 R0 w.heap.size 12 (mkD signTab) ∧ Below w.heap.size w w' := by
  have hmm := @run_makeMap Tryz.prog
  have hmf : ∀ (fn : Fn) (first cap : Array Value) (w : World), (Instr.makeFunc fn first cap).run Tryz.prog w = .ok (.func fn first cap) w := fun _ _ _ _ => rfl
  have HO : Hid ((w.alloc (.map #[] 0)).ownsMap Tryz.prog 9 R0 w.heap.size 0 (.map [])) := World.ownsMap_made _ _ _ _
  have HB : Hid (Below w.heap.size w (w.alloc (.map #[] 0))) := (Below.refl _ _).alloc (Nat.le_refl _) _
  go_enter Tryz.func50, Tryz.ntmps50
  go_wp2_with (
    guard_target =~ wpList _ _ _ (Oper.mk _ (Op.insert _ _ _ _) _ _ _ _ :: _) _ _
    refine wpList_insert_own _ rfl _ _ _ 79 rfl 9 3 law Tryz.underlying79 R0 _ _ _ rfl HO.out (by unfold maxLen; omega) _ _ _ rfl rfl (WideMaps.keyOf_string_mk Tryz.underlying9 (by decide)) _ [] rfl ?_
    intro w1 ho1 hg1
    replace HO := (show Hid _ from ho1)
    replace HB := (show Hid _ from (HB.out.grown hg1 HB.out.size (fun j hj => by cases hj; exact Nat.le_refl _)))
    clear ho1 hg1)
  go_ret
  exact ⟨rfl, HO.out, HB.out⟩
end Go.Proofs.YtgiilaaoeefpmaaGreat.Gr
