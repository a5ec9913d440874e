import Derived.Test.YtgiilaaoeefpmaaGreatGrExpr2
namespace Go.Proofs.YtgiilaaoeefpmaaGreat.Gr
open Go.RowKit Go.Proofs.YtgiilaaoeefpmaaGreat.Sp Go.Proofs.YtgiilaaoeefpmaaGreat.Lx Go.Maps

def bareF (E : Env) (n : Nat) : PS → O Unit := bare E n
theorem bareF_lays (E : Env) (n : Nat) : Lays (bareF E n) := bare_lays E n
theorem bareF_does {E : Env} (ok : E.Ok) (T : E.Tabs) (n : Nat) : Does E 127 #[.pointer (some ⟨E.g, 0, none⟩)] (bareF E n) := bare_does ok T n

def termF (E : Env) (n : Nat) : PS → O Unit := held E (bareF E n) 5 65536 n
theorem termF_lays (E : Env) (n : Nat) : Lays (termF E n) := held_lays (bareF_lays E n) 5 65536 n
theorem ent_bare : Enters 127 := fun args w => enters_of Tryz.func127 (by kernel_rfl) rfl args w
set_option maxHeartbeats 800000 in
set_option maxRecDepth 100000 in
theorem termF_does {E : Env} (ok : E.Ok) (T : E.Tabs) (n : Nat) : Does E 152 #[.pointer (some ⟨E.g, 0, none⟩)] (termF E n) := by
  intro w rv pv s r h hg hr
  have hmf : ∀ (fn : Fn) (first cap : Array Value) (w : World), (Instr.makeFunc fn first cap).run Tryz.prog w = .ok (.func fn first cap) w := fun _ _ _ _ => rfl
  have HC : Hid (Calls Tryz.prog 136 #[.pointer (some ⟨E.g, 0, none⟩), .int .i64 (5 : Nat), .int .i64 (65536 : Nat), .func (.func 127) #[.pointer (some ⟨E.g, 0, none⟩)] #[]] w fun e w' => Post E w rv pv (fun _ => .tuple #[]) r e w') :=
    held_any E ok w rv pv s h (bareF E n) 127 ent_bare (bareF_does ok T n) (fun a b e f => (bareF_lays E n a b e f).1) (fun a b e f => (bareF_lays E n a b e f).2) 5 65536 n (by omega) (by omega) T.signs hg r hr
  clear h hg hr
  go_enter Tryz.func152, Tryz.ntmps152
  go_wp2_with fail
  refine HC.out.mono ?_
  intro e w1 hp
  cases r with
  | die er i =>
    obtain ⟨rfl, hF⟩ := hp
    have HF : Hid (E.Fix w1) := hF
    clear hF
    go_wp2
    exact ⟨rfl, rfl, HF.out⟩
  | ok a s1 =>
    obtain ⟨rfl, rv1, pv1, hP, hM⟩ := hp
    have HP : Hid (Par w1 E rv1 pv1 s1 ∧ Mv E w rv pv w1 rv1 pv1) := ⟨hP, hM⟩
    clear hP hM
    go_wp2
    go_end0
    exact ⟨rfl, rv1, pv1, HP.out⟩

def sumF (E : Env) (n : Nat) : PS → O Unit := held E (termF E n) 4 65536 n
theorem sumF_lays (E : Env) (n : Nat) : Lays (sumF E n) := held_lays (termF_lays E n) 4 65536 n
theorem ent_term : Enters 152 := fun args w => enters_of Tryz.func152 (by kernel_rfl) rfl args w
set_option maxHeartbeats 800000 in
set_option maxRecDepth 100000 in
theorem sumF_does {E : Env} (ok : E.Ok) (T : E.Tabs) (n : Nat) : Does E 149 #[.pointer (some ⟨E.g, 0, none⟩)] (sumF E n) := by
  intro w rv pv s r h hg hr
  have hmf : ∀ (fn : Fn) (first cap : Array Value) (w : World), (Instr.makeFunc fn first cap).run Tryz.prog w = .ok (.func fn first cap) w := fun _ _ _ _ => rfl
  have HC : Hid (Calls Tryz.prog 136 #[.pointer (some ⟨E.g, 0, none⟩), .int .i64 (4 : Nat), .int .i64 (65536 : Nat), .func (.func 152) #[.pointer (some ⟨E.g, 0, none⟩)] #[]] w fun e w' => Post E w rv pv (fun _ => .tuple #[]) r e w') :=
    held_any E ok w rv pv s h (termF E n) 152 ent_term (termF_does ok T n) (fun a b e f => (termF_lays E n a b e f).1) (fun a b e f => (termF_lays E n a b e f).2) 4 65536 n (by omega) (by omega) T.signs hg r hr
  clear h hg hr
  go_enter Tryz.func149, Tryz.ntmps149
  go_wp2_with fail
  refine HC.out.mono ?_
  intro e w1 hp
  cases r with
  | die er i =>
    obtain ⟨rfl, hF⟩ := hp
    have HF : Hid (E.Fix w1) := hF
    clear hF
    go_wp2
    exact ⟨rfl, rfl, HF.out⟩
  | ok a s1 =>
    obtain ⟨rfl, rv1, pv1, hP, hM⟩ := hp
    have HP : Hid (Par w1 E rv1 pv1 s1 ∧ Mv E w rv pv w1 rv1 pv1) := ⟨hP, hM⟩
    clear hP hM
    go_wp2
    go_end0
    exact ⟨rfl, rv1, pv1, HP.out⟩

def compareF (E : Env) (n : Nat) : PS → O Unit := held E (sumF E n) 3 1 n
theorem compareF_lays (E : Env) (n : Nat) : Lays (compareF E n) := held_lays (sumF_lays E n) 3 1 n
theorem ent_sum : Enters 149 := fun args w => enters_of Tryz.func149 (by kernel_rfl) rfl args w
set_option maxHeartbeats 800000 in
set_option maxRecDepth 100000 in
theorem compareF_does {E : Env} (ok : E.Ok) (T : E.Tabs) (n : Nat) : Does E 144 #[.pointer (some ⟨E.g, 0, none⟩)] (compareF E n) := by
  intro w rv pv s r h hg hr
  have hmf : ∀ (fn : Fn) (first cap : Array Value) (w : World), (Instr.makeFunc fn first cap).run Tryz.prog w = .ok (.func fn first cap) w := fun _ _ _ _ => rfl
  have HC : Hid (Calls Tryz.prog 136 #[.pointer (some ⟨E.g, 0, none⟩), .int .i64 (3 : Nat), .int .i64 (1 : Nat), .func (.func 149) #[.pointer (some ⟨E.g, 0, none⟩)] #[]] w fun e w' => Post E w rv pv (fun _ => .tuple #[]) r e w') :=
    held_any E ok w rv pv s h (sumF E n) 149 ent_sum (sumF_does ok T n) (fun a b e f => (sumF_lays E n a b e f).1) (fun a b e f => (sumF_lays E n a b e f).2) 3 1 n (by omega) (by omega) T.signs hg r hr
  clear h hg hr
  go_enter Tryz.func144, Tryz.ntmps144
  go_wp2_with fail
  refine HC.out.mono ?_
  intro e w1 hp
  cases r with
  | die er i =>
    obtain ⟨rfl, hF⟩ := hp
    have HF : Hid (E.Fix w1) := hF
    clear hF
    go_wp2
    exact ⟨rfl, rfl, HF.out⟩
  | ok a s1 =>
    obtain ⟨rfl, rv1, pv1, hP, hM⟩ := hp
    have HP : Hid (Par w1 E rv1 pv1 s1 ∧ Mv E w rv pv w1 rv1 pv1) := ⟨hP, hM⟩
    clear hP hM
    go_wp2
    go_end0
    exact ⟨rfl, rv1, pv1, HP.out⟩

def andF (E : Env) (n : Nat) : PS → O Unit := held E (compareF E n) 2 65536 n
theorem andF_lays (E : Env) (n : Nat) : Lays (andF E n) := held_lays (compareF_lays E n) 2 65536 n
theorem ent_compare : Enters 144 := fun args w => enters_of Tryz.func144 (by kernel_rfl) rfl args w
set_option maxHeartbeats 800000 in
set_option maxRecDepth 100000 in
theorem andF_does {E : Env} (ok : E.Ok) (T : E.Tabs) (n : Nat) : Does E 137 #[.pointer (some ⟨E.g, 0, none⟩)] (andF E n) := by
  intro w rv pv s r h hg hr
  have hmf : ∀ (fn : Fn) (first cap : Array Value) (w : World), (Instr.makeFunc fn first cap).run Tryz.prog w = .ok (.func fn first cap) w := fun _ _ _ _ => rfl
  have HC : Hid (Calls Tryz.prog 136 #[.pointer (some ⟨E.g, 0, none⟩), .int .i64 (2 : Nat), .int .i64 (65536 : Nat), .func (.func 144) #[.pointer (some ⟨E.g, 0, none⟩)] #[]] w fun e w' => Post E w rv pv (fun _ => .tuple #[]) r e w') :=
    held_any E ok w rv pv s h (compareF E n) 144 ent_compare (compareF_does ok T n) (fun a b e f => (compareF_lays E n a b e f).1) (fun a b e f => (compareF_lays E n a b e f).2) 2 65536 n (by omega) (by omega) T.signs hg r hr
  clear h hg hr
  go_enter Tryz.func137, Tryz.ntmps137
  go_wp2_with fail
  refine HC.out.mono ?_
  intro e w1 hp
  cases r with
  | die er i =>
    obtain ⟨rfl, hF⟩ := hp
    have HF : Hid (E.Fix w1) := hF
    clear hF
    go_wp2
    exact ⟨rfl, rfl, HF.out⟩
  | ok a s1 =>
    obtain ⟨rfl, rv1, pv1, hP, hM⟩ := hp
    have HP : Hid (Par w1 E rv1 pv1 s1 ∧ Mv E w rv pv w1 rv1 pv1) := ⟨hP, hM⟩
    clear hP hM
    go_wp2
    go_end0
    exact ⟨rfl, rv1, pv1, HP.out⟩

def orF (E : Env) (n : Nat) : PS → O Unit := held E (andF E n) 1 65536 n
theorem orF_lays (E : Env) (n : Nat) : Lays (orF E n) := held_lays (andF_lays E n) 1 65536 n
theorem ent_and : Enters 137 := fun args w => enters_of Tryz.func137 (by kernel_rfl) rfl args w
set_option maxHeartbeats 800000 in
set_option maxRecDepth 100000 in
theorem orF_does {E : Env} (ok : E.Ok) (T : E.Tabs) (n : Nat) : Does E 118 #[.pointer (some ⟨E.g, 0, none⟩)] (orF E n) := by
  intro w rv pv s r h hg hr
  have hmf : ∀ (fn : Fn) (first cap : Array Value) (w : World), (Instr.makeFunc fn first cap).run Tryz.prog w = .ok (.func fn first cap) w := fun _ _ _ _ => rfl
  have HC : Hid (Calls Tryz.prog 136 #[.pointer (some ⟨E.g, 0, none⟩), .int .i64 (1 : Nat), .int .i64 (65536 : Nat), .func (.func 137) #[.pointer (some ⟨E.g, 0, none⟩)] #[]] w fun e w' => Post E w rv pv (fun _ => .tuple #[]) r e w') :=
    held_any E ok w rv pv s h (andF E n) 137 ent_and (andF_does ok T n) (fun a b e f => (andF_lays E n a b e f).1) (fun a b e f => (andF_lays E n a b e f).2) 1 65536 n (by omega) (by omega) T.signs hg r hr
  clear h hg hr
  go_enter Tryz.func118, Tryz.ntmps118
  go_wp2_with fail
  refine HC.out.mono ?_
  intro e w1 hp
  cases r with
  | die er i =>
    obtain ⟨rfl, hF⟩ := hp
    have HF : Hid (E.Fix w1) := hF
    clear hF
    go_wp2
    exact ⟨rfl, rfl, HF.out⟩
  | ok a s1 =>
    obtain ⟨rfl, rv1, pv1, hP, hM⟩ := hp
    have HP : Hid (Par w1 E rv1 pv1 s1 ∧ Mv E w rv pv w1 rv1 pv1) := ⟨hP, hM⟩
    clear hP hM
    go_wp2
    go_end0
    exact ⟨rfl, rv1, pv1, HP.out⟩
end Go.Proofs.YtgiilaaoeefpmaaGreat.Gr
