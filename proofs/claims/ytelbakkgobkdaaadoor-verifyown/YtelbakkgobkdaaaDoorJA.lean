import Derived.Test.YtelbakkgobkdaaaDoorVfSml
import Derived.Test.YtelbakkgobkdaaaDoorVfBring
import Derived.Test.YtelbakkgobkdaaaDoorVfFuel
import Derived.Test.YtelbakkgobkdaaaDoorVfWalk
import Derived.Test.YtelbakkgobkdaaaDoorVfWk
import Derived.BigQuiet
import Derived.Test.YtelbakkgobkdaaaDoorVfTk2
import Derived.Test.YtelbakkgobkdaaaDoorVfCost
import Derived.Test.YtelbakkgobkdaaaDoorVfTk
import Derived.Deep.Cut
namespace Go.Proofs.YtelbakkgobkdaaaDoor.Vf
open Go.RowKit Go.Proofs.YtelbakkgobkdaaaDoor.Nm
/-- a type's sign in the reference: n, b, ? -/
def sgn (k : Nat) : UInt8 := if k = 1 then 110 else if k = 2 then 98 else 63
/-- what the reference says that an instruction takes, gives -/
def tkS (op : Nat) : ByteArray := ⟨(List.replicate (ef op).1 (sgn (ef op).2.1)).toArray⟩
def gvS (op : Nat) : ByteArray := ⟨(if (ef op).2.2 = 0 then [] else [sgn (ef op).2.2]).toArray⟩
set_option maxHeartbeats 6400000 in
set_option maxRecDepth 100000 in
/-- the reference's Takes -/
theorem rtakes_any (op : Nat) (h : op < 42) (w : World) : Calls Tryd.prog 75 #[.int .i64 (op : Int)] w fun e w' => e = .returned (.string (tkS op)) ∧ w' = w := by
  match op, h with
  | 0, _ =>
    have e0 : tkS 0 = ⟨#[]⟩ := rfl
    rw [e0]
    show Calls _ _ #[.int .i64 0] _ _
    clear e0
    go_enter Tryd.func75, Tryd.ntmps75
    go_wp2_with fail
    go_ret
    exact ⟨rfl, rfl⟩
  | 1, _ =>
    have e0 : tkS 1 = ⟨#[]⟩ := rfl
    rw [e0]
    show Calls _ _ #[.int .i64 1] _ _
    clear e0
    go_enter Tryd.func75, Tryd.ntmps75
    go_wp2_with fail
    go_ret
    exact ⟨rfl, rfl⟩
  | 2, _ =>
    have e0 : tkS 2 = ⟨#[]⟩ := rfl
    rw [e0]
    show Calls _ _ #[.int .i64 2] _ _
    clear e0
    go_enter Tryd.func75, Tryd.ntmps75
    go_wp2_with fail
    go_ret
    exact ⟨rfl, rfl⟩
  | 3, _ =>
    have e0 : tkS 3 = ⟨#[]⟩ := rfl
    rw [e0]
    show Calls _ _ #[.int .i64 3] _ _
    clear e0
    go_enter Tryd.func75, Tryd.ntmps75
    go_wp2_with fail
    go_ret
    exact ⟨rfl, rfl⟩
  | 4, _ =>
    have e0 : tkS 4 = ⟨#[]⟩ := rfl
    rw [e0]
    show Calls _ _ #[.int .i64 4] _ _
    clear e0
    go_enter Tryd.func75, Tryd.ntmps75
    go_wp2_with fail
    go_ret
    exact ⟨rfl, rfl⟩
  | 5, _ =>
    have e0 : tkS 5 = ⟨#[]⟩ := rfl
    rw [e0]
    show Calls _ _ #[.int .i64 5] _ _
    clear e0
    go_enter Tryd.func75, Tryd.ntmps75
    go_wp2_with fail
    go_ret
    exact ⟨rfl, rfl⟩
  | 6, _ =>
    have e0 : tkS 6 = ⟨#[]⟩ := rfl
    rw [e0]
    show Calls _ _ #[.int .i64 6] _ _
    clear e0
    go_enter Tryd.func75, Tryd.ntmps75
    go_wp2_with fail
    go_ret
    exact ⟨rfl, rfl⟩
  | 7, _ =>
    have e0 : tkS 7 = ⟨#[]⟩ := rfl
    rw [e0]
    show Calls _ _ #[.int .i64 7] _ _
    clear e0
    go_enter Tryd.func75, Tryd.ntmps75
    go_wp2_with fail
    go_ret
    exact ⟨rfl, rfl⟩
  | 8, _ =>
    have e0 : tkS 8 = ⟨#[]⟩ := rfl
    rw [e0]
    show Calls _ _ #[.int .i64 8] _ _
    clear e0
    go_enter Tryd.func75, Tryd.ntmps75
    go_wp2_with fail
    go_ret
    exact ⟨rfl, rfl⟩
  | 9, _ =>
    have e0 : tkS 9 = ⟨#[]⟩ := rfl
    rw [e0]
    show Calls _ _ #[.int .i64 9] _ _
    clear e0
    go_enter Tryd.func75, Tryd.ntmps75
    go_wp2_with fail
    go_ret
    exact ⟨rfl, rfl⟩
  | 10, _ =>
    have e0 : tkS 10 = ⟨#[]⟩ := rfl
    rw [e0]
    show Calls _ _ #[.int .i64 10] _ _
    clear e0
    go_enter Tryd.func75, Tryd.ntmps75
    go_wp2_with fail
    go_ret
    exact ⟨rfl, rfl⟩
  | 11, _ =>
    have e0 : tkS 11 = ⟨#[110, 110]⟩ := rfl
    rw [e0]
    show Calls _ _ #[.int .i64 11] _ _
    clear e0
    go_enter Tryd.func75, Tryd.ntmps75
    go_wp2_with fail
    go_ret
    exact ⟨rfl, rfl⟩
  | 12, _ =>
    have e0 : tkS 12 = ⟨#[110, 110]⟩ := rfl
    rw [e0]
    show Calls _ _ #[.int .i64 12] _ _
    clear e0
    go_enter Tryd.func75, Tryd.ntmps75
    go_wp2_with fail
    go_ret
    exact ⟨rfl, rfl⟩
  | 13, _ =>
    have e0 : tkS 13 = ⟨#[110]⟩ := rfl
    rw [e0]
    show Calls _ _ #[.int .i64 13] _ _
    clear e0
    go_enter Tryd.func75, Tryd.ntmps75
    go_wp2_with fail
    go_ret
    exact ⟨rfl, rfl⟩
  | 14, _ =>
    have e0 : tkS 14 = ⟨#[98]⟩ := rfl
    rw [e0]
    show Calls _ _ #[.int .i64 14] _ _
    clear e0
    go_enter Tryd.func75, Tryd.ntmps75
    go_wp2_with fail
    go_ret
    exact ⟨rfl, rfl⟩
  | 15, _ =>
    have e0 : tkS 15 = ⟨#[110, 110]⟩ := rfl
    rw [e0]
    show Calls _ _ #[.int .i64 15] _ _
    clear e0
    go_enter Tryd.func75, Tryd.ntmps75
    go_wp2_with fail
    go_ret
    exact ⟨rfl, rfl⟩
  | 16, _ =>
    have e0 : tkS 16 = ⟨#[110, 110]⟩ := rfl
    rw [e0]
    show Calls _ _ #[.int .i64 16] _ _
    clear e0
    go_enter Tryd.func75, Tryd.ntmps75
    go_wp2_with fail
    go_ret
    exact ⟨rfl, rfl⟩
  | 17, _ =>
    have e0 : tkS 17 = ⟨#[110, 110]⟩ := rfl
    rw [e0]
    show Calls _ _ #[.int .i64 17] _ _
    clear e0
    go_enter Tryd.func75, Tryd.ntmps75
    go_wp2_with fail
    go_ret
    exact ⟨rfl, rfl⟩
  | 18, _ =>
    have e0 : tkS 18 = ⟨#[110, 110]⟩ := rfl
    rw [e0]
    show Calls _ _ #[.int .i64 18] _ _
    clear e0
    go_enter Tryd.func75, Tryd.ntmps75
    go_wp2_with fail
    go_ret
    exact ⟨rfl, rfl⟩
  | 19, _ =>
    have e0 : tkS 19 = ⟨#[63, 63]⟩ := rfl
    rw [e0]
    show Calls _ _ #[.int .i64 19] _ _
    clear e0
    go_enter Tryd.func75, Tryd.ntmps75
    go_wp2_with fail
    go_ret
    exact ⟨rfl, rfl⟩
  | 20, _ =>
    have e0 : tkS 20 = ⟨#[110, 110]⟩ := rfl
    rw [e0]
    show Calls _ _ #[.int .i64 20] _ _
    clear e0
    go_enter Tryd.func75, Tryd.ntmps75
    go_wp2_with fail
    go_ret
    exact ⟨rfl, rfl⟩
  | 21, _ =>
    have e0 : tkS 21 = ⟨#[110, 110]⟩ := rfl
    rw [e0]
    show Calls _ _ #[.int .i64 21] _ _
    clear e0
    go_enter Tryd.func75, Tryd.ntmps75
    go_wp2_with fail
    go_ret
    exact ⟨rfl, rfl⟩
  | 22, _ =>
    have e0 : tkS 22 = ⟨#[]⟩ := rfl
    rw [e0]
    show Calls _ _ #[.int .i64 22] _ _
    clear e0
    go_enter Tryd.func75, Tryd.ntmps75
    go_wp2_with fail
    go_ret
    exact ⟨rfl, rfl⟩
  | 23, _ =>
    have e0 : tkS 23 = ⟨#[98]⟩ := rfl
    rw [e0]
    show Calls _ _ #[.int .i64 23] _ _
    clear e0
    go_enter Tryd.func75, Tryd.ntmps75
    go_wp2_with fail
    go_ret
    exact ⟨rfl, rfl⟩
  | 24, _ =>
    have e0 : tkS 24 = ⟨#[]⟩ := rfl
    rw [e0]
    show Calls _ _ #[.int .i64 24] _ _
    clear e0
    go_enter Tryd.func75, Tryd.ntmps75
    go_wp2_with fail
    go_ret
    exact ⟨rfl, rfl⟩
  | 25, _ =>
    have e0 : tkS 25 = ⟨#[]⟩ := rfl
    rw [e0]
    show Calls _ _ #[.int .i64 25] _ _
    clear e0
    go_enter Tryd.func75, Tryd.ntmps75
    go_wp2_with fail
    go_ret
    exact ⟨rfl, rfl⟩
  | 26, _ =>
    have e0 : tkS 26 = ⟨#[98]⟩ := rfl
    rw [e0]
    show Calls _ _ #[.int .i64 26] _ _
    clear e0
    go_enter Tryd.func75, Tryd.ntmps75
    go_wp2_with fail
    go_ret
    exact ⟨rfl, rfl⟩
  | 27, _ =>
    have e0 : tkS 27 = ⟨#[]⟩ := rfl
    rw [e0]
    show Calls _ _ #[.int .i64 27] _ _
    clear e0
    go_enter Tryd.func75, Tryd.ntmps75
    go_wp2_with fail
    go_ret
    exact ⟨rfl, rfl⟩
  | 28, _ =>
    have e0 : tkS 28 = ⟨#[110]⟩ := rfl
    rw [e0]
    show Calls _ _ #[.int .i64 28] _ _
    clear e0
    go_enter Tryd.func75, Tryd.ntmps75
    go_wp2_with fail
    go_ret
    exact ⟨rfl, rfl⟩
  | 29, _ =>
    have e0 : tkS 29 = ⟨#[110]⟩ := rfl
    rw [e0]
    show Calls _ _ #[.int .i64 29] _ _
    clear e0
    go_enter Tryd.func75, Tryd.ntmps75
    go_wp2_with fail
    go_ret
    exact ⟨rfl, rfl⟩
  | 30, _ =>
    have e0 : tkS 30 = ⟨#[110]⟩ := rfl
    rw [e0]
    show Calls _ _ #[.int .i64 30] _ _
    clear e0
    go_enter Tryd.func75, Tryd.ntmps75
    go_wp2_with fail
    go_ret
    exact ⟨rfl, rfl⟩
  | 31, _ =>
    have e0 : tkS 31 = ⟨#[]⟩ := rfl
    rw [e0]
    show Calls _ _ #[.int .i64 31] _ _
    clear e0
    go_enter Tryd.func75, Tryd.ntmps75
    go_wp2_with fail
    go_ret
    exact ⟨rfl, rfl⟩
  | 32, _ =>
    have e0 : tkS 32 = ⟨#[]⟩ := rfl
    rw [e0]
    show Calls _ _ #[.int .i64 32] _ _
    clear e0
    go_enter Tryd.func75, Tryd.ntmps75
    go_wp2_with fail
    go_ret
    exact ⟨rfl, rfl⟩
  | 33, _ =>
    have e0 : tkS 33 = ⟨#[]⟩ := rfl
    rw [e0]
    show Calls _ _ #[.int .i64 33] _ _
    clear e0
    go_enter Tryd.func75, Tryd.ntmps75
    go_wp2_with fail
    go_ret
    exact ⟨rfl, rfl⟩
  | 34, _ =>
    have e0 : tkS 34 = ⟨#[]⟩ := rfl
    rw [e0]
    show Calls _ _ #[.int .i64 34] _ _
    clear e0
    go_enter Tryd.func75, Tryd.ntmps75
    go_wp2_with fail
    go_ret
    exact ⟨rfl, rfl⟩
  | 35, _ =>
    have e0 : tkS 35 = ⟨#[]⟩ := rfl
    rw [e0]
    show Calls _ _ #[.int .i64 35] _ _
    clear e0
    go_enter Tryd.func75, Tryd.ntmps75
    go_wp2_with fail
    go_ret
    exact ⟨rfl, rfl⟩
  | 36, _ =>
    have e0 : tkS 36 = ⟨#[]⟩ := rfl
    rw [e0]
    show Calls _ _ #[.int .i64 36] _ _
    clear e0
    go_enter Tryd.func75, Tryd.ntmps75
    go_wp2_with fail
    go_ret
    exact ⟨rfl, rfl⟩
  | 37, _ =>
    have e0 : tkS 37 = ⟨#[]⟩ := rfl
    rw [e0]
    show Calls _ _ #[.int .i64 37] _ _
    clear e0
    go_enter Tryd.func75, Tryd.ntmps75
    go_wp2_with fail
    go_ret
    exact ⟨rfl, rfl⟩
  | 38, _ =>
    have e0 : tkS 38 = ⟨#[]⟩ := rfl
    rw [e0]
    show Calls _ _ #[.int .i64 38] _ _
    clear e0
    go_enter Tryd.func75, Tryd.ntmps75
    go_wp2_with fail
    go_ret
    exact ⟨rfl, rfl⟩
  | 39, _ =>
    have e0 : tkS 39 = ⟨#[]⟩ := rfl
    rw [e0]
    show Calls _ _ #[.int .i64 39] _ _
    clear e0
    go_enter Tryd.func75, Tryd.ntmps75
    go_wp2_with fail
    go_ret
    exact ⟨rfl, rfl⟩
  | 40, _ =>
    have e0 : tkS 40 = ⟨#[]⟩ := rfl
    rw [e0]
    show Calls _ _ #[.int .i64 40] _ _
    clear e0
    go_enter Tryd.func75, Tryd.ntmps75
    go_wp2_with fail
    go_ret
    exact ⟨rfl, rfl⟩
  | 41, _ =>
    have e0 : tkS 41 = ⟨#[]⟩ := rfl
    rw [e0]
    show Calls _ _ #[.int .i64 41] _ _
    clear e0
    go_enter Tryd.func75, Tryd.ntmps75
    go_wp2_with fail
    go_ret
    exact ⟨rfl, rfl⟩
  | _ + 42, h => exact absurd h (by omega)
set_option maxHeartbeats 6400000 in
set_option maxRecDepth 100000 in
/-- the reference's Gives -/
theorem rgives_any (op : Nat) (h : op < 42) (w : World) : Calls Tryd.prog 76 #[.int .i64 (op : Int)] w fun e w' => e = .returned (.string (gvS op)) ∧ w' = w := by
  match op, h with
  | 0, _ =>
    have e0 : gvS 0 = ⟨#[]⟩ := rfl
    rw [e0]
    show Calls _ _ #[.int .i64 0] _ _
    clear e0
    go_enter Tryd.func76, Tryd.ntmps76
    go_wp2_with fail
    go_ret
    exact ⟨rfl, rfl⟩
  | 1, _ =>
    have e0 : gvS 1 = ⟨#[110]⟩ := rfl
    rw [e0]
    show Calls _ _ #[.int .i64 1] _ _
    clear e0
    go_enter Tryd.func76, Tryd.ntmps76
    go_wp2_with fail
    go_ret
    exact ⟨rfl, rfl⟩
  | 2, _ =>
    have e0 : gvS 2 = ⟨#[98]⟩ := rfl
    rw [e0]
    show Calls _ _ #[.int .i64 2] _ _
    clear e0
    go_enter Tryd.func76, Tryd.ntmps76
    go_wp2_with fail
    go_ret
    exact ⟨rfl, rfl⟩
  | 3, _ =>
    have e0 : gvS 3 = ⟨#[110]⟩ := rfl
    rw [e0]
    show Calls _ _ #[.int .i64 3] _ _
    clear e0
    go_enter Tryd.func76, Tryd.ntmps76
    go_wp2_with fail
    go_ret
    exact ⟨rfl, rfl⟩
  | 4, _ =>
    have e0 : gvS 4 = ⟨#[110]⟩ := rfl
    rw [e0]
    show Calls _ _ #[.int .i64 4] _ _
    clear e0
    go_enter Tryd.func76, Tryd.ntmps76
    go_wp2_with fail
    go_ret
    exact ⟨rfl, rfl⟩
  | 5, _ =>
    have e0 : gvS 5 = ⟨#[110]⟩ := rfl
    rw [e0]
    show Calls _ _ #[.int .i64 5] _ _
    clear e0
    go_enter Tryd.func76, Tryd.ntmps76
    go_wp2_with fail
    go_ret
    exact ⟨rfl, rfl⟩
  | 6, _ =>
    have e0 : gvS 6 = ⟨#[110]⟩ := rfl
    rw [e0]
    show Calls _ _ #[.int .i64 6] _ _
    clear e0
    go_enter Tryd.func76, Tryd.ntmps76
    go_wp2_with fail
    go_ret
    exact ⟨rfl, rfl⟩
  | 7, _ =>
    have e0 : gvS 7 = ⟨#[110]⟩ := rfl
    rw [e0]
    show Calls _ _ #[.int .i64 7] _ _
    clear e0
    go_enter Tryd.func76, Tryd.ntmps76
    go_wp2_with fail
    go_ret
    exact ⟨rfl, rfl⟩
  | 8, _ =>
    have e0 : gvS 8 = ⟨#[98]⟩ := rfl
    rw [e0]
    show Calls _ _ #[.int .i64 8] _ _
    clear e0
    go_enter Tryd.func76, Tryd.ntmps76
    go_wp2_with fail
    go_ret
    exact ⟨rfl, rfl⟩
  | 9, _ =>
    have e0 : gvS 9 = ⟨#[110]⟩ := rfl
    rw [e0]
    show Calls _ _ #[.int .i64 9] _ _
    clear e0
    go_enter Tryd.func76, Tryd.ntmps76
    go_wp2_with fail
    go_ret
    exact ⟨rfl, rfl⟩
  | 10, _ =>
    have e0 : gvS 10 = ⟨#[110]⟩ := rfl
    rw [e0]
    show Calls _ _ #[.int .i64 10] _ _
    clear e0
    go_enter Tryd.func76, Tryd.ntmps76
    go_wp2_with fail
    go_ret
    exact ⟨rfl, rfl⟩
  | 11, _ =>
    have e0 : gvS 11 = ⟨#[110]⟩ := rfl
    rw [e0]
    show Calls _ _ #[.int .i64 11] _ _
    clear e0
    go_enter Tryd.func76, Tryd.ntmps76
    go_wp2_with fail
    go_ret
    exact ⟨rfl, rfl⟩
  | 12, _ =>
    have e0 : gvS 12 = ⟨#[110]⟩ := rfl
    rw [e0]
    show Calls _ _ #[.int .i64 12] _ _
    clear e0
    go_enter Tryd.func76, Tryd.ntmps76
    go_wp2_with fail
    go_ret
    exact ⟨rfl, rfl⟩
  | 13, _ =>
    have e0 : gvS 13 = ⟨#[110]⟩ := rfl
    rw [e0]
    show Calls _ _ #[.int .i64 13] _ _
    clear e0
    go_enter Tryd.func76, Tryd.ntmps76
    go_wp2_with fail
    go_ret
    exact ⟨rfl, rfl⟩
  | 14, _ =>
    have e0 : gvS 14 = ⟨#[98]⟩ := rfl
    rw [e0]
    show Calls _ _ #[.int .i64 14] _ _
    clear e0
    go_enter Tryd.func76, Tryd.ntmps76
    go_wp2_with fail
    go_ret
    exact ⟨rfl, rfl⟩
  | 15, _ =>
    have e0 : gvS 15 = ⟨#[110]⟩ := rfl
    rw [e0]
    show Calls _ _ #[.int .i64 15] _ _
    clear e0
    go_enter Tryd.func76, Tryd.ntmps76
    go_wp2_with fail
    go_ret
    exact ⟨rfl, rfl⟩
  | 16, _ =>
    have e0 : gvS 16 = ⟨#[110]⟩ := rfl
    rw [e0]
    show Calls _ _ #[.int .i64 16] _ _
    clear e0
    go_enter Tryd.func76, Tryd.ntmps76
    go_wp2_with fail
    go_ret
    exact ⟨rfl, rfl⟩
  | 17, _ =>
    have e0 : gvS 17 = ⟨#[110]⟩ := rfl
    rw [e0]
    show Calls _ _ #[.int .i64 17] _ _
    clear e0
    go_enter Tryd.func76, Tryd.ntmps76
    go_wp2_with fail
    go_ret
    exact ⟨rfl, rfl⟩
  | 18, _ =>
    have e0 : gvS 18 = ⟨#[110]⟩ := rfl
    rw [e0]
    show Calls _ _ #[.int .i64 18] _ _
    clear e0
    go_enter Tryd.func76, Tryd.ntmps76
    go_wp2_with fail
    go_ret
    exact ⟨rfl, rfl⟩
  | 19, _ =>
    have e0 : gvS 19 = ⟨#[98]⟩ := rfl
    rw [e0]
    show Calls _ _ #[.int .i64 19] _ _
    clear e0
    go_enter Tryd.func76, Tryd.ntmps76
    go_wp2_with fail
    go_ret
    exact ⟨rfl, rfl⟩
  | 20, _ =>
    have e0 : gvS 20 = ⟨#[98]⟩ := rfl
    rw [e0]
    show Calls _ _ #[.int .i64 20] _ _
    clear e0
    go_enter Tryd.func76, Tryd.ntmps76
    go_wp2_with fail
    go_ret
    exact ⟨rfl, rfl⟩
  | 21, _ =>
    have e0 : gvS 21 = ⟨#[98]⟩ := rfl
    rw [e0]
    show Calls _ _ #[.int .i64 21] _ _
    clear e0
    go_enter Tryd.func76, Tryd.ntmps76
    go_wp2_with fail
    go_ret
    exact ⟨rfl, rfl⟩
  | 22, _ =>
    have e0 : gvS 22 = ⟨#[]⟩ := rfl
    rw [e0]
    show Calls _ _ #[.int .i64 22] _ _
    clear e0
    go_enter Tryd.func76, Tryd.ntmps76
    go_wp2_with fail
    go_ret
    exact ⟨rfl, rfl⟩
  | 23, _ =>
    have e0 : gvS 23 = ⟨#[]⟩ := rfl
    rw [e0]
    show Calls _ _ #[.int .i64 23] _ _
    clear e0
    go_enter Tryd.func76, Tryd.ntmps76
    go_wp2_with fail
    go_ret
    exact ⟨rfl, rfl⟩
  | 24, _ =>
    have e0 : gvS 24 = ⟨#[]⟩ := rfl
    rw [e0]
    show Calls _ _ #[.int .i64 24] _ _
    clear e0
    go_enter Tryd.func76, Tryd.ntmps76
    go_wp2_with fail
    go_ret
    exact ⟨rfl, rfl⟩
  | 25, _ =>
    have e0 : gvS 25 = ⟨#[]⟩ := rfl
    rw [e0]
    show Calls _ _ #[.int .i64 25] _ _
    clear e0
    go_enter Tryd.func76, Tryd.ntmps76
    go_wp2_with fail
    go_ret
    exact ⟨rfl, rfl⟩
  | 26, _ =>
    have e0 : gvS 26 = ⟨#[]⟩ := rfl
    rw [e0]
    show Calls _ _ #[.int .i64 26] _ _
    clear e0
    go_enter Tryd.func76, Tryd.ntmps76
    go_wp2_with fail
    go_ret
    exact ⟨rfl, rfl⟩
  | 27, _ =>
    have e0 : gvS 27 = ⟨#[]⟩ := rfl
    rw [e0]
    show Calls _ _ #[.int .i64 27] _ _
    clear e0
    go_enter Tryd.func76, Tryd.ntmps76
    go_wp2_with fail
    go_ret
    exact ⟨rfl, rfl⟩
  | 28, _ =>
    have e0 : gvS 28 = ⟨#[]⟩ := rfl
    rw [e0]
    show Calls _ _ #[.int .i64 28] _ _
    clear e0
    go_enter Tryd.func76, Tryd.ntmps76
    go_wp2_with fail
    go_ret
    exact ⟨rfl, rfl⟩
  | 29, _ =>
    have e0 : gvS 29 = ⟨#[]⟩ := rfl
    rw [e0]
    show Calls _ _ #[.int .i64 29] _ _
    clear e0
    go_enter Tryd.func76, Tryd.ntmps76
    go_wp2_with fail
    go_ret
    exact ⟨rfl, rfl⟩
  | 30, _ =>
    have e0 : gvS 30 = ⟨#[]⟩ := rfl
    rw [e0]
    show Calls _ _ #[.int .i64 30] _ _
    clear e0
    go_enter Tryd.func76, Tryd.ntmps76
    go_wp2_with fail
    go_ret
    exact ⟨rfl, rfl⟩
  | 31, _ =>
    have e0 : gvS 31 = ⟨#[]⟩ := rfl
    rw [e0]
    show Calls _ _ #[.int .i64 31] _ _
    clear e0
    go_enter Tryd.func76, Tryd.ntmps76
    go_wp2_with fail
    go_ret
    exact ⟨rfl, rfl⟩
  | 32, _ =>
    have e0 : gvS 32 = ⟨#[]⟩ := rfl
    rw [e0]
    show Calls _ _ #[.int .i64 32] _ _
    clear e0
    go_enter Tryd.func76, Tryd.ntmps76
    go_wp2_with fail
    go_ret
    exact ⟨rfl, rfl⟩
  | 33, _ =>
    have e0 : gvS 33 = ⟨#[]⟩ := rfl
    rw [e0]
    show Calls _ _ #[.int .i64 33] _ _
    clear e0
    go_enter Tryd.func76, Tryd.ntmps76
    go_wp2_with fail
    go_ret
    exact ⟨rfl, rfl⟩
  | 34, _ =>
    have e0 : gvS 34 = ⟨#[]⟩ := rfl
    rw [e0]
    show Calls _ _ #[.int .i64 34] _ _
    clear e0
    go_enter Tryd.func76, Tryd.ntmps76
    go_wp2_with fail
    go_ret
    exact ⟨rfl, rfl⟩
  | 35, _ =>
    have e0 : gvS 35 = ⟨#[]⟩ := rfl
    rw [e0]
    show Calls _ _ #[.int .i64 35] _ _
    clear e0
    go_enter Tryd.func76, Tryd.ntmps76
    go_wp2_with fail
    go_ret
    exact ⟨rfl, rfl⟩
  | 36, _ =>
    have e0 : gvS 36 = ⟨#[]⟩ := rfl
    rw [e0]
    show Calls _ _ #[.int .i64 36] _ _
    clear e0
    go_enter Tryd.func76, Tryd.ntmps76
    go_wp2_with fail
    go_ret
    exact ⟨rfl, rfl⟩
  | 37, _ =>
    have e0 : gvS 37 = ⟨#[]⟩ := rfl
    rw [e0]
    show Calls _ _ #[.int .i64 37] _ _
    clear e0
    go_enter Tryd.func76, Tryd.ntmps76
    go_wp2_with fail
    go_ret
    exact ⟨rfl, rfl⟩
  | 38, _ =>
    have e0 : gvS 38 = ⟨#[]⟩ := rfl
    rw [e0]
    show Calls _ _ #[.int .i64 38] _ _
    clear e0
    go_enter Tryd.func76, Tryd.ntmps76
    go_wp2_with fail
    go_ret
    exact ⟨rfl, rfl⟩
  | 39, _ =>
    have e0 : gvS 39 = ⟨#[]⟩ := rfl
    rw [e0]
    show Calls _ _ #[.int .i64 39] _ _
    clear e0
    go_enter Tryd.func76, Tryd.ntmps76
    go_wp2_with fail
    go_ret
    exact ⟨rfl, rfl⟩
  | 40, _ =>
    have e0 : gvS 40 = ⟨#[]⟩ := rfl
    rw [e0]
    show Calls _ _ #[.int .i64 40] _ _
    clear e0
    go_enter Tryd.func76, Tryd.ntmps76
    go_wp2_with fail
    go_ret
    exact ⟨rfl, rfl⟩
  | 41, _ =>
    have e0 : gvS 41 = ⟨#[]⟩ := rfl
    rw [e0]
    show Calls _ _ #[.int .i64 41] _ _
    clear e0
    go_enter Tryd.func76, Tryd.ntmps76
    go_wp2_with fail
    go_ret
    exact ⟨rfl, rfl⟩
  | _ + 42, h => exact absurd h (by omega)
end Go.Proofs.YtelbakkgobkdaaaDoor.Vf

namespace Go.Proofs.YtelbakkgobkdaaaDoor.Vf
open Go.RowKit Go.Proofs.YtelbakkgobkdaaaDoor.Nm
/-- types as the reference writes them -/
def strT (ty : List Bool) : ByteArray := ⟨(ty.map fun b => if b then (98 : UInt8) else 110).toArray⟩
/-- a standing's cells in the reference -/
def rsC : Option Sd → List Value
  | none => [.string ⟨#[]⟩, .int .i64 0, .int .i64 0, .bool false]
  | some s => [.string (strT s.ty), .int .i64 s.turn, .int .i64 (s.hand : Int), .bool true]
def rgC (n : Nat) (g : Nat → Option Sd) : List Value := (List.range n).flatMap fun k => rsC (g k)
/-- the reference's looker -/
structure Lk (W : World) (lb ab ub sb : Nat) (v : PV) (p : Pg) (g : Nat → Option Sd) (u : Nat → Int) (st : List Bool) : Prop where
  hw : W.heap[lb]? = some (.cells #[.slice v.qo p.gh.length v.qc, .slice v.vo p.vs.length v.vc, .slice v.to p.ts.length v.tc, .slice v.oo p.on.length v.oc, .int .i64 p.miss, .slice v.co p.cd.length v.cc, .slice (some ⟨ab, 0, none⟩) p.cd.length p.cd.length, .slice (some ⟨ub, 0, none⟩) p.cd.length p.cd.length, .slice (some ⟨sb, 0, none⟩) p.cd.length p.cd.length] 74 (0, 0))
  pg : IsPg W v p
  at_ : W.heap[ab]? = some (.cells (rgC p.cd.length g).toArray 76 (0, 0))
  up : W.heap[ub]? = some (.cells (fuC p.cd.length u).toArray 3 (0, 0))
  ss : W.heap[sb]? = some (.cells (bC st).toArray 4 (0, 0))
set_option maxHeartbeats 3200000 in
set_option maxRecDepth 100000 in
/-- the reference's turn -/
theorem rturn_any {w : World} {wb ab ub sb : Nat} {v : PV} {p : Pg} {g : Nat → Option Sd} {u : Nat → Int} {st : List Bool} (h : Lk w wb ab ub sb v p g u st) (n : Nat) :
    Calls Tryd.prog 77 #[.pointer (some ⟨wb, 0, none⟩), .int .i64 (n : Int)] w fun e w' => e = .returned (.bool (isTurn p (n : Int))) ∧ w' = w := by
  obtain ⟨qo, qc, vo, vc, tto, tc, oo, oc, co, cc⟩ := v
  obtain ⟨c0, c1, c2, c3, c4, c5, c6, c7, c8⟩ := cells9 h.hw
  have hn0 : (0 : Int) ≤ (n : Int) := by omega
  have n3 : (p.cd.length : Int) ≤ 1000000000000000 := by have := h.pg.lcd; omega
  dsimp only at c5
  by_cases hlt : n < p.cd.length
  · have hlt' : (n : Int) < (p.cd.length : Int) := by omega
    obtain ⟨g1, f1, hvo, hg, d0, d1, d2, d3, d4⟩ := rd_ins h.pg.cd hlt
    obtain rfl : co = some ⟨g1, f1, none⟩ := hvo
    have hr : isTurn p (n : Int) = (p.cd[n].op == 25) := by
      unfold isTurn
      rw [decide_eq_true hlt', Int.toNat_natCast, at_eq hlt, Bool.true_and]
      rfl
    rw [hr]
    generalize p.cd[n].op = y0 at *
    clear hr hlt c0 c1 c2 c3 c4 c6 c7 c8 hg h d1 d2 d3 d4
    go_enter Tryd.func77, Tryd.ntmps77
    go_wp2_with fail
    go_ret
    exact ⟨rfl, rfl⟩
  · have hlt' : ¬ (n : Int) < (p.cd.length : Int) := by omega
    have hr : isTurn p (n : Int) = false := by
      unfold isTurn
      rw [decide_eq_false hlt', Bool.false_and]
    rw [hr]
    clear hr hlt c0 c1 c2 c3 c4 c6 c7 c8 h
    go_enter Tryd.func77, Tryd.ntmps77
    go_wp2_with fail
    go_ret
    exact ⟨rfl, rfl⟩
set_option maxHeartbeats 6400000 in
set_option maxRecDepth 100000 in
/-- the reference's queues -/
theorem rqueues_any {w : World} {wb ab ub sb : Nat} {v : PV} {p : Pg} {g : Nat → Option Sd} {u : Nat → Int} {st : List Bool} (h : Lk w wb ab ub sb v p g u st) (x : Ins) (ha : x.op = 32 ∨ x.op = 40 ∨ x.op = 41 ∨ x.op = 38 ∨ x.op = 39 → 0 ≤ x.a ∧ x.a < (p.gh.length : Int)) (hc : x.op = 38 ∨ x.op = 39 → 0 ≤ x.c ∧ x.c < (p.gh.length : Int)) :
    Calls Tryd.prog 53 #[.pointer (some ⟨wb, 0, none⟩), .agg #[.int .i64 x.op, .int .i64 x.a, .int .i64 x.b, .int .i64 x.c, .int .i64 x.d]] w fun e w' => e = .returned (.bool (bringB p x)) ∧ Below w.heap.size w w' := by
  obtain ⟨xo, xa, xb, xc, xd⟩ := x
  dsimp only at ha hc ⊢
  obtain ⟨qo, qc, vo, vc, tto, tc, oo, oc, co, cc⟩ := v
  obtain ⟨c0, c1, c2, c3, c4, c5, c6, c7, c8⟩ := cells9 h.hw
  have hwb : ¬ wb = w.heap.size := by have := blk_lt h.hw; omega
  have n3 : (p.gh.length : Int) ≤ 1000000000000000 := by have := h.pg.lgh; omega
  dsimp only at c0
  clear c1 c2 c3 c4 c5 c6 c7 c8
  have hbA : Below w.heap.size w (w.alloc (.cells #[.int .i64 xo, .int .i64 xa, .int .i64 xb, .int .i64 xc, .int .i64 xd] 54)) := (Below.refl _ w).alloc (Nat.le_refl _) _
  have HB : Hid (∀ n, Below w.heap.size w ((w.alloc (.cells #[.int .i64 xo, .int .i64 xa, .int .i64 xb, .int .i64 xc, .int .i64 xd] 54)).drewN n)) := fun n => hbA.trans ((drN _ n).mono hbA.size)
  have HB0 : Hid (Below w.heap.size w (w.alloc (.cells #[.int .i64 xo, .int .i64 xa, .int .i64 xb, .int .i64 xc, .int .i64 xd] 54))) := hbA
  have HX : Hid ((w.alloc (.cells #[.int .i64 xo, .int .i64 xa, .int .i64 xb, .int .i64 xc, .int .i64 xd] 54)).heap[w.heap.size]? = some (.cells #[.int .i64 xo, .int .i64 xa, .int .i64 xb, .int .i64 xc, .int .i64 xd] 54 (0, 0))) := heap_alloc_new _ _
  have HC : Hid ((w.alloc (.cells #[.int .i64 xo, .int .i64 xa, .int .i64 xb, .int .i64 xc, .int .i64 xd] 54)).cell? ⟨wb, 0, none⟩ = some (.slice qo p.gh.length qc)) := (hbA.cell (p := ⟨wb, 0, none⟩) (blk_lt h.hw)).trans c0
  clear hbA c0
  unfold bringB
  dsimp only
  by_cases o32 : xo = 32
  · subst o32
    obtain ⟨h0, h1⟩ := ha (by simp)
    obtain ⟨ka, rfl, hka, ga⟩ := gh_at h0 h1
    obtain ⟨g1, f1, hqo, hg, d0⟩ := rd_bool (h.pg.below HB0.out).gh hka
    obtain rfl : qo = some ⟨g1, f1, none⟩ := hqo
    have hk1 : (ka : Int) < (p.gh.length : Int) := by omega
    simp only [ga]
    generalize p.gh[ka] = ba at *
    clear ha hc h hg h0 h1 hka ga
    go_enter Tryd.func53, Tryd.ntmps53
    go_upto_region 1 with fail
    have c0 := HC.out
    obtain ⟨i0, i1, i2, i3, i4⟩ := cells5 HX.out
    generalize w.alloc (.cells #[.int .i64 32, .int .i64 (ka : Int), .int .i64 xb, .int .i64 xc, .int .i64 xd] 54) = W1 at *
    clear HX HC
    go_wp2_with fail
    go_ret
    exact ⟨rfl, HB.out 0⟩
  by_cases o40 : xo = 40
  · subst o40
    obtain ⟨h0, h1⟩ := ha (by simp)
    obtain ⟨ka, rfl, hka, ga⟩ := gh_at h0 h1
    obtain ⟨g1, f1, hqo, hg, d0⟩ := rd_bool (h.pg.below HB0.out).gh hka
    obtain rfl : qo = some ⟨g1, f1, none⟩ := hqo
    have hk1 : (ka : Int) < (p.gh.length : Int) := by omega
    simp only [ga]
    generalize p.gh[ka] = ba at *
    clear ha hc h hg h0 h1 hka ga
    go_enter Tryd.func53, Tryd.ntmps53
    go_upto_region 1 with fail
    have c0 := HC.out
    obtain ⟨i0, i1, i2, i3, i4⟩ := cells5 HX.out
    generalize w.alloc (.cells #[.int .i64 40, .int .i64 (ka : Int), .int .i64 xb, .int .i64 xc, .int .i64 xd] 54) = W1 at *
    clear HX HC
    go_wp2_with fail
    go_ret
    exact ⟨rfl, HB.out 0⟩
  by_cases o41 : xo = 41
  · subst o41
    obtain ⟨h0, h1⟩ := ha (by simp)
    obtain ⟨ka, rfl, hka, ga⟩ := gh_at h0 h1
    obtain ⟨g1, f1, hqo, hg, d0⟩ := rd_bool (h.pg.below HB0.out).gh hka
    obtain rfl : qo = some ⟨g1, f1, none⟩ := hqo
    have hk1 : (ka : Int) < (p.gh.length : Int) := by omega
    simp only [ga]
    generalize p.gh[ka] = ba at *
    clear ha hc h hg h0 h1 hka ga
    go_enter Tryd.func53, Tryd.ntmps53
    go_upto_region 1 with fail
    have c0 := HC.out
    obtain ⟨i0, i1, i2, i3, i4⟩ := cells5 HX.out
    generalize w.alloc (.cells #[.int .i64 41, .int .i64 (ka : Int), .int .i64 xb, .int .i64 xc, .int .i64 xd] 54) = W1 at *
    clear HX HC
    go_wp2_with fail
    go_ret
    exact ⟨rfl, HB.out 0⟩
  by_cases o38 : xo = 38
  · subst o38
    obtain ⟨h0, h1⟩ := ha (by simp)
    obtain ⟨ka, rfl, hka, ga⟩ := gh_at h0 h1
    obtain ⟨h2, h3⟩ := hc (by simp)
    obtain ⟨kc, rfl, hkc, gc1⟩ := gh_at h2 h3
    obtain ⟨g1, f1, hqo, hg, d0⟩ := rd_bool (h.pg.below HB0.out).gh hka
    obtain ⟨g2, f2, hq2, hg2, d2⟩ := rd_bool (h.pg.below HB0.out).gh hkc
    obtain rfl : qo = some ⟨g1, f1, none⟩ := hqo
    obtain ⟨rfl, rfl⟩ : g2 = g1 ∧ f2 = f1 := by cases hq2; exact ⟨rfl, rfl⟩
    have hk1 : (ka : Int) < (p.gh.length : Int) := by omega
    have hk3 : (kc : Int) < (p.gh.length : Int) := by omega
    simp only [ga, gc1]
    generalize p.gh[ka] = ba at *
    generalize p.gh[kc] = bc at *
    clear ha hc h hg h0 h1 hka ga h2 h3 hkc gc1 hq2 hg2
    go_enter Tryd.func53, Tryd.ntmps53
    go_upto_region 1 with fail
    have c0 := HC.out
    obtain ⟨i0, i1, i2, i3, i4⟩ := cells5 HX.out
    generalize w.alloc (.cells #[.int .i64 38, .int .i64 (ka : Int), .int .i64 xb, .int .i64 (kc : Int), .int .i64 xd] 54) = W1 at *
    clear HX HC
    go_wp2_with fail
    go_quiet (fail)
    go_wp2_with fail
    go_ret
    exact ⟨rfl, HB.out _⟩
  by_cases o39 : xo = 39
  · subst o39
    obtain ⟨h0, h1⟩ := ha (by simp)
    obtain ⟨ka, rfl, hka, ga⟩ := gh_at h0 h1
    obtain ⟨h2, h3⟩ := hc (by simp)
    obtain ⟨kc, rfl, hkc, gc1⟩ := gh_at h2 h3
    obtain ⟨g1, f1, hqo, hg, d0⟩ := rd_bool (h.pg.below HB0.out).gh hka
    obtain ⟨g2, f2, hq2, hg2, d2⟩ := rd_bool (h.pg.below HB0.out).gh hkc
    obtain rfl : qo = some ⟨g1, f1, none⟩ := hqo
    obtain ⟨rfl, rfl⟩ : g2 = g1 ∧ f2 = f1 := by cases hq2; exact ⟨rfl, rfl⟩
    have hk1 : (ka : Int) < (p.gh.length : Int) := by omega
    have hk3 : (kc : Int) < (p.gh.length : Int) := by omega
    simp only [ga, gc1]
    generalize p.gh[ka] = ba at *
    generalize p.gh[kc] = bc at *
    clear ha hc h hg h0 h1 hka ga h2 h3 hkc gc1 hq2 hg2
    cases ba
    · go_enter Tryd.func53, Tryd.ntmps53
      go_upto_region 1 with fail
      have c0 := HC.out
      obtain ⟨i0, i1, i2, i3, i4⟩ := cells5 HX.out
      generalize w.alloc (.cells #[.int .i64 39, .int .i64 (ka : Int), .int .i64 xb, .int .i64 (kc : Int), .int .i64 xd] 54) = W1 at *
      clear HX HC
      go_wp2_with fail
      go_ret
      exact ⟨rfl, HB.out 0⟩
    · go_enter Tryd.func53, Tryd.ntmps53
      go_upto_region 1 with fail
      have c0 := HC.out
      obtain ⟨i0, i1, i2, i3, i4⟩ := cells5 HX.out
      generalize w.alloc (.cells #[.int .i64 39, .int .i64 (ka : Int), .int .i64 xb, .int .i64 (kc : Int), .int .i64 xd] 54) = W1 at *
      clear HX HC
      go_wp2_with fail
      go_ret
      exact ⟨rfl, HB.out 0⟩
  simp only [o32, o40, o41, o38, o39, decide_false, Bool.or_self, if_false]
  clear ha hc h
  go_enter Tryd.func53, Tryd.ntmps53
  go_upto_region 1 with fail
  have c0 := HC.out
  obtain ⟨i0, i1, i2, i3, i4⟩ := cells5 HX.out
  generalize w.alloc (.cells #[.int .i64 xo, .int .i64 xa, .int .i64 xb, .int .i64 xc, .int .i64 xd] 54) = W1 at *
  clear HX HC
  go_wp2_with fail
  go_ret
  exact ⟨by simp, HB0.out⟩
end Go.Proofs.YtelbakkgobkdaaaDoor.Vf

namespace Go.Proofs.YtelbakkgobkdaaaDoor.Vf
open Go.RowKit Go.Proofs.YtelbakkgobkdaaaDoor.Nm
def tyB (b : Bool) : UInt8 := if b then 98 else 110
theorem strT_eq (ty : List Bool) : strT ty = ⟨(ty.map tyB).toArray⟩ := rfl
theorem strT_size (ty : List Bool) : (strT ty).size = ty.length := by
  rw [strT_eq]
  show (ty.map tyB).toArray.size = _
  simp
theorem strT_take (ty : List Bool) (n : Nat) : (strT ty).extract 0 n = strT (ty.take n) := by
  rw [strT_eq, strT_eq]
  apply ByteArray.ext
  rw [ByteArray.data_extract]
  simp
theorem strT_drop (ty : List Bool) (n m : Nat) (hm : ty.length ≤ m) : (strT ty).extract n m = strT (ty.drop n) := by
  rw [strT_eq, strT_eq]
  apply ByteArray.ext
  rw [ByteArray.data_extract]
  simp only [List.extract_toArray, List.extract_eq_take_drop]
  congr 1
  rw [List.take_of_length_le (by simp; omega), List.map_drop]
theorem strT_app (a b : List Bool) : strT a ++ strT b = strT (a ++ b) := by
  rw [strT_eq, strT_eq, strT_eq]
  apply ByteArray.ext
  rw [ByteArray.data_append]
  simp
theorem tyB_inj {a b : Bool} (h : tyB a = tyB b) : a = b := by
  cases a <;> cases b <;> first | rfl | (revert h; decide)
theorem map_inj : ∀ {a b : List Bool}, a.map tyB = b.map tyB → a = b
  | [], [], _ => rfl
  | [], _ :: _, h => by simp at h
  | _ :: _, [], h => by simp at h
  | x :: a, y :: b, h => by
    simp only [List.map_cons, List.cons.injEq] at h
    rw [tyB_inj h.1, map_inj h.2]
theorem strT_inj {a b : List Bool} (h : strT a = strT b) : a = b := by
  rw [strT_eq, strT_eq] at h
  have h2 : (ByteArray.mk (a.map tyB).toArray).data = (ByteArray.mk (b.map tyB).toArray).data := by rw [h]
  have h3 : (a.map tyB).toArray = (b.map tyB).toArray := h2
  have h4 : (a.map tyB).toArray.toList = (b.map tyB).toArray.toList := by rw [h3]
  exact map_inj h4
theorem gvS_eq (op : Nat) (h : op < 42) : gvS op = strT (if (ef op).2.2 = 0 then [] else [decide ((ef op).2.2 = 2)]) := by
  have : ∀ k, k < 42 → gvS k = strT (if (ef k).2.2 = 0 then [] else [decide ((ef k).2.2 = 2)]) := by decide
  exact this op h
end Go.Proofs.YtelbakkgobkdaaaDoor.Vf

namespace Go.Proofs.YtelbakkgobkdaaaDoor.Vf
open Go.RowKit Go.Proofs.YtelbakkgobkdaaaDoor.Nm
theorem rsC_len (s : Option Sd) : (rsC s).length = 4 := by cases s <;> rfl
theorem flat4 {α : Type} (f : α → List Value) (hf : ∀ x, (f x).length = 4) : ∀ (l : List α) (k i : Nat) (h : k < l.length), i < 4 → (l.flatMap f)[k * 4 + i]? = (f l[k])[i]?
  | [], _, _, h, _ => absurd h (by simp)
  | x :: l, 0, i, _, hi => by
    rw [List.flatMap_cons, List.getElem?_append_left (by rw [hf]; omega)]
    simp
  | x :: l, k + 1, i, h, hi => by
    rw [List.flatMap_cons, List.getElem?_append_right (by rw [hf]; omega), hf, show (k + 1) * 4 + i - 4 = k * 4 + i by omega, flat4 f hf l k i (by simpa using h) hi]
    rfl
theorem rgC_at {n k i : Nat} {g : Nat → Option Sd} (h : k < n) (hi : i < 4) : (rgC n g)[k * 4 + i]? = (rsC (g k))[i]? := by
  unfold rgC
  rw [flat4 _ (fun x => rsC_len _) _ _ _ (by simpa using h) hi]
  simp
theorem rgC_len (n : Nat) (g : Nat → Option Sd) : (rgC n g).length = n * 4 := by
  induction n with
  | zero => rfl
  | succ n ih =>
    unfold rgC at *
    rw [List.range_succ, List.flatMap_append, List.length_append, ih, List.flatMap_singleton, rsC_len]
    omega
theorem rgC_set {n k : Nat} {g : Nat → Option Sd} (s : Sd) (h : k < n) : (((((rgC n g).toArray.setIfInBounds (k * 4) (.string (strT s.ty))).setIfInBounds (k * 4 + 1) (.int .i64 s.turn)).setIfInBounds (k * 4 + 2) (.int .i64 (s.hand : Int))).setIfInBounds (k * 4 + 3) (.bool true)) = (rgC n (upd g k s)).toArray := by
  simp only [List.setIfInBounds_toArray]
  congr 1
  refine List.ext_getElem? fun j => ?_
  by_cases hj : j < n * 4
  · have hq : j / 4 < n := by omega
    have hm : j % 4 < 4 := by omega
    have hl : (rgC n g).length = n * 4 := rgC_len n g
    have h2 := rgC_at (g := upd g k s) hq hm
    have h1 := rgC_at (g := g) hq hm
    rw [show j / 4 * 4 + j % 4 = j by omega] at h1 h2
    rw [h2]
    by_cases hk : j / 4 = k
    · have hs : upd g k s (j / 4) = some s := by unfold upd; rw [if_pos hk]
      rw [hs]
      simp only [List.getElem?_set, List.length_set, hl]
      have hj4 : j = k * 4 + j % 4 := by omega
      generalize j % 4 = m at *
      subst hj4
      match m, hm with
      | 0, _ => simp [rsC]; omega
      | 1, _ => simp [rsC]; omega
      | 2, _ => simp [rsC]; omega
      | 3, _ => simp [rsC]; omega
    · have hs : upd g k s (j / 4) = g (j / 4) := by unfold upd; rw [if_neg hk]
      rw [hs, ← h1]
      simp only [List.getElem?_set, List.length_set, hl]
      repeat rw [if_neg (by omega)]
  · have hl : ∀ f, (rgC n f).length = n * 4 := fun f => rgC_len n f
    rw [List.getElem?_eq_none (by simp only [List.length_set, hl]; omega), List.getElem?_eq_none (by rw [hl]; omega)]
/-- a standing is laid -/
abbrev put4 (W : World) (b k : Nat) (s : Sd) : World := (((W.setCell ⟨b, k * 4, none⟩ (.string (strT s.ty))).setCell ⟨b, k * 4 + 1, none⟩ (.int .i64 s.turn)).setCell ⟨b, k * 4 + 2, none⟩ (.int .i64 (s.hand : Int))).setCell ⟨b, k * 4 + 3, none⟩ (.bool true)
theorem put4_got {W : World} {b n k : Nat} {g : Nat → Option Sd} {T : TypeId} (s : Sd) (h : W.heap[b]? = some (.cells (rgC n g).toArray T (0, 0))) (hk : k < n) : (put4 W b k s).heap[b]? = some (.cells (rgC n (upd g k s)).toArray T (0, 0)) := by
  rw [← rgC_set s hk]
  exact set_in (set_in (set_in (set_in h _) _) _) _
theorem put4_old {W : World} {b k j : Nat} {s : Sd} (h : j ≠ b) : (put4 W b k s).heap[j]? = W.heap[j]? := by
  unfold put4
  rw [Below.heap_setCell _ _ _ _ h, Below.heap_setCell _ _ _ _ h, Below.heap_setCell _ _ _ _ h, Below.heap_setCell _ _ _ _ h]
theorem put4_below {n : Nat} {w W : World} {b k : Nat} {s : Sd} (h : Below n w W) (hb : n ≤ b) : Below n w (put4 W b k s) :=
  (((h.setCell (p := ⟨b, k * 4, none⟩) hb _).setCell (p := ⟨b, k * 4 + 1, none⟩) hb _).setCell (p := ⟨b, k * 4 + 2, none⟩) hb _).setCell (p := ⟨b, k * 4 + 3, none⟩) hb _
/-- of the blocks that were, only two have turned -/
structure F2 (a b : Nat) (w w' : World) : Prop where
  os : w'.os = w.os
  tape : w'.tape = w.tape
  output : w'.output = w.output
  size : w.heap.size ≤ w'.heap.size
  block : ∀ k, k < w.heap.size → k ≠ a → k ≠ b → w'.heap[k]? = w.heap[k]?
theorem F2.refl (a b : Nat) (w : World) : F2 a b w w := ⟨rfl, rfl, rfl, Nat.le_refl _, fun _ _ _ _ => rfl⟩
theorem F2.trans {a b : Nat} {w w' w'' : World} (h : F2 a b w w') (h2 : F2 a b w' w'') : F2 a b w w'' :=
  ⟨h2.os.trans h.os, h2.tape.trans h.tape, h2.output.trans h.output, Nat.le_trans h.size h2.size, fun k hk hn hm => (h2.block k (Nat.lt_of_lt_of_le hk h.size) hn hm).trans (h.block k hk hn hm)⟩
theorem F2.of {a b : Nat} {w w' : World} (h : Below w.heap.size w w') : F2 a b w w' := ⟨h.os, h.tape, h.output, h.size, fun k hk _ _ => h.block k hk⟩
theorem F2.put {a b k : Nat} {s : Sd} (w : World) : F2 a b w (put4 w a k s) := by
  have hb : Below 0 w (put4 w a k s) := put4_below (Below.refl 0 w) (Nat.zero_le _)
  refine ⟨hb.os, hb.tape, hb.output, ?_, fun j _ hn _ => put4_old hn⟩
  simp [put4]
theorem F2.set {a b k : Nat} {v : Value} (w : World) : F2 a b w (w.setCell ⟨b, k, none⟩ v) := by
  have hb : Below 0 w (w.setCell ⟨b, k, none⟩ v) := (Below.refl 0 w).setCell (p := ⟨b, k, none⟩) (Nat.zero_le _) _
  exact ⟨hb.os, hb.tape, hb.output, by simp, fun j _ _ hn => Below.heap_setCell _ _ _ _ hn⟩
theorem F2.row {a b : Nat} {W w' : World} (cs : Array Value) {k : Nat} (hk : W.heap.size ≤ k) (h : F2 a b W w') : F2 a b W (w'.setRow k cs) :=
  ⟨h.os, h.tape, h.output, by simpa using h.size, fun j hj hn hm => (setRow_other _ _ _ _ (by omega)).trans (h.block j hj hn hm)⟩
/-- the reference's looker, apart from what was -/
structure La (w W : World) (lb ab ub sb : Nat) (v : PV) (p : Pg) (g : Nat → Option Sd) (u : Nat → Int) (st : List Bool) : Prop where
  lk : Lk W lb ab ub sb v p g u st
  pg : IsPg w v p
  bel : Below w.heap.size w W
  ll : w.heap.size ≤ lb
  la : w.heap.size ≤ ab
  lu : w.heap.size ≤ ub
  ls : w.heap.size ≤ sb
  n1 : lb ≠ ab
  n2 : lb ≠ ub
  n3 : lb ≠ sb
  n4 : ab ≠ ub
  n5 : ab ≠ sb
  n6 : ub ≠ sb
theorem Lk.below {W W' : World} {lb ab ub sb : Nat} {v : PV} {p : Pg} {g : Nat → Option Sd} {u : Nat → Int} {st : List Bool} (h : Lk W lb ab ub sb v p g u st) (hb : Below W.heap.size W W') : Lk W' lb ab ub sb v p g u st :=
  ⟨(hb.block _ (blk_lt h.hw)).trans h.hw, h.pg.below hb, (hb.block _ (blk_lt h.at_)).trans h.at_, (hb.block _ (blk_lt h.up)).trans h.up, (hb.block _ (blk_lt h.ss)).trans h.ss⟩
theorem La.below {w W W' : World} {lb ab ub sb : Nat} {v : PV} {p : Pg} {g : Nat → Option Sd} {u : Nat → Int} {st : List Bool} (h : La w W lb ab ub sb v p g u st) (hb : Below W.heap.size W W') : La w W' lb ab ub sb v p g u st :=
  ⟨h.lk.below hb, h.pg, h.bel.trans (hb.mono h.bel.size), h.ll, h.la, h.lu, h.ls, h.n1, h.n2, h.n3, h.n4, h.n5, h.n6⟩
theorem La.put {w W : World} {lb ab ub sb : Nat} {v : PV} {p : Pg} {g : Nat → Option Sd} {u : Nat → Int} {st : List Bool} (h : La w W lb ab ub sb v p g u st) {k : Nat} (hk : k < p.cd.length) (s : Sd) : La w (put4 W ab k s) lb ab ub sb v p (upd g k s) u st :=
  ⟨⟨(put4_old h.n1).trans h.lk.hw, h.pg.below (put4_below h.bel h.la), put4_got s h.lk.at_ hk, (put4_old h.n4.symm).trans h.lk.up, (put4_old h.n5.symm).trans h.lk.ss⟩, h.pg, put4_below h.bel h.la, h.ll, h.la, h.lu, h.ls, h.n1, h.n2, h.n3, h.n4, h.n5, h.n6⟩
def updU (u : Nat → Int) (k : Nat) (z : Int) : Nat → Int := fun j => if j = k then z else u j
theorem La.setU {w W : World} {lb ab ub sb : Nat} {v : PV} {p : Pg} {g : Nat → Option Sd} {u : Nat → Int} {st : List Bool} (h : La w W lb ab ub sb v p g u st) {k : Nat} (hk : k < p.cd.length) (z : Int) : La w (W.setCell ⟨ub, k, none⟩ (.int .i64 z)) lb ab ub sb v p g (updU u k z) st :=
  have hb : Below w.heap.size w (W.setCell ⟨ub, k, none⟩ (.int .i64 z)) := h.bel.setCell (p := ⟨ub, k, none⟩) h.lu _
  ⟨⟨(Below.heap_setCell _ _ _ _ h.n2).trans h.lk.hw, h.pg.below hb, (Below.heap_setCell _ _ _ _ h.n4).trans h.lk.at_, by rw [heap_setCell_same W ub k _ _ _ h.lk.up, fuC_set z hk]; rfl, (Below.heap_setCell _ _ _ _ h.n6.symm).trans h.lk.ss⟩, h.pg, hb, h.ll, h.la, h.lu, h.ls, h.n1, h.n2, h.n3, h.n4, h.n5, h.n6⟩
theorem La.setS {w W : World} {lb ab ub sb : Nat} {v : PV} {p : Pg} {g : Nat → Option Sd} {u : Nat → Int} {st : List Bool} (h : La w W lb ab ub sb v p g u st) (k : Nat) (z : Bool) : La w (W.setCell ⟨sb, k, none⟩ (.bool z)) lb ab ub sb v p g u (st.set k z) :=
  have hb : Below w.heap.size w (W.setCell ⟨sb, k, none⟩ (.bool z)) := h.bel.setCell (p := ⟨sb, k, none⟩) h.ls _
  ⟨⟨(Below.heap_setCell _ _ _ _ h.n3).trans h.lk.hw, h.pg.below hb, (Below.heap_setCell _ _ _ _ h.n5).trans h.lk.at_, (Below.heap_setCell _ _ _ _ h.n6).trans h.lk.up, by
    rw [heap_setCell_same W sb k _ _ _ h.lk.ss]
    simp [bC, List.map_set]⟩, h.pg, hb, h.ll, h.la, h.lu, h.ls, h.n1, h.n2, h.n3, h.n4, h.n5, h.n6⟩
theorem La.row {w W : World} {lb ab ub sb : Nat} {v : PV} {p : Pg} {g : Nat → Option Sd} {u : Nat → Int} {st : List Bool} (h : La w W lb ab ub sb v p g u st) (kb : Nat) (cs : Array Value) (h0 : w.heap.size ≤ kb) (h1 : lb ≠ kb) (h2 : ab ≠ kb) (h3 : ub ≠ kb) (h4 : sb ≠ kb) : La w (W.setRow kb cs) lb ab ub sb v p g u st :=
  have hb : Below w.heap.size w (W.setRow kb cs) := below_setRow h.bel h0
  ⟨⟨(setRow_other _ _ _ _ h1).trans h.lk.hw, h.pg.below hb, (setRow_other _ _ _ _ h2).trans h.lk.at_, (setRow_other _ _ _ _ h3).trans h.lk.up, (setRow_other _ _ _ _ h4).trans h.lk.ss⟩, h.pg, hb, h.ll, h.la, h.lu, h.ls, h.n1, h.n2, h.n3, h.n4, h.n5, h.n6⟩
/-- a place's standing is read -/
theorem Lk.isS {W : World} {lb ab ub sb : Nat} {v : PV} {p : Pg} {g : Nat → Option Sd} {u : Nat → Int} {st : List Bool} (h : Lk W lb ab ub sb v p g u st) {k : Nat} (hk : k < p.cd.length) {s : Sd} (hs : g k = some s) :
    W.cell? ⟨ab, k * 4, none⟩ = some (.string (strT s.ty)) ∧ W.cell? ⟨ab, k * 4 + 1, none⟩ = some (.int .i64 s.turn) ∧ W.cell? ⟨ab, k * 4 + 2, none⟩ = some (.int .i64 (s.hand : Int)) ∧ W.cell? ⟨ab, k * 4 + 3, none⟩ = some (.bool true) := by
  have e : ∀ i, i < 4 → (rgC p.cd.length g)[k * 4 + i]? = (rsC (some s))[i]? := fun i hi => by rw [rgC_at hk hi, hs]
  exact ⟨cell_of h.at_ (e 0 (by omega)), cell_of h.at_ (e 1 (by omega)), cell_of h.at_ (e 2 (by omega)), cell_of h.at_ (e 3 (by omega))⟩
theorem Lk.isN {W : World} {lb ab ub sb : Nat} {v : PV} {p : Pg} {g : Nat → Option Sd} {u : Nat → Int} {st : List Bool} (h : Lk W lb ab ub sb v p g u st) {k : Nat} (hk : k < p.cd.length) (hs : g k = none) :
    W.cell? ⟨ab, k * 4, none⟩ = some (.string ⟨#[]⟩) ∧ W.cell? ⟨ab, k * 4 + 1, none⟩ = some (.int .i64 0) ∧ W.cell? ⟨ab, k * 4 + 2, none⟩ = some (.int .i64 0) ∧ W.cell? ⟨ab, k * 4 + 3, none⟩ = some (.bool false) := by
  have e : ∀ i, i < 4 → (rgC p.cd.length g)[k * 4 + i]? = (rsC none)[i]? := fun i hi => by rw [rgC_at hk hi, hs]
  exact ⟨cell_of h.at_ (e 0 (by omega)), cell_of h.at_ (e 1 (by omega)), cell_of h.at_ (e 2 (by omega)), cell_of h.at_ (e 3 (by omega))⟩
theorem Lk.fz {W : World} {b : Nat} {cs : Array Value} {T : TypeId} (h : W.heap[b]? = some (.cells cs T (0, 0))) : ∀ j, W.frozen? ⟨b, j, none⟩ = false := fun j => by simp only [World.frozen?, h]; rfl
end Go.Proofs.YtelbakkgobkdaaaDoor.Vf

namespace Go.Proofs.YtelbakkgobkdaaaDoor.Vf
open Go.RowKit Go.Proofs.YtelbakkgobkdaaaDoor.Nm
/-- what is wrong with the operands -/
def opE (ty : List Bool) (op : Nat) : Nat := if fitsB ty op then (if suitsB ty op then 0 else 94) else 93
def gvL (op : Nat) : List Bool := if (ef op).2.2 = 0 then [] else [decide ((ef op).2.2 = 2)]
theorem tkS_eq (op : Nat) (h : op < 42) (h19 : op ≠ 19) : tkS op = strT (List.replicate (ef op).1 (decide ((ef op).2.1 = 2))) := by
  have : ∀ k, k < 42 → k ≠ 19 → tkS k = strT (List.replicate (ef k).1 (decide ((ef k).2.1 = 2))) := by decide
  exact this op h h19
theorem tkS_size (op : Nat) : (tkS op).size = (ef op).1 := by
  show (List.replicate _ _).toArray.size = _
  simp
theorem ef_two (op : Nat) (h : op < 42) : (ef op).1 ≤ 2 ∧ (op ≠ 19 → (ef op).1 = 0 ∨ (ef op).2.1 = 1 ∨ (ef op).2.1 = 2) := by
  have : ∀ k, k < 42 → (ef k).1 ≤ 2 ∧ (k ≠ 19 → (ef k).1 = 0 ∨ (ef k).2.1 = 1 ∨ (ef k).2.1 = 2) := by decide
  exact this op h
theorem blw_app (a : List Bool) (x : Bool) : blw (a ++ [x]) 0 = x := by
  unfold blw
  simp
theorem blw_app1 (a : List Bool) (x y : Bool) : blw (a ++ [x, y]) 1 = x := by
  unfold blw
  rw [show (a ++ [x, y]).length - 1 - 1 = a.length by simp]
  simp
theorem knd_inj {a b : Bool} : (knd a = knd b) ↔ a = b := by cases a <;> cases b <;> simp [knd]
theorem knd_eq {a : Bool} {k : Nat} (h : k = 1 ∨ k = 2) : (knd a = k) ↔ a = decide (k = 2) := by
  rcases h with rfl | rfl <;> cases a <;> simp [knd]
/-- where the operands suit, the top is what is taken -/
theorem suits_top {ty : List Bool} {op : Nat} (h : op < 42) (h19 : op ≠ 19) (hk : (ef op).1 ≤ ty.length) : suitsB ty op = decide (strT (ty.drop (ty.length - (ef op).1)) = tkS op) := by
  rw [tkS_eq op h h19]
  obtain ⟨h2, h3⟩ := ef_two op h
  have h4 := h3 h19
  have hw : wantK ty op = (ef op).2.1 ∨ (ef op).1 = 0 := by
    unfold wantK
    rcases h4 with e | e | e
    · exact Or.inr e
    · rw [e]; exact Or.inl rfl
    · rw [e]; exact Or.inl rfl
  have key : suitsB ty op = true ↔ ty.drop (ty.length - (ef op).1) = List.replicate (ef op).1 (decide ((ef op).2.1 = 2)) := by
    unfold suitsB
    generalize wantK ty op = wk at *
    generalize (ef op).1 = k at *
    generalize (ef op).2.1 = q at *
    match k, h2 with
    | 0, _ => simp
    | 1, _ =>
      have e1 : wk = q := hw.resolve_right (by omega)
      have e2 : q = 1 ∨ q = 2 := h4.resolve_left (by omega)
      subst e1
      obtain ⟨a, x, rfl⟩ : ∃ a x, ty = a ++ [x] := ⟨ty.dropLast, ty.getLast (by intro e; rw [e] at hk; simp at hk), (List.dropLast_concat_getLast _).symm⟩
      have r1 : List.range 1 = [0] := rfl
      rw [r1]
      simp only [List.all_cons, List.all_nil, Bool.and_true, decide_eq_true_eq, blw_app, knd_eq e2]
      simp
    | 2, _ =>
      have e1 : wk = q := hw.resolve_right (by omega)
      have e2 : q = 1 ∨ q = 2 := h4.resolve_left (by omega)
      subst e1
      obtain ⟨a, x, y, rfl⟩ : ∃ a x y, ty = a ++ [x, y] := by
        obtain ⟨b, y, rfl⟩ : ∃ b y, ty = b ++ [y] := ⟨ty.dropLast, ty.getLast (by intro e; rw [e] at hk; simp at hk), (List.dropLast_concat_getLast _).symm⟩
        obtain ⟨a, x, rfl⟩ : ∃ a x, b = a ++ [x] := ⟨b.dropLast, b.getLast (by intro e; rw [e] at hk; simp at hk), (List.dropLast_concat_getLast _).symm⟩
        exact ⟨a, x, y, by simp⟩
      have r1 : List.range 2 = [0, 1] := rfl
      have b0 : blw (a ++ [x, y]) 0 = y := by rw [show a ++ [x, y] = (a ++ [x]) ++ [y] by simp]; exact blw_app _ _
      rw [r1]
      simp only [List.all_cons, List.all_nil, Bool.and_true, Bool.and_eq_true, decide_eq_true_eq, b0, blw_app1, knd_eq e2]
      simp only [List.length_append, List.length_cons, List.length_nil, List.replicate]
      rw [show a.length + (0 + 1 + 1) - 2 = a.length by omega]
      simp
      exact ⟨fun ⟨h1, h2⟩ => ⟨h2, h1⟩, fun ⟨h1, h2⟩ => ⟨h2, h1⟩⟩
  cases hs : suitsB ty op
  · symm
    rw [decide_eq_false_iff_not]
    intro e
    have := key.2 (strT_inj e)
    rw [hs] at this
    cases this
  · symm
    rw [decide_eq_true_iff]
    rw [key.1 hs]
theorem suits_eq (a : List Bool) (x y : Bool) : suitsB (a ++ [x, y]) 19 = decide (x = y) := by
  have b0 : blw (a ++ [x, y]) 0 = y := by rw [show a ++ [x, y] = (a ++ [x]) ++ [y] by simp]; exact blw_app _ _
  have r1 : List.range (ef 19).1 = [0, 1] := rfl
  have hw : wantK (a ++ [x, y]) 19 = knd y := by
    show knd (blw (a ++ [x, y]) 0) = _
    rw [b0]
  unfold suitsB
  rw [r1, hw]
  simp only [List.all_cons, List.all_nil, b0, blw_app1, Bool.and_true, knd_inj, decide_true, Bool.true_and]
end Go.Proofs.YtelbakkgobkdaaaDoor.Vf

namespace Go.Proofs.YtelbakkgobkdaaaDoor.Vf
open Go.RowKit Go.Proofs.YtelbakkgobkdaaaDoor.Nm
theorem strR_ne {a b : ByteArray} (h : ¬ a = b) : (a.toList == b.toList) = false := by
  rw [ByteArray.toList_eq, ByteArray.toList_eq]
  refine beq_eq_false_iff_ne.2 fun e => h ?_
  apply ByteArray.ext
  exact Array.toList_inj.1 e
set_option maxHeartbeats 6400000 in
set_option maxRecDepth 100000 in
/-- the reference's operands -/
theorem roperands_any (x : Ins) (ty : List Bool) (h0 : 0 ≤ x.op) (h1 : x.op < 42) (hl : ty.length ≤ 256) (w : World) :
    Calls Tryd.prog 52 #[.agg #[.int .i64 x.op, .int .i64 x.a, .int .i64 x.b, .int .i64 x.c, .int .i64 x.d], .string (strT ty)] w fun e w' => e = .returned (.tuple #[.string (if opE ty x.op.toNat = 0 then strT (behT ty x.op.toNat) else ⟨#[]⟩), .int .i64 (opE ty x.op.toNat : Int)]) ∧ Below w.heap.size w w' := by
  obtain ⟨xo, xa, xb, xc, xd⟩ := x
  dsimp only at h0 h1 ⊢
  obtain ⟨op, rfl⟩ : ∃ op : Nat, xo = (op : Int) := ⟨xo.toNat, by omega⟩
  rw [Int.toNat_natCast]
  have hop : op < 42 := by omega
  have HT : Hid (∀ W, Calls Tryd.prog 75 #[.int .i64 (op : Int)] W fun e w' => e = .returned (.string (tkS op)) ∧ w' = W) := fun W => rtakes_any op hop W
  have HG : Hid (∀ W, Calls Tryd.prog 76 #[.int .i64 (op : Int)] W fun e w' => e = .returned (.string (gvS op)) ∧ w' = W) := fun W => rgives_any op hop W
  have hbA : Below w.heap.size w (w.alloc (.cells #[.int .i64 (op : Int), .int .i64 xa, .int .i64 xb, .int .i64 xc, .int .i64 xd] 54)) := (Below.refl _ w).alloc (Nat.le_refl _) _
  have HB : Hid (∀ n, Below w.heap.size w ((w.alloc (.cells #[.int .i64 (op : Int), .int .i64 xa, .int .i64 xb, .int .i64 xc, .int .i64 xd] 54)).drewN n)) := fun n => hbA.trans ((drN _ n).mono hbA.size)
  have HX : Hid ((w.alloc (.cells #[.int .i64 (op : Int), .int .i64 xa, .int .i64 xb, .int .i64 xc, .int .i64 xd] 54)).heap[w.heap.size]? = some (.cells #[.int .i64 (op : Int), .int .i64 xa, .int .i64 xb, .int .i64 xc, .int .i64 xd] 54 (0, 0))) := heap_alloc_new _ _
  have hsz : (strT ty).size = ty.length := strT_size ty
  have htk : (tkS op).size = (ef op).1 := tkS_size op
  have hk2 : (ef op).1 ≤ 2 := (ef_two op hop).1
  clear hbA
  by_cases hA : ty.length < (ef op).1
  · have hr : opE ty op = 93 := by
      unfold opE fitsB
      rw [decide_eq_false (p := (ef op).1 ≤ ty.length) (by omega)]
      rfl
    rw [hr]
    show Calls _ _ _ _ (fun e w' => e = .returned (.tuple #[.string ⟨#[]⟩, .int .i64 93]) ∧ _)
    generalize strT ty = S at *
    generalize tkS op = tk at *
    have q1 : ((S.size : Int)) < (tk.size : Int) := by omega
    have q2 : (S.size : Int) - (tk.size : Int) < 0 := by omega
    have q3 : -2 ≤ (S.size : Int) - (tk.size : Int) := by omega
    have hw : IntKind.i64.wrap ((S.size : Int) - (tk.size : Int)) = (S.size : Int) - (tk.size : Int) := by rw [IntKind.wrap_i64]; omega
    generalize hz : (S.size : Int) - (tk.size : Int) = z at *
    clear hr hsz htk hk2 hA hl q1
    go_enter Tryd.func52, Tryd.ntmps52
    go_upto_region 1 with fail
    obtain ⟨i0, i1, i2, i3, i4⟩ := cells5 HX.out
    generalize (w.alloc (.cells #[.int .i64 (op : Int), .int .i64 xa, .int .i64 xb, .int .i64 xc, .int .i64 xd] 54)) = W1 at *
    clear HX
    go_wp2_with fail
    refine (HT.out _).mono ?_
    rintro e w1 ⟨rfl, rfl⟩
    go_wp2_with fail
    refine bodyPost_ret ?_ rfl ⟨rfl, HB.out 0⟩
    simp [results, Tryd.results52, go_sem]
  obtain ⟨d, hd⟩ : ∃ d, ty.length = d + (ef op).1 := ⟨ty.length - (ef op).1, by omega⟩
  by_cases hB : op = 0 ∧ 0 < ty.length
  · obtain ⟨rfl, hB⟩ := hB
    have hr : opE ty 0 = 93 := by
      unfold opE fitsB
      rw [decide_eq_true (p := 0 < ty.length) hB]
      simp
    rw [hr]
    show Calls _ _ _ _ (fun e w' => e = .returned (.tuple #[.string ⟨#[]⟩, .int .i64 93]) ∧ _)
    have hk0 : (ef 0).1 = 0 := rfl
    generalize strT ty = S at *
    generalize tkS 0 = tk at *
    have q1 : (S.size : Int) - (tk.size : Int) = (S.size : Int) := by omega
    have q2 : ¬ (S.size : Int) < 0 := by omega
    have q3 : 0 < (S.size : Int) := by omega
    have hw : IntKind.i64.wrap ((S.size : Int) - (tk.size : Int)) = (S.size : Int) := by rw [IntKind.wrap_i64]; omega
    clear hr hsz htk hk2 hA hl q1 hk0 hB hd
    go_enter Tryd.func52, Tryd.ntmps52
    go_upto_region 1 with fail
    obtain ⟨i0, i1, i2, i3, i4⟩ := cells5 HX.out
    generalize (w.alloc (.cells #[.int .i64 _, .int .i64 xa, .int .i64 xb, .int .i64 xc, .int .i64 xd] 54)) = W1 at *
    clear HX
    go_wp2_with fail
    refine (HT.out _).mono ?_
    rintro e w1 ⟨rfl, rfl⟩
    go_wp2_with fail
    refine bodyPost_ret ?_ rfl ⟨rfl, HB.out 0⟩
    simp [results, Tryd.results52, go_sem]
  by_cases ho : op = 0
  · subst ho
    obtain rfl : ty = [] := by
      cases ty with
      | nil => rfl
      | cons x l => exact absurd ⟨rfl, by simp⟩ hB
    have e1 : opE [] 0 = 0 := rfl
    have e2 : strT (behT [] 0) = ⟨#[]⟩ := rfl
    have e3 : strT [] = ⟨#[]⟩ := rfl
    have e4 : tkS 0 = ⟨#[]⟩ := rfl
    have e5 : gvS 0 = ⟨#[]⟩ := rfl
    rw [e1, e2, e3]
    rw [e4] at HT
    rw [e5] at HG
    show Calls _ _ #[.agg #[.int .i64 0, _, _, _, _], _] _ (fun e w' => e = .returned (.tuple #[.string ⟨#[]⟩, .int .i64 0]) ∧ _)
    have HX0 : Hid ((w.alloc (.cells #[.int .i64 0, .int .i64 xa, .int .i64 xb, .int .i64 xc, .int .i64 xd] 54)).heap[w.heap.size]? = some (.cells #[.int .i64 0, .int .i64 xa, .int .i64 xb, .int .i64 xc, .int .i64 xd] 54 (0, 0))) := HX.out
    have HB0 : Hid (∀ n, Below w.heap.size w ((w.alloc (.cells #[.int .i64 0, .int .i64 xa, .int .i64 xb, .int .i64 xc, .int .i64 xd] 54)).drewN n)) := HB.out
    have HT0 : Hid (∀ W, Calls Tryd.prog 75 #[.int .i64 0] W fun e w' => e = .returned (.string ⟨#[]⟩) ∧ w' = W) := HT.out
    have HG0 : Hid (∀ W, Calls Tryd.prog 76 #[.int .i64 0] W fun e w' => e = .returned (.string ⟨#[]⟩) ∧ w' = W) := HG.out
    clear HX HB HT HG e1 e2 e3 e4 e5 hsz htk hk2 hA hB hd hl h0 h1 hop
    go_enter Tryd.func52, Tryd.ntmps52
    go_upto_region 1 with fail
    obtain ⟨i0, i1, i2, i3, i4⟩ := cells5 HX0.out
    generalize (w.alloc (.cells #[.int .i64 0, .int .i64 xa, .int .i64 xb, .int .i64 xc, .int .i64 xd] 54)) = W1 at *
    clear HX0
    go_wp2_with fail
    refine (HT0.out _).mono ?_
    rintro e w1 ⟨rfl, rfl⟩
    go_wp2_with fail
    refine wp_region_held (S := fun w' : World => w'.cell? ⟨w.heap.size, 0, none⟩ = some (.int .i64 0)) (by kernel_rfl) ?_
    change wpAnyH _ _ _ _ _ _ _ _ w1.drew
    have hS : (fun w' : World => w'.cell? ⟨w.heap.size, 0, none⟩ = some (.int .i64 0)) w1.drew := i0
    have HBd : Hid (Below w.heap.size w w1.drew) := HB0.out 1
    clear HB0 i0 i1 i2 i3 i4
    generalize w1.drew = w2 at *
    refine tqS 0 rfl hS ?_
    refine tqS 1 rfl hS ?_
    refine tqS 3 rfl hS ?_
    refine tqS 4 rfl hS ?_
    refine tqS 2 rfl hS ?_
    refine wpAnyH_ready (rs := [5]) (by kernel_rfl) (by simp) ?_
    refine AllReadyH.cons rfl (fun K hK => ?_) AllReadyH.nil
    go_simp
    refine Calls.mono (HG0.out _) ?_
    rintro e w3 ⟨rfl, rfl⟩
    refine hK.out _ _ hS (fun hS => ?_)
    clear hK K
    refine tqS 6 rfl hS ?_
    refine tqS 7 rfl hS ?_
    refine wpAnyH_done (by kernel_rfl) ?_ _
    go_simp
    have i0 : w3.cell? ⟨w.heap.size, 0, none⟩ = some (.int .i64 0) := hS
    clear hS
    go_wp2_with fail
    refine bodyPost_ret (v := .tuple #[.string ⟨#[]⟩, .int .i64 0]) (by simp [results, Tryd.results52, go_sem]) rfl ?_
    exact ⟨rfl, HBd.out⟩
  have HLf : Hid ((strT ty).extract 0 d ++ gvS op = strT (behT ty op)) := by
    rw [strT_take, gvS_eq op hop, strT_app]
    unfold behT
    rw [show ty.length - (ef op).1 = d by omega]
    exact rfl
  have hb0 : ¬ ((op : Int) = 0 ∧ 0 < (d : Int)) := fun ⟨e1, e2⟩ => hB ⟨by omega, by omega⟩
  have HFt : Hid (fitsB ty op = decide (d + (gvS op).size ≤ 256)) := by
    unfold fitsB
    rw [decide_eq_true (p := (ef op).1 ≤ ty.length) (by omega), show (decide (op = 0) && decide (0 < ty.length)) = false by rw [Bool.eq_false_iff]; simp only [ne_eq, Bool.and_eq_true, decide_eq_true_eq]; exact hB, gvS_eq op hop, strT_size, show ty.length - (ef op).1 = d by omega]
    by_cases hz : (ef op).2.2 = 0
    · rw [if_pos hz, decide_eq_true hz, decide_eq_true (p := d + ([] : List Bool).length ≤ 256) (by simp; omega)]
      rfl
    · rw [if_neg hz, decide_eq_false hz]
      show (true && (!false && (false || decide (d < 256)))) = decide (d + 1 ≤ 256)
      simp
      omega
  have hg1 : (gvS op).size ≤ 1 := by
    rw [gvS_eq op hop, strT_size]
    split <;> simp
  have HSu : Hid (op ≠ 19 → suitsB ty op = decide ((strT ty).extract d (d + (ef op).1) = tkS op)) := fun h19 => by
    rw [suits_top hop h19 (by omega), show ty.length - (ef op).1 = d by omega, strT_drop ty d _ (by omega)]
  have HO : Hid (opE ty op = if fitsB ty op then (if suitsB ty op then 0 else 94) else 93) := rfl
  have hw : IntKind.i64.wrap (((strT ty).size : Int) - ((tkS op).size : Int)) = (d : Int) := by rw [IntKind.wrap_i64]; omega
  have hd0 : ¬ (d : Int) < 0 := by omega
  have hd1 : (0 : Int) ≤ (d : Int) := by omega
  have hd2 : (d : Int) ≤ ((strT ty).size : Int) := by omega
  have hd3 : (d : Int) ≤ 256 := by omega
  have hs1 : ((strT ty).extract 0 d).size = d := by rw [strT_take, strT_size, List.length_take]; omega
  have hs2 : ((strT ty).extract d (d + (ef op).1)).size = (ef op).1 := by rw [strT_drop ty d _ (by omega), strT_size, List.length_drop]; omega
  have hs3 : (((strT ty).extract 0 d ++ gvS op)).size = d + (gvS op).size := by rw [ByteArray.size_append, hs1]
  have HE : Hid (op = 19 → ∃ x y, (strT ty).extract d (d + (ef op).1) = ⟨#[tyB x, tyB y]⟩ ∧ suitsB ty op = decide (x = y)) := fun h => by
    subst h
    have h2 : (ef 19).1 = 2 := rfl
    rw [h2] at hd
    obtain ⟨a, x, y, rfl⟩ : ∃ a x y, ty = a ++ [x, y] := by
      obtain ⟨b, y, rfl⟩ : ∃ b y, ty = b ++ [y] := ⟨ty.dropLast, ty.getLast (by intro e; rw [e] at hd; simp at hd), (List.dropLast_concat_getLast _).symm⟩
      obtain ⟨a, x, rfl⟩ : ∃ a x, b = a ++ [x] := ⟨b.dropLast, b.getLast (by intro e; rw [e] at hd; simp at hd), (List.dropLast_concat_getLast _).symm⟩
      exact ⟨a, x, y, by simp⟩
    refine ⟨x, y, ?_, suits_eq a x y⟩
    have hda : d = a.length := by simp at hd; omega
    rw [strT_drop _ d _ (by omega), hda, List.drop_left]
    rfl
  have hkk : ((tkS op).size : Int) ≤ 2 := by omega
  have hSS : (strT ty).size = d + (ef op).1 := by omega
  generalize strT (behT ty op) = BT at *
  generalize strT ty = S at *
  generalize tkS op = tk at *
  generalize gvS op = gv at *
  generalize (ef op).1 = k at *
  clear hsz hl hA hB hd
  have hdk : (d : Int) ≤ (d : Int) + (k : Int) := by omega
  have HHO : Hid (opE ty op = if d + gv.size ≤ 256 then (if suitsB ty op then 0 else 94) else 93) := by
    show opE ty op = _
    rw [HO.out, HFt.out]
    by_cases hC : d + gv.size ≤ 256 <;> simp [hC]
  clear HO HFt
  have hgd : (0 : Int) ≤ (gv.size : Int) := by omega
  have hbig : ¬ 9223372036854775807 < d + gv.size := by omega
  have hgd1 : (gv.size : Int) ≤ 1 := by omega
  obtain ⟨R, hR⟩ : ∃ R, R = opE ty op := ⟨_, rfl⟩
  obtain ⟨RT, hRT⟩ : ∃ RT : ByteArray, RT = (if R = 0 then BT else ⟨#[]⟩) := ⟨_, rfl⟩
  rw [← hR, ← hRT]
  have HRR : Hid (R = opE ty op ∧ RT = (if R = 0 then BT else ⟨#[]⟩)) := ⟨hR, hRT⟩
  clear hR hRT
  have ho2 : ¬ (op : Int) = 0 := by omega
  clear ho h0 h1 hb0
  go_enter Tryd.func52, Tryd.ntmps52
  go_upto_region 1 with fail
  obtain ⟨i0, i1, i2, i3, i4⟩ := cells5 HX.out
  generalize (w.alloc (.cells #[.int .i64 (op : Int), .int .i64 xa, .int .i64 xb, .int .i64 xc, .int .i64 xd] 54)) = W1 at *
  clear HX
  go_wp2_with fail
  refine (HT.out _).mono ?_
  rintro e w1 ⟨rfl, rfl⟩
  go_wp2_with fail
  refine wp_region_held (S := fun w' : World => w'.cell? ⟨w.heap.size, 0, none⟩ = some (.int .i64 (op : Int))) (by kernel_rfl) ?_
  change wpAnyH _ _ _ _ _ _ _ _ w1.drew
  have hS : (fun w' : World => w'.cell? ⟨w.heap.size, 0, none⟩ = some (.int .i64 (op : Int))) w1.drew := i0
  have HBd : Hid (Below w.heap.size w w1.drew) := HB.out 1
  clear HB i0 i1 i2 i3 i4
  generalize w1.drew = w2 at *
  refine tqS 0 rfl hS ?_
  refine tqS 1 rfl hS ?_
  refine tqS 3 rfl hS ?_
  refine tqS 4 rfl hS ?_
  refine tqS 2 rfl hS ?_
  refine wpAnyH_ready (rs := [5]) (by kernel_rfl) (by simp) ?_
  refine AllReadyH.cons rfl (fun K hK => ?_) AllReadyH.nil
  go_simp
  refine Calls.mono (HG.out _) ?_
  rintro e w3 ⟨rfl, rfl⟩
  refine hK.out _ _ hS (fun hS => ?_)
  clear hK K
  refine tqS 6 rfl hS ?_
  refine tqS 7 rfl hS ?_
  refine wpAnyH_done (by kernel_rfl) ?_ _
  go_simp
  have i0 : w3.cell? ⟨w.heap.size, 0, none⟩ = some (.int .i64 (op : Int)) := hS
  have HD : Hid (∀ n, Below w.heap.size w (w3.drewN n)) := fun n => HBd.out.trans ((drN _ n).mono HBd.out.size)
  clear hS HBd hw hd1 hd2 hdk
  by_cases hC : d + gv.size ≤ 256
  rotate_left
  · have hC' : 256 < (d : Int) + (gv.size : Int) := by omega
    have HR2 : Hid (opE ty op = 93) := by show opE ty op = 93; rw [HHO.out, if_neg hC]
    clear hC
    go_wp2_with fail
    refine bodyPost_ret (v := .tuple #[.string ⟨#[]⟩, .int .i64 93]) (by simp [results, Tryd.results52, go_sem]) rfl ?_
    exact ⟨by rw [HRR.out.2, HRR.out.1, HR2.out]; rfl, HD.out 0⟩
  have hC' : ¬ 256 < (d : Int) + (gv.size : Int) := by omega
  have HH2 : Hid (opE ty op = if suitsB ty op then 0 else 94) := by show opE ty op = _; rw [HHO.out, if_pos hC]
  clear hC
  by_cases h19 : op = 19
  · obtain ⟨x, y, hxy, hsu⟩ := HE.out h19
    subst h19
    rw [hxy]
    have HR2 : Hid (opE ty 19 = if x = y then 0 else 94) := by show opE ty 19 = _; rw [HH2.out, hsu]; simp
    clear hxy hsu
    cases x <;> cases y
    all_goals
      simp only [tyB]
      go_wp2_with fail
      go_quiet (fail)
      go_wp2_with fail
      first
        | (refine bodyPost_ret (v := .tuple #[.string ⟨#[]⟩, .int .i64 94]) (by simp [results, Tryd.results52, go_sem]) rfl ?_
           exact ⟨by rw [HRR.out.2, HRR.out.1, HR2.out]; rfl, HD.out _⟩)
        | (refine bodyPost_ret (v := .tuple #[.string (S.extract 0 d ++ gv), .int .i64 0]) (by simp [results, Tryd.results52, go_sem]) rfl ?_
           exact ⟨by rw [HRR.out.2, HRR.out.1, HR2.out, HLf.out]; rfl, HD.out _⟩)
  have h19' : ¬ (op : Int) = 19 := by omega
  by_cases he : S.extract d (d + k) = tk
  · have HR2 : Hid (opE ty op = 0) := by show opE ty op = _; rw [HH2.out, HSu.out h19, decide_eq_true he]; rfl
    rw [he]
    clear he
    go_wp2_with fail
    refine bodyPost_ret (v := .tuple #[.string (S.extract 0 d ++ gv), .int .i64 0]) (by simp [results, Tryd.results52, go_sem]) rfl ?_
    exact ⟨by rw [HRR.out.2, HRR.out.1, HR2.out, HLf.out]; rfl, HD.out 0⟩
  · have HR2 : Hid (opE ty op = 94) := by show opE ty op = _; rw [HH2.out, HSu.out h19, decide_eq_false he]; rfl
    have hne := strR_ne he
    clear he
    go_wp2_with fail
    refine bodyPost_ret (v := .tuple #[.string ⟨#[]⟩, .int .i64 94]) (by simp [results, Tryd.results52, go_sem]) rfl ?_
    exact ⟨by rw [HRR.out.2, HRR.out.1, HR2.out]; rfl, HD.out 0⟩
end Go.Proofs.YtelbakkgobkdaaaDoor.Vf

namespace Go.Proofs.YtelbakkgobkdaaaDoor.Vf
open Go.RowKit Go.Proofs.YtelbakkgobkdaaaDoor.Nm
/-- what get leaves -/
def GtP (w W : World) (lb ab ub sb : Nat) (v : PV) (p : Pg) (g : Nat → Option Sd) (u : Nat → Int) (st : List Bool) (k : Nat) (s : Sd) (e : Ending) (w' : World) : Prop :=
  match g k with
  | none => e = .returned (.bool true) ∧ La w w' lb ab ub sb v p (upd g k s) u st ∧ F2 ab ub W w'
  | some t => e = .returned (.bool (sameS t s)) ∧ La w w' lb ab ub sb v p g u st ∧ F2 ab ub W w'
theorem cells4s {W : World} {B : Nat} {v0 v1 v2 v3 : Value} {T : TypeId} (h : W.heap[B]? = some (.cells #[v0, v1, v2, v3] T (0, 0))) : W.cell? ⟨B, 0, none⟩ = some v0 ∧ W.cell? ⟨B, 1, none⟩ = some v1 ∧ W.cell? ⟨B, 2, none⟩ = some v2 ∧ W.cell? ⟨B, 3, none⟩ = some v3 :=
  ⟨cell_of (cs := [v0, v1, v2, v3]) h rfl, cell_of (cs := [v0, v1, v2, v3]) h rfl, cell_of (cs := [v0, v1, v2, v3]) h rfl, cell_of (cs := [v0, v1, v2, v3]) h rfl⟩
set_option maxHeartbeats 12800000 in
set_option maxRecDepth 100000 in
/-- the reference's get -/
theorem rget_any {w W : World} {lb ab ub sb : Nat} {v : PV} {p : Pg} {g : Nat → Option Sd} {u : Nat → Int} {st : List Bool} (h : La w W lb ab ub sb v p g u st) (k : Nat) (hk : k < p.cd.length) (s : Sd) :
    Calls Tryd.prog 56 #[.pointer (some ⟨lb, 0, none⟩), .int .i64 (k : Int), .agg #[.string (strT s.ty), .int .i64 s.turn, .int .i64 (s.hand : Int), .bool true]] W (GtP w W lb ab ub sb v p g u st k s) := by
  have n3 : (p.cd.length : Int) ≤ 1000000000000000 := by have := h.pg.lcd; omega
  have hk' : (k : Int) < (p.cd.length : Int) := by omega
  have hk0 : (0 : Int) ≤ (k : Int) := by omega
  have hbA : Below W.heap.size W (W.alloc (.cells #[.string (strT s.ty), .int .i64 s.turn, .int .i64 (s.hand : Int), .bool true] 76)) := (Below.refl _ W).alloc (Nat.le_refl _) _
  have HX : Hid ((W.alloc (.cells #[.string (strT s.ty), .int .i64 s.turn, .int .i64 (s.hand : Int), .bool true] 76)).heap[W.heap.size]? = some (.cells #[.string (strT s.ty), .int .i64 s.turn, .int .i64 (s.hand : Int), .bool true] 76 (0, 0)) ∧ La w (W.alloc (.cells #[.string (strT s.ty), .int .i64 s.turn, .int .i64 (s.hand : Int), .bool true] 76)) lb ab ub sb v p g u st ∧ F2 ab ub W (W.alloc (.cells #[.string (strT s.ty), .int .i64 s.turn, .int .i64 (s.hand : Int), .bool true] 76)) ∧ ab ≠ W.heap.size ∧ k < p.cd.length) := ⟨heap_alloc_new _ _, h.below hbA, F2.of hbA, by have := blk_lt h.lk.at_; omega, hk⟩
  obtain ⟨qo, qc, vo, vc, tto, tc, oo, oc, co, cc⟩ := v
  clear hbA h hk
  cases hg : g k with
  | none =>
    refine Calls.mono (R := fun e w' => e = .returned (.bool true) ∧ La w w' lb ab ub sb ⟨qo, qc, vo, vc, tto, tc, oo, oc, co, cc⟩ p (upd g k s) u st ∧ F2 ab ub W w') ?_ (fun e w' h => by unfold GtP; rw [hg]; exact h)
    have HG : Hid (g k = none) := hg
    clear hg
    go_enter Tryd.func56, Tryd.ntmps56
    go_upto_region 1 with fail
    generalize W.alloc (.cells #[.string (strT s.ty), .int .i64 s.turn, .int .i64 (s.hand : Int), .bool true] 76) = W1 at *
    obtain ⟨-, -, -, -, -, -, c6, -, -⟩ := cells9 HX.out.2.1.lk.hw
    obtain ⟨a0, a1, a2, a3⟩ := HX.out.2.1.lk.isN HX.out.2.2.2.2 HG.out
    clear HG
    generalize hbx : W.heap.size = bx at *
    go_wp2_with fail
    clear c6 a0 a1 a2 a3
    obtain ⟨sty, hd, tn⟩ := s
    dsimp only at *
    have HSS : Hid (∀ X, X.heap[bx]? = W1.heap[bx]? → X.heap[lb]? = W1.heap[lb]? → (fun w' : World => w'.cell? ⟨bx, 0, none⟩ = some (.string (strT sty)) ∧ w'.cell? ⟨bx, 1, none⟩ = some (.int .i64 tn) ∧ w'.cell? ⟨bx, 2, none⟩ = some (.int .i64 (hd : Int)) ∧ w'.cell? ⟨bx, 3, none⟩ = some (.bool true) ∧ w'.cell? ⟨lb, 6, none⟩ = some (.slice (some ⟨ab, 0, none⟩) p.cd.length p.cd.length)) X) := fun X h1 h2 => by
      obtain ⟨q0, q1, q2, q3⟩ := cells4s (h1.trans HX.out.1)
      obtain ⟨-, -, -, -, -, -, c6, -, -⟩ := cells9 (h2.trans HX.out.2.1.lk.hw)
      exact ⟨q0, q1, q2, q3, c6⟩
    refine wp_region_held (S := fun w' : World => w'.cell? ⟨bx, 0, none⟩ = some (.string (strT sty)) ∧ w'.cell? ⟨bx, 1, none⟩ = some (.int .i64 tn) ∧ w'.cell? ⟨bx, 2, none⟩ = some (.int .i64 (hd : Int)) ∧ w'.cell? ⟨bx, 3, none⟩ = some (.bool true) ∧ w'.cell? ⟨lb, 6, none⟩ = some (.slice (some ⟨ab, 0, none⟩) p.cd.length p.cd.length)) (by kernel_rfl) ?_
    change wpAnyH _ _ _ _ _ _ _ _ W1.drew
    have hbd : Below W1.heap.size W1 W1.drew := (Below.refl _ W1).drew
    have hL := HX.out.2.1.below hbd
    have HL : Hid (La w W1.drew lb ab ub sb ⟨qo, qc, vo, vc, tto, tc, oo, oc, co, cc⟩ p g u st ∧ F2 ab ub W W1.drew) := ⟨hL, HX.out.2.2.1.trans (F2.of hbd)⟩
    have hS := HSS.out W1.drew rfl rfl
    have HSp : Hid ((fun w' : World => w'.cell? ⟨bx, 0, none⟩ = some (.string (strT sty)) ∧ w'.cell? ⟨bx, 1, none⟩ = some (.int .i64 tn) ∧ w'.cell? ⟨bx, 2, none⟩ = some (.int .i64 (hd : Int)) ∧ w'.cell? ⟨bx, 3, none⟩ = some (.bool true) ∧ w'.cell? ⟨lb, 6, none⟩ = some (.slice (some ⟨ab, 0, none⟩) p.cd.length p.cd.length)) (put4 W1.drew ab k ⟨sty, hd, tn⟩)) := HSS.out _ (put4_old (Ne.symm HX.out.2.2.2.1)) (put4_old HL.out.1.n1)
    have HN4 : Hid (La w (put4 W1.drew ab k ⟨sty, hd, tn⟩) lb ab ub sb ⟨qo, qc, vo, vc, tto, tc, oo, oc, co, cc⟩ p (upd g k ⟨sty, hd, tn⟩) u st ∧ F2 ab ub W (put4 W1.drew ab k ⟨sty, hd, tn⟩)) := ⟨HL.out.1.put HX.out.2.2.2.2 _, HL.out.2.trans (F2.put _)⟩
    have hcs : ∃ v0 v1 v2 v3, W1.drew.cell? ⟨ab, k * 4, none⟩ = some v0 ∧ W1.drew.cell? ⟨ab, k * 4 + 1, none⟩ = some v1 ∧ W1.drew.cell? ⟨ab, k * 4 + 2, none⟩ = some v2 ∧ W1.drew.cell? ⟨ab, k * 4 + 3, none⟩ = some v3 := by
      cases hg : g k with
      | none => obtain ⟨a0, a1, a2, a3⟩ := HL.out.1.lk.isN HX.out.2.2.2.2 hg; exact ⟨_, _, _, _, a0, a1, a2, a3⟩
      | some t => obtain ⟨a0, a1, a2, a3⟩ := HL.out.1.lk.isS HX.out.2.2.2.2 hg; exact ⟨_, _, _, _, a0, a1, a2, a3⟩
    have fz : ∀ j, W1.drew.frozen? ⟨ab, j, none⟩ = false := Lk.fz HL.out.1.lk.at_
    clear HL hL hbd HSS
    generalize W1.drew = W4 at *
    refine tqA 0 rfl hS ?_
    refine tqA 1 rfl hS ?_
    refine tqA 2 rfl hS ?_
    refine tqA 3 rfl hS ?_
    refine tqA 4 rfl hS ?_
    refine tqA 5 rfl hS ?_
    obtain ⟨v0, v1, v2, v3, a0, a1, a2, a3⟩ := hcs
    refine wpAnyH_ready (rs := [6]) (by kernel_rfl) (by simp) ?_
    refine AllReadyH.cons rfl (fun K hK => ?_) AllReadyH.nil
    go_simp
    refine hK.out _ _ hS (fun hS => ?_)
    clear hK K
    refine wpAnyH_ready (rs := [7]) (by kernel_rfl) (by simp) ?_
    refine AllReadyH.cons rfl (fun K hK => ?_) AllReadyH.nil
    go_simp
    refine hK.out _ _ HSp.out (fun hS => ?_)
    refine wpAnyH_done (by kernel_rfl) ?_ _
    have HN5 : Hid ((fun W' => La w W' lb ab ub sb ⟨qo, qc, vo, vc, tto, tc, oo, oc, co, cc⟩ p (upd g k ⟨sty, hd, tn⟩) u st ∧ F2 ab ub W W') ((((W4.setCell ⟨ab, k * 4, none⟩ (.string (strT sty))).setCell ⟨ab, k * 4 + 1, none⟩ (.int .i64 tn)).setCell ⟨ab, k * 4 + 2, none⟩ (.int .i64 (hd : Int))).setCell ⟨ab, k * 4 + 3, none⟩ (.bool true))) := ⟨HN4.out.1, HN4.out.2⟩
    clear hK K hS a0 a1 a2 a3 fz HSp HN4 HX
    generalize (((W4.setCell ⟨ab, k * 4, none⟩ (.string (strT sty))).setCell ⟨ab, k * 4 + 1, none⟩ (.int .i64 tn)).setCell ⟨ab, k * 4 + 2, none⟩ (.int .i64 (hd : Int))).setCell ⟨ab, k * 4 + 3, none⟩ (.bool true) = W5 at *
    go_wp2_with fail
    go_ret
    exact ⟨rfl, HN5.out⟩
  | some t =>
    refine Calls.mono (R := fun e w' => e = .returned (.bool (sameS t s)) ∧ La w w' lb ab ub sb ⟨qo, qc, vo, vc, tto, tc, oo, oc, co, cc⟩ p g u st ∧ F2 ab ub W w') ?_ (fun e w' h => by unfold GtP; rw [hg]; exact h)
    have HG : Hid (g k = some t) := hg
    clear hg
    obtain ⟨bb, hbb⟩ : ∃ bb, bb = sameS t s := ⟨_, rfl⟩
    rw [← hbb]
    have HBB : Hid (bb = sameS t s) := hbb
    clear hbb
    go_enter Tryd.func56, Tryd.ntmps56
    go_upto_region 1 with fail
    generalize W.alloc (.cells #[.string (strT s.ty), .int .i64 s.turn, .int .i64 (s.hand : Int), .bool true] 76) = W1 at *
    obtain ⟨-, -, -, -, -, -, c6, -, -⟩ := cells9 HX.out.2.1.lk.hw
    obtain ⟨a0, a1, a2, a3⟩ := HX.out.2.1.lk.isS HX.out.2.2.2.2 HG.out
    generalize hbx : W.heap.size = bx at *
    go_wp2_with fail
    clear c6 a0 a1 a2 a3
    obtain ⟨sty, hd, tn⟩ := s
    obtain ⟨uty, th, tu⟩ := t
    dsimp only at *
    have hS : (fun w' : World => w'.cell? ⟨bx, 0, none⟩ = some (.string (strT sty)) ∧ w'.cell? ⟨bx, 1, none⟩ = some (.int .i64 tn) ∧ w'.cell? ⟨bx, 2, none⟩ = some (.int .i64 (hd : Int)) ∧ w'.cell? ⟨bx, 3, none⟩ = some (.bool true) ∧ w'.cell? ⟨lb, 6, none⟩ = some (.slice (some ⟨ab, 0, none⟩) p.cd.length p.cd.length) ∧ w'.cell? ⟨ab, k * 4, none⟩ = some (.string (strT uty)) ∧ w'.cell? ⟨ab, k * 4 + 1, none⟩ = some (.int .i64 tu) ∧ w'.cell? ⟨ab, k * 4 + 2, none⟩ = some (.int .i64 (th : Int)) ∧ w'.cell? ⟨ab, k * 4 + 3, none⟩ = some (.bool true)) W1.drew := by
      obtain ⟨q0, q1, q2, q3⟩ := cells4s HX.out.1
      obtain ⟨-, -, -, -, -, -, c6, -, -⟩ := cells9 HX.out.2.1.lk.hw
      obtain ⟨a0, a1, a2, a3⟩ := HX.out.2.1.lk.isS HX.out.2.2.2.2 HG.out
      exact ⟨q0, q1, q2, q3, c6, a0, a1, a2, a3⟩
    have hbd : Below W1.heap.size W1 W1.drew := (Below.refl _ W1).drew
    have HL : Hid ((fun W' => La w W' lb ab ub sb ⟨qo, qc, vo, vc, tto, tc, oo, oc, co, cc⟩ p g u st ∧ F2 ab ub W W') W1.drew) := ⟨HX.out.2.1.below hbd, HX.out.2.2.1.trans (F2.of hbd)⟩
    clear HX HG hbd
    refine wp_region_held (S := fun w' : World => w'.cell? ⟨bx, 0, none⟩ = some (.string (strT sty)) ∧ w'.cell? ⟨bx, 1, none⟩ = some (.int .i64 tn) ∧ w'.cell? ⟨bx, 2, none⟩ = some (.int .i64 (hd : Int)) ∧ w'.cell? ⟨bx, 3, none⟩ = some (.bool true) ∧ w'.cell? ⟨lb, 6, none⟩ = some (.slice (some ⟨ab, 0, none⟩) p.cd.length p.cd.length) ∧ w'.cell? ⟨ab, k * 4, none⟩ = some (.string (strT uty)) ∧ w'.cell? ⟨ab, k * 4 + 1, none⟩ = some (.int .i64 tu) ∧ w'.cell? ⟨ab, k * 4 + 2, none⟩ = some (.int .i64 (th : Int)) ∧ w'.cell? ⟨ab, k * 4 + 3, none⟩ = some (.bool true)) (by kernel_rfl) ?_
    change wpAnyH _ _ _ _ _ _ _ _ W1.drew
    generalize W1.drew = W4 at *
    refine tqA 0 rfl hS ?_
    refine tqA 1 rfl hS ?_
    refine tqA 2 rfl hS ?_
    refine tqA 3 rfl hS ?_
    refine tqA 4 rfl hS ?_
    refine tqA 5 rfl hS ?_
    refine tqA 6 rfl hS ?_
    refine tqA 7 rfl hS ?_
    by_cases e1 : strT uty = strT sty
    rotate_left
    · have e1' := strR_ne e1
      have hr : sameS ⟨uty, th, tu⟩ ⟨sty, hd, tn⟩ = false := by
        unfold sameS; dsimp only
        rw [decide_eq_false (p := uty = sty) (fun e => e1 (by rw [e]))]; simp
      rw [hr] at HBB
      refine wpAnyH_ready (rs := [8]) (by kernel_rfl) (by simp) ?_
      refine AllReadyH.cons rfl (fun K hK => ?_) AllReadyH.nil
      go_simp
      refine hK.out _ _ hS (fun hS => ?_)
      clear hK K
      refine wpAnyH_ready (rs := [9]) (by kernel_rfl) (by simp) ?_
      refine AllReadyH.cons rfl (fun K hK => ?_) AllReadyH.nil
      go_simp
      refine hK.out _ _ hS (fun hS => ?_)
      refine wpAnyH_done (by kernel_rfl) ?_ _
      clear hK K hS
      go_wp2_with fail
      go_ret
      exact ⟨by rw [HBB.out]; rfl, HL.out⟩
    · by_cases e2 : tu = tn
      rotate_left
      · have e2' : (tu == tn) = false := beq_eq_false_iff_ne.2 e2
        have hr : sameS ⟨uty, th, tu⟩ ⟨sty, hd, tn⟩ = false := by
          unfold sameS; dsimp only
          rw [decide_eq_false (p := tu = tn) e2]; simp
        rw [hr] at HBB
        rw [e1] at hS ⊢
        refine wpAnyH_ready (rs := [8]) (by kernel_rfl) (by simp) ?_
        refine AllReadyH.cons rfl (fun K hK => ?_) AllReadyH.nil
        go_simp
        refine hK.out _ _ hS (fun hS => ?_)
        clear hK K
        refine wpAnyH_ready (rs := [9]) (by kernel_rfl) (by simp) ?_
        refine AllReadyH.cons rfl (fun K hK => ?_) AllReadyH.nil
        go_simp
        refine hK.out _ _ hS (fun hS => ?_)
        refine wpAnyH_done (by kernel_rfl) ?_ _
        clear hK K hS
        go_wp2_with fail
        go_ret
        exact ⟨by rw [HBB.out]; rfl, HL.out⟩
      · subst e2
        by_cases e3 : th = hd
        rotate_left
        · have e3' : ((th : Int) == (hd : Int)) = false := beq_eq_false_iff_ne.2 (by omega)
          have hr : sameS ⟨uty, th, tu⟩ ⟨sty, hd, tu⟩ = false := by
            unfold sameS; dsimp only
            rw [decide_eq_false (p := th = hd) e3]; simp
          rw [hr] at HBB
          rw [e1] at hS ⊢
          refine wpAnyH_ready (rs := [8]) (by kernel_rfl) (by simp) ?_
          refine AllReadyH.cons rfl (fun K hK => ?_) AllReadyH.nil
          go_simp
          refine hK.out _ _ hS (fun hS => ?_)
          clear hK K
          refine wpAnyH_ready (rs := [9]) (by kernel_rfl) (by simp) ?_
          refine AllReadyH.cons rfl (fun K hK => ?_) AllReadyH.nil
          go_simp
          refine hK.out _ _ hS (fun hS => ?_)
          refine wpAnyH_done (by kernel_rfl) ?_ _
          clear hK K hS
          go_wp2_with fail
          go_ret
          exact ⟨by rw [HBB.out]; rfl, HL.out⟩
        · subst e3
          have hr : sameS ⟨uty, th, tu⟩ ⟨sty, th, tu⟩ = true := by
            unfold sameS; dsimp only
            rw [strT_inj e1]; simp
          rw [hr] at HBB
          rw [e1] at hS ⊢
          refine wpAnyH_ready (rs := [8]) (by kernel_rfl) (by simp) ?_
          refine AllReadyH.cons rfl (fun K hK => ?_) AllReadyH.nil
          go_simp
          refine hK.out _ _ hS (fun hS => ?_)
          clear hK K
          refine wpAnyH_ready (rs := [9]) (by kernel_rfl) (by simp) ?_
          refine AllReadyH.cons rfl (fun K hK => ?_) AllReadyH.nil
          go_simp
          refine hK.out _ _ hS (fun hS => ?_)
          refine wpAnyH_done (by kernel_rfl) ?_ _
          clear hK K hS
          go_wp2_with fail
          go_ret
          exact ⟨by rw [HBB.out]; rfl, HL.out⟩
end Go.Proofs.YtelbakkgobkdaaaDoor.Vf

namespace Go.Proofs.YtelbakkgobkdaaaDoor.Vf
open Go.RowKit Go.Proofs.YtelbakkgobkdaaaDoor.Nm
/-- the hand behind an instruction, as the reference says it -/
def rhB (p : Pg) (h : Nat) (x : Ins) : Nat :=
  if x.op = 36 then 3 else if x.op = 37 then 0 else if x.op = 35 then 0 else if x.op = 34 then (if ghA p x.a then 1 else 2)
  else if (decide (1 ≤ x.op) && decide (x.op ≤ 21)) || (decide (28 ≤ x.op) && decide (x.op ≤ 30)) then h else 0
set_option maxHeartbeats 6400000 in
set_option maxRecDepth 100000 in
theorem rhand_34 {w : World} {wb ab ub sb : Nat} {v : PV} {p : Pg} {g : Nat → Option Sd} {u : Nat → Int} {st : List Bool} (h : Lk w wb ab ub sb v p g u st) (xa xb xc xd : Int) (hd : Nat) (hh : hd < 4) (ha : 0 ≤ xa ∧ xa < (p.gh.length : Int)) :
    Calls Tryd.prog 51 #[.pointer (some ⟨wb, 0, none⟩), .agg #[.int .i64 34, .int .i64 xa, .int .i64 xb, .int .i64 xc, .int .i64 xd], .int .i64 (hd : Int)] w fun e w' => e = .returned (.tuple #[.bool (holdB p hd ⟨34, xa, xb, xc, xd⟩), .int .i64 (rhB p hd ⟨34, xa, xb, xc, xd⟩ : Int)]) ∧ Below w.heap.size w w' := by
  have hbA : Below w.heap.size w (w.alloc (.cells #[.int .i64 34, .int .i64 xa, .int .i64 xb, .int .i64 xc, .int .i64 xd] 54)) := (Below.refl _ w).alloc (Nat.le_refl _) _
  have HB : Hid (∀ n, Below w.heap.size w ((w.alloc (.cells #[.int .i64 34, .int .i64 xa, .int .i64 xb, .int .i64 xc, .int .i64 xd] 54)).drewN n)) := fun n => hbA.trans ((drN _ n).mono hbA.size)
  have HX : Hid ((w.alloc (.cells #[.int .i64 34, .int .i64 xa, .int .i64 xb, .int .i64 xc, .int .i64 xd] 54)).heap[w.heap.size]? = some (.cells #[.int .i64 34, .int .i64 xa, .int .i64 xb, .int .i64 xc, .int .i64 xd] 54 (0, 0))) := heap_alloc_new _ _
  obtain ⟨qo, qc, vo, vc, tto, tc, oo, oc, co, cc⟩ := v
  obtain ⟨c0, -⟩ := cells9 h.hw
  dsimp only at c0
  have n3 : (p.gh.length : Int) ≤ 1000000000000000 := by have := h.pg.lgh; omega
  obtain ⟨ka, rfl, hka, ga⟩ := gh_at ha.1 ha.2
  have HC : Hid ((w.alloc (.cells #[.int .i64 34, .int .i64 (ka : Int), .int .i64 xb, .int .i64 xc, .int .i64 xd] 54)).cell? ⟨wb, 0, none⟩ = some (.slice qo p.gh.length qc)) := (hbA.cell (p := ⟨wb, 0, none⟩) (blk_lt h.hw)).trans c0
  obtain ⟨g1, f1, hqo, hg, d0⟩ := rd_bool (h.pg.below hbA).gh hka
  obtain rfl : qo = some ⟨g1, f1, none⟩ := hqo
  have hk1 : (ka : Int) < (p.gh.length : Int) := by omega
  have HR : Hid (∀ hd, holdB p hd ⟨34, (ka : Int), xb, xc, xd⟩ = decide (hd = 0) ∧ rhB p hd ⟨34, (ka : Int), xb, xc, xd⟩ = (if p.gh[ka] then 1 else 2)) := fun hd => by
    unfold holdB rhB
    simp only [ga]
    cases p.gh[ka] <;> simp
  rw [(HR.out hd).1, (HR.out hd).2]
  generalize p.gh[ka] = ba at *
  clear HR hka ga ha hg h hbA c0
  cases ba
  · match hd, hh with
    | 0, _ =>
      go_enter Tryd.func51, Tryd.ntmps51
      go_upto_region 1 with fail
      have c0 := HC.out
      obtain ⟨i0, i1, i2, i3, i4⟩ := cells5 HX.out
      generalize (w.alloc (.cells #[.int .i64 34, .int .i64 (ka : Int), .int .i64 xb, .int .i64 xc, .int .i64 xd] 54)) = W1 at *
      clear HX HC
      go_wp2_with fail
      go_quiet (fail)
      go_wp2_with fail
      go_quiet (fail)
      go_wp2_with fail
      refine bodyPost_ret ?_ rfl ⟨rfl, HB.out _⟩
      simp [results, Tryd.results51, go_sem]
    | 1, _ =>
      go_enter Tryd.func51, Tryd.ntmps51
      go_upto_region 1 with fail
      have c0 := HC.out
      obtain ⟨i0, i1, i2, i3, i4⟩ := cells5 HX.out
      generalize (w.alloc (.cells #[.int .i64 34, .int .i64 (ka : Int), .int .i64 xb, .int .i64 xc, .int .i64 xd] 54)) = W1 at *
      clear HX HC
      go_wp2_with fail
      go_quiet (fail)
      go_wp2_with fail
      go_quiet (fail)
      go_wp2_with fail
      refine bodyPost_ret ?_ rfl ⟨rfl, HB.out _⟩
      simp [results, Tryd.results51, go_sem]
    | 2, _ =>
      go_enter Tryd.func51, Tryd.ntmps51
      go_upto_region 1 with fail
      have c0 := HC.out
      obtain ⟨i0, i1, i2, i3, i4⟩ := cells5 HX.out
      generalize (w.alloc (.cells #[.int .i64 34, .int .i64 (ka : Int), .int .i64 xb, .int .i64 xc, .int .i64 xd] 54)) = W1 at *
      clear HX HC
      go_wp2_with fail
      go_quiet (fail)
      go_wp2_with fail
      go_quiet (fail)
      go_wp2_with fail
      refine bodyPost_ret ?_ rfl ⟨rfl, HB.out _⟩
      simp [results, Tryd.results51, go_sem]
    | 3, _ =>
      go_enter Tryd.func51, Tryd.ntmps51
      go_upto_region 1 with fail
      have c0 := HC.out
      obtain ⟨i0, i1, i2, i3, i4⟩ := cells5 HX.out
      generalize (w.alloc (.cells #[.int .i64 34, .int .i64 (ka : Int), .int .i64 xb, .int .i64 xc, .int .i64 xd] 54)) = W1 at *
      clear HX HC
      go_wp2_with fail
      go_quiet (fail)
      go_wp2_with fail
      go_quiet (fail)
      go_wp2_with fail
      refine bodyPost_ret ?_ rfl ⟨rfl, HB.out _⟩
      simp [results, Tryd.results51, go_sem]
    | _ + 4, hh => exact absurd hh (by omega)
  · match hd, hh with
    | 0, _ =>
      go_enter Tryd.func51, Tryd.ntmps51
      go_upto_region 1 with fail
      have c0 := HC.out
      obtain ⟨i0, i1, i2, i3, i4⟩ := cells5 HX.out
      generalize (w.alloc (.cells #[.int .i64 34, .int .i64 (ka : Int), .int .i64 xb, .int .i64 xc, .int .i64 xd] 54)) = W1 at *
      clear HX HC
      go_wp2_with fail
      go_quiet (fail)
      go_wp2_with fail
      go_quiet (fail)
      go_wp2_with fail
      refine bodyPost_ret ?_ rfl ⟨rfl, HB.out _⟩
      simp [results, Tryd.results51, go_sem]
    | 1, _ =>
      go_enter Tryd.func51, Tryd.ntmps51
      go_upto_region 1 with fail
      have c0 := HC.out
      obtain ⟨i0, i1, i2, i3, i4⟩ := cells5 HX.out
      generalize (w.alloc (.cells #[.int .i64 34, .int .i64 (ka : Int), .int .i64 xb, .int .i64 xc, .int .i64 xd] 54)) = W1 at *
      clear HX HC
      go_wp2_with fail
      go_quiet (fail)
      go_wp2_with fail
      go_quiet (fail)
      go_wp2_with fail
      refine bodyPost_ret ?_ rfl ⟨rfl, HB.out _⟩
      simp [results, Tryd.results51, go_sem]
    | 2, _ =>
      go_enter Tryd.func51, Tryd.ntmps51
      go_upto_region 1 with fail
      have c0 := HC.out
      obtain ⟨i0, i1, i2, i3, i4⟩ := cells5 HX.out
      generalize (w.alloc (.cells #[.int .i64 34, .int .i64 (ka : Int), .int .i64 xb, .int .i64 xc, .int .i64 xd] 54)) = W1 at *
      clear HX HC
      go_wp2_with fail
      go_quiet (fail)
      go_wp2_with fail
      go_quiet (fail)
      go_wp2_with fail
      refine bodyPost_ret ?_ rfl ⟨rfl, HB.out _⟩
      simp [results, Tryd.results51, go_sem]
    | 3, _ =>
      go_enter Tryd.func51, Tryd.ntmps51
      go_upto_region 1 with fail
      have c0 := HC.out
      obtain ⟨i0, i1, i2, i3, i4⟩ := cells5 HX.out
      generalize (w.alloc (.cells #[.int .i64 34, .int .i64 (ka : Int), .int .i64 xb, .int .i64 xc, .int .i64 xd] 54)) = W1 at *
      clear HX HC
      go_wp2_with fail
      go_quiet (fail)
      go_wp2_with fail
      go_quiet (fail)
      go_wp2_with fail
      refine bodyPost_ret ?_ rfl ⟨rfl, HB.out _⟩
      simp [results, Tryd.results51, go_sem]
    | _ + 4, hh => exact absurd hh (by omega)
set_option maxHeartbeats 6400000 in
set_option maxRecDepth 100000 in
theorem rhand_35 {w : World} {wb ab ub sb : Nat} {v : PV} {p : Pg} {g : Nat → Option Sd} {u : Nat → Int} {st : List Bool} (h : Lk w wb ab ub sb v p g u st) (xa xb xc xd : Int) (hd : Nat) (hh : hd < 4) (ha : 0 ≤ xa ∧ xa < (p.gh.length : Int)) :
    Calls Tryd.prog 51 #[.pointer (some ⟨wb, 0, none⟩), .agg #[.int .i64 35, .int .i64 xa, .int .i64 xb, .int .i64 xc, .int .i64 xd], .int .i64 (hd : Int)] w fun e w' => e = .returned (.tuple #[.bool (holdB p hd ⟨35, xa, xb, xc, xd⟩), .int .i64 (rhB p hd ⟨35, xa, xb, xc, xd⟩ : Int)]) ∧ Below w.heap.size w w' := by
  have hbA : Below w.heap.size w (w.alloc (.cells #[.int .i64 35, .int .i64 xa, .int .i64 xb, .int .i64 xc, .int .i64 xd] 54)) := (Below.refl _ w).alloc (Nat.le_refl _) _
  have HB : Hid (∀ n, Below w.heap.size w ((w.alloc (.cells #[.int .i64 35, .int .i64 xa, .int .i64 xb, .int .i64 xc, .int .i64 xd] 54)).drewN n)) := fun n => hbA.trans ((drN _ n).mono hbA.size)
  have HX : Hid ((w.alloc (.cells #[.int .i64 35, .int .i64 xa, .int .i64 xb, .int .i64 xc, .int .i64 xd] 54)).heap[w.heap.size]? = some (.cells #[.int .i64 35, .int .i64 xa, .int .i64 xb, .int .i64 xc, .int .i64 xd] 54 (0, 0))) := heap_alloc_new _ _
  obtain ⟨qo, qc, vo, vc, tto, tc, oo, oc, co, cc⟩ := v
  obtain ⟨c0, -⟩ := cells9 h.hw
  dsimp only at c0
  have n3 : (p.gh.length : Int) ≤ 1000000000000000 := by have := h.pg.lgh; omega
  obtain ⟨ka, rfl, hka, ga⟩ := gh_at ha.1 ha.2
  have HC : Hid ((w.alloc (.cells #[.int .i64 35, .int .i64 (ka : Int), .int .i64 xb, .int .i64 xc, .int .i64 xd] 54)).cell? ⟨wb, 0, none⟩ = some (.slice qo p.gh.length qc)) := (hbA.cell (p := ⟨wb, 0, none⟩) (blk_lt h.hw)).trans c0
  obtain ⟨g1, f1, hqo, hg, d0⟩ := rd_bool (h.pg.below hbA).gh hka
  obtain rfl : qo = some ⟨g1, f1, none⟩ := hqo
  have hk1 : (ka : Int) < (p.gh.length : Int) := by omega
  have HR : Hid (∀ hd, holdB p hd ⟨35, (ka : Int), xb, xc, xd⟩ = (if p.gh[ka] then (decide (hd = 1) || decide (hd = 3)) else decide (hd = 2)) ∧ rhB p hd ⟨35, (ka : Int), xb, xc, xd⟩ = 0) := fun hd => by
    unfold holdB rhB
    simp only [ga]
    cases p.gh[ka] <;> simp
  rw [(HR.out hd).1, (HR.out hd).2]
  generalize p.gh[ka] = ba at *
  clear HR hka ga ha hg h hbA c0
  cases ba
  · match hd, hh with
    | 0, _ =>
      go_enter Tryd.func51, Tryd.ntmps51
      go_upto_region 1 with fail
      have c0 := HC.out
      obtain ⟨i0, i1, i2, i3, i4⟩ := cells5 HX.out
      generalize (w.alloc (.cells #[.int .i64 35, .int .i64 (ka : Int), .int .i64 xb, .int .i64 xc, .int .i64 xd] 54)) = W1 at *
      clear HX HC
      go_wp2_with fail
      go_quiet (fail)
      go_wp2_with fail
      refine bodyPost_ret ?_ rfl ⟨rfl, HB.out _⟩
      simp [results, Tryd.results51, go_sem]
    | 1, _ =>
      go_enter Tryd.func51, Tryd.ntmps51
      go_upto_region 1 with fail
      have c0 := HC.out
      obtain ⟨i0, i1, i2, i3, i4⟩ := cells5 HX.out
      generalize (w.alloc (.cells #[.int .i64 35, .int .i64 (ka : Int), .int .i64 xb, .int .i64 xc, .int .i64 xd] 54)) = W1 at *
      clear HX HC
      go_wp2_with fail
      go_quiet (fail)
      go_wp2_with fail
      refine bodyPost_ret ?_ rfl ⟨rfl, HB.out _⟩
      simp [results, Tryd.results51, go_sem]
    | 2, _ =>
      go_enter Tryd.func51, Tryd.ntmps51
      go_upto_region 1 with fail
      have c0 := HC.out
      obtain ⟨i0, i1, i2, i3, i4⟩ := cells5 HX.out
      generalize (w.alloc (.cells #[.int .i64 35, .int .i64 (ka : Int), .int .i64 xb, .int .i64 xc, .int .i64 xd] 54)) = W1 at *
      clear HX HC
      go_wp2_with fail
      go_quiet (fail)
      go_wp2_with fail
      refine bodyPost_ret ?_ rfl ⟨rfl, HB.out _⟩
      simp [results, Tryd.results51, go_sem]
    | 3, _ =>
      go_enter Tryd.func51, Tryd.ntmps51
      go_upto_region 1 with fail
      have c0 := HC.out
      obtain ⟨i0, i1, i2, i3, i4⟩ := cells5 HX.out
      generalize (w.alloc (.cells #[.int .i64 35, .int .i64 (ka : Int), .int .i64 xb, .int .i64 xc, .int .i64 xd] 54)) = W1 at *
      clear HX HC
      go_wp2_with fail
      go_quiet (fail)
      go_wp2_with fail
      refine bodyPost_ret ?_ rfl ⟨rfl, HB.out _⟩
      simp [results, Tryd.results51, go_sem]
    | _ + 4, hh => exact absurd hh (by omega)
  · match hd, hh with
    | 0, _ =>
      go_enter Tryd.func51, Tryd.ntmps51
      go_upto_region 1 with fail
      have c0 := HC.out
      obtain ⟨i0, i1, i2, i3, i4⟩ := cells5 HX.out
      generalize (w.alloc (.cells #[.int .i64 35, .int .i64 (ka : Int), .int .i64 xb, .int .i64 xc, .int .i64 xd] 54)) = W1 at *
      clear HX HC
      go_wp2_with fail
      go_quiet (fail)
      go_wp2_with fail
      refine bodyPost_ret ?_ rfl ⟨rfl, HB.out _⟩
      simp [results, Tryd.results51, go_sem]
    | 1, _ =>
      go_enter Tryd.func51, Tryd.ntmps51
      go_upto_region 1 with fail
      have c0 := HC.out
      obtain ⟨i0, i1, i2, i3, i4⟩ := cells5 HX.out
      generalize (w.alloc (.cells #[.int .i64 35, .int .i64 (ka : Int), .int .i64 xb, .int .i64 xc, .int .i64 xd] 54)) = W1 at *
      clear HX HC
      go_wp2_with fail
      go_quiet (fail)
      go_wp2_with fail
      refine bodyPost_ret ?_ rfl ⟨rfl, HB.out _⟩
      simp [results, Tryd.results51, go_sem]
    | 2, _ =>
      go_enter Tryd.func51, Tryd.ntmps51
      go_upto_region 1 with fail
      have c0 := HC.out
      obtain ⟨i0, i1, i2, i3, i4⟩ := cells5 HX.out
      generalize (w.alloc (.cells #[.int .i64 35, .int .i64 (ka : Int), .int .i64 xb, .int .i64 xc, .int .i64 xd] 54)) = W1 at *
      clear HX HC
      go_wp2_with fail
      go_quiet (fail)
      go_wp2_with fail
      refine bodyPost_ret ?_ rfl ⟨rfl, HB.out _⟩
      simp [results, Tryd.results51, go_sem]
    | 3, _ =>
      go_enter Tryd.func51, Tryd.ntmps51
      go_upto_region 1 with fail
      have c0 := HC.out
      obtain ⟨i0, i1, i2, i3, i4⟩ := cells5 HX.out
      generalize (w.alloc (.cells #[.int .i64 35, .int .i64 (ka : Int), .int .i64 xb, .int .i64 xc, .int .i64 xd] 54)) = W1 at *
      clear HX HC
      go_wp2_with fail
      go_quiet (fail)
      go_wp2_with fail
      refine bodyPost_ret ?_ rfl ⟨rfl, HB.out _⟩
      simp [results, Tryd.results51, go_sem]
    | _ + 4, hh => exact absurd hh (by omega)
set_option maxHeartbeats 6400000 in
set_option maxRecDepth 100000 in
theorem rhand_36 {w : World} {wb ab ub sb : Nat} {v : PV} {p : Pg} {g : Nat → Option Sd} {u : Nat → Int} {st : List Bool} (_h : Lk w wb ab ub sb v p g u st) (xa xb xc xd : Int) (hd : Nat) (hh : hd < 4) :
    Calls Tryd.prog 51 #[.pointer (some ⟨wb, 0, none⟩), .agg #[.int .i64 36, .int .i64 xa, .int .i64 xb, .int .i64 xc, .int .i64 xd], .int .i64 (hd : Int)] w fun e w' => e = .returned (.tuple #[.bool (holdB p hd ⟨36, xa, xb, xc, xd⟩), .int .i64 (rhB p hd ⟨36, xa, xb, xc, xd⟩ : Int)]) ∧ Below w.heap.size w w' := by
  have hbA : Below w.heap.size w (w.alloc (.cells #[.int .i64 36, .int .i64 xa, .int .i64 xb, .int .i64 xc, .int .i64 xd] 54)) := (Below.refl _ w).alloc (Nat.le_refl _) _
  have HB : Hid (∀ n, Below w.heap.size w ((w.alloc (.cells #[.int .i64 36, .int .i64 xa, .int .i64 xb, .int .i64 xc, .int .i64 xd] 54)).drewN n)) := fun n => hbA.trans ((drN _ n).mono hbA.size)
  have HX : Hid ((w.alloc (.cells #[.int .i64 36, .int .i64 xa, .int .i64 xb, .int .i64 xc, .int .i64 xd] 54)).heap[w.heap.size]? = some (.cells #[.int .i64 36, .int .i64 xa, .int .i64 xb, .int .i64 xc, .int .i64 xd] 54 (0, 0))) := heap_alloc_new _ _
  clear hbA _h
  match hd, hh with
  | 0, _ =>
    go_enter Tryd.func51, Tryd.ntmps51
    go_upto_region 1 with fail
    obtain ⟨i0, i1, i2, i3, i4⟩ := cells5 HX.out
    generalize (w.alloc (.cells #[.int .i64 36, .int .i64 xa, .int .i64 xb, .int .i64 xc, .int .i64 xd] 54)) = W1 at *
    clear HX
    go_wp2_with fail
    refine bodyPost_ret ?_ rfl ⟨rfl, HB.out 0⟩
    simp [results, Tryd.results51, go_sem, holdB, rhB]
  | 1, _ =>
    go_enter Tryd.func51, Tryd.ntmps51
    go_upto_region 1 with fail
    obtain ⟨i0, i1, i2, i3, i4⟩ := cells5 HX.out
    generalize (w.alloc (.cells #[.int .i64 36, .int .i64 xa, .int .i64 xb, .int .i64 xc, .int .i64 xd] 54)) = W1 at *
    clear HX
    go_wp2_with fail
    refine bodyPost_ret ?_ rfl ⟨rfl, HB.out 0⟩
    simp [results, Tryd.results51, go_sem, holdB, rhB]
  | 2, _ =>
    go_enter Tryd.func51, Tryd.ntmps51
    go_upto_region 1 with fail
    obtain ⟨i0, i1, i2, i3, i4⟩ := cells5 HX.out
    generalize (w.alloc (.cells #[.int .i64 36, .int .i64 xa, .int .i64 xb, .int .i64 xc, .int .i64 xd] 54)) = W1 at *
    clear HX
    go_wp2_with fail
    refine bodyPost_ret ?_ rfl ⟨rfl, HB.out 0⟩
    simp [results, Tryd.results51, go_sem, holdB, rhB]
  | 3, _ =>
    go_enter Tryd.func51, Tryd.ntmps51
    go_upto_region 1 with fail
    obtain ⟨i0, i1, i2, i3, i4⟩ := cells5 HX.out
    generalize (w.alloc (.cells #[.int .i64 36, .int .i64 xa, .int .i64 xb, .int .i64 xc, .int .i64 xd] 54)) = W1 at *
    clear HX
    go_wp2_with fail
    refine bodyPost_ret ?_ rfl ⟨rfl, HB.out 0⟩
    simp [results, Tryd.results51, go_sem, holdB, rhB]
  | _ + 4, hh => exact absurd hh (by omega)
set_option maxHeartbeats 6400000 in
set_option maxRecDepth 100000 in
theorem rhand_37 {w : World} {wb ab ub sb : Nat} {v : PV} {p : Pg} {g : Nat → Option Sd} {u : Nat → Int} {st : List Bool} (_h : Lk w wb ab ub sb v p g u st) (xa xb xc xd : Int) (hd : Nat) (hh : hd < 4) :
    Calls Tryd.prog 51 #[.pointer (some ⟨wb, 0, none⟩), .agg #[.int .i64 37, .int .i64 xa, .int .i64 xb, .int .i64 xc, .int .i64 xd], .int .i64 (hd : Int)] w fun e w' => e = .returned (.tuple #[.bool (holdB p hd ⟨37, xa, xb, xc, xd⟩), .int .i64 (rhB p hd ⟨37, xa, xb, xc, xd⟩ : Int)]) ∧ Below w.heap.size w w' := by
  have hbA : Below w.heap.size w (w.alloc (.cells #[.int .i64 37, .int .i64 xa, .int .i64 xb, .int .i64 xc, .int .i64 xd] 54)) := (Below.refl _ w).alloc (Nat.le_refl _) _
  have HB : Hid (∀ n, Below w.heap.size w ((w.alloc (.cells #[.int .i64 37, .int .i64 xa, .int .i64 xb, .int .i64 xc, .int .i64 xd] 54)).drewN n)) := fun n => hbA.trans ((drN _ n).mono hbA.size)
  have HX : Hid ((w.alloc (.cells #[.int .i64 37, .int .i64 xa, .int .i64 xb, .int .i64 xc, .int .i64 xd] 54)).heap[w.heap.size]? = some (.cells #[.int .i64 37, .int .i64 xa, .int .i64 xb, .int .i64 xc, .int .i64 xd] 54 (0, 0))) := heap_alloc_new _ _
  clear hbA _h
  match hd, hh with
  | 0, _ =>
    go_enter Tryd.func51, Tryd.ntmps51
    go_upto_region 1 with fail
    obtain ⟨i0, i1, i2, i3, i4⟩ := cells5 HX.out
    generalize (w.alloc (.cells #[.int .i64 37, .int .i64 xa, .int .i64 xb, .int .i64 xc, .int .i64 xd] 54)) = W1 at *
    clear HX
    go_wp2_with fail
    refine bodyPost_ret ?_ rfl ⟨rfl, HB.out 0⟩
    simp [results, Tryd.results51, go_sem, holdB, rhB]
  | 1, _ =>
    go_enter Tryd.func51, Tryd.ntmps51
    go_upto_region 1 with fail
    obtain ⟨i0, i1, i2, i3, i4⟩ := cells5 HX.out
    generalize (w.alloc (.cells #[.int .i64 37, .int .i64 xa, .int .i64 xb, .int .i64 xc, .int .i64 xd] 54)) = W1 at *
    clear HX
    go_wp2_with fail
    refine bodyPost_ret ?_ rfl ⟨rfl, HB.out 0⟩
    simp [results, Tryd.results51, go_sem, holdB, rhB]
  | 2, _ =>
    go_enter Tryd.func51, Tryd.ntmps51
    go_upto_region 1 with fail
    obtain ⟨i0, i1, i2, i3, i4⟩ := cells5 HX.out
    generalize (w.alloc (.cells #[.int .i64 37, .int .i64 xa, .int .i64 xb, .int .i64 xc, .int .i64 xd] 54)) = W1 at *
    clear HX
    go_wp2_with fail
    refine bodyPost_ret ?_ rfl ⟨rfl, HB.out 0⟩
    simp [results, Tryd.results51, go_sem, holdB, rhB]
  | 3, _ =>
    go_enter Tryd.func51, Tryd.ntmps51
    go_upto_region 1 with fail
    obtain ⟨i0, i1, i2, i3, i4⟩ := cells5 HX.out
    generalize (w.alloc (.cells #[.int .i64 37, .int .i64 xa, .int .i64 xb, .int .i64 xc, .int .i64 xd] 54)) = W1 at *
    clear HX
    go_wp2_with fail
    refine bodyPost_ret ?_ rfl ⟨rfl, HB.out 0⟩
    simp [results, Tryd.results51, go_sem, holdB, rhB]
  | _ + 4, hh => exact absurd hh (by omega)
end Go.Proofs.YtelbakkgobkdaaaDoor.Vf

namespace Go.Proofs.YtelbakkgobkdaaaDoor.Vf
open Go.RowKit Go.Proofs.YtelbakkgobkdaaaDoor.Nm
set_option maxHeartbeats 6400000 in
set_option maxRecDepth 100000 in
/-- the reference's hand where it is left as it is -/
theorem rhand_k {w : World} {wb : Nat} (xo xa xb xc xd : Int) (hd : Int) (h34 : ¬ xo = 34) (h35 : ¬ xo = 35) (h36 : ¬ xo = 36) (h37 : ¬ xo = 37) (hk : (1 ≤ xo ∧ xo ≤ 21) ∨ xo = 28 ∨ xo = 29 ∨ xo = 30) :
    Calls Tryd.prog 51 #[.pointer (some ⟨wb, 0, none⟩), .agg #[.int .i64 xo, .int .i64 xa, .int .i64 xb, .int .i64 xc, .int .i64 xd], .int .i64 hd] w fun e w' => e = .returned (.tuple #[.bool true, .int .i64 hd]) ∧ Below w.heap.size w w' := by
  have hbA : Below w.heap.size w (w.alloc (.cells #[.int .i64 xo, .int .i64 xa, .int .i64 xb, .int .i64 xc, .int .i64 xd] 54)) := (Below.refl _ w).alloc (Nat.le_refl _) _
  have HB : Hid (∀ n, Below w.heap.size w ((w.alloc (.cells #[.int .i64 xo, .int .i64 xa, .int .i64 xb, .int .i64 xc, .int .i64 xd] 54)).drewN n)) := fun n => hbA.trans ((drN _ n).mono hbA.size)
  have HX : Hid ((w.alloc (.cells #[.int .i64 xo, .int .i64 xa, .int .i64 xb, .int .i64 xc, .int .i64 xd] 54)).heap[w.heap.size]? = some (.cells #[.int .i64 xo, .int .i64 xa, .int .i64 xb, .int .i64 xc, .int .i64 xd] 54 (0, 0))) := heap_alloc_new _ _
  have d35 : decide (xo = 35) = false := decide_eq_false h35
  have d34 : decide (xo = 34) = false := decide_eq_false h34
  clear hbA
  rcases hk with ⟨k1, k2⟩ | rfl | rfl | rfl
  · go_enter Tryd.func51, Tryd.ntmps51
    go_upto_region 1 with fail
    obtain ⟨i0, i1, i2, i3, i4⟩ := cells5 HX.out
    generalize (w.alloc (.cells #[.int .i64 xo, .int .i64 xa, .int .i64 xb, .int .i64 xc, .int .i64 xd] 54)) = W1 at *
    clear HX
    go_wp2_with fail
    go_quiet (fail)
    go_wp2_with fail
    go_quiet (fail)
    go_wp2_with fail
    refine bodyPost_ret ?_ rfl ⟨rfl, HB.out _⟩
    simp [results, Tryd.results51, go_sem]
  all_goals
    clear h34 h35 h36 h37 d34 d35
    go_enter Tryd.func51, Tryd.ntmps51
    go_upto_region 1 with fail
    obtain ⟨i0, i1, i2, i3, i4⟩ := cells5 HX.out
    generalize (w.alloc (.cells #[_, .int .i64 xa, .int .i64 xb, .int .i64 xc, .int .i64 xd] 54)) = W1 at *
    clear HX
    go_wp2_with fail
    go_quiet (fail)
    go_wp2_with fail
    go_quiet (fail)
    go_wp2_with fail
    refine bodyPost_ret ?_ rfl ⟨rfl, HB.out _⟩
    simp [results, Tryd.results51, go_sem]
set_option maxHeartbeats 6400000 in
set_option maxRecDepth 100000 in
/-- the reference's hand where it must be empty -/
theorem rhand_e {w : World} {wb : Nat} (xo xa xb xc xd : Int) (hd : Int) (h34 : ¬ xo = 34) (h35 : ¬ xo = 35) (h36 : ¬ xo = 36) (h37 : ¬ xo = 37) (h28 : ¬ xo = 28) (h29 : ¬ xo = 29) (h30 : ¬ xo = 30) (hk : xo < 1 ∨ (1 ≤ xo ∧ 21 < xo)) :
    Calls Tryd.prog 51 #[.pointer (some ⟨wb, 0, none⟩), .agg #[.int .i64 xo, .int .i64 xa, .int .i64 xb, .int .i64 xc, .int .i64 xd], .int .i64 hd] w fun e w' => e = .returned (.tuple #[.bool (hd == 0), .int .i64 0]) ∧ Below w.heap.size w w' := by
  have hbA : Below w.heap.size w (w.alloc (.cells #[.int .i64 xo, .int .i64 xa, .int .i64 xb, .int .i64 xc, .int .i64 xd] 54)) := (Below.refl _ w).alloc (Nat.le_refl _) _
  have HB : Hid (∀ n, Below w.heap.size w ((w.alloc (.cells #[.int .i64 xo, .int .i64 xa, .int .i64 xb, .int .i64 xc, .int .i64 xd] 54)).drewN n)) := fun n => hbA.trans ((drN _ n).mono hbA.size)
  have HX : Hid ((w.alloc (.cells #[.int .i64 xo, .int .i64 xa, .int .i64 xb, .int .i64 xc, .int .i64 xd] 54)).heap[w.heap.size]? = some (.cells #[.int .i64 xo, .int .i64 xa, .int .i64 xb, .int .i64 xc, .int .i64 xd] 54 (0, 0))) := heap_alloc_new _ _
  have d35 : decide (xo = 35) = false := decide_eq_false h35
  have d34 : decide (xo = 34) = false := decide_eq_false h34
  clear hbA
  have b28 : (xo == 28) = false := beq_eq_false_iff_ne.2 h28
  have b29 : (xo == 29) = false := beq_eq_false_iff_ne.2 h29
  have b30 : (xo == 30) = false := beq_eq_false_iff_ne.2 h30
  by_cases h0 : hd = 0
  · subst h0
    show Calls _ _ _ _ (fun e w' => e = .returned (.tuple #[.bool true, _]) ∧ _)
    rcases hk with k1 | ⟨k1, k2⟩
    all_goals
      go_enter Tryd.func51, Tryd.ntmps51
      go_upto_region 1 with fail
      obtain ⟨i0, i1, i2, i3, i4⟩ := cells5 HX.out
      generalize (w.alloc (.cells #[.int .i64 xo, .int .i64 xa, .int .i64 xb, .int .i64 xc, .int .i64 xd] 54)) = W1 at *
      clear HX
      go_wp2_with fail
      go_quiet (fail)
      go_wp2_with fail
      go_quiet (fail)
      go_wp2_with fail
      all_goals first | (exfalso; simp_all; done) | skip
      refine bodyPost_ret ?_ rfl ⟨rfl, HB.out _⟩
      simp [results, Tryd.results51, go_sem]
  · have hz : (hd == 0) = false := beq_eq_false_iff_ne.2 h0
    rw [hz]
    rcases hk with k1 | ⟨k1, k2⟩
    all_goals
      go_enter Tryd.func51, Tryd.ntmps51
      go_upto_region 1 with fail
      obtain ⟨i0, i1, i2, i3, i4⟩ := cells5 HX.out
      generalize (w.alloc (.cells #[.int .i64 xo, .int .i64 xa, .int .i64 xb, .int .i64 xc, .int .i64 xd] 54)) = W1 at *
      clear HX
      go_wp2_with fail
      go_quiet (fail)
      go_wp2_with fail
      go_quiet (fail)
      go_wp2_with fail
      all_goals first | (exfalso; simp_all; done) | skip
      refine bodyPost_ret ?_ rfl ⟨rfl, HB.out _⟩
      simp [results, Tryd.results51, go_sem]
/-- the reference's hand -/
theorem rhand_any {w : World} {wb ab ub sb : Nat} {v : PV} {p : Pg} {g : Nat → Option Sd} {u : Nat → Int} {st : List Bool} (h : Lk w wb ab ub sb v p g u st) (x : Ins) (hd : Nat) (hh : hd < 4) (ha : x.op = 34 ∨ x.op = 35 → 0 ≤ x.a ∧ x.a < (p.gh.length : Int)) :
    Calls Tryd.prog 51 #[.pointer (some ⟨wb, 0, none⟩), .agg #[.int .i64 x.op, .int .i64 x.a, .int .i64 x.b, .int .i64 x.c, .int .i64 x.d], .int .i64 (hd : Int)] w fun e w' => e = .returned (.tuple #[.bool (holdB p hd x), .int .i64 (rhB p hd x : Int)]) ∧ Below w.heap.size w w' := by
  obtain ⟨xo, xa, xb, xc, xd⟩ := x
  dsimp only at ha ⊢
  by_cases h34 : xo = 34
  · subst h34
    exact rhand_34 h xa xb xc xd hd hh (ha (Or.inl rfl))
  by_cases h35 : xo = 35
  · subst h35
    exact rhand_35 h xa xb xc xd hd hh (ha (Or.inr rfl))
  by_cases h36 : xo = 36
  · subst h36
    exact rhand_36 h xa xb xc xd hd hh
  by_cases h37 : xo = 37
  · subst h37
    exact rhand_37 h xa xb xc xd hd hh
  by_cases hk : (1 ≤ xo ∧ xo ≤ 21) ∨ xo = 28 ∨ xo = 29 ∨ xo = 30
  · have e : ((decide (1 ≤ xo) && decide (xo ≤ 21)) || (decide (28 ≤ xo) && decide (xo ≤ 30))) = true := by
      simp only [Bool.or_eq_true, Bool.and_eq_true, decide_eq_true_eq]
      omega
    have e1 : holdB p hd ⟨xo, xa, xb, xc, xd⟩ = true := by unfold holdB; dsimp only; rw [if_pos e]
    have e2 : rhB p hd ⟨xo, xa, xb, xc, xd⟩ = hd := by unfold rhB; dsimp only; rw [if_neg h36, if_neg h37, if_neg h35, if_neg h34, if_pos e]
    rw [e1, e2]
    exact rhand_k xo xa xb xc xd hd h34 h35 h36 h37 hk
  · have e : ((decide (1 ≤ xo) && decide (xo ≤ 21)) || (decide (28 ≤ xo) && decide (xo ≤ 30))) = false := by
      rw [Bool.eq_false_iff]
      simp only [ne_eq, Bool.or_eq_true, Bool.and_eq_true, decide_eq_true_eq]
      omega
    have e1 : holdB p hd ⟨xo, xa, xb, xc, xd⟩ = ((hd : Int) == 0) := by
      unfold holdB
      dsimp only
      rw [if_neg (by rw [e]; exact Bool.false_ne_true), if_neg (by simp [h36, h35]), if_neg (by simp [h37, h35])]
      cases hd with
      | zero => rfl
      | succ n => rw [decide_eq_false (by omega)]; exact (beq_eq_false_iff_ne.2 (by omega)).symm
    have e2 : rhB p hd ⟨xo, xa, xb, xc, xd⟩ = 0 := by unfold rhB; dsimp only; rw [if_neg h36, if_neg h37, if_neg h35, if_neg h34, if_neg (by rw [e]; exact Bool.false_ne_true)]
    rw [e1, e2]
    exact rhand_e xo xa xb xc xd hd h34 h35 h36 h37 (by omega) (by omega) (by omega) (by omega)
theorem rhB_eq {p : Pg} {h : Nat} {x : Ins} (hh : holdB p h x = true) : rhB p h x = handBeh p h x := by
  unfold rhB handBeh
  by_cases h36 : x.op = 36
  · rw [if_pos h36, if_neg (by omega), if_pos h36]
  by_cases h37 : x.op = 37
  · rw [if_neg h36, if_pos h37, if_neg (by omega), if_neg h36, if_pos (by simp [h37])]
  by_cases h35 : x.op = 35
  · rw [if_neg h36, if_neg h37, if_pos h35, if_neg (by omega), if_neg h36, if_pos (by simp [h35])]
  by_cases h34 : x.op = 34
  · rw [if_neg h36, if_neg h37, if_neg h35, if_pos h34, if_pos h34]
  have e1 : (decide (x.op = 35) || decide (x.op = 37)) = false := by simp [h35, h37]
  by_cases hk : ((decide (1 ≤ x.op) && decide (x.op ≤ 21)) || (decide (28 ≤ x.op) && decide (x.op ≤ 30))) = true
  · rw [if_neg h36, if_neg h37, if_neg h35, if_neg h34, if_pos hk, if_neg h34, if_neg h36, if_neg (by rw [e1]; exact Bool.false_ne_true)]
  · rw [if_neg h36, if_neg h37, if_neg h35, if_neg h34, if_neg hk, if_neg h34, if_neg h36, if_neg (by rw [e1]; exact Bool.false_ne_true)]
    unfold holdB at hh
    rw [if_neg hk, if_neg (by simp [h36, h35]), if_neg (by simp [h37, h35])] at hh
    exact (of_decide_eq_true hh).symm
end Go.Proofs.YtelbakkgobkdaaaDoor.Vf

namespace Go.Proofs.YtelbakkgobkdaaaDoor.Vf
open Go.RowKit Go.Proofs.YtelbakkgobkdaaaDoor.Nm
theorem two_al (W : World) (a b : Obj) : ((W.alloc a).alloc b).heap[W.heap.size]? = (W.alloc a).heap[W.heap.size]? ∧ ((W.alloc a).alloc b).heap[W.heap.size + 1]? = ((W.alloc a).alloc b).heap[(W.alloc a).heap.size]? ∧ (W.alloc a).heap.size = W.heap.size + 1 := by
  refine ⟨Below.heap_alloc _ _ _ (by simp), by simp, by simp⟩
/-- what is as it must be where jumps is asked -/
structure JmP (p : Pg) (g : Nat → Option Sd) (st : List Bool) (i : Nat) (tn : Int) : Prop where
  hi : i < p.cd.length
  sl : st.length = p.cd.length
  sa : ∀ k (h : k < st.length), st[k] = (evs p).contains (k : Int)
  tn : tn = -1 ∨ (0 ≤ tn ∧ tn.toNat < p.cd.length ∧ ∃ t, g tn.toNat = some t)
  ha : (p.at i).op = 22 ∨ (p.at i).op = 23 ∨ (p.at i).op = 25 ∨ (p.at i).op = 26 → 0 ≤ (p.at i).a
set_option maxHeartbeats 12800000 in
set_option maxRecDepth 100000 in
theorem rjumps_22 {W : World} {lb ab ub sb : Nat} {v : PV} {p : Pg} {g : Nat → Option Sd} {u : Nat → Int} {st : List Bool} (h : Lk W lb ab ub sb v p g u st) (i : Nat) (ty : List Bool) (tn : Int) (hJ : JmP p g st i tn) (hd : Nat) (hop : (p.at i).op = 22) :
    Calls Tryd.prog 54 #[.pointer (some ⟨lb, 0, none⟩), .int .i64 (i : Int), .agg #[.string (strT ty), .int .i64 tn, .int .i64 0, .bool false]] W fun e w' => e = .returned (.bool (goB p g i ⟨ty, hd, tn⟩)) ∧ Below W.heap.size W w' := by
  have n3 : (p.cd.length : Int) ≤ 1000000000000000 := by have := h.pg.lcd; omega
  have hi' : (i : Int) < (p.cd.length : Int) := by have := hJ.hi; omega
  have hi0 : (0 : Int) ≤ (i : Int) := by omega
  have HTn : Hid (∀ n W', Below W.heap.size W W' → Calls Tryd.prog 77 #[.pointer (some ⟨lb, 0, none⟩), .int .i64 ((n : Nat) : Int)] W' fun e w' => e = .returned (.bool (isTurn p (n : Int))) ∧ w' = W') := fun n W' hb => rturn_any (h.below hb) n
  have hx := at_eq hJ.hi
  obtain ⟨qo, qc, vo, vc, tto, tc, oo, oc, co, cc⟩ := v
  obtain ⟨g1, f1, hvo, hg, -⟩ := rd_ins h.pg.cd hJ.hi
  obtain rfl : co = some ⟨g1, f1, none⟩ := hvo
  have HJ : Hid (JmP p g st i tn) := hJ
  have HGo : Hid (goB p g i ⟨ty, hd, tn⟩ = goB p g i ⟨ty, hd, tn⟩) := rfl
  have hop' := hop
  rw [hx] at hop'
  obtain ⟨x, hxe⟩ : ∃ x, x = p.cd[i]'hJ.hi := ⟨_, rfl⟩
  obtain ⟨xo, xa, xb, xc, xd⟩ := x
  rw [← hxe] at hop' hx
  dsimp only at hop'
  subst hop'
  have hb1 : Below W.heap.size W (W.alloc (.cells #[.string (strT ty), .int .i64 tn, .int .i64 0, .bool false] 76)) := (Below.refl _ W).alloc (Nat.le_refl _) _
  have hb2 : Below W.heap.size W ((W.alloc (.cells #[.string (strT ty), .int .i64 tn, .int .i64 0, .bool false] 76)).alloc (.cells #[.int .i64 22, .int .i64 xa, .int .i64 xb, .int .i64 xc, .int .i64 xd] 54)) := hb1.alloc hb1.size _
  obtain ⟨t1, t2, t3⟩ := two_al W (.cells #[.string (strT ty), .int .i64 tn, .int .i64 0, .bool false] 76) (.cells #[.int .i64 22, .int .i64 xa, .int .i64 xb, .int .i64 xc, .int .i64 xd] 54)
  have HX : Hid (Lk (W.alloc (.cells #[.string (strT ty), .int .i64 tn, .int .i64 0, .bool false] 76)) lb ab ub sb ⟨qo, qc, vo, vc, tto, tc, oo, oc, some ⟨g1, f1, none⟩, cc⟩ p g u st) := h.below hb1
  have HY : Hid (Lk ((W.alloc (.cells #[.string (strT ty), .int .i64 tn, .int .i64 0, .bool false] 76)).alloc (.cells #[.int .i64 22, .int .i64 xa, .int .i64 xb, .int .i64 xc, .int .i64 xd] 54)) lb ab ub sb ⟨qo, qc, vo, vc, tto, tc, oo, oc, some ⟨g1, f1, none⟩, cc⟩ p g u st ∧ ((W.alloc (.cells #[.string (strT ty), .int .i64 tn, .int .i64 0, .bool false] 76)).alloc (.cells #[.int .i64 22, .int .i64 xa, .int .i64 xb, .int .i64 xc, .int .i64 xd] 54)).heap[W.heap.size]? = some (.cells #[.string (strT ty), .int .i64 tn, .int .i64 0, .bool false] 76 (0, 0)) ∧ ((W.alloc (.cells #[.string (strT ty), .int .i64 tn, .int .i64 0, .bool false] 76)).alloc (.cells #[.int .i64 22, .int .i64 xa, .int .i64 xb, .int .i64 xc, .int .i64 xd] 54)).heap[W.heap.size + 1]? = some (.cells #[.int .i64 22, .int .i64 xa, .int .i64 xb, .int .i64 xc, .int .i64 xd] 54 (0, 0)) ∧ (∀ n, Below W.heap.size W (((W.alloc (.cells #[.string (strT ty), .int .i64 tn, .int .i64 0, .bool false] 76)).alloc (.cells #[.int .i64 22, .int .i64 xa, .int .i64 xb, .int .i64 xc, .int .i64 xd] 54)).drewN n)) ∧ p.at i = ⟨22, xa, xb, xc, xd⟩ ∧ ∀ h9 : i < p.cd.length, p.cd[i]'h9 = ⟨22, xa, xb, xc, xd⟩) := ⟨h.below hb2, t1.trans (heap_alloc_new _ _), t2.trans (heap_alloc_new _ _), fun n => hb2.trans ((drN _ n).mono hb2.size), hx, fun _ => hxe.symm⟩
  have HW1 : Hid ((W.alloc (.cells #[.string (strT ty), .int .i64 tn, .int .i64 0, .bool false] 76)).heap.size = W.heap.size + 1) := t3
  clear hb1 hb2 t1 t2 t3 h hxe hx hop hg HGo
  unfold goB
  rw [HY.out.2.2.2.2.1]
  dsimp only
  clear hJ
  show Calls _ _ _ _ (fun e w' => e = .returned (.bool (goTo p i xa)) ∧ _)
  have hxa0 : 0 ≤ xa := by have := HJ.out.ha; rw [HY.out.2.2.2.2.1] at this; exact this (by simp)
  obtain ⟨a, rfl⟩ : ∃ a : Nat, xa = (a : Int) := ⟨xa.toNat, by omega⟩
  by_cases hle : (a : Int) ≤ (i : Int)
  · have hr : goTo p i (a : Int) = false := by
      unfold goTo
      rw [decide_eq_false (p := (i : Int) < (a : Int)) (by omega)]
      simp
    rw [hr]
    clear hr
    go_enter Tryd.func54, Tryd.ntmps54
    go_upto_region 1 with fail
    obtain ⟨-, -, -, -, -, c5, -, -, -⟩ := cells9 HX.out.hw
    obtain ⟨g2, f2, hvo2, hg2, d0, d1, d2, d3, d4⟩ := rd_ins HX.out.pg.cd HJ.out.hi
    obtain ⟨rfl, rfl⟩ : g1 = g2 ∧ f1 = f2 := by cases hvo2; exact ⟨rfl, rfl⟩
    rw [HY.out.2.2.2.2.2 HJ.out.hi] at d0 d1 d2 d3 d4
    dsimp only at c5 d0 d1 d2 d3 d4
    generalize W.alloc (.cells #[.string (strT ty), .int .i64 tn, .int .i64 0, .bool false] 76) = W1 at *
    have hs1 := HW1.out
    go_upto_region 2 with fail
    clear c5 d0 d1 d2 d3 d4 hvo2 hg2 HX
    generalize W1.alloc (.cells #[.int .i64 22, .int .i64 (a : Int), .int .i64 xb, .int .i64 xc, .int .i64 xd] 54) = W2 at *
    clear hs1 HW1
    generalize hbx : W.heap.size = bx at *
    obtain ⟨i0, i1, i2, i3, i4⟩ := cells5 HY.out.2.2.1
    obtain ⟨s0, s1, s2, s3⟩ := cells4s HY.out.2.1
    obtain ⟨-, -, -, -, -, c5, c6, c7, c8⟩ := cells9 HY.out.1.hw
    dsimp only at c5
    go_wp2_with fail
    go_ret
    exact ⟨rfl, hbx ▸ HY.out.2.2.2.1 0⟩
  · have hg9 : goTo p i (a : Int) = !isTurn p (a : Int) := by unfold goTo; rw [decide_eq_true (by omega)]; rfl
    rw [hg9]
    clear hg9
    obtain ⟨it, hit⟩ : ∃ it, it = isTurn p (a : Int) := ⟨_, rfl⟩
    have HIt : Hid (∀ W', Below W.heap.size W W' → Calls Tryd.prog 77 #[.pointer (some ⟨lb, 0, none⟩), .int .i64 (a : Int)] W' fun e w' => e = .returned (.bool it) ∧ w' = W') := by rw [hit]; exact HTn.out a
    rw [← hit]
    clear hit HTn
    cases it
    · show Calls _ _ _ _ (fun e w' => e = .returned (.bool true) ∧ _)
      go_enter Tryd.func54, Tryd.ntmps54
      go_upto_region 1 with fail
      obtain ⟨-, -, -, -, -, c5, -, -, -⟩ := cells9 HX.out.hw
      obtain ⟨g2, f2, hvo2, hg2, d0, d1, d2, d3, d4⟩ := rd_ins HX.out.pg.cd HJ.out.hi
      obtain ⟨rfl, rfl⟩ : g1 = g2 ∧ f1 = f2 := by cases hvo2; exact ⟨rfl, rfl⟩
      rw [HY.out.2.2.2.2.2 HJ.out.hi] at d0 d1 d2 d3 d4
      dsimp only at c5 d0 d1 d2 d3 d4
      generalize W.alloc (.cells #[.string (strT ty), .int .i64 tn, .int .i64 0, .bool false] 76) = W1 at *
      have hs1 := HW1.out
      go_upto_region 2 with fail
      clear c5 d0 d1 d2 d3 d4 hvo2 hg2 HX
      generalize W1.alloc (.cells #[.int .i64 22, .int .i64 (a : Int), .int .i64 xb, .int .i64 xc, .int .i64 xd] 54) = W2 at *
      clear hs1 HW1
      generalize hbx : W.heap.size = bx at *
      obtain ⟨i0, i1, i2, i3, i4⟩ := cells5 HY.out.2.2.1
      obtain ⟨s0, s1, s2, s3⟩ := cells4s HY.out.2.1
      obtain ⟨-, -, -, -, -, c5, c6, c7, c8⟩ := cells9 HY.out.1.hw
      dsimp only at c5
      go_wp2_with fail
      refine (HIt.out _ (HY.out.2.2.2.1 0)).mono ?_
      rintro e w1 ⟨rfl, rfl⟩
      go_wp2_with fail
      go_ret
      exact ⟨rfl, hbx ▸ HY.out.2.2.2.1 0⟩
    · have hr : (!true) = false := by simp
      rw [hr]
      clear hr
      go_enter Tryd.func54, Tryd.ntmps54
      go_upto_region 1 with fail
      obtain ⟨-, -, -, -, -, c5, -, -, -⟩ := cells9 HX.out.hw
      obtain ⟨g2, f2, hvo2, hg2, d0, d1, d2, d3, d4⟩ := rd_ins HX.out.pg.cd HJ.out.hi
      obtain ⟨rfl, rfl⟩ : g1 = g2 ∧ f1 = f2 := by cases hvo2; exact ⟨rfl, rfl⟩
      rw [HY.out.2.2.2.2.2 HJ.out.hi] at d0 d1 d2 d3 d4
      dsimp only at c5 d0 d1 d2 d3 d4
      generalize W.alloc (.cells #[.string (strT ty), .int .i64 tn, .int .i64 0, .bool false] 76) = W1 at *
      have hs1 := HW1.out
      go_upto_region 2 with fail
      clear c5 d0 d1 d2 d3 d4 hvo2 hg2 HX
      generalize W1.alloc (.cells #[.int .i64 22, .int .i64 (a : Int), .int .i64 xb, .int .i64 xc, .int .i64 xd] 54) = W2 at *
      clear hs1 HW1
      generalize hbx : W.heap.size = bx at *
      obtain ⟨i0, i1, i2, i3, i4⟩ := cells5 HY.out.2.2.1
      obtain ⟨s0, s1, s2, s3⟩ := cells4s HY.out.2.1
      obtain ⟨-, -, -, -, -, c5, c6, c7, c8⟩ := cells9 HY.out.1.hw
      dsimp only at c5
      go_wp2_with fail
      refine (HIt.out _ (HY.out.2.2.2.1 0)).mono ?_
      rintro e w1 ⟨rfl, rfl⟩
      go_wp2_with fail
      go_ret
      exact ⟨rfl, hbx ▸ HY.out.2.2.2.1 0⟩
set_option maxHeartbeats 12800000 in
set_option maxRecDepth 100000 in
theorem rjumps_23 {W : World} {lb ab ub sb : Nat} {v : PV} {p : Pg} {g : Nat → Option Sd} {u : Nat → Int} {st : List Bool} (h : Lk W lb ab ub sb v p g u st) (i : Nat) (ty : List Bool) (tn : Int) (hJ : JmP p g st i tn) (hd : Nat) (hop : (p.at i).op = 23) :
    Calls Tryd.prog 54 #[.pointer (some ⟨lb, 0, none⟩), .int .i64 (i : Int), .agg #[.string (strT ty), .int .i64 tn, .int .i64 0, .bool false]] W fun e w' => e = .returned (.bool (goB p g i ⟨ty, hd, tn⟩)) ∧ Below W.heap.size W w' := by
  have n3 : (p.cd.length : Int) ≤ 1000000000000000 := by have := h.pg.lcd; omega
  have hi' : (i : Int) < (p.cd.length : Int) := by have := hJ.hi; omega
  have hi0 : (0 : Int) ≤ (i : Int) := by omega
  have HTn : Hid (∀ n W', Below W.heap.size W W' → Calls Tryd.prog 77 #[.pointer (some ⟨lb, 0, none⟩), .int .i64 ((n : Nat) : Int)] W' fun e w' => e = .returned (.bool (isTurn p (n : Int))) ∧ w' = W') := fun n W' hb => rturn_any (h.below hb) n
  have hx := at_eq hJ.hi
  obtain ⟨qo, qc, vo, vc, tto, tc, oo, oc, co, cc⟩ := v
  obtain ⟨g1, f1, hvo, hg, -⟩ := rd_ins h.pg.cd hJ.hi
  obtain rfl : co = some ⟨g1, f1, none⟩ := hvo
  have HJ : Hid (JmP p g st i tn) := hJ
  have HGo : Hid (goB p g i ⟨ty, hd, tn⟩ = goB p g i ⟨ty, hd, tn⟩) := rfl
  have hop' := hop
  rw [hx] at hop'
  obtain ⟨x, hxe⟩ : ∃ x, x = p.cd[i]'hJ.hi := ⟨_, rfl⟩
  obtain ⟨xo, xa, xb, xc, xd⟩ := x
  rw [← hxe] at hop' hx
  dsimp only at hop'
  subst hop'
  have hb1 : Below W.heap.size W (W.alloc (.cells #[.string (strT ty), .int .i64 tn, .int .i64 0, .bool false] 76)) := (Below.refl _ W).alloc (Nat.le_refl _) _
  have hb2 : Below W.heap.size W ((W.alloc (.cells #[.string (strT ty), .int .i64 tn, .int .i64 0, .bool false] 76)).alloc (.cells #[.int .i64 23, .int .i64 xa, .int .i64 xb, .int .i64 xc, .int .i64 xd] 54)) := hb1.alloc hb1.size _
  obtain ⟨t1, t2, t3⟩ := two_al W (.cells #[.string (strT ty), .int .i64 tn, .int .i64 0, .bool false] 76) (.cells #[.int .i64 23, .int .i64 xa, .int .i64 xb, .int .i64 xc, .int .i64 xd] 54)
  have HX : Hid (Lk (W.alloc (.cells #[.string (strT ty), .int .i64 tn, .int .i64 0, .bool false] 76)) lb ab ub sb ⟨qo, qc, vo, vc, tto, tc, oo, oc, some ⟨g1, f1, none⟩, cc⟩ p g u st) := h.below hb1
  have HY : Hid (Lk ((W.alloc (.cells #[.string (strT ty), .int .i64 tn, .int .i64 0, .bool false] 76)).alloc (.cells #[.int .i64 23, .int .i64 xa, .int .i64 xb, .int .i64 xc, .int .i64 xd] 54)) lb ab ub sb ⟨qo, qc, vo, vc, tto, tc, oo, oc, some ⟨g1, f1, none⟩, cc⟩ p g u st ∧ ((W.alloc (.cells #[.string (strT ty), .int .i64 tn, .int .i64 0, .bool false] 76)).alloc (.cells #[.int .i64 23, .int .i64 xa, .int .i64 xb, .int .i64 xc, .int .i64 xd] 54)).heap[W.heap.size]? = some (.cells #[.string (strT ty), .int .i64 tn, .int .i64 0, .bool false] 76 (0, 0)) ∧ ((W.alloc (.cells #[.string (strT ty), .int .i64 tn, .int .i64 0, .bool false] 76)).alloc (.cells #[.int .i64 23, .int .i64 xa, .int .i64 xb, .int .i64 xc, .int .i64 xd] 54)).heap[W.heap.size + 1]? = some (.cells #[.int .i64 23, .int .i64 xa, .int .i64 xb, .int .i64 xc, .int .i64 xd] 54 (0, 0)) ∧ (∀ n, Below W.heap.size W (((W.alloc (.cells #[.string (strT ty), .int .i64 tn, .int .i64 0, .bool false] 76)).alloc (.cells #[.int .i64 23, .int .i64 xa, .int .i64 xb, .int .i64 xc, .int .i64 xd] 54)).drewN n)) ∧ p.at i = ⟨23, xa, xb, xc, xd⟩ ∧ ∀ h9 : i < p.cd.length, p.cd[i]'h9 = ⟨23, xa, xb, xc, xd⟩) := ⟨h.below hb2, t1.trans (heap_alloc_new _ _), t2.trans (heap_alloc_new _ _), fun n => hb2.trans ((drN _ n).mono hb2.size), hx, fun _ => hxe.symm⟩
  have HW1 : Hid ((W.alloc (.cells #[.string (strT ty), .int .i64 tn, .int .i64 0, .bool false] 76)).heap.size = W.heap.size + 1) := t3
  clear hb1 hb2 t1 t2 t3 h hxe hx hop hg HGo
  unfold goB
  rw [HY.out.2.2.2.2.1]
  dsimp only
  clear hJ
  show Calls _ _ _ _ (fun e w' => e = .returned (.bool (goTo p i xa)) ∧ _)
  have hxa0 : 0 ≤ xa := by have := HJ.out.ha; rw [HY.out.2.2.2.2.1] at this; exact this (by simp)
  obtain ⟨a, rfl⟩ : ∃ a : Nat, xa = (a : Int) := ⟨xa.toNat, by omega⟩
  by_cases hle : (a : Int) ≤ (i : Int)
  · have hr : goTo p i (a : Int) = false := by
      unfold goTo
      rw [decide_eq_false (p := (i : Int) < (a : Int)) (by omega)]
      simp
    rw [hr]
    clear hr
    go_enter Tryd.func54, Tryd.ntmps54
    go_upto_region 1 with fail
    obtain ⟨-, -, -, -, -, c5, -, -, -⟩ := cells9 HX.out.hw
    obtain ⟨g2, f2, hvo2, hg2, d0, d1, d2, d3, d4⟩ := rd_ins HX.out.pg.cd HJ.out.hi
    obtain ⟨rfl, rfl⟩ : g1 = g2 ∧ f1 = f2 := by cases hvo2; exact ⟨rfl, rfl⟩
    rw [HY.out.2.2.2.2.2 HJ.out.hi] at d0 d1 d2 d3 d4
    dsimp only at c5 d0 d1 d2 d3 d4
    generalize W.alloc (.cells #[.string (strT ty), .int .i64 tn, .int .i64 0, .bool false] 76) = W1 at *
    have hs1 := HW1.out
    go_upto_region 2 with fail
    clear c5 d0 d1 d2 d3 d4 hvo2 hg2 HX
    generalize W1.alloc (.cells #[.int .i64 23, .int .i64 (a : Int), .int .i64 xb, .int .i64 xc, .int .i64 xd] 54) = W2 at *
    clear hs1 HW1
    generalize hbx : W.heap.size = bx at *
    obtain ⟨i0, i1, i2, i3, i4⟩ := cells5 HY.out.2.2.1
    obtain ⟨s0, s1, s2, s3⟩ := cells4s HY.out.2.1
    obtain ⟨-, -, -, -, -, c5, c6, c7, c8⟩ := cells9 HY.out.1.hw
    dsimp only at c5
    go_wp2_with fail
    go_ret
    exact ⟨rfl, hbx ▸ HY.out.2.2.2.1 0⟩
  · have hg9 : goTo p i (a : Int) = !isTurn p (a : Int) := by unfold goTo; rw [decide_eq_true (by omega)]; rfl
    rw [hg9]
    clear hg9
    obtain ⟨it, hit⟩ : ∃ it, it = isTurn p (a : Int) := ⟨_, rfl⟩
    have HIt : Hid (∀ W', Below W.heap.size W W' → Calls Tryd.prog 77 #[.pointer (some ⟨lb, 0, none⟩), .int .i64 (a : Int)] W' fun e w' => e = .returned (.bool it) ∧ w' = W') := by rw [hit]; exact HTn.out a
    rw [← hit]
    clear hit HTn
    cases it
    · show Calls _ _ _ _ (fun e w' => e = .returned (.bool true) ∧ _)
      go_enter Tryd.func54, Tryd.ntmps54
      go_upto_region 1 with fail
      obtain ⟨-, -, -, -, -, c5, -, -, -⟩ := cells9 HX.out.hw
      obtain ⟨g2, f2, hvo2, hg2, d0, d1, d2, d3, d4⟩ := rd_ins HX.out.pg.cd HJ.out.hi
      obtain ⟨rfl, rfl⟩ : g1 = g2 ∧ f1 = f2 := by cases hvo2; exact ⟨rfl, rfl⟩
      rw [HY.out.2.2.2.2.2 HJ.out.hi] at d0 d1 d2 d3 d4
      dsimp only at c5 d0 d1 d2 d3 d4
      generalize W.alloc (.cells #[.string (strT ty), .int .i64 tn, .int .i64 0, .bool false] 76) = W1 at *
      have hs1 := HW1.out
      go_upto_region 2 with fail
      clear c5 d0 d1 d2 d3 d4 hvo2 hg2 HX
      generalize W1.alloc (.cells #[.int .i64 23, .int .i64 (a : Int), .int .i64 xb, .int .i64 xc, .int .i64 xd] 54) = W2 at *
      clear hs1 HW1
      generalize hbx : W.heap.size = bx at *
      obtain ⟨i0, i1, i2, i3, i4⟩ := cells5 HY.out.2.2.1
      obtain ⟨s0, s1, s2, s3⟩ := cells4s HY.out.2.1
      obtain ⟨-, -, -, -, -, c5, c6, c7, c8⟩ := cells9 HY.out.1.hw
      dsimp only at c5
      go_wp2_with fail
      refine (HIt.out _ (HY.out.2.2.2.1 0)).mono ?_
      rintro e w1 ⟨rfl, rfl⟩
      go_wp2_with fail
      go_ret
      exact ⟨rfl, hbx ▸ HY.out.2.2.2.1 0⟩
    · have hr : (!true) = false := by simp
      rw [hr]
      clear hr
      go_enter Tryd.func54, Tryd.ntmps54
      go_upto_region 1 with fail
      obtain ⟨-, -, -, -, -, c5, -, -, -⟩ := cells9 HX.out.hw
      obtain ⟨g2, f2, hvo2, hg2, d0, d1, d2, d3, d4⟩ := rd_ins HX.out.pg.cd HJ.out.hi
      obtain ⟨rfl, rfl⟩ : g1 = g2 ∧ f1 = f2 := by cases hvo2; exact ⟨rfl, rfl⟩
      rw [HY.out.2.2.2.2.2 HJ.out.hi] at d0 d1 d2 d3 d4
      dsimp only at c5 d0 d1 d2 d3 d4
      generalize W.alloc (.cells #[.string (strT ty), .int .i64 tn, .int .i64 0, .bool false] 76) = W1 at *
      have hs1 := HW1.out
      go_upto_region 2 with fail
      clear c5 d0 d1 d2 d3 d4 hvo2 hg2 HX
      generalize W1.alloc (.cells #[.int .i64 23, .int .i64 (a : Int), .int .i64 xb, .int .i64 xc, .int .i64 xd] 54) = W2 at *
      clear hs1 HW1
      generalize hbx : W.heap.size = bx at *
      obtain ⟨i0, i1, i2, i3, i4⟩ := cells5 HY.out.2.2.1
      obtain ⟨s0, s1, s2, s3⟩ := cells4s HY.out.2.1
      obtain ⟨-, -, -, -, -, c5, c6, c7, c8⟩ := cells9 HY.out.1.hw
      dsimp only at c5
      go_wp2_with fail
      refine (HIt.out _ (HY.out.2.2.2.1 0)).mono ?_
      rintro e w1 ⟨rfl, rfl⟩
      go_wp2_with fail
      go_ret
      exact ⟨rfl, hbx ▸ HY.out.2.2.2.1 0⟩
end Go.Proofs.YtelbakkgobkdaaaDoor.Vf
