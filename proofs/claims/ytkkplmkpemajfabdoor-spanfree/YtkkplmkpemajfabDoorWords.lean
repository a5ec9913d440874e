import Derived.Test.YtkkplmkpemajfabDoorHead
import Derived.Test.YtkkplmkpemajfabDoorShelf
import Derived.Lib.ItoaLen
import Derived.Lib.ItoaMem
namespace Go.Proofs.YtkkplmkpemajfabDoor.Sp
open Go.RowKit

def wT (e : Int) : ByteArray :=
  if e = 1 then ⟨#[97, 114, 103]⟩ else
  if e = 2 then ⟨#[108, 111, 110, 103]⟩ else
  if e = 3 then ⟨#[109, 97, 110, 121]⟩ else
  if e = 4 then ⟨#[119, 111, 114, 100]⟩ else
  if e = 11 then ⟨#[98, 121, 116, 101]⟩ else
  if e = 12 then ⟨#[110, 117, 109, 98, 101, 114]⟩ else
  if e = 13 then ⟨#[110, 97, 109, 101]⟩ else
  if e = 21 then ⟨#[116, 111, 107, 101, 110]⟩ else
  if e = 22 then ⟨#[110, 101, 115, 116]⟩ else
  if e = 23 then ⟨#[115, 104, 97, 112, 101]⟩ else
  if e = 31 then ⟨#[116, 119, 105, 99, 101]⟩ else
  if e = 32 then ⟨#[117, 110, 107, 110, 111, 119, 110]⟩ else
  if e = 33 then ⟨#[111, 116, 104, 101, 114]⟩ else
  if e = 34 then ⟨#[108, 97, 114, 103, 101]⟩ else
  ⟨#[101, 114, 114, 111, 114]⟩

def wR (e : Int) : ByteArray :=
  if e = 41 then ⟨#[116, 121, 112, 101]⟩ else
  if e = 42 then ⟨#[99, 111, 110, 115, 116]⟩ else
  if e = 43 then ⟨#[114, 97, 110, 103, 101]⟩ else
  if e = 44 then ⟨#[114, 101, 113, 117, 105, 114, 101]⟩ else
  if e = 45 then ⟨#[99, 97, 112, 115]⟩ else
  if e = 46 then ⟨#[107, 105, 110, 100]⟩ else
  if e = 51 then ⟨#[102, 117, 108, 108]⟩ else
  if e = 52 then ⟨#[101, 109, 112, 116, 121]⟩ else
  if e = 53 then ⟨#[119, 104, 101, 114, 101]⟩ else
  if e = 54 then ⟨#[108, 111, 111, 112]⟩ else
  if e = 61 then ⟨#[99, 111, 115, 116]⟩ else
  if e = 71 then ⟨#[112, 108, 97, 110]⟩ else
  ⟨#[101, 114, 114, 111, 114]⟩

def wC (e : Int) : ByteArray :=
  if e = 81 then ⟨#[99, 117, 116]⟩ else
  if e = 82 then ⟨#[102, 111, 114, 109]⟩ else
  if e = 83 then ⟨#[116, 97, 103]⟩ else
  if e = 84 then ⟨#[116, 97, 105, 108]⟩ else
  if e = 85 then ⟨#[112, 114, 111, 103]⟩ else
  if e = 91 then ⟨#[111, 112]⟩ else
  if e = 92 then ⟨#[111, 112, 101, 114, 97, 110, 100]⟩ else
  if e = 93 then ⟨#[115, 116, 97, 99, 107]⟩ else
  if e = 94 then ⟨#[109, 105, 120]⟩ else
  if e = 95 then ⟨#[106, 117, 109, 112]⟩ else
  if e = 96 then ⟨#[104, 97, 110, 100]⟩ else
  if e = 97 then ⟨#[102, 117, 101, 108]⟩ else
  if e = 98 then ⟨#[101, 110, 100]⟩ else
  if e = 99 then ⟨#[100, 101, 97, 100]⟩ else
  ⟨#[101, 114, 114, 111, 114]⟩

def word (e : Int) : ByteArray := if e = 0 then ⟨#[111, 107]⟩ else if e < 41 then wT e else if e < 81 then wR e else wC e
theorem ite_le {c : Prop} [Decidable c] {a b : ByteArray} (h1 : a.size ≤ 100) (h2 : b.size ≤ 100) : (if c then a else b).size ≤ 100 := by
  split
  · exact h1
  · exact h2
theorem ret_str {s s' : ByteArray} (h : s = s') : Ending.returned (.string s) = .returned (.string s') := by rw [h]

set_option maxHeartbeats 1600000 in
theorem wT_any (e : Int) (w : World) : Calls Tryd.prog 15 #[.int .i64 e] w fun x w' => x = .returned (.string (wT e)) ∧ w' = w := by
  go_enter Tryd.func15, Tryd.ntmps15
  go_wp2
  all_goals
    go_ret
    exact ⟨ret_str (by unfold wT; simp_all), rfl⟩
theorem wT_len (e : Int) : (wT e).size ≤ 100 := by
  unfold wT
  repeat (refine ite_le (by decide) ?_)
  decide

set_option maxHeartbeats 1600000 in
theorem wR_any (e : Int) (w : World) : Calls Tryd.prog 16 #[.int .i64 e] w fun x w' => x = .returned (.string (wR e)) ∧ w' = w := by
  go_enter Tryd.func16, Tryd.ntmps16
  go_wp2
  all_goals
    go_ret
    exact ⟨ret_str (by unfold wR; simp_all), rfl⟩
theorem wR_len (e : Int) : (wR e).size ≤ 100 := by
  unfold wR
  repeat (refine ite_le (by decide) ?_)
  decide

set_option maxHeartbeats 1600000 in
theorem wC_any (e : Int) (w : World) : Calls Tryd.prog 17 #[.int .i64 e] w fun x w' => x = .returned (.string (wC e)) ∧ w' = w := by
  go_enter Tryd.func17, Tryd.ntmps17
  go_wp2
  all_goals
    go_ret
    exact ⟨ret_str (by unfold wC; simp_all), rfl⟩
theorem wC_len (e : Int) : (wC e).size ≤ 100 := by
  unfold wC
  repeat (refine ite_le (by decide) ?_)
  decide

theorem word_len (e : Int) : (word e).size ≤ 100 := by
  unfold word
  split
  · decide
  · split
    · exact wT_len e
    · split
      · exact wR_len e
      · exact wC_len e
theorem word_any (e : Int) (w : World) : Calls Tryd.prog 7 #[.int .i64 e] w fun x w' => x = .returned (.string (word e)) ∧ w' = w := by
  by_cases h0 : e = 0
  · subst h0
    go_enter Tryd.func7, Tryd.ntmps7
    go_wp2
    go_ret
    exact ⟨rfl, rfl⟩
  · have hq : (e == 0) = false := by simp [h0]
    by_cases h1 : e < 41
    · have HW : Hid (word e = wT e) := by show _ = _; unfold word; rw [if_neg h0, if_pos h1]
      go_enter Tryd.func7, Tryd.ntmps7
      go_wp2_with fail
      refine (wT_any e _).mono ?_
      rintro x w' ⟨rfl, rfl⟩
      go_wp2
      go_ret
      exact ⟨ret_str HW.out.symm, rfl⟩
    · by_cases h2 : e < 81
      · have HW : Hid (word e = wR e) := by show _ = _; unfold word; rw [if_neg h0, if_neg h1, if_pos h2]
        go_enter Tryd.func7, Tryd.ntmps7
        go_wp2_with fail
        refine (wR_any e _).mono ?_
        rintro x w' ⟨rfl, rfl⟩
        go_wp2
        go_ret
        exact ⟨ret_str HW.out.symm, rfl⟩
      · have HW : Hid (word e = wC e) := by show _ = _; unfold word; rw [if_neg h0, if_neg h1, if_neg h2]
        go_enter Tryd.func7, Tryd.ntmps7
        go_wp2_with fail
        refine (wC_any e _).mono ?_
        rintro x w' ⟨rfl, rfl⟩
        go_wp2
        go_ret
        exact ⟨ret_str HW.out.symm, rfl⟩
end Go.Proofs.YtkkplmkpemajfabDoor.Sp
