import Derived.Test.YtcblichnkakhdaaDoorCeLs
import Derived.Test.YtcblichnkakhdaaDoorCeIns
set_option linter.unusedSimpArgs false
namespace Go.Proofs.YtcblichnkakhdaaDoor.Cd
open Go.RowKit Go.Proofs.YtcblichnkakhdaaDoor.Nm Go.Proofs.YtcblichnkakhdaaDoor.Vf

/-- an operand as text -/
def opT (k v : Int) : List Nat :=
  if k = 0 then [] else if k = 1 then [32, 113] ++ decB v else if k = 2 then [32, 118] ++ decB v else if k = 3 then [32, 116] ++ decB v
  else if k = 4 then (if v = 0 then [32, 102, 114, 111, 110, 116] else [32, 98, 97, 99, 107]) else if k = 6 then (if v = 1 then [32, 116, 114, 117, 101] else [32, 102, 97, 108, 115, 101])
  else if k = 8 then [32, 64] ++ decB v else [32] ++ decB v
theorem decD_len : ∀ (k u : Nat), u < 10 ^ (k + 1) → (Lib.decDigits u).length ≤ k + 1
  | 0, u, h => by
    rw [Lib.decDigits, dif_pos (by simpa using h)]
    simp
  | k + 1, u, h => by
    by_cases hu : u < 10
    · rw [Lib.decDigits, dif_pos hu]; simp
    · rw [Lib.decDigits, dif_neg hu, List.length_append]
      have h2 : u / 10 < 10 ^ (k + 1) := by
        rw [Nat.div_lt_iff_lt_mul (by decide)]
        rw [Nat.pow_succ] at h
        exact h
      have := decD_len k (u / 10) h2
      simp
      omega
theorem decB_len (n : Int) (h0 : -9223372036854775808 ≤ n) (h1 : n ≤ 9223372036854775807) : (decB n).length ≤ 30 := by
  unfold decB Lib.itoa
  rw [List.length_map]
  split
  · have := decD_len 19 n.natAbs (Nat.lt_of_lt_of_le (show n.natAbs < 9223372036854775809 by omega) (by decide))
    simp
    omega
  · have := decD_len 19 n.toNat (Nat.lt_of_lt_of_le (show n.toNat < 9223372036854775809 by omega) (by decide))
    omega
theorem opT_len (k n : Int) (h0 : -9223372036854775808 ≤ n) (h1 : n ≤ 9223372036854775807) : (opT k n).length ≤ 40 := by
  have := decB_len n h0 h1
  unfold opT
  repeat' split
  all_goals simp
  all_goals omega
section
variable {W0 W : World} {b base : Nat} {nm : Value} {xs : List Nat}
set_option maxHeartbeats 3200000 in
theorem lqueue (h : Ls W0 W b base nm xs) (hT : Pw W0 b base) (n : Int) (h0 : -9223372036854775808 ≤ n) (h1 : n ≤ 9223372036854775807) (hl : xs.length ≤ 90000000000) : Calls Tryd.prog 33 #[.pointer (some ⟨b, 0, none⟩), .int .i64 n] W fun e W' => e = .returned (.tuple #[]) ∧ Ls W0 W' b base nm (xs ++ ([32, 113] ++ decB n)) ∧ Ko b W W' := by
  have HA : Hid (Calls Tryd.prog 56 #[.pointer (some ⟨b, 0, none⟩), .string ⟨#[32, 113]⟩] W fun e W' => e = .returned (.tuple #[]) ∧ Ls W0 W' b base nm (xs ++ [32, 113]) ∧ Ko b W W') := ladd_any h ⟨#[32, 113]⟩ (by omega) (by decide)
  have HT := show Hid _ from hT
  have HN : Hid (-9223372036854775808 ≤ n ∧ n ≤ 9223372036854775807 ∧ xs.length ≤ 90000000000) := ⟨h0, h1, hl⟩
  clear h hT h0 h1 hl
  go_enter Tryd.func33, Tryd.ntmps33
  go_wp2_with fail
  refine HA.out.mono ?_
  rintro e w1 ⟨rfl, hw, hk⟩
  have H1 := show Hid _ from hw
  have K1 := show Hid _ from hk
  clear hw hk
  go_wp2_with fail
  refine (ldig_any H1.out HT.out n HN.out.1 HN.out.2.1 (by have := HN.out; simp; omega)).mono ?_
  rintro e w2 ⟨rfl, hw, hk⟩
  have H2 : Hid (Ko b W w2 ∧ Ls W0 w2 b base nm (xs ++ ([32, 113] ++ decB n))) := ⟨K1.out.trans hk, by rw [← List.append_assoc]; exact hw⟩
  clear hw hk
  go_wp2_with fail
  go_end0
  exact ⟨rfl, H2.out.2, H2.out.1⟩
set_option maxHeartbeats 3200000 in
theorem lvariable (h : Ls W0 W b base nm xs) (hT : Pw W0 b base) (n : Int) (h0 : -9223372036854775808 ≤ n) (h1 : n ≤ 9223372036854775807) (hl : xs.length ≤ 90000000000) : Calls Tryd.prog 34 #[.pointer (some ⟨b, 0, none⟩), .int .i64 n] W fun e W' => e = .returned (.tuple #[]) ∧ Ls W0 W' b base nm (xs ++ ([32, 118] ++ decB n)) ∧ Ko b W W' := by
  have HA : Hid (Calls Tryd.prog 56 #[.pointer (some ⟨b, 0, none⟩), .string ⟨#[32, 118]⟩] W fun e W' => e = .returned (.tuple #[]) ∧ Ls W0 W' b base nm (xs ++ [32, 118]) ∧ Ko b W W') := ladd_any h ⟨#[32, 118]⟩ (by omega) (by decide)
  have HT := show Hid _ from hT
  have HN : Hid (-9223372036854775808 ≤ n ∧ n ≤ 9223372036854775807 ∧ xs.length ≤ 90000000000) := ⟨h0, h1, hl⟩
  clear h hT h0 h1 hl
  go_enter Tryd.func34, Tryd.ntmps34
  go_wp2_with fail
  refine HA.out.mono ?_
  rintro e w1 ⟨rfl, hw, hk⟩
  have H1 := show Hid _ from hw
  have K1 := show Hid _ from hk
  clear hw hk
  go_wp2_with fail
  refine (ldig_any H1.out HT.out n HN.out.1 HN.out.2.1 (by have := HN.out; simp; omega)).mono ?_
  rintro e w2 ⟨rfl, hw, hk⟩
  have H2 : Hid (Ko b W w2 ∧ Ls W0 w2 b base nm (xs ++ ([32, 118] ++ decB n))) := ⟨K1.out.trans hk, by rw [← List.append_assoc]; exact hw⟩
  clear hw hk
  go_wp2_with fail
  go_end0
  exact ⟨rfl, H2.out.2, H2.out.1⟩
set_option maxHeartbeats 3200000 in
theorem ltag (h : Ls W0 W b base nm xs) (hT : Pw W0 b base) (n : Int) (h0 : -9223372036854775808 ≤ n) (h1 : n ≤ 9223372036854775807) (hl : xs.length ≤ 90000000000) : Calls Tryd.prog 35 #[.pointer (some ⟨b, 0, none⟩), .int .i64 n] W fun e W' => e = .returned (.tuple #[]) ∧ Ls W0 W' b base nm (xs ++ ([32, 116] ++ decB n)) ∧ Ko b W W' := by
  have HA : Hid (Calls Tryd.prog 56 #[.pointer (some ⟨b, 0, none⟩), .string ⟨#[32, 116]⟩] W fun e W' => e = .returned (.tuple #[]) ∧ Ls W0 W' b base nm (xs ++ [32, 116]) ∧ Ko b W W') := ladd_any h ⟨#[32, 116]⟩ (by omega) (by decide)
  have HT := show Hid _ from hT
  have HN : Hid (-9223372036854775808 ≤ n ∧ n ≤ 9223372036854775807 ∧ xs.length ≤ 90000000000) := ⟨h0, h1, hl⟩
  clear h hT h0 h1 hl
  go_enter Tryd.func35, Tryd.ntmps35
  go_wp2_with fail
  refine HA.out.mono ?_
  rintro e w1 ⟨rfl, hw, hk⟩
  have H1 := show Hid _ from hw
  have K1 := show Hid _ from hk
  clear hw hk
  go_wp2_with fail
  refine (ldig_any H1.out HT.out n HN.out.1 HN.out.2.1 (by have := HN.out; simp; omega)).mono ?_
  rintro e w2 ⟨rfl, hw, hk⟩
  have H2 : Hid (Ko b W w2 ∧ Ls W0 w2 b base nm (xs ++ ([32, 116] ++ decB n))) := ⟨K1.out.trans hk, by rw [← List.append_assoc]; exact hw⟩
  clear hw hk
  go_wp2_with fail
  go_end0
  exact ⟨rfl, H2.out.2, H2.out.1⟩
set_option maxHeartbeats 3200000 in
theorem lnumber (h : Ls W0 W b base nm xs) (hT : Pw W0 b base) (n : Int) (h0 : -9223372036854775808 ≤ n) (h1 : n ≤ 9223372036854775807) (hl : xs.length ≤ 90000000000) : Calls Tryd.prog 39 #[.pointer (some ⟨b, 0, none⟩), .int .i64 n] W fun e W' => e = .returned (.tuple #[]) ∧ Ls W0 W' b base nm (xs ++ ([32] ++ decB n)) ∧ Ko b W W' := by
  have HA : Hid (Calls Tryd.prog 56 #[.pointer (some ⟨b, 0, none⟩), .string ⟨#[32]⟩] W fun e W' => e = .returned (.tuple #[]) ∧ Ls W0 W' b base nm (xs ++ [32]) ∧ Ko b W W') := ladd_any h ⟨#[32]⟩ (by omega) (by decide)
  have HT := show Hid _ from hT
  have HN : Hid (-9223372036854775808 ≤ n ∧ n ≤ 9223372036854775807 ∧ xs.length ≤ 90000000000) := ⟨h0, h1, hl⟩
  clear h hT h0 h1 hl
  go_enter Tryd.func39, Tryd.ntmps39
  go_wp2_with fail
  refine HA.out.mono ?_
  rintro e w1 ⟨rfl, hw, hk⟩
  have H1 := show Hid _ from hw
  have K1 := show Hid _ from hk
  clear hw hk
  go_wp2_with fail
  refine (ldig_any H1.out HT.out n HN.out.1 HN.out.2.1 (by have := HN.out; simp; omega)).mono ?_
  rintro e w2 ⟨rfl, hw, hk⟩
  have H2 : Hid (Ko b W w2 ∧ Ls W0 w2 b base nm (xs ++ ([32] ++ decB n))) := ⟨K1.out.trans hk, by rw [← List.append_assoc]; exact hw⟩
  clear hw hk
  go_wp2_with fail
  go_end0
  exact ⟨rfl, H2.out.2, H2.out.1⟩
set_option maxHeartbeats 3200000 in
theorem lplace (h : Ls W0 W b base nm xs) (hT : Pw W0 b base) (n : Int) (h0 : -9223372036854775808 ≤ n) (h1 : n ≤ 9223372036854775807) (hl : xs.length ≤ 90000000000) : Calls Tryd.prog 41 #[.pointer (some ⟨b, 0, none⟩), .int .i64 n] W fun e W' => e = .returned (.tuple #[]) ∧ Ls W0 W' b base nm (xs ++ ([32, 64] ++ decB n)) ∧ Ko b W W' := by
  have HA : Hid (Calls Tryd.prog 56 #[.pointer (some ⟨b, 0, none⟩), .string ⟨#[32, 64]⟩] W fun e W' => e = .returned (.tuple #[]) ∧ Ls W0 W' b base nm (xs ++ [32, 64]) ∧ Ko b W W') := ladd_any h ⟨#[32, 64]⟩ (by omega) (by decide)
  have HT := show Hid _ from hT
  have HN : Hid (-9223372036854775808 ≤ n ∧ n ≤ 9223372036854775807 ∧ xs.length ≤ 90000000000) := ⟨h0, h1, hl⟩
  clear h hT h0 h1 hl
  go_enter Tryd.func41, Tryd.ntmps41
  go_wp2_with fail
  refine HA.out.mono ?_
  rintro e w1 ⟨rfl, hw, hk⟩
  have H1 := show Hid _ from hw
  have K1 := show Hid _ from hk
  clear hw hk
  go_wp2_with fail
  refine (ldig_any H1.out HT.out n HN.out.1 HN.out.2.1 (by have := HN.out; simp; omega)).mono ?_
  rintro e w2 ⟨rfl, hw, hk⟩
  have H2 : Hid (Ko b W w2 ∧ Ls W0 w2 b base nm (xs ++ ([32, 64] ++ decB n))) := ⟨K1.out.trans hk, by rw [← List.append_assoc]; exact hw⟩
  clear hw hk
  go_wp2_with fail
  go_end0
  exact ⟨rfl, H2.out.2, H2.out.1⟩
set_option maxHeartbeats 3200000 in
theorem lend (h : Ls W0 W b base nm xs) (n : Int) (hl : xs.length ≤ 90000000000) : Calls Tryd.prog 36 #[.pointer (some ⟨b, 0, none⟩), .int .i64 n] W fun e W' => e = .returned (.tuple #[]) ∧ Ls W0 W' b base nm (xs ++ (if n = 0 then [32, 102, 114, 111, 110, 116] else [32, 98, 97, 99, 107])) ∧ Ko b W W' := by
  have HA : Hid (Calls Tryd.prog 56 #[.pointer (some ⟨b, 0, none⟩), .string ⟨#[32, 102, 114, 111, 110, 116]⟩] W fun e W' => e = .returned (.tuple #[]) ∧ Ls W0 W' b base nm (xs ++ [32, 102, 114, 111, 110, 116]) ∧ Ko b W W') := ladd_any h ⟨#[32, 102, 114, 111, 110, 116]⟩ (by omega) (by decide)
  have HB : Hid (Calls Tryd.prog 56 #[.pointer (some ⟨b, 0, none⟩), .string ⟨#[32, 98, 97, 99, 107]⟩] W fun e W' => e = .returned (.tuple #[]) ∧ Ls W0 W' b base nm (xs ++ [32, 98, 97, 99, 107]) ∧ Ko b W W') := ladd_any h ⟨#[32, 98, 97, 99, 107]⟩ (by omega) (by decide)
  clear h hl
  by_cases hn : n = 0
  · rw [if_pos hn]
    have hn' : (n == 0) = true := by rw [beq_iff_eq]; exact hn
    clear hn
    go_enter Tryd.func36, Tryd.ntmps36
    go_wp2_with fail
    refine HA.out.mono ?_
    rintro e w1 ⟨rfl, hw, hk⟩
    have H1 := show Hid _ from hw
    have K1 := show Hid _ from hk
    clear hw hk
    go_wp2_with fail
    go_end0
    exact ⟨rfl, H1.out, K1.out⟩
  · rw [if_neg hn]
    have hn' : (n == 0) = false := by rw [beq_eq_false_iff_ne]; exact hn
    clear hn
    go_enter Tryd.func36, Tryd.ntmps36
    go_wp2_with fail
    refine HB.out.mono ?_
    rintro e w1 ⟨rfl, hw, hk⟩
    have H1 := show Hid _ from hw
    have K1 := show Hid _ from hk
    clear hw hk
    go_wp2_with fail
    go_end0
    exact ⟨rfl, H1.out, K1.out⟩
set_option maxHeartbeats 3200000 in
theorem ltruth (h : Ls W0 W b base nm xs) (n : Int) (hl : xs.length ≤ 90000000000) : Calls Tryd.prog 40 #[.pointer (some ⟨b, 0, none⟩), .int .i64 n] W fun e W' => e = .returned (.tuple #[]) ∧ Ls W0 W' b base nm (xs ++ (if n = 1 then [32, 116, 114, 117, 101] else [32, 102, 97, 108, 115, 101])) ∧ Ko b W W' := by
  have HA : Hid (Calls Tryd.prog 56 #[.pointer (some ⟨b, 0, none⟩), .string ⟨#[32, 116, 114, 117, 101]⟩] W fun e W' => e = .returned (.tuple #[]) ∧ Ls W0 W' b base nm (xs ++ [32, 116, 114, 117, 101]) ∧ Ko b W W') := ladd_any h ⟨#[32, 116, 114, 117, 101]⟩ (by omega) (by decide)
  have HB : Hid (Calls Tryd.prog 56 #[.pointer (some ⟨b, 0, none⟩), .string ⟨#[32, 102, 97, 108, 115, 101]⟩] W fun e W' => e = .returned (.tuple #[]) ∧ Ls W0 W' b base nm (xs ++ [32, 102, 97, 108, 115, 101]) ∧ Ko b W W') := ladd_any h ⟨#[32, 102, 97, 108, 115, 101]⟩ (by omega) (by decide)
  clear h hl
  by_cases hn : n = 1
  · rw [if_pos hn]
    have hn' : (n == 1) = true := by rw [beq_iff_eq]; exact hn
    clear hn
    go_enter Tryd.func40, Tryd.ntmps40
    go_wp2_with fail
    refine HA.out.mono ?_
    rintro e w1 ⟨rfl, hw, hk⟩
    have H1 := show Hid _ from hw
    have K1 := show Hid _ from hk
    clear hw hk
    go_wp2_with fail
    go_end0
    exact ⟨rfl, H1.out, K1.out⟩
  · rw [if_neg hn]
    have hn' : (n == 1) = false := by rw [beq_eq_false_iff_ne]; exact hn
    clear hn
    go_enter Tryd.func40, Tryd.ntmps40
    go_wp2_with fail
    refine HB.out.mono ?_
    rintro e w1 ⟨rfl, hw, hk⟩
    have H1 := show Hid _ from hw
    have K1 := show Hid _ from hk
    clear hw hk
    go_wp2_with fail
    go_end0
    exact ⟨rfl, H1.out, K1.out⟩
set_option maxHeartbeats 1600000 in
theorem lnothing (b : Nat) (v : Int) (W : World) : Calls Tryd.prog 30 #[.pointer (some ⟨b, 0, none⟩), .int .i64 v] W fun e W' => e = .returned (.tuple #[]) ∧ W' = W := by
  go_enter Tryd.func30, Tryd.ntmps30
  go_wp2_with fail
  go_end0
  exact ⟨rfl, rfl⟩
/-- what tells operands of a kind -/
theorem tfun (W0 : World) (b base : Nat) (nm : Value) (hT : Pw W0 b base) (k : Nat) (hk : k ≤ 8) : ∃ F : Nat, wayL[3 * k + 2]? = some (.func (.func F) #[] #[]) ∧ (∀ (args : Array Value) (u : World), (callFunc F args).run Tryd.prog u = .ok (.enter F args) u) ∧
    ∀ (W : World) (xs : List Nat) (v : Int), Ls W0 W b base nm xs → xs.length ≤ 90000000000 → -9223372036854775808 ≤ v → v ≤ 9223372036854775807 → Calls Tryd.prog F #[.pointer (some ⟨b, 0, none⟩), .int .i64 v] W fun e W' => e = .returned (.tuple #[]) ∧ Ls W0 W' b base nm (xs ++ opT (k : Int) v) ∧ Ko b W W' := by
  have h9 : k = 0 ∨ k = 1 ∨ k = 2 ∨ k = 3 ∨ k = 4 ∨ k = 5 ∨ k = 6 ∨ k = 7 ∨ k = 8 := by omega
  rcases h9 with rfl | rfl | rfl | rfl | rfl | rfl | rfl | rfl | rfl
  · refine ⟨30, rfl, fun _ _ => by kernel_rfl, fun W xs v hw hl h0 h1 => ?_⟩
    refine (lnothing b v W).mono ?_
    rintro e W' ⟨rfl, rfl⟩
    exact ⟨rfl, by show Ls W0 W' b base nm (xs ++ []); rw [List.append_nil]; exact hw, Ko.refl _ _⟩
  · exact ⟨33, rfl, fun _ _ => by kernel_rfl, fun W xs v hw hl h0 h1 => lqueue hw hT v h0 h1 hl⟩
  · exact ⟨34, rfl, fun _ _ => by kernel_rfl, fun W xs v hw hl h0 h1 => lvariable hw hT v h0 h1 hl⟩
  · exact ⟨35, rfl, fun _ _ => by kernel_rfl, fun W xs v hw hl h0 h1 => ltag hw hT v h0 h1 hl⟩
  · exact ⟨36, rfl, fun _ _ => by kernel_rfl, fun W xs v hw hl h0 h1 => lend hw v hl⟩
  · exact ⟨39, rfl, fun _ _ => by kernel_rfl, fun W xs v hw hl h0 h1 => lnumber hw hT v h0 h1 hl⟩
  · exact ⟨40, rfl, fun _ _ => by kernel_rfl, fun W xs v hw hl h0 h1 => ltruth hw v hl⟩
  · exact ⟨39, rfl, fun _ _ => by kernel_rfl, fun W xs v hw hl h0 h1 => lnumber hw hT v h0 h1 hl⟩
  · exact ⟨41, rfl, fun _ _ => by kernel_rfl, fun W xs v hw hl h0 h1 => lplace hw hT v h0 h1 hl⟩
end
end Go.Proofs.YtcblichnkakhdaaDoor.Cd
