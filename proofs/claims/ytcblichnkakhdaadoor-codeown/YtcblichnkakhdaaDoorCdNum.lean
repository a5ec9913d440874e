import Derived.Test.YtcblichnkakhdaaDoorCdWr
import Derived.Laws.Bits128
namespace Go.Proofs.YtcblichnkakhdaaDoor.Cd
open Go.RowKit Go.Proofs.YtcblichnkakhdaaDoor.Nm

/-- a number from 0 on, by sevens -/
def numB (n : Nat) : List Nat := if n < 128 then [n] else (n % 128 + 128) :: numB (n / 128)
termination_by n
decreasing_by omega
theorem numB_low {n : Nat} (h : n < 128) : numB n = [n] := by rw [numB, if_pos h]
theorem numB_high {n : Nat} (h : ¬ n < 128) : numB n = (n % 128 + 128) :: numB (n / 128) := by rw [numB, if_neg h]
theorem numB_len : ∀ (k n : Nat), n < 128 ^ (k + 1) → (numB n).length ≤ k + 1
  | 0, n, h => by rw [numB_low (by simpa using h)]; simp
  | k + 1, n, h => by
    by_cases hn : n < 128
    · rw [numB_low hn]; simp
    · rw [numB_high hn, List.length_cons]
      have h2 : n / 128 < 128 ^ (k + 1) := by
        rw [Nat.div_lt_iff_lt_mul (by decide)]
        rw [Nat.pow_succ] at h
        exact h
      have := numB_len k (n / 128) h2
      omega
theorem numB_ten {n : Nat} (h : n < 9223372036854775808) : (numB n).length ≤ 10 := numB_len 9 n (Nat.lt_of_lt_of_le h (by decide))
set_option maxHeartbeats 6400000 in
set_option maxRecDepth 100000 in
/-- a number is written -/
theorem wnum_any {W : World} {b base n : Nat} {fs : List Value} {xs : List Nat} (h : Wr W b base fs xs) (hl : xs.length ≤ 999999999900) (hn : n < 9223372036854775808) :
    Calls Tryd.prog 32 #[.pointer (some ⟨b, 0, none⟩), .int .i64 (n : Int)] W fun e W' => e = .returned (.tuple #[]) ∧ Wr W' b base fs (xs ++ numB n) ∧ Fo b W W' := by
  have HW := show Hid _ from h
  have HL : Hid (xs.length ≤ 999999999900 ∧ (numB n).length ≤ 10) := ⟨hl, numB_ten hn⟩
  have HN : Hid (n < 9223372036854775808) := hn
  clear h hl hn
  go_enter Tryd.func32, Tryd.ntmps32
  go_wp2_with fail
  go_loopg [1] n (fun gq x wr => ∃ (m : Nat) (pre : List Nat), m ≤ n ∧ gq = m ∧ x = .int .i64 (m : Int) ∧ pre ++ numB m = numB n ∧ Wr wr b base fs (xs ++ pre) ∧ Fo b W wr)
  case atStart => exact ⟨n, [], Nat.le_refl _, rfl, rfl, rfl, by rw [List.append_nil]; exact HW.out, Fo.refl _ _⟩
  case round =>
    obtain ⟨m, pre, hm, hgk, rfl, hp, hw, hf⟩ := hrel
    have HG : Hid (gk = m ∧ pre ++ numB m = numB n ∧ Wr wr b base fs (xs ++ pre) ∧ Fo b W wr ∧ m ≤ n) := ⟨hgk, hp, hw, hf, hm⟩
    have hpl : pre.length ≤ 10 := by have h1 := HL.out.2; rw [← hp, List.length_append] at h1; omega
    have HPt : Hid (∀ y : Nat, Calls Tryd.prog 49 #[.pointer (some ⟨b, 0, none⟩), .int .u8 (y : Int)] wr fun e W' => e = .returned (.tuple #[]) ∧ Wr W' b base fs (xs ++ pre ++ [y]) ∧ Fo b wr W') := fun y => put_any hw (by have := HL.out.1; rw [List.length_append]; omega)
    have hm2 : m < 9223372036854775808 := by have := HN.out; omega
    clear hgk hp hw hf hm hpl HW
    by_cases hlow : m < 128
    · have h1 : ¬ (128 : Int) ≤ (m : Int) := by omega
      have HP := show Hid _ from HPt.out m
      clear HPt
      go_wp2_with fail
      refine Calls.mono HP.out ?_
      rintro e w2 ⟨rfl, hw, hf⟩
      have HE : Hid (Wr w2 b base fs (xs ++ numB n) ∧ Fo b W w2) := ⟨by rw [← HG.out.2.1, numB_low hlow, ← List.append_assoc]; exact hw, HG.out.2.2.2.1.trans hf⟩
      clear hw hf HP
      go_wp2_with fail
      go_end0
      exact ⟨rfl, HE.out.1, HE.out.2⟩
    · have h1 : (128 : Int) ≤ (m : Int) := by omega
      obtain ⟨y, hy⟩ : ∃ y : Nat, y = m % 128 + 128 := ⟨_, rfl⟩
      have ea : (bits BinOp.and IntKind.i64 (m : Int) 127 + 128) % 256 = (y : Int) := by rw [i64_and127, hy]; omega
      have HY : Hid (numB m = y :: numB (m / 128)) := by rw [hy]; exact numB_high hlow
      have HP := show Hid _ from HPt.out y
      clear hy
      clear HPt
      go_wp2_with fail
      refine Calls.mono HP.out ?_
      rintro e w2 ⟨rfl, hw, hf⟩
      have HE : Hid (Wr w2 b base fs (xs ++ (pre ++ [y])) ∧ Fo b W w2 ∧ (pre ++ [y]) ++ numB (m / 128) = numB n) := ⟨by rw [← List.append_assoc]; exact hw, HG.out.2.2.2.1.trans hf, by rw [← HG.out.2.1, HY.out]; simp⟩
      clear hw hf HP ea
      go_wp2_with fail
      go_roundg (m / 128)
      case measure => have h2 := HG.out.1; omega
      case rel => exact ⟨m / 128, pre ++ [y], by have h2 := HG.out.2.2.2.2; omega, rfl, by rw [show ((m / 128 : Nat) : Int) = (m : Int) / 128 by omega], HE.out.2.2, HE.out.1, HE.out.2.1⟩
/-- an int as a number -/
def sgN (n : Int) : Nat := if n < 0 then (-2 * n - 1).toNat else (2 * n).toNat
set_option maxHeartbeats 6400000 in
set_option maxRecDepth 100000 in
/-- an int is written -/
theorem wsgn_any {W : World} {b base : Nat} {n : Int} {fs : List Value} {xs : List Nat} (h : Wr W b base fs xs) (hl : xs.length ≤ 999999999900) (hn : -4611686018427387904 < n ∧ n < 4611686018427387904) :
    Calls Tryd.prog 38 #[.pointer (some ⟨b, 0, none⟩), .int .i64 n] W fun e W' => e = .returned (.tuple #[]) ∧ Wr W' b base fs (xs ++ numB (sgN n)) ∧ Fo b W W' := by
  obtain ⟨m, hm⟩ : ∃ m, m = sgN n := ⟨_, rfl⟩
  have hb : m < 9223372036854775808 := by rw [hm]; unfold sgN; split <;> omega
  have HP := show Hid _ from wnum_any (n := m) h hl hb
  by_cases h0 : n < 0
  · have e1 : -2 * n - 1 = (m : Int) := by rw [hm]; unfold sgN; rw [if_pos h0]; omega
    have h0' : decide (n < 0) = true := decide_eq_true h0
    rw [← hm]
    clear h hl hm hb
    go_enter Tryd.func38, Tryd.ntmps38
    go_wp2_with fail
    refine Calls.mono HP.out ?_
    rintro e w2 ⟨rfl, hw, hf⟩
    have HE : Hid (Wr w2 b base fs (xs ++ numB m) ∧ Fo b W w2) := ⟨hw, hf⟩
    clear hw hf HP
    go_wp2_with fail
    go_end0
    exact ⟨rfl, HE.out.1, HE.out.2⟩
  · have e1 : 2 * n = (m : Int) := by rw [hm]; unfold sgN; rw [if_neg h0]; omega
    have h0' : decide (n < 0) = false := decide_eq_false h0
    rw [← hm]
    clear h hl hm hb
    go_enter Tryd.func38, Tryd.ntmps38
    go_wp2_with fail
    refine Calls.mono HP.out ?_
    rintro e w2 ⟨rfl, hw, hf⟩
    have HE : Hid (Wr w2 b base fs (xs ++ numB m) ∧ Fo b W w2) := ⟨hw, hf⟩
    clear hw hf HP
    go_wp2_with fail
    go_end0
    exact ⟨rfl, HE.out.1, HE.out.2⟩
end Go.Proofs.YtcblichnkakhdaaDoor.Cd
