import Derived.Test.YtkkplmkpemajfabDoorWords
import Derived.Deep.RegionWith
import Derived.Shelf.SlSorted.Search
namespace Go.Proofs.YtkkplmkpemajfabDoor.Sp
open Go.RowKit

/-- a number's digits -/
def dgS (n : Int) : ByteArray := ⟨(Lib.itoa n).toArray⟩
theorem dgS_len (n : Int) (h0 : -9223372036854775808 ≤ n) (h1 : n ≤ 9223372036854775807) : (dgS n).size ≤ 21 := Lib.itoa_length_le n h0 h1
theorem str_app (a b : ByteArray) : (a ++ b).data.toList = a.data.toList ++ b.data.toList := by simp
theorem str_eq' {s s' : ByteArray} (h : s.data.toList = s'.data.toList) : s = s' := by
  apply ByteArray.ext
  exact Array.toList_inj.1 h
theorem dgS_one (n : Nat) (h : n < 10) : dgS n = ⟨#[UInt8.ofNat (48 + n)]⟩ := by
  unfold dgS
  rw [Lib.itoa_nonneg, Lib.decDigits_one h]
theorem dgS_more (n : Nat) (h : ¬ n < 10) : dgS n = dgS ((n / 10 : Nat) : Int) ++ ⟨#[UInt8.ofNat (48 + n % 10)]⟩ := by
  apply str_eq'
  rw [str_app]
  show Lib.itoa (n : Int) = Lib.itoa ((n / 10 : Nat) : Int) ++ [UInt8.ofNat (48 + n % 10)]
  rw [Lib.itoa_nonneg, Lib.itoa_nonneg]
  conv => lhs; rw [Lib.decDigits]
  rw [dif_neg h]
theorem dgS_neg1 (n : Nat) (h1 : 1 ≤ n) : dgS (-(n : Int)) = ⟨#[45]⟩ ++ dgS n := by
  apply str_eq'
  rw [str_app]
  show Lib.itoa (-(n : Int)) = [45] ++ Lib.itoa (n : Int)
  rw [Lib.itoa_neg n h1, Lib.itoa_nonneg]
  rfl
theorem dgS_neg (n : Nat) (h : ¬ n < 10) : dgS (-(n : Int)) = dgS (-((n / 10 : Nat) : Int)) ++ dgS ((n % 10 : Nat) : Int) := by
  apply str_eq'
  rw [str_app]
  show Lib.itoa (-(n : Int)) = Lib.itoa (-((n / 10 : Nat) : Int)) ++ Lib.itoa ((n % 10 : Nat) : Int)
  rw [Lib.itoa_neg n (by omega), Lib.itoa_neg (n / 10) (by omega), Lib.itoa_nonneg, Lib.decDigits_one (show n % 10 < 10 by omega)]
  conv => lhs; rw [Lib.decDigits]
  rw [dif_neg h]
  rfl

theorem itoa_any (n : Int) (h0 : -9223372036854775808 ≤ n) (h1 : n ≤ 9223372036854775807) (w : World) (htab : Lib.TabIs Tryd.prog w "internal/strconv.uint64pow10" .u64 Lib.pow10Tab) :
    Calls Tryd.prog 13 #[.int .i64 n] w fun e w' => e = .returned (.string (dgS n)) ∧ Below w.heap.size w w' :=
  (Tryd.strconv_Itoa n h0 h1 w htab).mono fun e w' ⟨he, k, os, hw⟩ => ⟨he, by rw [hw]; exact below_grown_sl _ w k os (Nat.le_refl _)⟩

/-- string([]byte{c}) of a slice just laid -/
theorem conv_byte (w : World) (c : Int) (h0 : 0 ≤ c) (h1 : c < 256) : (convert 35 9 (.slice (some ⟨w.heap.size, 0, none⟩) 1 1)).run Tryd.prog (w.alloc (.cells #[.int .u8 c] 5)) = .ok (.string ⟨#[UInt8.ofNat c.toNat]⟩) (w.alloc (.cells #[.int .u8 c] 5)) := by
  have hx : (⟨#[UInt8.ofNat c.toNat]⟩ : ByteArray).size = 1 := rfl
  have h := conv_any (some ⟨w.heap.size, 0, none⟩) ⟨#[UInt8.ofNat c.toNat]⟩ 1 (w.alloc (.cells #[.int .u8 c] 5)) (isBytes_const w _ _ _ (by
    show [Value.int .u8 c] = [Value.int .u8 ((UInt8.ofNat c.toNat).toNat : Int)]
    congr 2
    have : c.toNat < 256 := by omega
    simp [Nat.mod_eq_of_lt this]
    omega))
  rw [hx] at h
  exact h

theorem conv_cell (u : World) (g : Nat) (c : Int) (h0 : 0 ≤ c) (h1 : c < 256) (hc : u.cell? ⟨g, 0, none⟩ = some (.int .u8 c)) : (convert 35 9 (.slice (some ⟨g, 0, none⟩) 1 1)).run Tryd.prog u = .ok (.string ⟨#[UInt8.ofNat c.toNat]⟩) u := by
  have hx : (⟨#[UInt8.ofNat c.toNat]⟩ : ByteArray).size = 1 := rfl
  have h := conv_any (some ⟨g, 0, none⟩) ⟨#[UInt8.ofNat c.toNat]⟩ 1 u (fun i hi => by
    rw [hx] at hi
    obtain rfl : i = 0 := by omega
    refine ⟨g, 0, rfl, World.block_lt_of_cell? u _ hc, ?_⟩
    rw [Nat.zero_add, hc]
    unfold bt
    have : c.toNat < 256 := by omega
    simp [Nat.mod_eq_of_lt this]
    omega)
  rw [hx] at h
  exact h

set_option maxHeartbeats 1600000 in
set_option maxRecDepth 100000 in
theorem digits_nat : ∀ (k n : Nat), n < k → n ≤ 9223372036854775807 → ∀ (N : Int), N = (n : Int) → ∀ w : World, Calls Tryd.prog 14 #[.int .i64 N] w fun e w' => e = .returned (.string (dgS n)) ∧ Below w.heap.size w w' := by
  intro k
  induction k with
  | zero => intro n h; omega
  | succ k ih =>
    intro n hn hb N hN w
    subst hN
    have IH : Hid (∀ m, m < k → m ≤ 9223372036854775807 → ∀ (N : Int), N = (m : Int) → ∀ w : World, Calls Tryd.prog 14 #[.int .i64 N] w fun e w' => e = .returned (.string (dgS m)) ∧ Below w.heap.size w w') := ih
    clear ih
    by_cases h10 : n < 10
    · obtain ⟨d, hd⟩ : ∃ d : ByteArray, d = ⟨#[UInt8.ofNat (48 + (n : Int)).toNat]⟩ := ⟨_, rfl⟩
      have hcv := conv_byte w (48 + (n : Int)) (by omega) (by omega)
      rw [← hd] at hcv
      have HS : Hid (dgS n = d) := by
        show _ = _
        rw [hd, dgS_one n h10, show (48 + (n : Int)).toNat = 48 + n by omega]
      clear hd
      go_enter Tryd.func14, Tryd.ntmps14
      go_wp2
      go_ret
      exact ⟨ret_str HS.out.symm, (Below.refl _ w).alloc (Nat.le_refl _) _⟩
    · obtain ⟨d, hd⟩ : ∃ d : ByteArray, d = ⟨#[UInt8.ofNat (48 + (n : Int) % 10).toNat]⟩ := ⟨_, rfl⟩
      have hcv := fun (u : World) (g : Nat) (h : u.cell? ⟨g, 0, none⟩ = some (.int .u8 (48 + (n : Int) % 10))) => conv_cell u g (48 + (n : Int) % 10) (by omega) (by omega) h
      rw [← hd] at hcv
      have HS : Hid (dgS n = dgS ((n : Int) / 10) ++ d) := by
        show _ = _
        rw [hd, dgS_more n h10, show (48 + (n : Int) % 10).toNat = 48 + n % 10 by omega, show ((n / 10 : Nat) : Int) = (n : Int) / 10 by omega]
      have hds : d.size ≤ 1 := by rw [hd]; exact Nat.le_refl 1
      clear hd
      have hl := dgS_len ((n : Int) / 10) (by omega) (by omega)
      have hw1 : IntKind.i64.wrap ((n : Int) / 10) = (n : Int) / 10 := by rw [IntKind.wrap_i64]; omega
      have ht1 : (n : Int).tmod 10 = (n : Int) % 10 := Int.tmod_eq_emod_of_nonneg (by omega)
      have hw2 : IntKind.i64.wrap (48 + (n : Int) % 10) = 48 + (n : Int) % 10 := by rw [IntKind.wrap_i64]; omega
      have hw3 : IntKind.u8.wrap (48 + (n : Int) % 10) = 48 + (n : Int) % 10 := by rw [IntKind.wrap_u8]; omega
      go_enter Tryd.func14, Tryd.ntmps14
      go_wp2_with fail
      go_region_with (go_at_call 14; refine (IH.out (n / 10) (by omega) (by omega) _ (by omega) _).mono ?_; rintro e w' ⟨rfl, hB⟩; have hcx := fun (h : w.heap.size < _) => hB.cell (p := ⟨w.heap.size, 0, none⟩) h)
      all_goals
        go_wp2
        go_ret
        refine ⟨ret_str HS.out.symm, ?_⟩
        first | exact ((Below.refl _ w).drew.trans hB).alloc hB.size _ | exact (((Below.refl _ w).alloc (Nat.le_refl _) _).drew.trans (hB.mono (Nat.le_of_lt (by simp))))

theorem dgS_nn (n : Nat) (N : Int) (hN : N = (n : Int)) (hb : n ≤ 9223372036854775807) (w : World) : Calls Tryd.prog 14 #[.int .i64 N] w fun e w' => e = .returned (.string (dgS n)) ∧ Below w.heap.size w w' :=
  digits_nat (n + 1) n (by omega) hb N hN w

set_option maxHeartbeats 1600000 in
set_option maxRecDepth 100000 in
theorem digits_neg : ∀ (k n : Nat), n < k → 1 ≤ n → n ≤ 9223372036854775808 → ∀ (N : Int), N = -(n : Int) → ∀ w : World, Calls Tryd.prog 14 #[.int .i64 N] w fun e w' => e = .returned (.string (dgS (-(n : Int)))) ∧ Below w.heap.size w w' := by
  intro k
  induction k with
  | zero => intro n h; omega
  | succ k ih =>
    intro n hn h1 hb N hN w
    subst hN
    have IH : Hid (∀ m, m < k → 1 ≤ m → m ≤ 9223372036854775808 → ∀ (N : Int), N = -(m : Int) → ∀ w : World, Calls Tryd.prog 14 #[.int .i64 N] w fun e w' => e = .returned (.string (dgS (-(m : Int)))) ∧ Below w.heap.size w w') := ih
    clear ih
    by_cases h10 : n < 10
    · have HS : Hid (dgS (-(n : Int)) = ⟨#[45]⟩ ++ dgS n) := dgS_neg1 n h1
      have hl := dgS_len (n : Int) (by omega) (by omega)
      go_enter Tryd.func14, Tryd.ntmps14
      go_wp2_with fail
      refine (dgS_nn n _ (by omega) (by omega) _).mono ?_
      rintro e w' ⟨rfl, hB⟩
      go_wp2
      go_ret
      exact ⟨ret_str HS.out.symm, hB⟩
    · have HS : Hid (dgS (-(n : Int)) = dgS (-((n / 10 : Nat) : Int)) ++ dgS ((n % 10 : Nat) : Int)) := dgS_neg n h10
      have hl1 := dgS_len (-((n / 10 : Nat) : Int)) (by omega) (by omega)
      have hl2 := dgS_len ((n % 10 : Nat) : Int) (by omega) (by omega)
      have hd1 : (-(n : Int)).tdiv 10 = -((n / 10 : Nat) : Int) := by rw [Int.neg_tdiv, Int.tdiv_eq_ediv_of_nonneg (by omega)]; omega
      have hd2 : (-(n : Int)).tmod 10 = -((n % 10 : Nat) : Int) := by rw [Int.neg_tmod, Int.tmod_eq_emod_of_nonneg (by omega)]; omega
      obtain ⟨q, hq⟩ : ∃ q, n / 10 = q := ⟨_, rfl⟩
      obtain ⟨r, hr⟩ : ∃ r, n % 10 = r := ⟨_, rfl⟩
      rw [hq] at hd1 HS hl1
      rw [hr] at hd2 HS hl2
      have hq1 : 1 ≤ q := by omega
      have hq2 : q < k := by omega
      have hq3 : q ≤ 922337203685477580 := by omega
      have hr1 : r < 10 := by omega
      clear hq hr
      have hw1 : IntKind.i64.wrap (-(q : Int)) = -(q : Int) := by rw [IntKind.wrap_i64]; omega
      go_enter Tryd.func14, Tryd.ntmps14
      go_wp2_with fail
      refine (IH.out q hq2 hq1 (by omega) _ (by omega) _).mono ?_
      rintro e w1 ⟨rfl, hB1⟩
      go_wp2_with fail
      refine (dgS_nn r _ (by omega) (by omega) _).mono ?_
      rintro e w2 ⟨rfl, hB2⟩
      go_wp2
      go_ret
      exact ⟨ret_str HS.out.symm, hB1.trans (hB2.mono hB1.size)⟩

theorem digits_any (n : Int) (h0 : -9223372036854775808 ≤ n) (h1 : n ≤ 9223372036854775807) (w : World) :
    Calls Tryd.prog 14 #[.int .i64 n] w fun e w' => e = .returned (.string (dgS n)) ∧ Below w.heap.size w w' := by
  by_cases h : 0 ≤ n
  · obtain ⟨m, rfl⟩ : ∃ m : Nat, n = m := ⟨n.toNat, by omega⟩
    exact dgS_nn m _ rfl (by omega) w
  · obtain ⟨m, rfl⟩ : ∃ m : Nat, n = -(m : Int) := ⟨n.natAbs, by omega⟩
    exact digits_neg (m + 1) m (by omega) (by omega) (by omega) _ rfl w
end Go.Proofs.YtkkplmkpemajfabDoor.Sp
