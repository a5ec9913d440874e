import Derived.Test.YtcblichnkakhdaaDoorCeRd
set_option linter.unusedSimpArgs false
namespace Go.Proofs.YtcblichnkakhdaaDoor.Cd
open Go.RowKit Go.Proofs.YtcblichnkakhdaaDoor.Nm

/-- what a reader's method tells; fr: where the last thing began -/
def RPf {α : Type} (W : World) (b : Nat) (bo : Option Addr) (bc : Nat) (s : List Nat) (val : α → Value) (fr : Nat) (r : Rs α) (e : Ending) (W' : World) : Prop :=
  match r with
  | .ok a j _ => e = .returned (val a) ∧ Rdr W' b bo bc s j fr ∧ Fg b W W'
  | .die er k => e = flt er k ∧ Fg b W W'
theorem drop_at {s : List Nat} {j : Nat} (h : j < s.length) : s.drop j = s[j] :: s.drop (j + 1) := List.drop_eq_getElem_cons h
theorem drop_end {s : List Nat} {j : Nat} (h : j = s.length) : s.drop j = [] := by subst h; exact List.drop_length
theorem u8_and127 (x : Nat) (h : x < 256) : bits .and .u8 (x : Int) 127 = ((x % 128 : Nat) : Int) := by
  have := bits_mask .u8 8 (by decide) wraps_u8 7 (by decide) (x : Int) (by omega) (by omega)
  rw [show (127 : Int) = 2 ^ 7 - 1 by decide, this]
  omega
theorem i64_or7 (acc c k : Nat) (ha : acc < 128 ^ k) (hc : c < 128) (hk : k ≤ 8) : bits .or .i64 (acc : Int) ((c * 128 ^ k : Nat) : Int) = ((acc + c * 128 ^ k : Nat) : Int) := by
  have hp : 0 < 128 ^ k := Nat.pow_pos (by decide)
  have h8 : (128 : Nat) ^ k ≤ 128 ^ 8 := Nat.pow_le_pow_right (by decide) hk
  have h9 : c * 128 ^ k ≤ 127 * 128 ^ 8 := Nat.mul_le_mul (by omega) h8
  have e7 : (2 : Int) ^ (7 * k) = ((128 ^ k : Nat) : Int) := by rw [Int.pow_mul]; norm_cast
  have hm : ((c * 128 ^ k : Nat) : Int) % 2 ^ (7 * k) = 0 := by
    rw [e7]
    exact_mod_cast Nat.mul_mod_left c (128 ^ k)
  have hcomm : bits .or .i64 (acc : Int) ((c * 128 ^ k : Nat) : Int) = bits .or .i64 ((c * 128 ^ k : Nat) : Int) (acc : Int) := by simp only [bits, BitVec.or_comm]
  rw [hcomm, bits_join .i64 63 (by decide) (fun n h0 h1 => by rw [IntKind.wrap_i64]; omega) (7 * k) _ _ (by omega) hm (by omega) (by omega) (by rw [e7]; omega) (by omega)]
  omega
theorem i64_add7 (acc x k : Nat) (ha : acc < 128 ^ k) (hk : k ≤ 8) : bits .or .i64 (acc : Int) (wrap64 ((x : Int) % 128 * 2 ^ (7 * k))) = ((acc + x % 128 * 128 ^ k : Nat) : Int) := by
  have e7 : (2 : Int) ^ (7 * k) = ((128 ^ k : Nat) : Int) := by rw [Int.pow_mul]; norm_cast
  have h8 : (128 : Nat) ^ k ≤ 128 ^ 8 := Nat.pow_le_pow_right (by decide) hk
  have h9 : x % 128 * 128 ^ k ≤ 127 * 128 ^ 8 := Nat.mul_le_mul (by omega) h8
  have e8 : (x : Int) % 128 * 2 ^ (7 * k) = ((x % 128 * 128 ^ k : Nat) : Int) := by rw [e7]; norm_cast
  have e9 : wrap64 ((x % 128 * 128 ^ k : Nat) : Int) = ((x % 128 * 128 ^ k : Nat) : Int) := by
    have := IntKind.wrap_i64 ((x % 128 * 128 ^ k : Nat) : Int)
    unfold wrap64
    omega
  rw [e8, e9]
  exact i64_or7 acc (x % 128) k ha (by omega) hk
set_option maxHeartbeats 12800000 in
set_option maxRecDepth 100000 in
/-- a number is read -/
theorem rnum_any {W : World} {b : Nat} {bo : Option Addr} {bc : Nat} {s : List Nat} {i fr : Nat} (h : Rdr W b bo bc s i fr) : Calls Tryd.prog 31 #[.pointer (some ⟨b, 0, none⟩)] W fun e W' => RPf W b bo bc s (fun n : Nat => .int .i64 (n : Int)) i (num i (s.drop i)) e W' := by
  obtain ⟨r, hr⟩ : ∃ r, r = num i (s.drop i) := ⟨_, rfl⟩
  rw [← hr]
  have HR : Hid (r = num i (s.drop i)) := hr
  obtain ⟨c0, c1, c2, f1, f2⟩ := h.cells
  have H1 : Hid (Rdr (W.setCell ⟨b, 2, none⟩ (.int .i64 (i : Int))) b bo bc s i i ∧ Fg b W (W.setCell ⟨b, 2, none⟩ (.int .i64 (i : Int)))) := ⟨h.put2 i, Fg.set b 2 W _⟩
  clear h hr
  go_enter Tryd.func31, Tryd.ntmps31
  go_wp2_with fail
  go_loopg [3, 13] 9 (fun gq x y wr => ∃ k acc j : Nat, k ≤ 9 ∧ gq = 9 - k ∧ y = .int .i64 (k : Int) ∧ x = .int .i64 (acc : Int) ∧ Rdr wr b bo bc s j i ∧ Fg b W wr ∧ r = numL i (9 - k) k acc j (s.drop j) ∧ acc < 128 ^ k)
  case atStart => exact ⟨0, 0, i, by omega, rfl, rfl, rfl, H1.out.1, H1.out.2, HR.out, by decide⟩
  case round =>
    clear H1 c0 c1 c2 f1 f2
    obtain ⟨k, acc, j, hk, hgk, rfl, rfl, hw, hf, hn, ha⟩ := hrel
    by_cases hk9 : k < 9
    · have HT : Hid (Rdr wr b bo bc s j i ∧ Fg b W wr ∧ r = numL i (9 - k) k acc j (s.drop j) ∧ acc < 128 ^ k ∧ k < 9 ∧ gk = 9 - k) := ⟨hw, hf, hn, ha, hk9, hgk⟩
      have hk1 : (k : Int) < 9 := by omega
      clear hw hf hn ha hgk hk
      by_cases hj : j < s.length
      · have hx2 : s[j] < 256 := HT.out.1.byt _ (List.getElem_mem hj)
        obtain ⟨x, hx⟩ : ∃ x, x = s[j] := ⟨_, rfl⟩
        have hst : r = numL i ((8 - k) + 1) k acc j (x :: s.drop (j + 1)) := by rw [HT.out.2.2.1, drop_at hj, ← hx, show 9 - k = (8 - k) + 1 by omega]
        rw [numL] at hst
        have HS : Hid ((r = if x = 0 ∧ 0 < k then .die 82 i else if x < 128 then .ok (acc + x * 128 ^ k) (j + 1) (s.drop (j + 1)) else numL i (8 - k) (k + 1) (acc + (x - 128) * 128 ^ k) (j + 1) (s.drop (j + 1))) ∧ x < 256) := ⟨hst, by omega⟩
        have HN : Hid (Calls Tryd.prog 55 #[.pointer (some ⟨b, 0, none⟩)] wr fun e W' => e = .returned (.int .u8 (x : Int)) ∧ Rdr W' b bo bc s (j + 1) i ∧ Fg b wr W') := by rw [hx]; exact rnext_ok HT.out.1 hj
        clear hst hx hx2 hj
        by_cases h0 : x = 0 ∧ 0 < k
        · obtain ⟨rfl, hk0⟩ := h0
          have hr : r = .die 82 i := by rw [HS.out.1, if_pos ⟨rfl, hk0⟩]
          have hk0' : (0 : Int) < (k : Int) := by omega
          clear hk9
          go_wp2_with fail
          refine HN.out.mono ?_
          rintro e w1 ⟨rfl, hw, hf⟩
          have HE : Hid (Rdr w1 b bo bc s (j + 1) i ∧ Fg b W w1) := ⟨hw, HT.out.2.1.trans hf⟩
          clear hw hf
          go_wp2_with fail
          refine (rfail_any HE.out.1 82).mono ?_
          rintro e w2 ⟨rfl, hf⟩
          have HF : Hid (Fg b W w2) := HE.out.2.trans hf
          clear hf
          go_wp2_with fail
          exact ⟨rfl, by rw [hr]; exact ⟨rfl, HF.out⟩⟩
        · have hk0 : (x = 0 ∧ k = 0) ∨ x ≠ 0 := by omega
          have HEq : Hid (bits .or .i64 (acc : Int) (wrap64 ((x : Int) % 128 * 2 ^ (7 * k))) = ((acc + x % 128 * 128 ^ k : Nat) : Int)) := i64_add7 acc x k HT.out.2.2.2.1 (by omega)
          have hx3 : (x : Int) < 256 := by have := HS.out.2; omega
          have ec : bits .and .u8 (x : Int) 127 = (x : Int) % 128 := by rw [u8_and127 x HS.out.2]; omega
          have HX : Hid ((r = if x < 128 then .ok (acc + x * 128 ^ k) (j + 1) (s.drop (j + 1)) else numL i (8 - k) (k + 1) (acc + (x - 128) * 128 ^ k) (j + 1) (s.drop (j + 1)))) := by
            have := HS.out.1
            rw [if_neg h0] at this
            exact this
          have e0 : (((x : Int) == 0) = true ∧ ¬ (0 : Int) < (k : Int)) ∨ ((x : Int) == 0) = false := by
            rcases hk0 with ⟨rfl, rfl⟩ | h
            · exact Or.inl ⟨rfl, by omega⟩
            · exact Or.inr (by rw [beq_eq_false_iff_ne]; omega)
          clear hk9 h0 hk0
          by_cases hl : x < 128
          · have hl' : (x : Int) < 128 := by omega
            have hr : r = .ok (acc + x % 128 * 128 ^ k) (j + 1) (s.drop (j + 1)) := by rw [HX.out, if_pos hl, Nat.mod_eq_of_lt hl]
            clear hl
            rcases e0 with ⟨e0, e1⟩ | e0
            all_goals
              go_wp2_with fail
              refine HN.out.mono ?_
              rintro e w1 ⟨rfl, hw, hf⟩
              have HE : Hid (Rdr w1 b bo bc s (j + 1) i ∧ Fg b W w1) := ⟨hw, HT.out.2.1.trans hf⟩
              clear hw hf
              go_wp2_with fail
              go_ret
              rw [hr]
              exact ⟨congrArg (fun z => Ending.returned (Value.int .i64 z)) HEq.out, HE.out.1, HE.out.2⟩
          · have hl' : ¬ (x : Int) < 128 := by omega
            have hr : r = numL i (8 - k) (k + 1) (acc + x % 128 * 128 ^ k) (j + 1) (s.drop (j + 1)) := by
              rw [HX.out, if_neg hl]
              congr 2
              have := HS.out.2
              rw [show x % 128 = x - 128 by omega]
            have HA : Hid (acc + x % 128 * 128 ^ k < 128 ^ (k + 1)) := by
              have h1 : x % 128 ≤ 127 := by omega
              have h2 := Nat.mul_le_mul_right (128 ^ k) h1
              have h3 := HT.out.2.2.2.1
              show _ < _
              rw [Nat.pow_succ]
              omega
            clear hl
            rcases e0 with ⟨e0, e1⟩ | e0
            all_goals
              go_wp2_with fail
              refine HN.out.mono ?_
              rintro e w1 ⟨rfl, hw, hf⟩
              have HE : Hid (Rdr w1 b bo bc s (j + 1) i ∧ Fg b W w1) := ⟨hw, HT.out.2.1.trans hf⟩
              clear hw hf
              go_wp2_with fail
              go_roundg (9 - (k + 1))
              case measure => have := HT.out.2.2.2.2; omega
              case rel => exact ⟨k + 1, acc + x % 128 * 128 ^ k, j + 1, by have := HT.out.2.2.2.2; omega, rfl, by go_num, by rw [HEq.out], HE.out.1, HE.out.2, by rw [hr, show 9 - (k + 1) = 8 - k by omega], HA.out⟩
      · have hje : j = s.length := by have := HT.out.1.le; omega
        have hr : r = .die 81 j := by
          rw [HT.out.2.2.1, drop_end hje, show 9 - k = (8 - k) + 1 by omega]
          rfl
        clear hk9
        go_wp2_with fail
        refine (rnext_die HT.out.1 hje).mono ?_
        rintro e w1 ⟨rfl, hf⟩
        have HF : Hid (Fg b W w1) := HT.out.2.1.trans hf
        clear hf hje hj
        go_wp2_with fail
        exact ⟨rfl, by rw [hr]; exact ⟨rfl, HF.out⟩⟩
    · obtain rfl : k = 9 := by omega
      have hr : r = .die 82 i := hn
      have HW : Hid (Rdr wr b bo bc s j i ∧ Fg b W wr) := ⟨hw, hf⟩
      clear hn ha hk hgk hk9 hw hf
      go_wp2_with fail
      refine (rfail_any HW.out.1 82).mono ?_
      rintro e w1 ⟨rfl, hf⟩
      have HF : Hid (Fg b W w1) := HW.out.2.trans hf
      clear hf
      go_wp2_with fail
      exact ⟨rfl, by rw [hr]; exact ⟨rfl, HF.out⟩⟩
end Go.Proofs.YtcblichnkakhdaaDoor.Cd
