import Derived.Test.YtflcplnmeimbcaaPureLexD
namespace Go.Proofs.Ytflcplnmeimbcaa.Lx
open Go.RowKit Go.Proofs.Ytflcplnmeimbcaa.Sp

theorem letter_any (c : Nat) (w : World) : Calls Try.prog 33 #[.int .u8 c] w fun e w' => e = .returned (.bool (isL c)) ∧ w' = w := by
  have HF : Hid (isL c = ((decide (97 ≤ c) && decide (c ≤ 122)) || (decide (65 ≤ c) && decide (c ≤ 90)) || c == 95)) := rfl
  by_cases h1 : 97 ≤ c
  · by_cases h2 : c ≤ 122
    · go_enter Try.func33, Try.ntmps33
      go_wp2
      go_ret
      exact ⟨ret_b (by rw [HF.out]; simp [h1, h2]), rfl⟩
    · have h3 : ((c : Int) == 95) = false := by simp; omega
      go_enter Try.func33, Try.ntmps33
      go_wp2
      go_ret
      exact ⟨ret_b (by rw [HF.out, Bool.eq_iff_iff]; simp; omega), rfl⟩
  · by_cases h2 : 65 ≤ c
    · by_cases h3 : c ≤ 90
      · go_enter Try.func33, Try.ntmps33
        go_wp2
        go_ret
        exact ⟨ret_b (by rw [HF.out]; simp [h2, h3]), rfl⟩
      · go_enter Try.func33, Try.ntmps33
        go_wp2
        go_ret
        exact ⟨ret_b (by rw [HF.out, Bool.eq_iff_iff]; simp; omega), rfl⟩
    · have h3 : ((c : Int) == 95) = false := by simp; omega
      go_enter Try.func33, Try.ntmps33
      go_wp2
      go_ret
      exact ⟨ret_b (by rw [HF.out, Bool.eq_iff_iff]; simp; omega), rfl⟩

theorem digit_any (c : Nat) (w : World) : Calls Try.prog 34 #[.int .u8 c] w fun e w' => e = .returned (.bool (isD c)) ∧ w' = w := by
  have HF : Hid (isD c = (decide (48 ≤ c) && decide (c ≤ 57))) := rfl
  by_cases h1 : 48 ≤ c
  · go_enter Try.func34, Try.ntmps34
    go_wp2
    go_ret
    exact ⟨ret_b (by rw [HF.out, Bool.eq_iff_iff]; simp; omega), rfl⟩
  · go_enter Try.func34, Try.ntmps34
    go_wp2
    go_ret
    exact ⟨ret_b (by rw [HF.out]; simp [h1]), rfl⟩

/-- s[k] of a string -/
theorem index_any (s : ByteArray) (k : Nat) (K : Int) (hK : K = (k : Int)) (hk : k < s.size) (w : World) : (Instr.index 9 (.string s) (.int .i64 K)).run Try.prog w = .ok (.int .u8 (nb s k : Nat)) w := by
  subst hK
  rw [run_index_string w 9 s .i64 (k : Int) Try.underlying9, dif_pos ⟨by omega, by omega⟩, nb_get s k hk]
  simp

/-- a letter, and letters and digits; all of it -/
def shp (s : ByteArray) (k : Nat) : Bool := (List.range k).all fun i => isL (nb s i) || (i != 0 && isD (nb s i))
theorem shp_succ (s : ByteArray) (k : Nat) : shp s (k + 1) = (shp s k && (isL (nb s k) || (k != 0 && isD (nb s k)))) := by
  unfold shp
  rw [List.range_succ, List.all_append]
  simp
theorem shp_no {s : ByteArray} {k m : Nat} (h : (isL (nb s k) || (k != 0 && isD (nb s k))) = false) (hk : k < m) : shp s m = false := by
  cases h1 : shp s m with
  | false => rfl
  | true =>
    unfold shp at h1
    have := List.all_eq_true.1 h1 k (by simp; omega)
    rw [h] at this
    cases this

set_option maxHeartbeats 1600000 in
theorem shaped_any (s : ByteArray) (w : World) (hs : s.size ≤ 4611686018427387904) :
    Calls Try.prog 30 #[.string s] w fun e w' => e = .returned (.bool (shp s s.size && decide (0 < s.size))) ∧ w' = w := by
  go_enter Try.func30, Try.ntmps30
  go_wp2
  go_loop [3] (fun i => ∃ k : Nat, k ≤ s.size ∧ i = .int .i64 k ∧ shp s k = true) (fun i => s.size - (intOf i).toNat)
  case atStart => exact ⟨0, Nat.zero_le _, rfl, rfl⟩
  case round =>
    obtain ⟨k, hk, rfl, hr⟩ := hrel
    have HR : Hid (shp s k = true) := hr
    clear hr
    by_cases hlt : k < s.size
    · have hix := index_any s k _ rfl hlt
      by_cases hL : isL (nb s k) = true
      · have HN : Hid (shp s (k + 1) = true) := by show _ = _; rw [shp_succ, HR.out, hL]; rfl
        generalize nb s k = c at *
        go_wp2_with fail
        refine (letter_any c _).mono ?_
        rintro e w' ⟨rfl, rfl⟩
        go_wp2_with fail
        go_round
        case rel => exact ⟨k + 1, by omega, by go_num, HN.out⟩
        case measure => simp [intOf]; omega
      · have hL : isL (nb s k) = false := by simpa using hL
        by_cases h0 : k = 0
        · have hq : ((k : Int) == 0) = true := by simp [h0]
          have HN : Hid (shp s s.size = false) := shp_no (k := k) (by rw [hL, h0]; rfl) hlt
          clear h0
          generalize nb s k = c at *
          go_wp2_with fail
          refine (letter_any c _).mono ?_
          rintro e w' ⟨rfl, rfl⟩
          go_wp2_with fail
          go_ret
          exact ⟨ret_b (by rw [HN.out]; rfl), rfl⟩
        · have hq : ((k : Int) == 0) = false := by simp; omega
          by_cases hD : isD (nb s k) = true
          · have HN : Hid (shp s (k + 1) = true) := by
              show _ = _
              rw [shp_succ, HR.out, hL, hD]
              simp [h0]
            generalize nb s k = c at *
            go_wp2_with fail
            refine (letter_any c _).mono ?_
            rintro e w' ⟨rfl, rfl⟩
            go_wp2_with fail
            refine (digit_any c _).mono ?_
            rintro e w' ⟨rfl, rfl⟩
            go_wp2_with fail
            go_round
            case rel => exact ⟨k + 1, by omega, by go_num, HN.out⟩
            case measure => simp [intOf]; omega
          · have hD : isD (nb s k) = false := by simpa using hD
            have HN : Hid (shp s s.size = false) := shp_no (k := k) (by rw [hL, hD]; simp) hlt
            generalize nb s k = c at *
            go_wp2_with fail
            refine (letter_any c _).mono ?_
            rintro e w' ⟨rfl, rfl⟩
            go_wp2_with fail
            refine (digit_any c _).mono ?_
            rintro e w' ⟨rfl, rfl⟩
            go_wp2_with fail
            go_ret
            exact ⟨ret_b (by rw [HN.out]; rfl), rfl⟩
    · obtain rfl : k = s.size := by omega
      go_wp2_with fail
      go_ret
      exact ⟨ret_b (by rw [HR.out]; simp), rfl⟩

/-- does t stand in K at i, a byte 32 on both sides? -/
theorem occurs_iff {K t : List Nat} {i : Nat} (h : i + t.length + 2 ≤ K.length) : Occurs K t i ↔ (K.getD i 0 = 32 ∧ K.getD (i + t.length + 1) 0 = 32 ∧ (K.drop (i + 1)).take t.length = t) := by
  constructor
  · rintro ⟨a, b, rfl, rfl⟩
    refine ⟨by simp [List.getD], ?_, ?_⟩
    · have : (a ++ 32 :: (t ++ 32 :: b))[a.length + t.length + 1]? = some 32 := by
        rw [List.getElem?_append_right (by omega), show a.length + t.length + 1 - a.length = t.length + 1 by omega, List.getElem?_cons_succ, List.getElem?_append_right (by omega)]
        simp
      rw [List.getD, this]; rfl
    · rw [← List.drop_drop, List.drop_left]
      simp
  · rintro ⟨h1, h2, h3⟩
    refine ⟨K.take i, K.drop (i + t.length + 2), ?_, by simp; omega⟩
    have e1 : K.drop i = 32 :: K.drop (i + 1) := by
      rw [List.drop_eq_getElem_cons (by omega)]
      rw [List.getD, List.getElem?_eq_getElem (by omega)] at h1
      simp only [Option.getD_some] at h1
      rw [h1]
    have e2 : K.drop (i + 1) = t ++ K.drop (i + 1 + t.length) := by
      have := (List.take_append_drop t.length (K.drop (i + 1))).symm
      rw [h3, List.drop_drop] at this
      exact this
    have e3 : K.drop (i + 1 + t.length) = 32 :: K.drop (i + t.length + 2) := by
      rw [List.drop_eq_getElem_cons (by omega)]
      rw [List.getD, List.getElem?_eq_getElem (by omega)] at h2
      simp only [Option.getD_some] at h2
      rw [show i + 1 + t.length + 1 = i + t.length + 2 by omega]
      congr 1
      rw [← h2]
      congr 1
      omega
    rw [← e3, ← e2, ← e1, List.take_append_drop]
theorem occurs_len {K t : List Nat} {i : Nat} (h : Occurs K t i) : i + t.length + 2 ≤ K.length := by
  obtain ⟨a, b, rfl, rfl⟩ := h
  simp; omega
/-- what among tells -/
def am (K t : List Nat) : Bool := decide (0 < t.length) && t.all (· != 32) && decide (t ∈ inner K)
theorem am_blank {K t : List Nat} {i : Nat} (hi : i < t.length) (h : t.getD i 0 = 32) : am K t = false := by
  have : t.all (· != 32) = false := by
    rw [Bool.eq_false_iff]
    intro h1
    have := List.all_eq_true.1 h1 t[i] (List.getElem_mem _)
    rw [List.getD, List.getElem?_eq_getElem hi] at h
    simp only [Option.getD_some] at h
    rw [h] at this
    cases this
  simp [am, this]
theorem am_hit {K t : List Nat} {i : Nat} (h32 : ∀ j, j < t.length → t.getD j 0 ≠ 32) (h : Occurs K t i) : am K t = decide (0 < t.length) := by
  have h1 : ∀ c ∈ t, c ≠ 32 := fun c hc => by
    obtain ⟨j, hj, rfl⟩ := List.getElem_of_mem hc
    have := h32 j hj
    rw [List.getD, List.getElem?_eq_getElem hj] at this
    exact this
  have h2 : t.all (· != 32) = true := List.all_eq_true.2 fun c hc => by simpa using h1 c hc
  simp [am, h2, (inner_iff h1).2 ⟨i, h⟩]
theorem am_none {K t : List Nat} (h32 : ∀ j, j < t.length → t.getD j 0 ≠ 32) (h : ∀ i, ¬ Occurs K t i) : am K t = false := by
  have h1 : ∀ c ∈ t, c ≠ 32 := fun c hc => by
    obtain ⟨j, hj, rfl⟩ := List.getElem_of_mem hc
    have := h32 j hj
    rw [List.getD, List.getElem?_eq_getElem hj] at this
    exact this
  have h2 : ¬ t ∈ inner K := fun h3 => by
    obtain ⟨i, h4⟩ := (inner_iff h1).1 h3
    exact h i h4
  simp [am, h2]
end Go.Proofs.Ytflcplnmeimbcaa.Lx
