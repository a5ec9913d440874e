import Derived.Test.YtflcplnmeimbcaaLxRefA
namespace Go.Proofs.Ytflcplnmeimbcaa.Lx
open Go.RowKit Go.Proofs.Ytflcplnmeimbcaa.Sp

/-- s[l:h] of a string -/
theorem sub_any (s : ByteArray) (l h : Nat) (L H : Int) (hL : L = (l : Int)) (hH : H = (h : Int)) (h1 : l ≤ h) (h2 : h ≤ s.size) (w : World) : (Instr.slice 9 (.string s) (some (.int .i64 L)) (some (.int .i64 H)) none).run Try.prog w = .ok (.string (s.extract l h)) w := by
  subst hL hH
  have := run_slice_string (P := Try.prog) w 9 s .i64 .i64 (l : Int) (h : Int) Try.underlying9 (by omega) (by omega) (by omega)
  simpa using this

set_option maxHeartbeats 3200000 in
theorem among_any (K t : ByteArray) (w : World) (hK : K.size ≤ 4096) (ht : t.size ≤ 4611686018427387000) :
    Calls Try.prog 26 #[.string K, .string t] w fun e w' => e = .returned (.bool (am (tx K) (tx t))) ∧ w' = w := by
  have HL : Hid ((tx t).length = t.size ∧ (tx K).length = K.size) := ⟨tx_len t, tx_len K⟩
  go_enter Try.func26, Try.ntmps26
  go_wp2
  go_loop [6] (fun i => ∃ k : Nat, k ≤ t.size ∧ i = .int .i64 k ∧ ∀ j, j < k → nb t j ≠ 32) (fun i => t.size - (intOf i).toNat)
  case atStart => exact ⟨0, Nat.zero_le _, rfl, fun j hj => by omega⟩
  case round =>
    obtain ⟨k, hk, rfl, hr⟩ := hrel
    have HR : Hid (∀ j, j < k → nb t j ≠ 32) := hr
    clear hr
    by_cases hlt : k < t.size
    · have hix := index_any t k _ rfl hlt
      by_cases h32 : nb t k = 32
      · have hq : ((nb t k : Int) == 32) = true := by simp [h32]
        have HN : Hid (am (tx K) (tx t) = false) := am_blank (i := k) (by rw [HL.out.1]; exact hlt) h32
        clear h32
        generalize nb t k = c at *
        go_wp2
        go_ret
        exact ⟨ret_b HN.out.symm, rfl⟩
      · have hq : ((nb t k : Int) == 32) = false := by simp; omega
        have HN : Hid (∀ j, j < k + 1 → nb t j ≠ 32) := fun j hj => by
          by_cases e : j = k
          · rw [e]; exact h32
          · exact HR.out j (by omega)
        clear h32
        generalize nb t k = c at *
        go_wp2
        go_round
        case rel => exact ⟨k + 1, by omega, by go_num, HN.out⟩
        case measure => simp [intOf]; omega
    · obtain rfl : k = t.size := by omega
      have hd : decide ((t.size : Int) < (t.size : Int)) = false := by simp
      go_wp2
      clear hd hlt hk
      go_loop [7] (fun i => ∃ k : Nat, k ≤ K.size ∧ i = .int .i64 k ∧ ∀ j, j < k → ¬ Occurs (tx K) (tx t) j) (fun i => K.size - (intOf i).toNat)
      case atStart => exact ⟨0, Nat.zero_le _, rfl, fun j hj => by omega⟩
      case round =>
        obtain ⟨k, hk, rfl, hr⟩ := hrel
        have HO : Hid (∀ j, j < k → ¬ Occurs (tx K) (tx t) j) := hr
        clear hr
        by_cases hin : k + t.size + 2 ≤ K.size
        · have HI : Hid (Occurs (tx K) (tx t) k ↔ (nb K k = 32 ∧ nb K (k + t.size + 1) = 32 ∧ (K.extract (k + 1) (k + t.size + 1)).toList = t.toList)) := by
            have h1 := occurs_iff (K := tx K) (t := tx t) (i := k) (by rw [HL.out.1, HL.out.2]; exact hin)
            rw [HL.out.1] at h1
            show _ ↔ _
            rw [h1]
            refine and_congr Iff.rfl (and_congr Iff.rfl ?_)
            have h2 : ((tx K).drop (k + 1)).take t.size = tx (K.extract (k + 1) (k + t.size + 1)) := by
              rw [tx_extract, show k + t.size + 1 - (k + 1) = t.size by omega]
            rw [h2, tx_toList, tx_toList]
            exact List.map_inj_right (fun x y e => UInt8.toNat_inj.1 e)
          have HN : Hid (¬ Occurs (tx K) (tx t) k → ∀ j, j < k + 1 → ¬ Occurs (tx K) (tx t) j) := fun h1 j hj => by
            by_cases e : j = k
            · rw [e]; exact h1
            · exact HO.out j (by omega)
          have hx1 := index_any K k _ rfl (by omega)
          have hx2 := index_any K (k + t.size + 1) ((k : Int) + ((t.size : Int) + 2) - 1) (by omega) (by omega)
          have hx3 := sub_any K (k + 1) (k + t.size + 1) ((k : Int) + 1) ((k : Int) + ((t.size : Int) + 2) - 1) (by omega) (by omega) (by omega) (by omega)
          have hle : (k : Int) + ((t.size : Int) + 2) ≤ (K.size : Int) := by omega
          generalize K.extract (k + 1) (k + t.size + 1) = X at *
          generalize nb K k = c at *
          generalize nb K (k + t.size + 1) = d at *
          by_cases h1 : c = 32
          · have q1 : ((c : Int) == 32) = true := by simp; omega
            by_cases h2 : d = 32
            · have q2 : ((d : Int) == 32) = true := by simp; omega
              by_cases h3 : X.toList = t.toList
              · have q3 : (X.toList == t.toList) = true := by simp [h3]
                have HA : Hid (am (tx K) (tx t) = decide (0 < (tx t).length)) := am_hit (fun j hj => HR.out j (by rw [HL.out.1] at hj; exact hj)) (HI.out.2 ⟨h1, h2, h3⟩)
                clear h1 h2 h3
                go_wp2
                go_ret
                exact ⟨ret_b (by rw [HA.out, HL.out.1, Bool.eq_iff_iff]), rfl⟩
              · have q3 : (X.toList == t.toList) = false := by simpa using h3
                have HM : Hid (∀ j, j < k + 1 → ¬ Occurs (tx K) (tx t) j) := HN.out fun h => h3 (HI.out.1 h).2.2
                clear h1 h2 h3
                go_wp2
                go_round
                case rel => exact ⟨k + 1, by omega, by go_num, HM.out⟩
                case measure => simp [intOf]; omega
            · have q2 : ((d : Int) == 32) = false := by simp; omega
              have HM : Hid (∀ j, j < k + 1 → ¬ Occurs (tx K) (tx t) j) := HN.out fun h => h2 (HI.out.1 h).2.1
              clear h1 h2 hx3
              go_wp2
              go_round
              case rel => exact ⟨k + 1, by omega, by go_num, HM.out⟩
              case measure => simp [intOf]; omega
          · have q1 : ((c : Int) == 32) = false := by simp; omega
            have HM : Hid (∀ j, j < k + 1 → ¬ Occurs (tx K) (tx t) j) := HN.out fun h => h1 (HI.out.1 h).1
            clear h1 hx2 hx3
            go_wp2
            go_round
            case rel => exact ⟨k + 1, by omega, by go_num, HM.out⟩
            case measure => simp [intOf]; omega
        · have HA : Hid (am (tx K) (tx t) = false) := am_none (fun j hj => HR.out j (by rw [HL.out.1] at hj; exact hj)) fun i hi => by
            have h1 := occurs_len hi
            rw [HL.out.1, HL.out.2] at h1
            exact HO.out i (by omega) hi
          have hd : decide ((k : Int) + ((t.size : Int) + 2) ≤ (K.size : Int)) = false := by simp; omega
          go_wp2
          go_ret
          exact ⟨ret_b HA.out.symm, rfl⟩

theorem am_kept (t : List Nat) : am keptText t = kp t := by
  unfold am kp
  rw [inner_kept, Bool.eq_iff_iff]
  simp only [Bool.and_eq_true, decide_eq_true_eq, List.contains_iff_mem]
  constructor
  · exact fun h => h.2
  · intro h
    have h1 := shaped_of_kept (t := t) (by simpa using h)
    refine ⟨⟨?_, ?_⟩, h⟩
    · cases t with
      | nil => cases h1.1
      | cons => simp
    · cases t with
      | nil => rfl
      | cons c r =>
        simp only [shaped, Bool.and_eq_true] at h1
        refine List.all_eq_true.2 fun x hx => ?_
        have h2 : isW x = true := by
          rcases List.mem_cons.1 hx with rfl | h3
          · exact isL_W _ h1.1.1
          · exact List.all_eq_true.1 h1.1.2 x h3
        by_cases e : x = 32
        · subst e; cases h2
        · simpa using e

theorem among_at (K t : ByteArray) (k : List Nat) (w : World) (h : tx K = k ∧ K.size ≤ 4096) (ht : t.size ≤ 4611686018427387000) :
    Calls Try.prog 26 #[.string K, .string t] w fun e w' => e = .returned (.bool (am k (tx t))) ∧ w' = w := by
  rw [← h.1]; exact among_any K t w h.2 ht

set_option maxRecDepth 100000 in
theorem refIs_any (s : ByteArray) (w : World) (hs : s.size ≤ 4611686018427387000) : Calls Try.prog 17 #[.string s] w fun e w' => e = .returned (.bool (kp (tx s))) ∧ w' = w := by
  rw [← am_kept]
  go_enter Try.func17, Try.ntmps17
  go_wp2_with fail
  refine (among_at _ s keptText _ (by decide +kernel) hs).mono ?_
  rintro e w' ⟨rfl, rfl⟩
  go_wp2
  go_ret
  exact ⟨rfl, rfl⟩

theorem shp_shaped (s : ByteArray) : (shp s s.size && decide (0 < s.size)) = shaped (tx s) := by
  by_cases h : 0 < s.size
  · have e : tx s = nb s 0 :: (tx s).drop 1 := by have := tx_drop h; simpa using this
    rw [e, Bool.eq_iff_iff]
    simp only [shaped, Bool.and_eq_true, decide_eq_true_eq, h, and_true]
    have hl : ((tx s).drop 1).length = s.size - 1 := drop_len s 1
    have hg : ∀ i (hi : i < ((tx s).drop 1).length), ((tx s).drop 1)[i] = nb s (i + 1) := fun i hi => by
      have hi2 : 1 + i < (tx s).length := by rw [tx_len]; omega
      rw [List.getElem_drop, nb, List.getD, show i + 1 = 1 + i by omega, List.getElem?_eq_getElem hi2]
      rfl
    constructor
    · intro h1
      unfold shp at h1
      have h2 := List.all_eq_true.1 h1
      refine ⟨by have := h2 0 (by simp; omega); simpa using this, List.all_eq_true.2 fun c hc => ?_⟩
      obtain ⟨i, hi, rfl⟩ := List.getElem_of_mem hc
      have := h2 (i + 1) (by simp; omega)
      rw [hg]
      simpa [isW] using this
    · rintro ⟨h1, h2⟩
      unfold shp
      refine List.all_eq_true.2 fun i hi => ?_
      cases i with
      | zero => simp [h1]
      | succ i =>
        have hi2 : i < ((tx s).drop 1).length := by simp at hi; omega
        have := List.all_eq_true.1 h2 _ (List.getElem_mem hi2)
        rw [hg] at this
        simpa [isW] using this
  · have e : tx s = [] := by
      apply List.eq_nil_of_length_eq_zero
      rw [tx_len]; omega
    rw [e]
    simp [shaped, h]

set_option maxHeartbeats 800000 in
theorem refIsName_any (s : ByteArray) (w : World) (hs : s.size ≤ 4611686018427387000) : Calls Try.prog 19 #[.string s] w fun e w' => e = .returned (.bool (isName (tx s))) ∧ w' = w := by
  have HF : Hid (isName (tx s) = (decide (s.size ≤ 64) && shaped (tx s) && !kp (tx s))) := by
    show _ = _
    unfold isName kp
    rw [tx_len]
  generalize isName (tx s) = z at *
  have HS : Hid (∀ w, Calls Try.prog 30 #[.string s] w fun e w' => e = .returned (.bool (shaped (tx s))) ∧ w' = w) := fun w => by
    have := shaped_any s w (by omega)
    rw [shp_shaped] at this
    exact this
  have HI : Hid (∀ w, Calls Try.prog 17 #[.string s] w fun e w' => e = .returned (.bool (kp (tx s))) ∧ w' = w) := fun w => refIs_any s w hs
  generalize shaped (tx s) = y at *
  generalize kp (tx s) = x at *
  by_cases h64 : s.size ≤ 64
  · cases y with
    | false =>
      go_enter Try.func19, Try.ntmps19
      go_wp2_with (first | (go_at_call 30; refine (HS.out _).mono ?_; rintro e w' ⟨rfl, rfl⟩) | (go_at_call 17; refine (HI.out _).mono ?_; rintro e w' ⟨rfl, rfl⟩))
      go_ret
      exact ⟨ret_b (by rw [HF.out]; simp), rfl⟩
    | true =>
      go_enter Try.func19, Try.ntmps19
      go_wp2_with (first | (go_at_call 30; refine (HS.out _).mono ?_; rintro e w' ⟨rfl, rfl⟩) | (go_at_call 17; refine (HI.out _).mono ?_; rintro e w' ⟨rfl, rfl⟩))
      go_ret
      exact ⟨ret_b (by rw [HF.out]; simp [h64]), rfl⟩
  · have hd : decide ((s.size : Int) ≤ 64) = false := by simp; omega
    go_enter Try.func19, Try.ntmps19
    go_wp2_with (first | (go_at_call 30; refine (HS.out _).mono ?_; rintro e w' ⟨rfl, rfl⟩) | (go_at_call 17; refine (HI.out _).mono ?_; rintro e w' ⟨rfl, rfl⟩))
    go_ret
    exact ⟨ret_b (by rw [HF.out]; simp [h64]), rfl⟩
end Go.Proofs.Ytflcplnmeimbcaa.Lx
