import Derived.Test.YtflcplnmeimbcabLxTok
import Derived.Laws.IdiomStrings
import Derived.Lib.ConvBytes
namespace Go.Proofs.Ytflcplnmeimbcab.Lx
open Go.RowKit Go.Proofs.Ytflcplnmeimbcab.Sp

/-- what Scan tells of a text -/
def full (s : ByteArray) : Res := if 1048576 < s.size then .fault 2 0 else sc s 0 0
theorem full_long {s : ByteArray} (h : 1048576 < s.size) : full s = .fault 2 0 := by unfold full; rw [if_pos h]
theorem full_short {s : ByteArray} (h : s.size ≤ 1048576) : full s = sc s 0 0 := by unfold full; rw [if_neg (by omega)]

theorem TokRow.two {w : World} {base base' b : Nat} {v x y : Value} {ts : List Tok} (h : TokRow w base v ts) (hb : b < base) (hl : base' ≤ base) : TokRow ((w.setCell ⟨b, 0, none⟩ x).setCell ⟨b, 1, none⟩ y) base' v ts := by
  unfold TokRow at h ⊢
  exact Go.Joins.ownsRow_le (ownsRow_setCell_below (ownsRow_setCell_below h (a := ⟨b, 0, none⟩) (by show b < _; omega) _) (a := ⟨b, 1, none⟩) (by show b < _; omega) _) hl

set_option maxHeartbeats 1600000 in
theorem scan_any (ao : Option Addr) (s : ByteArray) (cap : Nat) (w : World) (h : IsBytes w ao s) (hc : s.size ≤ cap) :
    Calls Try.prog 5 #[.slice ao s.size cap] w fun e w' => Told (full s) w.heap.size w' e ∧ Below w.heap.size w w' := by
  by_cases hs : 1048576 < s.size
  · rw [full_long hs]
    clear h
    go_enter Try.func5, Try.ntmps5
    go_wp2
    refine bodyPost_ret (v := .tuple #[.slice none 0 0, .agg #[.int .i64 2, .int .i64 0]]) (by simp [results, Try.results5, go_sem]) rfl ⟨rfl, (Below.refl _ w).alloc (Nat.le_refl _) _⟩
  · have hs' : s.size ≤ 1048576 := by omega
    rw [full_short hs']
    have HP : Hid (Below w.heap.size w (w.alloc (.cells #[.int .i64 0, .int .i64 0] 28))) := (Below.refl _ w).alloc (Nat.le_refl _) _
    have HB : Hid (IsBytes (w.alloc (.cells #[.int .i64 0, .int .i64 0] 28)) ao s) := h.below HP.out
    have hd : decide ((1048576 : Int) < (s.size : Int)) = false := by simp; omega
    clear h hs
    obtain ⟨R, HR⟩ : ∃ R, Hid (R = sc s 0 0) := ⟨_, rfl⟩
    rw [← HR.out]
    go_enter Try.func5, Try.ntmps5
    go_wp2_with fail
    refine (tokens_any ao s cap _ HB.out hc (by omega)).mono ?_
    rintro e w1 ⟨hT, hB⟩
    rw [← HR.out] at hT
    have hsz := hB.size
    simp only [World.size_alloc] at hsz hT hB
    have hblk : w1.heap[w.heap.size]? = some (.cells #[.int .i64 0, .int .i64 0] 28 (0, 0)) := (hB.block w.heap.size (by omega)).trans (heap_alloc_new w _)
    have hf0 : w1.cell? ⟨w.heap.size, 0, none⟩ = some (.int .i64 0) := by simp [World.cell?, hblk]
    have hf1 : w1.cell? ⟨w.heap.size, 1, none⟩ = some (.int .i64 0) := by simp [World.cell?, hblk]
    have hfz : ∀ i, w1.frozen? ⟨w.heap.size, i, none⟩ = false := fun i => by simp [World.frozen?, hblk]
    have hfz0 := hfz 0
    have hfz1 := hfz 1
    have HZ : Hid (Below w.heap.size w w1) := HP.out.trans (hB.mono (by omega))
    clear hblk hB
    cases R with
    | ok ts =>
      obtain ⟨v, rfl, hrow⟩ := hT
      have HRow : Hid (TokRow w1 (w.heap.size + 1) v ts) := hrow
      clear hrow
      go_wp2
      refine bodyPost_ret (v := .tuple #[v, .agg #[.int .i64 0, .int .i64 0]]) (by simp [results, Try.results5, go_sem, hf0, hf1]) rfl ⟨⟨v, rfl, HRow.out.two (by omega) (by omega)⟩, HZ.out.trans (below_two _ _ _ _)⟩
    | fault er i =>
      have he : e = .returned (.tuple #[.slice none 0 0, .agg #[.int .i64 er, .int .i64 i]]) := hT
      subst he
      clear hT
      go_wp2
      refine bodyPost_ret (v := .tuple #[.slice none 0 0, .agg #[.int .i64 er, .int .i64 i]]) (by simp [results, Try.results5, go_sem, hf0, hf1]) rfl ⟨rfl, HZ.out.trans (below_two _ _ _ _)⟩

/-- []byte(s) of a string: bytes of its own -/
theorem bytes_any {T : TypeId} (hT : Try.prog.underlying T = some (.slice 5)) (s : ByteArray) (w : World) : ∃ cap w', (convert 9 T (.string s)).run Try.prog w = .ok (.slice (some ⟨w.heap.size, 0, none⟩) s.size cap) w' ∧ IsBytes w' (some ⟨w.heap.size, 0, none⟩) s ∧ Below w.heap.size w w' ∧ s.size ≤ cap := by
  have h1 := Lib.run_convert_string_bytes (P := Try.prog) w 9 T 5 s Try.underlying9 hT Try.underlying5
  refine ⟨_, _, h1, fun i hi => ⟨w.heap.size, 0, rfl, by rw [Lib.bytesWorld_size]; omega, ?_⟩, ⟨?_, ?_, ?_, ?_, fun k hk => Lib.bytesWorld_at_old w 5 s k hk⟩, grownCap_ge w s.size 0 5⟩
  · have := Lib.bytesWorld_cell w 5 s i hi
    rw [Nat.zero_add, this, nb_get s i hi]
    have e : s.data.toList[i]? = some s[i] := byte_at s i hi
    simp only [List.getD, e, Option.getD_some]
  · simp [Lib.bytesWorld, World.freeze, World.alloc, World.drew, -World.alloc_eq, -World.drew_eq]
  · simp [Lib.bytesWorld, World.freeze, World.alloc, World.drew, -World.alloc_eq, -World.drew_eq]
  · simp [Lib.bytesWorld, World.freeze, World.alloc, World.drew, -World.alloc_eq, -World.drew_eq]
  · rw [Lib.bytesWorld_size]; omega

/-- s[k] of a string -/
theorem at_any (s : ByteArray) (k : Nat) (K : Int) (hK : K = (k : Int)) (hk : k < s.size) (w : World) : (Instr.index 9 (.string s) (.int .i64 K)).run Try.prog w = .ok (.int .u8 (nb s k : Nat)) w := by
  subst hK
  rw [run_index_string w 9 s .i64 (k : Int) Try.underlying9, dif_pos ⟨by omega, by omega⟩, nb_get s k hk]
  simp

theorem shaped_iff {s : ByteArray} (h : 0 < s.size) : shaped (tx s) = (isL (nb s 0) && decide (ru isW s 1 = s.size)) := by
  have e : tx s = nb s 0 :: (tx s).drop 1 := by have := tx_drop h; simpa using this
  rw [e]
  simp only [shaped]
  congr 1
  rw [Bool.eq_iff_iff, decide_eq_true_eq]
  have hl : ((tx s).drop 1).length = s.size - 1 := drop_len s 1
  constructor
  · intro h1
    unfold ru
    rw [takeWhile_all (List.all_eq_true.1 h1), hl]
    omega
  · intro h1
    unfold ru at h1
    refine List.all_eq_true.2 fun c hc => ?_
    have h2 : ((tx s).drop 1).takeWhile isW = (tx s).drop 1 := by
      have h3 := takeWhile_take (p := isW) ((tx s).drop 1)
      rw [← h3, List.take_of_length_le (by omega)]
    rw [← h2] at hc
    exact takeWhile_mem _ hc
theorem isName_of (s : ByteArray) : isName (tx s) = (decide (0 < s.size) && decide (s.size ≤ 64) && !kp (tx s) && isL (nb s 0) && decide (ru isW s 1 = s.size)) := by
  by_cases h : 0 < s.size
  · unfold isName
    rw [shaped_iff h, tx_len]
    show _ = (_ && _ && !kept.contains (tx s) && _ && _)
    rw [Bool.eq_iff_iff]
    simp [h]
    constructor
    · rintro ⟨⟨a, b, c⟩, d⟩; exact ⟨⟨⟨a, d⟩, b⟩, c⟩
    · rintro ⟨⟨⟨a, d⟩, b⟩, c⟩; exact ⟨⟨a, b, c⟩, d⟩
  · have e : tx s = [] := by
      apply List.eq_nil_of_length_eq_zero
      rw [tx_len]; omega
    rw [e]
    simp [isName, shaped, h]

set_option maxHeartbeats 1600000 in
theorem isName_any (s : ByteArray) (w : World) : Calls Try.prog 11 #[.string s] w fun e w' => e = .returned (.bool (isName (tx s))) ∧ Below w.heap.size w w' := by
  have HF : Hid (isName (tx s) = (decide (0 < s.size) && decide (s.size ≤ 64) && !kp (tx s) && isL (nb s 0) && decide (ru isW s 1 = s.size))) := isName_of s
  generalize isName (tx s) = z at *
  have HL : Hid (s.toList.length = s.size) := by rw [Lib.toList_data]; simp [Hid]
  by_cases h0 : s.size = 0
  · have e0 : s.toList = [] := List.eq_nil_of_length_eq_zero (by rw [HL.out, h0])
    have HZ : Hid (z = false) := by show _ = _; rw [HF.out, h0]; rfl
    go_enter Try.func11, Try.ntmps11
    go_wp2
    go_ret
    exact ⟨ret_b HZ.out.symm, Below.refl _ _⟩
  · have e0 : s.toList.isEmpty = false := by
      cases h1 : s.toList with
      | nil => have := HL.out; rw [h1] at this; simp at this; omega
      | cons => rfl
    have e1 : (s.toList == []) = false := by
      cases h1 : s.toList with
      | nil => rw [h1] at e0; cases e0
      | cons => rfl
    by_cases h64 : 64 < s.size
    · have HZ : Hid (z = false) := by
        show _ = _
        rw [HF.out]
        have : decide (s.size ≤ 64) = false := by simp; omega
        rw [this]; simp
      go_enter Try.func11, Try.ntmps11
      go_wp2
      go_ret
      exact ⟨ret_b HZ.out.symm, Below.refl _ _⟩
    · have hd : decide ((64 : Int) < (s.size : Int)) = false := by simp; omega
      have HD : Hid (decide (0 < s.size) = true ∧ decide (s.size ≤ 64) = true) := ⟨by simp; omega, by simp; omega⟩
      by_cases hkp : kp (tx s) = true
      · have HZ : Hid (z = false) := by show _ = _; rw [HF.out, hkp]; simp
        go_enter Try.func11, Try.ntmps11
        go_wp2_with (go_at_call 10; refine (is_any s _).mono ?_; rintro e w' ⟨rfl, rfl⟩)
        go_ret
        exact ⟨ret_b HZ.out.symm, Below.refl _ _⟩
      · have hkp : kp (tx s) = false := by simpa using hkp
        have hix := at_any s 0 0 rfl (by omega)
        by_cases hl : isL (nb s 0) = true
        · have HZ : Hid (z = decide ((ru isW s 1 : Int) = (s.size : Int))) := by
            show _ = _
            rw [HF.out, HD.out.1, HD.out.2, hkp, hl, Bool.eq_iff_iff]
            simp
            omega
          obtain ⟨cap, w1, hcv, hB1, hbel, hcap⟩ := bytes_any Try.underlying39 s w
          have HB1 : Hid (IsBytes w1 (some ⟨w.heap.size, 0, none⟩) s) := hB1
          have HE : Hid (Below w.heap.size w w1) := hbel
          clear hB1 hbel
          go_enter Try.func11, Try.ntmps11
          go_wp2_with (first | (go_at_call 10; refine (is_any s _).mono ?_; rintro e w' ⟨rfl, rfl⟩) | (go_at_call 13; refine (beginsWord_any _ _).mono ?_; rintro e w' ⟨rfl, rfl⟩) | (go_at_call 14; refine (whileWord _ s cap 1 _ HB1.out (by omega) (by omega)).mono ?_; rintro e w' ⟨rfl, rfl⟩))
          go_ret
          exact ⟨ret_b (by rw [HZ.out]; rfl), HE.out⟩
        · have hl : isL (nb s 0) = false := by simpa using hl
          have HZ : Hid (z = false) := by show _ = _; rw [HF.out, hl]; simp
          go_enter Try.func11, Try.ntmps11
          go_wp2_with (first | (go_at_call 10; refine (is_any s _).mono ?_; rintro e w' ⟨rfl, rfl⟩) | (go_at_call 13; refine (beginsWord_any _ _).mono ?_; rintro e w' ⟨rfl, rfl⟩))
          go_ret
          exact ⟨ret_b HZ.out.symm, Below.refl _ _⟩
end Go.Proofs.Ytflcplnmeimbcab.Lx
