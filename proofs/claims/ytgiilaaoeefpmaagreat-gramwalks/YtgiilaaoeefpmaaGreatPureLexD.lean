import Derived.Test.YtgiilaaoeefpmaaGreatLxIs
namespace Go.Proofs.YtgiilaaoeefpmaaGreat.Lx
open Go.Proofs.YtgiilaaoeefpmaaGreat.Sp

/-- the tokens from place i on, k of them ahead -/
def sc (s : ByteArray) (i k : Nat) : Res := scan ((tx s).drop i) i k

theorem drop_len (s : ByteArray) (i : Nat) : ((tx s).drop i).length = s.size - i := by rw [List.length_drop, tx_len]
theorem place {s : ByteArray} {i : Nat} (hi : i ≤ s.size) : i + (((tx s).drop i).length - ((tx s).drop (bl s i)).length) = bl s i := by
  have h1 := bl_ge hi
  have h2 := bl_le s i
  rw [drop_len, drop_len]; omega
theorem drop_ne {s : ByteArray} {a : Nat} (h : a < s.size) : (tx s).drop a ≠ [] := by rw [tx_drop h]; simp

theorem sc_end {s : ByteArray} {i k : Nat} (hi : i ≤ s.size) (h : bl s i = s.size) : sc s i k = .ok [⟨0, s.size, s.size, 0⟩] := by
  have e := bl_drop hi
  rw [h, tx_drop_end (Nat.le_refl _)] at e
  rw [sc, scan_nil e.symm, drop_len, show i + (s.size - i) = s.size by omega]
theorem sc_many {s : ByteArray} {i k : Nat} (hi : i ≤ s.size) (h : bl s i < s.size) (hk : k = 65536) : sc s i k = .fault 3 (bl s i) := by
  rw [sc, scan_many (bl_drop hi).symm (drop_ne h) hk, place hi]
theorem sc_byte {s : ByteArray} {i k : Nat} (hi : i ≤ s.size) (h : bl s i < s.size) (hk : k ≠ 65536) (hp : piece ((tx s).drop (bl s i)) = none) : sc s i k = .fault 11 (bl s i) := by
  rw [sc, scan_byte (bl_drop hi).symm (drop_ne h) hk hp, place hi]
theorem sc_name {s : ByteArray} {i k n : Nat} (hi : i ≤ s.size) (h : bl s i < s.size) (hk : k ≠ 65536) (hp : piece ((tx s).drop (bl s i)) = some (2, n)) (hn : 64 < n) : sc s i k = .fault 13 (bl s i) := by
  rw [sc, scan_name (bl_drop hi).symm (drop_ne h) hk hp hn, place hi]
theorem sc_number {s : ByteArray} {i k n : Nat} (hi : i ≤ s.size) (h : bl s i < s.size) (hk : k ≠ 65536) (hp : piece ((tx s).drop (bl s i)) = some (3, n)) (hv : 1073741824 < val 0 (((tx s).drop (bl s i)).take n)) : sc s i k = .fault 12 (bl s i) := by
  rw [sc, scan_number (bl_drop hi).symm (drop_ne h) hk hp (by simp) (by simpa [num] using hv), place hi]
theorem sc_tok {s : ByteArray} {i k kd n : Nat} (hi : i ≤ s.size) (h : bl s i < s.size) (hk : k ≠ 65536) (hp : piece ((tx s).drop (bl s i)) = some (kd, n)) (hn : ¬ (kd = 2 ∧ 64 < n)) (hv : ¬ 1073741824 < num kd (((tx s).drop (bl s i)).take n)) :
    sc s i k = (sc s (bl s i + n) (k + 1)).cons ⟨kd, bl s i, bl s i + n, num kd (((tx s).drop (bl s i)).take n)⟩ := by
  rw [sc, scan_tok (bl_drop hi).symm (drop_ne h) hk hp hn hv, place hi, List.drop_drop, sc]

theorem run_eq {p : Nat → Bool} {s : ByteArray} {a : Nat} : ((tx s).drop a).take (ru p s a - a) = ((tx s).drop a).takeWhile p := by
  have : ru p s a - a = (((tx s).drop a).takeWhile p).length := by unfold ru; omega
  rw [this, takeWhile_take]
theorem head_run {p q : Nat → Bool} (hpq : ∀ c, p c = true → q c = true) {s : ByteArray} {a : Nat} (h : a < s.size) (hp : p (nb s a) = true) : nb s a :: ((tx s).drop (a + 1)).takeWhile q = tx (s.extract a (ru q s a)) ∧ (((tx s).drop (a + 1)).takeWhile q).length + 1 = ru q s a - a := by
  have e : ((tx s).drop a).takeWhile q = nb s a :: ((tx s).drop (a + 1)).takeWhile q := by rw [tx_drop h, List.takeWhile_cons, if_pos (hpq _ hp)]
  refine ⟨by rw [tx_extract, run_eq, e], ?_⟩
  have : ru q s a - a = (((tx s).drop a).takeWhile q).length := by unfold ru; omega
  rw [this, e, List.length_cons]
theorem isL_W (c : Nat) (h : isL c = true) : isW c = true := by simp [isW, h]

theorem piece_word {s : ByteArray} {a : Nat} (h : a < s.size) (hl : isL (nb s a) = true) :
    piece ((tx s).drop a) = some (if kp (tx (s.extract a (ru isW s a))) = true then 5 else 2, ru isW s a - a) := by
  obtain ⟨e1, e2⟩ := head_run isL_W h hl
  rw [tx_drop h]
  simp only [piece, hl, if_true]
  rw [e1, e2, kp]
  split <;> rfl
theorem piece_num {s : ByteArray} {a : Nat} (h : a < s.size) (hl : isL (nb s a) = false) (hd : isD (nb s a) = true) :
    piece ((tx s).drop a) = some (3, ru isD s a - a) := by
  obtain ⟨_, e2⟩ := head_run (q := isD) (fun c h => h) h hd
  rw [tx_drop h]
  simp only [piece, hl, hd, if_true]
  rw [e2]
  simp
theorem piece_two {s : ByteArray} {a : Nat} (h : a + 1 < s.size) (hl : isL (nb s a) = false) (hd : isD (nb s a) = false) (h2 : s2 (nb s a) (nb s (a + 1)) = true) :
    piece ((tx s).drop a) = some (4, 2) := by
  have h2' : sign2.contains [nb s a, nb s (a + 1)] = true := h2
  rw [tx_drop (by omega), tx_drop h]
  simp only [piece, hl, hd, List.take_succ_cons, List.take_zero, h2']
  simp
theorem piece_one {s : ByteArray} {a : Nat} (h : a < s.size) (hl : isL (nb s a) = false) (hd : isD (nb s a) = false) (h2 : a + 1 < s.size → s2 (nb s a) (nb s (a + 1)) = false) :
    piece ((tx s).drop a) = if s1 (nb s a) = true then some (4, 1) else none := by
  have h3 : sign2.contains (nb s a :: ((tx s).drop (a + 1)).take 1) = false := by
    by_cases h4 : a + 1 < s.size
    · rw [tx_drop h4]
      exact h2 h4
    · rw [tx_drop_end (by omega)]
      exact sign2_one _
  rw [tx_drop h]
  simp only [piece, hl, hd, h3]
  simp [s1]

section
variable {s : ByteArray} {i k a : Nat} (hi : i ≤ s.size) (ha : bl s i = a) (h : a < s.size) (hk : k ≠ 65536)
include hi ha h hk
theorem sc_kept (hl : isL (nb s a) = true) (h1 : kp (tx (s.extract a (ru isW s a))) = true) : sc s i k = (sc s (ru isW s a) (k + 1)).cons ⟨5, a, ru isW s a, 0⟩ := by
  subst ha
  have h2 := (ru_le (p := isW) (Nat.le_of_lt h)).1
  rw [sc_tok hi h hk (by rw [piece_word h hl, if_pos h1]) (by simp) (by simp [num]), show bl s i + (ru isW s (bl s i) - bl s i) = ru isW s (bl s i) by omega]
  simp [num]
theorem sc_long (hl : isL (nb s a) = true) (h1 : kp (tx (s.extract a (ru isW s a))) = false) (h64 : 64 < ru isW s a - a) : sc s i k = .fault 13 a := by
  subst ha
  exact sc_name hi h hk (by rw [piece_word h hl, if_neg (by simp [h1])]) h64
theorem sc_named (hl : isL (nb s a) = true) (h1 : kp (tx (s.extract a (ru isW s a))) = false) (h64 : ru isW s a - a ≤ 64) : sc s i k = (sc s (ru isW s a) (k + 1)).cons ⟨2, a, ru isW s a, 0⟩ := by
  subst ha
  have h2 := (ru_le (p := isW) (Nat.le_of_lt h)).1
  rw [sc_tok hi h hk (by rw [piece_word h hl, if_neg (by simp [h1])]) (by omega) (by simp [num]), show bl s i + (ru isW s (bl s i) - bl s i) = ru isW s (bl s i) by omega]
  simp [num]
theorem sc_big (hl : isL (nb s a) = false) (hd : isD (nb s a) = true) (hv : 1073741824 < val 0 (tx (s.extract a (ru isD s a)))) : sc s i k = .fault 12 a := by
  subst ha
  exact sc_number hi h hk (piece_num h hl hd) (by rw [← tx_extract]; exact hv)
theorem sc_num (hl : isL (nb s a) = false) (hd : isD (nb s a) = true) (hv : val 0 (tx (s.extract a (ru isD s a))) ≤ 1073741824) : sc s i k = (sc s (ru isD s a) (k + 1)).cons ⟨3, a, ru isD s a, val 0 (tx (s.extract a (ru isD s a)))⟩ := by
  subst ha
  have h2 := (ru_le (p := isD) (Nat.le_of_lt h)).1
  rw [sc_tok hi h hk (piece_num h hl hd) (by simp) (by rw [← tx_extract]; simp only [num, if_true]; omega), show bl s i + (ru isD s (bl s i) - bl s i) = ru isD s (bl s i) by omega, ← tx_extract]
  simp [num]
theorem sc_two (hl : isL (nb s a) = false) (hd : isD (nb s a) = false) (h1 : a + 1 < s.size) (h2 : s2 (nb s a) (nb s (a + 1)) = true) : sc s i k = (sc s (a + 2) (k + 1)).cons ⟨4, a, a + 2, 0⟩ := by
  subst ha
  rw [sc_tok hi h hk (piece_two h1 hl hd h2) (by simp) (by simp [num])]
  simp [num]
theorem sc_one (hl : isL (nb s a) = false) (hd : isD (nb s a) = false) (h2 : a + 1 < s.size → s2 (nb s a) (nb s (a + 1)) = false) (h1 : s1 (nb s a) = true) : sc s i k = (sc s (a + 1) (k + 1)).cons ⟨4, a, a + 1, 0⟩ := by
  subst ha
  rw [sc_tok hi h hk (by rw [piece_one h hl hd h2, if_pos h1]) (by simp) (by simp [num])]
  simp [num]
theorem sc_none (hl : isL (nb s a) = false) (hd : isD (nb s a) = false) (h2 : a + 1 < s.size → s2 (nb s a) (nb s (a + 1)) = false) (h1 : s1 (nb s a) = false) : sc s i k = .fault 11 a := by
  subst ha
  exact sc_byte hi h hk (by rw [piece_one h hl hd h2, if_neg (by simp [h1])])
end

/-- behind a remark -/
theorem rl_ru (s : ByteArray) : ∀ (d i : Nat), s.size - i = d → i ≤ s.size → rl s i = bl s (ru (· != 10) s i) := by
  intro d
  induction d with
  | zero =>
    intro i h1 h2
    rw [rl_end (by omega), ru_end (by omega), bl_end (by omega)]
  | succ d ih =>
    intro i h1 h2
    by_cases h : nb s i = 10
    · rw [rl_nl (by omega) h, ru_out (by omega) (by simp [h])]
    · rw [rl_other (by omega) h, ih (i + 1) (by omega) (by omega), ru_in (i := i) (by omega) (by simp [h])]
theorem bl_remark {s : ByteArray} {i : Nat} (h : i < s.size) (hb : nb s i = 35) : bl s i = bl s (ru (· != 10) s i) ∧ i + 1 ≤ ru (· != 10) s i := by
  refine ⟨by rw [bl_hash h hb, rl_ru s _ i rfl (by omega)], ?_⟩
  rw [ru_in h (by simp [hb])]
  exact (ru_le (by omega)).1
theorem ru_gt {p : Nat → Bool} {s : ByteArray} {a : Nat} (h : a < s.size) (hp : p (nb s a) = true) : a + 1 ≤ ru p s a ∧ ru p s a ≤ s.size := by
  rw [ru_in h hp]
  exact ru_le (by omega)
/-- what stands behind blanks is none -/
theorem bl_notS {s : ByteArray} {i : Nat} (hi : i ≤ s.size) (h : bl s i < s.size) : isS (nb s (bl s i)) = false := by
  have e := bl_drop hi
  rw [tx_drop h] at e
  cases h1 : isS (nb s (bl s i)) with
  | false => rfl
  | true =>
    exfalso
    have : ∀ (f : Bool) (l : List Nat) (c : Nat) (r : List Nat), isS c = true → c :: r ≠ blk f l := by
      intro f l c r hc
      induction l generalizing f with
      | nil => cases f <;> simp [blk]
      | cons d t ih =>
        cases f
        · simp only [blk]
          split
          · exact ih false
          · split
            · exact ih true
            · rename_i h2 h3
              intro e2
              injection e2 with e3 _
              subst e3
              simp [isS] at hc
              rcases hc with h4 | h4 <;> simp_all
        · simp only [blk]
          exact ih _
    exact this _ _ _ _ h1 e
end Go.Proofs.YtgiilaaoeefpmaaGreat.Lx
