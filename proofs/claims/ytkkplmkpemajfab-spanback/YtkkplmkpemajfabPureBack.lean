import Derived.Test.YtkkplmkpemajfabPureMarked
import Derived.Test.YtkkplmkpemajfabPureWhole
namespace Go.Proofs.Ytkkplmkpemajfab.Sp

/-- does a piece begin at q, from pos on? -/
def stF (t : ByteArray) : Nat → Nat → Nat → Bool
  | 0, _, _ => false
  | f + 1, pos, q => if pos < t.size then (decide (pos = q) || stF t f (pos + wd t pos) q) else false
theorem stF_end {t : ByteArray} {f pos q : Nat} (h : ¬ pos < t.size) : stF t f pos q = false := by cases f <;> simp [stF, h]
theorem stF_low {t : ByteArray} (f : Nat) : ∀ pos q, q < pos → stF t f pos q = false := by
  induction f with
  | zero => intro pos q _; rfl
  | succ f ih =>
    intro pos q h
    by_cases hp : pos < t.size
    · simp only [stF, hp, if_true, ih _ _ (show q < pos + wd t pos by omega)]
      simp; omega
    · exact stF_end hp
theorem stF_lt {t : ByteArray} (f : Nat) : ∀ pos q, stF t f pos q = true → q < t.size := by
  induction f with
  | zero => intro pos q h; simp [stF] at h
  | succ f ih =>
    intro pos q h
    by_cases hp : pos < t.size
    · simp only [stF, hp, if_true, Bool.or_eq_true, decide_eq_true_eq] at h
      rcases h with h | h
      · omega
      · exact ih _ _ h
    · rw [stF_end hp] at h; simp at h
def isSt (t : ByteArray) (q : Nat) : Bool := stF t t.size 0 q
/-- .. or is q its end? -/
def bgT (t : ByteArray) (q : Nat) : Bool := isSt t q || decide (q = t.size)

theorem nbF_step {t : ByteArray} (f : Nat) : ∀ (pos o : Nat), nbF t ((o + 1 : Nat) : Int) f pos = nbF t (o : Nat) f pos + (if stF t f pos (o + 1) then 1 else 0) := by
  induction f with
  | zero => intro pos o; simp [nbF, stF]
  | succ f ih =>
    intro pos o
    by_cases hp : pos < t.size
    · have h := ih (pos + wd t pos) o
      have hw := wd_pos t pos hp
      simp only [nbF, stF, hp, if_true]
      by_cases h1 : pos ≤ o
      · rw [if_pos (by omega), if_pos (by omega), h]
        have : ¬ pos = o + 1 := by omega
        simp only [this, decide_false, Bool.false_or]
        omega
      · by_cases h2 : pos = o + 1
        · rw [if_pos (by omega), if_neg (by omega), h, stF_low _ _ _ (by omega)]
          simp [h2]
          omega
        · rw [if_neg (by omega), if_neg (by omega), h]
          simp only [h2, decide_false, Bool.false_or]
          omega
    · simp [nbF, stF, hp]
theorem colN_step (t : ByteArray) (o : Nat) (h : o + 1 ≤ t.size) : colN t ((o + 1 : Nat) : Int) = colN t (o : Nat) + (if bgT t (o + 1) then 1 else 0) := by
  have h1 := nbF_step (t := t) t.size 0 o
  unfold colN bgT isSt
  rw [h1]
  by_cases he : o + 1 = t.size
  · have h2 : stF t t.size 0 (o + 1) = false := by
      cases h3 : stF t t.size 0 (o + 1) with
      | false => rfl
      | true => have := stF_lt _ _ _ h3; omega
    have c1 : ((o + 1 : Nat) : Int) = (t.size : Int) := by omega
    have c2 : ¬ ((o : Nat) : Int) = (t.size : Int) := by omega
    rw [if_pos c1, if_neg c2, h2]
    simp [he]
  · have c1 : ¬ ((o + 1 : Nat) : Int) = (t.size : Int) := by omega
    have c2 : ¬ ((o : Nat) : Int) = (t.size : Int) := by omega
    rw [if_neg c1, if_neg c2]
    simp [he]
theorem nbF_st {t : ByteArray} (f : Nat) : ∀ pos q, stF t f pos q = true → 1 ≤ nbF t (q : Nat) f pos := by
  induction f with
  | zero => intro pos q h; simp [stF] at h
  | succ f ih =>
    intro pos q h
    by_cases hp : pos < t.size
    · simp only [stF, hp, if_true, Bool.or_eq_true, decide_eq_true_eq] at h
      simp only [nbF, hp, if_true]
      rcases h with h | h
      · rw [if_pos (by omega)]; omega
      · have := ih _ _ h; omega
    · rw [stF_end hp] at h; simp at h
theorem plF_st {t : ByteArray} (f : Nat) : ∀ pos q, stF t f pos q = true → plF t f pos (nbF t (q : Nat) f pos : Nat) = some q := by
  induction f with
  | zero => intro pos q h; simp [stF] at h
  | succ f ih =>
    intro pos q h
    by_cases hp : pos < t.size
    · have hw := wd_pos t pos hp
      simp only [stF, hp, if_true, Bool.or_eq_true, decide_eq_true_eq] at h
      by_cases hq : pos = q
      · subst hq
        have e : nbF t (pos : Nat) (f + 1) pos = 1 := by
          simp only [nbF, hp, if_true]
          rw [if_pos (by omega), nbF_past _ _ (by omega)]
        rw [e]
        exact plF_yes hp (by omega)
      · have hr : stF t f (pos + wd t pos) q = true := by
          rcases h with h | h
          · exact absurd h hq
          · exact h
        have hge : pos + wd t pos ≤ q := by
          rcases Nat.lt_or_ge q (pos + wd t pos) with h' | h'
          · rw [stF_low _ _ _ h'] at hr; simp at hr
          · exact h'
        have h1 := nbF_st _ _ _ hr
        have e : nbF t (q : Nat) (f + 1) pos = 1 + nbF t (q : Nat) f (pos + wd t pos) := by
          simp only [nbF, hp, if_true]
          rw [if_pos (by omega)]
        rw [e, plF_no hp (by omega), ← ih _ _ hr]
        congr 1
        omega
    · rw [stF_end hp] at h; simp at h
theorem plF_np {t : ByteArray} (f : Nat) : ∀ pos, t.size ≤ pos + f → plF t f pos ((npF t f pos + 1 : Nat) : Int) = some t.size := by
  induction f with
  | zero => intro pos _; simp [plF, npF]
  | succ f ih =>
    intro pos hf
    by_cases hp : pos < t.size
    · have hw := wd_pos t pos hp
      have e : npF t (f + 1) pos = 1 + npF t f (pos + wd t pos) := by simp [npF, hp]
      rw [e, plF_no hp (by omega), ← ih (pos + wd t pos) (by omega)]
      congr 1
      omega
    · have e : npF t (f + 1) pos = 0 := by simp [npF, hp]
      rw [e, plF_end hp]
      rfl
theorem pl_bg (t : ByteArray) (q : Nat) (hq : q ≤ t.size) (h : bgT t q = true) : pl t (colN t (q : Nat) : Nat) = some q := by
  unfold bgT at h
  by_cases he : q = t.size
  · subst he
    unfold pl colN
    rw [if_pos rfl, nbF_all (Int.le_refl _)]
    exact plF_np _ _ (by omega)
  · have hs : isSt t q = true := by simpa [he] using h
    unfold pl colN
    rw [if_neg (by omega)]
    exact plF_st _ _ _ hs
theorem pl_some (t : ByteArray) : ∀ q, q ≤ t.size → ∃ p, pl t (colN t (q : Nat) : Nat) = some p ∧ (bgT t q = true → p = q) := by
  intro q
  induction q with
  | zero =>
    intro h
    have hb : bgT t 0 = true := by
      unfold bgT isSt
      by_cases hz : t.size = 0
      · simp [hz]
      · obtain ⟨f, hf⟩ : ∃ f, t.size = f + 1 := ⟨t.size - 1, by omega⟩
        rw [hf]
        simp [stF]
        omega
    exact ⟨0, pl_bg t 0 h hb, fun _ => rfl⟩
  | succ q ih =>
    intro h
    cases hb : bgT t (q + 1) with
    | true => exact ⟨q + 1, pl_bg t (q + 1) h hb, fun _ => rfl⟩
    | false =>
      obtain ⟨p, hp, _⟩ := ih (by omega)
      refine ⟨p, ?_, fun e => by simp at e⟩
      rw [colN_step t q h, hb]
      simpa using hp

/-- places of one line -/
theorem spL_of (s : ByteArray) (L p : Nat) (h1 : 1 ≤ L) (h2 : L ≤ nl s) (h3 : st s L ≤ p) (h4 : p ≤ en s L) : spL s p = L := by
  have hen := en_le s L h1 h2
  have hp : p ≤ s.size := by omega
  have hle := spL_le s p hp
  have e : (brk s p).length + 1 = spL s p := rfl
  rcases Nat.lt_trichotomy (spL s p) L with h | h | h
  · exfalso
    have hb : (brk s p).length < (B s).length := by unfold nl at h2; omega
    have h5 := B_behind s p hp (L - 2) (by omega) (by unfold nl at h2; omega)
    have : st s L = (B s).getD (L - 2) 0 + 1 := by unfold st; rw [if_neg (by omega)]
    omega
  · exact h
  · exfalso
    have h5 := B_ahead s p hp (L - 1) (by omega)
    have : en s L = (B s).getD (L - 1) 0 := by unfold en; rw [if_neg (by omega)]
    omega
/-- does a piece begin at p, or end a line? -/
def bg (s : ByteArray) (p : Nat) : Bool := bgT (ln s (spL s p)) (p - st s (spL s p))
def lst (s : ByteArray) (p : Nat) : Nat := st s (spL s p) + plV (ln s (spL s p)) (spC s p : Nat)

theorem off_facts (s : ByteArray) (a : Nat) (h : a ≤ s.size) : 1 ≤ spL s a ∧ spL s a ≤ nl s ∧ st s (spL s a) ≤ a ∧ a ≤ en s (spL s a) ∧ (ln s (spL s a)).size = en s (spL s a) - st s (spL s a) ∧ spC s a = colN (ln s (spL s a)) ((a - st s (spL s a) : Nat) : Int) := by
  have k3 := spL_le s a h
  have k0 : 1 ≤ spL s a := by unfold spL; omega
  have k5 := st_spL s a h
  refine ⟨k0, k3, k5, en_spL s a h, ln_size s _ k0 k3, ?_⟩
  unfold spC
  congr 1
  omega
theorem back_place (s : ByteArray) (a : Nat) (h : a ≤ s.size) : PV s (spL s a : Nat) (spC s a : Nat) = (lst s a : Nat) ∧ PE s (spL s a : Nat) (spC s a : Nat) = 0 ∧ (bg s a = true → lst s a = a) ∧ lst s a ≤ s.size := by
  obtain ⟨k0, k3, k5, k4, k8, kc⟩ := off_facts s a h
  have hen := en_le s (spL s a) k0 k3
  obtain ⟨p, hp, hb⟩ := pl_some (ln s (spL s a)) (a - st s (spL s a)) (by omega)
  rw [← kc] at hp
  have hh : hasB s (spL s a : Nat) = true := by simp [hasB]; omega
  have hB : plB (ln s (spL s a)) (spC s a : Nat) = true := by unfold plB; rw [hp]; rfl
  have hV : plV (ln s (spL s a)) (spC s a : Nat) = p := by unfold plV; rw [hp]; rfl
  have hle := plV_le (ln s (spL s a)) (spC s a : Nat)
  refine ⟨?_, ?_, fun hbg => ?_, by unfold lst; omega⟩
  · simp [PV, PB, hh, hB, lst]
  · simp [PE, PB, hh, hB]
  · have := hb hbg
    unfold lst
    omega
structure Bk (s : ByteArray) (a line col last : Nat) : Prop where
  zero : a = 0 → line = 1 ∧ col = 0 ∧ last = 0
  succ : ∀ q, a = q + 1 → line = spL s q ∧ col = spC s q ∧ last = lst s q
theorem bg_front (s : ByteArray) (a : Nat) (h : a ≤ s.size) (e : a = st s (spL s a)) : bg s a = true ∧ spC s a = 1 := by
  obtain ⟨k0, k3, k5, k4, k8, kc⟩ := off_facts s a h
  have h0 : a - st s (spL s a) = 0 := by omega
  rw [h0] at kc
  have hb : bgT (ln s (spL s a)) 0 = true := by
    unfold bgT isSt
    by_cases hz : (ln s (spL s a)).size = 0
    · simp [hz]
    · obtain ⟨f, hf⟩ : ∃ f, (ln s (spL s a)).size = f + 1 := ⟨(ln s (spL s a)).size - 1, by omega⟩
      rw [hf]
      simp [stF]
      omega
  refine ⟨by unfold bg; rw [h0]; exact hb, ?_⟩
  rw [kc]
  unfold colN
  by_cases hz : (ln s (spL s a)).size = 0
  · rw [nbF_end (by omega), if_pos (by omega)]
  · obtain ⟨f, hf⟩ : ∃ f, (ln s (spL s a)).size = f + 1 := ⟨(ln s (spL s a)).size - 1, by omega⟩
    have hp : 0 < (ln s (spL s a)).size := by omega
    have hw := wd_pos _ 0 hp
    rw [if_neg (by omega), hf]
    simp only [nbF]
    rw [if_pos (by omega), if_pos (by omega), nbF_past _ _ (by omega)]
theorem Bk.step {s : ByteArray} {a line col last : Nat} (h : Bk s a line col last) (ha : a ≤ s.size) :
    (bg s a = true ∧ spL s a = line ∧ spC s a = col + 1 ∧ lst s a = a) ∨ (bg s a = true ∧ spL s a = line + 1 ∧ spC s a = 1 ∧ lst s a = a) ∨ (bg s a = false ∧ spL s a = line ∧ spC s a = col ∧ lst s a = last) := by
  obtain ⟨_, _, hbl, _⟩ := back_place s a ha
  cases a with
  | zero =>
    obtain ⟨h1, h2, _⟩ := h.zero rfl
    have e1 : spL s 0 = 1 := rfl
    have e2 : (0 : Nat) = st s (spL s 0) := by rw [e1]; simp [st]
    obtain ⟨b1, b2⟩ := bg_front s 0 ha e2
    exact Or.inl ⟨b1, by omega, by omega, hbl b1⟩
  | succ q =>
    obtain ⟨h1, h2, h3⟩ := h.succ q rfl
    by_cases ht : bt s q = 10
    · have e1 : spL s (q + 1) = spL s q + 1 := by unfold spL; rw [brk_yes ht]; simp
      have e2 : q + 1 = st s (spL s (q + 1)) := by
        have hb := B_below s (q + 1) ha (brk s q).length (by rw [brk_yes ht]; simp)
        unfold st
        rw [e1, if_neg (by unfold spL; omega), show spL s q + 1 - 2 = (brk s q).length by unfold spL; omega, hb, brk_yes ht]
        simp [List.getD]
      obtain ⟨b1, b2⟩ := bg_front s (q + 1) ha e2
      exact Or.inr (Or.inl ⟨b1, by omega, b2, hbl b1⟩)
    · have e1 : spL s (q + 1) = spL s q := by unfold spL; rw [brk_no ht]
      obtain ⟨k0, k3, k5, k4, k8, kc⟩ := off_facts s (q + 1) ha
      obtain ⟨j0, j3, j5, j4, j8, jc⟩ := off_facts s q (by omega)
      rw [e1] at k5 k4 k8 kc
      have hs := colN_step (ln s (spL s q)) (q - st s (spL s q)) (by omega)
      rw [show q - st s (spL s q) + 1 = q + 1 - st s (spL s q) by omega, ← kc, ← jc] at hs
      have hbe : bg s (q + 1) = bgT (ln s (spL s q)) (q + 1 - st s (spL s q)) := by unfold bg; rw [e1]
      rw [← hbe] at hs
      cases hb : bg s (q + 1) with
      | true => rw [hb] at hs; exact Or.inl ⟨rfl, by omega, by simp at hs; omega, hbl hb⟩
      | false =>
        rw [hb] at hs
        simp at hs
        refine Or.inr (Or.inr ⟨rfl, by omega, by omega, ?_⟩)
        rw [h3]
        unfold lst
        rw [e1, hs]
theorem Bk.next (s : ByteArray) (a : Nat) : Bk s (a + 1) (spL s a) (spC s a) (lst s a) :=
  ⟨fun e => by omega, fun q e => by obtain rfl : a = q := by omega
                                    exact ⟨rfl, rfl, rfl⟩⟩
end Go.Proofs.Ytkkplmkpemajfab.Sp
