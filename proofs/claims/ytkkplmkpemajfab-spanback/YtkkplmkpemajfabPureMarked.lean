import Derived.Test.YtkkplmkpemajfabPureMark
namespace Go.Proofs.Ytkkplmkpemajfab.Sp

/-- how many pieces there are from pos on -/
def npF (t : ByteArray) : Nat → Nat → Nat
  | 0, _ => 0
  | f + 1, pos => if pos < t.size then 1 + npF t f (pos + wd t pos) else 0
theorem nbF_np {t : ByteArray} {off : Int} (f : Nat) : ∀ pos, nbF t off f pos ≤ npF t f pos := by
  induction f with
  | zero => intro pos; simp [nbF, npF]
  | succ f ih =>
    intro pos
    have := ih (pos + wd t pos)
    by_cases hp : pos < t.size
    · simp only [nbF, npF, hp, if_true]
      split <;> omega
    · simp [nbF, npF, hp]
theorem nbF_all {t : ByteArray} {off : Int} (ho : (t.size : Int) ≤ off) (f : Nat) : ∀ pos, nbF t off f pos = npF t f pos := by
  induction f with
  | zero => intro pos; simp [nbF, npF]
  | succ f ih =>
    intro pos
    by_cases hp : pos < t.size
    · simp only [nbF, npF, hp, if_true, ih]
      rw [if_pos (by omega)]
    · simp [nbF, npF, hp]
theorem inF_length {t : ByteArray} (f : Nat) : ∀ (pos a d : Nat), (inF t ((a + d : Nat) : Int) f pos (a : Nat)).length = min (npF t f pos) d := by
  induction f with
  | zero => intro pos a d; simp [inF, npF]
  | succ f ih =>
    intro pos a d
    by_cases hp : pos < t.size
    · cases d with
      | zero => rw [inF_stop (by omega)]; simp
      | succ d =>
        rw [inF_on hp (by omega), List.length_cons]
        have e := ih (pos + wd t pos) (a + 1) d
        have e1 : (((a + 1 + d : Nat)) : Int) = ((a + (d + 1) : Nat) : Int) := by omega
        have e2 : (((a + 1 : Nat)) : Int) = ((a : Nat) : Int) + 1 := by omega
        rw [e1, e2] at e
        rw [e]
        simp only [npF, hp, if_true]
        omega
    · rw [inF_end hp]; simp [npF, hp]
theorem colN_pos (t : ByteArray) (off : Int) (h0 : 0 ≤ off) (h1 : off ≤ (t.size : Int)) : 1 ≤ colN t off := by
  unfold colN
  by_cases hz : t.size = 0
  · rw [if_pos (by omega)]; omega
  · obtain ⟨f, hf⟩ : ∃ f, t.size = f + 1 := ⟨t.size - 1, by omega⟩
    rw [hf]
    simp only [nbF]
    rw [if_pos (by omega), if_pos (by omega)]
    omega
theorem ind_col (t : ByteArray) (off : Int) (h0 : 0 ≤ off) (h1 : off ≤ (t.size : Int)) : (ind t (colN t off : Nat)).length + 1 = colN t off := by
  have hp := colN_pos t off h0 h1
  obtain ⟨d, hd⟩ : ∃ d, colN t off = 1 + d := ⟨colN t off - 1, by omega⟩
  have hl := inF_length (t := t) t.size 0 1 d
  have e : ind t (colN t off : Nat) = inF t ((1 + d : Nat) : Int) t.size 0 ((1 : Nat) : Int) := by rw [hd]; rfl
  rw [e, hl, hd]
  have hn : d ≤ npF t t.size 0 := by
    unfold colN at hd
    have h2 := nbF_np (t := t) (off := off) t.size 0
    split at hd
    · have := nbF_all (t := t) (off := off) (by omega) t.size 0
      omega
    · omega
  omega
theorem ind_mem (t : ByteArray) (c : Int) (f : Nat) : ∀ (pos : Nat) (a : Int), ∀ x ∈ inF t c f pos a, x = 9 ∨ x = 32 := by
  induction f with
  | zero => intro pos a x hx; simp [inF] at hx
  | succ f ih =>
    intro pos a x hx
    by_cases hp : pos < t.size
    · by_cases ha : a = c
      · rw [inF_stop ha] at hx; simp at hx
      · rw [inF_on hp ha] at hx
        rcases List.mem_cons.1 hx with h | h
        · rw [h]; unfold mkb; split <;> simp
        · exact ih _ _ x h
    · rw [inF_end hp] at hx; simp at hx

theorem MB_len (s : ByteArray) (a : Nat) (h : a ≤ s.size) : (MB s a).length = (ln s (spL s a)).size + 1 + spC s a := by
  have k3 := spL_le s a h
  have k0 : 1 ≤ spL s a := by unfold spL; omega
  have k5 := st_spL s a h
  have k4 := en_spL s a h
  have k8 := ln_size s (spL s a) k0 k3
  have hi := ind_col (ln s (spL s a)) ((a : Int) - (st s (spL s a) : Nat)) (by omega) (by omega)
  have hc : spC s a = colN (ln s (spL s a)) ((a : Int) - (st s (spL s a) : Nat)) := rfl
  rw [← hc] at hi
  have hl : (ln s (spL s a)).data.toList.length = (ln s (spL s a)).size := by simp
  unfold MB
  simp only [List.length_append, hl, List.length_cons, List.length_nil]
  omega
theorem MB_last (s : ByteArray) (a : Nat) : (MB s a).getD ((MB s a).length - 1) 0 = 94 := by
  unfold MB
  simp [List.getD]
theorem MB_mid (s : ByteArray) (a : Nat) (i : Nat) (h1 : (ln s (spL s a)).size + 1 ≤ i) (h2 : i < (MB s a).length - 1) : (MB s a).getD i 0 = 9 ∨ (MB s a).getD i 0 = 32 := by
  have hl : (ln s (spL s a)).data.toList.length = (ln s (spL s a)).size := by simp
  have hm : (MB s a).getD i 0 ∈ ind (ln s (spL s a)) (spC s a : Nat) := by
    unfold MB at h2 ⊢
    simp only [List.length_append, List.length_cons, List.length_nil, hl] at h2
    simp only [List.getD]
    rw [List.getElem?_append_left (by simp [hl]; omega), List.getElem?_append_right (by simp [hl]; omega)]
    have : i - ((ln s (spL s a)).data.toList ++ [10]).length < (ind (ln s (spL s a)) (spC s a : Nat)).length := by simp [hl]; omega
    rw [List.getElem?_eq_getElem this]
    simp
  exact ind_mem _ _ _ _ _ _ hm
end Go.Proofs.Ytkkplmkpemajfab.Sp
