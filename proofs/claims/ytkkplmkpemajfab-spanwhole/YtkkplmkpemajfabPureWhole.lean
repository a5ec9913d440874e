import Derived.Test.YtkkplmkpemajfabPureSpot
namespace Go.Proofs.Ytkkplmkpemajfab.Sp

theorem brk_ten (s : ByteArray) (k : Nat) : ∀ x ∈ brk s k, bt s x = 10 := by
  induction k with
  | zero => simp [brk]
  | succ k ih =>
    intro x hx
    by_cases h : bt s k = 10
    · rw [brk_yes h] at hx
      rcases List.mem_append.1 hx with h1 | h1
      · exact ih x h1
      · simp at h1; rw [h1]; exact h
    · rw [brk_no h] at hx; exact ih x hx
theorem st_en (s : ByteArray) (k : Nat) (h1 : 1 ≤ k) (h2 : k < nl s) : st s (k + 1) = en s k + 1 ∧ bt s (en s k) = 10 ∧ en s k < s.size := by
  have hb : k - 1 < (B s).length := by unfold nl at h2; omega
  have e : en s k = (B s).getD (k - 1) 0 := by unfold en; rw [if_neg (by omega)]
  refine ⟨?_, ?_, ?_⟩
  · rw [e]; unfold st; rw [if_neg (by omega), show k + 1 - 2 = k - 1 by omega]
  · rw [e]
    exact brk_ten s s.size _ (by unfold B at *; simp [List.getD, List.getElem?_eq_getElem hb])
  · rw [e]; exact B_lt s _ hb
/-- the text up to line k's beginning -/
def upTo (s : ByteArray) (k : Nat) : List UInt8 := s.data.toList.take (if k ≤ nl s then st s k else s.size)
theorem upTo_one (s : ByteArray) : upTo s 1 = [] := by unfold upTo; rw [if_pos (nl_pos s)]; simp [st]
theorem upTo_len (s : ByteArray) (k : Nat) (h1 : 1 ≤ k) (h2 : k ≤ nl s) : (upTo s k).length = st s k := by
  have h3 := st_le s k h1 h2
  have h4 := en_le s k h1 h2
  have hl : s.data.toList.length = s.size := by simp
  unfold upTo
  rw [if_pos h2, List.length_take]
  omega
theorem upTo_line (s : ByteArray) (k : Nat) (h1 : 1 ≤ k) (h2 : k ≤ nl s) : upTo s k ++ (ln s k).data.toList = s.data.toList.take (en s k) := by
  have h3 := st_le s k h1 h2
  unfold upTo ln
  rw [if_pos h2, Lib.extract_data]
  have e : en s k = st s k + (en s k - st s k) := by omega
  rw [e, List.take_add]
  simp
theorem upTo_next (s : ByteArray) (k : Nat) (h1 : 1 ≤ k) (h2 : k < nl s) : upTo s k ++ (ln s k).data.toList ++ [10] = upTo s (k + 1) := by
  obtain ⟨e1, e2, e3⟩ := st_en s k h1 h2
  have hl : s.data.toList.length = s.size := by simp
  rw [upTo_line s k h1 (by omega)]
  unfold upTo
  rw [if_pos (by omega), e1, List.take_succ_eq_append_getElem (by omega)]
  congr 1
  unfold bt at e2
  simp only [List.getD, List.getElem?_eq_getElem (show en s k < s.data.toList.length by omega), Option.getD_some] at e2
  have : (s.data.toList[en s k]'(by omega)).toNat = (10 : UInt8).toNat := by
    show _ = 10
    omega
  rw [UInt8.toNat_inj.1 this]
theorem upTo_last (s : ByteArray) (k : Nat) (h1 : 1 ≤ k) (h2 : k = nl s) : upTo s k ++ (ln s k).data.toList = upTo s (k + 1) := by
  rw [upTo_line s k h1 (by omega)]
  unfold upTo
  rw [if_neg (by omega)]
  unfold en
  rw [if_pos h2]
theorem upTo_all (s : ByteArray) (k : Nat) (h : nl s < k) : upTo s k = s.data.toList := by
  unfold upTo
  rw [if_neg (by omega)]
  exact List.take_of_length_le (by simp)
theorem plF_high {t : ByteArray} (f : Nat) : ∀ (pos : Nat) (c : Int), (t.size : Int) - pos + 1 < c → 1 < c → plF t f pos c = none := by
  induction f with
  | zero => intro pos c h h1; simp [plF]; omega
  | succ f ih =>
    intro pos c h h1
    by_cases hp : pos < t.size
    · have := wd_pos t pos hp
      rw [plF_no hp (by omega)]
      exact ih _ _ (by omega) (by omega)
    · rw [plF_end hp, if_neg (by omega)]
theorem PE_first (s : ByteArray) (k : Nat) (h1 : 1 ≤ k) (h2 : k ≤ nl s) : PV s k 1 = (st s k : Nat) ∧ PE s k 1 = 0 := by
  have hh : hasB s k = true := by simp [hasB]; omega
  have hp : pl (ln s k) 1 = some 0 := by
    unfold pl
    by_cases hz : (ln s k).size = 0
    · rw [plF_end (by omega), hz]; rfl
    · obtain ⟨f, hf⟩ : ∃ f, (ln s k).size = f + 1 := ⟨(ln s k).size - 1, by omega⟩
      rw [hf, plF_yes (by omega) rfl]
  have hb : plB (ln s k) 1 = true := by unfold plB; rw [hp]; rfl
  have hv : plV (ln s k) 1 = 0 := by unfold plV; rw [hp]; rfl
  refine ⟨?_, ?_⟩ <;> simp [PV, PE, PB, hh, hb, hv]
theorem PE_far (s : ByteArray) (k : Nat) (c : Int) (hc : ((ln s k).size : Int) + 1 < c) : PE s k c = 1 := by
  have hp : plB (ln s k) c = false := by unfold plB pl; rw [plF_high _ _ _ (by omega) (by omega)]; rfl
  simp [PE, PB, hp]
theorem past_facts (s : ByteArray) (l : Int) (h : (nl s : Int) < l) : Sp.LE s l = 1 ∧ ∀ c, PE s l c = 1 := by
  have hh : hasB s l = false := by simp [hasB]; omega
  refine ⟨?_, fun c => ?_⟩
  · simp [Sp.LE, hh]
  · simp [PE, PB, hh]
theorem line_facts (s : ByteArray) (k : Nat) (h1 : 1 ≤ k) (h2 : k ≤ nl s) : LV s k = ln s k ∧ Sp.LE s k = 0 ∧ (ln s k).size ≤ s.size ∧ st s k ≤ s.size := by
  have hh : hasB s k = true := by simp [hasB]; omega
  have h3 := st_le s k h1 h2
  have h4 := en_le s k h1 h2
  have h5 := ln_size s k h1 h2
  refine ⟨?_, ?_, by omega, by omega⟩ <;> simp [LV, Sp.LE, hh]
end Go.Proofs.Ytkkplmkpemajfab.Sp
