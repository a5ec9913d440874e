import Derived.Test.YtkkplmkpemajfabPureMarked
namespace Go.Proofs.Ytkkplmkpemajfab.Sp

theorem mv_facts (s : ByteArray) (a : Nat) (ha : a ≤ s.size) : ∃ (M t : ByteArray) (L c : Nat), (MV s a = M ∧ SE s a = 0 ∧ SL s a = (L : Int) ∧ SC s a = (c : Int) ∧ LV s (L : Int) = t ∧ Sp.LE s (L : Int) = 0) ∧ t.size ≤ s.size ∧ 1 ≤ c ∧ c ≤ t.size + 1 ∧ M.size = t.size + 1 + c ∧
    (M.extract 0 (t.size + 1)).data.toList = t.data.toList ++ [10] ∧ bt M (t.size + c) = 94 ∧ ∀ i, t.size + 1 ≤ i → i < t.size + c → bt M i = 9 ∨ bt M i = 32 := by
  have k3 := spL_le s a ha
  have k0 : 1 ≤ spL s a := by unfold spL; omega
  have k6 := st_le s (spL s a) k0 k3
  have k7 := en_le s (spL s a) k0 k3
  have k8 := ln_size s (spL s a) k0 k3
  have k9 := colN_le (ln s (spL s a)) ((a : Int) - (st s (spL s a) : Nat))
  have hM := MB_len s a ha
  have hp := colN_pos (ln s (spL s a)) ((a : Int) - (st s (spL s a) : Nat)) (by have := st_spL s a ha; omega) (by have := en_spL s a ha; omega)
  have hin : inB s a = true := by simp [inB]; omega
  have hh : hasB s (spL s a : Nat) = true := by simp [hasB]; omega
  refine ⟨⟨(MB s a).toArray⟩, ln s (spL s a), spL s a, spC s a, ⟨?_, ?_, ?_, ?_, ?_, ?_⟩, by omega, hp, k9, ?_, ?_, ?_, fun i h1 h2 => ?_⟩
  · simp [MV, hin]
  · simp [SE, hin]
  · simp [SL, hin]
  · simp [SC, hin]
  · simp [LV, hh]
  · simp [Sp.LE, hh]
  · rw [← hM]; simp [ByteArray.size]
  · have hl : (ln s (spL s a)).data.toList.length = (ln s (spL s a)).size := by simp
    rw [Lib.extract_data]
    have e : (MB s a) = ((ln s (spL s a)).data.toList ++ [10]) ++ (ind (ln s (spL s a)) (spC s a : Nat) ++ [94]) := by unfold MB; simp
    show List.take _ (List.drop 0 (MB s a)) = _
    rw [e, List.drop_zero, List.take_append_of_le_length (by simp [hl]), List.take_of_length_le (by simp [hl])]
  · have := MB_last s a
    show (((MB s a).getD _ 0).toNat : Int) = 94
    rw [show (ln s (spL s a)).size + spC s a = (MB s a).length - 1 by omega, this]
    rfl
  · have := MB_mid s a i h1 (by omega)
    show (((MB s a).getD _ 0).toNat : Int) = 9 ∨ (((MB s a).getD _ 0).toNat : Int) = 32
    rcases this with e | e
    · left; rw [e]; rfl
    · right; rw [e]; rfl
end Go.Proofs.Ytkkplmkpemajfab.Sp
