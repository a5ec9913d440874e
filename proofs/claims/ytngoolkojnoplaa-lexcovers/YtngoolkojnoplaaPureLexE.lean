import Derived.Test.YtngoolkojnoplaaLxParts
namespace Go.Proofs.Ytngoolkojnoplaa.Lx
open Go.Proofs.Ytngoolkojnoplaa.Sp

theorem errs : ∀ (N : Nat) (l : List Nat) (p k e i : Nat), l.length ≤ N → scan l p k = .fault e i → e = 3 ∨ e = 11 ∨ e = 12 ∨ e = 13 := by
  intro N
  induction N with
  | zero =>
    intro l p k e i hN hs
    obtain rfl : l = [] := List.length_eq_zero_iff.1 (by omega)
    rw [scan_nil rfl] at hs
    cases hs
  | succ N ih =>
    intro l p k e i hN hs
    have h3 := blk_len false l
    by_cases hm : blk false l = []
    · rw [scan_nil hm] at hs; cases hs
    · by_cases hk : k = 65536
      · rw [scan_many rfl hm hk] at hs; injection hs with h _; omega
      · cases hpc : piece (blk false l) with
        | none => rw [scan_byte rfl hm hk hpc] at hs; injection hs with h _; omega
        | some y =>
          obtain ⟨kd, n⟩ := y
          by_cases hn : kd = 2 ∧ 64 < n
          · obtain ⟨rfl, hn⟩ := hn
            rw [scan_name rfl hm hk hpc hn] at hs; injection hs with h _; omega
          · by_cases hv : 1073741824 < num kd ((blk false l).take n)
            · rw [scan_number rfl hm hk hpc hn hv] at hs; injection hs with h _; omega
            · rw [scan_tok rfl hm hk hpc hn hv] at hs
              have h1 := piece_pos hpc
              cases hr : scan ((blk false l).drop n) (p + (l.length - (blk false l).length) + n) (k + 1) with
              | ok ts => rw [hr] at hs; cases hs
              | fault e' i' =>
                rw [hr] at hs
                injection hs with hs1 hs2
                subst hs1
                exact ih _ _ (k + 1) _ _ (by simp only [List.length_drop]; omega) hr

theorem sc_zero (s : ByteArray) : sc s 0 0 = scan (tx s) 0 0 := by unfold sc; rw [List.drop_zero]
/-- what a text's fault is -/
theorem full_fault {s : ByteArray} (hs : s.size ≤ 1048576) {er i : Nat} (h : full s = .fault er i) : (er = 3 ∨ er = 11 ∨ er = 12 ∨ er = 13) ∧ i < s.size ∧ ∃ ts, full (s.extract 0 i) = .ok ts := by
  rw [full_short hs, sc_zero] at h
  have h1 := errs s.size (tx s) 0 0 er i (by rw [tx_len]; exact Nat.le_refl _) h
  obtain ⟨_, h2, ts, h3⟩ := front_ok s.size (tx s) 0 0 er i (by rw [tx_len]; exact Nat.le_refl _) h
  rw [tx_len] at h2
  refine ⟨h1, by omega, ts, ?_⟩
  rw [full_short (by simp [ByteArray.size_extract]; omega), sc_zero, tx_extract, List.drop_zero]
  exact h3
/-- a front -/
theorem full_front {s : ByteArray} (hs : s.size ≤ 1048576) (q : Nat) (hq : (full s).upTo q 0 s.size) : (erOf (full (s.extract 0 q)) = 0 ∧ atOf (full (s.extract 0 q)) = 0) ∨ (1 ≤ q ∧ erOf (full (s.extract 0 q)) = 11 ∧ atOf (full (s.extract 0 q)) = q - 1) := by
  have h1 := fronts s.size (tx s) 0 0 q (by rw [tx_len]; exact Nat.le_refl _) (by rw [← sc_zero, ← full_short hs, tx_len]; exact hq)
  rw [full_short (s := s.extract 0 q) (by simp [ByteArray.size_extract]; omega), sc_zero, tx_extract, List.drop_zero, Nat.sub_zero]
  rcases h1 with ⟨ts, h⟩ | ⟨h2, h⟩
  · rw [h]; exact Or.inl ⟨rfl, rfl⟩
  · rw [h]; refine Or.inr ⟨h2, rfl, ?_⟩
    simp [atOf]
theorem extract_all (s : ByteArray) : s.extract 0 s.size = s := by
  apply ByteArray.ext
  apply Array.toList_inj.1
  rw [Lib.extract_data]
  simp only [List.drop_zero, Nat.sub_zero]
  exact List.take_of_length_le (Nat.le_of_eq rfl)
end Go.Proofs.Ytngoolkojnoplaa.Lx
