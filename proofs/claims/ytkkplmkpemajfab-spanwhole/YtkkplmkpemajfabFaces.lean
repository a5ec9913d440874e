import Derived.Test.YtkkplmkpemajfabCols
import Derived.Test.YtkkplmkpemajfabSearch
import Derived.Lib.UnsafeStr
import Derived.Lib.BufferWrite
import Derived.Laws.MakeOwn
import Derived.Laws.CopyOwn
namespace Go.Proofs.Ytkkplmkpemajfab.Sp
open Go.RowKit

theorem ret3 {a b c a' b' c' : Int} (h1 : a = a') (h2 : b = b') (h3 : c = c') : Ending.returned (.tuple #[.int .i64 a, .int .i64 b, .int .i64 c]) = .returned (.tuple #[.int .i64 a', .int .i64 b', .int .i64 c']) := by rw [h1, h2, h3]
theorem ret2 {a b a' b' : Int} (h1 : a = a') (h2 : b = b') : Ending.returned (.tuple #[.int .i64 a, .int .i64 b]) = .returned (.tuple #[.int .i64 a', .int .i64 b']) := by rw [h1, h2]

theorem start_i (b : Nat) (s : ByteArray) (n : Nat) (N : Int) (w : World) (h : IsText w b s) (n1 : 1 ≤ n) (n2 : n ≤ nl s) (hN : N = (n : Int)) :
    Calls Try.prog 25 #[.pointer (some ⟨b, 0, none⟩), .int .i64 N] w fun e w' => e = .returned (.int .i64 (st s n : Nat)) ∧ w' = w := by
  subst hN; exact start_any b s n w h n1 n2
theorem line_i (b : Nat) (s : ByteArray) (n : Nat) (N : Int) (w : World) (h : IsText w b s) (n1 : 1 ≤ n) (n2 : n ≤ nl s) (hN : N = (n : Int)) :
    Calls Try.prog 24 #[.pointer (some ⟨b, 0, none⟩), .int .i64 N] w fun e w' => e = .returned (.string (ln s n)) ∧ Below w.heap.size w w' := by
  subst hN; exact line_any b s n w h n1 n2

set_option maxHeartbeats 800000 in
theorem spot_any (b : Nat) (s : ByteArray) (a : Int) (w : World) (h : IsText w b s) :
    Calls Try.prog 11 #[.pointer (some ⟨b, 0, none⟩), .int .i64 a] w fun e w' => e = .returned (.tuple #[.int .i64 (SL s a), .int .i64 (SC s a), .int .i64 (SE s a)]) ∧ Below w.heap.size w w' := by
  have H := h
  obtain ⟨hb, h0, ⟨ao, c, h1, h2⟩, hs⟩ := h
  by_cases hlo : 0 ≤ a
  · by_cases hhi : a ≤ (s.size : Int)
    · obtain ⟨a, rfl⟩ : ∃ k : Nat, a = k := ⟨a.toNat, by omega⟩
      have hin : inB s a = true := by simp [inB]; omega
      have HS : Hid (SL s a = (spL s a : Nat) ∧ SC s a = (colN (ln s (spL s a)) ((a : Int) - (st s (spL s a) : Nat)) : Nat) ∧ SE s a = 0) := by
        refine ⟨?_, ?_, ?_⟩ <;> simp [SL, SC, SE, hin, spC]
      have hd : decide ((s.size : Int) < (a : Int)) = false := by simp; omega
      have HC : Hid (∀ i, i < (B s).length → ∃ g, ao = some ⟨g, 0, none⟩ ∧ w.cell? ⟨g, i, none⟩ = some (.int .i64 ((B s).getD i 0 : Nat))) := fun i hi => by
        obtain ⟨g, e, _, hc⟩ := h2 i hi; exact ⟨g, e, hc⟩
      have k1 := brk_len s s.size
      have k3 := spL_le s a (by omega)
      have k5 := st_spL s a (by omega)
      have k0 : 1 ≤ spL s a := by unfold spL; omega
      have k6 := st_le s (spL s a) k0 k3
      have k7 := en_le s (spL s a) k0 k3
      have k8 := ln_size s (spL s a) k0 k3
      have k9 : (B s).length ≤ s.size := k1
      have A1 : Hid (∀ i, i < (brk s a).length → ((B s).getD i 0 : Int) < (a : Int)) := fun i hi => by have := B_ahead s a (by omega) i hi; omega
      have A2 : Hid (∀ i, (brk s a).length ≤ i → i < (B s).length → (a : Int) ≤ ((B s).getD i 0 : Int)) := fun i hi hj => by have := B_behind s a (by omega) i hi hj; omega
      have KK : Hid (spL s a = (brk s a).length + 1) := rfl
      have KB : Hid ((brk s a).length ≤ (B s).length) := by show _ ≤ _; unfold spL nl at k3; omega
      have kb : (brk s a).length ≤ s.size := by have := brk_len s a; omega
      have LZ : Hid ((ln s (spL s a)).size ≤ 2097152) := by show _ ≤ _; omega
      clear h2 hin k1 k8
      generalize (brk s a).length = m at *
      generalize spL s a = L at *
      go_enter Try.func11, Try.ntmps11
      go_wp2_with fail
      refine (search_any ao (B s).length c m (fun i => (B s).getD i 0) a _ (by omega) KB.out HC.out A1.out A2.out).mono ?_
      rintro e w' ⟨⟨fb, rfl⟩, rfl⟩
      go_wp2_with fail
      refine (line_i b s L _ _ H k0 k3 (by rw [KK.out]; omega)).mono ?_
      rintro e w1 ⟨rfl, hb1⟩
      go_wp2_with fail
      refine (start_i b s L _ _ (H.below hb1) k0 k3 (by rw [KK.out]; omega)).mono ?_
      rintro e w2 ⟨rfl, rfl⟩
      go_wp2_with fail
      refine (column_any (ln s L) _ _ LZ.out).mono ?_
      rintro e w3 ⟨rfl, hb3⟩
      go_wp2
      go_ret3
      obtain ⟨e1, e2, e3⟩ := HS.out
      exact ⟨ret3 (by rw [e1, KK.out]; omega) e2.symm e3.symm, hb1.trans (hb3.mono hb1.size)⟩
    · have hin : inB s a = false := by simp [inB]; omega
      have HS : Hid (SL s a = 0 ∧ SC s a = 0 ∧ SE s a = 1) := by refine ⟨?_, ?_, ?_⟩ <;> simp [SL, SC, SE, hin]
      clear hin h2
      go_enter Try.func11, Try.ntmps11
      go_wp2
      go_ret3
      obtain ⟨e1, e2, e3⟩ := HS.out
      exact ⟨ret3 e1.symm e2.symm e3.symm, Below.refl _ _⟩
  · have hin : inB s a = false := by simp [inB]; omega
    have HS : Hid (SL s a = 0 ∧ SC s a = 0 ∧ SE s a = 1) := by refine ⟨?_, ?_, ?_⟩ <;> simp [SL, SC, SE, hin]
    clear hin h2
    go_enter Try.func11, Try.ntmps11
    go_wp2
    go_ret3
    obtain ⟨e1, e2, e3⟩ := HS.out
    exact ⟨ret3 e1.symm e2.symm e3.symm, Below.refl _ _⟩

theorem hasB_yes {s : ByteArray} {n : Int} (h : hasB s n = true) : ∃ k : Nat, n = k ∧ 1 ≤ k ∧ k ≤ nl s := by
  simp [hasB] at h
  exact ⟨n.toNat, by omega, by omega, by omega⟩

set_option maxHeartbeats 800000 in
theorem place_any (b : Nat) (s : ByteArray) (l c : Int) (w : World) (h : IsText w b s) :
    Calls Try.prog 12 #[.pointer (some ⟨b, 0, none⟩), .int .i64 l, .int .i64 c] w fun e w' => e = .returned (.tuple #[.int .i64 (PV s l c), .int .i64 (PE s l c)]) ∧ Below w.heap.size w w' := by
  have hs := h.hs
  by_cases hh : hasB s l = true
  · obtain ⟨L, rfl, k0, k3⟩ := hasB_yes hh
    have k6 := st_le s L k0 k3
    have k7 := en_le s L k0 k3
    have k8 := ln_size s L k0 k3
    have k9 := plV_le (ln s L) c
    by_cases hp : plB (ln s L) c = true
    · have HS : Hid (PV s L c = ((st s L : Nat) : Int) + (plV (ln s L) c : Nat) ∧ PE s L c = 0) := by
        refine ⟨?_, ?_⟩ <;> simp [PV, PE, PB, hh, hp]
      have LZ : Hid ((ln s L).size ≤ 2097152) := by show _ ≤ _; omega
      have bd : plV (ln s L) c ≤ s.size := by omega
      clear k8 k9
      go_enter Try.func12, Try.ntmps12
      go_wp2_with fail
      refine (hasLine_any b s _ _ h).mono ?_
      rintro e w' ⟨rfl, rfl⟩
      go_wp2_with fail
      refine (line_any b s L _ h k0 k3).mono ?_
      rintro e w1 ⟨rfl, hb1⟩
      go_wp2_with fail
      refine (offset_any (ln s L) _ _ LZ.out).mono ?_
      rintro e w2 ⟨rfl, hb2⟩
      go_wp2_with fail
      refine (start_any b s L _ ((h.below hb1).below hb2) k0 k3).mono ?_
      rintro e w3 ⟨rfl, rfl⟩
      go_wp2
      go_ret2
      obtain ⟨e1, e2⟩ := HS.out
      exact ⟨ret2 e1.symm e2.symm, hb1.trans (hb2.mono hb1.size)⟩
    · have hp : plB (ln s L) c = false := by simpa using hp
      have HS : Hid (PV s L c = 0 ∧ PE s L c = 1) := by refine ⟨?_, ?_⟩ <;> simp [PV, PE, PB, hh, hp]
      have LZ : Hid ((ln s L).size ≤ 2097152) := by show _ ≤ _; omega
      clear k8 k9
      go_enter Try.func12, Try.ntmps12
      go_wp2_with fail
      refine (hasLine_any b s _ _ h).mono ?_
      rintro e w' ⟨rfl, rfl⟩
      go_wp2_with fail
      refine (line_any b s L _ h k0 k3).mono ?_
      rintro e w1 ⟨rfl, hb1⟩
      go_wp2_with fail
      refine (offset_any (ln s L) _ _ LZ.out).mono ?_
      rintro e w2 ⟨rfl, hb2⟩
      go_wp2
      go_ret2
      obtain ⟨e1, e2⟩ := HS.out
      exact ⟨ret2 e1.symm e2.symm, hb1.trans (hb2.mono hb1.size)⟩
  · have hh : hasB s l = false := by simpa using hh
    have HS : Hid (PV s l c = 0 ∧ PE s l c = 1) := by refine ⟨?_, ?_⟩ <;> simp [PV, PE, PB, hh]
    go_enter Try.func12, Try.ntmps12
    go_wp2_with fail
    refine (hasLine_any b s _ _ h).mono ?_
    rintro e w' ⟨rfl, rfl⟩
    go_wp2
    go_ret2
    obtain ⟨e1, e2⟩ := HS.out
    exact ⟨ret2 e1.symm e2.symm, Below.refl _ _⟩
end Go.Proofs.Ytkkplmkpemajfab.Sp
