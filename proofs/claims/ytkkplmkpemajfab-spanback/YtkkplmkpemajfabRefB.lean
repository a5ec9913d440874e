import Derived.Test.YtkkplmkpemajfabRefA
namespace Go.Proofs.Ytkkplmkpemajfab.Sp
open Go.RowKit

theorem head_cut (ao : Option Addr) (s : ByteArray) (cap a : Nat) (w : World) (hc : s.size ≤ cap) (ha : a ≤ s.size) :
    (Instr.slice 22 (.slice ao s.size cap) none (some (.int .i64 (a : Int))) none).run Try.prog w = .ok (.slice ao a cap) w := by
  have ht' : Try.prog.underlying 22 = some (.slice (Try.prog.elem 22)) := by rw [elem22]; exact Try.underlying22
  have h1 := run_slice_h (P := Try.prog) w 22 ao s.size cap ht' .i64 (a : Int) (by omega) (by omega)
  rw [elem22, size5] at h1
  rw [h1]
  simp only [Result.andThen, sliced, Int.toNat_natCast, Nat.sub_zero, Nat.zero_mul]
  have e : Option.map (fun x => Addr.add x 0) ao = ao := by cases ao <;> simp [Addr.add]
  rw [e]
  split <;> rfl

theorem refLine_any (ao : Option Addr) (s : ByteArray) (n : Int) (cap : Nat) (w : World) (h : IsBytes w ao s) (hc : s.size ≤ cap) (hs : s.size ≤ 2097152) :
    Calls Try.prog 18 #[.slice ao s.size cap, .int .i64 n] w fun e w' => e = .returned (.tuple #[.string (LV s n), .int .i64 (LE s n)]) ∧ w' = w := by
  have HN : Hid (((brk s s.size).length + 1 : Nat) = nl s) := rfl
  by_cases hh : hasB s n = true
  · obtain ⟨L, rfl, k0, k3⟩ := hasB_yes hh
    have k6 := st_le s L k0 k3
    have k7 := en_le s L k0 k3
    obtain ⟨A, C, hcut, hcv⟩ := cut_any ao s cap (st s L) (en s L) w h hc k6 k7
    have HS : Hid (LV s L = s.extract (st s L) (en s L) ∧ LE s L = 0) := by refine ⟨?_, ?_⟩ <;> simp [LV, LE, hh, ln]
    have hd : decide ((nl s : Int) < (L : Int)) = false := by simp; omega
    have k8 : 1 ≤ (L : Int) := by omega
    clear hh
    go_enter Try.func18, Try.ntmps18
    go_wp2_with fail
    refine (refLines_any ao s s.size cap _ h (Nat.le_refl _) hs).mono ?_
    rintro e w' ⟨rfl, rfl⟩
    rw [HN.out]
    go_wp2_with fail
    refine (bounds_any ao s L cap _ h k0 k3 hs).mono ?_
    rintro e w' ⟨rfl, rfl⟩
    go_wp2
    go_ret2
    obtain ⟨e1, e2⟩ := HS.out
    exact ⟨ret_si e1.symm e2.symm, rfl⟩
  · have hh : hasB s n = false := by simpa using hh
    have HS : Hid (LV s n = ByteArray.empty ∧ LE s n = 1) := by refine ⟨?_, ?_⟩ <;> simp [LV, LE, hh]
    simp only [hasB, decide_eq_false_iff_not] at hh
    by_cases h1 : n < 1
    · clear hh
      go_enter Try.func18, Try.ntmps18
      go_wp2
      go_ret2
      obtain ⟨e1, e2⟩ := HS.out
      exact ⟨ret_si (by rw [e1]; rfl) e2.symm, rfl⟩
    · have h2 : (nl s : Int) < n := by omega
      clear hh
      go_enter Try.func18, Try.ntmps18
      go_wp2_with fail
      refine (refLines_any ao s s.size cap _ h (Nat.le_refl _) hs).mono ?_
      rintro e w' ⟨rfl, rfl⟩
      rw [HN.out]
      go_wp2
      go_ret2
      obtain ⟨e1, e2⟩ := HS.out
      exact ⟨ret_si (by rw [e1]; rfl) e2.symm, rfl⟩

theorem bounds_i (ao : Option Addr) (s : ByteArray) (n : Nat) (N : Int) (cap : Nat) (w : World) (h : IsBytes w ao s) (n1 : 1 ≤ n) (n2 : n ≤ nl s) (hs : s.size ≤ 2097152) (hN : N = (n : Int)) :
    Calls Try.prog 31 #[.slice ao s.size cap, .int .i64 N] w fun e w' => e = .returned (.tuple #[.int .i64 (st s n : Nat), .int .i64 (en s n : Nat)]) ∧ w' = w := by
  subst hN; exact bounds_any ao s n cap w h n1 n2 hs

set_option maxHeartbeats 1600000 in
theorem refSpot_any (ao : Option Addr) (s : ByteArray) (a : Int) (cap : Nat) (w : World) (h : IsBytes w ao s) (hc : s.size ≤ cap) (hs : s.size ≤ 2097152) :
    Calls Try.prog 17 #[.slice ao s.size cap, .int .i64 a] w fun e w' => e = .returned (.tuple #[.int .i64 (SL s a), .int .i64 (SC s a), .int .i64 (SE s a)]) ∧ Below w.heap.size w w' := by
  by_cases hlo : 0 ≤ a
  · by_cases hhi : a ≤ (s.size : Int)
    · obtain ⟨a, rfl⟩ : ∃ k : Nat, a = k := ⟨a.toNat, by omega⟩
      have hin : inB s a = true := by simp [inB]; omega
      have k3 := spL_le s a (by omega)
      have k5 := st_spL s a (by omega)
      have k4 := en_spL s a (by omega)
      have k0 : 1 ≤ spL s a := by unfold spL; omega
      have k6 := st_le s (spL s a) k0 k3
      have k7 := en_le s (spL s a) k0 k3
      have k8 := ln_size s (spL s a) k0 k3
      have HS : Hid (SL s a = (spL s a : Nat) ∧ SC s a = (nbF (ln s (spL s a)) ((a : Int) - (st s (spL s a) : Nat)) (ln s (spL s a)).size 0 + (if ((a : Int) - (st s (spL s a) : Nat)) = ((ln s (spL s a)).size : Int) then 1 else 0) : Nat) ∧ SE s a = 0) := by
        refine ⟨?_, ?_, ?_⟩ <;> simp [SL, SC, SE, hin, spC, colN]
      have hd : decide ((s.size : Int) < (a : Int)) = false := by simp; omega
      have hsl := head_cut ao s cap a w hc (by omega)
      obtain ⟨A, C, hcut, hcv⟩ := cut_any ao s cap (st s (spL s a)) (en s (spL s a)) w h hc k6 k7
      rw [show s.extract (st s (spL s a)) (en s (spL s a)) = ln s (spL s a) from rfl] at hcv
      have KK : Hid (spL s a = (brk s a).length + 1) := rfl
      have HT : Hid ((ln s (spL s a)).size = en s (spL s a) - st s (spL s a)) := k8
      have ha : a ≤ s.size := by omega
      clear hin k8
      go_enter Try.func17, Try.ntmps17
      go_wp2_with fail
      refine (refLines_any ao s a cap _ h ha hs).mono ?_
      rintro e w' ⟨rfl, rfl⟩
      rw [← KK.out]
      generalize spL s a = L at *
      go_wp2_with fail
      refine (bounds_any ao s L cap _ h k0 k3 hs).mono ?_
      rintro e w' ⟨rfl, rfl⟩
      have htl : (ln s L).size ≤ 2097152 := by have := HT.out; omega
      generalize ln s L = t at *
      generalize st s L = f0 at *
      generalize en s L = t0 at *
      go_wp2
      clear hsl hcut hcv
      go_loopw [10] (fun n wr => ∃ (pos f acc : Nat), wr = w'.iter t pos ∧ n = .int .i64 acc ∧ acc + nbF t ((a : Int) - (f0 : Nat)) f pos = nbF t ((a : Int) - (f0 : Nat)) t.size 0 ∧ t.size ≤ pos + f ∧ acc ≤ pos ∧ acc ≤ t.size) (fun _ wr => t.size - wr.iterPos w'.heap.size)
      case atStart => exact ⟨0, t.size, 0, rfl, rfl, by omega, by omega, by omega, by omega⟩
      case round =>
        obtain ⟨pos, f, acc, rfl, rfl, hr, hf, hap, hz⟩ := hrel
        have HR : Hid (acc + nbF t ((a : Int) - (f0 : Nat)) f pos = nbF t ((a : Int) - (f0 : Nat)) t.size 0) := hr
        clear hr
        by_cases hp : pos < t.size
        · have hnx : ∀ ty, (Instr.next (.pointer (some ⟨w'.heap.size, 0, none⟩)) true ty).run Try.prog (w'.iter t pos) = _ := fun ty => run_next_any w' t pos ty hp
          have hwd := wd_pos t pos hp
          obtain ⟨f, rfl⟩ : ∃ f', f = f' + 1 := ⟨f - 1, by omega⟩
          have HN := HR.out
          simp only [nbF, hp, if_true] at HN
          by_cases hgt : f0 + pos ≤ a
          · rw [if_pos (by omega)] at HN
            have HN : Hid (acc + (1 + nbF t ((a : Int) - (f0 : Nat)) f (pos + wd t pos)) = nbF t ((a : Int) - (f0 : Nat)) t.size 0) := HN
            go_wp2
            go_roundw
            case rel =>
              refine ⟨pos + wd t pos, f, acc + 1, rfl, by go_num, ?_, by omega, by omega, by omega⟩
              have := HN.out
              omega
            case measure =>
              simp [wd] at *
              omega
          · rw [if_neg (by omega)] at HN
            have HN : Hid (acc + (0 + nbF t ((a : Int) - (f0 : Nat)) f (pos + wd t pos)) = nbF t ((a : Int) - (f0 : Nat)) t.size 0) := HN
            have hgt' : a < f0 + pos := by omega
            go_wp2
            go_roundw
            case rel =>
              refine ⟨pos + wd t pos, f, acc, rfl, rfl, ?_, by omega, by omega, by omega⟩
              have := HN.out
              omega
            case measure =>
              simp [wd] at *
              omega
        · have hnx : ∀ ty, (Instr.next (.pointer (some ⟨w'.heap.size, 0, none⟩)) true ty).run Try.prog (w'.iter t pos) = _ := fun ty => run_next_end w' t pos ty hp
          by_cases he : a = t0
          · have hq : ((a : Int) == (t0 : Int)) = true := by simp [he]
            have HE : Hid (a = t0) := he
            clear he
            go_wp2
            go_ret3
            have h1 := nbF_end (t := t) (off := (a : Int) - (f0 : Nat)) (f := f) hp
            have h2 := HR.out
            obtain ⟨e1, e2, e3⟩ := HS.out
            refine ⟨ret3 e1.symm ?_ e3.symm, below_iter _ _ _⟩
            have h3 := HE.out
            have h4 := HT.out
            rw [e2, if_pos (by omega)]
            omega
          · have hq : ((a : Int) == (t0 : Int)) = false := by simp; omega
            go_wp2
            go_ret3
            have h1 := nbF_end (t := t) (off := (a : Int) - (f0 : Nat)) (f := f) hp
            have h2 := HR.out
            obtain ⟨e1, e2, e3⟩ := HS.out
            refine ⟨ret3 e1.symm ?_ e3.symm, below_iter _ _ _⟩
            have h4 := HT.out
            rw [e2, if_neg (by omega)]
            omega
    · have hin : inB s a = false := by simp [inB]; omega
      have HS : Hid (SL s a = 0 ∧ SC s a = 0 ∧ SE s a = 1) := by refine ⟨?_, ?_, ?_⟩ <;> simp [SL, SC, SE, hin]
      clear hin
      go_enter Try.func17, Try.ntmps17
      go_wp2
      go_ret3
      obtain ⟨e1, e2, e3⟩ := HS.out
      exact ⟨ret3 e1.symm e2.symm e3.symm, Below.refl _ _⟩
  · have hin : inB s a = false := by simp [inB]; omega
    have HS : Hid (SL s a = 0 ∧ SC s a = 0 ∧ SE s a = 1) := by refine ⟨?_, ?_, ?_⟩ <;> simp [SL, SC, SE, hin]
    clear hin
    go_enter Try.func17, Try.ntmps17
    go_wp2
    go_ret3
    obtain ⟨e1, e2, e3⟩ := HS.out
    exact ⟨ret3 e1.symm e2.symm e3.symm, Below.refl _ _⟩
end Go.Proofs.Ytkkplmkpemajfab.Sp
