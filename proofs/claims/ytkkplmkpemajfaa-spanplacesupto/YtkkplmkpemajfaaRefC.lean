import Derived.Test.YtkkplmkpemajfaaRefB
namespace Go.Proofs.Ytkkplmkpemajfaa.Sp
open Go.RowKit

set_option maxHeartbeats 1600000 in
theorem refPlace_any (ao : Option Addr) (s : ByteArray) (l c : Int) (cap : Nat) (w : World) (h : IsBytes w ao s) (hc : s.size ≤ cap) (hs : s.size ≤ 2097152) (hcw : c ≤ 9223372036854775807) :
    Calls Try.prog 20 #[.slice ao s.size cap, .int .i64 l, .int .i64 c] w fun e w' => e = .returned (.tuple #[.int .i64 (PV s l c), .int .i64 (PE s l c)]) ∧ Below w.heap.size w w' := by
  have HN : Hid (((brk s s.size).length + 1 : Nat) = nl s) := rfl
  by_cases hh : hasB s l = true
  · obtain ⟨L, rfl, k0, k3⟩ := hasB_yes hh
    have k6 := st_le s L k0 k3
    have k7 := en_le s L k0 k3
    have k8 := ln_size s L k0 k3
    have hd : decide ((nl s : Int) < (L : Int)) = false := by simp; omega
    have k9 : 1 ≤ (L : Int) := by omega
    by_cases hc1 : c < 1
    · have HS : Hid (PV s L c = 0 ∧ PE s L c = 1) := by
        have hp : plB (ln s L) c = false := by unfold plB pl; rw [plF_low _ _ _ hc1]; rfl
        refine ⟨?_, ?_⟩ <;> simp [PV, PE, PB, hp]
      clear k8
      go_enter Try.func20, Try.ntmps20
      go_wp2_with fail
      refine (refLines_any ao s s.size cap _ h (Nat.le_refl _) hs).mono ?_
      rintro e w' ⟨rfl, rfl⟩
      rw [HN.out]
      go_wp2
      go_ret2
      obtain ⟨e1, e2⟩ := HS.out
      exact ⟨ret2 e1.symm e2.symm, Below.refl _ _⟩
    · obtain ⟨A, C, hcut, hcv⟩ := cut_any ao s cap (st s L) (en s L) w h hc k6 k7
      rw [show s.extract (st s L) (en s L) = ln s L from rfl] at hcv
      have HS : Hid (∀ r, pl (ln s L) c = r → (∀ p, r = some p → PV s L c = ((st s L : Nat) : Int) + (p : Nat) ∧ PE s L c = 0) ∧ (r = none → PV s L c = 0 ∧ PE s L c = 1)) := by
        intro r hr
        refine ⟨fun p hp => ?_, fun hn => ?_⟩
        · subst hp
          refine ⟨?_, ?_⟩ <;> simp [PV, PE, PB, hh, plB, plV, hr]
        · subst hn
          refine ⟨?_, ?_⟩ <;> simp [PV, PE, PB, plB, hr]
      have HT : Hid ((ln s L).size = en s L - st s L) := k8
      have hcd : decide (c < 1) = false := by simp; omega
      clear k8 hh
      go_enter Try.func20, Try.ntmps20
      go_wp2_with fail
      refine (refLines_any ao s s.size cap _ h (Nat.le_refl _) hs).mono ?_
      rintro e w' ⟨rfl, rfl⟩
      rw [HN.out]
      go_wp2_with fail
      refine (bounds_any ao s L cap _ h k0 k3 hs).mono ?_
      rintro e w' ⟨rfl, rfl⟩
      have htl : (ln s L).size ≤ 2097152 := by have := HT.out; omega
      have HP : Hid (pl (ln s L) c = plF (ln s L) (ln s L).size 0 c) := rfl
      generalize ln s L = t at *
      generalize st s L = f0 at *
      generalize en s L = t0 at *
      go_wp2
      clear hcut hcv
      go_loopw [2] (fun n wr => ∃ (pos f : Nat) (d : Int), wr = w'.iter t pos ∧ n = .int .i64 d ∧ 1 ≤ d ∧ d ≤ c ∧ plF t f pos d = pl t c ∧ t.size ≤ pos + f) (fun _ wr => t.size - wr.iterPos w'.heap.size)
      case atStart => exact ⟨0, t.size, c, rfl, rfl, by omega, by omega, rfl, by omega⟩
      case round =>
        obtain ⟨pos, f, d, rfl, rfl, hd1, hd2, hr, hf⟩ := hrel
        have HR : Hid (plF t f pos d = pl t c) := hr
        clear hr
        by_cases hp : pos < t.size
        · have hnx : ∀ ty, (Instr.next (.pointer (some ⟨w'.heap.size, 0, none⟩)) true ty).run Try.prog (w'.iter t pos) = _ := fun ty => run_next_any w' t pos ty hp
          have hwd := wd_pos t pos hp
          obtain ⟨f, rfl⟩ : ∃ f', f = f' + 1 := ⟨f - 1, by omega⟩
          have hpt : pos ≤ t.size := by omega
          have ht2 : t.size ≤ t0 := by have := HT.out; omega
          by_cases he : d = 1
          · subst he
            go_wp2
            go_ret2
            have h2 := HR.out
            rw [plF_yes hp rfl] at h2
            obtain ⟨e1, e2⟩ := (HS.out _ rfl).1 pos h2.symm
            exact ⟨ret2 e1.symm e2.symm, below_iter _ _ _⟩
          · have hq : (d == 1) = false := by simp [he]
            go_wp2
            go_roundw
            case rel =>
              refine ⟨pos + wd t pos, f, d - 1, rfl, by go_num, by omega, by omega, ?_, by omega⟩
              rw [← HR.out, plF_no hp he]
            case measure =>
              simp [wd] at *
              omega
        · have hnx : ∀ ty, (Instr.next (.pointer (some ⟨w'.heap.size, 0, none⟩)) true ty).run Try.prog (w'.iter t pos) = _ := fun ty => run_next_end w' t pos ty hp
          by_cases he : d = 1
          · subst he
            go_wp2
            go_ret2
            have h2 := HR.out
            rw [plF_end hp, if_pos rfl] at h2
            obtain ⟨e1, e2⟩ := (HS.out _ rfl).1 t.size h2.symm
            have h4 := HT.out
            exact ⟨ret2 (by rw [e1]; omega) e2.symm, below_iter _ _ _⟩
          · have hq : 1 < d := by omega
            go_wp2
            go_ret2
            have h2 := HR.out
            rw [plF_end hp, if_neg he] at h2
            obtain ⟨e1, e2⟩ := (HS.out _ rfl).2 h2.symm
            exact ⟨ret2 e1.symm e2.symm, below_iter _ _ _⟩
  · have hh : hasB s l = false := by simpa using hh
    have HS : Hid (PV s l c = 0 ∧ PE s l c = 1) := by refine ⟨?_, ?_⟩ <;> simp [PV, PE, PB, hh]
    simp only [hasB, decide_eq_false_iff_not] at hh
    by_cases h1 : l < 1
    · clear hh
      go_enter Try.func20, Try.ntmps20
      go_wp2
      go_ret2
      obtain ⟨e1, e2⟩ := HS.out
      exact ⟨ret2 e1.symm e2.symm, Below.refl _ _⟩
    · have h2 : (nl s : Int) < l := by omega
      clear hh
      go_enter Try.func20, Try.ntmps20
      go_wp2_with fail
      refine (refLines_any ao s s.size cap _ h (Nat.le_refl _) hs).mono ?_
      rintro e w' ⟨rfl, rfl⟩
      rw [HN.out]
      go_wp2
      go_ret2
      obtain ⟨e1, e2⟩ := HS.out
      exact ⟨ret2 e1.symm e2.symm, Below.refl _ _⟩
end Go.Proofs.Ytkkplmkpemajfaa.Sp
