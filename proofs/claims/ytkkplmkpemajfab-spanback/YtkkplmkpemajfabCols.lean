import Derived.Test.YtkkplmkpemajfabBase
namespace Go.Proofs.Ytkkplmkpemajfab.Sp
open Go.RowKit

theorem below_iter (w : World) (s : ByteArray) (p : Nat) : Below w.heap.size w (w.iter s p) := (Below.refl _ w).alloc (Nat.le_refl _) _

set_option maxHeartbeats 400000 in
theorem column_any (t : ByteArray) (off : Int) (w : World) (ht : t.size ≤ 2097152) :
    Calls Try.prog 23 #[.string t, .int .i64 off] w fun e w' => e = .returned (.int .i64 (colN t off : Nat)) ∧ Below w.heap.size w w' := by
  have HC : Hid (colN t off = nbF t off t.size 0 + (if off = (t.size : Int) then 1 else 0)) := rfl
  go_enter Try.func23, Try.ntmps23
  go_wp2
  go_loopw [5] (fun n w' => ∃ (pos f acc : Nat), w' = w.iter t pos ∧ n = .int .i64 acc ∧ acc + nbF t off f pos = nbF t off t.size 0 ∧ t.size ≤ pos + f ∧ acc ≤ pos ∧ acc ≤ t.size) (fun _ w' => t.size - w'.iterPos w.heap.size)
  case atStart => exact ⟨0, t.size, 0, rfl, rfl, by omega, by omega, by omega, by omega⟩
  case round =>
    obtain ⟨pos, f, acc, rfl, rfl, hc, hf, ha, hz⟩ := hrel
    have HR : Hid (acc + nbF t off f pos = nbF t off t.size 0) := hc
    clear hc
    by_cases hp : pos < t.size
    · have hnx : ∀ ty, (Instr.next (.pointer (some ⟨w.heap.size, 0, none⟩)) true ty).run Try.prog (w.iter t pos) = _ := fun ty => run_next_any w t pos ty hp
      have hwd := wd_pos t pos hp
      by_cases hgt : off < (pos : Int)
      · go_wp2
        go_ret
        have h1 := nbF_past (t := t) f pos hgt
        have h2 := HR.out
        exact ⟨ret_int (by rw [HC.out, if_neg (by omega)]; omega), below_iter _ _ _⟩
      · go_wp2
        go_roundw
        case rel =>
          cases f with
          | zero => omega
          | succ f =>
            refine ⟨pos + wd t pos, f, acc + 1, rfl, by go_num, ?_, by omega, by omega, by omega⟩
            rw [← HR.out]
            simp only [nbF, hp, if_true]
            rw [if_pos (by omega)]
            omega
        case measure =>
          simp [wd] at *
          omega
    · have hnx : ∀ ty, (Instr.next (.pointer (some ⟨w.heap.size, 0, none⟩)) true ty).run Try.prog (w.iter t pos) = _ := fun ty => run_next_end w t pos ty hp
      have h1 := nbF_end (t := t) (off := off) (f := f) hp
      have h2 := HR.out
      by_cases he : off = (t.size : Int)
      · have HE : Hid (off = (t.size : Int)) := he
        have hq : (off == (t.size : Int)) = true := by simp [he]
        clear he h1 h2
        go_wp2
        go_ret
        have h1 := nbF_end (t := t) (off := off) (f := f) hp
        have h2 := HR.out
        exact ⟨ret_int (by rw [HC.out, if_pos HE.out]; omega), below_iter _ _ _⟩
      · have hq : (off == (t.size : Int)) = false := by simp [he]
        clear h1 h2
        go_wp2
        go_ret
        have h1 := nbF_end (t := t) (off := off) (f := f) hp
        have h2 := HR.out
        exact ⟨ret_int (by rw [HC.out, if_neg he]; omega), below_iter _ _ _⟩

set_option maxHeartbeats 400000 in
theorem offset_any (t : ByteArray) (c : Int) (w : World) (ht : t.size ≤ 2097152) :
    Calls Try.prog 27 #[.string t, .int .i64 c] w fun e w' => e = .returned (.tuple #[.int .i64 (plV t c : Nat), .bool (plB t c)]) ∧ Below w.heap.size w w' := by
  have HC : Hid (pl t c = plF t t.size 0 c) := rfl
  go_enter Try.func27, Try.ntmps27
  go_wp2
  go_loopw [6] (fun n w' => ∃ (pos f acc : Nat), w' = w.iter t pos ∧ n = .int .i64 acc ∧ plF t f pos (c - acc) = pl t c ∧ t.size ≤ pos + f ∧ acc ≤ pos ∧ acc ≤ t.size) (fun _ w' => t.size - w'.iterPos w.heap.size)
  case atStart => exact ⟨0, t.size, 0, rfl, rfl, by simp [pl], by omega, by omega, by omega⟩
  case round =>
    obtain ⟨pos, f, acc, rfl, rfl, hc, hf, ha, hz⟩ := hrel
    have HR : Hid (plF t f pos (c - acc) = pl t c) := hc
    clear hc
    by_cases hp : pos < t.size
    · have hnx : ∀ ty, (Instr.next (.pointer (some ⟨w.heap.size, 0, none⟩)) true ty).run Try.prog (w.iter t pos) = _ := fun ty => run_next_any w t pos ty hp
      have hwd := wd_pos t pos hp
      obtain ⟨f, rfl⟩ : ∃ f', f = f' + 1 := ⟨f - 1, by omega⟩
      by_cases he : (acc : Int) + 1 = c
      · have HE : Hid ((acc : Int) + 1 = c) := he
        have hq : ((acc : Int) + 1 == c) = true := by simp [he]
        clear he
        go_wp2
        go_ret2
        have h2 := HR.out
        rw [plF_yes hp (by have := HE.out; omega)] at h2
        exact ⟨by simp [plV, plB, ← h2], below_iter _ _ _⟩
      · have hq : ((acc : Int) + 1 == c) = false := by simp [he]
        go_wp2
        go_roundw
        case rel =>
          refine ⟨pos + wd t pos, f, acc + 1, rfl, by go_num, ?_, by omega, by omega, by omega⟩
          rw [← HR.out, plF_no hp (by omega)]
          congr 1
          omega
        case measure =>
          simp [wd] at *
          omega
    · have hnx : ∀ ty, (Instr.next (.pointer (some ⟨w.heap.size, 0, none⟩)) true ty).run Try.prog (w.iter t pos) = _ := fun ty => run_next_end w t pos ty hp
      by_cases he : (acc : Int) + 1 = c
      · have HE : Hid ((acc : Int) + 1 = c) := he
        have hq : ((acc : Int) + 1 == c) = true := by simp [he]
        clear he
        go_wp2
        go_ret2
        have h2 := HR.out
        rw [plF_end hp, if_pos (by have := HE.out; omega)] at h2
        exact ⟨by simp [plV, plB, ← h2], below_iter _ _ _⟩
      · have hq : ((acc : Int) + 1 == c) = false := by simp [he]
        go_wp2
        go_ret2
        have h2 := HR.out
        rw [plF_end hp, if_neg (by omega)] at h2
        exact ⟨by simp [plV, plB, ← h2], below_iter _ _ _⟩
end Go.Proofs.Ytkkplmkpemajfab.Sp
