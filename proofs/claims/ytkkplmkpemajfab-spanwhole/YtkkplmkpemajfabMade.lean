import Derived.Test.YtkkplmkpemajfabFaces
namespace Go.Proofs.Ytkkplmkpemajfab.Sp
open Go.RowKit

theorem cells5 : Try.prog.cellsOf 5 = 1 := by kernel_rfl
theorem info5 : (Try.prog.info? 5).map (fun i => (i.zero, i.size, i.bytes)) = some (some (.int .u8 0), 1, 1) := by kernel_rfl
theorem info3 : (Try.prog.info? 3).map (fun i => (i.zero, i.size, i.bytes)) = some (some (.int .i64 0), 1, 8) := by kernel_rfl

theorem clone_lite (s : ByteArray) (w : World) (hs : s.size ≤ 2097152) :
    Calls Try.prog 35 #[.string s] w fun e w' => e = .returned (.string s) ∧ Below w.heap.size w w' := by
  by_cases h0 : s.size = 0
  · obtain rfl : s = ⟨#[]⟩ := by
      apply ByteArray.ext
      exact Array.eq_empty_of_size_eq_zero h0
    go_enter Try.func35, Try.ntmps35
    go_wp2
    go_ret
    exact ⟨rfl, Below.refl _ _⟩
  · obtain ⟨i0, hi, hz0, hz1, hz2⟩ := info_parts info5
    have hin : (Try.prog.info? 5).map (·.size) = some 1 := by rw [hi]; simp [hz1]
    have hl : s.data.toList.length = s.size := by simp
    obtain ⟨M, hM⟩ : ∃ M, M = madeCells (Value.int .u8 0).cells (((s.size : Nat) : Int).toNat * i0.size) := ⟨_, rfl⟩
    have hMs : M.size = s.size := by rw [hM, size_madeCells, hz1]; simp
    have hmk : ∀ u : World, (Instr.makeSlice 22 (.int .i64 (s.size : Int)) (.int .i64 (s.size : Int))).run Try.prog u = .ok (.slice (some ⟨u.heap.size, 0, none⟩) s.size s.size) (u.alloc (.cells M 5)) := fun u => by
      have h := run_make (P := Try.prog) u 22 5 i0 (.int .u8 0) Try.underlying22 hi hz0 .i64 .i64 (s.size : Int) (s.size : Int) (by omega) (Int.le_refl _) (by rw [hz2]; omega) (by omega)
      rw [← hM] at h
      simpa using h
    clear hM
    have hcp := Lib.run_copy_row_string (P := Try.prog) (w.alloc (.cells M 5)) 22 9 3 5 w.heap.size 0 s.size s.size s M 5 Try.underlying22 hin (heap_alloc_new w _) (Nat.le_refl _) (by omega)
    obtain ⟨Y, hY⟩ : ∃ Y, Y = (M.toList.take 0 ++ Lib.byteCells s.data.toList ++ M.toList.drop (0 + s.size)).toArray := ⟨_, rfl⟩
    rw [← hY] at hcp
    have hYl : Y.toList = Lib.byteCells s.data.toList := by
      rw [hY, List.toList_toArray, List.take_zero, List.nil_append, List.drop_of_length_le (by rw [Array.length_toList]; omega), List.append_nil]
    have hYs : Y.size = s.size := by rw [← Array.length_toList, hYl, Lib.byteCells_length, hl]
    clear hY
    obtain ⟨W2, hW2⟩ : ∃ W2, W2 = (w.alloc (.cells M 5)).setRow w.heap.size Y := ⟨_, rfl⟩
    have hg : W2.heap[w.heap.size]? = some (.cells Y 5 (0, 0)) := by rw [hW2]; exact setRow_heap _ _ M _ 5 (0, 0) (heap_alloc_new w _)
    have hB2 : Below w.heap.size w W2 := by
      rw [hW2]
      exact below_setRow ((Below.refl _ w).alloc (Nat.le_refl _) _) (Nat.le_refl _) _
    rw [← hW2] at hcp
    clear hW2
    have hus := Lib.run_unsafeString_row (P := Try.prog) W2 70 3 9 5 Try.underlying70 cells5 w.heap.size Y.size (by unfold World.shape?; rw [hg]) s.data.toList (fun e => h0 (by rw [← hl, e]; rfl)) (by omega) (by omega)
      (fun j x hx => Lib.cells_of_row hg Y.size j _ (by rw [List.take_of_length_le (by rw [Array.length_toList]; exact Nat.le_refl _), hYl]; simp [Lib.byteCells, hx]))
    rw [hl] at hus
    have HB : Hid (Below w.heap.size w W2) := hB2
    clear hB2 hYl hg hin hl
    go_enter Try.func35, Try.ntmps35
    go_wp2
    go_ret
    exact ⟨rfl, Lib.below_freeze HB.out (p := ⟨w.heap.size, 0, none⟩) (Nat.le_refl _) _⟩

theorem clone_any (s : ByteArray) (w : World) (hs : s.size ≤ 2097152) :
    Calls Try.prog 28 #[.string s] w fun e w' => e = .returned (.string s) ∧ Below w.heap.size w w' := by
  go_enter Try.func28, Try.ntmps28
  go_wp2_with fail
  refine (clone_lite s _ hs).mono ?_
  rintro e w' ⟨rfl, hb⟩
  go_wp2
  go_ret
  exact ⟨rfl, hb⟩

theorem ret_si {s s' : ByteArray} {a a' : Int} (h1 : s = s') (h2 : a = a') : Ending.returned (.tuple #[.string s, .int .i64 a]) = .returned (.tuple #[.string s', .int .i64 a']) := by rw [h1, h2]

theorem lineF_any (b : Nat) (s : ByteArray) (n : Int) (w : World) (h : IsText w b s) :
    Calls Try.prog 14 #[.pointer (some ⟨b, 0, none⟩), .int .i64 n] w fun e w' => e = .returned (.tuple #[.string (LV s n), .int .i64 (LE s n)]) ∧ Below w.heap.size w w' := by
  have hs := h.hs
  by_cases hh : hasB s n = true
  · obtain ⟨L, rfl, k0, k3⟩ := hasB_yes hh
    have k6 := st_le s L k0 k3
    have k7 := en_le s L k0 k3
    have k8 := ln_size s L k0 k3
    have HS : Hid (LV s L = ln s L ∧ LE s L = 0) := by refine ⟨?_, ?_⟩ <;> simp [LV, LE, hh]
    have LZ : Hid ((ln s L).size ≤ 2097152) := by show _ ≤ _; omega
    clear k8
    go_enter Try.func14, Try.ntmps14
    go_wp2_with fail
    refine (hasLine_any b s _ _ h).mono ?_
    rintro e w' ⟨rfl, rfl⟩
    go_wp2_with fail
    refine (line_any b s L _ h k0 k3).mono ?_
    rintro e w1 ⟨rfl, hb1⟩
    go_wp2_with fail
    refine (clone_any _ _ LZ.out).mono ?_
    rintro e w2 ⟨rfl, hb2⟩
    go_wp2
    go_ret2
    obtain ⟨e1, e2⟩ := HS.out
    exact ⟨ret_si e1.symm e2.symm, hb1.trans (hb2.mono hb1.size)⟩
  · have hh : hasB s n = false := by simpa using hh
    have HS : Hid (LV s n = ByteArray.empty ∧ LE s n = 1) := by refine ⟨?_, ?_⟩ <;> simp [LV, LE, hh]
    go_enter Try.func14, Try.ntmps14
    go_wp2_with fail
    refine (hasLine_any b s _ _ h).mono ?_
    rintro e w' ⟨rfl, rfl⟩
    go_wp2
    go_ret2
    obtain ⟨e1, e2⟩ := HS.out
    exact ⟨ret_si (by rw [e1]; rfl) e2.symm, Below.refl _ _⟩
end Go.Proofs.Ytkkplmkpemajfab.Sp
