import Derived.Test.YtjcbpejplnaakaaGreatMbKeys
import Derived.Test.YtjcbpejplnaakaaGreatMdNew
namespace Go.Proofs.YtjcbpejplnaakaaGreat.Mb
open Go.RowKit Go.Maps Go.Proofs.YtjcbpejplnaakaaGreat.Nm Go.Proofs.YtjcbpejplnaakaaGreat.Md

theorem mk_nodes : ∀ u : World, (Instr.makeSlice 74 (.int .i64 1) (.int .i64 1)).run Tryz.prog u = .ok (.slice (some ⟨u.heap.size, 0, none⟩) 1 1) (u.alloc (.cells #[.int .u64 0, .bool false, .int .i64 0, .int .i64 0] 124)) := fun u => by
  obtain ⟨i0, hi, hz0, hz1, hz2⟩ := info_parts info124
  have h := run_make (P := Tryz.prog) u 74 124 i0 _ Tryz.underlying74 hi hz0 .i64 .i64 1 1 (by omega) (by omega) (by rw [hz2]; omega) (by omega)
  rw [hz1] at h
  rw [h, show madeCells (Value.agg #[Value.int IntKind.u64 0, Value.bool false, Value.int IntKind.i64 0, Value.int IntKind.i64 0]).cells (Int.toNat 1 * 4) = #[.int .u64 0, .bool false, .int .i64 0, .int .i64 0] by kernel_rfl]
  rfl
set_option maxRecDepth 100000 in
theorem newRow_any (w : World) : Calls Tryz.prog 31 #[] w fun e w' => ∃ L : Lo, e = .returned (.agg #[.slice (some ⟨L.nb, 0, none⟩) 1 1, .map (some L.mb), I 0]) ∧ Below w.heap.size w w' ∧ w'.heap[L.nb]? = some (.cells #[.int .u64 0, .bool false, .int .i64 0, .int .i64 0] 124 (0, 0)) ∧ IsBk w' L.mb (fun _ => none) 0 ∧ w.heap.size ≤ L.nb ∧ w.heap.size ≤ L.mb := by
  have hmk := mk_nodes
  have hmm : ∀ u : World, (Instr.makeMap 57 none).run Tryz.prog u = .ok (.map (some u.heap.size)) (u.alloc (.map #[] 0)) := fun u => by kernel_rfl
  obtain ⟨W, hW⟩ : ∃ W, W = ((w.alloc (.cells #[.slice none 0 0, .map none, .int .i64 0] 76)).alloc (.cells #[.int .u64 0, .bool false, .int .i64 0, .int .i64 0] 124)).alloc (.map #[] 0) := ⟨_, rfl⟩
  have h0 : W.heap[w.heap.size]? = some (.cells #[.slice none 0 0, .map none, .int .i64 0] 76 (0, 0)) := by
    rw [hW, Below.heap_alloc _ _ _ (by simp; omega), Below.heap_alloc _ _ _ (by simp), heap_alloc_new]
  have h1 : W.heap[w.heap.size + 1]? = some (.cells #[.int .u64 0, .bool false, .int .i64 0, .int .i64 0] 124 (0, 0)) := by
    rw [hW, Below.heap_alloc _ _ _ (by simp)]
    have := heap_alloc_new (w.alloc (.cells #[.slice none 0 0, .map none, .int .i64 0] 76)) (.cells #[.int .u64 0, .bool false, .int .i64 0, .int .i64 0] 124)
    simpa using this
  have h2 : IsBk W (w.heap.size + 1 + 1) (fun _ => none) 0 := by
    have := IsBk.made ((w.alloc (.cells #[.slice none 0 0, .map none, .int .i64 0] 76)).alloc (.cells #[.int .u64 0, .bool false, .int .i64 0, .int .i64 0] 124))
    rw [← hW] at this
    simpa using this
  have h3 : Below w.heap.size w W := by
    rw [hW]
    exact (((Below.refl _ w).alloc (Nat.le_refl _) _).alloc (by simp) _).alloc (by simp; omega) _
  have H : Hid (W = ((w.alloc (.cells #[.slice none 0 0, .map none, .int .i64 0] 76)).alloc (.cells #[.int .u64 0, .bool false, .int .i64 0, .int .i64 0] 124)).alloc (.map #[] 0) ∧ W.heap[w.heap.size]? = some (.cells #[.slice none 0 0, .map none, .int .i64 0] 76 (0, 0)) ∧ W.heap[w.heap.size + 1]? = some (.cells #[.int .u64 0, .bool false, .int .i64 0, .int .i64 0] 124 (0, 0)) ∧ IsBk W (w.heap.size + 1 + 1) (fun _ => none) 0 ∧ Below w.heap.size w W) := ⟨hW, h0, h1, h2, h3⟩
  clear hW h0 h1 h2 h3
  go_enter Tryz.func31, Tryz.ntmps31
  go_wp2_with (rw [← H.out.1]; refine wpList_store_row rfl 76 _ _ rfl w.heap.size _ rfl rfl 76 _ H.out.2.1 (by kernel_rfl) rfl (by kernel_rfl) ?_)
  have hr := setRow_heap _ _ _ #[Value.slice (some ⟨w.heap.size + 1, 0, none⟩) 1 1, Value.map (some (w.heap.size + 1 + 1)), Value.int IntKind.i64 0] _ _ H.out.2.1
  refine bodyPost_ret (results_cell_row (P := Tryz.prog) (fn := Tryz.f31) Tryz.results31 _ _ w.heap.size 76 #[Value.slice (some ⟨w.heap.size + 1, 0, none⟩) 1 1, Value.map (some (w.heap.size + 1 + 1)), Value.int IntKind.i64 0] (0, 0) _ rfl hr Tryz.underlying76 rfl (by kernel_rfl)) rfl ?_
  have ho : ∀ k, k ≠ w.heap.size → (W.setRow w.heap.size #[Value.slice (some ⟨w.heap.size + 1, 0, none⟩) 1 1, Value.map (some (w.heap.size + 1 + 1)), Value.int IntKind.i64 0]).heap[k]? = W.heap[k]? := fun k hk => setRow_other _ _ _ _ hk
  have hsz : (W.setRow w.heap.size #[Value.slice (some ⟨w.heap.size + 1, 0, none⟩) 1 1, Value.map (some (w.heap.size + 1 + 1)), Value.int IntKind.i64 0]).heap.size = W.heap.size := by simp [World.setRow]
  obtain ⟨_, _, h1, h2, h3⟩ := H.out
  refine ⟨⟨w.heap.size + 1, 1, w.heap.size + 1 + 1⟩, rfl, ⟨h3.os, h3.tape, h3.output, ?_, fun k hk => (ho k (Nat.ne_of_lt hk)).trans (h3.block k hk)⟩, (ho (w.heap.size + 1) (by omega)).trans h1, h2.same (ho (w.heap.size + 1 + 1) (by omega)), Nat.le_succ _, Nat.le_succ_of_le (Nat.le_succ _)⟩
  rw [hsz]
  exact h3.size
end Go.Proofs.YtjcbpejplnaakaaGreat.Mb
