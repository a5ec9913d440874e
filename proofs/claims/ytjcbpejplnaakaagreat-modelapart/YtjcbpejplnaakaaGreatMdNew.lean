import Derived.Test.YtjcbpejplnaakaaGreatMdKeys
namespace Go.Proofs.YtjcbpejplnaakaaGreat.Md
open Go.RowKit Go.Maps Go.Proofs.YtjcbpejplnaakaaGreat.Nm

theorem mk_nodes : ∀ u : World, (Instr.makeSlice 64 (.int .i64 1) (.int .i64 1)).run Tryz.prog u = .ok (.slice (some ⟨u.heap.size, 0, none⟩) 1 1) (u.alloc (.cells #[.int .u64 0, .int .i64 0, .int .i64 0] 118)) := fun u => by
  obtain ⟨i0, hi, hz0, hz1, hz2⟩ := info_parts info118
  have h := run_make (P := Tryz.prog) u 64 118 i0 _ Tryz.underlying64 hi hz0 .i64 .i64 1 1 (by omega) (by omega) (by rw [hz2]; omega) (by omega)
  rw [hz1] at h
  rw [h, show madeCells (Value.agg #[Value.int IntKind.u64 0, Value.int IntKind.i64 0, Value.int IntKind.i64 0]).cells (Int.toNat 1 * 3) = #[.int .u64 0, .int .i64 0, .int .i64 0] by kernel_rfl]
  rfl
def c0 : Rs := ⟨fun _ => 0, fun _ => 0, fun _ => 0, 1, 0⟩
theorem inv0 : Inv c0 [] [] [] := ⟨⟨rfl, rfl⟩, by simp, by simp [c0], rfl, by simp, rfl⟩
set_option maxRecDepth 100000 in
theorem newRow_any (w : World) : Calls Tryz.prog 30 #[] w fun e w' => ∃ L : Lo, e = .returned (.agg #[.slice (some ⟨L.nb, 0, none⟩) 1 1, .map (some L.mb), I 0]) ∧ Below w.heap.size w w' ∧ w'.heap[L.nb]? = some (.cells #[.int .u64 0, .int .i64 0, .int .i64 0] 118 (0, 0)) ∧ IsBk w' L.mb (fun _ => none) 0 ∧ w.heap.size ≤ L.nb ∧ w.heap.size ≤ L.mb := by
  have hmk := mk_nodes
  have hmm : ∀ u : World, (Instr.makeMap 57 none).run Tryz.prog u = .ok (.map (some u.heap.size)) (u.alloc (.map #[] 0)) := fun u => by kernel_rfl
  obtain ⟨W, hW⟩ : ∃ W, W = ((w.alloc (.cells #[.slice none 0 0, .map none, .int .i64 0] 66)).alloc (.cells #[.int .u64 0, .int .i64 0, .int .i64 0] 118)).alloc (.map #[] 0) := ⟨_, rfl⟩
  have h0 : W.heap[w.heap.size]? = some (.cells #[.slice none 0 0, .map none, .int .i64 0] 66 (0, 0)) := by
    rw [hW, Below.heap_alloc _ _ _ (by simp; omega), Below.heap_alloc _ _ _ (by simp), heap_alloc_new]
  have h1 : W.heap[w.heap.size + 1]? = some (.cells #[.int .u64 0, .int .i64 0, .int .i64 0] 118 (0, 0)) := by
    rw [hW, Below.heap_alloc _ _ _ (by simp)]
    have := heap_alloc_new (w.alloc (.cells #[.slice none 0 0, .map none, .int .i64 0] 66)) (.cells #[.int .u64 0, .int .i64 0, .int .i64 0] 118)
    simpa using this
  have h2 : IsBk W (w.heap.size + 1 + 1) (fun _ => none) 0 := by
    have := IsBk.made ((w.alloc (.cells #[.slice none 0 0, .map none, .int .i64 0] 66)).alloc (.cells #[.int .u64 0, .int .i64 0, .int .i64 0] 118))
    rw [← hW] at this
    simpa using this
  have h3 : Below w.heap.size w W := by
    rw [hW]
    exact (((Below.refl _ w).alloc (Nat.le_refl _) _).alloc (by simp) _).alloc (by simp; omega) _
  have H : Hid (W = ((w.alloc (.cells #[.slice none 0 0, .map none, .int .i64 0] 66)).alloc (.cells #[.int .u64 0, .int .i64 0, .int .i64 0] 118)).alloc (.map #[] 0) ∧ W.heap[w.heap.size]? = some (.cells #[.slice none 0 0, .map none, .int .i64 0] 66 (0, 0)) ∧ W.heap[w.heap.size + 1]? = some (.cells #[.int .u64 0, .int .i64 0, .int .i64 0] 118 (0, 0)) ∧ IsBk W (w.heap.size + 1 + 1) (fun _ => none) 0 ∧ Below w.heap.size w W) := ⟨hW, h0, h1, h2, h3⟩
  clear hW h0 h1 h2 h3
  go_enter Tryz.func30, Tryz.ntmps30
  go_wp2_with (rw [← H.out.1]; refine wpList_store_row rfl 66 _ _ rfl w.heap.size _ rfl rfl 66 _ H.out.2.1 (by kernel_rfl) rfl (by kernel_rfl) ?_)
  have hr := setRow_heap _ _ _ #[Value.slice (some ⟨w.heap.size + 1, 0, none⟩) 1 1, Value.map (some (w.heap.size + 1 + 1)), Value.int IntKind.i64 0] _ _ H.out.2.1
  refine bodyPost_ret (results_cell_row (P := Tryz.prog) (fn := Tryz.f30) Tryz.results30 _ _ w.heap.size 66 #[Value.slice (some ⟨w.heap.size + 1, 0, none⟩) 1 1, Value.map (some (w.heap.size + 1 + 1)), Value.int IntKind.i64 0] (0, 0) _ rfl hr Tryz.underlying66 rfl (by kernel_rfl)) rfl ?_
  have ho : ∀ k, k ≠ w.heap.size → (W.setRow w.heap.size #[Value.slice (some ⟨w.heap.size + 1, 0, none⟩) 1 1, Value.map (some (w.heap.size + 1 + 1)), Value.int IntKind.i64 0]).heap[k]? = W.heap[k]? := fun k hk => setRow_other _ _ _ _ hk
  have hsz : (W.setRow w.heap.size #[Value.slice (some ⟨w.heap.size + 1, 0, none⟩) 1 1, Value.map (some (w.heap.size + 1 + 1)), Value.int IntKind.i64 0]).heap.size = W.heap.size := by simp [World.setRow]
  obtain ⟨_, _, h1, h2, h3⟩ := H.out
  refine ⟨⟨w.heap.size + 1, 1, w.heap.size + 1 + 1⟩, rfl, ⟨h3.os, h3.tape, h3.output, ?_, fun k hk => (ho k (Nat.ne_of_lt hk)).trans (h3.block k hk)⟩, (ho (w.heap.size + 1) (by omega)).trans h1, h2.same (ho (w.heap.size + 1 + 1) (by omega)), Nat.le_succ _, Nat.le_succ_of_le (Nat.le_succ _)⟩
  rw [hsz]
  exact h3.size
section
variable {w w' w2 w0 : World} {g o : Nat} {F F' G : List Nat} {L : Lo} {c : Rs} {m : Nat → Option Int} {k n size : Nat} {ns fr ks ks' l : List Nat}
set_option maxRecDepth 100000 in
theorem newFifo_any (w : World) (n : Int) : Calls Tryz.prog 14 #[I n] w fun e w' => ∃ (g : Nat) (L : Lo), e = .returned (.pointer (some ⟨g, 0, none⟩)) ∧ Below w.heap.size w w' ∧ w'.heap[L.nb]? = some (.cells #[.int .u64 0, .int .i64 0, .int .i64 0] 118 (0, 0)) ∧ IsBk w' L.mb (fun _ => none) 0 ∧ w.heap.size ≤ L.nb ∧ w.heap.size ≤ L.mb ∧ w'.heap[g]? = some (.cells #[I n, .slice (some ⟨L.nb, 0, none⟩) 1 1, .map (some L.mb), I 0] 71 (0, 0)) ∧ w.heap.size ≤ g := by
  go_enter Tryz.func14, Tryz.ntmps14
  go_wp2_with (go_at_call 30; refine (newRow_any _).mono ?_; rintro _ w1 ⟨L, rfl, h1, h2, h3, h4, h5⟩)
  have H : Hid (Below w.heap.size w w1 ∧ w1.heap[L.nb]? = some (.cells #[.int .u64 0, .int .i64 0, .int .i64 0] 118 (0, 0)) ∧ IsBk w1 L.mb (fun _ => none) 0 ∧ w.heap.size ≤ L.nb ∧ w.heap.size ≤ L.mb) := ⟨h1, h2, h3, h4, h5⟩
  clear h1 h2 h3 h4 h5
  go_wp2
  go_ret
  obtain ⟨h1, h2, h3, h4, h5⟩ := H.out
  exact ⟨w1.heap.size, L, rfl, h1.alloc h1.size _, (Below.heap_alloc _ _ _ (blk_lt h2)).trans h2, h3.same (Below.heap_alloc _ _ _ h3.lt), h4, h5, heap_alloc_new _ _, h1.size⟩
/-- a cache at rest: where it lies, its size, its keys -/
structure Ca (w : World) (g size : Nat) (F ks : List Nat) : Prop where
  rw : Rw w w g 1 F ks
  sz : w.cell? ⟨g, 0, none⟩ = some (I size)
  lt : ∀ x ∈ F, x < w.heap.size
set_option maxRecDepth 100000 in
theorem newLru_any (w : World) (n : Nat) : Calls Tryz.prog 15 #[I n] w fun e w' => ∃ (g : Nat) (F : List Nat), e = .returned (.pointer (some ⟨g, 0, none⟩)) ∧ Below w.heap.size w w' ∧ Ca w' g n F [] ∧ ∀ x ∈ F, w.heap.size ≤ x := by
  go_enter Tryz.func15, Tryz.ntmps15
  go_wp2_with fail
  refine (newFifo_any _ _).mono ?_
  rintro _ w1 ⟨g, L, rfl, h1, h2, h3, h4, h5, h6, h7⟩
  have i0 : w1.cell? ⟨g, 0, none⟩ = some (I n) := by simp [World.cell?, h6]
  have i1 : w1.cell? ⟨g, 1, none⟩ = some (.slice (some ⟨L.nb, 0, none⟩) 1 1) := by simp [World.cell?, h6]
  have i2 : w1.cell? ⟨g, 2, none⟩ = some (.map (some L.mb)) := by simp [World.cell?, h6]
  have i3 : w1.cell? ⟨g, 3, none⟩ = some (I 0) := by simp [World.cell?, h6]
  have H : Hid (Below w.heap.size w w1 ∧ w1.heap[L.nb]? = some (.cells #[.int .u64 0, .int .i64 0, .int .i64 0] 118 (0, 0)) ∧ IsBk w1 L.mb (fun _ => none) 0 ∧ w.heap.size ≤ L.nb ∧ w.heap.size ≤ L.mb) := ⟨h1, h2, h3, h4, h5⟩
  clear h1 h2 h3 h4 h5 h6 h7
  go_wp2
  go_ret
  obtain ⟨h1, h2, h3, h4, h5⟩ := H.out
  have hnb := blk_lt h2
  have hmb := h3.lt
  have hg : (w1.alloc (.cells #[I n, .slice (some ⟨L.nb, 0, none⟩) 1 1, .map (some L.mb), I 0] 73)).heap[w1.heap.size]? = some (.cells #[I n, .slice (some ⟨L.nb, 0, none⟩) 1 1, .map (some L.mb), I 0] 73 (0, 0)) := heap_alloc_new _ _
  have hm : Mem (w1.alloc (.cells #[I n, .slice (some ⟨L.nb, 0, none⟩) 1 1, .map (some L.mb), I 0] 73)) w1.heap.size 1 ⟨L.nb, 1, L.mb⟩ c0 (fun _ => none) 0 := by
    refine ⟨⟨_, _, hg, rfl, rfl, rfl⟩, ⟨_, (Below.heap_alloc _ _ _ hnb).trans h2, rfl, fun j hj => ?_⟩, h3.same (Below.heap_alloc _ _ _ hmb), Nat.ne_of_gt hnb, Nat.le_refl _, by show 1 ≤ maxLen; unfold maxLen; omega⟩
    obtain rfl : j = 0 := by have : j < 1 := hj; omega
    exact ⟨rfl, rfl, rfl⟩
  refine ⟨w1.heap.size, foot w1.heap.size ⟨L.nb, 1, L.mb⟩, rfl, h1.alloc h1.size _, ⟨⟨_, _, _, [], [], Mf.base hm, inv0, fun kk x => ?_, rfl, by simp⟩, by unfold World.cell?; rw [hg]; rfl, hm.lt⟩, ?_⟩
  · constructor
    · intro e; cases e
    · rintro ⟨_, h, _⟩; cases h
  · intro x hx
    have := h1.size
    simp only [foot, List.mem_cons, List.not_mem_nil, or_false] at hx
    rcases hx with rfl | rfl | rfl <;> omega
end
end Go.Proofs.YtjcbpejplnaakaaGreat.Md
