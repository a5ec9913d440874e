import Derived.Test.YtenhjebiokegkaaNmStep
namespace Go.Proofs.Ytenhjebiokegkaa.Nm
open Go.RowKit Go.Maps Go.Proofs.Ytenhjebiokegkaa.Sp Go.Proofs.Ytenhjebiokegkaa.Lx Go.Proofs.Ytenhjebiokegkaa.Gr

theorem alloc_at (w : World) (x : Obj) (k : Nat) (hk : k = w.heap.size) : (w.alloc x).heap[k]? = some x := hk ▸ heap_alloc_new w x
theorem alloc_old (w : World) (x : Obj) (k : Nat) (hk : k < w.heap.size) : (w.alloc x).heap[k]? = w.heap[k]? := Below.heap_alloc w x k hk
set_option maxHeartbeats 1600000 in
set_option maxRecDepth 100000 in
theorem naming_made (W : World) (rows : Value) (kb : Nat) (hr : ∃ ao n c, rows = .slice ao n c) :
    Calls Try.prog 22 #[rows, .map (some kb)] W fun e w' => e = .returned (.func (.func (askF 1)) #[] #[ptr0 W.heap.size, ptr0 (W.heap.size + 1)]) ∧ Below W.heap.size W w' ∧ w'.heap.size = W.heap.size + 2 ∧ w'.heap[W.heap.size]? = some (.cells #[rows] 29 (0, 0)) ∧ w'.heap[W.heap.size + 1]? = some (.cells #[.map (some kb)] 51 (0, 0)) := by
  obtain ⟨ao, n, c, rfl⟩ := hr
  have HX : Hid (Below W.heap.size W ((W.alloc (.cells #[.slice ao n c] 29)).alloc (.cells #[.map (some kb)] 51)) ∧ ((W.alloc (.cells #[.slice ao n c] 29)).alloc (.cells #[.map (some kb)] 51)).heap.size = W.heap.size + 2 ∧ ((W.alloc (.cells #[.slice ao n c] 29)).alloc (.cells #[.map (some kb)] 51)).heap[W.heap.size]? = some (.cells #[.slice ao n c] 29 (0, 0)) ∧ ((W.alloc (.cells #[.slice ao n c] 29)).alloc (.cells #[.map (some kb)] 51)).heap[W.heap.size + 1]? = some (.cells #[.map (some kb)] 51 (0, 0))) :=
    ⟨((Below.refl _ W).alloc (Nat.le_refl _) _).alloc (by simp only [World.size_alloc]; omega) _, by simp, by rw [alloc_old _ _ _ (by simp only [World.size_alloc]; omega)]; exact alloc_at _ _ _ rfl, alloc_at _ _ _ (by simp)⟩
  go_enter Try.func22, Try.ntmps22
  go_wp2
  go_ret
  exact ⟨rfl, HX.out⟩
set_option maxHeartbeats 1600000 in
set_option maxRecDepth 100000 in
theorem happening_made (W : World) (rows : Value) (kb : Nat) (hr : ∃ ao n c, rows = .slice ao n c) :
    Calls Try.prog 23 #[rows, .map (some kb)] W fun e w' => e = .returned (.func (.func (askF 2)) #[] #[ptr0 W.heap.size, ptr0 (W.heap.size + 1)]) ∧ Below W.heap.size W w' ∧ w'.heap.size = W.heap.size + 2 ∧ w'.heap[W.heap.size]? = some (.cells #[rows] 29 (0, 0)) ∧ w'.heap[W.heap.size + 1]? = some (.cells #[.map (some kb)] 52 (0, 0)) := by
  obtain ⟨ao, n, c, rfl⟩ := hr
  have HX : Hid (Below W.heap.size W ((W.alloc (.cells #[.slice ao n c] 29)).alloc (.cells #[.map (some kb)] 52)) ∧ ((W.alloc (.cells #[.slice ao n c] 29)).alloc (.cells #[.map (some kb)] 52)).heap.size = W.heap.size + 2 ∧ ((W.alloc (.cells #[.slice ao n c] 29)).alloc (.cells #[.map (some kb)] 52)).heap[W.heap.size]? = some (.cells #[.slice ao n c] 29 (0, 0)) ∧ ((W.alloc (.cells #[.slice ao n c] 29)).alloc (.cells #[.map (some kb)] 52)).heap[W.heap.size + 1]? = some (.cells #[.map (some kb)] 52 (0, 0))) :=
    ⟨((Below.refl _ W).alloc (Nat.le_refl _) _).alloc (by simp only [World.size_alloc]; omega) _, by simp, by rw [alloc_old _ _ _ (by simp only [World.size_alloc]; omega)]; exact alloc_at _ _ _ rfl, alloc_at _ _ _ (by simp)⟩
  go_enter Try.func23, Try.ntmps23
  go_wp2
  go_ret
  exact ⟨rfl, HX.out⟩
set_option maxHeartbeats 1600000 in
set_option maxRecDepth 100000 in
theorem declaring_made (W : World) (pb kb : Nat) :
    Calls Try.prog 21 #[.pointer (some ⟨pb, 0, none⟩), .map (some kb)] W fun e w' => e = .returned (.func (.func (askF 0)) #[] #[ptr0 W.heap.size, ptr0 (W.heap.size + 1), ptr0 (W.heap.size + 3)]) ∧ Below W.heap.size W w' ∧ w'.heap.size = W.heap.size + 4 ∧ w'.heap[W.heap.size]? = some (.cells #[.pointer (some ⟨pb, 0, none⟩)] 56 (0, 0)) ∧ w'.heap[W.heap.size + 1]? = some (.cells #[.map (some kb)] 51 (0, 0)) ∧ IsMp cmap w' (W.heap.size + 2) (fun _ => none) 0 ∧ w'.heap[W.heap.size + 3]? = some (.cells #[.map (some (W.heap.size + 2))] 68 (0, 0)) := by
  have HX : Hid (∀ w2, w2 = (W.alloc (.cells #[.pointer (some ⟨pb, 0, none⟩)] 56)).alloc (.cells #[.map (some kb)] 51) → Below W.heap.size W ((w2.alloc (.map #[] 0)).alloc (.cells #[.map (some (W.heap.size + 2))] 68)) ∧ ((w2.alloc (.map #[] 0)).alloc (.cells #[.map (some (W.heap.size + 2))] 68)).heap.size = W.heap.size + 4 ∧ ((w2.alloc (.map #[] 0)).alloc (.cells #[.map (some (W.heap.size + 2))] 68)).heap[W.heap.size]? = some (.cells #[.pointer (some ⟨pb, 0, none⟩)] 56 (0, 0)) ∧ ((w2.alloc (.map #[] 0)).alloc (.cells #[.map (some (W.heap.size + 2))] 68)).heap[W.heap.size + 1]? = some (.cells #[.map (some kb)] 51 (0, 0)) ∧ IsMp cmap ((w2.alloc (.map #[] 0)).alloc (.cells #[.map (some (W.heap.size + 2))] 68)) (W.heap.size + 2) (fun _ => none) 0 ∧ ((w2.alloc (.map #[] 0)).alloc (.cells #[.map (some (W.heap.size + 2))] 68)).heap[W.heap.size + 3]? = some (.cells #[.map (some (W.heap.size + 2))] 68 (0, 0))) := by
    rintro w2 rfl
    refine ⟨((((Below.refl _ W).alloc (Nat.le_refl _) _).alloc (by simp only [World.size_alloc]; omega) _).alloc (by simp only [World.size_alloc]; omega) _).alloc (by simp only [World.size_alloc]; omega) _, by simp, ?_, ?_, ?_, alloc_at _ _ _ (by simp)⟩
    · rw [alloc_old _ _ _ (by simp only [World.size_alloc]; omega), alloc_old _ _ _ (by simp only [World.size_alloc]; omega), alloc_old _ _ _ (by simp only [World.size_alloc]; omega)]
      exact alloc_at _ _ _ rfl
    · rw [alloc_old _ _ _ (by simp only [World.size_alloc]; omega), alloc_old _ _ _ (by simp only [World.size_alloc]; omega)]
      exact alloc_at _ _ _ (by simp)
    · have := IsMp.made cmap ((W.alloc (.cells #[.pointer (some ⟨pb, 0, none⟩)] 56)).alloc (.cells #[.map (some kb)] 51))
      have e : ((W.alloc (.cells #[.pointer (some ⟨pb, 0, none⟩)] 56)).alloc (.cells #[.map (some kb)] 51)).heap.size = W.heap.size + 2 := by simp
      rw [e] at this
      exact this.same (alloc_old _ _ _ (by simp only [World.size_alloc]; omega))
  have hmk : ∀ u : World, (Instr.makeMap 68 none).run Try.prog u = .ok (.map (some u.heap.size)) (u.alloc (.map #[] 0)) := fun u => by kernel_rfl
  go_enter Try.func21, Try.ntmps21
  go_wp2
  go_ret
  exact ⟨rfl, HX.out _ rfl⟩
end Go.Proofs.Ytenhjebiokegkaa.Nm
