import Derived.Test.YtgiilaaoeefpmaaGreatLxSkip
namespace Go.Proofs.YtgiilaaoeefpmaaGreat.Lx
open Go.RowKit Go.Proofs.YtgiilaaoeefpmaaGreat.Sp

section
variable (ao : Option Addr) (s : ByteArray) (cap a : Nat) (w : World) (h : IsBytes w ao s) (ha : a < s.size) (hs : s.size ≤ 2097152)
include h ha hs

set_option maxHeartbeats 1600000 in
theorem sign_two (h1 : a + 1 < s.size) (h2 : s2 (nb s a) (nb s (a + 1)) = true) :
    Calls Tryz.prog 112 #[.slice ao s.size cap, .int .i64 a] w fun e w' => e = .returned (.tuple #[.agg #[.int .i64 4, .int .i64 a, .int .i64 (a + 2 : Nat), .int .i64 0], .int .i64 0]) ∧ Below w.heap.size w w' := by
  obtain ⟨g, o, rfl, hg, hc1⟩ := h a ha
  have hw1 : IntKind.i64.wrap ((a : Int) + 1) = (a : Int) + 1 := by rw [IntKind.wrap_i64]; omega
  have hn1 : ((a : Int) + 1).toNat = a + 1 := by omega
  have hd1 : ∀ n, ((w.alloc (.cells #[.int .i64 0, .int .i64 0, .int .i64 0, .int .i64 0] 94)).drewN n).cell? ⟨g, o + a, none⟩ = some (.int .u8 (nb s a : Nat)) := fun n => (World.cell?_alloc_past _ _ _ hg).trans hc1
  have hd0 := hd1 0
  simp only [World.drewN] at hd0
  obtain ⟨g', o', e, _, hc2⟩ := h (a + 1) h1
  simp at e
  obtain ⟨rfl, rfl⟩ := e
  have hi1 : (a : Int) + 1 < (s.size : Int) := by omega
  have hd2 : (w.alloc (.cells #[.int .i64 0, .int .i64 0, .int .i64 0, .int .i64 0] 94)).cell? ⟨g, o + (a + 1), none⟩ = some (.int .u8 (nb s (a + 1) : Nat)) := (World.cell?_alloc_past _ _ _ hg).trans hc2
  generalize nb s (a + 1) = d at *
  generalize nb s a = c at *
  clear h
  go_enter Tryz.func112, Tryz.ntmps112
  go_wp2
  go_quiet ((go_at_call 135; exact Calls.quiet_of_same (isPair_any c d _)))
  go_wp2
  refine bodyPost_ret (v := .tuple #[.agg #[.int .i64 4, .int .i64 a, .int .i64 (a + 2 : Nat), .int .i64 0], .int .i64 0]) (by simp [results, Tryz.results112, go_sem]) rfl ⟨rfl, (((((((Below.refl _ w).alloc (Nat.le_refl _) _).trans ((below_drewN _ _).mono (by simp))).setCell (Nat.le_refl _) _).setCell (Nat.le_refl _) _).setCell (Nat.le_refl _) _).setCell (Nat.le_refl _) _)⟩

set_option maxHeartbeats 1600000 in
theorem sign_one2 (h1 : a + 1 < s.size) (h2 : s2 (nb s a) (nb s (a + 1)) = false) (h3 : s1 (nb s a) = true) :
    Calls Tryz.prog 112 #[.slice ao s.size cap, .int .i64 a] w fun e w' => e = .returned (.tuple #[.agg #[.int .i64 4, .int .i64 a, .int .i64 (a + 1 : Nat), .int .i64 0], .int .i64 0]) ∧ Below w.heap.size w w' := by
  obtain ⟨g, o, rfl, hg, hc1⟩ := h a ha
  have hw1 : IntKind.i64.wrap ((a : Int) + 1) = (a : Int) + 1 := by rw [IntKind.wrap_i64]; omega
  have hn1 : ((a : Int) + 1).toNat = a + 1 := by omega
  have hd1 : ∀ n, ((w.alloc (.cells #[.int .i64 0, .int .i64 0, .int .i64 0, .int .i64 0] 94)).drewN n).cell? ⟨g, o + a, none⟩ = some (.int .u8 (nb s a : Nat)) := fun n => (World.cell?_alloc_past _ _ _ hg).trans hc1
  have hd0 := hd1 0
  simp only [World.drewN] at hd0
  obtain ⟨g', o', e, _, hc2⟩ := h (a + 1) h1
  simp at e
  obtain ⟨rfl, rfl⟩ := e
  have hi1 : (a : Int) + 1 < (s.size : Int) := by omega
  have hd2 : (w.alloc (.cells #[.int .i64 0, .int .i64 0, .int .i64 0, .int .i64 0] 94)).cell? ⟨g, o + (a + 1), none⟩ = some (.int .u8 (nb s (a + 1) : Nat)) := (World.cell?_alloc_past _ _ _ hg).trans hc2
  generalize nb s (a + 1) = d at *
  generalize nb s a = c at *
  clear h
  go_enter Tryz.func112, Tryz.ntmps112
  go_wp2
  go_quiet ((go_at_call 135; exact Calls.quiet_of_same (isPair_any c d _)))
  have hdq := hd1 nq
  clear hd1
  go_wp2_with fail
  refine (isSingle_any c _).mono ?_
  rintro e w' ⟨rfl, rfl⟩
  go_wp2
  refine bodyPost_ret (v := .tuple #[.agg #[.int .i64 4, .int .i64 a, .int .i64 (a + 1 : Nat), .int .i64 0], .int .i64 0]) (by simp [results, Tryz.results112, go_sem]) rfl ⟨rfl, (((((((Below.refl _ w).alloc (Nat.le_refl _) _).trans ((below_drewN _ _).mono (by simp))).setCell (Nat.le_refl _) _).setCell (Nat.le_refl _) _).setCell (Nat.le_refl _) _).setCell (Nat.le_refl _) _)⟩

set_option maxHeartbeats 1600000 in
theorem sign_one1 (h1 : ¬ a + 1 < s.size) (h3 : s1 (nb s a) = true) :
    Calls Tryz.prog 112 #[.slice ao s.size cap, .int .i64 a] w fun e w' => e = .returned (.tuple #[.agg #[.int .i64 4, .int .i64 a, .int .i64 (a + 1 : Nat), .int .i64 0], .int .i64 0]) ∧ Below w.heap.size w w' := by
  obtain ⟨g, o, rfl, hg, hc1⟩ := h a ha
  have hw1 : IntKind.i64.wrap ((a : Int) + 1) = (a : Int) + 1 := by rw [IntKind.wrap_i64]; omega
  have hn1 : ((a : Int) + 1).toNat = a + 1 := by omega
  have hd1 : ∀ n, ((w.alloc (.cells #[.int .i64 0, .int .i64 0, .int .i64 0, .int .i64 0] 94)).drewN n).cell? ⟨g, o + a, none⟩ = some (.int .u8 (nb s a : Nat)) := fun n => (World.cell?_alloc_past _ _ _ hg).trans hc1
  have hd0 := hd1 0
  simp only [World.drewN] at hd0
  have hi1 : decide ((a : Int) + 1 < (s.size : Int)) = false := by simp; omega
  generalize nb s a = c at *
  clear h
  go_enter Tryz.func112, Tryz.ntmps112
  go_wp2
  go_quiet ((go_at_call 135; exact Calls.quiet_of_same (isPair_any c 0 _)))
  have hdq := hd1 nq
  clear hd1
  go_wp2_with fail
  refine (isSingle_any c _).mono ?_
  rintro e w' ⟨rfl, rfl⟩
  go_wp2
  refine bodyPost_ret (v := .tuple #[.agg #[.int .i64 4, .int .i64 a, .int .i64 (a + 1 : Nat), .int .i64 0], .int .i64 0]) (by simp [results, Tryz.results112, go_sem]) rfl ⟨rfl, (((((((Below.refl _ w).alloc (Nat.le_refl _) _).trans ((below_drewN _ _).mono (by simp))).setCell (Nat.le_refl _) _).setCell (Nat.le_refl _) _).setCell (Nat.le_refl _) _).setCell (Nat.le_refl _) _)⟩

set_option maxHeartbeats 1600000 in
theorem sign_none2 (h1 : a + 1 < s.size) (h2 : s2 (nb s a) (nb s (a + 1)) = false) (h3 : s1 (nb s a) = false) :
    Calls Tryz.prog 112 #[.slice ao s.size cap, .int .i64 a] w fun e w' => e = .returned (.tuple #[.agg #[.int .i64 0, .int .i64 0, .int .i64 0, .int .i64 0], .int .i64 11]) ∧ Below w.heap.size w w' := by
  obtain ⟨g, o, rfl, hg, hc1⟩ := h a ha
  have hw1 : IntKind.i64.wrap ((a : Int) + 1) = (a : Int) + 1 := by rw [IntKind.wrap_i64]; omega
  have hn1 : ((a : Int) + 1).toNat = a + 1 := by omega
  have hd1 : ∀ n, ((w.alloc (.cells #[.int .i64 0, .int .i64 0, .int .i64 0, .int .i64 0] 94)).drewN n).cell? ⟨g, o + a, none⟩ = some (.int .u8 (nb s a : Nat)) := fun n => (World.cell?_alloc_past _ _ _ hg).trans hc1
  have hd0 := hd1 0
  simp only [World.drewN] at hd0
  obtain ⟨g', o', e, _, hc2⟩ := h (a + 1) h1
  simp at e
  obtain ⟨rfl, rfl⟩ := e
  have hi1 : (a : Int) + 1 < (s.size : Int) := by omega
  have hd2 : (w.alloc (.cells #[.int .i64 0, .int .i64 0, .int .i64 0, .int .i64 0] 94)).cell? ⟨g, o + (a + 1), none⟩ = some (.int .u8 (nb s (a + 1) : Nat)) := (World.cell?_alloc_past _ _ _ hg).trans hc2
  generalize nb s (a + 1) = d at *
  generalize nb s a = c at *
  clear h
  go_enter Tryz.func112, Tryz.ntmps112
  go_wp2
  go_quiet ((go_at_call 135; exact Calls.quiet_of_same (isPair_any c d _)))
  have hdq := hd1 nq
  clear hd1
  go_wp2_with fail
  refine (isSingle_any c _).mono ?_
  rintro e w' ⟨rfl, rfl⟩
  go_wp2
  refine bodyPost_ret (v := .tuple #[.agg #[.int .i64 0, .int .i64 0, .int .i64 0, .int .i64 0], .int .i64 11]) (by simp [results, Tryz.results112, go_sem]) rfl ⟨rfl, (((((((Below.refl _ w).alloc (Nat.le_refl _) _).trans ((below_drewN _ _).mono (by simp))).setCell (Nat.le_refl _) _).setCell (Nat.le_refl _) _).setCell (Nat.le_refl _) _).setCell (Nat.le_refl _) _)⟩

set_option maxHeartbeats 1600000 in
theorem sign_none1 (h1 : ¬ a + 1 < s.size) (h3 : s1 (nb s a) = false) :
    Calls Tryz.prog 112 #[.slice ao s.size cap, .int .i64 a] w fun e w' => e = .returned (.tuple #[.agg #[.int .i64 0, .int .i64 0, .int .i64 0, .int .i64 0], .int .i64 11]) ∧ Below w.heap.size w w' := by
  obtain ⟨g, o, rfl, hg, hc1⟩ := h a ha
  have hw1 : IntKind.i64.wrap ((a : Int) + 1) = (a : Int) + 1 := by rw [IntKind.wrap_i64]; omega
  have hn1 : ((a : Int) + 1).toNat = a + 1 := by omega
  have hd1 : ∀ n, ((w.alloc (.cells #[.int .i64 0, .int .i64 0, .int .i64 0, .int .i64 0] 94)).drewN n).cell? ⟨g, o + a, none⟩ = some (.int .u8 (nb s a : Nat)) := fun n => (World.cell?_alloc_past _ _ _ hg).trans hc1
  have hd0 := hd1 0
  simp only [World.drewN] at hd0
  have hi1 : decide ((a : Int) + 1 < (s.size : Int)) = false := by simp; omega
  generalize nb s a = c at *
  clear h
  go_enter Tryz.func112, Tryz.ntmps112
  go_wp2
  go_quiet ((go_at_call 135; exact Calls.quiet_of_same (isPair_any c 0 _)))
  have hdq := hd1 nq
  clear hd1
  go_wp2_with fail
  refine (isSingle_any c _).mono ?_
  rintro e w' ⟨rfl, rfl⟩
  go_wp2
  refine bodyPost_ret (v := .tuple #[.agg #[.int .i64 0, .int .i64 0, .int .i64 0, .int .i64 0], .int .i64 11]) (by simp [results, Tryz.results112, go_sem]) rfl ⟨rfl, (((((((Below.refl _ w).alloc (Nat.le_refl _) _).trans ((below_drewN _ _).mono (by simp))).setCell (Nat.le_refl _) _).setCell (Nat.le_refl _) _).setCell (Nat.le_refl _) _).setCell (Nat.le_refl _) _)⟩

theorem sign_one (h2 : a + 1 < s.size → s2 (nb s a) (nb s (a + 1)) = false) (h3 : s1 (nb s a) = true) :
    Calls Tryz.prog 112 #[.slice ao s.size cap, .int .i64 a] w fun e w' => e = .returned (.tuple #[.agg #[.int .i64 4, .int .i64 a, .int .i64 (a + 1 : Nat), .int .i64 0], .int .i64 0]) ∧ Below w.heap.size w w' := by
  by_cases h1 : a + 1 < s.size
  · exact sign_one2 ao s cap a w h ha hs h1 (h2 h1) h3
  · exact sign_one1 ao s cap a w h ha hs h1 h3
theorem sign_none (h2 : a + 1 < s.size → s2 (nb s a) (nb s (a + 1)) = false) (h3 : s1 (nb s a) = false) :
    Calls Tryz.prog 112 #[.slice ao s.size cap, .int .i64 a] w fun e w' => e = .returned (.tuple #[.agg #[.int .i64 0, .int .i64 0, .int .i64 0, .int .i64 0], .int .i64 11]) ∧ Below w.heap.size w w' := by
  by_cases h1 : a + 1 < s.size
  · exact sign_none2 ao s cap a w h ha hs h1 (h2 h1) h3
  · exact sign_none1 ao s cap a w h ha hs h1 h3
end
end Go.Proofs.YtgiilaaoeefpmaaGreat.Lx
