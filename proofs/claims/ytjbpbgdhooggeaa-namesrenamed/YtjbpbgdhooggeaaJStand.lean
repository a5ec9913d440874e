import Derived.Test.YtjbpbgdhooggeaaJTree
namespace Go.Proofs.Ytjbpbgdhooggeaa.Gr
open Go.RowKit Go.Proofs.Ytjbpbgdhooggeaa.Sp Go.Proofs.Ytjbpbgdhooggeaa.Lx

set_option maxHeartbeats 3200000 in
set_option maxRecDepth 100000 in
theorem mayFollow_any (a : Ab) (k : Int) (w : World) : Calls Try.prog 61 #[agb a, .int .i64 k] w fun e w' => e = .returned (.bool (mayFollow a.kind a.seen k)) ∧ Below w.heap.size w w' := by
  obtain ⟨d, m, s, c, v⟩ := a
  have H1 : Hid (∀ w, Calls Try.prog 60 #[.int .i64 k] w fun e w' => e = .returned (.bool (isItem k)) ∧ w' = w) := fun w => isItem_any k w
  have H2 : Hid (∀ w, Calls Try.prog 68 #[.int .i64 k] w fun e w' => e = .returned (.bool (isEx k)) ∧ w' = w) := fun w => isEx_any k w
  have HM : Hid (mayFollow d s k = if d = 15 ∧ (s : Int) = 0 then isItem k else if (d = 13 ∧ (s : Int) = 2) ∨ (d = 12 ∧ (s : Int) = 1) then k == 11 else if d = 12 ∧ (s : Int) = 2 then k == 11 || k == 12 else isEx k) := rfl
  simp only
  generalize mayFollow d s k = R at *
  generalize isItem k = b1 at *
  generalize isEx k = b2 at *
  have hb : Below w.heap.size w (w.alloc (.cells #[.int .i64 d, .int .i64 m, .int .i64 s, .int .i64 c, .int .i64 v] 81)) := (Below.refl _ w).alloc (Nat.le_refl _) _
  have HB : Hid (Below w.heap.size w (w.alloc (.cells #[.int .i64 d, .int .i64 m, .int .i64 s, .int .i64 c, .int .i64 v] 81))) := hb
  clear hb
  by_cases d15 : d = 15
  · subst d15
    by_cases s0 : s = 0
    · subst s0
      go_enter Try.func61, Try.ntmps61
      go_wp2_with (go_at_call 60; refine (H1.out _).mono ?_; rintro e w' ⟨rfl, rfl⟩)
      all_goals go_ret
      all_goals exact ⟨by rw [HM.out]; simp, HB.out⟩
    · have q0 : ((s : Int) == 0) = false := by simp; omega
      have HS : Hid (¬ s = 0) := s0
      clear s0
      go_enter Try.func61, Try.ntmps61
      go_wp2_with (go_at_call 68; refine (H2.out _).mono ?_; rintro e w' ⟨rfl, rfl⟩)
      all_goals go_ret
      all_goals exact ⟨by rw [HM.out]; simp [HS.out], HB.out⟩
  · have q15 : (d == 15) = false := by simp [d15]
    have D15 : Hid (¬ d = 15) := d15
    clear d15
    by_cases d13 : d = 13
    · subst d13
      by_cases s0 : s = 2
      · subst s0
        go_enter Try.func61, Try.ntmps61
        go_wp2
        all_goals go_ret
        all_goals exact ⟨by rw [HM.out]; simp, HB.out⟩
      · have q0 : ((s : Int) == 2) = false := by simp; omega
        have HS : Hid (¬ (s : Int) = 2) := by show ¬ _; omega
        clear s0
        go_enter Try.func61, Try.ntmps61
        go_wp2_with (go_at_call 68; refine (H2.out _).mono ?_; rintro e w' ⟨rfl, rfl⟩)
        all_goals go_ret
        all_goals exact ⟨by rw [HM.out]; simp [HS.out], HB.out⟩
    · have q13 : (d == 13) = false := by simp [d13]
      have D13 : Hid (¬ d = 13) := d13
      clear d13
      by_cases d12 : d = 12
      · subst d12
        by_cases s1 : s = 1
        · subst s1
          go_enter Try.func61, Try.ntmps61
          go_wp2
          all_goals go_ret
          all_goals exact ⟨by rw [HM.out]; simp, HB.out⟩
        · have q1 : ((s : Int) == 1) = false := by simp; omega
          have HS1 : Hid (¬ (s : Int) = 1) := by show ¬ _; omega
          clear s1
          by_cases s2 : s = 2
          · subst s2
            go_enter Try.func61, Try.ntmps61
            go_wp2
            all_goals go_ret
            all_goals exact ⟨by rw [HM.out]; simp [*], HB.out⟩
          · have q2 : ((s : Int) == 2) = false := by simp; omega
            have HS2 : Hid (¬ (s : Int) = 2) := by show ¬ _; omega
            clear s2
            go_enter Try.func61, Try.ntmps61
            go_wp2_with (go_at_call 68; refine (H2.out _).mono ?_; rintro e w' ⟨rfl, rfl⟩)
            all_goals go_ret
            all_goals exact ⟨by rw [HM.out]; simp [HS1.out, HS2.out], HB.out⟩
      · have q12 : (d == 12) = false := by simp [d12]
        have D12 : Hid (¬ d = 12) := d12
        clear d12
        go_enter Try.func61, Try.ntmps61
        go_wp2_with (go_at_call 68; refine (H2.out _).mono ?_; rintro e w' ⟨rfl, rfl⟩)
        all_goals go_ret
        all_goals exact ⟨by rw [HM.out]; simp [D15.out, D13.out, D12.out], HB.out⟩

set_option maxHeartbeats 3200000 in
set_option maxRecDepth 100000 in
theorem mayStand_any (a : Ab) (k : Int) (w : World) : Calls Try.prog 47 #[agb a, .int .i64 k] w fun e w' => e = .returned (.bool (mayStand a.kind a.seen a.kid k)) ∧ Below w.heap.size w w' := by
  obtain ⟨d, m, s, c, v⟩ := a
  have H1 : Hid (∀ w, Calls Try.prog 60 #[.int .i64 k] w fun e w' => e = .returned (.bool (isItem k)) ∧ w' = w) := fun w => isItem_any k w
  have H2 : Hid (∀ w, Calls Try.prog 59 #[.int .i64 k] w fun e w' => e = .returned (.bool (isDoing k)) ∧ w' = w) := fun w => isDoing_any k w
  have H3 : Hid (∀ w, Calls Try.prog 57 #[.int .i64 k] w fun e w' => e = .returned (.bool (isEvent k)) ∧ w' = w) := fun w => isEvent_any k w
  have H4 : Hid (∀ w, Calls Try.prog 58 #[.int .i64 k] w fun e w' => e = .returned (.bool (isDecl k)) ∧ w' = w) := fun w => isDecl_any k w
  have H5 : Hid (∀ w, Calls Try.prog 57 #[.int .i64 c] w fun e w' => e = .returned (.bool (isEvent c)) ∧ w' = w) := fun w => isEvent_any c w
  have H6 : Hid (∀ w, Calls Try.prog 61 #[.agg #[.int .i64 d, .int .i64 m, .int .i64 s, .int .i64 c, .int .i64 v], .int .i64 k] w fun e w' => e = .returned (.bool (mayFollow d s k)) ∧ Below w.heap.size w w') := fun w => mayFollow_any ⟨d, m, s, c, v⟩ k w
  have HM : Hid (mayStand d s c k = if d = 0 then k == 1 else if d = 1 then isEvent k || (isDecl k && !isEvent c) else if d = 7 ∨ d = 8 ∨ d = 9 ∨ d = 10 then k == 11
    else if d = 11 then isDoing k else if d = 19 ∨ d = 20 then k == 24 else if d = 38 then isItem k else mayFollow d s k) := rfl
  simp only
  generalize mayStand d s c k = R at *
  generalize mayFollow d s k = b6 at *
  generalize isItem k = b1 at *
  generalize isDoing k = b2 at *
  generalize isEvent k = b3 at *
  generalize isDecl k = b4 at *
  generalize isEvent c = b5 at *
  have hb : Below w.heap.size w (w.alloc (.cells #[.int .i64 d, .int .i64 m, .int .i64 s, .int .i64 c, .int .i64 v] 81)) := (Below.refl _ w).alloc (Nat.le_refl _) _
  have HB : Hid (Below w.heap.size w (w.alloc (.cells #[.int .i64 d, .int .i64 m, .int .i64 s, .int .i64 c, .int .i64 v] 81))) := hb
  clear hb
  by_cases d1 : d = 1
  · subst d1
    cases b3
    · cases b4
      · go_enter Try.func47, Try.ntmps47
        go_wp2_with (first
          | (go_at_call 57; refine (H3.out _).mono ?_; rintro e w' ⟨rfl, rfl⟩)
          | (go_at_call 58; refine (H4.out _).mono ?_; rintro e w' ⟨rfl, rfl⟩))
        all_goals go_ret
        all_goals exact ⟨by rw [HM.out]; simp, HB.out⟩
      · go_enter Try.func47, Try.ntmps47
        go_wp2_with fail
        refine (H3.out _).mono ?_
        rintro e w' ⟨rfl, rfl⟩
        go_wp2_with fail
        refine (H4.out _).mono ?_
        rintro e w' ⟨rfl, rfl⟩
        go_wp2_with fail
        refine (H5.out _).mono ?_
        rintro e w' ⟨rfl, rfl⟩
        go_wp2_with fail
        all_goals go_ret
        all_goals exact ⟨by rw [HM.out]; simp, HB.out⟩
    · go_enter Try.func47, Try.ntmps47
      go_wp2_with (go_at_call 57; refine (H3.out _).mono ?_; rintro e w' ⟨rfl, rfl⟩)
      all_goals go_ret
      all_goals exact ⟨by rw [HM.out]; simp, HB.out⟩
  · have q1 : (d == 1) = false := by simp [d1]
    have D1 : Hid (¬ d = 1) := d1
    clear d1
    go_enter Try.func47, Try.ntmps47
    go_wp2_with (first
      | (go_at_call 60; refine (H1.out _).mono ?_; rintro e w' ⟨rfl, rfl⟩)
      | (go_at_call 59; refine (H2.out _).mono ?_; rintro e w' ⟨rfl, rfl⟩)
      | (go_at_call 61; refine (H6.out _).mono ?_; rintro e w' ⟨rfl, hB7⟩; have HB7 : Hid (Below w.heap.size w w') := HB.out.trans (hB7.mono HB.out.size); clear hB7))
    all_goals go_ret
    all_goals simp only [beq_iff_eq, beq_eq_false_iff_ne, ne_eq] at *
    all_goals (have d1 := D1.out)
    all_goals first
      | exact ⟨by rw [HM.out]; simp [*], HB.out⟩
      | exact ⟨by rw [HM.out]; simp [*], HB7.out⟩
end Go.Proofs.Ytjbpbgdhooggeaa.Gr
