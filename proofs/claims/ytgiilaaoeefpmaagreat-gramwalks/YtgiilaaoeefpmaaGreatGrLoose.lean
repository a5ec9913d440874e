import Derived.Test.YtgiilaaoeefpmaaGreatGrKind
namespace Go.Proofs.YtgiilaaoeefpmaaGreat.Gr
open Go.RowKit Go.Proofs.YtgiilaaoeefpmaaGreat.Sp Go.Proofs.YtgiilaaoeefpmaaGreat.Lx

def loose (p k d : Int) : Bool :=
  if ruleOf p = 7 then false else if ruleOf p = 6 ∨ ruleOf d ≠ ruleOf p then decide (ruleOf d < ruleOf p) else (k == 1 || ruleOf d == 3)
/-- the reference's -/
def rank (k : Int) : Nat :=
  if k = 54 then 1 else if k = 53 then 2 else if 47 ≤ k ∧ k ≤ 52 then 3 else if k = 45 ∨ k = 46 then 4 else if k = 43 ∨ k = 44 then 5 else if k = 41 ∨ k = 42 then 6 else if 27 ≤ k ∧ k ≤ 54 then 7 else 0
def refLoose (p k d : Int) : Bool :=
  if rank p = 0 ∨ rank d = 0 ∨ rank p = 7 then false else if rank p = 6 then decide (rank d < 6) else (decide (rank d < rank p) || (rank d == rank p && (k == 1 || rank p == 3)))
theorem rank_rule (k : Int) : (rank k = ruleOf k ∧ 1 ≤ ruleOf k ∧ ruleOf k ≤ 7) ∨ (rank k = 0 ∧ ruleOf k = 7) := by
  unfold rank ruleOf
  repeat' split
  all_goals omega
theorem loose_same (p k d : Int) : refLoose p k d = loose p k d := by
  unfold refLoose loose
  rcases rank_rule p with ⟨h1, h2, h3⟩ | ⟨h1, h2⟩ <;> rcases rank_rule d with ⟨g1, g2, g3⟩ | ⟨g1, g2⟩
  · rw [h1, g1]
    generalize ruleOf p = a at *
    generalize ruleOf d = b at *
    by_cases a7 : a = 7
    · simp [a7]
    · by_cases a6 : a = 6
      · subst a6; simp; omega
      · rw [if_neg (by omega), if_neg a6, if_neg a7]
        by_cases hab : b = a
        · subst hab
          simp
          omega
        · rw [if_pos (Or.inr hab)]
          simp [hab]
  · rw [g1, g2]
    generalize ruleOf p = a at *
    by_cases a7 : a = 7
    · simp [a7]
    · rw [if_pos (Or.inr (Or.inl rfl)), if_neg a7, if_pos (Or.inr (by omega))]
      symm
      rw [decide_eq_false_iff_not]
      omega
  · rw [h1, h2]; simp
  · rw [h1, h2]; simp

set_option maxHeartbeats 1600000 in
theorem loose_any (p k d : Int) (w : World) : Calls Tryz.prog 22 #[.int .i64 p, .int .i64 k, .int .i64 d] w fun e w' => e = .returned (.bool (loose p k d)) ∧ w' = w := by
  have HL : Hid (loose p k d = if ruleOf p = 7 then false else if ruleOf p = 6 ∨ ruleOf d ≠ ruleOf p then decide (ruleOf d < ruleOf p) else (k == 1 || ruleOf d == 3)) := rfl
  have H1 : Hid (∀ w, Calls Tryz.prog 35 #[.int .i64 p] w fun e w' => e = .returned (.int .i64 (ruleOf p : Nat)) ∧ w' = w) := fun w => ruleOf_any p w
  have H2 : Hid (∀ w, Calls Tryz.prog 35 #[.int .i64 d] w fun e w' => e = .returned (.int .i64 (ruleOf d : Nat)) ∧ w' = w) := fun w => ruleOf_any d w
  generalize loose p k d = res at *
  generalize ruleOf p = a at *
  generalize ruleOf d = b at *
  go_enter Tryz.func22, Tryz.ntmps22
  go_wp2_with fail
  refine (H1.out _).mono ?_
  rintro e w' ⟨rfl, rfl⟩
  go_wp2_with fail
  refine (H2.out _).mono ?_
  rintro e w' ⟨rfl, rfl⟩
  go_wp2
  all_goals go_ret
  all_goals refine ⟨congrArg (fun b => Ending.returned (Value.bool b)) ?_, rfl⟩
  all_goals rw [HL.out]
  all_goals simp only [beq_iff_eq, beq_eq_false_iff_ne, bne_iff_ne, bne_eq_false_iff_eq, ne_eq] at *
  · rw [if_pos (by omega)]
  · rw [if_neg (by omega), if_pos (by omega)]
    rw [decide_eq_decide]; omega
  · rw [if_neg (by omega), if_pos (by omega)]
  · rw [if_neg (by omega), if_neg (by omega)]
    simp
    omega
  · rw [if_neg (by omega), if_neg (by omega)]
    have e3 : ((b : Int) == 3) = (b == 3) := by rw [Bool.eq_iff_iff]; simp; omega
    first | rw [e3] | (subst_vars; simp_all)

set_option maxHeartbeats 1600000 in
theorem isExpr_any (k : Int) (w : World) : Calls Tryz.prog 68 #[.int .i64 k] w fun e w' => e = .returned (.bool (decide (27 ≤ k ∧ k ≤ 54))) ∧ w' = w := by
  by_cases h1 : 27 ≤ k
  · go_enter Tryz.func68, Tryz.ntmps68
    go_wp2
    all_goals go_ret
    all_goals exact ⟨by simp [h1], rfl⟩
  · go_enter Tryz.func68, Tryz.ntmps68
    go_wp2
    all_goals go_ret
    all_goals exact ⟨by simp; omega, rfl⟩
set_option maxHeartbeats 3200000 in
theorem rank_any (k : Int) (w : World) : Calls Tryz.prog 42 #[.int .i64 k] w fun e w' => e = .returned (.int .i64 (rank k : Nat)) ∧ w' = w := by
  have HE : Hid (∀ w, Calls Tryz.prog 68 #[.int .i64 k] w fun e w' => e = .returned (.bool (decide (27 ≤ k ∧ k ≤ 54))) ∧ w' = w) := fun w => isExpr_any k w
  go_enter Tryz.func42, Tryz.ntmps42
  go_wp2_with (go_at_call 68; refine (HE.out _).mono ?_; rintro e w' ⟨rfl, rfl⟩)
  all_goals go_ret
  all_goals refine ⟨?_, rfl⟩
  all_goals simp only [beq_iff_eq, beq_eq_false_iff_ne, ne_eq] at *
  all_goals unfold rank
  all_goals repeat' split
  all_goals first
    | rfl
    | (exfalso; omega)

set_option maxHeartbeats 3200000 in
theorem refLoose_any (p k d : Int) (w : World) : Calls Tryz.prog 29 #[.int .i64 p, .int .i64 k, .int .i64 d] w fun e w' => e = .returned (.bool (loose p k d)) ∧ w' = w := by
  rw [← loose_same]
  have HL : Hid (refLoose p k d = if rank p = 0 ∨ rank d = 0 ∨ rank p = 7 then false else if rank p = 6 then decide (rank d < 6) else (decide (rank d < rank p) || (rank d == rank p && (k == 1 || rank p == 3)))) := rfl
  have H1 : Hid (∀ w, Calls Tryz.prog 42 #[.int .i64 p] w fun e w' => e = .returned (.int .i64 (rank p : Nat)) ∧ w' = w) := fun w => rank_any p w
  have H2 : Hid (∀ w, Calls Tryz.prog 42 #[.int .i64 d] w fun e w' => e = .returned (.int .i64 (rank d : Nat)) ∧ w' = w) := fun w => rank_any d w
  generalize refLoose p k d = res at *
  generalize rank p = a at *
  generalize rank d = b at *
  by_cases hz : a = 0 ∨ b = 0 ∨ a = 7
  · have HRes : Hid (res = false) := by show _ = _; rw [HL.out, if_pos hz]
    clear HL
    by_cases ha : a = 0
    · have q1 : ((a : Int) == 0) = true := by simp; omega
      have HQ := show Hid _ from And.intro hz (ha)
      clear hz ha
      go_enter Tryz.func29, Tryz.ntmps29
      go_wp2_with fail
      refine (H1.out _).mono ?_
      rintro e w' ⟨rfl, rfl⟩
      go_wp2_with fail
      refine (H2.out _).mono ?_
      rintro e w' ⟨rfl, rfl⟩
      go_wp2
      all_goals go_ret
      all_goals refine ⟨?_, rfl⟩
      all_goals rw [HRes.out]
      all_goals first
        | rfl
        | (have hq := HQ.out; simp at *; omega)
    · have q1 : ((a : Int) == 0) = false := by simp; omega
      by_cases hb : b = 0
      · have q2 : ((b : Int) == 0) = true := by simp; omega
        have HQ := show Hid _ from And.intro hz (And.intro ha (hb))
        clear hz ha hb
        go_enter Tryz.func29, Tryz.ntmps29
        go_wp2_with fail
        refine (H1.out _).mono ?_
        rintro e w' ⟨rfl, rfl⟩
        go_wp2_with fail
        refine (H2.out _).mono ?_
        rintro e w' ⟨rfl, rfl⟩
        go_wp2
        all_goals go_ret
        all_goals refine ⟨?_, rfl⟩
        all_goals rw [HRes.out]
        all_goals first
          | rfl
          | (have hq := HQ.out; simp at *; omega)
      · have q2 : ((b : Int) == 0) = false := by simp; omega
        have q3 : ((a : Int) == 7) = true := by simp; omega
        have HQ := show Hid _ from And.intro hz (And.intro ha (hb))
        clear hz ha hb
        go_enter Tryz.func29, Tryz.ntmps29
        go_wp2_with fail
        refine (H1.out _).mono ?_
        rintro e w' ⟨rfl, rfl⟩
        go_wp2_with fail
        refine (H2.out _).mono ?_
        rintro e w' ⟨rfl, rfl⟩
        go_wp2
        all_goals go_ret
        all_goals refine ⟨?_, rfl⟩
        all_goals rw [HRes.out]
        all_goals first
          | rfl
          | (have hq := HQ.out; simp at *; omega)
  · have q1 : ((a : Int) == 0) = false := by simp; omega
    have q2 : ((b : Int) == 0) = false := by simp; omega
    have q3 : ((a : Int) == 7) = false := by simp; omega
    by_cases h6 : a = 6
    · have q4 : ((a : Int) == 6) = true := by simp; omega
      have HRes : Hid (res = decide ((b : Int) < 6)) := by show _ = _; rw [HL.out, if_neg hz, if_pos h6, decide_eq_decide]; omega
      have HQ := show Hid _ from And.intro hz (h6)
      clear hz h6 HL
      go_enter Tryz.func29, Tryz.ntmps29
      go_wp2_with fail
      refine (H1.out _).mono ?_
      rintro e w' ⟨rfl, rfl⟩
      go_wp2_with fail
      refine (H2.out _).mono ?_
      rintro e w' ⟨rfl, rfl⟩
      go_wp2
      all_goals go_ret
      all_goals refine ⟨?_, rfl⟩
      all_goals rw [HRes.out]
      all_goals first
        | rfl
        | (have hq := HQ.out; simp at *; omega)
    · have q4 : ((a : Int) == 6) = false := by simp; omega
      have HR0 : Hid (res = (decide (b < a) || (b == a && (k == 1 || a == 3)))) := by show _ = _; rw [HL.out, if_neg hz, if_neg h6]
      clear hz h6 HL
      by_cases hlt : b < a
      · have q5 : decide ((b : Int) < (a : Int)) = true := by simp; omega
        have HRes : Hid (res = true) := by show _ = _; rw [HR0.out]; simp [hlt]
        have HQ := show Hid _ from hlt
        clear hlt HR0
        go_enter Tryz.func29, Tryz.ntmps29
        go_wp2_with fail
        refine (H1.out _).mono ?_
        rintro e w' ⟨rfl, rfl⟩
        go_wp2_with fail
        refine (H2.out _).mono ?_
        rintro e w' ⟨rfl, rfl⟩
        go_wp2
        all_goals go_ret
        all_goals refine ⟨?_, rfl⟩
        all_goals rw [HRes.out]
        all_goals first
          | rfl
          | (have hq := HQ.out; simp at *; omega)
      · have q5 : decide ((b : Int) < (a : Int)) = false := by simp; omega
        by_cases hab : b = a
        · have q6 : ((b : Int) == (a : Int)) = true := by simp; omega
          by_cases hk : k = 1
          · have q7 : (k == 1) = true := by simp [hk]
            have HRes : Hid (res = true) := by show _ = _; rw [HR0.out]; simp [hab, hk]
            have HQ := show Hid _ from And.intro hlt (And.intro hab (hk))
            clear hlt HR0 hab hk
            go_enter Tryz.func29, Tryz.ntmps29
            go_wp2_with fail
            refine (H1.out _).mono ?_
            rintro e w' ⟨rfl, rfl⟩
            go_wp2_with fail
            refine (H2.out _).mono ?_
            rintro e w' ⟨rfl, rfl⟩
            go_wp2
            all_goals go_ret
            all_goals refine ⟨?_, rfl⟩
            all_goals rw [HRes.out]
            all_goals first
              | rfl
              | (have hq := HQ.out; simp at *; omega)
          · have q7 : (k == 1) = false := by simp [hk]
            by_cases h3 : a = 3
            · have q8 : ((a : Int) == 3) = true := by simp; omega
              have HRes : Hid (res = true) := by show _ = _; rw [HR0.out]; simp [hab, h3]
              have HQ := show Hid _ from And.intro hlt (And.intro hab (And.intro hk (h3)))
              clear hlt HR0 hab hk h3
              go_enter Tryz.func29, Tryz.ntmps29
              go_wp2_with fail
              refine (H1.out _).mono ?_
              rintro e w' ⟨rfl, rfl⟩
              go_wp2_with fail
              refine (H2.out _).mono ?_
              rintro e w' ⟨rfl, rfl⟩
              go_wp2
              all_goals go_ret
              all_goals refine ⟨?_, rfl⟩
              all_goals rw [HRes.out]
              all_goals first
                | rfl
                | (have hq := HQ.out; simp at *; omega)
            · have q8 : ((a : Int) == 3) = false := by simp; omega
              have HRes : Hid (res = false) := by show _ = _; rw [HR0.out]; simp [hab, hk, h3]
              have HQ := show Hid _ from And.intro hlt (And.intro hab (And.intro hk (h3)))
              clear hlt HR0 hab hk h3
              go_enter Tryz.func29, Tryz.ntmps29
              go_wp2_with fail
              refine (H1.out _).mono ?_
              rintro e w' ⟨rfl, rfl⟩
              go_wp2_with fail
              refine (H2.out _).mono ?_
              rintro e w' ⟨rfl, rfl⟩
              go_wp2
              all_goals go_ret
              all_goals refine ⟨?_, rfl⟩
              all_goals rw [HRes.out]
              all_goals first
                | rfl
                | (have hq := HQ.out; simp at *; omega)
        · have q6 : ((b : Int) == (a : Int)) = false := by simp; omega
          have HRes : Hid (res = false) := by show _ = _; rw [HR0.out]; simp [hab, hlt]
          have HQ := show Hid _ from And.intro hlt (hab)
          clear hlt HR0 hab
          go_enter Tryz.func29, Tryz.ntmps29
          go_wp2_with fail
          refine (H1.out _).mono ?_
          rintro e w' ⟨rfl, rfl⟩
          go_wp2_with fail
          refine (H2.out _).mono ?_
          rintro e w' ⟨rfl, rfl⟩
          go_wp2
          all_goals go_ret
          all_goals refine ⟨?_, rfl⟩
          all_goals rw [HRes.out]
          all_goals first
            | rfl
            | (have hq := HQ.out; simp at *; omega)
end Go.Proofs.YtgiilaaoeefpmaaGreat.Gr
