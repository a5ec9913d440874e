import Derived.Test.YtgiilaaoeefpmaaGreatJKind
import Derived.Test.YtgiilaaoeefpmaaGreatPureLexD
import Derived.Deep.DeepCutAuto
namespace Go.Proofs.YtgiilaaoeefpmaaGreat.Gr
open Go.RowKit Go.Proofs.YtgiilaaoeefpmaaGreat.Sp Go.Proofs.YtgiilaaoeefpmaaGreat.Lx

/-- what may stand there -/
def stands (k a : Int) : Bool :=
  if a = 0 then k == 1 else if a = 1 then isDecl k || isEvent k else if a = 2 then k == 11 else if a = 3 then isDoing k else if a = 4 then k == 11 || k == 12
  else if a = 5 then k == 25 || k == 26 else if a = 6 then k == 24 else isEx k
def kidw (d s : Int) : Int :=
  if d = 1 then 1 else if d = 11 then 3 else if d = 7 ∨ d = 8 ∨ d = 9 ∨ d = 10 then 2 else if d = 19 ∨ d = 20 then 6 else if d = 38 then 5
  else if d = 12 then (if s = 1 then 2 else if s = 2 then 4 else 7) else if d = 13 then (if s = 2 then 2 else 7) else if d = 15 then (if s = 0 then 5 else 7) else 7
def mostk (k : Int) : Int := if k = 1 ∨ k = 11 then -1 else greatest k

set_option maxHeartbeats 1600000 in
theorem refIsDecl_any (k : Int) (w : World) : Calls Tryz.prog 40 #[.int .i64 k] w fun e w' => e = .returned (.bool (isDecl k)) ∧ w' = w := by
  by_cases h1 : 2 ≤ k
  · go_enter Tryz.func40, Tryz.ntmps40
    go_wp2
    all_goals go_ret
    all_goals exact ⟨by simp [isDecl, wtn, h1], rfl⟩
  · go_enter Tryz.func40, Tryz.ntmps40
    go_wp2
    all_goals go_ret
    all_goals exact ⟨by simp [isDecl, wtn]; omega, rfl⟩
set_option maxHeartbeats 1600000 in
theorem refIsEvent_any (k : Int) (w : World) : Calls Tryz.prog 41 #[.int .i64 k] w fun e w' => e = .returned (.bool (isEvent k)) ∧ w' = w := by
  by_cases h1 : 8 ≤ k
  · go_enter Tryz.func41, Tryz.ntmps41
    go_wp2
    all_goals go_ret
    all_goals exact ⟨by simp [isEvent, wtn, h1], rfl⟩
  · go_enter Tryz.func41, Tryz.ntmps41
    go_wp2
    all_goals go_ret
    all_goals exact ⟨by simp [isEvent, wtn]; omega, rfl⟩
set_option maxHeartbeats 1600000 in
theorem refIsDoing_any (k : Int) (w : World) : Calls Tryz.prog 104 #[.int .i64 k] w fun e w' => e = .returned (.bool (isDoing k)) ∧ w' = w := by
  by_cases h1 : 11 ≤ k
  · go_enter Tryz.func104, Tryz.ntmps104
    go_wp2
    all_goals go_ret
    all_goals exact ⟨by simp [isDoing, wtn, h1], rfl⟩
  · go_enter Tryz.func104, Tryz.ntmps104
    go_wp2
    all_goals go_ret
    all_goals exact ⟨by simp [isDoing, wtn]; omega, rfl⟩
theorem refIsEx_any (k : Int) (w : World) : Calls Tryz.prog 68 #[.int .i64 k] w fun e w' => e = .returned (.bool (isEx k)) ∧ w' = w := by
  have : isEx k = decide (27 ≤ k ∧ k ≤ 54) := by simp [isEx, wtn]
  rw [this]
  exact isExpr_any k w
set_option maxHeartbeats 3200000 in
theorem refNamed_any (k : Int) (w : World) : Calls Tryz.prog 65 #[.int .i64 k] w fun e w' => e = .returned (.bool (nmd k)) ∧ w' = w := by
  have HN : Hid (nmd k = (k == 1 || k == 2 || k == 3 || k == 4 || k == 5 || k == 7 || k == 8 || k == 9 || k == 14 || k == 15 || k == 22 || k == 28 || k == 38 || k == 31 || k == 32 || k == 35 || k == 36 || k == 37 || decide (0 < lastEnd k))) := rfl
  generalize nmd k = R at *
  go_enter Tryz.func65, Tryz.ntmps65
  go_wp2
  all_goals go_ret
  all_goals refine ⟨?_, rfl⟩
  all_goals rw [HN.out]
  all_goals simp only [beq_iff_eq, beq_eq_false_iff_ne, ne_eq] at *
  all_goals simp [lastEnd, *]
set_option maxHeartbeats 3200000 in
theorem refEnded_any (k : Int) (w : World) : Calls Tryz.prog 64 #[.int .i64 k] w fun e w' => e = .returned (.bool (lastEnd k == 1)) ∧ w' = w := by
  go_enter Tryz.func64, Tryz.ntmps64
  go_wp2
  all_goals go_ret
  all_goals refine ⟨?_, rfl⟩
  all_goals simp only [beq_iff_eq, beq_eq_false_iff_ne, ne_eq] at *
  all_goals simp [lastEnd, *]
set_option maxHeartbeats 3200000 in
theorem many_any (k : Int) (w : World) : Calls Tryz.prog 67 #[.int .i64 k] w fun e w' => e = .returned (.tuple #[.int .i64 (least k : Nat), .int .i64 (mostk k)]) ∧ w' = w := by
  have HR : Hid (ruleOf k < 6 ↔ (43 ≤ k ∧ k ≤ 54)) := by
    show _ ↔ _
    unfold ruleOf
    repeat' split
    all_goals omega
  go_enter Tryz.func67, Tryz.ntmps67
  go_wp2
  all_goals go_ret2
  all_goals refine ⟨?_, rfl⟩
  all_goals simp only [beq_iff_eq, beq_eq_false_iff_ne, ne_eq] at *
  all_goals first
    | (simp [least, greatest, mostk, *]; done)
    | (have hr := HR.out
       by_cases hq : ruleOf k < 6
       · first
           | (exfalso; omega)
           | (clear hr; simp [least, greatest, mostk, *])
       · first
           | (exfalso; omega)
           | (clear hr; simp [least, greatest, mostk, *]))
set_option maxHeartbeats 3200000 in
theorem kidw_any (d s : Int) (w : World) : Calls Tryz.prog 38 #[.int .i64 d, .int .i64 s] w fun e w' => e = .returned (.int .i64 (kidw d s)) ∧ w' = w := by
  go_enter Tryz.func38, Tryz.ntmps38
  go_wp2
  all_goals go_ret
  all_goals refine ⟨?_, rfl⟩
  all_goals simp only [beq_iff_eq, beq_eq_false_iff_ne, ne_eq] at *
  all_goals simp [kidw, *]
set_option maxHeartbeats 3200000 in
theorem stands_any (k a : Int) (w : World) : Calls Tryz.prog 63 #[.int .i64 k, .int .i64 a] w fun e w' => e = .returned (.bool (stands k a)) ∧ w' = w := by
  have HS : Hid (stands k a = if a = 0 then k == 1 else if a = 1 then isDecl k || isEvent k else if a = 2 then k == 11 else if a = 3 then isDoing k else if a = 4 then k == 11 || k == 12
    else if a = 5 then k == 25 || k == 26 else if a = 6 then k == 24 else isEx k) := rfl
  generalize stands k a = R at *
  have H1 : Hid (∀ w, Calls Tryz.prog 40 #[.int .i64 k] w fun e w' => e = .returned (.bool (isDecl k)) ∧ w' = w) := fun w => refIsDecl_any k w
  have H2 : Hid (∀ w, Calls Tryz.prog 41 #[.int .i64 k] w fun e w' => e = .returned (.bool (isEvent k)) ∧ w' = w) := fun w => refIsEvent_any k w
  have H3 : Hid (∀ w, Calls Tryz.prog 104 #[.int .i64 k] w fun e w' => e = .returned (.bool (isDoing k)) ∧ w' = w) := fun w => refIsDoing_any k w
  have H4 : Hid (∀ w, Calls Tryz.prog 68 #[.int .i64 k] w fun e w' => e = .returned (.bool (isEx k)) ∧ w' = w) := fun w => refIsEx_any k w
  generalize isDecl k = b1 at *
  generalize isEvent k = b2 at *
  generalize isDoing k = b3 at *
  generalize isEx k = b4 at *
  go_enter Tryz.func63, Tryz.ntmps63
  cases b1
  all_goals go_wp2_with (first
    | (go_at_call 40; refine (H1.out _).mono ?_; rintro e w' ⟨rfl, rfl⟩)
    | (go_at_call 41; refine (H2.out _).mono ?_; rintro e w' ⟨rfl, rfl⟩)
    | (go_at_call 104; refine (H3.out _).mono ?_; rintro e w' ⟨rfl, rfl⟩)
    | (go_at_call 68; refine (H4.out _).mono ?_; rintro e w' ⟨rfl, rfl⟩))
  all_goals go_ret
  all_goals refine ⟨?_, rfl⟩
  all_goals rw [HS.out]
  all_goals simp only [beq_iff_eq, beq_eq_false_iff_ne, ne_eq] at *
  all_goals simp [*]
end Go.Proofs.YtgiilaaoeefpmaaGreat.Gr

namespace Go.Proofs.YtgiilaaoeefpmaaGreat.Gr
open Go.RowKit Go.Proofs.YtgiilaaoeefpmaaGreat.Sp Go.Proofs.YtgiilaaoeefpmaaGreat.Lx

/-- the reference's way: a row whose kids are being gone through -/
structure Op3 where
  kind : Int
  left : Int
  next : Nat
def rtake : List Op3 → List Op3
  | [] => []
  | o :: t => ⟨o.kind, o.left - 1, o.next + 1⟩ :: t
def rpop : List Op3 → List Op3
  | [] => []
  | o :: t => if o.left = 0 then rpop t else o :: t
def whatOf : List Op3 → Int
  | [] => 0
  | o :: _ => kidw o.kind o.next
/-- the reference's shape -/
def shp : List Op3 → Bool → Nat → List Rz → Int
  | _, _, i, [] => i
  | t, ev, i, r :: l =>
    if !(stands r.kind (whatOf t) && filled r) then i
    else if whatOf t == 1 && (ev && isDecl r.kind) then i
    else if (rpop (⟨r.kind, r.kids, 0⟩ :: rtake t)).isEmpty then (if l.isEmpty then -1 else ((i + 1 : Nat) : Int))
    else shp (rpop (⟨r.kind, r.kids, 0⟩ :: rtake t)) (if whatOf t == 1 then ev || isEvent r.kind else ev) (i + 1) l

def Eq3 (a : Ab) (o : Op3) : Prop := a.kind = o.kind ∧ a.seen = o.next ∧ a.kids = o.left + o.next ∧ 0 ≤ o.left
inductive Rl : List Ab → List Op3 → Bool → Prop
  | root {p q b} : Eq3 p q → p.kind = 1 → b.kids ≤ (b.seen : Int) → Rl [p, b] [q] (isEvent p.kid)
  | up {a o t l ev} : Eq3 a o → 2 ≤ a.kind → Rl t l ev → Rl (a :: t) (o :: l) ev
theorem rl_pop {t : List Ab} {l : List Op3} {ev : Bool} (h : Rl t l ev) : (pop t = [] ∧ rpop l = []) ∨ (Rl (pop t) (rpop l) ev ∧ (∃ a r, pop t = a :: r ∧ (a.seen : Int) < a.kids)) := by
  induction h with
  | @root p q b h1 h2 h3 =>
    have ⟨k1, k2, k3, k4⟩ := h1
    by_cases hc : p.kids ≤ (p.seen : Int)
    · have : q.left = 0 := by omega
      left
      simp only [pop, rpop, if_pos hc, if_pos h3, if_pos this, and_self]
    · have : ¬ q.left = 0 := by omega
      right
      simp only [pop, rpop, if_neg hc, if_neg this]
      exact ⟨.root h1 h2 h3, p, [b], rfl, by omega⟩
  | @up a o t l ev h1 h2 h3 ih =>
    have ⟨k1, k2, k3, k4⟩ := h1
    by_cases hc : a.kids ≤ (a.seen : Int)
    · have : o.left = 0 := by omega
      simp only [pop, rpop, if_pos hc, if_pos this]
      exact ih
    · have : ¬ o.left = 0 := by omega
      right
      simp only [pop, rpop, if_neg hc, if_neg this]
      exact ⟨.up h1 h2 h3, a, t, rfl, by omega⟩
theorem rl_ne {t : List Ab} {l : List Op3} {ev : Bool} (h : Rl t l ev) : ∃ a t' o l', t = a :: t' ∧ l = o :: l' ∧ Eq3 a o ∧ 1 ≤ a.kind := by
  cases h with
  | root h1 h2 h3 => exact ⟨_, _, _, _, rfl, rfl, h1, by omega⟩
  | up h1 h2 h3 => exact ⟨_, _, _, _, rfl, rfl, h1, by omega⟩
/-- what may stand, told twice -/
theorem stand_same (d s c k : Int) (h : 1 ≤ d) : mayStand d s c k = (stands k (kidw d s) && !(kidw d s == 1 && (isEvent c && isDecl k))) := by
  have hd : isDecl k = true → isEvent k = false := fun h => by simp [isDecl, isEvent, wtn] at *; omega
  by_cases h1 : d = 1
  · subst h1
    simp only [mayStand, kidw, stands]
    cases h2 : isDecl k <;> cases h3 : isEvent k <;> cases h4 : isEvent c <;> simp_all
  · by_cases h11 : d = 11
    · subst h11; simp [mayStand, kidw, stands]
    · by_cases h7 : d = 7 ∨ d = 8 ∨ d = 9 ∨ d = 10
      · rcases h7 with rfl | rfl | rfl | rfl <;> simp [mayStand, kidw, stands]
      · by_cases h19 : d = 19 ∨ d = 20
        · rcases h19 with rfl | rfl <;> simp [mayStand, kidw, stands]
        · by_cases h38 : d = 38
          · subst h38; simp [mayStand, kidw, stands, isItem]
          · by_cases h12 : d = 12
            · subst h12
              by_cases s1 : s = 1
              · subst s1; simp [mayStand, mayFollow, kidw, stands]
              · by_cases s2 : s = 2
                · subst s2; simp [mayStand, mayFollow, kidw, stands]
                · simp [mayStand, mayFollow, kidw, stands, s1, s2]
            · by_cases h13 : d = 13
              · subst h13
                by_cases s2 : s = 2
                · subst s2; simp [mayStand, mayFollow, kidw, stands]
                · simp [mayStand, mayFollow, kidw, stands, s2]
              · by_cases h15 : d = 15
                · subst h15
                  by_cases s0 : s = 0
                  · subst s0; simp [mayStand, mayFollow, kidw, stands, isItem]
                  · simp [mayStand, mayFollow, kidw, stands, s0]
                · have h0 : ¬ d = 0 := by omega
                  simp only [mayStand, mayFollow, kidw, stands, if_neg h0, if_neg h1, if_neg h11, if_neg h7, if_neg h19, if_neg h38, h12, h13, h15, false_and, or_self, if_false]
                  simp
theorem isDecl_two {k : Int} (h : isDecl k = true) : 2 ≤ k := by simp [isDecl, wtn] at h; omega
theorem stands_two {k a : Int} (h0 : a ≠ 0) (h : stands k a = true) : 2 ≤ k := by
  unfold stands at h
  rw [if_neg h0] at h
  repeat' split at h
  all_goals simp [isDecl, isEvent, isDoing, isEx, wtn] at h
  all_goals omega
theorem kidw_ne (d s : Int) : kidw d s ≠ 0 := by
  unfold kidw
  repeat' split
  all_goals simp
theorem kidw_one {d s : Int} (h : (kidw d s == 1) = true) : d = 1 := by
  by_cases h1 : d = 1
  · exact h1
  · simp only [beq_iff_eq] at h
    unfold kidw at h
    rw [if_neg h1] at h
    repeat' split at h
    all_goals simp at h
theorem kidw_root (s : Int) : kidw 1 s = 1 := by simp [kidw]
theorem filled_kids {r : Rz} (h : filled r = true) : 0 ≤ r.kids := by
  unfold filled wtn at h
  simp at h
  omega
/-- the same row, told twice -/
def same3 (p : Nat × Bool) (n : Int) : Prop := (p.2 = true ∧ n = p.1) ∨ (p.2 = false ∧ n = -1)
theorem shp_wrong (l : List Rz) : ∀ (t : List Ab) (g : List Op3) (ev : Bool) (i : Nat), Rl t g ev → (∃ a r, t = a :: r ∧ (a.seen : Int) < a.kids) → same3 (wrong t i l) (shp g ev i l) := by
  induction l with
  | nil =>
    intro t g ev i h _
    obtain ⟨a, t', o, l', rfl, rfl, _, _⟩ := rl_ne h
    exact Or.inl ⟨rfl, rfl⟩
  | cons r l ih =>
    intro t g ev i h hinc
    obtain ⟨a, t', o, l', rfl, rfl, h1, h2⟩ := rl_ne h
    have ⟨k1, k2, k3, k4⟩ := h1
    obtain ⟨a', r', e', hlt⟩ := hinc
    cases e'
    have hms := stand_same a.kind a.seen a.kid r.kind h2
    have hev : kidw a.kind a.seen == 1 → isEvent a.kid = ev := by
      intro hk
      have := kidw_one hk
      cases h with
      | root => rfl
      | up _ h4 _ => omega
    have hw : whatOf (o :: l') = kidw a.kind a.seen := by show kidw o.kind o.next = _; rw [k1, k2]
    have hbad : (!(mayStand a.kind a.seen a.kid r.kind && filled r)) = (!(stands r.kind (kidw a.kind a.seen) && filled r) || (kidw a.kind a.seen == 1 && (ev && isDecl r.kind))) := by
      rw [hms]
      cases hk : (kidw a.kind a.seen == 1)
      · simp
      · rw [hev hk]
        cases stands r.kind (kidw a.kind a.seen) <;> cases filled r <;> cases ev <;> cases isDecl r.kind <;> rfl
    show same3 (if (a :: t').isEmpty || !(mayStand a.kind a.seen a.kid r.kind && filled r) then (i, true) else wrong (past (a :: t') r 0) (i + 1) l) _
    rw [show (a :: t').isEmpty = false from rfl, Bool.false_or, hbad]
    simp only [shp, hw]
    cases hs : (stands r.kind (kidw a.kind a.seen) && filled r)
    · simp [same3]
    · cases hd : (kidw a.kind a.seen == 1 && (ev && isDecl r.kind))
      · simp only [Bool.not_true, Bool.false_or, Bool.false_eq_true, if_false]
        rw [Bool.and_eq_true] at hs
        have hk2 := stands_two (kidw_ne _ _) hs.1
        have hnew : Eq3 ⟨r.kind, r.kids, 0, 0, 0⟩ ⟨r.kind, r.kids, 0⟩ := ⟨rfl, rfl, by simp, filled_kids hs.2⟩
        have hupd : Eq3 ⟨a.kind, a.kids, a.seen + 1, r.kind, a.levels⟩ ⟨o.kind, o.left - 1, o.next + 1⟩ := ⟨k1, by show _ + 1 = _ + 1; rw [k2], by show a.kids = o.left - 1 + ((o.next + 1 : Nat) : Int); omega, by show 0 ≤ o.left - 1; omega⟩
        have hR : Rl (⟨r.kind, r.kids, 0, 0, 0⟩ :: bump r.kind (a :: t')) (⟨r.kind, r.kids, 0⟩ :: rtake (o :: l')) (if kidw a.kind a.seen == 1 then ev || isEvent r.kind else ev) := by
          refine .up hnew hk2 ?_
          cases h with
          | root h3 h4 h5 =>
            have e1 : (kidw a.kind a.seen == 1) = true := by rw [h4, kidw_root]; rfl
            rw [e1] at hd ⊢
            have : (if true = true then isEvent a.kid || isEvent r.kind else isEvent a.kid) = isEvent r.kind := by
              rw [if_pos rfl]
              have hs1 := hs.1
              rw [h4, kidw_root] at hs1
              have : (isDecl r.kind || isEvent r.kind) = true := by simpa [stands] using hs1
              cases h6 : isEvent a.kid <;> cases h7 : isDecl r.kind <;> cases h8 : isEvent r.kind <;> simp_all
            rw [this]
            exact .root hupd h4 h5
          | up h3 h4 h5 =>
            have e1 : (kidw a.kind a.seen == 1) = false := by
              cases hx : (kidw a.kind a.seen == 1)
              · rfl
              · have := kidw_one hx; omega
            rw [e1]
            exact .up hupd h4 h5
        rcases rl_pop hR with ⟨e1, e2⟩ | ⟨e1, e2⟩
        · rw [show past (a :: t') r 0 = [] from e1, e2]
          simp only [List.isEmpty_nil, if_true]
          cases l with
          | nil => exact Or.inr ⟨rfl, rfl⟩
          | cons x l => exact Or.inl ⟨rfl, rfl⟩
        · have hne : (rpop (⟨r.kind, r.kids, 0⟩ :: rtake (o :: l'))).isEmpty = false := by
            obtain ⟨_, _, _, _, _, e3, _, _⟩ := rl_ne e1
            rw [e3]; rfl
          rw [hne]
          simp only [Bool.false_eq_true, if_false]
          exact ih _ _ _ _ e1 e2
      · simp [same3]
theorem shp_wrong0 (l : List Rz) : same3 (wrong [ab1] 0 l) (shp [] false 0 l) := by
  cases l with
  | nil => exact Or.inl ⟨rfl, rfl⟩
  | cons r l =>
    show same3 (if [ab1].isEmpty || !(mayStand 0 0 0 r.kind && filled r) then (0, true) else wrong (past [ab1] r 0) 1 l) _
    have e0 : mayStand 0 0 0 r.kind = stands r.kind 0 := by simp [mayStand, stands]
    rw [show [ab1].isEmpty = false from rfl, Bool.false_or, e0]
    simp only [shp, whatOf]
    by_cases hs : (stands r.kind 0 && filled r) = true
    case neg =>
      rw [Bool.not_eq_true] at hs
      simp only [hs, Bool.not_false, if_true]
      exact Or.inl ⟨rfl, rfl⟩
    case pos =>
      have h01 : ((0 : Int) == 1) = false := rfl
      simp only [hs, h01, Bool.not_true, Bool.false_and, Bool.false_eq_true, if_false]
      rw [Bool.and_eq_true] at hs
      have hk1 : r.kind = 1 := by simpa [stands] using hs.1
      have hnew : Eq3 ⟨r.kind, r.kids, 0, 0, 0⟩ ⟨r.kind, r.kids, 0⟩ := ⟨rfl, rfl, by simp, filled_kids hs.2⟩
      have hR : Rl (⟨r.kind, r.kids, 0, 0, 0⟩ :: bump r.kind [ab1]) (⟨r.kind, r.kids, 0⟩ :: rtake []) false := .root hnew hk1 (by show (1 : Int) ≤ ((0 + 1 : Nat) : Int); omega)
      rcases rl_pop hR with ⟨e1, e2⟩ | ⟨e1, e2⟩
      · rw [show past [ab1] r 0 = [] from e1, e2]
        simp only [List.isEmpty_nil, if_true]
        cases l with
        | nil => exact Or.inr ⟨rfl, rfl⟩
        | cons x l => exact Or.inl ⟨rfl, rfl⟩
      · have hne : (rpop (⟨r.kind, r.kids, 0⟩ :: rtake [])).isEmpty = false := by
          obtain ⟨_, _, _, _, _, e3, _, _⟩ := rl_ne e1
          rw [e3]; rfl
        rw [hne]
        simp only [Bool.false_eq_true, if_false]
        exact shp_wrong l _ _ _ _ e1 e2
/-- no row is wrong: one tree -/
def mis : List Ab → Nat
  | [] => 0
  | a :: t => (a.kids - a.seen).toNat + mis t
theorem mis_pop (t : List Ab) : mis (pop t) = mis t := by
  induction t with
  | nil => rfl
  | cons a t ih =>
    simp only [pop]
    split
    · rw [ih]; simp only [mis]; omega
    · rfl
theorem wrong_whole (l : List Rz) : ∀ (t : List Ab) (i : Nat), (t = [] ∨ ∃ a r, t = a :: r ∧ (a.seen : Int) < a.kids) → (wrong t i l).2 = false → sz l (mis t) = some l.length := by
  induction l with
  | nil =>
    intro t i _ h
    cases t with
    | nil => rfl
    | cons a t => cases h
  | cons r l ih =>
    intro t i ht h
    simp only [wrong] at h
    split at h
    · cases h
    · rename_i hc
      rcases ht with rfl | ⟨a, t, rfl, hlt⟩
      · simp at hc
      · simp only [List.isEmpty_cons, Bool.false_or, Bool.not_eq_true', Bool.not_eq_false, Bool.and_eq_true] at hc
        have hk := filled_kids hc.2
        have hp : past (a :: t) r 0 = [] ∨ ∃ b q, past (a :: t) r 0 = b :: q ∧ (b.seen : Int) < b.kids := by
          have : ∀ x : List Ab, pop x = [] ∨ ∃ b q, pop x = b :: q ∧ (b.seen : Int) < b.kids := by
            intro x
            induction x with
            | nil => exact Or.inl rfl
            | cons c x ihx =>
              simp only [pop]
              split
              · exact ihx
              · exact Or.inr ⟨c, x, rfl, by omega⟩
          exact this _
        have h1 := ih _ _ hp h
        have hm : mis (past (a :: t) r 0) = mis (a :: t) - 1 + r.m := by
          show mis (pop _) = _
          rw [mis_pop]
          simp only [mis, bump, Rz.m]
          omega
        rw [hm] at h1
        exact sz_mk (by simp only [mis]; omega) h1
theorem whole_of {l : List Rz} (h : (wrong [ab1] 0 l).2 = false) : Whole l := wrong_whole l [ab1] 0 (Or.inr ⟨ab1, [], rfl, by show (0 : Int) < 1; omega⟩) h
end Go.Proofs.YtgiilaaoeefpmaaGreat.Gr

namespace Go.Proofs.YtgiilaaoeefpmaaGreat.Gr
open Go.RowKit Go.Proofs.YtgiilaaoeefpmaaGreat.Sp Go.Proofs.YtgiilaaoeefpmaaGreat.Lx

theorem info70 : (Tryz.prog.info? 70).map (fun i => (i.zero, i.size, i.bytes)) = some (some (.agg #[.int .i64 0, .int .i64 0, .int .i64 0]), 3, 24) := by kernel_rfl
def oc (o : Op3) : List Value := [.int .i64 o.kind, .int .i64 o.left, .int .i64 o.next]
def tox (t : List Op3) : List Value := t.reverse.flatMap oc
theorem tox_cons (o : Op3) (t : List Op3) : tox (o :: t) = tox t ++ oc o := by simp [tox]
theorem tox_len (t : List Op3) : (tox t).length = t.length * 3 := by
  induction t with
  | nil => rfl
  | cons a t ih => rw [tox_cons, List.length_append, ih, List.length_cons]; show _ + 3 = _; omega
theorem tox_top (o : Op3) (t : List Op3) (j : Nat) : (tox (o :: t))[t.length * 3 + j]? = (oc o)[j]? := by
  rw [tox_cons, List.getElem?_append_right (by rw [tox_len]; omega), tox_len]
  congr 1
  omega
theorem tox_set (a b : Op3) (t : List Op3) (j : Nat) (u : Value) (h : oc b = (oc a).set j u) : (tox (a :: t)).set (t.length * 3 + j) u = tox (b :: t) := by
  rw [tox_cons, tox_cons, List.set_append_right _ _ (by rw [tox_len]; omega), tox_len, h]
  congr 2
  omega
abbrev OwnO (w : World) (base : Nat) (v : Value) (t : List Op3) : Prop := w.ownsRow base 70 3 v t.length (tox t)
theorem own_otop {w : World} {base : Nat} {v : Value} {a : Op3} {t : List Op3} (h : OwnO w base v (a :: t)) : ∃ g cap, v = .slice (some ⟨g, 0, none⟩) (t.length + 1) cap ∧ base ≤ g ∧ g < w.heap.size ∧ t.length + 1 ≤ cap ∧ (∀ j, w.frozen? ⟨g, j, none⟩ = false) ∧
    ∀ W : World, W.heap[g]? = w.heap[g]? → W.cell? ⟨g, t.length * 3, none⟩ = some (.int .i64 a.kind) ∧ W.cell? ⟨g, t.length * 3 + 1, none⟩ = some (.int .i64 a.left) ∧ W.cell? ⟨g, t.length * 3 + 2, none⟩ = some (.int .i64 a.next) := by
  obtain ⟨g, cap, cur, rfl, h2, h3, h4, h5, h6, h7⟩ := own_block h (by simp)
  have hlt := (Array.getElem?_eq_some_iff.1 h3).1
  refine ⟨g, cap, rfl, h2, hlt, h4, fun j => h.frozenAt j, fun W hW => ?_⟩
  have hc : ∀ j, j < 3 → W.cell? ⟨g, t.length * 3 + j, none⟩ = (oc a)[j]? := fun j hj => by
    rw [World.cell?_of_block (w := w) (w' := W) (a := ⟨g, t.length * 3 + j, none⟩) hW, ← tox_top a t j]
    exact h.cellAt _ (by simp only [List.length_cons]; omega)
  exact ⟨hc 0 (by omega), hc 1 (by omega), hc 2 (by omega)⟩
theorem own_opop {w : World} {base g cap : Nat} {a : Op3} {t : List Op3} (h : OwnO w base (.slice (some ⟨g, 0, none⟩) (t.length + 1) cap) (a :: t)) : OwnO w base (.slice (some ⟨g, 0, none⟩) t.length cap) t := by
  refine ownsRow_pop (last := oc a) (tox_len t) ?_
  rw [← tox_cons]
  exact h
theorem own_opush {w' : World} {base : Nat} {v' : Value} {t : List Op3} {a : Op3} (h : w'.ownsRow base 70 3 v' (t.length + 1) (tox t ++ oc a)) : OwnO w' base v' (a :: t) := by
  rw [← tox_cons] at h
  exact h
/-- one kid more has come -/
theorem own_take {w : World} {base g cap : Nat} {a : Op3} {t : List Op3} (h : OwnO w base (.slice (some ⟨g, 0, none⟩) (t.length + 1) cap) (a :: t)) :
    OwnO ((w.setCell ⟨g, t.length * 3 + 2, none⟩ (.int .i64 ((a.next : Int) + 1))).setCell ⟨g, t.length * 3 + 1, none⟩ (.int .i64 (a.left - 1))) base (.slice (some ⟨g, 0, none⟩) (t.length + 1) cap) (rtake (a :: t)) ∧
    Went w (.slice (some ⟨g, 0, none⟩) (t.length + 1) cap) ((w.setCell ⟨g, t.length * 3 + 2, none⟩ (.int .i64 ((a.next : Int) + 1))).setCell ⟨g, t.length * 3 + 1, none⟩ (.int .i64 (a.left - 1))) (.slice (some ⟨g, 0, none⟩) (t.length + 1) cap) ∧
    (∀ j, (w.setCell ⟨g, t.length * 3 + 2, none⟩ (.int .i64 ((a.next : Int) + 1))).frozen? ⟨g, j, none⟩ = false) ∧
    (w.setCell ⟨g, t.length * 3 + 2, none⟩ (.int .i64 ((a.next : Int) + 1))).cell? ⟨g, t.length * 3 + 1, none⟩ = some (.int .i64 a.left) := by
  obtain ⟨h1, g1⟩ := World.ownsRow.stored h (t.length * 3 + 2) (.int .i64 ((a.next : Int) + 1))
  obtain ⟨h2, g2⟩ := World.ownsRow.stored h1 (t.length * 3 + 1) (.int .i64 (a.left - 1))
  have e1 := h1
  rw [tox_set a ⟨a.kind, a.left, a.next + 1⟩ t 2 _ (by simp [oc])] at e1 h2
  rw [tox_set ⟨a.kind, a.left, a.next + 1⟩ ⟨a.kind, a.left - 1, a.next + 1⟩ t 1 _ rfl] at h2
  refine ⟨h2, (Went.mk g1 (Or.inl rfl)).trans (Went.mk g2 (Or.inl rfl)), fun j => h1.frozenAt j, ?_⟩
  rw [e1.cellAt _ (by omega)]
  exact tox_top ⟨a.kind, a.left, a.next + 1⟩ t 1
/-- bounds of the reference's way -/
def OkO (n : Nat) (t : List Op3) : Prop := ∀ o ∈ t, 0 ≤ o.left ∧ o.left ≤ 9223372036854775807 ∧ o.next ≤ n
theorem ok_pop {n : Nat} {t : List Op3} (h : OkO n t) : OkO n (rpop t) := by
  induction t with
  | nil => exact h
  | cons a t ih =>
    simp only [rpop]
    split
    · exact ih fun b hb => h b (List.mem_cons_of_mem _ hb)
    · exact h
theorem ok_take {n : Nat} {t : List Op3} (h : OkO n t) (h0 : ∀ o r, t = o :: r → o.left ≠ 0) : OkO (n + 1) (rtake t) := by
  cases t with
  | nil => exact fun _ h => by cases h
  | cons a t =>
    intro o ho
    have ha := h a (List.mem_cons_self ..)
    have h1 := h0 a t rfl
    rcases List.mem_cons.1 ho with rfl | ho
    · exact ⟨by show 0 ≤ a.left - 1; omega, by show a.left - 1 ≤ _; omega, by show a.next + 1 ≤ n + 1; omega⟩
    · have := h o (List.mem_cons_of_mem _ ho); omega
theorem rpop_hd (t : List Op3) : ∀ o r, rpop t = o :: r → o.left ≠ 0 := by
  induction t with
  | nil => intro o r h; cases h
  | cons a t ih =>
    intro o r h
    simp only [rpop] at h
    split at h
    · exact ih o r h
    · cases h; assumption
theorem rpop_len (t : List Op3) : (rpop t).length ≤ t.length := by
  induction t with
  | nil => exact Nat.le_refl _
  | cons a t ih =>
    simp only [rpop]
    split
    · exact Nat.le_succ_of_le ih
    · exact Nat.le_refl _
theorem rtake_len (t : List Op3) : (rtake t).length = t.length := by cases t <;> rfl
theorem cell_three (w : World) (T : TypeId) (a b c : Value) : ∀ j u, [a, b, c][j]? = some u → (w.alloc (.cells #[a, b, c] T)).cell? ((⟨w.heap.size, 0, none⟩ : Addr).add j) = some u := by
  intro j u h
  have := Lib.cells_of_row (heap_alloc_new w (.cells #[a, b, c] T)) 3 j u (by simpa using h)
  exact this
end Go.Proofs.YtgiilaaoeefpmaaGreat.Gr

namespace Go.Proofs.YtgiilaaoeefpmaaGreat.Lx
open Go.RowKit Go.Proofs.YtgiilaaoeefpmaaGreat.Sp

theorem letter_any (c : Nat) (w : World) : Calls Tryz.prog 131 #[.int .u8 c] w fun e w' => e = .returned (.bool (isL c)) ∧ w' = w := by
  have HF : Hid (isL c = ((decide (97 ≤ c) && decide (c ≤ 122)) || (decide (65 ≤ c) && decide (c ≤ 90)) || c == 95)) := rfl
  by_cases h1 : 97 ≤ c
  · by_cases h2 : c ≤ 122
    · go_enter Tryz.func131, Tryz.ntmps131
      go_wp2
      go_ret
      exact ⟨ret_b (by rw [HF.out]; simp [h1, h2]), rfl⟩
    · have h3 : ((c : Int) == 95) = false := by simp; omega
      go_enter Tryz.func131, Tryz.ntmps131
      go_wp2
      go_ret
      exact ⟨ret_b (by rw [HF.out, Bool.eq_iff_iff]; simp; omega), rfl⟩
  · by_cases h2 : 65 ≤ c
    · by_cases h3 : c ≤ 90
      · go_enter Tryz.func131, Tryz.ntmps131
        go_wp2
        go_ret
        exact ⟨ret_b (by rw [HF.out]; simp [h2, h3]), rfl⟩
      · go_enter Tryz.func131, Tryz.ntmps131
        go_wp2
        go_ret
        exact ⟨ret_b (by rw [HF.out, Bool.eq_iff_iff]; simp; omega), rfl⟩
    · have h3 : ((c : Int) == 95) = false := by simp; omega
      go_enter Tryz.func131, Tryz.ntmps131
      go_wp2
      go_ret
      exact ⟨ret_b (by rw [HF.out, Bool.eq_iff_iff]; simp; omega), rfl⟩

theorem digit_any (c : Nat) (w : World) : Calls Tryz.prog 132 #[.int .u8 c] w fun e w' => e = .returned (.bool (isD c)) ∧ w' = w := by
  have HF : Hid (isD c = (decide (48 ≤ c) && decide (c ≤ 57))) := rfl
  by_cases h1 : 48 ≤ c
  · go_enter Tryz.func132, Tryz.ntmps132
    go_wp2
    go_ret
    exact ⟨ret_b (by rw [HF.out, Bool.eq_iff_iff]; simp; omega), rfl⟩
  · go_enter Tryz.func132, Tryz.ntmps132
    go_wp2
    go_ret
    exact ⟨ret_b (by rw [HF.out]; simp [h1]), rfl⟩

/-- s[k] of a string -/
theorem index_any (s : ByteArray) (k : Nat) (K : Int) (hK : K = (k : Int)) (hk : k < s.size) (w : World) : (Instr.index 9 (.string s) (.int .i64 K)).run Tryz.prog w = .ok (.int .u8 (nb s k : Nat)) w := by
  subst hK
  rw [run_index_string w 9 s .i64 (k : Int) Tryz.underlying9, dif_pos ⟨by omega, by omega⟩, nb_get s k hk]
  simp

/-- a letter, and letters and digits; all of it -/
def shp (s : ByteArray) (k : Nat) : Bool := (List.range k).all fun i => isL (nb s i) || (i != 0 && isD (nb s i))
theorem shp_succ (s : ByteArray) (k : Nat) : shp s (k + 1) = (shp s k && (isL (nb s k) || (k != 0 && isD (nb s k)))) := by
  unfold shp
  rw [List.range_succ, List.all_append]
  simp
theorem shp_no {s : ByteArray} {k m : Nat} (h : (isL (nb s k) || (k != 0 && isD (nb s k))) = false) (hk : k < m) : shp s m = false := by
  cases h1 : shp s m with
  | false => rfl
  | true =>
    unfold shp at h1
    have := List.all_eq_true.1 h1 k (by simp; omega)
    rw [h] at this
    cases this

set_option maxHeartbeats 1600000 in
set_option maxRecDepth 100000 in
theorem shaped_any (s : ByteArray) (w : World) (hs : s.size ≤ 4611686018427387904) :
    Calls Tryz.prog 105 #[.string s] w fun e w' => e = .returned (.bool (shp s s.size && decide (0 < s.size))) ∧ w' = w := by
  go_enter Tryz.func105, Tryz.ntmps105
  go_wp2
  go_loop [3] (fun i => ∃ k : Nat, k ≤ s.size ∧ i = .int .i64 k ∧ shp s k = true) (fun i => s.size - (intOf i).toNat)
  case atStart => exact ⟨0, Nat.zero_le _, rfl, rfl⟩
  case round =>
    obtain ⟨k, hk, rfl, hr⟩ := hrel
    have HR : Hid (shp s k = true) := hr
    clear hr
    by_cases hlt : k < s.size
    · have hix := index_any s k _ rfl hlt
      by_cases hL : isL (nb s k) = true
      · have HN : Hid (shp s (k + 1) = true) := by show _ = _; rw [shp_succ, HR.out, hL]; rfl
        generalize nb s k = c at *
        go_wp2_with fail
        refine (letter_any c _).mono ?_
        rintro e w' ⟨rfl, rfl⟩
        go_wp2_with fail
        go_round
        case rel => exact ⟨k + 1, by omega, by go_num, HN.out⟩
        case measure => simp [intOf]; omega
      · have hL : isL (nb s k) = false := by simpa using hL
        by_cases h0 : k = 0
        · have hq : ((k : Int) == 0) = true := by simp [h0]
          have HN : Hid (shp s s.size = false) := shp_no (k := k) (by rw [hL, h0]; rfl) hlt
          clear h0
          generalize nb s k = c at *
          go_wp2_with fail
          refine (letter_any c _).mono ?_
          rintro e w' ⟨rfl, rfl⟩
          go_wp2_with fail
          go_ret
          exact ⟨ret_b (by rw [HN.out]; rfl), rfl⟩
        · have hq : ((k : Int) == 0) = false := by simp; omega
          by_cases hD : isD (nb s k) = true
          · have HN : Hid (shp s (k + 1) = true) := by
              show _ = _
              rw [shp_succ, HR.out, hL, hD]
              simp [h0]
            generalize nb s k = c at *
            go_wp2_with fail
            refine (letter_any c _).mono ?_
            rintro e w' ⟨rfl, rfl⟩
            go_wp2_with fail
            refine (digit_any c _).mono ?_
            rintro e w' ⟨rfl, rfl⟩
            go_wp2_with fail
            go_round
            case rel => exact ⟨k + 1, by omega, by go_num, HN.out⟩
            case measure => simp [intOf]; omega
          · have hD : isD (nb s k) = false := by simpa using hD
            have HN : Hid (shp s s.size = false) := shp_no (k := k) (by rw [hL, hD]; simp) hlt
            generalize nb s k = c at *
            go_wp2_with fail
            refine (letter_any c _).mono ?_
            rintro e w' ⟨rfl, rfl⟩
            go_wp2_with fail
            refine (digit_any c _).mono ?_
            rintro e w' ⟨rfl, rfl⟩
            go_wp2_with fail
            go_ret
            exact ⟨ret_b (by rw [HN.out]; rfl), rfl⟩
    · obtain rfl : k = s.size := by omega
      go_wp2_with fail
      go_ret
      exact ⟨ret_b (by rw [HR.out]; simp), rfl⟩

/-- does t stand in K at i, a byte 32 on both sides? -/
theorem occurs_iff {K t : List Nat} {i : Nat} (h : i + t.length + 2 ≤ K.length) : Occurs K t i ↔ (K.getD i 0 = 32 ∧ K.getD (i + t.length + 1) 0 = 32 ∧ (K.drop (i + 1)).take t.length = t) := by
  constructor
  · rintro ⟨a, b, rfl, rfl⟩
    refine ⟨by simp [List.getD], ?_, ?_⟩
    · have : (a ++ 32 :: (t ++ 32 :: b))[a.length + t.length + 1]? = some 32 := by
        rw [List.getElem?_append_right (by omega), show a.length + t.length + 1 - a.length = t.length + 1 by omega, List.getElem?_cons_succ, List.getElem?_append_right (by omega)]
        simp
      rw [List.getD, this]; rfl
    · rw [← List.drop_drop, List.drop_left]
      simp
  · rintro ⟨h1, h2, h3⟩
    refine ⟨K.take i, K.drop (i + t.length + 2), ?_, by simp; omega⟩
    have e1 : K.drop i = 32 :: K.drop (i + 1) := by
      rw [List.drop_eq_getElem_cons (by omega)]
      rw [List.getD, List.getElem?_eq_getElem (by omega)] at h1
      simp only [Option.getD_some] at h1
      rw [h1]
    have e2 : K.drop (i + 1) = t ++ K.drop (i + 1 + t.length) := by
      have := (List.take_append_drop t.length (K.drop (i + 1))).symm
      rw [h3, List.drop_drop] at this
      exact this
    have e3 : K.drop (i + 1 + t.length) = 32 :: K.drop (i + t.length + 2) := by
      rw [List.drop_eq_getElem_cons (by omega)]
      rw [List.getD, List.getElem?_eq_getElem (by omega)] at h2
      simp only [Option.getD_some] at h2
      rw [show i + 1 + t.length + 1 = i + t.length + 2 by omega]
      congr 1
      rw [← h2]
      congr 1
      omega
    rw [← e3, ← e2, ← e1, List.take_append_drop]
theorem occurs_len {K t : List Nat} {i : Nat} (h : Occurs K t i) : i + t.length + 2 ≤ K.length := by
  obtain ⟨a, b, rfl, rfl⟩ := h
  simp; omega
/-- what among tells -/
def am (K t : List Nat) : Bool := decide (0 < t.length) && t.all (· != 32) && decide (t ∈ inner K)
theorem am_blank {K t : List Nat} {i : Nat} (hi : i < t.length) (h : t.getD i 0 = 32) : am K t = false := by
  have : t.all (· != 32) = false := by
    rw [Bool.eq_false_iff]
    intro h1
    have := List.all_eq_true.1 h1 t[i] (List.getElem_mem _)
    rw [List.getD, List.getElem?_eq_getElem hi] at h
    simp only [Option.getD_some] at h
    rw [h] at this
    cases this
  simp [am, this]
theorem am_hit {K t : List Nat} {i : Nat} (h32 : ∀ j, j < t.length → t.getD j 0 ≠ 32) (h : Occurs K t i) : am K t = decide (0 < t.length) := by
  have h1 : ∀ c ∈ t, c ≠ 32 := fun c hc => by
    obtain ⟨j, hj, rfl⟩ := List.getElem_of_mem hc
    have := h32 j hj
    rw [List.getD, List.getElem?_eq_getElem hj] at this
    exact this
  have h2 : t.all (· != 32) = true := List.all_eq_true.2 fun c hc => by simpa using h1 c hc
  simp [am, h2, (inner_iff h1).2 ⟨i, h⟩]
theorem am_none {K t : List Nat} (h32 : ∀ j, j < t.length → t.getD j 0 ≠ 32) (h : ∀ i, ¬ Occurs K t i) : am K t = false := by
  have h1 : ∀ c ∈ t, c ≠ 32 := fun c hc => by
    obtain ⟨j, hj, rfl⟩ := List.getElem_of_mem hc
    have := h32 j hj
    rw [List.getD, List.getElem?_eq_getElem hj] at this
    exact this
  have h2 : ¬ t ∈ inner K := fun h3 => by
    obtain ⟨i, h4⟩ := (inner_iff h1).1 h3
    exact h i h4
  simp [am, h2]
end Go.Proofs.YtgiilaaoeefpmaaGreat.Lx

namespace Go.Proofs.YtgiilaaoeefpmaaGreat.Lx
open Go.RowKit Go.Proofs.YtgiilaaoeefpmaaGreat.Sp

/-- s[l:h] of a string -/
theorem sub_any (s : ByteArray) (l h : Nat) (L H : Int) (hL : L = (l : Int)) (hH : H = (h : Int)) (h1 : l ≤ h) (h2 : h ≤ s.size) (w : World) : (Instr.slice 9 (.string s) (some (.int .i64 L)) (some (.int .i64 H)) none).run Tryz.prog w = .ok (.string (s.extract l h)) w := by
  subst hL hH
  have := run_slice_string (P := Tryz.prog) w 9 s .i64 .i64 (l : Int) (h : Int) Tryz.underlying9 (by omega) (by omega) (by omega)
  simpa using this

set_option maxHeartbeats 3200000 in
set_option maxRecDepth 100000 in
theorem among_any (K t : ByteArray) (w : World) (hK : K.size ≤ 4096) (ht : t.size ≤ 4611686018427387000) :
    Calls Tryz.prog 133 #[.string K, .string t] w fun e w' => e = .returned (.bool (am (tx K) (tx t))) ∧ w' = w := by
  have HL : Hid ((tx t).length = t.size ∧ (tx K).length = K.size) := ⟨tx_len t, tx_len K⟩
  go_enter Tryz.func133, Tryz.ntmps133
  go_wp2
  go_loop [6] (fun i => ∃ k : Nat, k ≤ t.size ∧ i = .int .i64 k ∧ ∀ j, j < k → nb t j ≠ 32) (fun i => t.size - (intOf i).toNat)
  case atStart => exact ⟨0, Nat.zero_le _, rfl, fun j hj => by omega⟩
  case round =>
    obtain ⟨k, hk, rfl, hr⟩ := hrel
    have HR : Hid (∀ j, j < k → nb t j ≠ 32) := hr
    clear hr
    by_cases hlt : k < t.size
    · have hix := index_any t k _ rfl hlt
      by_cases h32 : nb t k = 32
      · have hq : ((nb t k : Int) == 32) = true := by simp [h32]
        have HN : Hid (am (tx K) (tx t) = false) := am_blank (i := k) (by rw [HL.out.1]; exact hlt) h32
        clear h32
        generalize nb t k = c at *
        go_wp2
        go_ret
        exact ⟨ret_b HN.out.symm, rfl⟩
      · have hq : ((nb t k : Int) == 32) = false := by simp; omega
        have HN : Hid (∀ j, j < k + 1 → nb t j ≠ 32) := fun j hj => by
          by_cases e : j = k
          · rw [e]; exact h32
          · exact HR.out j (by omega)
        clear h32
        generalize nb t k = c at *
        go_wp2
        go_round
        case rel => exact ⟨k + 1, by omega, by go_num, HN.out⟩
        case measure => simp [intOf]; omega
    · obtain rfl : k = t.size := by omega
      have hd : decide ((t.size : Int) < (t.size : Int)) = false := by simp
      go_wp2
      clear hd hlt hk
      go_loop [7] (fun i => ∃ k : Nat, k ≤ K.size ∧ i = .int .i64 k ∧ ∀ j, j < k → ¬ Occurs (tx K) (tx t) j) (fun i => K.size - (intOf i).toNat)
      case atStart => exact ⟨0, Nat.zero_le _, rfl, fun j hj => by omega⟩
      case round =>
        obtain ⟨k, hk, rfl, hr⟩ := hrel
        have HO : Hid (∀ j, j < k → ¬ Occurs (tx K) (tx t) j) := hr
        clear hr
        by_cases hin : k + t.size + 2 ≤ K.size
        · have HI : Hid (Occurs (tx K) (tx t) k ↔ (nb K k = 32 ∧ nb K (k + t.size + 1) = 32 ∧ (K.extract (k + 1) (k + t.size + 1)).toList = t.toList)) := by
            have h1 := occurs_iff (K := tx K) (t := tx t) (i := k) (by rw [HL.out.1, HL.out.2]; exact hin)
            rw [HL.out.1] at h1
            show _ ↔ _
            rw [h1]
            refine and_congr Iff.rfl (and_congr Iff.rfl ?_)
            have h2 : ((tx K).drop (k + 1)).take t.size = tx (K.extract (k + 1) (k + t.size + 1)) := by
              rw [tx_extract, show k + t.size + 1 - (k + 1) = t.size by omega]
            rw [h2, tx_toList, tx_toList]
            exact List.map_inj_right (fun x y e => UInt8.toNat_inj.1 e)
          have HN : Hid (¬ Occurs (tx K) (tx t) k → ∀ j, j < k + 1 → ¬ Occurs (tx K) (tx t) j) := fun h1 j hj => by
            by_cases e : j = k
            · rw [e]; exact h1
            · exact HO.out j (by omega)
          have hx1 := index_any K k _ rfl (by omega)
          have hx2 := index_any K (k + t.size + 1) ((k : Int) + ((t.size : Int) + 2) - 1) (by omega) (by omega)
          have hx3 := sub_any K (k + 1) (k + t.size + 1) ((k : Int) + 1) ((k : Int) + ((t.size : Int) + 2) - 1) (by omega) (by omega) (by omega) (by omega)
          have hle : (k : Int) + ((t.size : Int) + 2) ≤ (K.size : Int) := by omega
          generalize K.extract (k + 1) (k + t.size + 1) = X at *
          generalize nb K k = c at *
          generalize nb K (k + t.size + 1) = d at *
          by_cases h1 : c = 32
          · have q1 : ((c : Int) == 32) = true := by simp; omega
            by_cases h2 : d = 32
            · have q2 : ((d : Int) == 32) = true := by simp; omega
              by_cases h3 : X.toList = t.toList
              · have q3 : (X.toList == t.toList) = true := by simp [h3]
                have HA : Hid (am (tx K) (tx t) = decide (0 < (tx t).length)) := am_hit (fun j hj => HR.out j (by rw [HL.out.1] at hj; exact hj)) (HI.out.2 ⟨h1, h2, h3⟩)
                clear h1 h2 h3
                go_wp2
                go_ret
                exact ⟨ret_b (by rw [HA.out, HL.out.1, Bool.eq_iff_iff]), rfl⟩
              · have q3 : (X.toList == t.toList) = false := by simpa using h3
                have HM : Hid (∀ j, j < k + 1 → ¬ Occurs (tx K) (tx t) j) := HN.out fun h => h3 (HI.out.1 h).2.2
                clear h1 h2 h3
                go_wp2
                go_round
                case rel => exact ⟨k + 1, by omega, by go_num, HM.out⟩
                case measure => simp [intOf]; omega
            · have q2 : ((d : Int) == 32) = false := by simp; omega
              have HM : Hid (∀ j, j < k + 1 → ¬ Occurs (tx K) (tx t) j) := HN.out fun h => h2 (HI.out.1 h).2.1
              clear h1 h2 hx3
              go_wp2
              go_round
              case rel => exact ⟨k + 1, by omega, by go_num, HM.out⟩
              case measure => simp [intOf]; omega
          · have q1 : ((c : Int) == 32) = false := by simp; omega
            have HM : Hid (∀ j, j < k + 1 → ¬ Occurs (tx K) (tx t) j) := HN.out fun h => h1 (HI.out.1 h).1
            clear h1 hx2 hx3
            go_wp2
            go_round
            case rel => exact ⟨k + 1, by omega, by go_num, HM.out⟩
            case measure => simp [intOf]; omega
        · have HA : Hid (am (tx K) (tx t) = false) := am_none (fun j hj => HR.out j (by rw [HL.out.1] at hj; exact hj)) fun i hi => by
            have h1 := occurs_len hi
            rw [HL.out.1, HL.out.2] at h1
            exact HO.out i (by omega) hi
          have hd : decide ((k : Int) + ((t.size : Int) + 2) ≤ (K.size : Int)) = false := by simp; omega
          go_wp2
          go_ret
          exact ⟨ret_b HA.out.symm, rfl⟩

theorem am_kept (t : List Nat) : am keptText t = kp t := by
  unfold am kp
  rw [inner_kept, Bool.eq_iff_iff]
  simp only [Bool.and_eq_true, decide_eq_true_eq, List.contains_iff_mem]
  constructor
  · exact fun h => h.2
  · intro h
    have h1 := shaped_of_kept (t := t) (by simpa using h)
    refine ⟨⟨?_, ?_⟩, h⟩
    · cases t with
      | nil => cases h1.1
      | cons => simp
    · cases t with
      | nil => rfl
      | cons c r =>
        simp only [shaped, Bool.and_eq_true] at h1
        refine List.all_eq_true.2 fun x hx => ?_
        have h2 : isW x = true := by
          rcases List.mem_cons.1 hx with rfl | h3
          · exact isL_W _ h1.1.1
          · exact List.all_eq_true.1 h1.1.2 x h3
        by_cases e : x = 32
        · subst e; cases h2
        · simpa using e

theorem among_at (K t : ByteArray) (k : List Nat) (w : World) (h : tx K = k ∧ K.size ≤ 4096) (ht : t.size ≤ 4611686018427387000) :
    Calls Tryz.prog 133 #[.string K, .string t] w fun e w' => e = .returned (.bool (am k (tx t))) ∧ w' = w := by
  rw [← h.1]; exact among_any K t w h.2 ht

set_option maxRecDepth 100000 in
theorem refIs_any (s : ByteArray) (w : World) (hs : s.size ≤ 4611686018427387000) : Calls Tryz.prog 106 #[.string s] w fun e w' => e = .returned (.bool (kp (tx s))) ∧ w' = w := by
  rw [← am_kept]
  go_enter Tryz.func106, Tryz.ntmps106
  go_wp2_with fail
  refine (among_at _ s keptText _ (by decide +kernel) hs).mono ?_
  rintro e w' ⟨rfl, rfl⟩
  go_wp2
  go_ret
  exact ⟨rfl, rfl⟩

theorem shp_shaped (s : ByteArray) : (shp s s.size && decide (0 < s.size)) = shaped (tx s) := by
  by_cases h : 0 < s.size
  · have e : tx s = nb s 0 :: (tx s).drop 1 := by have := tx_drop h; simpa using this
    rw [e, Bool.eq_iff_iff]
    simp only [shaped, Bool.and_eq_true, decide_eq_true_eq, h, and_true]
    have hl : ((tx s).drop 1).length = s.size - 1 := drop_len s 1
    have hg : ∀ i (hi : i < ((tx s).drop 1).length), ((tx s).drop 1)[i] = nb s (i + 1) := fun i hi => by
      have hi2 : 1 + i < (tx s).length := by rw [tx_len]; omega
      rw [List.getElem_drop, nb, List.getD, show i + 1 = 1 + i by omega, List.getElem?_eq_getElem hi2]
      rfl
    constructor
    · intro h1
      unfold shp at h1
      have h2 := List.all_eq_true.1 h1
      refine ⟨by have := h2 0 (by simp; omega); simpa using this, List.all_eq_true.2 fun c hc => ?_⟩
      obtain ⟨i, hi, rfl⟩ := List.getElem_of_mem hc
      have := h2 (i + 1) (by simp; omega)
      rw [hg]
      simpa [isW] using this
    · rintro ⟨h1, h2⟩
      unfold shp
      refine List.all_eq_true.2 fun i hi => ?_
      cases i with
      | zero => simp [h1]
      | succ i =>
        have hi2 : i < ((tx s).drop 1).length := by simp at hi; omega
        have := List.all_eq_true.1 h2 _ (List.getElem_mem hi2)
        rw [hg] at this
        simpa [isW] using this
  · have e : tx s = [] := by
      apply List.eq_nil_of_length_eq_zero
      rw [tx_len]; omega
    rw [e]
    simp [shaped, h]

set_option maxHeartbeats 800000 in
set_option maxRecDepth 100000 in
theorem refIsName_any (s : ByteArray) (w : World) (hs : s.size ≤ 4611686018427387000) : Calls Tryz.prog 66 #[.string s] w fun e w' => e = .returned (.bool (isName (tx s))) ∧ w' = w := by
  have HF : Hid (isName (tx s) = (decide (s.size ≤ 64) && shaped (tx s) && !kp (tx s))) := by
    show _ = _
    unfold isName kp
    rw [tx_len]
  generalize isName (tx s) = z at *
  have HS : Hid (∀ w, Calls Tryz.prog 105 #[.string s] w fun e w' => e = .returned (.bool (shaped (tx s))) ∧ w' = w) := fun w => by
    have := shaped_any s w (by omega)
    rw [shp_shaped] at this
    exact this
  have HI : Hid (∀ w, Calls Tryz.prog 106 #[.string s] w fun e w' => e = .returned (.bool (kp (tx s))) ∧ w' = w) := fun w => refIs_any s w hs
  generalize shaped (tx s) = y at *
  generalize kp (tx s) = x at *
  by_cases h64 : s.size ≤ 64
  · cases y with
    | false =>
      go_enter Tryz.func66, Tryz.ntmps66
      go_wp2_with (first | (go_at_call 105; refine (HS.out _).mono ?_; rintro e w' ⟨rfl, rfl⟩) | (go_at_call 106; refine (HI.out _).mono ?_; rintro e w' ⟨rfl, rfl⟩))
      go_ret
      exact ⟨ret_b (by rw [HF.out]; simp), rfl⟩
    | true =>
      go_enter Tryz.func66, Tryz.ntmps66
      go_wp2_with (first | (go_at_call 105; refine (HS.out _).mono ?_; rintro e w' ⟨rfl, rfl⟩) | (go_at_call 106; refine (HI.out _).mono ?_; rintro e w' ⟨rfl, rfl⟩))
      go_ret
      exact ⟨ret_b (by rw [HF.out]; simp [h64]), rfl⟩
  · have hd : decide ((s.size : Int) ≤ 64) = false := by simp; omega
    go_enter Tryz.func66, Tryz.ntmps66
    go_wp2_with (first | (go_at_call 105; refine (HS.out _).mono ?_; rintro e w' ⟨rfl, rfl⟩) | (go_at_call 106; refine (HI.out _).mono ?_; rintro e w' ⟨rfl, rfl⟩))
    go_ret
    exact ⟨ret_b (by rw [HF.out]; simp [h64]), rfl⟩
end Go.Proofs.YtgiilaaoeefpmaaGreat.Lx

namespace Go.Proofs.YtgiilaaoeefpmaaGreat.Gr
open Go.RowKit Go.Proofs.YtgiilaaoeefpmaaGreat.Sp Go.Proofs.YtgiilaaoeefpmaaGreat.Lx

theorem lastEnd_two (k : Int) : lastEnd k = 0 ∨ lastEnd k = 1 := by unfold lastEnd; split <;> simp
theorem mostk_two (k : Int) : (mostk k = -1 ∧ greatest k = 9223372036854775807) ∨ (mostk k = greatest k ∧ 0 ≤ greatest k) := by
  unfold mostk
  by_cases h : k = 1 ∨ k = 11
  · rw [if_pos h]; unfold greatest; rw [if_pos h]; exact Or.inl ⟨rfl, rfl⟩
  · rw [if_neg h]; unfold greatest
    refine Or.inr ⟨rfl, ?_⟩
    repeat' split
    all_goals omega

theorem bool_four (a b c d e : Bool) : (a && (c && (b && (d && e)))) = ((a && b) && (c && (d && e))) := by cases a <;> cases b <;> cases c <;> rfl
theorem bad_one {st : Bool} {e le : Int} (h : le = 0 ∨ le = 1) : (!(st && wtn e 0 le)) = (!st || (decide (e < 0) || (decide (1 < e) || (e == 1 && !(le == 1))))) := by
  unfold wtn
  cases st
  · rfl
  · rw [Bool.eq_iff_iff]
    simp
    omega

set_option maxHeartbeats 12800000 in
set_option maxRecDepth 100000 in
theorem right_any (r : Rz) (a : Int) (w : World) (hk : r.kids ≤ 9223372036854775807) (hz : r.name.size ≤ 4611686018427387000) : Calls Tryz.prog 39 #[agr r, .int .i64 a] w fun e w' => e = .returned (.bool (stands r.kind a && filled r)) ∧ Below w.heap.size w w' := by
  obtain ⟨k, s, e, n, m⟩ := r
  have H1 : Hid (∀ w, Calls Tryz.prog 63 #[.int .i64 k, .int .i64 a] w fun e' w' => e' = .returned (.bool (stands k a)) ∧ w' = w) := fun w => stands_any k a w
  have H2 : Hid (∀ w, Calls Tryz.prog 64 #[.int .i64 k] w fun e' w' => e' = .returned (.bool (lastEnd k == 1)) ∧ w' = w) := fun w => refEnded_any k w
  have H3 : Hid (∀ w, Calls Tryz.prog 65 #[.int .i64 k] w fun e' w' => e' = .returned (.bool (nmd k)) ∧ w' = w) := fun w => refNamed_any k w
  have H4 : Hid (∀ w, Calls Tryz.prog 66 #[.string s] w fun e' w' => e' = .returned (.bool (isName (tx s))) ∧ w' = w) := fun w => refIsName_any s w hz
  have H5 : Hid (∀ w, Calls Tryz.prog 67 #[.int .i64 k] w fun e' w' => e' = .returned (.tuple #[.int .i64 (least k : Nat), .int .i64 (mostk k)]) ∧ w' = w) := fun w => many_any k w
  have HF : Hid ((stands k a && filled ⟨k, s, e, n, m⟩) = ((stands k a && wtn e 0 (lastEnd k)) && ((if nmd k then isName (tx s) else none0 s) && (wtn n 0 (lastNum k) && wtn m (least k : Nat) (greatest k))))) := bool_four _ _ _ _ _
  have HLN : Hid (lastNum k = if k = 27 then 1073741824 else 0) := rfl
  have HLE : Hid ((!(stands k a && wtn e 0 (lastEnd k))) = (!stands k a || (decide (e < 0) || (decide (1 < e) || (e == 1 && !(lastEnd k == 1)))))) := bad_one (lastEnd_two k)
  have HMK := show Hid _ from mostk_two k
  have HKM : Hid (m ≤ 9223372036854775807) := hk
  have hn0 : (s.toList == ([] : List UInt8)) = none0 s := rfl
  have hn1 : (s.toList != ([] : List UInt8)) = !none0 s := rfl
  simp only
  generalize (stands k a && filled ⟨k, s, e, n, m⟩) = R at *
  generalize (stands k a && wtn e 0 (lastEnd k)) = b1 at *
  generalize nmd k = nm at *
  generalize isName (tx s) = isn at *
  generalize none0 s = z0 at *
  generalize stands k a = st at *
  generalize (lastEnd k == 1) = en at *
  generalize least k = lo at *
  generalize greatest k = gr at *
  generalize mostk k = hi at *
  have HB : Hid (Below w.heap.size w (w.alloc (.cells #[.int .i64 k, .string s, .int .i64 e, .int .i64 n, .int .i64 m] 46))) := (Below.refl _ w).alloc (Nat.le_refl _) _
  clear hk hz
  go_enter Tryz.func39, Tryz.ntmps39
  go_upto_region 1 with fail
  go_cut [32] (fun c wx => c = .bool (!b1) ∧ wx = (w.alloc (.cells #[.int .i64 k, .string s, .int .i64 e, .int .i64 n, .int .i64 m] 46)))
  case first =>
    cases hq : (e == 1)
    all_goals go_wp2_with (first
      | (go_at_call 63; refine (H1.out _).mono ?_; rintro e w' ⟨rfl, rfl⟩)
      | (go_at_call 64; refine (H2.out _).mono ?_; rintro e w' ⟨rfl, rfl⟩))
    all_goals go_meet
    all_goals refine ⟨?_, rfl⟩
    all_goals rw [HLE.out]
    all_goals first
      | (simp [*]; done)
      | simp [*, Bool.or_assoc]
  case rest =>
    obtain ⟨rfl, rfl⟩ := hcut
    cases b1
    · go_wp2_with fail
      go_ret
      exact ⟨by rw [HF.out]; simp, HB.out⟩
    · go_upto_region 3 with fail
      go_cut [52] (fun c wx => c = .bool (!(if nm then isn else z0)) ∧ wx = (w.alloc (.cells #[.int .i64 k, .string s, .int .i64 e, .int .i64 n, .int .i64 m] 46)))
      case first =>
        cases nm
        all_goals go_wp2_with (first
          | (go_at_call 65; refine (H3.out _).mono ?_; rintro e w' ⟨rfl, rfl⟩)
          | (go_at_call 66; refine (H4.out _).mono ?_; rintro e w' ⟨rfl, rfl⟩))
        all_goals go_meet
        all_goals refine ⟨?_, rfl⟩
        all_goals simp [*]
      case rest =>
        obtain ⟨rfl, rfl⟩ := hcut
        generalize (if nm then isn else z0) = nf at *
        cases nf
        · go_wp2_with fail
          go_ret
          exact ⟨by rw [HF.out]; simp, HB.out⟩
        · have h27 : (!wtn n 0 (lastNum k)) = if k = 27 then (decide (n < 0) || decide (1073741824 < n)) else !(n == 0) := by
            rw [HLN.out]; unfold wtn; split
            · rw [Bool.eq_iff_iff]; simp <;> omega
            · rw [Bool.eq_iff_iff]; simp <;> omega
          have H27 : Hid ((!wtn n 0 (lastNum k)) = if k = 27 then (decide (n < 0) || decide (1073741824 < n)) else !(n == 0)) := h27
          clear h27
          generalize wtn n 0 (lastNum k) = wn at *
          go_upto_region 5 with fail
          go_cut [75] (fun c wx => c = .bool (!wn) ∧ wx = (w.alloc (.cells #[.int .i64 k, .string s, .int .i64 e, .int .i64 n, .int .i64 m] 46)))
          case first =>
            by_cases k27 : k = 27
            · rw [if_pos k27] at H27
              have kb1 : (k == 27) = true := by simp [k27]
              have kb2 : (k != 27) = false := by simp [k27]
              clear k27
              go_wp2_with fail
              all_goals go_meet
              all_goals refine ⟨?_, rfl⟩
              all_goals rw [H27.out]
              all_goals simp [*]
            · rw [if_neg k27] at H27
              have kb1 : (k == 27) = false := by simp [k27]
              have kb2 : (k != 27) = true := by simp [k27]
              clear k27
              go_wp2_with fail
              all_goals go_meet
              all_goals refine ⟨?_, rfl⟩
              all_goals rw [H27.out]
              all_goals rfl
          case rest =>
            obtain ⟨rfl, rfl⟩ := hcut
            cases wn
            · go_wp2_with fail
              go_ret
              exact ⟨by rw [HF.out]; simp, HB.out⟩
            · have HFm : Hid (R = wtn m (lo : Nat) gr) := by show _ = _; rw [HF.out]; simp
              go_wp2_with (go_at_call 67; refine (H5.out _).mono ?_; rintro e w' ⟨rfl, rfl⟩)
              all_goals go_ret
              all_goals refine ⟨congrArg (fun b => Ending.returned (Value.bool b)) ?_, HB.out⟩
              all_goals rw [HFm.out]
              all_goals (have h1 := HMK.out; have h2 := HKM.out)
              all_goals (unfold wtn; rw [Bool.eq_iff_iff]; simp; omega)
end Go.Proofs.YtgiilaaoeefpmaaGreat.Gr
