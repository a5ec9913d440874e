import Derived.Test.YtjcbpejplnaakaaGreatJC
import Derived.Test.YtjcbpejplnaakaaGreatMdArb
import Derived.Test.YtjcbpejplnaakaaGreatMdArp
import Derived.Test.YtjcbpejplnaakaaGreatMdTail
set_option linter.unusedSimpArgs false
namespace Go.Proofs.YtjcbpejplnaakaaGreat.Mr
open Go.RowKit Go.Maps Go.Proofs.YtjcbpejplnaakaaGreat.Nm Go.Proofs.YtjcbpejplnaakaaGreat.Md

section
variable {w0 w w' w1 w4 : World} {g m kd c x y z : Nat} {V : Vs} {F : List Nat} {l A B G H O X : List Nat} {N : Nat → Option Nat} {n p : Nat} {v : Value} {s : St} {bb : Bool}
/-- where the rows lie, their lengths letters -/
theorem Rc.forms2 (h : Rc w0 w g m kd c F V s) : ∃ ba na ca bb nb cb bg ng cg bh nh ch vo, V = ⟨.slice ba na ca, .slice bb nb cb, .slice bg ng cg, .slice bh nh ch, vo⟩ ∧ na = s.A.length ∧ nb = s.B.length ∧ ng = s.G.length ∧ nh = s.H.length := by
  obtain ⟨ba, ca, bb, cb, bg, cg, bh, ch, bo, co, rfl⟩ := h.forms
  exact ⟨ba, _, ca, bb, _, cb, bg, _, cg, bh, _, ch, _, rfl, rfl, rfl, rfl, rfl⟩
theorem rhas_is (hv : KRd w v l) (hl : l.length ≤ 1000000000) (hx : decide (x ∈ l) = bb) : Calls Tryz.prog 21 #[v, U x] w fun e w' => e = .returned (.bool bb) ∧ w' = w := by
  rw [← hx]
  exact rhas_any hv hl
set_option maxHeartbeats 3200000 in
set_option maxRecDepth 100000 in
theorem rpA1 (h : Rc w0 w g m kd c F V ⟨(l ++ [y]), B, G, H, N, n, p, O⟩) (hl : (l ++ [y]).length + B.length + G.length + H.length + O.length ≤ 100000000) (h1 : p < (l ++ [y]).length) : Calls Tryz.prog 43 #[.pointer (some ⟨g, 0, none⟩), U x] w fun e w' => e = .returned (.tuple #[]) ∧ ∃ V', Rc w0 w' g m kd c F V' ⟨l, B, (y :: G), H, N, n, p, (O ++ [y])⟩ := by
  obtain ⟨ba, na, ca, bb, nb, cb, bg, ng, cg, bh, nh, ch, vo, rfl, e1, e2, e3, e4⟩ := h.forms2
  have H0 : Hid (Rc w0 w g m kd c F ⟨.slice ba na ca, .slice bb nb cb, .slice bg ng cg, .slice bh nh ch, vo⟩ ⟨(l ++ [y]), B, G, H, N, n, p, O⟩) := h
  have hna : Hid (na = (l ++ [y]).length) := e1
  have HL : Hid ((l ++ [y]).length + B.length + G.length + H.length + O.length ≤ 100000000) := hl
  have HC : Hid (p < (l ++ [y]).length) := h1
  clear h hl h1 e1 e2 e3 e4
  have c2 : w.cell? ⟨g, 2, none⟩ = some (.slice ba na ca) := H0.out.cell 2
  have c5 : w.cell? ⟨g, 5, none⟩ = some (.slice bh nh ch) := H0.out.cell 5
  have c7 : w.cell? ⟨g, 7, none⟩ = some ((I p)) := H0.out.cell 7
  have hp0 : (0 : Int) < (na : Int) := by have := hna.out; simp only [List.length_append, List.length_cons, List.length_nil] at this; omega
  have hp1 : (p : Int) < (na : Int) := by have := HC.out; have := hna.out; omega
  have hq0 : decide (0 < na) = true := by rw [decide_eq_true_iff]; omega
  have hq1 : decide (p < na) = true := by rw [decide_eq_true_iff]; omega
  go_enter Tryz.func43, Tryz.ntmps43
  go_wp2_with fail
  go_quiet (fail)
  have HQ : Hid (Rc w0 (w.drewN nq) g m kd c F ⟨.slice ba na ca, .slice bb nb cb, .slice bg ng cg, .slice bh nh ch, vo⟩ ⟨(l ++ [y]), B, G, H, N, n, p, O⟩) := H0.out.below (Go.Proofs.YtjcbpejplnaakaaGreat.Nm.below_drewN _ nq)
  generalize w.drewN nq = wq at *
  clear c2 c5 c7 H0
  go_wp2_with fail
  refine (evA_any (l := l) (x := y) HQ.out rfl (by have hl := HL.out; (try simp only [List.length_append, List.length_cons, List.length_nil] at hl ⊢); omega) (by have hl := HL.out; (try simp only [List.length_append, List.length_cons, List.length_nil] at hl ⊢); omega)).mono ?_
  rintro _ w1 ⟨rfl, ⟨p1, q1, r1, t1, u1⟩, h1⟩
  have H1 : Hid (Rc w0 w1 g m kd c F ⟨p1, q1, r1, t1, u1⟩ ⟨l, B, G, H, N, n, p, (O ++ [y])⟩) := h1
  clear h1 HQ
  have c2 : w1.cell? ⟨g, 4, none⟩ = some r1 := H1.out.cell 4
  go_wp2_with fail
  refine (ahead_any (x := y) H1.out.rg.rl (by have hl := HL.out; (try simp only [List.length_append, List.length_cons, List.length_nil] at hl ⊢); omega)).mono ?_
  rintro _ w2 ⟨u, rfl, ho2, hb2⟩
  obtain ⟨b2, n2, k2, rfl⟩ := own_any ho2
  clear c2
  have h2 := H1.out.below hb2
  have e2 : w2.cell? ⟨g, 4, none⟩ = some r1 := h2.cell 4
  have f2 : w2.frozen? ⟨g, 4, none⟩ = false := h2.nf 4
  have H2 : Hid (Rc w0 (w2.setCell ⟨g, 4, none⟩ (.slice b2 n2 k2)) g m kd c F ⟨p1, q1, .slice b2 n2 k2, t1, u1⟩ ⟨l, B, (y :: G), H, N, n, p, (O ++ [y])⟩) := H1.out.setG hb2 ho2
  clear h2 hb2 ho2 H1
  go_wp2
  go_end0
  exact ⟨rfl, _, H2.out⟩
set_option maxHeartbeats 3200000 in
set_option maxRecDepth 100000 in
theorem rpA2 (h : Rc w0 w g m kd c F V ⟨(l ++ [y]), B, G, H, N, n, p, O⟩) (hl : (l ++ [y]).length + B.length + G.length + H.length + O.length ≤ 100000000) (h1 : (l ++ [y]).length = p) (h2 : decide (x ∈ H) = true) : Calls Tryz.prog 43 #[.pointer (some ⟨g, 0, none⟩), U x] w fun e w' => e = .returned (.tuple #[]) ∧ ∃ V', Rc w0 w' g m kd c F V' ⟨l, B, (y :: G), H, N, n, p, (O ++ [y])⟩ := by
  obtain ⟨ba, na, ca, bb, nb, cb, bg, ng, cg, bh, nh, ch, vo, rfl, e1, e2, e3, e4⟩ := h.forms2
  have H0 : Hid (Rc w0 w g m kd c F ⟨.slice ba na ca, .slice bb nb cb, .slice bg ng cg, .slice bh nh ch, vo⟩ ⟨(l ++ [y]), B, G, H, N, n, p, O⟩) := h
  have hna : Hid (na = (l ++ [y]).length) := e1
  have HL : Hid ((l ++ [y]).length + B.length + G.length + H.length + O.length ≤ 100000000) := hl
  have HC : Hid ((l ++ [y]).length = p) := h1
  have HH : Hid (∀ d, Calls Tryz.prog 21 #[.slice bh nh ch, U x] (w.drewN d) fun e w' => e = .returned (.bool true) ∧ w' = w.drewN d) := fun d => rhas_is (h.below (Go.Proofs.YtjcbpejplnaakaaGreat.Nm.below_drewN _ d)).rh.rl.1 (by show H.length ≤ 1000000000; omega) h2
  clear h hl h1 e1 e2 e3 e4 h2
  have c2 : w.cell? ⟨g, 2, none⟩ = some (.slice ba na ca) := H0.out.cell 2
  have c5 : w.cell? ⟨g, 5, none⟩ = some (.slice bh nh ch) := H0.out.cell 5
  have c7 : w.cell? ⟨g, 7, none⟩ = some ((I p)) := H0.out.cell 7
  have hp0 : (0 : Int) < (na : Int) := by have := hna.out; simp only [List.length_append, List.length_cons, List.length_nil] at this; omega
  have hp1 : ¬ ((p : Int) < (na : Int)) := by have := HC.out; have := hna.out; omega
  have hp2 : ((na : Int) == (p : Int)) = true := by rw [beq_iff_eq]; have := HC.out; have := hna.out; omega
  have hq0 : decide (0 < na) = true := by rw [decide_eq_true_iff]; omega
  have hq1 : decide (p < na) = false := by rw [decide_eq_false_iff_not]; omega
  have hq2 : (na == p) = true := by rw [beq_iff_eq]; rw [beq_iff_eq] at hp2; omega
  have hq3 : decide (na = p) = true := by rw [beq_iff_eq] at hp2; rw [decide_eq_true_iff]; omega
  go_enter Tryz.func43, Tryz.ntmps43
  go_wp2_with fail
  go_quiet ((go_at_call 21; exact Calls.quiet_of_same (HH.out _)))
  have HQ : Hid (Rc w0 (w.drewN nq) g m kd c F ⟨.slice ba na ca, .slice bb nb cb, .slice bg ng cg, .slice bh nh ch, vo⟩ ⟨(l ++ [y]), B, G, H, N, n, p, O⟩) := H0.out.below (Go.Proofs.YtjcbpejplnaakaaGreat.Nm.below_drewN _ nq)
  generalize w.drewN nq = wq at *
  clear c2 c5 c7 H0
  go_wp2_with fail
  refine (evA_any (l := l) (x := y) HQ.out rfl (by have hl := HL.out; (try simp only [List.length_append, List.length_cons, List.length_nil] at hl ⊢); omega) (by have hl := HL.out; (try simp only [List.length_append, List.length_cons, List.length_nil] at hl ⊢); omega)).mono ?_
  rintro _ w1 ⟨rfl, ⟨p1, q1, r1, t1, u1⟩, h1⟩
  have H1 : Hid (Rc w0 w1 g m kd c F ⟨p1, q1, r1, t1, u1⟩ ⟨l, B, G, H, N, n, p, (O ++ [y])⟩) := h1
  clear h1 HQ
  have c2 : w1.cell? ⟨g, 4, none⟩ = some r1 := H1.out.cell 4
  go_wp2_with fail
  refine (ahead_any (x := y) H1.out.rg.rl (by have hl := HL.out; (try simp only [List.length_append, List.length_cons, List.length_nil] at hl ⊢); omega)).mono ?_
  rintro _ w2 ⟨u, rfl, ho2, hb2⟩
  obtain ⟨b2, n2, k2, rfl⟩ := own_any ho2
  clear c2
  have h2 := H1.out.below hb2
  have e2 : w2.cell? ⟨g, 4, none⟩ = some r1 := h2.cell 4
  have f2 : w2.frozen? ⟨g, 4, none⟩ = false := h2.nf 4
  have H2 : Hid (Rc w0 (w2.setCell ⟨g, 4, none⟩ (.slice b2 n2 k2)) g m kd c F ⟨p1, q1, .slice b2 n2 k2, t1, u1⟩ ⟨l, B, (y :: G), H, N, n, p, (O ++ [y])⟩) := H1.out.setG hb2 ho2
  clear h2 hb2 ho2 H1
  go_wp2
  go_end0
  exact ⟨rfl, _, H2.out⟩
set_option maxHeartbeats 3200000 in
set_option maxRecDepth 100000 in
theorem rpB1 (h : Rc w0 w g m kd c F V ⟨A, (l ++ [y]), G, H, N, n, p, O⟩) (hl : A.length + (l ++ [y]).length + G.length + H.length + O.length ≤ 100000000) (h1 : A.length = 0) : Calls Tryz.prog 43 #[.pointer (some ⟨g, 0, none⟩), U x] w fun e w' => e = .returned (.tuple #[]) ∧ ∃ V', Rc w0 w' g m kd c F V' ⟨A, l, G, (y :: H), N, n, p, (O ++ [y])⟩ := by
  obtain ⟨ba, na, ca, bb, nb, cb, bg, ng, cg, bh, nh, ch, vo, rfl, e1, e2, e3, e4⟩ := h.forms2
  have H0 : Hid (Rc w0 w g m kd c F ⟨.slice ba na ca, .slice bb nb cb, .slice bg ng cg, .slice bh nh ch, vo⟩ ⟨A, (l ++ [y]), G, H, N, n, p, O⟩) := h
  have hna : Hid (na = A.length) := e1
  have HL : Hid (A.length + (l ++ [y]).length + G.length + H.length + O.length ≤ 100000000) := hl
  have HC : Hid (A.length = 0) := h1
  clear h hl h1 e1 e2 e3 e4
  have c2 : w.cell? ⟨g, 2, none⟩ = some (.slice ba na ca) := H0.out.cell 2
  have c5 : w.cell? ⟨g, 5, none⟩ = some (.slice bh nh ch) := H0.out.cell 5
  have c7 : w.cell? ⟨g, 7, none⟩ = some ((I p)) := H0.out.cell 7
  have hp0 : ¬ ((0 : Int) < (na : Int)) := by have := HC.out; have := hna.out; omega
  have hq0 : decide (0 < na) = false := by rw [decide_eq_false_iff_not]; omega
  go_enter Tryz.func43, Tryz.ntmps43
  go_wp2_with fail
  go_quiet (fail)
  have HQ : Hid (Rc w0 (w.drewN nq) g m kd c F ⟨.slice ba na ca, .slice bb nb cb, .slice bg ng cg, .slice bh nh ch, vo⟩ ⟨A, (l ++ [y]), G, H, N, n, p, O⟩) := H0.out.below (Go.Proofs.YtjcbpejplnaakaaGreat.Nm.below_drewN _ nq)
  generalize w.drewN nq = wq at *
  clear c2 c5 c7 H0
  go_wp2_with fail
  refine (evB_any (l := l) (x := y) HQ.out rfl (by have hl := HL.out; (try simp only [List.length_append, List.length_cons, List.length_nil] at hl ⊢); omega) (by have hl := HL.out; (try simp only [List.length_append, List.length_cons, List.length_nil] at hl ⊢); omega)).mono ?_
  rintro _ w1 ⟨rfl, ⟨p1, q1, r1, t1, u1⟩, h1⟩
  have H1 : Hid (Rc w0 w1 g m kd c F ⟨p1, q1, r1, t1, u1⟩ ⟨A, l, G, H, N, n, p, (O ++ [y])⟩) := h1
  clear h1 HQ
  have c2 : w1.cell? ⟨g, 5, none⟩ = some t1 := H1.out.cell 5
  go_wp2_with fail
  refine (ahead_any (x := y) H1.out.rh.rl (by have hl := HL.out; (try simp only [List.length_append, List.length_cons, List.length_nil] at hl ⊢); omega)).mono ?_
  rintro _ w2 ⟨u, rfl, ho2, hb2⟩
  obtain ⟨b2, n2, k2, rfl⟩ := own_any ho2
  clear c2
  have h2 := H1.out.below hb2
  have e2 : w2.cell? ⟨g, 5, none⟩ = some t1 := h2.cell 5
  have f2 : w2.frozen? ⟨g, 5, none⟩ = false := h2.nf 5
  have H2 : Hid (Rc w0 (w2.setCell ⟨g, 5, none⟩ (.slice b2 n2 k2)) g m kd c F ⟨p1, q1, r1, .slice b2 n2 k2, u1⟩ ⟨A, l, G, (y :: H), N, n, p, (O ++ [y])⟩) := H1.out.setH hb2 ho2
  clear h2 hb2 ho2 H1
  go_wp2
  go_end0
  exact ⟨rfl, _, H2.out⟩
set_option maxHeartbeats 3200000 in
set_option maxRecDepth 100000 in
theorem rpB2 (h : Rc w0 w g m kd c F V ⟨A, (l ++ [y]), G, H, N, n, p, O⟩) (hl : A.length + (l ++ [y]).length + G.length + H.length + O.length ≤ 100000000) (h1 : 0 < A.length ∧ A.length < p) : Calls Tryz.prog 43 #[.pointer (some ⟨g, 0, none⟩), U x] w fun e w' => e = .returned (.tuple #[]) ∧ ∃ V', Rc w0 w' g m kd c F V' ⟨A, l, G, (y :: H), N, n, p, (O ++ [y])⟩ := by
  obtain ⟨ba, na, ca, bb, nb, cb, bg, ng, cg, bh, nh, ch, vo, rfl, e1, e2, e3, e4⟩ := h.forms2
  have H0 : Hid (Rc w0 w g m kd c F ⟨.slice ba na ca, .slice bb nb cb, .slice bg ng cg, .slice bh nh ch, vo⟩ ⟨A, (l ++ [y]), G, H, N, n, p, O⟩) := h
  have hna : Hid (na = A.length) := e1
  have HL : Hid (A.length + (l ++ [y]).length + G.length + H.length + O.length ≤ 100000000) := hl
  have HC : Hid (0 < A.length ∧ A.length < p) := h1
  clear h hl h1 e1 e2 e3 e4
  have c2 : w.cell? ⟨g, 2, none⟩ = some (.slice ba na ca) := H0.out.cell 2
  have c5 : w.cell? ⟨g, 5, none⟩ = some (.slice bh nh ch) := H0.out.cell 5
  have c7 : w.cell? ⟨g, 7, none⟩ = some ((I p)) := H0.out.cell 7
  have hp0 : (0 : Int) < (na : Int) := by have := HC.out; have := hna.out; omega
  have hp1 : ¬ ((p : Int) < (na : Int)) := by have := HC.out; have := hna.out; omega
  have hp2 : ((na : Int) == (p : Int)) = false := by rw [beq_eq_false_iff_ne]; have := HC.out; have := hna.out; omega
  have hq0 : decide (0 < na) = true := by rw [decide_eq_true_iff]; omega
  have hq1 : decide (p < na) = false := by rw [decide_eq_false_iff_not]; omega
  have hq2 : (na == p) = false := by rw [beq_eq_false_iff_ne]; rw [beq_eq_false_iff_ne] at hp2; omega
  have hq3 : decide (na = p) = false := by rw [beq_eq_false_iff_ne] at hp2; rw [decide_eq_false_iff_not]; omega
  go_enter Tryz.func43, Tryz.ntmps43
  go_wp2_with fail
  go_quiet (fail)
  have HQ : Hid (Rc w0 (w.drewN nq) g m kd c F ⟨.slice ba na ca, .slice bb nb cb, .slice bg ng cg, .slice bh nh ch, vo⟩ ⟨A, (l ++ [y]), G, H, N, n, p, O⟩) := H0.out.below (Go.Proofs.YtjcbpejplnaakaaGreat.Nm.below_drewN _ nq)
  generalize w.drewN nq = wq at *
  clear c2 c5 c7 H0
  go_wp2_with fail
  refine (evB_any (l := l) (x := y) HQ.out rfl (by have hl := HL.out; (try simp only [List.length_append, List.length_cons, List.length_nil] at hl ⊢); omega) (by have hl := HL.out; (try simp only [List.length_append, List.length_cons, List.length_nil] at hl ⊢); omega)).mono ?_
  rintro _ w1 ⟨rfl, ⟨p1, q1, r1, t1, u1⟩, h1⟩
  have H1 : Hid (Rc w0 w1 g m kd c F ⟨p1, q1, r1, t1, u1⟩ ⟨A, l, G, H, N, n, p, (O ++ [y])⟩) := h1
  clear h1 HQ
  have c2 : w1.cell? ⟨g, 5, none⟩ = some t1 := H1.out.cell 5
  go_wp2_with fail
  refine (ahead_any (x := y) H1.out.rh.rl (by have hl := HL.out; (try simp only [List.length_append, List.length_cons, List.length_nil] at hl ⊢); omega)).mono ?_
  rintro _ w2 ⟨u, rfl, ho2, hb2⟩
  obtain ⟨b2, n2, k2, rfl⟩ := own_any ho2
  clear c2
  have h2 := H1.out.below hb2
  have e2 : w2.cell? ⟨g, 5, none⟩ = some t1 := h2.cell 5
  have f2 : w2.frozen? ⟨g, 5, none⟩ = false := h2.nf 5
  have H2 : Hid (Rc w0 (w2.setCell ⟨g, 5, none⟩ (.slice b2 n2 k2)) g m kd c F ⟨p1, q1, r1, .slice b2 n2 k2, u1⟩ ⟨A, l, G, (y :: H), N, n, p, (O ++ [y])⟩) := H1.out.setH hb2 ho2
  clear h2 hb2 ho2 H1
  go_wp2
  go_end0
  exact ⟨rfl, _, H2.out⟩
set_option maxHeartbeats 3200000 in
set_option maxRecDepth 100000 in
theorem rpB3 (h : Rc w0 w g m kd c F V ⟨A, (l ++ [y]), G, H, N, n, p, O⟩) (hl : A.length + (l ++ [y]).length + G.length + H.length + O.length ≤ 100000000) (h1 : 0 < A.length ∧ A.length = p) (h2 : decide (x ∈ H) = false) : Calls Tryz.prog 43 #[.pointer (some ⟨g, 0, none⟩), U x] w fun e w' => e = .returned (.tuple #[]) ∧ ∃ V', Rc w0 w' g m kd c F V' ⟨A, l, G, (y :: H), N, n, p, (O ++ [y])⟩ := by
  obtain ⟨ba, na, ca, bb, nb, cb, bg, ng, cg, bh, nh, ch, vo, rfl, e1, e2, e3, e4⟩ := h.forms2
  have H0 : Hid (Rc w0 w g m kd c F ⟨.slice ba na ca, .slice bb nb cb, .slice bg ng cg, .slice bh nh ch, vo⟩ ⟨A, (l ++ [y]), G, H, N, n, p, O⟩) := h
  have hna : Hid (na = A.length) := e1
  have HL : Hid (A.length + (l ++ [y]).length + G.length + H.length + O.length ≤ 100000000) := hl
  have HC : Hid (0 < A.length ∧ A.length = p) := h1
  have HH : Hid (∀ d, Calls Tryz.prog 21 #[.slice bh nh ch, U x] (w.drewN d) fun e w' => e = .returned (.bool false) ∧ w' = w.drewN d) := fun d => rhas_is (h.below (Go.Proofs.YtjcbpejplnaakaaGreat.Nm.below_drewN _ d)).rh.rl.1 (by show H.length ≤ 1000000000; omega) h2
  clear h hl h1 e1 e2 e3 e4 h2
  have c2 : w.cell? ⟨g, 2, none⟩ = some (.slice ba na ca) := H0.out.cell 2
  have c5 : w.cell? ⟨g, 5, none⟩ = some (.slice bh nh ch) := H0.out.cell 5
  have c7 : w.cell? ⟨g, 7, none⟩ = some ((I p)) := H0.out.cell 7
  have hp0 : (0 : Int) < (na : Int) := by have := HC.out; have := hna.out; omega
  have hp1 : ¬ ((p : Int) < (na : Int)) := by have := HC.out; have := hna.out; omega
  have hp2 : ((na : Int) == (p : Int)) = true := by rw [beq_iff_eq]; have := HC.out; have := hna.out; omega
  have hq0 : decide (0 < na) = true := by rw [decide_eq_true_iff]; omega
  have hq1 : decide (p < na) = false := by rw [decide_eq_false_iff_not]; omega
  have hq2 : (na == p) = true := by rw [beq_iff_eq]; rw [beq_iff_eq] at hp2; omega
  have hq3 : decide (na = p) = true := by rw [beq_iff_eq] at hp2; rw [decide_eq_true_iff]; omega
  go_enter Tryz.func43, Tryz.ntmps43
  go_wp2_with fail
  go_quiet ((go_at_call 21; exact Calls.quiet_of_same (HH.out _)))
  have HQ : Hid (Rc w0 (w.drewN nq) g m kd c F ⟨.slice ba na ca, .slice bb nb cb, .slice bg ng cg, .slice bh nh ch, vo⟩ ⟨A, (l ++ [y]), G, H, N, n, p, O⟩) := H0.out.below (Go.Proofs.YtjcbpejplnaakaaGreat.Nm.below_drewN _ nq)
  generalize w.drewN nq = wq at *
  clear c2 c5 c7 H0
  go_wp2_with fail
  refine (evB_any (l := l) (x := y) HQ.out rfl (by have hl := HL.out; (try simp only [List.length_append, List.length_cons, List.length_nil] at hl ⊢); omega) (by have hl := HL.out; (try simp only [List.length_append, List.length_cons, List.length_nil] at hl ⊢); omega)).mono ?_
  rintro _ w1 ⟨rfl, ⟨p1, q1, r1, t1, u1⟩, h1⟩
  have H1 : Hid (Rc w0 w1 g m kd c F ⟨p1, q1, r1, t1, u1⟩ ⟨A, l, G, H, N, n, p, (O ++ [y])⟩) := h1
  clear h1 HQ
  have c2 : w1.cell? ⟨g, 5, none⟩ = some t1 := H1.out.cell 5
  go_wp2_with fail
  refine (ahead_any (x := y) H1.out.rh.rl (by have hl := HL.out; (try simp only [List.length_append, List.length_cons, List.length_nil] at hl ⊢); omega)).mono ?_
  rintro _ w2 ⟨u, rfl, ho2, hb2⟩
  obtain ⟨b2, n2, k2, rfl⟩ := own_any ho2
  clear c2
  have h2 := H1.out.below hb2
  have e2 : w2.cell? ⟨g, 5, none⟩ = some t1 := h2.cell 5
  have f2 : w2.frozen? ⟨g, 5, none⟩ = false := h2.nf 5
  have H2 : Hid (Rc w0 (w2.setCell ⟨g, 5, none⟩ (.slice b2 n2 k2)) g m kd c F ⟨p1, q1, r1, .slice b2 n2 k2, u1⟩ ⟨A, l, G, (y :: H), N, n, p, (O ++ [y])⟩) := H1.out.setH hb2 ho2
  clear h2 hb2 ho2 H1
  go_wp2
  go_end0
  exact ⟨rfl, _, H2.out⟩
theorem rp_any {j1 j2 j3 j4 : List Nat} (h : Rc w0 w g m kd c F V ⟨A, B, G, H, N, n, p, O⟩) (hl : A.length + B.length + G.length + H.length + O.length ≤ 100000000) (hb : decide (x ∈ H) = bb) (hr : Rep p bb A B G H y j1 j2 j3 j4) : Calls Tryz.prog 43 #[.pointer (some ⟨g, 0, none⟩), U x] w fun e w' => e = .returned (.tuple #[]) ∧ ∃ V', Rc w0 w' g m kd c F V' ⟨j1, j2, j3, j4, N, n, p, O ++ [y]⟩ := by
  rcases hr with ⟨⟨_, hc⟩, rfl, rfl, rfl, rfl⟩ | ⟨hc, rfl, rfl, rfl, rfl⟩
  · rcases hc with hc | ⟨h1, h2⟩
    · exact rpA1 h hl hc
    · exact rpA2 h hl h1 (hb.trans h2)
  · by_cases h0 : j1.length = 0
    · exact rpB1 h hl h0
    · by_cases h1 : j1.length < p
      · exact rpB2 h hl ⟨by omega, h1⟩
      · have h2 : j1.length = p := by
          by_cases h3 : p < j1.length
          · exact absurd ⟨by omega, Or.inl h3⟩ hc
          · omega
        refine rpB3 h hl ⟨by omega, h2⟩ ?_
        rw [hb]
        cases bb with
        | false => rfl
        | true => exact absurd ⟨by omega, Or.inr ⟨h2, rfl⟩⟩ hc
end
end Go.Proofs.YtjcbpejplnaakaaGreat.Mr

set_option linter.unusedSimpArgs false
namespace Go.Proofs.YtjcbpejplnaakaaGreat.Mr
open Go.RowKit Go.Maps Go.Proofs.YtjcbpejplnaakaaGreat.Nm Go.Proofs.YtjcbpejplnaakaaGreat.Md

section
variable {w0 w w' w1 w4 : World} {g m kd c x y z : Nat} {V : Vs} {F : List Nat} {l A B G H O X j1 j2 j3 j4 : List Nat} {N : Nat → Option Nat} {n p : Nat} {v : Value} {s : St} {bb : Bool}
theorem Rep.lens {k1 k2 k3 k4 : List Nat} (h : Rep p bb k1 k2 k3 k4 x j1 j2 j3 j4) : j1.length + j2.length + j3.length + j4.length = k1.length + k2.length + k3.length + k4.length := by
  obtain ⟨_, _, h1, h2, _⟩ := h.cts
  omega
set_option maxHeartbeats 3200000 in
set_option maxRecDepth 100000 in
theorem arc_1 (h : Rc w0 w g m kd c F V ⟨A, B, G, H, N, n, p, O⟩) (hl : A.length + B.length + G.length + H.length + O.length ≤ 90000000) (hz : c ≤ 1048576 ∧ p ≤ c) (hx : x ∈ G) (hxh : x ∉ H) (hr : Rep (pUp c p G.length H.length) false A B G H y j1 j2 j3 j4) : Calls Tryz.prog 25 #[.pointer (some ⟨g, 0, none⟩), U x] w fun e w' => e = .returned (.tuple #[]) ∧ ∃ V', Rc w0 w' g m kd c F V' ⟨j1, (x :: j2), (wo j3 x), j4, N, n, (pUp c p G.length H.length), (O ++ [y])⟩ := by
  obtain ⟨ba, na, ca, bb, nb, cb, bg, ng, cg, bh, nh, ch, vo, rfl, i1, i2, i3, i4⟩ := h.forms2
  have H0 : Hid (Rc w0 w g m kd c F ⟨.slice ba na ca, .slice bb nb cb, .slice bg ng cg, .slice bh nh ch, vo⟩ ⟨A, B, G, H, N, n, p, O⟩) := h
  have HL : Hid (A.length + B.length + G.length + H.length + O.length ≤ 90000000) := hl
  have e1 : na = A.length := i1
  have e2 : nb = B.length := i2
  have e3 : ng = G.length := i3
  have e4 : nh = H.length := i4
  clear i1 i2 i3 i4
  have HX : Hid (x ∈ G ∧ x ∉ H) := ⟨hx, hxh⟩
  have HB : Hid (decide (x ∈ H) = false) := decide_eq_false hxh
  have HZ : Hid (c ≤ 1048576 ∧ p ≤ c) := hz
  have HP : Hid (pUp c p G.length H.length = min (p + max 1 (nh / ng)) c) := by rw [e3, e4]; exact rfl
  have hi3 : ¬ ng = 0 := by have := List.length_pos_of_mem HX.out.1; omega
  have hqle : nh / ng ≤ nh := Nat.div_le_self _ _
  have hqc : (nh : Int) / (ng : Int) = ((nh / ng : Nat) : Int) := by simp
  have hla : nh ≤ 90000000 := by have := HL.out; omega
  generalize hqe : nh / ng = q at HP hqc hqle
  have hq : IntKind.i64.wrap ((nh : Int) / (ng : Int)) = (q : Int) := by rw [hqc, IntKind.wrap_i64]; omega
  have hm1 : (if (1 : Int) < (q : Int) then (q : Int) else 1) = ((max 1 q : Nat) : Int) := by split <;> omega
  have hm2 : (if 1 < q then (q : Int) else 1) = ((max 1 q : Nat) : Int) := by split <;> omega
  have hmx : max 1 q ≤ 90000001 := by omega
  obtain ⟨mx, hme⟩ : ∃ mx, mx = max 1 q := ⟨_, rfl⟩
  rw [← hme] at HP hm1 hm2 hmx
  have hp2 : (p : Int) ≤ 1048576 := by have := HZ.out; omega
  have hc2 : (c : Int) ≤ 1048576 := by have := HZ.out; omega
  have hmx2 : (mx : Int) ≤ 90000001 := by omega
  obtain ⟨pm, hpm⟩ : ∃ pm, pm = p + mx := ⟨_, rfl⟩
  rw [← hpm] at HP
  have hw1 : IntKind.i64.wrap ((p : Int) + (mx : Int)) = (pm : Int) := by rw [IntKind.wrap_i64]; omega
  obtain ⟨pp, hpp⟩ : ∃ pp, pp = min pm c := ⟨_, rfl⟩
  rw [← hpp] at HP
  have hs1 : (if (pm : Int) < (c : Int) then (pm : Int) else (c : Int)) = (pp : Int) := by split <;> omega
  have hs2 : (if pm < c then (pm : Int) else (c : Int)) = (pp : Int) := by split <;> omega
  clear hqc hqe hqle hpm hpp hme hmx hla e1 e2 e3 e4
  have HRP : Hid (Rep pp false A B G H y j1 j2 j3 j4) := by rw [← HP.out]; exact hr
  have HPE : Hid (pUp c p G.length H.length = pp) := HP.out
  rw [HPE.out]
  clear h hl hz hx hxh hr HP
  go_enter Tryz.func25, Tryz.ntmps25
  have c1 : w.cell? ⟨g, 4, none⟩ = some (.slice bg ng cg) := H0.out.cell 4
  go_wp2_with fail
  refine (rhas_yes H0.out.rg.rl.1 (by have hl := HL.out; (try simp only [List.length_append, List.length_cons, List.length_nil] at hl ⊢); omega) HX.out.1).mono ?_
  rintro _ w ⟨rfl, rfl⟩
  clear c1
  have d1 : w.cell? ⟨g, 1, none⟩ = some ((I c)) := H0.out.cell 1
  have d4 : w.cell? ⟨g, 4, none⟩ = some (.slice bg ng cg) := H0.out.cell 4
  have d5 : w.cell? ⟨g, 5, none⟩ = some (.slice bh nh ch) := H0.out.cell 5
  have d7 : w.cell? ⟨g, 7, none⟩ = some ((I p)) := H0.out.cell 7
  go_wp2_with fail
  refine wp_region_quiet_tail (C := fun w' => ∃ j, w' = w.drewN j) 23 (by kernel_rfl) (by kernel_rfl) ⟨1, rfl⟩ ?_
  simp only [List.take_succ_cons, List.take_zero, List.drop_succ_cons, List.drop_zero]
  iterate 23 quiet_step (fail)
  refine wpQuiet_nil ?_
  rintro _ ⟨j, rfl⟩
  have HD : Hid (Rc w0 (w.drewN j) g m kd c F ⟨.slice ba na ca, .slice bb nb cb, .slice bg ng cg, .slice bh nh ch, vo⟩ ⟨A, B, G, H, N, n, p, O⟩) := H0.out.below (Go.Proofs.YtjcbpejplnaakaaGreat.Nm.below_drewN _ j)
  generalize w.drewN j = w9 at *
  clear d1 d4 d5 d7 H0 hq hm1 hm2 hw1 hs1 hs2 hi3 hp2 hc2 hmx2
  have c7 : w9.cell? ⟨g, 7, none⟩ = some (I p) := HD.out.cell 7
  have f7 : w9.frozen? ⟨g, 7, none⟩ = false := HD.out.nf 7
  have HE : Hid (Rc w0 (w9.setCell ⟨g, 7, none⟩ (I pp)) g m kd c F ⟨.slice ba na ca, .slice bb nb cb, .slice bg ng cg, .slice bh nh ch, vo⟩ ⟨A, B, G, H, N, n, pp, O⟩) := HD.out.setP pp
  go_upto_region 2 with fail
  generalize w9.setCell ⟨g, 7, none⟩ (I pp) = w10 at *
  clear c7 f7 HD
  go_wp2_with fail
  refine (rp_any (bb := false) (y := y) HE.out (by have hl := HL.out; (try simp only [List.length_append, List.length_cons, List.length_nil] at hl ⊢); omega) HB.out HRP.out).mono ?_
  rintro _ w2 ⟨rfl, ⟨p2, q2, r2, t2, u2⟩, h2⟩
  have H2 : Hid (Rc w0 w2 g m kd c F ⟨p2, q2, r2, t2, u2⟩ ⟨j1, j2, j3, j4, N, n, pp, (O ++ [y])⟩) := h2
  clear h2 HE
  have c4 : w2.cell? ⟨g, 4, none⟩ = some r2 := H2.out.cell 4
  go_wp2_with fail
  refine (without_any (x := x) H2.out.rg.rl.1 (by have hl := HL.out; have hr := Rep.lens HRP.out; (try simp only [List.length_append, List.length_cons, List.length_nil] at hr); (try simp only [List.length_append, List.length_cons, List.length_nil] at hl ⊢); omega)).mono ?_
  rintro _ w4 ⟨u, rfl, ho4, hb4⟩
  obtain ⟨b4, n4, k4, rfl⟩ := own_any ho4
  clear c4
  have h4 := H2.out.below hb4
  have e4 : w4.cell? ⟨g, 4, none⟩ = some r2 := h4.cell 4
  have f4 : w4.frozen? ⟨g, 4, none⟩ = false := h4.nf 4
  have H4 : Hid (Rc w0 (w4.setCell ⟨g, 4, none⟩ (.slice b4 n4 k4)) g m kd c F ⟨p2, q2, .slice b4 n4 k4, t2, u2⟩ ⟨j1, j2, (wo j3 x), j4, N, n, pp, (O ++ [y])⟩) := H2.out.setG hb4 ho4
  clear h4 hb4 ho4 H2
  go_upto_region 4 with fail
  generalize w4.setCell ⟨g, 4, none⟩ (.slice b4 n4 k4) = v4 at *
  clear e4 f4
  have c5 : v4.cell? ⟨g, 3, none⟩ = some q2 := H4.out.cell 3
  go_wp2_with fail
  refine (ahead_any (x := x) H4.out.rb.rl (by have hl := HL.out; have hr := Rep.lens HRP.out; (try simp only [List.length_append, List.length_cons, List.length_nil] at hr); (try simp only [List.length_append, List.length_cons, List.length_nil] at hl ⊢); omega)).mono ?_
  rintro _ w5 ⟨u, rfl, ho5, hb5⟩
  obtain ⟨b5, n5, k5, rfl⟩ := own_any ho5
  clear c5
  have h5 := H4.out.below hb5
  have e5 : w5.cell? ⟨g, 3, none⟩ = some q2 := h5.cell 3
  have f5 : w5.frozen? ⟨g, 3, none⟩ = false := h5.nf 3
  have H5 : Hid (Rc w0 (w5.setCell ⟨g, 3, none⟩ (.slice b5 n5 k5)) g m kd c F ⟨p2, .slice b5 n5 k5, .slice b4 n4 k4, t2, u2⟩ ⟨j1, (x :: j2), (wo j3 x), j4, N, n, pp, (O ++ [y])⟩) := H4.out.setB hb5 ho5
  clear h5 hb5 ho5 H4
  go_wp2
  (try simp only [Exit.inBlock, Exit.then])
  refine bodyPost_ret (results_none rfl _ _ _) rfl ?_
  exact ⟨rfl, _, H5.out⟩
set_option maxHeartbeats 3200000 in
set_option maxRecDepth 100000 in
theorem arc_2 (h : Rc w0 w g m kd c F V ⟨A, B, G, H, N, n, p, O⟩) (hl : A.length + B.length + G.length + H.length + O.length ≤ 90000000) (hz : c ≤ 1048576 ∧ p ≤ c) (hxg : x ∉ G) (hx : x ∈ H) (hr : Rep (pDn p G.length H.length) true A B G H y j1 j2 j3 j4) : Calls Tryz.prog 25 #[.pointer (some ⟨g, 0, none⟩), U x] w fun e w' => e = .returned (.tuple #[]) ∧ ∃ V', Rc w0 w' g m kd c F V' ⟨j1, (x :: j2), j3, (wo j4 x), N, n, (pDn p G.length H.length), (O ++ [y])⟩ := by
  obtain ⟨ba, na, ca, bb, nb, cb, bg, ng, cg, bh, nh, ch, vo, rfl, i1, i2, i3, i4⟩ := h.forms2
  have H0 : Hid (Rc w0 w g m kd c F ⟨.slice ba na ca, .slice bb nb cb, .slice bg ng cg, .slice bh nh ch, vo⟩ ⟨A, B, G, H, N, n, p, O⟩) := h
  have HL : Hid (A.length + B.length + G.length + H.length + O.length ≤ 90000000) := hl
  have e1 : na = A.length := i1
  have e2 : nb = B.length := i2
  have e3 : ng = G.length := i3
  have e4 : nh = H.length := i4
  clear i1 i2 i3 i4
  have HX : Hid (x ∈ H ∧ x ∉ G) := ⟨hx, hxg⟩
  have HB : Hid (decide (x ∈ H) = true) := decide_eq_true hx
  have HZ : Hid (c ≤ 1048576 ∧ p ≤ c) := hz
  have HP : Hid (pDn p G.length H.length = p - max 1 (ng / nh)) := by rw [e3, e4]; exact rfl
  have hi3 : ¬ nh = 0 := by have := List.length_pos_of_mem HX.out.1; omega
  have hqle : ng / nh ≤ ng := Nat.div_le_self _ _
  have hqc : (ng : Int) / (nh : Int) = ((ng / nh : Nat) : Int) := by simp
  have hla : ng ≤ 90000000 := by have := HL.out; omega
  generalize hqe : ng / nh = q at HP hqc hqle
  have hq : IntKind.i64.wrap ((ng : Int) / (nh : Int)) = (q : Int) := by rw [hqc, IntKind.wrap_i64]; omega
  have hm1 : (if (1 : Int) < (q : Int) then (q : Int) else 1) = ((max 1 q : Nat) : Int) := by split <;> omega
  have hm2 : (if 1 < q then (q : Int) else 1) = ((max 1 q : Nat) : Int) := by split <;> omega
  have hmx : max 1 q ≤ 90000001 := by omega
  obtain ⟨mx, hme⟩ : ∃ mx, mx = max 1 q := ⟨_, rfl⟩
  rw [← hme] at HP hm1 hm2 hmx
  have hp2 : (p : Int) ≤ 1048576 := by have := HZ.out; omega
  have hc2 : (c : Int) ≤ 1048576 := by have := HZ.out; omega
  have hmx2 : (mx : Int) ≤ 90000001 := by omega
  obtain ⟨pp, hpp⟩ : ∃ pp, pp = p - mx := ⟨_, rfl⟩
  rw [← hpp] at HP
  have hw1 : IntKind.i64.wrap ((p : Int) - (mx : Int)) = (p : Int) - (mx : Int) := by rw [IntKind.wrap_i64]; omega
  have hs1 : (if (0 : Int) < (p : Int) - (mx : Int) then (p : Int) - (mx : Int) else 0) = (pp : Int) := by split <;> omega
  have hs3 : (if (mx : Int) < (p : Int) then (p : Int) - (mx : Int) else 0) = (pp : Int) := by split <;> omega
  have hs2 : (if mx < p then (p : Int) - (mx : Int) else 0) = (pp : Int) := by split <;> omega
  clear hqc hqe hqle hpp hme hmx hla e1 e2 e3 e4
  have HRP : Hid (Rep pp true A B G H y j1 j2 j3 j4) := by rw [← HP.out]; exact hr
  have HPE : Hid (pDn p G.length H.length = pp) := HP.out
  rw [HPE.out]
  clear h hl hz hx hxg hr HP
  go_enter Tryz.func25, Tryz.ntmps25
  have c1 : w.cell? ⟨g, 4, none⟩ = some (.slice bg ng cg) := H0.out.cell 4
  go_wp2_with fail
  refine (rhas_no H0.out.rg.rl.1 (by have hl := HL.out; (try simp only [List.length_append, List.length_cons, List.length_nil] at hl ⊢); omega) HX.out.2).mono ?_
  rintro _ w ⟨rfl, rfl⟩
  clear c1
  have c2 : w.cell? ⟨g, 5, none⟩ = some (.slice bh nh ch) := H0.out.cell 5
  go_wp2_with fail
  refine (rhas_yes H0.out.rh.rl.1 (by have hl := HL.out; (try simp only [List.length_append, List.length_cons, List.length_nil] at hl ⊢); omega) HX.out.1).mono ?_
  rintro _ w ⟨rfl, rfl⟩
  clear c2
  have d1 : w.cell? ⟨g, 1, none⟩ = some ((I c)) := H0.out.cell 1
  have d4 : w.cell? ⟨g, 4, none⟩ = some (.slice bg ng cg) := H0.out.cell 4
  have d5 : w.cell? ⟨g, 5, none⟩ = some (.slice bh nh ch) := H0.out.cell 5
  have d7 : w.cell? ⟨g, 7, none⟩ = some ((I p)) := H0.out.cell 7
  go_wp2_with fail
  refine wp_region_quiet_tail (C := fun w' => ∃ j, w' = w.drewN j) 19 (by kernel_rfl) (by kernel_rfl) ⟨1, rfl⟩ ?_
  simp only [List.take_succ_cons, List.take_zero, List.drop_succ_cons, List.drop_zero]
  iterate 19 quiet_step (fail)
  refine wpQuiet_nil ?_
  rintro _ ⟨j, rfl⟩
  have HD : Hid (Rc w0 (w.drewN j) g m kd c F ⟨.slice ba na ca, .slice bb nb cb, .slice bg ng cg, .slice bh nh ch, vo⟩ ⟨A, B, G, H, N, n, p, O⟩) := H0.out.below (Go.Proofs.YtjcbpejplnaakaaGreat.Nm.below_drewN _ j)
  generalize w.drewN j = w9 at *
  clear d1 d4 d5 d7 H0 hq hm1 hm2 hw1 hs1 hs2 hs3 hi3 hp2 hc2 hmx2
  have c7 : w9.cell? ⟨g, 7, none⟩ = some (I p) := HD.out.cell 7
  have f7 : w9.frozen? ⟨g, 7, none⟩ = false := HD.out.nf 7
  have HE : Hid (Rc w0 (w9.setCell ⟨g, 7, none⟩ (I pp)) g m kd c F ⟨.slice ba na ca, .slice bb nb cb, .slice bg ng cg, .slice bh nh ch, vo⟩ ⟨A, B, G, H, N, n, pp, O⟩) := HD.out.setP pp
  go_upto_region 7 with fail
  generalize w9.setCell ⟨g, 7, none⟩ (I pp) = w10 at *
  clear c7 f7 HD
  go_wp2_with fail
  refine (rp_any (bb := true) (y := y) HE.out (by have hl := HL.out; (try simp only [List.length_append, List.length_cons, List.length_nil] at hl ⊢); omega) HB.out HRP.out).mono ?_
  rintro _ w3 ⟨rfl, ⟨p3, q3, r3, t3, u3⟩, h3⟩
  have H3 : Hid (Rc w0 w3 g m kd c F ⟨p3, q3, r3, t3, u3⟩ ⟨j1, j2, j3, j4, N, n, pp, (O ++ [y])⟩) := h3
  clear h3 HE
  have c5 : w3.cell? ⟨g, 5, none⟩ = some t3 := H3.out.cell 5
  go_wp2_with fail
  refine (without_any (x := x) H3.out.rh.rl.1 (by have hl := HL.out; have hr := Rep.lens HRP.out; (try simp only [List.length_append, List.length_cons, List.length_nil] at hr); (try simp only [List.length_append, List.length_cons, List.length_nil] at hl ⊢); omega)).mono ?_
  rintro _ w5 ⟨u, rfl, ho5, hb5⟩
  obtain ⟨b5, n5, k5, rfl⟩ := own_any ho5
  clear c5
  have h5 := H3.out.below hb5
  have e5 : w5.cell? ⟨g, 5, none⟩ = some t3 := h5.cell 5
  have f5 : w5.frozen? ⟨g, 5, none⟩ = false := h5.nf 5
  have H5 : Hid (Rc w0 (w5.setCell ⟨g, 5, none⟩ (.slice b5 n5 k5)) g m kd c F ⟨p3, q3, r3, .slice b5 n5 k5, u3⟩ ⟨j1, j2, j3, (wo j4 x), N, n, pp, (O ++ [y])⟩) := H3.out.setH hb5 ho5
  clear h5 hb5 ho5 H3
  go_upto_region 9 with fail
  generalize w5.setCell ⟨g, 5, none⟩ (.slice b5 n5 k5) = v5 at *
  clear e5 f5
  have c6 : v5.cell? ⟨g, 3, none⟩ = some q3 := H5.out.cell 3
  go_wp2_with fail
  refine (ahead_any (x := x) H5.out.rb.rl (by have hl := HL.out; have hr := Rep.lens HRP.out; (try simp only [List.length_append, List.length_cons, List.length_nil] at hr); (try simp only [List.length_append, List.length_cons, List.length_nil] at hl ⊢); omega)).mono ?_
  rintro _ w6 ⟨u, rfl, ho6, hb6⟩
  obtain ⟨b6, n6, k6, rfl⟩ := own_any ho6
  clear c6
  have h6 := H5.out.below hb6
  have e6 : w6.cell? ⟨g, 3, none⟩ = some q3 := h6.cell 3
  have f6 : w6.frozen? ⟨g, 3, none⟩ = false := h6.nf 3
  have H6 : Hid (Rc w0 (w6.setCell ⟨g, 3, none⟩ (.slice b6 n6 k6)) g m kd c F ⟨p3, .slice b6 n6 k6, r3, .slice b5 n5 k5, u3⟩ ⟨j1, (x :: j2), j3, (wo j4 x), N, n, pp, (O ++ [y])⟩) := H5.out.setB hb6 ho6
  clear h6 hb6 ho6 H5
  go_wp2
  (try simp only [Exit.inBlock, Exit.then])
  refine bodyPost_ret (results_none rfl _ _ _) rfl ?_
  exact ⟨rfl, _, H6.out⟩
set_option maxHeartbeats 3200000 in
set_option maxRecDepth 100000 in
theorem arc_a (h : Rc w0 w g m kd c F V ⟨(l ++ [y]), B, G, H, N, n, p, O⟩) (hl : (l ++ [y]).length + B.length + G.length + H.length + O.length ≤ 90000000) (hz : c ≤ 1048576) (hxg : x ∉ G) (hx : x ∉ H) (h1 : (l ++ [y]).length = c) (h2 : (l ++ [y]).length + G.length = c) : Calls Tryz.prog 25 #[.pointer (some ⟨g, 0, none⟩), U x] w fun e w' => e = .returned (.tuple #[]) ∧ ∃ V', Rc w0 w' g m kd c F V' ⟨(x :: l), B, G, H, N, n, p, (O ++ [y])⟩ := by
  obtain ⟨ba, na, ca, bb, nb, cb, bg, ng, cg, bh, nh, ch, vo, rfl, i1, i2, i3, i4⟩ := h.forms2
  have H0 : Hid (Rc w0 w g m kd c F ⟨.slice ba na ca, .slice bb nb cb, .slice bg ng cg, .slice bh nh ch, vo⟩ ⟨(l ++ [y]), B, G, H, N, n, p, O⟩) := h
  have HL : Hid ((l ++ [y]).length + B.length + G.length + H.length + O.length ≤ 90000000) := hl
  have e1 : na = (l ++ [y]).length := i1
  have e2 : nb = B.length := i2
  have e3 : ng = G.length := i3
  have e4 : nh = H.length := i4
  clear i1 i2 i3 i4
  have HX : Hid (x ∉ G ∧ x ∉ H) := ⟨hxg, hx⟩
  have HZ : Hid (c ≤ 1048576) := hz
  have la : (na : Int) ≤ 90000000 := by have := HL.out; omega
  have lb : (nb : Int) ≤ 90000000 := by have := HL.out; omega
  have lg : (ng : Int) ≤ 90000000 := by have := HL.out; omega
  have lh : (nh : Int) ≤ 90000000 := by have := HL.out; omega
  have lc : (c : Int) ≤ 1048576 := by have := HZ.out; omega
  obtain ⟨t1, ht1⟩ : ∃ t : Nat, t = na + nb := ⟨_, rfl⟩
  have wt1 : IntKind.i64.wrap ((na : Int) + (nb : Int)) = (t1 : Int) := by rw [IntKind.wrap_i64]; omega
  obtain ⟨t2, ht2⟩ : ∃ t : Nat, t = t1 + ng := ⟨_, rfl⟩
  have wt2 : IntKind.i64.wrap ((t1 : Int) + (ng : Int)) = (t2 : Int) := by rw [IntKind.wrap_i64]; omega
  obtain ⟨t3, ht3⟩ : ∃ t : Nat, t = t2 + nh := ⟨_, rfl⟩
  have wt3 : IntKind.i64.wrap ((t2 : Int) + (nh : Int)) = (t3 : Int) := by rw [IntKind.wrap_i64]; omega
  obtain ⟨t4, ht4⟩ : ∃ t : Nat, t = na + ng := ⟨_, rfl⟩
  have wt4 : IntKind.i64.wrap ((na : Int) + (ng : Int)) = (t4 : Int) := by rw [IntKind.wrap_i64]; omega
  obtain ⟨t5, ht5⟩ : ∃ t : Nat, t = 2 * c := ⟨_, rfl⟩
  have wt5 : IntKind.i64.wrap (2 * (c : Int)) = (t5 : Int) := by rw [IntKind.wrap_i64]; omega
  have qt4 : ((t4 : Int) == (c : Int)) = true := by rw [beq_iff_eq]; omega
  have ql : ¬ ((na : Int) < (c : Int)) := by omega
  have ql2 : decide (na < c) = false := decide_eq_false (by omega)
  clear h hl hz hxg hx ht1 ht2 ht3 ht4 ht5 e1 e2 e3 e4 la lb lg lh h1 h2
  go_enter Tryz.func25, Tryz.ntmps25
  have c1 : w.cell? ⟨g, 4, none⟩ = some (.slice bg ng cg) := H0.out.cell 4
  go_wp2_with fail
  refine (rhas_no H0.out.rg.rl.1 (by have hl := HL.out; (try simp only [List.length_append, List.length_cons, List.length_nil] at hl ⊢); omega) HX.out.1).mono ?_
  rintro _ w ⟨rfl, rfl⟩
  clear c1
  have c2 : w.cell? ⟨g, 5, none⟩ = some (.slice bh nh ch) := H0.out.cell 5
  go_wp2_with fail
  refine (rhas_no H0.out.rh.rl.1 (by have hl := HL.out; (try simp only [List.length_append, List.length_cons, List.length_nil] at hl ⊢); omega) HX.out.2).mono ?_
  rintro _ w ⟨rfl, rfl⟩
  clear c2
  have d1 : w.cell? ⟨g, 1, none⟩ = some ((I c)) := H0.out.cell 1
  have d2 : w.cell? ⟨g, 2, none⟩ = some (.slice ba na ca) := H0.out.cell 2
  have d3 : w.cell? ⟨g, 3, none⟩ = some (.slice bb nb cb) := H0.out.cell 3
  have d4 : w.cell? ⟨g, 4, none⟩ = some (.slice bg ng cg) := H0.out.cell 4
  have d5 : w.cell? ⟨g, 5, none⟩ = some (.slice bh nh ch) := H0.out.cell 5
  go_wp2_with fail
  go_quiet (fail)
  have HQ1 : Hid (Rc w0 (w.drewN nq) g m kd c F ⟨.slice ba na ca, .slice bb nb cb, .slice bg ng cg, .slice bh nh ch, vo⟩ ⟨(l ++ [y]), B, G, H, N, n, p, O⟩) := H0.out.below (Go.Proofs.YtjcbpejplnaakaaGreat.Nm.below_drewN _ nq)
  generalize w.drewN nq = wq1 at *
  clear d1 d2 d3 d4 d5 H0
  have d1 : wq1.cell? ⟨g, 1, none⟩ = some ((I c)) := HQ1.out.cell 1
  have d2 : wq1.cell? ⟨g, 2, none⟩ = some (.slice ba na ca) := HQ1.out.cell 2
  have d3 : wq1.cell? ⟨g, 3, none⟩ = some (.slice bb nb cb) := HQ1.out.cell 3
  have d4 : wq1.cell? ⟨g, 4, none⟩ = some (.slice bg ng cg) := HQ1.out.cell 4
  have d5 : wq1.cell? ⟨g, 5, none⟩ = some (.slice bh nh ch) := HQ1.out.cell 5
  go_wp2_with fail
  go_quiet (fail)
  have HQ2 : Hid (Rc w0 (wq1.drewN nq) g m kd c F ⟨.slice ba na ca, .slice bb nb cb, .slice bg ng cg, .slice bh nh ch, vo⟩ ⟨(l ++ [y]), B, G, H, N, n, p, O⟩) := HQ1.out.below (Go.Proofs.YtjcbpejplnaakaaGreat.Nm.below_drewN _ nq)
  generalize wq1.drewN nq = wq2 at *
  clear d1 d2 d3 d4 d5 HQ1
  have d1 : wq2.cell? ⟨g, 1, none⟩ = some ((I c)) := HQ2.out.cell 1
  have d2 : wq2.cell? ⟨g, 2, none⟩ = some (.slice ba na ca) := HQ2.out.cell 2
  have d3 : wq2.cell? ⟨g, 3, none⟩ = some (.slice bb nb cb) := HQ2.out.cell 3
  have d4 : wq2.cell? ⟨g, 4, none⟩ = some (.slice bg ng cg) := HQ2.out.cell 4
  have d5 : wq2.cell? ⟨g, 5, none⟩ = some (.slice bh nh ch) := HQ2.out.cell 5
  go_wp2_with fail
  go_quiet (fail)
  have HQ3 : Hid (Rc w0 (wq2.drewN nq) g m kd c F ⟨.slice ba na ca, .slice bb nb cb, .slice bg ng cg, .slice bh nh ch, vo⟩ ⟨(l ++ [y]), B, G, H, N, n, p, O⟩) := HQ2.out.below (Go.Proofs.YtjcbpejplnaakaaGreat.Nm.below_drewN _ nq)
  generalize wq2.drewN nq = wq3 at *
  clear d1 d2 d3 d4 d5 HQ2
  have d1 : wq3.cell? ⟨g, 1, none⟩ = some ((I c)) := HQ3.out.cell 1
  have d2 : wq3.cell? ⟨g, 2, none⟩ = some (.slice ba na ca) := HQ3.out.cell 2
  have d3 : wq3.cell? ⟨g, 3, none⟩ = some (.slice bb nb cb) := HQ3.out.cell 3
  have d4 : wq3.cell? ⟨g, 4, none⟩ = some (.slice bg ng cg) := HQ3.out.cell 4
  have d5 : wq3.cell? ⟨g, 5, none⟩ = some (.slice bh nh ch) := HQ3.out.cell 5
  clear d1 d2 d3 d4 d5 wt1 wt2 wt3 wt4 wt5 qt4 ql lc
  go_wp2_with fail
  refine (evA_any (l := l) (x := y) HQ3.out rfl (by have hl := HL.out; (try simp only [List.length_append, List.length_cons, List.length_nil] at hl ⊢); omega) (by have hl := HL.out; (try simp only [List.length_append, List.length_cons, List.length_nil] at hl ⊢); omega)).mono ?_
  rintro _ w3 ⟨rfl, ⟨p3, q3, r3, t3, u3⟩, h3⟩
  have H3 : Hid (Rc w0 w3 g m kd c F ⟨p3, q3, r3, t3, u3⟩ ⟨l, B, G, H, N, n, p, (O ++ [y])⟩) := h3
  clear h3 HQ3
  have c4 : w3.cell? ⟨g, 2, none⟩ = some p3 := H3.out.cell 2
  go_wp2_with fail
  refine (ahead_any (x := x) H3.out.ra.rl (by have hl := HL.out; (try simp only [List.length_append, List.length_cons, List.length_nil] at hl ⊢); omega)).mono ?_
  rintro _ w4 ⟨u, rfl, ho4, hb4⟩
  obtain ⟨b4, n4, k4, rfl⟩ := own_any ho4
  clear c4
  have h4 := H3.out.below hb4
  have e4 : w4.cell? ⟨g, 2, none⟩ = some p3 := h4.cell 2
  have f4 : w4.frozen? ⟨g, 2, none⟩ = false := h4.nf 2
  have H4 : Hid (Rc w0 (w4.setCell ⟨g, 2, none⟩ (.slice b4 n4 k4)) g m kd c F ⟨.slice b4 n4 k4, q3, r3, t3, u3⟩ ⟨(x :: l), B, G, H, N, n, p, (O ++ [y])⟩) := H3.out.setA hb4 ho4
  clear h4 hb4 ho4 H3
  go_wp2
  go_end0
  exact ⟨rfl, _, H4.out⟩
set_option maxHeartbeats 3200000 in
set_option maxRecDepth 100000 in
theorem arc_b (h : Rc w0 w g m kd c F V ⟨A, B, (l ++ [z]), H, N, n, p, O⟩) (hl : A.length + B.length + (l ++ [z]).length + H.length + O.length ≤ 90000000) (hz : c ≤ 1048576) (hxg : x ∉ l ++ [z]) (hx : x ∉ H) (h1 : A.length ≠ c) (h2 : A.length + (l ++ [z]).length = c) (hr : Rep p false A B l H y j1 j2 j3 j4) : Calls Tryz.prog 25 #[.pointer (some ⟨g, 0, none⟩), U x] w fun e w' => e = .returned (.tuple #[]) ∧ ∃ V', Rc w0 w' g m kd c F V' ⟨(x :: j1), j2, j3, j4, N, n, p, (O ++ [y])⟩ := by
  obtain ⟨ba, na, ca, bb, nb, cb, bg, ng, cg, bh, nh, ch, vo, rfl, i1, i2, i3, i4⟩ := h.forms2
  have H0 : Hid (Rc w0 w g m kd c F ⟨.slice ba na ca, .slice bb nb cb, .slice bg ng cg, .slice bh nh ch, vo⟩ ⟨A, B, (l ++ [z]), H, N, n, p, O⟩) := h
  have HL : Hid (A.length + B.length + (l ++ [z]).length + H.length + O.length ≤ 90000000) := hl
  have e1 : na = A.length := i1
  have e2 : nb = B.length := i2
  have e3 : ng = (l ++ [z]).length := i3
  have e4 : nh = H.length := i4
  clear i1 i2 i3 i4
  have HX : Hid (x ∉ (l ++ [z]) ∧ x ∉ H) := ⟨hxg, hx⟩
  have HZ : Hid (c ≤ 1048576) := hz
  have HB : Hid (decide (x ∈ H) = false) := decide_eq_false hx
  have HRP : Hid (Rep p false A B l H y j1 j2 j3 j4) := hr
  have la : (na : Int) ≤ 90000000 := by have := HL.out; omega
  have lb : (nb : Int) ≤ 90000000 := by have := HL.out; omega
  have lg : (ng : Int) ≤ 90000000 := by have := HL.out; omega
  have lh : (nh : Int) ≤ 90000000 := by have := HL.out; omega
  have lc : (c : Int) ≤ 1048576 := by have := HZ.out; omega
  obtain ⟨t1, ht1⟩ : ∃ t : Nat, t = na + nb := ⟨_, rfl⟩
  have wt1 : IntKind.i64.wrap ((na : Int) + (nb : Int)) = (t1 : Int) := by rw [IntKind.wrap_i64]; omega
  obtain ⟨t2, ht2⟩ : ∃ t : Nat, t = t1 + ng := ⟨_, rfl⟩
  have wt2 : IntKind.i64.wrap ((t1 : Int) + (ng : Int)) = (t2 : Int) := by rw [IntKind.wrap_i64]; omega
  obtain ⟨t3, ht3⟩ : ∃ t : Nat, t = t2 + nh := ⟨_, rfl⟩
  have wt3 : IntKind.i64.wrap ((t2 : Int) + (nh : Int)) = (t3 : Int) := by rw [IntKind.wrap_i64]; omega
  obtain ⟨t4, ht4⟩ : ∃ t : Nat, t = na + ng := ⟨_, rfl⟩
  have wt4 : IntKind.i64.wrap ((na : Int) + (ng : Int)) = (t4 : Int) := by rw [IntKind.wrap_i64]; omega
  obtain ⟨t5, ht5⟩ : ∃ t : Nat, t = 2 * c := ⟨_, rfl⟩
  have wt5 : IntKind.i64.wrap (2 * (c : Int)) = (t5 : Int) := by rw [IntKind.wrap_i64]; omega
  have qt4 : ((t4 : Int) == (c : Int)) = true := by rw [beq_iff_eq]; omega
  have ql : (na : Int) < (c : Int) := by omega
  clear h hl hz hxg hx ht1 ht2 ht3 ht4 ht5 e1 e2 e3 e4 la lb lg lh h1 h2 hr
  go_enter Tryz.func25, Tryz.ntmps25
  have c1 : w.cell? ⟨g, 4, none⟩ = some (.slice bg ng cg) := H0.out.cell 4
  go_wp2_with fail
  refine (rhas_no H0.out.rg.rl.1 (by have hl := HL.out; (try simp only [List.length_append, List.length_cons, List.length_nil] at hl ⊢); omega) HX.out.1).mono ?_
  rintro _ w ⟨rfl, rfl⟩
  clear c1
  have c2 : w.cell? ⟨g, 5, none⟩ = some (.slice bh nh ch) := H0.out.cell 5
  go_wp2_with fail
  refine (rhas_no H0.out.rh.rl.1 (by have hl := HL.out; (try simp only [List.length_append, List.length_cons, List.length_nil] at hl ⊢); omega) HX.out.2).mono ?_
  rintro _ w ⟨rfl, rfl⟩
  clear c2
  have d1 : w.cell? ⟨g, 1, none⟩ = some ((I c)) := H0.out.cell 1
  have d2 : w.cell? ⟨g, 2, none⟩ = some (.slice ba na ca) := H0.out.cell 2
  have d3 : w.cell? ⟨g, 3, none⟩ = some (.slice bb nb cb) := H0.out.cell 3
  have d4 : w.cell? ⟨g, 4, none⟩ = some (.slice bg ng cg) := H0.out.cell 4
  have d5 : w.cell? ⟨g, 5, none⟩ = some (.slice bh nh ch) := H0.out.cell 5
  go_wp2_with fail
  go_quiet (fail)
  have HQ1 : Hid (Rc w0 (w.drewN nq) g m kd c F ⟨.slice ba na ca, .slice bb nb cb, .slice bg ng cg, .slice bh nh ch, vo⟩ ⟨A, B, (l ++ [z]), H, N, n, p, O⟩) := H0.out.below (Go.Proofs.YtjcbpejplnaakaaGreat.Nm.below_drewN _ nq)
  generalize w.drewN nq = wq1 at *
  clear d1 d2 d3 d4 d5 H0
  have d1 : wq1.cell? ⟨g, 1, none⟩ = some ((I c)) := HQ1.out.cell 1
  have d2 : wq1.cell? ⟨g, 2, none⟩ = some (.slice ba na ca) := HQ1.out.cell 2
  have d3 : wq1.cell? ⟨g, 3, none⟩ = some (.slice bb nb cb) := HQ1.out.cell 3
  have d4 : wq1.cell? ⟨g, 4, none⟩ = some (.slice bg ng cg) := HQ1.out.cell 4
  have d5 : wq1.cell? ⟨g, 5, none⟩ = some (.slice bh nh ch) := HQ1.out.cell 5
  go_wp2_with fail
  go_quiet (fail)
  have HQ2 : Hid (Rc w0 (wq1.drewN nq) g m kd c F ⟨.slice ba na ca, .slice bb nb cb, .slice bg ng cg, .slice bh nh ch, vo⟩ ⟨A, B, (l ++ [z]), H, N, n, p, O⟩) := HQ1.out.below (Go.Proofs.YtjcbpejplnaakaaGreat.Nm.below_drewN _ nq)
  generalize wq1.drewN nq = wq2 at *
  clear d1 d2 d3 d4 d5 HQ1
  have d1 : wq2.cell? ⟨g, 1, none⟩ = some ((I c)) := HQ2.out.cell 1
  have d2 : wq2.cell? ⟨g, 2, none⟩ = some (.slice ba na ca) := HQ2.out.cell 2
  have d3 : wq2.cell? ⟨g, 3, none⟩ = some (.slice bb nb cb) := HQ2.out.cell 3
  have d4 : wq2.cell? ⟨g, 4, none⟩ = some (.slice bg ng cg) := HQ2.out.cell 4
  have d5 : wq2.cell? ⟨g, 5, none⟩ = some (.slice bh nh ch) := HQ2.out.cell 5
  go_wp2_with fail
  go_quiet (fail)
  have HQ3 : Hid (Rc w0 (wq2.drewN nq) g m kd c F ⟨.slice ba na ca, .slice bb nb cb, .slice bg ng cg, .slice bh nh ch, vo⟩ ⟨A, B, (l ++ [z]), H, N, n, p, O⟩) := HQ2.out.below (Go.Proofs.YtjcbpejplnaakaaGreat.Nm.below_drewN _ nq)
  generalize wq2.drewN nq = wq3 at *
  clear d1 d2 d3 d4 d5 HQ2
  have d1 : wq3.cell? ⟨g, 1, none⟩ = some ((I c)) := HQ3.out.cell 1
  have d2 : wq3.cell? ⟨g, 2, none⟩ = some (.slice ba na ca) := HQ3.out.cell 2
  have d3 : wq3.cell? ⟨g, 3, none⟩ = some (.slice bb nb cb) := HQ3.out.cell 3
  have d4 : wq3.cell? ⟨g, 4, none⟩ = some (.slice bg ng cg) := HQ3.out.cell 4
  have d5 : wq3.cell? ⟨g, 5, none⟩ = some (.slice bh nh ch) := HQ3.out.cell 5
  clear d1 d2 d3 d4 d5 wt1 wt2 wt3 wt4 wt5 qt4 ql lc
  have c3 : wq3.cell? ⟨g, 4, none⟩ = some (.slice bg ng cg) := HQ3.out.cell 4
  go_wp2_with fail
  refine (last_any (l := l) (x := z) HQ3.out.rg.1 (by have hl := HL.out; (try simp only [List.length_append, List.length_cons, List.length_nil] at hl ⊢); omega)).mono ?_
  rintro _ w3 ⟨u, rfl, ho3, hb3⟩
  obtain ⟨b3, n3, k3, rfl⟩ := own_any ho3
  clear c3
  have h3 := HQ3.out.below hb3
  have e3 : w3.cell? ⟨g, 4, none⟩ = some (.slice bg ng cg) := h3.cell 4
  have f3 : w3.frozen? ⟨g, 4, none⟩ = false := h3.nf 4
  have H3 : Hid (Rc w0 (w3.setCell ⟨g, 4, none⟩ (.slice b3 n3 k3)) g m kd c F ⟨.slice ba na ca, .slice bb nb cb, .slice b3 n3 k3, .slice bh nh ch, vo⟩ ⟨A, B, l, H, N, n, p, O⟩) := HQ3.out.setG hb3 ho3
  clear h3 hb3 ho3 HQ3
  go_upto_region 15 with fail
  generalize w3.setCell ⟨g, 4, none⟩ (.slice b3 n3 k3) = v3 at *
  clear e3 f3
  go_wp2_with fail
  refine (rp_any (bb := false) (y := y) H3.out (by have hl := HL.out; (try simp only [List.length_append, List.length_cons, List.length_nil] at hl ⊢); omega) HB.out HRP.out).mono ?_
  rintro _ w4 ⟨rfl, ⟨p4, q4, r4, t4, u4⟩, h4⟩
  have H4 : Hid (Rc w0 w4 g m kd c F ⟨p4, q4, r4, t4, u4⟩ ⟨j1, j2, j3, j4, N, n, p, (O ++ [y])⟩) := h4
  clear h4 H3
  have c6 : w4.cell? ⟨g, 2, none⟩ = some p4 := H4.out.cell 2
  go_wp2_with fail
  refine (ahead_any (x := x) H4.out.ra.rl (by have hl := HL.out; have hr := Rep.lens HRP.out; (try simp only [List.length_append, List.length_cons, List.length_nil] at hr); (try simp only [List.length_append, List.length_cons, List.length_nil] at hl ⊢); omega)).mono ?_
  rintro _ w6 ⟨u, rfl, ho6, hb6⟩
  obtain ⟨b6, n6, k6, rfl⟩ := own_any ho6
  clear c6
  have h6 := H4.out.below hb6
  have e6 : w6.cell? ⟨g, 2, none⟩ = some p4 := h6.cell 2
  have f6 : w6.frozen? ⟨g, 2, none⟩ = false := h6.nf 2
  have H6 : Hid (Rc w0 (w6.setCell ⟨g, 2, none⟩ (.slice b6 n6 k6)) g m kd c F ⟨.slice b6 n6 k6, q4, r4, t4, u4⟩ ⟨(x :: j1), j2, j3, j4, N, n, p, (O ++ [y])⟩) := H4.out.setA hb6 ho6
  clear h6 hb6 ho6 H4
  go_wp2
  go_end0
  exact ⟨rfl, _, H6.out⟩
set_option maxHeartbeats 3200000 in
set_option maxRecDepth 100000 in
theorem arc_c (h : Rc w0 w g m kd c F V ⟨A, B, G, H, N, n, p, O⟩) (hl : A.length + B.length + G.length + H.length + O.length ≤ 90000000) (hz : c ≤ 1048576) (hxg : x ∉ G) (hx : x ∉ H) (h2 : A.length + G.length + B.length + H.length < c) : Calls Tryz.prog 25 #[.pointer (some ⟨g, 0, none⟩), U x] w fun e w' => e = .returned (.tuple #[]) ∧ ∃ V', Rc w0 w' g m kd c F V' ⟨(x :: A), B, G, H, N, n, p, O⟩ := by
  obtain ⟨ba, na, ca, bb, nb, cb, bg, ng, cg, bh, nh, ch, vo, rfl, i1, i2, i3, i4⟩ := h.forms2
  have H0 : Hid (Rc w0 w g m kd c F ⟨.slice ba na ca, .slice bb nb cb, .slice bg ng cg, .slice bh nh ch, vo⟩ ⟨A, B, G, H, N, n, p, O⟩) := h
  have HL : Hid (A.length + B.length + G.length + H.length + O.length ≤ 90000000) := hl
  have e1 : na = A.length := i1
  have e2 : nb = B.length := i2
  have e3 : ng = G.length := i3
  have e4 : nh = H.length := i4
  clear i1 i2 i3 i4
  have HX : Hid (x ∉ G ∧ x ∉ H) := ⟨hxg, hx⟩
  have HZ : Hid (c ≤ 1048576) := hz
  have la : (na : Int) ≤ 90000000 := by have := HL.out; omega
  have lb : (nb : Int) ≤ 90000000 := by have := HL.out; omega
  have lg : (ng : Int) ≤ 90000000 := by have := HL.out; omega
  have lh : (nh : Int) ≤ 90000000 := by have := HL.out; omega
  have lc : (c : Int) ≤ 1048576 := by have := HZ.out; omega
  obtain ⟨t1, ht1⟩ : ∃ t : Nat, t = na + nb := ⟨_, rfl⟩
  have wt1 : IntKind.i64.wrap ((na : Int) + (nb : Int)) = (t1 : Int) := by rw [IntKind.wrap_i64]; omega
  obtain ⟨t2, ht2⟩ : ∃ t : Nat, t = t1 + ng := ⟨_, rfl⟩
  have wt2 : IntKind.i64.wrap ((t1 : Int) + (ng : Int)) = (t2 : Int) := by rw [IntKind.wrap_i64]; omega
  obtain ⟨t3, ht3⟩ : ∃ t : Nat, t = t2 + nh := ⟨_, rfl⟩
  have wt3 : IntKind.i64.wrap ((t2 : Int) + (nh : Int)) = (t3 : Int) := by rw [IntKind.wrap_i64]; omega
  obtain ⟨t4, ht4⟩ : ∃ t : Nat, t = na + ng := ⟨_, rfl⟩
  have wt4 : IntKind.i64.wrap ((na : Int) + (ng : Int)) = (t4 : Int) := by rw [IntKind.wrap_i64]; omega
  obtain ⟨t5, ht5⟩ : ∃ t : Nat, t = 2 * c := ⟨_, rfl⟩
  have wt5 : IntKind.i64.wrap (2 * (c : Int)) = (t5 : Int) := by rw [IntKind.wrap_i64]; omega
  have qt4 : ((t4 : Int) == (c : Int)) = false := by rw [beq_eq_false_iff_ne]; omega
  have ql : ¬ ((c : Int) ≤ (t3 : Int)) := by omega
  have ql2 : decide (c ≤ t3) = false := decide_eq_false (by omega)
  clear h hl hz hxg hx ht1 ht2 ht3 ht4 ht5 e1 e2 e3 e4 la lb lg lh h2
  go_enter Tryz.func25, Tryz.ntmps25
  have c1 : w.cell? ⟨g, 4, none⟩ = some (.slice bg ng cg) := H0.out.cell 4
  go_wp2_with fail
  refine (rhas_no H0.out.rg.rl.1 (by have hl := HL.out; (try simp only [List.length_append, List.length_cons, List.length_nil] at hl ⊢); omega) HX.out.1).mono ?_
  rintro _ w ⟨rfl, rfl⟩
  clear c1
  have c2 : w.cell? ⟨g, 5, none⟩ = some (.slice bh nh ch) := H0.out.cell 5
  go_wp2_with fail
  refine (rhas_no H0.out.rh.rl.1 (by have hl := HL.out; (try simp only [List.length_append, List.length_cons, List.length_nil] at hl ⊢); omega) HX.out.2).mono ?_
  rintro _ w ⟨rfl, rfl⟩
  clear c2
  have d1 : w.cell? ⟨g, 1, none⟩ = some ((I c)) := H0.out.cell 1
  have d2 : w.cell? ⟨g, 2, none⟩ = some (.slice ba na ca) := H0.out.cell 2
  have d3 : w.cell? ⟨g, 3, none⟩ = some (.slice bb nb cb) := H0.out.cell 3
  have d4 : w.cell? ⟨g, 4, none⟩ = some (.slice bg ng cg) := H0.out.cell 4
  have d5 : w.cell? ⟨g, 5, none⟩ = some (.slice bh nh ch) := H0.out.cell 5
  go_wp2_with fail
  go_quiet (fail)
  have HQ1 : Hid (Rc w0 (w.drewN nq) g m kd c F ⟨.slice ba na ca, .slice bb nb cb, .slice bg ng cg, .slice bh nh ch, vo⟩ ⟨A, B, G, H, N, n, p, O⟩) := H0.out.below (Go.Proofs.YtjcbpejplnaakaaGreat.Nm.below_drewN _ nq)
  generalize w.drewN nq = wq1 at *
  clear d1 d2 d3 d4 d5 H0
  have d1 : wq1.cell? ⟨g, 1, none⟩ = some ((I c)) := HQ1.out.cell 1
  have d2 : wq1.cell? ⟨g, 2, none⟩ = some (.slice ba na ca) := HQ1.out.cell 2
  have d3 : wq1.cell? ⟨g, 3, none⟩ = some (.slice bb nb cb) := HQ1.out.cell 3
  have d4 : wq1.cell? ⟨g, 4, none⟩ = some (.slice bg ng cg) := HQ1.out.cell 4
  have d5 : wq1.cell? ⟨g, 5, none⟩ = some (.slice bh nh ch) := HQ1.out.cell 5
  go_wp2_with fail
  go_quiet (fail)
  have HQ2 : Hid (Rc w0 (wq1.drewN nq) g m kd c F ⟨.slice ba na ca, .slice bb nb cb, .slice bg ng cg, .slice bh nh ch, vo⟩ ⟨A, B, G, H, N, n, p, O⟩) := HQ1.out.below (Go.Proofs.YtjcbpejplnaakaaGreat.Nm.below_drewN _ nq)
  generalize wq1.drewN nq = wq2 at *
  clear d1 d2 d3 d4 d5 HQ1
  have d1 : wq2.cell? ⟨g, 1, none⟩ = some ((I c)) := HQ2.out.cell 1
  have d2 : wq2.cell? ⟨g, 2, none⟩ = some (.slice ba na ca) := HQ2.out.cell 2
  have d3 : wq2.cell? ⟨g, 3, none⟩ = some (.slice bb nb cb) := HQ2.out.cell 3
  have d4 : wq2.cell? ⟨g, 4, none⟩ = some (.slice bg ng cg) := HQ2.out.cell 4
  have d5 : wq2.cell? ⟨g, 5, none⟩ = some (.slice bh nh ch) := HQ2.out.cell 5
  go_upto_region 22 with fail
  clear d1 d2 d3 d4 d5 wt1 wt2 wt3 wt4 wt5 qt4 ql lc
  have c3 : wq2.cell? ⟨g, 2, none⟩ = some (.slice ba na ca) := HQ2.out.cell 2
  go_wp2_with fail
  refine (ahead_any (x := x) HQ2.out.ra.rl (by have hl := HL.out; (try simp only [List.length_append, List.length_cons, List.length_nil] at hl ⊢); omega)).mono ?_
  rintro _ w3 ⟨u, rfl, ho3, hb3⟩
  obtain ⟨b3, n3, k3, rfl⟩ := own_any ho3
  clear c3
  have h3 := HQ2.out.below hb3
  have e3 : w3.cell? ⟨g, 2, none⟩ = some (.slice ba na ca) := h3.cell 2
  have f3 : w3.frozen? ⟨g, 2, none⟩ = false := h3.nf 2
  have H3 : Hid (Rc w0 (w3.setCell ⟨g, 2, none⟩ (.slice b3 n3 k3)) g m kd c F ⟨.slice b3 n3 k3, .slice bb nb cb, .slice bg ng cg, .slice bh nh ch, vo⟩ ⟨(x :: A), B, G, H, N, n, p, O⟩) := HQ2.out.setA hb3 ho3
  clear h3 hb3 ho3 HQ2
  go_wp2
  go_end0
  exact ⟨rfl, _, H3.out⟩
set_option maxHeartbeats 3200000 in
set_option maxRecDepth 100000 in
theorem arc_d (h : Rc w0 w g m kd c F V ⟨A, B, G, (l ++ [z]), N, n, p, O⟩) (hl : A.length + B.length + G.length + (l ++ [z]).length + O.length ≤ 90000000) (hz : c ≤ 1048576) (hxg : x ∉ G) (hx : x ∉ l ++ [z]) (h1 : A.length + G.length ≠ c) (h3 : A.length + G.length + B.length + (l ++ [z]).length = 2 * c) (hr : Rep p false A B G l y j1 j2 j3 j4) : Calls Tryz.prog 25 #[.pointer (some ⟨g, 0, none⟩), U x] w fun e w' => e = .returned (.tuple #[]) ∧ ∃ V', Rc w0 w' g m kd c F V' ⟨(x :: j1), j2, j3, j4, N, n, p, (O ++ [y])⟩ := by
  obtain ⟨ba, na, ca, bb, nb, cb, bg, ng, cg, bh, nh, ch, vo, rfl, i1, i2, i3, i4⟩ := h.forms2
  have H0 : Hid (Rc w0 w g m kd c F ⟨.slice ba na ca, .slice bb nb cb, .slice bg ng cg, .slice bh nh ch, vo⟩ ⟨A, B, G, (l ++ [z]), N, n, p, O⟩) := h
  have HL : Hid (A.length + B.length + G.length + (l ++ [z]).length + O.length ≤ 90000000) := hl
  have e1 : na = A.length := i1
  have e2 : nb = B.length := i2
  have e3 : ng = G.length := i3
  have e4 : nh = (l ++ [z]).length := i4
  clear i1 i2 i3 i4
  have HX : Hid (x ∉ G ∧ x ∉ (l ++ [z])) := ⟨hxg, hx⟩
  have HZ : Hid (c ≤ 1048576) := hz
  have HB : Hid (decide (x ∈ l) = false) := decide_eq_false fun e => hx (by simp [e])
  have HRP : Hid (Rep p false A B G l y j1 j2 j3 j4) := hr
  have la : (na : Int) ≤ 90000000 := by have := HL.out; omega
  have lb : (nb : Int) ≤ 90000000 := by have := HL.out; omega
  have lg : (ng : Int) ≤ 90000000 := by have := HL.out; omega
  have lh : (nh : Int) ≤ 90000000 := by have := HL.out; omega
  have lc : (c : Int) ≤ 1048576 := by have := HZ.out; omega
  obtain ⟨t1, ht1⟩ : ∃ t : Nat, t = na + nb := ⟨_, rfl⟩
  have wt1 : IntKind.i64.wrap ((na : Int) + (nb : Int)) = (t1 : Int) := by rw [IntKind.wrap_i64]; omega
  obtain ⟨t2, ht2⟩ : ∃ t : Nat, t = t1 + ng := ⟨_, rfl⟩
  have wt2 : IntKind.i64.wrap ((t1 : Int) + (ng : Int)) = (t2 : Int) := by rw [IntKind.wrap_i64]; omega
  obtain ⟨t3, ht3⟩ : ∃ t : Nat, t = t2 + nh := ⟨_, rfl⟩
  have wt3 : IntKind.i64.wrap ((t2 : Int) + (nh : Int)) = (t3 : Int) := by rw [IntKind.wrap_i64]; omega
  obtain ⟨t4, ht4⟩ : ∃ t : Nat, t = na + ng := ⟨_, rfl⟩
  have wt4 : IntKind.i64.wrap ((na : Int) + (ng : Int)) = (t4 : Int) := by rw [IntKind.wrap_i64]; omega
  obtain ⟨t5, ht5⟩ : ∃ t : Nat, t = 2 * c := ⟨_, rfl⟩
  have wt5 : IntKind.i64.wrap (2 * (c : Int)) = (t5 : Int) := by rw [IntKind.wrap_i64]; omega
  have qt4 : ((t4 : Int) == (c : Int)) = false := by rw [beq_eq_false_iff_ne]; omega
  have ql : (c : Int) ≤ (t3 : Int) := by omega
  have qt3 : ((t3 : Int) == (t5 : Int)) = true := by rw [beq_iff_eq]; omega
  clear h hl hz hxg hx ht1 ht2 ht3 ht4 ht5 e1 e2 e3 e4 la lb lg lh h1 h3 hr
  go_enter Tryz.func25, Tryz.ntmps25
  have c1 : w.cell? ⟨g, 4, none⟩ = some (.slice bg ng cg) := H0.out.cell 4
  go_wp2_with fail
  refine (rhas_no H0.out.rg.rl.1 (by have hl := HL.out; (try simp only [List.length_append, List.length_cons, List.length_nil] at hl ⊢); omega) HX.out.1).mono ?_
  rintro _ w ⟨rfl, rfl⟩
  clear c1
  have c2 : w.cell? ⟨g, 5, none⟩ = some (.slice bh nh ch) := H0.out.cell 5
  go_wp2_with fail
  refine (rhas_no H0.out.rh.rl.1 (by have hl := HL.out; (try simp only [List.length_append, List.length_cons, List.length_nil] at hl ⊢); omega) HX.out.2).mono ?_
  rintro _ w ⟨rfl, rfl⟩
  clear c2
  have d1 : w.cell? ⟨g, 1, none⟩ = some ((I c)) := H0.out.cell 1
  have d2 : w.cell? ⟨g, 2, none⟩ = some (.slice ba na ca) := H0.out.cell 2
  have d3 : w.cell? ⟨g, 3, none⟩ = some (.slice bb nb cb) := H0.out.cell 3
  have d4 : w.cell? ⟨g, 4, none⟩ = some (.slice bg ng cg) := H0.out.cell 4
  have d5 : w.cell? ⟨g, 5, none⟩ = some (.slice bh nh ch) := H0.out.cell 5
  go_wp2_with fail
  go_quiet (fail)
  have HQ1 : Hid (Rc w0 (w.drewN nq) g m kd c F ⟨.slice ba na ca, .slice bb nb cb, .slice bg ng cg, .slice bh nh ch, vo⟩ ⟨A, B, G, (l ++ [z]), N, n, p, O⟩) := H0.out.below (Go.Proofs.YtjcbpejplnaakaaGreat.Nm.below_drewN _ nq)
  generalize w.drewN nq = wq1 at *
  clear d1 d2 d3 d4 d5 H0
  have d1 : wq1.cell? ⟨g, 1, none⟩ = some ((I c)) := HQ1.out.cell 1
  have d2 : wq1.cell? ⟨g, 2, none⟩ = some (.slice ba na ca) := HQ1.out.cell 2
  have d3 : wq1.cell? ⟨g, 3, none⟩ = some (.slice bb nb cb) := HQ1.out.cell 3
  have d4 : wq1.cell? ⟨g, 4, none⟩ = some (.slice bg ng cg) := HQ1.out.cell 4
  have d5 : wq1.cell? ⟨g, 5, none⟩ = some (.slice bh nh ch) := HQ1.out.cell 5
  go_wp2_with fail
  go_quiet (fail)
  have HQ2 : Hid (Rc w0 (wq1.drewN nq) g m kd c F ⟨.slice ba na ca, .slice bb nb cb, .slice bg ng cg, .slice bh nh ch, vo⟩ ⟨A, B, G, (l ++ [z]), N, n, p, O⟩) := HQ1.out.below (Go.Proofs.YtjcbpejplnaakaaGreat.Nm.below_drewN _ nq)
  generalize wq1.drewN nq = wq2 at *
  clear d1 d2 d3 d4 d5 HQ1
  have d1 : wq2.cell? ⟨g, 1, none⟩ = some ((I c)) := HQ2.out.cell 1
  have d2 : wq2.cell? ⟨g, 2, none⟩ = some (.slice ba na ca) := HQ2.out.cell 2
  have d3 : wq2.cell? ⟨g, 3, none⟩ = some (.slice bb nb cb) := HQ2.out.cell 3
  have d4 : wq2.cell? ⟨g, 4, none⟩ = some (.slice bg ng cg) := HQ2.out.cell 4
  have d5 : wq2.cell? ⟨g, 5, none⟩ = some (.slice bh nh ch) := HQ2.out.cell 5
  go_upto_region 19 with fail
  clear d1 d2 d3 d4 d5 wt1 wt2 wt3 wt4 wt5 qt4 ql qt3 lc
  have c3 : wq2.cell? ⟨g, 5, none⟩ = some (.slice bh nh ch) := HQ2.out.cell 5
  go_wp2_with fail
  refine (last_any (l := l) (x := z) HQ2.out.rh.1 (by have hl := HL.out; (try simp only [List.length_append, List.length_cons, List.length_nil] at hl ⊢); omega)).mono ?_
  rintro _ w3 ⟨u, rfl, ho3, hb3⟩
  obtain ⟨b3, n3, k3, rfl⟩ := own_any ho3
  clear c3
  have h3 := HQ2.out.below hb3
  have e3 : w3.cell? ⟨g, 5, none⟩ = some (.slice bh nh ch) := h3.cell 5
  have f3 : w3.frozen? ⟨g, 5, none⟩ = false := h3.nf 5
  have H3 : Hid (Rc w0 (w3.setCell ⟨g, 5, none⟩ (.slice b3 n3 k3)) g m kd c F ⟨.slice ba na ca, .slice bb nb cb, .slice bg ng cg, .slice b3 n3 k3, vo⟩ ⟨A, B, G, l, N, n, p, O⟩) := HQ2.out.setH hb3 ho3
  clear h3 hb3 ho3 HQ2
  go_upto_region 21 with fail
  generalize w3.setCell ⟨g, 5, none⟩ (.slice b3 n3 k3) = v3 at *
  clear e3 f3
  go_wp2_with fail
  refine (rp_any (bb := false) (y := y) H3.out (by have hl := HL.out; (try simp only [List.length_append, List.length_cons, List.length_nil] at hl ⊢); omega) HB.out HRP.out).mono ?_
  rintro _ w4 ⟨rfl, ⟨p4, q4, r4, t4, u4⟩, h4⟩
  have H4 : Hid (Rc w0 w4 g m kd c F ⟨p4, q4, r4, t4, u4⟩ ⟨j1, j2, j3, j4, N, n, p, (O ++ [y])⟩) := h4
  clear h4 H3
  have c6 : w4.cell? ⟨g, 2, none⟩ = some p4 := H4.out.cell 2
  go_wp2_with fail
  refine (ahead_any (x := x) H4.out.ra.rl (by have hl := HL.out; have hr := Rep.lens HRP.out; (try simp only [List.length_append, List.length_cons, List.length_nil] at hr); (try simp only [List.length_append, List.length_cons, List.length_nil] at hl ⊢); omega)).mono ?_
  rintro _ w6 ⟨u, rfl, ho6, hb6⟩
  obtain ⟨b6, n6, k6, rfl⟩ := own_any ho6
  clear c6
  have h6 := H4.out.below hb6
  have e6 : w6.cell? ⟨g, 2, none⟩ = some p4 := h6.cell 2
  have f6 : w6.frozen? ⟨g, 2, none⟩ = false := h6.nf 2
  have H6 : Hid (Rc w0 (w6.setCell ⟨g, 2, none⟩ (.slice b6 n6 k6)) g m kd c F ⟨.slice b6 n6 k6, q4, r4, t4, u4⟩ ⟨(x :: j1), j2, j3, j4, N, n, p, (O ++ [y])⟩) := H4.out.setA hb6 ho6
  clear h6 hb6 ho6 H4
  go_wp2
  go_end0
  exact ⟨rfl, _, H6.out⟩
set_option maxHeartbeats 3200000 in
set_option maxRecDepth 100000 in
theorem arc_e (h : Rc w0 w g m kd c F V ⟨A, B, G, H, N, n, p, O⟩) (hl : A.length + B.length + G.length + H.length + O.length ≤ 90000000) (hz : c ≤ 1048576) (hxg : x ∉ G) (hx : x ∉ H) (h1 : A.length + G.length ≠ c) (h2 : c ≤ A.length + G.length + B.length + H.length) (h3 : A.length + G.length + B.length + H.length ≠ 2 * c) (hr : Rep p false A B G H y j1 j2 j3 j4) : Calls Tryz.prog 25 #[.pointer (some ⟨g, 0, none⟩), U x] w fun e w' => e = .returned (.tuple #[]) ∧ ∃ V', Rc w0 w' g m kd c F V' ⟨(x :: j1), j2, j3, j4, N, n, p, (O ++ [y])⟩ := by
  obtain ⟨ba, na, ca, bb, nb, cb, bg, ng, cg, bh, nh, ch, vo, rfl, i1, i2, i3, i4⟩ := h.forms2
  have H0 : Hid (Rc w0 w g m kd c F ⟨.slice ba na ca, .slice bb nb cb, .slice bg ng cg, .slice bh nh ch, vo⟩ ⟨A, B, G, H, N, n, p, O⟩) := h
  have HL : Hid (A.length + B.length + G.length + H.length + O.length ≤ 90000000) := hl
  have e1 : na = A.length := i1
  have e2 : nb = B.length := i2
  have e3 : ng = G.length := i3
  have e4 : nh = H.length := i4
  clear i1 i2 i3 i4
  have HX : Hid (x ∉ G ∧ x ∉ H) := ⟨hxg, hx⟩
  have HZ : Hid (c ≤ 1048576) := hz
  have HB : Hid (decide (x ∈ H) = false) := decide_eq_false hx
  have HRP : Hid (Rep p false A B G H y j1 j2 j3 j4) := hr
  have la : (na : Int) ≤ 90000000 := by have := HL.out; omega
  have lb : (nb : Int) ≤ 90000000 := by have := HL.out; omega
  have lg : (ng : Int) ≤ 90000000 := by have := HL.out; omega
  have lh : (nh : Int) ≤ 90000000 := by have := HL.out; omega
  have lc : (c : Int) ≤ 1048576 := by have := HZ.out; omega
  obtain ⟨t1, ht1⟩ : ∃ t : Nat, t = na + nb := ⟨_, rfl⟩
  have wt1 : IntKind.i64.wrap ((na : Int) + (nb : Int)) = (t1 : Int) := by rw [IntKind.wrap_i64]; omega
  obtain ⟨t2, ht2⟩ : ∃ t : Nat, t = t1 + ng := ⟨_, rfl⟩
  have wt2 : IntKind.i64.wrap ((t1 : Int) + (ng : Int)) = (t2 : Int) := by rw [IntKind.wrap_i64]; omega
  obtain ⟨t3, ht3⟩ : ∃ t : Nat, t = t2 + nh := ⟨_, rfl⟩
  have wt3 : IntKind.i64.wrap ((t2 : Int) + (nh : Int)) = (t3 : Int) := by rw [IntKind.wrap_i64]; omega
  obtain ⟨t4, ht4⟩ : ∃ t : Nat, t = na + ng := ⟨_, rfl⟩
  have wt4 : IntKind.i64.wrap ((na : Int) + (ng : Int)) = (t4 : Int) := by rw [IntKind.wrap_i64]; omega
  obtain ⟨t5, ht5⟩ : ∃ t : Nat, t = 2 * c := ⟨_, rfl⟩
  have wt5 : IntKind.i64.wrap (2 * (c : Int)) = (t5 : Int) := by rw [IntKind.wrap_i64]; omega
  have qt4 : ((t4 : Int) == (c : Int)) = false := by rw [beq_eq_false_iff_ne]; omega
  have ql : (c : Int) ≤ (t3 : Int) := by omega
  have qt3 : ((t3 : Int) == (t5 : Int)) = false := by rw [beq_eq_false_iff_ne]; omega
  clear h hl hz hxg hx ht1 ht2 ht3 ht4 ht5 e1 e2 e3 e4 la lb lg lh h1 h2 h3 hr
  go_enter Tryz.func25, Tryz.ntmps25
  have c1 : w.cell? ⟨g, 4, none⟩ = some (.slice bg ng cg) := H0.out.cell 4
  go_wp2_with fail
  refine (rhas_no H0.out.rg.rl.1 (by have hl := HL.out; (try simp only [List.length_append, List.length_cons, List.length_nil] at hl ⊢); omega) HX.out.1).mono ?_
  rintro _ w ⟨rfl, rfl⟩
  clear c1
  have c2 : w.cell? ⟨g, 5, none⟩ = some (.slice bh nh ch) := H0.out.cell 5
  go_wp2_with fail
  refine (rhas_no H0.out.rh.rl.1 (by have hl := HL.out; (try simp only [List.length_append, List.length_cons, List.length_nil] at hl ⊢); omega) HX.out.2).mono ?_
  rintro _ w ⟨rfl, rfl⟩
  clear c2
  have d1 : w.cell? ⟨g, 1, none⟩ = some ((I c)) := H0.out.cell 1
  have d2 : w.cell? ⟨g, 2, none⟩ = some (.slice ba na ca) := H0.out.cell 2
  have d3 : w.cell? ⟨g, 3, none⟩ = some (.slice bb nb cb) := H0.out.cell 3
  have d4 : w.cell? ⟨g, 4, none⟩ = some (.slice bg ng cg) := H0.out.cell 4
  have d5 : w.cell? ⟨g, 5, none⟩ = some (.slice bh nh ch) := H0.out.cell 5
  go_wp2_with fail
  go_quiet (fail)
  have HQ1 : Hid (Rc w0 (w.drewN nq) g m kd c F ⟨.slice ba na ca, .slice bb nb cb, .slice bg ng cg, .slice bh nh ch, vo⟩ ⟨A, B, G, H, N, n, p, O⟩) := H0.out.below (Go.Proofs.YtjcbpejplnaakaaGreat.Nm.below_drewN _ nq)
  generalize w.drewN nq = wq1 at *
  clear d1 d2 d3 d4 d5 H0
  have d1 : wq1.cell? ⟨g, 1, none⟩ = some ((I c)) := HQ1.out.cell 1
  have d2 : wq1.cell? ⟨g, 2, none⟩ = some (.slice ba na ca) := HQ1.out.cell 2
  have d3 : wq1.cell? ⟨g, 3, none⟩ = some (.slice bb nb cb) := HQ1.out.cell 3
  have d4 : wq1.cell? ⟨g, 4, none⟩ = some (.slice bg ng cg) := HQ1.out.cell 4
  have d5 : wq1.cell? ⟨g, 5, none⟩ = some (.slice bh nh ch) := HQ1.out.cell 5
  go_wp2_with fail
  go_quiet (fail)
  have HQ2 : Hid (Rc w0 (wq1.drewN nq) g m kd c F ⟨.slice ba na ca, .slice bb nb cb, .slice bg ng cg, .slice bh nh ch, vo⟩ ⟨A, B, G, H, N, n, p, O⟩) := HQ1.out.below (Go.Proofs.YtjcbpejplnaakaaGreat.Nm.below_drewN _ nq)
  generalize wq1.drewN nq = wq2 at *
  clear d1 d2 d3 d4 d5 HQ1
  have d1 : wq2.cell? ⟨g, 1, none⟩ = some ((I c)) := HQ2.out.cell 1
  have d2 : wq2.cell? ⟨g, 2, none⟩ = some (.slice ba na ca) := HQ2.out.cell 2
  have d3 : wq2.cell? ⟨g, 3, none⟩ = some (.slice bb nb cb) := HQ2.out.cell 3
  have d4 : wq2.cell? ⟨g, 4, none⟩ = some (.slice bg ng cg) := HQ2.out.cell 4
  have d5 : wq2.cell? ⟨g, 5, none⟩ = some (.slice bh nh ch) := HQ2.out.cell 5
  go_upto_region 21 with fail
  clear d1 d2 d3 d4 d5 wt1 wt2 wt3 wt4 wt5 qt4 ql qt3 lc
  go_wp2_with fail
  refine (rp_any (bb := false) (y := y) HQ2.out (by have hl := HL.out; (try simp only [List.length_append, List.length_cons, List.length_nil] at hl ⊢); omega) HB.out HRP.out).mono ?_
  rintro _ w3 ⟨rfl, ⟨p3, q3, r3, t3, u3⟩, h3⟩
  have H3 : Hid (Rc w0 w3 g m kd c F ⟨p3, q3, r3, t3, u3⟩ ⟨j1, j2, j3, j4, N, n, p, (O ++ [y])⟩) := h3
  clear h3 HQ2
  have c5 : w3.cell? ⟨g, 2, none⟩ = some p3 := H3.out.cell 2
  go_wp2_with fail
  refine (ahead_any (x := x) H3.out.ra.rl (by have hl := HL.out; have hr := Rep.lens HRP.out; (try simp only [List.length_append, List.length_cons, List.length_nil] at hr); (try simp only [List.length_append, List.length_cons, List.length_nil] at hl ⊢); omega)).mono ?_
  rintro _ w5 ⟨u, rfl, ho5, hb5⟩
  obtain ⟨b5, n5, k5, rfl⟩ := own_any ho5
  clear c5
  have h5 := H3.out.below hb5
  have e5 : w5.cell? ⟨g, 2, none⟩ = some p3 := h5.cell 2
  have f5 : w5.frozen? ⟨g, 2, none⟩ = false := h5.nf 2
  have H5 : Hid (Rc w0 (w5.setCell ⟨g, 2, none⟩ (.slice b5 n5 k5)) g m kd c F ⟨.slice b5 n5 k5, q3, r3, t3, u3⟩ ⟨(x :: j1), j2, j3, j4, N, n, p, (O ++ [y])⟩) := H3.out.setA hb5 ho5
  clear h5 hb5 ho5 H3
  go_wp2
  go_end0
  exact ⟨rfl, _, H5.out⟩
end
end Go.Proofs.YtjcbpejplnaakaaGreat.Mr
