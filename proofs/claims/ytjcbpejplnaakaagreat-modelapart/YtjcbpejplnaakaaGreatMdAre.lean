import Derived.Test.YtjcbpejplnaakaaGreatMdArd
namespace Go.Proofs.YtjcbpejplnaakaaGreat.Md
open Go.RowKit Go.Maps Go.Proofs.YtjcbpejplnaakaaGreat.Nm

section
variable {w w' w1 w2 w0 : World} {g o : Nat} {F F' F1 G : List Nat} {k size p p' : Nat} {ks ks' l k1 k2 k3 k4 j1 j2 j3 j4 m1 m2 m3 m4 out : List Nat} {v : Value}
theorem aq_nil (h : Q4 w w2 g F size p j1 j2 j3 j4) : ∃ F', Aq w w2 g F F' size p j1 j2 j3 j4 (.slice none 0 0) [] := by
  obtain ⟨F5, hR5, hF5⟩ := h.rebase (Below.refl _ _)
  exact ⟨F5, hR5, h.fr_, fun y hy => (hF5 y hy).2, fun y hy => (hF5 y hy).1, Or.inl ⟨rfl, rfl⟩⟩
theorem aq_one (h : Q4 w w2 g F size p j1 j2 j3 j4) (x : Nat) : ∃ F', Aq w (w2.alloc (.cells #[U x] 33)) g F F' size p j1 j2 j3 j4 (.slice (some ⟨w2.heap.size, 0, none⟩) 1 1) [x] := by
  have hb : Below w2.heap.size w2 (w2.alloc (.cells #[U x] 33)) := (Below.refl _ w2).alloc (Nat.le_refl _) _
  obtain ⟨F5, hR5, hF5⟩ := h.rebase hb
  have z := hb.size
  have z1 := h.fr_.size
  refine ⟨F5, hR5, (h.below hb).fr_, fun y hy => (hF5 y hy).2, fun y hy => Nat.lt_of_lt_of_le (hF5 y hy).1 z, Or.inr ⟨x, _, _, rfl, rfl, ?_, z1, by simp, fun e => ?_⟩⟩
  · exact ⟨#[U x], heap_alloc_new _ _, rfl, rfl, Nat.le_refl _, by unfold maxLen; omega⟩
  · have := (hF5 _ e).1
    omega
theorem Aq.go_ (h : Aq w w1 g F F1 size p j1 j2 j3 j4 v out) (h2 : Q4 w1 w2 g F1 size p' m1 m2 m3 m4) : ∃ F', Aq w w2 g F F' size p' m1 m2 m3 m4 v out := by
  obtain ⟨a1, a2, a3, a4, a5⟩ := h
  obtain ⟨F5, hR5, hF5⟩ := h2.rebase (Below.refl _ _)
  have z1 := a2.size
  have z2 := h2.fr_.size
  refine ⟨F5, hR5, a2.trans h2.fr_ a3, fun y hy => ?_, fun y hy => (hF5 y hy).1, ?_⟩
  · rcases (hF5 y hy).2 with e | e
    · exact a3 y e
    · right; omega
  · rcases a5 with e | ⟨x, b, c, e1, e2, e3, e4, e5, e6⟩
    · exact Or.inl e
    · refine Or.inr ⟨x, b, c, e1, e2, e3.same (h2.fr_.block b e5 e6), e4, by omega, fun e => ?_⟩
      rcases (hF5 b e).2 with q | q
      · exact e6 q
      · omega
/-- what makeRoom does -/
inductive Mkr (size p : Nat) (k1 k2 k3 k4 : List Nat) : List Nat → List Nat → List Nat → List Nat → List Nat → Prop
  | a (x : Nat) (j1 : List Nat) : k1.length = size → k1 = j1 ++ [x] → Mkr size p k1 k2 k3 k4 [x] j1 k2 k3 k4
  | b (x y : Nat) (c j1 j2 j3 j4 : List Nat) : k1.length ≠ size → k1.length + k3.length = size → k3 = c ++ [y] → Rep p false k1 k2 c k4 x j1 j2 j3 j4 → Mkr size p k1 k2 k3 k4 [x] j1 j2 j3 j4
  | c : k1.length + k3.length ≠ size → k1.length + k3.length + k2.length + k4.length < size → Mkr size p k1 k2 k3 k4 [] k1 k2 k3 k4
  | d (x y : Nat) (c j1 j2 j3 j4 : List Nat) : k1.length + k3.length ≠ size → size ≤ k1.length + k3.length + k2.length + k4.length → k1.length + k3.length + k2.length + k4.length = 2 * size → k4 = c ++ [y] → Rep p false k1 k2 k3 c x j1 j2 j3 j4 → Mkr size p k1 k2 k3 k4 [x] j1 j2 j3 j4
  | e (x : Nat) (j1 j2 j3 j4 : List Nat) : k1.length + k3.length ≠ size → size ≤ k1.length + k3.length + k2.length + k4.length → k1.length + k3.length + k2.length + k4.length ≠ 2 * size → Rep p false k1 k2 k3 k4 x j1 j2 j3 j4 → Mkr size p k1 k2 k3 k4 [x] j1 j2 j3 j4
set_option maxHeartbeats 1600000 in
set_option maxRecDepth 100000 in
theorem mkr_a (h : Q4 w w g F size p k1 k2 k3 k4) (hk1 : k1 = l ++ [k]) (hz : size ≤ 1048576) (hl2 : k2.length ≤ 1048576) (hl3 : k3.length ≤ 2097152) (hl4 : k4.length ≤ 2097152) (hcs : k1.length = size) : Calls Tryz.prog 120 #[.pointer (some ⟨g, 0, none⟩)] w fun e w' => ∃ v F' , e = .returned v ∧ Aq w w' g F F' size p l k2 k3 k4 v [k] := by
  have H : Hid (Q4 w w g F size p k1 k2 k3 k4) := h
  have HE : Hid (k1 = l ++ [k]) := hk1
  clear hk1
  have HC1 : Hid (∀ u, Below w.heap.size w u → Calls Tryz.prog 63 #[.pointer (some ⟨g, 2, none⟩)] u fun e w' => e = .returned (I (k1.length : Nat)) ∧ w' = u) := fun u hu => (h.below hu).cn1
  have HC2 : Hid (∀ u, Below w.heap.size w u → Calls Tryz.prog 63 #[.pointer (some ⟨g, 5, none⟩)] u fun e w' => e = .returned (I (k2.length : Nat)) ∧ w' = u) := fun u hu => (h.below hu).cn2
  have HC3 : Hid (∀ u, Below w.heap.size w u → Calls Tryz.prog 63 #[.pointer (some ⟨g, 8, none⟩)] u fun e w' => e = .returned (I (k3.length : Nat)) ∧ w' = u) := fun u hu => (h.below hu).cn3
  have HC4 : Hid (∀ u, Below w.heap.size w u → Calls Tryz.prog 63 #[.pointer (some ⟨g, 11, none⟩)] u fun e w' => e = .returned (I (k4.length : Nat)) ∧ w' = u) := fun u hu => (h.below hu).cn4
  have HS : Hid (∀ u, Below w.heap.size w u → u.cell? ⟨g, 0, none⟩ = some (I size)) := fun u hu => (h.below hu).sz
  generalize k1.length = n1 at HC1 hcs
  generalize k2.length = n2 at HC2 hl2 hcs
  generalize k3.length = n3 at HC3 hl3 hcs
  generalize k4.length = n4 at HC4 hl4 hcs
  have hw1 : IntKind.i64.wrap ((n1 : Int) + (n3 : Int)) = ((n1 + n3 : Nat) : Int) := by rw [IntKind.wrap_i64]; omega
  have hw2 : IntKind.i64.wrap (((n1 + n3 : Nat) : Int) + (n2 : Int)) = ((n1 + n3 + n2 : Nat) : Int) := by rw [IntKind.wrap_i64]; omega
  have hw3 : IntKind.i64.wrap (((n1 + n3 + n2 : Nat) : Int) + (n4 : Int)) = ((n1 + n3 + n2 + n4 : Nat) : Int) := by rw [IntKind.wrap_i64]; omega
  have hw4 : IntKind.i64.wrap (2 * (size : Int)) = ((2 * size : Nat) : Int) := by rw [IntKind.wrap_i64]; omega
  generalize n1 + n3 + n2 + n4 = al at *
  generalize n1 + n3 + n2 = f2 at *
  generalize n1 + n3 = f1 at *
  generalize 2 * size = z2 at *
  have ha : ((n1 : Int) == (size : Int)) = true := by rw [beq_iff_eq]; omega
  clear h hz hl2 hl3 hl4 hcs
  go_enter Tryz.func120, Tryz.ntmps120
  go_wp2_with fail
  go_quiet (first | (go_at_call_of 63 (Value.pointer (some ⟨g, 2, none⟩)); exact Calls.quiet_of_same (HC1.out _ (Go.Proofs.YtjcbpejplnaakaaGreat.Nm.below_drewN _ _))) | (go_at_call_of 63 (Value.pointer (some ⟨g, 8, none⟩)); exact Calls.quiet_of_same (HC3.out _ (Go.Proofs.YtjcbpejplnaakaaGreat.Nm.below_drewN _ _))))
  have HB1 : Hid (Below w.heap.size w (w.drewN nq)) := Go.Proofs.YtjcbpejplnaakaaGreat.Nm.below_drewN _ nq
  generalize w.drewN nq = u1 at *
  go_wp2_with fail
  go_quiet (first | (go_at_call_of 63 (Value.pointer (some ⟨g, 5, none⟩)); exact Calls.quiet_of_same (HC2.out _ (HB1.out.trans ((Go.Proofs.YtjcbpejplnaakaaGreat.Nm.below_drewN _ _).mono HB1.out.size)))) | (go_at_call_of 63 (Value.pointer (some ⟨g, 11, none⟩)); exact Calls.quiet_of_same (HC4.out _ (HB1.out.trans ((Go.Proofs.YtjcbpejplnaakaaGreat.Nm.below_drewN _ _).mono HB1.out.size)))))
  have HB2 : Hid (Below w.heap.size w (u1.drewN nq)) := HB1.out.trans ((Go.Proofs.YtjcbpejplnaakaaGreat.Nm.below_drewN _ nq).mono HB1.out.size)
  generalize u1.drewN nq = u2 at *
  have hs2 := HS.out _ HB2.out
  go_wp2_with fail
  go_quiet ((go_at_call_of 63 (Value.pointer (some ⟨g, 2, none⟩)); exact Calls.quiet_of_same (HC1.out _ (HB2.out.trans ((Go.Proofs.YtjcbpejplnaakaaGreat.Nm.below_drewN _ _).mono HB2.out.size)))))
  have HB3 : Hid (Below w.heap.size w (u2.drewN nq)) := HB2.out.trans ((Go.Proofs.YtjcbpejplnaakaaGreat.Nm.below_drewN _ nq).mono HB2.out.size)
  generalize u2.drewN nq = u3 at *
  have hs3 := HS.out _ HB3.out
  have H0 : Hid (Q4 w u3 g F size p k1 k2 k3 k4) := H.out.below HB3.out
  clear hs2 HC1 HC2 HC3 HC4
  go_wp2_with fail
  obtain ⟨Fi, r, f⟩ := H0.out.r1
  rw [HE.out] at r
  refine r.pop.mono ?_
  rintro _ w2 ⟨rfl, h2⟩
  have H2 : Hid (Q4 w w2 g F size p l k2 k3 k4) := f w2 _ h2
  clear h2 f r H0 hs3
  go_wp2
  go_ret
  obtain ⟨F', q⟩ := aq_one H2.out k
  exact ⟨_, F', rfl, q⟩
set_option maxHeartbeats 1600000 in
set_option maxRecDepth 100000 in
theorem mkr_c (h : Q4 w w g F size p k1 k2 k3 k4) (hn1 : k1.length < size) (hz : size ≤ 1048576) (hl1 : k1.length ≤ 1048576) (hl2 : k2.length ≤ 1048576) (hl3 : k3.length ≤ 2097152) (hl4 : k4.length ≤ 2097152) (hcs : k1.length + k3.length < size ∧ k1.length + k3.length + k2.length + k4.length < size) : Calls Tryz.prog 120 #[.pointer (some ⟨g, 0, none⟩)] w fun e w' => ∃ v F' , e = .returned v ∧ Aq w w' g F F' size p k1 k2 k3 k4 v [] := by
  have H : Hid (Q4 w w g F size p k1 k2 k3 k4) := h
  have HC1 : Hid (∀ u, Below w.heap.size w u → Calls Tryz.prog 63 #[.pointer (some ⟨g, 2, none⟩)] u fun e w' => e = .returned (I (k1.length : Nat)) ∧ w' = u) := fun u hu => (h.below hu).cn1
  have HC2 : Hid (∀ u, Below w.heap.size w u → Calls Tryz.prog 63 #[.pointer (some ⟨g, 5, none⟩)] u fun e w' => e = .returned (I (k2.length : Nat)) ∧ w' = u) := fun u hu => (h.below hu).cn2
  have HC3 : Hid (∀ u, Below w.heap.size w u → Calls Tryz.prog 63 #[.pointer (some ⟨g, 8, none⟩)] u fun e w' => e = .returned (I (k3.length : Nat)) ∧ w' = u) := fun u hu => (h.below hu).cn3
  have HC4 : Hid (∀ u, Below w.heap.size w u → Calls Tryz.prog 63 #[.pointer (some ⟨g, 11, none⟩)] u fun e w' => e = .returned (I (k4.length : Nat)) ∧ w' = u) := fun u hu => (h.below hu).cn4
  have HS : Hid (∀ u, Below w.heap.size w u → u.cell? ⟨g, 0, none⟩ = some (I size)) := fun u hu => (h.below hu).sz
  generalize k1.length = n1 at HC1 hl1 hcs hn1
  generalize k2.length = n2 at HC2 hl2 hcs
  generalize k3.length = n3 at HC3 hl3 hcs
  generalize k4.length = n4 at HC4 hl4 hcs
  have hw1 : IntKind.i64.wrap ((n1 : Int) + (n3 : Int)) = ((n1 + n3 : Nat) : Int) := by rw [IntKind.wrap_i64]; omega
  have hw2 : IntKind.i64.wrap (((n1 + n3 : Nat) : Int) + (n2 : Int)) = ((n1 + n3 + n2 : Nat) : Int) := by rw [IntKind.wrap_i64]; omega
  have hw3 : IntKind.i64.wrap (((n1 + n3 + n2 : Nat) : Int) + (n4 : Int)) = ((n1 + n3 + n2 + n4 : Nat) : Int) := by rw [IntKind.wrap_i64]; omega
  have hw4 : IntKind.i64.wrap (2 * (size : Int)) = ((2 * size : Nat) : Int) := by rw [IntKind.wrap_i64]; omega
  generalize n1 + n3 + n2 + n4 = al at *
  generalize n1 + n3 + n2 = f2 at *
  generalize n1 + n3 = f1 at *
  generalize 2 * size = z2 at *
  have ha : ((n1 : Int) == (size : Int)) = false := by have := hcs.1; have := hn1; rw [beq_eq_false_iff_ne]; omega
  have hb : ((f1 : Int) == (size : Int)) = false := by rw [beq_eq_false_iff_ne]; omega
  have hc : al < size := by omega
  clear h hz hl1 hl2 hl3 hl4 hcs hn1
  go_enter Tryz.func120, Tryz.ntmps120
  go_wp2_with fail
  go_quiet (first | (go_at_call_of 63 (Value.pointer (some ⟨g, 2, none⟩)); exact Calls.quiet_of_same (HC1.out _ (Go.Proofs.YtjcbpejplnaakaaGreat.Nm.below_drewN _ _))) | (go_at_call_of 63 (Value.pointer (some ⟨g, 8, none⟩)); exact Calls.quiet_of_same (HC3.out _ (Go.Proofs.YtjcbpejplnaakaaGreat.Nm.below_drewN _ _))))
  have HB1 : Hid (Below w.heap.size w (w.drewN nq)) := Go.Proofs.YtjcbpejplnaakaaGreat.Nm.below_drewN _ nq
  generalize w.drewN nq = u1 at *
  go_wp2_with fail
  go_quiet (first | (go_at_call_of 63 (Value.pointer (some ⟨g, 5, none⟩)); exact Calls.quiet_of_same (HC2.out _ (HB1.out.trans ((Go.Proofs.YtjcbpejplnaakaaGreat.Nm.below_drewN _ _).mono HB1.out.size)))) | (go_at_call_of 63 (Value.pointer (some ⟨g, 11, none⟩)); exact Calls.quiet_of_same (HC4.out _ (HB1.out.trans ((Go.Proofs.YtjcbpejplnaakaaGreat.Nm.below_drewN _ _).mono HB1.out.size)))))
  have HB2 : Hid (Below w.heap.size w (u1.drewN nq)) := HB1.out.trans ((Go.Proofs.YtjcbpejplnaakaaGreat.Nm.below_drewN _ nq).mono HB1.out.size)
  generalize u1.drewN nq = u2 at *
  have hs2 := HS.out _ HB2.out
  go_wp2_with fail
  go_quiet ((go_at_call_of 63 (Value.pointer (some ⟨g, 2, none⟩)); exact Calls.quiet_of_same (HC1.out _ (HB2.out.trans ((Go.Proofs.YtjcbpejplnaakaaGreat.Nm.below_drewN _ _).mono HB2.out.size)))))
  have HB3 : Hid (Below w.heap.size w (u2.drewN nq)) := HB2.out.trans ((Go.Proofs.YtjcbpejplnaakaaGreat.Nm.below_drewN _ nq).mono HB2.out.size)
  generalize u2.drewN nq = u3 at *
  have hs3 := HS.out _ HB3.out
  have H0 : Hid (Q4 w u3 g F size p k1 k2 k3 k4) := H.out.below HB3.out
  clear hs2 HC1 HC2 HC3 HC4
  go_wp2
  go_ret
  obtain ⟨F', q⟩ := aq_nil H0.out
  exact ⟨_, F', rfl, q⟩
set_option maxHeartbeats 1600000 in
set_option maxRecDepth 100000 in
theorem mkr_b (h : Q4 w w g F size p k1 k2 k3 k4) (hn1 : k1.length < size) (hkc : k3 = l ++ [k]) (hrl : ¬ RepC p k1.length false → k2 ≠ []) (h13 : ∀ x ∈ k1, x ∉ l) (h24 : ∀ x ∈ k2, x ∉ k4) (hz : size ≤ 1048576) (hl1 : k1.length ≤ 1048576) (hl2 : k2.length ≤ 1048576) (hl3 : k3.length ≤ 2097152) (hl4 : k4.length ≤ 2097152) (hcs : k1.length + k3.length = size) : Calls Tryz.prog 120 #[.pointer (some ⟨g, 0, none⟩)] w fun e w' => ∃ v F' x j1 j2 j3 j4, e = .returned v ∧ Rep p false k1 k2 l k4 x j1 j2 j3 j4 ∧ Aq w w' g F F' size p j1 j2 j3 j4 v [x] := by
  have H : Hid (Q4 w w g F size p k1 k2 k3 k4) := h
  have HN : Hid (¬ RepC p k1.length false → k2 ≠ []) := hrl
  have HL : Hid ((∀ x ∈ k1, x ∉ l) ∧ (∀ x ∈ k2, x ∉ k4) ∧ k1.length ≤ 1000000000 ∧ l.length ≤ 1000000000 ∧ k4.length ≤ 1000000000) := ⟨h13, h24, by omega, by rw [hkc] at hl3; simp at hl3; omega, by omega⟩
  clear hrl h13 h24
  have HE : Hid (k3 = l ++ [k]) := hkc
  clear hkc
  have HC1 : Hid (∀ u, Below w.heap.size w u → Calls Tryz.prog 63 #[.pointer (some ⟨g, 2, none⟩)] u fun e w' => e = .returned (I (k1.length : Nat)) ∧ w' = u) := fun u hu => (h.below hu).cn1
  have HC2 : Hid (∀ u, Below w.heap.size w u → Calls Tryz.prog 63 #[.pointer (some ⟨g, 5, none⟩)] u fun e w' => e = .returned (I (k2.length : Nat)) ∧ w' = u) := fun u hu => (h.below hu).cn2
  have HC3 : Hid (∀ u, Below w.heap.size w u → Calls Tryz.prog 63 #[.pointer (some ⟨g, 8, none⟩)] u fun e w' => e = .returned (I (k3.length : Nat)) ∧ w' = u) := fun u hu => (h.below hu).cn3
  have HC4 : Hid (∀ u, Below w.heap.size w u → Calls Tryz.prog 63 #[.pointer (some ⟨g, 11, none⟩)] u fun e w' => e = .returned (I (k4.length : Nat)) ∧ w' = u) := fun u hu => (h.below hu).cn4
  have HS : Hid (∀ u, Below w.heap.size w u → u.cell? ⟨g, 0, none⟩ = some (I size)) := fun u hu => (h.below hu).sz
  generalize k1.length = n1 at HC1 hl1 hcs hn1
  generalize k2.length = n2 at HC2 hl2 hcs
  generalize k3.length = n3 at HC3 hl3 hcs
  generalize k4.length = n4 at HC4 hl4 hcs
  have hw1 : IntKind.i64.wrap ((n1 : Int) + (n3 : Int)) = ((n1 + n3 : Nat) : Int) := by rw [IntKind.wrap_i64]; omega
  have hw2 : IntKind.i64.wrap (((n1 + n3 : Nat) : Int) + (n2 : Int)) = ((n1 + n3 + n2 : Nat) : Int) := by rw [IntKind.wrap_i64]; omega
  have hw3 : IntKind.i64.wrap (((n1 + n3 + n2 : Nat) : Int) + (n4 : Int)) = ((n1 + n3 + n2 + n4 : Nat) : Int) := by rw [IntKind.wrap_i64]; omega
  have hw4 : IntKind.i64.wrap (2 * (size : Int)) = ((2 * size : Nat) : Int) := by rw [IntKind.wrap_i64]; omega
  generalize n1 + n3 + n2 + n4 = al at *
  generalize n1 + n3 + n2 = f2 at *
  generalize n1 + n3 = f1 at *
  generalize 2 * size = z2 at *
  have ha : ((n1 : Int) == (size : Int)) = false := by rw [beq_eq_false_iff_ne]; omega
  have hb : ((f1 : Int) == (size : Int)) = true := by rw [beq_iff_eq]; omega
  clear h hz hl1 hl2 hl3 hl4 hcs hn1
  go_enter Tryz.func120, Tryz.ntmps120
  go_wp2_with fail
  go_quiet (first | (go_at_call_of 63 (Value.pointer (some ⟨g, 2, none⟩)); exact Calls.quiet_of_same (HC1.out _ (Go.Proofs.YtjcbpejplnaakaaGreat.Nm.below_drewN _ _))) | (go_at_call_of 63 (Value.pointer (some ⟨g, 8, none⟩)); exact Calls.quiet_of_same (HC3.out _ (Go.Proofs.YtjcbpejplnaakaaGreat.Nm.below_drewN _ _))))
  have HB1 : Hid (Below w.heap.size w (w.drewN nq)) := Go.Proofs.YtjcbpejplnaakaaGreat.Nm.below_drewN _ nq
  generalize w.drewN nq = u1 at *
  go_wp2_with fail
  go_quiet (first | (go_at_call_of 63 (Value.pointer (some ⟨g, 5, none⟩)); exact Calls.quiet_of_same (HC2.out _ (HB1.out.trans ((Go.Proofs.YtjcbpejplnaakaaGreat.Nm.below_drewN _ _).mono HB1.out.size)))) | (go_at_call_of 63 (Value.pointer (some ⟨g, 11, none⟩)); exact Calls.quiet_of_same (HC4.out _ (HB1.out.trans ((Go.Proofs.YtjcbpejplnaakaaGreat.Nm.below_drewN _ _).mono HB1.out.size)))))
  have HB2 : Hid (Below w.heap.size w (u1.drewN nq)) := HB1.out.trans ((Go.Proofs.YtjcbpejplnaakaaGreat.Nm.below_drewN _ nq).mono HB1.out.size)
  generalize u1.drewN nq = u2 at *
  have hs2 := HS.out _ HB2.out
  go_wp2_with fail
  go_quiet ((go_at_call_of 63 (Value.pointer (some ⟨g, 2, none⟩)); exact Calls.quiet_of_same (HC1.out _ (HB2.out.trans ((Go.Proofs.YtjcbpejplnaakaaGreat.Nm.below_drewN _ _).mono HB2.out.size)))))
  have HB3 : Hid (Below w.heap.size w (u2.drewN nq)) := HB2.out.trans ((Go.Proofs.YtjcbpejplnaakaaGreat.Nm.below_drewN _ nq).mono HB2.out.size)
  generalize u2.drewN nq = u3 at *
  have hs3 := HS.out _ HB3.out
  have H0 : Hid (Q4 w u3 g F size p k1 k2 k3 k4) := H.out.below HB3.out
  clear hs2 HC1 HC2 HC3 HC4
  go_wp2_with fail
  obtain ⟨Fi, r, f⟩ := H0.out.r3
  rw [HE.out] at r
  refine r.pop.mono ?_
  rintro _ w2 ⟨rfl, h2⟩
  have H2 : Hid (Q4 w w2 g F size p k1 k2 l k4) := f w2 _ h2
  clear h2 f r H0 hs3
  go_wp2_with fail
  refine (rep_any (bb := false) H2.out HN.out HL.out.1 HL.out.2.1 HL.out.2.2.1 HL.out.2.2.2.1 HL.out.2.2.2.2).mono ?_
  rintro _ w3 ⟨x, j1, j2, j3, j4, rfl, h3, hrep⟩
  have H3 : Hid (Q4 w w3 g F size p j1 j2 j3 j4 ∧ Rep p false k1 k2 l k4 x j1 j2 j3 j4) := ⟨h3, hrep⟩
  clear h3 hrep
  go_wp2
  go_ret
  obtain ⟨F', q⟩ := aq_one H3.out.1 x
  exact ⟨_, F', x, j1, j2, j3, j4, rfl, H3.out.2, q⟩
set_option maxHeartbeats 1600000 in
set_option maxRecDepth 100000 in
theorem mkr_d (h : Q4 w w g F size p k1 k2 k3 k4) (hn1 : k1.length < size) (hkc : k4 = l ++ [k]) (hrl : ¬ RepC p k1.length false → k2 ≠ []) (h13 : ∀ x ∈ k1, x ∉ k3) (h24 : ∀ x ∈ k2, x ∉ l) (hl1 : k1.length ≤ 1048576) (hl2 : k2.length ≤ 1048576) (hl3 : k3.length ≤ 2097152) (hl4 : k4.length ≤ 2097152) (hcs : k1.length + k3.length ≠ size ∧ size ≤ k1.length + k3.length + k2.length + k4.length ∧ k1.length + k3.length + k2.length + k4.length = 2 * size) : Calls Tryz.prog 120 #[.pointer (some ⟨g, 0, none⟩)] w fun e w' => ∃ v F' x j1 j2 j3 j4, e = .returned v ∧ Rep p false k1 k2 k3 l x j1 j2 j3 j4 ∧ Aq w w' g F F' size p j1 j2 j3 j4 v [x] := by
  have H : Hid (Q4 w w g F size p k1 k2 k3 k4) := h
  have HN : Hid (¬ RepC p k1.length false → k2 ≠ []) := hrl
  have HL : Hid ((∀ x ∈ k1, x ∉ k3) ∧ (∀ x ∈ k2, x ∉ l) ∧ k1.length ≤ 1000000000 ∧ k3.length ≤ 1000000000 ∧ l.length ≤ 1000000000) := ⟨h13, h24, by omega, by omega, by rw [hkc] at hl4; simp at hl4; omega⟩
  clear hrl h13 h24
  have HE : Hid (k4 = l ++ [k]) := hkc
  clear hkc
  have HC1 : Hid (∀ u, Below w.heap.size w u → Calls Tryz.prog 63 #[.pointer (some ⟨g, 2, none⟩)] u fun e w' => e = .returned (I (k1.length : Nat)) ∧ w' = u) := fun u hu => (h.below hu).cn1
  have HC2 : Hid (∀ u, Below w.heap.size w u → Calls Tryz.prog 63 #[.pointer (some ⟨g, 5, none⟩)] u fun e w' => e = .returned (I (k2.length : Nat)) ∧ w' = u) := fun u hu => (h.below hu).cn2
  have HC3 : Hid (∀ u, Below w.heap.size w u → Calls Tryz.prog 63 #[.pointer (some ⟨g, 8, none⟩)] u fun e w' => e = .returned (I (k3.length : Nat)) ∧ w' = u) := fun u hu => (h.below hu).cn3
  have HC4 : Hid (∀ u, Below w.heap.size w u → Calls Tryz.prog 63 #[.pointer (some ⟨g, 11, none⟩)] u fun e w' => e = .returned (I (k4.length : Nat)) ∧ w' = u) := fun u hu => (h.below hu).cn4
  have HS : Hid (∀ u, Below w.heap.size w u → u.cell? ⟨g, 0, none⟩ = some (I size)) := fun u hu => (h.below hu).sz
  generalize k1.length = n1 at HC1 hl1 hcs hn1
  generalize k2.length = n2 at HC2 hl2 hcs
  generalize k3.length = n3 at HC3 hl3 hcs
  generalize k4.length = n4 at HC4 hl4 hcs
  have hw1 : IntKind.i64.wrap ((n1 : Int) + (n3 : Int)) = ((n1 + n3 : Nat) : Int) := by rw [IntKind.wrap_i64]; omega
  have hw2 : IntKind.i64.wrap (((n1 + n3 : Nat) : Int) + (n2 : Int)) = ((n1 + n3 + n2 : Nat) : Int) := by rw [IntKind.wrap_i64]; omega
  have hw3 : IntKind.i64.wrap (((n1 + n3 + n2 : Nat) : Int) + (n4 : Int)) = ((n1 + n3 + n2 + n4 : Nat) : Int) := by rw [IntKind.wrap_i64]; omega
  have hw4 : IntKind.i64.wrap (2 * (size : Int)) = ((2 * size : Nat) : Int) := by rw [IntKind.wrap_i64]; omega
  generalize n1 + n3 + n2 + n4 = al at *
  generalize n1 + n3 + n2 = f2 at *
  generalize n1 + n3 = f1 at *
  generalize 2 * size = z2 at *
  have ha : ((n1 : Int) == (size : Int)) = false := by rw [beq_eq_false_iff_ne]; omega
  have hb : ((f1 : Int) == (size : Int)) = false := by rw [beq_eq_false_iff_ne]; omega
  have hc : ¬ al < size := by omega
  have hd : ((al : Int) == (z2 : Int)) = true := by rw [beq_iff_eq]; omega
  clear h hl1 hl2 hl3 hl4 hcs hn1
  go_enter Tryz.func120, Tryz.ntmps120
  go_wp2_with fail
  go_quiet (first | (go_at_call_of 63 (Value.pointer (some ⟨g, 2, none⟩)); exact Calls.quiet_of_same (HC1.out _ (Go.Proofs.YtjcbpejplnaakaaGreat.Nm.below_drewN _ _))) | (go_at_call_of 63 (Value.pointer (some ⟨g, 8, none⟩)); exact Calls.quiet_of_same (HC3.out _ (Go.Proofs.YtjcbpejplnaakaaGreat.Nm.below_drewN _ _))))
  have HB1 : Hid (Below w.heap.size w (w.drewN nq)) := Go.Proofs.YtjcbpejplnaakaaGreat.Nm.below_drewN _ nq
  generalize w.drewN nq = u1 at *
  go_wp2_with fail
  go_quiet (first | (go_at_call_of 63 (Value.pointer (some ⟨g, 5, none⟩)); exact Calls.quiet_of_same (HC2.out _ (HB1.out.trans ((Go.Proofs.YtjcbpejplnaakaaGreat.Nm.below_drewN _ _).mono HB1.out.size)))) | (go_at_call_of 63 (Value.pointer (some ⟨g, 11, none⟩)); exact Calls.quiet_of_same (HC4.out _ (HB1.out.trans ((Go.Proofs.YtjcbpejplnaakaaGreat.Nm.below_drewN _ _).mono HB1.out.size)))))
  have HB2 : Hid (Below w.heap.size w (u1.drewN nq)) := HB1.out.trans ((Go.Proofs.YtjcbpejplnaakaaGreat.Nm.below_drewN _ nq).mono HB1.out.size)
  generalize u1.drewN nq = u2 at *
  have hs2 := HS.out _ HB2.out
  go_wp2_with fail
  go_quiet ((go_at_call_of 63 (Value.pointer (some ⟨g, 2, none⟩)); exact Calls.quiet_of_same (HC1.out _ (HB2.out.trans ((Go.Proofs.YtjcbpejplnaakaaGreat.Nm.below_drewN _ _).mono HB2.out.size)))))
  have HB3 : Hid (Below w.heap.size w (u2.drewN nq)) := HB2.out.trans ((Go.Proofs.YtjcbpejplnaakaaGreat.Nm.below_drewN _ nq).mono HB2.out.size)
  generalize u2.drewN nq = u3 at *
  have hs3 := HS.out _ HB3.out
  have H0 : Hid (Q4 w u3 g F size p k1 k2 k3 k4) := H.out.below HB3.out
  clear hs2 HC1 HC2 HC3 HC4
  go_wp2_with fail
  obtain ⟨Fi, r, f⟩ := H0.out.r4
  rw [HE.out] at r
  refine r.pop.mono ?_
  rintro _ w2 ⟨rfl, h2⟩
  have H2 : Hid (Q4 w w2 g F size p k1 k2 k3 l) := f w2 _ h2
  clear h2 f r H0 hs3
  go_wp2_with fail
  refine (rep_any (bb := false) H2.out HN.out HL.out.1 HL.out.2.1 HL.out.2.2.1 HL.out.2.2.2.1 HL.out.2.2.2.2).mono ?_
  rintro _ w3 ⟨x, j1, j2, j3, j4, rfl, h3, hrep⟩
  have H3 : Hid (Q4 w w3 g F size p j1 j2 j3 j4 ∧ Rep p false k1 k2 k3 l x j1 j2 j3 j4) := ⟨h3, hrep⟩
  clear h3 hrep
  go_wp2
  go_ret
  obtain ⟨F', q⟩ := aq_one H3.out.1 x
  exact ⟨_, F', x, j1, j2, j3, j4, rfl, H3.out.2, q⟩
set_option maxHeartbeats 1600000 in
set_option maxRecDepth 100000 in
theorem mkr_e (h : Q4 w w g F size p k1 k2 k3 k4) (hn1 : k1.length < size) (hrl : ¬ RepC p k1.length false → k2 ≠ []) (h13 : ∀ x ∈ k1, x ∉ k3) (h24 : ∀ x ∈ k2, x ∉ k4) (hz : size ≤ 1048576) (hl1 : k1.length ≤ 1048576) (hl2 : k2.length ≤ 1048576) (hl3 : k3.length ≤ 2097152) (hl4 : k4.length ≤ 2097152) (hcs : k1.length + k3.length ≠ size ∧ size ≤ k1.length + k3.length + k2.length + k4.length ∧ k1.length + k3.length + k2.length + k4.length ≠ 2 * size) : Calls Tryz.prog 120 #[.pointer (some ⟨g, 0, none⟩)] w fun e w' => ∃ v F' x j1 j2 j3 j4, e = .returned v ∧ Rep p false k1 k2 k3 k4 x j1 j2 j3 j4 ∧ Aq w w' g F F' size p j1 j2 j3 j4 v [x] := by
  have H : Hid (Q4 w w g F size p k1 k2 k3 k4) := h
  have HN : Hid (¬ RepC p k1.length false → k2 ≠ []) := hrl
  have HL : Hid ((∀ x ∈ k1, x ∉ k3) ∧ (∀ x ∈ k2, x ∉ k4) ∧ k1.length ≤ 1000000000 ∧ k3.length ≤ 1000000000 ∧ k4.length ≤ 1000000000) := ⟨h13, h24, by omega, by omega, by omega⟩
  clear hrl h13 h24
  have HC1 : Hid (∀ u, Below w.heap.size w u → Calls Tryz.prog 63 #[.pointer (some ⟨g, 2, none⟩)] u fun e w' => e = .returned (I (k1.length : Nat)) ∧ w' = u) := fun u hu => (h.below hu).cn1
  have HC2 : Hid (∀ u, Below w.heap.size w u → Calls Tryz.prog 63 #[.pointer (some ⟨g, 5, none⟩)] u fun e w' => e = .returned (I (k2.length : Nat)) ∧ w' = u) := fun u hu => (h.below hu).cn2
  have HC3 : Hid (∀ u, Below w.heap.size w u → Calls Tryz.prog 63 #[.pointer (some ⟨g, 8, none⟩)] u fun e w' => e = .returned (I (k3.length : Nat)) ∧ w' = u) := fun u hu => (h.below hu).cn3
  have HC4 : Hid (∀ u, Below w.heap.size w u → Calls Tryz.prog 63 #[.pointer (some ⟨g, 11, none⟩)] u fun e w' => e = .returned (I (k4.length : Nat)) ∧ w' = u) := fun u hu => (h.below hu).cn4
  have HS : Hid (∀ u, Below w.heap.size w u → u.cell? ⟨g, 0, none⟩ = some (I size)) := fun u hu => (h.below hu).sz
  generalize k1.length = n1 at HC1 hl1 hcs hn1
  generalize k2.length = n2 at HC2 hl2 hcs
  generalize k3.length = n3 at HC3 hl3 hcs
  generalize k4.length = n4 at HC4 hl4 hcs
  have hw1 : IntKind.i64.wrap ((n1 : Int) + (n3 : Int)) = ((n1 + n3 : Nat) : Int) := by rw [IntKind.wrap_i64]; omega
  have hw2 : IntKind.i64.wrap (((n1 + n3 : Nat) : Int) + (n2 : Int)) = ((n1 + n3 + n2 : Nat) : Int) := by rw [IntKind.wrap_i64]; omega
  have hw3 : IntKind.i64.wrap (((n1 + n3 + n2 : Nat) : Int) + (n4 : Int)) = ((n1 + n3 + n2 + n4 : Nat) : Int) := by rw [IntKind.wrap_i64]; omega
  have hw4 : IntKind.i64.wrap (2 * (size : Int)) = ((2 * size : Nat) : Int) := by rw [IntKind.wrap_i64]; omega
  generalize n1 + n3 + n2 + n4 = al at *
  generalize n1 + n3 + n2 = f2 at *
  generalize n1 + n3 = f1 at *
  generalize 2 * size = z2 at *
  have ha : ((n1 : Int) == (size : Int)) = false := by rw [beq_eq_false_iff_ne]; omega
  have hb : ((f1 : Int) == (size : Int)) = false := by rw [beq_eq_false_iff_ne]; omega
  have hc : ¬ al < size := by omega
  have hd : ((al : Int) == (z2 : Int)) = false := by rw [beq_eq_false_iff_ne]; omega
  clear h hz hl1 hl2 hl3 hl4 hcs hn1
  go_enter Tryz.func120, Tryz.ntmps120
  go_wp2_with fail
  go_quiet (first | (go_at_call_of 63 (Value.pointer (some ⟨g, 2, none⟩)); exact Calls.quiet_of_same (HC1.out _ (Go.Proofs.YtjcbpejplnaakaaGreat.Nm.below_drewN _ _))) | (go_at_call_of 63 (Value.pointer (some ⟨g, 8, none⟩)); exact Calls.quiet_of_same (HC3.out _ (Go.Proofs.YtjcbpejplnaakaaGreat.Nm.below_drewN _ _))))
  have HB1 : Hid (Below w.heap.size w (w.drewN nq)) := Go.Proofs.YtjcbpejplnaakaaGreat.Nm.below_drewN _ nq
  generalize w.drewN nq = u1 at *
  go_wp2_with fail
  go_quiet (first | (go_at_call_of 63 (Value.pointer (some ⟨g, 5, none⟩)); exact Calls.quiet_of_same (HC2.out _ (HB1.out.trans ((Go.Proofs.YtjcbpejplnaakaaGreat.Nm.below_drewN _ _).mono HB1.out.size)))) | (go_at_call_of 63 (Value.pointer (some ⟨g, 11, none⟩)); exact Calls.quiet_of_same (HC4.out _ (HB1.out.trans ((Go.Proofs.YtjcbpejplnaakaaGreat.Nm.below_drewN _ _).mono HB1.out.size)))))
  have HB2 : Hid (Below w.heap.size w (u1.drewN nq)) := HB1.out.trans ((Go.Proofs.YtjcbpejplnaakaaGreat.Nm.below_drewN _ nq).mono HB1.out.size)
  generalize u1.drewN nq = u2 at *
  have hs2 := HS.out _ HB2.out
  go_wp2_with fail
  go_quiet ((go_at_call_of 63 (Value.pointer (some ⟨g, 2, none⟩)); exact Calls.quiet_of_same (HC1.out _ (HB2.out.trans ((Go.Proofs.YtjcbpejplnaakaaGreat.Nm.below_drewN _ _).mono HB2.out.size)))))
  have HB3 : Hid (Below w.heap.size w (u2.drewN nq)) := HB2.out.trans ((Go.Proofs.YtjcbpejplnaakaaGreat.Nm.below_drewN _ nq).mono HB2.out.size)
  generalize u2.drewN nq = u3 at *
  have hs3 := HS.out _ HB3.out
  have H0 : Hid (Q4 w u3 g F size p k1 k2 k3 k4) := H.out.below HB3.out
  clear hs2 HC1 HC2 HC3 HC4
  go_wp2_with fail
  refine (rep_any (bb := false) H0.out HN.out HL.out.1 HL.out.2.1 HL.out.2.2.1 HL.out.2.2.2.1 HL.out.2.2.2.2).mono ?_
  rintro _ w3 ⟨x, j1, j2, j3, j4, rfl, h3, hrep⟩
  have H3 : Hid (Q4 w w3 g F size p j1 j2 j3 j4 ∧ Rep p false k1 k2 k3 k4 x j1 j2 j3 j4) := ⟨h3, hrep⟩
  clear h3 hrep
  go_wp2
  go_ret
  obtain ⟨F', q⟩ := aq_one H3.out.1 x
  exact ⟨_, F', x, j1, j2, j3, j4, rfl, H3.out.2, q⟩
end
end Go.Proofs.YtjcbpejplnaakaaGreat.Md
