import Derived.Test.YtjcbpejplnaakaaGreatMdMul
import Derived.Test.YtjcbpejplnaakaaGreatMdHead
namespace Go.Proofs.YtjcbpejplnaakaaGreat.Md
open Go.RowKit Go.Maps Go.Proofs.YtjcbpejplnaakaaGreat.Nm

/-- rows of one block at work since w0 -/
structure Qs (w0 w : World) (g : Nat) (F : List Nat) (rs : List (Nat × List Nat × List Nat)) : Prop where
  rows : Rows w g rs
  fr : Fr F w0 w
  inF : ∀ r ∈ rs, ∀ x ∈ r.2.1, x ∈ F ∨ w0.heap.size ≤ x
section
variable {w w' w2 w0 : World} {g o : Nat} {F F' G : List Nat} {k size : Nat} {ks ks' l k1 k2 k3 : List Nat}
theorem Qs.step {a b : List (Nat × List Nat × List Nat)} {Fi : List Nat} (h : Qs w0 w g F (a ++ (o, Fi, ks) :: b)) (hr : Rw w w' g o Fi ks') : ∃ F', Qs w0 w' g F (a ++ (o, F', ks') :: b) ∧ ∀ j, j < o → w'.cell? ⟨g, j, none⟩ = w.cell? ⟨g, j, none⟩ := by
  obtain ⟨F', q1, q2, q3, q4⟩ := h.rows.step hr
  have hs := h.fr.size
  refine ⟨F', ⟨q1, h.fr.trans q2 (h.inF (o, Fi, ks) (by simp)), fun r hr' x hx => ?_⟩, q4⟩
  rcases List.mem_append.1 hr' with e | e
  · exact h.inF r (by simp [e]) x hx
  · rcases List.mem_cons.1 e with rfl | e
    · rcases q3 x hx with e | e
      · exact h.inF (o, Fi, ks) (by simp) x e
      · exact Or.inr (by omega)
    · exact h.inF r (by simp [e]) x hx
theorem Qs.below {rs : List (Nat × List Nat × List Nat)} (h : Qs w0 w g F rs) (hb : Below w.heap.size w w') : Qs w0 w' g F rs := ⟨h.rows.below hb, h.fr.trans (F' := []) (Fr.of_below hb) (by simp), h.inF⟩
theorem Qs.rebase {rs : List (Nat × List Nat × List Nat)} (h : Qs w0 w g F rs) (hb : Below w.heap.size w w2) : ∃ F', Qs w2 w2 g F' rs ∧ ∀ x ∈ F', x < w.heap.size ∧ (x ∈ F ∨ w0.heap.size ≤ x) := by
  refine ⟨rs.flatMap (·.2.1), ⟨h.rows.below hb, Fr.refl _ _, fun r hr x hx => Or.inl (List.mem_flatMap.2 ⟨r, hr, hx⟩)⟩, fun x hx => ?_⟩
  obtain ⟨r, hr, hx⟩ := List.mem_flatMap.1 hx
  exact ⟨h.rows.lt r hr x hx, h.inF r hr x hx⟩
theorem Qs.comp {rs rs' : List (Nat × List Nat × List Nat)} (h : Qs w0 w g F rs) (h2 : Qs w w' g F' rs') (hF : ∀ x ∈ F', x ∈ F ∨ w0.heap.size ≤ x) : Qs w0 w' g F rs' := by
  refine ⟨h2.rows, h.fr.trans h2.fr hF, fun r hr x hx => ?_⟩
  rcases h2.inF r hr x hx with e | e
  · exact hF x e
  · exact Or.inr (Nat.le_trans h.fr.size e)
/-- a block of three rows -/
def Q3 (w0 w : World) (g : Nat) (F : List Nat) (size : Nat) (k1 k2 k3 : List Nat) : Prop := ∃ F1 F2 F3, Qs w0 w g F [(1, F1, k1), (4, F2, k2), (7, F3, k3)] ∧ w.cell? ⟨g, 0, none⟩ = some (I size)
theorem Q3.r1 (h : Q3 w0 w g F size k1 k2 k3) : ∃ F1, Rw w w g 1 F1 k1 ∧ ∀ w' ks', Rw w w' g 1 F1 ks' → Q3 w0 w' g F size ks' k2 k3 := by
  obtain ⟨F1, F2, F3, hq, hs⟩ := h
  refine ⟨F1, hq.rows.row (1, F1, k1) (by simp), fun w' ks' hr => ?_⟩
  obtain ⟨F', q1, q2⟩ := hq.step (a := []) hr
  exact ⟨F', F2, F3, q1, (q2 0 (by omega)).trans hs⟩
theorem Q3.r2 (h : Q3 w0 w g F size k1 k2 k3) : ∃ F2, Rw w w g 4 F2 k2 ∧ ∀ w' ks', Rw w w' g 4 F2 ks' → Q3 w0 w' g F size k1 ks' k3 := by
  obtain ⟨F1, F2, F3, hq, hs⟩ := h
  refine ⟨F2, hq.rows.row (4, F2, k2) (by simp), fun w' ks' hr => ?_⟩
  obtain ⟨F', q1, q2⟩ := hq.step (a := [(1, F1, k1)]) hr
  exact ⟨F1, F', F3, q1, (q2 0 (by omega)).trans hs⟩
theorem Q3.r3 (h : Q3 w0 w g F size k1 k2 k3) : ∃ F3, Rw w w g 7 F3 k3 ∧ ∀ w' ks', Rw w w' g 7 F3 ks' → Q3 w0 w' g F size k1 k2 ks' := by
  obtain ⟨F1, F2, F3, hq, hs⟩ := h
  refine ⟨F3, hq.rows.row (7, F3, k3) (by simp), fun w' ks' hr => ?_⟩
  obtain ⟨F', q1, q2⟩ := hq.step (a := [(1, F1, k1), (4, F2, k2)]) hr
  exact ⟨F1, F2, F', q1, (q2 0 (by omega)).trans hs⟩
theorem Qs.gB {rs : List (Nat × List Nat × List Nat)} {r : Nat × List Nat × List Nat} (h : Qs w0 w g F rs) (hr : r ∈ rs) : g < w.heap.size := by
  obtain ⟨L, c, m, ns, fr, h1, _⟩ := h.rows.row r hr
  exact h1.mem.lt g (by simp [foot])
theorem Q3.below (h : Q3 w0 w g F size k1 k2 k3) (hb : Below w.heap.size w w') : Q3 w0 w' g F size k1 k2 k3 := by
  obtain ⟨F1, F2, F3, hq, hs⟩ := h
  exact ⟨F1, F2, F3, hq.below hb, (cell_blk (hb.block g (hq.gB (r := (1, F1, k1)) (by simp))) 0).trans hs⟩
theorem Q3.rebase (h : Q3 w0 w g F size k1 k2 k3) (hb : Below w.heap.size w w2) : ∃ F', Q3 w2 w2 g F' size k1 k2 k3 ∧ ∀ x ∈ F', x < w.heap.size ∧ (x ∈ F ∨ w0.heap.size ≤ x) := by
  obtain ⟨F1, F2, F3, hq, hs⟩ := h
  obtain ⟨F', q1, q2⟩ := hq.rebase hb
  exact ⟨F', ⟨F1, F2, F3, q1, (cell_blk (hb.block g (hq.gB (r := (1, F1, k1)) (by simp))) 0).trans hs⟩, q2⟩
theorem Q3.comp {k1' k2' k3' : List Nat} (h : Q3 w0 w g F size k1 k2 k3) (h2 : Q3 w w' g F' size k1' k2' k3') (hF : ∀ x ∈ F', x ∈ F ∨ w0.heap.size ≤ x) : Q3 w0 w' g F size k1' k2' k3' := by
  obtain ⟨F1, F2, F3, hq, hs⟩ := h
  obtain ⟨G1, G2, G3, hq2, hs2⟩ := h2
  exact ⟨G1, G2, G3, hq.comp hq2 hF, hs2⟩
theorem Q3.fr_ (h : Q3 w0 w g F size k1 k2 k3) : Fr F w0 w := by
  obtain ⟨F1, F2, F3, hq, _⟩ := h
  exact hq.fr
/-- how many keys out has at most -/
def oMost (size : Nat) : Nat := max 1 (size / 2)
def trim (size : Nat) (o : List Nat) : List Nat := if o.length > oMost size then o.dropLast else o
set_option maxRecDepth 100000 in
theorem outMost_nat (w : World) (n : Nat) (h : 1 ≤ n) (h2 : n ≤ 1048576) : Calls Tryz.prog 93 #[I n] w fun e w' => e = .returned (I (oMost n : Nat)) ∧ w' = w := by
  have h' : (1 : Int) ≤ (n : Int) := by omega
  have h2' : (n : Int) ≤ 1048576 := by omega
  go_enter Tryz.func93, Tryz.ntmps93
  go_wp2
  · go_ret
    rename_i h3
    refine ⟨?_, rfl⟩
    have e : ((oMost n : Nat) : Int) = (n : Int) / 2 := by unfold oMost; omega
    rw [e]
    rfl
  · go_ret
    rename_i h3
    refine ⟨?_, rfl⟩
    have e : ((oMost n : Nat) : Int) = 1 := by unfold oMost; omega
    rw [e]
    rfl
set_option maxHeartbeats 1600000 in
set_option maxRecDepth 100000 in
/-- reclaim: a newcomer goes -/
theorem recl_fresh {a m o : List Nat} {x : Nat} (h : Q3 w0 w g F size (a ++ [x]) m o) (hz : 1 ≤ size ∧ size ≤ 1048576) (hbig : max 1 (size / 4) < (a ++ [x]).length) (hx : x ∉ o) (hx2 : x < 18446744073709551616) (hl : o.length ≤ 1000000) : Calls Tryz.prog 92 #[.pointer (some ⟨g, 0, none⟩)] w fun e w' => e = .returned (U x) ∧ Q3 w0 w' g F size a m (trim size (x :: o)) := by
  have H : Hid (Q3 w0 w g F size (a ++ [x]) m o ∧ (1 ≤ size ∧ size ≤ 1048576) ∧ x ∉ o ∧ x < 18446744073709551616 ∧ o.length ≤ 1000000) := ⟨h, hz, hx, hx2, hl⟩
  have hz1 : (1 : Int) ≤ (size : Int) := by omega
  have hz2 : (size : Int) ≤ 1048576 := by omega
  have hb1 : (size : Int) / 4 < ((a ++ [x]).length : Int) := by omega
  have hb2 : (1 : Int) < ((a ++ [x]).length : Int) := by omega
  have hdec : decide (((a ++ [x]).length : Int) ≤ if 1 < (size : Int) / 4 then (size : Int) / 4 else 1) = false := by
    rw [decide_eq_false_iff_not]
    split <;> omega
  have hs : w.cell? ⟨g, 0, none⟩ = some (I size) := by obtain ⟨_, _, _, _, q⟩ := h; exact q
  generalize hax : a ++ [x] = ax at *
  have HAX : Hid (a ++ [x] = ax) := hax
  clear h hz hx hx2 hl hbig hax
  go_enter Tryz.func92, Tryz.ntmps92
  go_wp2_with fail
  go_quiet ((go_at_call 63; obtain ⟨_, q, _⟩ := (H.out.1.below (Go.Proofs.YtjcbpejplnaakaaGreat.Nm.below_drewN _ _)).r1; exact Calls.quiet_of_same q.count))
  have H1 : Hid (Q3 w0 (w.drewN nq) g F size ax m o) := H.out.1.below (Go.Proofs.YtjcbpejplnaakaaGreat.Nm.below_drewN _ nq)
  generalize w.drewN nq = w1 at *
  generalize (if 1 < (size : Int) / 4 then (size : Int) / 4 else 1) = mx at *
  go_wp2_with fail
  obtain ⟨F1, r1, f1⟩ := H1.out.r1
  rw [← HAX.out] at r1
  refine r1.pop.mono ?_
  rintro _ w2 ⟨rfl, h2⟩
  have H2 : Hid (Q3 w0 w2 g F size a m o) := f1 w2 a h2
  clear h2 f1 r1 H1
  go_wp2_with fail
  obtain ⟨F3, r3, f3⟩ := H2.out.r3
  refine (r3.push H.out.2.2.1 H.out.2.2.2.1 (by have := H.out.2.2.2.2; omega)).mono ?_
  rintro _ w3 ⟨rfl, h3⟩
  have H3 : Hid (Q3 w0 w3 g F size a m (x :: o)) := f3 w3 _ h3
  clear h3 f3 r3 H2
  have hs3 : w3.cell? ⟨g, 0, none⟩ = some (I size) := by obtain ⟨_, _, _, _, q⟩ := H3.out; exact q
  have HM : Hid (∀ u : World, Calls Tryz.prog 93 #[I size] u fun e w' => e = .returned (I (oMost size : Nat)) ∧ w' = u) := fun u => outMost_nat u size H.out.2.1.1 H.out.2.1.2
  go_wp2_with fail
  go_quiet (first | (go_at_call 63; obtain ⟨_, q, _⟩ := (H3.out.below (Go.Proofs.YtjcbpejplnaakaaGreat.Nm.below_drewN _ _)).r3; exact Calls.quiet_of_same q.count) | (go_at_call 93; exact Calls.quiet_of_same (HM.out _)))
  have H4 : Hid (Q3 w0 (w3.drewN nq) g F size a m (x :: o)) := H3.out.below (Go.Proofs.YtjcbpejplnaakaaGreat.Nm.below_drewN _ nq)
  generalize w3.drewN nq = w4 at *
  clear hs3 H3
  by_cases hgt : (x :: o).length > oMost size
  · have hgt' : ((oMost size : Nat) : Int) < (o.length : Int) + 1 := by simp at hgt; omega
    have HET : Hid (trim size (x :: o) = (x :: o).dropLast) := if_pos hgt
    obtain ⟨F3, r3, f3⟩ := H4.out.r3
    obtain ⟨l9, y9, e9⟩ : ∃ l y, x :: o = l ++ [y] := ⟨(x :: o).dropLast, (x :: o).getLast (by simp), (List.dropLast_concat_getLast _).symm⟩
    have HE : Hid (x :: o = l9 ++ [y9]) := e9
    clear hgt e9
    go_wp2_with fail
    rw [HE.out] at r3
    refine r3.pop.mono ?_
    rintro _ w5 ⟨rfl, h5⟩
    have H5 : Hid (Q3 w0 w5 g F size a m l9) := f3 w5 _ h5
    clear h5 f3 r3 H4
    go_wp2
    go_ret
    refine ⟨rfl, ?_⟩
    rw [HET.out, HE.out, List.dropLast_concat]
    exact H5.out
  · have hgt' : ¬ (((oMost size : Nat) : Int) < (o.length : Int) + 1) := by simp at hgt; omega
    have HET : Hid (trim size (x :: o) = x :: o) := if_neg hgt
    clear hgt
    go_wp2
    go_ret
    refine ⟨rfl, ?_⟩
    rw [HET.out]
    exact H4.out
end
end Go.Proofs.YtjcbpejplnaakaaGreat.Md
