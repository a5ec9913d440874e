import Derived.Test.YtjcbpejplnaakaaGreatMdKk
namespace Go.Proofs.YtjcbpejplnaakaaGreat.Md
open Go.RowKit Go.Maps Go.Proofs.YtjcbpejplnaakaaGreat.Nm

/-- a 2Q's rows -/
structure Twk (size : Nat) (a m o : List Nat) : Prop where
  nd : ∀ x, ct x a + ct x m + ct x o ≤ 1
  held : a.length + m.length ≤ size
  out : o.length ≤ oMost size
/-- what an Access of a 2Q leaves -/
def Tq (w w' : World) (g : Nat) (F F' : List Nat) (size : Nat) (a m o : List Nat) (v : Value) (out : List Nat) : Prop := Q3 w' w' g F' size a m o ∧ Fr F w w' ∧ (∀ y ∈ F', y ∈ F ∨ w.heap.size ≤ y) ∧ (∀ y ∈ F', y < w'.heap.size) ∧ Tld w w' F' v out
section
variable {w w' w0 : World} {g size k x : Nat} {F a m o l : List Nat}
theorem trim_ct (z : Nat) : ct z (trim size (k :: o)) ≤ ct z (k :: o) := by
  unfold trim
  split
  · have h : k :: o ≠ [] := by simp
    have e := List.dropLast_concat_getLast h
    have : ct z (k :: o) = ct z ((k :: o).dropLast) + ct z [(k :: o).getLast h] := by rw [← ct_app, e]
    omega
  · exact Nat.le_refl _
theorem trim_len (h : o.length ≤ oMost size) : (trim size (k :: o)).length ≤ oMost size := by
  unfold trim
  split
  · simp; omega
  · omega
theorem er_le {l : List Nat} (z : Nat) : ct z (l.erase k) ≤ ct z l := by rw [ct_erase]; omega
theorem oMost_le (h : size ≤ 1048576) : oMost size ≤ 524288 := by unfold oMost; omega
/-- reclaim, fresh or main -/
def Rcl (size : Nat) (a m o : List Nat) (x : Nat) (a' m' o' : List Nat) : Prop := (max 1 (size / 4) < a.length ∧ a = a' ++ [x] ∧ m' = m ∧ o' = trim size (x :: o)) ∨ (a.length ≤ max 1 (size / 4) ∧ a' = a ∧ m = m' ++ [x] ∧ o' = o)
theorem recl_any (ok : Twk size a m o) (hz : 2 ≤ size ∧ size ≤ 1048576) (hf : a.length + m.length = size) (hU : ∀ y ∈ a, y < 18446744073709551616) : ∃ x a' m' o', Rcl size a m o x a' m' o' ∧ ∀ w0 w g F, Q3 w0 w g F size a m o → Calls Tryz.prog 92 #[.pointer (some ⟨g, 0, none⟩)] w fun e w' => e = .returned (U x) ∧ Q3 w0 w' g F size a' m' o' := by
  have hom := oMost_le hz.2
  have hol := ok.out
  by_cases hb : max 1 (size / 4) < a.length
  · obtain ⟨l, x, rfl⟩ := snocN (l := a) (by rintro rfl; simp at hb)
    refine ⟨x, l, m, _, Or.inl ⟨hb, rfl, rfl, rfl⟩, fun w0 w g F h => ?_⟩
    refine recl_fresh h ⟨by omega, hz.2⟩ hb (ct_no ?_) (hU x (by simp)) (by omega)
    have := ok.nd x
    have := ct_pos (show x ∈ l ++ [x] by simp)
    omega
  · obtain ⟨l, x, rfl⟩ := snocN (l := m) (by rintro rfl; simp at hf; omega)
    exact ⟨x, a, l, o, Or.inr ⟨by omega, rfl, rfl, rfl⟩, fun w0 w g F h => recl_main h ⟨by omega, hz.2⟩ (by omega)⟩
theorem Rcl.cts {a' m' o' : List Nat} (h : Rcl size a m o x a' m' o') (ho : o.length ≤ oMost size) : (∀ z, ct z a' + ct z m' + one z x = ct z a + ct z m) ∧ (∀ z, ct z o' ≤ ct z o + one z x) ∧ a'.length + m'.length + 1 = a.length + m.length ∧ o'.length ≤ oMost size := by
  rcases h with ⟨_, rfl, rfl, rfl⟩ | ⟨_, rfl, rfl, rfl⟩
  · refine ⟨fun z => ?_, fun z => ?_, by simp; omega, trim_len ho⟩
    · rw [ct_app, ct_cons, ct_nil]; omega
    · have := trim_ct (size := size) (k := x) (o := o) z
      rw [ct_cons] at this
      exact this
  · refine ⟨fun z => ?_, fun z => by omega, by simp; omega, ho⟩
    rw [ct_app, ct_cons, ct_nil]; omega
theorem tq_nil (h : Q3 w w' g F size a m o) : ∃ F', Tq w w' g F F' size a m o (.slice none 0 0) [] := by
  obtain ⟨F5, hR5, hF5⟩ := h.rebase (Below.refl _ _)
  exact ⟨F5, hR5, h.fr_, fun y hy => (hF5 y hy).2, fun y hy => (hF5 y hy).1, Or.inl ⟨rfl, rfl⟩⟩
/-- 2Q's Access, of any key -/
theorem two_any (h : Q3 w w g F size a m o) (ok : Twk size a m o) (hk2 : k < 18446744073709551616) (hz : 2 ≤ size ∧ size ≤ 1048576) : Calls Tryz.prog 90 #[.pointer (some ⟨g, 0, none⟩), U k] w fun e w' => ∃ v F' out a' m' o', e = .returned (.tuple #[.bool (decide (k ∈ a ++ m)), v]) ∧ Tq w w' g F F' size a' m' o' v out ∧ Twk size a' m' o' ∧ Snd false size k (a ++ m) (a' ++ m') out := by
  obtain ⟨nd, h1, h2⟩ := ok
  have ok : Twk size a m o := ⟨nd, h1, h2⟩
  by_cases e1 : k ∈ a
  · rw [decide_eq_true (show k ∈ a ++ m by simp [e1])]
    refine (two_hitA h e1 hk2).mono ?_
    rintro _ w' ⟨rfl, rfl⟩
    obtain ⟨F', q⟩ := tq_nil h
    exact ⟨_, F', [], a, m, o, rfl, q, ok, fun z => by rw [if_pos (by simp [e1]), ct_nil], fun _ => rfl, by simp [e1], by simp; omega, fun _ _ => rfl⟩
  · by_cases e2 : k ∈ m
    · rw [decide_eq_true (show k ∈ a ++ m by simp [e2])]
      refine (two_hitM h e1 e2 hk2).mono ?_
      rintro _ w' ⟨rfl, q⟩
      obtain ⟨F', q⟩ := tq_nil q
      have hl := List.length_erase_of_mem e2
      have hp := List.length_pos_of_mem e2
      refine ⟨_, F', [], a, k :: m.erase k, o, rfl, q, ⟨fun z => ?_, by simp; omega, h2⟩, fun z => ?_, fun _ => rfl, by simp, by simp; omega, fun _ _ => rfl⟩
      · have := nd z
        have := er_ct e2 z
        rw [ct_cons]
        omega
      · have := er_ct e2 z
        rw [if_pos (by simp [e2]), ct_nil, ct_app, ct_app, ct_cons]
        omega
    · have hw : ¬ k ∈ a ++ m := by simp [e1, e2]
      rw [decide_eq_false hw]
      have c1 := ct_zero e1
      have c2 := ct_zero e2
      by_cases hf : a.length + m.length = size
      · obtain ⟨_, r1, _⟩ := h.r1
        obtain ⟨x, a1, m1, o1, hr, hc⟩ := recl_any ok hz hf r1.ltU
        obtain ⟨s1, s2, s3, s4⟩ := hr.cts h2
        have hxk : one k x = 0 := by have := s1 k; omega
        by_cases e3 : k ∈ o
        · refine (two_outF h e1 e2 e3 hk2 hz.2 hf (fun u hu => hc w u g F hu) (ct_no (by have := s1 k; omega)) (by omega)).mono ?_
          rintro _ w' ⟨v, F', rfl, q⟩
          refine ⟨v, F', [x], a1, k :: m1, o1.erase k, rfl, q, ⟨fun z => ?_, by simp; omega, Nat.le_trans List.length_erase_le s4⟩, fun z => ?_, fun e => absurd e hw, by simp, by simp; omega, fun _ q => by simp at q; omega⟩
          · have := nd z
            have := s1 z
            have := s2 z
            rw [ct_cons, ct_erase]
            by_cases ez : k = z
            · subst ez
              rw [one_same]
              omega
            · rw [one_ne ez]
              omega
          · have := s1 z
            rw [if_neg hw, ct_app, ct_app, ct_cons, ct_cons, ct_nil]
            omega
        · have c3 := ct_zero e3
          refine (two_newF h e1 e2 e3 hk2 hz.2 hf (fun u hu => hc w u g F hu) (ct_no (by have := s1 k; omega)) (by omega)).mono ?_
          rintro _ w' ⟨v, F', rfl, q⟩
          refine ⟨v, F', [x], k :: a1, m1, o1, rfl, q, ⟨fun z => ?_, by simp; omega, s4⟩, fun z => ?_, fun e => absurd e hw, by simp, by simp; omega, fun _ q => by simp at q; omega⟩
          · have := nd z
            have := s1 z
            have := s2 z
            rw [ct_cons]
            by_cases ez : k = z
            · subst ez
              rw [one_same]
              omega
            · rw [one_ne ez]
              omega
          · have := s1 z
            rw [if_neg hw, ct_app, ct_app, ct_cons, ct_cons, ct_nil]
            omega
      · by_cases e3 : k ∈ o
        · refine (two_out h e1 e2 e3 hk2 hz.2 (by omega)).mono ?_
          rintro _ w' ⟨v, F', rfl, q⟩
          refine ⟨v, F', [], a, k :: m, o.erase k, rfl, q, ⟨fun z => ?_, by simp; omega, Nat.le_trans List.length_erase_le h2⟩, fun z => ?_, fun _ => rfl, by simp, by simp; omega, fun _ _ => rfl⟩
          · have := nd z
            have := er_ct e3 z
            rw [ct_cons]
            omega
          · rw [if_neg hw, ct_app, ct_app, ct_cons, ct_nil]
            omega
        · have c3 := ct_zero e3
          refine (two_new h e1 e2 e3 hk2 hz.2 (by omega)).mono ?_
          rintro _ w' ⟨v, F', rfl, q⟩
          refine ⟨v, F', [], k :: a, m, o, rfl, q, ⟨fun z => ?_, by simp; omega, h2⟩, fun z => ?_, fun _ => rfl, by simp, by simp; omega, fun _ _ => rfl⟩
          · have := nd z
            rw [ct_cons]
            by_cases ez : k = z
            · subst ez
              rw [one_same]
              omega
            · rw [one_ne ez]
              omega
          · rw [if_neg hw, ct_app, ct_app, ct_cons, ct_nil]
            omega
end
end Go.Proofs.YtjcbpejplnaakaaGreat.Md
