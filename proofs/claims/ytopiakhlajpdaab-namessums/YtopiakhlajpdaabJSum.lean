import Derived.Test.YtopiakhlajpdaabJNmA
import Derived.Test.YtopiakhlajpdaabJNmD
import Derived.Test.YtopiakhlajpdaabJMean
import Derived.Test.YtopiakhlajpdaabJWrong
import Derived.Deep.Onto
namespace Go.Proofs.Ytopiakhlajpdaab.Gr
open Go.RowKit Go.Proofs.Ytopiakhlajpdaab.Sp Go.Proofs.Ytopiakhlajpdaab.Lx

/-- a rule, a policy stand nowhere within a rule -/
theorem stand_in {d s c k : Int} (h0 : d ≠ 0) (h1 : d ≠ 1) (h : mayStand d s c k = true) : k ≠ 7 ∧ k ≠ 1 ∧ k ≠ 0 := by
  unfold mayStand at h
  rw [if_neg h0, if_neg h1] at h
  refine ⟨?_, ?_, ?_⟩
  all_goals
    rintro rfl
    split at h
    · exact absurd h (by decide)
    split at h
    · exact absurd h (by decide)
    split at h
    · exact absurd h (by decide)
    split at h
    · exact absurd h (by decide)
    unfold mayFollow at h
    repeat' split at h
    all_goals exact absurd h (by decide)
theorem pop_app (v b : List Ab) : pop (v ++ b) = if pop v = [] then pop b else pop v ++ b := by
  induction v with
  | nil => simp [pop]
  | cons a v ih =>
    simp only [List.cons_append, pop]
    split
    · exact ih
    · simp
theorem pop_mem (v : List Ab) : ∀ a ∈ pop v, a ∈ v := by
  induction v with
  | nil => intro a h; exact h
  | cons c v ih =>
    intro a h
    simp only [pop] at h
    split at h
    · exact List.mem_cons_of_mem _ (ih a h)
    · exact h
theorem in_rule (l : List Rz) : ∀ (u b : List Ab) (i : Nat), (∀ a ∈ u, a.kind ≠ 0 ∧ a.kind ≠ 1) → (u = [] ∨ ∃ a r, u = a :: r ∧ (a.seen : Int) < a.kids) → (wrong (u ++ b) i l).2 = false → ∀ j x, sz l (mis u) = some x → j < x → (rat l j).kind ≠ 7 := by
  induction l with
  | nil =>
    intro u b i _ _ _ j x hx hj
    simp only [sz] at hx
    split at hx
    · cases hx; omega
    · cases hx
  | cons r l ih =>
    intro u b i hu ht h j x hx hj
    rcases ht with rfl | ⟨a, t, rfl, hlt⟩
    · rw [show mis [] = 0 from rfl, sz_zero] at hx
      cases hx
      omega
    · simp only [wrong, List.cons_append] at h
      split at h
      · cases h
      · rename_i hc
        simp only [List.isEmpty_cons, Bool.false_or, Bool.not_eq_true', Bool.not_eq_false, Bool.and_eq_true] at hc
        have hk := filled_kids hc.2
        obtain ⟨a0, a1⟩ := hu a (by simp)
        obtain ⟨k7, k1, k0⟩ := stand_in (d := a.kind) a0 a1 hc.1
        cases j with
        | zero => exact k7
        | succ j =>
          have hm : mis (pop (⟨r.kind, r.kids, 0, 0, 0⟩ :: bump r.kind (a :: t))) = mis (a :: t) - 1 + r.m := by
            rw [mis_pop]
            simp only [mis, bump, Rz.m]
            omega
          obtain ⟨x1, hx1⟩ := sz_cons (by simp only [mis]; omega) hx
          rw [← hm] at hx1
          have hpa : past (a :: (t ++ b)) r 0 = if pop (⟨r.kind, r.kids, 0, 0, 0⟩ :: bump r.kind (a :: t)) = [] then pop b else pop (⟨r.kind, r.kids, 0, 0, 0⟩ :: bump r.kind (a :: t)) ++ b := by
            rw [← pop_app]
            rfl
          rw [hpa] at h
          by_cases hp : pop (⟨r.kind, r.kids, 0, 0, 0⟩ :: bump r.kind (a :: t)) = []
          · rw [hp, show mis [] = 0 from rfl, sz_zero] at hx1
            have := Option.some.inj hx1
            omega
          · rw [if_neg hp] at h
            have hmem : ∀ c ∈ pop (⟨r.kind, r.kids, 0, 0, 0⟩ :: bump r.kind (a :: t)), c.kind ≠ 0 ∧ c.kind ≠ 1 := fun c hc2 => by
              have := pop_mem _ c hc2
              simp only [bump, List.mem_cons] at this
              rcases this with rfl | rfl | hm2
              · exact ⟨k0, k1⟩
              · exact ⟨a0, a1⟩
              · exact hu c (by simp [hm2])
            have hpp : ∀ x : List Ab, pop x = [] ∨ ∃ b q, pop x = b :: q ∧ (b.seen : Int) < b.kids := by
              intro x
              induction x with
              | nil => exact Or.inl rfl
              | cons c x ihx =>
                simp only [pop]
                split
                · exact ihx
                · exact Or.inr ⟨c, x, rfl, by omega⟩
            have := ih _ b (i + 1) hmem (hpp _) h j (x - 1) hx1 (by omega)
            exact this
theorem wrong_drop (l : List Rz) : ∀ (t : List Ab) (i a : Nat), a ≤ l.length → (wrong t i l).2 = false → ∃ t', (wrong t' (i + a) (l.drop a)).2 = false := by
  induction l with
  | nil =>
    intro t i a ha h
    have h0 : a = 0 := by simpa using ha
    subst h0
    exact ⟨t, h⟩
  | cons r l ih =>
    intro t i a ha h
    cases a with
    | zero => exact ⟨t, h⟩
    | succ a =>
      simp only [wrong] at h
      split at h
      · cases h
      · obtain ⟨t', h'⟩ := ih _ (i + 1) a (by simpa using ha) h
        exact ⟨t', by rw [show i + (a + 1) = i + 1 + a by omega]; exact h'⟩
theorem rat_drop (l : List Rz) (a j : Nat) : rat (l.drop a) j = rat l (a + j) := by simp [rat, List.getD_eq_getElem?_getD, List.getElem?_drop]
/-- no rule stands within a rule -/
theorem rule_apart {l : List Rz} (h : (wrong [ab1] 0 l).2 = false) {a c : Nat} (ha : a < l.length) (hk : (rat l a).kind = 7) (hac : a < c) (hce : c < endp l a) : (rat l c).kind ≠ 7 := by
  have hW := whole_of h
  have hf := wrong_all l _ _ h _ (List.mem_of_getElem? (some_rat ha))
  have hk1 : 1 ≤ (rat l a).kids := Nm.filled_kid hf (Or.inl hk)
  obtain ⟨t, ht⟩ := wrong_drop l [ab1] 0 a (by omega) h
  obtain ⟨r, hr1, hr2, _⟩ := drop_at ha
  have hr : r = rat l a := by rw [some_rat ha] at hr1; exact (Option.some.inj hr1).symm
  subst hr
  rw [hr2] at ht
  simp only [wrong] at ht
  split at ht
  · cases ht
  · have hpa : past t (rat l a) 0 = [⟨(rat l a).kind, (rat l a).kids, 0, 0, 0⟩] ++ bump (rat l a).kind t := by
      unfold past
      simp only [pop]
      rw [if_neg (by omega)]
      rfl
    rw [hpa] at ht
    have hE : ∃ x, sz (l.drop (a + 1)) (mis [⟨(rat l a).kind, (rat l a).kids, 0, 0, 0⟩]) = some x ∧ endp l a = a + 1 + x := by
      obtain ⟨h1, h2⟩ := end_kid hW ha
      unfold endp at *
      rw [hr2] at *
      cases hs : sz (rat l a :: l.drop (a + 1)) 1 with
      | none => rw [hs] at h2; simp at h2
      | some y =>
        obtain ⟨hy, hz⟩ := sz_cons (Nat.le_refl 1) hs
        refine ⟨y - 1, ?_, ?_⟩
        · rw [← hz]
          congr 1
          simp [mis, Rz.m]
        · simp
          omega
    obtain ⟨x, hx1, hx2⟩ := hE
    have := in_rule (l.drop (a + 1)) [⟨(rat l a).kind, (rat l a).kids, 0, 0, 0⟩] (bump (rat l a).kind t) _ (by intro q hq; simp only [List.mem_singleton] at hq; subst hq; dsimp only; rw [hk]; decide) (Or.inr ⟨_, [], rfl, by show (0 : Int) < (rat l a).kids; omega⟩) ht (c - (a + 1)) x hx1 (by omega)
    rw [rat_drop, show a + 1 + (c - (a + 1)) = c by omega] at this
    exact this
end Go.Proofs.Ytopiakhlajpdaab.Gr

namespace Go.Proofs.Ytopiakhlajpdaab.Nm
open Go.RowKit Go.Maps Go.Proofs.Ytopiakhlajpdaab.Sp Go.Proofs.Ytopiakhlajpdaab.Lx Go.Proofs.Ytopiakhlajpdaab.Gr

theorem rat_numb_ne {l : List Rz} {i j n : Nat} (h : j ≠ i) : rat (numb l i n) j = rat l j := by
  simp only [rat, numb, List.getD_eq_getElem?_getD, List.getElem?_set, if_neg (Ne.symm h)]
/-- rules, and what calls mean, in the first i rows (m of them named) -/
structure Cl (l0 : List Rz) (i m : Nat) (s : Rs) : Prop where
  k : ∀ e ∈ s.known, e.2.1 = 4 → ∃ h : e.2.2.1 < s.us.length, e.2.2.2 = endp l0 (s.us[e.2.2.1] - 1)
  u : ∀ k (h : k < s.us.length), 1 ≤ s.us[k] ∧ s.us[k] ≤ i ∧ (rat l0 (s.us[k] - 1)).kind = 7
  o : s.us.Pairwise (· < ·)
  c : ∀ j, j < m → (rat l0 j).kind = 22 → ∃ n : Nat, ∃ h : n < s.us.length, (rat s.rows j).n = (n : Int) ∧ endp l0 (s.us[n] - 1) ≤ j
theorem cl_D {l0 : List Rz} {i m : Nat} {s s' : Rs} (hi : i < l0.length) (hg : Good l0 m s) (h : Cl l0 i i s) (hs : askD i s = .ok s') : Cl l0 (i + 1) i s' := by
  have hup : Cl l0 (i + 1) i s := ⟨h.k, fun k hk => ⟨(h.u k hk).1, Nat.le_succ_of_le (h.u k hk).2.1, (h.u k hk).2.2⟩, h.o, h.c⟩
  unfold askD at hs
  split at hs
  · cases hs; exact hup
  split at hs
  · cases hs
  split at hs
  · cases hs
  rename_i hd _ _
  cases hs
  have hkd := like_kind hg.like hi
  have hend : endp (numb s.rows i (s.cnt (decl (rat s.rows i).kind))) i = endp l0 i := endp_like ((numb_clr _ _ _).trans hg.like) i
  by_cases h7 : (rat s.rows i).kind = 7
  · have hus : (s.dec i).us = s.us ++ [i + 1] := if_pos h7
    have hd4 : decl (rat s.rows i).kind = 4 := by rw [h7]; rfl
    have hcn : s.cnt 4 = s.us.length := rfl
    have hget : ∀ k (hk : k < s.us.length) (hk2 : k < (s.dec i).us.length), (s.dec i).us[k] = s.us[k] := fun k hk hk2 => by simp only [hus]; exact List.getElem_append_left hk
    refine ⟨fun e he h4 => ?_, fun k hk => ?_, ?_, fun j hj h22 => ?_⟩
    · rcases List.mem_cons.1 he with rfl | he
      · dsimp only
        rw [hend, hd4, hcn]
        refine ⟨by rw [hus]; simp, ?_⟩
        simp only [hus]
        simp
      · obtain ⟨h1, h2⟩ := h.k e he h4
        have h3 : e.2.2.1 < (s.dec i).us.length := by rw [hus]; simp; omega
        exact ⟨h3, by rw [hget _ h1 h3]; exact h2⟩
    · by_cases hk2 : k < s.us.length
      · rw [hget k hk2 hk]
        exact hup.u k hk2
      · have hk3 : k = s.us.length := by rw [hus] at hk; simp at hk; omega
        subst hk3
        have he : (s.dec i).us[s.us.length] = i + 1 := by simp only [hus]; simp
        rw [he]
        exact ⟨by omega, Nat.le_refl _, by rw [Nat.add_sub_cancel, ← hkd.1]; exact h7⟩
    · rw [hus]
      refine List.pairwise_append.2 ⟨h.o, List.pairwise_singleton _ _, fun a ha b hb => ?_⟩
      rw [List.mem_singleton.1 hb]
      obtain ⟨k, hk, rfl⟩ := List.mem_iff_getElem.1 ha
      have := (h.u k hk).2.1
      omega
    · obtain ⟨n, hn, h1, h2⟩ := h.c j hj h22
      have h3 : n < (s.dec i).us.length := by rw [hus]; simp; omega
      exact ⟨n, h3, by show (rat (numb _ _ _) j).n = _; rw [rat_numb_ne (by omega)]; exact h1, by rw [hget _ hn h3]; exact h2⟩
  · have hus : (s.dec i).us = s.us := if_neg h7
    have hd4 : decl (rat s.rows i).kind ≠ 4 := fun e => by
      rcases decl_cases (rat s.rows i).kind with ⟨_, e2⟩ | ⟨_, e2⟩ | ⟨_, e2⟩ | ⟨_, e2⟩ | ⟨e1, _⟩ | ⟨_, _, _, _, _, e2⟩
      all_goals first | exact h7 e1 | omega
    refine ⟨fun e he h4 => ?_, ?_, ?_, fun j hj h22 => ?_⟩
    · rcases List.mem_cons.1 he with rfl | he
      · exact absurd h4 hd4
      · simp only [hus]
        exact h.k e he h4
    · simp only [hus]
      exact hup.u
    · rw [hus]
      exact h.o
    · simp only [hus]
      obtain ⟨n, hn, h1, h2⟩ := h.c j hj h22
      exact ⟨n, hn, by show (rat (numb _ _ _) j).n = _; rw [rat_numb_ne (by omega)]; exact h1, h2⟩
theorem cl_M {l0 : List Rz} {i m : Nat} {s s' : Rs} (hi : i < l0.length) (hg : Good l0 m s) (h : Cl l0 (i + 1) i s) (hs : askM i s = .ok s') : Cl l0 (i + 1) (i + 1) s' := by
  have hkd := like_kind hg.like hi
  have hlen := like_len hg.like
  unfold askM at hs
  split at hs
  · rename_i h0
    cases hs
    refine ⟨h.k, h.u, h.o, fun j hj h22 => ?_⟩
    by_cases e : j = i
    · subst e
      rw [hkd.1, h22] at h0
      exact absurd h0 (by decide)
    · exact h.c j (by omega) h22
  split at hs
  · cases hs
  rename_i k mm p hlk
  split at hs
  · cases hs
  rename_i hp
  split at hs
  · cases hs
  · rename_i hne
    cases hs
    refine ⟨h.k, h.u, h.o, fun j hj h22 => ?_⟩
    by_cases e : j = i
    · subst e
      have h4 : k = 4 := by
        have : nmd (rat s.rows j).kind = 4 := by rw [hkd.1, h22]; rfl
        omega
      obtain ⟨h1, h2⟩ := h.k _ (lk_mem hlk) h4
      exact ⟨mm, h1, by show (rat (numb _ _ _) j).n = _; rw [rat_numb (by omega)], by rw [← h2]; dsimp only; omega⟩
    · obtain ⟨n, hn, h1, h2⟩ := h.c j (by omega) h22
      exact ⟨n, hn, by show (rat (numb _ _ _) j).n = _; rw [rat_numb_ne e]; exact h1, h2⟩
theorem cl_H {l0 : List Rz} {i n : Nat} {s s' : Rs} (h : Cl l0 n n s) (hs : askH i s = .ok s') : Cl l0 n n s' := by
  unfold askH at hs
  split at hs
  · cases hs; exact h
  split at hs
  · cases hs
  · cases hs
    exact ⟨h.k, h.u, h.o, h.c⟩
theorem upto_cl {l : List Rz} (hB : Base l) (n : Nat) (hn : n ≤ l.length) {s : Rs} (h : upto (start l) n = .ok s) : Cl l n n s := by
  induction n generalizing s with
  | zero =>
    cases h
    exact ⟨fun e he => by simp [start] at he, fun k hk => by simp [start] at hk, List.Pairwise.nil, fun j hj => by omega⟩
  | succ n ih =>
    simp only [upto] at h
    split at h
    · cases h
    · rename_i t ht
      have hc := ih (by omega) ht
      have hg := upto_good hB n (by omega) ht
      split at h
      · cases h
      · rename_i t' h3
        cases h
        cases h1 : askN n t 1 with
        | error c => rw [askN_err h1 2] at h3; cases h3
        | ok t1 =>
          cases h2 : askN n t 2 with
          | error c => rw [askN_err h2 1] at h3; cases h3
          | ok t2 =>
            have a1 : askD n t = .ok t1 := (askN_succ (j := 0) rfl).symm.trans h1
            have a2 : askM n t1 = .ok t2 := (askN_succ h1).symm.trans h2
            have a3 : askH n t2 = .ok s := (askN_succ h2).symm.trans h3
            exact cl_H (cl_M (by omega) (good_D hB (by omega) hg a1) (cl_D (by omega) hg hc a1) a2) a3
/-- a call in a rule is of a rule ahead of it -/
theorem calls_ahead {l : List Rz} {m : Nat} {s : Rs} (hw : (wrong [ab1] 0 l).2 = false) (hg : Good l m s) (h : Cl l l.length l.length s) : ∀ k (hk : k < s.us.length) j, s.us[k] ≤ j → j < endp s.rows s.us[k] → (rat s.rows j).kind = 22 → 0 ≤ (rat s.rows j).n ∧ (rat s.rows j).n < (k : Int) := by
  intro k hk j hj1 hj2 h22
  have hW := whole_of hw
  obtain ⟨u1, u2, u3⟩ := h.u k hk
  have ha : s.us[k] - 1 < l.length := by omega
  have hB := base_of hw
  have hf := hB.fill _ ha
  have hkid : km l (s.us[k] - 1) = 1 := by
    have h1 := filled_kid hf (Or.inl u3)
    have h2 : (rat l (s.us[k] - 1)).kids ≤ 1 := by
      unfold filled wtn at hf
      simp only [Bool.and_eq_true, decide_eq_true_eq] at hf
      have := hf.2.2.2.2
      rw [u3] at this
      exact this
    have := hB.tree.kids _ ha
    omega
  have hend : endp l (s.us[k] - 1) = endp l s.us[k] := by
    obtain ⟨e1, _, _⟩ := end_kid hW ha
    obtain ⟨_, e2, _⟩ := kid_at hW ha (k := 0) (by omega)
    rw [e1, hkid, show (1 : Nat) = 0 + 1 from rfl, e2]
    congr 1
    simp [kidp, sz_zero]
    omega
  rw [endp_like hg.like] at hj2
  have hjl : j < l.length := by
    have := (end_kid hW ha).2.2
    omega
  rw [(like_kind hg.like hjl).1] at h22
  obtain ⟨n, hn, e1, e2⟩ := h.c j hjl h22
  rw [e1]
  refine ⟨by omega, ?_⟩
  by_cases hlt : n < k
  · omega
  · exfalso
    by_cases he : n = k
    · subst he
      omega
    · have hlt2 : s.us[k] < s.us[n] := List.pairwise_iff_getElem.1 h.o k n hk hn (by omega)
      obtain ⟨v1, v2, v3⟩ := h.u n hn
      have hnl : s.us[n] - 1 < l.length := by omega
      have := (end_kid hW hnl).2.1
      exact rule_apart hw ha u3 (c := s.us[n] - 1) (by omega) (by omega) v3
/-- every call is of a rule that is there -/
theorem calls_there {l : List Rz} {m : Nat} {s : Rs} (hg : Good l m s) (h : Cl l l.length l.length s) : ∀ j, j < l.length → (rat s.rows j).kind = 22 → 0 ≤ (rat s.rows j).n ∧ (rat s.rows j).n < (s.us.length : Int) := by
  intro j hj h22
  rw [(like_kind hg.like hj).1] at h22
  obtain ⟨n, hn, e1, _⟩ := h.c j hj h22
  rw [e1]
  exact ⟨by omega, by omega⟩
end Go.Proofs.Ytopiakhlajpdaab.Nm

namespace Go.Proofs.Ytopiakhlajpdaab.Nm
open Go.RowKit Go.Maps Go.Proofs.Ytopiakhlajpdaab.Sp Go.Proofs.Ytopiakhlajpdaab.Lx Go.Proofs.Ytopiakhlajpdaab.Gr

/-- what a row adds, not held below the greatest sum -/
def wgt (l : List Rz) (sums : List Nat) (j : Nat) : Nat := 1 + if (rat l j).kind = 22 ∧ 0 ≤ (rat l j).n ∧ (rat l j).n < (sums.length : Int) then sums.getD (rat l j).n.toNat 0 else 0
def tot (l : List Rz) (sums : List Nat) (row : Nat) : Nat → Nat
  | 0 => 0
  | k + 1 => tot l sums row k + wgt l sums (row + k)
theorem pls_min {a b : Nat} (hb : b ≤ 4611686018427387904) : pls a b = min (a + b) 4611686018427387904 := by
  unfold pls
  omega
theorem getD_le {sums : List Nat} (hs : ∀ k x : Nat, sums[k]? = some x → x ≤ 4611686018427387904) (n : Nat) : sums.getD n 0 ≤ 4611686018427387904 := by
  rw [List.getD_eq_getElem?_getD]
  cases hx : sums[n]? with
  | none => simp
  | some x => exact hs n x hx
theorem layN_min {l : List Rz} {sums : List Nat} (hs : ∀ k x : Nat, sums[k]? = some x → x ≤ 4611686018427387904) (row k : Nat) : layN l sums row k = min (tot l sums row k) 4611686018427387904 := by
  induction k with
  | zero => simp [layN, tot]
  | succ k ih =>
    simp only [layN, tot, addRow, wgt, ih]
    split
    · have := getD_le hs (rat l (row + k)).n.toNat
      rw [pls_min this, pls_min (show 1 ≤ 4611686018427387904 by decide)]
      omega
    · rw [pls_min (show 1 ≤ 4611686018427387904 by decide)]
      omega
theorem tot_add (l : List Rz) (sums : List Nat) (row a b : Nat) : tot l sums row (a + b) = tot l sums row a + tot l sums (row + a) b := by
  induction b with
  | zero => simp [tot]
  | succ b ih =>
    rw [← Nat.add_assoc]
    simp only [tot]
    rw [ih, Nat.add_assoc, Nat.add_assoc]
theorem laid_min {l : List Rz} {sums : List Nat} (hs : ∀ k x : Nat, sums[k]? = some x → x ≤ 4611686018427387904) (row : Nat) : laidAt l sums row = min (tot l sums row (endp l row - row)) 4611686018427387904 := layN_min hs _ _
theorem kid_ge {l : List Rz} (hT : TreeZ l) {i : Nat} (hi : i < l.length) (k : Nat) (hk : k ≤ km l i) : i + 1 + k ≤ kidp l i k := by
  induction k with
  | zero => rw [kid_zero]; exact Nat.le_refl _
  | succ k ih =>
    obtain ⟨g1, g2, _⟩ := kid_at hT.whole hi (show k < km l i by omega)
    have := (end_kid hT.whole g1).2.1
    have := ih (by omega)
    omega
/-- a row's kids summed up -/
def kidSum (l : List Rz) (sums : List Nat) (i : Nat) : Nat → Nat
  | 0 => 1
  | k + 1 => pls (kidSum l sums i k) (laidAt l sums (kidp l i k))
theorem kidSum_min {l : List Rz} {sums : List Nat} (hT : TreeZ l) (hs : ∀ k x : Nat, sums[k]? = some x → x ≤ 4611686018427387904) {i : Nat} (hi : i < l.length) (k : Nat) (hk : k ≤ km l i) : i + 1 ≤ kidp l i k ∧ kidSum l sums i k = min (1 + tot l sums (i + 1) (kidp l i k - (i + 1))) 4611686018427387904 := by
  induction k with
  | zero => rw [kid_zero]; simp [kidSum, tot]
  | succ k ih =>
    obtain ⟨h0, h1⟩ := ih (by omega)
    obtain ⟨g1, g2, g3⟩ := kid_at hT.whole hi (show k < km l i by omega)
    have h2 := (end_kid hT.whole g1).2.1
    refine ⟨by omega, ?_⟩
    simp only [kidSum]
    rw [h1, pls_min (laidAt_le hs _), laid_min hs, g2]
    have h3 : endp l (kidp l i k) - (i + 1) = (kidp l i k - (i + 1)) + (endp l (kidp l i k) - kidp l i k) := by omega
    rw [h3, tot_add, show i + 1 + (kidp l i k - (i + 1)) = kidp l i k by omega]
    omega
theorem kidSum_le {l : List Rz} {sums : List Nat} (hs : ∀ k x : Nat, sums[k]? = some x → x ≤ 4611686018427387904) (i k : Nat) : kidSum l sums i k ≤ 4611686018427387904 := by
  cases k with
  | zero => simp [kidSum]
  | succ k => exact pls_le _ _ (laidAt_le hs _)
theorem laid_kids {l : List Rz} {sums : List Nat} (hT : TreeZ l) (hs : ∀ k x : Nat, sums[k]? = some x → x ≤ 4611686018427387904) {i : Nat} (hi : i < l.length) : laidAt l sums i = min (wgt l sums i + (tot l sums (i + 1) (endp l i - (i + 1)))) 4611686018427387904 := by
  have h1 := (end_kid hT.whole hi).2.1
  rw [laid_min hs, show endp l i - i = 1 + (endp l i - (i + 1)) by omega, tot_add]
  simp [tot]
theorem laid_plain {l : List Rz} {sums : List Nat} (hT : TreeZ l) (hs : ∀ k x : Nat, sums[k]? = some x → x ≤ 4611686018427387904) {i : Nat} (hi : i < l.length) (h22 : (rat l i).kind ≠ 22) : laidAt l sums i = kidSum l sums i (km l i) := by
  rw [(kidSum_min hT hs hi (km l i) (Nat.le_refl _)).2, laid_kids hT hs hi, ← (end_kid hT.whole hi).1]
  unfold wgt
  rw [if_neg (fun e => h22 e.1)]
theorem laid_call {l : List Rz} {sums : List Nat} (hT : TreeZ l) (hs : ∀ k x : Nat, sums[k]? = some x → x ≤ 4611686018427387904) {i n : Nat} (hi : i < l.length) (h22 : (rat l i).kind = 22) (hn : (rat l i).n = (n : Int)) (hn2 : n < sums.length) : laidAt l sums i = pls (kidSum l sums i (km l i)) (sums.getD n 0) := by
  rw [(kidSum_min hT hs hi (km l i) (Nat.le_refl _)).2, laid_kids hT hs hi, ← (end_kid hT.whole hi).1, pls_min (getD_le hs n)]
  unfold wgt
  rw [if_pos ⟨h22, by omega, by omega⟩, show (rat l i).n.toNat = n by omega]
  omega
/-- a rule's sum is its block's -/
theorem sumsN_pre (l : List Rz) (us : List Nat) (k j i : Nat) (hi : i < k) : (sumsN l us (k + j))[i]? = (sumsN l us k)[i]? := by
  induction j with
  | zero => rfl
  | succ j ih =>
    rw [← Nat.add_assoc]
    simp only [sumsN]
    rw [List.getElem?_append_left (by rw [sumsN_len]; omega)]
    exact ih
theorem tot_pre {l : List Rz} {us : List Nat} {k j row m : Nat} (hc : ∀ q, row ≤ q → q < row + m → (rat l q).kind = 22 → 0 ≤ (rat l q).n ∧ (rat l q).n < (k : Int)) : tot l (sumsN l us (k + j)) row m = tot l (sumsN l us k) row m := by
  induction m with
  | zero => rfl
  | succ m ih =>
    simp only [tot]
    rw [ih (fun q h1 h2 => hc q h1 (by omega))]
    congr 1
    unfold wgt
    rw [sumsN_len, sumsN_len]
    by_cases h22 : (rat l (row + m)).kind = 22
    · obtain ⟨a, b⟩ := hc (row + m) (by omega) (by omega) h22
      rw [if_pos ⟨h22, a, by omega⟩, if_pos ⟨h22, a, b⟩, List.getD_eq_getElem?_getD, List.getD_eq_getElem?_getD, sumsN_pre _ _ _ _ _ (by omega)]
    · rw [if_neg (fun e => h22 e.1), if_neg (fun e => h22 e.1)]
theorem sums_rule {l : List Rz} {us : List Nat} (hT : TreeZ l) (hul : ∀ u ∈ us, u < l.length) (hc : ∀ k (hk : k < us.length) j, us[k] ≤ j → j < endp l us[k] → (rat l j).kind = 22 → 0 ≤ (rat l j).n ∧ (rat l j).n < (k : Int)) {n : Nat} (hn : n < us.length) : (sumsOf l us).getD n 0 = laidAt l (sumsOf l us) us[n] := by
  obtain ⟨j, hj⟩ : ∃ j, us.length = n + 1 + j := ⟨us.length - (n + 1), by omega⟩
  have hu := hul _ (List.getElem_mem hn)
  have he := (end_kid hT.whole hu).2.1
  unfold sumsOf
  rw [List.getD_eq_getElem?_getD, hj, sumsN_pre _ _ _ _ _ (Nat.lt_succ_self _)]
  simp only [sumsN]
  rw [List.getElem?_append_right (by rw [sumsN_len]; exact Nat.le_refl _), sumsN_len, Nat.sub_self]
  simp only [List.getElem?_cons_zero, Option.getD_some]
  rw [show us.getD n 0 = us[n] by simp [List.getD_eq_getElem?_getD, List.getElem?_eq_getElem hn], laid_min (sumsN_le _ _ _), laid_min (sumsN_le _ _ _), show n + 1 + j = n + (1 + j) by omega, tot_pre (fun q h1 h2 => hc n hn q h1 (by omega))]
/-- what the rows of a policy that was told add up to -/
structure Sm7 (l : List Rz) (p : Pl) : Prop where
  tree : TreeZ p.rows
  us : p.us.length ≤ 64
  ln : p.qs.length ≤ 16 ∧ p.vs.length ≤ 16 ∧ p.ts.length ≤ 4 ∧ p.on.length ≤ 16
  ul : ∀ u ∈ p.us, u < p.rows.length
  plain : ∀ i, i < p.rows.length → (rat p.rows i).kind ≠ 22 → laidAt p.rows (sumsOf p.rows p.us) i = kidSum p.rows (sumsOf p.rows p.us) i (km p.rows i)
  call : ∀ i, i < p.rows.length → (rat p.rows i).kind = 22 → ∃ n : Nat, ∃ h : n < p.us.length, (rat p.rows i).n = (n : Int) ∧ p.us[n] < i ∧ laidAt p.rows (sumsOf p.rows p.us) i = pls (kidSum p.rows (sumsOf p.rows p.us) i (km p.rows i)) (laidAt p.rows (sumsOf p.rows p.us) p.us[n])
theorem res_sm7 {l : List Rz} {p : Pl} (h : res l = .ok p) : Sm7 l p := by
  unfold res at h
  split at h
  · cases h
  · rename_i hk
    have hw := (chk_ok (by simpa using hk)).2
    have hB := base_of hw
    unfold resR at h
    split at h
    · cases h
    · rename_i s hs
      have hg := upto_good hB _ (Nat.le_refl _) hs
      have hcl := upto_cl hB _ (Nat.le_refl _) hs
      have hll := like_len hg.like
      have hT := like_tree hg.like hB.tree
      split at h
      · cases h
      · cases h
        have hul : ∀ u ∈ s.us, u < s.rows.length := fun u hu => by rw [hll]; exact hg.ul u hu
        have hah := calls_ahead hw hg hcl
        refine ⟨hT, hg.u, ⟨hg.q, hg.v, hg.t, by show (onsOf _ _).length ≤ _; rw [onsOf_len]; exact hg.q⟩, hul, fun i hi h22 => laid_plain hT (sumsN_le _ _ _) hi h22, fun i hi h22 => ?_⟩
        have hi2 : i < l.length := by have hi3 : i < s.rows.length := hi; omega
        have hk2 : (rat l i).kind = 22 := (like_kind hg.like hi2).1.symm.trans h22
        obtain ⟨n, hn, h1, h2⟩ := hcl.c i hi2 hk2
        refine ⟨n, hn, h1, ?_, ?_⟩
        · obtain ⟨u1, _, u3⟩ := hcl.u n hn
          have hlt : s.us[n] - 1 < l.length := by have := hg.ul _ (List.getElem_mem hn); omega
          have hf := filled_kid (hB.fill _ hlt) (Or.inl u3)
          have hkm : 1 ≤ km l (s.us[n] - 1) := by
            obtain ⟨r, h3, _, h5⟩ := drop_at hlt
            have e : rat l (s.us[n] - 1) = r := rat_some h3
            rw [h5, ← e]
            unfold Rz.m
            omega
          have hge := kid_ge hB.tree hlt (km l (s.us[n] - 1)) (Nat.le_refl _)
          have hee := (end_kid hB.tree.whole hlt).1
          show s.us[n] < i
          omega
        · have hS : ∀ k x : Nat, (sumsOf s.rows s.us)[k]? = some x → x ≤ 4611686018427387904 := sumsN_le _ _ _
          show laidAt s.rows (sumsOf s.rows s.us) i = pls (kidSum s.rows (sumsOf s.rows s.us) i (km s.rows i)) (laidAt s.rows (sumsOf s.rows s.us) s.us[n])
          rw [laid_call hT hS hi h22 h1 (by unfold sumsOf; rw [sumsN_len]; exact hn), sums_rule hT hul hah hn]
end Go.Proofs.Ytopiakhlajpdaab.Nm

namespace Go.Proofs.Ytopiakhlajpdaab.Gr
open Go.RowKit Go.Proofs.Ytopiakhlajpdaab.Sp Go.Proofs.Ytopiakhlajpdaab.Lx

def nc (n : Nat) : Value := .int .i64 n
/-- the kids that have come -/
def kl (l : List Rz) (i k : Nat) : List Nat := (List.range k).map (kidp l i)
theorem kl_succ (l : List Rz) (i k : Nat) : kl l i (k + 1) = kl l i k ++ [kidp l i k] := by simp [kl, List.range_succ]
theorem kl_len (l : List Rz) (i k : Nat) : (kl l i k).length = k := by simp [kl]

set_option maxHeartbeats 3200000 in
set_option maxRecDepth 100000 in
theorem kids_any (ao : Option Addr) (l : List Rz) (cap i : Nat) (w : World) (h : IsRz w ao l) (hn : l.length ≤ 2932031007317) (hT : TreeZ l) (hi : i < l.length) :
    Calls Try.prog 10 #[.slice ao l.length cap, .int .i64 i] w fun e w' => ∃ v, e = .returned v ∧ w'.ownsRow w.heap.size 3 1 v (km l i) ((kl l i (km l i)).map nc) ∧ Below w.heap.size w w' := by
  obtain ⟨j0, hj, hj0, hj1, hj2⟩ := info_parts info3
  have HI : Hid (IsRz w ao l) := h
  have HT : Hid (TreeZ l) := hT
  have HN : Hid (l.length ≤ 2932031007317) := hn
  have HE : Hid (∀ (j : Nat) (W : World), Below w.heap.size w W → j < l.length → Calls Try.prog 30 #[.slice ao l.length cap, .int .i64 j] W fun e w' => e = .returned (.int .i64 (endp l j : Nat)) ∧ w' = W) := fun j W hW hj => end_any ao l cap j W (h.below hW) hn hT hj
  have hln : (l.length : Int) ≤ 2932031007317 := by omega
  have hi1 : (i : Int) < (l.length : Int) := by omega
  have hnl : decide (l.length ≤ i) = false := by simp; omega
  have hnl2 : ¬ l.length ≤ i := by omega
  obtain ⟨g, o, rfl, hg, _, c4⟩ := kids_at h hT hi
  have hkm : (km l i : Int) ≤ 2932031007317 := by have := km_le hT.whole hi; omega
  have HKm : Hid (km l i ≤ 2932031007317) := by show _ ≤ _; omega
  clear h hn hT
  go_enter Try.func10, Try.ntmps10
  go_wp2_with fail
  go_loopg [5, 6, 22] (km l i) (fun gq x nx ix wr => ∃ (k : Nat) (v : Value), k ≤ km l i ∧ gq = km l i - k ∧ v = x ∧ nx = .int .i64 (kidp l i k : Int) ∧ ix = .int .i64 k ∧ wr.ownsRow w.heap.size 3 1 v k ((kl l i k).map nc) ∧ Below w.heap.size w wr)
  case atStart => exact ⟨0, _, Nat.zero_le _, rfl, rfl, by rw [kid_zero]; go_num, rfl, World.ownsRow_nil _ _ _ _, Below.refl _ _⟩
  case round =>
    obtain ⟨k, v, hk, hgk, rfl, rfl, rfl, hO, hB⟩ := hrel
    have HG : Hid (gk = km l i - k) := hgk
    have HO : Hid (wr.ownsRow w.heap.size 3 1 v k ((kl l i k).map nc)) := hO
    have HBr : Hid (Below w.heap.size w wr) := hB
    have HKl : Hid (k ≤ 2932031007317) := by have := HKm.out; show _ ≤ _; omega
    clear hgk hO hB
    by_cases hlk : k < km l i
    · obtain ⟨h1, h2, h3⟩ := kid_at HT.out.whole hi hlk
      have hlk' : (k : Int) < (km l i : Int) := by omega
      have h1' : (kidp l i k : Int) < (l.length : Int) := by omega
      have HNx : Hid (kidp l i (k + 1) = endp l (kidp l i k)) := h2
      have HKp : Hid (kidp l i k < l.length) := h1
      have HO2 : Hid ((wr.alloc (.cells #[.int .i64 (kidp l i k : Int)] 3)).ownsRow w.heap.size 3 1 v k ((kl l i k).map nc)) := own_below HO.out ((Below.refl _ wr).alloc (Nat.le_refl _) _)
      obtain ⟨bo, bc, rfl⟩ := own_form HO.out
      clear h1 h2 h3 hlk hk
      go_wp2_with (at_builtin; refine append_gone _ rfl _ _ 27 rfl w.heap.size 3 j0 (.int .i64 0) 1 8 Try.underlying27 hj hj0 hj1 hj2 rfl (by decide) (.slice bo k bc) k ((kl l i k).map nc) rfl HO2.out ⟨wr.heap.size, 0, none⟩ 1 1 [nc (kidp l i k)] rfl rfl ?c1 ?c2 ?c3 ?c4 ?c5 ?c6 ?_)
      case c1 => exact cell_one wr _ _
      case c2 => intro u hu; simp only [nc, List.mem_cons, List.not_mem_nil, or_false] at hu; subst hu; rfl
      case c3 => have := HKl.out; unfold maxLen; omega
      case c4 => have := HKl.out; omega
      case c5 => have h1 := HBr.out.size; rw [World.size_alloc]; omega
      case c6 => decide
      intro v4 w4 ho hG
      have HO4 : Hid (w4.ownsRow w.heap.size 3 1 v4 (k + 1) ((kl l i (k + 1)).map nc)) := by
        show w4.ownsRow w.heap.size 3 1 v4 (k + 1) ((kl l i (k + 1)).map nc)
        rw [kl_succ]
        simpa using ho
      have hb4 : Below w.heap.size (wr.alloc (.cells #[.int .i64 (kidp l i k : Int)] 3)) w4 := (Went.gone hG).low (fun j hj => (World.ownsRow.lt HO2.out j hj).1) (by have h1 := HBr.out.size; rw [World.size_alloc]; omega)
      have HB4 : Hid (Below w.heap.size w w4) := (HBr.out.alloc HBr.out.size _).trans hb4
      obtain ⟨bo4, bc4, rfl⟩ := own_form ho
      clear ho hG hb4
      go_wp2_with fail
      refine (HE.out (kidp l i k) w4 HB4.out HKp.out).mono ?_
      intro e w' hh
      obtain ⟨rfl, hw⟩ := hh
      rw [hw]
      clear hw w'
      go_wp2_with fail
      go_roundg (km l i - (k + 1))
      case measure => have h1 := HG.out; omega
      case rel => exact ⟨k + 1, _, by omega, rfl, rfl, by rw [HNx.out], by go_num, HO4.out, HB4.out⟩
    · have hlk' : ¬ ((k : Int) < (km l i : Int)) := by omega
      have hke : k = km l i := by omega
      have HF : Hid (wr.ownsRow w.heap.size 3 1 v (km l i) ((kl l i (km l i)).map nc)) := by rw [hke] at HO; exact HO
      clear hke hlk hk
      go_wp2_with fail
      go_ret
      exact ⟨_, rfl, HF.out, HBr.out⟩

end Go.Proofs.Ytopiakhlajpdaab.Gr
