import Derived.Test.YtnpdblcfhbamiaaGreatK36
namespace Go.Proofs.YtnpdblcfhbamiaaGreat.Nm.Ty
open Go.RowKit Go.Maps Go.Proofs.YtnpdblcfhbamiaaGreat.Sp Go.Proofs.YtnpdblcfhbamiaaGreat.Lx Go.Proofs.YtnpdblcfhbamiaaGreat.Gr Go.Proofs.YtnpdblcfhbamiaaGreat.Nm
theorem fill_kids {r : Rz} (h : filled r = true) : (least r.kind : Int) ≤ r.kids ∧ r.kids ≤ greatest r.kind := by
  unfold filled at h
  simp only [Bool.and_eq_true] at h
  have h1 := h.2.2.2
  unfold wtn at h1
  simp only [Bool.and_eq_true, decide_eq_true_eq] at h1
  exact h1
theorem fill_num {r : Rz} (h : filled r = true) : 0 ≤ r.n ∧ r.n ≤ 1073741824 := by
  unfold filled at h
  simp only [Bool.and_eq_true, wtn, decide_eq_true_eq] at h
  obtain ⟨_, _, ⟨h1, h2⟩, _⟩ := h
  unfold lastNum at h2
  split at h2 <;> omega
/-- what stands below an NShift, an NEvict, and only there -/
theorem stand24 {d s c : Int} (h : mayStand d s c 24 = true) : d = 19 ∨ d = 20 := by
  by_cases h1 : d = 19 ∨ d = 20
  · exact h1
  · exfalso
    unfold mayStand at h
    split at h
    · exact absurd h (by decide)
    · split at h
      · simp [isEvent, isDecl, wtn] at h
      · split at h
        · exact absurd h (by decide)
        · split at h
          · exact absurd h (by decide)
          · split at h
            · exact absurd h (by decide)
            · unfold mayFollow at h
              repeat' split at h
              all_goals exact absurd h (by decide)
def Two (k : Int) : Prop := k = 19 ∨ k = 20
theorem pop_mem {t : List Ab} : ∀ a ∈ Gr.pop t, a ∈ t := by
  induction t with
  | nil => intro a h; exact h
  | cons b t ih =>
    intro a h
    unfold Gr.pop at h
    split at h
    · exact List.mem_cons_of_mem _ (ih a h)
    · exact h
theorem pop_tail {t : List Ab} {p : Ab → Prop} (h : ∀ a ∈ t, p a) : ∀ a ∈ (Gr.pop t).tail, p a := fun a ha => h a (pop_mem a (List.mem_of_mem_tail ha))
theorem pop_top {t : List Ab} (h : ∀ a ∈ t, Two a.kind → a.kids ≤ (a.seen : Int)) : ¬ Two (top (Gr.pop t)).kind := by
  induction t with
  | nil => show ¬ Two ab0.kind; intro h; rcases h with h | h <;> cases h
  | cons b t ih =>
    unfold Gr.pop
    split
    · exact ih (fun a ha => h a (List.mem_cons_of_mem _ ha))
    · rename_i hc
      exact fun h2 => hc (h b (List.mem_cons_self ..) h2)
theorem bump_mem {t : List Ab} {k : Int} {p : Ab → Prop} (h : ∀ a ∈ t, p ⟨a.kind, a.kids, a.seen + 1, k, a.levels⟩) (h2 : ∀ a ∈ t.tail, p a) : ∀ a ∈ bump k t, p a := by
  cases t with
  | nil => intro a h; cases h
  | cons b t =>
    intro a ha
    rcases List.mem_cons.1 ha with rfl | ha
    · exact h b (List.mem_cons_self ..)
    · exact h2 a ha
theorem great2 {k : Int} (h : Two k) : greatest k = 1 := by rcases h with rfl | rfl <;> decide
theorem place_up (l : List Rz) : ∀ (t : List Ab) (i : Nat) (pk : Int), (wrong t i l).2 = false → (Two (top t).kind → Two pk) → (∀ a ∈ t, Two a.kind → a.kids ≤ 1) → (∀ a ∈ t.tail, 1 ≤ a.seen) → ∀ j, j < l.length → (rat l j).kind = 24 → (j = 0 → Two pk) ∧ (0 < j → Two (rat l (j - 1)).kind) := by
  induction l with
  | nil => intro t i pk _ _ _ _ j hj; simp at hj
  | cons r l ih =>
    intro t i pk hw htop hk hs j hj h24
    simp only [wrong] at hw
    split at hw
    · cases hw
    · rename_i hc
      simp only [Bool.or_eq_true, Bool.not_eq_true', Bool.and_eq_false_iff, not_or, Bool.not_eq_false, Bool.not_eq_true] at hc
      obtain ⟨_, hst, hfl⟩ := hc
      cases j with
      | zero =>
        refine ⟨fun _ => htop ?_, fun h => absurd h (Nat.lt_irrefl 0)⟩
        have h1 : r.kind = 24 := h24
        rw [h1] at hst
        exact stand24 hst
      | succ j =>
        refine ⟨fun h => by omega, fun _ => ?_⟩
        have hnew : Two r.kind → r.kids ≤ 1 := fun h => by have := (fill_kids hfl).2; rw [great2 h] at this; exact this
        have hbk : ∀ a ∈ bump r.kind t, Two a.kind → a.kids ≤ 1 := bump_mem (p := fun a => Two a.kind → a.kids ≤ 1) (fun a ha => hk a ha) (fun a ha => hk a (List.mem_of_mem_tail ha))
        have hbs : ∀ a ∈ bump r.kind t, 1 ≤ a.seen := bump_mem (p := fun a => 1 ≤ a.seen) (fun a _ => Nat.le_add_left _ _) hs
        have hall : ∀ a ∈ (⟨r.kind, r.kids, 0, 0, 0⟩ :: bump r.kind t : List Ab), Two a.kind → a.kids ≤ 1 := fun a ha => by
          rcases List.mem_cons.1 ha with rfl | ha
          · exact hnew
          · exact hbk a ha
        have h1 := ih (past t r 0) (i + 1) r.kind hw ?_ (fun a ha => hall a (pop_mem a ha)) ?_ j (by simpa using hj) (by simpa using h24)
        · cases j with
          | zero => exact h1.1 rfl
          | succ j => exact h1.2 (Nat.succ_pos _)
        · intro h2
          unfold past at h2
          unfold Gr.pop at h2
          split at h2
          · exact absurd h2 (pop_top (fun a ha h3 => by have := hbk a ha h3; have := hbs a ha; omega))
          · exact h2
        · unfold past
          unfold Gr.pop
          split
          · exact pop_tail hbs
          · exact hbs
/-- what holds of a policy that was told -/
structure Told8 (p : Pl) : Prop where
  tree : TreeZ p.rows
  pos : 0 < p.rows.length
  qk : p.qs.length ≤ 16
  kids : ∀ i, i < p.rows.length → least (rat p.rows i).kind ≤ km p.rows i ∧ (km p.rows i : Int) ≤ greatest (rat p.rows i).kind
  num : ∀ i, i < p.rows.length → 0 ≤ (rat p.rows i).n ∧ (rat p.rows i).n ≤ 1073741824
  qn : ∀ i, i < p.rows.length → decl (rat p.rows i).kind + nmd (rat p.rows i).kind = 1 → ∃ n : Nat, (rat p.rows i).n = (n : Int) ∧ n < p.qs.length
  up : ∀ i, i < p.rows.length → (rat p.rows i).kind = 24 → 0 < i ∧ ((rat p.rows (i - 1)).kind = 19 ∨ (rat p.rows (i - 1)).kind = 20)
theorem nm_one {l : List Rz} {qs : List (ByteArray × Bool)} {vs ts : List ByteArray} {us : List Nat} {n : Nat} {x : ByteArray} (h : nameOf l qs vs ts us 1 n = some x) : n < qs.length := by
  unfold nameOf at h
  rw [if_pos rfl] at h
  cases hq : qs[n]? with
  | none => rw [hq] at h; cases h
  | some q => exact (List.getElem?_eq_some_iff.1 hq).1
theorem nm_lt8 {l : List Rz} {qs : List (ByteArray × Bool)} {vs ts : List ByteArray} {us : List Nat} {k n : Nat} {x : ByteArray} (h : nameOf l qs vs ts us k n = some x) : n < qs.length ∨ n < vs.length ∨ n < ts.length ∨ n < us.length := by
  unfold nameOf at h
  split at h
  · cases hq : qs[n]? with
    | none => rw [hq] at h; cases h
    | some q => exact Or.inl (List.getElem?_eq_some_iff.1 hq).1
  · split at h
    · exact Or.inr (Or.inl (List.getElem?_eq_some_iff.1 h).1)
    · split at h
      · exact Or.inr (Or.inr (Or.inl (List.getElem?_eq_some_iff.1 h).1))
      · split at h
        · cases hu : us[n]? with
          | none => rw [hu] at h; cases h
          | some u => exact Or.inr (Or.inr (Or.inr (List.getElem?_eq_some_iff.1 hu).1))
        · cases h
theorem res_told8 {l : List Rz} {p : Pl} (h : res l = .ok p) : Told8 p := by
  unfold res at h
  split at h
  · cases h
  · rename_i hc
    have hw := (chk_ok (by simpa using hc)).2
    have hB := base_of hw
    unfold resR at h
    split at h
    · cases h
    · rename_i s hs
      have hg := upto_good hB _ (Nat.le_refl _) hs
      have hm := upto_mean hB _ (Nat.le_refl _) hs
      have hll := like_len hg.like
      split at h
      · cases h
      · cases h
        have hk : ∀ j, j < l.length → (rat s.rows j).kind = (rat l j).kind := fun j hj => (like_kind hg.like hj).1
        refine ⟨like_tree hg.like hB.tree, by show 0 < s.rows.length; have := hB.pos; omega, hg.q, fun i hi => ?_, fun i hi => ?_, fun i hi h1 => ?_, fun i hi h24 => ?_⟩
        · have hi' : i < s.rows.length := hi
          have hi2 : i < l.length := by omega
          obtain ⟨e1, _, e2⟩ := like_kind hg.like hi2
          have h3 := fill_kids (hB.fill i hi2)
          have h4 := (like_tree hg.like hB.tree).kids i hi'
          have h5 : (rat s.rows i).kids = (rat l i).kids := by
            have := e2
            first | exact this | exact this.1
          show least (rat s.rows i).kind ≤ km s.rows i ∧ (km s.rows i : Int) ≤ greatest (rat s.rows i).kind
          rw [e1]
          omega
        · have hi' : i < s.rows.length := hi
          have hi2 : i < l.length := by omega
          show 0 ≤ (rat s.rows i).n ∧ (rat s.rows i).n ≤ 1073741824
          by_cases h0 : decl (rat l i).kind + nmd (rat l i).kind = 0
          · rw [hm.ot i hi2 (Or.inr (by omega))]
            exact fill_num (hB.fill i hi2)
          · obtain ⟨n, h1, h2⟩ := hm.rw i hi2 hi2 (by omega)
            rw [h1]
            have := nm_lt8 h2
            have := hg.q
            have := hg.v
            have := hg.t
            have := hg.u
            omega
        · have hi' : i < s.rows.length := hi
          have hi2 : i < l.length := by omega
          have h1' : decl (rat s.rows i).kind + nmd (rat s.rows i).kind = 1 := h1
          rw [hk i hi2] at h1'
          obtain ⟨n, h2, h3⟩ := hm.rw i hi2 hi2 (by omega)
          rw [h1'] at h3
          exact ⟨n, h2, nm_one h3⟩
        · have hi' : i < s.rows.length := hi
          have hi2 : i < l.length := by omega
          have h24' : (rat l i).kind = 24 := by rw [← hk i hi2]; exact h24
          have h5 := place_up l [ab1] 0 0 hw (fun h => by rcases h with h | h <;> cases h) (fun a ha h => by
            have : a = ab1 := by simpa using ha
            subst this
            exact Int.le_refl 1) (fun a ha => by cases ha) i hi2 h24'
          have h0 : 0 < i := by
            rcases Nat.eq_zero_or_pos i with h0 | h0
            · rcases h5.1 h0 with h | h <;> cases h
            · exact h0
          refine ⟨h0, ?_⟩
          have h6 := h5.2 h0
          show (rat s.rows (i - 1)).kind = 19 ∨ (rat s.rows (i - 1)).kind = 20
          rw [hk (i - 1) (by omega)]
          exact h6
theorem rz_ext8 {a b : Rz} (h : clr a = clr b) (hn : a.n = b.n) : a = b := by
  cases a
  cases b
  simp [clr] at h hn ⊢
  exact ⟨h.1, h.2.1, h.2.2.1, hn, h.2.2.2⟩
theorem fill_zero {r : Rz} (h : filled r = true) : r.kind ≠ 27 → r.n = 0 := by
  unfold filled at h
  simp only [Bool.and_eq_true, wtn, decide_eq_true_eq] at h
  obtain ⟨_, _, ⟨h1, h2⟩, _⟩ := h
  unfold lastNum at h2
  intro h27
  rw [if_neg h27] at h2
  omega
/-- what is told, without its numbers, is what was asked -/
theorem res_back {l : List Rz} {p : Pl} (h : res l = .ok p) : p.rows.map unn = l := by
  unfold res at h
  split at h
  · cases h
  · rename_i hc
    have hB := base_of (chk_ok (by simpa using hc)).2
    unfold resR at h
    split at h
    · cases h
    · rename_i s hs
      have hg := upto_good hB _ (Nat.le_refl _) hs
      have hm := upto_mean hB _ (Nat.le_refl _) hs
      have hll := like_len hg.like
      split at h
      · cases h
      · cases h
        apply List.ext_getElem?
        intro j
        by_cases hj : j < l.length
        · rw [List.getElem?_map, some_rat (l := s.rows) (by omega), some_rat hj]
          show some (unn (rat s.rows j)) = some (rat l j)
          congr 1
          have ha := like_at hg.like hj
          have hk := (like_kind hg.like hj).1
          have hf := fill_zero (hB.fill j hj)
          unfold unn
          split
          · rename_i h27
            rw [hk] at h27
            exact rz_ext8 ha (hm.ot j hj (Or.inr (by rw [h27]; exact ⟨rfl, rfl⟩)))
          · rename_i h27
            rw [hk] at h27
            refine rz_ext8 ?_ (hf h27).symm
            rw [← ha]
            rfl
        · rw [List.getElem?_eq_none (by rw [List.length_map]; show s.rows.length ≤ j; omega), List.getElem?_eq_none (by omega)]
theorem rdy_of {P : Pg} (hs : P.Sm) (h : IsOk P) : Rdy P ∧ Rdc P := by
  obtain ⟨p, h1, rfl⟩ := h
  have t := res_told8 h1
  have hq : ∀ i, i < p.rows.length → ∀ k : Int, (rat p.rows i).kind = k → decl k + nmd k = 1 → ∃ n : Nat, (rat p.rows i).n = (n : Int) ∧ n < p.qs.length := fun i hi k hk h => t.qn i hi (by rw [hk]; exact h)
  have hl : ∀ i, i < p.rows.length → 0 < least (rat p.rows i).kind → i + 1 < p.rows.length := fun i hi h => by
    have h1 := (t.kids i hi).1
    have h2 := (kid_at t.tree.whole hi (k := 0) (by omega)).1
    rwa [kid_zero] at h2
  refine ⟨⟨t.tree, ⟨fun i hi h => ?_, t.up⟩, fun i hi h => ?_, t.pos, hs.r, t.qk⟩, ⟨⟨fun i hi h => ?_, fun i hi h => ?_⟩, fun i hi h => ?_, fun i hi => ?_⟩⟩
  · rcases h with h | h | h | h | h | h | h
    all_goals exact hq i hi _ h (by decide)
  · have h' : (rat p.rows i).kind = 13 := h
    exact hl i hi (by rw [h']; decide)
  · have h' : (rat p.rows i).kind = 4 := h
    have h2 := t.kids i hi
    rw [h'] at h2
    have e1 : least 4 = 3 := by decide
    have e2 : greatest 4 = 3 := by decide
    rw [e1, e2] at h2
    show km p.rows i = 3
    omega
  · rcases h with h | h | h
    all_goals
      refine hl i hi ?_
      have h' := h
      change (rat p.rows i).kind = _ at h'
      rw [h']
      decide
  · exact hq i hi _ h (by decide)
  · have := t.num i hi
    exact ⟨by show _ ≤ (rat p.rows i).n; omega, by show (rat p.rows i).n ≤ _; omega⟩
/-- what Check tells of a policy: the fault, the lists -/
structure Co where
  e : Int
  a : Int
  vs : List (Int × Int × Int)
  ts : List Int
  rl : List Int
def chkO (P : Pg) (size : Int) (cs : Nat → Int) (nc : Nat) : Co :=
  if (ruZ P size cs nc).1 ≠ 0 then ⟨(ruZ P size cs nc).1, (ruZ P size cs nc).2, [], [], []⟩
  else if (setN P.rows (vB P.rows size cs P.rows.length) P.rows.length).1 ≠ 0 then ⟨((setN P.rows (vB P.rows size cs P.rows.length) P.rows.length).1 : Int), ((setN P.rows (vB P.rows size cs P.rows.length) P.rows.length).2 : Int), [], [], []⟩
  else ⟨0, 0, setV P.rows (vB P.rows size cs P.rows.length) P.rows.length, setT P.rows (vB P.rows size cs P.rows.length) P.rows.length, (List.range P.rows.length).map (setR P.rows (vB P.rows size cs P.rows.length) P.rows.length)⟩
theorem chkO_len (P : Pg) (size : Int) (cs : Nat → Int) (nc : Nat) : (chkO P size cs nc).vs.length ≤ P.rows.length ∧ (chkO P size cs nc).ts.length ≤ P.rows.length ∧ (chkO P size cs nc).rl.length ≤ P.rows.length := by
  unfold chkO
  split
  · simp
  · split
    · simp
    · exact ⟨setV_le _ _ _, setT_le _ _ _, by simp⟩
theorem fltZ_codes (l : List Rz) (gh : Nat → Bool) (i : Nat) : fltZ l gh i = 0 ∨ fltZ l gh i = 41 ∨ fltZ l gh i = 42 ∨ fltZ l gh i = 46 := by
  unfold fltZ
  repeat' split
  all_goals simp
theorem fltN_codes (l : List Rz) (gh : Nat → Bool) : ∀ n, (fltN l gh n).1 = 0 ∨ (fltN l gh n).1 = 41 ∨ (fltN l gh n).1 = 42 ∨ (fltN l gh n).1 = 46
  | 0 => Or.inl rfl
  | n + 1 => by
    have h1 := fltN_codes l gh n
    have h2 := fltZ_codes l gh n
    unfold fltN
    split
    · exact h1
    · split
      · exact h2
      · exact Or.inl rfl
theorem setE_codes (l : List Rz) (v : Nat → Int) (i : Nat) : setE l v i = 0 ∨ setE l v i = 43 ∨ setE l v i = 44 := by
  unfold setE
  repeat' split
  all_goals simp
theorem setN_codes (l : List Rz) (v : Nat → Int) : ∀ n, (setN l v n).1 = 0 ∨ (setN l v n).1 = 43 ∨ (setN l v n).1 = 44
  | 0 => Or.inl rfl
  | n + 1 => by
    have h1 := setN_codes l v n
    have h2 := setE_codes l v n
    unfold setN
    split
    · exact h1
    · split
      · exact h2
      · exact Or.inl rfl
theorem fitE_codes (gh : Nat → Bool) (nq : Nat) (size : Int) (cs : Nat → Int) (nc : Nat) : fitE gh nq size cs nc = 0 ∨ fitE gh nq size cs nc = 45 := by
  unfold fitE
  split
  · exact Or.inl rfl
  · exact Or.inr rfl
/-- Check says that capacities do not fit just where Fit does, if types are right -/
theorem chkO_fit {P : Pg} (hf : (fltN P.rows (ghL P.qs) P.rows.length).1 = 0) (size : Int) (cs : Nat → Int) (nc : Nat) : ((chkO P size cs nc).e = 45 ↔ fitE (ghL P.qs) P.qs.length size cs nc ≠ 0) := by
  have hr : ruZ P size cs nc = (fitE (ghL P.qs) P.qs.length size cs nc, 0) := if_pos hf
  have h1 := fitE_codes (ghL P.qs) P.qs.length size cs nc
  have h2 := setN_codes P.rows (vB P.rows size cs P.rows.length) P.rows.length
  unfold chkO
  rw [hr]
  dsimp only
  split
  · rename_i h; exact ⟨fun _ => h, fun _ => by show fitE _ _ _ _ _ = 45; omega⟩
  · rename_i h
    split
    · exact ⟨fun e => by have e' : ((setN P.rows (vB P.rows size cs P.rows.length) P.rows.length).1 : Int) = 45 := e; omega, fun e => absurd e h⟩
    · exact ⟨fun e => by have e' : (0 : Int) = 45 := e; omega, fun e => absurd e h⟩
theorem chkO_flt {P : Pg} (hf : (fltN P.rows (ghL P.qs) P.rows.length).1 ≠ 0) (size : Int) (cs : Nat → Int) (nc : Nat) : chkO P size cs nc = ⟨((fltN P.rows (ghL P.qs) P.rows.length).1 : Int), ((fltN P.rows (ghL P.qs) P.rows.length).2 : Int), [], [], []⟩ ∧ (chkO P size cs nc).e ≠ 45 := by
  have hr : ruZ P size cs nc = (((fltN P.rows (ghL P.qs) P.rows.length).1 : Int), ((fltN P.rows (ghL P.qs) P.rows.length).2 : Int)) := if_neg hf
  have h1 := fltN_codes P.rows (ghL P.qs) P.rows.length
  have e : chkO P size cs nc = ⟨((fltN P.rows (ghL P.qs) P.rows.length).1 : Int), ((fltN P.rows (ghL P.qs) P.rows.length).2 : Int), [], [], []⟩ := by
    unfold chkO
    rw [hr, if_pos (by show ((fltN P.rows (ghL P.qs) P.rows.length).1 : Int) ≠ 0; omega)]
  refine ⟨e, ?_⟩
  rw [e]
  show ((fltN P.rows (ghL P.qs) P.rows.length).1 : Int) ≠ 45
  omega
/-- under capacities that differ in what no row names Check tells the same -/
theorem chkO_same {P : Pg} {size size' : Int} {cs cs' : Nat → Int} {nc : Nat} (h0 : 0 < P.rows.length) (hs : ∀ i, i < P.rows.length → (rat P.rows i).kind = 33 → size = size') (hq : ∀ i, i < P.rows.length → (rat P.rows i).kind = 32 → cs (rat P.rows i).n.toNat = cs' (rat P.rows i).n.toNat) (h1 : (chkO P size cs nc).e ≠ 45) (h2 : (chkO P size' cs' nc).e ≠ 45) : chkO P size cs nc = chkO P size' cs' nc := by
  by_cases hf : (fltN P.rows (ghL P.qs) P.rows.length).1 = 0
  · have e1 : fitE (ghL P.qs) P.qs.length size cs nc = 0 := Decidable.byContradiction fun h => h1 ((chkO_fit hf size cs nc).2 h)
    have e2 : fitE (ghL P.qs) P.qs.length size' cs' nc = 0 := Decidable.byContradiction fun h => h2 ((chkO_fit hf size' cs' nc).2 h)
    have r1 : ruZ P size cs nc = (0, 0) := by unfold ruZ; rw [if_pos hf, e1]
    have r2 : ruZ P size' cs' nc = (0, 0) := by unfold ruZ; rw [if_pos hf, e2]
    unfold chkO
    rw [r1, r2, vB_same h0 hs hq]
  · rw [(chkO_flt hf size cs nc).1, (chkO_flt hf size' cs' nc).1]
theorem iv_tC (l : List Int) : iv l = tC l := rfl
theorem rowI_vals {w : World} {g n : Nat} {f : Nat → Int} (h : RowI w g n f) : IsVals w (some ⟨g, 0, none⟩) (iv ((List.range n).map f)) := fun k x hx => by
  have hk : k < n := by have := (List.getElem?_eq_some_iff.1 hx).1; simpa [iv] using this
  simp [iv, hk] at hx
  subst hx
  exact ⟨g, 0, rfl, h.lt, by rw [Nat.zero_add]; exact h.cell hk⟩
/-- Check of a policy that names.Check takes, in one form -/
theorem tcheck_out {P : Pg} {ao qo vo tto uo oo co : Option Addr} {ac qc vc tc uc oc nc cc : Nat} {size : Int} {cs : Nat → Int} {w : World} (h : RdG w P ao qo vo tto uo oo) (hs : P.Sm) (hnil : ao = none → ac = 0) (hok : IsOk P) (hR : Rdy P) (hD : Rdc P) (hc : IsVals w co (fL nc (fun i => .int .i64 (cs i)))) (hcl : nc ≤ 17592186043904) (hsz : in64 size) (hcs : ∀ i, in64 (cs i)) :
    Calls Tryz.prog 7 #[pvG P ao qo vo tto uo oo ac qc vc tc uc oc, .agg #[.int .i64 size, .slice co nc cc]] w fun e w' => Below w.heap.size w w' ∧ ∃ v1 t1 r1 c1 c2 c3, e = .returned (.tuple #[.agg #[.slice v1 (chkO P size cs nc).vs.length c1, .slice t1 (chkO P size cs nc).ts.length c2, .slice r1 (chkO P size cs nc).rl.length c3], .agg #[.int .i64 (chkO P size cs nc).e, .int .i64 (chkO P size cs nc).a]]) ∧ IsVals w' v1 (vC (chkO P size cs nc).vs) ∧ IsVals w' t1 (iv (chkO P size cs nc).ts) ∧ IsVals w' r1 (iv (chkO P size cs nc).rl) ∧ ∀ a, v1 = some a ∨ t1 = some a ∨ r1 = some a → w.heap.size ≤ a.block := by
  refine Calls.mono (tcheck_any h hs hnil (fun _ => hR) (fun _ => hD) hc hcl hsz hcs) ?_
  rintro e w' ⟨hb, hq⟩
  refine ⟨hb, ?_⟩
  have hn : ∀ o : Option Addr, IsVals w' o [] := fun o k x hx => by cases hx
  rcases hq with ⟨h1, _⟩ | ⟨_, h1, he⟩ | ⟨_, h1, ⟨h2, he⟩ | ⟨h2, vv, tv, rb, he, hrb, hr, hv, ht⟩⟩
  · exact absurd hok h1
  · have e : chkO P size cs nc = ⟨(ruZ P size cs nc).1, (ruZ P size cs nc).2, [], [], []⟩ := if_pos h1
    rw [e]
    exact ⟨none, none, none, 0, 0, 0, he, hn _, hn _, hn _, fun a h => (by rcases h with h | h | h <;> cases h)⟩
  · have e : chkO P size cs nc = ⟨((setN P.rows (vB P.rows size cs P.rows.length) P.rows.length).1 : Int), ((setN P.rows (vB P.rows size cs P.rows.length) P.rows.length).2 : Int), [], [], []⟩ := by unfold chkO; rw [if_neg (by rw [h1]; exact fun e => e rfl), if_pos h2]
    rw [e]
    exact ⟨none, none, none, 0, 0, 0, he, hn _, hn _, hn _, fun a h => (by rcases h with h | h | h <;> cases h)⟩
  · have e : chkO P size cs nc = ⟨0, 0, setV P.rows (vB P.rows size cs P.rows.length) P.rows.length, setT P.rows (vB P.rows size cs P.rows.length) P.rows.length, (List.range P.rows.length).map (setR P.rows (vB P.rows size cs P.rows.length) P.rows.length)⟩ := by unfold chkO; rw [if_neg (by rw [h1]; exact fun e => e rfl), if_neg (by rw [h2]; exact fun e => e rfl)]
    rw [e]
    obtain ⟨v1, c1, rfl⟩ := own_form hv
    obtain ⟨t1, c2, rfl⟩ := own_form ht
    exact ⟨v1, t1, some ⟨rb, 0, none⟩, c1, c2, P.rows.length, by rw [he]; simp, vals_of hv, vals_of ht, rowI_vals hr, fun a h => (by
      rcases h with h | h | h
      · have := (World.ownsRow.lt hv a.block (by rw [h]; rfl)).1; omega
      · have := (World.ownsRow.lt ht a.block (by rw [h]; rfl)).1; omega
      · cases h; exact hrb)⟩
end Go.Proofs.YtnpdblcfhbamiaaGreat.Nm.Ty
