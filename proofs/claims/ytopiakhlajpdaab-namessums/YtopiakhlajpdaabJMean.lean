import Derived.Test.YtopiakhlajpdaabJNmD
namespace Go.Proofs.Ytopiakhlajpdaab.Nm
open Go.RowKit Go.Maps Go.Proofs.Ytopiakhlajpdaab.Sp Go.Proofs.Ytopiakhlajpdaab.Lx Go.Proofs.Ytopiakhlajpdaab.Gr

theorem rat_numbN {l : List Rz} {i j n : Nat} (h : j ≠ i) : rat (numb l i n) j = rat l j := by
  simp only [rat, numb, List.getD_eq_getElem?_getD, List.getElem?_set, if_neg (Ne.symm h)]
/-- the name of a thing, by its kind and number -/
def nameOf (l0 : List Rz) (qs : List (ByteArray × Bool)) (vs ts : List ByteArray) (us : List Nat) (k n : Nat) : Option ByteArray :=
  if k = 1 then (qs[n]?).map (·.1) else if k = 2 then vs[n]? else if k = 3 then ts[n]? else if k = 4 then (us[n]?).map (fun u => (rat l0 (u - 1)).name) else none
abbrev Rs.nm (s : Rs) (l0 : List Rz) (k n : Nat) : Option ByteArray := nameOf l0 s.qs s.vs s.ts s.us k n
theorem get_more {α : Type} {l m : List α} {n : Nat} {x : α} (h : l[n]? = some x) : (l ++ m)[n]? = some x := by
  rw [List.getElem?_append_left (List.getElem?_eq_some_iff.1 h).1]
  exact h
theorem dec_mono {l0 : List Rz} {s : Rs} {i k n : Nat} {x : ByteArray} (h : s.nm l0 k n = some x) : (s.dec i).nm l0 k n = some x := by
  unfold Rs.nm nameOf at *
  by_cases h1 : k = 1
  · rw [if_pos h1] at h ⊢
    cases hq : s.qs[n]? with
    | none => rw [hq] at h; cases h
    | some q =>
      rw [hq] at h
      have : (s.dec i).qs[n]? = some q := by
        show (if (rat s.rows i).kind = 2 then s.qs ++ [((rat s.rows i).name, false)] else if (rat s.rows i).kind = 3 then s.qs ++ [((rat s.rows i).name, true)] else s.qs)[n]? = some q
        split
        · exact get_more hq
        · split
          · exact get_more hq
          · exact hq
      rw [this]
      exact h
  · rw [if_neg h1] at h ⊢
    by_cases h2 : k = 2
    · rw [if_pos h2] at h ⊢
      show (if (rat s.rows i).kind = 4 then s.vs ++ [(rat s.rows i).name] else s.vs)[n]? = some x
      split
      · exact get_more h
      · exact h
    · rw [if_neg h2] at h ⊢
      by_cases h3 : k = 3
      · rw [if_pos h3] at h ⊢
        show (if (rat s.rows i).kind = 5 then s.ts ++ [(rat s.rows i).name] else s.ts)[n]? = some x
        split
        · exact get_more h
        · exact h
      · rw [if_neg h3] at h ⊢
        by_cases h4 : k = 4
        · rw [if_pos h4] at h ⊢
          cases hu : s.us[n]? with
          | none => rw [hu] at h; cases h
          | some u =>
            rw [hu] at h
            have : (s.dec i).us[n]? = some u := by
              show (if (rat s.rows i).kind = 7 then s.us ++ [i + 1] else s.us)[n]? = some u
              split
              · exact get_more hu
              · exact hu
            rw [this]
            exact h
        · rw [if_neg h4] at h
          cases h
theorem dec_new {l0 : List Rz} {s : Rs} {i : Nat} (hn : (rat s.rows i).name = (rat l0 i).name) (hd : decl (rat s.rows i).kind ≠ 0) : (s.dec i).nm l0 (decl (rat s.rows i).kind) (s.cnt (decl (rat s.rows i).kind)) = some (rat s.rows i).name := by
  unfold Rs.nm nameOf
  have hq : (s.dec i).qs = if (rat s.rows i).kind = 2 then s.qs ++ [((rat s.rows i).name, false)] else if (rat s.rows i).kind = 3 then s.qs ++ [((rat s.rows i).name, true)] else s.qs := rfl
  have hv : (s.dec i).vs = if (rat s.rows i).kind = 4 then s.vs ++ [(rat s.rows i).name] else s.vs := rfl
  have ht : (s.dec i).ts = if (rat s.rows i).kind = 5 then s.ts ++ [(rat s.rows i).name] else s.ts := rfl
  have hu : (s.dec i).us = if (rat s.rows i).kind = 7 then s.us ++ [i + 1] else s.us := rfl
  rcases decl_cases (rat s.rows i).kind with ⟨e, ed⟩ | ⟨e, ed⟩ | ⟨e, ed⟩ | ⟨e, ed⟩ | ⟨e, ed⟩ | ⟨_, _, _, _, _, ed⟩
  · rw [ed, hq, e]
    simp [Rs.cnt]
  · rw [ed, hq, e]
    simp [Rs.cnt]
  · rw [ed, hv, e]
    simp [Rs.cnt]
  · rw [ed, ht, e]
    simp [Rs.cnt]
  · rw [ed, hu, e]
    simp [Rs.cnt]
    simpa [rat, List.getD_eq_getElem?_getD] using hn.symm
  · exact absurd ed hd
/-- what the numbers in the rows mean, of the first i -/
structure Mean (l0 : List Rz) (i : Nat) (s : Rs) : Prop where
  kn : ∀ e ∈ s.known, s.nm l0 e.2.1 e.2.2.1 = some e.1
  rw : ∀ j, j < i → j < l0.length → decl (rat l0 j).kind ≠ 0 ∨ nmd (rat l0 j).kind ≠ 0 → ∃ n : Nat, (rat s.rows j).n = (n : Int) ∧ s.nm l0 (decl (rat l0 j).kind + nmd (rat l0 j).kind) n = some (rat l0 j).name
  ot : ∀ j, j < l0.length → i ≤ j ∨ (decl (rat l0 j).kind = 0 ∧ nmd (rat l0 j).kind = 0) → (rat s.rows j).n = (rat l0 j).n
  up : ∀ u ∈ s.us, 1 ≤ u
theorem mean_start (l : List Rz) : Mean l 0 (start l) := ⟨fun e he => by simp [start] at he, fun j hj => by omega, fun j _ _ => rfl, fun u hu => by simp [start] at hu⟩
theorem mean_skip {l0 : List Rz} {i : Nat} {s : Rs} (h : Mean l0 i s) (hd : decl (rat l0 i).kind = 0) (hn : nmd (rat l0 i).kind = 0) : Mean l0 (i + 1) s :=
  ⟨h.kn, fun j hj hl hk => by
    by_cases e : j = i
    · subst e
      rcases hk with hk | hk
      · exact absurd hd hk
      · exact absurd hn hk
    · exact h.rw j (by omega) hl hk, fun j hl ho => by
    by_cases e : j = i
    · subst e
      exact h.ot j hl (Or.inl (Nat.le_refl _))
    · refine h.ot j hl ?_
      rcases ho with ho | ho
      · exact Or.inl (by omega)
      · exact Or.inr ho, h.up⟩
theorem mean_dec {l0 : List Rz} {i m : Nat} {s : Rs} (h : Mean l0 i s) (hg : Good l0 m s) (hi : i < l0.length) (hd : decl (rat s.rows i).kind ≠ 0) : Mean l0 (i + 1) (s.dec i) := by
  have hk := like_kind hg.like hi
  have hil : i < s.rows.length := by rw [like_len hg.like]; exact hi
  have hnew := dec_new (l0 := l0) hk.2.1 hd
  have hrows : (s.dec i).rows = numb s.rows i (s.cnt (decl (rat s.rows i).kind)) := rfl
  have hn0 : nmd (rat l0 i).kind = 0 := by
    rcases decl_cases (rat s.rows i).kind with ⟨e, _⟩ | ⟨e, _⟩ | ⟨e, _⟩ | ⟨e, _⟩ | ⟨e, _⟩ | ⟨_, _, _, _, _, e⟩
    all_goals first | exact absurd e hd | (rw [← hk.1, e]; rfl)
  refine ⟨fun e he => ?_, fun j hj hl hkd => ?_, fun j hl ho => ?_, fun u hu => ?_⟩
  · have he2 : e = ((rat s.rows i).name, decl (rat s.rows i).kind, s.cnt (decl (rat s.rows i).kind), endp (numb s.rows i (s.cnt (decl (rat s.rows i).kind))) i) ∨ e ∈ s.known := List.mem_cons.1 he
    rcases he2 with rfl | he2
    · exact hnew
    · exact dec_mono (h.kn e he2)
  · by_cases e : j = i
    · subst e
      refine ⟨s.cnt (decl (rat s.rows j).kind), ?_, ?_⟩
      · rw [hrows, rat_numb hil]
      · rw [hn0, Nat.add_zero, ← hk.1, ← hk.2.1]
        exact hnew
    · obtain ⟨n, h1, h2⟩ := h.rw j (by omega) hl hkd
      exact ⟨n, by rw [hrows, rat_numbN e]; exact h1, dec_mono h2⟩
  · have e : j ≠ i := fun e => by
      subst e
      rcases ho with ho | ho
      · omega
      · rw [hk.1] at hd
        exact hd ho.1
    rw [hrows, rat_numbN e]
    refine h.ot j hl ?_
    rcases ho with ho | ho
    · exact Or.inl (by omega)
    · exact Or.inr ho
  · have hu2 : u ∈ (if (rat s.rows i).kind = 7 then s.us ++ [i + 1] else s.us) := hu
    split at hu2
    · rcases List.mem_append.1 hu2 with hu3 | hu3
      · exact h.up u hu3
      · rw [List.mem_singleton.1 hu3]; omega
    · exact h.up u hu2
theorem mean_ref {l0 : List Rz} {i m k n p : Nat} {s : Rs} (h : Mean l0 i s) (hg : Good l0 m s) (hi : i < l0.length) (hd : decl (rat l0 i).kind = 0) (hlk : lk s.known (rat s.rows i).name = some (k, n, p)) (hk : k = nmd (rat s.rows i).kind) : Mean l0 (i + 1) { s with rows := numb s.rows i n } := by
  have hkd := like_kind hg.like hi
  have hil : i < s.rows.length := by rw [like_len hg.like]; exact hi
  have hm := h.kn _ (lk_mem hlk)
  refine ⟨h.kn, fun j hj hl hx => ?_, fun j hl ho => ?_, h.up⟩
  · by_cases e : j = i
    · subst e
      refine ⟨n, ?_, ?_⟩
      · show (rat (numb s.rows j n) j).n = _
        rw [rat_numb hil]
      · rw [hd, Nat.zero_add, ← hkd.1, ← hk, ← hkd.2.1]
        exact hm
    · obtain ⟨q, h1, h2⟩ := h.rw j (by omega) hl hx
      exact ⟨q, by show (rat (numb s.rows i n) j).n = _; rw [rat_numbN e]; exact h1, h2⟩
  · have e : j ≠ i := fun e => by
      subst e
      rcases ho with ho | ho
      · omega
      · have := hg.kn _ (lk_mem hlk)
        dsimp only at this
        rw [hk, hkd.1, ho.2] at this
        omega
    show (rat (numb s.rows i n) j).n = _
    rw [rat_numbN e]
    refine h.ot j hl ?_
    rcases ho with ho | ho
    · exact Or.inl (by omega)
    · exact Or.inr ho
theorem upto_mean {l : List Rz} (hB : Base l) (n : Nat) (hn : n ≤ l.length) {s : Rs} (h : upto (start l) n = .ok s) : Mean l n s := by
  induction n generalizing s with
  | zero =>
    cases h
    exact mean_start l
  | succ n ih =>
    simp only [upto] at h
    split at h
    · cases h
    · rename_i t ht
      have hc := ih (by omega) ht
      have hg := upto_good hB n (by omega) ht
      have hkd := like_kind hg.like (show n < l.length by omega)
      split at h
      · cases h
      · rename_i t' h3
        cases h
        cases h1 : askN n t 1 with
        | error c => rw [askN_err h1 2] at h3; cases h3
        | ok t1 =>
          cases h2 : askN n t 2 with
          | error c => rw [askN_err h2 1] at h3; cases h3
          | ok t2 =>
            have a1 : askD n t = .ok t1 := (askN_succ (j := 0) rfl).symm.trans h1
            have a2 : askM n t1 = .ok t2 := (askN_succ h1).symm.trans h2
            have a3 : askH n t2 = .ok s := (askN_succ h2).symm.trans h3
            have hH : ∀ {a : Rs}, Mean l (n + 1) t2 → askH n t2 = .ok a → Mean l (n + 1) a := fun hm ha => by
              unfold askH at ha
              split at ha
              · cases ha; exact hm
              · split at ha
                · cases ha
                · cases ha
                  exact ⟨hm.kn, hm.rw, hm.ot, hm.up⟩
            refine hH ?_ a3
            have hg1 := good_D hB (by omega) hg a1
            have hk1 := like_kind hg1.like (show n < l.length by omega)
            unfold askD at a1
            split at a1
            · rename_i hd
              cases a1
              unfold askM at a2
              split at a2
              · rename_i hn0
                cases a2
                exact mean_skip hc (by rw [← hkd.1]; exact hd) (by rw [← hkd.1]; exact hn0)
              · split at a2
                · cases a2
                · rename_i k q p hlk
                  split at a2
                  · cases a2
                  · split at a2
                    · cases a2
                    · rename_i hk
                      cases a2
                      exact mean_ref hc hg (by omega) (by rw [← hkd.1]; exact hd) hlk (by simpa using hk)
            · rename_i hd
              split at a1
              · cases a1
              · split at a1
                · cases a1
                · cases a1
                  have hn0 : nmd (rat t.rows n).kind = 0 := by
                    rcases decl_cases (rat t.rows n).kind with ⟨e, _⟩ | ⟨e, _⟩ | ⟨e, _⟩ | ⟨e, _⟩ | ⟨e, _⟩ | ⟨_, _, _, _, _, e⟩
                    all_goals first | exact absurd e hd | (rw [e]; rfl)
                  have e2 : askM n (t.dec n) = .ok (t.dec n) := by
                    unfold askM
                    rw [if_pos (by rw [hk1.1, ← hkd.1]; exact hn0)]
                  rw [e2] at a2
                  cases a2
                  exact mean_dec hc hg (by omega) hd
end Go.Proofs.Ytopiakhlajpdaab.Nm

namespace Go.Proofs.Ytopiakhlajpdaab.Nm
open Go.RowKit Go.Maps Go.Proofs.Ytopiakhlajpdaab.Sp Go.Proofs.Ytopiakhlajpdaab.Lx Go.Proofs.Ytopiakhlajpdaab.Gr

/-- the policy that is told of rows; nothing, where there is a fault -/
def zeroG : Pg := ⟨⟨#[]⟩, [], [], [], [], [], [], 0⟩
def resP (l : List Rz) : Pg := match res l with | .error _ => zeroG | .ok p => p.g
def resC (l : List Rz) : Nat × Nat := match res l with | .error ci => ci | .ok _ => (0, 0)
theorem resP_sm {l : List Rz} (hl : l.length ≤ 2932031007317) : (resP l).Sm := by
  unfold resP
  cases h : res l with
  | error ci => exact ⟨by simp [zeroG], by simp [zeroG], by simp [zeroG], by simp [zeroG], by simp [zeroG], by simp [zeroG]⟩
  | ok p => exact (res_sm hl h).1
theorem zero_rd (W : World) : RdG W zeroG none none none none none none := ⟨fun i x hx => by simp [zeroG] at hx, fun i x hx => by simp [zeroG, qF] at hx, fun i x hx => by simp [zeroG] at hx, fun i x hx => by simp [zeroG] at hx, fun i x hx => by simp [zeroG] at hx, fun i x hx => by simp [zeroG] at hx⟩
/-- what is told can be read, wherever its memory is as it was -/
theorem IsPl.all {w : World} {base : Nat} {v : Value} {p : Pl} (h : IsPl w base v p) : ∃ rb qo vo tto uo oo ac qc vc tc uc oc, v = pv p (some ⟨rb, 0, none⟩) qo vo tto uo oo ac qc vc tc uc oc ∧ p.us.length ≤ uc ∧ ∀ W : World, (∀ k, base ≤ k → k < w.heap.size → W.heap[k]? = w.heap[k]?) → Rd W p (some ⟨rb, 0, none⟩) qo vo tto uo oo ∧ IsNats W uo p.us := by
  obtain ⟨rb, cap, qv, vv, tv, uv, ov, rfl, hrb, hr, hq, hv, ht, hu, ho⟩ := h.ex
  obtain ⟨qo, qc, rfl⟩ := own_form hq
  obtain ⟨vo, vc, rfl⟩ := own_form hv
  obtain ⟨tto, tc, rfl⟩ := own_form ht
  obtain ⟨uo, uc, rfl⟩ := own_form hu
  obtain ⟨oo, oc, rfl⟩ := own_form ho
  refine ⟨rb, qo, vo, tto, uo, oo, cap, qc, vc, tc, uc, oc, rfl, (nats_of hu).2, fun W hW => ?_⟩
  have kp : ∀ {T : TypeId} {sz n : Nat} {v' : Value} {xs : List Value}, w.ownsRow base T sz v' n xs → W.ownsRow base T sz v' n xs := fun h1 => own_keepB h1 (fun k hk => hW k (World.ownsRow.lt h1 k hk).1 (World.ownsRow.lt h1 k hk).2)
  refine ⟨⟨(hr.same (hW rb hrb hr.lt)).rz, vals_of (kp hq), vals_of (kp hv), vals_of (kp ht), ?_, vals_of (kp ho)⟩, (nats_of (kp hu)).1⟩
  have := vals_of (kp hu)
  simpa [iv, nv, List.map_map, Function.comp_def] using this
theorem rd_g {W : World} {p : Pl} {ao qo vo tto uo oo : Option Addr} (h : Rd W p ao qo vo tto uo oo) : RdG W p.g ao qo vo tto uo oo := ⟨h.r, h.q, h.v, h.t, h.u, h.o⟩
/-- what Resolve tells, of any rows -/
theorem told_g {w w' : World} {l : List Rz} {e : Ending} (h : Told w (res l) e w') : ∃ ao qo vo tto uo oo ac qc vc tc uc oc, e = .returned (.tuple #[pvG (resP l) ao qo vo tto uo oo ac qc vc tc uc oc, .agg #[.int .i64 ((resC l).1 : Int), .int .i64 ((resC l).2 : Int)]]) ∧ Below w.heap.size w w' ∧ ∀ W : World, (∀ k, w.heap.size ≤ k → k < w'.heap.size → W.heap[k]? = w'.heap[k]?) → RdG W (resP l) ao qo vo tto uo oo := by
  obtain ⟨hb, hm⟩ := h
  unfold resP resC
  cases hr : res l with
  | error ci =>
    rw [hr] at hm
    exact ⟨none, none, none, none, none, none, 0, 0, 0, 0, 0, 0, hm, hb, fun W _ => zero_rd W⟩
  | ok p =>
    rw [hr] at hm
    obtain ⟨v, he, hp⟩ := hm
    obtain ⟨rb, qo, vo, tto, uo, oo, ac, qc, vc, tc, uc, oc, rfl, _, hall⟩ := hp.all
    refine ⟨some ⟨rb, 0, none⟩, qo, vo, tto, uo, oo, ac, qc, vc, tc, uc, oc, ?_, hb, fun W hW => rd_g (hall W hW).1⟩
    rw [he]
    simp [pvG, pv, Pl.g]
end Go.Proofs.Ytopiakhlajpdaab.Nm

namespace Go.Proofs.Ytopiakhlajpdaab.Nm
open Go.RowKit Go.Maps Go.Proofs.Ytopiakhlajpdaab.Sp Go.Proofs.Ytopiakhlajpdaab.Lx Go.Proofs.Ytopiakhlajpdaab.Gr

theorem filled_num {r : Rz} (h : filled r = true) : 0 ≤ r.n ∧ r.n ≤ 1073741824 ∧ (r.kind ≠ 27 → r.n = 0) := by
  unfold filled at h
  simp only [Bool.and_eq_true, wtn, decide_eq_true_eq] at h
  obtain ⟨_, _, ⟨h1, h2⟩, _⟩ := h
  unfold lastNum at h2
  split at h2
  · rename_i h27
    exact ⟨h1, h2, fun e => absurd h27 e⟩
  · exact ⟨h1, by omega, fun _ => by omega⟩
/-- what a policy that was told says of its rows -/
structure Told7 (l : List Rz) (p : Pl) : Prop where
  len : p.rows.length = l.length
  pos : 0 < l.length
  onl : p.on.length = p.qs.length
  row : ∀ j, j < l.length → (rat p.rows j).kind = (rat l j).kind ∧ (rat p.rows j).name = (rat l j).name ∧ 0 ≤ (rat p.rows j).n ∧ (rat p.rows j).n ≤ 1073741824 ∧ (decl (rat l j).kind + nmd (rat l j).kind = 0 ∨ ∃ n : Nat, (rat p.rows j).n = (n : Int) ∧ nameOf l p.qs p.vs p.ts p.us (decl (rat l j).kind + nmd (rat l j).kind) n = some (rat l j).name)
  up : ∀ u ∈ p.us, 1 ≤ u ∧ u < l.length
  back : p.rows.map unn = l
  sm : p.g.Sm
theorem nm_lt {l : List Rz} {qs : List (ByteArray × Bool)} {vs ts : List ByteArray} {us : List Nat} {k n : Nat} {x : ByteArray} (h : nameOf l qs vs ts us k n = some x) : n < qs.length ∨ n < vs.length ∨ n < ts.length ∨ n < us.length := by
  unfold nameOf at h
  split at h
  · cases hq : qs[n]? with
    | none => rw [hq] at h; cases h
    | some q => exact Or.inl (List.getElem?_eq_some_iff.1 hq).1
  · split at h
    · exact Or.inr (Or.inl (List.getElem?_eq_some_iff.1 h).1)
    · split at h
      · exact Or.inr (Or.inr (Or.inl (List.getElem?_eq_some_iff.1 h).1))
      · split at h
        · cases hu : us[n]? with
          | none => rw [hu] at h; cases h
          | some u => exact Or.inr (Or.inr (Or.inr (List.getElem?_eq_some_iff.1 hu).1))
        · cases h
theorem rz_ext {a b : Rz} (h : clr a = clr b) (hn : a.n = b.n) : a = b := by
  cases a
  cases b
  simp [clr] at h hn ⊢
  exact ⟨h.1, h.2.1, h.2.2.1, hn, h.2.2.2⟩
theorem res_told7 {l : List Rz} {p : Pl} (hl : l.length ≤ 2932031007317) (h : res l = .ok p) : Told7 l p := by
  have hsm := (res_sm hl h).1
  unfold res at h
  split at h
  · cases h
  · rename_i hc
    have hB := base_of (chk_ok (by simpa using hc)).2
    unfold resR at h
    split at h
    · cases h
    · rename_i s hs
      have hg := upto_good hB _ (Nat.le_refl _) hs
      have hm := upto_mean hB _ (Nat.le_refl _) hs
      have hll := like_len hg.like
      split at h
      · cases h
      · cases h
        have hot : ∀ j, j < l.length → decl (rat l j).kind = 0 ∧ nmd (rat l j).kind = 0 → (rat s.rows j).n = (rat l j).n := fun j hj h0 => hm.ot j hj (Or.inr h0)
        refine ⟨hll, hB.pos, onsOf_len _ _, fun j hj => ?_, fun u hu => ⟨hm.up u hu, hg.ul u hu⟩, ?_, hsm⟩
        · have hk := like_kind hg.like hj
          have hf := filled_num (hB.fill j hj)
          refine ⟨hk.1, hk.2.1, ?_⟩
          by_cases h0 : decl (rat l j).kind + nmd (rat l j).kind = 0
          · have e := hot j hj (by omega)
            exact ⟨by rw [e]; exact hf.1, by rw [e]; exact hf.2.1, Or.inl h0⟩
          · obtain ⟨n, h1, h2⟩ := hm.rw j hj hj (by omega)
            refine ⟨by rw [h1]; omega, ?_, Or.inr ⟨n, h1, h2⟩⟩
            rw [h1]
            have := nm_lt h2
            have := hg.q
            have := hg.v
            have := hg.t
            have := hg.u
            omega
        · apply List.ext_getElem?
          intro j
          by_cases hj : j < l.length
          · rw [List.getElem?_map, some_rat (l := s.rows) (by omega), some_rat hj]
            show some (unn (rat s.rows j)) = some (rat l j)
            congr 1
            have ha := like_at hg.like hj
            have hk := (like_kind hg.like hj).1
            have hf := filled_num (hB.fill j hj)
            unfold unn
            split
            · rename_i h27
              rw [hk] at h27
              exact rz_ext ha (hot j hj (by rw [h27]; exact ⟨rfl, rfl⟩))
            · rename_i h27
              rw [hk] at h27
              refine rz_ext ?_ (hf.2.2 h27).symm
              rw [← ha]
              rfl
          · rw [List.getElem?_eq_none (by rw [List.length_map]; show s.rows.length ≤ j; omega), List.getElem?_eq_none (by omega)]
/-- a number turned -/
abbrev turn (p : Pl) (a : Nat) (b : Int) : Pg := { p.g with rows := p.rows.set a { rat p.rows a with n := (rat p.rows a).n + b } }
theorem turned {l : List Rz} {p : Pl} (h : res l = .ok p) (ht : Told7 l p) {a : Nat} (ha : a < p.rows.length) (hk : (rat p.rows a).kind ≠ 27) {b : Int} (hb : 0 < b) : ¬ ∃ p', res ((turn p a b).rows.map unn) = .ok p' ∧ p'.g = turn p a b := by
  rintro ⟨p', h1, h2⟩
  have e : (turn p a b).rows.map unn = l := by
    show (p.rows.set a _).map unn = l
    rw [List.map_set]
    have e2 : unn { rat p.rows a with n := (rat p.rows a).n + b } = unn (rat p.rows a) := by
      unfold unn
      rw [if_neg hk, if_neg hk]
    rw [e2, ← ht.back]
    apply List.ext_getElem?
    intro j
    rw [List.getElem?_set]
    split
    · rename_i e3
      subst e3
      rw [List.length_map, if_pos ha, List.getElem?_map, some_rat ha]
      rfl
    · rfl
  rw [e, h] at h1
  cases h1
  have h3 := congrArg (fun q : Pg => (rat q.rows a).n) h2
  dsimp only at h3
  have h4 : (rat p.g.rows a).n = (rat p.rows a).n := rfl
  have h5 : rat (turn p a b).rows a = { rat p.rows a with n := (rat p.rows a).n + b } := by
    show rat (p.rows.set a _) a = _
    exact rat_some (by rw [List.getElem?_set]; simp [ha])
  rw [h4, h5] at h3
  dsimp only at h3
  omega
end Go.Proofs.Ytopiakhlajpdaab.Nm

namespace Go.Proofs.Ytopiakhlajpdaab.Nm
open Go.RowKit Go.Maps Go.Proofs.Ytopiakhlajpdaab.Sp Go.Proofs.Ytopiakhlajpdaab.Lx Go.Proofs.Ytopiakhlajpdaab.Gr

set_option maxHeartbeats 1600000 in
theorem declares_any (k : Int) (w : World) : Calls Try.prog 14 #[.int .i64 k] w fun e w' => e = .returned (.int .i64 (decl k : Nat)) ∧ w' = w := by
  have HD : Hid (decl k = if k = 2 ∨ k = 3 then 1 else if k = 4 then 2 else if k = 5 then 3 else if k = 7 then 4 else 0) := rfl
  generalize decl k = z at *
  go_enter Try.func14, Try.ntmps14
  go_wp2
  all_goals
    go_ret
    refine ⟨?_, rfl⟩
    rw [HD.out]
    simp_all
set_option maxHeartbeats 3200000 in
theorem names_any (k : Int) (w : World) : Calls Try.prog 15 #[.int .i64 k] w fun e w' => e = .returned (.int .i64 (nmd k : Nat)) ∧ w' = w := by
  have HD : Hid (nmd k = if k = 8 ∨ k = 9 ∨ k = 16 ∨ k = 17 ∨ k = 21 ∨ k = 19 ∨ k = 20 ∨ k = 24 ∨ k = 26 ∨ k = 31 ∨ k = 32 ∨ k = 35 ∨ k = 36 ∨ k = 37 then 1 else if k = 14 ∨ k = 28 then 2 else if k = 15 ∨ k = 38 then 3 else if k = 22 then 4 else 0) := rfl
  generalize nmd k = z at *
  go_enter Try.func15, Try.ntmps15
  go_wp2
  all_goals
    go_ret
    refine ⟨?_, rfl⟩
    rw [HD.out]
    simp_all
theorem far_yes {ao : Option Addr} {n cap : Nat} (h : 65536 < n) (hn : n ≤ 2932031007317) (w : World) : Calls Try.prog 6 #[.slice ao n cap] w fun e w' => e = .returned (.bool true) ∧ w = w' := by
  have h1 : decide ((65536 : Int) < (n : Int)) = true := decide_eq_true (by omega)
  have h2 : (65536 : Int) < (n : Int) := by omega
  go_enter Try.func6, Try.ntmps6
  go_wp2
  go_ret
  exact ⟨rfl, rfl⟩
theorem far_no {ao : Option Addr} {n cap : Nat} (h : ¬ 65536 < n) (w : World) : Calls Try.prog 6 #[.slice ao n cap] w fun e w' => e = .returned (.bool false) ∧ w = w' := by
  have h1 : decide ((65536 : Int) < (n : Int)) = false := decide_eq_false (by omega)
  have h3 : decide (65536 < n) = false := decide_eq_false h
  go_enter Try.func6, Try.ntmps6
  go_wp2
  go_ret
  exact ⟨rfl, rfl⟩
/-- round -/
def rnd7 (a : Int) (n : Nat) : Nat := if a.tmod n < 0 then (a.tmod n + n).toNat else (a.tmod n).toNat
theorem rnd7_lt (a : Int) {n : Nat} (hn : 0 < n) : rnd7 a n < n := by
  have h1 := Int.tmod_lt_of_pos a (show (0 : Int) < n by omega)
  have h2 := Int.lt_tmod_of_pos a (show (0 : Int) < n by omega)
  unfold rnd7
  split <;> omega
set_option maxHeartbeats 1600000 in
theorem round7 (a : Int) (n : Nat) (hn : 0 < n) (hn2 : n ≤ 2932031007317) (w : World) : Calls Try.prog 21 #[.int .i64 a, .int .i64 (n : Int)] w fun r w' => r = .returned (.int .i64 (rnd7 a n : Nat)) ∧ w' = w := by
  have h1 := Int.tmod_lt_of_pos a (show (0 : Int) < n by omega)
  have h2 := Int.lt_tmod_of_pos a (show (0 : Int) < n by omega)
  have hw : IntKind.i64.wrap (a.tmod n) = a.tmod n := by
    rw [IntKind.wrap_i64]
    generalize a.tmod n = z at *
    omega
  have h3 : ((n : Int) == 0) = false := by simp; omega
  have h4 : (n : Int) ≤ 2932031007317 := by omega
  by_cases h0 : a.tmod n < 0
  · have HR : Hid (rnd7 a n = (a.tmod n + n).toNat) := by show _ = _; unfold rnd7; rw [if_pos h0]
    go_enter Try.func21, Try.ntmps21
    go_wp2
    go_ret
    exact ⟨by rw [HR.out, Int.toNat_of_nonneg (by omega)]; rfl, rfl⟩
  · have h5 : decide (a.tmod n < 0) = false := by simp; omega
    have HR : Hid (rnd7 a n = (a.tmod n).toNat) := by show _ = _; unfold rnd7; rw [if_neg h0]
    go_enter Try.func21, Try.ntmps21
    go_wp2
    go_ret
    exact ⟨by rw [HR.out, Int.toNat_of_nonneg (by omega)]; rfl, rfl⟩
end Go.Proofs.Ytopiakhlajpdaab.Nm
