import Derived.Test.YtjbpbgdhooggeaaJBase
import Derived.Test.YtjbpbgdhooggeaaJNmC
import Derived.Test.YtjbpbgdhooggeaaJLend
import Derived.Test.YtjbpbgdhooggeaaJNmD
import Derived.Test.YtjbpbgdhooggeaaJLex
namespace Go.Proofs.Ytjbpbgdhooggeaa.Nm
open Go.RowKit

/-- a letter and a number's three digits -/
def nbr (c : UInt8) (n : Nat) : ByteArray := ⟨#[c, UInt8.ofNat (48 + n / 100), UInt8.ofNat (48 + n / 10 % 10), UInt8.ofNat (48 + n % 10)]⟩
end Go.Proofs.Ytjbpbgdhooggeaa.Nm

namespace Go.Proofs.Ytjbpbgdhooggeaa.Nm
open Go.RowKit Go.Maps Go.Proofs.Ytjbpbgdhooggeaa.Sp Go.Proofs.Ytjbpbgdhooggeaa.Lx Go.Proofs.Ytjbpbgdhooggeaa.Gr

/-- a row that declares or names something is named anew -/
def rnR (σ : ByteArray → ByteArray) (x : Rz) : Rz := if decl x.kind ≠ 0 ∨ nmd x.kind ≠ 0 then { x with name := σ x.name } else x
/-- a policy under way, with other names -/
def rnS (σ : ByteArray → ByteArray) (s : Rs) : Rs := ⟨s.rows.map (rnR σ), s.known.map (fun e => (σ e.1, e.2)), s.qs.map (fun e => (σ e.1, e.2)), s.vs.map σ, s.ts.map σ, s.us, s.ev⟩
variable {σ : ByteArray → ByteArray}
theorem rn_kind (x : Rz) : (rnR σ x).kind = x.kind ∧ (rnR σ x).stop = x.stop ∧ (rnR σ x).n = x.n ∧ (rnR σ x).kids = x.kids := by
  unfold rnR
  split <;> exact ⟨rfl, rfl, rfl, rfl⟩
theorem rn_name {x : Rz} (h : decl x.kind ≠ 0 ∨ nmd x.kind ≠ 0) : (rnR σ x).name = σ x.name := by
  unfold rnR
  rw [if_pos h]
theorem rn_zero : rnR σ rz0 = rz0 := rfl
theorem rat_rn (l : List Rz) (i : Nat) : rat (l.map (rnR σ)) i = rnR σ (rat l i) := by
  simp only [rat, List.getD_eq_getElem?_getD, List.getElem?_map]
  cases l[i]? with
  | none => exact rn_zero.symm
  | some x => rfl
theorem sz_rn (l : List Rz) : ∀ m, sz (l.map (rnR σ)) m = sz l m := by
  induction l with
  | nil => intro m; rfl
  | cons x l ih =>
    intro m
    have e : (rnR σ x).m = x.m := by unfold Rz.m; rw [(rn_kind x).2.2.2]
    simp only [List.map_cons, sz, ih, e]
theorem endp_rn (l : List Rz) (i : Nat) : endp (l.map (rnR σ)) i = endp l i := by unfold endp; rw [← List.map_drop, sz_rn]
theorem numb_rn (l : List Rz) (i n : Nat) : numb (l.map (rnR σ)) i n = (numb l i n).map (rnR σ) := by
  unfold numb
  rw [List.map_set, rat_rn]
  congr 1
  unfold rnR
  split <;> rfl
/-- names are turned one to one -/
def InjOn (σ : ByteArray → ByteArray) (N : ByteArray → Prop) : Prop := ∀ x y, N x → N y → σ x = σ y → x = y
theorem lk_rn {β : Type} {N : ByteArray → Prop} (hσ : InjOn σ N) (k : List (ByteArray × β)) (hk : ∀ e ∈ k, N e.1) {x : ByteArray} (hx : N x) : lk (k.map (fun e => (σ e.1, e.2))) (σ x) = lk k x := by
  induction k with
  | nil => rfl
  | cons a k ih =>
    obtain ⟨a1, a2⟩ := a
    simp only [List.map_cons, lk]
    have ih := ih (fun e he => hk e (List.mem_cons_of_mem _ he))
    by_cases h : x = a1
    · rw [if_pos h, if_pos (congrArg σ h)]
    · rw [if_neg h, if_neg (fun e => h (hσ _ _ hx (hk _ List.mem_cons_self) e)), ih]
/-- all names that are told of -/
structure Nmd (N : ByteArray → Prop) (s : Rs) : Prop where
  r : ∀ i, decl (rat s.rows i).kind ≠ 0 ∨ nmd (rat s.rows i).kind ≠ 0 → N (rat s.rows i).name
  k : ∀ e ∈ s.known, N e.1
theorem cnt_rn (s : Rs) (z : Nat) : (rnS σ s).cnt z = s.cnt z := by
  unfold Rs.cnt rnS
  simp only [List.length_map]
theorem dec_rn {s : Rs} {i : Nat} (h : decl (rat s.rows i).kind ≠ 0) : (rnS σ s).dec i = rnS σ (s.dec i) := by
  have e1 : rat (rnS σ s).rows i = rnR σ (rat s.rows i) := rat_rn _ _
  have e2 := (rn_kind (σ := σ) (rat s.rows i)).1
  have e3 := rn_name (σ := σ) (x := rat s.rows i) (Or.inl h)
  unfold Rs.dec
  rw [e1, e2, e3, cnt_rn]
  simp only [rnS, numb_rn, endp_rn, List.map_cons]
  congr 1
  · split
    · simp
    · split <;> simp
  · split <;> simp
  · split <;> simp
theorem numb_nm {N : ByteArray → Prop} {l : List Rz} (h : ∀ i, decl (rat l i).kind ≠ 0 ∨ nmd (rat l i).kind ≠ 0 → N (rat l i).name) (j n : Nat) : ∀ i, decl (rat (numb l j n) i).kind ≠ 0 ∨ nmd (rat (numb l j n) i).kind ≠ 0 → N (rat (numb l j n) i).name := by
  intro i hi
  by_cases hij : i = j
  · subst hij
    by_cases hl : i < l.length
    · rw [rat_numb hl] at hi ⊢
      exact h i hi
    · have e : numb l i n = l := by unfold numb; exact List.set_eq_of_length_le (by omega)
      rw [e] at hi ⊢
      exact h i hi
  · have e : rat (numb l j n) i = rat l i := by
      unfold numb rat
      simp only [List.getD_eq_getElem?_getD, List.getElem?_set_ne (Ne.symm hij)]
    rw [e] at hi ⊢
    exact h i hi
/-- one ask, with other names -/
def mapE {α β ε : Type} (f : α → β) : Except ε α → Except ε β
  | .error e => .error e
  | .ok a => .ok (f a)
theorem askD_rn {N : ByteArray → Prop} (hσ : InjOn σ N) {s : Rs} (hN : Nmd N s) (i : Nat) : askD i (rnS σ s) = mapE (rnS σ) (askD i s) ∧ ∀ t, askD i s = .ok t → Nmd N t := by
  have e1 : rat (rnS σ s).rows i = rnR σ (rat s.rows i) := rat_rn _ _
  have e2 := (rn_kind (σ := σ) (rat s.rows i)).1
  unfold askD
  rw [e1, e2, cnt_rn]
  by_cases h : decl (rat s.rows i).kind = 0
  · rw [if_pos h, if_pos h]
    exact ⟨rfl, fun t ht => by cases ht; exact hN⟩
  · rw [if_neg h, if_neg h, rn_name (Or.inl h)]
    have hn := hN.r i (Or.inl h)
    have e3 : lk (rnS σ s).known (σ (rat s.rows i).name) = lk s.known (rat s.rows i).name := lk_rn hσ _ hN.k hn
    rw [e3]
    split
    · exact ⟨rfl, fun t ht => by cases ht⟩
    · split
      · exact ⟨rfl, fun t ht => by cases ht⟩
      · refine ⟨by rw [dec_rn h]; rfl, fun t ht => ?_⟩
        cases ht
        refine ⟨numb_nm hN.r _ _, fun e he => ?_⟩
        rcases List.mem_cons.1 he with rfl | he
        · exact hn
        · exact hN.k e he
theorem askM_rn {N : ByteArray → Prop} (hσ : InjOn σ N) {s : Rs} (hN : Nmd N s) (i : Nat) : askM i (rnS σ s) = mapE (rnS σ) (askM i s) ∧ ∀ t, askM i s = .ok t → Nmd N t := by
  have e1 : rat (rnS σ s).rows i = rnR σ (rat s.rows i) := rat_rn _ _
  have e2 := (rn_kind (σ := σ) (rat s.rows i)).1
  unfold askM
  rw [e1, e2]
  by_cases h : nmd (rat s.rows i).kind = 0
  · rw [if_pos h, if_pos h]
    exact ⟨rfl, fun t ht => by cases ht; exact hN⟩
  · rw [if_neg h, if_neg h, rn_name (Or.inr h)]
    have hn := hN.r i (Or.inr h)
    have e3 : lk (rnS σ s).known (σ (rat s.rows i).name) = lk s.known (rat s.rows i).name := lk_rn hσ _ hN.k hn
    rw [e3]
    rcases lk s.known (rat s.rows i).name with _ | ⟨k, m, p⟩
    · exact ⟨rfl, fun t ht => by cases ht⟩
    · dsimp only
      split
      · exact ⟨rfl, fun t ht => by cases ht⟩
      · split
        · exact ⟨rfl, fun t ht => by cases ht⟩
        · refine ⟨?_, fun t ht => by cases ht; exact ⟨numb_nm hN.r _ _, hN.k⟩⟩
          show Except.ok _ = Except.ok _
          congr 1
          simp only [rnS, numb_rn]
theorem evt_rn (x : Rz) : evt (rnR σ x) = evt x := by
  obtain ⟨h1, _, h3, _⟩ := rn_kind (σ := σ) x
  unfold evt
  rw [h1, h3]
theorem askH_rn {N : ByteArray → Prop} {s : Rs} (hN : Nmd N s) (i : Nat) : askH i (rnS σ s) = mapE (rnS σ) (askH i s) ∧ ∀ t, askH i s = .ok t → Nmd N t := by
  have e1 : rat (rnS σ s).rows i = rnR σ (rat s.rows i) := rat_rn _ _
  have e2 : evn (rnR σ (rat s.rows i)) = evn (rat s.rows i) := by unfold evn; rw [evt_rn]
  unfold askH
  rw [e1, e2, evt_rn]
  show (if _ then _ else if (lk s.ev _).isSome then _ else _) = _ ∧ _
  split
  · exact ⟨rfl, fun t ht => by cases ht; exact hN⟩
  · split
    · exact ⟨rfl, fun t ht => by cases ht⟩
    · exact ⟨rfl, fun t ht => by cases ht; exact ⟨hN.r, hN.k⟩⟩
theorem ask_rn {N : ByteArray → Prop} (hσ : InjOn σ N) {s : Rs} (hN : Nmd N s) (j i : Nat) : ask j i (rnS σ s) = mapE (rnS σ) (ask j i s) ∧ ∀ t, ask j i s = .ok t → Nmd N t := by
  unfold ask
  split
  · exact askD_rn hσ hN i
  · split
    · exact askM_rn hσ hN i
    · exact askH_rn hN i
theorem askN_rn {N : ByteArray → Prop} (hσ : InjOn σ N) {s : Rs} (hN : Nmd N s) (i n : Nat) : askN i (rnS σ s) n = mapE (rnS σ) (askN i s n) ∧ ∀ t, askN i s n = .ok t → Nmd N t := by
  induction n with
  | zero => exact ⟨rfl, fun t ht => by cases ht; exact hN⟩
  | succ n ih =>
    obtain ⟨h1, h2⟩ := ih
    simp only [askN, h1]
    rcases hx : askN i s n with e | t
    · exact ⟨rfl, fun t ht => by cases ht⟩
    · exact ask_rn hσ (h2 t hx) n i
theorem upto_rn {N : ByteArray → Prop} (hσ : InjOn σ N) {s : Rs} (hN : Nmd N s) (n : Nat) : upto (rnS σ s) n = mapE (rnS σ) (upto s n) ∧ ∀ t, upto s n = .ok t → Nmd N t := by
  induction n with
  | zero => exact ⟨rfl, fun t ht => by cases ht; exact hN⟩
  | succ n ih =>
    obtain ⟨h1, h2⟩ := ih
    simp only [upto, h1]
    rcases hx : upto s n with e | t
    · exact ⟨rfl, fun t ht => by cases ht⟩
    · obtain ⟨g1, g2⟩ := askN_rn hσ (h2 t hx) n 3
      simp only [mapE, g1]
      rcases hy : askN n t 3 with e | t'
      · exact ⟨rfl, fun t ht => by cases ht⟩
      · exact ⟨rfl, fun u hu => by cases hu; exact g2 _ hy⟩
theorem layN_rn (l : List Rz) (sums : List Nat) (row k : Nat) : layN (l.map (rnR σ)) sums row k = layN l sums row k := by
  induction k with
  | zero => rfl
  | succ k ih =>
    obtain ⟨h1, _, h3, _⟩ := rn_kind (σ := σ) (rat l (row + k))
    simp only [layN, addRow, rat_rn, h1, h3, ih]
theorem laid_rn (l : List Rz) (sums : List Nat) (row : Nat) : laidAt (l.map (rnR σ)) sums row = laidAt l sums row := by
  unfold laidAt
  rw [endp_rn, layN_rn]
theorem sums_rn (l : List Rz) (us : List Nat) (k : Nat) : sumsN (l.map (rnR σ)) us k = sumsN l us k := by
  induction k with
  | zero => rfl
  | succ k ih => simp only [sumsN, ih, laid_rn]
theorem big_rn (l : List Rz) (sums : List Nat) (k : Nat) : big (l.map (rnR σ)) sums k = big l sums k := by
  induction k with
  | zero => rfl
  | succ k ih => simp only [big, ih, rat_rn, evt_rn, laid_rn]
/-- a policy, with other names -/
def rnP (σ : ByteArray → ByteArray) (nm : ByteArray) (p : Pl) : Pl := ⟨nm, p.rows.map (rnR σ), p.qs.map (fun e => (σ e.1, e.2)), p.vs.map σ, p.ts.map σ, p.us, p.on, p.miss⟩
/-- what Resolve tells of rows with other names: the same, but for them -/
theorem res_rn {N : ByteArray → Prop} {l : List Rz} (hσ : InjOn σ N) (hN : ∀ i, decl (rat l i).kind ≠ 0 ∨ nmd (rat l i).kind ≠ 0 → N (rat l i).name) (h1 : (chk l).1 = 0) (h2 : (chk (l.map (rnR σ))).1 = 0) :
    res (l.map (rnR σ)) = mapE (rnP σ (rat (l.map (rnR σ)) 0).name) (res l) := by
  have hs : start (l.map (rnR σ)) = rnS σ (start l) := rfl
  have hu := (upto_rn hσ (s := start l) ⟨hN, fun e he => by cases he⟩ l.length).1
  unfold res
  rw [if_neg (by rw [h2]; simp), if_neg (by rw [h1]; simp), hs, List.length_map, hu]
  rcases upto (start l) l.length with e | s
  · rfl
  · have hb : big (s.rows.map (rnR σ)) (sumsOf (s.rows.map (rnR σ)) s.us) (s.rows.map (rnR σ)).length = big s.rows (sumsOf s.rows s.us) s.rows.length := by
      unfold sumsOf
      rw [sums_rn, big_rn, List.length_map]
    simp only [mapE, resR, rnS, hb]
    rcases big s.rows (sumsOf s.rows s.us) s.rows.length with k | k
    · rfl
    · simp only [rnP, List.length_map]
end Go.Proofs.Ytjbpbgdhooggeaa.Nm

namespace Go.Proofs.Ytjbpbgdhooggeaa.Nm
open Go.RowKit Go.Maps Go.Proofs.Ytjbpbgdhooggeaa.Sp Go.Proofs.Ytjbpbgdhooggeaa.Lx Go.Proofs.Ytjbpbgdhooggeaa.Gr

/-- the first row with that name -/
def frsN (l : List Rz) (x : ByteArray) : Nat := (l.findIdx? (fun y => decide (y.name = x))).getD 0
/-- does a name stand in the rows? -/
def stdN (l : List Rz) (x : ByteArray) : Bool := l.any fun y => decide (y.name = x)
/-- is a name declared? -/
def dclN (l : List Rz) (x : ByteArray) : Bool := l.any fun y => decide (decl y.kind ≠ 0) && decide (y.name = x)
/-- the new name -/
def newN (l : List Rz) (wi x : ByteArray) : ByteArray := ⟨#[95]⟩ ++ wi ++ ⟨#[95]⟩ ++ nbr 110 (frsN l x)
def sgm (l : List Rz) (wi x : ByteArray) : ByteArray := if dclN l x then newN l wi x else x
theorem nbr_inj3 {a b : UInt8} {i j : Nat} (hi : i < 1000) (hj : j < 1000) (h : nbr a i = nbr b j) : i = j := by
  unfold nbr at h
  injection h with h
  simp only [Array.mk.injEq, List.cons.injEq] at h
  obtain ⟨_, h2, h3, h4, _⟩ := h
  have h2 := congrArg UInt8.toNat h2
  have h3 := congrArg UInt8.toNat h3
  have h4 := congrArg UInt8.toNat h4
  simp only [UInt8.toNat_ofNat'] at h2 h3 h4
  omega
theorem app_left {a b c : ByteArray} (h : a ++ b = a ++ c) : b = c := by
  have h1 := congrArg ByteArray.data h
  simp only [ByteArray.data_append] at h1
  have h2 := congrArg Array.toList h1
  simp only [Array.toList_append] at h2
  have h3 := List.append_cancel_left h2
  cases b
  cases c
  exact congrArg ByteArray.mk (Array.toList_inj.1 h3)
theorem frsN_at {l : List Rz} {x : ByteArray} (h : stdN l x = true) : frsN l x < l.length ∧ (rat l (frsN l x)).name = x := by
  unfold stdN at h
  have e0 : frsN l x = (l.findIdx? (fun y => decide (y.name = x))).getD 0 := rfl
  rcases hf : l.findIdx? (fun y => decide (y.name = x)) with _ | i
  · rw [List.findIdx?_eq_none_iff] at hf
    obtain ⟨y, hy, hy2⟩ := List.any_eq_true.1 h
    rw [hf y hy] at hy2
    cases hy2
  · obtain ⟨h1, h2, _⟩ := List.findIdx?_eq_some_iff_getElem.1 hf
    rw [e0, hf, Option.getD_some]
    refine ⟨h1, ?_⟩
    have e : rat l i = l[i] := by simp [rat, List.getD_eq_getElem?_getD, List.getElem?_eq_getElem h1]
    rw [e]
    exact of_decide_eq_true h2
theorem dcl_std {l : List Rz} {x : ByteArray} (h : dclN l x = true) : stdN l x = true := by
  obtain ⟨y, hy, hy2⟩ := List.any_eq_true.1 h
  exact List.any_eq_true.2 ⟨y, hy, (Bool.and_eq_true _ _ ▸ hy2).2⟩
theorem newN_inj {l : List Rz} (hl : l.length ≤ 1000) {wi x y : ByteArray} (hx : stdN l x = true) (hy : stdN l y = true) (h : newN l wi x = newN l wi y) : x = y := by
  obtain ⟨h1, h2⟩ := frsN_at hx
  obtain ⟨h3, h4⟩ := frsN_at hy
  have := nbr_inj3 (by omega) (by omega) (app_left h)
  rw [← h2, ← h4, this]
/-- the new names are other names: no two fall together -/
theorem sgm_inj {l : List Rz} (hl : l.length ≤ 1000) {wi : ByteArray} (hn : ∀ x, dclN l x = true → stdN l (newN l wi x) = false) : InjOn (sgm l wi) (fun x => stdN l x = true) := by
  intro x y hx hy h
  unfold sgm at h
  by_cases h1 : dclN l x = true
  · by_cases h2 : dclN l y = true
    · rw [if_pos h1, if_pos h2] at h
      exact newN_inj hl hx hy h
    · rw [if_pos h1, if_neg h2] at h
      have := hn x h1
      rw [h, hy] at this
      cases this
  · by_cases h2 : dclN l y = true
    · rw [if_neg h1, if_pos h2] at h
      have := hn y h2
      rw [← h, hx] at this
      cases this
    · rw [if_neg h1, if_neg h2] at h
      exact h
/-- a row as NamesRenamed writes it -/
def rnW (l : List Rz) (wi : ByteArray) (x : Rz) : Rz := if (decl x.kind ≠ 0 ∨ nmd x.kind ≠ 0) ∧ dclN l x.name = true then { x with name := newN l wi x.name } else x
theorem rnW_rnR (l : List Rz) (wi : ByteArray) (x : Rz) : rnW l wi x = rnR (sgm l wi) x := by
  unfold rnW rnR sgm
  by_cases h : decl x.kind ≠ 0 ∨ nmd x.kind ≠ 0
  · by_cases h2 : dclN l x.name = true
    · rw [if_pos ⟨h, h2⟩, if_pos h, if_pos h2]
    · rw [if_neg (fun e => h2 e.2), if_pos h, if_neg h2]
  · rw [if_neg (fun e => h e.1), if_neg h]
/-- what Resolve tells of rows as NamesRenamed writes them -/
theorem res_renamed {l : List Rz} {wi : ByteArray} (hl : l.length ≤ 1000) (hn : ∀ i, i < l.length → (decl (rat l i).kind ≠ 0 ∨ nmd (rat l i).kind ≠ 0) → dclN l (rat l i).name = true → stdN l (newN l wi (rat l i).name) = false) (h1 : (chk l).1 = 0) (h2 : (chk (l.map (rnW l wi))).1 = 0) :
    (∃ e, res l = .error e ∧ res (l.map (rnW l wi)) = .error e) ∨ ∃ p q, res l = .ok p ∧ res (l.map (rnW l wi)) = .ok q ∧ q.rows = p.rows.map (rnR (sgm l wi)) ∧ q.qs.length = p.qs.length ∧ q.vs.length = p.vs.length ∧ q.ts.length = p.ts.length ∧ q.us = p.us ∧ q.on = p.on ∧ q.miss = p.miss := by
  have hm : l.map (rnW l wi) = l.map (rnR (sgm l wi)) := List.map_congr_left fun x _ => rnW_rnR l wi x
  rw [hm] at h2 ⊢
  have hat : ∀ i, i < l.length → rat l i ∈ l := fun i hi => List.mem_of_getElem? (some_rat hi)
  have hσ := sgm_inj (wi := wi) hl (fun x hx => by
    obtain ⟨y, hy, hy2⟩ := List.any_eq_true.1 hx
    obtain ⟨i, hi, e⟩ := List.getElem_of_mem hy
    have e2 : rat l i = y := by rw [← e]; simp [rat, List.getD_eq_getElem?_getD, List.getElem?_eq_getElem hi]
    have hb := (Bool.and_eq_true _ _ ▸ hy2)
    have hn1 : y.name = x := of_decide_eq_true hb.2
    have := hn i hi (by rw [e2]; exact Or.inl (of_decide_eq_true hb.1)) (by rw [e2, hn1]; exact hx)
    rwa [e2, hn1] at this)
  have hr := res_rn hσ (fun i hi => by
    by_cases hlt : i < l.length
    · exact List.any_eq_true.2 ⟨_, hat i hlt, decide_eq_true rfl⟩
    · have e : rat l i = rz0 := by simp [rat, List.getD_eq_getElem?_getD, List.getElem?_eq_none (show l.length ≤ i by omega)]
      rw [e] at hi
      rcases hi with h | h <;> exact absurd rfl h) h1 h2
  rcases hx : res l with e | p
  · rw [hx] at hr
    exact Or.inl ⟨e, rfl, hr⟩
  · rw [hx] at hr
    exact Or.inr ⟨p, _, rfl, hr, rfl, List.length_map _, List.length_map _, List.length_map _, rfl, rfl, rfl⟩
end Go.Proofs.Ytjbpbgdhooggeaa.Nm

namespace Go.Proofs.Ytjbpbgdhooggeaa.Nm
open Go.RowKit Go.Maps Go.Proofs.Ytjbpbgdhooggeaa.Sp Go.Proofs.Ytjbpbgdhooggeaa.Lx Go.Proofs.Ytjbpbgdhooggeaa.Gr

theorem strR_ne {a b : ByteArray} (h : ¬ a = b) : (a.toList == b.toList) = false := by
  rw [ByteArray.toList_eq, ByteArray.toList_eq]
  refine beq_eq_false_iff_ne.2 fun e => h ?_
  apply ByteArray.ext
  exact Array.toList_inj.1 e
theorem std_no {l : List Rz} {x : ByteArray} (h : ∀ k, k < l.length → (rat l k).name ≠ x) : stdN l x = false := by
  rw [Bool.eq_false_iff]
  intro h2
  obtain ⟨h3, h4⟩ := frsN_at h2
  exact h _ h3 h4
theorem std_yes {l : List Rz} {x : ByteArray} {i : Nat} (hi : i < l.length) (h : (rat l i).name = x) : stdN l x = true := List.any_eq_true.2 ⟨_, List.mem_of_getElem? (some_rat hi), decide_eq_true h⟩
theorem frs_is {l : List Rz} {x : ByteArray} {i : Nat} (hi : i < l.length) (h : (rat l i).name = x) (h2 : ∀ k, k < i → (rat l k).name ≠ x) : frsN l x = i := by
  have e0 : frsN l x = (l.findIdx? (fun y => decide (y.name = x))).getD 0 := rfl
  have e : ∀ k (hk : k < l.length), rat l k = l[k] := fun k hk => by simp [rat, List.getD_eq_getElem?_getD, List.getElem?_eq_getElem hk]
  have hf : l.findIdx? (fun y => decide (y.name = x)) = some i := List.findIdx?_eq_some_iff_getElem.2 ⟨hi, decide_eq_true (by rw [← e i hi]; exact h), fun k hk => by
    rw [decide_eq_true_eq, ← e k (by omega)]
    exact h2 k hk⟩
  rw [e0, hf]
  rfl
theorem frs_no {l : List Rz} {x : ByteArray} (h : ∀ k, k < l.length → (rat l k).name ≠ x) : frsN l x = 0 := by
  have e0 : frsN l x = (l.findIdx? (fun y => decide (y.name = x))).getD 0 := rfl
  have hf : l.findIdx? (fun y => decide (y.name = x)) = none := by
    rw [List.findIdx?_eq_none_iff]
    intro y hy
    obtain ⟨k, hk, e⟩ := List.getElem_of_mem hy
    have e2 : rat l k = y := by rw [← e]; simp [rat, List.getD_eq_getElem?_getD, List.getElem?_eq_getElem hk]
    exact decide_eq_false (by rw [← e2]; exact h k hk)
  rw [e0, hf]
  rfl
set_option maxHeartbeats 3200000 in
set_option maxRecDepth 100000 in
/-- stands -/
theorem stands_any {w : World} {ao : Option Addr} {l : List Rz} {cap : Nat} (h : IsRz w ao l) (hl : l.length ≤ 400) (x : ByteArray) :
    Calls Try.prog 18 #[.slice ao l.length cap, .string x] w fun e w' => e = .returned (.bool (stdN l x)) ∧ w = w' := by
  have HI : Hid (IsRz w ao l) := h
  have hlI : (l.length : Int) ≤ 400 := by omega
  clear h
  go_enter Try.func18, Try.ntmps18
  go_wp2_with fail
  go_loopg [5] l.length (fun gq a wr => ∃ i : Nat, i + gq = l.length ∧ a = .int .i64 (i : Int) ∧ (∀ k, k < i → (rat l k).name ≠ x) ∧ w = wr)
  case atStart => exact ⟨0, by omega, rfl, fun k hk => by omega, rfl⟩
  case round =>
    obtain ⟨i, hig, rfl, hno, rfl⟩ := hrel
    have HG : Hid (i + gk = l.length) := hig
    by_cases hlt : i < l.length
    · have hi1 : (i : Int) < (l.length : Int) := by omega
      have HLt : Hid (i < l.length) := hlt
      obtain ⟨g, o, rfl, hg, c0, c1, c2, c3, c4⟩ := HI.out i (rat l i) (some_rat hlt)
      have HNo : Hid (∀ k, k < i → (rat l k).name ≠ x) := hno
      obtain ⟨y, hy⟩ : ∃ y, (rat l i).name = y := ⟨_, rfl⟩
      have HY : Hid (_ = _) := hy
      rw [hy] at c1
      clear c0 c2 c3 c4 hy hig hno hlt
      by_cases hxy : y = x
      · subst hxy
        have HR : Hid (stdN l y = true) := std_yes HLt.out HY.out
        go_wp2
        go_ret
        exact ⟨by rw [HR.out]; rfl, rfl⟩
      · have h1 : (y.toList == x.toList) = false := strR_ne hxy
        have HXY : Hid (y ≠ x) := hxy
        go_wp2_with fail
        go_roundg (l.length - (i + 1))
        case measure => have := HG.out; have := HLt.out; omega
        case rel => exact ⟨i + 1, by have := HLt.out; omega, by go_num, fun k hk => by
          by_cases hki : k = i
          · rw [hki, HY.out]; exact HXY.out
          · exact HNo.out k (by omega), rfl⟩
    · have hk' : decide (i < l.length) = false := decide_eq_false hlt
      have hk3 : decide ((i : Int) < (l.length : Int)) = false := decide_eq_false (by omega)
      have HR : Hid (stdN l x = false) := std_no (fun k hk => hno k (by omega))
      clear hno hig hlt
      go_wp2
      go_ret
      exact ⟨by rw [HR.out]; rfl, rfl⟩
set_option maxHeartbeats 3200000 in
set_option maxRecDepth 100000 in
/-- first -/
theorem first_any {w : World} {ao : Option Addr} {l : List Rz} {cap : Nat} (h : IsRz w ao l) (hl : l.length ≤ 400) (x : ByteArray) :
    Calls Try.prog 17 #[.slice ao l.length cap, .string x] w fun e w' => e = .returned (.int .i64 (frsN l x : Nat)) ∧ w = w' := by
  have HI : Hid (IsRz w ao l) := h
  have hlI : (l.length : Int) ≤ 400 := by omega
  clear h
  go_enter Try.func17, Try.ntmps17
  go_wp2_with fail
  go_loopg [5] l.length (fun gq a wr => ∃ i : Nat, i + gq = l.length ∧ a = .int .i64 (i : Int) ∧ (∀ k, k < i → (rat l k).name ≠ x) ∧ w = wr)
  case atStart => exact ⟨0, by omega, rfl, fun k hk => by omega, rfl⟩
  case round =>
    obtain ⟨i, hig, rfl, hno, rfl⟩ := hrel
    have HG : Hid (i + gk = l.length) := hig
    by_cases hlt : i < l.length
    · have hi1 : (i : Int) < (l.length : Int) := by omega
      have HLt : Hid (i < l.length) := hlt
      obtain ⟨g, o, rfl, hg, c0, c1, c2, c3, c4⟩ := HI.out i (rat l i) (some_rat hlt)
      have HNo : Hid (∀ k, k < i → (rat l k).name ≠ x) := hno
      obtain ⟨y, hy⟩ : ∃ y, (rat l i).name = y := ⟨_, rfl⟩
      have HY : Hid (_ = _) := hy
      rw [hy] at c1
      clear c0 c2 c3 c4 hy hig hno hlt
      by_cases hxy : y = x
      · subst hxy
        have HR : Hid (frsN l y = i) := frs_is HLt.out HY.out HNo.out
        go_wp2
        go_ret
        exact ⟨by rw [HR.out]; rfl, rfl⟩
      · have h1 : (y.toList == x.toList) = false := strR_ne hxy
        have HXY : Hid (y ≠ x) := hxy
        go_wp2_with fail
        go_roundg (l.length - (i + 1))
        case measure => have := HG.out; have := HLt.out; omega
        case rel => exact ⟨i + 1, by have := HLt.out; omega, by go_num, fun k hk => by
          by_cases hki : k = i
          · rw [hki, HY.out]; exact HXY.out
          · exact HNo.out k (by omega), rfl⟩
    · have hk' : decide (i < l.length) = false := decide_eq_false hlt
      have hk3 : decide ((i : Int) < (l.length : Int)) = false := decide_eq_false (by omega)
      have HR : Hid (frsN l x = 0) := frs_no (fun k hk => hno k (by omega))
      clear hno hig hlt
      go_wp2
      go_ret
      exact ⟨by rw [HR.out]; rfl, rfl⟩
end Go.Proofs.Ytjbpbgdhooggeaa.Nm

namespace Go.Proofs.Ytjbpbgdhooggeaa.Nm
open Go.RowKit Go.Maps Go.Proofs.Ytjbpbgdhooggeaa.Sp Go.Proofs.Ytjbpbgdhooggeaa.Lx Go.Proofs.Ytjbpbgdhooggeaa.Gr

/-- a row's name is written -/
theorem Rw.setName {w : World} {rb i : Nat} {l : List Rz} {x : Rz} (h : Rw w rb l) (hx : l[i]? = some x) (s : ByteArray) : Rw (w.setCell ⟨rb, i * 5 + 1, none⟩ (.string s)) rb (l.set i { x with name := s }) := by
  obtain ⟨cs, h1, h2⟩ := h
  refine ⟨cs.setIfInBounds (i * 5 + 1) (.string s), heap_setCell_same w rb (i * 5 + 1) cs 40 _ h1, fun j y hy => ?_⟩
  rw [List.getElem?_set] at hy
  have hin := (List.getElem?_eq_some_iff.1 hx).1
  by_cases e : i = j
  · subst e
    rw [if_pos rfl, if_pos hin] at hy
    cases hy
    obtain ⟨a0, a1, a2, a3, a4⟩ := h2 i x hx
    have hs := (Array.getElem?_eq_some_iff.1 a1).1
    simp only [Array.getElem?_setIfInBounds]
    refine ⟨by rw [if_neg (by omega)]; exact a0, by simp [hs], by rw [if_neg (by omega)]; exact a2, by rw [if_neg (by omega)]; exact a3, by rw [if_neg (by omega)]; exact a4⟩
  · rw [if_neg e] at hy
    obtain ⟨a0, a1, a2, a3, a4⟩ := h2 j y hy
    simp only [Array.getElem?_setIfInBounds]
    exact ⟨by rw [if_neg (by omega)]; exact a0, by rw [if_neg (by omega)]; exact a1, by rw [if_neg (by omega)]; exact a2, by rw [if_neg (by omega)]; exact a3, by rw [if_neg (by omega)]; exact a4⟩
/-- rows that were lent can be written -/
theorem rw_lent {w : World} {g : Nat} {l l' : List Rz} (h : RowZ w g (l ++ l')) : Rw w g l := by
  refine ⟨_, h, fun i x hx => ?_⟩
  have hx' : (l ++ l')[i]? = some x := by rw [List.getElem?_append_left (List.getElem?_eq_some_iff.1 hx).1]; exact hx
  have hc : ∀ j, j < 5 → (((l ++ l').flatMap rz5).toArray)[i * 5 + j]? = (rz5 x)[j]? := fun j hj => by
    have := h.cell hx' j hj
    rw [World.cell?, h] at this
    simpa using this
  exact ⟨hc 0 (by omega), hc 1 (by omega), hc 2 (by omega), hc 3 (by omega), hc 4 (by omega)⟩
variable {l : List Rz} {wi : ByteArray} {i k : Nat}
/-- a row when so many rows have been looked at -/
def rnK (l : List Rz) (wi : ByteArray) (k : Nat) (x : Rz) : Rz := if (decl x.kind ≠ 0 ∨ nmd x.kind ≠ 0) ∧ dclN (l.take k) x.name = true then { x with name := newN l wi x.name } else x
theorem rnK_name (k : Nat) (x : Rz) (s : ByteArray) : { rnK l wi k x with name := s } = { x with name := s } := by
  unfold rnK
  split <;> rfl
theorem rnK_zero (x : Rz) : rnK l wi 0 x = x := if_neg (fun h => by simp [dclN] at h)
theorem rnK_all (x : Rz) : rnK l wi l.length x = rnW l wi x := by
  unfold rnK rnW
  rw [List.take_length]
theorem dcl_succ (hk : k < l.length) (y : ByteArray) : dclN (l.take (k + 1)) y = (dclN (l.take k) y || (decide (decl (rat l k).kind ≠ 0) && decide ((rat l k).name = y))) := by
  unfold dclN
  rw [List.take_add_one, some_rat hk, List.any_append]
  simp
/-- the row asks for a new name at this row -/
def rnC (l : List Rz) (i k : Nat) : Bool := decide (decl (rat l k).kind ≠ 0) && decide ((rat l k).name = (rat l i).name) && (decide (nmd (rat l i).kind ≠ 0) || decide (decl (rat l i).kind ≠ 0))
theorem rnC_iff : rnC l i k = true ↔ (decl (rat l k).kind ≠ 0 ∧ (rat l k).name = (rat l i).name) ∧ (nmd (rat l i).kind ≠ 0 ∨ decl (rat l i).kind ≠ 0) := by
  unfold rnC
  simp only [Bool.and_eq_true, Bool.or_eq_true, decide_eq_true_eq]
theorem rnK_yes (hk : k < l.length) (h : rnC l i k = true) : rnK l wi (k + 1) (rat l i) = { rat l i with name := newN l wi (rat l i).name } ∧ (decl (rat l i).kind ≠ 0 ∨ nmd (rat l i).kind ≠ 0) ∧ dclN (l.take (k + 1)) (rat l i).name = true := by
  obtain ⟨⟨h1, h2⟩, h3⟩ := rnC_iff.1 h
  have hd : dclN (l.take (k + 1)) (rat l i).name = true := by
    rw [dcl_succ hk, Bool.or_eq_true]
    exact Or.inr (by rw [Bool.and_eq_true]; exact ⟨decide_eq_true h1, decide_eq_true h2⟩)
  have ho : decl (rat l i).kind ≠ 0 ∨ nmd (rat l i).kind ≠ 0 := h3.symm
  exact ⟨if_pos ⟨ho, hd⟩, ho, hd⟩
theorem rnK_no (hk : k < l.length) (h : rnC l i k = false) : rnK l wi (k + 1) (rat l i) = rnK l wi k (rat l i) ∧ ((decl (rat l i).kind ≠ 0 ∨ nmd (rat l i).kind ≠ 0) → dclN (l.take (k + 1)) (rat l i).name = dclN (l.take k) (rat l i).name) := by
  have hd : (decl (rat l i).kind ≠ 0 ∨ nmd (rat l i).kind ≠ 0) → dclN (l.take (k + 1)) (rat l i).name = dclN (l.take k) (rat l i).name := fun ho => by
    rw [dcl_succ hk]
    have : (decide (decl (rat l k).kind ≠ 0) && decide ((rat l k).name = (rat l i).name)) = false := by
      rw [Bool.eq_false_iff]
      intro h2
      rw [Bool.and_eq_true] at h2
      have := rnC_iff.2 ⟨⟨of_decide_eq_true h2.1, of_decide_eq_true h2.2⟩, ho.symm⟩
      rw [h] at this
      cases this
    rw [this, Bool.or_false]
  refine ⟨?_, hd⟩
  unfold rnK
  by_cases ho : decl (rat l i).kind ≠ 0 ∨ nmd (rat l i).kind ≠ 0
  · rw [hd ho]
  · rw [if_neg (fun e => ho e.1), if_neg (fun e => ho e.1)]
/-- the rows when so many have been named anew -/
def rnM (l : List Rz) (wi : ByteArray) (i : Nat) : List Rz := (l.take i).map (rnW l wi) ++ l.drop i
theorem rnM_zero : rnM l wi 0 = l := by simp [rnM]
theorem rnM_all : rnM l wi l.length = l.map (rnW l wi) := by simp [rnM]
theorem rnM_len (hi : i ≤ l.length) : (rnM l wi i).length = l.length := by simp [rnM]; omega
theorem rnM_at (hi : i < l.length) : (rnM l wi i)[i]? = some (rat l i) := by
  unfold rnM
  rw [List.getElem?_append_right (by simp; omega), List.getElem?_drop]
  have e : ((l.take i).map (rnW l wi)).length = i := by simp; omega
  rw [e, show i + (i - i) = i by omega, some_rat hi]
theorem rnM_set (hi : i < l.length) (y : Rz) : ((rnM l wi i).set i y)[i]? = some y := by
  rw [List.getElem?_set, if_pos rfl, if_pos (by rw [rnM_len (by omega)]; exact hi)]
theorem rnM_same (hi : i < l.length) : (rnM l wi i).set i (rat l i) = rnM l wi i := by
  apply List.ext_getElem?
  intro j
  rw [List.getElem?_set]
  by_cases e : i = j
  · subst e
    rw [if_pos rfl, if_pos (by rw [rnM_len (by omega)]; exact hi), rnM_at hi]
  · rw [if_neg e]
theorem rnM_next (hi : i < l.length) : (rnM l wi i).set i (rnW l wi (rat l i)) = rnM l wi (i + 1) := by
  have e : ((l.take i).map (rnW l wi)).length = i := by simp; omega
  have hd : l.drop i = rat l i :: l.drop (i + 1) := by
    rw [List.drop_eq_getElem_cons hi]
    simp [rat, List.getD_eq_getElem?_getD, List.getElem?_eq_getElem hi]
  unfold rnM
  rw [List.set_append_right _ _ (by omega), e, Nat.sub_self, hd, List.set_cons_zero, List.take_add_one, some_rat hi, List.map_append, List.append_assoc]
  rfl
end Go.Proofs.Ytjbpbgdhooggeaa.Nm

namespace Go.Proofs.Ytjbpbgdhooggeaa.Nm
open Go.RowKit Go.Maps Go.Proofs.Ytjbpbgdhooggeaa.Sp Go.Proofs.Ytjbpbgdhooggeaa.Lx Go.Proofs.Ytjbpbgdhooggeaa.Gr

/-- what is told, with nothing in the place of what a fault does not tell -/
structure Ou where
  c1 : Nat
  c2 : Nat
  rl : List Rz
  nq : Nat
  nv : Nat
  nt : Nat
  us : List Int
  os : List Int
  ms : Int
def ouOf : Except (Nat × Nat) Pl → Ou
  | .error ci => ⟨ci.1, ci.2, [], 0, 0, 0, [], [], 0⟩
  | .ok p => ⟨0, 0, p.rows, p.qs.length, p.vs.length, p.ts.length, p.us.map (fun n : Nat => (n : Int)), p.on, p.miss⟩
/-- a policy that was told, or none, in a box -/
structure Bx (W : World) (bx : Nat) (nm : ByteArray) (o : Ou) (ro qo vo tto uo oo : Option Addr) (rc qc vc tc uc oc : Nat) : Prop where
  bx : W.heap[bx]? = some (.cells #[.string nm, .slice ro o.rl.length rc, .slice qo o.nq qc, .slice vo o.nv vc, .slice tto o.nt tc, .slice uo o.us.length uc, .slice oo o.os.length oc, .int .i64 o.ms] 29 (0, 0))
  r : IsRz W ro o.rl
  u : IsVals W uo (iv o.us)
  o : IsVals W oo (iv o.os)
theorem Bx.below {W W' : World} {bx : Nat} {nm : ByteArray} {o : Ou} {ro qo vo tto uo oo : Option Addr} {rc qc vc tc uc oc : Nat} (h : Bx W bx nm o ro qo vo tto uo oo rc qc vc tc uc oc) (hb : Below W.heap.size W W') : Bx W' bx nm o ro qo vo tto uo oo rc qc vc tc uc oc :=
  ⟨(hb.block _ (blk_lt h.bx)).trans h.bx, h.r.below hb, IsVals.below h.u hb, IsVals.below h.o hb⟩
theorem nv_ivR (us : List Nat) : nv us = iv (us.map fun n : Nat => (n : Int)) := by simp [nv, iv, List.map_map, Function.comp_def]
theorem told_bx {w w' : World} {r : Except (Nat × Nat) Pl} {e : Ending} (h : Told w r e w') : ∃ (nm : ByteArray) (ro qo vo tto uo oo : Option Addr) (rc qc vc tc uc oc : Nat),
    e = .returned (.tuple #[.agg #[.string nm, .slice ro (ouOf r).rl.length rc, .slice qo (ouOf r).nq qc, .slice vo (ouOf r).nv vc, .slice tto (ouOf r).nt tc, .slice uo (ouOf r).us.length uc, .slice oo (ouOf r).os.length oc, .int .i64 (ouOf r).ms], .agg #[.int .i64 ((ouOf r).c1 : Int), .int .i64 ((ouOf r).c2 : Int)]]) ∧
    IsRz w' ro (ouOf r).rl ∧ IsVals w' uo (iv (ouOf r).us) ∧ IsVals w' oo (iv (ouOf r).os) ∧ Below w.heap.size w w' := by
  obtain ⟨hb, h2⟩ := h
  cases r with
  | error ci =>
    have h2 : e = _ := h2
    exact ⟨⟨#[]⟩, none, none, none, none, none, none, 0, 0, 0, 0, 0, 0, h2, fun i x hx => by simp [ouOf] at hx, fun i x hx => by simp [ouOf, iv] at hx, fun i x hx => by simp [ouOf, iv] at hx, hb⟩
  | ok p =>
    obtain ⟨v, rfl, hpl⟩ := h2
    obtain ⟨rb, ac, qv, vv, tv, uv, ov, rfl, hrb, hr, hq, hv, ht, hu, ho⟩ := hpl.ex
    obtain ⟨qo, qc, rfl⟩ := own_form hq
    obtain ⟨vo, vc, rfl⟩ := own_form hv
    obtain ⟨tto, tc, rfl⟩ := own_form ht
    obtain ⟨uo, uc, rfl⟩ := own_form hu
    obtain ⟨oo, oc, rfl⟩ := own_form ho
    exact ⟨p.name, _, qo, vo, tto, uo, oo, ac, qc, vc, tc, uc, oc, by simp [ouOf], hr.rz, by have := vals_of hu; rw [nv_ivR] at this; exact this, vals_of ho, hb⟩
theorem ou_le {l : List Rz} (hl : l.length ≤ 400) : (ouOf (res l)).rl.length ≤ 400 ∧ (ouOf (res l)).us.length ≤ 2932031007317 ∧ (ouOf (res l)).os.length ≤ 2932031007317 := by
  cases h : res l with
  | error e => exact ⟨by simp [ouOf], by simp [ouOf], by simp [ouOf]⟩
  | ok p =>
    obtain ⟨h1, _, h3, h4, _⟩ := res_sm (by omega) h
    have h5 := congrArg List.length h4
    simp only [List.length_map] at h5
    have h6 : p.on.length ≤ 2932031007317 := h1.o
    exact ⟨by simp only [ouOf]; omega, by simp only [ouOf, List.length_map]; omega, h6⟩
/-- the same but for the rows' names -/
theorem ou_ren {l : List Rz} {wi : ByteArray} (hl : l.length ≤ 1000) (hn : ∀ i, i < l.length → (decl (rat l i).kind ≠ 0 ∨ nmd (rat l i).kind ≠ 0) → dclN l (rat l i).name = true → stdN l (newN l wi (rat l i).name) = false) (h1 : (chk l).1 = 0) (h2 : (chk (l.map (rnW l wi))).1 = 0) :
    ∃ σ : ByteArray → ByteArray, ouOf (res (l.map (rnW l wi))) = { ouOf (res l) with rl := (ouOf (res l)).rl.map (rnR σ) } := by
  refine ⟨sgm l wi, ?_⟩
  rcases res_renamed hl hn h1 h2 with ⟨e, e1, e2⟩ | ⟨p, q, e1, e2, r1, r2, r3, r4, r5, r6, r7⟩
  · rw [e1, e2]; rfl
  · rw [e1, e2]
    simp only [ouOf, r1, r2, r3, r4, r5, r6, r7]
end Go.Proofs.Ytjbpbgdhooggeaa.Nm

namespace Go.Proofs.Ytjbpbgdhooggeaa.Nm
open Go.RowKit Go.Maps Go.Proofs.Ytjbpbgdhooggeaa.Sp Go.Proofs.Ytjbpbgdhooggeaa.Lx Go.Proofs.Ytjbpbgdhooggeaa.Gr

set_option maxHeartbeats 6400000 in
set_option maxRecDepth 100000 in
/-- the reference: two lists of numbers -/
theorem rSameIntsJ {w : World} {ao bo : Option Addr} {l m : List Int} {ca cb : Nat} (ha : IsVals w ao (iv l)) (hb : IsVals w bo (iv m)) (hn : l.length ≤ 17592186043904) :
    Calls Try.prog 19 #[.slice ao l.length ca, .slice bo m.length cb] w fun e w' => (∃ b, e = .returned (.bool b) ∧ (b = true ↔ l = m)) ∧ Below w.heap.size w w' := by
  by_cases hlen : l.length = m.length
  · have HA := show Hid _ from ha
    have HB := show Hid _ from hb
    have HLn := show Hid _ from hlen
    have hn2 : (l.length : Int) ≤ 17592186043904 := by omega
    have hne : ((l.length : Int) != (l.length : Int)) = false := by simp
    rw [← hlen]
    clear ha hb hlen
    go_enter Try.func19, Try.ntmps19
    go_wp2_with fail
    go_loopg [5] l.length (fun gq x wr => ∃ k : Nat, k + gq = l.length ∧ x = .int .i64 (k : Int) ∧ l.take k = m.take k ∧ Below w.heap.size w wr)
    case atStart => exact ⟨0, by omega, rfl, rfl, Below.refl _ _⟩
    case round =>
      obtain ⟨k, hkg, rfl, htk, hbw⟩ := hrel
      have HG : Hid (k + gk = l.length ∧ Below w.heap.size w wr ∧ l.take k = m.take k) := ⟨hkg, hbw, htk⟩
      by_cases hlt : k < l.length
      · have hk' : (k : Int) < (l.length : Int) := by omega
        have hk2 : (k : Int) ≤ 17592186043904 := by omega
        have hlm : k < m.length := by have := HLn.out; omega
        have hx : (iv l)[k]? = some (.int .i64 l[k]) := by rw [List.getElem?_map, List.getElem?_eq_getElem hlt]; rfl
        have hy : (iv m)[k]? = some (.int .i64 m[k]) := by rw [List.getElem?_map, List.getElem?_eq_getElem hlm]; rfl
        obtain ⟨g, o, rfl, _, d0⟩ := (IsVals.below HA.out hbw) k _ hx
        obtain ⟨g', o', rfl, _, e0⟩ := (IsVals.below HB.out hbw) k _ hy
        have HSame : Hid (l[k] = m[k] → l.take (k + 1) = m.take (k + 1)) := fun e => by rw [List.take_add_one, List.take_add_one, HG.out.2.2, List.getElem?_eq_getElem hlt, List.getElem?_eq_getElem hlm, e]
        have HDiff : Hid (l[k] ≠ m[k] → l ≠ m) := fun e h => e (by subst h; rfl)
        clear hx hy
        generalize l[k] = x at *
        generalize m[k] = y at *
        have HLt : Hid (k < l.length) := hlt
        clear hkg hlt hbw htk hlm
        by_cases hxy : x = y
        · subst hxy
          have HS : Hid (l.take (k + 1) = m.take (k + 1)) := HSame.out rfl
          clear HSame HDiff
          have hq : (x != x) = false := by simp
          go_wp2_with fail
          go_quiet (fail)
          go_wp2_with fail
          go_roundg (l.length - (k + 1))
          case measure => have := HG.out.1; have := HLt.out; omega
          case rel => exact ⟨k + 1, by have := HLt.out; omega, by go_num, HS.out, HG.out.2.1.trans ((below_drewN _ _).mono HG.out.2.1.size)⟩
        · have HD : Hid (l ≠ m) := HDiff.out hxy
          clear HSame HDiff
          have hq : (x != y) = true := by simp [hxy]
          go_wp2_with fail
          go_quiet (fail)
          go_wp2
          go_ret
          exact ⟨⟨false, rfl, by simp [HD.out]⟩, HG.out.2.1.trans ((below_drewN _ _).mono HG.out.2.1.size)⟩
      · have hk' : decide (k < l.length) = false := decide_eq_false hlt
        have HE : Hid (l = m) := by
          have hke : k = l.length := by omega
          rw [hke, List.take_length, HLn.out, List.take_length] at htk
          exact htk
        clear hkg hlt hbw htk
        go_wp2
        go_ret
        exact ⟨⟨true, rfl, by simp [HE.out]⟩, HG.out.2.1⟩
  · have hne : ((l.length : Int) != (m.length : Int)) = true := by simp; omega
    have HD : Hid (l ≠ m) := fun e => hlen (by rw [e])
    clear ha hb hlen hn
    go_enter Try.func19, Try.ntmps19
    go_wp2
    go_ret
    exact ⟨⟨false, rfl, by simp [HD.out]⟩, Below.refl _ _⟩
theorem rSameInts {w : World} {ao bo : Option Addr} {l m : List Int} {ca cb : Nat} (ha : IsVals w ao (iv l)) (hb : IsVals w bo (iv m)) (hn : l.length ≤ 2932031007317) :
    Calls Try.prog 19 #[.slice ao l.length ca, .slice bo m.length cb] w fun e w' => (∃ b, e = .returned (.bool b) ∧ (b = true ↔ l = m)) ∧ Below w.heap.size w w' := rSameIntsJ ha hb (by omega)
end Go.Proofs.Ytjbpbgdhooggeaa.Nm

namespace Go.Proofs.Ytjbpbgdhooggeaa.Nm
open Go.RowKit Go.Maps Go.Proofs.Ytjbpbgdhooggeaa.Sp Go.Proofs.Ytjbpbgdhooggeaa.Lx Go.Proofs.Ytjbpbgdhooggeaa.Gr

abbrev nbrC (c : UInt8) (n : Nat) : Obj := .cells #[.int .u8 (c.toNat : Int), .int .u8 (48 + (n : Int) / 100), .int .u8 (48 + (n : Int) / 10 % 10), .int .u8 (48 + (n : Int) % 10)] 5 (0, 0)
theorem nbr_row (c : UInt8) (n : Nat) (hn : n < 1000) (w : World) : IsBytes (w.alloc (nbrC c n)) (some ⟨w.heap.size, 0, none⟩) (nbr c n) := by
  have hb := heap_alloc_new w (nbrC c n)
  intro i hi
  have hi : i < 4 := hi
  refine ⟨w.heap.size, 0, rfl, by simp, ?_⟩
  obtain rfl | rfl | rfl | rfl : i = 0 ∨ i = 1 ∨ i = 2 ∨ i = 3 := by omega
  all_goals
    simp only [World.cell?, hb]
  · rfl
  · show some (Value.int .u8 (48 + (n : Int) / 100)) = some (Value.int .u8 (((UInt8.ofNat (48 + n / 100)).toNat : Nat) : Int))
    rw [UInt8.toNat_ofNat']
    congr 2
    omega
  · show some (Value.int .u8 (48 + (n : Int) / 10 % 10)) = some (Value.int .u8 (((UInt8.ofNat (48 + n / 10 % 10)).toNat : Nat) : Int))
    rw [UInt8.toNat_ofNat']
    congr 2
    omega
  · show some (Value.int .u8 (48 + (n : Int) % 10)) = some (Value.int .u8 (((UInt8.ofNat (48 + n % 10)).toNat : Nat) : Int))
    rw [UInt8.toNat_ofNat']
    congr 2
    omega
set_option maxHeartbeats 1600000 in
set_option maxRecDepth 100000 in
theorem numbered_any (c : UInt8) (n : Nat) (hn : n < 1000) (w : World) : Calls Try.prog 16 #[.int .u8 (c.toNat : Int), .int .i64 (n : Int)] w fun e w' => e = .returned (.string (nbr c n)) ∧ Below w.heap.size w w' := by
  have hc : (convert 67 9 (.slice (some ⟨w.heap.size, 0, none⟩) 4 4)).run Try.prog (w.alloc (nbrC c n)) = .ok (.string (nbr c n)) (w.alloc (nbrC c n)) := conv_any Try.underlying67 _ (nbr c n) 4 _ (nbr_row c n hn w)
  have HB : Hid (∀ x, Below w.heap.size w (w.alloc x)) := fun x => (Below.refl _ w).alloc (Nat.le_refl _) x
  go_enter Try.func16, Try.ntmps16
  go_wp2_with fail
  go_ret
  exact ⟨rfl, HB.out _⟩
end Go.Proofs.Ytjbpbgdhooggeaa.Nm
