import Derived.Test.YtjoflihimpipcabGreatK10
set_option maxHeartbeats 1600000
namespace Go.Proofs.YtjoflihimpipcabGreat.Nm
open Go.RowKit Go.Maps Go.Proofs.YtjoflihimpipcabGreat.Sp Go.Proofs.YtjoflihimpipcabGreat.Lx Go.Proofs.YtjoflihimpipcabGreat.Gr
def lk {α β : Type} [DecidableEq α] : List (α × β) → α → Option β
  | [], _ => none
  | (a, b) :: l, x => if x = a then some b else lk l x
theorem lk_mem {α β : Type} [DecidableEq α] {l : List (α × β)} {x : α} {b : β} (h : lk l x = some b) : (x, b) ∈ l := by
  induction l with
  | nil => cases h
  | cons a l ih =>
    obtain ⟨a1, a2⟩ := a
    simp only [lk] at h
    split at h
    · rename_i e
      cases h
      subst e
      exact List.mem_cons_self
    · exact List.mem_cons_of_mem _ (ih h)
/-- a policy under way: rows, what is known (kind, number, from where on), lists, events -/
structure Rs where
  rows : List Rz
  known : List (ByteArray × Nat × Nat × Nat)
  qs : List (ByteArray × Bool)
  vs : List ByteArray
  ts : List ByteArray
  us : List Nat
  ev : List ((Nat × Nat) × Nat)
def Rs.cnt (s : Rs) (z : Nat) : Nat := if z = 1 then s.qs.length else if z = 2 then s.vs.length else if z = 3 then s.ts.length else if z = 4 then s.us.length else 0
/-- a row without what is meant -/
def clr (x : Rz) : Rz := { x with n := 0 }
/-- a row's number is put in -/
def numb (l : List Rz) (i : Nat) (n : Nat) : List Rz := l.set i { rat l i with n := (n : Int) }
def Rs.dec (s : Rs) (i : Nat) : Rs where
  rows := numb s.rows i (s.cnt (decl (rat s.rows i).kind))
  known := ((rat s.rows i).name, decl (rat s.rows i).kind, s.cnt (decl (rat s.rows i).kind), endp (numb s.rows i (s.cnt (decl (rat s.rows i).kind))) i) :: s.known
  qs := if (rat s.rows i).kind = 2 then s.qs ++ [((rat s.rows i).name, false)] else if (rat s.rows i).kind = 3 then s.qs ++ [((rat s.rows i).name, true)] else s.qs
  vs := if (rat s.rows i).kind = 4 then s.vs ++ [(rat s.rows i).name] else s.vs
  ts := if (rat s.rows i).kind = 5 then s.ts ++ [(rat s.rows i).name] else s.ts
  us := if (rat s.rows i).kind = 7 then s.us ++ [i + 1] else s.us
  ev := s.ev
def askD (i : Nat) (s : Rs) : Except Nat Rs :=
  if decl (rat s.rows i).kind = 0 then .ok s else if (lk s.known (rat s.rows i).name).isSome then .error 31
  else if s.cnt (decl (rat s.rows i).kind) = mst (decl (rat s.rows i).kind) then .error 3 else .ok (s.dec i)
def askM (i : Nat) (s : Rs) : Except Nat Rs :=
  if nmd (rat s.rows i).kind = 0 then .ok s else match lk s.known (rat s.rows i).name with
    | none => .error 32
    | some (k, m, p) => if i < p then .error 32 else if k ≠ nmd (rat s.rows i).kind then .error 33 else .ok { s with rows := numb s.rows i m }
def askH (i : Nat) (s : Rs) : Except Nat Rs :=
  if (evt (rat s.rows i)).1 = 0 then .ok s else if (lk s.ev (evn (rat s.rows i))).isSome then .error 31 else .ok { s with ev := (evn (rat s.rows i), i + 1) :: s.ev }
def ask (j i : Nat) (s : Rs) : Except Nat Rs := if j = 0 then askD i s else if j = 1 then askM i s else askH i s
def askN (i : Nat) (s : Rs) : Nat → Except Nat Rs
  | 0 => .ok s
  | j + 1 => match askN i s j with | .error c => .error c | .ok t => ask j i t
/-- the rows gone through -/
def upto (s : Rs) : Nat → Except (Nat × Nat) Rs
  | 0 => .ok s
  | i + 1 => match upto s i with | .error e => .error e | .ok t => match askN i t 3 with | .error c => .error (c, i) | .ok t' => .ok t'
theorem upto_err {s : Rs} {i : Nat} {e : Nat × Nat} (h : upto s i = .error e) : ∀ k, upto s (i + k) = .error e := by
  intro k
  induction k with
  | zero => exact h
  | succ k ih => rw [← Nat.add_assoc]; simp only [upto, ih]
theorem sz_clr (l : List Rz) : ∀ m, sz (l.map clr) m = sz l m := by
  induction l with
  | nil => intro m; rfl
  | cons x l ih =>
    intro m
    simp only [List.map_cons, sz, ih]
    rfl
theorem endp_clr (l : List Rz) (i : Nat) : endp (l.map clr) i = endp l i := by unfold endp; rw [← List.map_drop, sz_clr]
theorem endp_like {l l0 : List Rz} (h : l.map clr = l0.map clr) (i : Nat) : endp l i = endp l0 i := by rw [← endp_clr l, h, endp_clr]
theorem like_len {l l0 : List Rz} (h : l.map clr = l0.map clr) : l.length = l0.length := by simpa using congrArg List.length h
theorem like_at {l l0 : List Rz} (h : l.map clr = l0.map clr) {i : Nat} (hi : i < l0.length) : clr (rat l i) = clr (rat l0 i) := by
  have h1 := congrArg (fun t : List Rz => t[i]?) h
  simp only [List.getElem?_map] at h1
  rw [some_rat hi, some_rat (by rw [like_len h]; exact hi)] at h1
  simpa using h1
theorem like_kind {l l0 : List Rz} (h : l.map clr = l0.map clr) {i : Nat} (hi : i < l0.length) : (rat l i).kind = (rat l0 i).kind ∧ (rat l i).name = (rat l0 i).name ∧ (rat l i).kids = (rat l0 i).kids := by
  have := like_at h hi
  exact ⟨by simpa [clr] using congrArg Rz.kind this, by simpa [clr] using congrArg Rz.name this, by simpa [clr] using congrArg Rz.kids this⟩
theorem like_tree {l l0 : List Rz} (h : l.map clr = l0.map clr) (hT : TreeZ l0) : TreeZ l := by
  have hl := like_len h
  have hw : Whole l := by
    unfold Whole
    rw [← sz_clr l, h, sz_clr, hl]
    exact hT.whole
  refine ⟨hw, fun i hi => ?_⟩
  have hi0 : i < l0.length := by omega
  obtain ⟨_, _, hk⟩ := like_kind h hi0
  have := hT.kids i hi0
  rw [km_rat] at this ⊢
  unfold Rz.m at *
  rw [hk]
  exact this
theorem rat_numb {l : List Rz} {i n : Nat} (hi : i < l.length) : rat (numb l i n) i = { rat l i with n := (n : Int) } := by
  have : (numb l i n)[i]? = some { rat l i with n := (n : Int) } := by simp [numb, hi]
  have h2 := some_rat (l := numb l i n) (i := i) (by simp [numb, hi])
  rw [h2] at this
  exact Option.some.inj this
theorem numb_clr (l : List Rz) (i n : Nat) : (numb l i n).map clr = l.map clr := by
  refine List.ext_getElem? fun j => ?_
  simp only [numb, List.getElem?_map, List.getElem?_set]
  by_cases e : i = j
  · subst e
    by_cases hi : i < l.length
    · rw [if_pos rfl, if_pos hi, some_rat hi]
      rfl
    · rw [if_pos rfl, if_neg hi, List.getElem?_eq_none (by omega)]
  · rw [if_neg e]
theorem numb_len (l : List Rz) (i n : Nat) : (numb l i n).length = l.length := by simp [numb]
/-- what is asked of the rows that are handed in -/
structure Base (l0 : List Rz) : Prop where
  tree : TreeZ l0
  pos : 0 < l0.length
  fill : ∀ i, i < l0.length → filled (rat l0 i) = true
theorem base_of {l : List Rz} (h : (wrong [ab1] 0 l).2 = false) : Base l := ⟨(tree_of h).1, (tree_of h).2, fun _ hi => wrong_all l _ _ h _ (List.mem_of_getElem? (some_rat hi))⟩
theorem filled_name {r : Rz} (h : filled r = true) : r.name.size ≤ 64 := by
  unfold filled at h
  rw [Bool.and_eq_true] at h
  have h1 := h.1
  unfold nameFits at h1
  split at h1
  · unfold isName at h1
    simp only [Bool.and_eq_true, decide_eq_true_eq] at h1
    have := h1.1.1
    rw [tx_len] at this
    exact this
  · unfold none0 at h1
    have h2 : r.name.toList = [] := by simpa using h1
    rw [ByteArray.toList_eq] at h2
    have h3 : r.name.size = r.name.data.toList.length := rfl
    rw [h2] at h3
    rw [h3]
    decide
theorem filled_kid {r : Rz} (h : filled r = true) (hk : r.kind = 7 ∨ r.kind = 8 ∨ r.kind = 9 ∨ r.kind = 10) : 1 ≤ r.kids := by
  unfold filled at h
  simp only [Bool.and_eq_true] at h
  have h1 := h.2.2.2
  unfold wtn at h1
  simp only [Bool.and_eq_true, decide_eq_true_eq] at h1
  have h2 : least r.kind = 1 := by
    unfold least
    rcases hk with e | e | e | e <;> rw [e] <;> decide
  rw [h2] at h1
  exact h1.1
/-- a row with a kid is not the last one -/
theorem kid_in {l : List Rz} (hT : TreeZ l) {i : Nat} (hi : i < l.length) (hk : 1 ≤ (rat l i).kids) : i + 1 < l.length := by
  have h1 := hT.kids i hi
  have h2 := (kid_at hT.whole hi (k := 0) (by omega)).1
  simpa [kidp, sz_zero] using h2
structure Good (l0 : List Rz) (m : Nat) (s : Rs) : Prop where
  like : s.rows.map clr = l0.map clr
  q : s.qs.length ≤ 16
  v : s.vs.length ≤ 16
  t : s.ts.length ≤ 4
  u : s.us.length ≤ 64
  kn : ∀ e ∈ s.known, 1 ≤ e.2.1 ∧ e.2.1 ≤ 4 ∧ e.2.2.1 < s.cnt e.2.1
  kl : s.known.length = s.qs.length + s.vs.length + s.ts.length + s.us.length
  ul : ∀ u ∈ s.us, u < l0.length
  el : s.ev.length ≤ m
theorem Good.cnt_le {l0 : List Rz} {m : Nat} {s : Rs} (h : Good l0 m s) (z : Nat) : s.cnt z ≤ mst z := by
  have := h.q
  have := h.v
  have := h.t
  have := h.u
  unfold Rs.cnt mst
  repeat' split
  all_goals omega
theorem decl_cases (k : Int) : (k = 2 ∧ decl k = 1) ∨ (k = 3 ∧ decl k = 1) ∨ (k = 4 ∧ decl k = 2) ∨ (k = 5 ∧ decl k = 3) ∨ (k = 7 ∧ decl k = 4) ∨ (k ≠ 2 ∧ k ≠ 3 ∧ k ≠ 4 ∧ k ≠ 5 ∧ k ≠ 7 ∧ decl k = 0) := by
  unfold decl
  by_cases h2 : k = 2
  · simp [h2]
  by_cases h3 : k = 3
  · simp [h3]
  by_cases h4 : k = 4
  · simp [h4]
  by_cases h5 : k = 5
  · simp [h5]
  by_cases h7 : k = 7
  · simp [h7]
  simp [h2, h3, h4, h5, h7]
theorem dec_lens (s : Rs) (i : Nat) : (s.dec i).qs.length = s.qs.length + (if (rat s.rows i).kind = 2 then 1 else if (rat s.rows i).kind = 3 then 1 else 0) ∧ (s.dec i).vs.length = s.vs.length + (if (rat s.rows i).kind = 4 then 1 else 0) ∧ (s.dec i).ts.length = s.ts.length + (if (rat s.rows i).kind = 5 then 1 else 0) ∧ (s.dec i).us.length = s.us.length + (if (rat s.rows i).kind = 7 then 1 else 0) := by
  unfold Rs.dec
  generalize rat s.rows i = x
  dsimp only
  refine ⟨?_, ?_, ?_, ?_⟩
  · split
    · exact List.length_append
    · split
      · exact List.length_append
      · rfl
  all_goals
    split
    · exact List.length_append
    · rfl
theorem cnt_dec (s : Rs) (i z : Nat) (hd : decl (rat s.rows i).kind ≠ 0) : (s.dec i).cnt z = if z = decl (rat s.rows i).kind then s.cnt z + 1 else s.cnt z := by
  obtain ⟨h1, h2, h3, h4⟩ := dec_lens s i
  unfold Rs.cnt
  rw [h1, h2, h3, h4]
  generalize (rat s.rows i).kind = k at *
  rcases decl_cases k with ⟨rfl, ed⟩ | ⟨rfl, ed⟩ | ⟨rfl, ed⟩ | ⟨rfl, ed⟩ | ⟨rfl, ed⟩ | ⟨_, _, _, _, _, ed⟩
  all_goals
    first
    | exact absurd ed hd
    | (rw [ed]
       by_cases z1 : z = 1
       · subst z1; rfl
       by_cases z2 : z = 2
       · subst z2; rfl
       by_cases z3 : z = 3
       · subst z3; rfl
       by_cases z4 : z = 4
       · subst z4; rfl
       simp [z1, z2, z3, z4])
theorem cnt_q (s : Rs) : s.qs.length = s.cnt 1 ∧ s.vs.length = s.cnt 2 ∧ s.ts.length = s.cnt 3 ∧ s.us.length = s.cnt 4 := ⟨rfl, rfl, rfl, rfl⟩
theorem good_D {l0 : List Rz} (hB : Base l0) {m i : Nat} {s s' : Rs} (hi : i < l0.length) (h : Good l0 m s) (hs : askD i s = .ok s') : Good l0 m s' := by
  have hk := like_kind h.like hi
  have hf := hB.fill i hi
  unfold askD at hs
  split at hs
  · cases hs; exact h
  split at hs
  · cases hs
  split at hs
  · cases hs
  rename_i h1 h2 h3
  cases hs
  have hle : ∀ z, z ≤ 4 → (s.dec i).cnt z ≤ mst z := fun z _ => by
    have := h.cnt_le z
    rw [cnt_dec s i z h1]
    split
    · rename_i e
      subst e
      omega
    · exact this
  have hge : ∀ z, s.cnt z ≤ (s.dec i).cnt z := fun z => by
    rw [cnt_dec s i z h1]
    split <;> omega
  have c1 := hle 1 (by decide)
  have c2 := hle 2 (by decide)
  have c3 := hle 3 (by decide)
  have c4 := hle 4 (by decide)
  refine ⟨(numb_clr _ _ _).trans h.like, c1, c2, c3, c4, fun e he => ?_, ?_, fun u hu => ?_, h.el⟩
  · rcases List.mem_cons.1 he with rfl | he
    · refine ⟨by dsimp only; omega, decl_le _, ?_⟩
      dsimp only
      rw [cnt_dec s i _ h1, if_pos rfl]
      exact Nat.lt_succ_self _
    · obtain ⟨a, b, c⟩ := h.kn e he
      exact ⟨a, b, Nat.lt_of_lt_of_le c (hge _)⟩
  · obtain ⟨e1, e2, e3, e4⟩ := dec_lens s i
    have hl : (s.dec i).known.length = s.known.length + 1 := rfl
    rw [hl, h.kl, e1, e2, e3, e4]
    generalize (rat s.rows i).kind = k at *
    rcases decl_cases k with ⟨rfl, ed⟩ | ⟨rfl, ed⟩ | ⟨rfl, ed⟩ | ⟨rfl, ed⟩ | ⟨rfl, ed⟩ | ⟨_, _, _, _, _, ed⟩
    all_goals
      first
      | exact absurd ed h1
      | (simp; omega)
  · have hu2 : u ∈ (if (rat s.rows i).kind = 7 then s.us ++ [i + 1] else s.us) := hu
    split at hu2
    · rename_i e
      rcases List.mem_append.1 hu2 with hu2 | hu2
      · exact h.ul u hu2
      · rw [List.mem_singleton.1 hu2]
        exact kid_in hB.tree hi (filled_kid hf (Or.inl (hk.1 ▸ e)))
    · exact h.ul u hu2
theorem good_M {l0 : List Rz} {m i : Nat} {s s' : Rs} (h : Good l0 m s) (hs : askM i s = .ok s') : Good l0 m s' := by
  unfold askM at hs
  split at hs
  · cases hs; exact h
  split at hs
  · cases hs
  split at hs
  · cases hs
  split at hs
  · cases hs
  · cases hs
    exact ⟨(numb_clr _ _ _).trans h.like, h.q, h.v, h.t, h.u, h.kn, h.kl, h.ul, h.el⟩
theorem good_H {l0 : List Rz} {m i : Nat} {s s' : Rs} (h : Good l0 m s) (hs : askH i s = .ok s') : Good l0 (m + 1) s' := by
  unfold askH at hs
  split at hs
  · cases hs; exact ⟨h.like, h.q, h.v, h.t, h.u, h.kn, h.kl, h.ul, Nat.le_succ_of_le h.el⟩
  split at hs
  · cases hs
  · cases hs
    exact ⟨h.like, h.q, h.v, h.t, h.u, h.kn, h.kl, h.ul, Nat.succ_le_succ h.el⟩
/-- behind naming an event's number is a queue's -/
theorem num_M {l0 : List Rz} {m i : Nat} {s s' : Rs} (hi : i < l0.length) (h : Good l0 m s) (hs : askM i s = .ok s') (he : (evt (rat s'.rows i)).1 = 1) : 0 ≤ (rat s'.rows i).n ∧ (rat s'.rows i).n ≤ 16 := by
  have hlen := like_len h.like
  have hkd : ∀ x : Rz, (evt x).1 = 1 → nmd x.kind = 1 := fun x hx => by
    unfold evt at hx
    split at hx
    · rename_i hk
      rcases hk with e | e <;> (rw [e]; decide)
    · split at hx <;> cases hx
  unfold askM at hs
  split at hs
  · rename_i h0
    cases hs
    have := hkd _ he
    omega
  split at hs
  · cases hs
  rename_i k mm p hlk
  split at hs
  · cases hs
  split at hs
  · cases hs
  · rename_i hne
    cases hs
    dsimp only at he ⊢
    rw [rat_numb (by omega)] at he ⊢
    have h1 := hkd _ he
    have h2 := (h.kn _ (lk_mem hlk)).2.2
    dsimp only at h1 h2 ⊢
    have hk1 : k = 1 := by omega
    rw [hk1] at h2
    simp only [Rs.cnt] at h2
    have := h.q
    simp at h2
    omega
end Go.Proofs.YtjoflihimpipcabGreat.Nm
