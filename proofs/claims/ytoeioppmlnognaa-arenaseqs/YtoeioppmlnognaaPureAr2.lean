import Derived.Test.YtoeioppmlnognaaPureAr
namespace Go.Proofs.Ytoeioppmlnognaa.Ar

/-- what lies in an arena's memory: neighbours, lists, values of nodes; ends and counts of lists -/
structure Cs where
  bs : Nat → Nat → Int
  li : Nat → Int
  vl : Nat → Int
  la : Nat → Nat → Int
  ct : Nat → Nat
/-- what an arena is: its lists, the freed nodes (the last one first), what is held -/
structure As where
  size : Nat
  nl : Nat
  used : Nat
  L : Nat → List Nat
  fr : List Nat
  val : Nat → Int
def As.free (a : As) : Nat := a.size - a.used + a.fr.length
def tl (L : Nat → List Nat) : Nat → Nat
  | 0 => 0
  | n + 1 => tl L n + (L n).length
theorem tl_out (L : Nat → List Nat) (i n : Nat) (l : List Nat) (h : n ≤ i) : tl (up L i l) n = tl L n := by
  induction n with
  | zero => rfl
  | succ n ih => simp only [tl]; rw [ih (by omega), up_ne L l (by omega)]
theorem tl_up (L : Nat → List Nat) (i n : Nat) (l : List Nat) (h : i < n) : tl (up L i l) n + (L i).length = tl L n + l.length := by
  induction n with
  | zero => omega
  | succ n ih =>
    simp only [tl]
    by_cases hi : i = n
    · subst hi
      rw [tl_out L i i l (Nat.le_refl _), up_self]; omega
    · rw [up_ne L l (fun e => hi e.symm)]
      have := ih (by omega)
      omega
theorem tl_le (L : Nat → List Nat) (i n : Nat) (h : i < n) : (L i).length ≤ tl L n := by
  induction n with
  | zero => omega
  | succ n ih =>
    simp only [tl]
    by_cases hi : i = n
    · subst hi; omega
    · have := ih (by omega); omega

/-- the memory says what the arena is; aw: a node that is nowhere for now -/
structure Inv (c : Cs) (a : As) (aw : List Nat) : Prop where
  used : a.used ≤ a.size
  nd : ∀ i, i < a.nl → (a.L i).Nodup
  lt : ∀ i, i < a.nl → ∀ x ∈ a.L i, x < a.used ∧ c.li x = i ∧ c.vl x = a.val x
  sp : ∀ i, i < a.nl → Sp c.bs 0 (a.L i)
  la : ∀ i, i < a.nl → ∀ e, e < 2 → c.la i e = hd (dir e (a.L i))
  ct : ∀ i, i < a.nl → c.ct i = (a.L i).length
  fnd : a.fr.Nodup
  flt : ∀ x ∈ a.fr, x < a.used ∧ c.li x = -1
  fsp : ∀ p x q, a.fr = p ++ x :: q → c.bs x 0 = hd q
  awl : ∀ x ∈ aw, x < a.used ∧ x ∉ a.fr ∧ ∀ i, i < a.nl → x ∉ a.L i
  all : ∀ x, x < a.used → x ∈ a.fr ∨ (∃ i, i < a.nl ∧ x ∈ a.L i) ∨ x ∈ aw
  tot : tl a.L a.nl + a.fr.length + aw.length = a.used

/-- what is nowhere may be turned -/
theorem Inv.agree {c c' : Cs} {a : As} {aw : List Nat} (h : Inv c a aw) (hla : c'.la = c.la) (hct : c'.ct = c.ct)
    (hx : ∀ x, x < a.used → x ∉ aw → (∀ e, e < 2 → c'.bs x e = c.bs x e) ∧ c'.li x = c.li x ∧ c'.vl x = c.vl x) : Inv c' a aw := by
  have out : ∀ i, i < a.nl → ∀ x ∈ a.L i, x ∉ aw := fun i hi x hx ha => (h.awl x ha).2.2 i hi hx
  have outf : ∀ x ∈ a.fr, x ∉ aw := fun x hx ha => (h.awl x ha).2.1 hx
  refine ⟨h.used, h.nd, fun i hi x hm => ?_, fun i hi => ?_, ?_, ?_, h.fnd, fun x hm => ?_, fun p x q hs => ?_, h.awl, h.all, h.tot⟩
  · obtain ⟨h1, h2, h3⟩ := h.lt i hi x hm
    obtain ⟨_, k2, k3⟩ := hx x h1 (out i hi x hm)
    exact ⟨h1, k2.trans h2, k3.trans h3⟩
  · exact (h.sp i hi).agree (by omega) fun x hm k hk => (hx x (h.lt i hi x hm).1 (out i hi x hm)).1 k hk
  · rw [hla]; exact h.la
  · rw [hct]; exact h.ct
  · obtain ⟨h1, h2⟩ := h.flt x hm
    exact ⟨h1, ((hx x h1 (outf x hm)).2.1).trans h2⟩
  · have hm : x ∈ a.fr := by rw [hs]; simp
    exact ((hx x (h.flt x hm).1 (outf x hm)).1 0 (by omega)).trans (h.fsp p x q hs)

/-- where a node is -/
theorem Inv.where_ {c : Cs} {a : As} {aw : List Nat} (h : Inv c a aw) {x i : Nat} (hx : x < a.used) (ha : x ∉ aw) (hi : c.li x = i) : i < a.nl ∧ x ∈ a.L i := by
  rcases h.all x hx with h1 | ⟨j, hj, hm⟩ | h1
  · have := (h.flt x h1).2; omega
  · have := (h.lt j hj x hm).2.1
    have : j = i := by omega
    subst this
    exact ⟨hj, hm⟩
  · exact absurd h1 ha
theorem Inv.freed {c : Cs} {a : As} {aw : List Nat} (h : Inv c a aw) {x : Nat} (hx : x < a.used) (ha : x ∉ aw) (hi : c.li x = -1) : x ∈ a.fr := by
  rcases h.all x hx with h1 | ⟨j, hj, hm⟩ | h1
  · exact h1
  · have := (h.lt j hj x hm).2.1
    omega
  · exact absurd h1 ha
theorem Inv.listed {c : Cs} {a : As} {aw : List Nat} (h : Inv c a aw) {x : Nat} (hx : x < a.used) (ha : x ∉ aw) (hi : c.li x ≠ -1) : ∃ i, i < a.nl ∧ x ∈ a.L i ∧ c.li x = i := by
  rcases h.all x hx with h1 | ⟨j, hj, hm⟩ | h1
  · exact absurd (h.flt x h1).2 hi
  · exact ⟨j, hj, hm, (h.lt j hj x hm).2.1⟩
  · exact absurd h1 ha
theorem Inv.one {c : Cs} {a : As} {aw : List Nat} (h : Inv c a aw) {x i j : Nat} (hi : i < a.nl) (hj : j < a.nl) (h1 : x ∈ a.L i) (h2 : x ∈ a.L j) : i = j := by
  have := (h.lt i hi x h1).2.1
  have := (h.lt j hj x h2).2.1
  omega
theorem Inv.notfr {c : Cs} {a : As} {aw : List Nat} (h : Inv c a aw) {x i : Nat} (hi : i < a.nl) (h1 : x ∈ a.L i) : x ∉ a.fr := by
  intro h2
  have := (h.lt i hi x h1).2.1
  have := (h.flt x h2).2
  omega

/-- a list's other end -/
theorem hd_dir (e : Nat) (he : e < 2) (x : Nat) (l : List Nat) : hd (dir (1 - e) (dir e (x :: l))) = if l = [] then (x : Int) else hd (dir (1 - e) (dir e l)) := by
  have h : ∀ l : List Nat, dir (1 - e) (dir e l) = l.reverse := fun l => by
    unfold dir
    by_cases h0 : e = 0
    · simp [h0]
    · have : e = 1 := by omega
      simp [this]
  rw [h, h]
  simp only [hd_rev]
  by_cases hl : l = []
  · simp [hl, lst, enc]
  · rw [if_neg hl]
    cases l with
    | nil => exact absurd rfl hl
    | cons y t => simp [lst, List.getLast?_cons]

/-- a node that is nowhere is laid at an end -/
def Cs.link (c : Cs) (x i e : Nat) : Cs :=
  { li := up c.li x i
    vl := c.vl
    bs := if c.la i e = -1 then up2 (up2 c.bs x e (-1)) x (1 - e) (c.la i e) else up2 (up2 (up2 c.bs x e (-1)) x (1 - e) (c.la i e)) (c.la i e).toNat e x
    la := up2 (if c.la i e = -1 then up2 c.la i (1 - e) x else c.la) i e x
    ct := up c.ct i (c.ct i + 1) }
def As.link (a : As) (x i e : Nat) : As := { a with L := up a.L i (dir e (x :: dir e (a.L i))) }

theorem Inv.link {c : Cs} {a : As} {x i e : Nat} (h : Inv c a [x]) (hv : c.vl x = a.val x) (hi : i < a.nl) (he : e < 2) : Inv (c.link x i e) (a.link x i e) [] := by
  obtain ⟨hxu, hxf, hxL⟩ := h.awl x (by simp)
  have hla := h.la i hi e he
  have hne : ∀ j, j < a.nl → ∀ y ∈ a.L j, y ≠ x := fun j hj y hy e => hxL j hj (e ▸ hy)
  -- the neighbours of what is elsewhere
  have hbs : ∀ y : Nat, y ≠ x → (y : Int) ≠ hd (dir e (a.L i)) → ∀ k, (c.link x i e).bs y k = c.bs y k := fun y hy hh k => by
    simp only [Cs.link]
    split
    · rw [up2_ne _ _ (by omega), up2_ne _ _ (by omega)]
    · rename_i h0
      rw [hla] at h0
      obtain ⟨z, t, h1, h2⟩ := hd_eq h0
      rw [up2_ne _ _ (by rintro ⟨e1, _⟩; rw [hla] at e1; omega), up2_ne _ _ (by omega), up2_ne _ _ (by omega)]
  have hin : ∀ y : Nat, (y : Int) = hd (dir e (a.L i)) → y ∈ a.L i := fun y hy => by
    obtain ⟨z, t, h1, h2⟩ := hd_eq (l := dir e (a.L i)) (by omega)
    have : y = z := by omega
    subst this
    exact (mem_dir e _ _).1 (by rw [h1]; simp)
  have hli : ∀ y, y ≠ x → (c.link x i e).li y = c.li y := fun y hy => up_ne _ _ hy
  have hL : ∀ j, j ≠ i → (a.link x i e).L j = a.L j := fun j hj => up_ne _ _ hj
  have hLi : (a.link x i e).L i = dir e (x :: dir e (a.L i)) := up_self _ _ _
  have hnd : (x :: dir e (a.L i)).Nodup := List.nodup_cons.2 ⟨fun hm => hxL i hi ((mem_dir _ _ _).1 hm), nodup_dir (h.nd i hi)⟩
  have hmem : ∀ y, y ∈ (a.link x i e).L i ↔ y = x ∨ y ∈ a.L i := fun y => by rw [hLi, mem_dir, List.mem_cons, mem_dir]
  refine ⟨h.used, fun j hj => ?_, fun j hj y hy => ?_, fun j hj => ?_, fun j hj k hk => ?_, fun j hj => ?_, h.fnd, fun y hy => ?_, fun p y q hs => ?_, fun y hy => (by cases hy), fun y hy => ?_, ?_⟩
  · by_cases hji : j = i
    · subst hji; rw [hLi]; exact nodup_dir hnd
    · rw [hL j hji]; exact h.nd j hj
  · by_cases hji : j = i
    · subst hji
      rcases (hmem y).1 hy with rfl | hy
      · exact ⟨hxu, up_self _ _ _, hv⟩
      · rw [hli y (hne j hj y hy)]; exact h.lt j hj y hy
    · rw [hL j hji] at hy
      rw [hli y (hne j hj y hy)]; exact h.lt j hj y hy
  · by_cases hji : j = i
    · subst hji
      refine Sp.undir (e := e) he ?_
      rw [hLi, dir_dir]
      refine ((h.sp j hj).dir he).cons he hnd ?_ ?_ ?_ (fun y hy hh k _ => hbs y hy hh k)
      · simp only [Cs.link]
        split
        · rw [up2_ne _ _ (by omega), up2_self]
        · rename_i h0
          have : (c.la j e).toNat ≠ x := by
            rw [hla] at h0 ⊢
            obtain ⟨z, t, h1, h2⟩ := hd_eq h0
            have := hne j hj z ((mem_dir e _ _).1 (by rw [h1]; simp))
            omega
          rw [up2_ne _ _ (by omega), up2_ne _ _ (by omega), up2_self]
      · rw [← hla]
        simp only [Cs.link]
        split
        · rw [up2_self]
        · rw [up2_ne _ _ (by omega), up2_self]
      · intro y q hd'
        have hy : (y : Int) = c.la j e := by rw [hla, hd', hd_cons]
        have hyx : y ≠ x := hne j hj y (hin y (by rw [← hla, hy]))
        simp only [Cs.link]
        rw [if_neg (by omega)]
        have : (c.la j e).toNat = y := by omega
        rw [this]
        refine ⟨up2_self _ _ _ _, ?_⟩
        rw [up2_ne _ _ (by omega), up2_ne _ _ (by omega), up2_ne _ _ (by omega)]
    · rw [hL j hji]
      refine (h.sp j hj).agree (by omega) fun y hy k _ => hbs y (hne j hj y hy) (fun hh => ?_) k
      exact hji (h.one hj hi hy (hin y hh))
  · by_cases hji : j = i
    · subst hji
      rw [hLi]
      by_cases hke : k = e
      · subst hke
        rw [dir_dir]
        simp only [Cs.link]
        rw [up2_self, hd_cons]
      · have hk' : k = 1 - e := by omega
        subst hk'
        rw [hd_dir e he]
        simp only [Cs.link]
        rw [up2_ne _ _ (by omega), dir_dir]
        by_cases hl : dir e (a.L j) = []
        · rw [if_pos hl, if_pos (by rw [hla, hl]; rfl), up2_self]
        · rw [if_neg hl, if_neg (by rw [hla]; exact fun h => hl (hd_ne h))]
          exact h.la j hj _ hk
    · rw [hL j hji, ← h.la j hj k hk]
      simp only [Cs.link]
      rw [up2_ne _ _ (by omega)]
      split
      · rw [up2_ne _ _ (by omega)]
      · rfl
  · by_cases hji : j = i
    · subst hji
      rw [hLi, dir_len, List.length_cons, dir_len]
      simp only [Cs.link]
      rw [up_self, h.ct j hj]
    · rw [hL j hji]
      simp only [Cs.link]
      rw [up_ne _ _ hji, h.ct j hj]
  · have hyx : y ≠ x := fun e => hxf (e ▸ hy)
    rw [hli y hyx]
    exact h.flt y hy
  · have hy : y ∈ a.fr := by
      have : a.fr = p ++ y :: q := hs
      rw [this]; simp
    have hyx : y ≠ x := fun e => hxf (e ▸ hy)
    rw [hbs y hyx (fun hh => h.notfr hi (hin y hh) hy)]
    exact h.fsp p y q hs
  · rcases h.all y hy with h1 | ⟨j, hj, hm⟩ | h1
    · exact Or.inl h1
    · refine Or.inr (Or.inl ⟨j, hj, ?_⟩)
      by_cases hji : j = i
      · subst hji; exact (hmem y).2 (Or.inr hm)
      · rw [hL j hji]; exact hm
    · refine Or.inr (Or.inl ⟨i, hi, (hmem y).2 (Or.inl ?_)⟩)
      simpa using h1
  · have := tl_up a.L i a.nl (dir e (x :: dir e (a.L i))) hi
    rw [dir_len, List.length_cons, dir_len] at this
    have := h.tot
    simp only [As.link, List.length_nil, List.length_cons] at *
    omega

/-- one end of a node that leaves its list -/
def Cs.un1 (c : Cs) (x i e : Nat) : Cs :=
  if c.bs x e = -1 then { c with la := up2 c.la i e (c.bs x (1 - e)) } else { c with bs := up2 c.bs (c.bs x e).toNat (1 - e) (c.bs x (1 - e)) }
def Cs.unlink (c : Cs) (x i : Nat) : Cs :=
  { ((c.un1 x i 0).un1 x i 1) with ct := up c.ct i (c.ct i - 1) }
def As.unlink (a : As) (x i : Nat) : As := { a with L := up a.L i ((a.L i).erase x) }

theorem erase_mid {p q : List Nat} {x : Nat} (h : (p ++ x :: q).Nodup) : (p ++ x :: q).erase x = p ++ q := by
  rw [List.nodup_append] at h
  rw [List.erase_append_right _ (fun hm => h.2.2 x hm x (by simp) rfl), List.erase_cons_head]

theorem Inv.unlink {c : Cs} {a : As} {x i : Nat} (h : Inv c a []) (hi : i < a.nl) (hx : x ∈ a.L i) : Inv (c.unlink x i) (a.unlink x i) [x] := by
  obtain ⟨p, q, hpq⟩ := List.append_of_mem hx
  have hnd := h.nd i hi
  rw [hpq] at hnd
  have hsp := h.sp i hi
  rw [hpq] at hsp
  obtain ⟨b0, b1⟩ := hsp p x q rfl
  simp only [Nat.sub_zero] at b1
  have hnd' := List.nodup_append.1 hnd
  have hxp : ∀ y ∈ p, y ≠ x := fun y hy e => hnd'.2.2 y hy x (by simp) e
  have hxq : ∀ y ∈ q, y ≠ x := fun y hy e => (List.nodup_cons.1 hnd'.2.1).1 (e ▸ hy)
  have hlp : ∀ y : Nat, (y : Int) = lst p → y ∈ p := fun y hy => by
    obtain ⟨z, t, h1, h2⟩ := lst_eq (l := p) (by omega)
    have : y = z := by omega
    subst this; rw [h1]; simp
  have hhq : ∀ y : Nat, (y : Int) = hd q → y ∈ q := fun y hy => by
    obtain ⟨z, t, h1, h2⟩ := hd_eq (l := q) (by omega)
    have : y = z := by omega
    subst this; rw [h1]; simp
  have hE : (a.unlink x i).L i = p ++ q := by
    simp only [As.unlink]; rw [up_self, hpq, erase_mid hnd]
  have hL : ∀ j, j ≠ i → (a.unlink x i).L j = a.L j := fun j hj => up_ne _ _ hj
  -- what the two turns leave
  have hx0 : ∀ k, k < 2 → (c.un1 x i 0).bs x k = c.bs x k := fun k hk => by
    unfold Cs.un1
    split
    · rfl
    · rename_i h0
      show up2 _ _ _ _ _ _ = _
      refine up2_ne _ _ ?_
      rintro ⟨e1, _⟩
      rw [b0] at h0 e1
      obtain ⟨z, t, h1, h2⟩ := lst_eq h0
      exact hxp z (by rw [h1]; simp) (by omega)
  have hbs : ∀ y k, (c.unlink x i).bs y k = if (y : Int) = lst p ∧ k = 1 then hd q else if (y : Int) = hd q ∧ k = 0 then lst p else c.bs y k := fun y k => by
    have e1 := hx0 1 (by omega)
    have e0 := hx0 0 (by omega)
    have s0 : ∀ y k, (c.un1 x i 0).bs y k = if (y : Int) = lst p ∧ k = 1 then hd q else c.bs y k := fun y k => by
      unfold Cs.un1
      rw [b0, b1]
      split
      · rename_i h0
        rw [if_neg (by omega)]
      · rename_i h0
        obtain ⟨z, t, h1, h2⟩ := lst_eq h0
        show up2 _ _ _ _ _ _ = _
        unfold up2
        have : (lst p).toNat = z := by omega
        rw [this]
        by_cases hc : y = z ∧ k = 1
        · rw [if_pos (by simpa using hc), if_pos ⟨by omega, hc.2⟩]
        · rw [if_neg (by simpa using hc), if_neg (by omega)]
    show ((c.un1 x i 0).un1 x i 1).bs y k = _
    rw [Cs.un1]
    simp only [Nat.sub_self]
    rw [e1, e0, b0, b1]
    by_cases h1 : hd q = -1
    · rw [if_pos h1]
      show (c.un1 x i 0).bs y k = _
      rw [s0]
      by_cases hA : (y : Int) = lst p ∧ k = 1
      · rw [if_pos hA, if_pos hA]
      · rw [if_neg hA, if_neg hA, if_neg (by omega)]
    · rw [if_neg h1]
      obtain ⟨z, t, h2, h3⟩ := hd_eq h1
      have hz : (hd q).toNat = z := by omega
      have hzp : (z : Int) ≠ lst p := fun hh => by
        have := hlp z hh
        exact hnd'.2.2 z this z (by rw [h2]; simp) rfl
      show up2 _ _ _ _ _ _ = _
      unfold up2
      rw [hz]
      by_cases hc : y = z ∧ k = 0
      · rw [if_pos hc, if_neg (by omega), if_pos ⟨by omega, hc.2⟩]
      · rw [if_neg hc, s0]
        by_cases hA : (y : Int) = lst p ∧ k = 1
        · rw [if_pos hA, if_pos hA]
        · rw [if_neg hA, if_neg hA, if_neg (by omega)]
  have hli : (c.unlink x i).li = c.li ∧ (c.unlink x i).vl = c.vl := by
    unfold Cs.unlink Cs.un1
    constructor <;> (dsimp only; split <;> split <;> rfl)
  have hla : ∀ j k, (c.unlink x i).la j k = if j = i ∧ k = 1 ∧ q = [] then lst p else if j = i ∧ k = 0 ∧ p = [] then hd q else c.la j k := fun j k => by
    have e1 := hx0 1 (by omega)
    have e0 := hx0 0 (by omega)
    have s0 : ∀ j k, (c.un1 x i 0).la j k = if j = i ∧ k = 0 ∧ p = [] then hd q else c.la j k := fun j k => by
      unfold Cs.un1
      rw [b0, b1]
      split
      · rename_i h0
        have hp := lst_ne h0
        show up2 _ _ _ _ _ _ = _
        unfold up2
        by_cases hc : j = i ∧ k = 0
        · rw [if_pos (by simpa using hc), if_pos ⟨hc.1, hc.2, hp⟩]
        · rw [if_neg (by simpa using hc), if_neg (fun h => hc ⟨h.1, h.2.1⟩)]
      · rename_i h0
        rw [if_neg (fun h => h0 (by rw [h.2.2]; rfl))]
    show ((c.un1 x i 0).un1 x i 1).la j k = _
    rw [Cs.un1]
    simp only [Nat.sub_self]
    rw [e1, e0, b0, b1]
    by_cases h1 : hd q = -1
    · rw [if_pos h1]
      have hq := hd_ne h1
      show up2 _ _ _ _ _ _ = _
      unfold up2
      by_cases hc : j = i ∧ k = 1
      · rw [if_pos hc, if_pos ⟨hc.1, hc.2, hq⟩]
      · rw [if_neg hc, if_neg (fun h => hc ⟨h.1, h.2.1⟩), s0]
    · rw [if_neg h1]
      show (c.un1 x i 0).la j k = _
      rw [s0, if_neg (c := j = i ∧ k = 1 ∧ q = []) (fun h => h1 (by rw [h.2.2]; rfl))]
  have hag : ∀ y : Nat, (y : Int) ≠ lst p → (y : Int) ≠ hd q → ∀ k, (c.unlink x i).bs y k = c.bs y k := fun y h1 h2 k => by
    rw [hbs, if_neg (fun h => h1 h.1), if_neg (fun h => h2 h.1)]
  refine ⟨h.used, fun j hj => ?_, fun j hj y hy => ?_, fun j hj => ?_, fun j hj k hk => ?_, fun j hj => ?_, h.fnd, fun y hy => ?_, fun u y v hs => ?_, fun y hy => ?_, fun y hy => ?_, ?_⟩
  · by_cases hji : j = i
    · subst hji; rw [hE, List.nodup_append]
      exact ⟨hnd'.1, (List.nodup_cons.1 hnd'.2.1).2, fun y hy z hz => hnd'.2.2 y hy z (by simp [hz])⟩
    · rw [hL j hji]; exact h.nd j hj
  · rw [hli.1, hli.2]
    by_cases hji : j = i
    · subst hji
      rw [hE] at hy
      refine h.lt j hj y ?_
      rw [hpq]
      rcases List.mem_append.1 hy with hy | hy <;> simp [hy]
    · rw [hL j hji] at hy; exact h.lt j hj y hy
  · by_cases hji : j = i
    · subst hji
      rw [hE]
      refine hsp.out hnd ?_ ?_ (fun y h1 h2 k _ => hag y h1 h2 k)
      · intro y t ht
        have hy : (y : Int) = lst p := by rw [ht, lst_snoc]
        have hyq : (y : Int) ≠ hd q := fun hh => hnd'.2.2 y (hlp y hy) y (by simp [hhq y hh]) rfl
        rw [hbs, hbs, if_neg (by omega), if_neg (by omega), if_pos ⟨hy, rfl⟩]
        exact ⟨rfl, rfl⟩
      · intro y t ht
        have hy : (y : Int) = hd q := by rw [ht, hd_cons]
        have hyp : (y : Int) ≠ lst p := fun hh => hnd'.2.2 y (hlp y hh) y (by simp [hhq y hy]) rfl
        rw [hbs, hbs, if_neg (by omega), if_neg (by omega), if_neg (by omega), if_pos ⟨hy, rfl⟩]
        exact ⟨rfl, rfl⟩
    · rw [hL j hji]
      refine (h.sp j hj).agree (by omega) fun y hy k _ => hag y (fun hh => ?_) (fun hh => ?_) k
      · exact hji (h.one hj hi hy (by rw [hpq]; simp [hlp y hh]))
      · exact hji (h.one hj hi hy (by rw [hpq]; simp [hhq y hh]))
  · rw [hla]
    by_cases hji : j = i
    · subst hji
      rw [hE]
      have hk' : k = 0 ∨ k = 1 := by omega
      have hold := h.la j hj k hk
      rw [hpq] at hold
      rcases hk' with rfl | rfl
      · rw [if_neg (by omega)]
        simp only [dir] at hold ⊢
        by_cases hp : p = []
        · rw [if_pos ⟨trivial, trivial, hp⟩, hp]; rfl
        · rw [if_neg (fun h => hp h.2.2), hold]
          cases p with
          | nil => exact absurd rfl hp
          | cons z t => rfl
      · simp only [dir] at hold ⊢
        by_cases hq : q = []
        · rw [if_pos ⟨trivial, trivial, hq⟩, hq]; simp
        · rw [if_neg (fun h => hq h.2.2), if_neg (by omega), hold]
          obtain ⟨z, t, h1, _⟩ := lst_eq (l := q) (fun h => hq (lst_ne h))
          rw [h1]
          simp
    · rw [if_neg (fun h => hji h.1), if_neg (fun h => hji h.1), hL j hji]
      exact h.la j hj k hk
  · by_cases hji : j = i
    · subst hji
      rw [hE]
      show up _ _ _ _ = _
      rw [up_self, h.ct j hj, hpq]
      simp
    · rw [hL j hji]
      show up _ _ _ _ = _
      rw [up_ne _ _ hji, h.ct j hj]
  · rw [hli.1]; exact h.flt y hy
  · have hy : y ∈ a.fr := by
      have : a.fr = u ++ y :: v := hs
      rw [this]; simp
    rw [hag y (fun hh => h.notfr hi (by rw [hpq]; simp [hlp y hh]) hy) (fun hh => h.notfr hi (by rw [hpq]; simp [hhq y hh]) hy)]
    exact h.fsp u y v hs
  · have : y = x := by simpa using hy
    subst this
    refine ⟨(h.lt i hi y hx).1, h.notfr hi hx, fun j hj hm => ?_⟩
    by_cases hji : j = i
    · subst hji
      rw [hE, List.mem_append] at hm
      rcases hm with hm | hm
      · exact hxp y hm rfl
      · exact hxq y hm rfl
    · rw [hL j hji] at hm
      exact hji (h.one hj hi hm hx)
  · rcases h.all y hy with h1 | ⟨j, hj, hm⟩ | h1
    · exact Or.inl h1
    · by_cases hyx : y = x
      · exact Or.inr (Or.inr (by simp [hyx]))
      · refine Or.inr (Or.inl ⟨j, hj, ?_⟩)
        by_cases hji : j = i
        · subst hji
          rw [hE]
          rw [hpq] at hm
          simp only [List.mem_append, List.mem_cons] at hm ⊢
          rcases hm with hm | hm | hm
          · exact Or.inl hm
          · exact absurd hm hyx
          · exact Or.inr hm
        · rw [hL j hji]; exact hm
    · cases h1
  · have h1 := tl_up a.L i a.nl ((a.L i).erase x) hi
    have h2 : ((a.L i).erase x).length = (p ++ q).length := by rw [hpq, erase_mid hnd]
    have h3 : (a.L i).length = (p ++ x :: q).length := by rw [hpq]
    have h4 := h.tot
    simp only [As.unlink, List.length_append, List.length_cons, List.length_nil] at *
    omega

/-- a freed node is taken -/
theorem Inv.take {c : Cs} {a : As} {x : Nat} {t : List Nat} (h : Inv c a []) (hf : a.fr = x :: t) : Inv c { a with fr := t } [x] ∧ c.bs x 0 = hd t := by
  have hn := h.fnd
  rw [hf] at hn
  have hn' := List.nodup_cons.1 hn
  have hx : x ∈ a.fr := by rw [hf]; simp
  refine ⟨⟨h.used, h.nd, h.lt, h.sp, h.la, h.ct, hn'.2, fun y hy => h.flt y (by rw [hf]; simp [show y ∈ t from hy]), fun p y q hs => ?_, fun y hy => ?_, fun y hy => ?_, ?_⟩, h.fsp [] x t hf⟩
  · have hs' : t = p ++ y :: q := hs
    exact h.fsp (x :: p) y q (by rw [hf, hs']; rfl)
  · have : y = x := by simpa using hy
    subst this
    exact ⟨(h.flt y hx).1, hn'.1, fun i hi hm => h.notfr hi hm hx⟩
  · rcases h.all y hy with h1 | h1 | h1
    · rw [hf, List.mem_cons] at h1
      rcases h1 with rfl | h1
      · exact Or.inr (Or.inr (by simp))
      · exact Or.inl h1
    · exact Or.inr (Or.inl h1)
    · cases h1
  · have := h.tot
    rw [hf] at this
    simp only [List.length_cons, List.length_nil] at *
    omega
/-- a node that never was in a list is taken -/
theorem Inv.fresh {c : Cs} {a : As} (h : Inv c a []) (hu : a.used < a.size) : Inv c { a with used := a.used + 1 } [a.used] := by
  refine ⟨hu, h.nd, fun i hi y hy => ?_, h.sp, h.la, h.ct, h.fnd, fun y hy => ?_, h.fsp, fun y hy => ?_, fun y hy => ?_, ?_⟩
  · obtain ⟨h1, h2⟩ := h.lt i hi y hy
    exact ⟨Nat.lt_succ_of_lt h1, h2⟩
  · obtain ⟨h1, h2⟩ := h.flt y hy
    exact ⟨Nat.lt_succ_of_lt h1, h2⟩
  · have : y = a.used := by simpa using hy
    subst this
    exact ⟨Nat.lt_succ_self _, fun hm => by have := (h.flt _ hm).1; omega, fun i hi hm => by have := (h.lt i hi _ hm).1; omega⟩
  · by_cases hyu : y = a.used
    · exact Or.inr (Or.inr (by simp [hyu]))
    · have hy' : y < a.used + 1 := hy
      rcases h.all y (by omega) with h1 | h1 | h1
      · exact Or.inl h1
      · exact Or.inr (Or.inl h1)
      · cases h1
  · have := h.tot
    simp only [List.length_cons, List.length_nil] at *
    omega
/-- a node that is nowhere is free -/
def Cs.give (c : Cs) (x : Nat) (f : Int) : Cs := { c with bs := up2 (up2 c.bs x 0 f) x 1 0, li := up c.li x (-1), vl := up c.vl x 0 }
theorem Inv.give {c : Cs} {a : As} {x : Nat} (h : Inv c a [x]) : Inv (c.give x (hd a.fr)) { a with fr := x :: a.fr } [] := by
  obtain ⟨hxu, hxf, hxL⟩ := h.awl x (by simp)
  have hb : ∀ y, y ≠ x → ∀ k, (c.give x (hd a.fr)).bs y k = c.bs y k := fun y hy k => by
    simp only [Cs.give]
    rw [up2_ne _ _ (by omega), up2_ne _ _ (by omega)]
  have hl : ∀ y, y ≠ x → (c.give x (hd a.fr)).li y = c.li y := fun y hy => up_ne _ _ hy
  have hv : ∀ y, y ≠ x → (c.give x (hd a.fr)).vl y = c.vl y := fun y hy => up_ne _ _ hy
  have hne : ∀ j, j < a.nl → ∀ y ∈ a.L j, y ≠ x := fun j hj y hy e => hxL j hj (e ▸ hy)
  have hnf : ∀ y ∈ a.fr, y ≠ x := fun y hy e => hxf (e ▸ hy)
  refine ⟨h.used, h.nd, fun i hi y hy => ?_, fun i hi => ?_, h.la, h.ct, List.nodup_cons.2 ⟨hxf, h.fnd⟩, fun y hy => ?_, fun p y q hs => ?_, fun y hy => (by cases hy), fun y hy => ?_, ?_⟩
  · rw [hl y (hne i hi y hy), hv y (hne i hi y hy)]; exact h.lt i hi y hy
  · exact (h.sp i hi).agree (by omega) fun y hy k _ => hb y (hne i hi y hy) k
  · rcases List.mem_cons.1 hy with rfl | hy
    · exact ⟨hxu, up_self _ _ _⟩
    · rw [hl y (hnf y hy)]; exact h.flt y hy
  · cases p with
    | nil =>
      simp only [List.nil_append, List.cons.injEq] at hs
      obtain ⟨rfl, rfl⟩ := hs
      simp only [Cs.give]
      rw [up2_ne _ _ (by omega), up2_self]
    | cons z p =>
      simp only [List.cons_append, List.cons.injEq] at hs
      obtain ⟨rfl, hs⟩ := hs
      have hy : y ∈ a.fr := by rw [hs]; simp
      rw [hb y (hnf y hy)]
      exact h.fsp p y q hs
  · rcases h.all y hy with h1 | h1 | h1
    · exact Or.inl (List.mem_cons_of_mem _ h1)
    · exact Or.inr (Or.inl h1)
    · exact Or.inl (by simp at h1; simp [h1])
  · have := h.tot
    simp only [List.length_cons, List.length_nil] at *
    omega
/-- a value is turned -/
theorem Inv.set {c : Cs} {a : As} {aw : List Nat} (h : Inv c a aw) (x : Nat) (v : Int) : Inv { c with vl := up c.vl x v } { a with val := up a.val x v } aw := by
  refine ⟨h.used, h.nd, fun i hi y hy => ?_, h.sp, h.la, h.ct, h.fnd, h.flt, h.fsp, h.awl, h.all, h.tot⟩
  obtain ⟨h1, h2, h3⟩ := h.lt i hi y hy
  refine ⟨h1, h2, ?_⟩
  show up _ _ _ _ = up _ _ _ _
  unfold up
  split
  · rfl
  · exact h3
end Go.Proofs.Ytoeioppmlnognaa.Ar
