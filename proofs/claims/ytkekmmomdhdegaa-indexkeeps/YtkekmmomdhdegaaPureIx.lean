import Derived.KernelRfl
namespace Go.Proofs.Ytkekmmomdhdegaa.Ix
variable {α : Type}

/-- how far it is from a on to b, of n places -/
def D (n a b : Nat) : Nat := if a ≤ b then b - a else b + n - a
/-- the place i behind h -/
def pl (n h i : Nat) : Nat := if h + i < n then h + i else h + i - n
/-- the place behind p -/
def nx (n p : Nat) : Nat := if p + 1 < n then p + 1 else 0
theorem D_lt {n a b : Nat} (ha : a < n) (hb : b < n) : D n a b < n := by unfold D; split <;> omega
theorem pl_lt {n h i : Nat} (hh : h < n) (hi : i < n) : pl n h i < n := by unfold pl; split <;> omega
theorem D_pl {n h i : Nat} (hh : h < n) (hi : i < n) : D n h (pl n h i) = i := by unfold pl D; split <;> split <;> omega
theorem pl_D {n h p : Nat} (hh : h < n) (hp : p < n) : pl n h (D n h p) = p := by unfold pl D; split <;> split <;> omega
theorem pl_zero {n h : Nat} (hh : h < n) : pl n h 0 = h := by unfold pl; split <;> omega
theorem nx_lt {n p : Nat} (hn : 0 < n) : nx n p < n := by unfold nx; split <;> omega
theorem nx_pl {n h i : Nat} (hh : h < n) (hi : i + 1 < n) : nx n (pl n h i) = pl n h (i + 1) := by unfold nx pl; split <;> split <;> split <;> omega
theorem D_nx {n a b : Nat} (ha : a < n) (hb : b < n) (h : D n a b + 1 < n) : D n a (nx n b) = D n a b + 1 := by
  unfold D nx at *
  repeat' split at h
  all_goals repeat' split
  all_goals omega

abbrev Tb (α : Type) := Nat → Option (Nat × α)
def up (t : Tb α) (p : Nat) (x : Option (Nat × α)) : Tb α := fun q => if q = p then x else t q
theorem up_at (t : Tb α) (p : Nat) (x : Option (Nat × α)) : up t p x p = x := by simp [up]
theorem up_ne {t : Tb α} {p q : Nat} {x : Option (Nat × α)} (h : q ≠ p) : up t p x q = t q := by simp [up, h]
theorem up_up (t : Tb α) (p : Nat) (x y : Option (Nat × α)) : up (up t p x) p y = up t p y := by
  funext q; unfold up; split <;> rfl
theorem up_same {t : Tb α} {p : Nat} {x : Option (Nat × α)} (h : t p = x) : up t p x = t := by
  funext q; unfold up; split
  · rename_i e; rw [e, h]
  · rfl
theorem up_comm {t : Tb α} {p q : Nat} (x y : Option (Nat × α)) (h : p ≠ q) : up (up t p x) q y = up (up t q y) p x := by
  funext r; unfold up; split <;> split <;> first | rfl | (exfalso; omega)

/-- what lies at the first n places -/
def en (t : Tb α) : Nat → List (Nat × α)
  | 0 => []
  | n + 1 => en t n ++ (t n).toList
theorem mem_en {t : Tb α} {e : Nat × α} : ∀ {n : Nat}, e ∈ en t n ↔ ∃ p, p < n ∧ t p = some e
  | 0 => by simp [en]
  | n + 1 => by
    simp only [en, List.mem_append, mem_en (n := n), Option.mem_toList]
    constructor
    · rintro (⟨p, h1, h2⟩ | h)
      · exact ⟨p, by omega, h2⟩
      · exact ⟨n, by omega, h⟩
    · rintro ⟨p, h1, h2⟩
      by_cases hp : p = n
      · subst hp; exact Or.inr h2
      · exact Or.inl ⟨p, by omega, h2⟩
theorem en_up_ge {t : Tb α} {p : Nat} {x : Option (Nat × α)} : ∀ {n : Nat}, n ≤ p → en (up t p x) n = en t n
  | 0, _ => rfl
  | n + 1, h => by simp only [en]; rw [en_up_ge (by omega), up_ne (by omega)]
theorem en_set {t : Tb α} {p : Nat} {e : Nat × α} (h0 : t p = none) : ∀ {n : Nat}, p < n → (en (up t p (some e)) n).Perm (e :: en t n)
  | 0, h => by omega
  | n + 1, h => by
    simp only [en]
    by_cases hp : p = n
    · subst hp
      rw [en_up_ge (Nat.le_refl _), up_at, h0]
      simp only [Option.toList, List.append_nil]
      exact List.perm_append_singleton _ _
    · rw [up_ne (show n ≠ p by omega)]
      exact (List.Perm.append_right _ (en_set h0 (by omega))).trans (by simp)
theorem en_del {t : Tb α} {p n : Nat} {e : Nat × α} (h0 : t p = some e) (h : p < n) : (en t n).Perm (e :: en (up t p none) n) := by
  have := en_set (t := up t p none) (e := e) (up_at _ _ _) h
  rwa [up_up, up_same h0] at this
theorem en_len_le (t : Tb α) : ∀ n, (en t n).length ≤ n
  | 0 => by simp [en]
  | n + 1 => by
    have := en_len_le t n
    simp only [en, List.length_append]
    have : (t n).toList.length ≤ 1 := by cases t n <;> simp
    omega
theorem en_full {t : Tb α} : ∀ {n : Nat}, (∀ p, p < n → t p ≠ none) → (en t n).length = n
  | 0, _ => rfl
  | n + 1, h => by
    simp only [en, List.length_append]
    rw [en_full fun p hp => h p (by omega)]
    cases hn : t n with
    | none => exact absurd hn (h n (by omega))
    | some e => simp
theorem en_hole {t : Tb α} {n : Nat} (h : (en t n).length < n) : ∃ p, p < n ∧ t p = none := by
  apply Classical.byContradiction
  intro hc
  have := en_full (t := t) (n := n) fun p hp h0 => hc ⟨p, hp, h0⟩
  omega
/-- a hole besides this one -/
theorem en_hole2 {t : Tb α} {n p : Nat} {e : Nat × α} (hp : p < n) (h0 : t p = none) (h : (en t n).length + 1 < n) : ∃ q, q < n ∧ q ≠ p ∧ t q = none := by
  have h1 := (en_set (e := e) h0 hp).length_eq
  obtain ⟨q, h2, h3⟩ := en_hole (t := up t p (some e)) (n := n) (by rw [h1]; simpa using h)
  have hq : q ≠ p := by rintro rfl; rw [up_at] at h3; cases h3
  exact ⟨q, h2, hq, by rwa [up_ne hq] at h3⟩

/-- does a search end here? -/
def stp (t : Tb α) (k p : Nat) : Bool := match t p with
  | none => true
  | some e => e.1 == k
/-- how far a search goes, and where it ends -/
def fi (t : Tb α) (n h k : Nat) : Nat := (List.range n).findIdx fun i => stp t k (pl n h i)
def fp (t : Tb α) (n h k : Nat) : Nat := pl n h (fi t n h k)
theorem fi_lt {t : Tb α} {n h k : Nat} (hh : h < n) (he : ∃ p, p < n ∧ t p = none) : fi t n h k < n := by
  obtain ⟨p, hp, h0⟩ := he
  have := List.findIdx_lt_length_of_exists (xs := List.range n) (p := fun i => stp t k (pl n h i)) ⟨D n h p, by simpa using D_lt hh hp, by rw [pl_D hh hp, stp, h0]⟩
  rwa [List.length_range] at this
theorem fp_stops {t : Tb α} {n h k : Nat} (hl : fi t n h k < n) : stp t k (fp t n h k) = true := by
  have := List.findIdx_getElem (xs := List.range n) (p := fun i => stp t k (pl n h i)) (w := by rw [List.length_range]; exact hl)
  rw [List.getElem_range] at this
  exact this
theorem fi_before {t : Tb α} {n h k i : Nat} (hi : i < fi t n h k) : stp t k (pl n h i) = false := by
  have hl : fi t n h k ≤ n := by
    have := List.findIdx_le_length (xs := List.range n) (p := fun i => stp t k (pl n h i))
    rwa [List.length_range] at this
  have := List.not_of_lt_findIdx (xs := List.range n) (p := fun i => stp t k (pl n h i)) hi
  rw [List.getElem_range] at this
  simpa using this
theorem fi_eq {t : Tb α} {n h k i : Nat} (hi : i < n) (hs : stp t k (pl n h i) = true) (hb : ∀ j, j < i → stp t k (pl n h j) = false) : fi t n h k = i := by
  rcases Nat.lt_trichotomy (fi t n h k) i with h1 | h1 | h1
  · have := hb _ h1
    rw [show pl n h (fi t n h k) = fp t n h k from rfl, fp_stops (by omega)] at this
    cases this
  · exact h1
  · rw [fi_before h1] at hs
    cases hs
theorem fp_eq {t : Tb α} {n h k p : Nat} (hh : h < n) (hp : p < n) (hs : stp t k p = true) (hb : ∀ q, q < n → D n h q < D n h p → stp t k q = false) : fp t n h k = p := by
  unfold fp
  rw [fi_eq (i := D n h p) (D_lt hh hp) (by rw [pl_D hh hp]; exact hs) (fun j hj => ?_), pl_D hh hp]
  have hjn : j < n := by have := D_lt hh hp; omega
  exact hb _ (pl_lt hh hjn) (by rw [D_pl hh hjn]; exact hj)
theorem fp_lt {t : Tb α} {n h k : Nat} (hh : h < n) (he : ∃ p, p < n ∧ t p = none) : fp t n h k < n := pl_lt hh (fi_lt hh he)
theorem fp_before {t : Tb α} {n h k q : Nat} (hh : h < n) (he : ∃ p, p < n ∧ t p = none) (hq : q < n) (hd : D n h q < D n h (fp t n h k)) : stp t k q = false := by
  have h1 := fi_lt (k := k) hh he
  unfold fp at hd
  rw [D_pl hh h1] at hd
  have := fi_before hd
  rwa [pl_D hh hq] at this

/-- must what lies at a place, with that home, go to the gap? -/
abbrev mvs (n gap h place : Nat) : Prop := h = gap ∨ D n gap place < D n gap h
def vac (n : Nat) (hm : Nat → Nat) : Nat → Tb α → Nat → Nat → Tb α
  | 0, t, _, _ => t
  | f + 1, t, gap, place => match t place with
    | none => t
    | some e => if mvs n gap (hm e.1) place then vac n hm f (up (up t gap (some e)) place none) place (nx n place) else vac n hm f t gap (nx n place)

/-- keys once each, none behind an empty place -/
structure Fine (n : Nat) (hm : Nat → Nat) (t : Tb α) : Prop where
  lt : ∀ p e, t p = some e → p < n ∧ e.1 < 18446744073709551616
  un : ∀ p q e e', t p = some e → t q = some e' → e.1 = e'.1 → p = q
  gp : ∀ p e, t p = some e → ∀ q, q < n → D n (hm e.1) q < D n (hm e.1) p → t q ≠ none
structure V (n : Nat) (hm : Nat → Nat) (t : Tb α) (gap place : Nat) : Prop where
  g : gap < n
  p : place < n
  pg : 0 < D n gap place
  gn : t gap = none
  lt : ∀ p e, t p = some e → p < n ∧ e.1 < 18446744073709551616
  un : ∀ p q e e', t p = some e → t q = some e' → e.1 = e'.1 → p = q
  gp : ∀ p e, t p = some e → ∀ q, q < n → D n (hm e.1) q < D n (hm e.1) p → t q ≠ none ∨ q = gap
  c : ∀ q, q < n → 0 < D n gap q → D n gap q < D n gap place → ∃ e, t q = some e ∧ ¬ D n (hm e.1) gap < D n (hm e.1) q

section
variable {n : Nat} {hm : Nat → Nat} {t : Tb α} {gap place : Nat}
theorem V.done (hh : ∀ k, hm k < n) (v : V n hm t gap place) (h0 : t place = none) : Fine n hm t := by
  refine ⟨v.lt, v.un, fun p e hp q hq hd => ?_⟩
  rcases v.gp p e hp q hq hd with h | rfl
  · exact h
  exfalso
  have hp' := (v.lt p e hp).1
  have hpp : p ≠ place := by rintro rfl; rw [h0] at hp; cases hp
  have hpg : p ≠ q := by rintro rfl; rw [v.gn] at hp; cases hp
  by_cases hc : D n q p < D n q place
  · obtain ⟨e', h1, h2⟩ := v.c p hp' (by unfold D; split <;> omega) hc
    rw [hp] at h1
    cases h1
    exact h2 hd
  · have hk := hh e.1
    have hpl := v.p
    rcases v.gp p e hp place v.p (by
      unfold D at hc hd ⊢
      repeat' split at hc
      all_goals repeat' split at hd
      all_goals repeat' split
      all_goals omega) with h | h
    · exact h h0
    · have := v.pg
      rw [h] at this
      unfold D at this
      split at this <;> omega
theorem V.move (hh : ∀ k, hm k < n) (v : V n hm t gap place) {e : Nat × α} (he : t place = some e) (hmv : mvs n gap (hm e.1) place) (hn : D n gap place + 1 < n) : V n hm (up (up t gap (some e)) place none) place (nx n place) := by
  have hne : gap ≠ place := by rintro rfl; rw [v.gn] at he; cases he
  have hk := hh e.1
  have hg := v.g
  have hpl := v.p
  have key : ∀ p x, up (up t gap (some e)) place none p = some x → (p = gap ∧ x = e) ∨ (p ≠ gap ∧ p ≠ place ∧ t p = some x) := by
    intro p x hx
    by_cases h1 : p = place
    · subst h1; rw [up_at] at hx; cases hx
    · rw [up_ne h1] at hx
      by_cases h2 : p = gap
      · subst h2; rw [up_at] at hx; cases hx; exact Or.inl ⟨rfl, rfl⟩
      · rw [up_ne h2] at hx; exact Or.inr ⟨h2, h1, hx⟩
  refine ⟨hpl, nx_lt (by omega), by unfold D nx at *; split <;> split at hn <;> split <;> omega, up_at _ _ _, fun p x hx => ?_, fun p q x y hx hy hxy => ?_, fun p x hx q hq hd => ?_, fun q hq h1 h2 => ?_⟩
  · rcases key p x hx with ⟨rfl, rfl⟩ | ⟨_, _, h⟩
    · exact ⟨hg, (v.lt _ _ he).2⟩
    · exact v.lt _ _ h
  · rcases key p x hx with ⟨rfl, rfl⟩ | ⟨h1, h2, h⟩ <;> rcases key q y hy with ⟨rfl, rfl⟩ | ⟨k1, k2, k⟩
    · rfl
    · exact absurd (v.un _ _ _ _ he k hxy).symm k2
    · exact absurd (v.un _ _ _ _ h he hxy) h2
    · exact v.un _ _ _ _ h k hxy
  · by_cases hqp : q = place
    · exact Or.inr hqp
    · left
      rw [up_ne hqp]
      by_cases hqg : q = gap
      · subst hqg; rw [up_at]; simp
      · rw [up_ne hqg]
        rcases key p x hx with ⟨rfl, rfl⟩ | ⟨_, _, h⟩
        · have := v.gp _ _ he q hq (by
            unfold mvs at hmv
            unfold D at hmv hd ⊢
            repeat' split at hd
            all_goals repeat' split at hmv
            all_goals repeat' split
            all_goals omega)
          rcases this with h | h
          · exact h
          · exact absurd h hqg
        · rcases v.gp _ _ h q hq hd with h | h
          · exact h
          · exact absurd h hqg
  · exfalso
    have e1 : D n place (nx n place) = 1 := by unfold D nx at *; split <;> split at hn <;> split <;> omega
    omega
theorem V.stay (hh : ∀ k, hm k < n) (v : V n hm t gap place) {e : Nat × α} (he : t place = some e) (hmv : ¬ mvs n gap (hm e.1) place) (hn : D n gap place + 1 < n) : V n hm t gap (nx n place) := by
  have e1 := D_nx v.g v.p hn
  have hg := v.g
  have hpl := v.p
  have hk := hh e.1
  refine ⟨v.g, nx_lt (by omega), by omega, v.gn, v.lt, v.un, v.gp, fun q hq h1 h2 => ?_⟩
  by_cases h3 : D n gap q < D n gap place
  · exact v.c q hq h1 h3
  · have h4 : D n gap q = D n gap place := by omega
    have h5 : q = place := by rw [← pl_D hg hq, h4, pl_D hg hpl]
    subst h5
    refine ⟨e, he, fun hd => hmv ?_⟩
    unfold mvs
    unfold D at hd ⊢
    repeat' split at hd
    all_goals repeat' split
    all_goals omega
theorem V.start (hn2 : 2 ≤ n) (hf : Fine n hm t) {e : Nat × α} (he : t gap = some e) : V n hm (up t gap none) gap (nx n gap) := by
  have hg := (hf.lt _ _ he).1
  have key : ∀ p x, up t gap none p = some x → p ≠ gap ∧ t p = some x := by
    intro p x hx
    by_cases h : p = gap
    · subst h; rw [up_at] at hx; cases hx
    · rw [up_ne h] at hx; exact ⟨h, hx⟩
  have e1 : D n gap (nx n gap) = 1 := by unfold D nx; split <;> split <;> omega
  refine ⟨hg, nx_lt (by omega), by omega, up_at _ _ _, fun p x hx => hf.lt _ _ (key p x hx).2, fun p q x y hx hy => hf.un _ _ _ _ (key p x hx).2 (key q y hy).2, fun p x hx q hq hd => ?_, fun q hq h1 h2 => by omega⟩
  by_cases h : q = gap
  · exact Or.inr h
  · left
    rw [up_ne h]
    exact hf.gp _ _ (key p x hx).2 q hq hd
/-- the walk goes on till an empty place -/
theorem V.more (v : V n hm t gap place) {e : Nat × α} {z : Nat} (he : t place = some e) (hz : z < n) (h0 : t z = none) (hzg : D n gap place ≤ D n gap z) : D n gap place + 1 < n ∧ D n gap (nx n place) ≤ D n gap z ∧ z ≠ place := by
  have hne : z ≠ place := by rintro rfl; rw [h0] at he; cases he
  have hg := v.g
  have hpl := v.p
  have h1 : D n gap place ≠ D n gap z := by
    intro h
    exact hne (by rw [← pl_D hg hz, ← h, pl_D hg hpl])
  have h2 := D_lt hg hz
  exact ⟨by omega, by rw [D_nx hg hpl (by omega)]; omega, hne⟩
theorem vac_ok (hh : ∀ k, hm k < n) {z : Nat} (hz : z < n) : ∀ (f : Nat) (t : Tb α) (gap place : Nat), V n hm t gap place → t z = none → D n gap place ≤ D n gap z → D n place z < f → Fine n hm (vac n hm f t gap place) ∧ (en (vac n hm f t gap place) n).Perm (en t n)
  | 0, _, _, _, _, _, _, hf => by omega
  | f + 1, t, gap, place, v, h0, hzg, hf => by
    unfold vac
    cases he : t place with
    | none => exact ⟨v.done hh he, List.Perm.refl _⟩
    | some e =>
      dsimp only
      obtain ⟨h1, h2, h3⟩ := v.more he hz h0 hzg
      have hg := v.g
      have hpl := v.p
      have hgz : z ≠ gap := by
        rintro rfl
        have := v.pg
        have e0 : D n z z = 0 := by unfold D; split <;> omega
        omega
      have h4 : D n (nx n place) z < f := by
        unfold D nx at *
        repeat' split at hf
        all_goals repeat' split
        all_goals omega
      split
      · rename_i hmv
        have hne : gap ≠ place := by rintro rfl; rw [v.gn] at he; cases he
        obtain ⟨k1, k2⟩ := vac_ok hh hz f _ _ _ (v.move hh he hmv h1) (by rw [up_ne h3, up_ne hgz]; exact h0) (by
          unfold D nx at *
          repeat' split at h2
          all_goals repeat' split at hzg
          all_goals repeat' split at h1
          all_goals repeat' split
          all_goals omega) h4
        refine ⟨k1, k2.trans ?_⟩
        have p1 := en_del (t := up t gap (some e)) (p := place) (e := e) (by rw [up_ne (Ne.symm hne)]; exact he) hpl
        have p2 := en_set (t := t) (e := e) v.gn hg
        exact (List.perm_cons e).1 (p1.symm.trans p2)
      · rename_i hmv
        exact vac_ok hh hz f _ _ _ (v.stay hh he hmv h1) h0 h2 h4
end
end Go.Proofs.Ytkekmmomdhdegaa.Ix
