import Derived.Test.YtkekmmomdhdegaaPureIx
namespace Go.Proofs.Ytkekmmomdhdegaa.Ix
variable {α : Type}

/-- where a key would like to lie -/
def hm (b k : Nat) : Nat := k * 11400714819323198485 % 18446744073709551616 / 2 ^ (63 - b)
/-- an index -/
structure Ix (α : Type) where
  b : Nat
  most : Nat
  count : Nat
  t : Tb α
def Ix.n (a : Ix α) : Nat := 2 * 2 ^ a.b
theorem two_pos (b : Nat) : 0 < 2 ^ b := Nat.pow_pos (by omega)
theorem hm_lt {b k : Nat} (hb : b ≤ 22) : hm b k < 2 * 2 ^ b := by
  unfold hm
  rw [Nat.div_lt_iff_lt_mul (two_pos _)]
  refine Nat.lt_of_lt_of_le (Nat.mod_lt _ (by omega)) ?_
  rw [show 2 * 2 ^ b = 2 ^ (b + 1) by rw [Nat.pow_succ, Nat.mul_comm], ← Nat.pow_add, show b + 1 + (63 - b) = 64 by omega]
  omega
structure Ok (a : Ix α) : Prop where
  b : a.b ≤ 22
  most : a.most ≤ 2 ^ a.b
  cnt : a.count ≤ a.most
  card : (en a.t a.n).length = a.count
  fine : Fine a.n (hm a.b) a.t
def Ix.find (a : Ix α) (k : Nat) : Nat := fp a.t a.n (hm a.b k) k
def Ix.get (a : Ix α) (k : Nat) : Option α := (a.t (a.find k)).map (·.2)
def Ix.put (a : Ix α) (k : Nat) (v : α) : Nat × Ix α := match a.t (a.find k) with
  | some _ => (0, { a with t := up a.t (a.find k) (some (k, v)) })
  | none => if a.count = a.most then (3, a) else (0, { a with t := up a.t (a.find k) (some (k, v)), count := a.count + 1 })
def Ix.drop (a : Ix α) (k : Nat) : Ix α := match a.t (a.find k) with
  | none => a
  | some _ => { a with t := vac a.n (hm a.b) a.n (up a.t (a.find k) none) (a.find k) (nx a.n (a.find k)), count := a.count - 1 }
def Ix.new (b most : Nat) : Ix α := ⟨b, most, 0, fun _ => none⟩

theorem Ix.n_le {a : Ix α} (h : a.b ≤ 22) : 2 ≤ a.n ∧ a.n ≤ 8388608 := by
  unfold Ix.n
  have h1 := two_pos a.b
  have h2 := Nat.pow_le_pow_right (n := 2) (by omega) h
  omega
section
variable {a : Ix α} {k : Nat} {v : α}
theorem Ok.hm_lt (h : Ok a) (k : Nat) : hm a.b k < a.n := Ix.hm_lt h.b
theorem Ok.hole (h : Ok a) : ∃ p, p < a.n ∧ a.t p = none := by
  apply en_hole
  rw [h.card]
  have := h.cnt
  have := h.most
  have := two_pos a.b
  unfold Ix.n
  omega
theorem Ok.find_lt (h : Ok a) (k : Nat) : a.find k < a.n := fp_lt (h.hm_lt k) h.hole
theorem Ok.find_stops (h : Ok a) (k : Nat) : a.t (a.find k) = none ∨ ∃ e, a.t (a.find k) = some e ∧ e.1 = k := by
  have := fp_stops (t := a.t) (k := k) (fi_lt (h.hm_lt k) h.hole)
  unfold stp at this
  change (match a.t (a.find k) with | none => true | some e => e.1 == k) = true at this
  cases h0 : a.t (a.find k) with
  | none => exact Or.inl rfl
  | some e =>
    rw [h0] at this
    exact Or.inr ⟨e, rfl, by simpa using this⟩
theorem Ok.find_of (h : Ok a) {p : Nat} {e : Nat × α} (hp : a.t p = some e) : a.find e.1 = p := by
  have hl := (h.fine.lt p e hp).1
  refine fp_eq (h.hm_lt _) hl (by unfold stp; rw [hp]; simp) (fun q hq hd => ?_)
  have h1 := h.fine.gp p e hp q hq hd
  cases h2 : a.t q with
  | none => exact absurd h2 h1
  | some e' =>
    unfold stp
    rw [h2]
    dsimp only
    apply Bool.eq_false_iff.2
    intro h3
    have := h.fine.un p q e e' hp h2 (by simpa using (beq_iff_eq.1 h3).symm)
    subst this
    omega
theorem Ok.get_iff (h : Ok a) : a.get k = some v ↔ (k, v) ∈ en a.t a.n := by
  rw [mem_en]
  unfold Ix.get
  constructor
  · intro hg
    rcases h.find_stops k with h0 | ⟨e, h0, h1⟩
    · rw [h0] at hg; cases hg
    · rw [h0] at hg
      refine ⟨_, h.find_lt k, ?_⟩
      rw [h0]
      cases e
      simp at hg h1
      rw [h1, hg]
  · rintro ⟨p, _, hp⟩
    have := h.find_of hp
    dsimp only at this
    rw [this, hp]
    rfl
theorem Ok.get_none (h : Ok a) (hg : a.get k = none) : ∀ e ∈ en a.t a.n, e.1 ≠ k := by
  rintro ⟨k', v⟩ he rfl
  have := h.get_iff.2 he
  rw [hg] at this
  cases this
theorem Ok.at_none (_ : Ok a) : a.get k = none ↔ a.t (a.find k) = none := by
  unfold Ix.get
  cases a.t (a.find k) <;> simp
theorem Ok.at_some (h : Ok a) (hg : a.get k = some v) : a.t (a.find k) = some (k, v) := by
  obtain ⟨p, hp, h1⟩ := mem_en.1 (h.get_iff.1 hg)
  have := h.find_of h1
  dsimp only at this
  rw [this, h1]
theorem en_new (b most : Nat) : en (Ix.new (α := α) b most).t (Ix.new (α := α) b most).n = [] := by
  generalize (Ix.new (α := α) b most).n = n
  show en (fun _ => none) n = []
  induction n with
  | zero => rfl
  | succ n ih => simp [en, ih]
theorem Ok.new {b most : Nat} (hb : b ≤ 22) (hm : most ≤ 2 ^ b) : Ok (Ix.new (α := α) b most) := by
  refine ⟨hb, hm, Nat.zero_le _, by rw [en_new]; rfl, ?_⟩
  refine ⟨fun p e h => ?_, fun p q e e' h => ?_, fun p e h => ?_⟩ <;> exact absurd h (by simp [Ix.new])
/-- a value in the place of another -/
theorem Ok.put_there (h : Ok a) {v0 : α} (hg : a.get k = some v0) : a.put k v = (0, { a with t := up a.t (a.find k) (some (k, v)) }) ∧ Ok (a.put k v).2 ∧ ∃ r, (en a.t a.n).Perm ((k, v0) :: r) ∧ (en (a.put k v).2.t a.n).Perm ((k, v) :: r) := by
  have hs := h.at_some hg
  have e1 : a.put k v = (0, { a with t := up a.t (a.find k) (some (k, v)) }) := by unfold Ix.put; rw [hs]
  have hl := h.find_lt k
  have p1 := en_del hs hl
  have p2 := en_set (t := up a.t (a.find k) none) (e := (k, v)) (up_at _ _ _) hl
  rw [up_up] at p2
  rw [e1]
  refine ⟨rfl, ⟨h.b, h.most, h.cnt, ?_, ?_⟩, _, p1, p2⟩
  · show (en (up a.t (a.find k) (some (k, v))) a.n).length = a.count
    rw [p2.length_eq, ← h.card, p1.length_eq]
    simp
  · have key : ∀ p e, up a.t (a.find k) (some (k, v)) p = some e → ∃ e', a.t p = some e' ∧ e'.1 = e.1 := by
      intro p e he
      by_cases hp : p = a.find k
      · subst hp; rw [up_at] at he; cases he; exact ⟨_, hs, rfl⟩
      · rw [up_ne hp] at he; exact ⟨e, he, rfl⟩
    refine ⟨fun p e he => ?_, fun p q e e' he he' hee => ?_, fun p e he q hq hd => ?_⟩
    · obtain ⟨x, h1, h2⟩ := key p e he
      rw [← h2]
      exact h.fine.lt _ _ h1
    · obtain ⟨x, h1, h2⟩ := key p e he
      obtain ⟨y, h3, h4⟩ := key q e' he'
      exact h.fine.un _ _ _ _ h1 h3 (by omega)
    · obtain ⟨x, h1, h2⟩ := key p e he
      have := h.fine.gp p x h1 q hq (by rw [h2]; exact hd)
      dsimp only
      by_cases hp : q = a.find k
      · subst hp; rw [up_at]; simp
      · rw [up_ne hp]; exact this
theorem Ok.put_full (_ : Ok a) (hg : a.get k = none) (hc : a.count = a.most) : a.put k v = (3, a) := by
  have hs : a.t (a.find k) = none := by unfold Ix.get at hg; simpa using hg
  unfold Ix.put
  rw [hs]
  dsimp only
  rw [if_pos hc]
theorem Ok.put_new (h : Ok a) (hk : k < 18446744073709551616) (hg : a.get k = none) (hc : a.count ≠ a.most) : a.put k v = (0, { a with t := up a.t (a.find k) (some (k, v)), count := a.count + 1 }) ∧ Ok (a.put k v).2 ∧ (en (a.put k v).2.t a.n).Perm ((k, v) :: en a.t a.n) := by
  have hs := h.at_none.1 hg
  have e1 : a.put k v = (0, { a with t := up a.t (a.find k) (some (k, v)), count := a.count + 1 }) := by unfold Ix.put; rw [hs]; dsimp only; rw [if_neg hc]
  have hl := h.find_lt k
  have p2 := en_set (t := a.t) (e := (k, v)) hs hl
  rw [e1]
  have hcn := h.cnt
  refine ⟨rfl, ⟨h.b, h.most, by dsimp only; omega, ?_, ?_⟩, p2⟩
  · show (en (up a.t (a.find k) (some (k, v))) a.n).length = a.count + 1
    rw [p2.length_eq, ← h.card]
    simp
  · have key : ∀ p e, up a.t (a.find k) (some (k, v)) p = some e → (p = a.find k ∧ e = (k, v)) ∨ (p ≠ a.find k ∧ a.t p = some e) := by
      intro p e he
      by_cases hp : p = a.find k
      · subst hp; rw [up_at] at he; cases he; exact Or.inl ⟨rfl, rfl⟩
      · rw [up_ne hp] at he; exact Or.inr ⟨hp, he⟩
    have no : ∀ q e, a.t q = some e → e.1 ≠ k := fun q e he => h.get_none hg e (mem_en.2 ⟨q, (h.fine.lt q e he).1, he⟩)
    refine ⟨fun p e he => ?_, fun p q e e' he he' hee => ?_, fun p e he q hq hd => ?_⟩
    · rcases key p e he with ⟨rfl, rfl⟩ | ⟨_, h1⟩
      · exact ⟨hl, hk⟩
      · exact h.fine.lt _ _ h1
    · rcases key p e he with ⟨rfl, rfl⟩ | ⟨_, h1⟩ <;> rcases key q e' he' with ⟨rfl, rfl⟩ | ⟨_, h3⟩
      · rfl
      · exact absurd hee.symm (no _ _ h3)
      · exact absurd hee (no _ _ h1)
      · exact h.fine.un _ _ _ _ h1 h3 hee
    · dsimp only
      by_cases hp : q = a.find k
      · subst hp; rw [up_at]; simp
      · rw [up_ne hp]
        rcases key p e he with ⟨rfl, rfl⟩ | ⟨_, h1⟩
        · have := fp_before (h.hm_lt k) h.hole hq hd
          intro h0
          unfold stp at this
          rw [h0] at this
          cases this
        · exact h.fine.gp _ _ h1 q hq hd
theorem Ok.drop_none (h : Ok a) (hg : a.get k = none) : a.drop k = a := by
  unfold Ix.drop
  rw [h.at_none.1 hg]
/-- the hole that ends the way -/
theorem Ok.stop (h : Ok a) (hg : a.get k = some v) : ∃ z, z < a.n ∧ z ≠ a.find k ∧ a.t z = none := by
  obtain ⟨z, h1, h2⟩ := h.hole
  refine ⟨z, h1, ?_, h2⟩
  rintro rfl
  rw [h.at_some hg] at h2
  cases h2
theorem Ok.drop_there (h : Ok a) (hg : a.get k = some v) : Ok (a.drop k) ∧ (a.drop k).count = a.count - 1 ∧ 0 < a.count ∧ (en a.t a.n).Perm ((k, v) :: en (a.drop k).t a.n) := by
  have hs := h.at_some hg
  have hl := h.find_lt k
  have hn := Ix.n_le h.b
  have p1 := en_del hs hl
  obtain ⟨z, hz, hzp, h0⟩ := h.stop hg
  have v0 := V.start (by omega) h.fine hs
  have hD : D a.n (a.find k) (nx a.n (a.find k)) ≤ D a.n (a.find k) z := by
    unfold D nx
    repeat' split
    all_goals omega
  obtain ⟨f1, f2⟩ := vac_ok (h.hm_lt) hz a.n _ _ _ v0 (by rw [up_ne hzp]; exact h0) hD (D_lt (nx_lt (by omega)) hz)
  have e1 : a.drop k = { a with t := vac a.n (hm a.b) a.n (up a.t (a.find k) none) (a.find k) (nx a.n (a.find k)), count := a.count - 1 } := by unfold Ix.drop; rw [hs]
  have hlen := p1.length_eq
  rw [h.card] at hlen
  simp only [List.length_cons] at hlen
  rw [e1]
  have hc := h.cnt
  refine ⟨⟨h.b, h.most, by dsimp only; omega, ?_, f1⟩, rfl, by omega, p1.trans ((List.perm_cons _).2 f2.symm)⟩
  show (en (vac a.n (hm a.b) a.n (up a.t (a.find k) none) (a.find k) (nx a.n (a.find k))) a.n).length = a.count - 1
  rw [f2.length_eq]
  omega
theorem Ok.put (h : Ok a) (hk : k < 18446744073709551616) : Ok (a.put k v).2 := by
  cases hg : a.get k with
  | some v0 => exact (h.put_there hg).2.1
  | none =>
    by_cases hc : a.count = a.most
    · rw [h.put_full hg hc]; exact h
    · exact (h.put_new hk hg hc).2.1
theorem Ok.drop (h : Ok a) : Ok (a.drop k) := by
  cases hg : a.get k with
  | some v0 => exact (h.drop_there hg).1
  | none => rw [h.drop_none hg]; exact h
end
theorem Ix.put_b (a : Ix α) (k : Nat) (v : α) : (a.put k v).2.b = a.b ∧ (a.put k v).2.most = a.most ∧ (a.put k v).2.n = a.n := by
  unfold Ix.put
  split
  · exact ⟨rfl, rfl, rfl⟩
  · split <;> exact ⟨rfl, rfl, rfl⟩
theorem Ix.drop_b (a : Ix α) (k : Nat) : (a.drop k).b = a.b ∧ (a.drop k).most = a.most ∧ (a.drop k).n = a.n := by
  unfold Ix.drop
  split <;> exact ⟨rfl, rfl, rfl⟩

/-- keys and values by key -/
structure IsAll (a : Ix α) (l : List (Nat × α)) : Prop where
  perm : l.Perm (en a.t a.n)
  srt : l.Pairwise fun x y => x.1 < y.1
theorem srt_eq : ∀ {l l' : List (Nat × α)}, l.Perm l' → l.Pairwise (fun x y => x.1 < y.1) → l'.Pairwise (fun x y => x.1 < y.1) → l = l'
  | [], _, h, _, _ => (List.nil_perm.1 h).symm
  | x :: l, [], h, _, _ => absurd (List.perm_nil.1 h) (by simp)
  | x :: l, y :: l', h, h1, h2 => by
    obtain ⟨h3, h4⟩ := List.pairwise_cons.1 h1
    obtain ⟨h5, h6⟩ := List.pairwise_cons.1 h2
    have hxy : x = y := by
      have k1 : x ∈ y :: l' := h.subset (by simp)
      have k2 : y ∈ x :: l := h.symm.subset (by simp)
      rcases List.mem_cons.1 k1 with k1 | k1
      · exact k1
      rcases List.mem_cons.1 k2 with k2 | k2
      · exact k2.symm
      have := h5 x k1
      have := h3 y k2
      omega
    subst hxy
    rw [srt_eq ((List.perm_cons x).1 h) h4 h6]
theorem IsAll.eq {a : Ix α} {l l' : List (Nat × α)} (h : IsAll a l) (h' : IsAll a l') : l = l' := srt_eq (h.perm.trans h'.perm.symm) h.srt h'.srt
theorem IsAll.len {a : Ix α} {l : List (Nat × α)} (h : IsAll a l) (ha : Ok a) : l.length = a.count := h.perm.length_eq.trans ha.card
theorem en_nodup {n : Nat} {hf : Nat → Nat} {t : Tb α} (h : Fine n hf t) : ∀ m, (en t m).Pairwise fun x y => x.1 ≠ y.1
  | 0 => List.Pairwise.nil
  | m + 1 => by
    simp only [en]
    rw [List.pairwise_append]
    refine ⟨en_nodup h m, by cases t m <;> simp, fun x hx y hy => ?_⟩
    obtain ⟨p, hp, h1⟩ := mem_en.1 hx
    have h2 : t m = some y := by simpa using hy
    intro hxy
    have := h.un _ _ _ _ h1 h2 hxy
    omega
/-- sorted, none above the next -/
theorem IsAll.of {a : Ix α} {l : List (Nat × α)} (ha : Ok a) (h : l.Perm (en a.t a.n)) (hs : l.Pairwise fun x y => x.1 ≤ y.1) : IsAll a l := by
  refine ⟨h, ?_⟩
  have hd := (List.Perm.pairwise_iff (R := fun x y : Nat × α => x.1 ≠ y.1) (fun h => Ne.symm h) h).2 (en_nodup ha.fine a.n)
  exact (hs.and hd).imp fun ⟨h1, h2⟩ => by omega
end Go.Proofs.Ytkekmmomdhdegaa.Ix
