import Derived.Test.YtelbakkgobkdaaaDoorVfPure
namespace Go.Proofs.YtelbakkgobkdaaaDoor.Vf

theorem walk_add {p : Pg} : ∀ (a b i : Nat) (g : Nat → Option Sd), walkP p (a + b) i g = match walkP p a i g with | .error e => .error e | .ok g' => walkP p b (i + a) g'
  | 0, b, i, g => by
    rw [Nat.zero_add]
    rfl
  | a + 1, b, i, g => by
    rw [show a + 1 + b = (a + b) + 1 by omega]
    show (match stepP p g i with | .error e => Except.error (e, i) | .ok g' => walkP p (a + b) (i + 1) g') = match (match stepP p g i with | .error e => Except.error (e, i) | .ok g' => walkP p a (i + 1) g') with | .error e => .error e | .ok g' => walkP p b (i + (a + 1)) g'
    cases stepP p g i with
    | error e => rfl
    | ok g' =>
      dsimp only
      rw [walk_add a b (i + 1) g', show i + 1 + a = i + (a + 1) by omega]
/-- standings st at the places up to m, whichever way they are come to -/
structure Flow (p : Pg) (st : Nat → Sd) (m : Nat) : Prop where
  le : m ≤ p.cd.length
  look : ∀ i, i < m → ∀ g : Nat → Option Sd, (∀ j, j ≤ i → g j = some (st j)) → lookN p g i = 0
  ways : ∀ i, i < m → ∀ g : Nat → Option Sd, (∀ j, j ≤ i → g j = some (st j)) → ∀ x ∈ waysL p g i (st i), ∃ k, k < p.cd.length ∧ x = ((k : Int), st k)
  init : ∀ j s, got0 p j = some s → s = st j
  come : ∀ i, i ≤ m → i < p.cd.length → (∃ s, got0 p i = some s) ∨ ∃ j, j < i ∧ ∀ g : Nat → Option Sd, (∀ k, k ≤ j → g k = some (st k)) → ((i : Int), st i) ∈ waysL p g j (st j)
theorem same_self (s : Sd) : sameS s s = true := by unfold sameS; simp
theorem give_all {n : Nat} {st : Nat → Sd} : ∀ (l : List (Int × Sd)) (g : Nat → Option Sd), (∀ x ∈ l, ∃ k, k < n ∧ x = ((k : Int), st k)) → (∀ j s, g j = some s → s = st j) →
    ∃ g', giveW n l g = .ok g' ∧ (∀ j s, g' j = some s → s = st j) ∧ (∀ j s, g j = some s → g' j = some s) ∧ ∀ x ∈ l, ∃ s, g' x.1.toNat = some s
  | [], g, _, hg => ⟨g, rfl, hg, fun _ _ h => h, fun x hx => by cases hx⟩
  | x :: l, g, hl, hg => by
    obtain ⟨k, hk, rfl⟩ := hl x (by simp)
    have hne : ¬ ((k : Int) = (n : Int)) := by omega
    have hl' : ∀ x ∈ l, ∃ k, k < n ∧ x = ((k : Int), st k) := fun x hx => hl x (by simp [hx])
    cases hgk : g k with
    | none =>
      have hg1 : ∀ j s, upd g k (st k) j = some s → s = st j := fun j s h => by
        unfold upd at h
        split at h
        · rename_i e; subst e; exact (Option.some.inj h).symm
        · exact hg j s h
      obtain ⟨g', e1, e2, e3, e4⟩ := give_all l (upd g k (st k)) hl' hg1
      refine ⟨g', ?_, e2, fun j s h => e3 j s ?_, fun x hx => ?_⟩
      · unfold giveW
        rw [if_neg hne]
        simp only [Int.toNat_natCast, hgk]
        exact e1
      · unfold upd
        split
        · rename_i e; subst e; rw [hgk] at h; cases h
        · exact h
      · rcases List.mem_cons.1 hx with rfl | hx
        · exact ⟨st k, e3 _ _ (by unfold upd; simp)⟩
        · exact e4 x hx
    | some t =>
      obtain rfl : t = st k := hg k t hgk
      obtain ⟨g', e1, e2, e3, e4⟩ := give_all l g hl' hg
      refine ⟨g', ?_, e2, e3, fun x hx => ?_⟩
      · unfold giveW
        rw [if_neg hne]
        simp only [Int.toNat_natCast, hgk, same_self, if_true]
        exact e1
      · rcases List.mem_cons.1 hx with rfl | hx
        · exact ⟨st k, e3 _ _ (by simpa using hgk)⟩
        · exact e4 x hx
theorem flow_ok {p : Pg} {st : Nat → Sd} {m : Nat} (h : Flow p st m) : ∀ i, i ≤ m → ∃ g, walkP p i 0 (got0 p) = .ok g ∧ (∀ j s, g j = some s → s = st j) ∧ (∀ j, j ≤ i → j < p.cd.length → g j = some (st j)) ∧ (∀ j s, got0 p j = some s → ∃ s, g j = some s) ∧
    ∀ j, j < i → ∀ k : Nat, (∀ g' : Nat → Option Sd, (∀ l, l ≤ j → g' l = some (st l)) → ((k : Int), st k) ∈ waysL p g' j (st j)) → ∃ s, g k = some s
  | 0, _ => by
    refine ⟨got0 p, rfl, h.init, fun j hj hl => ?_, fun j s hs => ⟨s, hs⟩, fun j hj => absurd hj (by omega)⟩
    obtain rfl : j = 0 := by omega
    rcases h.come 0 (Nat.zero_le _) hl with ⟨s, hs⟩ | ⟨j, hj, -⟩
    · rw [hs, h.init 0 s hs]
    · omega
  | i + 1, hi => by
    obtain ⟨g, w1, w2, w3, w4, w5⟩ := flow_ok h i (by omega)
    have hle := h.le
    have hall : ∀ j, j ≤ i → g j = some (st j) := fun j hj => w3 j hj (by omega)
    have hlk := h.look i (by omega) g hall
    obtain ⟨g', e1, e2, e3, e4⟩ := give_all (n := p.cd.length) (st := st) (waysL p g i (st i)) g (h.ways i (by omega) g hall) w2
    have hst : stepP p g i = .ok g' := by
      unfold stepP
      rw [if_pos hlk, hall i (Nat.le_refl _)]
      exact e1
    have h5 : ∀ j, j < i + 1 → ∀ k : Nat, (∀ g' : Nat → Option Sd, (∀ l, l ≤ j → g' l = some (st l)) → ((k : Int), st k) ∈ waysL p g' j (st j)) → ∃ s, g' k = some s := fun j hj k hk => by
      by_cases e : j = i
      · subst e
        obtain ⟨s, hs⟩ := e4 _ (hk g hall)
        exact ⟨s, by simpa using hs⟩
      · obtain ⟨s, hs⟩ := w5 j (by omega) k hk
        exact ⟨s, e3 _ _ hs⟩
    have h4 : ∀ j s, got0 p j = some s → ∃ s, g' j = some s := fun j s hs => by
      obtain ⟨t, ht⟩ := w4 j s hs
      exact ⟨t, e3 _ _ ht⟩
    refine ⟨g', ?_, e2, fun j hj hl => ?_, h4, h5⟩
    · rw [walk_add i 1 0 (got0 p), w1]
      dsimp only
      rw [Nat.zero_add]
      show (match stepP p g i with | .error e => Except.error (e, i) | .ok g' => walkP p 0 (i + 1) g') = _
      rw [hst]
      rfl
    · have key : ∃ s, g' j = some s := by
        rcases h.come j (by omega) hl with ⟨s, hs⟩ | ⟨k, hk, hw⟩
        · exact h4 j s hs
        · exact h5 k (by omega) j hw
      obtain ⟨s, hs⟩ := key
      rw [hs, e2 j s hs]
/-- the walk goes through -/
theorem flow_all {p : Pg} {st : Nat → Sd} (h : Flow p st p.cd.length) : ∃ g, walkP p p.cd.length 0 (got0 p) = .ok g ∧ ∀ j, j < p.cd.length → g j = some (st j) := by
  obtain ⟨g, w1, -, w3, -, -⟩ := flow_ok h p.cd.length (Nat.le_refl _)
  exact ⟨g, w1, fun j hj => w3 j (by omega) hj⟩
/-- the walk stops at place m -/
theorem flow_err {p : Pg} {st : Nat → Sd} {m e : Nat} (h : Flow p st m) (hm : m < p.cd.length) (he : e ≠ 0) (hl : ∀ g : Nat → Option Sd, (∀ j, j ≤ m → g j = some (st j)) → lookN p g m = e) : walkP p p.cd.length 0 (got0 p) = .error (e, m) := by
  obtain ⟨g, w1, -, w3, -, -⟩ := flow_ok h m (Nat.le_refl _)
  have hlk := hl g (fun j hj => w3 j hj (by omega))
  obtain ⟨r, hr⟩ : ∃ r, p.cd.length = m + (r + 1) := ⟨p.cd.length - m - 1, by omega⟩
  rw [hr, walk_add m (r + 1) 0 (got0 p), w1]
  dsimp only
  rw [Nat.zero_add]
  have hst : stepP p g m = .error e := by
    unfold stepP
    rw [hlk, if_neg he]
  show (match stepP p g m with | .error e => Except.error (e, m) | .ok g' => walkP p r (m + 1) g') = _
  rw [hst]
theorem sm_one {a : Int} (h : a ≤ 4611686018427387903) : sm 1 a = 1 + a := by unfold sm; rw [if_neg (by omega)]
/-- without loops a place's fuel is at most as many places as are behind it -/
theorem fuel_small {p : Pg} (hl : ∀ k, (p.at k).op ≠ 24) (j : Nat) (hj : (j : Int) ≤ 1000000) : ∀ k, 0 ≤ fuR p j k ∧ fuR p j k ≤ (j : Int) := by
  induction j with
  | zero => intro k; show (0 : Int) ≤ 0 ∧ (0 : Int) ≤ ((0 : Nat) : Int); omega
  | succ j ih0 =>
    intro k
    have ih := ih0 (by omega)
    have hb : ∀ i, 0 ≤ fuB p (fuR p j) i ∧ fuB p (fuR p j) i ≤ (j : Int) := fun i => by
      unfold fuB
      dsimp only
      split
      · omega
      · split
        · exact ih _
        · split
          · have h1 := ih (i + 1)
            have h2 := ih (p.at i).a.toNat
            omega
          · split
            · rename_i h; exact absurd h (hl i)
            · exact ih _
    show 0 ≤ (if k = p.cd.length - 1 - j then sm 1 (fuB p (fuR p j) (p.cd.length - 1 - j)) else fuR p j k) ∧ (if k = p.cd.length - 1 - j then sm 1 (fuB p (fuR p j) (p.cd.length - 1 - j)) else fuR p j k) ≤ ((j + 1 : Nat) : Int)
    split
    · have h1 := hb (p.cd.length - 1 - j)
      rw [sm_one (by omega)]
      omega
    · have := ih k
      omega
end Go.Proofs.YtelbakkgobkdaaaDoor.Vf
