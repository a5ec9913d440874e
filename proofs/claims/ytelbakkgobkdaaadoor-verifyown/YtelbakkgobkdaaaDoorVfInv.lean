import Derived.Test.YtelbakkgobkdaaaDoorVfLook
namespace Go.Proofs.YtelbakkgobkdaaaDoor.Vf
open Go.RowKit Go.Proofs.YtelbakkgobkdaaaDoor.Nm

/-- a way that may be gone -/
structure WOk (p : Pg) (g : Nat → Option Sd) (x : Int × Sd) : Prop where
  lo : 0 ≤ x.1
  hi : x.1 ≤ (p.cd.length : Int)
  ht : x.2.ty.length ≤ 256
  tn : x.2.turn = -1 ∨ (0 ≤ x.2.turn ∧ ∃ t, g x.2.turn.toNat = some t)
theorem upd_some {g : Nat → Option Sd} {k j : Nat} {s t : Sd} (hk : g k = none) (h : g j = some t) : upd g k s j = some t := by
  unfold upd
  rw [if_neg (fun e => by rw [e, hk] at h; cases h)]
  exact h
theorem WOk.upd {p : Pg} {g : Nat → Option Sd} {x : Int × Sd} {k : Nat} {s : Sd} (h : WOk p g x) (hk : g k = none) : WOk p (upd g k s) x :=
  ⟨h.lo, h.hi, h.ht, h.tn.imp id (fun ⟨h1, t, h2⟩ => ⟨h1, t, upd_some hk h2⟩)⟩
theorem Inv.upd {p : Pg} {g : Nat → Option Sd} {x : Int × Sd} (hI : Inv p g) (h : WOk p g x) (hl : x.1 < (p.cd.length : Int)) (hk : g x.1.toNat = none) : Inv p (upd g x.1.toNat x.2) := by
  have hlo := h.lo
  refine ⟨fun j s hs => ?_, fun j s hs => ?_, fun j s hs => ?_⟩
  all_goals
    by_cases e : j = x.1.toNat
    · subst e
      have e2 : x.2 = s := by unfold Vf.upd at hs; rw [if_pos rfl] at hs; exact Option.some.inj hs
      subst e2
      first
        | (show _ < _; omega)
        | exact h.ht
        | exact h.tn.imp id (fun ⟨h1, t, h2⟩ => ⟨h1, t, upd_some hk h2⟩)
    · have hs2 : g j = some s := by unfold Vf.upd at hs; rw [if_neg e] at hs; exact hs
      first
        | exact hI.lt j s hs2
        | exact hI.ht j s hs2
        | exact (hI.tn j s hs2).imp id (fun ⟨h1, t, h2⟩ => ⟨h1, t, upd_some hk h2⟩)
theorem behT_len {ty : List Bool} {op : Nat} (hh : ty.length ≤ 256) (hf : fitsB ty op = true) : (behT ty op).length ≤ 256 := by
  unfold fitsB at hf
  simp only [Bool.and_eq_true, Bool.or_eq_true, decide_eq_true_eq] at hf
  obtain ⟨h1, -, h2⟩ := hf
  unfold behT
  rw [List.length_append, List.length_take]
  split
  · simp; omega
  · rename_i h3
    simp only [List.length_singleton]
    rcases h2 with h2 | h2
    · exact absurd h2 h3
    · omega
theorem look_fits {p : Pg} {g : Nat → Option Sd} {i : Nat} {s : Sd} (hs : g i = some s) (h : lookN p g i = 0) : fitsB s.ty (p.at i).op.toNat = true ∧ goB p g i s = true := by
  unfold lookN at h
  rw [hs] at h
  dsimp only at h
  cases h1 : holdB p s.hand (p.at i) <;> rw [h1] at h <;> simp at h
  cases h2 : fitsB s.ty (p.at i).op.toNat <;> rw [h2] at h <;> simp at h
  cases h3 : suitsB s.ty (p.at i).op.toNat <;> rw [h3] at h <;> simp at h
  cases h4 : bringB p (p.at i) <;> rw [h4] at h <;> simp at h
  cases h5 : goB p g i s <;> rw [h5] at h <;> simp at h
  exact ⟨rfl, rfl⟩
theorem look_some_of {p : Pg} {g : Nat → Option Sd} {i : Nat} (h : lookN p g i = 0) : ∃ s, g i = some s := by
  cases hg : g i with
  | none => unfold lookN at h; rw [hg] at h; cases h
  | some s => exact ⟨s, rfl⟩
theorem go_turn {p : Pg} {g : Nat → Option Sd} {i : Nat} {s : Sd} (h : goB p g i s = true) (ho : (p.at i).op = 26) : s.turn ≠ -1 := by
  unfold goB at h
  dsimp only at h
  rw [ho] at h
  simp at h
  exact h.2.1
theorem ways_ok {p : Pg} {g : Nat → Option Sd} {i : Nat} {s : Sd} (hI : Inv p g) (hi : i < p.cd.length) (hk : OkI p (p.at i)) (hs : g i = some s) (hf : fitsB s.ty (p.at i).op.toNat = true) (hg : goB p g i s = true) : ∀ x ∈ waysL p g i s, WOk p g x := by
  have hlen := behT_len (hI.ht i s hs) hf
  have htn := hI.tn i s hs
  have on : WOk p g ((i : Int) + 1, behS p s (p.at i)) := ⟨by show 0 ≤ (i : Int) + 1; omega, by show (i : Int) + 1 ≤ _; omega, hlen, htn⟩
  unfold waysL
  dsimp only
  intro x hx
  split at hx
  · cases hx
  · split at hx
    · rename_i h22
      obtain ⟨a1, a2⟩ := hk.pa (Or.inl h22)
      rw [List.mem_singleton] at hx
      subst hx
      exact ⟨a1, Int.le_of_lt a2, hlen, htn⟩
    · split at hx
      · rename_i h23
        obtain ⟨a1, a2⟩ := hk.pa (Or.inr (Or.inl h23))
        simp only [List.mem_cons, List.not_mem_nil, or_false] at hx
        rcases hx with rfl | rfl
        · exact on
        · exact ⟨a1, Int.le_of_lt a2, hlen, htn⟩
      · split at hx
        · rename_i h25
          obtain ⟨a1, a2⟩ := hk.pa (Or.inr (Or.inr (Or.inl h25)))
          simp only [List.mem_cons, List.not_mem_nil, or_false] at hx
          rcases hx with rfl | rfl
          · exact ⟨by show 0 ≤ (i : Int) + 1; omega, by show (i : Int) + 1 ≤ _; omega, hlen, Or.inr ⟨by show 0 ≤ (i : Int); omega, s, by show g (i : Int).toNat = _; rw [Int.toNat_natCast]; exact hs⟩⟩
          · exact ⟨a1, Int.le_of_lt a2, hlen, htn⟩
        · split at hx
          · rename_i h26
            obtain ⟨a1, a2⟩ := hk.pa (Or.inr (Or.inr (Or.inr (Or.inl h26))))
            simp only [List.mem_cons, List.not_mem_nil, or_false] at hx
            rcases hx with rfl | rfl
            · exact on
            · refine ⟨a1, Int.le_of_lt a2, hlen, ?_⟩
              rcases htn with h1 | ⟨h1, t, h2⟩
              · exact absurd h1 (go_turn hg h26)
              · have e : tnAt g s.turn = t.turn := by unfold tnAt; rw [h2]
                show tnAt g s.turn = -1 ∨ _
                rw [show tnAt g (behS p s (p.at i)).turn = t.turn from e, e]
                exact hI.tn _ t h2
          · rw [List.mem_singleton] at hx
            subst hx
            exact on
theorem got0_inv {p : Pg} (hev : ∀ n ∈ evs p, -1 ≤ n ∧ n < (p.cd.length : Int)) : Inv p (got0 p) := by
  have key : ∀ (l : List Int) (g : Nat → Option Sd), (∀ n ∈ l, -1 ≤ n ∧ n < (p.cd.length : Int)) → (∀ k s, g k = some s → k < p.cd.length ∧ s = freshS) → ∀ k s, l.foldl put0 g k = some s → k < p.cd.length ∧ s = freshS := by
    intro l
    induction l with
    | nil => intro g _ hg k s h; exact hg k s h
    | cons n l ih =>
      intro g hn hg k s h
      refine ih (put0 g n) (fun m hm => hn m (List.mem_cons_of_mem _ hm)) (fun j t hj => ?_) k s h
      unfold put0 at hj
      split at hj
      · exact hg j t hj
      · rename_i h1
        unfold upd at hj
        split at hj
        · rename_i h2
          have := hn n (by simp)
          exact ⟨by omega, (Option.some.inj hj).symm⟩
        · exact hg j t hj
  have h := key (evs p) (fun _ => none) hev (fun k s h => by cases h)
  exact ⟨fun k s hs => (h k s hs).1, fun k s hs => by rw [(h k s hs).2]; decide, fun k s hs => by rw [(h k s hs).2]; exact Or.inl rfl⟩
end Go.Proofs.YtelbakkgobkdaaaDoor.Vf
