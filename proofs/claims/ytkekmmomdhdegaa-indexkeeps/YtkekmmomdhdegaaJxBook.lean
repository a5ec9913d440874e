import Derived.Test.YtkekmmomdhdegaaJxRange
import Derived.Maps.OwnSet
namespace Go.Proofs.Ytkekmmomdhdegaa.Ij
open Go.RowKit Go.Proofs.Ytkekmmomdhdegaa.Ix Go.Maps

section
variable {α : Type} {a : Ix α} {k k' : Nat} {v v0 x : α}
theorem get_put_there (h : Ok a) (hg : a.get k = some v0) : (a.put k v).2.get k' = some x ↔ (k' = k ∧ x = v) ∨ (k' ≠ k ∧ a.get k' = some x) := by
  obtain ⟨_, h2, r, h3, h4⟩ := h.put_there (v := v) hg
  rw [h2.get_iff, (Ix.put_b a k v).2.2, h4.mem_iff, h.get_iff, h3.mem_iff]
  have hnd := h3.pairwise_iff (R := fun x y : Nat × α => x.1 ≠ y.1) (fun h => h.symm) |>.1 (en_nodup h.fine a.n)
  rw [List.pairwise_cons] at hnd
  simp only [List.mem_cons, Prod.mk.injEq]
  constructor
  · rintro (⟨h1, h5⟩ | h1)
    · exact Or.inl ⟨h1, h5⟩
    · exact Or.inr ⟨fun e => hnd.1 _ h1 (by simpa using e.symm), Or.inr h1⟩
  · rintro (⟨h1, h5⟩ | ⟨h1, ⟨h5, _⟩ | h5⟩)
    · exact Or.inl ⟨h1, h5⟩
    · exact absurd h5 h1
    · exact Or.inr h5
theorem get_put_new (h : Ok a) (hk : k < 18446744073709551616) (hg : a.get k = none) (hc : a.count ≠ a.most) : (a.put k v).2.get k' = some x ↔ (k' = k ∧ x = v) ∨ (k' ≠ k ∧ a.get k' = some x) := by
  obtain ⟨_, h2, h4⟩ := h.put_new (v := v) hk hg hc
  rw [h2.get_iff, (Ix.put_b a k v).2.2, h4.mem_iff, h.get_iff]
  simp only [List.mem_cons, Prod.mk.injEq]
  constructor
  · rintro (⟨h1, h5⟩ | h1)
    · exact Or.inl ⟨h1, h5⟩
    · exact Or.inr ⟨h.get_none hg _ h1, h1⟩
  · rintro (⟨h1, h5⟩ | ⟨h1, h5⟩)
    · exact Or.inl ⟨h1, h5⟩
    · exact Or.inr h5
theorem get_drop (h : Ok a) : (a.drop k).get k' = some x ↔ k' ≠ k ∧ a.get k' = some x := by
  cases hg : a.get k with
  | none =>
    rw [h.drop_none hg]
    exact ⟨fun e => ⟨fun e2 => (by rw [e2, hg] at e; cases e), e⟩, fun e => e.2⟩
  | some v =>
    obtain ⟨h2, _, _, h3⟩ := h.drop_there hg
    have hnd := h3.pairwise_iff (R := fun x y : Nat × α => x.1 ≠ y.1) (fun h => h.symm) |>.1 (en_nodup h.fine a.n)
    rw [List.pairwise_cons] at hnd
    rw [h2.get_iff, (Ix.drop_b a k).2.2, h.get_iff, h3.mem_iff]
    simp only [List.mem_cons, Prod.mk.injEq]
    constructor
    · exact fun h1 => ⟨fun e => hnd.1 _ h1 (by simpa using e.symm), Or.inr h1⟩
    · rintro ⟨h1, ⟨h5, _⟩ | h5⟩
      · exact absurd h5 h1
      · exact h5
end
/-- an element, as it is -/
def R0 (v : Value) : Option (DataW Value × List MemPlace) := some (.held v, [])
abbrev Lk (k : Nat) : Lit := .int .u64 (k : Int)
theorem lawB : Keyed Try.prog 22 := int_keyed Try.underlying22
theorem keyB {k : Nat} (h : k < 18446744073709551616) : keyOf Try.prog 22 (U k) = some (Lk k) := keyOf_int_mk Try.underlying22 (by simp [Lit.wf, IntKind.min, IntKind.max, IntKind.bits, IntKind.signed]; omega)
theorem zeroB (w : World) : (zeroValue 3).run Try.prog w = .ok (I 0) w := by kernel_rfl
theorem Lk_ne {k k' : Nat} (h : k' ≠ k) : Lk k' ≠ Lk k := fun e => h (by injection e with _ e; omega)
/-- a map in memory -/
def IsBk (w : World) (b : Nat) (m : Nat → Option Int) (n : Nat) : Prop := ∃ D : DataW Value, w.ownsMap Try.prog 22 R0 b n D ∧ Tidy D ∧ Maps.size D = n ∧ ∀ k, k < 18446744073709551616 → Maps.has D (Lk k) = (m k).isSome ∧ ∀ v, m k = some v → D.atKey (Lk k) (.held (I 0)) = .held (I v)
def upd (m : Nat → Option Int) (k : Nat) (x : Option Int) : Nat → Option Int := fun j => if j = k then x else m j
theorem upd_same (m : Nat → Option Int) (k : Nat) (x : Option Int) : upd m k x k = x := by simp [upd]
theorem upd_ne {m : Nat → Option Int} {k j : Nat} {x : Option Int} (h : j ≠ k) : upd m k x j = m j := by simp [upd, h]
section
variable {w w' : World} {b n k : Nat} {m : Nat → Option Int}
theorem IsBk.blk (h : IsBk w b m n) : ∃ es c, w.heap[b]? = some (.map es c) := by
  obtain ⟨D, ⟨es, c, hb, _⟩, _⟩ := h
  exact ⟨es, c, hb⟩
theorem IsBk.lt (h : IsBk w b m n) : b < w.heap.size := by
  obtain ⟨es, c, hb⟩ := h.blk
  exact (Array.getElem?_eq_some_iff.1 hb).1
theorem IsBk.ne_cells (h : IsBk w b m n) {g : Nat} {cs : Array Value} {T : TypeId} {f : Nat × Nat} (hg : w.heap[g]? = some (.cells cs T f)) : g ≠ b := by
  rintro rfl
  obtain ⟨es, c, hb⟩ := h.blk
  rw [hb] at hg
  cases hg
theorem IsBk.same (h : IsBk w b m n) (hb : w'.heap[b]? = w.heap[b]?) : IsBk w' b m n := by
  obtain ⟨D, ⟨es, c, h1, h2⟩, h3⟩ := h
  exact ⟨D, ⟨es, c, hb.trans h1, h2⟩, h3⟩
theorem IsBk.made (w : World) : IsBk (w.alloc (.map #[] 0)) w.heap.size (fun _ => none) 0 :=
  ⟨.map [], World.ownsMap_made w _ _ _, tidy_empty, rfl, fun k _ => ⟨rfl, fun v hv => by cases hv⟩⟩
theorem IsBk.at_ (D : DataW Value) (hD : Maps.has D (Lk k) = (m k).isSome ∧ ∀ v, m k = some v → D.atKey (Lk k) (.held (I 0)) = .held (I v)) : D.atKey (Lk k) (.held (I 0)) = .held (I ((m k).getD 0)) := by
  cases hm : m k with
  | none =>
    rw [atKey_of_not_has (by rw [hD.1, hm]; rfl)]
    rfl
  | some v => exact hD.2 v hm
theorem IsBk.look (h : IsBk w b m n) (hk : k < 18446744073709551616) : (Instr.lookup 47 (.map (some b)) (U k) false).run Try.prog w = .ok (I ((m k).getD 0)) w := by
  obtain ⟨D, h1, _, _, h2⟩ := h
  obtain ⟨v, ps, e1, e2⟩ := h1.lookup lawB Try.underlying47 (zeroB w) (zd := .held (I 0)) (zp := []) rfl (keyB hk)
  rw [IsBk.at_ D (h2 k hk)] at e2
  cases e2
  exact e1
theorem IsBk.lookOk (h : IsBk w b m n) (hk : k < 18446744073709551616) : (Instr.lookup 47 (.map (some b)) (U k) true).run Try.prog w = .ok (.tuple #[I ((m k).getD 0), .bool (m k).isSome]) w := by
  obtain ⟨D, h1, _, _, h2⟩ := h
  obtain ⟨v, ps, e1, e2⟩ := h1.look_ok lawB Try.underlying47 (zeroB w) (zd := .held (I 0)) (zp := []) rfl (keyB hk)
  rw [IsBk.at_ D (h2 k hk)] at e2
  rw [(h2 k hk).1] at e1
  cases e2
  exact e1
theorem IsBk.len (h : IsBk w b m n) (ty : TypeId) : (Builtin.len_ #[47] ty #[.map (some b)]).run Try.prog w = .ok (I n) w := by
  obtain ⟨D, h1, _, hs, h2⟩ := h
  rw [h1.len Try.underlying47 ty, hs]
theorem IsBk.put (h : IsBk w b m n) (hk : k < 18446744073709551616) (hn : n < maxLen) (v : Int) : ∃ w', (Instr.mapUpdate 47 (.map (some b)) (U k) (I v)).run Try.prog w = .ok () w' ∧ IsBk w' b (upd m k (some v)) (if (m k).isSome then n else n + 1) ∧ w.grownBy w' (some b) := by
  obtain ⟨D, h1, ht, hs, h2⟩ := h
  obtain ⟨w', e1, e2, e3⟩ := h1.update lawB Try.underlying47 hn (keyB hk) (val := I v) (d := .held (I v)) (ps := []) rfl
  have hkl : WideAt.IsKeyLit (Lk k) := by trivial
  have hsz : Maps.size (D.put (Lk k) (.held (I v))) = if (m k).isSome then n else n + 1 := by rw [size_put ht, (h2 k hk).1, hs]
  refine ⟨w', e1, ⟨_, ?_, ht.put hkl _, hsz, fun j hj => ?_⟩, e3⟩
  · obtain ⟨es, c, q1, q2, q3, q4⟩ := e2
    refine ⟨es, c, q1, q2, ?_, q4⟩
    rw [← hsz, q4]
    simp [Maps.size, length_sorted]
  · by_cases e : j = k
    · subst e
      rw [upd_same]
      exact ⟨has_put_same ht.isMap hkl _, fun x hx => by cases hx; exact atKey_put_same ht.isMap hkl _ _⟩
    · rw [upd_ne e]
      exact ⟨(has_put_other (Lk_ne e) _).trans (h2 j hj).1, fun x hx => (atKey_put_other (Lk_ne e) _ _).trans ((h2 j hj).2 x hx)⟩
theorem IsBk.drop (h : IsBk w b m n) (hk : k < 18446744073709551616) (ty : TypeId) : ∃ w', (Builtin.delete_ #[47, 22] ty #[.map (some b), U k]).run Try.prog w = .ok (.tuple #[]) w' ∧ IsBk w' b (upd m k none) (if (m k).isSome then n - 1 else n) ∧ w.grownBy w' (some b) := by
  obtain ⟨D, h1, ht, hs, h2⟩ := h
  obtain ⟨w', e1, e2, e3⟩ := h1.drop lawB Try.underlying47 (keyB hk) ty
  have hsz : Maps.size (D.del (Lk k)) = if (m k).isSome then n - 1 else n := by
    have := size_del (k := Lk k) ht
    rw [(h2 k hk).1, hs] at this
    cases hm : (m k).isSome with
    | true => rw [hm] at this; simp at this ⊢; omega
    | false => rw [hm] at this; simpa using this
  refine ⟨w', e1, ⟨_, ?_, ht.del _, hsz, fun j hj => ?_⟩, e3.grown⟩
  · obtain ⟨es, c, q1, q2, q3, q4⟩ := e2
    refine ⟨es, c, q1, q2, ?_, q4⟩
    rw [← hsz, q4]
    simp [Maps.size, length_sorted]
  · by_cases e : j = k
    · subst e
      rw [upd_same]
      exact ⟨has_del_same, fun x hx => by cases hx⟩
    · rw [upd_ne e]
      exact ⟨(has_del_other (Lk_ne e)).trans (h2 j hj).1, fun x hx => (atKey_del_other (Lk_ne e) _).trans ((h2 j hj).2 x hx)⟩
end
end Go.Proofs.Ytkekmmomdhdegaa.Ij
