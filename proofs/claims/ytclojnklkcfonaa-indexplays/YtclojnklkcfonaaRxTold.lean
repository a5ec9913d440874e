import Derived.Test.YtclojnklkcfonaaRxSame
import Derived.Test.YtclojnklkcfonaaHomesW
import Derived.Test.YtclojnklkcfonaaIxMany
namespace Go.Proofs.Ytclojnklkcfonaa.Rx
open Go.RowKit Go.Proofs.Ytclojnklkcfonaa.Ix Go.Proofs.Ytclojnklkcfonaa.Ii

/-- the index at a, the reference at c -/
def Jg (n0 : Nat) (w W : World) (g : Nat) (q : Ro) (a c : Ix Int) : Prop := ∃ o, Mine n0 w W g o a ∧ Rm W q c.n c.most (c.b + 1) c.count c.t ∧ ∀ k ∈ q.foot, n0 ≤ k ∧ k ∉ o.foot g
section
variable {n0 : Nat} {w W W' : World} {g : Nat} {q : Ro} {a c : Ix Int}
theorem Jg.turn (h : Jg n0 w W g q a c) : ∃ o, IsIx W g o a ∧ ∀ a' W', Goes W g o a' W' → Jg n0 w W' g q a' c := by
  obtain ⟨o, ⟨h1, h2, h3, h4⟩, h5, h6⟩ := h
  refine ⟨o, h1, fun a' W' hG => ?_⟩
  obtain ⟨o', k1, k2, k3⟩ := hG
  refine ⟨o', ⟨k1, fr_below k2 h2 h3 h4, fun k hk => ?_, h4⟩, h5.kept k2 (fun k hk => (h6 k hk).2), fun k hk => ⟨(h6 k hk).1, fun hk' => ?_⟩⟩
  · rcases k3 k hk with h | h
    · exact h3 k h
    · exact Nat.le_trans (Nat.le_trans h4 h2.size) h
  · rcases k3 k hk' with h | h
    · exact (h6 k hk).2 h
    · have := h5.lt k hk
      omega
theorem Jg.rturn (h : Jg n0 w W g q a c) : Rm W q c.n c.most (c.b + 1) c.count c.t ∧ ∀ (c' : Ix Int) W', Rm W' q c'.n c'.most (c'.b + 1) c'.count c'.t → Fr q.foot W W' → Jg n0 w W' g q a c' := by
  obtain ⟨o, ⟨h1, h2, h3, h4⟩, h5, h6⟩ := h
  exact ⟨h5, fun c' W' hR hF => ⟨o, ⟨h1.kept hF (fun k hk hk' => (h6 k hk').2 hk), fr_below hF h2 (fun k hk => (h6 k hk).1) h4, h3, h4⟩, hR, h6⟩⟩
theorem Jg.below (h : Jg n0 w W g q a c) (hb : Below W.heap.size W W') : Jg n0 w W' g q a c := by
  obtain ⟨o, h1, h2, h3⟩ := h
  exact ⟨o, h1.below hb, h2.below hb, h3⟩
theorem Jg.ok (h : Jg n0 w W g q a c) : Ok a := by
  obtain ⟨o, h1, _⟩ := h
  exact h1.1.2
theorem Jg.be (h : Jg n0 w W g q a c) : Below n0 w W := by
  obtain ⟨o, h1, _⟩ := h
  exact h1.2.1
end
theorem Jg.turnB {n0 : Nat} {w W W1 : World} {g : Nat} {q : Ro} {a c : Ix Int} (h : Jg n0 w W g q a c) (hb : Below W.heap.size W W1) : ∃ o, IsIx W1 g o a ∧ (∀ k ∈ o.foot g, k < W.heap.size) ∧ ∀ a' W', Goes W1 g o a' W' → Jg n0 w W' g q a' c := by
  obtain ⟨o, hM, h5, h6⟩ := h
  have hlt := hM.1.1.foot_lt
  obtain ⟨h1, h2, h3, h4⟩ := hM.below hb
  have h5' := h5.below hb
  refine ⟨o, h1, hlt, fun a' W' hG => ?_⟩
  obtain ⟨o', k1, k2, k3⟩ := hG
  refine ⟨o', ⟨k1, fr_below k2 h2 h3 h4, fun k hk => ?_, h4⟩, h5'.kept k2 (fun k hk => (h6 k hk).2), fun k hk => ⟨(h6 k hk).1, fun hk' => ?_⟩⟩
  · rcases k3 k hk with h | h
    · exact h3 k h
    · exact Nat.le_trans (Nat.le_trans h4 h2.size) h
  · rcases k3 k hk' with h | h
    · exact (h6 k hk).2 h
    · have := h5'.lt k hk
      omega
theorem foot_no {W : World} {g : Nat} {o : Lo} {a : Ix Int} {b : Nat} (h : IsIx W g o a) (hb : W.heap.size ≤ b) : b ∉ o.foot g := fun hm => by
  have := h.1.foot_lt b hm
  omega
theorem put_held {n0 : Nat} {w W : World} {g : Nat} {q : Ro} {a : Ix Int} (h : Jn n0 w W g q a) (n : Int) {key : Nat} (hk : key < 18446744073709551616) (cs : Array Value) (hcs : cs = #[I 1, I n, U key]) :
    Calls Try.prog 28 #[.pointer (some ⟨g, 0, none⟩), U key, I n] (W.alloc (.cells cs 38)).drew fun r W' => r = .returned (I ((a.put key n).1 : Nat)) ∧ Hid (Jg n0 w W' g q (a.put key n).2 a) ∧ W'.cell? ⟨W.heap.size, 1, none⟩ = some (I n) ∧ W'.cell? ⟨W.heap.size, 2, none⟩ = some (U key) := by
  subst hcs
  have h' : Jg n0 w W g q a a := h
  have hb : Below W.heap.size W (W.alloc (.cells #[I 1, I n, U key] 38)).drew := ((Below.refl _ W).alloc (Nat.le_refl _) _).drew
  obtain ⟨o0, h1, h2⟩ := h'
  have hi := h1.1
  have hn1 : (W.alloc (.cells #[I 1, I n, U key] 38)).drew.heap[W.heap.size]? = some (.cells #[I 1, I n, U key] 38 (0, 0)) := heap_alloc_new _ _
  have hno : W.heap.size ∉ o0.foot g := foot_no hi (Nat.le_refl _)
  have hi2 : IsIx (W.alloc (.cells #[I 1, I n, U key] 38)).drew g o0 a := hi.below hb
  refine (put_any hi2 hk n).mono ?_
  rintro r W' ⟨rfl, hg⟩
  obtain ⟨o', k1, k2, k3⟩ := hg
  have hbk : W'.heap[W.heap.size]? = some (.cells #[I 1, I n, U key] 38 (0, 0)) := (k2.block _ (Array.getElem?_eq_some_iff.1 hn1).1 hno).trans hn1
  have hJ2 : Jg n0 w W' g q (a.put key n).2 a := by
    obtain ⟨p1, p2, p3, p4⟩ := h1.below hb
    refine ⟨o', ⟨k1, fr_below k2 p2 p3 p4, fun k hk => ?_, p4⟩, (h2.1.below hb).kept k2 (fun k hk => (h2.2 k hk).2), fun k hk => ⟨(h2.2 k hk).1, fun hk' => ?_⟩⟩
    · rcases k3 k hk with h | h
      · exact p3 k h
      · exact Nat.le_trans (Nat.le_trans p4 p2.size) h
    · rcases k3 k hk' with h | h
      · exact (h2.2 k hk).2 h
      · have := (h2.1.below hb).lt k hk
        omega
  exact ⟨rfl, hJ2, by simp [World.cell?, hbk], by simp [World.cell?, hbk]⟩
theorem rput_held {n0 : Nat} {w W1 : World} {g : Nat} {q : Ro} {a c : Ix Int} {b : Nat} {n : Int} {key : Nat} (h : Jg n0 w W1 g q a c) (hc : Ok c) (c1 : W1.cell? ⟨b, 1, none⟩ = some (I n)) (c2 : W1.cell? ⟨b, 2, none⟩ = some (U key)) (hq : b ∉ q.foot) :
    Calls Try.prog 34 #[.pointer (some ⟨q.r, 0, none⟩), U key, I n] W1 fun r W' => r = .returned (I ((c.put key n).1 : Nat)) ∧ Hid (Jg n0 w W' g q a (c.put key n).2) ∧ W'.cell? ⟨b, 1, none⟩ = some (I n) ∧ W'.cell? ⟨b, 2, none⟩ = some (U key) ∧ W'.cell? ⟨q.r, 5, none⟩ = some (I (c.put key n).2.count) := by
  obtain ⟨hR, hn⟩ := h.rturn
  have hlt : b < W1.heap.size := by
    apply Classical.byContradiction
    intro hx
    simp [World.cell?, Array.getElem?_eq_none (Nat.le_of_not_lt hx)] at c1
  refine (rput_any hR hc key n).mono ?_
  rintro r W' ⟨rfl, k1, k2⟩
  have e : ∀ j, W'.cell? ⟨b, j, none⟩ = W1.cell? ⟨b, j, none⟩ := fun j => World.cell?_of_block (a := ⟨b, j, none⟩) (k2.block b hlt hq)
  exact ⟨rfl, hn _ _ k1 k2, (e _).trans c1, (e _).trans c2, k1.cellsR.2.2.2.2.2.1⟩
end Go.Proofs.Ytclojnklkcfonaa.Rx
