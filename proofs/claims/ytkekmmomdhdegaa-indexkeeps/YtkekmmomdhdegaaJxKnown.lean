import Derived.Test.YtkekmmomdhdegaaJxNew
namespace Go.Proofs.Ytkekmmomdhdegaa.Ij
open Go.RowKit Go.Proofs.Ytkekmmomdhdegaa.Ix

/-- an index in memory made since w -/
def Mine (n0 : Nat) (w W : World) (g : Nat) (o : Lo) (a : Ix El) : Prop := IsIx W g o a ∧ Below n0 w W ∧ (∀ k ∈ o.foot g, n0 ≤ k) ∧ n0 ≤ w.heap.size
theorem fr_below {F : List Nat} {n0 : Nat} {w W W' : World} (h : Fr F W W') (hb : Below n0 w W) (hf : ∀ k ∈ F, n0 ≤ k) (hn : n0 ≤ w.heap.size) : Below n0 w W' :=
  hb.trans ⟨h.os, h.tape, h.output, h.size, fun k hk => h.block k (Nat.lt_of_lt_of_le hk (Nat.le_trans hn hb.size)) (fun hm => by have := hf k hm; omega)⟩
theorem Mine.turn {n0 : Nat} {w W W' : World} {g : Nat} {o : Lo} {a a' : Ix El} (h : Mine n0 w W g o a) (hG : Goes W g o a' W') : ∃ o', Mine n0 w W' g o' a' := by
  obtain ⟨h1, h2, h3, h4⟩ := h
  obtain ⟨o', k1, k2, k3⟩ := hG
  refine ⟨o', k1, fr_below k2 h2 h3 h4, fun k hk => ?_, h4⟩
  rcases k3 k hk with e | e
  · exact h3 k e
  · exact Nat.le_trans h4 (Nat.le_trans h2.size e)
theorem Mine.below {n0 : Nat} {w W W' : World} {g : Nat} {o : Lo} {a : Ix El} (h : Mine n0 w W g o a) (hb : Below W.heap.size W W') : Mine n0 w W' g o a :=
  ⟨h.1.below hb, h.2.1.trans (hb.mono (Nat.le_trans h.2.2.2 h.2.1.size)), h.2.2.1, h.2.2.2⟩
theorem Born.mine {w w' : World} {a : Ix El} {g : Nat} (h : Born w a g w') : ∃ o, Mine w.heap.size w w' g o a := by
  obtain ⟨o, h1, h2, h3⟩ := h
  exact ⟨o, h1, h2, h3, Nat.le_refl _⟩

end Go.Proofs.Ytkekmmomdhdegaa.Ij
