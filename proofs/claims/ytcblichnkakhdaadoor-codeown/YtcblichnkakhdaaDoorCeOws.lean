import Derived.Test.YtcblichnkakhdaaDoorCeTab
import Derived.Test.YtcblichnkakhdaaDoorVfRd
namespace Go.Proofs.YtcblichnkakhdaaDoor.Cd
open Go.RowKit Go.Proofs.YtcblichnkakhdaaDoor.Nm Go.Proofs.YtcblichnkakhdaaDoor.Vf

/-- a list in a block of its own -/
structure Ent where
  base : Nat
  T : TypeId
  sz : Nat
  v : Value
  n : Nat
  xs : List Value
/-- lists in blocks of their own, all behind pb, apart from one another -/
structure Ows (w : World) (pb : Nat) (L : List Ent) : Prop where
  ow : ∀ x ∈ L, pb < x.base ∧ w.ownsRow x.base x.T x.sz x.v x.n x.xs
  ap : L.Pairwise fun x y => ∀ k, x.v.ownBlock = some k → y.v.ownBlock ≠ some k
section
variable {w w' w0 : World} {b pb n sz ix : Nat} {bo : Option Addr} {bc : Nat} {s : List Nat} {j fr : Nat} {C : Value → Array Value} {T : TypeId} {xs : List Value} {v : Value} {L : List Ent}
theorem Ows.keep (h : Ows w pb L) (hk : ∀ k, pb < k → k < w.heap.size → w'.heap[k]? = w.heap[k]?) : Ows w' pb L :=
  ⟨fun x hx => ⟨(h.ow x hx).1, own_keepB (h.ow x hx).2 fun k e => hk k (by have := (World.ownsRow.lt (h.ow x hx).2 k e).1; have := (h.ow x hx).1; omega) (World.ownsRow.lt (h.ow x hx).2 k e).2⟩, h.ap⟩
theorem Ows.fg (h : Ows w pb L) (hf : Fg b w w') (hb : b ≤ pb) : Ows w' pb L := h.keep fun k h1 h2 => hf.block k h2 (by omega)
theorem Ows.fb (h : Ows w pb L) (hf : Fb [b, pb] w.heap.size w w') (hb : b ≤ pb) : Ows w' pb L := h.keep fun k h1 h2 => hf.block k h2 (by simp; omega)
theorem Ows.set (h : Ows w pb L) (u : Value) : Ows (w.setCell ⟨pb, ix, none⟩ u) pb L := h.keep fun k h1 _ => Below.heap_setCell w _ u k (fun e => by have e' : k = pb := e; omega)
theorem Ows.lp (h : Ows w0 pb L) (hl : Lp w0 b pb bo bc s C T sz n xs v j fr w) : Ows w pb (L ++ [⟨w0.heap.size, T, sz, v, n, xs⟩]) := by
  have h1 := h.fb hl.fr (by have := hl.lt; omega)
  refine ⟨fun x hx => ?_, ?_⟩
  · rcases List.mem_append.1 hx with hx | hx
    · exact h1.ow x hx
    · obtain rfl : x = ⟨w0.heap.size, T, sz, v, n, xs⟩ := by simpa using hx
      exact ⟨hl.lt.2, hl.ow⟩
  · rw [List.pairwise_append]
    refine ⟨h.ap, by simp, fun x hx y hy k e e2 => ?_⟩
    obtain rfl : y = ⟨w0.heap.size, T, sz, v, n, xs⟩ := by simpa using hy
    have q1 := (World.ownsRow.lt (h.ow x hx).2 k e).2
    have q2 := (World.ownsRow.lt hl.ow k e2).1
    omega
def en1 (n : Nat) (g : Value) (l : List Bool) : Ent := ⟨n, 4, 1, g, l.length, bC l⟩
def en2 (n : Nat) (g : Value) (l : List (Int × Int × Int)) : Ent := ⟨n, 60, 3, g, l.length, vC l⟩
def en3 (n : Nat) (g : Value) (l : List Int) : Ent := ⟨n, 3, 1, g, l.length, iC l⟩
def en5 (n : Nat) (g : Value) (l : List Ins) : Ent := ⟨n, 64, 5, g, l.length, Vf.cC l⟩
theorem Tb3.ows {W : World} {x : Tabs} (h : Tb3 W w pb x) (hp : pb < W.heap.size) : ∃ g1 g2 g3 n1 n2 n3, w.heap[pb]? = some (.cells #[g1, g2, g3, .slice none 0 0, .int .i64 0, .slice none 0 0] 29 (0, 0)) ∧ Ows w pb [en1 n1 g1 x.1, en2 n2 g2 x.2.1, en3 n3 g3 x.2.2] := by
  obtain ⟨g, v, u, n1, n2, n3, h1, h2, h3, h4, h5, h6, h7, h8, h9⟩ := h.ex
  refine ⟨g, v, u, n1, n2, n3, h1, fun y hy => ?_, ?_⟩
  · simp only [List.mem_cons, List.not_mem_nil, or_false] at hy
    rcases hy with rfl | rfl | rfl
    · exact ⟨by show pb < n1; omega, h2⟩
    · exact ⟨by show pb < n2; omega, h3⟩
    · exact ⟨by show pb < n3; omega, h4⟩
  · simp only [List.pairwise_cons, List.mem_cons, List.not_mem_nil, or_false, List.Pairwise.nil, and_true]
    refine ⟨fun y hy k e e2 => ?_, fun y hy k e e2 => ?_, fun y hy => hy.elim⟩
    · have q := h8 k e
      rcases hy with rfl | rfl
      · have := (World.ownsRow.lt h3 k e2).1; omega
      · have := (World.ownsRow.lt h4 k e2).1; omega
    · have q := h9 k e
      obtain rfl := hy
      have := (World.ownsRow.lt h4 k e2).1
      omega
end
end Go.Proofs.YtcblichnkakhdaaDoor.Cd
