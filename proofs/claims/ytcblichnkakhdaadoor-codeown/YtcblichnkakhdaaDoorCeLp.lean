import Derived.Test.YtcblichnkakhdaaDoorCeIns
namespace Go.Proofs.YtcblichnkakhdaaDoor.Cd
open Go.RowKit Go.Proofs.YtcblichnkakhdaaDoor.Nm Go.Proofs.YtcblichnkakhdaaDoor.Vf

section
variable {W w w' w0 w1 w4 : World} {b pb n m ix sz : Nat} {bo : Option Addr} {bc : Nat} {s : List Nat} {i fr j : Nat} {C : Value → Array Value} {T : TypeId} {xs news : List Value} {v v' : Value}
theorem Rdr.keep (h : Rdr w b bo bc s i fr) (hk : ∀ k, k ≤ b → w'.heap[k]? = w.heap[k]?) (hs : w.heap.size ≤ w'.heap.size) : Rdr w' b bo bc s i fr :=
  ⟨(hk b (Nat.le_refl _)).trans h.hb, fun k x hx => by
    obtain ⟨g, f, e, h1, h2, h3⟩ := h.rd k x hx
    exact ⟨g, f, e, h1, Nat.lt_of_lt_of_le h2 hs, (World.cell?_of_block (a := ⟨g, f + k, none⟩) (hk g (by omega))).trans h3⟩, h.le, h.lt, h.byt⟩
/-- a list of the program in the making: it grows by append, read by the reader at b into the box at pb -/
structure Lp (w0 : World) (b pb : Nat) (bo : Option Addr) (bc : Nat) (s : List Nat) (C : Value → Array Value) (T : TypeId) (sz n : Nat) (xs : List Value) (v : Value) (j fr : Nat) (w : World) : Prop where
  rd : Rdr w b bo bc s j fr
  fr : Fb [b, pb] w0.heap.size w0 w
  hb : w.heap[pb]? = some (.cells (C v) 29 (0, 0))
  ow : w.ownsRow w0.heap.size T sz v n xs
  lt : b < pb ∧ pb < w0.heap.size
theorem Lp.start (hr : Rdr w0 b bo bc s j fr) (hb : w0.heap[pb]? = some (.cells (C (.slice none 0 0)) 29 (0, 0))) (hl : b < pb) : Lp w0 b pb bo bc s C T sz 0 [] (.slice none 0 0) j fr w0 :=
  ⟨hr, Fb.refl _ _ _, hb, World.ownsRow_nil _ _ _ _, hl, blk_lt hb⟩
theorem Lp.fg (h : Lp w0 b pb bo bc s C T sz n xs v j fr w) (hr : Rdr w1 b bo bc s i m) (hf : Fg b w w1) : Lp w0 b pb bo bc s C T sz n xs v i m w1 := by
  have h0 := h.fr.size
  exact ⟨hr, h.fr.trans ⟨hf.os, hf.tape, hf.output, hf.size, fun k hk hn => hf.block k (by omega) (fun e => hn (by simp [e]))⟩, (hf.block pb (blk_lt h.hb) (by have := h.lt; omega)).trans h.hb, own_keepB h.ow fun k e => hf.block k (World.ownsRow.lt h.ow k e).2 (by have := (World.ownsRow.lt h.ow k e).1; have := h.lt; omega), h.lt⟩
theorem Lp.below (h : Lp w0 b pb bo bc s C T sz n xs v j fr w) (hb : Below w.heap.size w w1) : Lp w0 b pb bo bc s C T sz n xs v j fr w1 := h.fg (h.rd.below hb) (Fg.of_below hb)
theorem Lp.app (h : Lp w0 b pb bo bc s C T sz n xs v j fr w) (ho : w4.ownsRow w0.heap.size T sz v' m (xs ++ news)) (hG : Gone w v w4 v') (hC : (C v).setIfInBounds ix v' = C v') : Lp w0 b pb bo bc s C T sz m (xs ++ news) v' j fr (w4.setCell ⟨pb, ix, none⟩ v') := by
  have h0 := h.fr.size
  have hl := h.lt
  have hown : ∀ k, v.ownBlock = some k → w0.heap.size ≤ k := fun k e => (World.ownsRow.lt h.ow k e).1
  have key : ∀ k, k < w0.heap.size → w4.heap[k]? = w.heap[k]? := fun k hk => hG.1.block k (by omega) fun e => by have := hown k e.symm; omega
  have hb4 : w4.heap[pb]? = some (.cells (C v) 29 (0, 0)) := (key pb hl.2).trans h.hb
  have hs := hG.1.size
  have hset : ∀ k, k ≠ pb → (w4.setCell ⟨pb, ix, none⟩ v').heap[k]? = w4.heap[k]? := fun k hk => Below.heap_setCell w4 _ v' k (fun e => hk e)
  have hsz : (w4.setCell ⟨pb, ix, none⟩ v').heap.size = w4.heap.size := by simp [World.setCell]
  refine ⟨h.rd.keep (fun k hk => (hset k (by omega)).trans (key k (by omega))) (by omega), ⟨hG.1.os.trans h.fr.os, hG.1.tape.trans h.fr.tape, hG.1.output.trans h.fr.output, by omega, fun k hk hn => ((hset k (fun e => hn (by simp [e]))).trans (key k hk)).trans (h.fr.block k hk hn)⟩, ?_, own_keepB ho fun k e => hset k (by have := (World.ownsRow.lt ho k e).1; omega), hl⟩
  rw [heap_setCell_same w4 pb ix _ _ v' hb4, hC]
theorem Lp.at4 (h : Lp w0 b pb bo bc s C T sz n xs v j fr w) (hG : Gone w v w4 v') {u : Value} (hc : (C v)[ix]? = some u) : w4.cell? ⟨pb, ix, none⟩ = some u ∧ w4.frozen? ⟨pb, ix, none⟩ = false := by
  have h0 := h.fr.size
  have hl := h.lt
  have hb4 : w4.heap[pb]? = some (.cells (C v) 29 (0, 0)) := (hG.1.block pb (by omega) fun e => by have := (World.ownsRow.lt h.ow pb e.symm).1; omega).trans h.hb
  exact ⟨by simp only [World.cell?, hb4]; exact hc, fzb hb4 ix⟩
theorem Lp.cell (h : Lp w0 b pb bo bc s C T sz n xs v j fr w) {u : Value} (hc : (C v)[ix]? = some u) : w.cell? ⟨pb, ix, none⟩ = some u := by
  simp only [World.cell?, h.hb]
  exact hc
end
end Go.Proofs.YtcblichnkakhdaaDoor.Cd
