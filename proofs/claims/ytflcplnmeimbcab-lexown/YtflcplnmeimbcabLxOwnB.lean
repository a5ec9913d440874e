import Derived.Test.YtflcplnmeimbcabLxParts
import Derived.Test.YtflcplnmeimbcabLxLend
namespace Go.Proofs.Ytflcplnmeimbcab.Lx
open Go.RowKit Go.Proofs.Ytflcplnmeimbcab.Sp

theorem lent_set (s : ByteArray) (k : Nat) (hk : k < s.size) (b : UInt8) : ∃ s' : ByteArray, s'.size = s.size ∧ ∀ i, lent s' i = if i = k then (b.toNat : Int) else lent s i := by
  have hz : (ByteArray.mk (s.data.setIfInBounds k b)).size = s.size := Array.size_setIfInBounds
  refine ⟨⟨s.data.setIfInBounds k b⟩, hz, fun i => ?_⟩
  unfold lent
  rw [hz]
  by_cases hi : i < s.size
  · rw [if_pos hi, if_pos hi, nb_get _ i (by rw [hz]; exact hi), nb_get s i hi]
    have hd : i < s.data.size := hi
    by_cases e : i = k
    · subst e
      rw [if_pos rfl]
      show (((s.data.setIfInBounds i b)[i]'(by simpa using hd)).toNat : Int) = _
      simp
    · rw [if_neg e]
      show (((s.data.setIfInBounds k b)[i]'(by simpa using hd)).toNat : Int) = ((s.data[i]'hd).toNat : Int)
      rw [Array.getElem_setIfInBounds_ne hd (fun h => e h.symm)]
  · have : i ≠ k := by omega
    rw [if_neg hi, if_neg hi, if_neg this]

/-- the law's own memory, of N bytes: they are the text s -/
structure Mn (wC wr : World) (N : Nat) (s : ByteArray) : Prop where
  size : s.size = N
  row : Row wr wC.heap.size (N + 67) (lent s)
  bel : Below wC.heap.size wC wr
theorem Mn.below {wC wr w1 : World} {N : Nat} {s : ByteArray} (h : Mn wC wr N s) (hb : Below wr.heap.size wr w1) : Mn wC w1 N s :=
  ⟨h.size, h.row.below hb, h.bel.trans (hb.mono h.bel.size)⟩
theorem Mn.bytes {wC wr : World} {N : Nat} {s : ByteArray} (h : Mn wC wr N s) : IsBytes wr (some ⟨wC.heap.size, 0, none⟩) s := by
  obtain ⟨e, h1, _⟩ := h
  subst e
  exact h1.bytes
theorem Mn.scan {wC wr : World} {N : Nat} {s : ByteArray} (h : Mn wC wr N s) :
    Calls Try.prog 5 #[.slice (some ⟨wC.heap.size, 0, none⟩) N (N + 67)] wr fun e w' => (∃ bo bc, e = .returned (.tuple #[.slice bo (tsOf (full s)).length bc, .agg #[.int .i64 (erOf (full s) : Nat), .int .i64 (atOf (full s) : Nat)]]) ∧ TokRow w' wr.heap.size (.slice bo (tsOf (full s)).length bc) (tsOf (full s))) ∧ Below wr.heap.size wr w' :=
  scan_at _ s N _ wr h.size.symm h.bytes (by have := h.size; omega)
theorem Mn.lend {wC wr : World} {N : Nat} {s : ByteArray} (h : Mn wC wr N s) (hN : N ≤ 140737488351232) :
    Calls Try.prog 6 #[.slice (some ⟨wC.heap.size, 0, none⟩) N (N + 67)] wr fun e w' => e = .returned (.slice (some ⟨wr.heap.size, 0, none⟩) N (N + 67)) ∧ Mn wr w' N s := by
  have hb := h.bytes
  obtain ⟨e, _, _⟩ := h
  subst e
  exact (lend_any _ s _ wr hb hN).mono fun _ _ ⟨e1, h1, h2⟩ => ⟨e1, rfl, h1, h2⟩
theorem Mn.store {wC wr : World} {N k : Nat} {s : ByteArray} (h : Mn wC wr N s) (hk : k < N) (b : UInt8) : ∃ s', Mn wC (wr.setCell ⟨wC.heap.size, k, none⟩ (.int .u8 (b.toNat : Int))) N s' := by
  obtain ⟨s', e1, e2⟩ := lent_set s k (by rw [h.size]; exact hk) b
  refine ⟨s', e1.trans h.size, (h.row.set k _).ext fun i _ => (e2 i).symm, ?_⟩
  have hb := h.bel
  refine ⟨hb.os, hb.tape, hb.output, by simp [World.setCell]; exact hb.size, fun j hj => ?_⟩
  rw [← hb.block j hj]
  simp only [World.setCell]
  rw [Array.getElem?_modify, if_neg (by omega)]
end Go.Proofs.Ytflcplnmeimbcab.Lx
