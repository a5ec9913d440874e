import Derived.Test.YtoeioppmlnognaaArAt
import Derived.Deep.CutBlock
namespace Go.Proofs.Ytoeioppmlnognaa.Ar
open Go.RowKit

theorem if_same {p q : Prop} [Decidable p] [Decidable q] {a b : Int} (h : p ↔ q) : (if p then a else b) = (if q then a else b) := by
  by_cases hp : p
  · rw [if_pos hp, if_pos (h.1 hp)]
  · rw [if_neg hp, if_neg (fun hq => hp (h.2 hq))]
/-- an arena at work: since w0 only its own blocks have turned -/
def MF (w0 w : World) (g : Nat) (o : Lo) (c : Cs) (size nl used free : Nat) (freed : Int) : Prop := Mem w g o c size nl used free freed ∧ Fr (o.foot g nl) w0 w

section
variable {w0 w : World} {g : Nat} {o : Lo} {c : Cs} {size nl used free : Nat} {freed : Int} (h : MF w0 w g o c size nl used free freed)
include h
theorem MF.drewN (n : Nat) : MF w0 (w.drewN n) g o c size nl used free freed := ⟨h.1.drewN n, h.2.trans (F' := []) (Fr.of_below (below_drewN w n)) (by simp)⟩
theorem MF.below {w' : World} (hb : Below w.heap.size w w') : MF w0 w' g o c size nl used free freed := ⟨h.1.below hb, h.2.trans (F' := []) (Fr.of_below hb) (by simp)⟩
theorem MF.putA (j : Nat) (v : Value) {free' : Nat} {freed' : Int} (hc : (ablk o size nl used free freed).setIfInBounds j v = ablk o size nl used free' freed') : MF w0 (w.setCell ⟨g, j, none⟩ v) g o c size nl used free' freed' :=
  ⟨h.1.putA j v hc, h.2.trans (Fr.set w j v (F := o.foot g nl) (by simp [Lo.foot])) (fun _ hx => Or.inl hx)⟩
theorem MF.putFree (n : Nat) : MF w0 (w.setCell ⟨g, 4, none⟩ (I n)) g o c size nl used n freed := h.putA 4 _ rfl
theorem MF.putFreed (n : Int) : MF w0 (w.setCell ⟨g, 5, none⟩ (I n)) g o c size nl used free n := h.putA 5 _ rfl
theorem MF.putLa0 {i : Nat} (hi : i < nl) (v : Int) : MF w0 (w.setCell ⟨o.lb, i * 3, none⟩ (I v)) g o { c with la := up2 c.la i 0 v } size nl used free freed := by
  refine ⟨h.1.putL (f := 0) hi v _ rfl rfl rfl fun j _ => ⟨?_, ?_, ?_⟩, h.2.trans (Fr.set w _ _ (F := o.foot g nl) (by simp [Lo.foot, show 0 < nl by omega])) (fun _ hx => Or.inl hx)⟩
  · exact if_same (by omega)
  · exact if_same (by omega)
  · rw [if_neg (by omega)]
theorem MF.putLa1 {i : Nat} (hi : i < nl) (v : Int) : MF w0 (w.setCell ⟨o.lb, i * 3 + 1, none⟩ (I v)) g o { c with la := up2 c.la i 1 v } size nl used free freed := by
  refine ⟨h.1.putL (f := 1) hi v _ rfl rfl rfl fun j _ => ⟨?_, ?_, ?_⟩, h.2.trans (Fr.set w _ _ (F := o.foot g nl) (by simp [Lo.foot, show 0 < nl by omega])) (fun _ hx => Or.inl hx)⟩
  · exact if_same (by omega)
  · exact if_same (by omega)
  · rw [if_neg (by omega)]
theorem MF.putCt {i : Nat} (hi : i < nl) (n : Nat) : MF w0 (w.setCell ⟨o.lb, i * 3 + 2, none⟩ (I n)) g o { c with ct := up c.ct i n } size nl used free freed := by
  refine ⟨h.1.putL (f := 2) hi n _ rfl rfl rfl fun j _ => ⟨?_, ?_, ?_⟩, h.2.trans (Fr.set w _ _ (F := o.foot g nl) (by simp [Lo.foot, show 0 < nl by omega])) (fun _ hx => Or.inl hx)⟩
  · rw [if_neg (by omega)]
  · rw [if_neg (by omega)]
  · show ((up c.ct i n j : Nat) : Int) = _
    unfold up
    by_cases hj : j = i
    · rw [if_pos hj, if_pos (by omega)]
    · rw [if_neg hj, if_neg (by omega)]
theorem MF.putB0 {x b : Nat} (hb : o.ps[x / 64]? = some b) (v : Int) : MF w0 (w.setCell ⟨b, x % 64 * 4, none⟩ (I v)) g o { c with bs := up2 c.bs x 0 v } size nl used free freed := by
  refine ⟨h.1.putS (f := 0) hb v _ rfl rfl (by omega) fun y => ⟨?_, ?_, ?_, ?_⟩, h.2.trans (Fr.set w _ _ (F := o.foot g nl) (by simp [Lo.foot, List.mem_of_getElem? hb])) (fun _ hx => Or.inl hx)⟩
  · exact if_same (by omega)
  · exact if_same (by omega)
  · rw [if_neg (by omega)]
  · rw [if_neg (by omega)]
theorem MF.putB1 {x b : Nat} (hb : o.ps[x / 64]? = some b) (v : Int) : MF w0 (w.setCell ⟨b, x % 64 * 4 + 1, none⟩ (I v)) g o { c with bs := up2 c.bs x 1 v } size nl used free freed := by
  refine ⟨h.1.putS (f := 1) hb v _ rfl rfl (by omega) fun y => ⟨?_, ?_, ?_, ?_⟩, h.2.trans (Fr.set w _ _ (F := o.foot g nl) (by simp [Lo.foot, List.mem_of_getElem? hb])) (fun _ hx => Or.inl hx)⟩
  · exact if_same (by omega)
  · exact if_same (by omega)
  · rw [if_neg (by omega)]
  · rw [if_neg (by omega)]
theorem MF.putLi {x b : Nat} (hb : o.ps[x / 64]? = some b) (v : Int) : MF w0 (w.setCell ⟨b, x % 64 * 4 + 2, none⟩ (I v)) g o { c with li := up c.li x v } size nl used free freed := by
  refine ⟨h.1.putS (f := 2) hb v _ rfl rfl (by omega) fun y => ⟨?_, ?_, ?_, ?_⟩, h.2.trans (Fr.set w _ _ (F := o.foot g nl) (by simp [Lo.foot, List.mem_of_getElem? hb])) (fun _ hx => Or.inl hx)⟩
  · rw [if_neg (by omega)]
  · rw [if_neg (by omega)]
  · show (if _ then _ else _) = _
    exact if_same (by omega)
  · rw [if_neg (by omega)]
theorem MF.putV {x b : Nat} (hb : o.ps[x / 64]? = some b) (v : Int) : MF w0 (w.setCell ⟨b, x % 64 * 4 + 3, none⟩ (I v)) g o { c with vl := up c.vl x v } size nl used free freed := by
  refine ⟨h.1.putS (f := 3) hb v _ rfl rfl (by omega) fun y => ⟨?_, ?_, ?_, ?_⟩, h.2.trans (Fr.set w _ _ (F := o.foot g nl) (by simp [Lo.foot, List.mem_of_getElem? hb])) (fun _ hx => Or.inl hx)⟩
  · rw [if_neg (by omega)]
  · rw [if_neg (by omega)]
  · rw [if_neg (by omega)]
  · show (if _ then _ else _) = _
    exact if_same (by omega)
end
end Go.Proofs.Ytoeioppmlnognaa.Ar
