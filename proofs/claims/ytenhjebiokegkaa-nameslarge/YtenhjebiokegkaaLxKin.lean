import Derived.Test.YtenhjebiokegkaaLxBase
namespace Go.Proofs.Ytenhjebiokegkaa.Lx
open Go.RowKit Go.Proofs.Ytenhjebiokegkaa.Sp

/-- a world in which all that was is as it was -/
structure Kin (w : World) where
  u : World
  ok : Below w.heap.size w u
theorem Kin.there (w : World) : Nonempty (Kin w) := ⟨⟨w, Below.refl _ _⟩⟩
/-- a region that draws its order: its own operations only read; callees may make memory -/
theorem wp_region_kin {P : Program} {id : Nat} {Q : Exit → Act → World → Prop} {a : Act} {w : World} {l : List Oper} (hm : P.follows .mixedOrders = true) (hB : Region.lexB .any l.toArray = true)
    (h : wpQuiet P l.toArray (fun w' => ∃ y : Kin w, w' = y.u) (fun a' => ∀ w', (∃ y : Kin w, w' = y.u) → Q .normal a' w') l a) : (Code.region id l.toArray true).wp P Q a w :=
  wp_region_quiet (C := fun w' => ∃ y : Kin w, w' = y.u) hm hB ⟨⟨w.drew, (Below.refl _ _).drew⟩, rfl⟩ (by simpa using h)
theorem kin_of {P : Program} {f : FuncId} {args : Array Value} {w : World} {y : Kin w} {v : Value} (h : Calls P f args y.u fun e w' => e = .returned v ∧ Below y.u.heap.size y.u w') :
    Calls P f args y.u fun e w'' => e = .returned v ∧ ∃ y' : Kin w, w'' = y'.u :=
  h.mono fun _ w' ⟨he, hb⟩ => ⟨he, ⟨w', y.ok.trans (hb.mono y.ok.size)⟩, rfl⟩
theorem kin_same {P : Program} {f : FuncId} {args : Array Value} {w : World} {y : Kin w} {v : Value} (h : Calls P f args y.u fun e w' => e = .returned v ∧ w' = y.u) :
    Calls P f args y.u fun e w'' => e = .returned v ∧ ∃ y' : Kin w, w'' = y'.u :=
  h.mono fun _ _ ⟨he, hw⟩ => ⟨he, y, hw⟩
theorem Kin.cell {w : World} (y : Kin w) {a : Addr} (h : a.block < w.heap.size) {v : Value} (hc : w.cell? a = some v) : y.u.cell? a = some v := (y.ok.cell h).trans hc
end Go.Proofs.Ytenhjebiokegkaa.Lx
