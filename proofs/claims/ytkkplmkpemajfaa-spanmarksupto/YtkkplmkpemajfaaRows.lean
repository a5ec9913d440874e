/-
  No cell of these rows narrows 'for every input' (looked for: loops, veiled, ifaces, maps, wideKeys, modest, calm, conditions, laid).
  DERIVED. THE GIVEN ROWS OF THIS SEAT. 5 by the template 'for every input the law returns true; each argument reads behind the call as it read before'; 0 by the template 'total and deterministic' (their statements: YtkkplmkpemajfaaTotals.lean).
  GIVEN WITH THE SEED: the statements are not yours to turn. If you find one false, say at which input.
  Laid BY PROGRAM, IN A SANDBOX (cutbox-rows.mjs): the forced cells as the released guide's own fill.sh prints them over the translation 51976afb20ba11e5… (all of the seat's roots in one cut). By AI agents, Wed Nov 11 2026. No macro, syntax, notation, axiom, sorry.
-/
import Derived.Test.YtkkplmkpemajfaaChecked
import GoSem.Claim
import GoSem.ClaimJoined
import GoSem.ClaimMapViews
import Derived.JoinedTies
import Derived.KernelRfl
namespace Go.Proofs.Ytkkplmkpemajfaa
/- THE CELL 'sum', in the pinned program and in every row, IS THE sha256 OF THE DUMP (.gsa) THAT YtkkplmkpemajfaaProg.lean LOADS. Nothing in Lean hashes anything: it is a label: what it is worth is what the hold of that sum in a sandbox is worth. -/
noncomputable def Try.pinned : Pinned := { name := "ytkkplmkpemajfaa", sum := "51976afb20ba11e522592eded1f2ee8824ca6bee5a44d7afec2827d088847a3d", checked := Try.checked }
namespace Rows
def none {H : Type} : Left H := { results := [], args := [] }

/-- 'winnowlaw1.SpanNames': WHATEVER THE INPUT: true; the input reads as it did. -/
def spanNamesSpec : ChangeSpec := { name := "spanNames", fn := fun _ => fun
  | [] => { results := [.lit (.bool true)], args := [] }
  | _ => none }
def spanNamesRow : OpenClaim := { program := "ytkkplmkpemajfaa", sum := "51976afb20ba11e522592eded1f2ee8824ca6bee5a44d7afec2827d088847a3d", func := "winnow/winnowlaw1.SpanNames", spec := "spanNames", apart := false }
def SpanNamesSaid : Prop := spanNamesRow.holds Try.pinned (OpenSpec.ofChange spanNamesSpec)

/-- ITS FALSE NEIGHBOUR: 'it returns false'. Refute it at one input. -/
def spanNamesWrong : ChangeSpec := { name := "spanNames", fn := fun _ => fun
  | [] => { results := [.lit (.bool false)], args := [] }
  | _ => none }
def SpanNamesWrongFalsely : Prop := spanNamesRow.holds Try.pinned (OpenSpec.ofChange spanNamesWrong)

/-- 'winnowlaw1.SpanLines': WHATEVER THE INPUT: true; the input reads as it did. -/
def spanLinesSpec : ChangeSpec := { name := "spanLines", fn := fun _ => fun
  | [d1, d2] => { results := [.lit (.bool true)], args := [d1, d2] }
  | _ => none }
def spanLinesRow : OpenClaim := { program := "ytkkplmkpemajfaa", sum := "51976afb20ba11e522592eded1f2ee8824ca6bee5a44d7afec2827d088847a3d", func := "winnow/winnowlaw1.SpanLines", spec := "spanLines", apart := false }
def SpanLinesSaid : Prop := spanLinesRow.holds Try.pinned (OpenSpec.ofChange spanLinesSpec)

/-- ITS FALSE NEIGHBOUR: 'it returns false'. Refute it at one input. -/
def spanLinesWrong : ChangeSpec := { name := "spanLines", fn := fun _ => fun
  | [d1, d2] => { results := [.lit (.bool false)], args := [d1, d2] }
  | _ => none }
def SpanLinesWrongFalsely : Prop := spanLinesRow.holds Try.pinned (OpenSpec.ofChange spanLinesWrong)

/-- 'winnowlaw1.SpanSpots': WHATEVER THE INPUT: true; the input reads as it did. -/
def spanSpotsSpec : ChangeSpec := { name := "spanSpots", fn := fun _ => fun
  | [d1, d2] => { results := [.lit (.bool true)], args := [d1, d2] }
  | _ => none }
def spanSpotsRow : OpenClaim := { program := "ytkkplmkpemajfaa", sum := "51976afb20ba11e522592eded1f2ee8824ca6bee5a44d7afec2827d088847a3d", func := "winnow/winnowlaw1.SpanSpots", spec := "spanSpots", apart := false }
def SpanSpotsSaid : Prop := spanSpotsRow.holds Try.pinned (OpenSpec.ofChange spanSpotsSpec)

/-- ITS FALSE NEIGHBOUR: 'it returns false'. Refute it at one input. -/
def spanSpotsWrong : ChangeSpec := { name := "spanSpots", fn := fun _ => fun
  | [d1, d2] => { results := [.lit (.bool false)], args := [d1, d2] }
  | _ => none }
def SpanSpotsWrongFalsely : Prop := spanSpotsRow.holds Try.pinned (OpenSpec.ofChange spanSpotsWrong)

/-- 'winnowlaw1.SpanPlaces': WHATEVER THE INPUT: true; the input reads as it did. -/
def spanPlacesSpec : ChangeSpec := { name := "spanPlaces", fn := fun _ => fun
  | [d1, d2] => { results := [.lit (.bool true)], args := [d1, d2] }
  | _ => none }
def spanPlacesRow : OpenClaim := { program := "ytkkplmkpemajfaa", sum := "51976afb20ba11e522592eded1f2ee8824ca6bee5a44d7afec2827d088847a3d", func := "winnow/winnowlaw1.SpanPlaces", spec := "spanPlaces", apart := false }
def SpanPlacesSaid : Prop := spanPlacesRow.holds Try.pinned (OpenSpec.ofChange spanPlacesSpec)

/-- ITS FALSE NEIGHBOUR: 'it returns false'. Refute it at one input. -/
def spanPlacesWrong : ChangeSpec := { name := "spanPlaces", fn := fun _ => fun
  | [d1, d2] => { results := [.lit (.bool false)], args := [d1, d2] }
  | _ => none }
def SpanPlacesWrongFalsely : Prop := spanPlacesRow.holds Try.pinned (OpenSpec.ofChange spanPlacesWrong)

/-- 'winnowlaw1.SpanMarks': WHATEVER THE INPUT: true; the input reads as it did. -/
def spanMarksSpec : ChangeSpec := { name := "spanMarks", fn := fun _ => fun
  | [d1, d2] => { results := [.lit (.bool true)], args := [d1, d2] }
  | _ => none }
def spanMarksRow : OpenClaim := { program := "ytkkplmkpemajfaa", sum := "51976afb20ba11e522592eded1f2ee8824ca6bee5a44d7afec2827d088847a3d", func := "winnow/winnowlaw1.SpanMarks", spec := "spanMarks", inPlace := ["internal/abi.NoEscape"], apart := false }
def SpanMarksSaid : Prop := spanMarksRow.holds Try.pinned (OpenSpec.ofChange spanMarksSpec)

/-- ITS FALSE NEIGHBOUR: 'it returns false'. Refute it at one input. -/
def spanMarksWrong : ChangeSpec := { name := "spanMarks", fn := fun _ => fun
  | [d1, d2] => { results := [.lit (.bool false)], args := [d1, d2] }
  | _ => none }
def SpanMarksWrongFalsely : Prop := spanMarksRow.holds Try.pinned (OpenSpec.ofChange spanMarksWrong)

/- THE SECOND FORM. 'bulk': how many values and letters a reading holds, each counted each time it is reached (what is shared counts as often as it is met; a slice's spare places count too). A statement '..UptoSaid' is the law's where the arguments, and the package variables that the reading takes, are together of bulk at most 1048576: NARROWER than '..Said'. Prove '..Said' where nothing that the law and all that it calls make is longer than what came in: it says more and counts as full. Else prove '..UptoSaid'. A law counts once. -/
mutual
def uptoBulk {H : Type} : DataW H → Nat
  | .lit (.string bytes) => bytes.length + 1
  | .lit _ => 1
  | .nil => 1
  | .ptr d => uptoBulk d + 1
  | .slice elems spare => uptoBulkAll elems + uptoBulkAll spare + 1
  | .agg parts => uptoBulkAll parts + 1
  | .iface _ d => uptoBulk d + 1
  | .map entries => uptoBulkEntries entries + 1
  | .held _ => 1
def uptoBulkAll {H : Type} : List (DataW H) → Nat
  | [] => 0
  | d :: r => uptoBulk d + uptoBulkAll r
def uptoBulkEntries {H : Type} : List (Lit × DataW H) → Nat
  | [] => 0
  | x :: r => uptoBulkEntry x + uptoBulkEntries r
def uptoBulkEntry {H : Type} : Lit × DataW H → Nat
  | (.string bytes, d) => bytes.length + uptoBulk d + 1
  | (_, d) => uptoBulk d + 1
 end
def uptoSmall : (H : Type) → List (DataW H) → Bool := fun _ ds => decide (uptoBulkAll ds ≤ 1048576)
def OpenSpec.upto (s : _root_.Go.ChangeSpec) : _root_.Go.OpenSpec := { _root_.Go.OpenSpec.ofChange s with cond := some uptoSmall }

/-- 'winnowlaw1.SpanNames', WHERE WHAT IT READS IS OF BULK AT MOST 1048576: true; the input reads as it did. -/
def spanNamesUptoRow : OpenClaim := { program := "ytkkplmkpemajfaa", sum := "51976afb20ba11e522592eded1f2ee8824ca6bee5a44d7afec2827d088847a3d", func := "winnow/winnowlaw1.SpanNames", spec := "spanNames", apart := false, narrowed := true }
def SpanNamesUptoSaid : Prop := spanNamesUptoRow.holds Try.pinned (OpenSpec.upto spanNamesSpec)

/-- 'winnowlaw1.SpanLines', WHERE WHAT IT READS IS OF BULK AT MOST 1048576: true; the input reads as it did. -/
def spanLinesUptoRow : OpenClaim := { program := "ytkkplmkpemajfaa", sum := "51976afb20ba11e522592eded1f2ee8824ca6bee5a44d7afec2827d088847a3d", func := "winnow/winnowlaw1.SpanLines", spec := "spanLines", apart := false, narrowed := true }
def SpanLinesUptoSaid : Prop := spanLinesUptoRow.holds Try.pinned (OpenSpec.upto spanLinesSpec)

/-- 'winnowlaw1.SpanSpots', WHERE WHAT IT READS IS OF BULK AT MOST 1048576: true; the input reads as it did. -/
def spanSpotsUptoRow : OpenClaim := { program := "ytkkplmkpemajfaa", sum := "51976afb20ba11e522592eded1f2ee8824ca6bee5a44d7afec2827d088847a3d", func := "winnow/winnowlaw1.SpanSpots", spec := "spanSpots", apart := false, narrowed := true }
def SpanSpotsUptoSaid : Prop := spanSpotsUptoRow.holds Try.pinned (OpenSpec.upto spanSpotsSpec)

/-- 'winnowlaw1.SpanPlaces', WHERE WHAT IT READS IS OF BULK AT MOST 1048576: true; the input reads as it did. -/
def spanPlacesUptoRow : OpenClaim := { program := "ytkkplmkpemajfaa", sum := "51976afb20ba11e522592eded1f2ee8824ca6bee5a44d7afec2827d088847a3d", func := "winnow/winnowlaw1.SpanPlaces", spec := "spanPlaces", apart := false, narrowed := true }
def SpanPlacesUptoSaid : Prop := spanPlacesUptoRow.holds Try.pinned (OpenSpec.upto spanPlacesSpec)

/-- 'winnowlaw1.SpanMarks', WHERE WHAT IT READS IS OF BULK AT MOST 1048576: true; the input reads as it did. -/
def spanMarksUptoRow : OpenClaim := { program := "ytkkplmkpemajfaa", sum := "51976afb20ba11e522592eded1f2ee8824ca6bee5a44d7afec2827d088847a3d", func := "winnow/winnowlaw1.SpanMarks", spec := "spanMarks", inPlace := ["internal/abi.NoEscape"], apart := false, narrowed := true }
def SpanMarksUptoSaid : Prop := spanMarksUptoRow.holds Try.pinned (OpenSpec.upto spanMarksSpec)

end Rows
end Go.Proofs.Ytkkplmkpemajfaa
