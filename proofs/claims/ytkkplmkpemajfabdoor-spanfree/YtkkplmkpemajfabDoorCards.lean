/-
  DERIVED. GIVEN WITH THE SEED: THE CARDS: each row of YtkkplmkpemajfabDoorRows.lean that lists a variable, with what it lists TIED to the program's text (the seventh form; the later family's looks); each row that meets fmt, with fmt's text TOLD by the authors' own Lean function (tested against real Go, not proved from fmt's source: count such statements apart). THE CARD IS WHAT COUNTS. Prove the row's statement (the work); the ties are given (YtkkplmkpemajfabDoorTie.lean); close each card by the builder's one call (the guide's Derived/Test/ToyasCard.lean, 'card_holds'). Laid BY PROGRAM, IN A SANDBOX (cutbox-door.mjs). By AI agents, Wed Nov 11 2026. No macro, syntax, notation, axiom, sorry.
-/
import Derived.Test.YtkkplmkpemajfabDoorRows
import GoSem.ClaimSeven
namespace Go.Proofs.YtkkplmkpemajfabDoor
namespace Rows

/-- THE TIED CARD OF 'winnowlaw1.SpanFree'. -/
def spanFreeCard : Claim7 := { stood := { row := spanFreeRow, standIns := [], harness := (true, "c5c3b3865c0d7e7b26c0739c6786cd3f8ed1f9c1e87804a24aef23acc90193d4"), looks := true }, kinds := [], alts := [], laidByText := true, laidKinds := [.data, .data, .data], laidTests := true, laidLooks := .later }
def SpanFreeCardSaid : Prop := Claim7.holds Tryd.pinned (.plain (OpenSpec.ofChange spanFreeSpec)) spanFreeCard

/-- THE TIED CARD OF 'winnowlaw1.SpanOwn'. -/
def spanOwnCard : Claim7 := { stood := { row := spanOwnRow, standIns := [], harness := (true, "c5c3b3865c0d7e7b26c0739c6786cd3f8ed1f9c1e87804a24aef23acc90193d4"), looks := true }, kinds := [], alts := [], laidByText := true, laidKinds := [.handle], laidTests := true, laidLooks := .later }
def SpanOwnCardSaid : Prop := Claim7.holds Tryd.pinned (.plain (OpenSpec.ofChange spanOwnSpec)) spanOwnCard

/-- THE SECOND FORM's CARD OF 'winnowlaw1.SpanFree'. -/
def spanFreeUptoCard : Claim7 := { stood := { row := spanFreeUptoRow, standIns := [], harness := (true, "c5c3b3865c0d7e7b26c0739c6786cd3f8ed1f9c1e87804a24aef23acc90193d4"), looks := true }, kinds := [], alts := [], laidByText := true, laidKinds := [.data, .data, .data], laidTests := true, laidLooks := .later }
def SpanFreeUptoCardSaid : Prop := Claim7.holds Tryd.pinned (.plain (OpenSpec.upto spanFreeSpec)) spanFreeUptoCard

/-- THE SECOND FORM's CARD OF 'winnowlaw1.SpanOwn'. -/
def spanOwnUptoCard : Claim7 := { stood := { row := spanOwnUptoRow, standIns := [], harness := (true, "c5c3b3865c0d7e7b26c0739c6786cd3f8ed1f9c1e87804a24aef23acc90193d4"), looks := true }, kinds := [], alts := [], laidByText := true, laidKinds := [.handle], laidTests := true, laidLooks := .later }
def SpanOwnUptoCardSaid : Prop := Claim7.holds Tryd.pinned (.plain (OpenSpec.upto spanOwnSpec)) spanOwnUptoCard
end Rows
end Go.Proofs.YtkkplmkpemajfabDoor
