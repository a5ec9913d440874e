/-
  DERIVED. GIVEN WITH THE SEED: THE CARDS: each row of YtelbakkgobkdaaaDoorRows.lean that lists a variable, with what it lists TIED to the program's text (the seventh form; the later family's looks); each row that meets fmt, with fmt's text TOLD by the authors' own Lean function (tested against real Go, not proved from fmt's source: count such statements apart). THE CARD IS WHAT COUNTS. Prove the row's statement (the work); the ties are given (YtelbakkgobkdaaaDoorTie.lean); close each card by the builder's one call (the guide's Derived/Test/ToyasCard.lean, 'card_holds'). Laid BY PROGRAM, IN A SANDBOX (cutbox-door.mjs). By AI agents, Wed Nov 11 2026. No macro, syntax, notation, axiom, sorry.
-/
import Derived.Test.YtelbakkgobkdaaaDoorRows
import GoSem.ClaimSeven
namespace Go.Proofs.YtelbakkgobkdaaaDoor
namespace Rows

/-- THE TIED CARD OF 'winnowlaw16.VerifyRuns'. -/
def verifyRunsCard : Claim7 := { stood := { row := verifyRunsRow, standIns := [], harness := (true, "b5976bafc0fd0b8411e0f6c826d078831ad861a2e0f06c2537a343fd67499a6e"), looks := false }, kinds := [], alts := [], laidByText := true, laidKinds := [.data], laidTests := true, laidLooks := .later }
def VerifyRunsCardSaid : Prop := Claim7.holds Tryd.pinned (.plain (OpenSpec.ofChange verifyRunsSpec)) verifyRunsCard

/-- THE TIED CARD OF 'winnowlaw16.VerifyHeights'. -/
def verifyHeightsCard : Claim7 := { stood := { row := verifyHeightsRow, standIns := [], harness := (true, "b5976bafc0fd0b8411e0f6c826d078831ad861a2e0f06c2537a343fd67499a6e"), looks := false }, kinds := [], alts := [], laidByText := true, laidKinds := [.data], laidTests := true, laidLooks := .later }
def VerifyHeightsCardSaid : Prop := Claim7.holds Tryd.pinned (.plain (OpenSpec.ofChange verifyHeightsSpec)) verifyHeightsCard

/-- THE TIED CARD OF 'winnowlaw16.VerifyOwn'. -/
def verifyOwnCard : Claim7 := { stood := { row := verifyOwnRow, standIns := [], harness := (true, "b5976bafc0fd0b8411e0f6c826d078831ad861a2e0f06c2537a343fd67499a6e"), looks := false }, kinds := [], alts := [], laidByText := true, laidKinds := [.data], laidTests := true, laidLooks := .later }
def VerifyOwnCardSaid : Prop := Claim7.holds Tryd.pinned (.plain (OpenSpec.ofChange verifyOwnSpec)) verifyOwnCard

/-- THE SECOND FORM's CARD OF 'winnowlaw16.VerifyRuns'. -/
def verifyRunsUptoCard : Claim7 := { stood := { row := verifyRunsUptoRow, standIns := [], harness := (true, "b5976bafc0fd0b8411e0f6c826d078831ad861a2e0f06c2537a343fd67499a6e"), looks := false }, kinds := [], alts := [], laidByText := true, laidKinds := [.data], laidTests := true, laidLooks := .later }
def VerifyRunsUptoCardSaid : Prop := Claim7.holds Tryd.pinned (.plain (OpenSpec.upto verifyRunsSpec)) verifyRunsUptoCard

/-- THE SECOND FORM's CARD OF 'winnowlaw16.VerifyHeights'. -/
def verifyHeightsUptoCard : Claim7 := { stood := { row := verifyHeightsUptoRow, standIns := [], harness := (true, "b5976bafc0fd0b8411e0f6c826d078831ad861a2e0f06c2537a343fd67499a6e"), looks := false }, kinds := [], alts := [], laidByText := true, laidKinds := [.data], laidTests := true, laidLooks := .later }
def VerifyHeightsUptoCardSaid : Prop := Claim7.holds Tryd.pinned (.plain (OpenSpec.upto verifyHeightsSpec)) verifyHeightsUptoCard

/-- THE SECOND FORM's CARD OF 'winnowlaw16.VerifyOwn'. -/
def verifyOwnUptoCard : Claim7 := { stood := { row := verifyOwnUptoRow, standIns := [], harness := (true, "b5976bafc0fd0b8411e0f6c826d078831ad861a2e0f06c2537a343fd67499a6e"), looks := false }, kinds := [], alts := [], laidByText := true, laidKinds := [.data], laidTests := true, laidLooks := .later }
def VerifyOwnUptoCardSaid : Prop := Claim7.holds Tryd.pinned (.plain (OpenSpec.upto verifyOwnSpec)) verifyOwnUptoCard
end Rows
end Go.Proofs.YtelbakkgobkdaaaDoor
