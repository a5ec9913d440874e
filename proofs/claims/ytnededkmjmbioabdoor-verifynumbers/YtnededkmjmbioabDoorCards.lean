/-
  DERIVED. GIVEN WITH THE SEED: THE CARDS: each row of YtnededkmjmbioabDoorRows.lean that lists a variable, with what it lists TIED to the program's text (the seventh form; the later family's looks); each row that meets fmt, with fmt's text TOLD by the authors' own Lean function (tested against real Go, not proved from fmt's source: count such statements apart). THE CARD IS WHAT COUNTS. Prove the row's statement (the work); the ties are given (YtnededkmjmbioabDoorTie.lean); close each card by the builder's one call (the guide's Derived/Test/ToyasCard.lean, 'card_holds'). Laid BY PROGRAM, IN A SANDBOX (cutbox-door.mjs). By AI agents, Wed Nov 11 2026. No macro, syntax, notation, axiom, sorry.
-/
import Derived.Test.YtnededkmjmbioabDoorRows
import GoSem.ClaimSeven
namespace Go.Proofs.YtnededkmjmbioabDoor
namespace Rows

/-- THE TIED CARD OF 'winnowlaw16.VerifyNumbers'. -/
def verifyNumbersCard : Claim7 := { stood := { row := verifyNumbersRow, standIns := [], harness := (true, "b5fac2b118638ebb96b03f987d41006ddbdeb9e9841859a31916b71623999f22"), looks := false }, kinds := [], alts := [], laidByText := true, laidKinds := [.data], laidTests := true, laidLooks := .later }
def VerifyNumbersCardSaid : Prop := Claim7.holds Tryd.pinned (.plain (OpenSpec.ofChange verifyNumbersSpec)) verifyNumbersCard

/-- THE TIED CARD OF 'winnowlaw16.VerifyRounds'. -/
def verifyRoundsCard : Claim7 := { stood := { row := verifyRoundsRow, standIns := [], harness := (true, "b5fac2b118638ebb96b03f987d41006ddbdeb9e9841859a31916b71623999f22"), looks := false }, kinds := [], alts := [], laidByText := true, laidKinds := [.data], laidTests := true, laidLooks := .later }
def VerifyRoundsCardSaid : Prop := Claim7.holds Tryd.pinned (.plain (OpenSpec.ofChange verifyRoundsSpec)) verifyRoundsCard

/-- THE TIED CARD OF 'winnowlaw16.VerifyOwn'. -/
def verifyOwnCard : Claim7 := { stood := { row := verifyOwnRow, standIns := [], harness := (true, "b5fac2b118638ebb96b03f987d41006ddbdeb9e9841859a31916b71623999f22"), looks := false }, kinds := [], alts := [], laidByText := true, laidKinds := [.data], laidTests := true, laidLooks := .later }
def VerifyOwnCardSaid : Prop := Claim7.holds Tryd.pinned (.plain (OpenSpec.ofChange verifyOwnSpec)) verifyOwnCard

/-- THE SECOND FORM's CARD OF 'winnowlaw16.VerifyNumbers'. -/
def verifyNumbersUptoCard : Claim7 := { stood := { row := verifyNumbersUptoRow, standIns := [], harness := (true, "b5fac2b118638ebb96b03f987d41006ddbdeb9e9841859a31916b71623999f22"), looks := false }, kinds := [], alts := [], laidByText := true, laidKinds := [.data], laidTests := true, laidLooks := .later }
def VerifyNumbersUptoCardSaid : Prop := Claim7.holds Tryd.pinned (.plain (OpenSpec.upto verifyNumbersSpec)) verifyNumbersUptoCard

/-- THE SECOND FORM's CARD OF 'winnowlaw16.VerifyRounds'. -/
def verifyRoundsUptoCard : Claim7 := { stood := { row := verifyRoundsUptoRow, standIns := [], harness := (true, "b5fac2b118638ebb96b03f987d41006ddbdeb9e9841859a31916b71623999f22"), looks := false }, kinds := [], alts := [], laidByText := true, laidKinds := [.data], laidTests := true, laidLooks := .later }
def VerifyRoundsUptoCardSaid : Prop := Claim7.holds Tryd.pinned (.plain (OpenSpec.upto verifyRoundsSpec)) verifyRoundsUptoCard

/-- THE SECOND FORM's CARD OF 'winnowlaw16.VerifyOwn'. -/
def verifyOwnUptoCard : Claim7 := { stood := { row := verifyOwnUptoRow, standIns := [], harness := (true, "b5fac2b118638ebb96b03f987d41006ddbdeb9e9841859a31916b71623999f22"), looks := false }, kinds := [], alts := [], laidByText := true, laidKinds := [.data], laidTests := true, laidLooks := .later }
def VerifyOwnUptoCardSaid : Prop := Claim7.holds Tryd.pinned (.plain (OpenSpec.upto verifyOwnSpec)) verifyOwnUptoCard
end Rows
end Go.Proofs.YtnededkmjmbioabDoor
