/-
  DERIVED. GIVEN WITH THE SEED: THE CARDS: each row of YtnededkmjmbioaaDoorRows.lean that lists a variable, with what it lists TIED to the program's text (the seventh form; the later family's looks); each row that meets fmt, with fmt's text TOLD by the authors' own Lean function (tested against real Go, not proved from fmt's source: count such statements apart). THE CARD IS WHAT COUNTS. Prove the row's statement (the work); the ties are given (YtnededkmjmbioaaDoorTie.lean); close each card by the builder's one call (the guide's Derived/Test/ToyasCard.lean, 'card_holds'). Laid BY PROGRAM, IN A SANDBOX (cutbox-door.mjs). By AI agents, Wed Nov 11 2026. No macro, syntax, notation, axiom, sorry.
-/
import Derived.Test.YtnededkmjmbioaaDoorRows
import GoSem.ClaimSeven
namespace Go.Proofs.YtnededkmjmbioaaDoor
namespace Rows

/-- THE TIED CARD OF 'winnowlaw16.VerifyNames'. -/
def verifyNamesCard : Claim7 := { stood := { row := verifyNamesRow, standIns := [], harness := (true, "f42b10a075f59145f6ebe91c1943486a5e84430988ae0178a3bf0fb1dd3216ac"), looks := false }, kinds := [], alts := [], laidByText := true, laidKinds := [.data], laidTests := true, laidLooks := .later }
def VerifyNamesCardSaid : Prop := Claim7.holds Tryd.pinned (.plain (OpenSpec.ofChange verifyNamesSpec)) verifyNamesCard

/-- THE TIED CARD OF 'winnowlaw16.VerifyRuns'. -/
def verifyRunsCard : Claim7 := { stood := { row := verifyRunsRow, standIns := [], harness := (true, "f42b10a075f59145f6ebe91c1943486a5e84430988ae0178a3bf0fb1dd3216ac"), looks := false }, kinds := [], alts := [], laidByText := true, laidKinds := [.data], laidTests := true, laidLooks := .later }
def VerifyRunsCardSaid : Prop := Claim7.holds Tryd.pinned (.plain (OpenSpec.ofChange verifyRunsSpec)) verifyRunsCard

/-- THE TIED CARD OF 'winnowlaw16.VerifyHeights'. -/
def verifyHeightsCard : Claim7 := { stood := { row := verifyHeightsRow, standIns := [], harness := (true, "f42b10a075f59145f6ebe91c1943486a5e84430988ae0178a3bf0fb1dd3216ac"), looks := false }, kinds := [], alts := [], laidByText := true, laidKinds := [.data], laidTests := true, laidLooks := .later }
def VerifyHeightsCardSaid : Prop := Claim7.holds Tryd.pinned (.plain (OpenSpec.ofChange verifyHeightsSpec)) verifyHeightsCard

/-- THE TIED CARD OF 'winnowlaw16.VerifyNests'. -/
def verifyNestsCard : Claim7 := { stood := { row := verifyNestsRow, standIns := [], harness := (true, "f42b10a075f59145f6ebe91c1943486a5e84430988ae0178a3bf0fb1dd3216ac"), looks := false }, kinds := [], alts := [], laidByText := true, laidKinds := [.data], laidTests := true, laidLooks := .later }
def VerifyNestsCardSaid : Prop := Claim7.holds Tryd.pinned (.plain (OpenSpec.ofChange verifyNestsSpec)) verifyNestsCard

/-- THE TIED CARD OF 'winnowlaw16.VerifyStacks'. -/
def verifyStacksCard : Claim7 := { stood := { row := verifyStacksRow, standIns := [], harness := (true, "f42b10a075f59145f6ebe91c1943486a5e84430988ae0178a3bf0fb1dd3216ac"), looks := false }, kinds := [], alts := [], laidByText := true, laidKinds := [.data], laidTests := true, laidLooks := .later }
def VerifyStacksCardSaid : Prop := Claim7.holds Tryd.pinned (.plain (OpenSpec.ofChange verifyStacksSpec)) verifyStacksCard

/-- THE SECOND FORM's CARD OF 'winnowlaw16.VerifyNames'. -/
def verifyNamesUptoCard : Claim7 := { stood := { row := verifyNamesUptoRow, standIns := [], harness := (true, "f42b10a075f59145f6ebe91c1943486a5e84430988ae0178a3bf0fb1dd3216ac"), looks := false }, kinds := [], alts := [], laidByText := true, laidKinds := [.data], laidTests := true, laidLooks := .later }
def VerifyNamesUptoCardSaid : Prop := Claim7.holds Tryd.pinned (.plain (OpenSpec.upto verifyNamesSpec)) verifyNamesUptoCard

/-- THE SECOND FORM's CARD OF 'winnowlaw16.VerifyRuns'. -/
def verifyRunsUptoCard : Claim7 := { stood := { row := verifyRunsUptoRow, standIns := [], harness := (true, "f42b10a075f59145f6ebe91c1943486a5e84430988ae0178a3bf0fb1dd3216ac"), looks := false }, kinds := [], alts := [], laidByText := true, laidKinds := [.data], laidTests := true, laidLooks := .later }
def VerifyRunsUptoCardSaid : Prop := Claim7.holds Tryd.pinned (.plain (OpenSpec.upto verifyRunsSpec)) verifyRunsUptoCard

/-- THE SECOND FORM's CARD OF 'winnowlaw16.VerifyHeights'. -/
def verifyHeightsUptoCard : Claim7 := { stood := { row := verifyHeightsUptoRow, standIns := [], harness := (true, "f42b10a075f59145f6ebe91c1943486a5e84430988ae0178a3bf0fb1dd3216ac"), looks := false }, kinds := [], alts := [], laidByText := true, laidKinds := [.data], laidTests := true, laidLooks := .later }
def VerifyHeightsUptoCardSaid : Prop := Claim7.holds Tryd.pinned (.plain (OpenSpec.upto verifyHeightsSpec)) verifyHeightsUptoCard

/-- THE SECOND FORM's CARD OF 'winnowlaw16.VerifyNests'. -/
def verifyNestsUptoCard : Claim7 := { stood := { row := verifyNestsUptoRow, standIns := [], harness := (true, "f42b10a075f59145f6ebe91c1943486a5e84430988ae0178a3bf0fb1dd3216ac"), looks := false }, kinds := [], alts := [], laidByText := true, laidKinds := [.data], laidTests := true, laidLooks := .later }
def VerifyNestsUptoCardSaid : Prop := Claim7.holds Tryd.pinned (.plain (OpenSpec.upto verifyNestsSpec)) verifyNestsUptoCard

/-- THE SECOND FORM's CARD OF 'winnowlaw16.VerifyStacks'. -/
def verifyStacksUptoCard : Claim7 := { stood := { row := verifyStacksUptoRow, standIns := [], harness := (true, "f42b10a075f59145f6ebe91c1943486a5e84430988ae0178a3bf0fb1dd3216ac"), looks := false }, kinds := [], alts := [], laidByText := true, laidKinds := [.data], laidTests := true, laidLooks := .later }
def VerifyStacksUptoCardSaid : Prop := Claim7.holds Tryd.pinned (.plain (OpenSpec.upto verifyStacksSpec)) verifyStacksUptoCard
end Rows
end Go.Proofs.YtnededkmjmbioaaDoor
