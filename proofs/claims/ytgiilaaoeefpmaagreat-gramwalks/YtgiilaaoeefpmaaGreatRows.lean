/-
  No cell of these rows narrows 'for every input' (looked for: loops, veiled, ifaces, maps, wideKeys, modest, calm, conditions, laid).
  DERIVED. THE GIVEN ROWS OF THIS SEAT. 2 by the template 'for every input the law returns true; each argument reads behind the call as it read before'; 0 by the template 'total and deterministic' (their statements: YtgiilaaoeefpmaaGreatTotals.lean).
  GIVEN WITH THE SEED: the statements are not yours to turn. If you find one false, say at which input.
  Laid BY PROGRAM, IN A SANDBOX (cutbox-rows.mjs): the forced cells as the released guide's own fill.sh prints them over the translation be298f794854605e… (all of the seat's roots in one cut). By AI agents, Wed Nov 11 2026. No macro, syntax, notation, axiom, sorry.
-/
import Derived.Test.YtgiilaaoeefpmaaGreatChecked
import GoSem.Claim
import GoSem.ClaimJoined
import GoSem.ClaimMapViews
import Derived.JoinedTies
import Derived.KernelRfl
namespace Go.Proofs.YtgiilaaoeefpmaaGreat
/- THE CELL 'sum', in the pinned program and in every row, IS THE sha256 OF THE DUMP (.gsa) THAT YtgiilaaoeefpmaaGreatProg.lean LOADS. Nothing in Lean hashes anything: it is a label: what it is worth is what the hold of that sum in a sandbox is worth. -/
noncomputable def Tryz.pinned : Pinned := { name := "ytgiilaaoeefpmaagreat", sum := "be298f794854605ef2bdf375fc836057b6cc0525eb27aa406ba032ff34e1d688", checked := Tryz.checked }
namespace Rows
def none {H : Type} : Left H := { results := [], args := [] }

/-- 'winnowlaw3.GramChecks': WHATEVER THE INPUT: true; the input reads as it did. -/
def gramChecksSpec : ChangeSpec := { name := "gramChecks", fn := fun _ => fun
  | [d] => { results := [.lit (.bool true)], args := [d] }
  | _ => none }
def gramChecksRow : OpenClaim := { program := "ytgiilaaoeefpmaagreat", sum := "be298f794854605ef2bdf375fc836057b6cc0525eb27aa406ba032ff34e1d688", func := "winnow/winnowlaw3.GramChecks", spec := "gramChecks", inPlace := ["slices.overlaps[winnow/api.Row]", "slices.overlaps[int]"], unfollowed := true, recurses := true, apart := false }
def GramChecksSaid : Prop := gramChecksRow.holds Tryz.pinned (OpenSpec.ofChange gramChecksSpec)

/-- ITS FALSE NEIGHBOUR: 'it returns false'. Refute it at one input. -/
def gramChecksWrong : ChangeSpec := { name := "gramChecks", fn := fun _ => fun
  | [d] => { results := [.lit (.bool false)], args := [d] }
  | _ => none }
def GramChecksWrongFalsely : Prop := gramChecksRow.holds Tryz.pinned (OpenSpec.ofChange gramChecksWrong)

/-- 'winnowlaw3.GramWalks': WHATEVER THE INPUT: true; the input reads as it did. -/
def gramWalksSpec : ChangeSpec := { name := "gramWalks", fn := fun _ => fun
  | [d1, d2] => { results := [.lit (.bool true)], args := [d1, d2] }
  | _ => none }
def gramWalksRow : OpenClaim := { program := "ytgiilaaoeefpmaagreat", sum := "be298f794854605ef2bdf375fc836057b6cc0525eb27aa406ba032ff34e1d688", func := "winnow/winnowlaw3.GramWalks", spec := "gramWalks", inPlace := ["slices.overlaps[winnow/api.Row]", "slices.overlaps[int]"], unfollowed := true, recurses := true, apart := false }
def GramWalksSaid : Prop := gramWalksRow.holds Tryz.pinned (OpenSpec.ofChange gramWalksSpec)

/-- ITS FALSE NEIGHBOUR: 'it returns false'. Refute it at one input. -/
def gramWalksWrong : ChangeSpec := { name := "gramWalks", fn := fun _ => fun
  | [d1, d2] => { results := [.lit (.bool false)], args := [d1, d2] }
  | _ => none }
def GramWalksWrongFalsely : Prop := gramWalksRow.holds Tryz.pinned (OpenSpec.ofChange gramWalksWrong)

/- THE SECOND FORM. 'bulk': how many values and letters a reading holds, each counted each time it is reached (what is shared counts as often as it is met; a slice's spare places count too). A statement '..UptoSaid' is the law's where the arguments, and the package variables that the reading takes, are together of bulk at most 1048576: NARROWER than '..Said'. Prove '..Said' where nothing that the law and all that it calls make is longer than what came in: it says more and counts as full. Else prove '..UptoSaid'. A law counts once. -/
mutual
def uptoBulk {H : Type} : DataW H → Nat
  | .lit (.string bytes) => bytes.length + 1
  | .lit _ => 1
  | .nil => 1
  | .ptr d => uptoBulk d + 1
  | .slice elems spare => uptoBulkAll elems + uptoBulkAll spare + 1
  | .agg parts => uptoBulkAll parts + 1
  | .iface _ d => uptoBulk d + 1
  | .map entries => uptoBulkEntries entries + 1
  | .held _ => 1
def uptoBulkAll {H : Type} : List (DataW H) → Nat
  | [] => 0
  | d :: r => uptoBulk d + uptoBulkAll r
def uptoBulkEntries {H : Type} : List (Lit × DataW H) → Nat
  | [] => 0
  | x :: r => uptoBulkEntry x + uptoBulkEntries r
def uptoBulkEntry {H : Type} : Lit × DataW H → Nat
  | (.string bytes, d) => bytes.length + uptoBulk d + 1
  | (_, d) => uptoBulk d + 1
 end
def uptoSmall : (H : Type) → List (DataW H) → Bool := fun _ ds => decide (uptoBulkAll ds ≤ 1048576)
def OpenSpec.upto (s : _root_.Go.ChangeSpec) : _root_.Go.OpenSpec := { _root_.Go.OpenSpec.ofChange s with cond := some uptoSmall }

/-- 'winnowlaw3.GramChecks', WHERE WHAT IT READS IS OF BULK AT MOST 1048576: true; the input reads as it did. -/
def gramChecksUptoRow : OpenClaim := { program := "ytgiilaaoeefpmaagreat", sum := "be298f794854605ef2bdf375fc836057b6cc0525eb27aa406ba032ff34e1d688", func := "winnow/winnowlaw3.GramChecks", spec := "gramChecks", inPlace := ["slices.overlaps[winnow/api.Row]", "slices.overlaps[int]"], unfollowed := true, recurses := true, apart := false, narrowed := true }
def GramChecksUptoSaid : Prop := gramChecksUptoRow.holds Tryz.pinned (OpenSpec.upto gramChecksSpec)

/-- 'winnowlaw3.GramWalks', WHERE WHAT IT READS IS OF BULK AT MOST 1048576: true; the input reads as it did. -/
def gramWalksUptoRow : OpenClaim := { program := "ytgiilaaoeefpmaagreat", sum := "be298f794854605ef2bdf375fc836057b6cc0525eb27aa406ba032ff34e1d688", func := "winnow/winnowlaw3.GramWalks", spec := "gramWalks", inPlace := ["slices.overlaps[winnow/api.Row]", "slices.overlaps[int]"], unfollowed := true, recurses := true, apart := false, narrowed := true }
def GramWalksUptoSaid : Prop := gramWalksUptoRow.holds Tryz.pinned (OpenSpec.upto gramWalksSpec)

end Rows
end Go.Proofs.YtgiilaaoeefpmaaGreat
