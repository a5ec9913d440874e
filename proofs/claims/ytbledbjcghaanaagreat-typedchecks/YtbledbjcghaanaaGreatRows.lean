/-
  No cell of these rows narrows 'for every input' (looked for: loops, veiled, ifaces, maps, wideKeys, modest, calm, conditions, laid).
  DERIVED. THE GIVEN ROWS OF THIS SEAT. 6 by the template 'for every input the law returns true; each argument reads behind the call as it read before'; 0 by the template 'total and deterministic' (their statements: YtbledbjcghaanaaGreatTotals.lean).
  GIVEN WITH THE SEED: the statements are not yours to turn. If you find one false, say at which input.
  Laid BY PROGRAM, IN A SANDBOX (cutbox-rows.mjs): the forced cells as the released guide's own fill.sh prints them over the translation bae2304aee4058de… (all of the seat's roots in one cut). By AI agents, Wed Nov 11 2026. No macro, syntax, notation, axiom, sorry.
-/
import Derived.Test.YtbledbjcghaanaaGreatChecked
import GoSem.Claim
import GoSem.ClaimJoined
import GoSem.ClaimMapViews
import Derived.JoinedTies
import Derived.KernelRfl
namespace Go.Proofs.YtbledbjcghaanaaGreat
/- THE CELL 'sum', in the pinned program and in every row, IS THE sha256 OF THE DUMP (.gsa) THAT YtbledbjcghaanaaGreatProg.lean LOADS. Nothing in Lean hashes anything: it is a label: what it is worth is what the hold of that sum in a sandbox is worth. -/
noncomputable def Tryz.pinned : Pinned := { name := "ytbledbjcghaanaagreat", sum := "bae2304aee4058de1e7ee3f4f4ae525a566dd059b58113535caa6a01365d897f", checked := Tryz.checked }
namespace Rows
def none {H : Type} : Left H := { results := [], args := [] }

/-- 'winnowlaw8.TypedTypes': WHATEVER THE INPUT: true; the input reads as it did. -/
def typedTypesSpec : ChangeSpec := { name := "typedTypes", fn := fun _ => fun
  | [d] => { results := [.lit (.bool true)], args := [d] }
  | _ => none }
def typedTypesRow : OpenClaim := { program := "ytbledbjcghaanaagreat", sum := "bae2304aee4058de1e7ee3f4f4ae525a566dd059b58113535caa6a01365d897f", func := "winnow/winnowlaw8.TypedTypes", spec := "typedTypes", unfollowed := true, recurses := true, plainKeys := false, apart := false }
def TypedTypesSaid : Prop := typedTypesRow.holds Tryz.pinned (OpenSpec.ofChange typedTypesSpec)

/-- ITS FALSE NEIGHBOUR: 'it returns false'. Refute it at one input. -/
def typedTypesWrong : ChangeSpec := { name := "typedTypes", fn := fun _ => fun
  | [d] => { results := [.lit (.bool false)], args := [d] }
  | _ => none }
def TypedTypesWrongFalsely : Prop := typedTypesRow.holds Tryz.pinned (OpenSpec.ofChange typedTypesWrong)

/-- 'winnowlaw8.TypedFits': WHATEVER THE INPUT: true; the input reads as it did. -/
def typedFitsSpec : ChangeSpec := { name := "typedFits", fn := fun _ => fun
  | [d1, d2] => { results := [.lit (.bool true)], args := [d1, d2] }
  | _ => none }
def typedFitsRow : OpenClaim := { program := "ytbledbjcghaanaagreat", sum := "bae2304aee4058de1e7ee3f4f4ae525a566dd059b58113535caa6a01365d897f", func := "winnow/winnowlaw8.TypedFits", spec := "typedFits", unfollowed := true, recurses := true, plainKeys := false, apart := false }
def TypedFitsSaid : Prop := typedFitsRow.holds Tryz.pinned (OpenSpec.ofChange typedFitsSpec)

/-- ITS FALSE NEIGHBOUR: 'it returns false'. Refute it at one input. -/
def typedFitsWrong : ChangeSpec := { name := "typedFits", fn := fun _ => fun
  | [d1, d2] => { results := [.lit (.bool false)], args := [d1, d2] }
  | _ => none }
def TypedFitsWrongFalsely : Prop := typedFitsRow.holds Tryz.pinned (OpenSpec.ofChange typedFitsWrong)

/-- 'winnowlaw8.TypedNumbers': WHATEVER THE INPUT: true; the input reads as it did. -/
def typedNumbersSpec : ChangeSpec := { name := "typedNumbers", fn := fun _ => fun
  | [d1, d2] => { results := [.lit (.bool true)], args := [d1, d2] }
  | _ => none }
def typedNumbersRow : OpenClaim := { program := "ytbledbjcghaanaagreat", sum := "bae2304aee4058de1e7ee3f4f4ae525a566dd059b58113535caa6a01365d897f", func := "winnow/winnowlaw8.TypedNumbers", spec := "typedNumbers", unfollowed := true, recurses := true, plainKeys := false, apart := false }
def TypedNumbersSaid : Prop := typedNumbersRow.holds Tryz.pinned (OpenSpec.ofChange typedNumbersSpec)

/-- ITS FALSE NEIGHBOUR: 'it returns false'. Refute it at one input. -/
def typedNumbersWrong : ChangeSpec := { name := "typedNumbers", fn := fun _ => fun
  | [d1, d2] => { results := [.lit (.bool false)], args := [d1, d2] }
  | _ => none }
def TypedNumbersWrongFalsely : Prop := typedNumbersRow.holds Tryz.pinned (OpenSpec.ofChange typedNumbersWrong)

/-- 'winnowlaw8.TypedConsts': WHATEVER THE INPUT: true; the input reads as it did. -/
def typedConstsSpec : ChangeSpec := { name := "typedConsts", fn := fun _ => fun
  | [d1, d2, d3] => { results := [.lit (.bool true)], args := [d1, d2, d3] }
  | _ => none }
def typedConstsRow : OpenClaim := { program := "ytbledbjcghaanaagreat", sum := "bae2304aee4058de1e7ee3f4f4ae525a566dd059b58113535caa6a01365d897f", func := "winnow/winnowlaw8.TypedConsts", spec := "typedConsts", unfollowed := true, recurses := true, plainKeys := false, apart := false }
def TypedConstsSaid : Prop := typedConstsRow.holds Tryz.pinned (OpenSpec.ofChange typedConstsSpec)

/-- ITS FALSE NEIGHBOUR: 'it returns false'. Refute it at one input. -/
def typedConstsWrong : ChangeSpec := { name := "typedConsts", fn := fun _ => fun
  | [d1, d2, d3] => { results := [.lit (.bool false)], args := [d1, d2, d3] }
  | _ => none }
def TypedConstsWrongFalsely : Prop := typedConstsRow.holds Tryz.pinned (OpenSpec.ofChange typedConstsWrong)

/-- 'winnowlaw8.TypedChecks': WHATEVER THE INPUT: true; the input reads as it did. -/
def typedChecksSpec : ChangeSpec := { name := "typedChecks", fn := fun _ => fun
  | [d1, d2] => { results := [.lit (.bool true)], args := [d1, d2] }
  | _ => none }
def typedChecksRow : OpenClaim := { program := "ytbledbjcghaanaagreat", sum := "bae2304aee4058de1e7ee3f4f4ae525a566dd059b58113535caa6a01365d897f", func := "winnow/winnowlaw8.TypedChecks", spec := "typedChecks", unfollowed := true, recurses := true, plainKeys := false, apart := false }
def TypedChecksSaid : Prop := typedChecksRow.holds Tryz.pinned (OpenSpec.ofChange typedChecksSpec)

/-- ITS FALSE NEIGHBOUR: 'it returns false'. Refute it at one input. -/
def typedChecksWrong : ChangeSpec := { name := "typedChecks", fn := fun _ => fun
  | [d1, d2] => { results := [.lit (.bool false)], args := [d1, d2] }
  | _ => none }
def TypedChecksWrongFalsely : Prop := typedChecksRow.holds Tryz.pinned (OpenSpec.ofChange typedChecksWrong)

/-- 'winnowlaw8.TypedFloor': WHATEVER THE INPUT: true; the input reads as it did. -/
def typedFloorSpec : ChangeSpec := { name := "typedFloor", fn := fun _ => fun
  | [d1, d2] => { results := [.lit (.bool true)], args := [d1, d2] }
  | _ => none }
def typedFloorRow : OpenClaim := { program := "ytbledbjcghaanaagreat", sum := "bae2304aee4058de1e7ee3f4f4ae525a566dd059b58113535caa6a01365d897f", func := "winnow/winnowlaw8.TypedFloor", spec := "typedFloor", unfollowed := true, recurses := true, plainKeys := false, apart := false }
def TypedFloorSaid : Prop := typedFloorRow.holds Tryz.pinned (OpenSpec.ofChange typedFloorSpec)

/-- ITS FALSE NEIGHBOUR: 'it returns false'. Refute it at one input. -/
def typedFloorWrong : ChangeSpec := { name := "typedFloor", fn := fun _ => fun
  | [d1, d2] => { results := [.lit (.bool false)], args := [d1, d2] }
  | _ => none }
def TypedFloorWrongFalsely : Prop := typedFloorRow.holds Tryz.pinned (OpenSpec.ofChange typedFloorWrong)

/- THE SECOND FORM. 'bulk': how many values and letters a reading holds, each counted each time it is reached (what is shared counts as often as it is met; a slice's spare places count too). A statement '..UptoSaid' is the law's where the arguments, and the package variables that the reading takes, are together of bulk at most 1048576: NARROWER than '..Said'. Prove '..Said' where nothing that the law and all that it calls make is longer than what came in: it says more and counts as full. Else prove '..UptoSaid'. A law counts once. -/
mutual
def uptoBulk {H : Type} : DataW H → Nat
  | .lit (.string bytes) => bytes.length + 1
  | .lit _ => 1
  | .nil => 1
  | .ptr d => uptoBulk d + 1
  | .slice elems spare => uptoBulkAll elems + uptoBulkAll spare + 1
  | .agg parts => uptoBulkAll parts + 1
  | .iface _ d => uptoBulk d + 1
  | .map entries => uptoBulkEntries entries + 1
  | .held _ => 1
def uptoBulkAll {H : Type} : List (DataW H) → Nat
  | [] => 0
  | d :: r => uptoBulk d + uptoBulkAll r
def uptoBulkEntries {H : Type} : List (Lit × DataW H) → Nat
  | [] => 0
  | x :: r => uptoBulkEntry x + uptoBulkEntries r
def uptoBulkEntry {H : Type} : Lit × DataW H → Nat
  | (.string bytes, d) => bytes.length + uptoBulk d + 1
  | (_, d) => uptoBulk d + 1
 end
def uptoSmall : (H : Type) → List (DataW H) → Bool := fun _ ds => decide (uptoBulkAll ds ≤ 1048576)
def OpenSpec.upto (s : _root_.Go.ChangeSpec) : _root_.Go.OpenSpec := { _root_.Go.OpenSpec.ofChange s with cond := some uptoSmall }

/-- 'winnowlaw8.TypedTypes', WHERE WHAT IT READS IS OF BULK AT MOST 1048576: true; the input reads as it did. -/
def typedTypesUptoRow : OpenClaim := { program := "ytbledbjcghaanaagreat", sum := "bae2304aee4058de1e7ee3f4f4ae525a566dd059b58113535caa6a01365d897f", func := "winnow/winnowlaw8.TypedTypes", spec := "typedTypes", unfollowed := true, recurses := true, plainKeys := false, apart := false, narrowed := true }
def TypedTypesUptoSaid : Prop := typedTypesUptoRow.holds Tryz.pinned (OpenSpec.upto typedTypesSpec)

/-- 'winnowlaw8.TypedFits', WHERE WHAT IT READS IS OF BULK AT MOST 1048576: true; the input reads as it did. -/
def typedFitsUptoRow : OpenClaim := { program := "ytbledbjcghaanaagreat", sum := "bae2304aee4058de1e7ee3f4f4ae525a566dd059b58113535caa6a01365d897f", func := "winnow/winnowlaw8.TypedFits", spec := "typedFits", unfollowed := true, recurses := true, plainKeys := false, apart := false, narrowed := true }
def TypedFitsUptoSaid : Prop := typedFitsUptoRow.holds Tryz.pinned (OpenSpec.upto typedFitsSpec)

/-- 'winnowlaw8.TypedNumbers', WHERE WHAT IT READS IS OF BULK AT MOST 1048576: true; the input reads as it did. -/
def typedNumbersUptoRow : OpenClaim := { program := "ytbledbjcghaanaagreat", sum := "bae2304aee4058de1e7ee3f4f4ae525a566dd059b58113535caa6a01365d897f", func := "winnow/winnowlaw8.TypedNumbers", spec := "typedNumbers", unfollowed := true, recurses := true, plainKeys := false, apart := false, narrowed := true }
def TypedNumbersUptoSaid : Prop := typedNumbersUptoRow.holds Tryz.pinned (OpenSpec.upto typedNumbersSpec)

/-- 'winnowlaw8.TypedConsts', WHERE WHAT IT READS IS OF BULK AT MOST 1048576: true; the input reads as it did. -/
def typedConstsUptoRow : OpenClaim := { program := "ytbledbjcghaanaagreat", sum := "bae2304aee4058de1e7ee3f4f4ae525a566dd059b58113535caa6a01365d897f", func := "winnow/winnowlaw8.TypedConsts", spec := "typedConsts", unfollowed := true, recurses := true, plainKeys := false, apart := false, narrowed := true }
def TypedConstsUptoSaid : Prop := typedConstsUptoRow.holds Tryz.pinned (OpenSpec.upto typedConstsSpec)

/-- 'winnowlaw8.TypedChecks', WHERE WHAT IT READS IS OF BULK AT MOST 1048576: true; the input reads as it did. -/
def typedChecksUptoRow : OpenClaim := { program := "ytbledbjcghaanaagreat", sum := "bae2304aee4058de1e7ee3f4f4ae525a566dd059b58113535caa6a01365d897f", func := "winnow/winnowlaw8.TypedChecks", spec := "typedChecks", unfollowed := true, recurses := true, plainKeys := false, apart := false, narrowed := true }
def TypedChecksUptoSaid : Prop := typedChecksUptoRow.holds Tryz.pinned (OpenSpec.upto typedChecksSpec)

/-- 'winnowlaw8.TypedFloor', WHERE WHAT IT READS IS OF BULK AT MOST 1048576: true; the input reads as it did. -/
def typedFloorUptoRow : OpenClaim := { program := "ytbledbjcghaanaagreat", sum := "bae2304aee4058de1e7ee3f4f4ae525a566dd059b58113535caa6a01365d897f", func := "winnow/winnowlaw8.TypedFloor", spec := "typedFloor", unfollowed := true, recurses := true, plainKeys := false, apart := false, narrowed := true }
def TypedFloorUptoSaid : Prop := typedFloorUptoRow.holds Tryz.pinned (OpenSpec.upto typedFloorSpec)

end Rows
end Go.Proofs.YtbledbjcghaanaaGreat
