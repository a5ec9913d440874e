/-
  No cell of these rows narrows 'for every input' (looked for: loops, veiled, ifaces, maps, wideKeys, modest, calm, conditions, laid).
  DERIVED. THE GIVEN ROWS OF THIS SEAT. 3 by the template 'for every input the law returns true; each argument reads behind the call as it read before'; 0 by the template 'total and deterministic' (their statements: YtenhjebiokegkaaTotals.lean).
  GIVEN WITH THE SEED: the statements are not yours to turn. If you find one false, say at which input.
  Laid BY PROGRAM, IN A SANDBOX (cutbox-rows.mjs): the forced cells as the released guide's own fill.sh prints them over the translation ccfcd749c79cdf0a… (all of the seat's roots in one cut). By AI agents, Wed Nov 11 2026. No macro, syntax, notation, axiom, sorry.
-/
import Derived.Test.YtenhjebiokegkaaChecked
import GoSem.Claim
import GoSem.ClaimJoined
import GoSem.ClaimMapViews
import Derived.JoinedTies
import Derived.KernelRfl
namespace Go.Proofs.Ytenhjebiokegkaa
/- THE CELL 'sum', in the pinned program and in every row, IS THE sha256 OF THE DUMP (.gsa) THAT YtenhjebiokegkaaProg.lean LOADS. Nothing in Lean hashes anything: it is a label: what it is worth is what the hold of that sum in a sandbox is worth. -/
noncomputable def Try.pinned : Pinned := { name := "ytenhjebiokegkaa", sum := "ccfcd749c79cdf0a580f47ec6fe444f2379ac977cb30885032cb01a399bb5441", checked := Try.checked }
namespace Rows
def none {H : Type} : Left H := { results := [], args := [] }

/-- 'winnowlaw7.NamesNames': WHATEVER THE INPUT: true; the input reads as it did. -/
def namesNamesSpec : ChangeSpec := { name := "namesNames", fn := fun _ => fun
  | [] => { results := [.lit (.bool true)], args := [] }
  | _ => none }
def namesNamesRow : OpenClaim := { program := "ytenhjebiokegkaa", sum := "ccfcd749c79cdf0a580f47ec6fe444f2379ac977cb30885032cb01a399bb5441", func := "winnow/winnowlaw7.NamesNames", spec := "namesNames", unfollowed := true, recurses := true, plainKeys := false, apart := false }
def NamesNamesSaid : Prop := namesNamesRow.holds Try.pinned (OpenSpec.ofChange namesNamesSpec)

/-- ITS FALSE NEIGHBOUR: 'it returns false'. Refute it at one input. -/
def namesNamesWrong : ChangeSpec := { name := "namesNames", fn := fun _ => fun
  | [] => { results := [.lit (.bool false)], args := [] }
  | _ => none }
def NamesNamesWrongFalsely : Prop := namesNamesRow.holds Try.pinned (OpenSpec.ofChange namesNamesWrong)

/-- 'winnowlaw7.NamesMany': WHATEVER THE INPUT: true; the input reads as it did. -/
def namesManySpec : ChangeSpec := { name := "namesMany", fn := fun _ => fun
  | [d1, d2, d3, d4] => { results := [.lit (.bool true)], args := [d1, d2, d3, d4] }
  | _ => none }
def namesManyRow : OpenClaim := { program := "ytenhjebiokegkaa", sum := "ccfcd749c79cdf0a580f47ec6fe444f2379ac977cb30885032cb01a399bb5441", func := "winnow/winnowlaw7.NamesMany", spec := "namesMany", unfollowed := true, recurses := true, plainKeys := false, apart := false }
def NamesManySaid : Prop := namesManyRow.holds Try.pinned (OpenSpec.ofChange namesManySpec)

/-- ITS FALSE NEIGHBOUR: 'it returns false'. Refute it at one input. -/
def namesManyWrong : ChangeSpec := { name := "namesMany", fn := fun _ => fun
  | [d1, d2, d3, d4] => { results := [.lit (.bool false)], args := [d1, d2, d3, d4] }
  | _ => none }
def NamesManyWrongFalsely : Prop := namesManyRow.holds Try.pinned (OpenSpec.ofChange namesManyWrong)

/-- 'winnowlaw7.NamesLarge': WHATEVER THE INPUT: true; the input reads as it did. -/
def namesLargeSpec : ChangeSpec := { name := "namesLarge", fn := fun _ => fun
  | [d1, d2] => { results := [.lit (.bool true)], args := [d1, d2] }
  | _ => none }
def namesLargeRow : OpenClaim := { program := "ytenhjebiokegkaa", sum := "ccfcd749c79cdf0a580f47ec6fe444f2379ac977cb30885032cb01a399bb5441", func := "winnow/winnowlaw7.NamesLarge", spec := "namesLarge", unfollowed := true, recurses := true, plainKeys := false, apart := false }
def NamesLargeSaid : Prop := namesLargeRow.holds Try.pinned (OpenSpec.ofChange namesLargeSpec)

/-- ITS FALSE NEIGHBOUR: 'it returns false'. Refute it at one input. -/
def namesLargeWrong : ChangeSpec := { name := "namesLarge", fn := fun _ => fun
  | [d1, d2] => { results := [.lit (.bool false)], args := [d1, d2] }
  | _ => none }
def NamesLargeWrongFalsely : Prop := namesLargeRow.holds Try.pinned (OpenSpec.ofChange namesLargeWrong)

/- THE SECOND FORM. 'bulk': how many values and letters a reading holds, each counted each time it is reached (what is shared counts as often as it is met; a slice's spare places count too). A statement '..UptoSaid' is the law's where the arguments, and the package variables that the reading takes, are together of bulk at most 1048576: NARROWER than '..Said'. Prove '..Said' where nothing that the law and all that it calls make is longer than what came in: it says more and counts as full. Else prove '..UptoSaid'. A law counts once. -/
mutual
def uptoBulk {H : Type} : DataW H → Nat
  | .lit (.string bytes) => bytes.length + 1
  | .lit _ => 1
  | .nil => 1
  | .ptr d => uptoBulk d + 1
  | .slice elems spare => uptoBulkAll elems + uptoBulkAll spare + 1
  | .agg parts => uptoBulkAll parts + 1
  | .iface _ d => uptoBulk d + 1
  | .map entries => uptoBulkEntries entries + 1
  | .held _ => 1
def uptoBulkAll {H : Type} : List (DataW H) → Nat
  | [] => 0
  | d :: r => uptoBulk d + uptoBulkAll r
def uptoBulkEntries {H : Type} : List (Lit × DataW H) → Nat
  | [] => 0
  | x :: r => uptoBulkEntry x + uptoBulkEntries r
def uptoBulkEntry {H : Type} : Lit × DataW H → Nat
  | (.string bytes, d) => bytes.length + uptoBulk d + 1
  | (_, d) => uptoBulk d + 1
 end
def uptoSmall : (H : Type) → List (DataW H) → Bool := fun _ ds => decide (uptoBulkAll ds ≤ 1048576)
def OpenSpec.upto (s : _root_.Go.ChangeSpec) : _root_.Go.OpenSpec := { _root_.Go.OpenSpec.ofChange s with cond := some uptoSmall }

/-- 'winnowlaw7.NamesNames', WHERE WHAT IT READS IS OF BULK AT MOST 1048576: true; the input reads as it did. -/
def namesNamesUptoRow : OpenClaim := { program := "ytenhjebiokegkaa", sum := "ccfcd749c79cdf0a580f47ec6fe444f2379ac977cb30885032cb01a399bb5441", func := "winnow/winnowlaw7.NamesNames", spec := "namesNames", unfollowed := true, recurses := true, plainKeys := false, apart := false, narrowed := true }
def NamesNamesUptoSaid : Prop := namesNamesUptoRow.holds Try.pinned (OpenSpec.upto namesNamesSpec)

/-- 'winnowlaw7.NamesMany', WHERE WHAT IT READS IS OF BULK AT MOST 1048576: true; the input reads as it did. -/
def namesManyUptoRow : OpenClaim := { program := "ytenhjebiokegkaa", sum := "ccfcd749c79cdf0a580f47ec6fe444f2379ac977cb30885032cb01a399bb5441", func := "winnow/winnowlaw7.NamesMany", spec := "namesMany", unfollowed := true, recurses := true, plainKeys := false, apart := false, narrowed := true }
def NamesManyUptoSaid : Prop := namesManyUptoRow.holds Try.pinned (OpenSpec.upto namesManySpec)

/-- 'winnowlaw7.NamesLarge', WHERE WHAT IT READS IS OF BULK AT MOST 1048576: true; the input reads as it did. -/
def namesLargeUptoRow : OpenClaim := { program := "ytenhjebiokegkaa", sum := "ccfcd749c79cdf0a580f47ec6fe444f2379ac977cb30885032cb01a399bb5441", func := "winnow/winnowlaw7.NamesLarge", spec := "namesLarge", unfollowed := true, recurses := true, plainKeys := false, apart := false, narrowed := true }
def NamesLargeUptoSaid : Prop := namesLargeUptoRow.holds Try.pinned (OpenSpec.upto namesLargeSpec)

end Rows
end Go.Proofs.Ytenhjebiokegkaa
