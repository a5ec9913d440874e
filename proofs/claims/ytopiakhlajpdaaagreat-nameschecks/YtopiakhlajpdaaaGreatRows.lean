/-
  No cell of these rows narrows 'for every input' (looked for: loops, veiled, ifaces, maps, wideKeys, modest, calm, conditions, laid).
  DERIVED. THE GIVEN ROWS OF THIS SEAT. 3 by the template 'for every input the law returns true; each argument reads behind the call as it read before'; 0 by the template 'total and deterministic' (their statements: YtopiakhlajpdaaaGreatTotals.lean).
  GIVEN WITH THE SEED: the statements are not yours to turn. If you find one false, say at which input.
  Laid BY PROGRAM, IN A SANDBOX (cutbox-rows.mjs): the forced cells as the released guide's own fill.sh prints them over the translation ca26aaaabb00b3a9… (all of the seat's roots in one cut). By AI agents, Wed Nov 11 2026. No macro, syntax, notation, axiom, sorry.
-/
import Derived.Test.YtopiakhlajpdaaaGreatChecked
import GoSem.Claim
import GoSem.ClaimJoined
import GoSem.ClaimMapViews
import Derived.JoinedTies
import Derived.KernelRfl
namespace Go.Proofs.YtopiakhlajpdaaaGreat
/- THE CELL 'sum', in the pinned program and in every row, IS THE sha256 OF THE DUMP (.gsa) THAT YtopiakhlajpdaaaGreatProg.lean LOADS. Nothing in Lean hashes anything: it is a label: what it is worth is what the hold of that sum in a sandbox is worth. -/
noncomputable def Tryz.pinned : Pinned := { name := "ytopiakhlajpdaaagreat", sum := "ca26aaaabb00b3a90003c1839b4a785fcf11594dba408b84ab402de6e5ed429d", checked := Tryz.checked }
namespace Rows
def none {H : Type} : Left H := { results := [], args := [] }

/-- 'winnowlaw7.NamesResolves': WHATEVER THE INPUT: true; the input reads as it did. -/
def namesResolvesSpec : ChangeSpec := { name := "namesResolves", fn := fun _ => fun
  | [d] => { results := [.lit (.bool true)], args := [d] }
  | _ => none }
def namesResolvesRow : OpenClaim := { program := "ytopiakhlajpdaaagreat", sum := "ca26aaaabb00b3a90003c1839b4a785fcf11594dba408b84ab402de6e5ed429d", func := "winnow/winnowlaw7.NamesResolves", spec := "namesResolves", unfollowed := true, recurses := true, plainKeys := false, apart := false }
def NamesResolvesSaid : Prop := namesResolvesRow.holds Tryz.pinned (OpenSpec.ofChange namesResolvesSpec)

/-- ITS FALSE NEIGHBOUR: 'it returns false'. Refute it at one input. -/
def namesResolvesWrong : ChangeSpec := { name := "namesResolves", fn := fun _ => fun
  | [d] => { results := [.lit (.bool false)], args := [d] }
  | _ => none }
def NamesResolvesWrongFalsely : Prop := namesResolvesRow.holds Tryz.pinned (OpenSpec.ofChange namesResolvesWrong)

/-- 'winnowlaw7.NamesChecks': WHATEVER THE INPUT: true; the input reads as it did. -/
def namesChecksSpec : ChangeSpec := { name := "namesChecks", fn := fun _ => fun
  | [d] => { results := [.lit (.bool true)], args := [d] }
  | _ => none }
def namesChecksRow : OpenClaim := { program := "ytopiakhlajpdaaagreat", sum := "ca26aaaabb00b3a90003c1839b4a785fcf11594dba408b84ab402de6e5ed429d", func := "winnow/winnowlaw7.NamesChecks", spec := "namesChecks", unfollowed := true, recurses := true, plainKeys := false, apart := false }
def NamesChecksSaid : Prop := namesChecksRow.holds Tryz.pinned (OpenSpec.ofChange namesChecksSpec)

/-- ITS FALSE NEIGHBOUR: 'it returns false'. Refute it at one input. -/
def namesChecksWrong : ChangeSpec := { name := "namesChecks", fn := fun _ => fun
  | [d] => { results := [.lit (.bool false)], args := [d] }
  | _ => none }
def NamesChecksWrongFalsely : Prop := namesChecksRow.holds Tryz.pinned (OpenSpec.ofChange namesChecksWrong)

/-- 'winnowlaw7.NamesLaid': WHATEVER THE INPUT: true; the input reads as it did. -/
def namesLaidSpec : ChangeSpec := { name := "namesLaid", fn := fun _ => fun
  | [d1, d2] => { results := [.lit (.bool true)], args := [d1, d2] }
  | _ => none }
def namesLaidRow : OpenClaim := { program := "ytopiakhlajpdaaagreat", sum := "ca26aaaabb00b3a90003c1839b4a785fcf11594dba408b84ab402de6e5ed429d", func := "winnow/winnowlaw7.NamesLaid", spec := "namesLaid", unfollowed := true, recurses := true, plainKeys := false, apart := false }
def NamesLaidSaid : Prop := namesLaidRow.holds Tryz.pinned (OpenSpec.ofChange namesLaidSpec)

/-- ITS FALSE NEIGHBOUR: 'it returns false'. Refute it at one input. -/
def namesLaidWrong : ChangeSpec := { name := "namesLaid", fn := fun _ => fun
  | [d1, d2] => { results := [.lit (.bool false)], args := [d1, d2] }
  | _ => none }
def NamesLaidWrongFalsely : Prop := namesLaidRow.holds Tryz.pinned (OpenSpec.ofChange namesLaidWrong)

/- THE SECOND FORM. 'bulk': how many values and letters a reading holds, each counted each time it is reached (what is shared counts as often as it is met; a slice's spare places count too). A statement '..UptoSaid' is the law's where the arguments, and the package variables that the reading takes, are together of bulk at most 1048576: NARROWER than '..Said'. Prove '..Said' where nothing that the law and all that it calls make is longer than what came in: it says more and counts as full. Else prove '..UptoSaid'. A law counts once. -/
mutual
def uptoBulk {H : Type} : DataW H → Nat
  | .lit (.string bytes) => bytes.length + 1
  | .lit _ => 1
  | .nil => 1
  | .ptr d => uptoBulk d + 1
  | .slice elems spare => uptoBulkAll elems + uptoBulkAll spare + 1
  | .agg parts => uptoBulkAll parts + 1
  | .iface _ d => uptoBulk d + 1
  | .map entries => uptoBulkEntries entries + 1
  | .held _ => 1
def uptoBulkAll {H : Type} : List (DataW H) → Nat
  | [] => 0
  | d :: r => uptoBulk d + uptoBulkAll r
def uptoBulkEntries {H : Type} : List (Lit × DataW H) → Nat
  | [] => 0
  | x :: r => uptoBulkEntry x + uptoBulkEntries r
def uptoBulkEntry {H : Type} : Lit × DataW H → Nat
  | (.string bytes, d) => bytes.length + uptoBulk d + 1
  | (_, d) => uptoBulk d + 1
 end
def uptoSmall : (H : Type) → List (DataW H) → Bool := fun _ ds => decide (uptoBulkAll ds ≤ 1048576)
def OpenSpec.upto (s : _root_.Go.ChangeSpec) : _root_.Go.OpenSpec := { _root_.Go.OpenSpec.ofChange s with cond := some uptoSmall }

/-- 'winnowlaw7.NamesResolves', WHERE WHAT IT READS IS OF BULK AT MOST 1048576: true; the input reads as it did. -/
def namesResolvesUptoRow : OpenClaim := { program := "ytopiakhlajpdaaagreat", sum := "ca26aaaabb00b3a90003c1839b4a785fcf11594dba408b84ab402de6e5ed429d", func := "winnow/winnowlaw7.NamesResolves", spec := "namesResolves", unfollowed := true, recurses := true, plainKeys := false, apart := false, narrowed := true }
def NamesResolvesUptoSaid : Prop := namesResolvesUptoRow.holds Tryz.pinned (OpenSpec.upto namesResolvesSpec)

/-- 'winnowlaw7.NamesChecks', WHERE WHAT IT READS IS OF BULK AT MOST 1048576: true; the input reads as it did. -/
def namesChecksUptoRow : OpenClaim := { program := "ytopiakhlajpdaaagreat", sum := "ca26aaaabb00b3a90003c1839b4a785fcf11594dba408b84ab402de6e5ed429d", func := "winnow/winnowlaw7.NamesChecks", spec := "namesChecks", unfollowed := true, recurses := true, plainKeys := false, apart := false, narrowed := true }
def NamesChecksUptoSaid : Prop := namesChecksUptoRow.holds Tryz.pinned (OpenSpec.upto namesChecksSpec)

/-- 'winnowlaw7.NamesLaid', WHERE WHAT IT READS IS OF BULK AT MOST 1048576: true; the input reads as it did. -/
def namesLaidUptoRow : OpenClaim := { program := "ytopiakhlajpdaaagreat", sum := "ca26aaaabb00b3a90003c1839b4a785fcf11594dba408b84ab402de6e5ed429d", func := "winnow/winnowlaw7.NamesLaid", spec := "namesLaid", unfollowed := true, recurses := true, plainKeys := false, apart := false, narrowed := true }
def NamesLaidUptoSaid : Prop := namesLaidUptoRow.holds Tryz.pinned (OpenSpec.upto namesLaidSpec)

end Rows
end Go.Proofs.YtopiakhlajpdaaaGreat
