/-
  No cell of these rows narrows 'for every input' (looked for: loops, veiled, ifaces, maps, wideKeys, modest, calm, conditions, laid).
  DERIVED. THE GIVEN ROWS OF THIS SEAT. 3 by the template 'for every input the law returns true; each argument reads behind the call as it read before'; 0 by the template 'total and deterministic' (their statements: YtjbpbgdhooggeaaTotals.lean).
  GIVEN WITH THE SEED: the statements are not yours to turn. If you find one false, say at which input.
  Laid BY PROGRAM, IN A SANDBOX (cutbox-rows.mjs): the forced cells as the released guide's own fill.sh prints them over the translation 80634d9a75c55eb3… (all of the seat's roots in one cut). By AI agents, Wed Nov 11 2026. No macro, syntax, notation, axiom, sorry.
-/
import Derived.Test.YtjbpbgdhooggeaaChecked
import GoSem.Claim
import GoSem.ClaimJoined
import GoSem.ClaimMapViews
import Derived.JoinedTies
import Derived.KernelRfl
namespace Go.Proofs.Ytjbpbgdhooggeaa
/- THE CELL 'sum', in the pinned program and in every row, IS THE sha256 OF THE DUMP (.gsa) THAT YtjbpbgdhooggeaaProg.lean LOADS. Nothing in Lean hashes anything: it is a label: what it is worth is what the hold of that sum in a sandbox is worth. -/
noncomputable def Try.pinned : Pinned := { name := "ytjbpbgdhooggeaa", sum := "80634d9a75c55eb306391c1be4a94a6a2a2e0eeea6dd598a5045698aacd84ec4", checked := Try.checked }
namespace Rows
def none {H : Type} : Left H := { results := [], args := [] }

/-- 'winnowlaw7.NamesSums': WHATEVER THE INPUT: true; the input reads as it did. -/
def namesSumsSpec : ChangeSpec := { name := "namesSums", fn := fun _ => fun
  | [d] => { results := [.lit (.bool true)], args := [d] }
  | _ => none }
def namesSumsRow : OpenClaim := { program := "ytjbpbgdhooggeaa", sum := "80634d9a75c55eb306391c1be4a94a6a2a2e0eeea6dd598a5045698aacd84ec4", func := "winnow/winnowlaw7.NamesSums", spec := "namesSums", unfollowed := true, recurses := true, plainKeys := false, apart := false }
def NamesSumsSaid : Prop := namesSumsRow.holds Try.pinned (OpenSpec.ofChange namesSumsSpec)

/-- ITS FALSE NEIGHBOUR: 'it returns false'. Refute it at one input. -/
def namesSumsWrong : ChangeSpec := { name := "namesSums", fn := fun _ => fun
  | [d] => { results := [.lit (.bool false)], args := [d] }
  | _ => none }
def NamesSumsWrongFalsely : Prop := namesSumsRow.holds Try.pinned (OpenSpec.ofChange namesSumsWrong)

/-- 'winnowlaw7.NamesRenamed': WHATEVER THE INPUT: true; the input reads as it did. -/
def namesRenamedSpec : ChangeSpec := { name := "namesRenamed", fn := fun _ => fun
  | [d1, d2] => { results := [.lit (.bool true)], args := [d1, d2] }
  | _ => none }
def namesRenamedRow : OpenClaim := { program := "ytjbpbgdhooggeaa", sum := "80634d9a75c55eb306391c1be4a94a6a2a2e0eeea6dd598a5045698aacd84ec4", func := "winnow/winnowlaw7.NamesRenamed", spec := "namesRenamed", unfollowed := true, recurses := true, plainKeys := false, apart := false }
def NamesRenamedSaid : Prop := namesRenamedRow.holds Try.pinned (OpenSpec.ofChange namesRenamedSpec)

/-- ITS FALSE NEIGHBOUR: 'it returns false'. Refute it at one input. -/
def namesRenamedWrong : ChangeSpec := { name := "namesRenamed", fn := fun _ => fun
  | [d1, d2] => { results := [.lit (.bool false)], args := [d1, d2] }
  | _ => none }
def NamesRenamedWrongFalsely : Prop := namesRenamedRow.holds Try.pinned (OpenSpec.ofChange namesRenamedWrong)

/-- 'winnowlaw7.NamesTold': WHATEVER THE INPUT: true; the input reads as it did. -/
def namesToldSpec : ChangeSpec := { name := "namesTold", fn := fun _ => fun
  | [d1, d2, d3] => { results := [.lit (.bool true)], args := [d1, d2, d3] }
  | _ => none }
def namesToldRow : OpenClaim := { program := "ytjbpbgdhooggeaa", sum := "80634d9a75c55eb306391c1be4a94a6a2a2e0eeea6dd598a5045698aacd84ec4", func := "winnow/winnowlaw7.NamesTold", spec := "namesTold", unfollowed := true, recurses := true, plainKeys := false, apart := false }
def NamesToldSaid : Prop := namesToldRow.holds Try.pinned (OpenSpec.ofChange namesToldSpec)

/-- ITS FALSE NEIGHBOUR: 'it returns false'. Refute it at one input. -/
def namesToldWrong : ChangeSpec := { name := "namesTold", fn := fun _ => fun
  | [d1, d2, d3] => { results := [.lit (.bool false)], args := [d1, d2, d3] }
  | _ => none }
def NamesToldWrongFalsely : Prop := namesToldRow.holds Try.pinned (OpenSpec.ofChange namesToldWrong)

/- THE SECOND FORM. 'bulk': how many values and letters a reading holds, each counted each time it is reached (what is shared counts as often as it is met; a slice's spare places count too). A statement '..UptoSaid' is the law's where the arguments, and the package variables that the reading takes, are together of bulk at most 1048576: NARROWER than '..Said'. Prove '..Said' where nothing that the law and all that it calls make is longer than what came in: it says more and counts as full. Else prove '..UptoSaid'. A law counts once. -/
mutual
def uptoBulk {H : Type} : DataW H → Nat
  | .lit (.string bytes) => bytes.length + 1
  | .lit _ => 1
  | .nil => 1
  | .ptr d => uptoBulk d + 1
  | .slice elems spare => uptoBulkAll elems + uptoBulkAll spare + 1
  | .agg parts => uptoBulkAll parts + 1
  | .iface _ d => uptoBulk d + 1
  | .map entries => uptoBulkEntries entries + 1
  | .held _ => 1
def uptoBulkAll {H : Type} : List (DataW H) → Nat
  | [] => 0
  | d :: r => uptoBulk d + uptoBulkAll r
def uptoBulkEntries {H : Type} : List (Lit × DataW H) → Nat
  | [] => 0
  | x :: r => uptoBulkEntry x + uptoBulkEntries r
def uptoBulkEntry {H : Type} : Lit × DataW H → Nat
  | (.string bytes, d) => bytes.length + uptoBulk d + 1
  | (_, d) => uptoBulk d + 1
 end
def uptoSmall : (H : Type) → List (DataW H) → Bool := fun _ ds => decide (uptoBulkAll ds ≤ 1048576)
def OpenSpec.upto (s : _root_.Go.ChangeSpec) : _root_.Go.OpenSpec := { _root_.Go.OpenSpec.ofChange s with cond := some uptoSmall }

/-- 'winnowlaw7.NamesSums', WHERE WHAT IT READS IS OF BULK AT MOST 1048576: true; the input reads as it did. -/
def namesSumsUptoRow : OpenClaim := { program := "ytjbpbgdhooggeaa", sum := "80634d9a75c55eb306391c1be4a94a6a2a2e0eeea6dd598a5045698aacd84ec4", func := "winnow/winnowlaw7.NamesSums", spec := "namesSums", unfollowed := true, recurses := true, plainKeys := false, apart := false, narrowed := true }
def NamesSumsUptoSaid : Prop := namesSumsUptoRow.holds Try.pinned (OpenSpec.upto namesSumsSpec)

/-- 'winnowlaw7.NamesRenamed', WHERE WHAT IT READS IS OF BULK AT MOST 1048576: true; the input reads as it did. -/
def namesRenamedUptoRow : OpenClaim := { program := "ytjbpbgdhooggeaa", sum := "80634d9a75c55eb306391c1be4a94a6a2a2e0eeea6dd598a5045698aacd84ec4", func := "winnow/winnowlaw7.NamesRenamed", spec := "namesRenamed", unfollowed := true, recurses := true, plainKeys := false, apart := false, narrowed := true }
def NamesRenamedUptoSaid : Prop := namesRenamedUptoRow.holds Try.pinned (OpenSpec.upto namesRenamedSpec)

/-- 'winnowlaw7.NamesTold', WHERE WHAT IT READS IS OF BULK AT MOST 1048576: true; the input reads as it did. -/
def namesToldUptoRow : OpenClaim := { program := "ytjbpbgdhooggeaa", sum := "80634d9a75c55eb306391c1be4a94a6a2a2e0eeea6dd598a5045698aacd84ec4", func := "winnow/winnowlaw7.NamesTold", spec := "namesTold", unfollowed := true, recurses := true, plainKeys := false, apart := false, narrowed := true }
def NamesToldUptoSaid : Prop := namesToldUptoRow.holds Try.pinned (OpenSpec.upto namesToldSpec)

end Rows
end Go.Proofs.Ytjbpbgdhooggeaa
