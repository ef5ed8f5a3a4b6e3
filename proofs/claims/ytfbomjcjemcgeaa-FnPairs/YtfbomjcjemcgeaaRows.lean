/-
  No cell of these rows narrows 'for every input' (looked for: loops, veiled, ifaces, maps, wideKeys, modest, calm, conditions, laid).
  DERIVED. THE GIVEN ROWS OF THIS SEAT. 6 by the template 'for every input the law returns true; each argument reads behind the call as it read before'; 0 by the template 'total and deterministic' (their statements: YtfbomjcjemcgeaaTotals.lean).
  GIVEN WITH THE SEED: the statements are not yours to turn. If you find one false, say at which input.
  Laid BY PROGRAM, IN A SANDBOX (cutbox-rows.mjs): the forced cells as the released guide's own fill.sh prints them over the translation 2189637eab881556… (all of the seat's roots in one cut). By AI agents, Wed Nov 11 2026. No macro, syntax, notation, axiom, sorry.
-/
import Derived.Test.YtfbomjcjemcgeaaChecked
import GoSem.Claim
import GoSem.ClaimJoined
import GoSem.ClaimMapViews
import Derived.JoinedTies
import Derived.KernelRfl
namespace Go.Proofs.Ytfbomjcjemcgeaa
/- THE CELL 'sum', in the pinned program and in every row, IS THE sha256 OF THE DUMP (.gsa) THAT YtfbomjcjemcgeaaProg.lean LOADS. Nothing in Lean hashes anything: it is a label: what it is worth is what the hold of that sum in a sandbox is worth. -/
noncomputable def Try.pinned : Pinned := { name := "ytfbomjcjemcgeaa", sum := "2189637eab881556b108bb6c23cb5cf0dedd58f5afaec077a2372ef9815e823c", checked := Try.checked }
namespace Rows
def none {H : Type} : Left H := { results := [], args := [] }

/-- 'laws.FnFields': WHATEVER THE INPUT: true; the input reads as it did. -/
def fnFieldsSpec : ChangeSpec := { name := "fnFields", fn := fun _ => fun
  | [d1, d2] => { results := [.lit (.bool true)], args := [d1, d2] }
  | _ => none }
def fnFieldsRow : OpenClaim := { program := "ytfbomjcjemcgeaa", sum := "2189637eab881556b108bb6c23cb5cf0dedd58f5afaec077a2372ef9815e823c", func := "loop.example/g00340/laws.FnFields", spec := "fnFields", apart := false }
def FnFieldsSaid : Prop := fnFieldsRow.holds Try.pinned (OpenSpec.ofChange fnFieldsSpec)

/-- ITS FALSE NEIGHBOUR: 'it returns false'. Refute it at one input. -/
def fnFieldsWrong : ChangeSpec := { name := "fnFields", fn := fun _ => fun
  | [d1, d2] => { results := [.lit (.bool false)], args := [d1, d2] }
  | _ => none }
def FnFieldsWrongFalsely : Prop := fnFieldsRow.holds Try.pinned (OpenSpec.ofChange fnFieldsWrong)

/-- 'laws.FnPairs': WHATEVER THE INPUT: true; the input reads as it did. -/
def fnPairsSpec : ChangeSpec := { name := "fnPairs", fn := fun _ => fun
  | [d1, d2] => { results := [.lit (.bool true)], args := [d1, d2] }
  | _ => none }
def fnPairsRow : OpenClaim := { program := "ytfbomjcjemcgeaa", sum := "2189637eab881556b108bb6c23cb5cf0dedd58f5afaec077a2372ef9815e823c", func := "loop.example/g00340/laws.FnPairs", spec := "fnPairs", apart := false }
def FnPairsSaid : Prop := fnPairsRow.holds Try.pinned (OpenSpec.ofChange fnPairsSpec)

/-- ITS FALSE NEIGHBOUR: 'it returns false'. Refute it at one input. -/
def fnPairsWrong : ChangeSpec := { name := "fnPairs", fn := fun _ => fun
  | [d1, d2] => { results := [.lit (.bool false)], args := [d1, d2] }
  | _ => none }
def FnPairsWrongFalsely : Prop := fnPairsRow.holds Try.pinned (OpenSpec.ofChange fnPairsWrong)

/-- 'laws.FnDisk': WHATEVER THE INPUT: true; the input reads as it did. -/
def fnDiskSpec : ChangeSpec := { name := "fnDisk", fn := fun _ => fun
  | [d1, d2] => { results := [.lit (.bool true)], args := [d1, d2] }
  | _ => none }
def fnDiskRow : OpenClaim := { program := "ytfbomjcjemcgeaa", sum := "2189637eab881556b108bb6c23cb5cf0dedd58f5afaec077a2372ef9815e823c", func := "loop.example/g00340/laws.FnDisk", spec := "fnDisk", apart := false }
def FnDiskSaid : Prop := fnDiskRow.holds Try.pinned (OpenSpec.ofChange fnDiskSpec)

/-- ITS FALSE NEIGHBOUR: 'it returns false'. Refute it at one input. -/
def fnDiskWrong : ChangeSpec := { name := "fnDisk", fn := fun _ => fun
  | [d1, d2] => { results := [.lit (.bool false)], args := [d1, d2] }
  | _ => none }
def FnDiskWrongFalsely : Prop := fnDiskRow.holds Try.pinned (OpenSpec.ofChange fnDiskWrong)

/-- 'laws.FnRefs': WHATEVER THE INPUT: true; the input reads as it did. -/
def fnRefsSpec : ChangeSpec := { name := "fnRefs", fn := fun _ => fun
  | [d] => { results := [.lit (.bool true)], args := [d] }
  | _ => none }
def fnRefsRow : OpenClaim := { program := "ytfbomjcjemcgeaa", sum := "2189637eab881556b108bb6c23cb5cf0dedd58f5afaec077a2372ef9815e823c", func := "loop.example/g00340/laws.FnRefs", spec := "fnRefs", recurses := true, apart := false }
def FnRefsSaid : Prop := fnRefsRow.holds Try.pinned (OpenSpec.ofChange fnRefsSpec)

/-- ITS FALSE NEIGHBOUR: 'it returns false'. Refute it at one input. -/
def fnRefsWrong : ChangeSpec := { name := "fnRefs", fn := fun _ => fun
  | [d] => { results := [.lit (.bool false)], args := [d] }
  | _ => none }
def FnRefsWrongFalsely : Prop := fnRefsRow.holds Try.pinned (OpenSpec.ofChange fnRefsWrong)

/-- 'laws.FnExactCountRefs': WHATEVER THE INPUT: true; the input reads as it did. -/
def fnExactCountRefsSpec : ChangeSpec := { name := "fnExactCountRefs", fn := fun _ => fun
  | [d1, d2] => { results := [.lit (.bool true)], args := [d1, d2] }
  | _ => none }
def fnExactCountRefsRow : OpenClaim := { program := "ytfbomjcjemcgeaa", sum := "2189637eab881556b108bb6c23cb5cf0dedd58f5afaec077a2372ef9815e823c", func := "loop.example/g00340/laws.FnExactCountRefs", spec := "fnExactCountRefs", recurses := true, apart := false }
def FnExactCountRefsSaid : Prop := fnExactCountRefsRow.holds Try.pinned (OpenSpec.ofChange fnExactCountRefsSpec)

/-- ITS FALSE NEIGHBOUR: 'it returns false'. Refute it at one input. -/
def fnExactCountRefsWrong : ChangeSpec := { name := "fnExactCountRefs", fn := fun _ => fun
  | [d1, d2] => { results := [.lit (.bool false)], args := [d1, d2] }
  | _ => none }
def FnExactCountRefsWrongFalsely : Prop := fnExactCountRefsRow.holds Try.pinned (OpenSpec.ofChange fnExactCountRefsWrong)

/-- 'laws.FnExactSuperOK': WHATEVER THE INPUT: true; the input reads as it did. -/
def fnExactSuperOKSpec : ChangeSpec := { name := "fnExactSuperOK", fn := fun _ => fun
  | [d] => { results := [.lit (.bool true)], args := [d] }
  | _ => none }
def fnExactSuperOKRow : OpenClaim := { program := "ytfbomjcjemcgeaa", sum := "2189637eab881556b108bb6c23cb5cf0dedd58f5afaec077a2372ef9815e823c", func := "loop.example/g00340/laws.FnExactSuperOK", spec := "fnExactSuperOK", apart := false }
def FnExactSuperOKSaid : Prop := fnExactSuperOKRow.holds Try.pinned (OpenSpec.ofChange fnExactSuperOKSpec)

/-- ITS FALSE NEIGHBOUR: 'it returns false'. Refute it at one input. -/
def fnExactSuperOKWrong : ChangeSpec := { name := "fnExactSuperOK", fn := fun _ => fun
  | [d] => { results := [.lit (.bool false)], args := [d] }
  | _ => none }
def FnExactSuperOKWrongFalsely : Prop := fnExactSuperOKRow.holds Try.pinned (OpenSpec.ofChange fnExactSuperOKWrong)

/- THE SECOND FORM. 'bulk': how many values and letters a reading holds, each counted each time it is reached (what is shared counts as often as it is met; a slice's spare places count too). A statement '..UptoSaid' is the law's where the arguments, and the package variables that the reading takes, are together of bulk at most 1048576: NARROWER than '..Said'. Prove '..Said' where nothing that the law and all that it calls make is longer than what came in: it says more and counts as full. Else prove '..UptoSaid'. A law counts once. -/
mutual
def uptoBulk {H : Type} : DataW H → Nat
  | .lit (.string bytes) => bytes.length + 1
  | .lit _ => 1
  | .nil => 1
  | .ptr d => uptoBulk d + 1
  | .slice elems spare => uptoBulkAll elems + uptoBulkAll spare + 1
  | .agg parts => uptoBulkAll parts + 1
  | .iface _ d => uptoBulk d + 1
  | .map entries => uptoBulkEntries entries + 1
  | .held _ => 1
def uptoBulkAll {H : Type} : List (DataW H) → Nat
  | [] => 0
  | d :: r => uptoBulk d + uptoBulkAll r
def uptoBulkEntries {H : Type} : List (Lit × DataW H) → Nat
  | [] => 0
  | x :: r => uptoBulkEntry x + uptoBulkEntries r
def uptoBulkEntry {H : Type} : Lit × DataW H → Nat
  | (.string bytes, d) => bytes.length + uptoBulk d + 1
  | (_, d) => uptoBulk d + 1
 end
def uptoSmall : (H : Type) → List (DataW H) → Bool := fun _ ds => decide (uptoBulkAll ds ≤ 1048576)
def OpenSpec.upto (s : _root_.Go.ChangeSpec) : _root_.Go.OpenSpec := { _root_.Go.OpenSpec.ofChange s with cond := some uptoSmall }

/-- 'laws.FnFields', WHERE WHAT IT READS IS OF BULK AT MOST 1048576: true; the input reads as it did. -/
def fnFieldsUptoRow : OpenClaim := { program := "ytfbomjcjemcgeaa", sum := "2189637eab881556b108bb6c23cb5cf0dedd58f5afaec077a2372ef9815e823c", func := "loop.example/g00340/laws.FnFields", spec := "fnFields", apart := false, narrowed := true }
def FnFieldsUptoSaid : Prop := fnFieldsUptoRow.holds Try.pinned (OpenSpec.upto fnFieldsSpec)

/-- 'laws.FnPairs', WHERE WHAT IT READS IS OF BULK AT MOST 1048576: true; the input reads as it did. -/
def fnPairsUptoRow : OpenClaim := { program := "ytfbomjcjemcgeaa", sum := "2189637eab881556b108bb6c23cb5cf0dedd58f5afaec077a2372ef9815e823c", func := "loop.example/g00340/laws.FnPairs", spec := "fnPairs", apart := false, narrowed := true }
def FnPairsUptoSaid : Prop := fnPairsUptoRow.holds Try.pinned (OpenSpec.upto fnPairsSpec)

/-- 'laws.FnDisk', WHERE WHAT IT READS IS OF BULK AT MOST 1048576: true; the input reads as it did. -/
def fnDiskUptoRow : OpenClaim := { program := "ytfbomjcjemcgeaa", sum := "2189637eab881556b108bb6c23cb5cf0dedd58f5afaec077a2372ef9815e823c", func := "loop.example/g00340/laws.FnDisk", spec := "fnDisk", apart := false, narrowed := true }
def FnDiskUptoSaid : Prop := fnDiskUptoRow.holds Try.pinned (OpenSpec.upto fnDiskSpec)

/-- 'laws.FnRefs', WHERE WHAT IT READS IS OF BULK AT MOST 1048576: true; the input reads as it did. -/
def fnRefsUptoRow : OpenClaim := { program := "ytfbomjcjemcgeaa", sum := "2189637eab881556b108bb6c23cb5cf0dedd58f5afaec077a2372ef9815e823c", func := "loop.example/g00340/laws.FnRefs", spec := "fnRefs", recurses := true, apart := false, narrowed := true }
def FnRefsUptoSaid : Prop := fnRefsUptoRow.holds Try.pinned (OpenSpec.upto fnRefsSpec)

/-- 'laws.FnExactCountRefs', WHERE WHAT IT READS IS OF BULK AT MOST 1048576: true; the input reads as it did. -/
def fnExactCountRefsUptoRow : OpenClaim := { program := "ytfbomjcjemcgeaa", sum := "2189637eab881556b108bb6c23cb5cf0dedd58f5afaec077a2372ef9815e823c", func := "loop.example/g00340/laws.FnExactCountRefs", spec := "fnExactCountRefs", recurses := true, apart := false, narrowed := true }
def FnExactCountRefsUptoSaid : Prop := fnExactCountRefsUptoRow.holds Try.pinned (OpenSpec.upto fnExactCountRefsSpec)

/-- 'laws.FnExactSuperOK', WHERE WHAT IT READS IS OF BULK AT MOST 1048576: true; the input reads as it did. -/
def fnExactSuperOKUptoRow : OpenClaim := { program := "ytfbomjcjemcgeaa", sum := "2189637eab881556b108bb6c23cb5cf0dedd58f5afaec077a2372ef9815e823c", func := "loop.example/g00340/laws.FnExactSuperOK", spec := "fnExactSuperOK", apart := false, narrowed := true }
def FnExactSuperOKUptoSaid : Prop := fnExactSuperOKUptoRow.holds Try.pinned (OpenSpec.upto fnExactSuperOKSpec)

end Rows
end Go.Proofs.Ytfbomjcjemcgeaa
