/-
  No cell of these rows narrows 'for every input' (looked for: loops, veiled, ifaces, maps, wideKeys, modest, calm, conditions, laid).
  DERIVED. THE GIVEN ROWS OF THIS SEAT. 17 by the template 'for every input the law returns true; each argument reads behind the call as it read before'; 0 by the template 'total and deterministic' (their statements: YtmpkdggboniigaaTotals.lean).
  GIVEN WITH THE SEED: the statements are not yours to turn. If you find one false, say at which input.
  Laid BY PROGRAM, IN A SANDBOX (cutbox-rows.mjs): the forced cells as the released guide's own fill.sh prints them over the translation 36954f029bce4fc4… (all of the seat's roots in one cut). By AI agents, Wed Nov 11 2026. No macro, syntax, notation, axiom, sorry.
-/
import Derived.Test.YtmpkdggboniigaaChecked
import GoSem.Claim
import GoSem.ClaimJoined
import GoSem.ClaimMapViews
import Derived.JoinedTies
import Derived.KernelRfl
namespace Go.Proofs.Ytmpkdggboniigaa
/- THE CELL 'sum', in the pinned program and in every row, IS THE sha256 OF THE DUMP (.gsa) THAT YtmpkdggboniigaaProg.lean LOADS. Nothing in Lean hashes anything: it is a label: what it is worth is what the hold of that sum in a sandbox is worth. -/
noncomputable def Try.pinned : Pinned := { name := "ytmpkdggboniigaa", sum := "36954f029bce4fc497ecf3128f31453e5c66ebaf3f0e397c7e0e74be89ddb06f", checked := Try.checked }
namespace Rows
def none {H : Type} : Left H := { results := [], args := [] }

/-- 'laws.FnFields': WHATEVER THE INPUT: true; the input reads as it did. -/
def fnFieldsSpec : ChangeSpec := { name := "fnFields", fn := fun _ => fun
  | [d1, d2] => { results := [.lit (.bool true)], args := [d1, d2] }
  | _ => none }
def fnFieldsRow : OpenClaim := { program := "ytmpkdggboniigaa", sum := "36954f029bce4fc497ecf3128f31453e5c66ebaf3f0e397c7e0e74be89ddb06f", func := "loop.example/g00340/laws.FnFields", spec := "fnFields", apart := false }
def FnFieldsSaid : Prop := fnFieldsRow.holds Try.pinned (OpenSpec.ofChange fnFieldsSpec)

/-- ITS FALSE NEIGHBOUR: 'it returns false'. Refute it at one input. -/
def fnFieldsWrong : ChangeSpec := { name := "fnFields", fn := fun _ => fun
  | [d1, d2] => { results := [.lit (.bool false)], args := [d1, d2] }
  | _ => none }
def FnFieldsWrongFalsely : Prop := fnFieldsRow.holds Try.pinned (OpenSpec.ofChange fnFieldsWrong)

/-- 'laws.FnPairs': WHATEVER THE INPUT: true; the input reads as it did. -/
def fnPairsSpec : ChangeSpec := { name := "fnPairs", fn := fun _ => fun
  | [d1, d2] => { results := [.lit (.bool true)], args := [d1, d2] }
  | _ => none }
def fnPairsRow : OpenClaim := { program := "ytmpkdggboniigaa", sum := "36954f029bce4fc497ecf3128f31453e5c66ebaf3f0e397c7e0e74be89ddb06f", func := "loop.example/g00340/laws.FnPairs", spec := "fnPairs", apart := false }
def FnPairsSaid : Prop := fnPairsRow.holds Try.pinned (OpenSpec.ofChange fnPairsSpec)

/-- ITS FALSE NEIGHBOUR: 'it returns false'. Refute it at one input. -/
def fnPairsWrong : ChangeSpec := { name := "fnPairs", fn := fun _ => fun
  | [d1, d2] => { results := [.lit (.bool false)], args := [d1, d2] }
  | _ => none }
def FnPairsWrongFalsely : Prop := fnPairsRow.holds Try.pinned (OpenSpec.ofChange fnPairsWrong)

/-- 'laws.FnDisk': WHATEVER THE INPUT: true; the input reads as it did. -/
def fnDiskSpec : ChangeSpec := { name := "fnDisk", fn := fun _ => fun
  | [d1, d2] => { results := [.lit (.bool true)], args := [d1, d2] }
  | _ => none }
def fnDiskRow : OpenClaim := { program := "ytmpkdggboniigaa", sum := "36954f029bce4fc497ecf3128f31453e5c66ebaf3f0e397c7e0e74be89ddb06f", func := "loop.example/g00340/laws.FnDisk", spec := "fnDisk", apart := false }
def FnDiskSaid : Prop := fnDiskRow.holds Try.pinned (OpenSpec.ofChange fnDiskSpec)

/-- ITS FALSE NEIGHBOUR: 'it returns false'. Refute it at one input. -/
def fnDiskWrong : ChangeSpec := { name := "fnDisk", fn := fun _ => fun
  | [d1, d2] => { results := [.lit (.bool false)], args := [d1, d2] }
  | _ => none }
def FnDiskWrongFalsely : Prop := fnDiskRow.holds Try.pinned (OpenSpec.ofChange fnDiskWrong)

/-- 'laws.FnTree': WHATEVER THE INPUT: true; the input reads as it did. -/
def fnTreeSpec : ChangeSpec := { name := "fnTree", fn := fun _ => fun
  | [d1, d2] => { results := [.lit (.bool true)], args := [d1, d2] }
  | _ => none }
def fnTreeRow : OpenClaim := { program := "ytmpkdggboniigaa", sum := "36954f029bce4fc497ecf3128f31453e5c66ebaf3f0e397c7e0e74be89ddb06f", func := "loop.example/g00340/laws.FnTree", spec := "fnTree", recurses := true, apart := false }
def FnTreeSaid : Prop := fnTreeRow.holds Try.pinned (OpenSpec.ofChange fnTreeSpec)

/-- ITS FALSE NEIGHBOUR: 'it returns false'. Refute it at one input. -/
def fnTreeWrong : ChangeSpec := { name := "fnTree", fn := fun _ => fun
  | [d1, d2] => { results := [.lit (.bool false)], args := [d1, d2] }
  | _ => none }
def FnTreeWrongFalsely : Prop := fnTreeRow.holds Try.pinned (OpenSpec.ofChange fnTreeWrong)

/-- 'laws.FnTreeDrop': WHATEVER THE INPUT: true; the input reads as it did. -/
def fnTreeDropSpec : ChangeSpec := { name := "fnTreeDrop", fn := fun _ => fun
  | [d1, d2] => { results := [.lit (.bool true)], args := [d1, d2] }
  | _ => none }
def fnTreeDropRow : OpenClaim := { program := "ytmpkdggboniigaa", sum := "36954f029bce4fc497ecf3128f31453e5c66ebaf3f0e397c7e0e74be89ddb06f", func := "loop.example/g00340/laws.FnTreeDrop", spec := "fnTreeDrop", recurses := true, apart := false }
def FnTreeDropSaid : Prop := fnTreeDropRow.holds Try.pinned (OpenSpec.ofChange fnTreeDropSpec)

/-- ITS FALSE NEIGHBOUR: 'it returns false'. Refute it at one input. -/
def fnTreeDropWrong : ChangeSpec := { name := "fnTreeDrop", fn := fun _ => fun
  | [d1, d2] => { results := [.lit (.bool false)], args := [d1, d2] }
  | _ => none }
def FnTreeDropWrongFalsely : Prop := fnTreeDropRow.holds Try.pinned (OpenSpec.ofChange fnTreeDropWrong)

/-- 'laws.FnRefs': WHATEVER THE INPUT: true; the input reads as it did. -/
def fnRefsSpec : ChangeSpec := { name := "fnRefs", fn := fun _ => fun
  | [d] => { results := [.lit (.bool true)], args := [d] }
  | _ => none }
def fnRefsRow : OpenClaim := { program := "ytmpkdggboniigaa", sum := "36954f029bce4fc497ecf3128f31453e5c66ebaf3f0e397c7e0e74be89ddb06f", func := "loop.example/g00340/laws.FnRefs", spec := "fnRefs", recurses := true, apart := false }
def FnRefsSaid : Prop := fnRefsRow.holds Try.pinned (OpenSpec.ofChange fnRefsSpec)

/-- ITS FALSE NEIGHBOUR: 'it returns false'. Refute it at one input. -/
def fnRefsWrong : ChangeSpec := { name := "fnRefs", fn := fun _ => fun
  | [d] => { results := [.lit (.bool false)], args := [d] }
  | _ => none }
def FnRefsWrongFalsely : Prop := fnRefsRow.holds Try.pinned (OpenSpec.ofChange fnRefsWrong)

/-- 'laws.FnExactFieldsBytes': WHATEVER THE INPUT: true; the input reads as it did. -/
def fnExactFieldsBytesSpec : ChangeSpec := { name := "fnExactFieldsBytes", fn := fun _ => fun
  | [d] => { results := [.lit (.bool true)], args := [d] }
  | _ => none }
def fnExactFieldsBytesRow : OpenClaim := { program := "ytmpkdggboniigaa", sum := "36954f029bce4fc497ecf3128f31453e5c66ebaf3f0e397c7e0e74be89ddb06f", func := "loop.example/g00340/laws.FnExactFieldsBytes", spec := "fnExactFieldsBytes", apart := false }
def FnExactFieldsBytesSaid : Prop := fnExactFieldsBytesRow.holds Try.pinned (OpenSpec.ofChange fnExactFieldsBytesSpec)

/-- ITS FALSE NEIGHBOUR: 'it returns false'. Refute it at one input. -/
def fnExactFieldsBytesWrong : ChangeSpec := { name := "fnExactFieldsBytes", fn := fun _ => fun
  | [d] => { results := [.lit (.bool false)], args := [d] }
  | _ => none }
def FnExactFieldsBytesWrongFalsely : Prop := fnExactFieldsBytesRow.holds Try.pinned (OpenSpec.ofChange fnExactFieldsBytesWrong)

/-- 'laws.FnExactReadFields': WHATEVER THE INPUT: true; the input reads as it did. -/
def fnExactReadFieldsSpec : ChangeSpec := { name := "fnExactReadFields", fn := fun _ => fun
  | [d] => { results := [.lit (.bool true)], args := [d] }
  | _ => none }
def fnExactReadFieldsRow : OpenClaim := { program := "ytmpkdggboniigaa", sum := "36954f029bce4fc497ecf3128f31453e5c66ebaf3f0e397c7e0e74be89ddb06f", func := "loop.example/g00340/laws.FnExactReadFields", spec := "fnExactReadFields", apart := false }
def FnExactReadFieldsSaid : Prop := fnExactReadFieldsRow.holds Try.pinned (OpenSpec.ofChange fnExactReadFieldsSpec)

/-- ITS FALSE NEIGHBOUR: 'it returns false'. Refute it at one input. -/
def fnExactReadFieldsWrong : ChangeSpec := { name := "fnExactReadFields", fn := fun _ => fun
  | [d] => { results := [.lit (.bool false)], args := [d] }
  | _ => none }
def FnExactReadFieldsWrongFalsely : Prop := fnExactReadFieldsRow.holds Try.pinned (OpenSpec.ofChange fnExactReadFieldsWrong)

/-- 'laws.FnExactNewHeap': WHATEVER THE INPUT: true; the input reads as it did. -/
def fnExactNewHeapSpec : ChangeSpec := { name := "fnExactNewHeap", fn := fun _ => fun
  | [] => { results := [.lit (.bool true)], args := [] }
  | _ => none }
def fnExactNewHeapRow : OpenClaim := { program := "ytmpkdggboniigaa", sum := "36954f029bce4fc497ecf3128f31453e5c66ebaf3f0e397c7e0e74be89ddb06f", func := "loop.example/g00340/laws.FnExactNewHeap", spec := "fnExactNewHeap", apart := false }
def FnExactNewHeapSaid : Prop := fnExactNewHeapRow.holds Try.pinned (OpenSpec.ofChange fnExactNewHeapSpec)

/-- ITS FALSE NEIGHBOUR: 'it returns false'. Refute it at one input. -/
def fnExactNewHeapWrong : ChangeSpec := { name := "fnExactNewHeap", fn := fun _ => fun
  | [] => { results := [.lit (.bool false)], args := [] }
  | _ => none }
def FnExactNewHeapWrongFalsely : Prop := fnExactNewHeapRow.holds Try.pinned (OpenSpec.ofChange fnExactNewHeapWrong)

/-- 'laws.FnExactNodeOK': WHATEVER THE INPUT: true; the input reads as it did. -/
def fnExactNodeOKSpec : ChangeSpec := { name := "fnExactNodeOK", fn := fun _ => fun
  | [d] => { results := [.lit (.bool true)], args := [d] }
  | _ => none }
def fnExactNodeOKRow : OpenClaim := { program := "ytmpkdggboniigaa", sum := "36954f029bce4fc497ecf3128f31453e5c66ebaf3f0e397c7e0e74be89ddb06f", func := "loop.example/g00340/laws.FnExactNodeOK", spec := "fnExactNodeOK", apart := false }
def FnExactNodeOKSaid : Prop := fnExactNodeOKRow.holds Try.pinned (OpenSpec.ofChange fnExactNodeOKSpec)

/-- ITS FALSE NEIGHBOUR: 'it returns false'. Refute it at one input. -/
def fnExactNodeOKWrong : ChangeSpec := { name := "fnExactNodeOK", fn := fun _ => fun
  | [d] => { results := [.lit (.bool false)], args := [d] }
  | _ => none }
def FnExactNodeOKWrongFalsely : Prop := fnExactNodeOKRow.holds Try.pinned (OpenSpec.ofChange fnExactNodeOKWrong)

/-- 'laws.FnExactTreeOK': WHATEVER THE INPUT: true; the input reads as it did. -/
def fnExactTreeOKSpec : ChangeSpec := { name := "fnExactTreeOK", fn := fun _ => fun
  | [d1, d2] => { results := [.lit (.bool true)], args := [d1, d2] }
  | _ => none }
def fnExactTreeOKRow : OpenClaim := { program := "ytmpkdggboniigaa", sum := "36954f029bce4fc497ecf3128f31453e5c66ebaf3f0e397c7e0e74be89ddb06f", func := "loop.example/g00340/laws.FnExactTreeOK", spec := "fnExactTreeOK", recurses := true, apart := false }
def FnExactTreeOKSaid : Prop := fnExactTreeOKRow.holds Try.pinned (OpenSpec.ofChange fnExactTreeOKSpec)

/-- ITS FALSE NEIGHBOUR: 'it returns false'. Refute it at one input. -/
def fnExactTreeOKWrong : ChangeSpec := { name := "fnExactTreeOK", fn := fun _ => fun
  | [d1, d2] => { results := [.lit (.bool false)], args := [d1, d2] }
  | _ => none }
def FnExactTreeOKWrongFalsely : Prop := fnExactTreeOKRow.holds Try.pinned (OpenSpec.ofChange fnExactTreeOKWrong)

/-- 'laws.FnExactTreePairs': WHATEVER THE INPUT: true; the input reads as it did. -/
def fnExactTreePairsSpec : ChangeSpec := { name := "fnExactTreePairs", fn := fun _ => fun
  | [d1, d2] => { results := [.lit (.bool true)], args := [d1, d2] }
  | _ => none }
def fnExactTreePairsRow : OpenClaim := { program := "ytmpkdggboniigaa", sum := "36954f029bce4fc497ecf3128f31453e5c66ebaf3f0e397c7e0e74be89ddb06f", func := "loop.example/g00340/laws.FnExactTreePairs", spec := "fnExactTreePairs", recurses := true, apart := false }
def FnExactTreePairsSaid : Prop := fnExactTreePairsRow.holds Try.pinned (OpenSpec.ofChange fnExactTreePairsSpec)

/-- ITS FALSE NEIGHBOUR: 'it returns false'. Refute it at one input. -/
def fnExactTreePairsWrong : ChangeSpec := { name := "fnExactTreePairs", fn := fun _ => fun
  | [d1, d2] => { results := [.lit (.bool false)], args := [d1, d2] }
  | _ => none }
def FnExactTreePairsWrongFalsely : Prop := fnExactTreePairsRow.holds Try.pinned (OpenSpec.ofChange fnExactTreePairsWrong)

/-- 'laws.FnExactTreeGet': WHATEVER THE INPUT: true; the input reads as it did. -/
def fnExactTreeGetSpec : ChangeSpec := { name := "fnExactTreeGet", fn := fun _ => fun
  | [d1, d2, d3] => { results := [.lit (.bool true)], args := [d1, d2, d3] }
  | _ => none }
def fnExactTreeGetRow : OpenClaim := { program := "ytmpkdggboniigaa", sum := "36954f029bce4fc497ecf3128f31453e5c66ebaf3f0e397c7e0e74be89ddb06f", func := "loop.example/g00340/laws.FnExactTreeGet", spec := "fnExactTreeGet", recurses := true, apart := false }
def FnExactTreeGetSaid : Prop := fnExactTreeGetRow.holds Try.pinned (OpenSpec.ofChange fnExactTreeGetSpec)

/-- ITS FALSE NEIGHBOUR: 'it returns false'. Refute it at one input. -/
def fnExactTreeGetWrong : ChangeSpec := { name := "fnExactTreeGet", fn := fun _ => fun
  | [d1, d2, d3] => { results := [.lit (.bool false)], args := [d1, d2, d3] }
  | _ => none }
def FnExactTreeGetWrongFalsely : Prop := fnExactTreeGetRow.holds Try.pinned (OpenSpec.ofChange fnExactTreeGetWrong)

/-- 'laws.FnExactTreePut': WHATEVER THE INPUT: true; the input reads as it did. -/
def fnExactTreePutSpec : ChangeSpec := { name := "fnExactTreePut", fn := fun _ => fun
  | [d1, d2, d3, d4, d5] => { results := [.lit (.bool true)], args := [d1, d2, d3, d4, d5] }
  | _ => none }
def fnExactTreePutRow : OpenClaim := { program := "ytmpkdggboniigaa", sum := "36954f029bce4fc497ecf3128f31453e5c66ebaf3f0e397c7e0e74be89ddb06f", func := "loop.example/g00340/laws.FnExactTreePut", spec := "fnExactTreePut", recurses := true, apart := false }
def FnExactTreePutSaid : Prop := fnExactTreePutRow.holds Try.pinned (OpenSpec.ofChange fnExactTreePutSpec)

/-- ITS FALSE NEIGHBOUR: 'it returns false'. Refute it at one input. -/
def fnExactTreePutWrong : ChangeSpec := { name := "fnExactTreePut", fn := fun _ => fun
  | [d1, d2, d3, d4, d5] => { results := [.lit (.bool false)], args := [d1, d2, d3, d4, d5] }
  | _ => none }
def FnExactTreePutWrongFalsely : Prop := fnExactTreePutRow.holds Try.pinned (OpenSpec.ofChange fnExactTreePutWrong)

/-- 'laws.FnExactTreeDrop': WHATEVER THE INPUT: true; the input reads as it did. -/
def fnExactTreeDropSpec : ChangeSpec := { name := "fnExactTreeDrop", fn := fun _ => fun
  | [d1, d2, d3, d4] => { results := [.lit (.bool true)], args := [d1, d2, d3, d4] }
  | _ => none }
def fnExactTreeDropRow : OpenClaim := { program := "ytmpkdggboniigaa", sum := "36954f029bce4fc497ecf3128f31453e5c66ebaf3f0e397c7e0e74be89ddb06f", func := "loop.example/g00340/laws.FnExactTreeDrop", spec := "fnExactTreeDrop", recurses := true, apart := false }
def FnExactTreeDropSaid : Prop := fnExactTreeDropRow.holds Try.pinned (OpenSpec.ofChange fnExactTreeDropSpec)

/-- ITS FALSE NEIGHBOUR: 'it returns false'. Refute it at one input. -/
def fnExactTreeDropWrong : ChangeSpec := { name := "fnExactTreeDrop", fn := fun _ => fun
  | [d1, d2, d3, d4] => { results := [.lit (.bool false)], args := [d1, d2, d3, d4] }
  | _ => none }
def FnExactTreeDropWrongFalsely : Prop := fnExactTreeDropRow.holds Try.pinned (OpenSpec.ofChange fnExactTreeDropWrong)

/-- 'laws.FnExactTreePages': WHATEVER THE INPUT: true; the input reads as it did. -/
def fnExactTreePagesSpec : ChangeSpec := { name := "fnExactTreePages", fn := fun _ => fun
  | [d1, d2] => { results := [.lit (.bool true)], args := [d1, d2] }
  | _ => none }
def fnExactTreePagesRow : OpenClaim := { program := "ytmpkdggboniigaa", sum := "36954f029bce4fc497ecf3128f31453e5c66ebaf3f0e397c7e0e74be89ddb06f", func := "loop.example/g00340/laws.FnExactTreePages", spec := "fnExactTreePages", recurses := true, apart := false }
def FnExactTreePagesSaid : Prop := fnExactTreePagesRow.holds Try.pinned (OpenSpec.ofChange fnExactTreePagesSpec)

/-- ITS FALSE NEIGHBOUR: 'it returns false'. Refute it at one input. -/
def fnExactTreePagesWrong : ChangeSpec := { name := "fnExactTreePages", fn := fun _ => fun
  | [d1, d2] => { results := [.lit (.bool false)], args := [d1, d2] }
  | _ => none }
def FnExactTreePagesWrongFalsely : Prop := fnExactTreePagesRow.holds Try.pinned (OpenSpec.ofChange fnExactTreePagesWrong)

/-- 'laws.FnExactCountRefs': WHATEVER THE INPUT: true; the input reads as it did. -/
def fnExactCountRefsSpec : ChangeSpec := { name := "fnExactCountRefs", fn := fun _ => fun
  | [d1, d2] => { results := [.lit (.bool true)], args := [d1, d2] }
  | _ => none }
def fnExactCountRefsRow : OpenClaim := { program := "ytmpkdggboniigaa", sum := "36954f029bce4fc497ecf3128f31453e5c66ebaf3f0e397c7e0e74be89ddb06f", func := "loop.example/g00340/laws.FnExactCountRefs", spec := "fnExactCountRefs", recurses := true, apart := false }
def FnExactCountRefsSaid : Prop := fnExactCountRefsRow.holds Try.pinned (OpenSpec.ofChange fnExactCountRefsSpec)

/-- ITS FALSE NEIGHBOUR: 'it returns false'. Refute it at one input. -/
def fnExactCountRefsWrong : ChangeSpec := { name := "fnExactCountRefs", fn := fun _ => fun
  | [d1, d2] => { results := [.lit (.bool false)], args := [d1, d2] }
  | _ => none }
def FnExactCountRefsWrongFalsely : Prop := fnExactCountRefsRow.holds Try.pinned (OpenSpec.ofChange fnExactCountRefsWrong)

/- THE SECOND FORM. 'bulk': how many values and letters a reading holds, each counted each time it is reached (what is shared counts as often as it is met; a slice's spare places count too). A statement '..UptoSaid' is the law's where the arguments, and the package variables that the reading takes, are together of bulk at most 1048576: NARROWER than '..Said'. Prove '..Said' where nothing that the law and all that it calls make is longer than what came in: it says more and counts as full. Else prove '..UptoSaid'. A law counts once. -/
mutual
def uptoBulk {H : Type} : DataW H → Nat
  | .lit (.string bytes) => bytes.length + 1
  | .lit _ => 1
  | .nil => 1
  | .ptr d => uptoBulk d + 1
  | .slice elems spare => uptoBulkAll elems + uptoBulkAll spare + 1
  | .agg parts => uptoBulkAll parts + 1
  | .iface _ d => uptoBulk d + 1
  | .map entries => uptoBulkEntries entries + 1
  | .held _ => 1
def uptoBulkAll {H : Type} : List (DataW H) → Nat
  | [] => 0
  | d :: r => uptoBulk d + uptoBulkAll r
def uptoBulkEntries {H : Type} : List (Lit × DataW H) → Nat
  | [] => 0
  | x :: r => uptoBulkEntry x + uptoBulkEntries r
def uptoBulkEntry {H : Type} : Lit × DataW H → Nat
  | (.string bytes, d) => bytes.length + uptoBulk d + 1
  | (_, d) => uptoBulk d + 1
 end
def uptoSmall : (H : Type) → List (DataW H) → Bool := fun _ ds => decide (uptoBulkAll ds ≤ 1048576)
def OpenSpec.upto (s : _root_.Go.ChangeSpec) : _root_.Go.OpenSpec := { _root_.Go.OpenSpec.ofChange s with cond := some uptoSmall }

/-- 'laws.FnFields', WHERE WHAT IT READS IS OF BULK AT MOST 1048576: true; the input reads as it did. -/
def fnFieldsUptoRow : OpenClaim := { program := "ytmpkdggboniigaa", sum := "36954f029bce4fc497ecf3128f31453e5c66ebaf3f0e397c7e0e74be89ddb06f", func := "loop.example/g00340/laws.FnFields", spec := "fnFields", apart := false, narrowed := true }
def FnFieldsUptoSaid : Prop := fnFieldsUptoRow.holds Try.pinned (OpenSpec.upto fnFieldsSpec)

/-- 'laws.FnPairs', WHERE WHAT IT READS IS OF BULK AT MOST 1048576: true; the input reads as it did. -/
def fnPairsUptoRow : OpenClaim := { program := "ytmpkdggboniigaa", sum := "36954f029bce4fc497ecf3128f31453e5c66ebaf3f0e397c7e0e74be89ddb06f", func := "loop.example/g00340/laws.FnPairs", spec := "fnPairs", apart := false, narrowed := true }
def FnPairsUptoSaid : Prop := fnPairsUptoRow.holds Try.pinned (OpenSpec.upto fnPairsSpec)

/-- 'laws.FnDisk', WHERE WHAT IT READS IS OF BULK AT MOST 1048576: true; the input reads as it did. -/
def fnDiskUptoRow : OpenClaim := { program := "ytmpkdggboniigaa", sum := "36954f029bce4fc497ecf3128f31453e5c66ebaf3f0e397c7e0e74be89ddb06f", func := "loop.example/g00340/laws.FnDisk", spec := "fnDisk", apart := false, narrowed := true }
def FnDiskUptoSaid : Prop := fnDiskUptoRow.holds Try.pinned (OpenSpec.upto fnDiskSpec)

/-- 'laws.FnTree', WHERE WHAT IT READS IS OF BULK AT MOST 1048576: true; the input reads as it did. -/
def fnTreeUptoRow : OpenClaim := { program := "ytmpkdggboniigaa", sum := "36954f029bce4fc497ecf3128f31453e5c66ebaf3f0e397c7e0e74be89ddb06f", func := "loop.example/g00340/laws.FnTree", spec := "fnTree", recurses := true, apart := false, narrowed := true }
def FnTreeUptoSaid : Prop := fnTreeUptoRow.holds Try.pinned (OpenSpec.upto fnTreeSpec)

/-- 'laws.FnTreeDrop', WHERE WHAT IT READS IS OF BULK AT MOST 1048576: true; the input reads as it did. -/
def fnTreeDropUptoRow : OpenClaim := { program := "ytmpkdggboniigaa", sum := "36954f029bce4fc497ecf3128f31453e5c66ebaf3f0e397c7e0e74be89ddb06f", func := "loop.example/g00340/laws.FnTreeDrop", spec := "fnTreeDrop", recurses := true, apart := false, narrowed := true }
def FnTreeDropUptoSaid : Prop := fnTreeDropUptoRow.holds Try.pinned (OpenSpec.upto fnTreeDropSpec)

/-- 'laws.FnRefs', WHERE WHAT IT READS IS OF BULK AT MOST 1048576: true; the input reads as it did. -/
def fnRefsUptoRow : OpenClaim := { program := "ytmpkdggboniigaa", sum := "36954f029bce4fc497ecf3128f31453e5c66ebaf3f0e397c7e0e74be89ddb06f", func := "loop.example/g00340/laws.FnRefs", spec := "fnRefs", recurses := true, apart := false, narrowed := true }
def FnRefsUptoSaid : Prop := fnRefsUptoRow.holds Try.pinned (OpenSpec.upto fnRefsSpec)

/-- 'laws.FnExactFieldsBytes', WHERE WHAT IT READS IS OF BULK AT MOST 1048576: true; the input reads as it did. -/
def fnExactFieldsBytesUptoRow : OpenClaim := { program := "ytmpkdggboniigaa", sum := "36954f029bce4fc497ecf3128f31453e5c66ebaf3f0e397c7e0e74be89ddb06f", func := "loop.example/g00340/laws.FnExactFieldsBytes", spec := "fnExactFieldsBytes", apart := false, narrowed := true }
def FnExactFieldsBytesUptoSaid : Prop := fnExactFieldsBytesUptoRow.holds Try.pinned (OpenSpec.upto fnExactFieldsBytesSpec)

/-- 'laws.FnExactReadFields', WHERE WHAT IT READS IS OF BULK AT MOST 1048576: true; the input reads as it did. -/
def fnExactReadFieldsUptoRow : OpenClaim := { program := "ytmpkdggboniigaa", sum := "36954f029bce4fc497ecf3128f31453e5c66ebaf3f0e397c7e0e74be89ddb06f", func := "loop.example/g00340/laws.FnExactReadFields", spec := "fnExactReadFields", apart := false, narrowed := true }
def FnExactReadFieldsUptoSaid : Prop := fnExactReadFieldsUptoRow.holds Try.pinned (OpenSpec.upto fnExactReadFieldsSpec)

/-- 'laws.FnExactNewHeap', WHERE WHAT IT READS IS OF BULK AT MOST 1048576: true; the input reads as it did. -/
def fnExactNewHeapUptoRow : OpenClaim := { program := "ytmpkdggboniigaa", sum := "36954f029bce4fc497ecf3128f31453e5c66ebaf3f0e397c7e0e74be89ddb06f", func := "loop.example/g00340/laws.FnExactNewHeap", spec := "fnExactNewHeap", apart := false, narrowed := true }
def FnExactNewHeapUptoSaid : Prop := fnExactNewHeapUptoRow.holds Try.pinned (OpenSpec.upto fnExactNewHeapSpec)

/-- 'laws.FnExactNodeOK', WHERE WHAT IT READS IS OF BULK AT MOST 1048576: true; the input reads as it did. -/
def fnExactNodeOKUptoRow : OpenClaim := { program := "ytmpkdggboniigaa", sum := "36954f029bce4fc497ecf3128f31453e5c66ebaf3f0e397c7e0e74be89ddb06f", func := "loop.example/g00340/laws.FnExactNodeOK", spec := "fnExactNodeOK", apart := false, narrowed := true }
def FnExactNodeOKUptoSaid : Prop := fnExactNodeOKUptoRow.holds Try.pinned (OpenSpec.upto fnExactNodeOKSpec)

/-- 'laws.FnExactTreeOK', WHERE WHAT IT READS IS OF BULK AT MOST 1048576: true; the input reads as it did. -/
def fnExactTreeOKUptoRow : OpenClaim := { program := "ytmpkdggboniigaa", sum := "36954f029bce4fc497ecf3128f31453e5c66ebaf3f0e397c7e0e74be89ddb06f", func := "loop.example/g00340/laws.FnExactTreeOK", spec := "fnExactTreeOK", recurses := true, apart := false, narrowed := true }
def FnExactTreeOKUptoSaid : Prop := fnExactTreeOKUptoRow.holds Try.pinned (OpenSpec.upto fnExactTreeOKSpec)

/-- 'laws.FnExactTreePairs', WHERE WHAT IT READS IS OF BULK AT MOST 1048576: true; the input reads as it did. -/
def fnExactTreePairsUptoRow : OpenClaim := { program := "ytmpkdggboniigaa", sum := "36954f029bce4fc497ecf3128f31453e5c66ebaf3f0e397c7e0e74be89ddb06f", func := "loop.example/g00340/laws.FnExactTreePairs", spec := "fnExactTreePairs", recurses := true, apart := false, narrowed := true }
def FnExactTreePairsUptoSaid : Prop := fnExactTreePairsUptoRow.holds Try.pinned (OpenSpec.upto fnExactTreePairsSpec)

/-- 'laws.FnExactTreeGet', WHERE WHAT IT READS IS OF BULK AT MOST 1048576: true; the input reads as it did. -/
def fnExactTreeGetUptoRow : OpenClaim := { program := "ytmpkdggboniigaa", sum := "36954f029bce4fc497ecf3128f31453e5c66ebaf3f0e397c7e0e74be89ddb06f", func := "loop.example/g00340/laws.FnExactTreeGet", spec := "fnExactTreeGet", recurses := true, apart := false, narrowed := true }
def FnExactTreeGetUptoSaid : Prop := fnExactTreeGetUptoRow.holds Try.pinned (OpenSpec.upto fnExactTreeGetSpec)

/-- 'laws.FnExactTreePut', WHERE WHAT IT READS IS OF BULK AT MOST 1048576: true; the input reads as it did. -/
def fnExactTreePutUptoRow : OpenClaim := { program := "ytmpkdggboniigaa", sum := "36954f029bce4fc497ecf3128f31453e5c66ebaf3f0e397c7e0e74be89ddb06f", func := "loop.example/g00340/laws.FnExactTreePut", spec := "fnExactTreePut", recurses := true, apart := false, narrowed := true }
def FnExactTreePutUptoSaid : Prop := fnExactTreePutUptoRow.holds Try.pinned (OpenSpec.upto fnExactTreePutSpec)

/-- 'laws.FnExactTreeDrop', WHERE WHAT IT READS IS OF BULK AT MOST 1048576: true; the input reads as it did. -/
def fnExactTreeDropUptoRow : OpenClaim := { program := "ytmpkdggboniigaa", sum := "36954f029bce4fc497ecf3128f31453e5c66ebaf3f0e397c7e0e74be89ddb06f", func := "loop.example/g00340/laws.FnExactTreeDrop", spec := "fnExactTreeDrop", recurses := true, apart := false, narrowed := true }
def FnExactTreeDropUptoSaid : Prop := fnExactTreeDropUptoRow.holds Try.pinned (OpenSpec.upto fnExactTreeDropSpec)

/-- 'laws.FnExactTreePages', WHERE WHAT IT READS IS OF BULK AT MOST 1048576: true; the input reads as it did. -/
def fnExactTreePagesUptoRow : OpenClaim := { program := "ytmpkdggboniigaa", sum := "36954f029bce4fc497ecf3128f31453e5c66ebaf3f0e397c7e0e74be89ddb06f", func := "loop.example/g00340/laws.FnExactTreePages", spec := "fnExactTreePages", recurses := true, apart := false, narrowed := true }
def FnExactTreePagesUptoSaid : Prop := fnExactTreePagesUptoRow.holds Try.pinned (OpenSpec.upto fnExactTreePagesSpec)

/-- 'laws.FnExactCountRefs', WHERE WHAT IT READS IS OF BULK AT MOST 1048576: true; the input reads as it did. -/
def fnExactCountRefsUptoRow : OpenClaim := { program := "ytmpkdggboniigaa", sum := "36954f029bce4fc497ecf3128f31453e5c66ebaf3f0e397c7e0e74be89ddb06f", func := "loop.example/g00340/laws.FnExactCountRefs", spec := "fnExactCountRefs", recurses := true, apart := false, narrowed := true }
def FnExactCountRefsUptoSaid : Prop := fnExactCountRefsUptoRow.holds Try.pinned (OpenSpec.upto fnExactCountRefsSpec)

end Rows
end Go.Proofs.Ytmpkdggboniigaa
