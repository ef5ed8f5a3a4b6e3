/-
  No cell of these rows narrows 'for every input' (looked for: loops, veiled, ifaces, maps, wideKeys, modest, calm, conditions, laid).
  DERIVED. THE GIVEN ROWS OF THIS SEAT. 8 by the template 'for every input the law returns true; each argument reads behind the call as it read before'; 0 by the template 'total and deterministic' (their statements: YtmpaophegdeokaaTotals.lean).
  GIVEN WITH THE SEED: the statements are not yours to turn. If you find one false, say at which input.
  Laid BY PROGRAM, IN A SANDBOX (cutbox-rows.mjs): the forced cells as the released guide's own fill.sh prints them over the translation fd798b39d9216de9… (all of the seat's roots in one cut). By AI agents, Wed Nov 11 2026. No macro, syntax, notation, axiom, sorry.
-/
import Derived.Test.YtmpaophegdeokaaChecked
import GoSem.Claim
import GoSem.ClaimJoined
import GoSem.ClaimMapViews
import Derived.JoinedTies
import Derived.KernelRfl
namespace Go.Proofs.Ytmpaophegdeokaa
/- THE CELL 'sum', in the pinned program and in every row, IS THE sha256 OF THE DUMP (.gsa) THAT YtmpaophegdeokaaProg.lean LOADS. Nothing in Lean hashes anything: it is a label: what it is worth is what the hold of that sum in a sandbox is worth. -/
noncomputable def Try.pinned : Pinned := { name := "ytmpaophegdeokaa", sum := "fd798b39d9216de9d4d971f3410d5dbe9aedcb8833936761d80eb2def3bd0c52", checked := Try.checked }
namespace Rows
def none {H : Type} : Left H := { results := [], args := [] }

/-- 'laws.FnPairs': WHATEVER THE INPUT: true; the input reads as it did. -/
def fnPairsSpec : ChangeSpec := { name := "fnPairs", fn := fun _ => fun
  | [d1, d2] => { results := [.lit (.bool true)], args := [d1, d2] }
  | _ => none }
def fnPairsRow : OpenClaim := { program := "ytmpaophegdeokaa", sum := "fd798b39d9216de9d4d971f3410d5dbe9aedcb8833936761d80eb2def3bd0c52", func := "loop.example/g00340/laws.FnPairs", spec := "fnPairs", apart := false }
def FnPairsSaid : Prop := fnPairsRow.holds Try.pinned (OpenSpec.ofChange fnPairsSpec)

/-- ITS FALSE NEIGHBOUR: 'it returns false'. Refute it at one input. -/
def fnPairsWrong : ChangeSpec := { name := "fnPairs", fn := fun _ => fun
  | [d1, d2] => { results := [.lit (.bool false)], args := [d1, d2] }
  | _ => none }
def FnPairsWrongFalsely : Prop := fnPairsRow.holds Try.pinned (OpenSpec.ofChange fnPairsWrong)

/-- 'laws.FnDisk': WHATEVER THE INPUT: true; the input reads as it did. -/
def fnDiskSpec : ChangeSpec := { name := "fnDisk", fn := fun _ => fun
  | [d1, d2] => { results := [.lit (.bool true)], args := [d1, d2] }
  | _ => none }
def fnDiskRow : OpenClaim := { program := "ytmpaophegdeokaa", sum := "fd798b39d9216de9d4d971f3410d5dbe9aedcb8833936761d80eb2def3bd0c52", func := "loop.example/g00340/laws.FnDisk", spec := "fnDisk", apart := false }
def FnDiskSaid : Prop := fnDiskRow.holds Try.pinned (OpenSpec.ofChange fnDiskSpec)

/-- ITS FALSE NEIGHBOUR: 'it returns false'. Refute it at one input. -/
def fnDiskWrong : ChangeSpec := { name := "fnDisk", fn := fun _ => fun
  | [d1, d2] => { results := [.lit (.bool false)], args := [d1, d2] }
  | _ => none }
def FnDiskWrongFalsely : Prop := fnDiskRow.holds Try.pinned (OpenSpec.ofChange fnDiskWrong)

/-- 'laws.FnDiff': WHATEVER THE INPUT: true; the input reads as it did. -/
def fnDiffSpec : ChangeSpec := { name := "fnDiff", fn := fun _ => fun
  | [d1, d2] => { results := [.lit (.bool true)], args := [d1, d2] }
  | _ => none }
def fnDiffRow : OpenClaim := { program := "ytmpaophegdeokaa", sum := "fd798b39d9216de9d4d971f3410d5dbe9aedcb8833936761d80eb2def3bd0c52", func := "loop.example/g00340/laws.FnDiff", spec := "fnDiff", recurses := true, apart := false }
def FnDiffSaid : Prop := fnDiffRow.holds Try.pinned (OpenSpec.ofChange fnDiffSpec)

/-- ITS FALSE NEIGHBOUR: 'it returns false'. Refute it at one input. -/
def fnDiffWrong : ChangeSpec := { name := "fnDiff", fn := fun _ => fun
  | [d1, d2] => { results := [.lit (.bool false)], args := [d1, d2] }
  | _ => none }
def FnDiffWrongFalsely : Prop := fnDiffRow.holds Try.pinned (OpenSpec.ofChange fnDiffWrong)

/-- 'laws.FnExactPairPut': WHATEVER THE INPUT: true; the input reads as it did. -/
def fnExactPairPutSpec : ChangeSpec := { name := "fnExactPairPut", fn := fun _ => fun
  | [d1, d2, d3] => { results := [.lit (.bool true)], args := [d1, d2, d3] }
  | _ => none }
def fnExactPairPutRow : OpenClaim := { program := "ytmpaophegdeokaa", sum := "fd798b39d9216de9d4d971f3410d5dbe9aedcb8833936761d80eb2def3bd0c52", func := "loop.example/g00340/laws.FnExactPairPut", spec := "fnExactPairPut", apart := false }
def FnExactPairPutSaid : Prop := fnExactPairPutRow.holds Try.pinned (OpenSpec.ofChange fnExactPairPutSpec)

/-- ITS FALSE NEIGHBOUR: 'it returns false'. Refute it at one input. -/
def fnExactPairPutWrong : ChangeSpec := { name := "fnExactPairPut", fn := fun _ => fun
  | [d1, d2, d3] => { results := [.lit (.bool false)], args := [d1, d2, d3] }
  | _ => none }
def FnExactPairPutWrongFalsely : Prop := fnExactPairPutRow.holds Try.pinned (OpenSpec.ofChange fnExactPairPutWrong)

/-- 'laws.FnExactPairDrop': WHATEVER THE INPUT: true; the input reads as it did. -/
def fnExactPairDropSpec : ChangeSpec := { name := "fnExactPairDrop", fn := fun _ => fun
  | [d1, d2] => { results := [.lit (.bool true)], args := [d1, d2] }
  | _ => none }
def fnExactPairDropRow : OpenClaim := { program := "ytmpaophegdeokaa", sum := "fd798b39d9216de9d4d971f3410d5dbe9aedcb8833936761d80eb2def3bd0c52", func := "loop.example/g00340/laws.FnExactPairDrop", spec := "fnExactPairDrop", apart := false }
def FnExactPairDropSaid : Prop := fnExactPairDropRow.holds Try.pinned (OpenSpec.ofChange fnExactPairDropSpec)

/-- ITS FALSE NEIGHBOUR: 'it returns false'. Refute it at one input. -/
def fnExactPairDropWrong : ChangeSpec := { name := "fnExactPairDrop", fn := fun _ => fun
  | [d1, d2] => { results := [.lit (.bool false)], args := [d1, d2] }
  | _ => none }
def FnExactPairDropWrongFalsely : Prop := fnExactPairDropRow.holds Try.pinned (OpenSpec.ofChange fnExactPairDropWrong)

/-- 'laws.FnExactCountRefs': WHATEVER THE INPUT: true; the input reads as it did. -/
def fnExactCountRefsSpec : ChangeSpec := { name := "fnExactCountRefs", fn := fun _ => fun
  | [d1, d2] => { results := [.lit (.bool true)], args := [d1, d2] }
  | _ => none }
def fnExactCountRefsRow : OpenClaim := { program := "ytmpaophegdeokaa", sum := "fd798b39d9216de9d4d971f3410d5dbe9aedcb8833936761d80eb2def3bd0c52", func := "loop.example/g00340/laws.FnExactCountRefs", spec := "fnExactCountRefs", recurses := true, apart := false }
def FnExactCountRefsSaid : Prop := fnExactCountRefsRow.holds Try.pinned (OpenSpec.ofChange fnExactCountRefsSpec)

/-- ITS FALSE NEIGHBOUR: 'it returns false'. Refute it at one input. -/
def fnExactCountRefsWrong : ChangeSpec := { name := "fnExactCountRefs", fn := fun _ => fun
  | [d1, d2] => { results := [.lit (.bool false)], args := [d1, d2] }
  | _ => none }
def FnExactCountRefsWrongFalsely : Prop := fnExactCountRefsRow.holds Try.pinned (OpenSpec.ofChange fnExactCountRefsWrong)

/-- 'laws.FnExactDiffPairs': WHATEVER THE INPUT: true; the input reads as it did. -/
def fnExactDiffPairsSpec : ChangeSpec := { name := "fnExactDiffPairs", fn := fun _ => fun
  | [d1, d2] => { results := [.lit (.bool true)], args := [d1, d2] }
  | _ => none }
def fnExactDiffPairsRow : OpenClaim := { program := "ytmpaophegdeokaa", sum := "fd798b39d9216de9d4d971f3410d5dbe9aedcb8833936761d80eb2def3bd0c52", func := "loop.example/g00340/laws.FnExactDiffPairs", spec := "fnExactDiffPairs", recurses := true, apart := false }
def FnExactDiffPairsSaid : Prop := fnExactDiffPairsRow.holds Try.pinned (OpenSpec.ofChange fnExactDiffPairsSpec)

/-- ITS FALSE NEIGHBOUR: 'it returns false'. Refute it at one input. -/
def fnExactDiffPairsWrong : ChangeSpec := { name := "fnExactDiffPairs", fn := fun _ => fun
  | [d1, d2] => { results := [.lit (.bool false)], args := [d1, d2] }
  | _ => none }
def FnExactDiffPairsWrongFalsely : Prop := fnExactDiffPairsRow.holds Try.pinned (OpenSpec.ofChange fnExactDiffPairsWrong)

/-- 'laws.FnExactApplyDiff': WHATEVER THE INPUT: true; the input reads as it did. -/
def fnExactApplyDiffSpec : ChangeSpec := { name := "fnExactApplyDiff", fn := fun _ => fun
  | [d1, d2] => { results := [.lit (.bool true)], args := [d1, d2] }
  | _ => none }
def fnExactApplyDiffRow : OpenClaim := { program := "ytmpaophegdeokaa", sum := "fd798b39d9216de9d4d971f3410d5dbe9aedcb8833936761d80eb2def3bd0c52", func := "loop.example/g00340/laws.FnExactApplyDiff", spec := "fnExactApplyDiff", apart := false }
def FnExactApplyDiffSaid : Prop := fnExactApplyDiffRow.holds Try.pinned (OpenSpec.ofChange fnExactApplyDiffSpec)

/-- ITS FALSE NEIGHBOUR: 'it returns false'. Refute it at one input. -/
def fnExactApplyDiffWrong : ChangeSpec := { name := "fnExactApplyDiff", fn := fun _ => fun
  | [d1, d2] => { results := [.lit (.bool false)], args := [d1, d2] }
  | _ => none }
def FnExactApplyDiffWrongFalsely : Prop := fnExactApplyDiffRow.holds Try.pinned (OpenSpec.ofChange fnExactApplyDiffWrong)

/- THE SECOND FORM. 'bulk': how many values and letters a reading holds, each counted each time it is reached (what is shared counts as often as it is met; a slice's spare places count too). A statement '..UptoSaid' is the law's where the arguments, and the package variables that the reading takes, are together of bulk at most 1048576: NARROWER than '..Said'. Prove '..Said' where nothing that the law and all that it calls make is longer than what came in: it says more and counts as full. Else prove '..UptoSaid'. A law counts once. -/
mutual
def uptoBulk {H : Type} : DataW H → Nat
  | .lit (.string bytes) => bytes.length + 1
  | .lit _ => 1
  | .nil => 1
  | .ptr d => uptoBulk d + 1
  | .slice elems spare => uptoBulkAll elems + uptoBulkAll spare + 1
  | .agg parts => uptoBulkAll parts + 1
  | .iface _ d => uptoBulk d + 1
  | .map entries => uptoBulkEntries entries + 1
  | .held _ => 1
def uptoBulkAll {H : Type} : List (DataW H) → Nat
  | [] => 0
  | d :: r => uptoBulk d + uptoBulkAll r
def uptoBulkEntries {H : Type} : List (Lit × DataW H) → Nat
  | [] => 0
  | x :: r => uptoBulkEntry x + uptoBulkEntries r
def uptoBulkEntry {H : Type} : Lit × DataW H → Nat
  | (.string bytes, d) => bytes.length + uptoBulk d + 1
  | (_, d) => uptoBulk d + 1
 end
def uptoSmall : (H : Type) → List (DataW H) → Bool := fun _ ds => decide (uptoBulkAll ds ≤ 1048576)
def OpenSpec.upto (s : _root_.Go.ChangeSpec) : _root_.Go.OpenSpec := { _root_.Go.OpenSpec.ofChange s with cond := some uptoSmall }

/-- 'laws.FnPairs', WHERE WHAT IT READS IS OF BULK AT MOST 1048576: true; the input reads as it did. -/
def fnPairsUptoRow : OpenClaim := { program := "ytmpaophegdeokaa", sum := "fd798b39d9216de9d4d971f3410d5dbe9aedcb8833936761d80eb2def3bd0c52", func := "loop.example/g00340/laws.FnPairs", spec := "fnPairs", apart := false, narrowed := true }
def FnPairsUptoSaid : Prop := fnPairsUptoRow.holds Try.pinned (OpenSpec.upto fnPairsSpec)

/-- 'laws.FnDisk', WHERE WHAT IT READS IS OF BULK AT MOST 1048576: true; the input reads as it did. -/
def fnDiskUptoRow : OpenClaim := { program := "ytmpaophegdeokaa", sum := "fd798b39d9216de9d4d971f3410d5dbe9aedcb8833936761d80eb2def3bd0c52", func := "loop.example/g00340/laws.FnDisk", spec := "fnDisk", apart := false, narrowed := true }
def FnDiskUptoSaid : Prop := fnDiskUptoRow.holds Try.pinned (OpenSpec.upto fnDiskSpec)

/-- 'laws.FnDiff', WHERE WHAT IT READS IS OF BULK AT MOST 1048576: true; the input reads as it did. -/
def fnDiffUptoRow : OpenClaim := { program := "ytmpaophegdeokaa", sum := "fd798b39d9216de9d4d971f3410d5dbe9aedcb8833936761d80eb2def3bd0c52", func := "loop.example/g00340/laws.FnDiff", spec := "fnDiff", recurses := true, apart := false, narrowed := true }
def FnDiffUptoSaid : Prop := fnDiffUptoRow.holds Try.pinned (OpenSpec.upto fnDiffSpec)

/-- 'laws.FnExactPairPut', WHERE WHAT IT READS IS OF BULK AT MOST 1048576: true; the input reads as it did. -/
def fnExactPairPutUptoRow : OpenClaim := { program := "ytmpaophegdeokaa", sum := "fd798b39d9216de9d4d971f3410d5dbe9aedcb8833936761d80eb2def3bd0c52", func := "loop.example/g00340/laws.FnExactPairPut", spec := "fnExactPairPut", apart := false, narrowed := true }
def FnExactPairPutUptoSaid : Prop := fnExactPairPutUptoRow.holds Try.pinned (OpenSpec.upto fnExactPairPutSpec)

/-- 'laws.FnExactPairDrop', WHERE WHAT IT READS IS OF BULK AT MOST 1048576: true; the input reads as it did. -/
def fnExactPairDropUptoRow : OpenClaim := { program := "ytmpaophegdeokaa", sum := "fd798b39d9216de9d4d971f3410d5dbe9aedcb8833936761d80eb2def3bd0c52", func := "loop.example/g00340/laws.FnExactPairDrop", spec := "fnExactPairDrop", apart := false, narrowed := true }
def FnExactPairDropUptoSaid : Prop := fnExactPairDropUptoRow.holds Try.pinned (OpenSpec.upto fnExactPairDropSpec)

/-- 'laws.FnExactCountRefs', WHERE WHAT IT READS IS OF BULK AT MOST 1048576: true; the input reads as it did. -/
def fnExactCountRefsUptoRow : OpenClaim := { program := "ytmpaophegdeokaa", sum := "fd798b39d9216de9d4d971f3410d5dbe9aedcb8833936761d80eb2def3bd0c52", func := "loop.example/g00340/laws.FnExactCountRefs", spec := "fnExactCountRefs", recurses := true, apart := false, narrowed := true }
def FnExactCountRefsUptoSaid : Prop := fnExactCountRefsUptoRow.holds Try.pinned (OpenSpec.upto fnExactCountRefsSpec)

/-- 'laws.FnExactDiffPairs', WHERE WHAT IT READS IS OF BULK AT MOST 1048576: true; the input reads as it did. -/
def fnExactDiffPairsUptoRow : OpenClaim := { program := "ytmpaophegdeokaa", sum := "fd798b39d9216de9d4d971f3410d5dbe9aedcb8833936761d80eb2def3bd0c52", func := "loop.example/g00340/laws.FnExactDiffPairs", spec := "fnExactDiffPairs", recurses := true, apart := false, narrowed := true }
def FnExactDiffPairsUptoSaid : Prop := fnExactDiffPairsUptoRow.holds Try.pinned (OpenSpec.upto fnExactDiffPairsSpec)

/-- 'laws.FnExactApplyDiff', WHERE WHAT IT READS IS OF BULK AT MOST 1048576: true; the input reads as it did. -/
def fnExactApplyDiffUptoRow : OpenClaim := { program := "ytmpaophegdeokaa", sum := "fd798b39d9216de9d4d971f3410d5dbe9aedcb8833936761d80eb2def3bd0c52", func := "loop.example/g00340/laws.FnExactApplyDiff", spec := "fnExactApplyDiff", apart := false, narrowed := true }
def FnExactApplyDiffUptoSaid : Prop := fnExactApplyDiffUptoRow.holds Try.pinned (OpenSpec.upto fnExactApplyDiffSpec)

end Rows
end Go.Proofs.Ytmpaophegdeokaa
