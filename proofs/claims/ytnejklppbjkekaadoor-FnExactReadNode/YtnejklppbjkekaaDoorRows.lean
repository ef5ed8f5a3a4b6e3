/-
  NARROWER THAN 'FOR EVERY INPUT', by the rows' own cells (each row's printed sentence says how): FnNode: laid · FnSuper: laid · FnExactNodeBytes: laid · FnExactReadNode: laid · FnExactSuperBytes: laid · FnExactReadSuper: laid · FnExactBackupBytes: laid · FnExactPairsSum: laid.
  DERIVED. THE GIVEN ROWS OF THIS SEAT. 8 by the template 'for every input the law returns true; each argument reads behind the call as it read before'; 0 by the template 'total and deterministic' (their statements: YtnejklppbjkekaaDoorTotals.lean).
  GIVEN WITH THE SEED: the statements are not yours to turn. If you find one false, say at which input.
  Laid BY PROGRAM, IN A SANDBOX (cutbox-rows.mjs): the forced cells as the released guide's own fill.sh prints them over the translation 9625b2ed28323692… (all of the seat's roots in one cut). By AI agents, Wed Nov 11 2026. No macro, syntax, notation, axiom, sorry.
-/
import Derived.Test.YtnejklppbjkekaaDoorChecked
import GoSem.Claim
import GoSem.ClaimJoined
import GoSem.ClaimMapViews
import Derived.JoinedTies
import Derived.KernelRfl
namespace Go.Proofs.YtnejklppbjkekaaDoor
/- THE CELL 'sum', in the pinned program and in every row, IS THE sha256 OF THE DUMP (.gsa) THAT YtnejklppbjkekaaDoorProg.lean LOADS. Nothing in Lean hashes anything: it is a label: what it is worth is what the hold of that sum in a sandbox is worth. -/
noncomputable def Tryd.pinned : Pinned := { name := "ytnejklppbjkekaadoor", sum := "9625b2ed283236926272750d057986286303f1b7e40d75af7f7d2c093f6d6b5a", checked := Tryd.checked }
namespace Rows
def none {H : Type} : Left H := { results := [], args := [] }

/- WHAT THE LISTED PACKAGE-LEVEL VARIABLES READ AS WHEN THE CALL BEGINS. Each datum BY PROGRAM (the guide's laid-datum.mjs) off the statement by which the dump's own 'gosem.cut.vars' lays the variable. In a bare row this is a premise. The card (YtnejklppbjkekaaDoorCards.lean) ties it to the program's text. -/
def laid_loop_example_g00340_impl_halfSums {H : Type} : DataW H := .agg [.lit (.int .u32 0), .lit (.int .u32 498536548), .lit (.int .u32 997073096), .lit (.int .u32 651767980), .lit (.int .u32 1994146192), .lit (.int .u32 1802195444), .lit (.int .u32 1303535960), .lit (.int .u32 1342533948), .lit (.int .u32 3988292384), .lit (.int .u32 4027552580), .lit (.int .u32 3604390888), .lit (.int .u32 3412177804), .lit (.int .u32 2607071920), .lit (.int .u32 2262029012), .lit (.int .u32 2685067896), .lit (.int .u32 3183342108)]

/-- 'laws.FnNode': WHATEVER THE INPUT: true; the input reads as it did. -/
def fnNodeSpec : ChangeSpec := { name := "fnNode", vars := ["loop.example/g00340/impl.halfSums"], fn := fun _ => fun
  | [d1, d2, g1] => { results := [.lit (.bool true)], args := [d1, d2], vars := [g1] }
  | _ => none }
def fnNodeRow : OpenClaim := { program := "ytnejklppbjkekaadoor", sum := "9625b2ed283236926272750d057986286303f1b7e40d75af7f7d2c093f6d6b5a", func := "loop.example/g00340/laws.FnNode", spec := "fnNode", recurses := true, named := ["loop.example/g00340/impl.halfSums"], apart := false, laid := [("loop.example/g00340/impl.halfSums", laid_loop_example_g00340_impl_halfSums)] }
def FnNodeSaid : Prop := fnNodeRow.holds Tryd.pinned (OpenSpec.ofChange fnNodeSpec)

/-- ITS FALSE NEIGHBOUR: 'it returns false'. Refute it at one input. -/
def fnNodeWrong : ChangeSpec := { name := "fnNode", vars := ["loop.example/g00340/impl.halfSums"], fn := fun _ => fun
  | [d1, d2, g1] => { results := [.lit (.bool false)], args := [d1, d2], vars := [g1] }
  | _ => none }
def FnNodeWrongFalsely : Prop := fnNodeRow.holds Tryd.pinned (OpenSpec.ofChange fnNodeWrong)

/-- 'laws.FnSuper': WHATEVER THE INPUT: true; the input reads as it did. -/
def fnSuperSpec : ChangeSpec := { name := "fnSuper", vars := ["loop.example/g00340/impl.halfSums"], fn := fun _ => fun
  | [d1, d2, g1] => { results := [.lit (.bool true)], args := [d1, d2], vars := [g1] }
  | _ => none }
def fnSuperRow : OpenClaim := { program := "ytnejklppbjkekaadoor", sum := "9625b2ed283236926272750d057986286303f1b7e40d75af7f7d2c093f6d6b5a", func := "loop.example/g00340/laws.FnSuper", spec := "fnSuper", named := ["loop.example/g00340/impl.halfSums"], apart := false, laid := [("loop.example/g00340/impl.halfSums", laid_loop_example_g00340_impl_halfSums)] }
def FnSuperSaid : Prop := fnSuperRow.holds Tryd.pinned (OpenSpec.ofChange fnSuperSpec)

/-- ITS FALSE NEIGHBOUR: 'it returns false'. Refute it at one input. -/
def fnSuperWrong : ChangeSpec := { name := "fnSuper", vars := ["loop.example/g00340/impl.halfSums"], fn := fun _ => fun
  | [d1, d2, g1] => { results := [.lit (.bool false)], args := [d1, d2], vars := [g1] }
  | _ => none }
def FnSuperWrongFalsely : Prop := fnSuperRow.holds Tryd.pinned (OpenSpec.ofChange fnSuperWrong)

/-- 'laws.FnExactNodeBytes': WHATEVER THE INPUT: true; the input reads as it did. -/
def fnExactNodeBytesSpec : ChangeSpec := { name := "fnExactNodeBytes", vars := ["loop.example/g00340/impl.halfSums"], fn := fun _ => fun
  | [d, g1] => { results := [.lit (.bool true)], args := [d], vars := [g1] }
  | _ => none }
def fnExactNodeBytesRow : OpenClaim := { program := "ytnejklppbjkekaadoor", sum := "9625b2ed283236926272750d057986286303f1b7e40d75af7f7d2c093f6d6b5a", func := "loop.example/g00340/laws.FnExactNodeBytes", spec := "fnExactNodeBytes", named := ["loop.example/g00340/impl.halfSums"], apart := false, laid := [("loop.example/g00340/impl.halfSums", laid_loop_example_g00340_impl_halfSums)] }
def FnExactNodeBytesSaid : Prop := fnExactNodeBytesRow.holds Tryd.pinned (OpenSpec.ofChange fnExactNodeBytesSpec)

/-- ITS FALSE NEIGHBOUR: 'it returns false'. Refute it at one input. -/
def fnExactNodeBytesWrong : ChangeSpec := { name := "fnExactNodeBytes", vars := ["loop.example/g00340/impl.halfSums"], fn := fun _ => fun
  | [d, g1] => { results := [.lit (.bool false)], args := [d], vars := [g1] }
  | _ => none }
def FnExactNodeBytesWrongFalsely : Prop := fnExactNodeBytesRow.holds Tryd.pinned (OpenSpec.ofChange fnExactNodeBytesWrong)

/-- 'laws.FnExactReadNode': WHATEVER THE INPUT: true; the input reads as it did. -/
def fnExactReadNodeSpec : ChangeSpec := { name := "fnExactReadNode", vars := ["loop.example/g00340/impl.halfSums"], fn := fun _ => fun
  | [d, g1] => { results := [.lit (.bool true)], args := [d], vars := [g1] }
  | _ => none }
def fnExactReadNodeRow : OpenClaim := { program := "ytnejklppbjkekaadoor", sum := "9625b2ed283236926272750d057986286303f1b7e40d75af7f7d2c093f6d6b5a", func := "loop.example/g00340/laws.FnExactReadNode", spec := "fnExactReadNode", named := ["loop.example/g00340/impl.halfSums"], apart := false, laid := [("loop.example/g00340/impl.halfSums", laid_loop_example_g00340_impl_halfSums)] }
def FnExactReadNodeSaid : Prop := fnExactReadNodeRow.holds Tryd.pinned (OpenSpec.ofChange fnExactReadNodeSpec)

/-- ITS FALSE NEIGHBOUR: 'it returns false'. Refute it at one input. -/
def fnExactReadNodeWrong : ChangeSpec := { name := "fnExactReadNode", vars := ["loop.example/g00340/impl.halfSums"], fn := fun _ => fun
  | [d, g1] => { results := [.lit (.bool false)], args := [d], vars := [g1] }
  | _ => none }
def FnExactReadNodeWrongFalsely : Prop := fnExactReadNodeRow.holds Tryd.pinned (OpenSpec.ofChange fnExactReadNodeWrong)

/-- 'laws.FnExactSuperBytes': WHATEVER THE INPUT: true; the input reads as it did. -/
def fnExactSuperBytesSpec : ChangeSpec := { name := "fnExactSuperBytes", vars := ["loop.example/g00340/impl.halfSums"], fn := fun _ => fun
  | [d, g1] => { results := [.lit (.bool true)], args := [d], vars := [g1] }
  | _ => none }
def fnExactSuperBytesRow : OpenClaim := { program := "ytnejklppbjkekaadoor", sum := "9625b2ed283236926272750d057986286303f1b7e40d75af7f7d2c093f6d6b5a", func := "loop.example/g00340/laws.FnExactSuperBytes", spec := "fnExactSuperBytes", named := ["loop.example/g00340/impl.halfSums"], apart := false, laid := [("loop.example/g00340/impl.halfSums", laid_loop_example_g00340_impl_halfSums)] }
def FnExactSuperBytesSaid : Prop := fnExactSuperBytesRow.holds Tryd.pinned (OpenSpec.ofChange fnExactSuperBytesSpec)

/-- ITS FALSE NEIGHBOUR: 'it returns false'. Refute it at one input. -/
def fnExactSuperBytesWrong : ChangeSpec := { name := "fnExactSuperBytes", vars := ["loop.example/g00340/impl.halfSums"], fn := fun _ => fun
  | [d, g1] => { results := [.lit (.bool false)], args := [d], vars := [g1] }
  | _ => none }
def FnExactSuperBytesWrongFalsely : Prop := fnExactSuperBytesRow.holds Tryd.pinned (OpenSpec.ofChange fnExactSuperBytesWrong)

/-- 'laws.FnExactReadSuper': WHATEVER THE INPUT: true; the input reads as it did. -/
def fnExactReadSuperSpec : ChangeSpec := { name := "fnExactReadSuper", vars := ["loop.example/g00340/impl.halfSums"], fn := fun _ => fun
  | [d, g1] => { results := [.lit (.bool true)], args := [d], vars := [g1] }
  | _ => none }
def fnExactReadSuperRow : OpenClaim := { program := "ytnejklppbjkekaadoor", sum := "9625b2ed283236926272750d057986286303f1b7e40d75af7f7d2c093f6d6b5a", func := "loop.example/g00340/laws.FnExactReadSuper", spec := "fnExactReadSuper", named := ["loop.example/g00340/impl.halfSums"], apart := false, laid := [("loop.example/g00340/impl.halfSums", laid_loop_example_g00340_impl_halfSums)] }
def FnExactReadSuperSaid : Prop := fnExactReadSuperRow.holds Tryd.pinned (OpenSpec.ofChange fnExactReadSuperSpec)

/-- ITS FALSE NEIGHBOUR: 'it returns false'. Refute it at one input. -/
def fnExactReadSuperWrong : ChangeSpec := { name := "fnExactReadSuper", vars := ["loop.example/g00340/impl.halfSums"], fn := fun _ => fun
  | [d, g1] => { results := [.lit (.bool false)], args := [d], vars := [g1] }
  | _ => none }
def FnExactReadSuperWrongFalsely : Prop := fnExactReadSuperRow.holds Tryd.pinned (OpenSpec.ofChange fnExactReadSuperWrong)

/-- 'laws.FnExactBackupBytes': WHATEVER THE INPUT: true; the input reads as it did. -/
def fnExactBackupBytesSpec : ChangeSpec := { name := "fnExactBackupBytes", vars := ["loop.example/g00340/impl.halfSums"], fn := fun _ => fun
  | [d, g1] => { results := [.lit (.bool true)], args := [d], vars := [g1] }
  | _ => none }
def fnExactBackupBytesRow : OpenClaim := { program := "ytnejklppbjkekaadoor", sum := "9625b2ed283236926272750d057986286303f1b7e40d75af7f7d2c093f6d6b5a", func := "loop.example/g00340/laws.FnExactBackupBytes", spec := "fnExactBackupBytes", named := ["loop.example/g00340/impl.halfSums"], apart := false, laid := [("loop.example/g00340/impl.halfSums", laid_loop_example_g00340_impl_halfSums)] }
def FnExactBackupBytesSaid : Prop := fnExactBackupBytesRow.holds Tryd.pinned (OpenSpec.ofChange fnExactBackupBytesSpec)

/-- ITS FALSE NEIGHBOUR: 'it returns false'. Refute it at one input. -/
def fnExactBackupBytesWrong : ChangeSpec := { name := "fnExactBackupBytes", vars := ["loop.example/g00340/impl.halfSums"], fn := fun _ => fun
  | [d, g1] => { results := [.lit (.bool false)], args := [d], vars := [g1] }
  | _ => none }
def FnExactBackupBytesWrongFalsely : Prop := fnExactBackupBytesRow.holds Tryd.pinned (OpenSpec.ofChange fnExactBackupBytesWrong)

/-- 'laws.FnExactPairsSum': WHATEVER THE INPUT: true; the input reads as it did. -/
def fnExactPairsSumSpec : ChangeSpec := { name := "fnExactPairsSum", vars := ["loop.example/g00340/impl.halfSums"], fn := fun _ => fun
  | [d, g1] => { results := [.lit (.bool true)], args := [d], vars := [g1] }
  | _ => none }
def fnExactPairsSumRow : OpenClaim := { program := "ytnejklppbjkekaadoor", sum := "9625b2ed283236926272750d057986286303f1b7e40d75af7f7d2c093f6d6b5a", func := "loop.example/g00340/laws.FnExactPairsSum", spec := "fnExactPairsSum", named := ["loop.example/g00340/impl.halfSums"], apart := false, laid := [("loop.example/g00340/impl.halfSums", laid_loop_example_g00340_impl_halfSums)] }
def FnExactPairsSumSaid : Prop := fnExactPairsSumRow.holds Tryd.pinned (OpenSpec.ofChange fnExactPairsSumSpec)

/-- ITS FALSE NEIGHBOUR: 'it returns false'. Refute it at one input. -/
def fnExactPairsSumWrong : ChangeSpec := { name := "fnExactPairsSum", vars := ["loop.example/g00340/impl.halfSums"], fn := fun _ => fun
  | [d, g1] => { results := [.lit (.bool false)], args := [d], vars := [g1] }
  | _ => none }
def FnExactPairsSumWrongFalsely : Prop := fnExactPairsSumRow.holds Tryd.pinned (OpenSpec.ofChange fnExactPairsSumWrong)

/- THE SECOND FORM. 'bulk': how many values and letters a reading holds, each counted each time it is reached (what is shared counts as often as it is met; a slice's spare places count too). A statement '..UptoSaid' is the law's where the arguments, and the package variables that the reading takes, are together of bulk at most 1048576: NARROWER than '..Said'. Prove '..Said' where nothing that the law and all that it calls make is longer than what came in: it says more and counts as full. Else prove '..UptoSaid'. A law counts once. -/
mutual
def uptoBulk {H : Type} : DataW H → Nat
  | .lit (.string bytes) => bytes.length + 1
  | .lit _ => 1
  | .nil => 1
  | .ptr d => uptoBulk d + 1
  | .slice elems spare => uptoBulkAll elems + uptoBulkAll spare + 1
  | .agg parts => uptoBulkAll parts + 1
  | .iface _ d => uptoBulk d + 1
  | .map entries => uptoBulkEntries entries + 1
  | .held _ => 1
def uptoBulkAll {H : Type} : List (DataW H) → Nat
  | [] => 0
  | d :: r => uptoBulk d + uptoBulkAll r
def uptoBulkEntries {H : Type} : List (Lit × DataW H) → Nat
  | [] => 0
  | x :: r => uptoBulkEntry x + uptoBulkEntries r
def uptoBulkEntry {H : Type} : Lit × DataW H → Nat
  | (.string bytes, d) => bytes.length + uptoBulk d + 1
  | (_, d) => uptoBulk d + 1
 end
def uptoSmall : (H : Type) → List (DataW H) → Bool := fun _ ds => decide (uptoBulkAll ds ≤ 1048576)
def OpenSpec.upto (s : _root_.Go.ChangeSpec) : _root_.Go.OpenSpec := { _root_.Go.OpenSpec.ofChange s with cond := some uptoSmall }

/-- 'laws.FnNode', WHERE WHAT IT READS IS OF BULK AT MOST 1048576: true; the input reads as it did. -/
def fnNodeUptoRow : OpenClaim := { program := "ytnejklppbjkekaadoor", sum := "9625b2ed283236926272750d057986286303f1b7e40d75af7f7d2c093f6d6b5a", func := "loop.example/g00340/laws.FnNode", spec := "fnNode", recurses := true, named := ["loop.example/g00340/impl.halfSums"], apart := false, laid := [("loop.example/g00340/impl.halfSums", laid_loop_example_g00340_impl_halfSums)], narrowed := true }
def FnNodeUptoSaid : Prop := fnNodeUptoRow.holds Tryd.pinned (OpenSpec.upto fnNodeSpec)

/-- 'laws.FnSuper', WHERE WHAT IT READS IS OF BULK AT MOST 1048576: true; the input reads as it did. -/
def fnSuperUptoRow : OpenClaim := { program := "ytnejklppbjkekaadoor", sum := "9625b2ed283236926272750d057986286303f1b7e40d75af7f7d2c093f6d6b5a", func := "loop.example/g00340/laws.FnSuper", spec := "fnSuper", named := ["loop.example/g00340/impl.halfSums"], apart := false, laid := [("loop.example/g00340/impl.halfSums", laid_loop_example_g00340_impl_halfSums)], narrowed := true }
def FnSuperUptoSaid : Prop := fnSuperUptoRow.holds Tryd.pinned (OpenSpec.upto fnSuperSpec)

/-- 'laws.FnExactNodeBytes', WHERE WHAT IT READS IS OF BULK AT MOST 1048576: true; the input reads as it did. -/
def fnExactNodeBytesUptoRow : OpenClaim := { program := "ytnejklppbjkekaadoor", sum := "9625b2ed283236926272750d057986286303f1b7e40d75af7f7d2c093f6d6b5a", func := "loop.example/g00340/laws.FnExactNodeBytes", spec := "fnExactNodeBytes", named := ["loop.example/g00340/impl.halfSums"], apart := false, laid := [("loop.example/g00340/impl.halfSums", laid_loop_example_g00340_impl_halfSums)], narrowed := true }
def FnExactNodeBytesUptoSaid : Prop := fnExactNodeBytesUptoRow.holds Tryd.pinned (OpenSpec.upto fnExactNodeBytesSpec)

/-- 'laws.FnExactReadNode', WHERE WHAT IT READS IS OF BULK AT MOST 1048576: true; the input reads as it did. -/
def fnExactReadNodeUptoRow : OpenClaim := { program := "ytnejklppbjkekaadoor", sum := "9625b2ed283236926272750d057986286303f1b7e40d75af7f7d2c093f6d6b5a", func := "loop.example/g00340/laws.FnExactReadNode", spec := "fnExactReadNode", named := ["loop.example/g00340/impl.halfSums"], apart := false, laid := [("loop.example/g00340/impl.halfSums", laid_loop_example_g00340_impl_halfSums)], narrowed := true }
def FnExactReadNodeUptoSaid : Prop := fnExactReadNodeUptoRow.holds Tryd.pinned (OpenSpec.upto fnExactReadNodeSpec)

/-- 'laws.FnExactSuperBytes', WHERE WHAT IT READS IS OF BULK AT MOST 1048576: true; the input reads as it did. -/
def fnExactSuperBytesUptoRow : OpenClaim := { program := "ytnejklppbjkekaadoor", sum := "9625b2ed283236926272750d057986286303f1b7e40d75af7f7d2c093f6d6b5a", func := "loop.example/g00340/laws.FnExactSuperBytes", spec := "fnExactSuperBytes", named := ["loop.example/g00340/impl.halfSums"], apart := false, laid := [("loop.example/g00340/impl.halfSums", laid_loop_example_g00340_impl_halfSums)], narrowed := true }
def FnExactSuperBytesUptoSaid : Prop := fnExactSuperBytesUptoRow.holds Tryd.pinned (OpenSpec.upto fnExactSuperBytesSpec)

/-- 'laws.FnExactReadSuper', WHERE WHAT IT READS IS OF BULK AT MOST 1048576: true; the input reads as it did. -/
def fnExactReadSuperUptoRow : OpenClaim := { program := "ytnejklppbjkekaadoor", sum := "9625b2ed283236926272750d057986286303f1b7e40d75af7f7d2c093f6d6b5a", func := "loop.example/g00340/laws.FnExactReadSuper", spec := "fnExactReadSuper", named := ["loop.example/g00340/impl.halfSums"], apart := false, laid := [("loop.example/g00340/impl.halfSums", laid_loop_example_g00340_impl_halfSums)], narrowed := true }
def FnExactReadSuperUptoSaid : Prop := fnExactReadSuperUptoRow.holds Tryd.pinned (OpenSpec.upto fnExactReadSuperSpec)

/-- 'laws.FnExactBackupBytes', WHERE WHAT IT READS IS OF BULK AT MOST 1048576: true; the input reads as it did. -/
def fnExactBackupBytesUptoRow : OpenClaim := { program := "ytnejklppbjkekaadoor", sum := "9625b2ed283236926272750d057986286303f1b7e40d75af7f7d2c093f6d6b5a", func := "loop.example/g00340/laws.FnExactBackupBytes", spec := "fnExactBackupBytes", named := ["loop.example/g00340/impl.halfSums"], apart := false, laid := [("loop.example/g00340/impl.halfSums", laid_loop_example_g00340_impl_halfSums)], narrowed := true }
def FnExactBackupBytesUptoSaid : Prop := fnExactBackupBytesUptoRow.holds Tryd.pinned (OpenSpec.upto fnExactBackupBytesSpec)

/-- 'laws.FnExactPairsSum', WHERE WHAT IT READS IS OF BULK AT MOST 1048576: true; the input reads as it did. -/
def fnExactPairsSumUptoRow : OpenClaim := { program := "ytnejklppbjkekaadoor", sum := "9625b2ed283236926272750d057986286303f1b7e40d75af7f7d2c093f6d6b5a", func := "loop.example/g00340/laws.FnExactPairsSum", spec := "fnExactPairsSum", named := ["loop.example/g00340/impl.halfSums"], apart := false, laid := [("loop.example/g00340/impl.halfSums", laid_loop_example_g00340_impl_halfSums)], narrowed := true }
def FnExactPairsSumUptoSaid : Prop := fnExactPairsSumUptoRow.holds Tryd.pinned (OpenSpec.upto fnExactPairsSumSpec)

end Rows
end Go.Proofs.YtnejklppbjkekaaDoor
