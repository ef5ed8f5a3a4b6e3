/-
  NARROWER THAN 'FOR EVERY INPUT', by the rows' own cells (each row's printed sentence says how): FnExactReplay: ifaces, laid · FnExactReplayAll: ifaces, laid · FnExactRestoreArchive: ifaces, laid · FnReplay: ifaces, laid.
  DERIVED. THE GIVEN ROWS OF THIS SEAT. 4 by the template 'for every input the law returns true; each argument reads behind the call as it read before'; 0 by the template 'total and deterministic' (their statements: YtmbndpgoihdpnaaGreatDoorTotals.lean).
  GIVEN WITH THE SEED: the statements are not yours to turn. If you find one false, say at which input.
  Laid BY PROGRAM, IN A SANDBOX (cutbox-rows.mjs): the forced cells as the released guide's own fill.sh prints them over the translation 7625bd1fde6fccf4… (all of the seat's roots in one cut). By AI agents, Wed Nov 11 2026. No macro, syntax, notation, axiom, sorry.
-/
import Derived.Test.YtmbndpgoihdpnaaGreatDoorChecked
import GoSem.Claim
import GoSem.ClaimJoined
import GoSem.ClaimMapViews
import Derived.JoinedTies
import Derived.KernelRfl
namespace Go.Proofs.YtmbndpgoihdpnaaGreatDoor
/- THE CELL 'sum', in the pinned program and in every row, IS THE sha256 OF THE DUMP (.gsa) THAT YtmbndpgoihdpnaaGreatDoorProg.lean LOADS. Nothing in Lean hashes anything: it is a label: what it is worth is what the hold of that sum in a sandbox is worth. -/
noncomputable def Tryz.pinned : Pinned := { name := "ytmbndpgoihdpnaagreatdoor", sum := "7625bd1fde6fccf4ffad2f24ffbbe60891850b53424a48cc984455e5b6ea7635", checked := Tryz.checked }
namespace Rows
def none {H : Type} : Left H := { results := [], args := [] }

/- WHAT THE LISTED PACKAGE-LEVEL VARIABLES READ AS WHEN THE CALL BEGINS. Each datum BY PROGRAM (the guide's laid-datum.mjs) off the statement by which the dump's own 'gosem.cut.vars' lays the variable. In a bare row this is a premise. The card (YtmbndpgoihdpnaaGreatDoorCards.lean) ties it to the program's text. -/
def laid_errors_errorType {H : Type} : DataW H := .iface "internal/reflectlite.rtype" (.agg [.ptr (.lit (.string [101, 114, 114, 111, 114]))])
def laid_loop_example_g00340_impl_halfSums {H : Type} : DataW H := .agg [.lit (.int .u32 0), .lit (.int .u32 498536548), .lit (.int .u32 997073096), .lit (.int .u32 651767980), .lit (.int .u32 1994146192), .lit (.int .u32 1802195444), .lit (.int .u32 1303535960), .lit (.int .u32 1342533948), .lit (.int .u32 3988292384), .lit (.int .u32 4027552580), .lit (.int .u32 3604390888), .lit (.int .u32 3412177804), .lit (.int .u32 2607071920), .lit (.int .u32 2262029012), .lit (.int .u32 2685067896), .lit (.int .u32 3183342108)]
def laid_loop_example_g00340_impl_errLink {H : Type} : DataW H := .iface "*errors.errorString" (.ptr (.agg [.lit (.string [110, 111, 116, 32, 116, 104, 101, 32, 108, 105, 110, 107, 32, 111, 102, 32, 116, 104, 101, 32, 98, 97, 99, 107, 117, 112])]))
def laid_loop_example_g00340_impl_errForm {H : Type} : DataW H := .iface "*errors.errorString" (.ptr (.agg [.lit (.string [110, 111, 32, 98, 121, 116, 101, 115, 32, 111, 102, 32, 97, 32, 98, 97, 99, 107, 117, 112])]))

/-- 'laws.FnExactReplay': WHATEVER THE INPUT: true; the input reads as it did. -/
def fnExactReplaySpec : ChangeSpec := { name := "fnExactReplay", vars := ["loop.example/g00340/impl.halfSums", "loop.example/g00340/impl.errLink"], fn := fun _ => fun
  | [d1, d2, d3, d4, g1, g2] => { results := [.lit (.bool true)], args := [d1, d2, d3, d4], vars := [g1, g2] }
  | _ => none }
def fnExactReplayRow : OpenClaim := { program := "ytmbndpgoihdpnaagreatdoor", sum := "7625bd1fde6fccf4ffad2f24ffbbe60891850b53424a48cc984455e5b6ea7635", func := "loop.example/g00340/laws.FnExactReplay", spec := "fnExactReplay", inPlace := ["internal/reflectlite.ValueOf", "(internal/reflectlite.Value).Type", "(internal/reflectlite.Value).IsNil", "internal/reflectlite.TypeOf", "(internal/reflectlite.Value).Elem", "(internal/reflectlite.Value).Set"], unfollowed := true, recurses := true, named := ["loop.example/g00340/impl.halfSums", "loop.example/g00340/impl.errLink", "errors.errorType"], ifaces := true, apart := false, laid := [("errors.errorType", laid_errors_errorType), ("loop.example/g00340/impl.halfSums", laid_loop_example_g00340_impl_halfSums), ("loop.example/g00340/impl.errLink", laid_loop_example_g00340_impl_errLink)] }
def FnExactReplaySaid : Prop := fnExactReplayRow.holds Tryz.pinned (OpenSpec.ofChange fnExactReplaySpec)

/-- ITS FALSE NEIGHBOUR: 'it returns false'. Refute it at one input. -/
def fnExactReplayWrong : ChangeSpec := { name := "fnExactReplay", vars := ["loop.example/g00340/impl.halfSums", "loop.example/g00340/impl.errLink"], fn := fun _ => fun
  | [d1, d2, d3, d4, g1, g2] => { results := [.lit (.bool false)], args := [d1, d2, d3, d4], vars := [g1, g2] }
  | _ => none }
def FnExactReplayWrongFalsely : Prop := fnExactReplayRow.holds Tryz.pinned (OpenSpec.ofChange fnExactReplayWrong)

/-- 'laws.FnExactReplayAll': WHATEVER THE INPUT: true; the input reads as it did. -/
def fnExactReplayAllSpec : ChangeSpec := { name := "fnExactReplayAll", vars := ["loop.example/g00340/impl.halfSums", "loop.example/g00340/impl.errLink"], fn := fun _ => fun
  | [d, g1, g2] => { results := [.lit (.bool true)], args := [d], vars := [g1, g2] }
  | _ => none }
def fnExactReplayAllRow : OpenClaim := { program := "ytmbndpgoihdpnaagreatdoor", sum := "7625bd1fde6fccf4ffad2f24ffbbe60891850b53424a48cc984455e5b6ea7635", func := "loop.example/g00340/laws.FnExactReplayAll", spec := "fnExactReplayAll", inPlace := ["internal/reflectlite.ValueOf", "(internal/reflectlite.Value).Type", "(internal/reflectlite.Value).IsNil", "internal/reflectlite.TypeOf", "(internal/reflectlite.Value).Elem", "(internal/reflectlite.Value).Set"], unfollowed := true, recurses := true, named := ["loop.example/g00340/impl.halfSums", "loop.example/g00340/impl.errLink", "errors.errorType"], ifaces := true, apart := false, laid := [("errors.errorType", laid_errors_errorType), ("loop.example/g00340/impl.halfSums", laid_loop_example_g00340_impl_halfSums), ("loop.example/g00340/impl.errLink", laid_loop_example_g00340_impl_errLink)] }
def FnExactReplayAllSaid : Prop := fnExactReplayAllRow.holds Tryz.pinned (OpenSpec.ofChange fnExactReplayAllSpec)

/-- ITS FALSE NEIGHBOUR: 'it returns false'. Refute it at one input. -/
def fnExactReplayAllWrong : ChangeSpec := { name := "fnExactReplayAll", vars := ["loop.example/g00340/impl.halfSums", "loop.example/g00340/impl.errLink"], fn := fun _ => fun
  | [d, g1, g2] => { results := [.lit (.bool false)], args := [d], vars := [g1, g2] }
  | _ => none }
def FnExactReplayAllWrongFalsely : Prop := fnExactReplayAllRow.holds Tryz.pinned (OpenSpec.ofChange fnExactReplayAllWrong)

/-- 'laws.FnExactRestoreArchive': WHATEVER THE INPUT: true; the input reads as it did. -/
def fnExactRestoreArchiveSpec : ChangeSpec := { name := "fnExactRestoreArchive", vars := ["loop.example/g00340/impl.errForm", "loop.example/g00340/impl.errLink", "loop.example/g00340/impl.halfSums"], fn := fun _ => fun
  | [d, g1, g2, g3] => { results := [.lit (.bool true)], args := [d], vars := [g1, g2, g3] }
  | _ => none }
def fnExactRestoreArchiveRow : OpenClaim := { program := "ytmbndpgoihdpnaagreatdoor", sum := "7625bd1fde6fccf4ffad2f24ffbbe60891850b53424a48cc984455e5b6ea7635", func := "loop.example/g00340/laws.FnExactRestoreArchive", spec := "fnExactRestoreArchive", inPlace := ["internal/reflectlite.ValueOf", "(internal/reflectlite.Value).Type", "(internal/reflectlite.Value).IsNil", "internal/reflectlite.TypeOf", "(internal/reflectlite.Value).Elem", "(internal/reflectlite.Value).Set"], unfollowed := true, recurses := true, named := ["loop.example/g00340/impl.errForm", "loop.example/g00340/impl.errLink", "loop.example/g00340/impl.halfSums", "errors.errorType"], ifaces := true, apart := false, laid := [("errors.errorType", laid_errors_errorType), ("loop.example/g00340/impl.halfSums", laid_loop_example_g00340_impl_halfSums), ("loop.example/g00340/impl.errForm", laid_loop_example_g00340_impl_errForm), ("loop.example/g00340/impl.errLink", laid_loop_example_g00340_impl_errLink)] }
def FnExactRestoreArchiveSaid : Prop := fnExactRestoreArchiveRow.holds Tryz.pinned (OpenSpec.ofChange fnExactRestoreArchiveSpec)

/-- ITS FALSE NEIGHBOUR: 'it returns false'. Refute it at one input. -/
def fnExactRestoreArchiveWrong : ChangeSpec := { name := "fnExactRestoreArchive", vars := ["loop.example/g00340/impl.errForm", "loop.example/g00340/impl.errLink", "loop.example/g00340/impl.halfSums"], fn := fun _ => fun
  | [d, g1, g2, g3] => { results := [.lit (.bool false)], args := [d], vars := [g1, g2, g3] }
  | _ => none }
def FnExactRestoreArchiveWrongFalsely : Prop := fnExactRestoreArchiveRow.holds Tryz.pinned (OpenSpec.ofChange fnExactRestoreArchiveWrong)

/-- 'laws.FnReplay': WHATEVER THE INPUT: true; the input reads as it did. -/
def fnReplaySpec : ChangeSpec := { name := "fnReplay", vars := ["loop.example/g00340/impl.halfSums", "loop.example/g00340/impl.errLink"], fn := fun _ => fun
  | [d1, d2, g1, g2] => { results := [.lit (.bool true)], args := [d1, d2], vars := [g1, g2] }
  | _ => none }
def fnReplayRow : OpenClaim := { program := "ytmbndpgoihdpnaagreatdoor", sum := "7625bd1fde6fccf4ffad2f24ffbbe60891850b53424a48cc984455e5b6ea7635", func := "loop.example/g00340/laws.FnReplay", spec := "fnReplay", inPlace := ["internal/reflectlite.ValueOf", "(internal/reflectlite.Value).Type", "(internal/reflectlite.Value).IsNil", "internal/reflectlite.TypeOf", "(internal/reflectlite.Value).Elem", "(internal/reflectlite.Value).Set"], unfollowed := true, recurses := true, named := ["loop.example/g00340/impl.halfSums", "loop.example/g00340/impl.errLink", "errors.errorType"], ifaces := true, apart := false, laid := [("errors.errorType", laid_errors_errorType), ("loop.example/g00340/impl.halfSums", laid_loop_example_g00340_impl_halfSums), ("loop.example/g00340/impl.errLink", laid_loop_example_g00340_impl_errLink)] }
def FnReplaySaid : Prop := fnReplayRow.holds Tryz.pinned (OpenSpec.ofChange fnReplaySpec)

/-- ITS FALSE NEIGHBOUR: 'it returns false'. Refute it at one input. -/
def fnReplayWrong : ChangeSpec := { name := "fnReplay", vars := ["loop.example/g00340/impl.halfSums", "loop.example/g00340/impl.errLink"], fn := fun _ => fun
  | [d1, d2, g1, g2] => { results := [.lit (.bool false)], args := [d1, d2], vars := [g1, g2] }
  | _ => none }
def FnReplayWrongFalsely : Prop := fnReplayRow.holds Tryz.pinned (OpenSpec.ofChange fnReplayWrong)

/- THE SECOND FORM. 'bulk': how many values and letters a reading holds, each counted each time it is reached (what is shared counts as often as it is met; a slice's spare places count too). A statement '..UptoSaid' is the law's where the arguments, and the package variables that the reading takes, are together of bulk at most 1048576: NARROWER than '..Said'. Prove '..Said' where nothing that the law and all that it calls make is longer than what came in: it says more and counts as full. Else prove '..UptoSaid'. A law counts once. -/
mutual
def uptoBulk {H : Type} : DataW H → Nat
  | .lit (.string bytes) => bytes.length + 1
  | .lit _ => 1
  | .nil => 1
  | .ptr d => uptoBulk d + 1
  | .slice elems spare => uptoBulkAll elems + uptoBulkAll spare + 1
  | .agg parts => uptoBulkAll parts + 1
  | .iface _ d => uptoBulk d + 1
  | .map entries => uptoBulkEntries entries + 1
  | .held _ => 1
def uptoBulkAll {H : Type} : List (DataW H) → Nat
  | [] => 0
  | d :: r => uptoBulk d + uptoBulkAll r
def uptoBulkEntries {H : Type} : List (Lit × DataW H) → Nat
  | [] => 0
  | x :: r => uptoBulkEntry x + uptoBulkEntries r
def uptoBulkEntry {H : Type} : Lit × DataW H → Nat
  | (.string bytes, d) => bytes.length + uptoBulk d + 1
  | (_, d) => uptoBulk d + 1
 end
def uptoSmall : (H : Type) → List (DataW H) → Bool := fun _ ds => decide (uptoBulkAll ds ≤ 1048576)
def OpenSpec.upto (s : _root_.Go.ChangeSpec) : _root_.Go.OpenSpec := { _root_.Go.OpenSpec.ofChange s with cond := some uptoSmall }

/-- 'laws.FnExactReplay', WHERE WHAT IT READS IS OF BULK AT MOST 1048576: true; the input reads as it did. -/
def fnExactReplayUptoRow : OpenClaim := { program := "ytmbndpgoihdpnaagreatdoor", sum := "7625bd1fde6fccf4ffad2f24ffbbe60891850b53424a48cc984455e5b6ea7635", func := "loop.example/g00340/laws.FnExactReplay", spec := "fnExactReplay", inPlace := ["internal/reflectlite.ValueOf", "(internal/reflectlite.Value).Type", "(internal/reflectlite.Value).IsNil", "internal/reflectlite.TypeOf", "(internal/reflectlite.Value).Elem", "(internal/reflectlite.Value).Set"], unfollowed := true, recurses := true, named := ["loop.example/g00340/impl.halfSums", "loop.example/g00340/impl.errLink", "errors.errorType"], ifaces := true, apart := false, laid := [("errors.errorType", laid_errors_errorType), ("loop.example/g00340/impl.halfSums", laid_loop_example_g00340_impl_halfSums), ("loop.example/g00340/impl.errLink", laid_loop_example_g00340_impl_errLink)], narrowed := true }
def FnExactReplayUptoSaid : Prop := fnExactReplayUptoRow.holds Tryz.pinned (OpenSpec.upto fnExactReplaySpec)

/-- 'laws.FnExactReplayAll', WHERE WHAT IT READS IS OF BULK AT MOST 1048576: true; the input reads as it did. -/
def fnExactReplayAllUptoRow : OpenClaim := { program := "ytmbndpgoihdpnaagreatdoor", sum := "7625bd1fde6fccf4ffad2f24ffbbe60891850b53424a48cc984455e5b6ea7635", func := "loop.example/g00340/laws.FnExactReplayAll", spec := "fnExactReplayAll", inPlace := ["internal/reflectlite.ValueOf", "(internal/reflectlite.Value).Type", "(internal/reflectlite.Value).IsNil", "internal/reflectlite.TypeOf", "(internal/reflectlite.Value).Elem", "(internal/reflectlite.Value).Set"], unfollowed := true, recurses := true, named := ["loop.example/g00340/impl.halfSums", "loop.example/g00340/impl.errLink", "errors.errorType"], ifaces := true, apart := false, laid := [("errors.errorType", laid_errors_errorType), ("loop.example/g00340/impl.halfSums", laid_loop_example_g00340_impl_halfSums), ("loop.example/g00340/impl.errLink", laid_loop_example_g00340_impl_errLink)], narrowed := true }
def FnExactReplayAllUptoSaid : Prop := fnExactReplayAllUptoRow.holds Tryz.pinned (OpenSpec.upto fnExactReplayAllSpec)

/-- 'laws.FnExactRestoreArchive', WHERE WHAT IT READS IS OF BULK AT MOST 1048576: true; the input reads as it did. -/
def fnExactRestoreArchiveUptoRow : OpenClaim := { program := "ytmbndpgoihdpnaagreatdoor", sum := "7625bd1fde6fccf4ffad2f24ffbbe60891850b53424a48cc984455e5b6ea7635", func := "loop.example/g00340/laws.FnExactRestoreArchive", spec := "fnExactRestoreArchive", inPlace := ["internal/reflectlite.ValueOf", "(internal/reflectlite.Value).Type", "(internal/reflectlite.Value).IsNil", "internal/reflectlite.TypeOf", "(internal/reflectlite.Value).Elem", "(internal/reflectlite.Value).Set"], unfollowed := true, recurses := true, named := ["loop.example/g00340/impl.errForm", "loop.example/g00340/impl.errLink", "loop.example/g00340/impl.halfSums", "errors.errorType"], ifaces := true, apart := false, laid := [("errors.errorType", laid_errors_errorType), ("loop.example/g00340/impl.halfSums", laid_loop_example_g00340_impl_halfSums), ("loop.example/g00340/impl.errForm", laid_loop_example_g00340_impl_errForm), ("loop.example/g00340/impl.errLink", laid_loop_example_g00340_impl_errLink)], narrowed := true }
def FnExactRestoreArchiveUptoSaid : Prop := fnExactRestoreArchiveUptoRow.holds Tryz.pinned (OpenSpec.upto fnExactRestoreArchiveSpec)

/-- 'laws.FnReplay', WHERE WHAT IT READS IS OF BULK AT MOST 1048576: true; the input reads as it did. -/
def fnReplayUptoRow : OpenClaim := { program := "ytmbndpgoihdpnaagreatdoor", sum := "7625bd1fde6fccf4ffad2f24ffbbe60891850b53424a48cc984455e5b6ea7635", func := "loop.example/g00340/laws.FnReplay", spec := "fnReplay", inPlace := ["internal/reflectlite.ValueOf", "(internal/reflectlite.Value).Type", "(internal/reflectlite.Value).IsNil", "internal/reflectlite.TypeOf", "(internal/reflectlite.Value).Elem", "(internal/reflectlite.Value).Set"], unfollowed := true, recurses := true, named := ["loop.example/g00340/impl.halfSums", "loop.example/g00340/impl.errLink", "errors.errorType"], ifaces := true, apart := false, laid := [("errors.errorType", laid_errors_errorType), ("loop.example/g00340/impl.halfSums", laid_loop_example_g00340_impl_halfSums), ("loop.example/g00340/impl.errLink", laid_loop_example_g00340_impl_errLink)], narrowed := true }
def FnReplayUptoSaid : Prop := fnReplayUptoRow.holds Tryz.pinned (OpenSpec.upto fnReplaySpec)

end Rows
end Go.Proofs.YtmbndpgoihdpnaaGreatDoor
