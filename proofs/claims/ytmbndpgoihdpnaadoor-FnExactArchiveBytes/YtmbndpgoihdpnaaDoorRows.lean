/-
  NARROWER THAN 'FOR EVERY INPUT', by the rows' own cells (each row's printed sentence says how): FnExactArchiveBytes: laid · FnExactReadBackup: ifaces, laid · FnBackup: ifaces, laid.
  DERIVED. THE GIVEN ROWS OF THIS SEAT. 3 by the template 'for every input the law returns true; each argument reads behind the call as it read before'; 0 by the template 'total and deterministic' (their statements: YtmbndpgoihdpnaaDoorTotals.lean).
  GIVEN WITH THE SEED: the statements are not yours to turn. If you find one false, say at which input.
  Laid BY PROGRAM, IN A SANDBOX (cutbox-rows.mjs): the forced cells as the released guide's own fill.sh prints them over the translation 0adffc3987f315cd… (all of the seat's roots in one cut). By AI agents, Wed Nov 11 2026. No macro, syntax, notation, axiom, sorry.
-/
import Derived.Test.YtmbndpgoihdpnaaDoorChecked
import GoSem.Claim
import GoSem.ClaimJoined
import GoSem.ClaimMapViews
import Derived.JoinedTies
import Derived.KernelRfl
namespace Go.Proofs.YtmbndpgoihdpnaaDoor
/- THE CELL 'sum', in the pinned program and in every row, IS THE sha256 OF THE DUMP (.gsa) THAT YtmbndpgoihdpnaaDoorProg.lean LOADS. Nothing in Lean hashes anything: it is a label: what it is worth is what the hold of that sum in a sandbox is worth. -/
noncomputable def Tryd.pinned : Pinned := { name := "ytmbndpgoihdpnaadoor", sum := "0adffc3987f315cdf1e905cce5e93855041f5f13c367e21f1cb3cac7cb118a45", checked := Tryd.checked }
namespace Rows
def none {H : Type} : Left H := { results := [], args := [] }

/- WHAT THE LISTED PACKAGE-LEVEL VARIABLES READ AS WHEN THE CALL BEGINS. Each datum BY PROGRAM (the guide's laid-datum.mjs) off the statement by which the dump's own 'gosem.cut.vars' lays the variable. In a bare row this is a premise. The card (YtmbndpgoihdpnaaDoorCards.lean) ties it to the program's text. -/
def laid_loop_example_g00340_impl_halfSums {H : Type} : DataW H := .agg [.lit (.int .u32 0), .lit (.int .u32 498536548), .lit (.int .u32 997073096), .lit (.int .u32 651767980), .lit (.int .u32 1994146192), .lit (.int .u32 1802195444), .lit (.int .u32 1303535960), .lit (.int .u32 1342533948), .lit (.int .u32 3988292384), .lit (.int .u32 4027552580), .lit (.int .u32 3604390888), .lit (.int .u32 3412177804), .lit (.int .u32 2607071920), .lit (.int .u32 2262029012), .lit (.int .u32 2685067896), .lit (.int .u32 3183342108)]
def laid_errors_errorType {H : Type} : DataW H := .iface "internal/reflectlite.rtype" (.agg [.ptr (.lit (.string [101, 114, 114, 111, 114]))])
def laid_loop_example_g00340_impl_errForm {H : Type} : DataW H := .iface "*errors.errorString" (.ptr (.agg [.lit (.string [110, 111, 32, 98, 121, 116, 101, 115, 32, 111, 102, 32, 97, 32, 98, 97, 99, 107, 117, 112])]))
def laid_loop_example_g00340_impl_errLink {H : Type} : DataW H := .iface "*errors.errorString" (.ptr (.agg [.lit (.string [110, 111, 116, 32, 116, 104, 101, 32, 108, 105, 110, 107, 32, 111, 102, 32, 116, 104, 101, 32, 98, 97, 99, 107, 117, 112])]))

/-- 'laws.FnExactArchiveBytes': WHATEVER THE INPUT: true; the input reads as it did. -/
def fnExactArchiveBytesSpec : ChangeSpec := { name := "fnExactArchiveBytes", vars := ["loop.example/g00340/impl.halfSums"], fn := fun _ => fun
  | [d, g1] => { results := [.lit (.bool true)], args := [d], vars := [g1] }
  | _ => none }
def fnExactArchiveBytesRow : OpenClaim := { program := "ytmbndpgoihdpnaadoor", sum := "0adffc3987f315cdf1e905cce5e93855041f5f13c367e21f1cb3cac7cb118a45", func := "loop.example/g00340/laws.FnExactArchiveBytes", spec := "fnExactArchiveBytes", named := ["loop.example/g00340/impl.halfSums"], apart := false, laid := [("loop.example/g00340/impl.halfSums", laid_loop_example_g00340_impl_halfSums)] }
def FnExactArchiveBytesSaid : Prop := fnExactArchiveBytesRow.holds Tryd.pinned (OpenSpec.ofChange fnExactArchiveBytesSpec)

/-- ITS FALSE NEIGHBOUR: 'it returns false'. Refute it at one input. -/
def fnExactArchiveBytesWrong : ChangeSpec := { name := "fnExactArchiveBytes", vars := ["loop.example/g00340/impl.halfSums"], fn := fun _ => fun
  | [d, g1] => { results := [.lit (.bool false)], args := [d], vars := [g1] }
  | _ => none }
def FnExactArchiveBytesWrongFalsely : Prop := fnExactArchiveBytesRow.holds Tryd.pinned (OpenSpec.ofChange fnExactArchiveBytesWrong)

/-- 'laws.FnExactReadBackup': WHATEVER THE INPUT: true; the input reads as it did. -/
def fnExactReadBackupSpec : ChangeSpec := { name := "fnExactReadBackup", vars := ["loop.example/g00340/impl.errForm", "loop.example/g00340/impl.errLink", "loop.example/g00340/impl.halfSums"], fn := fun _ => fun
  | [d, g1, g2, g3] => { results := [.lit (.bool true)], args := [d], vars := [g1, g2, g3] }
  | _ => none }
def fnExactReadBackupRow : OpenClaim := { program := "ytmbndpgoihdpnaadoor", sum := "0adffc3987f315cdf1e905cce5e93855041f5f13c367e21f1cb3cac7cb118a45", func := "loop.example/g00340/laws.FnExactReadBackup", spec := "fnExactReadBackup", inPlace := ["internal/reflectlite.ValueOf", "(internal/reflectlite.Value).Type", "(internal/reflectlite.Value).IsNil", "internal/reflectlite.TypeOf", "(internal/reflectlite.Value).Elem", "(internal/reflectlite.Value).Set"], unfollowed := true, recurses := true, named := ["loop.example/g00340/impl.errForm", "loop.example/g00340/impl.errLink", "loop.example/g00340/impl.halfSums", "errors.errorType"], ifaces := true, apart := false, laid := [("errors.errorType", laid_errors_errorType), ("loop.example/g00340/impl.halfSums", laid_loop_example_g00340_impl_halfSums), ("loop.example/g00340/impl.errForm", laid_loop_example_g00340_impl_errForm), ("loop.example/g00340/impl.errLink", laid_loop_example_g00340_impl_errLink)] }
def FnExactReadBackupSaid : Prop := fnExactReadBackupRow.holds Tryd.pinned (OpenSpec.ofChange fnExactReadBackupSpec)

/-- ITS FALSE NEIGHBOUR: 'it returns false'. Refute it at one input. -/
def fnExactReadBackupWrong : ChangeSpec := { name := "fnExactReadBackup", vars := ["loop.example/g00340/impl.errForm", "loop.example/g00340/impl.errLink", "loop.example/g00340/impl.halfSums"], fn := fun _ => fun
  | [d, g1, g2, g3] => { results := [.lit (.bool false)], args := [d], vars := [g1, g2, g3] }
  | _ => none }
def FnExactReadBackupWrongFalsely : Prop := fnExactReadBackupRow.holds Tryd.pinned (OpenSpec.ofChange fnExactReadBackupWrong)

/-- 'laws.FnBackup': WHATEVER THE INPUT: true; the input reads as it did. -/
def fnBackupSpec : ChangeSpec := { name := "fnBackup", vars := ["loop.example/g00340/impl.halfSums", "loop.example/g00340/impl.errForm", "loop.example/g00340/impl.errLink"], fn := fun _ => fun
  | [d1, d2, g1, g2, g3] => { results := [.lit (.bool true)], args := [d1, d2], vars := [g1, g2, g3] }
  | _ => none }
def fnBackupRow : OpenClaim := { program := "ytmbndpgoihdpnaadoor", sum := "0adffc3987f315cdf1e905cce5e93855041f5f13c367e21f1cb3cac7cb118a45", func := "loop.example/g00340/laws.FnBackup", spec := "fnBackup", inPlace := ["internal/reflectlite.ValueOf", "(internal/reflectlite.Value).Type", "(internal/reflectlite.Value).IsNil", "internal/reflectlite.TypeOf", "(internal/reflectlite.Value).Elem", "(internal/reflectlite.Value).Set"], unfollowed := true, recurses := true, named := ["loop.example/g00340/impl.halfSums", "loop.example/g00340/impl.errForm", "loop.example/g00340/impl.errLink", "errors.errorType"], ifaces := true, apart := false, laid := [("errors.errorType", laid_errors_errorType), ("loop.example/g00340/impl.halfSums", laid_loop_example_g00340_impl_halfSums), ("loop.example/g00340/impl.errForm", laid_loop_example_g00340_impl_errForm), ("loop.example/g00340/impl.errLink", laid_loop_example_g00340_impl_errLink)] }
def FnBackupSaid : Prop := fnBackupRow.holds Tryd.pinned (OpenSpec.ofChange fnBackupSpec)

/-- ITS FALSE NEIGHBOUR: 'it returns false'. Refute it at one input. -/
def fnBackupWrong : ChangeSpec := { name := "fnBackup", vars := ["loop.example/g00340/impl.halfSums", "loop.example/g00340/impl.errForm", "loop.example/g00340/impl.errLink"], fn := fun _ => fun
  | [d1, d2, g1, g2, g3] => { results := [.lit (.bool false)], args := [d1, d2], vars := [g1, g2, g3] }
  | _ => none }
def FnBackupWrongFalsely : Prop := fnBackupRow.holds Tryd.pinned (OpenSpec.ofChange fnBackupWrong)

/- THE SECOND FORM. 'bulk': how many values and letters a reading holds, each counted each time it is reached (what is shared counts as often as it is met; a slice's spare places count too). A statement '..UptoSaid' is the law's where the arguments, and the package variables that the reading takes, are together of bulk at most 1048576: NARROWER than '..Said'. Prove '..Said' where nothing that the law and all that it calls make is longer than what came in: it says more and counts as full. Else prove '..UptoSaid'. A law counts once. -/
mutual
def uptoBulk {H : Type} : DataW H → Nat
  | .lit (.string bytes) => bytes.length + 1
  | .lit _ => 1
  | .nil => 1
  | .ptr d => uptoBulk d + 1
  | .slice elems spare => uptoBulkAll elems + uptoBulkAll spare + 1
  | .agg parts => uptoBulkAll parts + 1
  | .iface _ d => uptoBulk d + 1
  | .map entries => uptoBulkEntries entries + 1
  | .held _ => 1
def uptoBulkAll {H : Type} : List (DataW H) → Nat
  | [] => 0
  | d :: r => uptoBulk d + uptoBulkAll r
def uptoBulkEntries {H : Type} : List (Lit × DataW H) → Nat
  | [] => 0
  | x :: r => uptoBulkEntry x + uptoBulkEntries r
def uptoBulkEntry {H : Type} : Lit × DataW H → Nat
  | (.string bytes, d) => bytes.length + uptoBulk d + 1
  | (_, d) => uptoBulk d + 1
 end
def uptoSmall : (H : Type) → List (DataW H) → Bool := fun _ ds => decide (uptoBulkAll ds ≤ 1048576)
def OpenSpec.upto (s : _root_.Go.ChangeSpec) : _root_.Go.OpenSpec := { _root_.Go.OpenSpec.ofChange s with cond := some uptoSmall }

/-- 'laws.FnExactArchiveBytes', WHERE WHAT IT READS IS OF BULK AT MOST 1048576: true; the input reads as it did. -/
def fnExactArchiveBytesUptoRow : OpenClaim := { program := "ytmbndpgoihdpnaadoor", sum := "0adffc3987f315cdf1e905cce5e93855041f5f13c367e21f1cb3cac7cb118a45", func := "loop.example/g00340/laws.FnExactArchiveBytes", spec := "fnExactArchiveBytes", named := ["loop.example/g00340/impl.halfSums"], apart := false, laid := [("loop.example/g00340/impl.halfSums", laid_loop_example_g00340_impl_halfSums)], narrowed := true }
def FnExactArchiveBytesUptoSaid : Prop := fnExactArchiveBytesUptoRow.holds Tryd.pinned (OpenSpec.upto fnExactArchiveBytesSpec)

/-- 'laws.FnExactReadBackup', WHERE WHAT IT READS IS OF BULK AT MOST 1048576: true; the input reads as it did. -/
def fnExactReadBackupUptoRow : OpenClaim := { program := "ytmbndpgoihdpnaadoor", sum := "0adffc3987f315cdf1e905cce5e93855041f5f13c367e21f1cb3cac7cb118a45", func := "loop.example/g00340/laws.FnExactReadBackup", spec := "fnExactReadBackup", inPlace := ["internal/reflectlite.ValueOf", "(internal/reflectlite.Value).Type", "(internal/reflectlite.Value).IsNil", "internal/reflectlite.TypeOf", "(internal/reflectlite.Value).Elem", "(internal/reflectlite.Value).Set"], unfollowed := true, recurses := true, named := ["loop.example/g00340/impl.errForm", "loop.example/g00340/impl.errLink", "loop.example/g00340/impl.halfSums", "errors.errorType"], ifaces := true, apart := false, laid := [("errors.errorType", laid_errors_errorType), ("loop.example/g00340/impl.halfSums", laid_loop_example_g00340_impl_halfSums), ("loop.example/g00340/impl.errForm", laid_loop_example_g00340_impl_errForm), ("loop.example/g00340/impl.errLink", laid_loop_example_g00340_impl_errLink)], narrowed := true }
def FnExactReadBackupUptoSaid : Prop := fnExactReadBackupUptoRow.holds Tryd.pinned (OpenSpec.upto fnExactReadBackupSpec)

/-- 'laws.FnBackup', WHERE WHAT IT READS IS OF BULK AT MOST 1048576: true; the input reads as it did. -/
def fnBackupUptoRow : OpenClaim := { program := "ytmbndpgoihdpnaadoor", sum := "0adffc3987f315cdf1e905cce5e93855041f5f13c367e21f1cb3cac7cb118a45", func := "loop.example/g00340/laws.FnBackup", spec := "fnBackup", inPlace := ["internal/reflectlite.ValueOf", "(internal/reflectlite.Value).Type", "(internal/reflectlite.Value).IsNil", "internal/reflectlite.TypeOf", "(internal/reflectlite.Value).Elem", "(internal/reflectlite.Value).Set"], unfollowed := true, recurses := true, named := ["loop.example/g00340/impl.halfSums", "loop.example/g00340/impl.errForm", "loop.example/g00340/impl.errLink", "errors.errorType"], ifaces := true, apart := false, laid := [("errors.errorType", laid_errors_errorType), ("loop.example/g00340/impl.halfSums", laid_loop_example_g00340_impl_halfSums), ("loop.example/g00340/impl.errForm", laid_loop_example_g00340_impl_errForm), ("loop.example/g00340/impl.errLink", laid_loop_example_g00340_impl_errLink)], narrowed := true }
def FnBackupUptoSaid : Prop := fnBackupUptoRow.holds Tryd.pinned (OpenSpec.upto fnBackupSpec)

end Rows
end Go.Proofs.YtmbndpgoihdpnaaDoor
