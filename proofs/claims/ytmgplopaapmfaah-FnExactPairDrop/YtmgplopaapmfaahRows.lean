/-
  No cell of these rows narrows 'for every input' (looked for: loops, veiled, ifaces, maps, wideKeys, modest, calm, conditions, laid).
  DERIVED. THE GIVEN ROWS OF THIS SEAT. 6 by the template 'for every input the law returns true; each argument reads behind the call as it read before'; 0 by the template 'total and deterministic' (their statements: YtmgplopaapmfaahTotals.lean).
  GIVEN WITH THE SEED: the statements are not yours to turn. If you find one false, say at which input.
  Laid BY PROGRAM, IN A SANDBOX (cutbox-rows.mjs): the forced cells as the released guide's own fill.sh prints them over the translation 6a44605d57a1c1bf… (all of the seat's roots in one cut). By AI agents, Wed Nov 11 2026. No macro, syntax, notation, axiom, sorry.
-/
import Derived.Test.YtmgplopaapmfaahChecked
import GoSem.Claim
import GoSem.ClaimJoined
import GoSem.ClaimMapViews
import Derived.JoinedTies
import Derived.KernelRfl
namespace Go.Proofs.Ytmgplopaapmfaah
/- THE CELL 'sum', in the pinned program and in every row, IS THE sha256 OF THE DUMP (.gsa) THAT YtmgplopaapmfaahProg.lean LOADS. Nothing in Lean hashes anything: it is a label: what it is worth is what the hold of that sum in a sandbox is worth. -/
noncomputable def Try.pinned : Pinned := { name := "ytmgplopaapmfaah", sum := "6a44605d57a1c1bfc8c9abf1721918949e7a5d2631dfa41cf20dceab7b73f827", checked := Try.checked }
namespace Rows
def none {H : Type} : Left H := { results := [], args := [] }

/-- 'laws.FnExactReadFields': WHATEVER THE INPUT: true; the input reads as it did. -/
def fnExactReadFieldsSpec : ChangeSpec := { name := "fnExactReadFields", fn := fun _ => fun
  | [d] => { results := [.lit (.bool true)], args := [d] }
  | _ => none }
def fnExactReadFieldsRow : OpenClaim := { program := "ytmgplopaapmfaah", sum := "6a44605d57a1c1bfc8c9abf1721918949e7a5d2631dfa41cf20dceab7b73f827", func := "loop.example/g00340/laws.FnExactReadFields", spec := "fnExactReadFields", apart := false }
def FnExactReadFieldsSaid : Prop := fnExactReadFieldsRow.holds Try.pinned (OpenSpec.ofChange fnExactReadFieldsSpec)

/-- ITS FALSE NEIGHBOUR: 'it returns false'. Refute it at one input. -/
def fnExactReadFieldsWrong : ChangeSpec := { name := "fnExactReadFields", fn := fun _ => fun
  | [d] => { results := [.lit (.bool false)], args := [d] }
  | _ => none }
def FnExactReadFieldsWrongFalsely : Prop := fnExactReadFieldsRow.holds Try.pinned (OpenSpec.ofChange fnExactReadFieldsWrong)

/-- 'laws.FnExactPairsOK': WHATEVER THE INPUT: true; the input reads as it did. -/
def fnExactPairsOKSpec : ChangeSpec := { name := "fnExactPairsOK", fn := fun _ => fun
  | [d] => { results := [.lit (.bool true)], args := [d] }
  | _ => none }
def fnExactPairsOKRow : OpenClaim := { program := "ytmgplopaapmfaah", sum := "6a44605d57a1c1bfc8c9abf1721918949e7a5d2631dfa41cf20dceab7b73f827", func := "loop.example/g00340/laws.FnExactPairsOK", spec := "fnExactPairsOK", apart := false }
def FnExactPairsOKSaid : Prop := fnExactPairsOKRow.holds Try.pinned (OpenSpec.ofChange fnExactPairsOKSpec)

/-- ITS FALSE NEIGHBOUR: 'it returns false'. Refute it at one input. -/
def fnExactPairsOKWrong : ChangeSpec := { name := "fnExactPairsOK", fn := fun _ => fun
  | [d] => { results := [.lit (.bool false)], args := [d] }
  | _ => none }
def FnExactPairsOKWrongFalsely : Prop := fnExactPairsOKRow.holds Try.pinned (OpenSpec.ofChange fnExactPairsOKWrong)

/-- 'laws.FnExactPairGet': WHATEVER THE INPUT: true; the input reads as it did. -/
def fnExactPairGetSpec : ChangeSpec := { name := "fnExactPairGet", fn := fun _ => fun
  | [d1, d2] => { results := [.lit (.bool true)], args := [d1, d2] }
  | _ => none }
def fnExactPairGetRow : OpenClaim := { program := "ytmgplopaapmfaah", sum := "6a44605d57a1c1bfc8c9abf1721918949e7a5d2631dfa41cf20dceab7b73f827", func := "loop.example/g00340/laws.FnExactPairGet", spec := "fnExactPairGet", apart := false }
def FnExactPairGetSaid : Prop := fnExactPairGetRow.holds Try.pinned (OpenSpec.ofChange fnExactPairGetSpec)

/-- ITS FALSE NEIGHBOUR: 'it returns false'. Refute it at one input. -/
def fnExactPairGetWrong : ChangeSpec := { name := "fnExactPairGet", fn := fun _ => fun
  | [d1, d2] => { results := [.lit (.bool false)], args := [d1, d2] }
  | _ => none }
def FnExactPairGetWrongFalsely : Prop := fnExactPairGetRow.holds Try.pinned (OpenSpec.ofChange fnExactPairGetWrong)

/-- 'laws.FnExactPairPut': WHATEVER THE INPUT: true; the input reads as it did. -/
def fnExactPairPutSpec : ChangeSpec := { name := "fnExactPairPut", fn := fun _ => fun
  | [d1, d2, d3] => { results := [.lit (.bool true)], args := [d1, d2, d3] }
  | _ => none }
def fnExactPairPutRow : OpenClaim := { program := "ytmgplopaapmfaah", sum := "6a44605d57a1c1bfc8c9abf1721918949e7a5d2631dfa41cf20dceab7b73f827", func := "loop.example/g00340/laws.FnExactPairPut", spec := "fnExactPairPut", apart := false }
def FnExactPairPutSaid : Prop := fnExactPairPutRow.holds Try.pinned (OpenSpec.ofChange fnExactPairPutSpec)

/-- ITS FALSE NEIGHBOUR: 'it returns false'. Refute it at one input. -/
def fnExactPairPutWrong : ChangeSpec := { name := "fnExactPairPut", fn := fun _ => fun
  | [d1, d2, d3] => { results := [.lit (.bool false)], args := [d1, d2, d3] }
  | _ => none }
def FnExactPairPutWrongFalsely : Prop := fnExactPairPutRow.holds Try.pinned (OpenSpec.ofChange fnExactPairPutWrong)

/-- 'laws.FnExactPairDrop': WHATEVER THE INPUT: true; the input reads as it did. -/
def fnExactPairDropSpec : ChangeSpec := { name := "fnExactPairDrop", fn := fun _ => fun
  | [d1, d2] => { results := [.lit (.bool true)], args := [d1, d2] }
  | _ => none }
def fnExactPairDropRow : OpenClaim := { program := "ytmgplopaapmfaah", sum := "6a44605d57a1c1bfc8c9abf1721918949e7a5d2631dfa41cf20dceab7b73f827", func := "loop.example/g00340/laws.FnExactPairDrop", spec := "fnExactPairDrop", apart := false }
def FnExactPairDropSaid : Prop := fnExactPairDropRow.holds Try.pinned (OpenSpec.ofChange fnExactPairDropSpec)

/-- ITS FALSE NEIGHBOUR: 'it returns false'. Refute it at one input. -/
def fnExactPairDropWrong : ChangeSpec := { name := "fnExactPairDrop", fn := fun _ => fun
  | [d1, d2] => { results := [.lit (.bool false)], args := [d1, d2] }
  | _ => none }
def FnExactPairDropWrongFalsely : Prop := fnExactPairDropRow.holds Try.pinned (OpenSpec.ofChange fnExactPairDropWrong)

/-- 'laws.FnExactPairsUnder': WHATEVER THE INPUT: true; the input reads as it did. -/
def fnExactPairsUnderSpec : ChangeSpec := { name := "fnExactPairsUnder", fn := fun _ => fun
  | [d1, d2] => { results := [.lit (.bool true)], args := [d1, d2] }
  | _ => none }
def fnExactPairsUnderRow : OpenClaim := { program := "ytmgplopaapmfaah", sum := "6a44605d57a1c1bfc8c9abf1721918949e7a5d2631dfa41cf20dceab7b73f827", func := "loop.example/g00340/laws.FnExactPairsUnder", spec := "fnExactPairsUnder", apart := false }
def FnExactPairsUnderSaid : Prop := fnExactPairsUnderRow.holds Try.pinned (OpenSpec.ofChange fnExactPairsUnderSpec)

/-- ITS FALSE NEIGHBOUR: 'it returns false'. Refute it at one input. -/
def fnExactPairsUnderWrong : ChangeSpec := { name := "fnExactPairsUnder", fn := fun _ => fun
  | [d1, d2] => { results := [.lit (.bool false)], args := [d1, d2] }
  | _ => none }
def FnExactPairsUnderWrongFalsely : Prop := fnExactPairsUnderRow.holds Try.pinned (OpenSpec.ofChange fnExactPairsUnderWrong)

/- THE SECOND FORM. 'bulk': how many values and letters a reading holds, each counted each time it is reached (what is shared counts as often as it is met; a slice's spare places count too). A statement '..UptoSaid' is the law's where the arguments, and the package variables that the reading takes, are together of bulk at most 1048576: NARROWER than '..Said'. Prove '..Said' where nothing that the law and all that it calls make is longer than what came in: it says more and counts as full. Else prove '..UptoSaid'. A law counts once. -/
mutual
def uptoBulk {H : Type} : DataW H → Nat
  | .lit (.string bytes) => bytes.length + 1
  | .lit _ => 1
  | .nil => 1
  | .ptr d => uptoBulk d + 1
  | .slice elems spare => uptoBulkAll elems + uptoBulkAll spare + 1
  | .agg parts => uptoBulkAll parts + 1
  | .iface _ d => uptoBulk d + 1
  | .map entries => uptoBulkEntries entries + 1
  | .held _ => 1
def uptoBulkAll {H : Type} : List (DataW H) → Nat
  | [] => 0
  | d :: r => uptoBulk d + uptoBulkAll r
def uptoBulkEntries {H : Type} : List (Lit × DataW H) → Nat
  | [] => 0
  | x :: r => uptoBulkEntry x + uptoBulkEntries r
def uptoBulkEntry {H : Type} : Lit × DataW H → Nat
  | (.string bytes, d) => bytes.length + uptoBulk d + 1
  | (_, d) => uptoBulk d + 1
 end
def uptoSmall : (H : Type) → List (DataW H) → Bool := fun _ ds => decide (uptoBulkAll ds ≤ 1048576)
def OpenSpec.upto (s : _root_.Go.ChangeSpec) : _root_.Go.OpenSpec := { _root_.Go.OpenSpec.ofChange s with cond := some uptoSmall }

/-- 'laws.FnExactReadFields', WHERE WHAT IT READS IS OF BULK AT MOST 1048576: true; the input reads as it did. -/
def fnExactReadFieldsUptoRow : OpenClaim := { program := "ytmgplopaapmfaah", sum := "6a44605d57a1c1bfc8c9abf1721918949e7a5d2631dfa41cf20dceab7b73f827", func := "loop.example/g00340/laws.FnExactReadFields", spec := "fnExactReadFields", apart := false, narrowed := true }
def FnExactReadFieldsUptoSaid : Prop := fnExactReadFieldsUptoRow.holds Try.pinned (OpenSpec.upto fnExactReadFieldsSpec)

/-- 'laws.FnExactPairsOK', WHERE WHAT IT READS IS OF BULK AT MOST 1048576: true; the input reads as it did. -/
def fnExactPairsOKUptoRow : OpenClaim := { program := "ytmgplopaapmfaah", sum := "6a44605d57a1c1bfc8c9abf1721918949e7a5d2631dfa41cf20dceab7b73f827", func := "loop.example/g00340/laws.FnExactPairsOK", spec := "fnExactPairsOK", apart := false, narrowed := true }
def FnExactPairsOKUptoSaid : Prop := fnExactPairsOKUptoRow.holds Try.pinned (OpenSpec.upto fnExactPairsOKSpec)

/-- 'laws.FnExactPairGet', WHERE WHAT IT READS IS OF BULK AT MOST 1048576: true; the input reads as it did. -/
def fnExactPairGetUptoRow : OpenClaim := { program := "ytmgplopaapmfaah", sum := "6a44605d57a1c1bfc8c9abf1721918949e7a5d2631dfa41cf20dceab7b73f827", func := "loop.example/g00340/laws.FnExactPairGet", spec := "fnExactPairGet", apart := false, narrowed := true }
def FnExactPairGetUptoSaid : Prop := fnExactPairGetUptoRow.holds Try.pinned (OpenSpec.upto fnExactPairGetSpec)

/-- 'laws.FnExactPairPut', WHERE WHAT IT READS IS OF BULK AT MOST 1048576: true; the input reads as it did. -/
def fnExactPairPutUptoRow : OpenClaim := { program := "ytmgplopaapmfaah", sum := "6a44605d57a1c1bfc8c9abf1721918949e7a5d2631dfa41cf20dceab7b73f827", func := "loop.example/g00340/laws.FnExactPairPut", spec := "fnExactPairPut", apart := false, narrowed := true }
def FnExactPairPutUptoSaid : Prop := fnExactPairPutUptoRow.holds Try.pinned (OpenSpec.upto fnExactPairPutSpec)

/-- 'laws.FnExactPairDrop', WHERE WHAT IT READS IS OF BULK AT MOST 1048576: true; the input reads as it did. -/
def fnExactPairDropUptoRow : OpenClaim := { program := "ytmgplopaapmfaah", sum := "6a44605d57a1c1bfc8c9abf1721918949e7a5d2631dfa41cf20dceab7b73f827", func := "loop.example/g00340/laws.FnExactPairDrop", spec := "fnExactPairDrop", apart := false, narrowed := true }
def FnExactPairDropUptoSaid : Prop := fnExactPairDropUptoRow.holds Try.pinned (OpenSpec.upto fnExactPairDropSpec)

/-- 'laws.FnExactPairsUnder', WHERE WHAT IT READS IS OF BULK AT MOST 1048576: true; the input reads as it did. -/
def fnExactPairsUnderUptoRow : OpenClaim := { program := "ytmgplopaapmfaah", sum := "6a44605d57a1c1bfc8c9abf1721918949e7a5d2631dfa41cf20dceab7b73f827", func := "loop.example/g00340/laws.FnExactPairsUnder", spec := "fnExactPairsUnder", apart := false, narrowed := true }
def FnExactPairsUnderUptoSaid : Prop := fnExactPairsUnderUptoRow.holds Try.pinned (OpenSpec.upto fnExactPairsUnderSpec)

end Rows
end Go.Proofs.Ytmgplopaapmfaah
