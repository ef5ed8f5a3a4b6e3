
/-
  Contracts of the program's own DiskOK and its parts. By an AI agent.
-/
import Derived.Test.YtlkobhighhkmoaaDoorDok
namespace Go.Proofs.YtlkobhighhkmoaaDoor
open Go.ChangeShapes Go.WideShapes Go.ChangeAt Go.RowKit Go.Deep
set_option linter.unusedVariables false

abbrev okS (S : List ByteArray) : Prop := 1 ≤ S.length ∧ S.length ≤ 80 ∧ ∀ x ∈ S, x.size ≤ 420
abbrev okC (C : List (Int × ByteArray)) (n : Nat) : Prop := C.length ≤ 500 ∧ ∀ p ∈ C, okW n p
abbrev okK (K : List Int) (A : Bool) : Prop := K.length ≤ 500 ∧ (A = false → K.length = 0)
theorem okD_iff (D : DM) : okD D ↔ okS D.S ∧ okC D.C D.S.length ∧ okK D.K D.A := Iff.rfl

end Go.Proofs.YtlkobhighhkmoaaDoor
