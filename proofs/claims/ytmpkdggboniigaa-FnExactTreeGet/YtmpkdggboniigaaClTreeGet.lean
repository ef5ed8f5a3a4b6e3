/-
  Closed facts of the row of FnExactTreeGet.
  By an AI agent.
-/
import Derived.Test.YtmpkdggboniigaaMem
namespace Go.Proofs.Ytmpkdggboniigaa.fnExactTreeGet
open Go.ChangeShapes Go.WideShapes Go.ChangeAt Go.WideMaps Go.WideElems Go.RowKit Go.Deep
open Go.ChangeMaps (open_string shut_string)
set_option linter.unusedVariables false

set_option maxHeartbeats 8000000 in
theorem closed : joinedFacts Try.prog 15 Try.f15 Rows.fnExactTreeGetSpec Rows.fnExactTreeGetRow = true := by
  unfold joinedFacts
  repeat' (with_reducible refine Bool.and_eq_true_iff.2 ⟨?_, ?_⟩)
  all_goals (as_aux_lemma => kernel_rfl)
theorem inst : Try.f15.isInstance Try.prog Rows.fnExactTreeGetRow.origin Rows.fnExactTreeGetRow.targs := of_decide_eq_true (by kernel_rfl)
theorem wrap : Try.f15.isWrapper Try.prog Rows.fnExactTreeGetRow.wrapper Rows.fnExactTreeGetRow.mainSum := by
  unfold Func.isWrapper; first | (rw [if_pos (by decide +kernel)]; kernel_rfl) | (rw [if_neg (by decide +kernel)]; exact ⟨rfl, rfl⟩)
theorem named : Try.prog.funcNamed Rows.fnExactTreeGetRow.func = some 15 := by kernel_rfl
end Go.Proofs.Ytmpkdggboniigaa.fnExactTreeGet
