/-
  Closed facts of the row of FnExactSameState.
  By an AI agent.
-/
import Derived.Test.YtedbgofjgnidiaaMem
namespace Go.Proofs.Ytedbgofjgnidiaa.fnExactSameState
open Go.ChangeShapes Go.WideShapes Go.ChangeAt Go.WideMaps Go.WideElems Go.RowKit Go.Deep
open Go.ChangeMaps (open_string shut_string)
set_option linter.unusedVariables false

set_option maxHeartbeats 8000000 in
theorem closed : joinedFacts Try.prog 3 Try.f3 Rows.fnExactSameStateSpec Rows.fnExactSameStateRow = true := by
  unfold joinedFacts
  repeat' (with_reducible refine Bool.and_eq_true_iff.2 ⟨?_, ?_⟩)
  all_goals (as_aux_lemma => kernel_rfl)
theorem inst : Try.f3.isInstance Try.prog Rows.fnExactSameStateRow.origin Rows.fnExactSameStateRow.targs := of_decide_eq_true (by kernel_rfl)
theorem wrap : Try.f3.isWrapper Try.prog Rows.fnExactSameStateRow.wrapper Rows.fnExactSameStateRow.mainSum := by
  unfold Func.isWrapper; first | (rw [if_pos (by decide +kernel)]; kernel_rfl) | (rw [if_neg (by decide +kernel)]; exact ⟨rfl, rfl⟩)
theorem named : Try.prog.funcNamed Rows.fnExactSameStateRow.func = some 3 := by kernel_rfl
end Go.Proofs.Ytedbgofjgnidiaa.fnExactSameState
