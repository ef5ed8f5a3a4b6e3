/-
  Closed facts of the row of FnExactSmtpOK.
  By an AI agent.
-/
import Derived.Test.YtbaljcdiofoppaaMem
namespace Go.Proofs.Ytbaljcdiofoppaa.fnExactSmtpOK
open Go.ChangeShapes Go.WideShapes Go.ChangeAt Go.WideMaps Go.WideElems Go.RowKit Go.Deep
open Go.ChangeMaps (open_string shut_string)
set_option linter.unusedVariables false

set_option maxHeartbeats 8000000 in
theorem closed : joinedFacts Try.prog 4 Try.f4 Rows.fnExactSmtpOKSpec Rows.fnExactSmtpOKRow = true := by
  unfold joinedFacts
  repeat' (with_reducible refine Bool.and_eq_true_iff.2 ⟨?_, ?_⟩)
  all_goals (as_aux_lemma => kernel_rfl)
theorem inst : Try.f4.isInstance Try.prog Rows.fnExactSmtpOKRow.origin Rows.fnExactSmtpOKRow.targs := of_decide_eq_true (by kernel_rfl)
theorem wrap : Try.f4.isWrapper Try.prog Rows.fnExactSmtpOKRow.wrapper Rows.fnExactSmtpOKRow.mainSum := by
  unfold Func.isWrapper; first | (rw [if_pos (by decide +kernel)]; kernel_rfl) | (rw [if_neg (by decide +kernel)]; exact ⟨rfl, rfl⟩)
theorem named : Try.prog.funcNamed Rows.fnExactSmtpOKRow.func = some 4 := by kernel_rfl
end Go.Proofs.Ytbaljcdiofoppaa.fnExactSmtpOK
