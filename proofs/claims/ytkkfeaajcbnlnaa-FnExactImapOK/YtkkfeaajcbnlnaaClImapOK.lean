/-
  Closed facts of the row of FnExactImapOK.
  By an AI agent.
-/
import Derived.Test.YtkkfeaajcbnlnaaMem
namespace Go.Proofs.Ytkkfeaajcbnlnaa.fnExactImapOK
open Go.ChangeShapes Go.WideShapes Go.ChangeAt Go.WideMaps Go.WideElems Go.RowKit Go.Deep
open Go.ChangeMaps (open_string shut_string)
set_option linter.unusedVariables false

set_option maxHeartbeats 8000000 in
theorem closed : joinedFacts Try.prog 4 Try.f4 Rows.fnExactImapOKSpec Rows.fnExactImapOKRow = true := by
  unfold joinedFacts
  repeat' (with_reducible refine Bool.and_eq_true_iff.2 ⟨?_, ?_⟩)
  all_goals (as_aux_lemma => kernel_rfl)
theorem inst : Try.f4.isInstance Try.prog Rows.fnExactImapOKRow.origin Rows.fnExactImapOKRow.targs := of_decide_eq_true (by kernel_rfl)
theorem wrap : Try.f4.isWrapper Try.prog Rows.fnExactImapOKRow.wrapper Rows.fnExactImapOKRow.mainSum := by
  unfold Func.isWrapper; first | (rw [if_pos (by decide +kernel)]; kernel_rfl) | (rw [if_neg (by decide +kernel)]; exact ⟨rfl, rfl⟩)
theorem named : Try.prog.funcNamed Rows.fnExactImapOKRow.func = some 4 := by kernel_rfl
end Go.Proofs.Ytkkfeaajcbnlnaa.fnExactImapOK
