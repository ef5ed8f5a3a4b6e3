/-
  The walk of the law FnExactFlagsText.
  By an AI agent.
-/
import Derived.Test.YtkkfeaajcbnlnaaFlt
namespace Go.Proofs.Ytkkfeaajcbnlnaa.fnExactFlagsText
open Go.ChangeShapes Go.WideShapes Go.ChangeAt Go.WideMaps Go.WideElems Go.RowKit Go.Deep
open Go.ChangeMaps (open_string shut_string)
set_option linter.unusedVariables false

set_option maxHeartbeats 2000000 in
theorem walk (f : Int) (w : World) : Calls Try.prog 5 #[.int .i64 f] w fun e w' => e = .returned (.bool true) ∧ Below w.heap.size w w' := by
  have CS := specFlagsText f
  have CI := implFlagsText f
  obtain ⟨T, hT⟩ : ∃ T, (flagsA f).1 = T := ⟨_, rfl⟩
  obtain ⟨C, hC⟩ : ∃ C, (flagsA f).2 = C := ⟨_, rfl⟩
  rw [hT, hC] at CS CI
  clear hT hC
  have e1 : (T.toList == T.toList) = true := by simp
  have e2 : (C != C) = false := by simp
  go_enter Try.func5, Try.ntmps5
  go_wp2_with fail
  refine (CS _).mono ?_
  rintro e w1 ⟨rfl, hb1⟩
  have B1 : Hid (Below w.heap.size w w1) := hb1
  clear hb1
  go_wp2_with fail
  refine (CI _).mono ?_
  rintro e w2 ⟨rfl, hb2⟩
  have B2 : Hid (Below w.heap.size w w2) := B1.out.trans (hb2.mono B1.out.size)
  clear hb2 B1
  go_wp2_with fail
  go_ret
  exact ⟨rfl, B2.out⟩
end Go.Proofs.Ytkkfeaajcbnlnaa.fnExactFlagsText
