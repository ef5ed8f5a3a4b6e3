/-
  The walk of the law FnExactNewImap.
  By an AI agent.
-/
import Derived.Test.YtkkfeaajcbnlnaaImps
namespace Go.Proofs.Ytkkfeaajcbnlnaa.fnExactNewImap
open Go.ChangeShapes Go.WideShapes Go.ChangeAt Go.WideMaps Go.WideElems Go.RowKit Go.Deep
open Go.ChangeMaps (open_string shut_string)
set_option linter.unusedVariables false

set_option maxHeartbeats 2000000 in
theorem walk (w : World) : Calls Try.prog 3 #[] w fun e w' => e = .returned (.bool true) ∧ Below w.heap.size w w' := by
  obtain ⟨D, hD⟩ : ∃ D, newIM = D := ⟨_, rfl⟩
  have HD : Hid (newIM = D) := hD
  clear hD
  go_enter Try.func3, Try.ntmps3
  go_wp2_with fail
  refine (specNewImap _).mono ?_
  rw [HD.out]
  rintro e w1 ⟨rfl, hb1⟩
  have B1 : Hid (Below w.heap.size w w1) := hb1
  clear hb1
  go_wp2_with fail
  refine (implNewImap _).mono ?_
  rw [HD.out]
  rintro e w2 ⟨rfl, hb2⟩
  have X2 : Box w2 w1.heap.size [.string D.U, .string D.F, .bool D.O] := Box.below (Box.new rfl) hb2
  have B2 : Hid (Below w.heap.size w w2) := B1.out.trans ((Below.new hb2).mono B1.out.size)
  clear hb2 B1
  obtain ⟨p0, _⟩ := X2.old (.cells #[.string D.U, .string D.F, .bool D.O] 23) 0 _ rfl
  obtain ⟨p1, _⟩ := X2.old (.cells #[.string D.U, .string D.F, .bool D.O] 23) 1 _ rfl
  obtain ⟨p2, _⟩ := X2.old (.cells #[.string D.U, .string D.F, .bool D.O] 23) 2 _ rfl
  go_wp2_with fail
  refine (eqImap D _).mono ?_
  rintro e w3 ⟨rfl, hb3⟩
  have B3 : Hid (Below w.heap.size w w3) := B2.out.trans ((Below.new hb3).mono B2.out.size)
  clear hb3
  go_wp2_with fail
  go_ret
  exact ⟨rfl, B3.out⟩
end Go.Proofs.Ytkkfeaajcbnlnaa.fnExactNewImap
