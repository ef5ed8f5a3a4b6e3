/-
  The walk of the law FnExactImapOK.
  By an AI agent.
-/
import Derived.Test.YtkkfeaajcbnlnaaImok
namespace Go.Proofs.Ytkkfeaajcbnlnaa.fnExactImapOK
open Go.ChangeShapes Go.WideShapes Go.ChangeAt Go.WideMaps Go.WideElems Go.RowKit Go.Deep
open Go.ChangeMaps (open_string shut_string)
set_option linter.unusedVariables false

set_option maxHeartbeats 2000000 in
theorem walk (v : Value) (D : IMP) (w : World) (h : v = valI D) (hm : maxIM D) :
    Calls Try.prog 4 #[v] w fun e w' => e = .returned (.bool true) ∧ Below w.heap.size w w' := by
  have HM : Hid (maxIM D) := hm
  subst h
  obtain ⟨bb, hbb⟩ : ∃ bb, okIM D = bb := ⟨_, rfl⟩
  have HB : Hid (okIM D = bb) := hbb
  clear hm hbb
  have X0 : Box (w.alloc (.cells #[.string D.U, .string D.F, .bool D.O] 27)) w.heap.size [.string D.U, .string D.F, .bool D.O] := Box.new rfl
  go_enter Try.func4, Try.ntmps4
  go_wp2_with fail
  refine (szImap D 1048576 _ (by omega) (by omega) HM.out).mono ?_
  rintro e w1 ⟨r, rfl, _, hb1⟩
  have X1 : Hid (Box w1 w.heap.size [.string D.U, .string D.F, .bool D.O]) := X0.below hb1
  have B1 : Hid (Below w.heap.size w w1) := Below.new hb1
  clear hb1 X0
  by_cases hneg : r < 0
  · go_wp2_with fail
    go_ret
    exact ⟨rfl, B1.out⟩
  obtain ⟨p0, _⟩ := X1.out 0 _ rfl
  obtain ⟨p1, _⟩ := X1.out 1 _ rfl
  obtain ⟨p2, _⟩ := X1.out 2 _ rfl
  go_wp2_with fail
  refine (toImap D _).mono ?_
  rintro e w2 ⟨rfl, hb2⟩
  have X2 : Hid (Box w2 w.heap.size [.string D.U, .string D.F, .bool D.O]) := X1.out.below hb2
  have B2 : Hid (Below w.heap.size w w2) := B1.out.trans (hb2.mono B1.out.size)
  clear hb2 X1 B1 p0 p1 p2
  go_wp2_with fail
  refine (specImapOK D _ HM.out).mono ?_
  rw [HB.out]
  rintro e w3 ⟨rfl, hb3⟩
  have X3 : Hid (Box w3 w.heap.size [.string D.U, .string D.F, .bool D.O]) := X2.out.below hb3
  have B3 : Hid (Below w.heap.size w w3) := B2.out.trans (hb3.mono B2.out.size)
  clear hb3 X2 B2
  obtain ⟨p0, _⟩ := X3.out 0 _ rfl
  obtain ⟨p1, _⟩ := X3.out 1 _ rfl
  obtain ⟨p2, _⟩ := X3.out 2 _ rfl
  go_wp2_with fail
  refine (toImap D _).mono ?_
  rintro e w4 ⟨rfl, hb4⟩
  have B4 : Hid (Below w.heap.size w w4) := B3.out.trans (hb4.mono B3.out.size)
  clear hb4 X3 B3 p0 p1 p2
  go_wp2_with fail
  refine (implImapOK D _ HM.out).mono ?_
  rw [HB.out]
  rintro e w5 ⟨rfl, hb5⟩
  have B5 : Hid (Below w.heap.size w w5) := B4.out.trans (hb5.mono B4.out.size)
  clear hb5 B4
  have hne : (bb != bb) = false := by cases bb <;> rfl
  go_wp2_with fail
  go_ret
  exact ⟨rfl, B5.out⟩
end Go.Proofs.Ytkkfeaajcbnlnaa.fnExactImapOK
