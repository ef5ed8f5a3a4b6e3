/-
  The walk of the law FnExactSmtpOK.
  By an AI agent.
-/
import Derived.Test.YtbaljcdiofoppaaSmos
namespace Go.Proofs.Ytbaljcdiofoppaa.fnExactSmtpOK
open Go.ChangeShapes Go.WideShapes Go.ChangeAt Go.WideMaps Go.WideElems Go.RowKit Go.Deep
open Go.ChangeMaps (open_string shut_string)
set_option linter.unusedVariables false

set_option maxHeartbeats 2000000 in
theorem walk (v : Value) (D : SMT) (w : World) (h : ReadsT w v D) (hm : maxT D) :
    Calls Try.prog 4 #[v] w fun e w' => e = .returned (.bool true) ∧ Below w.heap.size w w' := by
  have HM : Hid (maxT D) := hm
  obtain ⟨a1, c1, a2, c2, rfl, s1, s2⟩ := h
  have HR : Hid (ReadsT w (.agg #[.bool D.H, .bool D.D, .bool D.O, .string D.F, .slice a1 D.R.length c1, .slice a2 D.L.length c2]) D) := ⟨a1, c1, a2, c2, rfl, s1, s2⟩
  clear hm s1 s2
  go_enter Try.func4, Try.ntmps4
  go_wp2_with fail
  refine (szSmtp _ D 1048576 _ (by omega) (by omega) HM.out (HR.out.below ((Below.refl _ _).alloc (Nat.le_refl _) _))).mono ?_
  rintro e w1 ⟨r, rfl, _, hr, hb1⟩
  have B1 : Hid (Below w.heap.size w w1) := Below.new hb1
  have X1 : Hid (Box w1 w.heap.size [.bool D.H, .bool D.D, .bool D.O, .string D.F, .slice a1 D.R.length c1, .slice a2 D.L.length c2]) := Box.below (Box.new rfl) hb1
  clear hb1
  by_cases hneg : r < 0
  · clear hr
    go_wp2_with fail
    go_ret
    exact ⟨rfl, B1.out⟩
  have SM : Hid (smallT D) := hr (by omega)
  clear hr
  obtain ⟨p0, _⟩ := X1.out 0 _ rfl
  obtain ⟨p1, _⟩ := X1.out 1 _ rfl
  obtain ⟨p2, _⟩ := X1.out 2 _ rfl
  obtain ⟨p3, _⟩ := X1.out 3 _ rfl
  obtain ⟨p4, _⟩ := X1.out 4 _ rfl
  obtain ⟨p5, _⟩ := X1.out 5 _ rfl
  go_wp2_with fail
  refine (toSmtp _ D _ SM.out (HR.out.below B1.out)).mono ?_
  rintro e w2 ⟨v2, rfl, own2, hb2⟩
  have B2 : Hid (Below w.heap.size w w2) := B1.out.trans (hb2.mono B1.out.size)
  have X2 : Hid (Box w2 w.heap.size [.bool D.H, .bool D.D, .bool D.O, .string D.F, .slice a1 D.R.length c1, .slice a2 D.L.length c2]) := X1.out.below hb2
  have O2 : Hid (ReadsT w2 v2 D) := own2.reads
  clear hb2 own2 B1 X1 p0 p1 p2 p3 p4 p5
  go_wp2_with fail
  refine (specSmtpOK v2 D _ SM.out O2.out).mono ?_
  obtain ⟨bb, hbb⟩ : ∃ bb, okT D = bb := ⟨_, rfl⟩
  have HBB : Hid (okT D = bb) := hbb
  rw [hbb]
  clear hbb
  rintro e w3 ⟨rfl, hb3⟩
  have B3 : Hid (Below w.heap.size w w3) := B2.out.trans (hb3.mono B2.out.size)
  have X3 : Hid (Box w3 w.heap.size [.bool D.H, .bool D.D, .bool D.O, .string D.F, .slice a1 D.R.length c1, .slice a2 D.L.length c2]) := X2.out.below hb3
  clear hb3 O2 B2 X2
  obtain ⟨p0, _⟩ := X3.out 0 _ rfl
  obtain ⟨p1, _⟩ := X3.out 1 _ rfl
  obtain ⟨p2, _⟩ := X3.out 2 _ rfl
  obtain ⟨p3, _⟩ := X3.out 3 _ rfl
  obtain ⟨p4, _⟩ := X3.out 4 _ rfl
  obtain ⟨p5, _⟩ := X3.out 5 _ rfl
  go_wp2_with fail
  refine (toSmtp _ D _ SM.out (HR.out.below B3.out)).mono ?_
  rintro e w4 ⟨v4, rfl, own4, hb4⟩
  have cp4 := own4.cap
  obtain ⟨b1, d1, b2, d2, rfl⟩ := own4.lit
  have CP : Hid (CapT (.agg #[.bool D.H, .bool D.D, .bool D.O, .string D.F, .slice b1 D.R.length d1, .slice b2 D.L.length d2])) := cp4
  clear cp4
  have B4 : Hid (Below w.heap.size w w4) := B3.out.trans (hb4.mono B3.out.size)
  have X4 : Hid (Box w4 w.heap.size [.bool D.H, .bool D.D, .bool D.O, .string D.F, .slice a1 D.R.length c1, .slice a2 D.L.length c2]) := X3.out.below hb4
  have O4 : Hid (ReadsT w4 (.agg #[.bool D.H, .bool D.D, .bool D.O, .string D.F, .slice b1 D.R.length d1, .slice b2 D.L.length d2]) D) := own4.reads
  clear hb4 own4 B3 X3 p0 p1 p2 p3 p4 p5
  go_wp2_with fail
  refine (implSmtpOK _ D _ SM.out CP.out (O4.out.below ((Below.refl _ _).alloc (Nat.le_refl _) _))).mono ?_
  rw [HBB.out]
  rintro e w5 ⟨rfl, hb5⟩
  have B5 : Hid (Below w.heap.size w w5) := B4.out.trans ((Below.new hb5).mono B4.out.size)
  have X5 : Hid (Box w5 w.heap.size [.bool D.H, .bool D.D, .bool D.O, .string D.F, .slice a1 D.R.length c1, .slice a2 D.L.length c2]) := X4.out.below (Below.new hb5)
  have Y5 : Hid (Box w5 w4.heap.size [.bool D.H, .bool D.D, .bool D.O, .string D.F, .slice b1 D.R.length d1, .slice b2 D.L.length d2]) := Box.below (Box.new rfl) hb5
  have O5 : Hid (ReadsT w5 (.agg #[.bool D.H, .bool D.D, .bool D.O, .string D.F, .slice b1 D.R.length d1, .slice b2 D.L.length d2]) D) := O4.out.below (Below.new hb5)
  clear hb5 B4 X4 O4
  have hne : (bb != bb) = false := by cases bb <;> rfl
  obtain ⟨p0, _⟩ := X5.out 0 _ rfl
  obtain ⟨p1, _⟩ := X5.out 1 _ rfl
  obtain ⟨p2, _⟩ := X5.out 2 _ rfl
  obtain ⟨p3, _⟩ := X5.out 3 _ rfl
  obtain ⟨p4, _⟩ := X5.out 4 _ rfl
  obtain ⟨p5, _⟩ := X5.out 5 _ rfl
  obtain ⟨q0, _⟩ := Y5.out 0 _ rfl
  obtain ⟨q1, _⟩ := Y5.out 1 _ rfl
  obtain ⟨q2, _⟩ := Y5.out 2 _ rfl
  obtain ⟨q3, _⟩ := Y5.out 3 _ rfl
  obtain ⟨q4, _⟩ := Y5.out 4 _ rfl
  obtain ⟨q5, _⟩ := Y5.out 5 _ rfl
  have WT : Hid (D.R.length ≤ 9000000000000000000 ∧ D.L.length ≤ 9000000000000000000) := by have h1 := SM.out.1.1; have h2 := SM.out.2.1.1; exact ⟨by omega, by omega⟩
  go_wp2_with fail
  go_region_with (first | (go_at_call 7; refine (eqSmtp _ _ D _ WT.out O6.out.1 O6.out.2).mono ?_; rintro e w7 ⟨rfl, hb7⟩; have B7 : Hid (Below w.heap.size w w7) := B6.out.trans (hb7.mono B6.out.size); clear hb7) | (go_at_call 12; refine (toSmtp _ D _ SM.out (HR.out.below B5.out.drew)).mono ?_; rintro e w6 ⟨v6, rfl, own6, hb6⟩; have B6 : Hid (Below w.heap.size w w6) := B5.out.drew.trans (hb6.mono B5.out.size); have O6 : Hid (ReadsT w6 (.agg #[.bool D.H, .bool D.D, .bool D.O, .string D.F, .slice b1 D.R.length d1, .slice b2 D.L.length d2]) D ∧ ReadsT w6 v6 D) := ⟨O5.out.drew.below hb6, own6.reads⟩; have Y6 := Y5.out.drew.below hb6; clear q0 q1 q2 q3 q4 q5; obtain ⟨q0, _⟩ := Y6 0 _ rfl; obtain ⟨q1, _⟩ := Y6 1 _ rfl; obtain ⟨q2, _⟩ := Y6 2 _ rfl; obtain ⟨q3, _⟩ := Y6 3 _ rfl; obtain ⟨q4, _⟩ := Y6 4 _ rfl; obtain ⟨q5, _⟩ := Y6 5 _ rfl; clear hb6 own6 Y6))
  all_goals go_wp2_with fail
  all_goals
    go_ret
    exact ⟨rfl, B7.out⟩
end Go.Proofs.Ytbaljcdiofoppaa.fnExactSmtpOK
