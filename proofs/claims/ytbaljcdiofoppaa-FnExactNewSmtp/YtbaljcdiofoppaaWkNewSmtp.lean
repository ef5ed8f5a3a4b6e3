/-
  The walk of the law FnExactNewSmtp.
  By an AI agent.
-/
import Derived.Test.YtbaljcdiofoppaaSmnew
namespace Go.Proofs.Ytbaljcdiofoppaa.fnExactNewSmtp
open Go.ChangeShapes Go.WideShapes Go.ChangeAt Go.WideMaps Go.WideElems Go.RowKit Go.Deep
open Go.ChangeMaps (open_string shut_string)
set_option linter.unusedVariables false

set_option maxHeartbeats 2000000 in
theorem walk (w : World) : Calls Try.prog 3 #[] w fun e w' => e = .returned (.bool true) ∧ Below w.heap.size w w' := by
  obtain ⟨D, hD⟩ : ∃ D, newT = D := ⟨_, rfl⟩
  have SM : Hid (D.R.length ≤ 1048576 ∧ D.L.length ≤ 1048576) := by
    have h0 : D.R.length = 0 ∧ D.L.length = 0 := hD ▸ ⟨rfl, rfl⟩
    exact ⟨by omega, by omega⟩
  have SB : Hid (D.R.length ≤ 9000000000000000000 ∧ D.L.length ≤ 9000000000000000000) := by
    have h0 : D.R.length = 0 ∧ D.L.length = 0 := hD ▸ ⟨rfl, rfl⟩
    exact ⟨by omega, by omega⟩
  have HF : Hid (newT = D) := hD
  clear hD
  go_enter Try.func3, Try.ntmps3
  go_wp2_with fail
  refine (specNewSmtp _).mono ?_
  rw [HF.out]
  rintro e w1 ⟨v1, rfl, own1, hb1⟩
  obtain ⟨a1, c1, e1, f1, rfl⟩ := own1.lit
  have B1 : Hid (Below w.heap.size w w1) := hb1
  have R1 : Hid (OwnsT w1 w.heap.size w1.heap.size (.agg #[.bool D.H, .bool D.D, .bool D.O, .string D.F, .slice a1 D.R.length c1, .slice e1 D.L.length f1]) D) := own1
  clear hb1 own1
  go_wp2_with fail
  refine (implNewSmtp _).mono ?_
  rw [HF.out]
  rintro e w2 ⟨v2, rfl, own2, hb2⟩
  obtain ⟨a2, c2, e2, f2, rfl⟩ := own2.lit
  have B2 : Hid (Below w.heap.size w w2) := B1.out.trans ((Below.new hb2).mono B1.out.size)
  have R2 : Hid (OwnsT w2 w.heap.size w1.heap.size (.agg #[.bool D.H, .bool D.D, .bool D.O, .string D.F, .slice a1 D.R.length c1, .slice e1 D.L.length f1]) D) := R1.out.below (Below.new hb2)
  have X2 : Hid (Box w2 w1.heap.size [.bool D.H, .bool D.D, .bool D.O, .string D.F, .slice a1 D.R.length c1, .slice e1 D.L.length f1]) := Box.below (Box.new rfl) hb2
  have O2 : Hid (OwnsT w2 (w1.heap.size + 1) w2.heap.size (.agg #[.bool D.H, .bool D.D, .bool D.O, .string D.F, .slice a2 D.R.length c2, .slice e2 D.L.length f2]) D) := own2.mono (by simp) (Nat.le_refl _)
  have Z2 : Hid (w1.heap.size + 1 ≤ w2.heap.size) := size_new hb2
  have ZW : Hid (w.heap.size ≤ w1.heap.size) := B1.out.size
  clear hb2 own2 R1 B1
  obtain ⟨p0, _⟩ := X2.out.old (.cells #[.bool D.H, .bool D.D, .bool D.O, .string D.F, .slice a2 D.R.length c2, .slice e2 D.L.length f2] 24) 0 _ rfl
  obtain ⟨p1, _⟩ := X2.out.old (.cells #[.bool D.H, .bool D.D, .bool D.O, .string D.F, .slice a2 D.R.length c2, .slice e2 D.L.length f2] 24) 1 _ rfl
  obtain ⟨p2, _⟩ := X2.out.old (.cells #[.bool D.H, .bool D.D, .bool D.O, .string D.F, .slice a2 D.R.length c2, .slice e2 D.L.length f2] 24) 2 _ rfl
  obtain ⟨p3, _⟩ := X2.out.old (.cells #[.bool D.H, .bool D.D, .bool D.O, .string D.F, .slice a2 D.R.length c2, .slice e2 D.L.length f2] 24) 3 _ rfl
  obtain ⟨p4, _⟩ := X2.out.old (.cells #[.bool D.H, .bool D.D, .bool D.O, .string D.F, .slice a2 D.R.length c2, .slice e2 D.L.length f2] 24) 4 _ rfl
  obtain ⟨p5, _⟩ := X2.out.old (.cells #[.bool D.H, .bool D.D, .bool D.O, .string D.F, .slice a2 D.R.length c2, .slice e2 D.L.length f2] 24) 5 _ rfl
  go_wp2_with fail
  refine (eqSmtp _ _ D _ SB.out (O2.out.reads.below ((Below.refl _ _).alloc (Nat.le_refl _) _)) (R2.out.reads.below ((Below.refl _ _).alloc (Nat.le_refl _) _))).mono ?_
  rintro e w3 ⟨rfl, hb3⟩
  have B3 : Hid (Below w.heap.size w w3) := B2.out.trans ((Below.new hb3).mono B2.out.size)
  have R3 : Hid (OwnsT w3 w.heap.size w1.heap.size (.agg #[.bool D.H, .bool D.D, .bool D.O, .string D.F, .slice a1 D.R.length c1, .slice e1 D.L.length f1]) D) := R2.out.below (Below.new hb3)
  have X3 : Hid (Box w3 w1.heap.size [.bool D.H, .bool D.D, .bool D.O, .string D.F, .slice a1 D.R.length c1, .slice e1 D.L.length f1]) := X2.out.below (Below.new hb3)
  have Y3 : Hid (Box w3 w2.heap.size [.bool D.H, .bool D.D, .bool D.O, .string D.F, .slice a2 D.R.length c2, .slice e2 D.L.length f2]) := Box.below (Box.new rfl) hb3
  have O3 : Hid (OwnsT w3 (w1.heap.size + 1) w2.heap.size (.agg #[.bool D.H, .bool D.D, .bool D.O, .string D.F, .slice a2 D.R.length c2, .slice e2 D.L.length f2]) D) := O2.out.below (Below.new hb3)
  have Z3 : Hid (w2.heap.size + 1 ≤ w3.heap.size) := size_new hb3
  clear hb3 B2 R2 X2 O2 p0 p1 p2 p3 p4 p5
  obtain ⟨q0, _⟩ := Y3.out 0 _ rfl
  obtain ⟨q1, _⟩ := Y3.out 1 _ rfl
  obtain ⟨q2, _⟩ := Y3.out 2 _ rfl
  obtain ⟨q3, _⟩ := Y3.out 3 _ rfl
  obtain ⟨q4, _⟩ := Y3.out 4 _ rfl
  obtain ⟨q5, _⟩ := Y3.out 5 _ rfl
  go_wp2_with fail
  refine (markSmtp _ D 1 (w1.heap.size + 1) w2.heap.size _ SM.out (by omega) (by omega) (by have := Z3.out; omega) O3.out).mono ?_
  rintro e w4 ⟨rfl, T4, m4⟩
  have OM : Hid (w.heap.size ≤ w1.heap.size ∧ w1.heap.size + 1 ≤ w2.heap.size ∧ w2.heap.size + 1 ≤ w3.heap.size) := ⟨ZW.out, Z2.out, Z3.out⟩
  have B4 : Hid (Below w.heap.size w w4) := Below.turned B3.out T4 (Nat.le_refl _) (by have := OM.out; omega)
  have X4 : Hid (Box w4 w1.heap.size [.bool D.H, .bool D.D, .bool D.O, .string D.F, .slice a1 D.R.length c1, .slice e1 D.L.length f1]) := X3.out.turned T4 (by omega)
  have Y4 : Hid (Box w4 w2.heap.size [.bool D.H, .bool D.D, .bool D.O, .string D.F, .slice a2 D.R.length c2, .slice e2 D.L.length f2]) := Y3.out.turned T4 (by omega)
  have O4 : Hid (OwnsT w4 (w1.heap.size + 1) w2.heap.size (.agg #[.bool D.H, .bool D.D, .bool D.O, .string D.F, .slice a2 D.R.length c2, .slice e2 D.L.length f2]) (mkT D 1)) := m4
  have R4 : Hid (OwnsT w4 w.heap.size w1.heap.size (.agg #[.bool D.H, .bool D.D, .bool D.O, .string D.F, .slice a1 D.R.length c1, .slice e1 D.L.length f1]) D) := R3.out.turned T4 (by omega)
  clear T4 m4 B3 X3 Y3 O3 R3 q0 q1 q2 q3 q4 q5
  obtain ⟨E, hE⟩ : ∃ E, 1 + D.R.length + D.L.length = E := ⟨_, rfl⟩
  rw [hE]
  have HE : Hid (1 + D.R.length + D.L.length = E) := hE
  clear hE
  have hk2 : decide (((E : Nat) : Int) < 0) = false := by simp
  have hk3 : (((E : Nat) : Int) != ((E : Nat) : Int)) = false := by simp
  obtain ⟨q0, _⟩ := Y4.out 0 _ rfl
  obtain ⟨q1, _⟩ := Y4.out 1 _ rfl
  obtain ⟨q2, _⟩ := Y4.out 2 _ rfl
  obtain ⟨q3, _⟩ := Y4.out 3 _ rfl
  obtain ⟨q4, _⟩ := Y4.out 4 _ rfl
  obtain ⟨q5, _⟩ := Y4.out 5 _ rfl
  go_wp2_with fail
  refine (heldSmtp _ D 1 _ SM.out (by omega) (by omega) O4.out.reads).mono ?_
  rw [HE.out]
  rintro e w5 ⟨rfl, hb5⟩
  have B5 : Hid (Below w.heap.size w w5) := B4.out.trans (hb5.mono B4.out.size)
  have X5 : Hid (Box w5 w1.heap.size [.bool D.H, .bool D.D, .bool D.O, .string D.F, .slice a1 D.R.length c1, .slice e1 D.L.length f1]) := X4.out.below hb5
  have Y5 : Hid (Box w5 w2.heap.size [.bool D.H, .bool D.D, .bool D.O, .string D.F, .slice a2 D.R.length c2, .slice e2 D.L.length f2]) := Y4.out.below hb5
  have O5 : Hid (OwnsT w5 (w1.heap.size + 1) w2.heap.size (.agg #[.bool D.H, .bool D.D, .bool D.O, .string D.F, .slice a2 D.R.length c2, .slice e2 D.L.length f2]) (mkT D 1)) := O4.out.below hb5
  have R5 : Hid (OwnsT w5 w.heap.size w1.heap.size (.agg #[.bool D.H, .bool D.D, .bool D.O, .string D.F, .slice a1 D.R.length c1, .slice e1 D.L.length f1]) D) := R4.out.below hb5
  clear hb5 B4 X4 Y4 O4 R4 q0 q1 q2 q3 q4 q5
  go_wp2_with fail
  refine (implNewSmtp _).mono ?_
  rw [HF.out]
  rintro e w6 ⟨v6, rfl, own6, hb6⟩
  obtain ⟨a6, c6, e6, f6, rfl⟩ := own6.lit
  have B6 : Hid (Below w.heap.size w w6) := B5.out.trans (hb6.mono B5.out.size)
  have X6 : Hid (Box w6 w1.heap.size [.bool D.H, .bool D.D, .bool D.O, .string D.F, .slice a1 D.R.length c1, .slice e1 D.L.length f1]) := X5.out.below hb6
  have Y6 : Hid (Box w6 w2.heap.size [.bool D.H, .bool D.D, .bool D.O, .string D.F, .slice a2 D.R.length c2, .slice e2 D.L.length f2]) := Y5.out.below hb6
  have O6 : Hid (OwnsT w6 (w1.heap.size + 1) w2.heap.size (.agg #[.bool D.H, .bool D.D, .bool D.O, .string D.F, .slice a2 D.R.length c2, .slice e2 D.L.length f2]) (mkT D 1)) := O5.out.below hb6
  have R6 : Hid (OwnsT w6 w.heap.size w1.heap.size (.agg #[.bool D.H, .bool D.D, .bool D.O, .string D.F, .slice a1 D.R.length c1, .slice e1 D.L.length f1]) D) := R5.out.below hb6
  have N6 : Hid (ReadsT w6 (.agg #[.bool D.H, .bool D.D, .bool D.O, .string D.F, .slice a6 D.R.length c6, .slice e6 D.L.length f6]) D) := own6.reads
  clear hb6 own6 B5 X5 Y5 O5 R5
  obtain ⟨p0, _⟩ := X6.out.old (.cells #[.bool D.H, .bool D.D, .bool D.O, .string D.F, .slice a6 D.R.length c6, .slice e6 D.L.length f6] 24) 0 _ rfl
  obtain ⟨p1, _⟩ := X6.out.old (.cells #[.bool D.H, .bool D.D, .bool D.O, .string D.F, .slice a6 D.R.length c6, .slice e6 D.L.length f6] 24) 1 _ rfl
  obtain ⟨p2, _⟩ := X6.out.old (.cells #[.bool D.H, .bool D.D, .bool D.O, .string D.F, .slice a6 D.R.length c6, .slice e6 D.L.length f6] 24) 2 _ rfl
  obtain ⟨p3, _⟩ := X6.out.old (.cells #[.bool D.H, .bool D.D, .bool D.O, .string D.F, .slice a6 D.R.length c6, .slice e6 D.L.length f6] 24) 3 _ rfl
  obtain ⟨p4, _⟩ := X6.out.old (.cells #[.bool D.H, .bool D.D, .bool D.O, .string D.F, .slice a6 D.R.length c6, .slice e6 D.L.length f6] 24) 4 _ rfl
  obtain ⟨p5, _⟩ := X6.out.old (.cells #[.bool D.H, .bool D.D, .bool D.O, .string D.F, .slice a6 D.R.length c6, .slice e6 D.L.length f6] 24) 5 _ rfl
  go_wp2_with fail
  refine (eqSmtp _ _ D _ SB.out (N6.out.below ((Below.refl _ _).alloc (Nat.le_refl _) _)) (R6.out.reads.below ((Below.refl _ _).alloc (Nat.le_refl _) _))).mono ?_
  rintro e w7 ⟨rfl, hb7⟩
  have B7 : Hid (Below w.heap.size w w7) := B6.out.trans ((Below.new hb7).mono B6.out.size)
  have Y7 : Hid (Box w7 w2.heap.size [.bool D.H, .bool D.D, .bool D.O, .string D.F, .slice a2 D.R.length c2, .slice e2 D.L.length f2]) := Y6.out.below (Below.new hb7)
  have O7 : Hid (OwnsT w7 (w1.heap.size + 1) w2.heap.size (.agg #[.bool D.H, .bool D.D, .bool D.O, .string D.F, .slice a2 D.R.length c2, .slice e2 D.L.length f2]) (mkT D 1)) := O6.out.below (Below.new hb7)
  clear hb7 B6 X6 Y6 O6 R6 N6 p0 p1 p2 p3 p4 p5
  obtain ⟨q0, _⟩ := Y7.out 0 _ rfl
  obtain ⟨q1, _⟩ := Y7.out 1 _ rfl
  obtain ⟨q2, _⟩ := Y7.out 2 _ rfl
  obtain ⟨q3, _⟩ := Y7.out 3 _ rfl
  obtain ⟨q4, _⟩ := Y7.out 4 _ rfl
  obtain ⟨q5, _⟩ := Y7.out 5 _ rfl
  go_wp2_with fail
  refine (heldSmtp _ D 1 _ SM.out (by omega) (by omega) O7.out.reads).mono ?_
  rw [HE.out]
  rintro e w8 ⟨rfl, hb8⟩
  have B8 : Hid (Below w.heap.size w w8) := B7.out.trans (hb8.mono B7.out.size)
  clear hb8 q0 q1 q2 q3 q4 q5
  go_wp2_with fail
  go_ret
  exact ⟨rfl, B8.out⟩
end Go.Proofs.Ytbaljcdiofoppaa.fnExactNewSmtp
