/-
  The walk of the law FnExactNewStore.
  By an AI agent.
-/
import Derived.Test.YtlkobhighhkmoaaDoorNst
import Derived.LaidMore
import Derived.Lib.LaidTab
import Derived.SevenTiedAt
import Derived.WalkSmall
import Derived.Stop.Joined
namespace Go.Proofs.YtlkobhighhkmoaaDoor.fnExactNewStore
open Go.ChangeShapes Go.WideShapes Go.ChangeAt Go.WideMaps Go.WideElems Go.RowKit Go.Deep
open Go.ChangeMaps (open_string shut_string)
set_option linter.unusedVariables false

set_option maxHeartbeats 4000000 in
theorem walk (w : World) (hH : HasHalf w) : Calls Tryd.prog 3 #[] w fun e w' => e = .returned (.bool true) ∧ Below w.heap.size w w' := by
  obtain ⟨D, hD⟩ : ∃ D, newSD = D := ⟨_, rfl⟩
  obtain ⟨U, hU⟩ : ∃ U, newU = U := ⟨_, rfl⟩
  obtain ⟨H, hHH⟩ : ∃ H, freshH = H := ⟨_, rfl⟩
  have SM : Hid (smallS D U H) := hD ▸ hU ▸ hHH ▸ newSD_small
  have IM : Hid (∀ w : World, HasHalf w → Calls Tryd.prog 6 #[] w fun e w' => ∃ v, e = .returned v ∧ OwnsS w' w.heap.size w'.heap.size v D U H ∧ Below w.heap.size w w') := fun w h => hD ▸ hU ▸ hHH ▸ implNewStore w h
  have SP : Hid (∀ w : World, Calls Tryd.prog 5 #[] w fun e w' => ∃ v, e = .returned v ∧ OwnsS w' w.heap.size w'.heap.size v D U H ∧ Below w.heap.size w w') := fun w => hD ▸ hU ▸ hHH ▸ specNewStore w
  have HF : Hid (HasHalf w) := hH
  clear hH hD hU hHH
  go_enter Tryd.func3, Tryd.ntmps3
  go_wp2_with fail
  refine (SP.out _).mono ?_
  rintro e w1 ⟨v1, rfl, own1, hb1⟩
  obtain ⟨a1, ax1, a2, ax2, a3, ax3, a4, ax4, a5, ax5, rfl⟩ := own1.lit
  have B1 : Hid (Below w.heap.size w w1) := hb1
  have R1 : Hid (OwnsS w1 w.heap.size w1.heap.size (.agg #[.slice a1 D.S.length ax1, .slice a2 D.C.length ax2, .bool D.A, .slice a3 D.K.length ax3, .int .i64 U.G, .int .i64 U.R, .slice a4 U.S.length ax4, .slice a5 H.length ax5]) D U H) := own1
  clear hb1 own1
  go_wp2_with fail
  refine (IM.out _ (HF.out.below (B1.out.alloc B1.out.size _))).mono ?_
  rintro e w2 ⟨v2, rfl, own2, hb2⟩
  obtain ⟨b1, bx1, b2, bx2, b3, bx3, b4, bx4, b5, bx5, rfl⟩ := own2.lit
  have B2 : Hid (Below w.heap.size w w2) := B1.out.trans ((Below.new hb2).mono B1.out.size)
  have R2 : Hid (OwnsS w2 w.heap.size w1.heap.size (.agg #[.slice a1 D.S.length ax1, .slice a2 D.C.length ax2, .bool D.A, .slice a3 D.K.length ax3, .int .i64 U.G, .int .i64 U.R, .slice a4 U.S.length ax4, .slice a5 H.length ax5]) D U H) := R1.out.below (Below.new hb2)
  have X2 : Hid (Box w2 w1.heap.size [.slice a1 D.S.length ax1, .slice a2 D.C.length ax2, .bool D.A, .slice a3 D.K.length ax3, .int .i64 U.G, .int .i64 U.R, .slice a4 U.S.length ax4, .slice a5 H.length ax5]) := Box.below (Box.new rfl) hb2
  have O2 : Hid (OwnsS w2 (w1.heap.size + 1) w2.heap.size (.agg #[.slice b1 D.S.length bx1, .slice b2 D.C.length bx2, .bool D.A, .slice b3 D.K.length bx3, .int .i64 U.G, .int .i64 U.R, .slice b4 U.S.length bx4, .slice b5 H.length bx5]) D U H) := own2.mono (by simp) (Nat.le_refl _)
  have Z2 : Hid (w1.heap.size + 1 ≤ w2.heap.size) := size_new hb2
  have ZW : Hid (w.heap.size ≤ w1.heap.size) := B1.out.size
  clear hb2 own2 R1 B1
  obtain ⟨p0, _⟩ := (X2.out.old (.cells #[.slice b1 D.S.length bx1, .slice b2 D.C.length bx2, .bool D.A, .slice b3 D.K.length bx3, .int .i64 U.G, .int .i64 U.R, .slice b4 U.S.length bx4, .slice b5 H.length bx5] 34)) 0 _ rfl
  obtain ⟨p1, _⟩ := (X2.out.old (.cells #[.slice b1 D.S.length bx1, .slice b2 D.C.length bx2, .bool D.A, .slice b3 D.K.length bx3, .int .i64 U.G, .int .i64 U.R, .slice b4 U.S.length bx4, .slice b5 H.length bx5] 34)) 1 _ rfl
  obtain ⟨p2, _⟩ := (X2.out.old (.cells #[.slice b1 D.S.length bx1, .slice b2 D.C.length bx2, .bool D.A, .slice b3 D.K.length bx3, .int .i64 U.G, .int .i64 U.R, .slice b4 U.S.length bx4, .slice b5 H.length bx5] 34)) 2 _ rfl
  obtain ⟨p3, _⟩ := (X2.out.old (.cells #[.slice b1 D.S.length bx1, .slice b2 D.C.length bx2, .bool D.A, .slice b3 D.K.length bx3, .int .i64 U.G, .int .i64 U.R, .slice b4 U.S.length bx4, .slice b5 H.length bx5] 34)) 3 _ rfl
  obtain ⟨p4, _⟩ := (X2.out.old (.cells #[.slice b1 D.S.length bx1, .slice b2 D.C.length bx2, .bool D.A, .slice b3 D.K.length bx3, .int .i64 U.G, .int .i64 U.R, .slice b4 U.S.length bx4, .slice b5 H.length bx5] 34)) 4 _ rfl
  obtain ⟨p5, _⟩ := (X2.out.old (.cells #[.slice b1 D.S.length bx1, .slice b2 D.C.length bx2, .bool D.A, .slice b3 D.K.length bx3, .int .i64 U.G, .int .i64 U.R, .slice b4 U.S.length bx4, .slice b5 H.length bx5] 34)) 5 _ rfl
  obtain ⟨p6, _⟩ := (X2.out.old (.cells #[.slice b1 D.S.length bx1, .slice b2 D.C.length bx2, .bool D.A, .slice b3 D.K.length bx3, .int .i64 U.G, .int .i64 U.R, .slice b4 U.S.length bx4, .slice b5 H.length bx5] 34)) 6 _ rfl
  obtain ⟨p7, _⟩ := (X2.out.old (.cells #[.slice b1 D.S.length bx1, .slice b2 D.C.length bx2, .bool D.A, .slice b3 D.K.length bx3, .int .i64 U.G, .int .i64 U.R, .slice b4 U.S.length bx4, .slice b5 H.length bx5] 34)) 7 _ rfl
  go_wp2_with fail
  refine (eqStore _ _ D U H _ SM.out (O2.out.reads.below ((Below.refl _ _).alloc (Nat.le_refl _) _)) (R2.out.reads.below ((Below.refl _ _).alloc (Nat.le_refl _) _))).mono ?_
  rintro e w3 ⟨rfl, hb3⟩
  have B3 : Hid (Below w.heap.size w w3) := B2.out.trans ((Below.new hb3).mono B2.out.size)
  have R3 : Hid (OwnsS w3 w.heap.size w1.heap.size (.agg #[.slice a1 D.S.length ax1, .slice a2 D.C.length ax2, .bool D.A, .slice a3 D.K.length ax3, .int .i64 U.G, .int .i64 U.R, .slice a4 U.S.length ax4, .slice a5 H.length ax5]) D U H) := R2.out.below (Below.new hb3)
  have X3 : Hid (Box w3 w1.heap.size [.slice a1 D.S.length ax1, .slice a2 D.C.length ax2, .bool D.A, .slice a3 D.K.length ax3, .int .i64 U.G, .int .i64 U.R, .slice a4 U.S.length ax4, .slice a5 H.length ax5]) := X2.out.below (Below.new hb3)
  have Y3 : Hid (Box w3 w2.heap.size [.slice b1 D.S.length bx1, .slice b2 D.C.length bx2, .bool D.A, .slice b3 D.K.length bx3, .int .i64 U.G, .int .i64 U.R, .slice b4 U.S.length bx4, .slice b5 H.length bx5]) := Box.below (Box.new rfl) hb3
  have O3 : Hid (OwnsS w3 (w1.heap.size + 1) w2.heap.size (.agg #[.slice b1 D.S.length bx1, .slice b2 D.C.length bx2, .bool D.A, .slice b3 D.K.length bx3, .int .i64 U.G, .int .i64 U.R, .slice b4 U.S.length bx4, .slice b5 H.length bx5]) D U H) := O2.out.below (Below.new hb3)
  have Z3 : Hid (w2.heap.size + 1 ≤ w3.heap.size) := size_new hb3
  clear hb3 B2 R2 X2 O2 p0 p1 p2 p3 p4 p5 p6 p7
  obtain ⟨q0, _⟩ := Y3.out 0 _ rfl
  obtain ⟨q1, _⟩ := Y3.out 1 _ rfl
  obtain ⟨q2, _⟩ := Y3.out 2 _ rfl
  obtain ⟨q3, _⟩ := Y3.out 3 _ rfl
  obtain ⟨q4, _⟩ := Y3.out 4 _ rfl
  obtain ⟨q5, _⟩ := Y3.out 5 _ rfl
  obtain ⟨q6, _⟩ := Y3.out 6 _ rfl
  obtain ⟨q7, _⟩ := Y3.out 7 _ rfl
  go_wp2_with fail
  refine (markStore _ D U H (w1.heap.size + 1) w2.heap.size 1 _ SM.out (by omega) (by omega) (by have := Z3.out; omega) O3.out).mono ?_
  rintro e w4 ⟨rfl, T4, m4⟩
  have OM : Hid (w.heap.size ≤ w1.heap.size ∧ w1.heap.size + 1 ≤ w2.heap.size ∧ w2.heap.size + 1 ≤ w3.heap.size) := ⟨ZW.out, Z2.out, Z3.out⟩
  have B4 : Hid (Below w.heap.size w w4) := Below.turned B3.out T4 (Nat.le_refl _) (by have := OM.out; omega)
  have X4 : Hid (Box w4 w1.heap.size [.slice a1 D.S.length ax1, .slice a2 D.C.length ax2, .bool D.A, .slice a3 D.K.length ax3, .int .i64 U.G, .int .i64 U.R, .slice a4 U.S.length ax4, .slice a5 H.length ax5]) := X3.out.turned T4 (by omega)
  have Y4 : Hid (Box w4 w2.heap.size [.slice b1 D.S.length bx1, .slice b2 D.C.length bx2, .bool D.A, .slice b3 D.K.length bx3, .int .i64 U.G, .int .i64 U.R, .slice b4 U.S.length bx4, .slice b5 H.length bx5]) := Y3.out.turned T4 (by omega)
  have O4 : Hid (ReadsS w4 (.agg #[.slice b1 D.S.length bx1, .slice b2 D.C.length bx2, .bool D.A, .slice b3 D.K.length bx3, .int .i64 U.G, .int .i64 U.R, .slice b4 U.S.length bx4, .slice b5 H.length bx5]) (markedD D 1) (mkU U (k2S D 1)) (markH H (k3S D U 1))) := m4.reads
  have R4 : Hid (OwnsS w4 w.heap.size w1.heap.size (.agg #[.slice a1 D.S.length ax1, .slice a2 D.C.length ax2, .bool D.A, .slice a3 D.K.length ax3, .int .i64 U.G, .int .i64 U.R, .slice a4 U.S.length ax4, .slice a5 H.length ax5]) D U H) := R3.out.turned T4 (by omega)
  clear T4 m4 B3 X3 Y3 O3 R3 q0 q1 q2 q3 q4 q5 q6 q7
  obtain ⟨E, hE⟩ : ∃ E, endS D U H 1 = E := ⟨_, rfl⟩
  rw [hE]
  have HE : Hid (endS D U H 1 = E) := hE
  clear hE
  have hk2 : decide (((E : Nat) : Int) < 0) = false := by simp
  have hk3 : (((E : Nat) : Int) != ((E : Nat) : Int)) = false := by simp
  obtain ⟨q0, _⟩ := Y4.out 0 _ rfl
  obtain ⟨q1, _⟩ := Y4.out 1 _ rfl
  obtain ⟨q2, _⟩ := Y4.out 2 _ rfl
  obtain ⟨q3, _⟩ := Y4.out 3 _ rfl
  obtain ⟨q4, _⟩ := Y4.out 4 _ rfl
  obtain ⟨q5, _⟩ := Y4.out 5 _ rfl
  obtain ⟨q6, _⟩ := Y4.out 6 _ rfl
  obtain ⟨q7, _⟩ := Y4.out 7 _ rfl
  go_wp2_with fail
  refine (heldStore _ D U H 1 _ SM.out (by omega) (by omega) O4.out).mono ?_
  rw [HE.out]
  rintro e w5 ⟨rfl, hb5⟩
  have B5 : Hid (Below w.heap.size w w5) := B4.out.trans (hb5.mono B4.out.size)
  have X5 : Hid (Box w5 w1.heap.size [.slice a1 D.S.length ax1, .slice a2 D.C.length ax2, .bool D.A, .slice a3 D.K.length ax3, .int .i64 U.G, .int .i64 U.R, .slice a4 U.S.length ax4, .slice a5 H.length ax5]) := X4.out.below hb5
  have Y5 : Hid (Box w5 w2.heap.size [.slice b1 D.S.length bx1, .slice b2 D.C.length bx2, .bool D.A, .slice b3 D.K.length bx3, .int .i64 U.G, .int .i64 U.R, .slice b4 U.S.length bx4, .slice b5 H.length bx5]) := Y4.out.below hb5
  have O5 : Hid (ReadsS w5 (.agg #[.slice b1 D.S.length bx1, .slice b2 D.C.length bx2, .bool D.A, .slice b3 D.K.length bx3, .int .i64 U.G, .int .i64 U.R, .slice b4 U.S.length bx4, .slice b5 H.length bx5]) (markedD D 1) (mkU U (k2S D 1)) (markH H (k3S D U 1))) := O4.out.below hb5
  have R5 : Hid (OwnsS w5 w.heap.size w1.heap.size (.agg #[.slice a1 D.S.length ax1, .slice a2 D.C.length ax2, .bool D.A, .slice a3 D.K.length ax3, .int .i64 U.G, .int .i64 U.R, .slice a4 U.S.length ax4, .slice a5 H.length ax5]) D U H) := R4.out.below hb5
  clear hb5 B4 X4 Y4 O4 R4 q0 q1 q2 q3 q4 q5 q6 q7
  go_wp2_with fail
  refine (IM.out _ (HF.out.below B5.out)).mono ?_
  rintro e w6 ⟨v6, rfl, own6, hb6⟩
  obtain ⟨c1, cx1, c2, cx2, c3, cx3, c4, cx4, c5, cx5, rfl⟩ := own6.lit
  have B6 : Hid (Below w.heap.size w w6) := B5.out.trans (hb6.mono B5.out.size)
  have X6 : Hid (Box w6 w1.heap.size [.slice a1 D.S.length ax1, .slice a2 D.C.length ax2, .bool D.A, .slice a3 D.K.length ax3, .int .i64 U.G, .int .i64 U.R, .slice a4 U.S.length ax4, .slice a5 H.length ax5]) := X5.out.below hb6
  have Y6 : Hid (Box w6 w2.heap.size [.slice b1 D.S.length bx1, .slice b2 D.C.length bx2, .bool D.A, .slice b3 D.K.length bx3, .int .i64 U.G, .int .i64 U.R, .slice b4 U.S.length bx4, .slice b5 H.length bx5]) := Y5.out.below hb6
  have O6 : Hid (ReadsS w6 (.agg #[.slice b1 D.S.length bx1, .slice b2 D.C.length bx2, .bool D.A, .slice b3 D.K.length bx3, .int .i64 U.G, .int .i64 U.R, .slice b4 U.S.length bx4, .slice b5 H.length bx5]) (markedD D 1) (mkU U (k2S D 1)) (markH H (k3S D U 1))) := O5.out.below hb6
  have R6 : Hid (OwnsS w6 w.heap.size w1.heap.size (.agg #[.slice a1 D.S.length ax1, .slice a2 D.C.length ax2, .bool D.A, .slice a3 D.K.length ax3, .int .i64 U.G, .int .i64 U.R, .slice a4 U.S.length ax4, .slice a5 H.length ax5]) D U H) := R5.out.below hb6
  have N6 : Hid (ReadsS w6 (.agg #[.slice c1 D.S.length cx1, .slice c2 D.C.length cx2, .bool D.A, .slice c3 D.K.length cx3, .int .i64 U.G, .int .i64 U.R, .slice c4 U.S.length cx4, .slice c5 H.length cx5]) D U H) := own6.reads
  clear hb6 own6 B5 X5 Y5 O5 R5
  obtain ⟨p0, _⟩ := (X6.out.old (.cells #[.slice c1 D.S.length cx1, .slice c2 D.C.length cx2, .bool D.A, .slice c3 D.K.length cx3, .int .i64 U.G, .int .i64 U.R, .slice c4 U.S.length cx4, .slice c5 H.length cx5] 34)) 0 _ rfl
  obtain ⟨p1, _⟩ := (X6.out.old (.cells #[.slice c1 D.S.length cx1, .slice c2 D.C.length cx2, .bool D.A, .slice c3 D.K.length cx3, .int .i64 U.G, .int .i64 U.R, .slice c4 U.S.length cx4, .slice c5 H.length cx5] 34)) 1 _ rfl
  obtain ⟨p2, _⟩ := (X6.out.old (.cells #[.slice c1 D.S.length cx1, .slice c2 D.C.length cx2, .bool D.A, .slice c3 D.K.length cx3, .int .i64 U.G, .int .i64 U.R, .slice c4 U.S.length cx4, .slice c5 H.length cx5] 34)) 2 _ rfl
  obtain ⟨p3, _⟩ := (X6.out.old (.cells #[.slice c1 D.S.length cx1, .slice c2 D.C.length cx2, .bool D.A, .slice c3 D.K.length cx3, .int .i64 U.G, .int .i64 U.R, .slice c4 U.S.length cx4, .slice c5 H.length cx5] 34)) 3 _ rfl
  obtain ⟨p4, _⟩ := (X6.out.old (.cells #[.slice c1 D.S.length cx1, .slice c2 D.C.length cx2, .bool D.A, .slice c3 D.K.length cx3, .int .i64 U.G, .int .i64 U.R, .slice c4 U.S.length cx4, .slice c5 H.length cx5] 34)) 4 _ rfl
  obtain ⟨p5, _⟩ := (X6.out.old (.cells #[.slice c1 D.S.length cx1, .slice c2 D.C.length cx2, .bool D.A, .slice c3 D.K.length cx3, .int .i64 U.G, .int .i64 U.R, .slice c4 U.S.length cx4, .slice c5 H.length cx5] 34)) 5 _ rfl
  obtain ⟨p6, _⟩ := (X6.out.old (.cells #[.slice c1 D.S.length cx1, .slice c2 D.C.length cx2, .bool D.A, .slice c3 D.K.length cx3, .int .i64 U.G, .int .i64 U.R, .slice c4 U.S.length cx4, .slice c5 H.length cx5] 34)) 6 _ rfl
  obtain ⟨p7, _⟩ := (X6.out.old (.cells #[.slice c1 D.S.length cx1, .slice c2 D.C.length cx2, .bool D.A, .slice c3 D.K.length cx3, .int .i64 U.G, .int .i64 U.R, .slice c4 U.S.length cx4, .slice c5 H.length cx5] 34)) 7 _ rfl
  go_wp2_with fail
  refine (eqStore _ _ D U H _ SM.out (N6.out.below ((Below.refl _ _).alloc (Nat.le_refl _) _)) (R6.out.reads.below ((Below.refl _ _).alloc (Nat.le_refl _) _))).mono ?_
  rintro e w7 ⟨rfl, hb7⟩
  have B7 : Hid (Below w.heap.size w w7) := B6.out.trans ((Below.new hb7).mono B6.out.size)
  have Y7 : Hid (Box w7 w2.heap.size [.slice b1 D.S.length bx1, .slice b2 D.C.length bx2, .bool D.A, .slice b3 D.K.length bx3, .int .i64 U.G, .int .i64 U.R, .slice b4 U.S.length bx4, .slice b5 H.length bx5]) := Y6.out.below (Below.new hb7)
  have O7 : Hid (ReadsS w7 (.agg #[.slice b1 D.S.length bx1, .slice b2 D.C.length bx2, .bool D.A, .slice b3 D.K.length bx3, .int .i64 U.G, .int .i64 U.R, .slice b4 U.S.length bx4, .slice b5 H.length bx5]) (markedD D 1) (mkU U (k2S D 1)) (markH H (k3S D U 1))) := O6.out.below (Below.new hb7)
  clear hb7 B6 X6 Y6 O6 R6 N6 p0 p1 p2 p3 p4 p5 p6 p7
  obtain ⟨q0, _⟩ := Y7.out 0 _ rfl
  obtain ⟨q1, _⟩ := Y7.out 1 _ rfl
  obtain ⟨q2, _⟩ := Y7.out 2 _ rfl
  obtain ⟨q3, _⟩ := Y7.out 3 _ rfl
  obtain ⟨q4, _⟩ := Y7.out 4 _ rfl
  obtain ⟨q5, _⟩ := Y7.out 5 _ rfl
  obtain ⟨q6, _⟩ := Y7.out 6 _ rfl
  obtain ⟨q7, _⟩ := Y7.out 7 _ rfl
  go_wp2_with fail
  refine (heldStore _ D U H 1 _ SM.out (by omega) (by omega) O7.out).mono ?_
  rw [HE.out]
  rintro e w8 ⟨rfl, hb8⟩
  have B8 : Hid (Below w.heap.size w w8) := B7.out.trans (hb8.mono B7.out.size)
  clear hb8 q0 q1 q2 q3 q4 q5 q6 q7
  go_wp2_with fail
  go_ret
  exact ⟨rfl, B8.out⟩
end Go.Proofs.YtlkobhighhkmoaaDoor.fnExactNewStore
