/-
  The walk of the law FnExactStoreOK.
  By an AI agent.
-/
import Derived.Test.YtnnimocaanofjaaGreatDoorSt46
import Derived.LaidMore
import Derived.Lib.LaidTab
import Derived.SevenTiedAt
import Derived.WalkSmall
import Derived.Stop.Joined
namespace Go.Proofs.YtnnimocaanofjaaGreatDoor.fnExactStoreOK
open Go.ChangeShapes Go.WideShapes Go.ChangeAt Go.WideMaps Go.WideElems Go.RowKit Go.Deep
open Go.ChangeMaps (open_string shut_string)
set_option linter.unusedVariables false

set_option maxHeartbeats 4000000 in
theorem walk (v : Value) (E : DM × UM × List NM) (w : World) (h : ReadsS w v E.1 E.2.1 E.2.2) (hm : maxSt E.1 E.2.1 E.2.2) (hH : HasHalf w) :
    Calls Tryz.prog 3 #[v] w fun e w' => e = .returned (.bool true) ∧ Below w.heap.size w w' := by
  haveI : DecidableEq NM := decNM
  obtain ⟨D, U, H⟩ := E
  simp only at h hm
  have HM : Hid (maxSt D U H) := hm
  have HF : Hid (HasHalf w) := hH
  obtain ⟨x1, x2, x3, x4, x5, rfl, p1, p2, p3⟩ := h
  obtain ⟨a1, ax1, a2, ax2, a3, ax3, rfl, rfl, rfl, _⟩ := disk_lit p1
  obtain ⟨a4, ax4, rfl⟩ := super_lit p2
  obtain ⟨a5, ax5, rfl⟩ := heap_lit p3
  have HR : Hid (ReadsS w (.agg #[.slice a1 D.S.length ax1, .slice a2 D.C.length ax2, .bool D.A, .slice a3 D.K.length ax3, .int .i64 U.G, .int .i64 U.R, .slice a4 U.S.length ax4, .slice a5 H.length ax5]) D U H) := ⟨_, _, _, _, _, rfl, p1, p2, p3⟩
  clear hm p1 p2 p3 hH
  go_enter Tryz.func3, Tryz.ntmps3
  go_wp2_with fail
  refine (szStore _ D U H _ HM.out (HR.out.below ((Below.refl _ _).alloc (Nat.le_refl _) _))).mono ?_
  rintro e w1 ⟨r, rfl, hr, hb1⟩
  have B1 : Hid (Below w.heap.size w w1) := Below.new hb1
  have X1 : Hid (Box w1 w.heap.size [.slice a1 D.S.length ax1, .slice a2 D.C.length ax2, .bool D.A, .slice a3 D.K.length ax3, .int .i64 U.G, .int .i64 U.R, .slice a4 U.S.length ax4, .slice a5 H.length ax5]) := Box.below (Box.new rfl) hb1
  clear hb1
  by_cases hneg : r < 0
  · clear hr
    go_wp2_with fail
    go_ret
    exact ⟨rfl, B1.out⟩
  have SM : Hid (smallD D ∧ smallU U ∧ smallH H) := hr (by omega)
  clear hr
  obtain ⟨p0, _⟩ := X1.out 0 _ rfl
  obtain ⟨p1, _⟩ := X1.out 1 _ rfl
  obtain ⟨p2, _⟩ := X1.out 2 _ rfl
  obtain ⟨p3, _⟩ := X1.out 3 _ rfl
  obtain ⟨p4, _⟩ := X1.out 4 _ rfl
  obtain ⟨p5, _⟩ := X1.out 5 _ rfl
  obtain ⟨p6, _⟩ := X1.out 6 _ rfl
  obtain ⟨p7, _⟩ := X1.out 7 _ rfl
  go_wp2_with fail
  refine (toStore _ D U H _ SM.out (HR.out.below B1.out)).mono ?_
  rintro e w2 ⟨v2, rfl, own2, hb2⟩
  obtain ⟨c1, cx1, c2, cx2, c3, cx3, c4, cx4, c5, cx5, rfl⟩ := own2.lit
  have B2 : Hid (Below w.heap.size w w2) := B1.out.trans (hb2.mono B1.out.size)
  have X2 : Hid (Box w2 w.heap.size [.slice a1 D.S.length ax1, .slice a2 D.C.length ax2, .bool D.A, .slice a3 D.K.length ax3, .int .i64 U.G, .int .i64 U.R, .slice a4 U.S.length ax4, .slice a5 H.length ax5]) := X1.out.below hb2
  have O2 : Hid (StoreIn w2 c1 c2 c3 c4 c5 D.S.length cx1 D.C.length cx2 D.K.length cx3 U.S.length cx4 H.length cx5 D.A U.G U.R D U H) := StoreIn.of_owns SM.out own2
  clear hb2 own2 B1 X1 p0 p1 p2 p3 p4 p5 p6 p7
  go_wp2_with fail
  refine (specStoreOK _ _ _ _ _ _ _ _ _ _ _ _ _ _ _ _ _ _ D U H _ O2.out).mono ?_
  obtain ⟨bb, hbb⟩ : ∃ bb, storeB D U H = bb := ⟨_, rfl⟩
  have HBB : Hid (storeB D U H = bb) := hbb
  rw [hbb]
  clear hbb
  rintro e w3 ⟨rfl, hb3⟩
  have B3 : Hid (Below w.heap.size w w3) := B2.out.trans (hb3.mono B2.out.size)
  have X3 : Hid (Box w3 w.heap.size [.slice a1 D.S.length ax1, .slice a2 D.C.length ax2, .bool D.A, .slice a3 D.K.length ax3, .int .i64 U.G, .int .i64 U.R, .slice a4 U.S.length ax4, .slice a5 H.length ax5]) := X2.out.below hb3
  clear hb3 O2 B2 X2
  obtain ⟨p0, _⟩ := X3.out 0 _ rfl
  obtain ⟨p1, _⟩ := X3.out 1 _ rfl
  obtain ⟨p2, _⟩ := X3.out 2 _ rfl
  obtain ⟨p3, _⟩ := X3.out 3 _ rfl
  obtain ⟨p4, _⟩ := X3.out 4 _ rfl
  obtain ⟨p5, _⟩ := X3.out 5 _ rfl
  obtain ⟨p6, _⟩ := X3.out 6 _ rfl
  obtain ⟨p7, _⟩ := X3.out 7 _ rfl
  go_wp2_with fail
  refine (toStore _ D U H _ SM.out (HR.out.below B3.out)).mono ?_
  rintro e w4 ⟨v4, rfl, own4, hb4⟩
  obtain ⟨b1, bx1, b2, bx2, b3, bx3, b4, bx4, b5, bx5, rfl⟩ := own4.lit
  have B4 : Hid (Below w.heap.size w w4) := B3.out.trans (hb4.mono B3.out.size)
  have X4 : Hid (Box w4 w.heap.size [.slice a1 D.S.length ax1, .slice a2 D.C.length ax2, .bool D.A, .slice a3 D.K.length ax3, .int .i64 U.G, .int .i64 U.R, .slice a4 U.S.length ax4, .slice a5 H.length ax5]) := X3.out.below hb4
  have O4 : Hid (StoreIn w4 b1 b2 b3 b4 b5 D.S.length bx1 D.C.length bx2 D.K.length bx3 U.S.length bx4 H.length bx5 D.A U.G U.R D U H) := StoreIn.of_owns SM.out own4
  have R4 : Hid (ReadsS w4 (.agg #[.slice b1 D.S.length bx1, .slice b2 D.C.length bx2, .bool D.A, .slice b3 D.K.length bx3, .int .i64 U.G, .int .i64 U.R, .slice b4 U.S.length bx4, .slice b5 H.length bx5]) D U H) := own4.reads
  clear hb4 own4 B3 X3 p0 p1 p2 p3 p4 p5 p6 p7
  have A4 : Hid (Below w4.heap.size w4 (w4.alloc (.cells #[.slice b1 D.S.length bx1, .slice b2 D.C.length bx2, .bool D.A, .slice b3 D.K.length bx3, .int .i64 U.G, .int .i64 U.R, .slice b4 U.S.length bx4, .slice b5 H.length bx5] 47))) := (Below.refl _ _).alloc (Nat.le_refl _) _
  go_wp2_with fail
  refine (implStoreOK _ _ _ _ _ _ _ _ _ _ _ _ _ _ _ _ _ _ D U H _ (HF.out.below (B4.out.trans (A4.out.mono B4.out.size))) (O4.out.below A4.out)).mono ?_
  rw [HBB.out]
  rintro e w5 ⟨rfl, hb5⟩
  have B5 : Hid (Below w.heap.size w w5) := B4.out.trans ((Below.new hb5).mono B4.out.size)
  have X5 : Hid (Box w5 w.heap.size [.slice a1 D.S.length ax1, .slice a2 D.C.length ax2, .bool D.A, .slice a3 D.K.length ax3, .int .i64 U.G, .int .i64 U.R, .slice a4 U.S.length ax4, .slice a5 H.length ax5]) := X4.out.below (Below.new hb5)
  have Y5 : Hid (Box w5 w4.heap.size [.slice b1 D.S.length bx1, .slice b2 D.C.length bx2, .bool D.A, .slice b3 D.K.length bx3, .int .i64 U.G, .int .i64 U.R, .slice b4 U.S.length bx4, .slice b5 H.length bx5]) := Box.below (Box.new rfl) hb5
  have R5 : Hid (ReadsS w5 (.agg #[.slice b1 D.S.length bx1, .slice b2 D.C.length bx2, .bool D.A, .slice b3 D.K.length bx3, .int .i64 U.G, .int .i64 U.R, .slice b4 U.S.length bx4, .slice b5 H.length bx5]) D U H) := R4.out.below (Below.new hb5)
  clear hb5 B4 X4 O4 R4 A4
  have hne : (bb != bb) = false := by cases bb <;> rfl
  obtain ⟨p0, _⟩ := X5.out 0 _ rfl
  obtain ⟨p1, _⟩ := X5.out 1 _ rfl
  obtain ⟨p2, _⟩ := X5.out 2 _ rfl
  obtain ⟨p3, _⟩ := X5.out 3 _ rfl
  obtain ⟨p4, _⟩ := X5.out 4 _ rfl
  obtain ⟨p5, _⟩ := X5.out 5 _ rfl
  obtain ⟨p6, _⟩ := X5.out 6 _ rfl
  obtain ⟨p7, _⟩ := X5.out 7 _ rfl
  obtain ⟨q0, _⟩ := Y5.out 0 _ rfl
  obtain ⟨q1, _⟩ := Y5.out 1 _ rfl
  obtain ⟨q2, _⟩ := Y5.out 2 _ rfl
  obtain ⟨q3, _⟩ := Y5.out 3 _ rfl
  obtain ⟨q4, _⟩ := Y5.out 4 _ rfl
  obtain ⟨q5, _⟩ := Y5.out 5 _ rfl
  obtain ⟨q6, _⟩ := Y5.out 6 _ rfl
  obtain ⟨q7, _⟩ := Y5.out 7 _ rfl
  go_wp2_with fail
  go_region_with (first | (go_at_call 12; refine (eqStoreL _ _ D U H _ SM.out O6.out.1 O6.out.2).mono ?_; rintro e w7 ⟨rfl, hb7⟩; have B7 : Hid (Below w.heap.size w w7) := B6.out.trans (hb7.mono B6.out.size); clear hb7) | (go_at_call 10; refine (toStore _ D U H _ SM.out (HR.out.below B5.out.drew)).mono ?_; rintro e w6 ⟨v6, rfl, own6, hb6⟩; have B6 : Hid (Below w.heap.size w w6) := B5.out.drew.trans (hb6.mono B5.out.size); have O6 : Hid (ReadsS w6 (.agg #[.slice b1 D.S.length bx1, .slice b2 D.C.length bx2, .bool D.A, .slice b3 D.K.length bx3, .int .i64 U.G, .int .i64 U.R, .slice b4 U.S.length bx4, .slice b5 H.length bx5]) D U H ∧ ReadsS w6 v6 D U H) := ⟨(show ReadsS w5.drew _ D U H from R5.out.below (Below.refl _ _).drew).below hb6, own6.reads⟩; have Y6 := Y5.out.drew.below hb6; clear q0 q1 q2 q3 q4 q5 q6 q7; obtain ⟨q0, _⟩ := Y6 0 _ rfl; obtain ⟨q1, _⟩ := Y6 1 _ rfl; obtain ⟨q2, _⟩ := Y6 2 _ rfl; obtain ⟨q3, _⟩ := Y6 3 _ rfl; obtain ⟨q4, _⟩ := Y6 4 _ rfl; obtain ⟨q5, _⟩ := Y6 5 _ rfl; obtain ⟨q6, _⟩ := Y6 6 _ rfl; obtain ⟨q7, _⟩ := Y6 7 _ rfl; clear hb6 own6 Y6))
  all_goals go_wp2_with fail
  all_goals
    go_ret
    exact ⟨rfl, B7.out⟩

end Go.Proofs.YtnnimocaanofjaaGreatDoor.fnExactStoreOK
