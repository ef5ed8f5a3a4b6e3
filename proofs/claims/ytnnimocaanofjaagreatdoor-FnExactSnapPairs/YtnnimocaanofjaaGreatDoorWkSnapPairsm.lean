/-
  The walk of the law FnExactSnapPairs.
  By an AI agent.
-/
import Derived.LaidMore
import Derived.Lib.LaidTab
import Derived.SevenTiedAt
import Derived.WalkSmall
import Derived.Stop.Joined
import Derived.Test.YtnnimocaanofjaaGreatDoorFx03
namespace Go.Proofs.YtnnimocaanofjaaGreatDoor.fnExactSnapPairs
open Go.ChangeShapes Go.WideShapes Go.ChangeAt Go.WideMaps Go.WideElems Go.RowKit Go.Deep
open Go.ChangeMaps (open_string shut_string)
set_option linter.unusedVariables false

set_option maxHeartbeats 8000000 in
theorem walk (v : Value) (E : DM × UM × List NM) (nm : ByteArray) (w : World) (h : ReadsS w v E.1 E.2.1 E.2.2) (hm : maxSt E.1 E.2.1 E.2.2) (hnm : nm.size ≤ maxLen) (hH : HasHalf w) :
    Calls Tryz.prog 7 #[v, .string nm] w fun e w' => e = .returned (.bool true) ∧ Below w.heap.size w w' := by
  haveI : DecidableEq NM := decNM
  obtain ⟨D, U, H⟩ := E
  simp only at h hm
  have HM : Hid (maxSt D U H) := hm
  have HF : Hid (HasHalf w) := hH
  obtain ⟨x1, x2, x3, x4, x5, rfl, p1, p2, p3⟩ := h
  obtain ⟨a1, ax1, a2, ax2, a3, ax3, rfl, rfl, rfl, _⟩ := disk_lit p1
  obtain ⟨a4, ax4, rfl⟩ := super_lit p2
  obtain ⟨a5, ax5, rfl⟩ := heap_lit p3
  have HR : Hid (ReadsS w (.agg #[.slice a1 D.S.length ax1, .slice a2 D.C.length ax2, .bool D.A, .slice a3 D.K.length ax3, .int .i64 U.G, .int .i64 U.R, .slice a4 U.S.length ax4, .slice a5 H.length ax5]) D U H) := ⟨_, _, _, _, _, rfl, p1, p2, p3⟩
  clear hm p1 p2 p3 hH
  unfold maxLen at hnm
  by_cases hbig : (1048576 : Int) < (nm.size : Int)
  · go_enter Tryz.func7, Tryz.ntmps7
    go_wp2_with fail
    go_ret
    exact ⟨rfl, (Below.refl _ _).alloc (Nat.le_refl _) _⟩
  have NMS : Hid (nm.size ≤ 1048576) := by show _ ≤ _; omega
  go_enter Tryz.func7, Tryz.ntmps7
  go_wp2_with fail
  refine (szStoreM _ D U H _ HM.out (HR.out.below ((Below.refl _ _).alloc (Nat.le_refl _) _))).mono ?_
  rintro e w1 ⟨r, rfl, hr, hb1⟩
  have B1 : Hid (Below w.heap.size w w1) := Below.new hb1
  have X1 : Hid (Box w1 w.heap.size [.slice a1 D.S.length ax1, .slice a2 D.C.length ax2, .bool D.A, .slice a3 D.K.length ax3, .int .i64 U.G, .int .i64 U.R, .slice a4 U.S.length ax4, .slice a5 H.length ax5]) := Box.below (Box.new rfl) hb1
  have Z1 : Hid (w.heap.size + 1 ≤ w1.heap.size) := size_new hb1
  clear hb1
  by_cases hneg : r < 0
  · clear hr
    go_wp2_with fail
    go_ret
    exact ⟨rfl, B1.out⟩
  have SS : Hid ((smallD D ∧ smallU U ∧ smallH H) ∧ D.S.length + D.C.length + D.K.length + U.S.length + wtH H ≤ 1048576) := hr (by omega)
  have SM : Hid (smallD D ∧ smallU U ∧ smallH H) := SS.out.1
  clear hr
  obtain ⟨p0, _⟩ := X1.out 0 _ rfl
  obtain ⟨p1, _⟩ := X1.out 1 _ rfl
  obtain ⟨p2, _⟩ := X1.out 2 _ rfl
  obtain ⟨p3, _⟩ := X1.out 3 _ rfl
  obtain ⟨p4, _⟩ := X1.out 4 _ rfl
  obtain ⟨p5, _⟩ := X1.out 5 _ rfl
  obtain ⟨p6, _⟩ := X1.out 6 _ rfl
  obtain ⟨p7, _⟩ := X1.out 7 _ rfl
  go_wp2_with fail
  refine (toStore _ D U H _ SM.out (HR.out.below B1.out)).mono ?_
  rintro e w2 ⟨v2, rfl, own2, hb2⟩
  obtain ⟨c1, cx1, c2, cx2, c3, cx3, c4, cx4, c5, cx5, rfl⟩ := own2.lit
  have B2 : Hid (Below w.heap.size w w2) := B1.out.trans ((hb2).mono B1.out.size)
  have X2 : Hid (Box w2 w.heap.size [.slice a1 D.S.length ax1, .slice a2 D.C.length ax2, .bool D.A, .slice a3 D.K.length ax3, .int .i64 U.G, .int .i64 U.R, .slice a4 U.S.length ax4, .slice a5 H.length ax5]) := X1.out.below (hb2)
  clear B1 X1
  have Z2 : Hid (w1.heap.size ≤ w2.heap.size) := hb2.size
  have Q2 : Hid (StoreIn w2 c1 c2 c3 c4 c5 D.S.length cx1 D.C.length cx2 D.K.length cx3 U.S.length cx4 H.length cx5 D.A U.G U.R D U H) := StoreIn.of_owns SM.out own2
  clear hb2 own2 p0 p1 p2 p3 p4 p5 p6 p7
  go_wp2_with fail
  refine (specSnapPairs _ _ _ _ _ _ _ _ _ _ _ _ _ _ _ _ _ _ D U H _ nm NMS.out SM.out.2.2 Q2.out).mono ?_
  rintro e w3 ⟨u3, R, q, rfl, heq, own3, hL3, hb3⟩
  obtain ⟨r1, s1, rfl, _, _⟩ := own_src own3
  have B3 : Hid (Below w.heap.size w w3) := B2.out.trans ((hb3).mono B2.out.size)
  have X3 : Hid (Box w3 w.heap.size [.slice a1 D.S.length ax1, .slice a2 D.C.length ax2, .bool D.A, .slice a3 D.K.length ax3, .int .i64 U.G, .int .i64 U.R, .slice a4 U.S.length ax4, .slice a5 H.length ax5]) := X2.out.below (hb3)
  clear B2 X2
  have OW3 : Hid (OwnsR w3 109 2 w2.heap.size w3.heap.size (.slice r1 R.length s1) R.length (cellsP R)) := OwnsR.mk own3 (Nat.le_refl _)
  have Z3 : Hid (w2.heap.size ≤ w3.heap.size) := hb3.size
  have HEQ : Hid (snA D U H nm = (R, q)) := heq
  have hL : R.length ≤ 1048576 := by omega
  clear hb3 own3 Q2 heq hL3
  dsimp only
  obtain ⟨p0, _⟩ := X3.out 0 _ rfl
  obtain ⟨p1, _⟩ := X3.out 1 _ rfl
  obtain ⟨p2, _⟩ := X3.out 2 _ rfl
  obtain ⟨p3, _⟩ := X3.out 3 _ rfl
  obtain ⟨p4, _⟩ := X3.out 4 _ rfl
  obtain ⟨p5, _⟩ := X3.out 5 _ rfl
  obtain ⟨p6, _⟩ := X3.out 6 _ rfl
  obtain ⟨p7, _⟩ := X3.out 7 _ rfl
  go_wp2_with fail
  refine (toStore _ D U H _ SM.out (HR.out.below B3.out)).mono ?_
  rintro e w4 ⟨v4, rfl, own4, hb4⟩
  obtain ⟨b1, bx1, b2, bx2, b3, bx3, b4, bx4, b5, bx5, rfl⟩ := own4.lit
  have B4 : Hid (Below w.heap.size w w4) := B3.out.trans ((hb4).mono B3.out.size)
  have X4 : Hid (Box w4 w.heap.size [.slice a1 D.S.length ax1, .slice a2 D.C.length ax2, .bool D.A, .slice a3 D.K.length ax3, .int .i64 U.G, .int .i64 U.R, .slice a4 U.S.length ax4, .slice a5 H.length ax5]) := X3.out.below (hb4)
  have OW4 : Hid (OwnsR w4 109 2 w2.heap.size w3.heap.size (.slice r1 R.length s1) R.length (cellsP R)) := OW3.out.below (hb4)
  clear B3 X3 OW3
  have Z4 : Hid (w3.heap.size ≤ w4.heap.size) := hb4.size
  have I4 : Hid (StoreIn w4 b1 b2 b3 b4 b5 D.S.length bx1 D.C.length bx2 D.K.length bx3 U.S.length bx4 H.length bx5 D.A U.G U.R D U H) := StoreIn.of_owns SM.out own4
  have OX4 : Hid (OwnsS w4 w3.heap.size w4.heap.size (.agg #[.slice b1 D.S.length bx1, .slice b2 D.C.length bx2, .bool D.A, .slice b3 D.K.length bx3, .int .i64 U.G, .int .i64 U.R, .slice b4 U.S.length bx4, .slice b5 H.length bx5]) D U H) := own4
  clear hb4 own4 p0 p1 p2 p3 p4 p5 p6 p7
  have A4 : Hid (Below w4.heap.size w4 (w4.alloc (.cells #[.slice b1 D.S.length bx1, .slice b2 D.C.length bx2, .bool D.A, .slice b3 D.K.length bx3, .int .i64 U.G, .int .i64 U.R, .slice b4 U.S.length bx4, .slice b5 H.length bx5] 47))) := (Below.refl _ _).alloc (Nat.le_refl _) _
  go_wp2_with fail
  refine (implSnapPairs _ _ _ _ _ _ _ _ _ _ _ _ _ _ _ _ _ _ D U H _ nm NMS.out (HF.out.below (B4.out.trans (A4.out.mono B4.out.size))) SM.out.2.2 (I4.out.below A4.out)).mono ?_
  rintro e w5 ⟨u5, R', q', rfl, heq, own5, _, hb5⟩
  obtain ⟨rfl, rfl⟩ : R = R' ∧ q = q' := by have h2 := HEQ.out.symm.trans heq; simpa using h2
  clear heq I4 A4
  obtain ⟨g1, k1, rfl, _, _⟩ := own_src own5
  have B5 : Hid (Below w.heap.size w w5) := B4.out.trans ((Below.new hb5).mono B4.out.size)
  have X5 : Hid (Box w5 w.heap.size [.slice a1 D.S.length ax1, .slice a2 D.C.length ax2, .bool D.A, .slice a3 D.K.length ax3, .int .i64 U.G, .int .i64 U.R, .slice a4 U.S.length ax4, .slice a5 H.length ax5]) := X4.out.below (Below.new hb5)
  have OW5 : Hid (OwnsR w5 109 2 w2.heap.size w3.heap.size (.slice r1 R.length s1) R.length (cellsP R)) := OW4.out.below (Below.new hb5)
  have OX5 : Hid (OwnsS w5 w3.heap.size w4.heap.size (.agg #[.slice b1 D.S.length bx1, .slice b2 D.C.length bx2, .bool D.A, .slice b3 D.K.length bx3, .int .i64 U.G, .int .i64 U.R, .slice b4 U.S.length bx4, .slice b5 H.length bx5]) D U H) := OX4.out.below (Below.new hb5)
  clear B4 X4 OW4 OX4
  have Y5 : Hid (Box w5 w4.heap.size [.slice b1 D.S.length bx1, .slice b2 D.C.length bx2, .bool D.A, .slice b3 D.K.length bx3, .int .i64 U.G, .int .i64 U.R, .slice b4 U.S.length bx4, .slice b5 H.length bx5]) := Box.below (Box.new rfl) hb5
  have Z5 : Hid (w4.heap.size + 1 ≤ w5.heap.size) := size_new hb5
  have OG5 : Hid (OwnsR w5 109 2 (w4.heap.size + 1) w5.heap.size (.slice g1 R.length k1) R.length (cellsP R)) := OwnsR.mk (own_mono own5 (by simp)) (Nat.le_refl _)
  clear hb5 own5
  have hcc : (q != q) = false := by simp
  dsimp only
  go_wp2_with fail
  refine (eqPairS g1 r1 R.length k1 s1 R _ rfl (by omega) OG5.out.src OW5.out.src).mono ?_
  rintro e w6 ⟨rfl, hb6⟩
  have B6 : Hid (Below w.heap.size w w6) := B5.out.trans ((hb6).mono B5.out.size)
  have X6 : Hid (Box w6 w.heap.size [.slice a1 D.S.length ax1, .slice a2 D.C.length ax2, .bool D.A, .slice a3 D.K.length ax3, .int .i64 U.G, .int .i64 U.R, .slice a4 U.S.length ax4, .slice a5 H.length ax5]) := X5.out.below (hb6)
  have OW6 : Hid (OwnsR w6 109 2 w2.heap.size w3.heap.size (.slice r1 R.length s1) R.length (cellsP R)) := OW5.out.below (hb6)
  have OX6 : Hid (OwnsS w6 w3.heap.size w4.heap.size (.agg #[.slice b1 D.S.length bx1, .slice b2 D.C.length bx2, .bool D.A, .slice b3 D.K.length bx3, .int .i64 U.G, .int .i64 U.R, .slice b4 U.S.length bx4, .slice b5 H.length bx5]) D U H) := OX5.out.below (hb6)
  have Y6 : Hid (Box w6 w4.heap.size [.slice b1 D.S.length bx1, .slice b2 D.C.length bx2, .bool D.A, .slice b3 D.K.length bx3, .int .i64 U.G, .int .i64 U.R, .slice b4 U.S.length bx4, .slice b5 H.length bx5]) := Y5.out.below (hb6)
  have OG6 : Hid (OwnsR w6 109 2 (w4.heap.size + 1) w5.heap.size (.slice g1 R.length k1) R.length (cellsP R)) := OG5.out.below (hb6)
  clear B5 X5 OW5 OX5 Y5 OG5
  clear hb6
  obtain ⟨p0, _⟩ := X6.out 0 _ rfl
  obtain ⟨p1, _⟩ := X6.out 1 _ rfl
  obtain ⟨p2, _⟩ := X6.out 2 _ rfl
  obtain ⟨p3, _⟩ := X6.out 3 _ rfl
  obtain ⟨p4, _⟩ := X6.out 4 _ rfl
  obtain ⟨p5, _⟩ := X6.out 5 _ rfl
  obtain ⟨p6, _⟩ := X6.out 6 _ rfl
  obtain ⟨p7, _⟩ := X6.out 7 _ rfl
  obtain ⟨q0, _⟩ := Y6.out 0 _ rfl
  obtain ⟨q1, _⟩ := Y6.out 1 _ rfl
  obtain ⟨q2, _⟩ := Y6.out 2 _ rfl
  obtain ⟨q3, _⟩ := Y6.out 3 _ rfl
  obtain ⟨q4, _⟩ := Y6.out 4 _ rfl
  obtain ⟨q5, _⟩ := Y6.out 5 _ rfl
  obtain ⟨q6, _⟩ := Y6.out 6 _ rfl
  obtain ⟨q7, _⟩ := Y6.out 7 _ rfl
  go_wp2_with fail
  go_region_with (first | (go_at_call 12; refine (eqStoreL _ _ D U H _ SM.out OX7.out.reads Q7.out).mono ?_; rintro e w8 ⟨rfl, hb8⟩; have B8 : Hid (Below w.heap.size w w8) := B7.out.trans (hb8.mono B7.out.size); have X8 : Hid (Box w8 w.heap.size [.slice a1 D.S.length ax1, .slice a2 D.C.length ax2, .bool D.A, .slice a3 D.K.length ax3, .int .i64 U.G, .int .i64 U.R, .slice a4 U.S.length ax4, .slice a5 H.length ax5]) := X7.out.below hb8; have OW8 : Hid (OwnsR w8 109 2 w2.heap.size w3.heap.size (.slice r1 R.length s1) R.length (cellsP R)) := OW7.out.below hb8; have OX8 : Hid (OwnsS w8 w3.heap.size w4.heap.size (.agg #[.slice b1 D.S.length bx1, .slice b2 D.C.length bx2, .bool D.A, .slice b3 D.K.length bx3, .int .i64 U.G, .int .i64 U.R, .slice b4 U.S.length bx4, .slice b5 H.length bx5]) D U H) := OX7.out.below hb8; have Y8 : Hid (Box w8 w4.heap.size [.slice b1 D.S.length bx1, .slice b2 D.C.length bx2, .bool D.A, .slice b3 D.K.length bx3, .int .i64 U.G, .int .i64 U.R, .slice b4 U.S.length bx4, .slice b5 H.length bx5]) := Y7.out.below hb8; have OG8 : Hid (OwnsR w8 109 2 (w4.heap.size + 1) w5.heap.size (.slice g1 R.length k1) R.length (cellsP R)) := OG7.out.below hb8; clear B7 X7 OW7 OX7 Y7 OG7 Q7 hb8) | (go_at_call 10; refine (toStore _ D U H _ SM.out (HR.out.below B6.out.drew)).mono ?_; rintro e w7 ⟨v7, rfl, own7, hb7⟩; have B7 : Hid (Below w.heap.size w w7) := B6.out.drew.trans (hb7.mono B6.out.size); have X7 : Hid (Box w7 w.heap.size [.slice a1 D.S.length ax1, .slice a2 D.C.length ax2, .bool D.A, .slice a3 D.K.length ax3, .int .i64 U.G, .int .i64 U.R, .slice a4 U.S.length ax4, .slice a5 H.length ax5]) := X6.out.drew.below hb7; have OW7 : Hid (OwnsR w7 109 2 w2.heap.size w3.heap.size (.slice r1 R.length s1) R.length (cellsP R)) := OW6.out.drew.below hb7; have OX7 : Hid (OwnsS w7 w3.heap.size w4.heap.size (.agg #[.slice b1 D.S.length bx1, .slice b2 D.C.length bx2, .bool D.A, .slice b3 D.K.length bx3, .int .i64 U.G, .int .i64 U.R, .slice b4 U.S.length bx4, .slice b5 H.length bx5]) D U H) := OX6.out.drew.below hb7; have Y7 : Hid (Box w7 w4.heap.size [.slice b1 D.S.length bx1, .slice b2 D.C.length bx2, .bool D.A, .slice b3 D.K.length bx3, .int .i64 U.G, .int .i64 U.R, .slice b4 U.S.length bx4, .slice b5 H.length bx5]) := Y6.out.drew.below hb7; have OG7 : Hid (OwnsR w7 109 2 (w4.heap.size + 1) w5.heap.size (.slice g1 R.length k1) R.length (cellsP R)) := OG6.out.drew.below hb7; have Q7 : Hid (ReadsS w7 v7 D U H) := own7.reads; clear B6 X6 OW6 OX6 Y6 OG6 q0 q1 q2 q3 q4 q5 q6 q7 p0 p1 p2 p3 p4 p5 p6 p7; obtain ⟨q0, _⟩ := Y7.out 0 _ rfl; obtain ⟨q1, _⟩ := Y7.out 1 _ rfl; obtain ⟨q2, _⟩ := Y7.out 2 _ rfl; obtain ⟨q3, _⟩ := Y7.out 3 _ rfl; obtain ⟨q4, _⟩ := Y7.out 4 _ rfl; obtain ⟨q5, _⟩ := Y7.out 5 _ rfl; obtain ⟨q6, _⟩ := Y7.out 6 _ rfl; obtain ⟨q7, _⟩ := Y7.out 7 _ rfl; clear hb7 own7))
  all_goals
    try clear q0 q1 q2 q3 q4 q5 q6 q7
    obtain ⟨q0, _⟩ := Y8.out 0 _ rfl
    obtain ⟨q1, _⟩ := Y8.out 1 _ rfl
    obtain ⟨q2, _⟩ := Y8.out 2 _ rfl
    obtain ⟨q3, _⟩ := Y8.out 3 _ rfl
    obtain ⟨q4, _⟩ := Y8.out 4 _ rfl
    obtain ⟨q5, _⟩ := Y8.out 5 _ rfl
    obtain ⟨q6, _⟩ := Y8.out 6 _ rfl
    obtain ⟨q7, _⟩ := Y8.out 7 _ rfl
    go_wp2_with fail
    have Z8 : Hid (w4.heap.size ≤ w8.heap.size) := Nat.le_of_lt (World.block_lt_of_cell? _ _ q0)
    refine (markStoreM _ D U H w3.heap.size w4.heap.size 1 _ SS.out (by omega) (by omega) Z8.out OX8.out).mono ?_
    rintro e w9 ⟨rfl, T9, _⟩
    have B9 : Hid (Below w.heap.size w w9) := Below.turned B8.out T9 (Nat.le_refl _) (by have := Z1.out; have := Z2.out; have := Z3.out; have := Z4.out; have := Z5.out; omega)
    have X9 : Hid (Box w9 w.heap.size [.slice a1 D.S.length ax1, .slice a2 D.C.length ax2, .bool D.A, .slice a3 D.K.length ax3, .int .i64 U.G, .int .i64 U.R, .slice a4 U.S.length ax4, .slice a5 H.length ax5]) := X8.out.turned T9 (by have := Z1.out; have := Z2.out; have := Z3.out; have := Z4.out; have := Z5.out; omega)
    have OW9 : Hid (OwnsR w9 109 2 w2.heap.size w3.heap.size (.slice r1 R.length s1) R.length (cellsP R)) := OW8.out.turned T9 (by have := Z1.out; have := Z2.out; have := Z3.out; have := Z4.out; have := Z5.out; omega)
    have Y9 : Hid (Box w9 w4.heap.size [.slice b1 D.S.length bx1, .slice b2 D.C.length bx2, .bool D.A, .slice b3 D.K.length bx3, .int .i64 U.G, .int .i64 U.R, .slice b4 U.S.length bx4, .slice b5 H.length bx5]) := Y8.out.turned T9 (by have := Z1.out; have := Z2.out; have := Z3.out; have := Z4.out; have := Z5.out; omega)
    have OG9 : Hid (OwnsR w9 109 2 (w4.heap.size + 1) w5.heap.size (.slice g1 R.length k1) R.length (cellsP R)) := OG8.out.turned T9 (by have := Z1.out; have := Z2.out; have := Z3.out; have := Z4.out; have := Z5.out; omega)
    clear B8 X8 OW8 Y8 OG8
    clear T9 OX8 q0 q1 q2 q3 q4 q5 q6 q7 Z8
    obtain ⟨E0, hE0⟩ : ∃ E0, endS D U H 1 = E0 := ⟨_, rfl⟩
    rw [hE0]
    clear hE0
    have hk1 : decide (((E0 : Nat) : Int) < 0) = false := by simp
    go_wp2_with fail
    refine (eqPairS g1 r1 R.length k1 s1 R _ rfl (by omega) OG9.out.src OW9.out.src).mono ?_
    rintro e w10 ⟨rfl, hb10⟩
    have B10 : Hid (Below w.heap.size w w10) := B9.out.trans ((hb10).mono B9.out.size)
    have X10 : Hid (Box w10 w.heap.size [.slice a1 D.S.length ax1, .slice a2 D.C.length ax2, .bool D.A, .slice a3 D.K.length ax3, .int .i64 U.G, .int .i64 U.R, .slice a4 U.S.length ax4, .slice a5 H.length ax5]) := X9.out.below (hb10)
    have OW10 : Hid (OwnsR w10 109 2 w2.heap.size w3.heap.size (.slice r1 R.length s1) R.length (cellsP R)) := OW9.out.below (hb10)
    have Y10 : Hid (Box w10 w4.heap.size [.slice b1 D.S.length bx1, .slice b2 D.C.length bx2, .bool D.A, .slice b3 D.K.length bx3, .int .i64 U.G, .int .i64 U.R, .slice b4 U.S.length bx4, .slice b5 H.length bx5]) := Y9.out.below (hb10)
    have OG10 : Hid (OwnsR w10 109 2 (w4.heap.size + 1) w5.heap.size (.slice g1 R.length k1) R.length (cellsP R)) := OG9.out.below (hb10)
    clear B9 X9 OW9 Y9 OG9
    clear hb10
    clear hk1
    go_wp2_with fail
    refine (markPairS _ R.length 1 (w4.heap.size + 1) (cellsP R) _ hL (by omega) (by omega) OG10.out.1).mono ?_
    rintro e w11 ⟨rfl, G11, m11⟩
    have T11 : Turned (w4.heap.size + 1) w5.heap.size w10 w11 := Turned.of_grown G11 (fun k e => ⟨(OG10.out.1.lt k e).1, OG10.out.2 k e⟩)
    have B11 : Hid (Below w.heap.size w w11) := Below.turned B10.out T11 (Nat.le_refl _) (by have := Z1.out; have := Z2.out; have := Z3.out; have := Z4.out; have := Z5.out; omega)
    have X11 : Hid (Box w11 w.heap.size [.slice a1 D.S.length ax1, .slice a2 D.C.length ax2, .bool D.A, .slice a3 D.K.length ax3, .int .i64 U.G, .int .i64 U.R, .slice a4 U.S.length ax4, .slice a5 H.length ax5]) := X10.out.turned T11 (by have := Z1.out; have := Z2.out; have := Z3.out; have := Z4.out; have := Z5.out; omega)
    have OW11 : Hid (OwnsR w11 109 2 w2.heap.size w3.heap.size (.slice r1 R.length s1) R.length (cellsP R)) := OW10.out.turned T11 (by have := Z1.out; have := Z2.out; have := Z3.out; have := Z4.out; have := Z5.out; omega)
    have Y11 : Hid (Box w11 w4.heap.size [.slice b1 D.S.length bx1, .slice b2 D.C.length bx2, .bool D.A, .slice b3 D.K.length bx3, .int .i64 U.G, .int .i64 U.R, .slice b4 U.S.length bx4, .slice b5 H.length bx5]) := Y10.out.turned T11 (by have := Z1.out; have := Z2.out; have := Z3.out; have := Z4.out; have := Z5.out; omega)
    clear B10 X10 OW10 Y10
    have OG11 : Hid (OwnsR w11 109 2 (w4.heap.size + 1) w5.heap.size (.slice g1 R.length k1) R.length (cellsP (mkP 1 R.length))) := ⟨m11, OG10.out.2⟩
    clear T11 G11 m11 OG10
    obtain ⟨E, hE⟩ : ∃ E : Nat, 1 + R.length * 2 = E := ⟨_, rfl⟩
    rw [hE]
    have HE : Hid (1 + R.length * 2 = E) := hE
    clear hE
    have hk2 : decide (((E : Nat) : Int) < 0) = false := by simp
    have hk3 : (((E : Nat) : Int) != ((E : Nat) : Int)) = false := by simp
    go_wp2_with fail
    refine (heldPairS g1 R.length k1 1 _ hL (by omega) (by omega) OG11.out.src).mono ?_
    rintro e w12 ⟨rfl, hb12⟩
    rw [HE.out]
    have B12 : Hid (Below w.heap.size w w12) := B11.out.trans ((hb12).mono B11.out.size)
    have X12 : Hid (Box w12 w.heap.size [.slice a1 D.S.length ax1, .slice a2 D.C.length ax2, .bool D.A, .slice a3 D.K.length ax3, .int .i64 U.G, .int .i64 U.R, .slice a4 U.S.length ax4, .slice a5 H.length ax5]) := X11.out.below (hb12)
    have OW12 : Hid (OwnsR w12 109 2 w2.heap.size w3.heap.size (.slice r1 R.length s1) R.length (cellsP R)) := OW11.out.below (hb12)
    have Y12 : Hid (Box w12 w4.heap.size [.slice b1 D.S.length bx1, .slice b2 D.C.length bx2, .bool D.A, .slice b3 D.K.length bx3, .int .i64 U.G, .int .i64 U.R, .slice b4 U.S.length bx4, .slice b5 H.length bx5]) := Y11.out.below (hb12)
    have OG12 : Hid (OwnsR w12 109 2 (w4.heap.size + 1) w5.heap.size (.slice g1 R.length k1) R.length (cellsP (mkP 1 R.length))) := OG11.out.below (hb12)
    clear B11 X11 OW11 Y11 OG11
    clear hb12
    obtain ⟨p0, _⟩ := X12.out 0 _ rfl
    obtain ⟨p1, _⟩ := X12.out 1 _ rfl
    obtain ⟨p2, _⟩ := X12.out 2 _ rfl
    obtain ⟨p3, _⟩ := X12.out 3 _ rfl
    obtain ⟨p4, _⟩ := X12.out 4 _ rfl
    obtain ⟨p5, _⟩ := X12.out 5 _ rfl
    obtain ⟨p6, _⟩ := X12.out 6 _ rfl
    obtain ⟨p7, _⟩ := X12.out 7 _ rfl
    go_wp2_with fail
    refine (toStore _ D U H _ SM.out (HR.out.below B12.out)).mono ?_
    rintro e w13 ⟨v13, rfl, own13, hb13⟩
    obtain ⟨d1, dx1, d2, dx2, d3, dx3, d4, dx4, d5, dx5, rfl⟩ := own13.lit
    have B13 : Hid (Below w.heap.size w w13) := B12.out.trans ((hb13).mono B12.out.size)
    have X13 : Hid (Box w13 w.heap.size [.slice a1 D.S.length ax1, .slice a2 D.C.length ax2, .bool D.A, .slice a3 D.K.length ax3, .int .i64 U.G, .int .i64 U.R, .slice a4 U.S.length ax4, .slice a5 H.length ax5]) := X12.out.below (hb13)
    have OW13 : Hid (OwnsR w13 109 2 w2.heap.size w3.heap.size (.slice r1 R.length s1) R.length (cellsP R)) := OW12.out.below (hb13)
    have Y13 : Hid (Box w13 w4.heap.size [.slice b1 D.S.length bx1, .slice b2 D.C.length bx2, .bool D.A, .slice b3 D.K.length bx3, .int .i64 U.G, .int .i64 U.R, .slice b4 U.S.length bx4, .slice b5 H.length bx5]) := Y12.out.below (hb13)
    have OG13 : Hid (OwnsR w13 109 2 (w4.heap.size + 1) w5.heap.size (.slice g1 R.length k1) R.length (cellsP (mkP 1 R.length))) := OG12.out.below (hb13)
    clear B12 X12 OW12 Y12 OG12
    have Q13 : Hid (StoreIn w13 d1 d2 d3 d4 d5 D.S.length dx1 D.C.length dx2 D.K.length dx3 U.S.length dx4 H.length dx5 D.A U.G U.R D U H) := StoreIn.of_owns SM.out own13
    clear hb13 own13 p0 p1 p2 p3 p4 p5 p6 p7
    go_wp2_with fail
    refine (implSnapPairs _ _ _ _ _ _ _ _ _ _ _ _ _ _ _ _ _ _ D U H _ nm NMS.out (HF.out.below B13.out) SM.out.2.2 Q13.out).mono ?_
    rintro e w14 ⟨u14, R', q', rfl, heq, own14, _, hb14⟩
    obtain ⟨rfl, rfl⟩ : R = R' ∧ q = q' := by have h2 := HEQ.out.symm.trans heq; simpa using h2
    obtain ⟨m1, n1, rfl, s14, _⟩ := own_src own14
    have B14 : Hid (Below w.heap.size w w14) := B13.out.trans ((hb14).mono B13.out.size)
    have X14 : Hid (Box w14 w.heap.size [.slice a1 D.S.length ax1, .slice a2 D.C.length ax2, .bool D.A, .slice a3 D.K.length ax3, .int .i64 U.G, .int .i64 U.R, .slice a4 U.S.length ax4, .slice a5 H.length ax5]) := X13.out.below (hb14)
    have OW14 : Hid (OwnsR w14 109 2 w2.heap.size w3.heap.size (.slice r1 R.length s1) R.length (cellsP R)) := OW13.out.below (hb14)
    have Y14 : Hid (Box w14 w4.heap.size [.slice b1 D.S.length bx1, .slice b2 D.C.length bx2, .bool D.A, .slice b3 D.K.length bx3, .int .i64 U.G, .int .i64 U.R, .slice b4 U.S.length bx4, .slice b5 H.length bx5]) := Y13.out.below (hb14)
    have OG14 : Hid (OwnsR w14 109 2 (w4.heap.size + 1) w5.heap.size (.slice g1 R.length k1) R.length (cellsP (mkP 1 R.length))) := OG13.out.below (hb14)
    clear B13 X13 OW13 Y13 OG13
    have Q14 : Hid (Src w14 m1 (cellsP R)) := s14
    clear heq hb14 own14 s14 Q13
    dsimp only
    go_wp2_with fail
    refine (eqPairS m1 r1 R.length n1 s1 R _ rfl (by omega) Q14.out OW14.out.src).mono ?_
    rintro e w15 ⟨rfl, hb15⟩
    have B15 : Hid (Below w.heap.size w w15) := B14.out.trans ((hb15).mono B14.out.size)
    have X15 : Hid (Box w15 w.heap.size [.slice a1 D.S.length ax1, .slice a2 D.C.length ax2, .bool D.A, .slice a3 D.K.length ax3, .int .i64 U.G, .int .i64 U.R, .slice a4 U.S.length ax4, .slice a5 H.length ax5]) := X14.out.below (hb15)
    have OW15 : Hid (OwnsR w15 109 2 w2.heap.size w3.heap.size (.slice r1 R.length s1) R.length (cellsP R)) := OW14.out.below (hb15)
    have Y15 : Hid (Box w15 w4.heap.size [.slice b1 D.S.length bx1, .slice b2 D.C.length bx2, .bool D.A, .slice b3 D.K.length bx3, .int .i64 U.G, .int .i64 U.R, .slice b4 U.S.length bx4, .slice b5 H.length bx5]) := Y14.out.below (hb15)
    have OG15 : Hid (OwnsR w15 109 2 (w4.heap.size + 1) w5.heap.size (.slice g1 R.length k1) R.length (cellsP (mkP 1 R.length))) := OG14.out.below (hb15)
    clear B14 X14 OW14 Y14 OG14
    clear hb15
    clear Q14
    go_wp2_with fail
    refine (heldPairS g1 R.length k1 1 _ hL (by omega) (by omega) OG15.out.src).mono ?_
    rintro e w16 ⟨rfl, hb16⟩
    rw [HE.out]
    have B16 : Hid (Below w.heap.size w w16) := B15.out.trans ((hb16).mono B15.out.size)
    have X16 : Hid (Box w16 w.heap.size [.slice a1 D.S.length ax1, .slice a2 D.C.length ax2, .bool D.A, .slice a3 D.K.length ax3, .int .i64 U.G, .int .i64 U.R, .slice a4 U.S.length ax4, .slice a5 H.length ax5]) := X15.out.below (hb16)
    have OW16 : Hid (OwnsR w16 109 2 w2.heap.size w3.heap.size (.slice r1 R.length s1) R.length (cellsP R)) := OW15.out.below (hb16)
    have Y16 : Hid (Box w16 w4.heap.size [.slice b1 D.S.length bx1, .slice b2 D.C.length bx2, .bool D.A, .slice b3 D.K.length bx3, .int .i64 U.G, .int .i64 U.R, .slice b4 U.S.length bx4, .slice b5 H.length bx5]) := Y15.out.below (hb16)
    have OG16 : Hid (OwnsR w16 109 2 (w4.heap.size + 1) w5.heap.size (.slice g1 R.length k1) R.length (cellsP (mkP 1 R.length))) := OG15.out.below (hb16)
    clear B15 X15 OW15 Y15 OG15
    clear hb16
    go_wp2_with fail
    go_ret
    exact ⟨rfl, B16.out⟩
end Go.Proofs.YtnnimocaanofjaaGreatDoor.fnExactSnapPairs
