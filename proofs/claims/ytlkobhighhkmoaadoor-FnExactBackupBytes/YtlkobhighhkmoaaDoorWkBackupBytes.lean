/-
  The walk of the law FnExactBackupBytes.
  By an AI agent.
-/
import Derived.Test.YtlkobhighhkmoaaDoorBku
namespace Go.Proofs.YtlkobhighhkmoaaDoor.fnExactBackupBytes
open Go.ChangeShapes Go.WideShapes Go.ChangeAt Go.WideMaps Go.WideElems Go.RowKit Go.Deep
open Go.ChangeMaps (open_string shut_string)
set_option linter.unusedVariables false

set_option maxHeartbeats 4000000 in
theorem walk (v : Value) (D : BM) (w : World) (h : ReadsK w v D) (hm : maxK D) (hH : HasHalf w) :
    Calls Tryd.prog 4 #[v] w fun e w' => e = .returned (.bool true) ∧ Below w.heap.size w w' := by
  have HM : Hid (maxK D) := hm
  have HH : Hid (HasHalf w) := hH
  have HR9 := h
  obtain ⟨a, c, rfl, _⟩ := h
  have HR : Hid (ReadsK w (.agg #[.string D.F, .string D.T, .int .i64 D.C, .slice a D.D.length c, .int .i64 D.S]) D) := HR9
  clear hm HR9 hH
  go_enter Tryd.func4, Tryd.ntmps4
  go_wp2_with fail
  refine (szBackup _ D 1048576 _ (by omega) (by omega) HM.out (HR.out.below ((Below.refl _ _).alloc (Nat.le_refl _) _))).mono ?_
  rintro e w1 ⟨r, rfl, _, hr, hb1⟩
  have B1 : Hid (Below w.heap.size w w1) := Below.new hb1
  have X1 : Hid (Box w1 w.heap.size [.string D.F, .string D.T, .int .i64 D.C, .slice a D.D.length c, .int .i64 D.S]) := Box.below (Box.new rfl) hb1
  have Z1 : Hid (w.heap.size + 1 ≤ w1.heap.size) := size_new hb1
  clear hb1
  by_cases hneg : r < 0
  · clear hr
    go_wp2_with fail
    go_ret
    exact ⟨rfl, B1.out⟩
  have SM : Hid (smallK D) := hr (by omega)
  have WT : Hid (D.D.length ≤ 1048576) := SM.out.1
  clear hr
  obtain ⟨p0, _⟩ := X1.out 0 _ rfl
  obtain ⟨p1, _⟩ := X1.out 1 _ rfl
  obtain ⟨p2, _⟩ := X1.out 2 _ rfl
  obtain ⟨p3, _⟩ := X1.out 3 _ rfl
  obtain ⟨p4, _⟩ := X1.out 4 _ rfl
  go_wp2_with fail
  refine (toBackup _ D _ SM.out (HR.out.below B1.out)).mono ?_
  rintro e w2 ⟨v2, rfl, own2, hb2⟩
  obtain ⟨b2, d2, rfl⟩ := own2.lit
  have B2 : Hid (Below w.heap.size w w2) := B1.out.trans ((hb2).mono B1.out.size)
  have X2 : Hid (Box w2 w.heap.size [.string D.F, .string D.T, .int .i64 D.C, .slice a D.D.length c, .int .i64 D.S]) := X1.out.below (hb2)
  clear B1 X1
  have Z2 : Hid (w1.heap.size ≤ w2.heap.size) := hb2.size
  have Q2 : Hid (ReadsK w2 (.agg #[.string D.F, .string D.T, .int .i64 D.C, .slice b2 D.D.length d2, .int .i64 D.S]) D) := own2.reads
  clear hb2 own2 p0 p1 p2 p3 p4
  go_wp2_with fail
  refine (specBackupBytes _ D _ SM.out Q2.out).mono ?_
  rintro e w3 ⟨u3, R, q, rfl, heq, own3, hL3, hb3⟩
  obtain ⟨b1, d1, rfl, _, _⟩ := own_src own3
  have B3 : Hid (Below w.heap.size w w3) := B2.out.trans ((hb3).mono B2.out.size)
  have X3 : Hid (Box w3 w.heap.size [.string D.F, .string D.T, .int .i64 D.C, .slice a D.D.length c, .int .i64 D.S]) := X2.out.below (hb3)
  clear B2 X2
  have OW3 : Hid (OwnsR w3 5 1 w2.heap.size w3.heap.size (.slice b1 R.length d1) R.length (cellsB R)) := OwnsR.mk own3 (Nat.le_refl _)
  have Z3 : Hid (w2.heap.size ≤ w3.heap.size) := hb3.size
  have HEQ : Hid (bkA D = (R, q)) := heq
  have hL : R.length ≤ 1048576 := hL3
  clear hb3 own3 Q2 heq hL3
  obtain ⟨p0, _⟩ := X3.out 0 _ rfl
  obtain ⟨p1, _⟩ := X3.out 1 _ rfl
  obtain ⟨p2, _⟩ := X3.out 2 _ rfl
  obtain ⟨p3, _⟩ := X3.out 3 _ rfl
  obtain ⟨p4, _⟩ := X3.out 4 _ rfl
  go_wp2_with fail
  refine (toBackup _ D _ SM.out (HR.out.below B3.out)).mono ?_
  rintro e w4 ⟨v4, rfl, own4, hb4⟩
  obtain ⟨b4, d4, rfl⟩ := own4.lit
  have B4 : Hid (Below w.heap.size w w4) := B3.out.trans ((hb4).mono B3.out.size)
  have X4 : Hid (Box w4 w.heap.size [.string D.F, .string D.T, .int .i64 D.C, .slice a D.D.length c, .int .i64 D.S]) := X3.out.below (hb4)
  have OW4 : Hid (OwnsR w4 5 1 w2.heap.size w3.heap.size (.slice b1 R.length d1) R.length (cellsB R)) := OW3.out.below (hb4)
  clear B3 X3 OW3
  have Z4 : Hid (w3.heap.size ≤ w4.heap.size) := hb4.size
  have OX4 : Hid (OwnsK w4 w3.heap.size w4.heap.size (.agg #[.string D.F, .string D.T, .int .i64 D.C, .slice b4 D.D.length d4, .int .i64 D.S]) D) := own4
  clear hb4 own4 p0 p1 p2 p3 p4
  go_wp2_with fail
  refine (implBackupBytes _ D _ SM.out (OX4.out.reads.below ((Below.refl _ _).alloc (Nat.le_refl _) _)) (HH.out.below (B4.out.alloc B4.out.size _))).mono ?_
  rintro e w5 ⟨u5, R', q', rfl, heq, own5, _, hb5⟩
  obtain ⟨rfl, rfl⟩ : R = R' ∧ q = q' := by have h2 := HEQ.out.symm.trans heq; simpa using h2
  clear heq
  obtain ⟨g1, k1, rfl, _, _⟩ := own_src own5
  have B5 : Hid (Below w.heap.size w w5) := B4.out.trans ((Below.new hb5).mono B4.out.size)
  have X5 : Hid (Box w5 w.heap.size [.string D.F, .string D.T, .int .i64 D.C, .slice a D.D.length c, .int .i64 D.S]) := X4.out.below (Below.new hb5)
  have OW5 : Hid (OwnsR w5 5 1 w2.heap.size w3.heap.size (.slice b1 R.length d1) R.length (cellsB R)) := OW4.out.below (Below.new hb5)
  have OX5 : Hid (OwnsK w5 w3.heap.size w4.heap.size (.agg #[.string D.F, .string D.T, .int .i64 D.C, .slice b4 D.D.length d4, .int .i64 D.S]) D) := OX4.out.below (Below.new hb5)
  clear B4 X4 OW4 OX4
  have Y5 : Hid (Box w5 w4.heap.size [.string D.F, .string D.T, .int .i64 D.C, .slice b4 D.D.length d4, .int .i64 D.S]) := Box.below (Box.new rfl) hb5
  have Z5 : Hid (w4.heap.size + 1 ≤ w5.heap.size) := size_new hb5
  have OG5 : Hid (OwnsR w5 5 1 (w4.heap.size + 1) w5.heap.size (.slice g1 R.length k1) R.length (cellsB R)) := OwnsR.mk (own_mono own5 (by simp)) (Nat.le_refl _)
  clear hb5 own5
  have hcc : (q != q) = false := by simp
  go_wp2_with fail
  refine (eqByteS g1 b1 R.length k1 d1 R _ rfl (by omega) OG5.out.src OW5.out.src).mono ?_
  rintro e w6 ⟨rfl, hb6⟩
  have B6 : Hid (Below w.heap.size w w6) := B5.out.trans ((hb6).mono B5.out.size)
  have X6 : Hid (Box w6 w.heap.size [.string D.F, .string D.T, .int .i64 D.C, .slice a D.D.length c, .int .i64 D.S]) := X5.out.below (hb6)
  have OW6 : Hid (OwnsR w6 5 1 w2.heap.size w3.heap.size (.slice b1 R.length d1) R.length (cellsB R)) := OW5.out.below (hb6)
  have OX6 : Hid (OwnsK w6 w3.heap.size w4.heap.size (.agg #[.string D.F, .string D.T, .int .i64 D.C, .slice b4 D.D.length d4, .int .i64 D.S]) D) := OX5.out.below (hb6)
  have Y6 : Hid (Box w6 w4.heap.size [.string D.F, .string D.T, .int .i64 D.C, .slice b4 D.D.length d4, .int .i64 D.S]) := Y5.out.below (hb6)
  have OG6 : Hid (OwnsR w6 5 1 (w4.heap.size + 1) w5.heap.size (.slice g1 R.length k1) R.length (cellsB R)) := OG5.out.below (hb6)
  clear B5 X5 OW5 OX5 Y5 OG5
  clear hb6
  obtain ⟨p0, _⟩ := X6.out 0 _ rfl
  obtain ⟨p1, _⟩ := X6.out 1 _ rfl
  obtain ⟨p2, _⟩ := X6.out 2 _ rfl
  obtain ⟨p3, _⟩ := X6.out 3 _ rfl
  obtain ⟨p4, _⟩ := X6.out 4 _ rfl
  obtain ⟨q0, _⟩ := Y6.out 0 _ rfl
  obtain ⟨q1, _⟩ := Y6.out 1 _ rfl
  obtain ⟨q2, _⟩ := Y6.out 2 _ rfl
  obtain ⟨q3, _⟩ := Y6.out 3 _ rfl
  obtain ⟨q4, _⟩ := Y6.out 4 _ rfl
  go_wp2_with fail
  go_region_with (first | (go_at_call 15; refine (eqBackup _ _ D _ (by have h9 := WT.out; omega) OX7.out.reads Q7.out).mono ?_; rintro e w8 ⟨rfl, hb8⟩; have B8 : Hid (Below w.heap.size w w8) := B7.out.trans (hb8.mono B7.out.size); have X8 : Hid (Box w8 w.heap.size [.string D.F, .string D.T, .int .i64 D.C, .slice a D.D.length c, .int .i64 D.S]) := X7.out.below hb8; have OW8 : Hid (OwnsR w8 5 1 w2.heap.size w3.heap.size (.slice b1 R.length d1) R.length (cellsB R)) := OW7.out.below hb8; have OX8 : Hid (OwnsK w8 w3.heap.size w4.heap.size (.agg #[.string D.F, .string D.T, .int .i64 D.C, .slice b4 D.D.length d4, .int .i64 D.S]) D) := OX7.out.below hb8; have Y8 : Hid (Box w8 w4.heap.size [.string D.F, .string D.T, .int .i64 D.C, .slice b4 D.D.length d4, .int .i64 D.S]) := Y7.out.below hb8; have OG8 : Hid (OwnsR w8 5 1 (w4.heap.size + 1) w5.heap.size (.slice g1 R.length k1) R.length (cellsB R)) := OG7.out.below hb8; clear B7 X7 OW7 OX7 Y7 OG7 Q7 hb8) | (go_at_call 12; refine (toBackup _ D _ SM.out (HR.out.below B6.out.drew)).mono ?_; rintro e w7 ⟨v7, rfl, own7, hb7⟩; have B7 : Hid (Below w.heap.size w w7) := B6.out.drew.trans (hb7.mono B6.out.size); have X7 : Hid (Box w7 w.heap.size [.string D.F, .string D.T, .int .i64 D.C, .slice a D.D.length c, .int .i64 D.S]) := X6.out.drew.below hb7; have OW7 : Hid (OwnsR w7 5 1 w2.heap.size w3.heap.size (.slice b1 R.length d1) R.length (cellsB R)) := OW6.out.drew.below hb7; have OX7 : Hid (OwnsK w7 w3.heap.size w4.heap.size (.agg #[.string D.F, .string D.T, .int .i64 D.C, .slice b4 D.D.length d4, .int .i64 D.S]) D) := OX6.out.drew.below hb7; have Y7 : Hid (Box w7 w4.heap.size [.string D.F, .string D.T, .int .i64 D.C, .slice b4 D.D.length d4, .int .i64 D.S]) := Y6.out.drew.below hb7; have OG7 : Hid (OwnsR w7 5 1 (w4.heap.size + 1) w5.heap.size (.slice g1 R.length k1) R.length (cellsB R)) := OG6.out.drew.below hb7; have Q7 : Hid (ReadsK w7 v7 D) := own7.reads; clear B6 X6 OW6 OX6 Y6 OG6 q0 q1 q2 q3 q4 p0 p1 p2 p3 p4; obtain ⟨q0, _⟩ := Y7.out 0 _ rfl; obtain ⟨q1, _⟩ := Y7.out 1 _ rfl; obtain ⟨q2, _⟩ := Y7.out 2 _ rfl; obtain ⟨q3, _⟩ := Y7.out 3 _ rfl; obtain ⟨q4, _⟩ := Y7.out 4 _ rfl; clear hb7 own7))
  all_goals
    try clear q0 q1 q2 q3 q4
    obtain ⟨q0, _⟩ := Y8.out 0 _ rfl
    obtain ⟨q1, _⟩ := Y8.out 1 _ rfl
    obtain ⟨q2, _⟩ := Y8.out 2 _ rfl
    obtain ⟨q3, _⟩ := Y8.out 3 _ rfl
    obtain ⟨q4, _⟩ := Y8.out 4 _ rfl
    go_wp2_with fail
    have Z8 : Hid (w4.heap.size ≤ w8.heap.size) := Nat.le_of_lt (World.block_lt_of_cell? _ _ q0)
    refine (markBackup _ D 1 w3.heap.size w4.heap.size _ WT.out (by omega) (by omega) Z8.out OX8.out).mono ?_
    rintro e w9 ⟨rfl, T9, _⟩
    have B9 : Hid (Below w.heap.size w w9) := Below.turned B8.out T9 (Nat.le_refl _) (by have := Z1.out; have := Z2.out; have := Z3.out; have := Z4.out; have := Z5.out; omega)
    have X9 : Hid (Box w9 w.heap.size [.string D.F, .string D.T, .int .i64 D.C, .slice a D.D.length c, .int .i64 D.S]) := X8.out.turned T9 (by have := Z1.out; have := Z2.out; have := Z3.out; have := Z4.out; have := Z5.out; omega)
    have OW9 : Hid (OwnsR w9 5 1 w2.heap.size w3.heap.size (.slice b1 R.length d1) R.length (cellsB R)) := OW8.out.turned T9 (by have := Z1.out; have := Z2.out; have := Z3.out; have := Z4.out; have := Z5.out; omega)
    have Y9 : Hid (Box w9 w4.heap.size [.string D.F, .string D.T, .int .i64 D.C, .slice b4 D.D.length d4, .int .i64 D.S]) := Y8.out.turned T9 (by have := Z1.out; have := Z2.out; have := Z3.out; have := Z4.out; have := Z5.out; omega)
    have OG9 : Hid (OwnsR w9 5 1 (w4.heap.size + 1) w5.heap.size (.slice g1 R.length k1) R.length (cellsB R)) := OG8.out.turned T9 (by have := Z1.out; have := Z2.out; have := Z3.out; have := Z4.out; have := Z5.out; omega)
    clear B8 X8 OW8 Y8 OG8
    clear T9 OX8 Z8 q0 q1 q2 q3 q4
    obtain ⟨E0, hE0⟩ : ∃ E0 : Nat, 1 + D.D.length * 5 = E0 := ⟨_, rfl⟩
    rw [hE0]
    clear hE0
    have hk1 : decide (((E0 : Nat) : Int) < 0) = false := by simp
    go_wp2_with fail
    refine (eqByteS g1 b1 R.length k1 d1 R _ rfl (by omega) OG9.out.src OW9.out.src).mono ?_
    rintro e w10 ⟨rfl, hb10⟩
    have B10 : Hid (Below w.heap.size w w10) := B9.out.trans ((hb10).mono B9.out.size)
    have X10 : Hid (Box w10 w.heap.size [.string D.F, .string D.T, .int .i64 D.C, .slice a D.D.length c, .int .i64 D.S]) := X9.out.below (hb10)
    have OW10 : Hid (OwnsR w10 5 1 w2.heap.size w3.heap.size (.slice b1 R.length d1) R.length (cellsB R)) := OW9.out.below (hb10)
    have Y10 : Hid (Box w10 w4.heap.size [.string D.F, .string D.T, .int .i64 D.C, .slice b4 D.D.length d4, .int .i64 D.S]) := Y9.out.below (hb10)
    have OG10 : Hid (OwnsR w10 5 1 (w4.heap.size + 1) w5.heap.size (.slice g1 R.length k1) R.length (cellsB R)) := OG9.out.below (hb10)
    clear B9 X9 OW9 Y9 OG9
    clear hb10
    clear hk1
    go_wp2_with fail
    refine (markByteS _ R.length 1 (w4.heap.size + 1) (cellsB R) _ hL (by omega) (by omega) OG10.out.1).mono ?_
    rintro e w11 ⟨rfl, G11, m11⟩
    have T11 : Turned (w4.heap.size + 1) w5.heap.size w10 w11 := Turned.of_grown G11 (fun k e => ⟨(OG10.out.1.lt k e).1, OG10.out.2 k e⟩)
    have B11 : Hid (Below w.heap.size w w11) := Below.turned B10.out T11 (Nat.le_refl _) (by have := Z1.out; have := Z2.out; have := Z3.out; have := Z4.out; have := Z5.out; omega)
    have X11 : Hid (Box w11 w.heap.size [.string D.F, .string D.T, .int .i64 D.C, .slice a D.D.length c, .int .i64 D.S]) := X10.out.turned T11 (by have := Z1.out; have := Z2.out; have := Z3.out; have := Z4.out; have := Z5.out; omega)
    have OW11 : Hid (OwnsR w11 5 1 w2.heap.size w3.heap.size (.slice b1 R.length d1) R.length (cellsB R)) := OW10.out.turned T11 (by have := Z1.out; have := Z2.out; have := Z3.out; have := Z4.out; have := Z5.out; omega)
    have Y11 : Hid (Box w11 w4.heap.size [.string D.F, .string D.T, .int .i64 D.C, .slice b4 D.D.length d4, .int .i64 D.S]) := Y10.out.turned T11 (by have := Z1.out; have := Z2.out; have := Z3.out; have := Z4.out; have := Z5.out; omega)
    clear B10 X10 OW10 Y10
    have OG11 : Hid (OwnsR w11 5 1 (w4.heap.size + 1) w5.heap.size (.slice g1 R.length k1) R.length (cellsB (mkB 1 R.length))) := ⟨m11, OG10.out.2⟩
    clear T11 G11 m11 OG10
    obtain ⟨E, hE⟩ : ∃ E : Nat, 1 + R.length = E := ⟨_, rfl⟩
    rw [hE]
    have HE : Hid (1 + R.length = E) := hE
    clear hE
    have hk2 : decide (((E : Nat) : Int) < 0) = false := by simp
    have hk3 : (((E : Nat) : Int) != ((E : Nat) : Int)) = false := by simp
    go_wp2_with fail
    refine (heldByteS g1 R.length k1 1 _ hL (by omega) (by omega) OG11.out.src).mono ?_
    rintro e w12 ⟨rfl, hb12⟩
    rw [HE.out]
    have B12 : Hid (Below w.heap.size w w12) := B11.out.trans ((hb12).mono B11.out.size)
    have X12 : Hid (Box w12 w.heap.size [.string D.F, .string D.T, .int .i64 D.C, .slice a D.D.length c, .int .i64 D.S]) := X11.out.below (hb12)
    have OW12 : Hid (OwnsR w12 5 1 w2.heap.size w3.heap.size (.slice b1 R.length d1) R.length (cellsB R)) := OW11.out.below (hb12)
    have Y12 : Hid (Box w12 w4.heap.size [.string D.F, .string D.T, .int .i64 D.C, .slice b4 D.D.length d4, .int .i64 D.S]) := Y11.out.below (hb12)
    have OG12 : Hid (OwnsR w12 5 1 (w4.heap.size + 1) w5.heap.size (.slice g1 R.length k1) R.length (cellsB (mkB 1 R.length))) := OG11.out.below (hb12)
    clear B11 X11 OW11 Y11 OG11
    clear hb12
    obtain ⟨p0, _⟩ := X12.out 0 _ rfl
    obtain ⟨p1, _⟩ := X12.out 1 _ rfl
    obtain ⟨p2, _⟩ := X12.out 2 _ rfl
    obtain ⟨p3, _⟩ := X12.out 3 _ rfl
    obtain ⟨p4, _⟩ := X12.out 4 _ rfl
    go_wp2_with fail
    refine (toBackup _ D _ SM.out (HR.out.below B12.out)).mono ?_
    rintro e w13 ⟨v13, rfl, own13, hb13⟩
    obtain ⟨b13, d13, rfl⟩ := own13.lit
    have B13 : Hid (Below w.heap.size w w13) := B12.out.trans ((hb13).mono B12.out.size)
    have X13 : Hid (Box w13 w.heap.size [.string D.F, .string D.T, .int .i64 D.C, .slice a D.D.length c, .int .i64 D.S]) := X12.out.below (hb13)
    have OW13 : Hid (OwnsR w13 5 1 w2.heap.size w3.heap.size (.slice b1 R.length d1) R.length (cellsB R)) := OW12.out.below (hb13)
    have Y13 : Hid (Box w13 w4.heap.size [.string D.F, .string D.T, .int .i64 D.C, .slice b4 D.D.length d4, .int .i64 D.S]) := Y12.out.below (hb13)
    have OG13 : Hid (OwnsR w13 5 1 (w4.heap.size + 1) w5.heap.size (.slice g1 R.length k1) R.length (cellsB (mkB 1 R.length))) := OG12.out.below (hb13)
    clear B12 X12 OW12 Y12 OG12
    have Q13 : Hid (ReadsK w13 (.agg #[.string D.F, .string D.T, .int .i64 D.C, .slice b13 D.D.length d13, .int .i64 D.S]) D) := own13.reads
    clear hb13 own13 p0 p1 p2 p3 p4
    go_wp2_with fail
    refine (implBackupBytes _ D _ SM.out Q13.out (HH.out.below B13.out)).mono ?_
    rintro e w14 ⟨u14, R', q', rfl, heq, own14, _, hb14⟩
    obtain ⟨rfl, rfl⟩ : R = R' ∧ q = q' := by have h2 := HEQ.out.symm.trans heq; simpa using h2
    obtain ⟨m1, n1, rfl, s14, _⟩ := own_src own14
    have B14 : Hid (Below w.heap.size w w14) := B13.out.trans ((hb14).mono B13.out.size)
    have X14 : Hid (Box w14 w.heap.size [.string D.F, .string D.T, .int .i64 D.C, .slice a D.D.length c, .int .i64 D.S]) := X13.out.below (hb14)
    have OW14 : Hid (OwnsR w14 5 1 w2.heap.size w3.heap.size (.slice b1 R.length d1) R.length (cellsB R)) := OW13.out.below (hb14)
    have Y14 : Hid (Box w14 w4.heap.size [.string D.F, .string D.T, .int .i64 D.C, .slice b4 D.D.length d4, .int .i64 D.S]) := Y13.out.below (hb14)
    have OG14 : Hid (OwnsR w14 5 1 (w4.heap.size + 1) w5.heap.size (.slice g1 R.length k1) R.length (cellsB (mkB 1 R.length))) := OG13.out.below (hb14)
    clear B13 X13 OW13 Y13 OG13
    have Q14 : Hid (Src w14 m1 (cellsB R)) := s14
    clear heq hb14 own14 s14 Q13
    go_wp2_with fail
    refine (eqByteS m1 b1 R.length n1 d1 R _ rfl (by omega) Q14.out OW14.out.src).mono ?_
    rintro e w15 ⟨rfl, hb15⟩
    have B15 : Hid (Below w.heap.size w w15) := B14.out.trans ((hb15).mono B14.out.size)
    have X15 : Hid (Box w15 w.heap.size [.string D.F, .string D.T, .int .i64 D.C, .slice a D.D.length c, .int .i64 D.S]) := X14.out.below (hb15)
    have OW15 : Hid (OwnsR w15 5 1 w2.heap.size w3.heap.size (.slice b1 R.length d1) R.length (cellsB R)) := OW14.out.below (hb15)
    have Y15 : Hid (Box w15 w4.heap.size [.string D.F, .string D.T, .int .i64 D.C, .slice b4 D.D.length d4, .int .i64 D.S]) := Y14.out.below (hb15)
    have OG15 : Hid (OwnsR w15 5 1 (w4.heap.size + 1) w5.heap.size (.slice g1 R.length k1) R.length (cellsB (mkB 1 R.length))) := OG14.out.below (hb15)
    clear B14 X14 OW14 Y14 OG14
    clear hb15
    clear Q14
    go_wp2_with fail
    refine (heldByteS g1 R.length k1 1 _ hL (by omega) (by omega) OG15.out.src).mono ?_
    rintro e w16 ⟨rfl, hb16⟩
    rw [HE.out]
    have B16 : Hid (Below w.heap.size w w16) := B15.out.trans ((hb16).mono B15.out.size)
    have X16 : Hid (Box w16 w.heap.size [.string D.F, .string D.T, .int .i64 D.C, .slice a D.D.length c, .int .i64 D.S]) := X15.out.below (hb16)
    have OW16 : Hid (OwnsR w16 5 1 w2.heap.size w3.heap.size (.slice b1 R.length d1) R.length (cellsB R)) := OW15.out.below (hb16)
    have Y16 : Hid (Box w16 w4.heap.size [.string D.F, .string D.T, .int .i64 D.C, .slice b4 D.D.length d4, .int .i64 D.S]) := Y15.out.below (hb16)
    have OG16 : Hid (OwnsR w16 5 1 (w4.heap.size + 1) w5.heap.size (.slice g1 R.length k1) R.length (cellsB (mkB 1 R.length))) := OG15.out.below (hb16)
    clear B15 X15 OW15 Y15 OG15
    clear hb16
    go_wp2_with fail
    go_ret
    exact ⟨rfl, B16.out⟩
end Go.Proofs.YtlkobhighhkmoaaDoor.fnExactBackupBytes
