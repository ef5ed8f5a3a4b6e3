/-
  The walk of the law FnExactDiskSync.
  By an AI agent.
-/
import Derived.Test.YtnmeafhfchkemaaDsy
namespace Go.Proofs.Ytnmeafhfchkemaa.fnExactDiskSync
open Go.ChangeShapes Go.WideShapes Go.ChangeAt Go.WideMaps Go.WideElems Go.RowKit Go.Deep
open Go.ChangeMaps (open_string shut_string)
set_option linter.unusedVariables false

set_option maxHeartbeats 4000000 in
theorem walk (v : Value) (D : DM) (w : World) (h : ReadsD w v D) (hm : D.S.length ≤ maxLen ∧ (∀ x ∈ D.S, x.size ≤ maxLen) ∧ D.C.length ≤ maxLen ∧ (∀ x ∈ D.C, x.2.size ≤ maxLen) ∧ D.K.length ≤ maxLen) :
    Calls Try.prog 14 #[v] w fun e w' => e = .returned (.bool true) ∧ Below w.heap.size w w' := by
  have HM : Hid (D.S.length ≤ maxLen ∧ (∀ x ∈ D.S, x.size ≤ maxLen) ∧ D.C.length ≤ maxLen ∧ (∀ x ∈ D.C, x.2.size ≤ maxLen) ∧ D.K.length ≤ maxLen) := hm
  obtain ⟨a1, c1, a2, c2, a3, c3, rfl, s1, s2, s3⟩ := h
  have HR : Hid (ReadsD w (.agg #[.slice a1 D.S.length c1, .slice a2 D.C.length c2, .bool D.A, .slice a3 D.K.length c3]) D) := ⟨a1, c1, a2, c2, a3, c3, rfl, s1, s2, s3⟩
  clear hm s1 s2 s3
  go_enter Try.func14, Try.ntmps14
  go_wp2_with fail
  refine (szDisk _ D _ HM.out (HR.out.below ((Below.refl _ _).alloc (Nat.le_refl _) _))).mono ?_
  rintro e w1 ⟨r, rfl, hr, hb1⟩
  have B1 : Hid (Below w.heap.size w w1) := Below.new hb1
  have X1 : Hid (Box w1 w.heap.size [.slice a1 D.S.length c1, .slice a2 D.C.length c2, .bool D.A, .slice a3 D.K.length c3]) := Box.below (Box.new rfl) hb1
  have Z1 : Hid (w.heap.size + 1 ≤ w1.heap.size) := size_new hb1
  clear hb1
  by_cases hneg : r < 0
  · clear hr
    go_wp2_with fail
    go_ret
    exact ⟨rfl, B1.out⟩
  have SM : Hid (smallD D) := hr (by omega)
  clear hr
  obtain ⟨p0, _⟩ := X1.out 0 _ rfl
  obtain ⟨p1, _⟩ := X1.out 1 _ rfl
  obtain ⟨p2, _⟩ := X1.out 2 _ rfl
  obtain ⟨p3, _⟩ := X1.out 3 _ rfl
  go_wp2_with fail
  refine (toDisk _ D _ SM.out (HR.out.below B1.out)).mono ?_
  rintro e w2 ⟨v2, rfl, own2, hb2⟩
  clear p0 p1 p2 p3
  have B2 : Hid (Below w.heap.size w w2) := B1.out.trans ((hb2).mono B1.out.size)
  have X2 : Hid (Box w2 w.heap.size [.slice a1 D.S.length c1, .slice a2 D.C.length c2, .bool D.A, .slice a3 D.K.length c3]) := X1.out.below (hb2)
  clear B1 X1
  have Z2 : Hid (w1.heap.size ≤ w2.heap.size) := hb2.size
  have O2 : Hid (ReadsD w2 v2 D) := own2.reads
  clear hb2 own2
  go_wp2_with fail
  refine (specDiskSync _ D _ SM.out O2.out).mono ?_
  rintro e w3 ⟨v3, R, bq, c, rfl, heq, own3, hb3⟩
  obtain ⟨b1, d1, b2, d2, b3, d3, rfl⟩ := own3.lit
  have B3 : Hid (Below w.heap.size w w3) := B2.out.trans ((hb3).mono B2.out.size)
  have X3 : Hid (Box w3 w.heap.size [.slice a1 D.S.length c1, .slice a2 D.C.length c2, .bool D.A, .slice a3 D.K.length c3]) := X2.out.below (hb3)
  clear B2 X2
  have OW3 : Hid (OwnsD w3 w2.heap.size w3.heap.size (.agg #[.slice b1 R.S.length d1, .slice b2 R.C.length d2, .bool R.A, .slice b3 R.K.length d3]) R) := own3
  have Z3 : Hid (w2.heap.size ≤ w3.heap.size) := hb3.size
  have HEQ : Hid (_ = (R, bq, c)) := heq
  have SMR : Hid (smallD R) := ds_small SM.out heq
  clear hb3 own3 O2 heq
  obtain ⟨p0, _⟩ := (X3.out.old (.cells #[.slice b1 R.S.length d1, .slice b2 R.C.length d2, .bool R.A, .slice b3 R.K.length d3] 46)) 0 _ rfl
  obtain ⟨p1, _⟩ := (X3.out.old (.cells #[.slice b1 R.S.length d1, .slice b2 R.C.length d2, .bool R.A, .slice b3 R.K.length d3] 46)) 1 _ rfl
  obtain ⟨p2, _⟩ := (X3.out.old (.cells #[.slice b1 R.S.length d1, .slice b2 R.C.length d2, .bool R.A, .slice b3 R.K.length d3] 46)) 2 _ rfl
  obtain ⟨p3, _⟩ := (X3.out.old (.cells #[.slice b1 R.S.length d1, .slice b2 R.C.length d2, .bool R.A, .slice b3 R.K.length d3] 46)) 3 _ rfl
  go_wp2_with fail
  refine (toDisk _ D _ SM.out (HR.out.below (B3.out.alloc B3.out.size _))).mono ?_
  rintro e w4 ⟨v4, rfl, own4, hb4⟩
  obtain ⟨e1, f1, e2, f2, e3, f3, rfl⟩ := own4.lit
  clear p0 p1 p2 p3
  have B4 : Hid (Below w.heap.size w w4) := B3.out.trans ((Below.new hb4).mono B3.out.size)
  have X4 : Hid (Box w4 w.heap.size [.slice a1 D.S.length c1, .slice a2 D.C.length c2, .bool D.A, .slice a3 D.K.length c3]) := X3.out.below (Below.new hb4)
  have OW4 : Hid (OwnsD w4 w2.heap.size w3.heap.size (.agg #[.slice b1 R.S.length d1, .slice b2 R.C.length d2, .bool R.A, .slice b3 R.K.length d3]) R) := OW3.out.below (Below.new hb4)
  clear B3 X3 OW3
  have W4 : Hid (Box w4 w3.heap.size [.slice b1 R.S.length d1, .slice b2 R.C.length d2, .bool R.A, .slice b3 R.K.length d3]) := Box.below (Box.new rfl) hb4
  have Z4 : Hid (w3.heap.size + 1 ≤ w4.heap.size) := size_new hb4
  have OX4 : Hid (OwnsD w4 (w3.heap.size + 1) w4.heap.size (.agg #[.slice e1 D.S.length f1, .slice e2 D.C.length f2, .bool D.A, .slice e3 D.K.length f3]) D) := own4.mono (by simp) (Nat.le_refl _)
  clear hb4 own4
  go_wp2_with fail
  refine (implDiskSync _ D _ SM.out (OX4.out.reads.below ((Below.refl _ _).alloc (Nat.le_refl _) _))).mono ?_
  rintro e w5 ⟨v5, R', bq', c', rfl, heq, own5, hb5⟩
  obtain ⟨rfl, rfl, rfl⟩ : R = R' ∧ bq = bq' ∧ c = c' := by have h2 := HEQ.out.symm.trans heq; simpa using h2
  clear heq
  obtain ⟨g1, k1, g2, k2, g3, k3, rfl⟩ := own5.lit
  have B5 : Hid (Below w.heap.size w w5) := B4.out.trans ((Below.new hb5).mono B4.out.size)
  have X5 : Hid (Box w5 w.heap.size [.slice a1 D.S.length c1, .slice a2 D.C.length c2, .bool D.A, .slice a3 D.K.length c3]) := X4.out.below (Below.new hb5)
  have OW5 : Hid (OwnsD w5 w2.heap.size w3.heap.size (.agg #[.slice b1 R.S.length d1, .slice b2 R.C.length d2, .bool R.A, .slice b3 R.K.length d3]) R) := OW4.out.below (Below.new hb5)
  have W5 : Hid (Box w5 w3.heap.size [.slice b1 R.S.length d1, .slice b2 R.C.length d2, .bool R.A, .slice b3 R.K.length d3]) := W4.out.below (Below.new hb5)
  have OX5 : Hid (OwnsD w5 (w3.heap.size + 1) w4.heap.size (.agg #[.slice e1 D.S.length f1, .slice e2 D.C.length f2, .bool D.A, .slice e3 D.K.length f3]) D) := OX4.out.below (Below.new hb5)
  clear B4 X4 OW4 W4 OX4
  have XB5 : Hid (Box w5 w4.heap.size [.slice e1 D.S.length f1, .slice e2 D.C.length f2, .bool D.A, .slice e3 D.K.length f3]) := Box.below (Box.new rfl) hb5
  have Z5 : Hid (w4.heap.size + 1 ≤ w5.heap.size) := size_new hb5
  have OG5 : Hid (OwnsD w5 (w4.heap.size + 1) w5.heap.size (.agg #[.slice g1 R.S.length k1, .slice g2 R.C.length k2, .bool R.A, .slice g3 R.K.length k3]) R) := own5.mono (by simp) (Nat.le_refl _)
  clear hb5 own5
  have hcc : (c != c) = false := by simp
  have hbb : (bq != bq) = false := by cases bq <;> rfl
  obtain ⟨q0, _⟩ := (W5.out.old (.cells #[.slice g1 R.S.length k1, .slice g2 R.C.length k2, .bool R.A, .slice g3 R.K.length k3] 46)) 0 _ rfl
  obtain ⟨q1, _⟩ := (W5.out.old (.cells #[.slice g1 R.S.length k1, .slice g2 R.C.length k2, .bool R.A, .slice g3 R.K.length k3] 46)) 1 _ rfl
  obtain ⟨q2, _⟩ := (W5.out.old (.cells #[.slice g1 R.S.length k1, .slice g2 R.C.length k2, .bool R.A, .slice g3 R.K.length k3] 46)) 2 _ rfl
  obtain ⟨q3, _⟩ := (W5.out.old (.cells #[.slice g1 R.S.length k1, .slice g2 R.C.length k2, .bool R.A, .slice g3 R.K.length k3] 46)) 3 _ rfl
  go_wp2_with fail
  refine (eqDisk _ _ R _ (small_len SMR.out) (OG5.out.reads.below ((Below.refl _ _).alloc (Nat.le_refl _) _)) (OW5.out.reads.below ((Below.refl _ _).alloc (Nat.le_refl _) _))).mono ?_
  rintro e w6 ⟨rfl, hb6⟩
  clear q0 q1 q2 q3
  have B6 : Hid (Below w.heap.size w w6) := B5.out.trans ((Below.new hb6).mono B5.out.size)
  have X6 : Hid (Box w6 w.heap.size [.slice a1 D.S.length c1, .slice a2 D.C.length c2, .bool D.A, .slice a3 D.K.length c3]) := X5.out.below (Below.new hb6)
  have OW6 : Hid (OwnsD w6 w2.heap.size w3.heap.size (.agg #[.slice b1 R.S.length d1, .slice b2 R.C.length d2, .bool R.A, .slice b3 R.K.length d3]) R) := OW5.out.below (Below.new hb6)
  have W6 : Hid (Box w6 w3.heap.size [.slice b1 R.S.length d1, .slice b2 R.C.length d2, .bool R.A, .slice b3 R.K.length d3]) := W5.out.below (Below.new hb6)
  have OX6 : Hid (OwnsD w6 (w3.heap.size + 1) w4.heap.size (.agg #[.slice e1 D.S.length f1, .slice e2 D.C.length f2, .bool D.A, .slice e3 D.K.length f3]) D) := OX5.out.below (Below.new hb6)
  have XB6 : Hid (Box w6 w4.heap.size [.slice e1 D.S.length f1, .slice e2 D.C.length f2, .bool D.A, .slice e3 D.K.length f3]) := XB5.out.below (Below.new hb6)
  have OG6 : Hid (OwnsD w6 (w4.heap.size + 1) w5.heap.size (.agg #[.slice g1 R.S.length k1, .slice g2 R.C.length k2, .bool R.A, .slice g3 R.K.length k3]) R) := OG5.out.below (Below.new hb6)
  clear B5 X5 OW5 W5 OX5 XB5 OG5
  have GB6 : Hid (Box w6 w5.heap.size [.slice g1 R.S.length k1, .slice g2 R.C.length k2, .bool R.A, .slice g3 R.K.length k3]) := Box.below (Box.new rfl) hb6
  have Z6 : Hid (w5.heap.size + 1 ≤ w6.heap.size) := size_new hb6
  clear hb6
  obtain ⟨p0, _⟩ := X6.out 0 _ rfl
  obtain ⟨p1, _⟩ := X6.out 1 _ rfl
  obtain ⟨p2, _⟩ := X6.out 2 _ rfl
  obtain ⟨p3, _⟩ := X6.out 3 _ rfl
  obtain ⟨q0, _⟩ := XB6.out 0 _ rfl
  obtain ⟨q1, _⟩ := XB6.out 1 _ rfl
  obtain ⟨q2, _⟩ := XB6.out 2 _ rfl
  obtain ⟨q3, _⟩ := XB6.out 3 _ rfl
  go_wp2_with fail
  go_region_with (first | (go_at_call 63; refine (eqDisk _ _ D _ (small_len SM.out) OX7.out.reads RD7.out).mono ?_; rintro e w8 ⟨rfl, hb8⟩; have B8 : Hid (Below w.heap.size w w8) := B7.out.trans (hb8.mono B7.out.size); have X8 : Hid (Box w8 w.heap.size [.slice a1 D.S.length c1, .slice a2 D.C.length c2, .bool D.A, .slice a3 D.K.length c3]) := X7.out.below hb8; have OW8 : Hid (OwnsD w8 w2.heap.size w3.heap.size (.agg #[.slice b1 R.S.length d1, .slice b2 R.C.length d2, .bool R.A, .slice b3 R.K.length d3]) R) := OW7.out.below hb8; have W8 : Hid (Box w8 w3.heap.size [.slice b1 R.S.length d1, .slice b2 R.C.length d2, .bool R.A, .slice b3 R.K.length d3]) := W7.out.below hb8; have OX8 : Hid (OwnsD w8 (w3.heap.size + 1) w4.heap.size (.agg #[.slice e1 D.S.length f1, .slice e2 D.C.length f2, .bool D.A, .slice e3 D.K.length f3]) D) := OX7.out.below hb8; have XB8 : Hid (Box w8 w4.heap.size [.slice e1 D.S.length f1, .slice e2 D.C.length f2, .bool D.A, .slice e3 D.K.length f3]) := XB7.out.below hb8; have OG8 : Hid (OwnsD w8 (w4.heap.size + 1) w5.heap.size (.agg #[.slice g1 R.S.length k1, .slice g2 R.C.length k2, .bool R.A, .slice g3 R.K.length k3]) R) := OG7.out.below hb8; have GB8 : Hid (Box w8 w5.heap.size [.slice g1 R.S.length k1, .slice g2 R.C.length k2, .bool R.A, .slice g3 R.K.length k3]) := GB7.out.below hb8; clear hb8) | (go_at_call 68; refine (toDisk _ D _ SM.out (HR.out.below B6.out.drew)).mono ?_; rintro e w7 ⟨v7, rfl, own7, hb7⟩; have B7 : Hid (Below w.heap.size w w7) := B6.out.drew.trans (hb7.mono B6.out.size); have X7 : Hid (Box w7 w.heap.size [.slice a1 D.S.length c1, .slice a2 D.C.length c2, .bool D.A, .slice a3 D.K.length c3]) := X6.out.drew.below hb7; have OW7 : Hid (OwnsD w7 w2.heap.size w3.heap.size (.agg #[.slice b1 R.S.length d1, .slice b2 R.C.length d2, .bool R.A, .slice b3 R.K.length d3]) R) := OW6.out.drew.below hb7; have W7 : Hid (Box w7 w3.heap.size [.slice b1 R.S.length d1, .slice b2 R.C.length d2, .bool R.A, .slice b3 R.K.length d3]) := W6.out.drew.below hb7; have OX7 : Hid (OwnsD w7 (w3.heap.size + 1) w4.heap.size (.agg #[.slice e1 D.S.length f1, .slice e2 D.C.length f2, .bool D.A, .slice e3 D.K.length f3]) D) := OX6.out.drew.below hb7; have XB7 : Hid (Box w7 w4.heap.size [.slice e1 D.S.length f1, .slice e2 D.C.length f2, .bool D.A, .slice e3 D.K.length f3]) := XB6.out.drew.below hb7; have OG7 : Hid (OwnsD w7 (w4.heap.size + 1) w5.heap.size (.agg #[.slice g1 R.S.length k1, .slice g2 R.C.length k2, .bool R.A, .slice g3 R.K.length k3]) R) := OG6.out.drew.below hb7; have GB7 : Hid (Box w7 w5.heap.size [.slice g1 R.S.length k1, .slice g2 R.C.length k2, .bool R.A, .slice g3 R.K.length k3]) := GB6.out.drew.below hb7; have RD7 : Hid (ReadsD w7 v7 D) := own7.reads; clear q0 q1 q2 q3; obtain ⟨q0, _⟩ := XB7.out 0 _ rfl; obtain ⟨q1, _⟩ := XB7.out 1 _ rfl; obtain ⟨q2, _⟩ := XB7.out 2 _ rfl; obtain ⟨q3, _⟩ := XB7.out 3 _ rfl; clear hb7 own7))
  all_goals clear p0 p1 p2 p3 q0 q1 q2 q3 B6 B7 X6 X7 OW6 OW7 W6 W7 OX6 OX7 XB6 XB7 OG6 OG7 GB6 GB7
  all_goals
    obtain ⟨q0, _⟩ := XB8.out 0 _ rfl
    obtain ⟨q1, _⟩ := XB8.out 1 _ rfl
    obtain ⟨q2, _⟩ := XB8.out 2 _ rfl
    obtain ⟨q3, _⟩ := XB8.out 3 _ rfl
    go_wp2_with fail
    refine (markDisk _ D (w3.heap.size + 1) w4.heap.size 1 _ (small_len2 SM.out) (by omega) (by omega) (by have := B8.out.size; have := GB8.out 0 _ rfl; have := World.block_lt_of_cell? _ _ this.1; dsimp only at this; have := Z5.out; omega) OX8.out).mono ?_
    rintro e w9 ⟨rfl, T9, _⟩
    clear q0 q1 q2 q3
    have B9 : Hid (Below w.heap.size w w9) := Below.turned B8.out T9 (Nat.le_refl _) (by have := Z1.out; have := Z2.out; have := Z3.out; have := Z4.out; have := Z5.out; omega)
    have X9 : Hid (Box w9 w.heap.size [.slice a1 D.S.length c1, .slice a2 D.C.length c2, .bool D.A, .slice a3 D.K.length c3]) := X8.out.turned T9 (by have := Z1.out; have := Z2.out; have := Z3.out; have := Z4.out; have := Z5.out; omega)
    have OW9 : Hid (OwnsD w9 w2.heap.size w3.heap.size (.agg #[.slice b1 R.S.length d1, .slice b2 R.C.length d2, .bool R.A, .slice b3 R.K.length d3]) R) := OW8.out.turned T9 (by have := Z1.out; have := Z2.out; have := Z3.out; have := Z4.out; have := Z5.out; omega)
    have W9 : Hid (Box w9 w3.heap.size [.slice b1 R.S.length d1, .slice b2 R.C.length d2, .bool R.A, .slice b3 R.K.length d3]) := W8.out.turned T9 (by have := Z1.out; have := Z2.out; have := Z3.out; have := Z4.out; have := Z5.out; omega)
    have OG9 : Hid (OwnsD w9 (w4.heap.size + 1) w5.heap.size (.agg #[.slice g1 R.S.length k1, .slice g2 R.C.length k2, .bool R.A, .slice g3 R.K.length k3]) R) := OG8.out.turned T9 (by have := Z1.out; have := Z2.out; have := Z3.out; have := Z4.out; have := Z5.out; omega)
    have GB9 : Hid (Box w9 w5.heap.size [.slice g1 R.S.length k1, .slice g2 R.C.length k2, .bool R.A, .slice g3 R.K.length k3]) := GB8.out.turned T9 (by have := Z1.out; have := Z2.out; have := Z3.out; have := Z4.out; have := Z5.out; omega)
    clear B8 X8 OW8 W8 OG8 GB8
    clear T9 OX8 XB8
    have hk1 : decide (((endD D 1 : Nat) : Int) < 0) = false := by simp
    obtain ⟨q0, _⟩ := GB9.out 0 _ rfl
    obtain ⟨q1, _⟩ := GB9.out 1 _ rfl
    obtain ⟨q2, _⟩ := GB9.out 2 _ rfl
    obtain ⟨q3, _⟩ := GB9.out 3 _ rfl
    obtain ⟨p0, _⟩ := W9.out 0 _ rfl
    obtain ⟨p1, _⟩ := W9.out 1 _ rfl
    obtain ⟨p2, _⟩ := W9.out 2 _ rfl
    obtain ⟨p3, _⟩ := W9.out 3 _ rfl
    go_wp2_with fail
    refine (eqDisk _ _ R _ (small_len SMR.out) OG9.out.reads OW9.out.reads).mono ?_
    rintro e w10 ⟨rfl, hb10⟩
    clear p0 p1 p2 p3 q0 q1 q2 q3
    have B10 : Hid (Below w.heap.size w w10) := B9.out.trans ((hb10).mono B9.out.size)
    have X10 : Hid (Box w10 w.heap.size [.slice a1 D.S.length c1, .slice a2 D.C.length c2, .bool D.A, .slice a3 D.K.length c3]) := X9.out.below (hb10)
    have OW10 : Hid (OwnsD w10 w2.heap.size w3.heap.size (.agg #[.slice b1 R.S.length d1, .slice b2 R.C.length d2, .bool R.A, .slice b3 R.K.length d3]) R) := OW9.out.below (hb10)
    have W10 : Hid (Box w10 w3.heap.size [.slice b1 R.S.length d1, .slice b2 R.C.length d2, .bool R.A, .slice b3 R.K.length d3]) := W9.out.below (hb10)
    have OG10 : Hid (OwnsD w10 (w4.heap.size + 1) w5.heap.size (.agg #[.slice g1 R.S.length k1, .slice g2 R.C.length k2, .bool R.A, .slice g3 R.K.length k3]) R) := OG9.out.below (hb10)
    have GB10 : Hid (Box w10 w5.heap.size [.slice g1 R.S.length k1, .slice g2 R.C.length k2, .bool R.A, .slice g3 R.K.length k3]) := GB9.out.below (hb10)
    clear B9 X9 OW9 W9 OG9 GB9
    clear hb10 hk1
    obtain ⟨q0, _⟩ := GB10.out 0 _ rfl
    obtain ⟨q1, _⟩ := GB10.out 1 _ rfl
    obtain ⟨q2, _⟩ := GB10.out 2 _ rfl
    obtain ⟨q3, _⟩ := GB10.out 3 _ rfl
    go_wp2_with fail
    refine (markDisk _ R (w4.heap.size + 1) w5.heap.size 1 _ (small_len2 SMR.out) (by omega) (by omega) (by have := GB10.out 0 _ rfl; have := World.block_lt_of_cell? _ _ this.1; dsimp only at this; omega) OG10.out).mono ?_
    rintro e w11 ⟨rfl, T11, m11⟩
    clear q0 q1 q2 q3
    have B11 : Hid (Below w.heap.size w w11) := Below.turned B10.out T11 (Nat.le_refl _) (by have := Z1.out; have := Z2.out; have := Z3.out; have := Z4.out; have := Z5.out; omega)
    have X11 : Hid (Box w11 w.heap.size [.slice a1 D.S.length c1, .slice a2 D.C.length c2, .bool D.A, .slice a3 D.K.length c3]) := X10.out.turned T11 (by have := Z1.out; have := Z2.out; have := Z3.out; have := Z4.out; have := Z5.out; omega)
    have OW11 : Hid (OwnsD w11 w2.heap.size w3.heap.size (.agg #[.slice b1 R.S.length d1, .slice b2 R.C.length d2, .bool R.A, .slice b3 R.K.length d3]) R) := OW10.out.turned T11 (by have := Z1.out; have := Z2.out; have := Z3.out; have := Z4.out; have := Z5.out; omega)
    have W11 : Hid (Box w11 w3.heap.size [.slice b1 R.S.length d1, .slice b2 R.C.length d2, .bool R.A, .slice b3 R.K.length d3]) := W10.out.turned T11 (by have := Z1.out; have := Z2.out; have := Z3.out; have := Z4.out; have := Z5.out; omega)
    have GB11 : Hid (Box w11 w5.heap.size [.slice g1 R.S.length k1, .slice g2 R.C.length k2, .bool R.A, .slice g3 R.K.length k3]) := GB10.out.turned T11 (by have := Z1.out; have := Z2.out; have := Z3.out; have := Z4.out; have := Z5.out; omega)
    clear B10 X10 OW10 W10 GB10
    clear OG10
    have OG11 : Hid (OwnsD w11 (w4.heap.size + 1) w5.heap.size (.agg #[.slice g1 R.S.length k1, .slice g2 R.C.length k2, .bool R.A, .slice g3 R.K.length k3]) (markedD R 1)) := m11
    clear T11 m11
    obtain ⟨E, hE⟩ : ∃ E, endD R 1 = E := ⟨_, rfl⟩
    rw [hE]
    have HE : Hid (endD R 1 = E) := hE
    clear hE
    have hk2 : decide (((E : Nat) : Int) < 0) = false := by simp
    have hk3 : (((E : Nat) : Int) != ((E : Nat) : Int)) = false := by simp
    obtain ⟨q0, _⟩ := GB11.out 0 _ rfl
    obtain ⟨q1, _⟩ := GB11.out 1 _ rfl
    obtain ⟨q2, _⟩ := GB11.out 2 _ rfl
    obtain ⟨q3, _⟩ := GB11.out 3 _ rfl
    go_wp2_with fail
    refine (heldDisk _ R 1 _ (small_len2 SMR.out) (by omega) (by omega) OG11.out.reads).mono ?_
    rintro e w12 ⟨rfl, hb12⟩
    rw [HE.out]
    clear q0 q1 q2 q3
    have B12 : Hid (Below w.heap.size w w12) := B11.out.trans ((hb12).mono B11.out.size)
    have X12 : Hid (Box w12 w.heap.size [.slice a1 D.S.length c1, .slice a2 D.C.length c2, .bool D.A, .slice a3 D.K.length c3]) := X11.out.below (hb12)
    have OW12 : Hid (OwnsD w12 w2.heap.size w3.heap.size (.agg #[.slice b1 R.S.length d1, .slice b2 R.C.length d2, .bool R.A, .slice b3 R.K.length d3]) R) := OW11.out.below (hb12)
    have W12 : Hid (Box w12 w3.heap.size [.slice b1 R.S.length d1, .slice b2 R.C.length d2, .bool R.A, .slice b3 R.K.length d3]) := W11.out.below (hb12)
    have OG12 : Hid (OwnsD w12 (w4.heap.size + 1) w5.heap.size (.agg #[.slice g1 R.S.length k1, .slice g2 R.C.length k2, .bool R.A, .slice g3 R.K.length k3]) (markedD R 1)) := OG11.out.below (hb12)
    have GB12 : Hid (Box w12 w5.heap.size [.slice g1 R.S.length k1, .slice g2 R.C.length k2, .bool R.A, .slice g3 R.K.length k3]) := GB11.out.below (hb12)
    clear B11 X11 OW11 W11 OG11 GB11
    clear hb12
    obtain ⟨p0, _⟩ := X12.out 0 _ rfl
    obtain ⟨p1, _⟩ := X12.out 1 _ rfl
    obtain ⟨p2, _⟩ := X12.out 2 _ rfl
    obtain ⟨p3, _⟩ := X12.out 3 _ rfl
    go_wp2_with fail
    refine (toDisk _ D _ SM.out (HR.out.below B12.out)).mono ?_
    rintro e w13 ⟨v13, rfl, own13, hb13⟩
    clear p0 p1 p2 p3
    have B13 : Hid (Below w.heap.size w w13) := B12.out.trans ((hb13).mono B12.out.size)
    have X13 : Hid (Box w13 w.heap.size [.slice a1 D.S.length c1, .slice a2 D.C.length c2, .bool D.A, .slice a3 D.K.length c3]) := X12.out.below (hb13)
    have OW13 : Hid (OwnsD w13 w2.heap.size w3.heap.size (.agg #[.slice b1 R.S.length d1, .slice b2 R.C.length d2, .bool R.A, .slice b3 R.K.length d3]) R) := OW12.out.below (hb13)
    have W13 : Hid (Box w13 w3.heap.size [.slice b1 R.S.length d1, .slice b2 R.C.length d2, .bool R.A, .slice b3 R.K.length d3]) := W12.out.below (hb13)
    have OG13 : Hid (OwnsD w13 (w4.heap.size + 1) w5.heap.size (.agg #[.slice g1 R.S.length k1, .slice g2 R.C.length k2, .bool R.A, .slice g3 R.K.length k3]) (markedD R 1)) := OG12.out.below (hb13)
    have GB13 : Hid (Box w13 w5.heap.size [.slice g1 R.S.length k1, .slice g2 R.C.length k2, .bool R.A, .slice g3 R.K.length k3]) := GB12.out.below (hb13)
    clear B12 X12 OW12 W12 OG12 GB12
    have O13 : Hid (ReadsD w13 v13 D) := own13.reads
    clear hb13 own13
    go_wp2_with fail
    refine (implDiskSync _ D _ SM.out O13.out).mono ?_
    rintro e w14 ⟨v14, R', bq', c', rfl, heq, own14, hb14⟩
    obtain ⟨rfl, rfl, rfl⟩ : R = R' ∧ bq = bq' ∧ c = c' := by have h2 := HEQ.out.symm.trans heq; simpa using h2
    obtain ⟨m1, n1, m2, n2, m3, n3, rfl⟩ := own14.lit
    have B14 : Hid (Below w.heap.size w w14) := B13.out.trans ((hb14).mono B13.out.size)
    have X14 : Hid (Box w14 w.heap.size [.slice a1 D.S.length c1, .slice a2 D.C.length c2, .bool D.A, .slice a3 D.K.length c3]) := X13.out.below (hb14)
    have OW14 : Hid (OwnsD w14 w2.heap.size w3.heap.size (.agg #[.slice b1 R.S.length d1, .slice b2 R.C.length d2, .bool R.A, .slice b3 R.K.length d3]) R) := OW13.out.below (hb14)
    have W14 : Hid (Box w14 w3.heap.size [.slice b1 R.S.length d1, .slice b2 R.C.length d2, .bool R.A, .slice b3 R.K.length d3]) := W13.out.below (hb14)
    have OG14 : Hid (OwnsD w14 (w4.heap.size + 1) w5.heap.size (.agg #[.slice g1 R.S.length k1, .slice g2 R.C.length k2, .bool R.A, .slice g3 R.K.length k3]) (markedD R 1)) := OG13.out.below (hb14)
    have GB14 : Hid (Box w14 w5.heap.size [.slice g1 R.S.length k1, .slice g2 R.C.length k2, .bool R.A, .slice g3 R.K.length k3]) := GB13.out.below (hb14)
    clear B13 X13 OW13 W13 OG13 GB13
    have OH : Hid (ReadsD w14 (.agg #[.slice m1 R.S.length n1, .slice m2 R.C.length n2, .bool R.A, .slice m3 R.K.length n3]) R) := own14.reads
    clear heq hb14 own14 O13
    obtain ⟨q0, _⟩ := (W14.out.old (.cells #[.slice m1 R.S.length n1, .slice m2 R.C.length n2, .bool R.A, .slice m3 R.K.length n3] 46)) 0 _ rfl
    obtain ⟨q1, _⟩ := (W14.out.old (.cells #[.slice m1 R.S.length n1, .slice m2 R.C.length n2, .bool R.A, .slice m3 R.K.length n3] 46)) 1 _ rfl
    obtain ⟨q2, _⟩ := (W14.out.old (.cells #[.slice m1 R.S.length n1, .slice m2 R.C.length n2, .bool R.A, .slice m3 R.K.length n3] 46)) 2 _ rfl
    obtain ⟨q3, _⟩ := (W14.out.old (.cells #[.slice m1 R.S.length n1, .slice m2 R.C.length n2, .bool R.A, .slice m3 R.K.length n3] 46)) 3 _ rfl
    go_wp2_with fail
    refine (eqDisk _ _ R _ (small_len SMR.out) (OH.out.below ((Below.refl _ _).alloc (Nat.le_refl _) _)) (OW14.out.reads.below ((Below.refl _ _).alloc (Nat.le_refl _) _))).mono ?_
    rintro e w15 ⟨rfl, hb15⟩
    clear q0 q1 q2 q3
    have B15 : Hid (Below w.heap.size w w15) := B14.out.trans ((Below.new hb15).mono B14.out.size)
    have X15 : Hid (Box w15 w.heap.size [.slice a1 D.S.length c1, .slice a2 D.C.length c2, .bool D.A, .slice a3 D.K.length c3]) := X14.out.below (Below.new hb15)
    have OW15 : Hid (OwnsD w15 w2.heap.size w3.heap.size (.agg #[.slice b1 R.S.length d1, .slice b2 R.C.length d2, .bool R.A, .slice b3 R.K.length d3]) R) := OW14.out.below (Below.new hb15)
    have W15 : Hid (Box w15 w3.heap.size [.slice b1 R.S.length d1, .slice b2 R.C.length d2, .bool R.A, .slice b3 R.K.length d3]) := W14.out.below (Below.new hb15)
    have OG15 : Hid (OwnsD w15 (w4.heap.size + 1) w5.heap.size (.agg #[.slice g1 R.S.length k1, .slice g2 R.C.length k2, .bool R.A, .slice g3 R.K.length k3]) (markedD R 1)) := OG14.out.below (Below.new hb15)
    have GB15 : Hid (Box w15 w5.heap.size [.slice g1 R.S.length k1, .slice g2 R.C.length k2, .bool R.A, .slice g3 R.K.length k3]) := GB14.out.below (Below.new hb15)
    clear B14 X14 OW14 W14 OG14 GB14
    clear hb15 OH
    obtain ⟨q0, _⟩ := GB15.out 0 _ rfl
    obtain ⟨q1, _⟩ := GB15.out 1 _ rfl
    obtain ⟨q2, _⟩ := GB15.out 2 _ rfl
    obtain ⟨q3, _⟩ := GB15.out 3 _ rfl
    go_wp2_with fail
    refine (heldDisk _ R 1 _ (small_len2 SMR.out) (by omega) (by omega) OG15.out.reads).mono ?_
    rintro e w16 ⟨rfl, hb16⟩
    rw [HE.out]
    clear q0 q1 q2 q3
    have B16 : Hid (Below w.heap.size w w16) := B15.out.trans ((hb16).mono B15.out.size)
    have X16 : Hid (Box w16 w.heap.size [.slice a1 D.S.length c1, .slice a2 D.C.length c2, .bool D.A, .slice a3 D.K.length c3]) := X15.out.below (hb16)
    have OW16 : Hid (OwnsD w16 w2.heap.size w3.heap.size (.agg #[.slice b1 R.S.length d1, .slice b2 R.C.length d2, .bool R.A, .slice b3 R.K.length d3]) R) := OW15.out.below (hb16)
    have W16 : Hid (Box w16 w3.heap.size [.slice b1 R.S.length d1, .slice b2 R.C.length d2, .bool R.A, .slice b3 R.K.length d3]) := W15.out.below (hb16)
    have OG16 : Hid (OwnsD w16 (w4.heap.size + 1) w5.heap.size (.agg #[.slice g1 R.S.length k1, .slice g2 R.C.length k2, .bool R.A, .slice g3 R.K.length k3]) (markedD R 1)) := OG15.out.below (hb16)
    have GB16 : Hid (Box w16 w5.heap.size [.slice g1 R.S.length k1, .slice g2 R.C.length k2, .bool R.A, .slice g3 R.K.length k3]) := GB15.out.below (hb16)
    clear B15 X15 OW15 W15 OG15 GB15
    clear hb16
    go_wp2_with fail
    go_ret
    exact ⟨rfl, B16.out⟩
end Go.Proofs.Ytnmeafhfchkemaa.fnExactDiskSync
