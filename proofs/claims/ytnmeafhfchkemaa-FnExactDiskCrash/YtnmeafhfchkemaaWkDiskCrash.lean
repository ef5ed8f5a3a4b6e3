/-
  The walk of the law FnExactDiskCrash.
  By an AI agent.
-/
import Derived.Test.YtnmeafhfchkemaaDlaw1
import Derived.Test.YtnmeafhfchkemaaDcr2
namespace Go.Proofs.Ytnmeafhfchkemaa.fnExactDiskCrash
open Go.ChangeShapes Go.WideShapes Go.ChangeAt Go.WideMaps Go.WideElems Go.RowKit Go.Deep
open Go.ChangeMaps (open_string shut_string)
set_option linter.unusedVariables false

set_option maxHeartbeats 4000000 in
theorem walk (v : Value) (D : DM) (ak : Option Addr) (ck : Nat) (K : List Int) (w : World) (h : ReadsD w v D) (hm : D.S.length ≤ maxLen ∧ (∀ x ∈ D.S, x.size ≤ maxLen) ∧ D.C.length ≤ maxLen ∧ (∀ x ∈ D.C, x.2.size ≤ maxLen) ∧ D.K.length ≤ maxLen) (hk : Src w ak (cellsI K)) (hkm : K.length ≤ maxLen) :
    Calls Try.prog 15 #[v, .slice ak K.length ck] w fun e w' => e = .returned (.bool true) ∧ Below w.heap.size w w' := by
  have HM : Hid (D.S.length ≤ maxLen ∧ (∀ x ∈ D.S, x.size ≤ maxLen) ∧ D.C.length ≤ maxLen ∧ (∀ x ∈ D.C, x.2.size ≤ maxLen) ∧ D.K.length ≤ maxLen) := hm
  have HK : Hid (Src w ak (cellsI K)) := hk
  obtain ⟨a1, c1, a2, c2, a3, c3, rfl, s1, s2, s3⟩ := h
  have HR : Hid (ReadsD w (.agg #[.slice a1 D.S.length c1, .slice a2 D.C.length c2, .bool D.A, .slice a3 D.K.length c3]) D) := ⟨a1, c1, a2, c2, a3, c3, rfl, s1, s2, s3⟩
  clear hm s1 s2 s3 hk
  unfold maxLen at hkm
  by_cases hbig : (1048576 : Int) < (K.length : Int)
  · go_enter Try.func15, Try.ntmps15
    go_wp2_with fail
    go_ret
    exact ⟨rfl, (Below.refl _ _).alloc (Nat.le_refl _) _⟩
  have hkl : K.length ≤ 1048576 := by omega
  go_enter Try.func15, Try.ntmps15
  go_wp2_with fail
  refine (szDisk _ D _ HM.out (HR.out.below ((Below.refl _ _).alloc (Nat.le_refl _) _))).mono ?_
  rintro e w1 ⟨r, rfl, hr, hb1⟩
  have B1 : Hid (Below w.heap.size w w1) := Below.new hb1
  have X1 : Hid (Box w1 w.heap.size [.slice a1 D.S.length c1, .slice a2 D.C.length c2, .bool D.A, .slice a3 D.K.length c3]) := Box.below (Box.new rfl) hb1
  have Z1 : Hid (w.heap.size + 1 ≤ w1.heap.size) := size_new hb1
  clear hb1
  by_cases hneg : r < 0
  · clear hr
    go_wp2_with fail
    go_ret
    exact ⟨rfl, B1.out⟩
  have SM : Hid (smallD D) := hr (by omega)
  clear hr
  obtain ⟨p0, _⟩ := X1.out 0 _ rfl
  obtain ⟨p1, _⟩ := X1.out 1 _ rfl
  obtain ⟨p2, _⟩ := X1.out 2 _ rfl
  obtain ⟨p3, _⟩ := X1.out 3 _ rfl
  go_wp2_with fail
  refine (toDisk _ D _ SM.out (HR.out.below B1.out)).mono ?_
  rintro e w2 ⟨v2, rfl, own2, hb2⟩
  clear p0 p1 p2 p3
  have B2 : Hid (Below w.heap.size w w2) := B1.out.trans ((hb2).mono B1.out.size)
  have X2 : Hid (Box w2 w.heap.size [.slice a1 D.S.length c1, .slice a2 D.C.length c2, .bool D.A, .slice a3 D.K.length c3]) := X1.out.below (hb2)
  clear B1 X1
  have Z2 : Hid (w1.heap.size ≤ w2.heap.size) := hb2.size
  have O2 : Hid (ReadsD w2 v2 D) := own2.reads
  clear hb2 own2
  go_wp2_with fail
  refine (toIntS ak K.length ck K _ rfl hkl (HK.out.below B2.out)).mono ?_
  rintro e w3 ⟨u3, rfl, ro3, hb3⟩
  obtain ⟨y1, y2, rfl, ys3, _⟩ := own_src ro3
  have B3 : Hid (Below w.heap.size w w3) := B2.out.trans ((hb3).mono B2.out.size)
  have X3 : Hid (Box w3 w.heap.size [.slice a1 D.S.length c1, .slice a2 D.C.length c2, .bool D.A, .slice a3 D.K.length c3]) := X2.out.below (hb3)
  clear B2 X2
  have Z3 : Hid (w2.heap.size ≤ w3.heap.size) := hb3.size
  have O3 : Hid (ReadsD w3 v2 D) := O2.out.below hb3
  have K3 : Hid (Src w3 y1 (cellsI K)) := ys3
  clear hb3 ro3 ys3 O2
  go_wp2_with fail
  refine (specDiskCrash _ D y1 K.length y2 K _ SM.out rfl hkl K3.out O3.out).mono ?_
  rintro e w4 ⟨v4, R, c, rfl, heq, own4, hb4⟩
  obtain ⟨b1, d1, b2, d2, b3, d3, rfl⟩ := own4.lit
  have B4 : Hid (Below w.heap.size w w4) := B3.out.trans ((hb4).mono B3.out.size)
  have X4 : Hid (Box w4 w.heap.size [.slice a1 D.S.length c1, .slice a2 D.C.length c2, .bool D.A, .slice a3 D.K.length c3]) := X3.out.below (hb4)
  clear B3 X3
  have OW4 : Hid (OwnsD w4 w3.heap.size w4.heap.size (.agg #[.slice b1 R.S.length d1, .slice b2 R.C.length d2, .bool R.A, .slice b3 R.K.length d3]) R) := own4
  have Z4 : Hid (w3.heap.size ≤ w4.heap.size) := hb4.size
  have HEQ : Hid (_ = (R, c)) := heq
  have SMR : Hid (smallD R) := dc_small SM.out heq
  clear hb4 own4 O3 K3 heq
  obtain ⟨p0, _⟩ := (X4.out.old (.cells #[.slice b1 R.S.length d1, .slice b2 R.C.length d2, .bool R.A, .slice b3 R.K.length d3] 46)) 0 _ rfl
  obtain ⟨p1, _⟩ := (X4.out.old (.cells #[.slice b1 R.S.length d1, .slice b2 R.C.length d2, .bool R.A, .slice b3 R.K.length d3] 46)) 1 _ rfl
  obtain ⟨p2, _⟩ := (X4.out.old (.cells #[.slice b1 R.S.length d1, .slice b2 R.C.length d2, .bool R.A, .slice b3 R.K.length d3] 46)) 2 _ rfl
  obtain ⟨p3, _⟩ := (X4.out.old (.cells #[.slice b1 R.S.length d1, .slice b2 R.C.length d2, .bool R.A, .slice b3 R.K.length d3] 46)) 3 _ rfl
  go_wp2_with fail
  refine (toDisk _ D _ SM.out (HR.out.below (B4.out.alloc B4.out.size _))).mono ?_
  rintro e w5 ⟨v5, rfl, own5, hb5⟩
  obtain ⟨e1, f1, e2, f2, e3, f3, rfl⟩ := own5.lit
  clear p0 p1 p2 p3
  have B5 : Hid (Below w.heap.size w w5) := B4.out.trans ((Below.new hb5).mono B4.out.size)
  have X5 : Hid (Box w5 w.heap.size [.slice a1 D.S.length c1, .slice a2 D.C.length c2, .bool D.A, .slice a3 D.K.length c3]) := X4.out.below (Below.new hb5)
  have OW5 : Hid (OwnsD w5 w3.heap.size w4.heap.size (.agg #[.slice b1 R.S.length d1, .slice b2 R.C.length d2, .bool R.A, .slice b3 R.K.length d3]) R) := OW4.out.below (Below.new hb5)
  clear B4 X4 OW4
  have W5 : Hid (Box w5 w4.heap.size [.slice b1 R.S.length d1, .slice b2 R.C.length d2, .bool R.A, .slice b3 R.K.length d3]) := Box.below (Box.new rfl) hb5
  have Z5 : Hid (w4.heap.size + 1 ≤ w5.heap.size) := size_new hb5
  have OX5 : Hid (OwnsD w5 (w4.heap.size + 1) w5.heap.size (.agg #[.slice e1 D.S.length f1, .slice e2 D.C.length f2, .bool D.A, .slice e3 D.K.length f3]) D) := own5.mono (by simp) (Nat.le_refl _)
  clear hb5 own5
  go_wp2_with fail
  refine (toIntS ak K.length ck K _ rfl hkl (HK.out.below (B5.out.alloc B5.out.size _))).mono ?_
  rintro e w6 ⟨u6, rfl, ro6, hb6⟩
  obtain ⟨x1, x2, rfl, _, _⟩ := own_src ro6
  have B6 : Hid (Below w.heap.size w w6) := B5.out.trans ((Below.new hb6).mono B5.out.size)
  have X6 : Hid (Box w6 w.heap.size [.slice a1 D.S.length c1, .slice a2 D.C.length c2, .bool D.A, .slice a3 D.K.length c3]) := X5.out.below (Below.new hb6)
  have OW6 : Hid (OwnsD w6 w3.heap.size w4.heap.size (.agg #[.slice b1 R.S.length d1, .slice b2 R.C.length d2, .bool R.A, .slice b3 R.K.length d3]) R) := OW5.out.below (Below.new hb6)
  have W6 : Hid (Box w6 w4.heap.size [.slice b1 R.S.length d1, .slice b2 R.C.length d2, .bool R.A, .slice b3 R.K.length d3]) := W5.out.below (Below.new hb6)
  have OX6 : Hid (OwnsD w6 (w4.heap.size + 1) w5.heap.size (.agg #[.slice e1 D.S.length f1, .slice e2 D.C.length f2, .bool D.A, .slice e3 D.K.length f3]) D) := OX5.out.below (Below.new hb6)
  clear B5 X5 OW5 W5 OX5
  have XB6 : Hid (Box w6 w5.heap.size [.slice e1 D.S.length f1, .slice e2 D.C.length f2, .bool D.A, .slice e3 D.K.length f3]) := Box.below (Box.new rfl) hb6
  have Z6 : Hid (w5.heap.size + 1 ≤ w6.heap.size) := size_new hb6
  have XK6 : Hid (OwnsI w6 (w5.heap.size + 1) w6.heap.size (.slice x1 K.length x2) K) := OwnsI.mk (own_mono ro6 (by simp)) (Nat.le_refl _)
  clear hb6 ro6
  obtain ⟨q0, _⟩ := XB6.out 0 _ rfl
  obtain ⟨q1, _⟩ := XB6.out 1 _ rfl
  obtain ⟨q2, _⟩ := XB6.out 2 _ rfl
  obtain ⟨q3, _⟩ := XB6.out 3 _ rfl
  go_wp2_with fail
  refine (implDiskCrash _ D x1 K.length x2 K _ SM.out rfl hkl XK6.out.src OX6.out.reads).mono ?_
  rintro e w7 ⟨v7, R', c', rfl, heq, own7, hb7⟩
  obtain ⟨rfl, rfl⟩ : R = R' ∧ c = c' := by have h2 := HEQ.out.symm.trans heq; simpa using h2
  clear heq
  clear q0 q1 q2 q3
  obtain ⟨g1, k1, g2, k2, g3, k3, rfl⟩ := own7.lit
  have B7 : Hid (Below w.heap.size w w7) := B6.out.trans ((hb7).mono B6.out.size)
  have X7 : Hid (Box w7 w.heap.size [.slice a1 D.S.length c1, .slice a2 D.C.length c2, .bool D.A, .slice a3 D.K.length c3]) := X6.out.below (hb7)
  have OW7 : Hid (OwnsD w7 w3.heap.size w4.heap.size (.agg #[.slice b1 R.S.length d1, .slice b2 R.C.length d2, .bool R.A, .slice b3 R.K.length d3]) R) := OW6.out.below (hb7)
  have W7 : Hid (Box w7 w4.heap.size [.slice b1 R.S.length d1, .slice b2 R.C.length d2, .bool R.A, .slice b3 R.K.length d3]) := W6.out.below (hb7)
  have OX7 : Hid (OwnsD w7 (w4.heap.size + 1) w5.heap.size (.agg #[.slice e1 D.S.length f1, .slice e2 D.C.length f2, .bool D.A, .slice e3 D.K.length f3]) D) := OX6.out.below (hb7)
  have XB7 : Hid (Box w7 w5.heap.size [.slice e1 D.S.length f1, .slice e2 D.C.length f2, .bool D.A, .slice e3 D.K.length f3]) := XB6.out.below (hb7)
  have XK7 : Hid (OwnsI w7 (w5.heap.size + 1) w6.heap.size (.slice x1 K.length x2) K) := XK6.out.below (hb7)
  clear B6 X6 OW6 W6 OX6 XB6 XK6
  have Z7 : Hid (w6.heap.size ≤ w7.heap.size) := hb7.size
  have OG7 : Hid (OwnsD w7 w6.heap.size w7.heap.size (.agg #[.slice g1 R.S.length k1, .slice g2 R.C.length k2, .bool R.A, .slice g3 R.K.length k3]) R) := own7
  clear hb7 own7
  have hcc : (c != c) = false := by simp
  obtain ⟨q0, _⟩ := (W7.out.old (.cells #[.slice g1 R.S.length k1, .slice g2 R.C.length k2, .bool R.A, .slice g3 R.K.length k3] 46)) 0 _ rfl
  obtain ⟨q1, _⟩ := (W7.out.old (.cells #[.slice g1 R.S.length k1, .slice g2 R.C.length k2, .bool R.A, .slice g3 R.K.length k3] 46)) 1 _ rfl
  obtain ⟨q2, _⟩ := (W7.out.old (.cells #[.slice g1 R.S.length k1, .slice g2 R.C.length k2, .bool R.A, .slice g3 R.K.length k3] 46)) 2 _ rfl
  obtain ⟨q3, _⟩ := (W7.out.old (.cells #[.slice g1 R.S.length k1, .slice g2 R.C.length k2, .bool R.A, .slice g3 R.K.length k3] 46)) 3 _ rfl
  go_wp2_with fail
  refine (eqDisk _ _ R _ (small_len SMR.out) (OG7.out.reads.below ((Below.refl _ _).alloc (Nat.le_refl _) _)) (OW7.out.reads.below ((Below.refl _ _).alloc (Nat.le_refl _) _))).mono ?_
  rintro e w8 ⟨rfl, hb8⟩
  clear q0 q1 q2 q3
  have B8 : Hid (Below w.heap.size w w8) := B7.out.trans ((Below.new hb8).mono B7.out.size)
  have X8 : Hid (Box w8 w.heap.size [.slice a1 D.S.length c1, .slice a2 D.C.length c2, .bool D.A, .slice a3 D.K.length c3]) := X7.out.below (Below.new hb8)
  have OW8 : Hid (OwnsD w8 w3.heap.size w4.heap.size (.agg #[.slice b1 R.S.length d1, .slice b2 R.C.length d2, .bool R.A, .slice b3 R.K.length d3]) R) := OW7.out.below (Below.new hb8)
  have W8 : Hid (Box w8 w4.heap.size [.slice b1 R.S.length d1, .slice b2 R.C.length d2, .bool R.A, .slice b3 R.K.length d3]) := W7.out.below (Below.new hb8)
  have OX8 : Hid (OwnsD w8 (w4.heap.size + 1) w5.heap.size (.agg #[.slice e1 D.S.length f1, .slice e2 D.C.length f2, .bool D.A, .slice e3 D.K.length f3]) D) := OX7.out.below (Below.new hb8)
  have XB8 : Hid (Box w8 w5.heap.size [.slice e1 D.S.length f1, .slice e2 D.C.length f2, .bool D.A, .slice e3 D.K.length f3]) := XB7.out.below (Below.new hb8)
  have XK8 : Hid (OwnsI w8 (w5.heap.size + 1) w6.heap.size (.slice x1 K.length x2) K) := XK7.out.below (Below.new hb8)
  have OG8 : Hid (OwnsD w8 w6.heap.size w7.heap.size (.agg #[.slice g1 R.S.length k1, .slice g2 R.C.length k2, .bool R.A, .slice g3 R.K.length k3]) R) := OG7.out.below (Below.new hb8)
  clear B7 X7 OW7 W7 OX7 XB7 XK7 OG7
  have GB8 : Hid (Box w8 w7.heap.size [.slice g1 R.S.length k1, .slice g2 R.C.length k2, .bool R.A, .slice g3 R.K.length k3]) := Box.below (Box.new rfl) hb8
  clear hb8
  obtain ⟨p0, _⟩ := X8.out 0 _ rfl
  obtain ⟨p1, _⟩ := X8.out 1 _ rfl
  obtain ⟨p2, _⟩ := X8.out 2 _ rfl
  obtain ⟨p3, _⟩ := X8.out 3 _ rfl
  obtain ⟨q0, _⟩ := XB8.out 0 _ rfl
  obtain ⟨q1, _⟩ := XB8.out 1 _ rfl
  obtain ⟨q2, _⟩ := XB8.out 2 _ rfl
  obtain ⟨q3, _⟩ := XB8.out 3 _ rfl
  go_wp2_with fail
  go_region_with (first | (go_at_call 63; refine (eqDisk _ _ D _ (small_len SM.out) OX9.out.reads RD9.out).mono ?_; rintro e w10 ⟨rfl, hb10⟩; have B10 : Hid (Below w.heap.size w w10) := B9.out.trans (hb10.mono B9.out.size); have X10 : Hid (Box w10 w.heap.size [.slice a1 D.S.length c1, .slice a2 D.C.length c2, .bool D.A, .slice a3 D.K.length c3]) := X9.out.below hb10; have OW10 : Hid (OwnsD w10 w3.heap.size w4.heap.size (.agg #[.slice b1 R.S.length d1, .slice b2 R.C.length d2, .bool R.A, .slice b3 R.K.length d3]) R) := OW9.out.below hb10; have W10 : Hid (Box w10 w4.heap.size [.slice b1 R.S.length d1, .slice b2 R.C.length d2, .bool R.A, .slice b3 R.K.length d3]) := W9.out.below hb10; have OX10 : Hid (OwnsD w10 (w4.heap.size + 1) w5.heap.size (.agg #[.slice e1 D.S.length f1, .slice e2 D.C.length f2, .bool D.A, .slice e3 D.K.length f3]) D) := OX9.out.below hb10; have XB10 : Hid (Box w10 w5.heap.size [.slice e1 D.S.length f1, .slice e2 D.C.length f2, .bool D.A, .slice e3 D.K.length f3]) := XB9.out.below hb10; have XK10 : Hid (OwnsI w10 (w5.heap.size + 1) w6.heap.size (.slice x1 K.length x2) K) := XK9.out.below hb10; have OG10 : Hid (OwnsD w10 w6.heap.size w7.heap.size (.agg #[.slice g1 R.S.length k1, .slice g2 R.C.length k2, .bool R.A, .slice g3 R.K.length k3]) R) := OG9.out.below hb10; have GB10 : Hid (Box w10 w7.heap.size [.slice g1 R.S.length k1, .slice g2 R.C.length k2, .bool R.A, .slice g3 R.K.length k3]) := GB9.out.below hb10; clear hb10) | (go_at_call 68; refine (toDisk _ D _ SM.out (HR.out.below B8.out.drew)).mono ?_; rintro e w9 ⟨v9, rfl, own9, hb9⟩; have B9 : Hid (Below w.heap.size w w9) := B8.out.drew.trans (hb9.mono B8.out.size); have X9 : Hid (Box w9 w.heap.size [.slice a1 D.S.length c1, .slice a2 D.C.length c2, .bool D.A, .slice a3 D.K.length c3]) := X8.out.drew.below hb9; have OW9 : Hid (OwnsD w9 w3.heap.size w4.heap.size (.agg #[.slice b1 R.S.length d1, .slice b2 R.C.length d2, .bool R.A, .slice b3 R.K.length d3]) R) := OW8.out.drew.below hb9; have W9 : Hid (Box w9 w4.heap.size [.slice b1 R.S.length d1, .slice b2 R.C.length d2, .bool R.A, .slice b3 R.K.length d3]) := W8.out.drew.below hb9; have OX9 : Hid (OwnsD w9 (w4.heap.size + 1) w5.heap.size (.agg #[.slice e1 D.S.length f1, .slice e2 D.C.length f2, .bool D.A, .slice e3 D.K.length f3]) D) := OX8.out.drew.below hb9; have XB9 : Hid (Box w9 w5.heap.size [.slice e1 D.S.length f1, .slice e2 D.C.length f2, .bool D.A, .slice e3 D.K.length f3]) := XB8.out.drew.below hb9; have XK9 : Hid (OwnsI w9 (w5.heap.size + 1) w6.heap.size (.slice x1 K.length x2) K) := XK8.out.drew.below hb9; have OG9 : Hid (OwnsD w9 w6.heap.size w7.heap.size (.agg #[.slice g1 R.S.length k1, .slice g2 R.C.length k2, .bool R.A, .slice g3 R.K.length k3]) R) := OG8.out.drew.below hb9; have GB9 : Hid (Box w9 w7.heap.size [.slice g1 R.S.length k1, .slice g2 R.C.length k2, .bool R.A, .slice g3 R.K.length k3]) := GB8.out.drew.below hb9; have RD9 : Hid (ReadsD w9 v9 D) := own9.reads; clear q0 q1 q2 q3; obtain ⟨q0, _⟩ := XB9.out 0 _ rfl; obtain ⟨q1, _⟩ := XB9.out 1 _ rfl; obtain ⟨q2, _⟩ := XB9.out 2 _ rfl; obtain ⟨q3, _⟩ := XB9.out 3 _ rfl; clear hb9 own9))
  all_goals clear p0 p1 p2 p3 q0 q1 q2 q3 B8 B9 X8 X9 OW8 OW9 W8 W9 OX8 OX9 XB8 XB9 XK8 XK9 OG8 OG9 GB8 GB9
  all_goals
    go_wp2_with fail
    refine (toIntS ak K.length ck K _ rfl hkl (HK.out.below B10.out)).mono ?_
    rintro e w11 ⟨u11, rfl, ro11, hb11⟩
    obtain ⟨z1, z2, rfl, zs11, _⟩ := own_src ro11
    have B11 : Hid (Below w.heap.size w w11) := B10.out.trans ((hb11).mono B10.out.size)
    have X11 : Hid (Box w11 w.heap.size [.slice a1 D.S.length c1, .slice a2 D.C.length c2, .bool D.A, .slice a3 D.K.length c3]) := X10.out.below (hb11)
    have OW11 : Hid (OwnsD w11 w3.heap.size w4.heap.size (.agg #[.slice b1 R.S.length d1, .slice b2 R.C.length d2, .bool R.A, .slice b3 R.K.length d3]) R) := OW10.out.below (hb11)
    have W11 : Hid (Box w11 w4.heap.size [.slice b1 R.S.length d1, .slice b2 R.C.length d2, .bool R.A, .slice b3 R.K.length d3]) := W10.out.below (hb11)
    have OX11 : Hid (OwnsD w11 (w4.heap.size + 1) w5.heap.size (.agg #[.slice e1 D.S.length f1, .slice e2 D.C.length f2, .bool D.A, .slice e3 D.K.length f3]) D) := OX10.out.below (hb11)
    have XB11 : Hid (Box w11 w5.heap.size [.slice e1 D.S.length f1, .slice e2 D.C.length f2, .bool D.A, .slice e3 D.K.length f3]) := XB10.out.below (hb11)
    have XK11 : Hid (OwnsI w11 (w5.heap.size + 1) w6.heap.size (.slice x1 K.length x2) K) := XK10.out.below (hb11)
    have OG11 : Hid (OwnsD w11 w6.heap.size w7.heap.size (.agg #[.slice g1 R.S.length k1, .slice g2 R.C.length k2, .bool R.A, .slice g3 R.K.length k3]) R) := OG10.out.below (hb11)
    have GB11 : Hid (Box w11 w7.heap.size [.slice g1 R.S.length k1, .slice g2 R.C.length k2, .bool R.A, .slice g3 R.K.length k3]) := GB10.out.below (hb11)
    clear B10 X10 OW10 W10 OX10 XB10 XK10 OG10 GB10
    have KZ : Hid (Src w11 z1 (cellsI K)) := zs11
    clear hb11 ro11 zs11
    go_wp2_with fail
    refine (eqIntS x1 z1 K.length x2 z2 K _ rfl (by omega) XK11.out.src KZ.out).mono ?_
    rintro e w12 ⟨rfl, hb12⟩
    have B12 : Hid (Below w.heap.size w w12) := B11.out.trans ((hb12).mono B11.out.size)
    have X12 : Hid (Box w12 w.heap.size [.slice a1 D.S.length c1, .slice a2 D.C.length c2, .bool D.A, .slice a3 D.K.length c3]) := X11.out.below (hb12)
    have OW12 : Hid (OwnsD w12 w3.heap.size w4.heap.size (.agg #[.slice b1 R.S.length d1, .slice b2 R.C.length d2, .bool R.A, .slice b3 R.K.length d3]) R) := OW11.out.below (hb12)
    have W12 : Hid (Box w12 w4.heap.size [.slice b1 R.S.length d1, .slice b2 R.C.length d2, .bool R.A, .slice b3 R.K.length d3]) := W11.out.below (hb12)
    have OX12 : Hid (OwnsD w12 (w4.heap.size + 1) w5.heap.size (.agg #[.slice e1 D.S.length f1, .slice e2 D.C.length f2, .bool D.A, .slice e3 D.K.length f3]) D) := OX11.out.below (hb12)
    have XB12 : Hid (Box w12 w5.heap.size [.slice e1 D.S.length f1, .slice e2 D.C.length f2, .bool D.A, .slice e3 D.K.length f3]) := XB11.out.below (hb12)
    have XK12 : Hid (OwnsI w12 (w5.heap.size + 1) w6.heap.size (.slice x1 K.length x2) K) := XK11.out.below (hb12)
    have OG12 : Hid (OwnsD w12 w6.heap.size w7.heap.size (.agg #[.slice g1 R.S.length k1, .slice g2 R.C.length k2, .bool R.A, .slice g3 R.K.length k3]) R) := OG11.out.below (hb12)
    have GB12 : Hid (Box w12 w7.heap.size [.slice g1 R.S.length k1, .slice g2 R.C.length k2, .bool R.A, .slice g3 R.K.length k3]) := GB11.out.below (hb12)
    clear B11 X11 OW11 W11 OX11 XB11 XK11 OG11 GB11
    clear hb12 KZ
    obtain ⟨q0, _⟩ := XB12.out 0 _ rfl
    obtain ⟨q1, _⟩ := XB12.out 1 _ rfl
    obtain ⟨q2, _⟩ := XB12.out 2 _ rfl
    obtain ⟨q3, _⟩ := XB12.out 3 _ rfl
    go_wp2_with fail
    refine (markDisk _ D (w4.heap.size + 1) w5.heap.size 1 _ (small_len2 SM.out) (by omega) (by omega) (by have := GB12.out 0 _ rfl; have := World.block_lt_of_cell? _ _ this.1; dsimp only at this; have := Z1.out; have := Z2.out; have := Z3.out; have := Z4.out; have := Z5.out; have := Z6.out; have := Z7.out; omega) OX12.out).mono ?_
    rintro e w13 ⟨rfl, T13, _⟩
    clear q0 q1 q2 q3
    have B13 : Hid (Below w.heap.size w w13) := Below.turned B12.out T13 (Nat.le_refl _) (by have := Z1.out; have := Z2.out; have := Z3.out; have := Z4.out; have := Z5.out; have := Z6.out; have := Z7.out; omega)
    have X13 : Hid (Box w13 w.heap.size [.slice a1 D.S.length c1, .slice a2 D.C.length c2, .bool D.A, .slice a3 D.K.length c3]) := X12.out.turned T13 (by have := Z1.out; have := Z2.out; have := Z3.out; have := Z4.out; have := Z5.out; have := Z6.out; have := Z7.out; omega)
    have OW13 : Hid (OwnsD w13 w3.heap.size w4.heap.size (.agg #[.slice b1 R.S.length d1, .slice b2 R.C.length d2, .bool R.A, .slice b3 R.K.length d3]) R) := OW12.out.turned T13 (by have := Z1.out; have := Z2.out; have := Z3.out; have := Z4.out; have := Z5.out; have := Z6.out; have := Z7.out; omega)
    have W13 : Hid (Box w13 w4.heap.size [.slice b1 R.S.length d1, .slice b2 R.C.length d2, .bool R.A, .slice b3 R.K.length d3]) := W12.out.turned T13 (by have := Z1.out; have := Z2.out; have := Z3.out; have := Z4.out; have := Z5.out; have := Z6.out; have := Z7.out; omega)
    have XK13 : Hid (OwnsI w13 (w5.heap.size + 1) w6.heap.size (.slice x1 K.length x2) K) := XK12.out.turned T13 (by have := Z1.out; have := Z2.out; have := Z3.out; have := Z4.out; have := Z5.out; have := Z6.out; have := Z7.out; omega)
    have OG13 : Hid (OwnsD w13 w6.heap.size w7.heap.size (.agg #[.slice g1 R.S.length k1, .slice g2 R.C.length k2, .bool R.A, .slice g3 R.K.length k3]) R) := OG12.out.turned T13 (by have := Z1.out; have := Z2.out; have := Z3.out; have := Z4.out; have := Z5.out; have := Z6.out; have := Z7.out; omega)
    have GB13 : Hid (Box w13 w7.heap.size [.slice g1 R.S.length k1, .slice g2 R.C.length k2, .bool R.A, .slice g3 R.K.length k3]) := GB12.out.turned T13 (by have := Z1.out; have := Z2.out; have := Z3.out; have := Z4.out; have := Z5.out; have := Z6.out; have := Z7.out; omega)
    clear B12 X12 OW12 W12 XK12 OG12 GB12
    clear T13 OX12 XB12
    obtain ⟨E0, hE0⟩ : ∃ E, endD D 1 = E := ⟨_, rfl⟩
    have hE1 : 0 < E0 ∧ E0 ≤ 8388608 := by rw [← hE0]; unfold endD; have h1 := SM.out.1.1; have h2 := SM.out.2.1.1; have h3 := SM.out.2.2; omega
    rw [hE0]
    have HE1 : Hid (0 < E0 ∧ E0 ≤ 8388608) := hE1
    clear hE0 hE1
    go_wp2_with fail
    refine (markIntS _ K.length E0 (w5.heap.size + 1) (cellsI K) _ hkl HE1.out.1 HE1.out.2 XK13.out.1).mono ?_
    rintro e w14 ⟨rfl, G14, _⟩
    have T14 : Turned (w5.heap.size + 1) w6.heap.size w13 w14 := Turned.of_grown G14 (fun k e => ⟨(XK13.out.1.lt k e).1, XK13.out.2 k e⟩)
    have B14 : Hid (Below w.heap.size w w14) := Below.turned B13.out T14 (Nat.le_refl _) (by have := Z1.out; have := Z2.out; have := Z3.out; have := Z4.out; have := Z5.out; have := Z6.out; have := Z7.out; omega)
    have X14 : Hid (Box w14 w.heap.size [.slice a1 D.S.length c1, .slice a2 D.C.length c2, .bool D.A, .slice a3 D.K.length c3]) := X13.out.turned T14 (by have := Z1.out; have := Z2.out; have := Z3.out; have := Z4.out; have := Z5.out; have := Z6.out; have := Z7.out; omega)
    have OW14 : Hid (OwnsD w14 w3.heap.size w4.heap.size (.agg #[.slice b1 R.S.length d1, .slice b2 R.C.length d2, .bool R.A, .slice b3 R.K.length d3]) R) := OW13.out.turned T14 (by have := Z1.out; have := Z2.out; have := Z3.out; have := Z4.out; have := Z5.out; have := Z6.out; have := Z7.out; omega)
    have W14 : Hid (Box w14 w4.heap.size [.slice b1 R.S.length d1, .slice b2 R.C.length d2, .bool R.A, .slice b3 R.K.length d3]) := W13.out.turned T14 (by have := Z1.out; have := Z2.out; have := Z3.out; have := Z4.out; have := Z5.out; have := Z6.out; have := Z7.out; omega)
    have OG14 : Hid (OwnsD w14 w6.heap.size w7.heap.size (.agg #[.slice g1 R.S.length k1, .slice g2 R.C.length k2, .bool R.A, .slice g3 R.K.length k3]) R) := OG13.out.turned T14 (by have := Z1.out; have := Z2.out; have := Z3.out; have := Z4.out; have := Z5.out; have := Z6.out; have := Z7.out; omega)
    have GB14 : Hid (Box w14 w7.heap.size [.slice g1 R.S.length k1, .slice g2 R.C.length k2, .bool R.A, .slice g3 R.K.length k3]) := GB13.out.turned T14 (by have := Z1.out; have := Z2.out; have := Z3.out; have := Z4.out; have := Z5.out; have := Z6.out; have := Z7.out; omega)
    clear B13 X13 OW13 W13 OG13 GB13
    clear T14 G14 XK13
    have hk1 : decide (((E0 + K.length : Nat) : Int) < 0) = false := by simp; omega
    obtain ⟨q0, _⟩ := GB14.out 0 _ rfl
    obtain ⟨q1, _⟩ := GB14.out 1 _ rfl
    obtain ⟨q2, _⟩ := GB14.out 2 _ rfl
    obtain ⟨q3, _⟩ := GB14.out 3 _ rfl
    obtain ⟨p0, _⟩ := W14.out 0 _ rfl
    obtain ⟨p1, _⟩ := W14.out 1 _ rfl
    obtain ⟨p2, _⟩ := W14.out 2 _ rfl
    obtain ⟨p3, _⟩ := W14.out 3 _ rfl
    go_wp2_with fail
    refine (eqDisk _ _ R _ (small_len SMR.out) OG14.out.reads OW14.out.reads).mono ?_
    rintro e w15 ⟨rfl, hb15⟩
    clear p0 p1 p2 p3 q0 q1 q2 q3
    have B15 : Hid (Below w.heap.size w w15) := B14.out.trans ((hb15).mono B14.out.size)
    have X15 : Hid (Box w15 w.heap.size [.slice a1 D.S.length c1, .slice a2 D.C.length c2, .bool D.A, .slice a3 D.K.length c3]) := X14.out.below (hb15)
    have OW15 : Hid (OwnsD w15 w3.heap.size w4.heap.size (.agg #[.slice b1 R.S.length d1, .slice b2 R.C.length d2, .bool R.A, .slice b3 R.K.length d3]) R) := OW14.out.below (hb15)
    have W15 : Hid (Box w15 w4.heap.size [.slice b1 R.S.length d1, .slice b2 R.C.length d2, .bool R.A, .slice b3 R.K.length d3]) := W14.out.below (hb15)
    have OG15 : Hid (OwnsD w15 w6.heap.size w7.heap.size (.agg #[.slice g1 R.S.length k1, .slice g2 R.C.length k2, .bool R.A, .slice g3 R.K.length k3]) R) := OG14.out.below (hb15)
    have GB15 : Hid (Box w15 w7.heap.size [.slice g1 R.S.length k1, .slice g2 R.C.length k2, .bool R.A, .slice g3 R.K.length k3]) := GB14.out.below (hb15)
    clear B14 X14 OW14 W14 OG14 GB14
    clear hb15 hk1
    obtain ⟨q0, _⟩ := GB15.out 0 _ rfl
    obtain ⟨q1, _⟩ := GB15.out 1 _ rfl
    obtain ⟨q2, _⟩ := GB15.out 2 _ rfl
    obtain ⟨q3, _⟩ := GB15.out 3 _ rfl
    go_wp2_with fail
    refine (markDisk _ R w6.heap.size w7.heap.size 1 _ (small_len2 SMR.out) (by omega) (by omega) (by have := GB15.out 0 _ rfl; have := World.block_lt_of_cell? _ _ this.1; dsimp only at this; omega) OG15.out).mono ?_
    rintro e w16 ⟨rfl, T16, m16⟩
    clear q0 q1 q2 q3
    have B16 : Hid (Below w.heap.size w w16) := Below.turned B15.out T16 (Nat.le_refl _) (by have := Z1.out; have := Z2.out; have := Z3.out; have := Z4.out; have := Z5.out; have := Z6.out; have := Z7.out; omega)
    have X16 : Hid (Box w16 w.heap.size [.slice a1 D.S.length c1, .slice a2 D.C.length c2, .bool D.A, .slice a3 D.K.length c3]) := X15.out.turned T16 (by have := Z1.out; have := Z2.out; have := Z3.out; have := Z4.out; have := Z5.out; have := Z6.out; have := Z7.out; omega)
    have OW16 : Hid (OwnsD w16 w3.heap.size w4.heap.size (.agg #[.slice b1 R.S.length d1, .slice b2 R.C.length d2, .bool R.A, .slice b3 R.K.length d3]) R) := OW15.out.turned T16 (by have := Z1.out; have := Z2.out; have := Z3.out; have := Z4.out; have := Z5.out; have := Z6.out; have := Z7.out; omega)
    have W16 : Hid (Box w16 w4.heap.size [.slice b1 R.S.length d1, .slice b2 R.C.length d2, .bool R.A, .slice b3 R.K.length d3]) := W15.out.turned T16 (by have := Z1.out; have := Z2.out; have := Z3.out; have := Z4.out; have := Z5.out; have := Z6.out; have := Z7.out; omega)
    have GB16 : Hid (Box w16 w7.heap.size [.slice g1 R.S.length k1, .slice g2 R.C.length k2, .bool R.A, .slice g3 R.K.length k3]) := GB15.out.turned T16 (by have := Z1.out; have := Z2.out; have := Z3.out; have := Z4.out; have := Z5.out; have := Z6.out; have := Z7.out; omega)
    clear B15 X15 OW15 W15 GB15
    clear OG15
    have OG16 : Hid (OwnsD w16 w6.heap.size w7.heap.size (.agg #[.slice g1 R.S.length k1, .slice g2 R.C.length k2, .bool R.A, .slice g3 R.K.length k3]) (markedD R 1)) := m16
    clear T16 m16
    obtain ⟨E, hE⟩ : ∃ E, endD R 1 = E := ⟨_, rfl⟩
    rw [hE]
    have HE : Hid (endD R 1 = E) := hE
    clear hE
    have hk2 : decide (((E : Nat) : Int) < 0) = false := by simp
    have hk3 : (((E : Nat) : Int) != ((E : Nat) : Int)) = false := by simp
    obtain ⟨q0, _⟩ := GB16.out 0 _ rfl
    obtain ⟨q1, _⟩ := GB16.out 1 _ rfl
    obtain ⟨q2, _⟩ := GB16.out 2 _ rfl
    obtain ⟨q3, _⟩ := GB16.out 3 _ rfl
    go_wp2_with fail
    refine (heldDisk _ R 1 _ (small_len2 SMR.out) (by omega) (by omega) OG16.out.reads).mono ?_
    rintro e w17 ⟨rfl, hb17⟩
    rw [HE.out]
    clear q0 q1 q2 q3
    have B17 : Hid (Below w.heap.size w w17) := B16.out.trans ((hb17).mono B16.out.size)
    have X17 : Hid (Box w17 w.heap.size [.slice a1 D.S.length c1, .slice a2 D.C.length c2, .bool D.A, .slice a3 D.K.length c3]) := X16.out.below (hb17)
    have OW17 : Hid (OwnsD w17 w3.heap.size w4.heap.size (.agg #[.slice b1 R.S.length d1, .slice b2 R.C.length d2, .bool R.A, .slice b3 R.K.length d3]) R) := OW16.out.below (hb17)
    have W17 : Hid (Box w17 w4.heap.size [.slice b1 R.S.length d1, .slice b2 R.C.length d2, .bool R.A, .slice b3 R.K.length d3]) := W16.out.below (hb17)
    have OG17 : Hid (OwnsD w17 w6.heap.size w7.heap.size (.agg #[.slice g1 R.S.length k1, .slice g2 R.C.length k2, .bool R.A, .slice g3 R.K.length k3]) (markedD R 1)) := OG16.out.below (hb17)
    have GB17 : Hid (Box w17 w7.heap.size [.slice g1 R.S.length k1, .slice g2 R.C.length k2, .bool R.A, .slice g3 R.K.length k3]) := GB16.out.below (hb17)
    clear B16 X16 OW16 W16 OG16 GB16
    clear hb17
    obtain ⟨p0, _⟩ := X17.out 0 _ rfl
    obtain ⟨p1, _⟩ := X17.out 1 _ rfl
    obtain ⟨p2, _⟩ := X17.out 2 _ rfl
    obtain ⟨p3, _⟩ := X17.out 3 _ rfl
    go_wp2_with fail
    refine (toDisk _ D _ SM.out (HR.out.below B17.out)).mono ?_
    rintro e w18 ⟨v18, rfl, own18, hb18⟩
    clear p0 p1 p2 p3
    have B18 : Hid (Below w.heap.size w w18) := B17.out.trans ((hb18).mono B17.out.size)
    have X18 : Hid (Box w18 w.heap.size [.slice a1 D.S.length c1, .slice a2 D.C.length c2, .bool D.A, .slice a3 D.K.length c3]) := X17.out.below (hb18)
    have OW18 : Hid (OwnsD w18 w3.heap.size w4.heap.size (.agg #[.slice b1 R.S.length d1, .slice b2 R.C.length d2, .bool R.A, .slice b3 R.K.length d3]) R) := OW17.out.below (hb18)
    have W18 : Hid (Box w18 w4.heap.size [.slice b1 R.S.length d1, .slice b2 R.C.length d2, .bool R.A, .slice b3 R.K.length d3]) := W17.out.below (hb18)
    have OG18 : Hid (OwnsD w18 w6.heap.size w7.heap.size (.agg #[.slice g1 R.S.length k1, .slice g2 R.C.length k2, .bool R.A, .slice g3 R.K.length k3]) (markedD R 1)) := OG17.out.below (hb18)
    have GB18 : Hid (Box w18 w7.heap.size [.slice g1 R.S.length k1, .slice g2 R.C.length k2, .bool R.A, .slice g3 R.K.length k3]) := GB17.out.below (hb18)
    clear B17 X17 OW17 W17 OG17 GB17
    have O18 : Hid (ReadsD w18 v18 D) := own18.reads
    clear hb18 own18
    go_wp2_with fail
    refine (toIntS ak K.length ck K _ rfl hkl (HK.out.below B18.out)).mono ?_
    rintro e w19 ⟨u19, rfl, ro19, hb19⟩
    obtain ⟨z1, z2, rfl, zs19, _⟩ := own_src ro19
    have B19 : Hid (Below w.heap.size w w19) := B18.out.trans ((hb19).mono B18.out.size)
    have X19 : Hid (Box w19 w.heap.size [.slice a1 D.S.length c1, .slice a2 D.C.length c2, .bool D.A, .slice a3 D.K.length c3]) := X18.out.below (hb19)
    have OW19 : Hid (OwnsD w19 w3.heap.size w4.heap.size (.agg #[.slice b1 R.S.length d1, .slice b2 R.C.length d2, .bool R.A, .slice b3 R.K.length d3]) R) := OW18.out.below (hb19)
    have W19 : Hid (Box w19 w4.heap.size [.slice b1 R.S.length d1, .slice b2 R.C.length d2, .bool R.A, .slice b3 R.K.length d3]) := W18.out.below (hb19)
    have OG19 : Hid (OwnsD w19 w6.heap.size w7.heap.size (.agg #[.slice g1 R.S.length k1, .slice g2 R.C.length k2, .bool R.A, .slice g3 R.K.length k3]) (markedD R 1)) := OG18.out.below (hb19)
    have GB19 : Hid (Box w19 w7.heap.size [.slice g1 R.S.length k1, .slice g2 R.C.length k2, .bool R.A, .slice g3 R.K.length k3]) := GB18.out.below (hb19)
    clear B18 X18 OW18 W18 OG18 GB18
    have O19 : Hid (ReadsD w19 v18 D) := O18.out.below hb19
    have K19 : Hid (Src w19 z1 (cellsI K)) := zs19
    clear hb19 ro19 zs19 O18
    go_wp2_with fail
    refine (implDiskCrash _ D z1 K.length z2 K _ SM.out rfl hkl K19.out O19.out).mono ?_
    rintro e w20 ⟨v20, R', c', rfl, heq, own20, hb20⟩
    obtain ⟨rfl, rfl⟩ : R = R' ∧ c = c' := by have h2 := HEQ.out.symm.trans heq; simpa using h2
    obtain ⟨m1, n1, m2, n2, m3, n3, rfl⟩ := own20.lit
    have B20 : Hid (Below w.heap.size w w20) := B19.out.trans ((hb20).mono B19.out.size)
    have X20 : Hid (Box w20 w.heap.size [.slice a1 D.S.length c1, .slice a2 D.C.length c2, .bool D.A, .slice a3 D.K.length c3]) := X19.out.below (hb20)
    have OW20 : Hid (OwnsD w20 w3.heap.size w4.heap.size (.agg #[.slice b1 R.S.length d1, .slice b2 R.C.length d2, .bool R.A, .slice b3 R.K.length d3]) R) := OW19.out.below (hb20)
    have W20 : Hid (Box w20 w4.heap.size [.slice b1 R.S.length d1, .slice b2 R.C.length d2, .bool R.A, .slice b3 R.K.length d3]) := W19.out.below (hb20)
    have OG20 : Hid (OwnsD w20 w6.heap.size w7.heap.size (.agg #[.slice g1 R.S.length k1, .slice g2 R.C.length k2, .bool R.A, .slice g3 R.K.length k3]) (markedD R 1)) := OG19.out.below (hb20)
    have GB20 : Hid (Box w20 w7.heap.size [.slice g1 R.S.length k1, .slice g2 R.C.length k2, .bool R.A, .slice g3 R.K.length k3]) := GB19.out.below (hb20)
    clear B19 X19 OW19 W19 OG19 GB19
    have OH : Hid (ReadsD w20 (.agg #[.slice m1 R.S.length n1, .slice m2 R.C.length n2, .bool R.A, .slice m3 R.K.length n3]) R) := own20.reads
    clear heq hb20 own20 O19 K19
    obtain ⟨q0, _⟩ := (W20.out.old (.cells #[.slice m1 R.S.length n1, .slice m2 R.C.length n2, .bool R.A, .slice m3 R.K.length n3] 46)) 0 _ rfl
    obtain ⟨q1, _⟩ := (W20.out.old (.cells #[.slice m1 R.S.length n1, .slice m2 R.C.length n2, .bool R.A, .slice m3 R.K.length n3] 46)) 1 _ rfl
    obtain ⟨q2, _⟩ := (W20.out.old (.cells #[.slice m1 R.S.length n1, .slice m2 R.C.length n2, .bool R.A, .slice m3 R.K.length n3] 46)) 2 _ rfl
    obtain ⟨q3, _⟩ := (W20.out.old (.cells #[.slice m1 R.S.length n1, .slice m2 R.C.length n2, .bool R.A, .slice m3 R.K.length n3] 46)) 3 _ rfl
    go_wp2_with fail
    refine (eqDisk _ _ R _ (small_len SMR.out) (OH.out.below ((Below.refl _ _).alloc (Nat.le_refl _) _)) (OW20.out.reads.below ((Below.refl _ _).alloc (Nat.le_refl _) _))).mono ?_
    rintro e w21 ⟨rfl, hb21⟩
    clear q0 q1 q2 q3
    have B21 : Hid (Below w.heap.size w w21) := B20.out.trans ((Below.new hb21).mono B20.out.size)
    have X21 : Hid (Box w21 w.heap.size [.slice a1 D.S.length c1, .slice a2 D.C.length c2, .bool D.A, .slice a3 D.K.length c3]) := X20.out.below (Below.new hb21)
    have OW21 : Hid (OwnsD w21 w3.heap.size w4.heap.size (.agg #[.slice b1 R.S.length d1, .slice b2 R.C.length d2, .bool R.A, .slice b3 R.K.length d3]) R) := OW20.out.below (Below.new hb21)
    have W21 : Hid (Box w21 w4.heap.size [.slice b1 R.S.length d1, .slice b2 R.C.length d2, .bool R.A, .slice b3 R.K.length d3]) := W20.out.below (Below.new hb21)
    have OG21 : Hid (OwnsD w21 w6.heap.size w7.heap.size (.agg #[.slice g1 R.S.length k1, .slice g2 R.C.length k2, .bool R.A, .slice g3 R.K.length k3]) (markedD R 1)) := OG20.out.below (Below.new hb21)
    have GB21 : Hid (Box w21 w7.heap.size [.slice g1 R.S.length k1, .slice g2 R.C.length k2, .bool R.A, .slice g3 R.K.length k3]) := GB20.out.below (Below.new hb21)
    clear B20 X20 OW20 W20 OG20 GB20
    clear hb21 OH
    obtain ⟨q0, _⟩ := GB21.out 0 _ rfl
    obtain ⟨q1, _⟩ := GB21.out 1 _ rfl
    obtain ⟨q2, _⟩ := GB21.out 2 _ rfl
    obtain ⟨q3, _⟩ := GB21.out 3 _ rfl
    go_wp2_with fail
    refine (heldDisk _ R 1 _ (small_len2 SMR.out) (by omega) (by omega) OG21.out.reads).mono ?_
    rintro e w22 ⟨rfl, hb22⟩
    rw [HE.out]
    clear q0 q1 q2 q3
    have B22 : Hid (Below w.heap.size w w22) := B21.out.trans ((hb22).mono B21.out.size)
    have X22 : Hid (Box w22 w.heap.size [.slice a1 D.S.length c1, .slice a2 D.C.length c2, .bool D.A, .slice a3 D.K.length c3]) := X21.out.below (hb22)
    have OW22 : Hid (OwnsD w22 w3.heap.size w4.heap.size (.agg #[.slice b1 R.S.length d1, .slice b2 R.C.length d2, .bool R.A, .slice b3 R.K.length d3]) R) := OW21.out.below (hb22)
    have W22 : Hid (Box w22 w4.heap.size [.slice b1 R.S.length d1, .slice b2 R.C.length d2, .bool R.A, .slice b3 R.K.length d3]) := W21.out.below (hb22)
    have OG22 : Hid (OwnsD w22 w6.heap.size w7.heap.size (.agg #[.slice g1 R.S.length k1, .slice g2 R.C.length k2, .bool R.A, .slice g3 R.K.length k3]) (markedD R 1)) := OG21.out.below (hb22)
    have GB22 : Hid (Box w22 w7.heap.size [.slice g1 R.S.length k1, .slice g2 R.C.length k2, .bool R.A, .slice g3 R.K.length k3]) := GB21.out.below (hb22)
    clear B21 X21 OW21 W21 OG21 GB21
    clear hb22
    go_wp2_with fail
    go_ret
    exact ⟨rfl, B22.out⟩
end Go.Proofs.Ytnmeafhfchkemaa.fnExactDiskCrash
