/-
  The walk of the law FnExactDiskPending.
  By an AI agent.
-/
import Derived.Test.YtnmeafhfchkemaaDpd
namespace Go.Proofs.Ytnmeafhfchkemaa.fnExactDiskPending
open Go.ChangeShapes Go.WideShapes Go.ChangeAt Go.WideMaps Go.WideElems Go.RowKit Go.Deep
open Go.ChangeMaps (open_string shut_string)
set_option linter.unusedVariables false

set_option maxHeartbeats 4000000 in
theorem walk (v : Value) (D : DM) (w : World) (h : ReadsD w v D) (hm : D.S.length ≤ maxLen ∧ (∀ x ∈ D.S, x.size ≤ maxLen) ∧ D.C.length ≤ maxLen ∧ (∀ x ∈ D.C, x.2.size ≤ maxLen) ∧ D.K.length ≤ maxLen) :
    Calls Try.prog 16 #[v] w fun e w' => e = .returned (.bool true) ∧ Below w.heap.size w w' := by
  have HM : Hid (D.S.length ≤ maxLen ∧ (∀ x ∈ D.S, x.size ≤ maxLen) ∧ D.C.length ≤ maxLen ∧ (∀ x ∈ D.C, x.2.size ≤ maxLen) ∧ D.K.length ≤ maxLen) := hm
  obtain ⟨a1, c1, a2, c2, a3, c3, rfl, s1, s2, s3⟩ := h
  have HR : Hid (ReadsD w (.agg #[.slice a1 D.S.length c1, .slice a2 D.C.length c2, .bool D.A, .slice a3 D.K.length c3]) D) := ⟨a1, c1, a2, c2, a3, c3, rfl, s1, s2, s3⟩
  clear hm s1 s2 s3
  go_enter Try.func16, Try.ntmps16
  go_wp2_with fail
  refine (szDisk _ D _ HM.out (HR.out.below ((Below.refl _ _).alloc (Nat.le_refl _) _))).mono ?_
  rintro e w1 ⟨r, rfl, hr, hb1⟩
  have B1 : Hid (Below w.heap.size w w1) := Below.new hb1
  have X1 : Hid (Box w1 w.heap.size [.slice a1 D.S.length c1, .slice a2 D.C.length c2, .bool D.A, .slice a3 D.K.length c3]) := Box.below (Box.new rfl) hb1
  have Z1 : Hid (w.heap.size + 1 ≤ w1.heap.size) := size_new hb1
  clear hb1
  by_cases hneg : r < 0
  · clear hr
    go_wp2_with fail
    go_ret
    exact ⟨rfl, B1.out⟩
  have SM : Hid (smallD D) := hr (by omega)
  clear hr
  obtain ⟨p0, _⟩ := X1.out 0 _ rfl
  obtain ⟨p1, _⟩ := X1.out 1 _ rfl
  obtain ⟨p2, _⟩ := X1.out 2 _ rfl
  obtain ⟨p3, _⟩ := X1.out 3 _ rfl
  go_wp2_with fail
  refine (toDisk _ D _ SM.out (HR.out.below B1.out)).mono ?_
  rintro e w2 ⟨v2, rfl, own2, hb2⟩
  clear p0 p1 p2 p3
  have B2 : Hid (Below w.heap.size w w2) := B1.out.trans ((hb2).mono B1.out.size)
  have X2 : Hid (Box w2 w.heap.size [.slice a1 D.S.length c1, .slice a2 D.C.length c2, .bool D.A, .slice a3 D.K.length c3]) := X1.out.below (hb2)
  clear B1 X1
  have Z2 : Hid (w1.heap.size ≤ w2.heap.size) := hb2.size
  have O2 : Hid (ReadsD w2 v2 D) := own2.reads
  clear hb2 own2
  go_wp2_with fail
  refine (specDiskPending _ D _ SM.out O2.out).mono ?_
  rintro e w3 ⟨u3, L, c, rfl, heq, own3, hb3⟩
  obtain ⟨b1, d1, rfl⟩ := own3.lit
  have B3 : Hid (Below w.heap.size w w3) := B2.out.trans ((hb3).mono B2.out.size)
  have X3 : Hid (Box w3 w.heap.size [.slice a1 D.S.length c1, .slice a2 D.C.length c2, .bool D.A, .slice a3 D.K.length c3]) := X2.out.below (hb3)
  clear B2 X2
  have OW3 : Hid (OwnsI w3 w2.heap.size w3.heap.size (.slice b1 L.length d1) L) := own3
  have Z3 : Hid (w2.heap.size ≤ w3.heap.size) := hb3.size
  have HEQ : Hid (dpend D = (L, c)) := heq
  have hL : L.length ≤ 1048576 := dp_small heq
  clear hb3 own3 O2 heq
  obtain ⟨p0, _⟩ := X3.out 0 _ rfl
  obtain ⟨p1, _⟩ := X3.out 1 _ rfl
  obtain ⟨p2, _⟩ := X3.out 2 _ rfl
  obtain ⟨p3, _⟩ := X3.out 3 _ rfl
  go_wp2_with fail
  refine (toDisk _ D _ SM.out (HR.out.below B3.out)).mono ?_
  rintro e w4 ⟨v4, rfl, own4, hb4⟩
  obtain ⟨e1, f1, e2, f2, e3, f3, rfl⟩ := own4.lit
  clear p0 p1 p2 p3
  have B4 : Hid (Below w.heap.size w w4) := B3.out.trans ((hb4).mono B3.out.size)
  have X4 : Hid (Box w4 w.heap.size [.slice a1 D.S.length c1, .slice a2 D.C.length c2, .bool D.A, .slice a3 D.K.length c3]) := X3.out.below (hb4)
  have OW4 : Hid (OwnsI w4 w2.heap.size w3.heap.size (.slice b1 L.length d1) L) := OW3.out.below (hb4)
  clear B3 X3 OW3
  have Z4 : Hid (w3.heap.size ≤ w4.heap.size) := hb4.size
  have OX4 : Hid (OwnsD w4 w3.heap.size w4.heap.size (.agg #[.slice e1 D.S.length f1, .slice e2 D.C.length f2, .bool D.A, .slice e3 D.K.length f3]) D) := own4
  clear hb4 own4
  go_wp2_with fail
  refine (implDiskPending _ D _ SM.out (OX4.out.reads.below ((Below.refl _ _).alloc (Nat.le_refl _) _))).mono ?_
  rintro e w5 ⟨u5, L', c', rfl, heq, own5, hb5⟩
  obtain ⟨rfl, rfl⟩ : L = L' ∧ c = c' := by have h2 := HEQ.out.symm.trans heq; simpa using h2
  clear heq
  obtain ⟨g1, k1, rfl⟩ := own5.lit
  have B5 : Hid (Below w.heap.size w w5) := B4.out.trans ((Below.new hb5).mono B4.out.size)
  have X5 : Hid (Box w5 w.heap.size [.slice a1 D.S.length c1, .slice a2 D.C.length c2, .bool D.A, .slice a3 D.K.length c3]) := X4.out.below (Below.new hb5)
  have OW5 : Hid (OwnsI w5 w2.heap.size w3.heap.size (.slice b1 L.length d1) L) := OW4.out.below (Below.new hb5)
  have OX5 : Hid (OwnsD w5 w3.heap.size w4.heap.size (.agg #[.slice e1 D.S.length f1, .slice e2 D.C.length f2, .bool D.A, .slice e3 D.K.length f3]) D) := OX4.out.below (Below.new hb5)
  clear B4 X4 OW4 OX4
  have XB5 : Hid (Box w5 w4.heap.size [.slice e1 D.S.length f1, .slice e2 D.C.length f2, .bool D.A, .slice e3 D.K.length f3]) := Box.below (Box.new rfl) hb5
  have Z5 : Hid (w4.heap.size + 1 ≤ w5.heap.size) := size_new hb5
  have OG5 : Hid (OwnsI w5 (w4.heap.size + 1) w5.heap.size (.slice g1 L.length k1) L) := own5.mono (by simp) (Nat.le_refl _)
  clear hb5 own5
  have hcc : (c != c) = false := by simp
  go_wp2_with fail
  refine (eqIntS g1 b1 L.length k1 d1 L _ rfl (by omega) OG5.out.src OW5.out.src).mono ?_
  rintro e w6 ⟨rfl, hb6⟩
  have B6 : Hid (Below w.heap.size w w6) := B5.out.trans ((hb6).mono B5.out.size)
  have X6 : Hid (Box w6 w.heap.size [.slice a1 D.S.length c1, .slice a2 D.C.length c2, .bool D.A, .slice a3 D.K.length c3]) := X5.out.below (hb6)
  have OW6 : Hid (OwnsI w6 w2.heap.size w3.heap.size (.slice b1 L.length d1) L) := OW5.out.below (hb6)
  have OX6 : Hid (OwnsD w6 w3.heap.size w4.heap.size (.agg #[.slice e1 D.S.length f1, .slice e2 D.C.length f2, .bool D.A, .slice e3 D.K.length f3]) D) := OX5.out.below (hb6)
  have XB6 : Hid (Box w6 w4.heap.size [.slice e1 D.S.length f1, .slice e2 D.C.length f2, .bool D.A, .slice e3 D.K.length f3]) := XB5.out.below (hb6)
  have OG6 : Hid (OwnsI w6 (w4.heap.size + 1) w5.heap.size (.slice g1 L.length k1) L) := OG5.out.below (hb6)
  clear B5 X5 OW5 OX5 XB5 OG5
  have Z6 : Hid (w5.heap.size ≤ w6.heap.size) := hb6.size
  clear hb6
  obtain ⟨p0, _⟩ := X6.out 0 _ rfl
  obtain ⟨p1, _⟩ := X6.out 1 _ rfl
  obtain ⟨p2, _⟩ := X6.out 2 _ rfl
  obtain ⟨p3, _⟩ := X6.out 3 _ rfl
  obtain ⟨q0, _⟩ := XB6.out 0 _ rfl
  obtain ⟨q1, _⟩ := XB6.out 1 _ rfl
  obtain ⟨q2, _⟩ := XB6.out 2 _ rfl
  obtain ⟨q3, _⟩ := XB6.out 3 _ rfl
  go_wp2_with fail
  go_region_with (first | (go_at_call 63; refine (eqDisk _ _ D _ (small_len SM.out) OX7.out.reads RD7.out).mono ?_; rintro e w8 ⟨rfl, hb8⟩; have B8 : Hid (Below w.heap.size w w8) := B7.out.trans (hb8.mono B7.out.size); have X8 : Hid (Box w8 w.heap.size [.slice a1 D.S.length c1, .slice a2 D.C.length c2, .bool D.A, .slice a3 D.K.length c3]) := X7.out.below hb8; have OW8 : Hid (OwnsI w8 w2.heap.size w3.heap.size (.slice b1 L.length d1) L) := OW7.out.below hb8; have OX8 : Hid (OwnsD w8 w3.heap.size w4.heap.size (.agg #[.slice e1 D.S.length f1, .slice e2 D.C.length f2, .bool D.A, .slice e3 D.K.length f3]) D) := OX7.out.below hb8; have XB8 : Hid (Box w8 w4.heap.size [.slice e1 D.S.length f1, .slice e2 D.C.length f2, .bool D.A, .slice e3 D.K.length f3]) := XB7.out.below hb8; have OG8 : Hid (OwnsI w8 (w4.heap.size + 1) w5.heap.size (.slice g1 L.length k1) L) := OG7.out.below hb8; clear hb8) | (go_at_call 68; refine (toDisk _ D _ SM.out (HR.out.below B6.out.drew)).mono ?_; rintro e w7 ⟨v7, rfl, own7, hb7⟩; have B7 : Hid (Below w.heap.size w w7) := B6.out.drew.trans (hb7.mono B6.out.size); have X7 : Hid (Box w7 w.heap.size [.slice a1 D.S.length c1, .slice a2 D.C.length c2, .bool D.A, .slice a3 D.K.length c3]) := X6.out.drew.below hb7; have OW7 : Hid (OwnsI w7 w2.heap.size w3.heap.size (.slice b1 L.length d1) L) := OW6.out.drew.below hb7; have OX7 : Hid (OwnsD w7 w3.heap.size w4.heap.size (.agg #[.slice e1 D.S.length f1, .slice e2 D.C.length f2, .bool D.A, .slice e3 D.K.length f3]) D) := OX6.out.drew.below hb7; have XB7 : Hid (Box w7 w4.heap.size [.slice e1 D.S.length f1, .slice e2 D.C.length f2, .bool D.A, .slice e3 D.K.length f3]) := XB6.out.drew.below hb7; have OG7 : Hid (OwnsI w7 (w4.heap.size + 1) w5.heap.size (.slice g1 L.length k1) L) := OG6.out.drew.below hb7; have RD7 : Hid (ReadsD w7 v7 D) := own7.reads; clear q0 q1 q2 q3; obtain ⟨q0, _⟩ := XB7.out 0 _ rfl; obtain ⟨q1, _⟩ := XB7.out 1 _ rfl; obtain ⟨q2, _⟩ := XB7.out 2 _ rfl; obtain ⟨q3, _⟩ := XB7.out 3 _ rfl; clear hb7 own7))
  all_goals clear p0 p1 p2 p3 q0 q1 q2 q3 B6 B7 X6 X7 OW6 OW7 OX6 OX7 XB6 XB7 OG6 OG7
  all_goals
    obtain ⟨q0, _⟩ := XB8.out 0 _ rfl
    obtain ⟨q1, _⟩ := XB8.out 1 _ rfl
    obtain ⟨q2, _⟩ := XB8.out 2 _ rfl
    obtain ⟨q3, _⟩ := XB8.out 3 _ rfl
    go_wp2_with fail
    refine (markDisk _ D w3.heap.size w4.heap.size 1 _ (small_len2 SM.out) (by omega) (by omega) (by have := XB8.out 0 _ rfl; have := World.block_lt_of_cell? _ _ this.1; dsimp only at this; omega) OX8.out).mono ?_
    rintro e w9 ⟨rfl, T9, _⟩
    clear q0 q1 q2 q3
    have B9 : Hid (Below w.heap.size w w9) := Below.turned B8.out T9 (Nat.le_refl _) (by have := Z1.out; have := Z2.out; have := Z3.out; have := Z4.out; have := Z5.out; omega)
    have X9 : Hid (Box w9 w.heap.size [.slice a1 D.S.length c1, .slice a2 D.C.length c2, .bool D.A, .slice a3 D.K.length c3]) := X8.out.turned T9 (by have := Z1.out; have := Z2.out; have := Z3.out; have := Z4.out; have := Z5.out; omega)
    have OW9 : Hid (OwnsI w9 w2.heap.size w3.heap.size (.slice b1 L.length d1) L) := OW8.out.turned T9 (by have := Z1.out; have := Z2.out; have := Z3.out; have := Z4.out; have := Z5.out; omega)
    have OG9 : Hid (OwnsI w9 (w4.heap.size + 1) w5.heap.size (.slice g1 L.length k1) L) := OG8.out.turned T9 (by have := Z1.out; have := Z2.out; have := Z3.out; have := Z4.out; have := Z5.out; omega)
    clear B8 X8 OW8 OG8
    clear T9 OX8 XB8
    have hk1 : decide (((endD D 1 : Nat) : Int) < 0) = false := by simp
    go_wp2_with fail
    refine (eqIntS g1 b1 L.length k1 d1 L _ rfl (by omega) OG9.out.src OW9.out.src).mono ?_
    rintro e w10 ⟨rfl, hb10⟩
    have B10 : Hid (Below w.heap.size w w10) := B9.out.trans ((hb10).mono B9.out.size)
    have X10 : Hid (Box w10 w.heap.size [.slice a1 D.S.length c1, .slice a2 D.C.length c2, .bool D.A, .slice a3 D.K.length c3]) := X9.out.below (hb10)
    have OW10 : Hid (OwnsI w10 w2.heap.size w3.heap.size (.slice b1 L.length d1) L) := OW9.out.below (hb10)
    have OG10 : Hid (OwnsI w10 (w4.heap.size + 1) w5.heap.size (.slice g1 L.length k1) L) := OG9.out.below (hb10)
    clear B9 X9 OW9 OG9
    clear hb10 hk1
    go_wp2_with fail
    refine (markIntS _ L.length 1 (w4.heap.size + 1) (cellsI L) _ hL (by omega) (by omega) OG10.out.1).mono ?_
    rintro e w11 ⟨rfl, G11, m11⟩
    have T11 : Turned (w4.heap.size + 1) w5.heap.size w10 w11 := Turned.of_grown G11 (fun k e => ⟨(OG10.out.1.lt k e).1, OG10.out.2 k e⟩)
    have B11 : Hid (Below w.heap.size w w11) := Below.turned B10.out T11 (Nat.le_refl _) (by have := Z1.out; have := Z2.out; have := Z3.out; have := Z4.out; have := Z5.out; omega)
    have X11 : Hid (Box w11 w.heap.size [.slice a1 D.S.length c1, .slice a2 D.C.length c2, .bool D.A, .slice a3 D.K.length c3]) := X10.out.turned T11 (by have := Z1.out; have := Z2.out; have := Z3.out; have := Z4.out; have := Z5.out; omega)
    have OW11 : Hid (OwnsI w11 w2.heap.size w3.heap.size (.slice b1 L.length d1) L) := OW10.out.turned T11 (by have := Z1.out; have := Z2.out; have := Z3.out; have := Z4.out; have := Z5.out; omega)
    clear B10 X10 OW10
    have OG11 : Hid (OwnsI w11 (w4.heap.size + 1) w5.heap.size (.slice g1 L.length k1) (mkI 1 L.length)) := ⟨by rw [mkI_length]; exact m11, OG10.out.2⟩
    clear T11 G11 m11 OG10
    have hk2 : decide (((1 + L.length : Nat) : Int) < 0) = false := by simp; omega
    have hk3 : (((1 + L.length : Nat) : Int) != ((1 + L.length : Nat) : Int)) = false := by simp
    go_wp2_with fail
    refine (heldIntS g1 L.length k1 1 _ hL (by omega) (by omega) (by have h9 := own_src OG11.out.1; obtain ⟨x1, x2, e9, s9, _⟩ := h9; injection e9 with e91 e92 e93; rw [e91]; exact s9)).mono ?_
    rintro e w12 ⟨rfl, hb12⟩
    have B12 : Hid (Below w.heap.size w w12) := B11.out.trans ((hb12).mono B11.out.size)
    have X12 : Hid (Box w12 w.heap.size [.slice a1 D.S.length c1, .slice a2 D.C.length c2, .bool D.A, .slice a3 D.K.length c3]) := X11.out.below (hb12)
    have OW12 : Hid (OwnsI w12 w2.heap.size w3.heap.size (.slice b1 L.length d1) L) := OW11.out.below (hb12)
    have OG12 : Hid (OwnsI w12 (w4.heap.size + 1) w5.heap.size (.slice g1 L.length k1) (mkI 1 L.length)) := OG11.out.below (hb12)
    clear B11 X11 OW11 OG11
    clear hb12
    obtain ⟨p0, _⟩ := X12.out 0 _ rfl
    obtain ⟨p1, _⟩ := X12.out 1 _ rfl
    obtain ⟨p2, _⟩ := X12.out 2 _ rfl
    obtain ⟨p3, _⟩ := X12.out 3 _ rfl
    go_wp2_with fail
    refine (toDisk _ D _ SM.out (HR.out.below B12.out)).mono ?_
    rintro e w13 ⟨v13, rfl, own13, hb13⟩
    clear p0 p1 p2 p3
    have B13 : Hid (Below w.heap.size w w13) := B12.out.trans ((hb13).mono B12.out.size)
    have X13 : Hid (Box w13 w.heap.size [.slice a1 D.S.length c1, .slice a2 D.C.length c2, .bool D.A, .slice a3 D.K.length c3]) := X12.out.below (hb13)
    have OW13 : Hid (OwnsI w13 w2.heap.size w3.heap.size (.slice b1 L.length d1) L) := OW12.out.below (hb13)
    have OG13 : Hid (OwnsI w13 (w4.heap.size + 1) w5.heap.size (.slice g1 L.length k1) (mkI 1 L.length)) := OG12.out.below (hb13)
    clear B12 X12 OW12 OG12
    have O13 : Hid (ReadsD w13 v13 D) := own13.reads
    clear hb13 own13
    go_wp2_with fail
    refine (implDiskPending _ D _ SM.out O13.out).mono ?_
    rintro e w14 ⟨u14, L', c', rfl, heq, own14, hb14⟩
    obtain ⟨rfl, rfl⟩ : L = L' ∧ c = c' := by have h2 := HEQ.out.symm.trans heq; simpa using h2
    obtain ⟨m1, n1, rfl⟩ := own14.lit
    have B14 : Hid (Below w.heap.size w w14) := B13.out.trans ((hb14).mono B13.out.size)
    have X14 : Hid (Box w14 w.heap.size [.slice a1 D.S.length c1, .slice a2 D.C.length c2, .bool D.A, .slice a3 D.K.length c3]) := X13.out.below (hb14)
    have OW14 : Hid (OwnsI w14 w2.heap.size w3.heap.size (.slice b1 L.length d1) L) := OW13.out.below (hb14)
    have OG14 : Hid (OwnsI w14 (w4.heap.size + 1) w5.heap.size (.slice g1 L.length k1) (mkI 1 L.length)) := OG13.out.below (hb14)
    clear B13 X13 OW13 OG13
    have OH : Hid (Src w14 m1 (cellsI L)) := own14.src
    clear heq hb14 own14 O13
    go_wp2_with fail
    refine (eqIntS m1 b1 L.length n1 d1 L _ rfl (by omega) OH.out OW14.out.src).mono ?_
    rintro e w15 ⟨rfl, hb15⟩
    have B15 : Hid (Below w.heap.size w w15) := B14.out.trans ((hb15).mono B14.out.size)
    have X15 : Hid (Box w15 w.heap.size [.slice a1 D.S.length c1, .slice a2 D.C.length c2, .bool D.A, .slice a3 D.K.length c3]) := X14.out.below (hb15)
    have OW15 : Hid (OwnsI w15 w2.heap.size w3.heap.size (.slice b1 L.length d1) L) := OW14.out.below (hb15)
    have OG15 : Hid (OwnsI w15 (w4.heap.size + 1) w5.heap.size (.slice g1 L.length k1) (mkI 1 L.length)) := OG14.out.below (hb15)
    clear B14 X14 OW14 OG14
    clear hb15 OH
    go_wp2_with fail
    refine (heldIntS g1 L.length k1 1 _ hL (by omega) (by omega) (by have h9 := own_src OG15.out.1; obtain ⟨x1, x2, e9, s9, _⟩ := h9; injection e9 with e91 e92 e93; rw [e91]; exact s9)).mono ?_
    rintro e w16 ⟨rfl, hb16⟩
    have B16 : Hid (Below w.heap.size w w16) := B15.out.trans ((hb16).mono B15.out.size)
    have X16 : Hid (Box w16 w.heap.size [.slice a1 D.S.length c1, .slice a2 D.C.length c2, .bool D.A, .slice a3 D.K.length c3]) := X15.out.below (hb16)
    have OW16 : Hid (OwnsI w16 w2.heap.size w3.heap.size (.slice b1 L.length d1) L) := OW15.out.below (hb16)
    have OG16 : Hid (OwnsI w16 (w4.heap.size + 1) w5.heap.size (.slice g1 L.length k1) (mkI 1 L.length)) := OG15.out.below (hb16)
    clear B15 X15 OW15 OG15
    clear hb16
    go_wp2_with fail
    go_ret
    exact ⟨rfl, B16.out⟩
end Go.Proofs.Ytnmeafhfchkemaa.fnExactDiskPending
