/-
  The walk of the law FnExactFolderAt.
  By an AI agent.
-/
import Derived.Test.YthejpemiaenfpaaGreatDoorMzg
namespace Go.Proofs.YthejpemiaenfpaaGreatDoor.fnExactFolderAt
open Go.ChangeShapes Go.WideShapes Go.ChangeAt Go.WideMaps Go.WideElems Go.RowKit Go.Deep
open Go.ChangeMaps (open_string shut_string)
set_option linter.unusedVariables false

set_option maxHeartbeats 4000000 in
theorem walk (a0 : Option Addr) (c0 : Nat) (L : List PM) (ux : ByteArray) (py : ByteArray) (w : World) (h0 : Src w a0 (cellsP L)) (hm0 : L.length ≤ maxLen ∧ ∀ x ∈ L, x.1.size ≤ maxLen ∧ x.2.size ≤ maxLen) (h1 : ux.size ≤ maxLen) (h2 : py.size ≤ maxLen) (hgx : Gl w) (h8 : 8 ≤ w.heap.size) :
    Calls Tryz.prog 3 #[.slice a0 L.length c0, .string ux, .string py] w fun e w' => e = .returned (.bool true) ∧ Below w.heap.size w w' := by
  have HGX : Hid (Gl w) := hgx
  clear hgx
  obtain ⟨n0, hn0⟩ : ∃ n, L.length = n := ⟨_, rfl⟩
  have HN0 : Hid (L.length = n0) := hn0
  have HR0 : Hid (Src w a0 (cellsP L)) := h0
  have HM0 : Hid (L.length ≤ maxLen ∧ ∀ x ∈ L, x.1.size ≤ maxLen ∧ x.2.size ≤ maxLen) := hm0
  have hnm0 : n0 ≤ maxLen := by rw [← hn0]; exact hm0.1
  unfold maxLen at hnm0
  rw [hn0]
  clear hm0 h0 hn0
  unfold maxLen at h1
  by_cases hb_ux : 1048576 < ux.size
  · go_enter Tryz.func3, Tryz.ntmps3
    go_wp2_with fail
    go_ret
    exact ⟨rfl, Below.refl _ _⟩
  have hs_ux : ux.size ≤ 1048576 := by omega
  unfold maxLen at h2
  by_cases hb_py : 1048576 < py.size
  · go_enter Tryz.func3, Tryz.ntmps3
    go_wp2_with fail
    go_ret
    exact ⟨rfl, Below.refl _ _⟩
  have hs_py : py.size ≤ 1048576 := by omega
  go_enter Tryz.func3, Tryz.ntmps3
  go_wp2_with fail
  have B0 : Hid (Below w.heap.size w w) := Below.refl _ _
  refine (szPairS a0 n0 c0 L 1048576 _ HN0.out (by unfold maxLen; omega) HM0.out.2 (by omega) (by omega) (HR0.out.below B0.out)).mono ?_
  rintro e w1 ⟨r0, rfl, hrl0, hr0, hb1⟩
  have B1 : Hid (Below w.heap.size w w1) := B0.out.trans ((hb1).mono B0.out.size)
  clear B0
  have Z1 : Hid (w.heap.size ≤ w1.heap.size) := hb1.size
  clear hb1
  by_cases hneg0 : r0 < 0
  · clear hr0
    go_wp2_with fail
    go_ret
    exact ⟨rfl, B1.out⟩
  have SM0 : Hid (n0 ≤ 1048576 ∧ ∀ x ∈ L, x.1.size ≤ 1048576 ∧ x.2.size ≤ 1048576) := (hr0 (by omega)).2
  have hsm0 : n0 ≤ 1048576 := SM0.out.1
  clear hr0
  go_wp2_with fail
  refine (toPairS a0 n0 c0 L _ HN0.out hsm0 (HR0.out.below B1.out)).mono ?_
  rintro e w2 ⟨v2, rfl, own2, hb2⟩
  obtain ⟨e2, f2, rfl, s2, _⟩ := own_src own2
  have B2 : Hid (Below w.heap.size w w2) := B1.out.trans ((hb2).mono B1.out.size)
  clear B1
  have Z2 : Hid (w1.heap.size ≤ w2.heap.size) := hb2.size
  have Q2 : Hid (Src w2 e2 (cellsP L)) := s2
  clear hb2 own2 s2
  go_wp2_with fail
  refine (specFolderAt e2 n0 f2 L ux py _ HN0.out hsm0 SM0.out.2 Q2.out hs_ux hs_py).mono ?_
  rintro e w3 ⟨nm, va, nx, b1, _, d1, R, q, rfl, heq, rfl, own3, hb3⟩
  have B3 : Hid (Below w.heap.size w w3) := B2.out.trans ((hb3).mono B2.out.size)
  clear B2
  have OW3 : Hid (OwnsR w3 78 3 w2.heap.size w3.heap.size (.slice b1 R.length d1) R.length (cellsMl R)) := OwnsR.mk own3 (Nat.le_refl _)
  have Z3 : Hid (w2.heap.size ≤ w3.heap.size) := hb3.size
  have HEQ : Hid (faM L ux py = ((nm, va, nx, R), q)) := heq
  have hL : R.length ≤ 1048576 := fa_small heq
  clear hb3 own3 heq Q2
  go_wp2_with fail
  refine (toPairS a0 n0 c0 L _ HN0.out hsm0 (HR0.out.below (B3.out.alloc B3.out.size _))).mono ?_
  rintro e w4 ⟨v4, rfl, own4, hb4⟩
  obtain ⟨e4, f4, rfl, s4, _⟩ := own_src own4
  have B4 : Hid (Below w.heap.size w w4) := B3.out.trans ((Below.new hb4).mono B3.out.size)
  have OW4 : Hid (OwnsR w4 78 3 w2.heap.size w3.heap.size (.slice b1 R.length d1) R.length (cellsMl R)) := OW3.out.below (Below.new hb4)
  clear B3 OW3
  have Z4 : Hid (w3.heap.size + 1 ≤ w4.heap.size) := size_new hb4
  have W4 : Hid (Box w4 w3.heap.size [.string nm, .int .i64 va, .int .i64 nx, .slice b1 R.length d1]) := Box.below (Box.new rfl) hb4
  have OX4 : Hid (OwnsR w4 59 2 (w3.heap.size + 1) w4.heap.size (.slice e4 n0 f4) n0 (cellsP L)) := OwnsR.mk (own_mono own4 (by simp)) (Nat.le_refl _)
  clear hb4 own4 s4
  go_wp2_with fail
  refine (implFolderAt e4 n0 f4 L ux py _ HN0.out hsm0 SM0.out.2 OX4.out.src hs_ux hs_py (HGX.out.below h8 B4.out) (by have := B4.out.size; omega)).mono ?_
  rintro e w5 ⟨nm', va', nx', g1, _, k1, R', q', rfl, heq, rfl, own5, hb5⟩
  obtain ⟨⟨rfl, rfl, rfl, rfl⟩, rfl⟩ : (nm = nm' ∧ va = va' ∧ nx = nx' ∧ R = R') ∧ q = q' := by have h2 := HEQ.out.symm.trans heq; simpa using h2
  clear heq
  have B5 : Hid (Below w.heap.size w w5) := B4.out.trans ((hb5).mono B4.out.size)
  have OW5 : Hid (OwnsR w5 78 3 w2.heap.size w3.heap.size (.slice b1 R.length d1) R.length (cellsMl R)) := OW4.out.below (hb5)
  have W5 : Hid (Box w5 w3.heap.size [.string nm, .int .i64 va, .int .i64 nx, .slice b1 R.length d1]) := W4.out.below (hb5)
  have OX5 : Hid (OwnsR w5 59 2 (w3.heap.size + 1) w4.heap.size (.slice e4 n0 f4) n0 (cellsP L)) := OX4.out.below (hb5)
  clear B4 OW4 W4 OX4
  have Z5 : Hid (w4.heap.size ≤ w5.heap.size) := hb5.size
  have OG5 : Hid (OwnsR w5 78 3 w4.heap.size w5.heap.size (.slice g1 R.length k1) R.length (cellsMl R)) := OwnsR.mk own5 (Nat.le_refl _)
  clear hb5 own5
  have hcc : (q != q) = false := by simp
  obtain ⟨p0, _⟩ := (W5.out.old (.cells #[.string nm, .int .i64 va, .int .i64 nx, .slice g1 R.length k1] 26)) 0 _ rfl
  obtain ⟨p1, _⟩ := (W5.out.old (.cells #[.string nm, .int .i64 va, .int .i64 nx, .slice g1 R.length k1] 26)) 1 _ rfl
  obtain ⟨p2, _⟩ := (W5.out.old (.cells #[.string nm, .int .i64 va, .int .i64 nx, .slice g1 R.length k1] 26)) 2 _ rfl
  obtain ⟨p3, _⟩ := (W5.out.old (.cells #[.string nm, .int .i64 va, .int .i64 nx, .slice g1 R.length k1] 26)) 3 _ rfl
  have A5 : Hid (Below w5.heap.size w5 (w5.alloc (.cells #[.string nm, .int .i64 va, .int .i64 nx, .slice g1 R.length k1] 26))) := (Below.refl _ _).alloc (Nat.le_refl _) _
  go_wp2_with fail
  refine (eqFolder nm va nx g1 b1 R.length k1 d1 R _ rfl (by omega) (OG5.out.src.below A5.out) (OW5.out.src.below A5.out)).mono ?_
  rintro e w6 ⟨rfl, hb6⟩
  have B6 : Hid (Below w.heap.size w w6) := B5.out.trans ((Below.new hb6).mono B5.out.size)
  have OW6 : Hid (OwnsR w6 78 3 w2.heap.size w3.heap.size (.slice b1 R.length d1) R.length (cellsMl R)) := OW5.out.below (Below.new hb6)
  have W6 : Hid (Box w6 w3.heap.size [.string nm, .int .i64 va, .int .i64 nx, .slice b1 R.length d1]) := W5.out.below (Below.new hb6)
  have OX6 : Hid (OwnsR w6 59 2 (w3.heap.size + 1) w4.heap.size (.slice e4 n0 f4) n0 (cellsP L)) := OX5.out.below (Below.new hb6)
  have OG6 : Hid (OwnsR w6 78 3 w4.heap.size w5.heap.size (.slice g1 R.length k1) R.length (cellsMl R)) := OG5.out.below (Below.new hb6)
  clear B5 OW5 W5 OX5 OG5
  have Z6 : Hid (w5.heap.size + 1 ≤ w6.heap.size) := size_new hb6
  have Y6 : Hid (Box w6 w5.heap.size [.string nm, .int .i64 va, .int .i64 nx, .slice g1 R.length k1]) := Box.below (Box.new rfl) hb6
  clear hb6 A5 p0 p1 p2 p3
  go_wp2_with fail
  refine (toPairS a0 n0 c0 L _ HN0.out hsm0 (HR0.out.below B6.out)).mono ?_
  rintro e w7 ⟨v7, rfl, own7, hb7⟩
  obtain ⟨e7, f7, rfl, s7, _⟩ := own_src own7
  have B7 : Hid (Below w.heap.size w w7) := B6.out.trans ((hb7).mono B6.out.size)
  have OW7 : Hid (OwnsR w7 78 3 w2.heap.size w3.heap.size (.slice b1 R.length d1) R.length (cellsMl R)) := OW6.out.below (hb7)
  have W7 : Hid (Box w7 w3.heap.size [.string nm, .int .i64 va, .int .i64 nx, .slice b1 R.length d1]) := W6.out.below (hb7)
  have OX7 : Hid (OwnsR w7 59 2 (w3.heap.size + 1) w4.heap.size (.slice e4 n0 f4) n0 (cellsP L)) := OX6.out.below (hb7)
  have OG7 : Hid (OwnsR w7 78 3 w4.heap.size w5.heap.size (.slice g1 R.length k1) R.length (cellsMl R)) := OG6.out.below (hb7)
  have Y7 : Hid (Box w7 w5.heap.size [.string nm, .int .i64 va, .int .i64 nx, .slice g1 R.length k1]) := Y6.out.below (hb7)
  clear B6 OW6 W6 OX6 OG6 Y6
  have Q7 : Hid (Src w7 e7 (cellsP L)) := s7
  clear hb7 own7 s7
  go_wp2_with fail
  refine (eqPairS e4 e7 n0 f4 f7 L _ HN0.out (by omega) OX7.out.src Q7.out).mono ?_
  rintro e w8 ⟨rfl, hb8⟩
  have B8 : Hid (Below w.heap.size w w8) := B7.out.trans ((hb8).mono B7.out.size)
  have OW8 : Hid (OwnsR w8 78 3 w2.heap.size w3.heap.size (.slice b1 R.length d1) R.length (cellsMl R)) := OW7.out.below (hb8)
  have W8 : Hid (Box w8 w3.heap.size [.string nm, .int .i64 va, .int .i64 nx, .slice b1 R.length d1]) := W7.out.below (hb8)
  have OX8 : Hid (OwnsR w8 59 2 (w3.heap.size + 1) w4.heap.size (.slice e4 n0 f4) n0 (cellsP L)) := OX7.out.below (hb8)
  have OG8 : Hid (OwnsR w8 78 3 w4.heap.size w5.heap.size (.slice g1 R.length k1) R.length (cellsMl R)) := OG7.out.below (hb8)
  have Y8 : Hid (Box w8 w5.heap.size [.string nm, .int .i64 va, .int .i64 nx, .slice g1 R.length k1]) := Y7.out.below (hb8)
  clear B7 OW7 W7 OX7 OG7 Y7
  clear hb8 Q7
  go_wp2_with fail
  refine (markPairS _ n0 1 (w3.heap.size + 1) (cellsP L) _ hsm0 (by omega) (by omega) OX8.out.1).mono ?_
  rintro e w9 ⟨rfl, G9, m9⟩
  have T9 : Turned (w3.heap.size + 1) w4.heap.size w8 w9 := Turned.of_grown G9 (fun k e => ⟨(OX8.out.1.lt k e).1, OX8.out.2 k e⟩)
  have B9 : Hid (Below w.heap.size w w9) := Below.turned B8.out T9 (Nat.le_refl _) (by have := Z1.out; have := Z2.out; have := Z3.out; have := Z4.out; have := Z5.out; have := Z6.out; omega)
  have OW9 : Hid (OwnsR w9 78 3 w2.heap.size w3.heap.size (.slice b1 R.length d1) R.length (cellsMl R)) := OW8.out.turned T9 (by have := Z1.out; have := Z2.out; have := Z3.out; have := Z4.out; have := Z5.out; have := Z6.out; omega)
  have W9 : Hid (Box w9 w3.heap.size [.string nm, .int .i64 va, .int .i64 nx, .slice b1 R.length d1]) := W8.out.turned T9 (by have := Z1.out; have := Z2.out; have := Z3.out; have := Z4.out; have := Z5.out; have := Z6.out; omega)
  have OG9 : Hid (OwnsR w9 78 3 w4.heap.size w5.heap.size (.slice g1 R.length k1) R.length (cellsMl R)) := OG8.out.turned T9 (by have := Z1.out; have := Z2.out; have := Z3.out; have := Z4.out; have := Z5.out; have := Z6.out; omega)
  have Y9 : Hid (Box w9 w5.heap.size [.string nm, .int .i64 va, .int .i64 nx, .slice g1 R.length k1]) := Y8.out.turned T9 (by have := Z1.out; have := Z2.out; have := Z3.out; have := Z4.out; have := Z5.out; have := Z6.out; omega)
  clear B8 OW8 W8 OG8 Y8
  clear T9 G9 m9 OX8
  obtain ⟨E0, hE0⟩ : ∃ E : Nat, 1 + n0 * 2 = E := ⟨_, rfl⟩
  rw [hE0]
  clear hE0
  have hk1 : decide (((E0 : Nat) : Int) < 0) = false := by simp
  obtain ⟨p0, _⟩ := W9.out 0 _ rfl
  obtain ⟨p1, _⟩ := W9.out 1 _ rfl
  obtain ⟨p2, _⟩ := W9.out 2 _ rfl
  obtain ⟨p3, _⟩ := W9.out 3 _ rfl
  obtain ⟨q0, _⟩ := Y9.out 0 _ rfl
  obtain ⟨q1, _⟩ := Y9.out 1 _ rfl
  obtain ⟨q2, _⟩ := Y9.out 2 _ rfl
  obtain ⟨q3, _⟩ := Y9.out 3 _ rfl
  go_wp2_with fail
  refine (eqFolder nm va nx g1 b1 R.length k1 d1 R _ rfl (by omega) OG9.out.src OW9.out.src).mono ?_
  rintro e w10 ⟨rfl, hb10⟩
  have B10 : Hid (Below w.heap.size w w10) := B9.out.trans ((hb10).mono B9.out.size)
  have OW10 : Hid (OwnsR w10 78 3 w2.heap.size w3.heap.size (.slice b1 R.length d1) R.length (cellsMl R)) := OW9.out.below (hb10)
  have W10 : Hid (Box w10 w3.heap.size [.string nm, .int .i64 va, .int .i64 nx, .slice b1 R.length d1]) := W9.out.below (hb10)
  have OG10 : Hid (OwnsR w10 78 3 w4.heap.size w5.heap.size (.slice g1 R.length k1) R.length (cellsMl R)) := OG9.out.below (hb10)
  have Y10 : Hid (Box w10 w5.heap.size [.string nm, .int .i64 va, .int .i64 nx, .slice g1 R.length k1]) := Y9.out.below (hb10)
  clear B9 OW9 W9 OG9 Y9
  clear hb10 hk1 p0 p1 p2 p3 q0 q1 q2 q3
  obtain ⟨q0, _⟩ := Y10.out 0 _ rfl
  obtain ⟨q1, _⟩ := Y10.out 1 _ rfl
  obtain ⟨q2, _⟩ := Y10.out 2 _ rfl
  obtain ⟨q3, _⟩ := Y10.out 3 _ rfl
  go_wp2_with fail
  refine (markFolder nm va nx g1 R.length k1 1 w4.heap.size (cellsMl R) _ hL (by omega) (by omega) OG10.out.1).mono ?_
  rintro e w11 ⟨rfl, G11, m11⟩
  have T11 : Turned w4.heap.size w5.heap.size w10 w11 := Turned.of_grown G11 (fun k e => ⟨(OG10.out.1.lt k e).1, OG10.out.2 k e⟩)
  have B11 : Hid (Below w.heap.size w w11) := Below.turned B10.out T11 (Nat.le_refl _) (by have := Z1.out; have := Z2.out; have := Z3.out; have := Z4.out; have := Z5.out; have := Z6.out; omega)
  have OW11 : Hid (OwnsR w11 78 3 w2.heap.size w3.heap.size (.slice b1 R.length d1) R.length (cellsMl R)) := OW10.out.turned T11 (by have := Z1.out; have := Z2.out; have := Z3.out; have := Z4.out; have := Z5.out; have := Z6.out; omega)
  have W11 : Hid (Box w11 w3.heap.size [.string nm, .int .i64 va, .int .i64 nx, .slice b1 R.length d1]) := W10.out.turned T11 (by have := Z1.out; have := Z2.out; have := Z3.out; have := Z4.out; have := Z5.out; have := Z6.out; omega)
  have Y11 : Hid (Box w11 w5.heap.size [.string nm, .int .i64 va, .int .i64 nx, .slice g1 R.length k1]) := Y10.out.turned T11 (by have := Z1.out; have := Z2.out; have := Z3.out; have := Z4.out; have := Z5.out; have := Z6.out; omega)
  clear B10 OW10 W10 Y10
  have OG11 : Hid (OwnsR w11 78 3 w4.heap.size w5.heap.size (.slice g1 R.length k1) R.length (cellsMl (mkMl 1 R.length))) := ⟨m11, OG10.out.2⟩
  clear T11 G11 m11 OG10 q0 q1 q2 q3
  obtain ⟨E, hE⟩ : ∃ E : Nat, 1 + R.length * 3 = E := ⟨_, rfl⟩
  rw [hE]
  have HE : Hid (1 + R.length * 3 = E) := hE
  clear hE
  have hk2 : decide (((E : Nat) : Int) < 0) = false := by simp
  have hk3 : (((E : Nat) : Int) != ((E : Nat) : Int)) = false := by simp
  obtain ⟨q0, _⟩ := Y11.out 0 _ rfl
  obtain ⟨q1, _⟩ := Y11.out 1 _ rfl
  obtain ⟨q2, _⟩ := Y11.out 2 _ rfl
  obtain ⟨q3, _⟩ := Y11.out 3 _ rfl
  go_wp2_with fail
  refine (heldFolder nm va nx g1 R.length k1 1 _ hL (by omega) (by omega) OG11.out.src).mono ?_
  rintro e w12 ⟨rfl, hb12⟩
  rw [HE.out]
  have B12 : Hid (Below w.heap.size w w12) := B11.out.trans ((hb12).mono B11.out.size)
  have OW12 : Hid (OwnsR w12 78 3 w2.heap.size w3.heap.size (.slice b1 R.length d1) R.length (cellsMl R)) := OW11.out.below (hb12)
  have W12 : Hid (Box w12 w3.heap.size [.string nm, .int .i64 va, .int .i64 nx, .slice b1 R.length d1]) := W11.out.below (hb12)
  have OG12 : Hid (OwnsR w12 78 3 w4.heap.size w5.heap.size (.slice g1 R.length k1) R.length (cellsMl (mkMl 1 R.length))) := OG11.out.below (hb12)
  have Y12 : Hid (Box w12 w5.heap.size [.string nm, .int .i64 va, .int .i64 nx, .slice g1 R.length k1]) := Y11.out.below (hb12)
  clear B11 OW11 W11 OG11 Y11
  clear hb12 q0 q1 q2 q3
  go_wp2_with fail
  refine (toPairS a0 n0 c0 L _ HN0.out hsm0 (HR0.out.below B12.out)).mono ?_
  rintro e w13 ⟨v13, rfl, own13, hb13⟩
  obtain ⟨e13, f13, rfl, s13, _⟩ := own_src own13
  have B13 : Hid (Below w.heap.size w w13) := B12.out.trans ((hb13).mono B12.out.size)
  have OW13 : Hid (OwnsR w13 78 3 w2.heap.size w3.heap.size (.slice b1 R.length d1) R.length (cellsMl R)) := OW12.out.below (hb13)
  have W13 : Hid (Box w13 w3.heap.size [.string nm, .int .i64 va, .int .i64 nx, .slice b1 R.length d1]) := W12.out.below (hb13)
  have OG13 : Hid (OwnsR w13 78 3 w4.heap.size w5.heap.size (.slice g1 R.length k1) R.length (cellsMl (mkMl 1 R.length))) := OG12.out.below (hb13)
  have Y13 : Hid (Box w13 w5.heap.size [.string nm, .int .i64 va, .int .i64 nx, .slice g1 R.length k1]) := Y12.out.below (hb13)
  clear B12 OW12 W12 OG12 Y12
  have Q13 : Hid (Src w13 e13 (cellsP L)) := s13
  clear hb13 own13 s13
  go_wp2_with fail
  refine (implFolderAt e13 n0 f13 L ux py _ HN0.out hsm0 SM0.out.2 Q13.out hs_ux hs_py (HGX.out.below h8 B13.out) (by have := B13.out.size; omega)).mono ?_
  rintro e w14 ⟨nm', va', nx', m1, _, n1, R', q', rfl, heq, rfl, own14, hb14⟩
  obtain ⟨⟨rfl, rfl, rfl, rfl⟩, rfl⟩ : (nm = nm' ∧ va = va' ∧ nx = nx' ∧ R = R') ∧ q = q' := by have h2 := HEQ.out.symm.trans heq; simpa using h2
  clear heq
  have B14 : Hid (Below w.heap.size w w14) := B13.out.trans ((hb14).mono B13.out.size)
  have OW14 : Hid (OwnsR w14 78 3 w2.heap.size w3.heap.size (.slice b1 R.length d1) R.length (cellsMl R)) := OW13.out.below (hb14)
  have W14 : Hid (Box w14 w3.heap.size [.string nm, .int .i64 va, .int .i64 nx, .slice b1 R.length d1]) := W13.out.below (hb14)
  have OG14 : Hid (OwnsR w14 78 3 w4.heap.size w5.heap.size (.slice g1 R.length k1) R.length (cellsMl (mkMl 1 R.length))) := OG13.out.below (hb14)
  have Y14 : Hid (Box w14 w5.heap.size [.string nm, .int .i64 va, .int .i64 nx, .slice g1 R.length k1]) := Y13.out.below (hb14)
  clear B13 OW13 W13 OG13 Y13
  have OH14 : Hid (Src w14 m1 (cellsMl R)) := (OwnsR.mk own14 (Nat.le_refl _)).src
  clear hb14 own14 Q13
  obtain ⟨p0, _⟩ := (W14.out.old (.cells #[.string nm, .int .i64 va, .int .i64 nx, .slice m1 R.length n1] 26)) 0 _ rfl
  obtain ⟨p1, _⟩ := (W14.out.old (.cells #[.string nm, .int .i64 va, .int .i64 nx, .slice m1 R.length n1] 26)) 1 _ rfl
  obtain ⟨p2, _⟩ := (W14.out.old (.cells #[.string nm, .int .i64 va, .int .i64 nx, .slice m1 R.length n1] 26)) 2 _ rfl
  obtain ⟨p3, _⟩ := (W14.out.old (.cells #[.string nm, .int .i64 va, .int .i64 nx, .slice m1 R.length n1] 26)) 3 _ rfl
  have A14 : Hid (Below w14.heap.size w14 (w14.alloc (.cells #[.string nm, .int .i64 va, .int .i64 nx, .slice m1 R.length n1] 26))) := (Below.refl _ _).alloc (Nat.le_refl _) _
  go_wp2_with fail
  refine (eqFolder nm va nx m1 b1 R.length n1 d1 R _ rfl (by omega) (OH14.out.below A14.out) (OW14.out.src.below A14.out)).mono ?_
  rintro e w15 ⟨rfl, hb15⟩
  have B15 : Hid (Below w.heap.size w w15) := B14.out.trans ((Below.new hb15).mono B14.out.size)
  have OW15 : Hid (OwnsR w15 78 3 w2.heap.size w3.heap.size (.slice b1 R.length d1) R.length (cellsMl R)) := OW14.out.below (Below.new hb15)
  have W15 : Hid (Box w15 w3.heap.size [.string nm, .int .i64 va, .int .i64 nx, .slice b1 R.length d1]) := W14.out.below (Below.new hb15)
  have OG15 : Hid (OwnsR w15 78 3 w4.heap.size w5.heap.size (.slice g1 R.length k1) R.length (cellsMl (mkMl 1 R.length))) := OG14.out.below (Below.new hb15)
  have Y15 : Hid (Box w15 w5.heap.size [.string nm, .int .i64 va, .int .i64 nx, .slice g1 R.length k1]) := Y14.out.below (Below.new hb15)
  clear B14 OW14 W14 OG14 Y14
  clear hb15 A14 OH14 p0 p1 p2 p3
  obtain ⟨q0, _⟩ := Y15.out 0 _ rfl
  obtain ⟨q1, _⟩ := Y15.out 1 _ rfl
  obtain ⟨q2, _⟩ := Y15.out 2 _ rfl
  obtain ⟨q3, _⟩ := Y15.out 3 _ rfl
  go_wp2_with fail
  refine (heldFolder nm va nx g1 R.length k1 1 _ hL (by omega) (by omega) OG15.out.src).mono ?_
  rintro e w16 ⟨rfl, hb16⟩
  rw [HE.out]
  have B16 : Hid (Below w.heap.size w w16) := B15.out.trans ((hb16).mono B15.out.size)
  have OW16 : Hid (OwnsR w16 78 3 w2.heap.size w3.heap.size (.slice b1 R.length d1) R.length (cellsMl R)) := OW15.out.below (hb16)
  have W16 : Hid (Box w16 w3.heap.size [.string nm, .int .i64 va, .int .i64 nx, .slice b1 R.length d1]) := W15.out.below (hb16)
  have OG16 : Hid (OwnsR w16 78 3 w4.heap.size w5.heap.size (.slice g1 R.length k1) R.length (cellsMl (mkMl 1 R.length))) := OG15.out.below (hb16)
  have Y16 : Hid (Box w16 w5.heap.size [.string nm, .int .i64 va, .int .i64 nx, .slice g1 R.length k1]) := Y15.out.below (hb16)
  clear B15 OW15 W15 OG15 Y15
  clear hb16 q0 q1 q2 q3
  go_wp2_with fail
  go_ret
  exact ⟨rfl, B16.out⟩
end Go.Proofs.YthejpemiaenfpaaGreatDoor.fnExactFolderAt
