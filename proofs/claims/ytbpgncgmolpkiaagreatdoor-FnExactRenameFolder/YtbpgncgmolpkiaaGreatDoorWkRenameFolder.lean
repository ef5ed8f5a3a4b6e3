/-
  The walk of the law FnExactRenameFolder.
  By an AI agent.
-/
import Derived.Test.YtbpgncgmolpkiaaGreatDoorMzr
namespace Go.Proofs.YtbpgncgmolpkiaaGreatDoor.fnExactRenameFolder
open Go.ChangeShapes Go.WideShapes Go.ChangeAt Go.WideMaps Go.WideElems Go.RowKit Go.Deep
open Go.ChangeMaps (open_string shut_string)
set_option linter.unusedVariables false

set_option maxHeartbeats 4000000 in
theorem walk (a0 : Option Addr) (c0 : Nat) (L : List PM) (ux : ByteArray) (py : ByteArray) (pz : ByteArray) (w : World) (h0 : Src w a0 (cellsP L)) (hm0 : L.length ≤ maxLen ∧ ∀ x ∈ L, x.1.size ≤ maxLen ∧ x.2.size ≤ maxLen) (h1 : ux.size ≤ maxLen) (h2 : py.size ≤ maxLen) (h3 : pz.size ≤ maxLen) (hgx : Gl w) (h8 : 8 ≤ w.heap.size) :
    Calls Tryz.prog 3 #[.slice a0 L.length c0, .string ux, .string py, .string pz] w fun e w' => e = .returned (.bool true) ∧ Below w.heap.size w w' := by
  have HGX : Hid (Gl w) := hgx
  clear hgx
  obtain ⟨n0, hn0⟩ : ∃ n, L.length = n := ⟨_, rfl⟩
  have HN0 : Hid (L.length = n0) := hn0
  have HR0 : Hid (Src w a0 (cellsP L)) := h0
  have HM0 : Hid (L.length ≤ maxLen ∧ ∀ x ∈ L, x.1.size ≤ maxLen ∧ x.2.size ≤ maxLen) := hm0
  have hnm0 : n0 ≤ maxLen := by rw [← hn0]; exact hm0.1
  unfold maxLen at hnm0
  rw [hn0]
  clear hm0 h0 hn0
  unfold maxLen at h1
  by_cases hb_ux : 1048576 < ux.size
  · go_enter Tryz.func3, Tryz.ntmps3
    go_wp2_with fail
    go_ret
    exact ⟨rfl, Below.refl _ _⟩
  have hs_ux : ux.size ≤ 1048576 := by omega
  unfold maxLen at h2
  by_cases hb_py : 1048576 < py.size
  · go_enter Tryz.func3, Tryz.ntmps3
    go_wp2_with fail
    go_ret
    exact ⟨rfl, Below.refl _ _⟩
  have hs_py : py.size ≤ 1048576 := by omega
  unfold maxLen at h3
  by_cases hb_pz : 1048576 < pz.size
  · go_enter Tryz.func3, Tryz.ntmps3
    go_wp2_with fail
    go_ret
    exact ⟨rfl, Below.refl _ _⟩
  have hs_pz : pz.size ≤ 1048576 := by omega
  go_enter Tryz.func3, Tryz.ntmps3
  go_wp2_with fail
  have B0 : Hid (Below w.heap.size w w) := Below.refl _ _
  refine (szPairS a0 n0 c0 L 1048576 _ HN0.out (by unfold maxLen; omega) HM0.out.2 (by omega) (by omega) (HR0.out.below B0.out)).mono ?_
  rintro e w1 ⟨r0, rfl, hrl0, hr0, hb1⟩
  have B1 : Hid (Below w.heap.size w w1) := B0.out.trans ((hb1).mono B0.out.size)
  clear B0
  clear hb1
  by_cases hneg0 : r0 < 0
  · clear hr0
    go_wp2_with fail
    go_ret
    exact ⟨rfl, B1.out⟩
  have SM0 : Hid (n0 ≤ 1048576 ∧ ∀ x ∈ L, x.1.size ≤ 1048576 ∧ x.2.size ≤ 1048576) := (hr0 (by omega)).2
  have hsm0 : n0 ≤ 1048576 := SM0.out.1
  clear hr0
  have BZ : Hid (w.heap.size ≤ w1.heap.size) := B1.out.size
  go_wp2_with fail
  refine (toPairS a0 n0 c0 L _ HN0.out hsm0 (HR0.out.below B1.out)).mono ?_
  rintro e w2 ⟨v2, rfl, own2, hb2⟩
  obtain ⟨e2, f2, rfl, s2, _⟩ := own_src own2
  have B2 : Hid (Below w.heap.size w w2) := B1.out.trans ((hb2).mono B1.out.size)
  clear B1
  have CP2 : Hid (n0 ≤ f2 ∧ f2 ≤ maxLen) := own_capx own2
  have Z2 : Hid (w1.heap.size ≤ w2.heap.size) := hb2.size
  have Q2x2 : Hid (Src w2 e2 (cellsP L)) := s2
  clear hb2 own2 s2
  go_wp2_with fail
  refine (specRenameFolderL e2 n0 f2 L ux py pz _ HN0.out hsm0 SM0.out.2 CP2.out hs_ux hs_py hs_pz Q2x2.out).mono ?_
  rintro e w3 ⟨u3, R, q, rfl, heq, own3, hb3⟩
  obtain ⟨b1, d1, rfl, _, _⟩ := own_src own3
  have B3 : Hid (Below w.heap.size w w3) := B2.out.trans ((hb3).mono B2.out.size)
  have Q2x3 : Hid (Src w3 e2 (cellsP L)) := Q2x2.out.below (hb3)
  clear B2 Q2x2
  have OW3 : Hid (OwnsR w3 47 2 w2.heap.size w3.heap.size (.slice b1 R.length d1) R.length (cellsP R)) := OwnsR.mk own3 (Nat.le_refl _)
  have Z3 : Hid (w2.heap.size ≤ w3.heap.size) := hb3.size
  have HEQ : Hid (lawM2 (rnR L ux py pz) (askM L [ux, py, pz]) = (R, q)) := heq
  have hL : R.length ≤ 1048576 := rnR_small heq
  clear hb3 own3 heq
  clear Q2x3
  go_wp2_with fail
  refine (toPairS a0 n0 c0 L _ HN0.out hsm0 (HR0.out.below B3.out)).mono ?_
  rintro e w4 ⟨v4, rfl, own4, hb4⟩
  obtain ⟨e4, f4, rfl, s4, _⟩ := own_src own4
  have B4 : Hid (Below w.heap.size w w4) := B3.out.trans ((hb4).mono B3.out.size)
  have OW4 : Hid (OwnsR w4 47 2 w2.heap.size w3.heap.size (.slice b1 R.length d1) R.length (cellsP R)) := OW3.out.below (hb4)
  clear B3 OW3
  have CP4 : Hid (n0 ≤ f4 ∧ f4 ≤ maxLen) := own_capx own4
  have Z4 : Hid (w3.heap.size ≤ w4.heap.size) := hb4.size
  have OXa4 : Hid (OwnsR w4 47 2 w3.heap.size w4.heap.size (.slice e4 n0 f4) n0 (cellsP L)) := OwnsR.mk own4 (Nat.le_refl _)
  clear hb4 own4 s4
  go_wp2_with fail
  refine (implRenameFolderL e4 n0 f4 L ux py pz _ HN0.out hsm0 SM0.out.2 hs_ux hs_py hs_pz (HGX.out.below h8 B4.out) (by have := B4.out.size; omega) OXa4.out.src).mono ?_
  rintro e w5 ⟨u5, R', q', rfl, heq, own5, hb5⟩
  obtain ⟨rfl, rfl⟩ : R = R' ∧ q = q' := by have h2 := HEQ.out.symm.trans heq; simpa using h2
  clear heq
  obtain ⟨g1, k1, rfl, _, _⟩ := own_src own5
  have B5 : Hid (Below w.heap.size w w5) := B4.out.trans ((hb5).mono B4.out.size)
  have OW5 : Hid (OwnsR w5 47 2 w2.heap.size w3.heap.size (.slice b1 R.length d1) R.length (cellsP R)) := OW4.out.below (hb5)
  have OXa5 : Hid (OwnsR w5 47 2 w3.heap.size w4.heap.size (.slice e4 n0 f4) n0 (cellsP L)) := OXa4.out.below (hb5)
  clear B4 OW4 OXa4
  have Z5 : Hid (w4.heap.size ≤ w5.heap.size) := hb5.size
  have OG5 : Hid (OwnsR w5 47 2 w4.heap.size w5.heap.size (.slice g1 R.length k1) R.length (cellsP R)) := OwnsR.mk own5 (Nat.le_refl _)
  clear hb5 own5
  have hcc : (q != q) = false := by simp
  go_wp2_with fail
  refine (eqPairS g1 b1 R.length k1 d1 R _ rfl (by omega) OG5.out.src OW5.out.src).mono ?_
  rintro e w6 ⟨rfl, hb6⟩
  have B6 : Hid (Below w.heap.size w w6) := B5.out.trans ((hb6).mono B5.out.size)
  have OW6 : Hid (OwnsR w6 47 2 w2.heap.size w3.heap.size (.slice b1 R.length d1) R.length (cellsP R)) := OW5.out.below (hb6)
  have OXa6 : Hid (OwnsR w6 47 2 w3.heap.size w4.heap.size (.slice e4 n0 f4) n0 (cellsP L)) := OXa5.out.below (hb6)
  have OG6 : Hid (OwnsR w6 47 2 w4.heap.size w5.heap.size (.slice g1 R.length k1) R.length (cellsP R)) := OG5.out.below (hb6)
  clear B5 OW5 OXa5 OG5
  clear hb6
  go_wp2_with fail
  refine (toPairS a0 n0 c0 L _ HN0.out hsm0 (HR0.out.below B6.out)).mono ?_
  rintro e w7 ⟨v7, rfl, own7, hb7⟩
  obtain ⟨e7, f7, rfl, s7, _⟩ := own_src own7
  have B7 : Hid (Below w.heap.size w w7) := B6.out.trans ((hb7).mono B6.out.size)
  have OW7 : Hid (OwnsR w7 47 2 w2.heap.size w3.heap.size (.slice b1 R.length d1) R.length (cellsP R)) := OW6.out.below (hb7)
  have OXa7 : Hid (OwnsR w7 47 2 w3.heap.size w4.heap.size (.slice e4 n0 f4) n0 (cellsP L)) := OXa6.out.below (hb7)
  have OG7 : Hid (OwnsR w7 47 2 w4.heap.size w5.heap.size (.slice g1 R.length k1) R.length (cellsP R)) := OG6.out.below (hb7)
  clear B6 OW6 OXa6 OG6
  have CP7 : Hid (n0 ≤ f7 ∧ f7 ≤ maxLen) := own_capx own7
  have Z7 : Hid (w6.heap.size ≤ w7.heap.size) := hb7.size
  have Q7x7 : Hid (Src w7 e7 (cellsP L)) := s7
  clear hb7 own7 s7
  go_wp2_with fail
  refine (eqPairS e4 e7 n0 f4 f7 L _ HN0.out (by omega) OXa7.out.src Q7x7.out).mono ?_
  rintro e w8 ⟨rfl, hb8⟩
  have B8 : Hid (Below w.heap.size w w8) := B7.out.trans ((hb8).mono B7.out.size)
  have OW8 : Hid (OwnsR w8 47 2 w2.heap.size w3.heap.size (.slice b1 R.length d1) R.length (cellsP R)) := OW7.out.below (hb8)
  have OXa8 : Hid (OwnsR w8 47 2 w3.heap.size w4.heap.size (.slice e4 n0 f4) n0 (cellsP L)) := OXa7.out.below (hb8)
  have OG8 : Hid (OwnsR w8 47 2 w4.heap.size w5.heap.size (.slice g1 R.length k1) R.length (cellsP R)) := OG7.out.below (hb8)
  have Q7x8 : Hid (Src w8 e7 (cellsP L)) := Q7x7.out.below (hb8)
  clear B7 OW7 OXa7 OG7 Q7x7
  clear hb8
  clear Q7x8
  go_wp2_with fail
  refine (markPairS _ n0 1 w3.heap.size (cellsP L) _ hsm0 (by omega) (by omega) OXa8.out.1).mono ?_
  rintro e w9 ⟨rfl, G9, m9⟩
  have T9 : Turned w3.heap.size w4.heap.size w8 w9 := Turned.of_grown G9 (fun k e => ⟨(OXa8.out.1.lt k e).1, OXa8.out.2 k e⟩)
  have B9 : Hid (Below w.heap.size w w9) := Below.turned B8.out T9 (Nat.le_refl _) (by have := Z2.out; have := Z3.out; have := Z4.out; have := Z5.out; have := Z7.out; have := BZ.out; omega)
  have OW9 : Hid (OwnsR w9 47 2 w2.heap.size w3.heap.size (.slice b1 R.length d1) R.length (cellsP R)) := OW8.out.turned T9 (by have := Z2.out; have := Z3.out; have := Z4.out; have := Z5.out; have := Z7.out; have := BZ.out; omega)
  have OG9 : Hid (OwnsR w9 47 2 w4.heap.size w5.heap.size (.slice g1 R.length k1) R.length (cellsP R)) := OG8.out.turned T9 (by have := Z2.out; have := Z3.out; have := Z4.out; have := Z5.out; have := Z7.out; have := BZ.out; omega)
  clear B8 OW8 OG8
  clear T9 G9 m9 OXa8
  obtain ⟨E0, hE0⟩ : ∃ E : Nat, 1 + n0 * 2 = E := ⟨_, rfl⟩
  rw [hE0]
  have hbE0 : 0 < E0 ∧ E0 ≤ 16777216 := by omega
  clear hE0
  have hk1 : decide (((E0 : Nat) : Int) < 0) = false := by simp
  go_wp2_with fail
  refine (eqPairS g1 b1 R.length k1 d1 R _ rfl (by omega) OG9.out.src OW9.out.src).mono ?_
  rintro e w10 ⟨rfl, hb10⟩
  have B10 : Hid (Below w.heap.size w w10) := B9.out.trans ((hb10).mono B9.out.size)
  have OW10 : Hid (OwnsR w10 47 2 w2.heap.size w3.heap.size (.slice b1 R.length d1) R.length (cellsP R)) := OW9.out.below (hb10)
  have OG10 : Hid (OwnsR w10 47 2 w4.heap.size w5.heap.size (.slice g1 R.length k1) R.length (cellsP R)) := OG9.out.below (hb10)
  clear B9 OW9 OG9
  clear hb10
  go_wp2_with fail
  refine (markPairS _ R.length 1 w4.heap.size (cellsP R) _ hL (by omega) (by omega) OG10.out.1).mono ?_
  rintro e w11 ⟨rfl, G11, m11⟩
  have T11 : Turned w4.heap.size w5.heap.size w10 w11 := Turned.of_grown G11 (fun k e => ⟨(OG10.out.1.lt k e).1, OG10.out.2 k e⟩)
  have B11 : Hid (Below w.heap.size w w11) := Below.turned B10.out T11 (Nat.le_refl _) (by have := Z2.out; have := Z3.out; have := Z4.out; have := Z5.out; have := Z7.out; have := BZ.out; omega)
  have OW11 : Hid (OwnsR w11 47 2 w2.heap.size w3.heap.size (.slice b1 R.length d1) R.length (cellsP R)) := OW10.out.turned T11 (by have := Z2.out; have := Z3.out; have := Z4.out; have := Z5.out; have := Z7.out; have := BZ.out; omega)
  clear B10 OW10
  have OG11 : Hid (OwnsR w11 47 2 w4.heap.size w5.heap.size (.slice g1 R.length k1) R.length (cellsP (mkP 1 R.length))) := ⟨m11, OG10.out.2⟩
  clear T11 G11 m11 OG10
  obtain ⟨E, hE⟩ : ∃ E : Nat, 1 + R.length * 2 = E := ⟨_, rfl⟩
  rw [hE]
  have HE : Hid (1 + R.length * 2 = E) := hE
  clear hE hk1
  have hk2 : decide (((E : Nat) : Int) < 0) = false := by simp
  have hk3 : (((E : Nat) : Int) != ((E : Nat) : Int)) = false := by simp
  go_wp2_with fail
  refine (heldPairS g1 R.length k1 1 _ hL (by omega) (by omega) OG11.out.src).mono ?_
  rintro e w12 ⟨rfl, hb12⟩
  rw [HE.out]
  have B12 : Hid (Below w.heap.size w w12) := B11.out.trans ((hb12).mono B11.out.size)
  have OW12 : Hid (OwnsR w12 47 2 w2.heap.size w3.heap.size (.slice b1 R.length d1) R.length (cellsP R)) := OW11.out.below (hb12)
  have OG12 : Hid (OwnsR w12 47 2 w4.heap.size w5.heap.size (.slice g1 R.length k1) R.length (cellsP (mkP 1 R.length))) := OG11.out.below (hb12)
  clear B11 OW11 OG11
  clear hb12
  go_wp2_with fail
  refine (toPairS a0 n0 c0 L _ HN0.out hsm0 (HR0.out.below B12.out)).mono ?_
  rintro e w13 ⟨v13, rfl, own13, hb13⟩
  obtain ⟨e13, f13, rfl, s13, _⟩ := own_src own13
  have B13 : Hid (Below w.heap.size w w13) := B12.out.trans ((hb13).mono B12.out.size)
  have OW13 : Hid (OwnsR w13 47 2 w2.heap.size w3.heap.size (.slice b1 R.length d1) R.length (cellsP R)) := OW12.out.below (hb13)
  have OG13 : Hid (OwnsR w13 47 2 w4.heap.size w5.heap.size (.slice g1 R.length k1) R.length (cellsP (mkP 1 R.length))) := OG12.out.below (hb13)
  clear B12 OW12 OG12
  have CP13 : Hid (n0 ≤ f13 ∧ f13 ≤ maxLen) := own_capx own13
  have Z13 : Hid (w12.heap.size ≤ w13.heap.size) := hb13.size
  have Q13x13 : Hid (Src w13 e13 (cellsP L)) := s13
  clear hb13 own13 s13
  go_wp2_with fail
  refine (implRenameFolderL e13 n0 f13 L ux py pz _ HN0.out hsm0 SM0.out.2 hs_ux hs_py hs_pz (HGX.out.below h8 B13.out) (by have := B13.out.size; omega) Q13x13.out).mono ?_
  rintro e w14 ⟨u14, R', q', rfl, heq, own14, hb14⟩
  obtain ⟨rfl, rfl⟩ : R = R' ∧ q = q' := by have h2 := HEQ.out.symm.trans heq; simpa using h2
  obtain ⟨m1, n1, rfl, s14, _⟩ := own_src own14
  have B14 : Hid (Below w.heap.size w w14) := B13.out.trans ((hb14).mono B13.out.size)
  have OW14 : Hid (OwnsR w14 47 2 w2.heap.size w3.heap.size (.slice b1 R.length d1) R.length (cellsP R)) := OW13.out.below (hb14)
  have OG14 : Hid (OwnsR w14 47 2 w4.heap.size w5.heap.size (.slice g1 R.length k1) R.length (cellsP (mkP 1 R.length))) := OG13.out.below (hb14)
  have Q13x14 : Hid (Src w14 e13 (cellsP L)) := Q13x13.out.below (hb14)
  clear B13 OW13 OG13 Q13x13
  have QF : Hid (Src w14 m1 (cellsP R)) := s14
  clear heq hb14 own14 s14
  clear Q13x14
  go_wp2_with fail
  refine (eqPairS m1 b1 R.length n1 d1 R _ rfl (by omega) QF.out OW14.out.src).mono ?_
  rintro e w15 ⟨rfl, hb15⟩
  have B15 : Hid (Below w.heap.size w w15) := B14.out.trans ((hb15).mono B14.out.size)
  have OW15 : Hid (OwnsR w15 47 2 w2.heap.size w3.heap.size (.slice b1 R.length d1) R.length (cellsP R)) := OW14.out.below (hb15)
  have OG15 : Hid (OwnsR w15 47 2 w4.heap.size w5.heap.size (.slice g1 R.length k1) R.length (cellsP (mkP 1 R.length))) := OG14.out.below (hb15)
  clear B14 OW14 OG14
  clear hb15
  go_wp2_with fail
  refine (heldPairS g1 R.length k1 1 _ hL (by omega) (by omega) OG15.out.src).mono ?_
  rintro e w16 ⟨rfl, hb16⟩
  rw [HE.out]
  have B16 : Hid (Below w.heap.size w w16) := B15.out.trans ((hb16).mono B15.out.size)
  have OW16 : Hid (OwnsR w16 47 2 w2.heap.size w3.heap.size (.slice b1 R.length d1) R.length (cellsP R)) := OW15.out.below (hb16)
  have OG16 : Hid (OwnsR w16 47 2 w4.heap.size w5.heap.size (.slice g1 R.length k1) R.length (cellsP (mkP 1 R.length))) := OG15.out.below (hb16)
  clear B15 OW15 OG15
  clear hb16
  go_wp2_with fail
  go_ret
  exact ⟨rfl, B16.out⟩
end Go.Proofs.YtbpgncgmolpkiaaGreatDoor.fnExactRenameFolder
