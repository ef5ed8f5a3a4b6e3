/-
  The walk of the law FnExactReplayAll.
  By an AI agent.
-/
import Derived.Test.YtmbndpgoihdpnaaGreatDoorRb4
import Derived.Test.YtmbndpgoihdpnaaGreatDoorRb1
namespace Go.Proofs.YtmbndpgoihdpnaaGreatDoor.fnExactReplayAll
open Go.ChangeShapes Go.WideShapes Go.ChangeAt Go.WideMaps Go.WideElems Go.RowKit Go.Deep
open Go.ChangeMaps (open_string shut_string)
set_option linter.unusedVariables false

set_option maxHeartbeats 4000000 in
theorem walk (a : Option Addr) (c : Nat) (L : List BM) (w : World) (h : ReadsBL w a L) (hm : L.length ≤ maxLen ∧ ∀ D ∈ L, maxK D) (hH : HasHalf w) (hE : HasErr w) :
    Calls Tryz.prog 4 #[.slice a L.length c] w fun e w' => e = .returned (.bool true) ∧ Below w.heap.size w w' := by
  obtain ⟨n, hn⟩ : ∃ n, L.length = n := ⟨_, rfl⟩
  have HN : Hid (L.length = n) := hn
  have HR : Hid (ReadsBL w a L) := h
  have HM : Hid (L.length ≤ maxLen ∧ ∀ D ∈ L, maxK D) := hm
  have HH : Hid (HasHalf w) := hH
  have hnm : n ≤ maxLen := by rw [← hn]; exact HM.out.1
  unfold maxLen at hnm
  rw [hn]
  clear hm h hn hH
  have HEr : Hid (HasErr w) := hE
  clear hE
  go_enter Tryz.func4, Tryz.ntmps4
  go_wp2_with fail
  refine (szBackupS a n c L 1048576 _ HN.out (by unfold maxLen; omega) HM.out.2 (by omega) (by omega) HR.out).mono ?_
  rintro e w1 ⟨r, rfl, _, hr, hb1⟩
  have B1 : Hid (Below w.heap.size w w1) := hb1
  clear hb1
  have B1Z : Hid (w.heap.size ≤ w1.heap.size) := B1.out.size
  by_cases hneg : r < 0
  · clear hr
    go_wp2_with fail
    go_ret
    exact ⟨rfl, B1.out⟩
  have SM : Hid (n ≤ 1048576 ∧ wtB L ≤ 1048576 ∧ ∀ D ∈ L, smallK D) := hr (by omega)
  have hsm : n ≤ 1048576 := SM.out.1
  clear hr
  go_wp2_with fail
  refine (toBackupS a n c L _ HN.out hsm SM.out.2.2 (HR.out.below B1.out)).mono ?_
  rintro e w2 ⟨v2, rfl, own2, hb2⟩
  obtain ⟨e2, f2, rfl, _⟩ := own2.lit
  have B2 : Hid (Below w.heap.size w w2) := B1.out.trans ((hb2).mono B1.out.size)
  clear B1
  have Z2 : Hid (w1.heap.size ≤ w2.heap.size) := hb2.size
  have Q2 : Hid (ReadsBL w2 e2 L) := own2.reads
  clear hb2 own2
  go_wp2_with fail
  refine (specReplayAll e2 n f2 L _ HN.out hsm SM.out.2.2 Q2.out).mono ?_
  rintro e w3 ⟨u3, R, q, rfl, heq, own3, hb3⟩
  obtain ⟨b1, d1, rfl, _, _⟩ := own_src own3
  have B3 : Hid (Below w.heap.size w w3) := B2.out.trans ((hb3).mono B2.out.size)
  clear B2
  have OW3 : Hid (OwnsR w3 70 2 w2.heap.size w3.heap.size (.slice b1 R.length d1) R.length (cellsP R)) := OwnsR.mk own3 (Nat.le_refl _)
  have Z3 : Hid (w2.heap.size ≤ w3.heap.size) := hb3.size
  have HEQ : Hid (rpaA L = (R, q)) := heq
  have hL : R.length ≤ 1048576 := rpa_small HEQ.out
  clear hb3 own3 Q2 heq
  go_wp2_with fail
  refine (toBackupS a n c L _ HN.out hsm SM.out.2.2 (HR.out.below B3.out)).mono ?_
  rintro e w4 ⟨v4, rfl, own4, hb4⟩
  obtain ⟨e4, f4, rfl, _⟩ := own4.lit
  have B4 : Hid (Below w.heap.size w w4) := B3.out.trans ((hb4).mono B3.out.size)
  have OW4 : Hid (OwnsR w4 70 2 w2.heap.size w3.heap.size (.slice b1 R.length d1) R.length (cellsP R)) := OW3.out.below (hb4)
  clear B3 OW3
  have Z4 : Hid (w3.heap.size ≤ w4.heap.size) := hb4.size
  have OX4 : Hid (OwnsBL w4 w3.heap.size w4.heap.size (.slice e4 n f4) n L) := own4
  clear hb4 own4
  go_wp2_with fail
  refine (implReplayAll e4 n f4 L _ HN.out hsm SM.out.2.2 OX4.out.reads (HH.out.below B4.out) (HEr.out.below B4.out)).mono ?_
  rintro e w5 ⟨u5, R', q', rfl, heq, own5, hb5⟩
  have Y5 : Hid (w4.heap.size ≤ w5.heap.size) := hb5.size
  obtain ⟨rfl, rfl⟩ : R = R' ∧ q = q' := by have h2 := HEQ.out.symm.trans heq; simpa using h2
  clear heq
  obtain ⟨g1, k1, rfl, _, _⟩ := own_src own5
  have B5 : Hid (Below w.heap.size w w5) := B4.out.trans ((hb5).mono B4.out.size)
  have OW5 : Hid (OwnsR w5 70 2 w2.heap.size w3.heap.size (.slice b1 R.length d1) R.length (cellsP R)) := OW4.out.below (hb5)
  have OX5 : Hid (OwnsBL w5 w3.heap.size w4.heap.size (.slice e4 n f4) n L) := OX4.out.below (hb5)
  clear B4 OW4 OX4
  have Z5 : Hid (w4.heap.size ≤ w5.heap.size) := hb5.size
  have OG5 : Hid (OwnsR w5 70 2 w4.heap.size w5.heap.size (.slice g1 R.length k1) R.length (cellsP R)) := OwnsR.mk own5 (Nat.le_refl _)
  clear hb5 own5
  have hcc : (q != q) = false := by simp
  go_wp2_with fail
  refine (eqPairS g1 b1 R.length k1 d1 R _ rfl (by omega) OG5.out.src OW5.out.src).mono ?_
  rintro e w6 ⟨rfl, hb6⟩
  have Y6 : Hid (w4.heap.size ≤ w6.heap.size) := Nat.le_trans Y5.out hb6.size
  have B6 : Hid (Below w.heap.size w w6) := B5.out.trans ((hb6).mono B5.out.size)
  have OW6 : Hid (OwnsR w6 70 2 w2.heap.size w3.heap.size (.slice b1 R.length d1) R.length (cellsP R)) := OW5.out.below (hb6)
  have OX6 : Hid (OwnsBL w6 w3.heap.size w4.heap.size (.slice e4 n f4) n L) := OX5.out.below (hb6)
  have OG6 : Hid (OwnsR w6 70 2 w4.heap.size w5.heap.size (.slice g1 R.length k1) R.length (cellsP R)) := OG5.out.below (hb6)
  clear B5 OW5 OX5 OG5
  clear hb6
  go_wp2_with fail
  refine (toBackupS a n c L _ HN.out hsm SM.out.2.2 (HR.out.below B6.out)).mono ?_
  rintro e w7 ⟨v7, rfl, own7, hb7⟩
  have Y7 : Hid (w4.heap.size ≤ w7.heap.size) := Nat.le_trans Y6.out hb7.size
  obtain ⟨e7, f7, rfl, _⟩ := own7.lit
  have B7 : Hid (Below w.heap.size w w7) := B6.out.trans ((hb7).mono B6.out.size)
  have OW7 : Hid (OwnsR w7 70 2 w2.heap.size w3.heap.size (.slice b1 R.length d1) R.length (cellsP R)) := OW6.out.below (hb7)
  have OX7 : Hid (OwnsBL w7 w3.heap.size w4.heap.size (.slice e4 n f4) n L) := OX6.out.below (hb7)
  have OG7 : Hid (OwnsR w7 70 2 w4.heap.size w5.heap.size (.slice g1 R.length k1) R.length (cellsP R)) := OG6.out.below (hb7)
  clear B6 OW6 OX6 OG6
  have Q7 : Hid (ReadsBL w7 e7 L) := own7.reads
  clear hb7 own7
  go_wp2_with fail
  refine (eqBackupS e4 e7 n f4 f7 L _ HN.out (by omega) (fun D hD => by have := (SM.out.2.2 D hD).1; omega) OX7.out.reads Q7.out).mono ?_
  rintro e w8 ⟨rfl, hb8⟩
  have Y8 : Hid (w4.heap.size ≤ w8.heap.size) := Nat.le_trans Y7.out hb8.size
  have B8 : Hid (Below w.heap.size w w8) := B7.out.trans ((hb8).mono B7.out.size)
  have OW8 : Hid (OwnsR w8 70 2 w2.heap.size w3.heap.size (.slice b1 R.length d1) R.length (cellsP R)) := OW7.out.below (hb8)
  have OX8 : Hid (OwnsBL w8 w3.heap.size w4.heap.size (.slice e4 n f4) n L) := OX7.out.below (hb8)
  have OG8 : Hid (OwnsR w8 70 2 w4.heap.size w5.heap.size (.slice g1 R.length k1) R.length (cellsP R)) := OG7.out.below (hb8)
  clear B7 OW7 OX7 OG7
  clear hb8 Q7
  go_wp2_with fail
  have Z8 : Hid (w4.heap.size ≤ w8.heap.size) := Y8
  refine (markBackupS _ L w3.heap.size w4.heap.size 1 n _ SM.out.2.1 (by omega) (by omega) Z8.out OX8.out).mono ?_
  rintro e w9 ⟨E0, rfl, T9⟩
  have B9 : Hid (Below w.heap.size w w9) := Below.turned B8.out T9 (Nat.le_refl _) (by have := Z2.out; have := Z3.out; have := Z4.out; have := Z5.out; have := B1Z.out; omega)
  have OW9 : Hid (OwnsR w9 70 2 w2.heap.size w3.heap.size (.slice b1 R.length d1) R.length (cellsP R)) := OW8.out.turned T9 (by have := Z2.out; have := Z3.out; have := Z4.out; have := Z5.out; have := B1Z.out; omega)
  have OG9 : Hid (OwnsR w9 70 2 w4.heap.size w5.heap.size (.slice g1 R.length k1) R.length (cellsP R)) := OG8.out.turned T9 (by have := Z2.out; have := Z3.out; have := Z4.out; have := Z5.out; have := B1Z.out; omega)
  clear B8 OW8 OG8
  clear T9 OX8 Z8
  have hk1 : decide (((E0 : Nat) : Int) < 0) = false := by simp
  go_wp2_with fail
  refine (eqPairS g1 b1 R.length k1 d1 R _ rfl (by omega) OG9.out.src OW9.out.src).mono ?_
  rintro e w10 ⟨rfl, hb10⟩
  have B10 : Hid (Below w.heap.size w w10) := B9.out.trans ((hb10).mono B9.out.size)
  have OW10 : Hid (OwnsR w10 70 2 w2.heap.size w3.heap.size (.slice b1 R.length d1) R.length (cellsP R)) := OW9.out.below (hb10)
  have OG10 : Hid (OwnsR w10 70 2 w4.heap.size w5.heap.size (.slice g1 R.length k1) R.length (cellsP R)) := OG9.out.below (hb10)
  clear B9 OW9 OG9
  clear hb10
  clear hk1
  go_wp2_with fail
  refine (markPairS _ R.length 1 w4.heap.size (cellsP R) _ hL (by omega) (by omega) OG10.out.1).mono ?_
  rintro e w11 ⟨rfl, G11, m11⟩
  have T11 : Turned w4.heap.size w5.heap.size w10 w11 := Turned.of_grown G11 (fun k e => ⟨(OG10.out.1.lt k e).1, OG10.out.2 k e⟩)
  have B11 : Hid (Below w.heap.size w w11) := Below.turned B10.out T11 (Nat.le_refl _) (by have := Z2.out; have := Z3.out; have := Z4.out; have := Z5.out; have := B1Z.out; omega)
  have OW11 : Hid (OwnsR w11 70 2 w2.heap.size w3.heap.size (.slice b1 R.length d1) R.length (cellsP R)) := OW10.out.turned T11 (by have := Z2.out; have := Z3.out; have := Z4.out; have := Z5.out; have := B1Z.out; omega)
  clear B10 OW10
  have OG11 : Hid (OwnsR w11 70 2 w4.heap.size w5.heap.size (.slice g1 R.length k1) R.length (cellsP (mkP 1 R.length))) := ⟨m11, OG10.out.2⟩
  clear T11 G11 m11 OG10
  obtain ⟨E, hE⟩ : ∃ E : Nat, 1 + R.length * 2 = E := ⟨_, rfl⟩
  rw [hE]
  have HE : Hid (1 + R.length * 2 = E) := hE
  clear hE
  have hk2 : decide (((E : Nat) : Int) < 0) = false := by simp
  have hk3 : (((E : Nat) : Int) != ((E : Nat) : Int)) = false := by simp
  go_wp2_with fail
  refine (heldPairS g1 R.length k1 1 _ hL (by omega) (by omega) OG11.out.src).mono ?_
  rintro e w12 ⟨rfl, hb12⟩
  rw [HE.out]
  have B12 : Hid (Below w.heap.size w w12) := B11.out.trans ((hb12).mono B11.out.size)
  have OW12 : Hid (OwnsR w12 70 2 w2.heap.size w3.heap.size (.slice b1 R.length d1) R.length (cellsP R)) := OW11.out.below (hb12)
  have OG12 : Hid (OwnsR w12 70 2 w4.heap.size w5.heap.size (.slice g1 R.length k1) R.length (cellsP (mkP 1 R.length))) := OG11.out.below (hb12)
  clear B11 OW11 OG11
  clear hb12
  go_wp2_with fail
  refine (toBackupS a n c L _ HN.out hsm SM.out.2.2 (HR.out.below B12.out)).mono ?_
  rintro e w13 ⟨v13, rfl, own13, hb13⟩
  obtain ⟨e13, f13, rfl, _⟩ := own13.lit
  have B13 : Hid (Below w.heap.size w w13) := B12.out.trans ((hb13).mono B12.out.size)
  have OW13 : Hid (OwnsR w13 70 2 w2.heap.size w3.heap.size (.slice b1 R.length d1) R.length (cellsP R)) := OW12.out.below (hb13)
  have OG13 : Hid (OwnsR w13 70 2 w4.heap.size w5.heap.size (.slice g1 R.length k1) R.length (cellsP (mkP 1 R.length))) := OG12.out.below (hb13)
  clear B12 OW12 OG12
  have Q13 : Hid (ReadsBL w13 e13 L) := own13.reads
  clear hb13 own13
  go_wp2_with fail
  refine (implReplayAll e13 n f13 L _ HN.out hsm SM.out.2.2 Q13.out (HH.out.below B13.out) (HEr.out.below B13.out)).mono ?_
  rintro e w14 ⟨u14, R', q', rfl, heq, own14, hb14⟩
  obtain ⟨rfl, rfl⟩ : R = R' ∧ q = q' := by have h2 := HEQ.out.symm.trans heq; simpa using h2
  obtain ⟨m1, n1, rfl, s14, _⟩ := own_src own14
  have B14 : Hid (Below w.heap.size w w14) := B13.out.trans ((hb14).mono B13.out.size)
  have OW14 : Hid (OwnsR w14 70 2 w2.heap.size w3.heap.size (.slice b1 R.length d1) R.length (cellsP R)) := OW13.out.below (hb14)
  have OG14 : Hid (OwnsR w14 70 2 w4.heap.size w5.heap.size (.slice g1 R.length k1) R.length (cellsP (mkP 1 R.length))) := OG13.out.below (hb14)
  clear B13 OW13 OG13
  have Q14 : Hid (Src w14 m1 (cellsP R)) := s14
  clear heq hb14 own14 s14 Q13
  go_wp2_with fail
  refine (eqPairS m1 b1 R.length n1 d1 R _ rfl (by omega) Q14.out OW14.out.src).mono ?_
  rintro e w15 ⟨rfl, hb15⟩
  have B15 : Hid (Below w.heap.size w w15) := B14.out.trans ((hb15).mono B14.out.size)
  have OW15 : Hid (OwnsR w15 70 2 w2.heap.size w3.heap.size (.slice b1 R.length d1) R.length (cellsP R)) := OW14.out.below (hb15)
  have OG15 : Hid (OwnsR w15 70 2 w4.heap.size w5.heap.size (.slice g1 R.length k1) R.length (cellsP (mkP 1 R.length))) := OG14.out.below (hb15)
  clear B14 OW14 OG14
  clear hb15
  clear Q14
  go_wp2_with fail
  refine (heldPairS g1 R.length k1 1 _ hL (by omega) (by omega) OG15.out.src).mono ?_
  rintro e w16 ⟨rfl, hb16⟩
  rw [HE.out]
  have B16 : Hid (Below w.heap.size w w16) := B15.out.trans ((hb16).mono B15.out.size)
  have OW16 : Hid (OwnsR w16 70 2 w2.heap.size w3.heap.size (.slice b1 R.length d1) R.length (cellsP R)) := OW15.out.below (hb16)
  have OG16 : Hid (OwnsR w16 70 2 w4.heap.size w5.heap.size (.slice g1 R.length k1) R.length (cellsP (mkP 1 R.length))) := OG15.out.below (hb16)
  clear B15 OW15 OG15
  clear hb16
  go_wp2_with fail
  go_ret
  exact ⟨rfl, B16.out⟩
end Go.Proofs.YtmbndpgoihdpnaaGreatDoor.fnExactReplayAll
