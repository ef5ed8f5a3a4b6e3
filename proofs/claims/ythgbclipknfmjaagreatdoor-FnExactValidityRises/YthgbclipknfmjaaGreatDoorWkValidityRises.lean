
/-
  The walk of the law FnExactValidityRises.
  By an AI agent.
-/
import Derived.Test.YthgbclipknfmjaaGreatDoorVrq
namespace Go.Proofs.YthgbclipknfmjaaGreatDoor.fnExactValidityRises
open Go.ChangeShapes Go.WideShapes Go.ChangeAt Go.WideMaps Go.WideElems Go.RowKit Go.Deep
set_option linter.unusedVariables false

set_option maxHeartbeats 4000000 in
theorem walk (a0 : Option Addr) (c0 : Nat) (A : List PM) (a1 : Option Addr) (c1 : Nat) (B : List PM) (w : World) (h0 : Src w a0 (cellsP A)) (hm0 : A.length ≤ maxLen ∧ ∀ x ∈ A, x.1.size ≤ maxLen ∧ x.2.size ≤ maxLen) (h1 : Src w a1 (cellsP B)) (hm1 : B.length ≤ maxLen ∧ ∀ x ∈ B, x.1.size ≤ maxLen ∧ x.2.size ≤ maxLen) (hG : Gl w) (h8 : 8 ≤ w.heap.size) :
    Calls Tryz.prog 6 #[.slice a0 A.length c0, .slice a1 B.length c1] w fun e w' => e = .returned (.bool true) ∧ Below w.heap.size w w' := by
  obtain ⟨n, hn⟩ : ∃ n, A.length = n := ⟨_, rfl⟩
  obtain ⟨m, hm⟩ : ∃ m, B.length = m := ⟨_, rfl⟩
  have HN : Hid (A.length = n) := hn
  have HM : Hid (B.length = m) := hm
  have HR : Hid (Src w a0 (cellsP A)) := h0
  have HW : Hid (Src w a1 (cellsP B)) := h1
  have HMA : Hid (A.length ≤ maxLen ∧ ∀ x ∈ A, x.1.size ≤ maxLen ∧ x.2.size ≤ maxLen) := hm0
  have HMB : Hid (B.length ≤ maxLen ∧ ∀ x ∈ B, x.1.size ≤ maxLen ∧ x.2.size ≤ maxLen) := hm1
  have HG : Hid (Gl w) := hG
  have hnm : n ≤ maxLen := by rw [← hn]; exact hm0.1
  have hmm : m ≤ maxLen := by rw [← hm]; exact hm1.1
  obtain ⟨T, Q, hQ⟩ : ∃ T Q, vrM A B = (T, Q) := ⟨_, _, rfl⟩
  have HQ : Hid (vrM A B = (T, Q)) := hQ
  have hbe : (T != T) = false := by simp
  have hqe : (Q != Q) = false := by simp
  unfold maxLen at hnm hmm
  rw [hn, hm]
  clear hm0 h0 hn hG hQ hm1 h1 hm
  go_enter Tryz.func6, Tryz.ntmps6
  go_wp2_with fail
  refine (szPairS a0 n c0 A 1048576 _ HN.out (by unfold maxLen; omega) HMA.out.2 (by omega) (by omega) HR.out).mono ?_
  rintro e w1 ⟨r, rfl, hrl, hr, hb1⟩
  have B1 : Hid (Below w.heap.size w w1) := hb1
  clear hb1
  by_cases hneg : r < 0
  · clear hr
    go_wp2_with fail
    go_ret
    exact ⟨rfl, B1.out⟩
  have SA : Hid (n ≤ 1048576 ∧ ∀ x ∈ A, x.1.size ≤ 1048576 ∧ x.2.size ≤ 1048576) := (hr (by omega)).2
  have hsn : n ≤ 1048576 := SA.out.1
  clear hr
  go_wp2_with fail
  refine (szPairS a1 m c1 B r _ HM.out (by unfold maxLen; omega) HMB.out.2 (by omega) (by omega) (HW.out.below B1.out)).mono ?_
  rintro e w2 ⟨r2, rfl, hrl2, hr2, hb2⟩
  have B2 : Hid (Below w.heap.size w w2) := B1.out.trans (hb2.mono B1.out.size)
  clear hb2 B1
  by_cases hneg2 : r2 < 0
  · clear hr2
    go_wp2_with fail
    go_ret
    exact ⟨rfl, B2.out⟩
  have SB : Hid (m ≤ 1048576 ∧ ∀ x ∈ B, x.1.size ≤ 1048576 ∧ x.2.size ≤ 1048576) := (hr2 (by omega)).2
  have hsm : m ≤ 1048576 := SB.out.1
  clear hr2
  go_wp2_with fail
  refine (toPairS a0 n c0 A _ HN.out hsn (HR.out.below B2.out)).mono ?_
  rintro e w3 ⟨v3, rfl, own3, hb3⟩
  obtain ⟨e3, f3, rfl, s3, _⟩ := own_src own3
  have B3 : Hid (Below w.heap.size w w3) := B2.out.trans (hb3.mono B2.out.size)
  have P3 : Hid (Src w3 e3 (cellsP A)) := s3
  clear hb3 own3 s3
  go_wp2_with fail
  refine (toPairS a1 m c1 B _ HM.out hsm (HW.out.below B3.out)).mono ?_
  rintro e w4 ⟨v4, rfl, own4, hb4⟩
  obtain ⟨e4, f4, rfl, s4, _⟩ := own_src own4
  have B4 : Hid (Below w.heap.size w w4) := B3.out.trans (hb4.mono B3.out.size)
  have P4 : Hid (Src w4 e3 (cellsP A) ∧ Src w4 e4 (cellsP B)) := ⟨P3.out.below hb4, s4⟩
  clear hb4 own4 s4 P3
  go_wp2_with fail
  refine (specRisesX e3 n f3 A e4 m f4 B _ HN.out HM.out hsn hsm SA.out.2 SB.out.2 P4.out.1 P4.out.2 T Q HQ).mono ?_
  rintro e w5 ⟨rfl, hb5⟩
  have B5 : Hid (Below w.heap.size w w5) := B4.out.trans (hb5.mono B4.out.size)
  clear hb5 P4
  go_wp2_with fail
  refine (toPairS a0 n c0 A _ HN.out hsn (HR.out.below B5.out)).mono ?_
  rintro e w6 ⟨v6, rfl, own6, hb6⟩
  obtain ⟨e6, f6, rfl, s6, _⟩ := own_src own6
  have B6 : Hid (Below w.heap.size w w6) := B5.out.trans (hb6.mono B5.out.size)
  have P6 : Hid (Src w6 e6 (cellsP A)) := s6
  clear hb6 own6 s6
  go_wp2_with fail
  refine (toPairS a1 m c1 B _ HM.out hsm (HW.out.below B6.out)).mono ?_
  rintro e w7 ⟨v7, rfl, own7, hb7⟩
  obtain ⟨e7, f7, rfl, s7, _⟩ := own_src own7
  have B7 : Hid (Below w.heap.size w w7) := B6.out.trans (hb7.mono B6.out.size)
  have P7 : Hid (Src w7 e6 (cellsP A) ∧ Src w7 e7 (cellsP B)) := ⟨P6.out.below hb7, s7⟩
  clear hb7 own7 s7 P6
  go_wp2_with fail
  refine (implRisesX e6 n f6 A e7 m f7 B _ HN.out HM.out hsn hsm SA.out.2 SB.out.2 P7.out.1 P7.out.2 (HG.out.below h8 B7.out) (by have := B7.out.size; omega) T Q HQ).mono ?_
  rintro e w8 ⟨rfl, hb8⟩
  have B8 : Hid (Below w.heap.size w w8) := B7.out.trans (hb8.mono B7.out.size)
  have P8 : Hid (Src w8 e6 (cellsP A) ∧ Src w8 e7 (cellsP B)) := ⟨P7.out.1.below hb8, P7.out.2.below hb8⟩
  clear hb8 P7
  go_wp2_with fail
  refine (toPairS a0 n c0 A _ HN.out hsn (HR.out.below B8.out)).mono ?_
  rintro e w9 ⟨v9, rfl, own9, hb9⟩
  obtain ⟨e9, f9, rfl, s9, _⟩ := own_src own9
  have B9 : Hid (Below w.heap.size w w9) := B8.out.trans (hb9.mono B8.out.size)
  have P9 : Hid (Src w9 e6 (cellsP A) ∧ Src w9 e7 (cellsP B) ∧ Src w9 e9 (cellsP A)) := ⟨P8.out.1.below hb9, P8.out.2.below hb9, s9⟩
  clear hb9 own9 s9 P8
  go_wp2_with fail
  refine (eqPairS e6 e9 n f6 f9 A _ HN.out (by omega) P9.out.1 P9.out.2.2).mono ?_
  rintro e w10 ⟨rfl, hb10⟩
  have B10 : Hid (Below w.heap.size w w10) := B9.out.trans (hb10.mono B9.out.size)
  have P10 : Hid (Src w10 e7 (cellsP B)) := P9.out.2.1.below hb10
  clear hb10 P9
  go_wp2_with fail
  refine (toPairS a1 m c1 B _ HM.out hsm (HW.out.below B10.out)).mono ?_
  rintro e w11 ⟨v11, rfl, own11, hb11⟩
  obtain ⟨e11, f11, rfl, s11, _⟩ := own_src own11
  have B11 : Hid (Below w.heap.size w w11) := B10.out.trans (hb11.mono B10.out.size)
  have P11 : Hid (Src w11 e7 (cellsP B) ∧ Src w11 e11 (cellsP B)) := ⟨P10.out.below hb11, s11⟩
  clear hb11 own11 s11 P10
  go_wp2_with fail
  refine (eqPairS e7 e11 m f7 f11 B _ HM.out (by omega) P11.out.1 P11.out.2).mono ?_
  rintro e w12 ⟨rfl, hb12⟩
  have B12 : Hid (Below w.heap.size w w12) := B11.out.trans (hb12.mono B11.out.size)
  clear hb12
  go_wp2_with fail
  go_ret
  exact ⟨rfl, B12.out⟩
end Go.Proofs.YthgbclipknfmjaaGreatDoor.fnExactValidityRises
