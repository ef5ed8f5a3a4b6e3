/-
  The walk of the law FnExactRestoreUser.
  By an AI agent.
-/
import Derived.Test.YtbpgncgmolpkiaaGreatDoorMzu
namespace Go.Proofs.YtbpgncgmolpkiaaGreatDoor.fnExactRestoreUser
open Go.ChangeShapes Go.WideShapes Go.ChangeAt Go.WideMaps Go.WideElems Go.RowKit Go.Deep
open Go.ChangeMaps (open_string shut_string)
set_option linter.unusedVariables false

set_option maxHeartbeats 4000000 in
theorem walk (a0 : Option Addr) (c0 : Nat) (Nn : List PM) (a1 : Option Addr) (c1 : Nat) (Ls : List PM) (ux : ByteArray) (w : World) (h0 : Src w a0 (cellsP Nn)) (hm0 : Nn.length ≤ maxLen ∧ ∀ x ∈ Nn, x.1.size ≤ maxLen ∧ x.2.size ≤ maxLen) (h1 : Src w a1 (cellsP Ls)) (hm1 : Ls.length ≤ maxLen ∧ ∀ x ∈ Ls, x.1.size ≤ maxLen ∧ x.2.size ≤ maxLen) (h2 : ux.size ≤ maxLen) (hgx : Gl w) (h8 : 8 ≤ w.heap.size) :
    Calls Tryz.prog 6 #[.slice a0 Nn.length c0, .slice a1 Ls.length c1, .string ux] w fun e w' => e = .returned (.bool true) ∧ Below w.heap.size w w' := by
  have HGX : Hid (Gl w) := hgx
  clear hgx
  obtain ⟨n0, hn0⟩ : ∃ n, Nn.length = n := ⟨_, rfl⟩
  have HN0 : Hid (Nn.length = n0) := hn0
  have HR0 : Hid (Src w a0 (cellsP Nn)) := h0
  have HM0 : Hid (Nn.length ≤ maxLen ∧ ∀ x ∈ Nn, x.1.size ≤ maxLen ∧ x.2.size ≤ maxLen) := hm0
  have hnm0 : n0 ≤ maxLen := by rw [← hn0]; exact hm0.1
  unfold maxLen at hnm0
  rw [hn0]
  clear hm0 h0 hn0
  obtain ⟨n1, hn1⟩ : ∃ n, Ls.length = n := ⟨_, rfl⟩
  have HN1 : Hid (Ls.length = n1) := hn1
  have HR1 : Hid (Src w a1 (cellsP Ls)) := h1
  have HM1 : Hid (Ls.length ≤ maxLen ∧ ∀ x ∈ Ls, x.1.size ≤ maxLen ∧ x.2.size ≤ maxLen) := hm1
  have hnm1 : n1 ≤ maxLen := by rw [← hn1]; exact hm1.1
  unfold maxLen at hnm1
  rw [hn1]
  clear hm1 h1 hn1
  unfold maxLen at h2
  by_cases hb_ux : 1048576 < ux.size
  · go_enter Tryz.func6, Tryz.ntmps6
    go_wp2_with fail
    go_ret
    exact ⟨rfl, Below.refl _ _⟩
  have hs_ux : ux.size ≤ 1048576 := by omega
  go_enter Tryz.func6, Tryz.ntmps6
  go_wp2_with fail
  have B0 : Hid (Below w.heap.size w w) := Below.refl _ _
  refine (szPairS a0 n0 c0 Nn 1048576 _ HN0.out (by unfold maxLen; omega) HM0.out.2 (by omega) (by omega) (HR0.out.below B0.out)).mono ?_
  rintro e w1 ⟨r0, rfl, hrl0, hr0, hb1⟩
  have B1 : Hid (Below w.heap.size w w1) := B0.out.trans ((hb1).mono B0.out.size)
  clear B0
  clear hb1
  by_cases hneg0 : r0 < 0
  · clear hr0
    go_wp2_with fail
    go_ret
    exact ⟨rfl, B1.out⟩
  have SM0 : Hid (n0 ≤ 1048576 ∧ ∀ x ∈ Nn, x.1.size ≤ 1048576 ∧ x.2.size ≤ 1048576) := (hr0 (by omega)).2
  have hsm0 : n0 ≤ 1048576 := SM0.out.1
  clear hr0
  go_wp2_with fail
  refine (szPairS a1 n1 c1 Ls r0 _ HN1.out (by unfold maxLen; omega) HM1.out.2 (by omega) (by omega) (HR1.out.below B1.out)).mono ?_
  rintro e w2 ⟨r1, rfl, hrl1, hr1, hb2⟩
  have B2 : Hid (Below w.heap.size w w2) := B1.out.trans ((hb2).mono B1.out.size)
  clear B1
  clear hb2
  by_cases hneg1 : r1 < 0
  · clear hr1
    go_wp2_with fail
    go_ret
    exact ⟨rfl, B2.out⟩
  have SM1 : Hid (n1 ≤ 1048576 ∧ ∀ x ∈ Ls, x.1.size ≤ 1048576 ∧ x.2.size ≤ 1048576) := (hr1 (by omega)).2
  have hsm1 : n1 ≤ 1048576 := SM1.out.1
  clear hr1
  have BZ : Hid (w.heap.size ≤ w2.heap.size) := B2.out.size
  go_wp2_with fail
  refine (toPairS a0 n0 c0 Nn _ HN0.out hsm0 (HR0.out.below B2.out)).mono ?_
  rintro e w3 ⟨v3, rfl, own3, hb3⟩
  obtain ⟨e3, f3, rfl, s3, _⟩ := own_src own3
  have B3 : Hid (Below w.heap.size w w3) := B2.out.trans ((hb3).mono B2.out.size)
  clear B2
  have CP3 : Hid (n0 ≤ f3 ∧ f3 ≤ maxLen) := own_capx own3
  have Z3 : Hid (w2.heap.size ≤ w3.heap.size) := hb3.size
  have Q3x3 : Hid (Src w3 e3 (cellsP Nn)) := s3
  clear hb3 own3 s3
  go_wp2_with fail
  refine (toPairS a1 n1 c1 Ls _ HN1.out hsm1 (HR1.out.below B3.out)).mono ?_
  rintro e w4 ⟨v4, rfl, own4, hb4⟩
  obtain ⟨e4, f4, rfl, s4, _⟩ := own_src own4
  have B4 : Hid (Below w.heap.size w w4) := B3.out.trans ((hb4).mono B3.out.size)
  have Q3x4 : Hid (Src w4 e3 (cellsP Nn)) := Q3x3.out.below (hb4)
  clear B3 Q3x3
  have CP4 : Hid (n1 ≤ f4 ∧ f4 ≤ maxLen) := own_capx own4
  have Z4 : Hid (w3.heap.size ≤ w4.heap.size) := hb4.size
  have Q4x4 : Hid (Src w4 e4 (cellsP Ls)) := s4
  clear hb4 own4 s4
  go_wp2_with fail
  refine (specRestoreUserL e3 n0 f3 Nn e4 n1 f4 Ls ux _ HN0.out hsm0 SM0.out.2 HN1.out hsm1 SM1.out.2 CP3.out hs_ux Q3x4.out Q4x4.out).mono ?_
  rintro e w5 ⟨u5, R, q, rfl, heq, own5, hb5⟩
  obtain ⟨b1, d1, rfl, _, _⟩ := own_src own5
  have B5 : Hid (Below w.heap.size w w5) := B4.out.trans ((hb5).mono B4.out.size)
  have Q3x5 : Hid (Src w5 e3 (cellsP Nn)) := Q3x4.out.below (hb5)
  have Q4x5 : Hid (Src w5 e4 (cellsP Ls)) := Q4x4.out.below (hb5)
  clear B4 Q3x4 Q4x4
  have OW5 : Hid (OwnsR w5 47 2 w4.heap.size w5.heap.size (.slice b1 R.length d1) R.length (cellsP R)) := OwnsR.mk own5 (Nat.le_refl _)
  have Z5 : Hid (w4.heap.size ≤ w5.heap.size) := hb5.size
  have HEQ : Hid (lawM2 (ruR Nn Ls ux) (raskM Nn Ls [ux]) = (R, q)) := heq
  have hL : R.length ≤ 1048576 := ruR_small heq
  clear hb5 own5 heq
  clear Q3x5
  clear Q4x5
  go_wp2_with fail
  refine (toPairS a0 n0 c0 Nn _ HN0.out hsm0 (HR0.out.below B5.out)).mono ?_
  rintro e w6 ⟨v6, rfl, own6, hb6⟩
  obtain ⟨e6, f6, rfl, s6, _⟩ := own_src own6
  have B6 : Hid (Below w.heap.size w w6) := B5.out.trans ((hb6).mono B5.out.size)
  have OW6 : Hid (OwnsR w6 47 2 w4.heap.size w5.heap.size (.slice b1 R.length d1) R.length (cellsP R)) := OW5.out.below (hb6)
  clear B5 OW5
  have CP6 : Hid (n0 ≤ f6 ∧ f6 ≤ maxLen) := own_capx own6
  have Z6 : Hid (w5.heap.size ≤ w6.heap.size) := hb6.size
  have OXa6 : Hid (OwnsR w6 47 2 w5.heap.size w6.heap.size (.slice e6 n0 f6) n0 (cellsP Nn)) := OwnsR.mk own6 (Nat.le_refl _)
  clear hb6 own6 s6
  go_wp2_with fail
  refine (toPairS a1 n1 c1 Ls _ HN1.out hsm1 (HR1.out.below B6.out)).mono ?_
  rintro e w7 ⟨v7, rfl, own7, hb7⟩
  obtain ⟨e7, f7, rfl, s7, _⟩ := own_src own7
  have B7 : Hid (Below w.heap.size w w7) := B6.out.trans ((hb7).mono B6.out.size)
  have OW7 : Hid (OwnsR w7 47 2 w4.heap.size w5.heap.size (.slice b1 R.length d1) R.length (cellsP R)) := OW6.out.below (hb7)
  have OXa7 : Hid (OwnsR w7 47 2 w5.heap.size w6.heap.size (.slice e6 n0 f6) n0 (cellsP Nn)) := OXa6.out.below (hb7)
  clear B6 OW6 OXa6
  have CP7 : Hid (n1 ≤ f7 ∧ f7 ≤ maxLen) := own_capx own7
  have Z7 : Hid (w6.heap.size ≤ w7.heap.size) := hb7.size
  have OXb7 : Hid (OwnsR w7 47 2 w6.heap.size w7.heap.size (.slice e7 n1 f7) n1 (cellsP Ls)) := OwnsR.mk own7 (Nat.le_refl _)
  clear hb7 own7 s7
  go_wp2_with fail
  refine (implRestoreUserL e6 n0 f6 Nn e7 n1 f7 Ls ux _ HN0.out hsm0 SM0.out.2 HN1.out hsm1 SM1.out.2 hs_ux (HGX.out.below h8 B7.out) (by have := B7.out.size; omega) OXa7.out.src OXb7.out.src).mono ?_
  rintro e w8 ⟨u8, R', q', rfl, heq, own8, hb8⟩
  obtain ⟨rfl, rfl⟩ : R = R' ∧ q = q' := by have h2 := HEQ.out.symm.trans heq; simpa using h2
  clear heq
  obtain ⟨g1, k1, rfl, _, _⟩ := own_src own8
  have B8 : Hid (Below w.heap.size w w8) := B7.out.trans ((hb8).mono B7.out.size)
  have OW8 : Hid (OwnsR w8 47 2 w4.heap.size w5.heap.size (.slice b1 R.length d1) R.length (cellsP R)) := OW7.out.below (hb8)
  have OXa8 : Hid (OwnsR w8 47 2 w5.heap.size w6.heap.size (.slice e6 n0 f6) n0 (cellsP Nn)) := OXa7.out.below (hb8)
  have OXb8 : Hid (OwnsR w8 47 2 w6.heap.size w7.heap.size (.slice e7 n1 f7) n1 (cellsP Ls)) := OXb7.out.below (hb8)
  clear B7 OW7 OXa7 OXb7
  have Z8 : Hid (w7.heap.size ≤ w8.heap.size) := hb8.size
  have OG8 : Hid (OwnsR w8 47 2 w7.heap.size w8.heap.size (.slice g1 R.length k1) R.length (cellsP R)) := OwnsR.mk own8 (Nat.le_refl _)
  clear hb8 own8
  have hcc : (q != q) = false := by simp
  go_wp2_with fail
  refine (eqPairS g1 b1 R.length k1 d1 R _ rfl (by omega) OG8.out.src OW8.out.src).mono ?_
  rintro e w9 ⟨rfl, hb9⟩
  have B9 : Hid (Below w.heap.size w w9) := B8.out.trans ((hb9).mono B8.out.size)
  have OW9 : Hid (OwnsR w9 47 2 w4.heap.size w5.heap.size (.slice b1 R.length d1) R.length (cellsP R)) := OW8.out.below (hb9)
  have OXa9 : Hid (OwnsR w9 47 2 w5.heap.size w6.heap.size (.slice e6 n0 f6) n0 (cellsP Nn)) := OXa8.out.below (hb9)
  have OXb9 : Hid (OwnsR w9 47 2 w6.heap.size w7.heap.size (.slice e7 n1 f7) n1 (cellsP Ls)) := OXb8.out.below (hb9)
  have OG9 : Hid (OwnsR w9 47 2 w7.heap.size w8.heap.size (.slice g1 R.length k1) R.length (cellsP R)) := OG8.out.below (hb9)
  clear B8 OW8 OXa8 OXb8 OG8
  clear hb9
  go_wp2_with fail
  refine (toPairS a0 n0 c0 Nn _ HN0.out hsm0 (HR0.out.below B9.out)).mono ?_
  rintro e w10 ⟨v10, rfl, own10, hb10⟩
  obtain ⟨e10, f10, rfl, s10, _⟩ := own_src own10
  have B10 : Hid (Below w.heap.size w w10) := B9.out.trans ((hb10).mono B9.out.size)
  have OW10 : Hid (OwnsR w10 47 2 w4.heap.size w5.heap.size (.slice b1 R.length d1) R.length (cellsP R)) := OW9.out.below (hb10)
  have OXa10 : Hid (OwnsR w10 47 2 w5.heap.size w6.heap.size (.slice e6 n0 f6) n0 (cellsP Nn)) := OXa9.out.below (hb10)
  have OXb10 : Hid (OwnsR w10 47 2 w6.heap.size w7.heap.size (.slice e7 n1 f7) n1 (cellsP Ls)) := OXb9.out.below (hb10)
  have OG10 : Hid (OwnsR w10 47 2 w7.heap.size w8.heap.size (.slice g1 R.length k1) R.length (cellsP R)) := OG9.out.below (hb10)
  clear B9 OW9 OXa9 OXb9 OG9
  have CP10 : Hid (n0 ≤ f10 ∧ f10 ≤ maxLen) := own_capx own10
  have Z10 : Hid (w9.heap.size ≤ w10.heap.size) := hb10.size
  have Q10x10 : Hid (Src w10 e10 (cellsP Nn)) := s10
  clear hb10 own10 s10
  go_wp2_with fail
  refine (eqPairS e6 e10 n0 f6 f10 Nn _ HN0.out (by omega) OXa10.out.src Q10x10.out).mono ?_
  rintro e w11 ⟨rfl, hb11⟩
  have B11 : Hid (Below w.heap.size w w11) := B10.out.trans ((hb11).mono B10.out.size)
  have OW11 : Hid (OwnsR w11 47 2 w4.heap.size w5.heap.size (.slice b1 R.length d1) R.length (cellsP R)) := OW10.out.below (hb11)
  have OXa11 : Hid (OwnsR w11 47 2 w5.heap.size w6.heap.size (.slice e6 n0 f6) n0 (cellsP Nn)) := OXa10.out.below (hb11)
  have OXb11 : Hid (OwnsR w11 47 2 w6.heap.size w7.heap.size (.slice e7 n1 f7) n1 (cellsP Ls)) := OXb10.out.below (hb11)
  have OG11 : Hid (OwnsR w11 47 2 w7.heap.size w8.heap.size (.slice g1 R.length k1) R.length (cellsP R)) := OG10.out.below (hb11)
  have Q10x11 : Hid (Src w11 e10 (cellsP Nn)) := Q10x10.out.below (hb11)
  clear B10 OW10 OXa10 OXb10 OG10 Q10x10
  clear hb11
  clear Q10x11
  go_wp2_with fail
  refine (toPairS a1 n1 c1 Ls _ HN1.out hsm1 (HR1.out.below B11.out)).mono ?_
  rintro e w12 ⟨v12, rfl, own12, hb12⟩
  obtain ⟨e12, f12, rfl, s12, _⟩ := own_src own12
  have B12 : Hid (Below w.heap.size w w12) := B11.out.trans ((hb12).mono B11.out.size)
  have OW12 : Hid (OwnsR w12 47 2 w4.heap.size w5.heap.size (.slice b1 R.length d1) R.length (cellsP R)) := OW11.out.below (hb12)
  have OXa12 : Hid (OwnsR w12 47 2 w5.heap.size w6.heap.size (.slice e6 n0 f6) n0 (cellsP Nn)) := OXa11.out.below (hb12)
  have OXb12 : Hid (OwnsR w12 47 2 w6.heap.size w7.heap.size (.slice e7 n1 f7) n1 (cellsP Ls)) := OXb11.out.below (hb12)
  have OG12 : Hid (OwnsR w12 47 2 w7.heap.size w8.heap.size (.slice g1 R.length k1) R.length (cellsP R)) := OG11.out.below (hb12)
  clear B11 OW11 OXa11 OXb11 OG11
  have CP12 : Hid (n1 ≤ f12 ∧ f12 ≤ maxLen) := own_capx own12
  have Z12 : Hid (w11.heap.size ≤ w12.heap.size) := hb12.size
  have Q12x12 : Hid (Src w12 e12 (cellsP Ls)) := s12
  clear hb12 own12 s12
  go_wp2_with fail
  refine (eqPairS e7 e12 n1 f7 f12 Ls _ HN1.out (by omega) OXb12.out.src Q12x12.out).mono ?_
  rintro e w13 ⟨rfl, hb13⟩
  have B13 : Hid (Below w.heap.size w w13) := B12.out.trans ((hb13).mono B12.out.size)
  have OW13 : Hid (OwnsR w13 47 2 w4.heap.size w5.heap.size (.slice b1 R.length d1) R.length (cellsP R)) := OW12.out.below (hb13)
  have OXa13 : Hid (OwnsR w13 47 2 w5.heap.size w6.heap.size (.slice e6 n0 f6) n0 (cellsP Nn)) := OXa12.out.below (hb13)
  have OXb13 : Hid (OwnsR w13 47 2 w6.heap.size w7.heap.size (.slice e7 n1 f7) n1 (cellsP Ls)) := OXb12.out.below (hb13)
  have OG13 : Hid (OwnsR w13 47 2 w7.heap.size w8.heap.size (.slice g1 R.length k1) R.length (cellsP R)) := OG12.out.below (hb13)
  have Q12x13 : Hid (Src w13 e12 (cellsP Ls)) := Q12x12.out.below (hb13)
  clear B12 OW12 OXa12 OXb12 OG12 Q12x12
  clear hb13
  clear Q12x13
  go_wp2_with fail
  refine (markPairS _ n0 1 w5.heap.size (cellsP Nn) _ hsm0 (by omega) (by omega) OXa13.out.1).mono ?_
  rintro e w14 ⟨rfl, G14, m14⟩
  have T14 : Turned w5.heap.size w6.heap.size w13 w14 := Turned.of_grown G14 (fun k e => ⟨(OXa13.out.1.lt k e).1, OXa13.out.2 k e⟩)
  have B14 : Hid (Below w.heap.size w w14) := Below.turned B13.out T14 (Nat.le_refl _) (by have := Z3.out; have := Z4.out; have := Z5.out; have := Z6.out; have := Z7.out; have := Z8.out; have := Z10.out; have := Z12.out; have := BZ.out; omega)
  have OW14 : Hid (OwnsR w14 47 2 w4.heap.size w5.heap.size (.slice b1 R.length d1) R.length (cellsP R)) := OW13.out.turned T14 (by have := Z3.out; have := Z4.out; have := Z5.out; have := Z6.out; have := Z7.out; have := Z8.out; have := Z10.out; have := Z12.out; have := BZ.out; omega)
  have OXb14 : Hid (OwnsR w14 47 2 w6.heap.size w7.heap.size (.slice e7 n1 f7) n1 (cellsP Ls)) := OXb13.out.turned T14 (by have := Z3.out; have := Z4.out; have := Z5.out; have := Z6.out; have := Z7.out; have := Z8.out; have := Z10.out; have := Z12.out; have := BZ.out; omega)
  have OG14 : Hid (OwnsR w14 47 2 w7.heap.size w8.heap.size (.slice g1 R.length k1) R.length (cellsP R)) := OG13.out.turned T14 (by have := Z3.out; have := Z4.out; have := Z5.out; have := Z6.out; have := Z7.out; have := Z8.out; have := Z10.out; have := Z12.out; have := BZ.out; omega)
  clear B13 OW13 OXb13 OG13
  clear T14 G14 m14 OXa13
  obtain ⟨E0, hE0⟩ : ∃ E : Nat, 1 + n0 * 2 = E := ⟨_, rfl⟩
  rw [hE0]
  have hbE0 : 0 < E0 ∧ E0 ≤ 4194304 := by omega
  clear hE0
  go_wp2_with fail
  refine (markPairS _ n1 E0 w6.heap.size (cellsP Ls) _ hsm1 (by omega) (by omega) OXb14.out.1).mono ?_
  rintro e w15 ⟨rfl, G15, m15⟩
  have T15 : Turned w6.heap.size w7.heap.size w14 w15 := Turned.of_grown G15 (fun k e => ⟨(OXb14.out.1.lt k e).1, OXb14.out.2 k e⟩)
  have B15 : Hid (Below w.heap.size w w15) := Below.turned B14.out T15 (Nat.le_refl _) (by have := Z3.out; have := Z4.out; have := Z5.out; have := Z6.out; have := Z7.out; have := Z8.out; have := Z10.out; have := Z12.out; have := BZ.out; omega)
  have OW15 : Hid (OwnsR w15 47 2 w4.heap.size w5.heap.size (.slice b1 R.length d1) R.length (cellsP R)) := OW14.out.turned T15 (by have := Z3.out; have := Z4.out; have := Z5.out; have := Z6.out; have := Z7.out; have := Z8.out; have := Z10.out; have := Z12.out; have := BZ.out; omega)
  have OG15 : Hid (OwnsR w15 47 2 w7.heap.size w8.heap.size (.slice g1 R.length k1) R.length (cellsP R)) := OG14.out.turned T15 (by have := Z3.out; have := Z4.out; have := Z5.out; have := Z6.out; have := Z7.out; have := Z8.out; have := Z10.out; have := Z12.out; have := BZ.out; omega)
  clear B14 OW14 OG14
  clear T15 G15 m15 OXb14
  obtain ⟨E1, hE1⟩ : ∃ E : Nat, E0 + n1 * 2 = E := ⟨_, rfl⟩
  rw [hE1]
  have hbE1 : 0 < E1 ∧ E1 ≤ 16777216 := by omega
  clear hE1
  have hk1 : decide (((E1 : Nat) : Int) < 0) = false := by simp
  go_wp2_with fail
  refine (eqPairS g1 b1 R.length k1 d1 R _ rfl (by omega) OG15.out.src OW15.out.src).mono ?_
  rintro e w16 ⟨rfl, hb16⟩
  have B16 : Hid (Below w.heap.size w w16) := B15.out.trans ((hb16).mono B15.out.size)
  have OW16 : Hid (OwnsR w16 47 2 w4.heap.size w5.heap.size (.slice b1 R.length d1) R.length (cellsP R)) := OW15.out.below (hb16)
  have OG16 : Hid (OwnsR w16 47 2 w7.heap.size w8.heap.size (.slice g1 R.length k1) R.length (cellsP R)) := OG15.out.below (hb16)
  clear B15 OW15 OG15
  clear hb16
  go_wp2_with fail
  refine (markPairS _ R.length 1 w7.heap.size (cellsP R) _ hL (by omega) (by omega) OG16.out.1).mono ?_
  rintro e w17 ⟨rfl, G17, m17⟩
  have T17 : Turned w7.heap.size w8.heap.size w16 w17 := Turned.of_grown G17 (fun k e => ⟨(OG16.out.1.lt k e).1, OG16.out.2 k e⟩)
  have B17 : Hid (Below w.heap.size w w17) := Below.turned B16.out T17 (Nat.le_refl _) (by have := Z3.out; have := Z4.out; have := Z5.out; have := Z6.out; have := Z7.out; have := Z8.out; have := Z10.out; have := Z12.out; have := BZ.out; omega)
  have OW17 : Hid (OwnsR w17 47 2 w4.heap.size w5.heap.size (.slice b1 R.length d1) R.length (cellsP R)) := OW16.out.turned T17 (by have := Z3.out; have := Z4.out; have := Z5.out; have := Z6.out; have := Z7.out; have := Z8.out; have := Z10.out; have := Z12.out; have := BZ.out; omega)
  clear B16 OW16
  have OG17 : Hid (OwnsR w17 47 2 w7.heap.size w8.heap.size (.slice g1 R.length k1) R.length (cellsP (mkP 1 R.length))) := ⟨m17, OG16.out.2⟩
  clear T17 G17 m17 OG16
  obtain ⟨E, hE⟩ : ∃ E : Nat, 1 + R.length * 2 = E := ⟨_, rfl⟩
  rw [hE]
  have HE : Hid (1 + R.length * 2 = E) := hE
  clear hE hk1
  have hk2 : decide (((E : Nat) : Int) < 0) = false := by simp
  have hk3 : (((E : Nat) : Int) != ((E : Nat) : Int)) = false := by simp
  go_wp2_with fail
  refine (heldPairS g1 R.length k1 1 _ hL (by omega) (by omega) OG17.out.src).mono ?_
  rintro e w18 ⟨rfl, hb18⟩
  rw [HE.out]
  have B18 : Hid (Below w.heap.size w w18) := B17.out.trans ((hb18).mono B17.out.size)
  have OW18 : Hid (OwnsR w18 47 2 w4.heap.size w5.heap.size (.slice b1 R.length d1) R.length (cellsP R)) := OW17.out.below (hb18)
  have OG18 : Hid (OwnsR w18 47 2 w7.heap.size w8.heap.size (.slice g1 R.length k1) R.length (cellsP (mkP 1 R.length))) := OG17.out.below (hb18)
  clear B17 OW17 OG17
  clear hb18
  go_wp2_with fail
  refine (toPairS a0 n0 c0 Nn _ HN0.out hsm0 (HR0.out.below B18.out)).mono ?_
  rintro e w19 ⟨v19, rfl, own19, hb19⟩
  obtain ⟨e19, f19, rfl, s19, _⟩ := own_src own19
  have B19 : Hid (Below w.heap.size w w19) := B18.out.trans ((hb19).mono B18.out.size)
  have OW19 : Hid (OwnsR w19 47 2 w4.heap.size w5.heap.size (.slice b1 R.length d1) R.length (cellsP R)) := OW18.out.below (hb19)
  have OG19 : Hid (OwnsR w19 47 2 w7.heap.size w8.heap.size (.slice g1 R.length k1) R.length (cellsP (mkP 1 R.length))) := OG18.out.below (hb19)
  clear B18 OW18 OG18
  have CP19 : Hid (n0 ≤ f19 ∧ f19 ≤ maxLen) := own_capx own19
  have Z19 : Hid (w18.heap.size ≤ w19.heap.size) := hb19.size
  have Q19x19 : Hid (Src w19 e19 (cellsP Nn)) := s19
  clear hb19 own19 s19
  go_wp2_with fail
  refine (toPairS a1 n1 c1 Ls _ HN1.out hsm1 (HR1.out.below B19.out)).mono ?_
  rintro e w20 ⟨v20, rfl, own20, hb20⟩
  obtain ⟨e20, f20, rfl, s20, _⟩ := own_src own20
  have B20 : Hid (Below w.heap.size w w20) := B19.out.trans ((hb20).mono B19.out.size)
  have OW20 : Hid (OwnsR w20 47 2 w4.heap.size w5.heap.size (.slice b1 R.length d1) R.length (cellsP R)) := OW19.out.below (hb20)
  have OG20 : Hid (OwnsR w20 47 2 w7.heap.size w8.heap.size (.slice g1 R.length k1) R.length (cellsP (mkP 1 R.length))) := OG19.out.below (hb20)
  have Q19x20 : Hid (Src w20 e19 (cellsP Nn)) := Q19x19.out.below (hb20)
  clear B19 OW19 OG19 Q19x19
  have CP20 : Hid (n1 ≤ f20 ∧ f20 ≤ maxLen) := own_capx own20
  have Z20 : Hid (w19.heap.size ≤ w20.heap.size) := hb20.size
  have Q20x20 : Hid (Src w20 e20 (cellsP Ls)) := s20
  clear hb20 own20 s20
  go_wp2_with fail
  refine (implRestoreUserL e19 n0 f19 Nn e20 n1 f20 Ls ux _ HN0.out hsm0 SM0.out.2 HN1.out hsm1 SM1.out.2 hs_ux (HGX.out.below h8 B20.out) (by have := B20.out.size; omega) Q19x20.out Q20x20.out).mono ?_
  rintro e w21 ⟨u21, R', q', rfl, heq, own21, hb21⟩
  obtain ⟨rfl, rfl⟩ : R = R' ∧ q = q' := by have h2 := HEQ.out.symm.trans heq; simpa using h2
  obtain ⟨m1, n1, rfl, s21, _⟩ := own_src own21
  have B21 : Hid (Below w.heap.size w w21) := B20.out.trans ((hb21).mono B20.out.size)
  have OW21 : Hid (OwnsR w21 47 2 w4.heap.size w5.heap.size (.slice b1 R.length d1) R.length (cellsP R)) := OW20.out.below (hb21)
  have OG21 : Hid (OwnsR w21 47 2 w7.heap.size w8.heap.size (.slice g1 R.length k1) R.length (cellsP (mkP 1 R.length))) := OG20.out.below (hb21)
  have Q19x21 : Hid (Src w21 e19 (cellsP Nn)) := Q19x20.out.below (hb21)
  have Q20x21 : Hid (Src w21 e20 (cellsP Ls)) := Q20x20.out.below (hb21)
  clear B20 OW20 OG20 Q19x20 Q20x20
  have QF : Hid (Src w21 m1 (cellsP R)) := s21
  clear heq hb21 own21 s21
  clear Q19x21
  clear Q20x21
  go_wp2_with fail
  refine (eqPairS m1 b1 R.length n1 d1 R _ rfl (by omega) QF.out OW21.out.src).mono ?_
  rintro e w22 ⟨rfl, hb22⟩
  have B22 : Hid (Below w.heap.size w w22) := B21.out.trans ((hb22).mono B21.out.size)
  have OW22 : Hid (OwnsR w22 47 2 w4.heap.size w5.heap.size (.slice b1 R.length d1) R.length (cellsP R)) := OW21.out.below (hb22)
  have OG22 : Hid (OwnsR w22 47 2 w7.heap.size w8.heap.size (.slice g1 R.length k1) R.length (cellsP (mkP 1 R.length))) := OG21.out.below (hb22)
  clear B21 OW21 OG21
  clear hb22
  go_wp2_with fail
  refine (heldPairS g1 R.length k1 1 _ hL (by omega) (by omega) OG22.out.src).mono ?_
  rintro e w23 ⟨rfl, hb23⟩
  rw [HE.out]
  have B23 : Hid (Below w.heap.size w w23) := B22.out.trans ((hb23).mono B22.out.size)
  have OW23 : Hid (OwnsR w23 47 2 w4.heap.size w5.heap.size (.slice b1 R.length d1) R.length (cellsP R)) := OW22.out.below (hb23)
  have OG23 : Hid (OwnsR w23 47 2 w7.heap.size w8.heap.size (.slice g1 R.length k1) R.length (cellsP (mkP 1 R.length))) := OG22.out.below (hb23)
  clear B22 OW22 OG22
  clear hb23
  go_wp2_with fail
  go_ret
  exact ⟨rfl, B23.out⟩
end Go.Proofs.YtbpgncgmolpkiaaGreatDoor.fnExactRestoreUser
