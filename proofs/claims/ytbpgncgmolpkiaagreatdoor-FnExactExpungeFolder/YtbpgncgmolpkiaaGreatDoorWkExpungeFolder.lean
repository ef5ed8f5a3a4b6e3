/-
  The walk of the law FnExactExpungeFolder.
  By an AI agent.
-/
import Derived.Test.YtbpgncgmolpkiaaGreatDoorMzx
namespace Go.Proofs.YtbpgncgmolpkiaaGreatDoor.fnExactExpungeFolder
open Go.ChangeShapes Go.WideShapes Go.ChangeAt Go.WideMaps Go.WideElems Go.RowKit Go.Deep
open Go.ChangeMaps (open_string shut_string)
set_option linter.unusedVariables false

set_option maxHeartbeats 4000000 in
theorem walk (a0 : Option Addr) (c0 : Nat) (L : List PM) (ux : ByteArray) (py : ByteArray) (w : World) (h0 : Src w a0 (cellsP L)) (hm0 : L.length ≤ maxLen ∧ ∀ x ∈ L, x.1.size ≤ maxLen ∧ x.2.size ≤ maxLen) (h1 : ux.size ≤ maxLen) (h2 : py.size ≤ maxLen) (hgx : Gl w) (h8 : 8 ≤ w.heap.size) :
    Calls Tryz.prog 4 #[.slice a0 L.length c0, .string ux, .string py] w fun e w' => e = .returned (.bool true) ∧ Below w.heap.size w w' := by
  have HGX : Hid (Gl w) := hgx
  clear hgx
  obtain ⟨n0, hn0⟩ : ∃ n, L.length = n := ⟨_, rfl⟩
  have HN0 : Hid (L.length = n0) := hn0
  have HR0 : Hid (Src w a0 (cellsP L)) := h0
  have HM0 : Hid (L.length ≤ maxLen ∧ ∀ x ∈ L, x.1.size ≤ maxLen ∧ x.2.size ≤ maxLen) := hm0
  have hnm0 : n0 ≤ maxLen := by rw [← hn0]; exact hm0.1
  unfold maxLen at hnm0
  rw [hn0]
  clear hm0 h0 hn0
  unfold maxLen at h1
  by_cases hb_ux : 1048576 < ux.size
  · go_enter Tryz.func4, Tryz.ntmps4
    go_wp2_with fail
    go_ret
    exact ⟨rfl, Below.refl _ _⟩
  have hs_ux : ux.size ≤ 1048576 := by omega
  unfold maxLen at h2
  by_cases hb_py : 1048576 < py.size
  · go_enter Tryz.func4, Tryz.ntmps4
    go_wp2_with fail
    go_ret
    exact ⟨rfl, Below.refl _ _⟩
  have hs_py : py.size ≤ 1048576 := by omega
  go_enter Tryz.func4, Tryz.ntmps4
  go_wp2_with fail
  have B0 : Hid (Below w.heap.size w w) := Below.refl _ _
  refine (szPairS a0 n0 c0 L 1048576 _ HN0.out (by unfold maxLen; omega) HM0.out.2 (by omega) (by omega) (HR0.out.below B0.out)).mono ?_
  rintro e w1 ⟨r0, rfl, hrl0, hr0, hb1⟩
  have B1 : Hid (Below w.heap.size w w1) := B0.out.trans ((hb1).mono B0.out.size)
  clear B0
  clear hb1
  by_cases hneg0 : r0 < 0
  · clear hr0
    go_wp2_with fail
    go_ret
    exact ⟨rfl, B1.out⟩
  have SM0 : Hid (n0 ≤ 1048576 ∧ ∀ x ∈ L, x.1.size ≤ 1048576 ∧ x.2.size ≤ 1048576) := (hr0 (by omega)).2
  have hsm0 : n0 ≤ 1048576 := SM0.out.1
  clear hr0
  have BZ : Hid (w.heap.size ≤ w1.heap.size) := B1.out.size
  go_wp2_with fail
  refine (toPairS a0 n0 c0 L _ HN0.out hsm0 (HR0.out.below B1.out)).mono ?_
  rintro e w2 ⟨v2, rfl, own2, hb2⟩
  obtain ⟨e2, f2, rfl, s2, _⟩ := own_src own2
  have B2 : Hid (Below w.heap.size w w2) := B1.out.trans ((hb2).mono B1.out.size)
  clear B1
  have CP2 : Hid (n0 ≤ f2 ∧ f2 ≤ maxLen) := own_capx own2
  have Z2 : Hid (w1.heap.size ≤ w2.heap.size) := hb2.size
  have Q2x2 : Hid (Src w2 e2 (cellsP L)) := s2
  clear hb2 own2 s2
  go_wp2_with fail
  refine (specExpungeFolderL e2 n0 f2 L ux py _ HN0.out hsm0 SM0.out.2 hs_ux hs_py Q2x2.out).mono ?_
  rintro e w3 ⟨u3, t3, R, G, q, rfl, heq, own3, owm3, hb3⟩
  obtain ⟨b1, d1, rfl, _, _⟩ := own_src own3
  obtain ⟨b2, d2, rfl, _, _⟩ := own_src owm3
  have B3 : Hid (Below w.heap.size w w3) := B2.out.trans ((hb3).mono B2.out.size)
  have Q2x3 : Hid (Src w3 e2 (cellsP L)) := Q2x2.out.below (hb3)
  clear B2 Q2x2
  have OW3 : Hid (OwnsR w3 47 2 w2.heap.size w3.heap.size (.slice b1 R.length d1) R.length (cellsP R)) := OwnsR.mk own3 (Nat.le_refl _)
  have OV3 : Hid (OwnsR w3 3 1 w2.heap.size w3.heap.size (.slice b2 G.length d2) G.length (cellsI G)) := OwnsR.mk owm3 (Nat.le_refl _)
  have Z3 : Hid (w2.heap.size ≤ w3.heap.size) := hb3.size
  have HEQ : Hid (eR L ux py = (R, G, q)) := heq
  have hL : R.length ≤ 1048576 ∧ G.length ≤ 1048576 := eR_small heq
  obtain ⟨hL, hL2⟩ := hL
  clear hb3 own3 owm3 heq
  clear Q2x3
  go_wp2_with fail
  refine (toPairS a0 n0 c0 L _ HN0.out hsm0 (HR0.out.below B3.out)).mono ?_
  rintro e w4 ⟨v4, rfl, own4, hb4⟩
  obtain ⟨e4, f4, rfl, s4, _⟩ := own_src own4
  have B4 : Hid (Below w.heap.size w w4) := B3.out.trans ((hb4).mono B3.out.size)
  have OW4 : Hid (OwnsR w4 47 2 w2.heap.size w3.heap.size (.slice b1 R.length d1) R.length (cellsP R)) := OW3.out.below (hb4)
  have OV4 : Hid (OwnsR w4 3 1 w2.heap.size w3.heap.size (.slice b2 G.length d2) G.length (cellsI G)) := OV3.out.below (hb4)
  clear B3 OW3 OV3
  have CP4 : Hid (n0 ≤ f4 ∧ f4 ≤ maxLen) := own_capx own4
  have Z4 : Hid (w3.heap.size ≤ w4.heap.size) := hb4.size
  have OXa4 : Hid (OwnsR w4 47 2 w3.heap.size w4.heap.size (.slice e4 n0 f4) n0 (cellsP L)) := OwnsR.mk own4 (Nat.le_refl _)
  clear hb4 own4 s4
  go_wp2_with fail
  refine (implExpungeFolderL e4 n0 f4 L ux py _ HN0.out hsm0 SM0.out.2 hs_ux hs_py (HGX.out.below h8 B4.out) (by have := B4.out.size; omega) OXa4.out.src).mono ?_
  rintro e w5 ⟨u5, t5, R', G', q', rfl, heq, own5, owm5, hb5⟩
  obtain ⟨rfl, rfl, rfl⟩ : R = R' ∧ G = G' ∧ q = q' := by have h2 := HEQ.out.symm.trans heq; simpa using h2
  clear heq
  obtain ⟨g1, k1, rfl, _, _⟩ := own_src own5
  obtain ⟨g2, k2, rfl, _, _⟩ := own_src owm5
  have B5 : Hid (Below w.heap.size w w5) := B4.out.trans ((hb5).mono B4.out.size)
  have OW5 : Hid (OwnsR w5 47 2 w2.heap.size w3.heap.size (.slice b1 R.length d1) R.length (cellsP R)) := OW4.out.below (hb5)
  have OV5 : Hid (OwnsR w5 3 1 w2.heap.size w3.heap.size (.slice b2 G.length d2) G.length (cellsI G)) := OV4.out.below (hb5)
  have OXa5 : Hid (OwnsR w5 47 2 w3.heap.size w4.heap.size (.slice e4 n0 f4) n0 (cellsP L)) := OXa4.out.below (hb5)
  clear B4 OW4 OV4 OXa4
  have Z5 : Hid (w4.heap.size ≤ w5.heap.size) := hb5.size
  have OG5 : Hid (OwnsR w5 47 2 w4.heap.size w5.heap.size (.slice g1 R.length k1) R.length (cellsP R)) := OwnsR.mk own5 (Nat.le_refl _)
  have OH5 : Hid (OwnsR w5 3 1 w4.heap.size w5.heap.size (.slice g2 G.length k2) G.length (cellsI G)) := OwnsR.mk owm5 (Nat.le_refl _)
  clear hb5 own5 owm5
  have hcc : (q != q) = false := by simp
  go_wp2_with fail
  refine (eqPairS g1 b1 R.length k1 d1 R _ rfl (by omega) OG5.out.src OW5.out.src).mono ?_
  rintro e w6 ⟨rfl, hb6⟩
  have B6 : Hid (Below w.heap.size w w6) := B5.out.trans ((hb6).mono B5.out.size)
  have OW6 : Hid (OwnsR w6 47 2 w2.heap.size w3.heap.size (.slice b1 R.length d1) R.length (cellsP R)) := OW5.out.below (hb6)
  have OV6 : Hid (OwnsR w6 3 1 w2.heap.size w3.heap.size (.slice b2 G.length d2) G.length (cellsI G)) := OV5.out.below (hb6)
  have OXa6 : Hid (OwnsR w6 47 2 w3.heap.size w4.heap.size (.slice e4 n0 f4) n0 (cellsP L)) := OXa5.out.below (hb6)
  have OG6 : Hid (OwnsR w6 47 2 w4.heap.size w5.heap.size (.slice g1 R.length k1) R.length (cellsP R)) := OG5.out.below (hb6)
  have OH6 : Hid (OwnsR w6 3 1 w4.heap.size w5.heap.size (.slice g2 G.length k2) G.length (cellsI G)) := OH5.out.below (hb6)
  clear B5 OW5 OV5 OXa5 OG5 OH5
  clear hb6
  go_wp2_with fail
  refine (eqIntS g2 b2 G.length k2 d2 G _ rfl (by omega) OH6.out.src OV6.out.src).mono ?_
  rintro e w7 ⟨rfl, hb7⟩
  have B7 : Hid (Below w.heap.size w w7) := B6.out.trans ((hb7).mono B6.out.size)
  have OW7 : Hid (OwnsR w7 47 2 w2.heap.size w3.heap.size (.slice b1 R.length d1) R.length (cellsP R)) := OW6.out.below (hb7)
  have OV7 : Hid (OwnsR w7 3 1 w2.heap.size w3.heap.size (.slice b2 G.length d2) G.length (cellsI G)) := OV6.out.below (hb7)
  have OXa7 : Hid (OwnsR w7 47 2 w3.heap.size w4.heap.size (.slice e4 n0 f4) n0 (cellsP L)) := OXa6.out.below (hb7)
  have OG7 : Hid (OwnsR w7 47 2 w4.heap.size w5.heap.size (.slice g1 R.length k1) R.length (cellsP R)) := OG6.out.below (hb7)
  have OH7 : Hid (OwnsR w7 3 1 w4.heap.size w5.heap.size (.slice g2 G.length k2) G.length (cellsI G)) := OH6.out.below (hb7)
  clear B6 OW6 OV6 OXa6 OG6 OH6
  clear hb7
  go_wp2_with fail
  refine (toPairS a0 n0 c0 L _ HN0.out hsm0 (HR0.out.below B7.out)).mono ?_
  rintro e w8 ⟨v8, rfl, own8, hb8⟩
  obtain ⟨e8, f8, rfl, s8, _⟩ := own_src own8
  have B8 : Hid (Below w.heap.size w w8) := B7.out.trans ((hb8).mono B7.out.size)
  have OW8 : Hid (OwnsR w8 47 2 w2.heap.size w3.heap.size (.slice b1 R.length d1) R.length (cellsP R)) := OW7.out.below (hb8)
  have OV8 : Hid (OwnsR w8 3 1 w2.heap.size w3.heap.size (.slice b2 G.length d2) G.length (cellsI G)) := OV7.out.below (hb8)
  have OXa8 : Hid (OwnsR w8 47 2 w3.heap.size w4.heap.size (.slice e4 n0 f4) n0 (cellsP L)) := OXa7.out.below (hb8)
  have OG8 : Hid (OwnsR w8 47 2 w4.heap.size w5.heap.size (.slice g1 R.length k1) R.length (cellsP R)) := OG7.out.below (hb8)
  have OH8 : Hid (OwnsR w8 3 1 w4.heap.size w5.heap.size (.slice g2 G.length k2) G.length (cellsI G)) := OH7.out.below (hb8)
  clear B7 OW7 OV7 OXa7 OG7 OH7
  have CP8 : Hid (n0 ≤ f8 ∧ f8 ≤ maxLen) := own_capx own8
  have Z8 : Hid (w7.heap.size ≤ w8.heap.size) := hb8.size
  have Q8x8 : Hid (Src w8 e8 (cellsP L)) := s8
  clear hb8 own8 s8
  go_wp2_with fail
  refine (eqPairS e4 e8 n0 f4 f8 L _ HN0.out (by omega) OXa8.out.src Q8x8.out).mono ?_
  rintro e w9 ⟨rfl, hb9⟩
  have B9 : Hid (Below w.heap.size w w9) := B8.out.trans ((hb9).mono B8.out.size)
  have OW9 : Hid (OwnsR w9 47 2 w2.heap.size w3.heap.size (.slice b1 R.length d1) R.length (cellsP R)) := OW8.out.below (hb9)
  have OV9 : Hid (OwnsR w9 3 1 w2.heap.size w3.heap.size (.slice b2 G.length d2) G.length (cellsI G)) := OV8.out.below (hb9)
  have OXa9 : Hid (OwnsR w9 47 2 w3.heap.size w4.heap.size (.slice e4 n0 f4) n0 (cellsP L)) := OXa8.out.below (hb9)
  have OG9 : Hid (OwnsR w9 47 2 w4.heap.size w5.heap.size (.slice g1 R.length k1) R.length (cellsP R)) := OG8.out.below (hb9)
  have OH9 : Hid (OwnsR w9 3 1 w4.heap.size w5.heap.size (.slice g2 G.length k2) G.length (cellsI G)) := OH8.out.below (hb9)
  have Q8x9 : Hid (Src w9 e8 (cellsP L)) := Q8x8.out.below (hb9)
  clear B8 OW8 OV8 OXa8 OG8 OH8 Q8x8
  clear hb9
  clear Q8x9
  go_wp2_with fail
  refine (markPairS _ n0 1 w3.heap.size (cellsP L) _ hsm0 (by omega) (by omega) OXa9.out.1).mono ?_
  rintro e w10 ⟨rfl, G10, m10⟩
  have T10 : Turned w3.heap.size w4.heap.size w9 w10 := Turned.of_grown G10 (fun k e => ⟨(OXa9.out.1.lt k e).1, OXa9.out.2 k e⟩)
  have B10 : Hid (Below w.heap.size w w10) := Below.turned B9.out T10 (Nat.le_refl _) (by have := Z2.out; have := Z3.out; have := Z4.out; have := Z5.out; have := Z8.out; have := BZ.out; omega)
  have OW10 : Hid (OwnsR w10 47 2 w2.heap.size w3.heap.size (.slice b1 R.length d1) R.length (cellsP R)) := OW9.out.turned T10 (by have := Z2.out; have := Z3.out; have := Z4.out; have := Z5.out; have := Z8.out; have := BZ.out; omega)
  have OV10 : Hid (OwnsR w10 3 1 w2.heap.size w3.heap.size (.slice b2 G.length d2) G.length (cellsI G)) := OV9.out.turned T10 (by have := Z2.out; have := Z3.out; have := Z4.out; have := Z5.out; have := Z8.out; have := BZ.out; omega)
  have OG10 : Hid (OwnsR w10 47 2 w4.heap.size w5.heap.size (.slice g1 R.length k1) R.length (cellsP R)) := OG9.out.turned T10 (by have := Z2.out; have := Z3.out; have := Z4.out; have := Z5.out; have := Z8.out; have := BZ.out; omega)
  have OH10 : Hid (OwnsR w10 3 1 w4.heap.size w5.heap.size (.slice g2 G.length k2) G.length (cellsI G)) := OH9.out.turned T10 (by have := Z2.out; have := Z3.out; have := Z4.out; have := Z5.out; have := Z8.out; have := BZ.out; omega)
  clear B9 OW9 OV9 OG9 OH9
  clear T10 G10 m10 OXa9
  obtain ⟨E0, hE0⟩ : ∃ E : Nat, 1 + n0 * 2 = E := ⟨_, rfl⟩
  rw [hE0]
  have hbE0 : 0 < E0 ∧ E0 ≤ 16777216 := by omega
  clear hE0
  have hk1 : decide (((E0 : Nat) : Int) < 0) = false := by simp
  go_wp2_with fail
  refine (eqPairS g1 b1 R.length k1 d1 R _ rfl (by omega) OG10.out.src OW10.out.src).mono ?_
  rintro e w11 ⟨rfl, hb11⟩
  have B11 : Hid (Below w.heap.size w w11) := B10.out.trans ((hb11).mono B10.out.size)
  have OW11 : Hid (OwnsR w11 47 2 w2.heap.size w3.heap.size (.slice b1 R.length d1) R.length (cellsP R)) := OW10.out.below (hb11)
  have OV11 : Hid (OwnsR w11 3 1 w2.heap.size w3.heap.size (.slice b2 G.length d2) G.length (cellsI G)) := OV10.out.below (hb11)
  have OG11 : Hid (OwnsR w11 47 2 w4.heap.size w5.heap.size (.slice g1 R.length k1) R.length (cellsP R)) := OG10.out.below (hb11)
  have OH11 : Hid (OwnsR w11 3 1 w4.heap.size w5.heap.size (.slice g2 G.length k2) G.length (cellsI G)) := OH10.out.below (hb11)
  clear B10 OW10 OV10 OG10 OH10
  clear hb11
  go_wp2_with fail
  refine (eqIntS g2 b2 G.length k2 d2 G _ rfl (by omega) OH11.out.src OV11.out.src).mono ?_
  rintro e w12 ⟨rfl, hb12⟩
  have B12 : Hid (Below w.heap.size w w12) := B11.out.trans ((hb12).mono B11.out.size)
  have OW12 : Hid (OwnsR w12 47 2 w2.heap.size w3.heap.size (.slice b1 R.length d1) R.length (cellsP R)) := OW11.out.below (hb12)
  have OV12 : Hid (OwnsR w12 3 1 w2.heap.size w3.heap.size (.slice b2 G.length d2) G.length (cellsI G)) := OV11.out.below (hb12)
  have OG12 : Hid (OwnsR w12 47 2 w4.heap.size w5.heap.size (.slice g1 R.length k1) R.length (cellsP R)) := OG11.out.below (hb12)
  have OH12 : Hid (OwnsR w12 3 1 w4.heap.size w5.heap.size (.slice g2 G.length k2) G.length (cellsI G)) := OH11.out.below (hb12)
  clear B11 OW11 OV11 OG11 OH11
  clear hb12
  go_wp2_with fail
  refine (markPairS _ R.length 1 w4.heap.size (cellsP R) _ hL (by omega) (by omega) OG12.out.1).mono ?_
  rintro e w13 ⟨rfl, G13, m13⟩
  have T13 : Turned w4.heap.size w5.heap.size w12 w13 := Turned.of_grown G13 (fun k e => ⟨(OG12.out.1.lt k e).1, OG12.out.2 k e⟩)
  have N13 : Hid (OwnsR w13 3 1 w4.heap.size w5.heap.size (.slice g2 G.length k2) G.length (cellsI G)) := ⟨own_grown OH12.out.1 G13 (fun k e e2 => own_ne OH12.out.1 OG12.out.1 (by decide) k e e2), OH12.out.2⟩
  have B13 : Hid (Below w.heap.size w w13) := Below.turned B12.out T13 (Nat.le_refl _) (by have := Z2.out; have := Z3.out; have := Z4.out; have := Z5.out; have := Z8.out; have := BZ.out; omega)
  have OW13 : Hid (OwnsR w13 47 2 w2.heap.size w3.heap.size (.slice b1 R.length d1) R.length (cellsP R)) := OW12.out.turned T13 (by have := Z2.out; have := Z3.out; have := Z4.out; have := Z5.out; have := Z8.out; have := BZ.out; omega)
  have OV13 : Hid (OwnsR w13 3 1 w2.heap.size w3.heap.size (.slice b2 G.length d2) G.length (cellsI G)) := OV12.out.turned T13 (by have := Z2.out; have := Z3.out; have := Z4.out; have := Z5.out; have := Z8.out; have := BZ.out; omega)
  clear B12 OW12 OV12
  have OG13 : Hid (OwnsR w13 47 2 w4.heap.size w5.heap.size (.slice g1 R.length k1) R.length (cellsP (mkP 1 R.length))) := ⟨m13, OG12.out.2⟩
  have OH13 : Hid (OwnsR w13 3 1 w4.heap.size w5.heap.size (.slice g2 G.length k2) G.length (cellsI G)) := N13.out
  clear T13 G13 m13 OG12 OH12 N13
  obtain ⟨E, hE⟩ : ∃ E : Nat, 1 + R.length * 2 = E := ⟨_, rfl⟩
  rw [hE]
  have HE : Hid (1 + R.length * 2 = E) := hE
  have hEb : 0 < E ∧ E ≤ 4194304 := by omega
  clear hE hk1
  go_wp2_with fail
  refine (markIntS _ G.length E w4.heap.size (cellsI G) _ hL2 (by omega) (by omega) OH13.out.1).mono ?_
  rintro e w14 ⟨rfl, G14, m14⟩
  have T14 : Turned w4.heap.size w5.heap.size w13 w14 := Turned.of_grown G14 (fun k e => ⟨(OH13.out.1.lt k e).1, OH13.out.2 k e⟩)
  have N14 : Hid (OwnsR w14 47 2 w4.heap.size w5.heap.size (.slice g1 R.length k1) R.length (cellsP (mkP 1 R.length))) := ⟨own_grown OG13.out.1 G14 (fun k e e2 => own_ne OG13.out.1 OH13.out.1 (by decide) k e e2), OG13.out.2⟩
  have B14 : Hid (Below w.heap.size w w14) := Below.turned B13.out T14 (Nat.le_refl _) (by have := Z2.out; have := Z3.out; have := Z4.out; have := Z5.out; have := Z8.out; have := BZ.out; omega)
  have OW14 : Hid (OwnsR w14 47 2 w2.heap.size w3.heap.size (.slice b1 R.length d1) R.length (cellsP R)) := OW13.out.turned T14 (by have := Z2.out; have := Z3.out; have := Z4.out; have := Z5.out; have := Z8.out; have := BZ.out; omega)
  have OV14 : Hid (OwnsR w14 3 1 w2.heap.size w3.heap.size (.slice b2 G.length d2) G.length (cellsI G)) := OV13.out.turned T14 (by have := Z2.out; have := Z3.out; have := Z4.out; have := Z5.out; have := Z8.out; have := BZ.out; omega)
  clear B13 OW13 OV13
  have OH14 : Hid (OwnsR w14 3 1 w4.heap.size w5.heap.size (.slice g2 G.length k2) G.length (cellsI (mkI E G.length))) := ⟨m14, OH13.out.2⟩
  have OG14 : Hid (OwnsR w14 47 2 w4.heap.size w5.heap.size (.slice g1 R.length k1) R.length (cellsP (mkP 1 R.length))) := N14.out
  clear T14 G14 m14 OG13 OH13 N14
  obtain ⟨E2, hE2⟩ : ∃ E2 : Nat, E + G.length = E2 := ⟨_, rfl⟩
  rw [hE2]
  have HE2 : Hid (E + G.length = E2) := hE2
  clear hE2
  have hk2 : decide (((E : Nat) : Int) < 0) = false := by simp
  have hk4 : decide (((E2 : Nat) : Int) < 0) = false := by simp
  have hk3 : (((E2 : Nat) : Int) != ((E2 : Nat) : Int)) = false := by simp
  go_wp2_with fail
  refine (heldPairS g1 R.length k1 1 _ hL (by omega) (by omega) OG14.out.src).mono ?_
  rintro e w15 ⟨rfl, hb15⟩
  rw [HE.out]
  have B15 : Hid (Below w.heap.size w w15) := B14.out.trans ((hb15).mono B14.out.size)
  have OW15 : Hid (OwnsR w15 47 2 w2.heap.size w3.heap.size (.slice b1 R.length d1) R.length (cellsP R)) := OW14.out.below (hb15)
  have OV15 : Hid (OwnsR w15 3 1 w2.heap.size w3.heap.size (.slice b2 G.length d2) G.length (cellsI G)) := OV14.out.below (hb15)
  have OG15 : Hid (OwnsR w15 47 2 w4.heap.size w5.heap.size (.slice g1 R.length k1) R.length (cellsP (mkP 1 R.length))) := OG14.out.below (hb15)
  have OH15 : Hid (OwnsR w15 3 1 w4.heap.size w5.heap.size (.slice g2 G.length k2) G.length (cellsI (mkI E G.length))) := OH14.out.below (hb15)
  clear B14 OW14 OV14 OG14 OH14
  clear hb15
  go_wp2_with fail
  refine (heldIntS g2 G.length k2 E _ hL2 (by omega) (by omega) OH15.out.src).mono ?_
  rintro e w16 ⟨rfl, hb16⟩
  rw [HE2.out]
  have B16 : Hid (Below w.heap.size w w16) := B15.out.trans ((hb16).mono B15.out.size)
  have OW16 : Hid (OwnsR w16 47 2 w2.heap.size w3.heap.size (.slice b1 R.length d1) R.length (cellsP R)) := OW15.out.below (hb16)
  have OV16 : Hid (OwnsR w16 3 1 w2.heap.size w3.heap.size (.slice b2 G.length d2) G.length (cellsI G)) := OV15.out.below (hb16)
  have OG16 : Hid (OwnsR w16 47 2 w4.heap.size w5.heap.size (.slice g1 R.length k1) R.length (cellsP (mkP 1 R.length))) := OG15.out.below (hb16)
  have OH16 : Hid (OwnsR w16 3 1 w4.heap.size w5.heap.size (.slice g2 G.length k2) G.length (cellsI (mkI E G.length))) := OH15.out.below (hb16)
  clear B15 OW15 OV15 OG15 OH15
  clear hb16
  go_wp2_with fail
  refine (toPairS a0 n0 c0 L _ HN0.out hsm0 (HR0.out.below B16.out)).mono ?_
  rintro e w17 ⟨v17, rfl, own17, hb17⟩
  obtain ⟨e17, f17, rfl, s17, _⟩ := own_src own17
  have B17 : Hid (Below w.heap.size w w17) := B16.out.trans ((hb17).mono B16.out.size)
  have OW17 : Hid (OwnsR w17 47 2 w2.heap.size w3.heap.size (.slice b1 R.length d1) R.length (cellsP R)) := OW16.out.below (hb17)
  have OV17 : Hid (OwnsR w17 3 1 w2.heap.size w3.heap.size (.slice b2 G.length d2) G.length (cellsI G)) := OV16.out.below (hb17)
  have OG17 : Hid (OwnsR w17 47 2 w4.heap.size w5.heap.size (.slice g1 R.length k1) R.length (cellsP (mkP 1 R.length))) := OG16.out.below (hb17)
  have OH17 : Hid (OwnsR w17 3 1 w4.heap.size w5.heap.size (.slice g2 G.length k2) G.length (cellsI (mkI E G.length))) := OH16.out.below (hb17)
  clear B16 OW16 OV16 OG16 OH16
  have CP17 : Hid (n0 ≤ f17 ∧ f17 ≤ maxLen) := own_capx own17
  have Z17 : Hid (w16.heap.size ≤ w17.heap.size) := hb17.size
  have Q17x17 : Hid (Src w17 e17 (cellsP L)) := s17
  clear hb17 own17 s17
  go_wp2_with fail
  refine (implExpungeFolderL e17 n0 f17 L ux py _ HN0.out hsm0 SM0.out.2 hs_ux hs_py (HGX.out.below h8 B17.out) (by have := B17.out.size; omega) Q17x17.out).mono ?_
  rintro e w18 ⟨u18, t18, R', G', q', rfl, heq, own18, owm18, hb18⟩
  obtain ⟨rfl, rfl, rfl⟩ : R = R' ∧ G = G' ∧ q = q' := by have h2 := HEQ.out.symm.trans heq; simpa using h2
  obtain ⟨m1, n1, rfl, s18, _⟩ := own_src own18
  obtain ⟨m2, n2, rfl, r18, _⟩ := own_src owm18
  have B18 : Hid (Below w.heap.size w w18) := B17.out.trans ((hb18).mono B17.out.size)
  have OW18 : Hid (OwnsR w18 47 2 w2.heap.size w3.heap.size (.slice b1 R.length d1) R.length (cellsP R)) := OW17.out.below (hb18)
  have OV18 : Hid (OwnsR w18 3 1 w2.heap.size w3.heap.size (.slice b2 G.length d2) G.length (cellsI G)) := OV17.out.below (hb18)
  have OG18 : Hid (OwnsR w18 47 2 w4.heap.size w5.heap.size (.slice g1 R.length k1) R.length (cellsP (mkP 1 R.length))) := OG17.out.below (hb18)
  have OH18 : Hid (OwnsR w18 3 1 w4.heap.size w5.heap.size (.slice g2 G.length k2) G.length (cellsI (mkI E G.length))) := OH17.out.below (hb18)
  have Q17x18 : Hid (Src w18 e17 (cellsP L)) := Q17x17.out.below (hb18)
  clear B17 OW17 OV17 OG17 OH17 Q17x17
  have QF : Hid (Src w18 m1 (cellsP R)) := s18
  have QH : Hid (Src w18 m2 (cellsI G)) := r18
  clear heq hb18 own18 owm18 s18 r18
  clear Q17x18
  go_wp2_with fail
  have QH18 : Hid (Src w18 m2 (cellsI G)) := QH.out
  clear QH
  refine (eqPairS m1 b1 R.length n1 d1 R _ rfl (by omega) QF.out OW18.out.src).mono ?_
  rintro e w19 ⟨rfl, hb19⟩
  have B19 : Hid (Below w.heap.size w w19) := B18.out.trans ((hb19).mono B18.out.size)
  have OW19 : Hid (OwnsR w19 47 2 w2.heap.size w3.heap.size (.slice b1 R.length d1) R.length (cellsP R)) := OW18.out.below (hb19)
  have OV19 : Hid (OwnsR w19 3 1 w2.heap.size w3.heap.size (.slice b2 G.length d2) G.length (cellsI G)) := OV18.out.below (hb19)
  have OG19 : Hid (OwnsR w19 47 2 w4.heap.size w5.heap.size (.slice g1 R.length k1) R.length (cellsP (mkP 1 R.length))) := OG18.out.below (hb19)
  have OH19 : Hid (OwnsR w19 3 1 w4.heap.size w5.heap.size (.slice g2 G.length k2) G.length (cellsI (mkI E G.length))) := OH18.out.below (hb19)
  have QH19 : Hid (Src w19 m2 (cellsI G)) := QH18.out.below (hb19)
  clear B18 OW18 OV18 OG18 OH18 QH18
  clear hb19
  go_wp2_with fail
  refine (eqIntS m2 b2 G.length n2 d2 G _ rfl (by omega) QH19.out OV19.out.src).mono ?_
  rintro e w20 ⟨rfl, hb20⟩
  have B20 : Hid (Below w.heap.size w w20) := B19.out.trans ((hb20).mono B19.out.size)
  have OW20 : Hid (OwnsR w20 47 2 w2.heap.size w3.heap.size (.slice b1 R.length d1) R.length (cellsP R)) := OW19.out.below (hb20)
  have OV20 : Hid (OwnsR w20 3 1 w2.heap.size w3.heap.size (.slice b2 G.length d2) G.length (cellsI G)) := OV19.out.below (hb20)
  have OG20 : Hid (OwnsR w20 47 2 w4.heap.size w5.heap.size (.slice g1 R.length k1) R.length (cellsP (mkP 1 R.length))) := OG19.out.below (hb20)
  have OH20 : Hid (OwnsR w20 3 1 w4.heap.size w5.heap.size (.slice g2 G.length k2) G.length (cellsI (mkI E G.length))) := OH19.out.below (hb20)
  clear B19 OW19 OV19 OG19 OH19
  clear hb20
  go_wp2_with fail
  refine (heldPairS g1 R.length k1 1 _ hL (by omega) (by omega) OG20.out.src).mono ?_
  rintro e w21 ⟨rfl, hb21⟩
  rw [HE.out]
  have B21 : Hid (Below w.heap.size w w21) := B20.out.trans ((hb21).mono B20.out.size)
  have OW21 : Hid (OwnsR w21 47 2 w2.heap.size w3.heap.size (.slice b1 R.length d1) R.length (cellsP R)) := OW20.out.below (hb21)
  have OV21 : Hid (OwnsR w21 3 1 w2.heap.size w3.heap.size (.slice b2 G.length d2) G.length (cellsI G)) := OV20.out.below (hb21)
  have OG21 : Hid (OwnsR w21 47 2 w4.heap.size w5.heap.size (.slice g1 R.length k1) R.length (cellsP (mkP 1 R.length))) := OG20.out.below (hb21)
  have OH21 : Hid (OwnsR w21 3 1 w4.heap.size w5.heap.size (.slice g2 G.length k2) G.length (cellsI (mkI E G.length))) := OH20.out.below (hb21)
  clear B20 OW20 OV20 OG20 OH20
  clear hb21
  go_wp2_with fail
  refine (heldIntS g2 G.length k2 E _ hL2 (by omega) (by omega) OH21.out.src).mono ?_
  rintro e w22 ⟨rfl, hb22⟩
  rw [HE2.out]
  have B22 : Hid (Below w.heap.size w w22) := B21.out.trans ((hb22).mono B21.out.size)
  have OW22 : Hid (OwnsR w22 47 2 w2.heap.size w3.heap.size (.slice b1 R.length d1) R.length (cellsP R)) := OW21.out.below (hb22)
  have OV22 : Hid (OwnsR w22 3 1 w2.heap.size w3.heap.size (.slice b2 G.length d2) G.length (cellsI G)) := OV21.out.below (hb22)
  have OG22 : Hid (OwnsR w22 47 2 w4.heap.size w5.heap.size (.slice g1 R.length k1) R.length (cellsP (mkP 1 R.length))) := OG21.out.below (hb22)
  have OH22 : Hid (OwnsR w22 3 1 w4.heap.size w5.heap.size (.slice g2 G.length k2) G.length (cellsI (mkI E G.length))) := OH21.out.below (hb22)
  clear B21 OW21 OV21 OG21 OH21
  clear hb22
  go_wp2_with fail
  go_ret
  exact ⟨rfl, B22.out⟩
end Go.Proofs.YtbpgncgmolpkiaaGreatDoor.fnExactExpungeFolder
