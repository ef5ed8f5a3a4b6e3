/-
  The walk of the law FnExactCountRefs.
  By an AI agent.
-/
import Derived.Test.YtmpaophegdeokaaTrd
import Derived.Test.YtmpaophegdeokaaTre
import Derived.Test.YtmpaophegdeokaaHeaps4
namespace Go.Proofs.Ytmpaophegdeokaa.fnExactCountRefs
open Go.ChangeShapes Go.WideShapes Go.ChangeAt Go.WideMaps Go.WideElems Go.RowKit Go.Deep
open Go.ChangeMaps (open_string shut_string)
set_option linter.unusedVariables false

theorem endH_ge : ∀ (H : List NM) (x : Nat), x ≤ endH H x
  | [], x => Nat.le_refl _
  | D :: H, x => by
    rw [endH]
    exact Nat.le_trans (by unfold endN; omega) (endH_ge H _)
set_option maxHeartbeats 4000000 in
theorem walk (v : Value) (H : List NM) (ra : Option Addr) (rc : Nat) (L : List Int) (w : World) (h : ReadsH w v H) (hm : H.length ≤ maxLen ∧ ∀ x ∈ H, maxN x) (hs : Src w ra (cellsI L)) (hlm : L.length ≤ maxLen) :
    Calls Try.prog 8 #[v, .slice ra L.length rc] w fun e w' => e = .returned (.bool true) ∧ Below w.heap.size w w' := by
  have HM : Hid (H.length ≤ maxLen ∧ ∀ x ∈ H, maxN x) := hm
  obtain ⟨a1, c1, rfl, s1⟩ := h
  have HR : Hid (ReadsH w (.agg #[.slice a1 H.length c1]) H) := ⟨a1, c1, rfl, s1⟩
  obtain ⟨n, hn⟩ : ∃ n, L.length = n := ⟨_, rfl⟩
  have HN : Hid (L.length = n) := hn
  have HS : Hid (Src w ra (cellsI L)) := hs
  unfold maxLen at hlm
  rw [hn] at hlm
  rw [hn]
  clear hm s1 hs hn
  by_cases hbig : (1048576 : Int) < (n : Int)
  · go_enter Try.func8, Try.ntmps8
    go_wp2_with fail
    go_ret
    exact ⟨rfl, (Below.refl _ _).alloc (Nat.le_refl _) _⟩
  have hsm : n ≤ 1048576 := by omega
  go_enter Try.func8, Try.ntmps8
  go_wp2_with fail
  refine (szHeap _ H 1048576 _ (by omega) (by omega) HM.out.1 HM.out.2 (HR.out.below ((Below.refl _ _).alloc (Nat.le_refl _) _))).mono ?_
  rintro e w1 ⟨r, rfl, _, hr, hb1⟩
  have B1 : Hid (Below w.heap.size w w1) := Below.new hb1
  have X1 : Hid (Box w1 w.heap.size [.slice a1 H.length c1]) := Box.below (Box.new rfl) hb1
  have Z1 : Hid (w.heap.size + 1 ≤ w1.heap.size) := size_new hb1
  clear hb1
  by_cases hneg : r < 0
  · clear hr
    go_wp2_with fail
    go_ret
    exact ⟨rfl, B1.out⟩
  have SM : Hid (smallH H) := (hr (by omega)).2
  have WT : Hid (H.length ≤ 1048576 ∧ ∀ D ∈ H, wtN D ≤ 9000000000000000000) := ⟨by have := SM.out.1; unfold wtH at this; omega, fun D hD => by have := (SM.out.2 D hD).1; omega⟩
  clear hr
  obtain ⟨p0, _⟩ := X1.out 0 _ rfl
  go_wp2_with fail
  refine (toHeap _ H _ SM.out (HR.out.below B1.out)).mono ?_
  rintro e w2 ⟨v2, rfl, own2, hb2⟩
  obtain ⟨b2, d2, rfl⟩ := own2.lit
  have B2 : Hid (Below w.heap.size w w2) := B1.out.trans ((hb2).mono B1.out.size)
  have X2 : Hid (Box w2 w.heap.size [.slice a1 H.length c1]) := X1.out.below (hb2)
  clear B1 X1
  have Z2 : Hid (w1.heap.size ≤ w2.heap.size) := hb2.size
  have Q2 : Hid (ReadsH w2 (.agg #[.slice b2 H.length d2]) H) := own2.reads
  clear hb2 own2 p0
  go_wp2_with fail
  refine (toIntS ra n rc L _ HN.out hsm (HS.out.below B2.out)).mono ?_
  rintro e w3 ⟨v3, rfl, o3, hb3⟩
  obtain ⟨i3, j3, rfl, s3, _⟩ := own_src o3
  have B3 : Hid (Below w.heap.size w w3) := B2.out.trans ((hb3).mono B2.out.size)
  have X3 : Hid (Box w3 w.heap.size [.slice a1 H.length c1]) := X2.out.below (hb3)
  clear B2 X2
  have Z3 : Hid (w2.heap.size ≤ w3.heap.size) := hb3.size
  have Q3 : Hid (ReadsH w3 (.agg #[.slice b2 H.length d2]) H ∧ Src w3 i3 (cellsI L)) := ⟨Q2.out.below hb3, s3⟩
  clear hb3 o3 s3 Q2
  go_wp2_with fail
  refine (specCountRefs _ H i3 n j3 L _ SM.out Q3.out.1 HN.out hsm Q3.out.2).mono ?_
  rintro e w4 ⟨u4, R, q, rfl, heq, own4, hL4, hb4⟩
  obtain ⟨b1, d1, rfl, _, _⟩ := own_src own4
  have B4 : Hid (Below w.heap.size w w4) := B3.out.trans ((hb4).mono B3.out.size)
  have X4 : Hid (Box w4 w.heap.size [.slice a1 H.length c1]) := X3.out.below (hb4)
  clear B3 X3
  have OW4 : Hid (OwnsR w4 3 1 w3.heap.size w4.heap.size (.slice b1 R.length d1) R.length (cellsI R)) := OwnsR.mk own4 (Nat.le_refl _)
  have Z4 : Hid (w3.heap.size ≤ w4.heap.size) := hb4.size
  have HEQ : Hid (refsA H L = (R, q)) := heq
  have hL : R.length ≤ 1048576 := by omega
  clear hb4 own4 Q3 heq hL4
  obtain ⟨p0, _⟩ := X4.out 0 _ rfl
  go_wp2_with fail
  refine (toHeap _ H _ SM.out (HR.out.below B4.out)).mono ?_
  rintro e w5 ⟨v5, rfl, own5, hb5⟩
  obtain ⟨b5, d5, rfl⟩ := own5.lit
  have B5 : Hid (Below w.heap.size w w5) := B4.out.trans ((hb5).mono B4.out.size)
  have X5 : Hid (Box w5 w.heap.size [.slice a1 H.length c1]) := X4.out.below (hb5)
  have OW5 : Hid (OwnsR w5 3 1 w3.heap.size w4.heap.size (.slice b1 R.length d1) R.length (cellsI R)) := OW4.out.below (hb5)
  clear B4 X4 OW4
  have Z5 : Hid (w4.heap.size ≤ w5.heap.size) := hb5.size
  have OX5 : Hid (OwnsH w5 w4.heap.size w5.heap.size (.agg #[.slice b5 H.length d5]) H) := own5
  clear hb5 own5 p0
  go_wp2_with fail
  refine (toIntS ra n rc L _ HN.out hsm (HS.out.below (B5.out.alloc B5.out.size _))).mono ?_
  rintro e w6 ⟨v6, rfl, o6, hb6⟩
  obtain ⟨i6, j6, rfl, _, _⟩ := own_src o6
  have B6 : Hid (Below w.heap.size w w6) := B5.out.trans ((Below.new hb6).mono B5.out.size)
  have X6 : Hid (Box w6 w.heap.size [.slice a1 H.length c1]) := X5.out.below (Below.new hb6)
  have OW6 : Hid (OwnsR w6 3 1 w3.heap.size w4.heap.size (.slice b1 R.length d1) R.length (cellsI R)) := OW5.out.below (Below.new hb6)
  have OX6 : Hid (OwnsH w6 w4.heap.size w5.heap.size (.agg #[.slice b5 H.length d5]) H) := OX5.out.below (Below.new hb6)
  clear B5 X5 OW5 OX5
  have Y6 : Hid (Box w6 w5.heap.size [.slice b5 H.length d5]) := Box.below (Box.new rfl) hb6
  have Z6 : Hid (w5.heap.size + 1 ≤ w6.heap.size) := size_new hb6
  have OI6 : Hid (OwnsR w6 3 1 (w5.heap.size + 1) w6.heap.size (.slice i6 n j6) n (cellsI L)) := OwnsR.mk (own_mono o6 (by simp)) (Nat.le_refl _)
  clear hb6 o6
  obtain ⟨q0, _⟩ := Y6.out 0 _ rfl
  go_wp2_with fail
  refine (implCountRefs _ H i6 n j6 L _ SM.out OX6.out.reads HN.out hsm OI6.out.src).mono ?_
  rintro e w7 ⟨u7, R', q', rfl, heq, own7, _, hb7⟩
  obtain ⟨rfl, rfl⟩ : R = R' ∧ q = q' := by have h2 := HEQ.out.symm.trans heq; simpa using h2
  clear heq q0
  obtain ⟨g1, k1, rfl, _, _⟩ := own_src own7
  have B7 : Hid (Below w.heap.size w w7) := B6.out.trans ((hb7).mono B6.out.size)
  have X7 : Hid (Box w7 w.heap.size [.slice a1 H.length c1]) := X6.out.below (hb7)
  have OW7 : Hid (OwnsR w7 3 1 w3.heap.size w4.heap.size (.slice b1 R.length d1) R.length (cellsI R)) := OW6.out.below (hb7)
  have OX7 : Hid (OwnsH w7 w4.heap.size w5.heap.size (.agg #[.slice b5 H.length d5]) H) := OX6.out.below (hb7)
  have Y7 : Hid (Box w7 w5.heap.size [.slice b5 H.length d5]) := Y6.out.below (hb7)
  have OI7 : Hid (OwnsR w7 3 1 (w5.heap.size + 1) w6.heap.size (.slice i6 n j6) n (cellsI L)) := OI6.out.below (hb7)
  clear B6 X6 OW6 OX6 Y6 OI6
  have Z7 : Hid (w6.heap.size ≤ w7.heap.size) := hb7.size
  have OG7 : Hid (OwnsR w7 3 1 w6.heap.size w7.heap.size (.slice g1 R.length k1) R.length (cellsI R)) := OwnsR.mk own7 (Nat.le_refl _)
  clear hb7 own7
  have hcc : (q != q) = false := by simp
  go_wp2_with fail
  refine (eqIntS g1 b1 R.length k1 d1 R _ rfl (by omega) OG7.out.src OW7.out.src).mono ?_
  rintro e w8 ⟨rfl, hb8⟩
  have B8 : Hid (Below w.heap.size w w8) := B7.out.trans ((hb8).mono B7.out.size)
  have X8 : Hid (Box w8 w.heap.size [.slice a1 H.length c1]) := X7.out.below (hb8)
  have OW8 : Hid (OwnsR w8 3 1 w3.heap.size w4.heap.size (.slice b1 R.length d1) R.length (cellsI R)) := OW7.out.below (hb8)
  have OX8 : Hid (OwnsH w8 w4.heap.size w5.heap.size (.agg #[.slice b5 H.length d5]) H) := OX7.out.below (hb8)
  have Y8 : Hid (Box w8 w5.heap.size [.slice b5 H.length d5]) := Y7.out.below (hb8)
  have OI8 : Hid (OwnsR w8 3 1 (w5.heap.size + 1) w6.heap.size (.slice i6 n j6) n (cellsI L)) := OI7.out.below (hb8)
  have OG8 : Hid (OwnsR w8 3 1 w6.heap.size w7.heap.size (.slice g1 R.length k1) R.length (cellsI R)) := OG7.out.below (hb8)
  clear B7 X7 OW7 OX7 Y7 OI7 OG7
  clear hb8
  obtain ⟨p0, _⟩ := X8.out 0 _ rfl
  obtain ⟨q0, _⟩ := Y8.out 0 _ rfl
  go_wp2_with fail
  go_region_with (first | (go_at_call 49; refine (eqHeap _ _ H _ WT.out.1 WT.out.2 OX9.out.reads Q9.out).mono ?_; rintro e w10 ⟨rfl, hb10⟩; have B10 : Hid (Below w.heap.size w w10) := B9.out.trans (hb10.mono B9.out.size); have X10 : Hid (Box w10 w.heap.size [.slice a1 H.length c1]) := X9.out.below hb10; have OW10 : Hid (OwnsR w10 3 1 w3.heap.size w4.heap.size (.slice b1 R.length d1) R.length (cellsI R)) := OW9.out.below hb10; have OX10 : Hid (OwnsH w10 w4.heap.size w5.heap.size (.agg #[.slice b5 H.length d5]) H) := OX9.out.below hb10; have Y10 : Hid (Box w10 w5.heap.size [.slice b5 H.length d5]) := Y9.out.below hb10; have OI10 : Hid (OwnsR w10 3 1 (w5.heap.size + 1) w6.heap.size (.slice i6 n j6) n (cellsI L)) := OI9.out.below hb10; have OG10 : Hid (OwnsR w10 3 1 w6.heap.size w7.heap.size (.slice g1 R.length k1) R.length (cellsI R)) := OG9.out.below hb10; clear B9 X9 OW9 OX9 Y9 OI9 OG9 Q9 hb10) | (go_at_call 45; refine (toHeap _ H _ SM.out (HR.out.below B8.out.drew)).mono ?_; rintro e w9 ⟨v9, rfl, own9, hb9⟩; have B9 : Hid (Below w.heap.size w w9) := B8.out.drew.trans (hb9.mono B8.out.size); have X9 : Hid (Box w9 w.heap.size [.slice a1 H.length c1]) := X8.out.drew.below hb9; have OW9 : Hid (OwnsR w9 3 1 w3.heap.size w4.heap.size (.slice b1 R.length d1) R.length (cellsI R)) := OW8.out.drew.below hb9; have OX9 : Hid (OwnsH w9 w4.heap.size w5.heap.size (.agg #[.slice b5 H.length d5]) H) := OX8.out.drew.below hb9; have Y9 : Hid (Box w9 w5.heap.size [.slice b5 H.length d5]) := Y8.out.drew.below hb9; have OI9 : Hid (OwnsR w9 3 1 (w5.heap.size + 1) w6.heap.size (.slice i6 n j6) n (cellsI L)) := OI8.out.drew.below hb9; have OG9 : Hid (OwnsR w9 3 1 w6.heap.size w7.heap.size (.slice g1 R.length k1) R.length (cellsI R)) := OG8.out.drew.below hb9; have Q9 : Hid (ReadsH w9 v9 H) := own9.reads; clear B8 X8 OW8 OX8 Y8 OI8 OG8 q0 p0; obtain ⟨q0, _⟩ := Y9.out 0 _ rfl; clear hb9 own9))
  all_goals
    try clear q0
    go_wp2_with fail
    refine (toIntS ra n rc L _ HN.out hsm (HS.out.below B10.out)).mono ?_
    rintro e w11 ⟨v11, rfl, o11, hb11⟩
    obtain ⟨i11, j11, rfl, s11, _⟩ := own_src o11
    have B11 : Hid (Below w.heap.size w w11) := B10.out.trans ((hb11).mono B10.out.size)
    have X11 : Hid (Box w11 w.heap.size [.slice a1 H.length c1]) := X10.out.below (hb11)
    have OW11 : Hid (OwnsR w11 3 1 w3.heap.size w4.heap.size (.slice b1 R.length d1) R.length (cellsI R)) := OW10.out.below (hb11)
    have OX11 : Hid (OwnsH w11 w4.heap.size w5.heap.size (.agg #[.slice b5 H.length d5]) H) := OX10.out.below (hb11)
    have Y11 : Hid (Box w11 w5.heap.size [.slice b5 H.length d5]) := Y10.out.below (hb11)
    have OI11 : Hid (OwnsR w11 3 1 (w5.heap.size + 1) w6.heap.size (.slice i6 n j6) n (cellsI L)) := OI10.out.below (hb11)
    have OG11 : Hid (OwnsR w11 3 1 w6.heap.size w7.heap.size (.slice g1 R.length k1) R.length (cellsI R)) := OG10.out.below (hb11)
    clear B10 X10 OW10 OX10 Y10 OI10 OG10
    have Q11 : Hid (Src w11 i11 (cellsI L)) := s11
    clear hb11 o11 s11
    go_wp2_with fail
    refine (eqIntS i6 i11 n j6 j11 L _ HN.out (by omega) OI11.out.src Q11.out).mono ?_
    rintro e w12 ⟨rfl, hb12⟩
    have B12 : Hid (Below w.heap.size w w12) := B11.out.trans ((hb12).mono B11.out.size)
    have X12 : Hid (Box w12 w.heap.size [.slice a1 H.length c1]) := X11.out.below (hb12)
    have OW12 : Hid (OwnsR w12 3 1 w3.heap.size w4.heap.size (.slice b1 R.length d1) R.length (cellsI R)) := OW11.out.below (hb12)
    have OX12 : Hid (OwnsH w12 w4.heap.size w5.heap.size (.agg #[.slice b5 H.length d5]) H) := OX11.out.below (hb12)
    have Y12 : Hid (Box w12 w5.heap.size [.slice b5 H.length d5]) := Y11.out.below (hb12)
    have OI12 : Hid (OwnsR w12 3 1 (w5.heap.size + 1) w6.heap.size (.slice i6 n j6) n (cellsI L)) := OI11.out.below (hb12)
    have OG12 : Hid (OwnsR w12 3 1 w6.heap.size w7.heap.size (.slice g1 R.length k1) R.length (cellsI R)) := OG11.out.below (hb12)
    clear B11 X11 OW11 OX11 Y11 OI11 OG11
    clear hb12 Q11
    obtain ⟨q0, _⟩ := Y12.out 0 _ rfl
    go_wp2_with fail
    have Z12 : Hid (w5.heap.size ≤ w12.heap.size) := Nat.le_of_lt (World.block_lt_of_cell? _ _ q0)
    refine (markHeap _ H w4.heap.size w5.heap.size 1 _ SM.out.1 (by omega) (by omega) Z12.out OX12.out).mono ?_
    rintro e w13 ⟨rfl, T13, _⟩
    have B13 : Hid (Below w.heap.size w w13) := Below.turned B12.out T13 (Nat.le_refl _) (by have := Z1.out; have := Z2.out; have := Z3.out; have := Z4.out; have := Z5.out; have := Z6.out; have := Z7.out; omega)
    have X13 : Hid (Box w13 w.heap.size [.slice a1 H.length c1]) := X12.out.turned T13 (by have := Z1.out; have := Z2.out; have := Z3.out; have := Z4.out; have := Z5.out; have := Z6.out; have := Z7.out; omega)
    have OW13 : Hid (OwnsR w13 3 1 w3.heap.size w4.heap.size (.slice b1 R.length d1) R.length (cellsI R)) := OW12.out.turned T13 (by have := Z1.out; have := Z2.out; have := Z3.out; have := Z4.out; have := Z5.out; have := Z6.out; have := Z7.out; omega)
    have Y13 : Hid (Box w13 w5.heap.size [.slice b5 H.length d5]) := Y12.out.turned T13 (by have := Z1.out; have := Z2.out; have := Z3.out; have := Z4.out; have := Z5.out; have := Z6.out; have := Z7.out; omega)
    have OI13 : Hid (OwnsR w13 3 1 (w5.heap.size + 1) w6.heap.size (.slice i6 n j6) n (cellsI L)) := OI12.out.turned T13 (by have := Z1.out; have := Z2.out; have := Z3.out; have := Z4.out; have := Z5.out; have := Z6.out; have := Z7.out; omega)
    have OG13 : Hid (OwnsR w13 3 1 w6.heap.size w7.heap.size (.slice g1 R.length k1) R.length (cellsI R)) := OG12.out.turned T13 (by have := Z1.out; have := Z2.out; have := Z3.out; have := Z4.out; have := Z5.out; have := Z6.out; have := Z7.out; omega)
    clear B12 X12 OW12 Y12 OI12 OG12
    clear T13 OX12 q0 Z12
    obtain ⟨E0, hE0⟩ : ∃ E0, endH H 1 = E0 := ⟨_, rfl⟩
    have hE1 : 0 < E0 ∧ E0 ≤ 4194304 := by have h1 := endH_ge H 1; have h2 := endH_le H 1; have h3 := SM.out.1; omega
    rw [hE0]
    clear hE0
    go_wp2_with fail
    refine (markIntS (.slice i6 n j6) n E0 (w5.heap.size + 1) (cellsI L) _ hsm hE1.1 (by omega) OI13.out.1).mono ?_
    rintro e w14 ⟨rfl, G14, m14⟩
    have T14 : Turned (w5.heap.size + 1) w6.heap.size w13 w14 := Turned.of_grown G14 (fun k e => ⟨(OI13.out.1.lt k e).1, OI13.out.2 k e⟩)
    have B14 : Hid (Below w.heap.size w w14) := Below.turned B13.out T14 (Nat.le_refl _) (by have := Z1.out; have := Z2.out; have := Z3.out; have := Z4.out; have := Z5.out; have := Z6.out; have := Z7.out; omega)
    have X14 : Hid (Box w14 w.heap.size [.slice a1 H.length c1]) := X13.out.turned T14 (by have := Z1.out; have := Z2.out; have := Z3.out; have := Z4.out; have := Z5.out; have := Z6.out; have := Z7.out; omega)
    have OW14 : Hid (OwnsR w14 3 1 w3.heap.size w4.heap.size (.slice b1 R.length d1) R.length (cellsI R)) := OW13.out.turned T14 (by have := Z1.out; have := Z2.out; have := Z3.out; have := Z4.out; have := Z5.out; have := Z6.out; have := Z7.out; omega)
    have OG14 : Hid (OwnsR w14 3 1 w6.heap.size w7.heap.size (.slice g1 R.length k1) R.length (cellsI R)) := OG13.out.turned T14 (by have := Z1.out; have := Z2.out; have := Z3.out; have := Z4.out; have := Z5.out; have := Z6.out; have := Z7.out; omega)
    clear B13 X13 OW13 OG13
    clear T14 G14 m14 OI13 Y13
    obtain ⟨E2, hE2⟩ : ∃ E2 : Nat, E0 + n = E2 := ⟨_, rfl⟩
    rw [hE2]
    clear hE2
    have hk1 : decide (((E2 : Nat) : Int) < 0) = false := by simp
    go_wp2_with fail
    refine (eqIntS g1 b1 R.length k1 d1 R _ rfl (by omega) OG14.out.src OW14.out.src).mono ?_
    rintro e w15 ⟨rfl, hb15⟩
    have B15 : Hid (Below w.heap.size w w15) := B14.out.trans ((hb15).mono B14.out.size)
    have X15 : Hid (Box w15 w.heap.size [.slice a1 H.length c1]) := X14.out.below (hb15)
    have OW15 : Hid (OwnsR w15 3 1 w3.heap.size w4.heap.size (.slice b1 R.length d1) R.length (cellsI R)) := OW14.out.below (hb15)
    have OG15 : Hid (OwnsR w15 3 1 w6.heap.size w7.heap.size (.slice g1 R.length k1) R.length (cellsI R)) := OG14.out.below (hb15)
    clear B14 X14 OW14 OG14
    clear hb15
    clear hk1
    go_wp2_with fail
    refine (markIntS _ R.length 1 w6.heap.size (cellsI R) _ hL (by omega) (by omega) OG15.out.1).mono ?_
    rintro e w16 ⟨rfl, G16, m16⟩
    have T16 : Turned w6.heap.size w7.heap.size w15 w16 := Turned.of_grown G16 (fun k e => ⟨(OG15.out.1.lt k e).1, OG15.out.2 k e⟩)
    have B16 : Hid (Below w.heap.size w w16) := Below.turned B15.out T16 (Nat.le_refl _) (by have := Z1.out; have := Z2.out; have := Z3.out; have := Z4.out; have := Z5.out; have := Z6.out; have := Z7.out; omega)
    have X16 : Hid (Box w16 w.heap.size [.slice a1 H.length c1]) := X15.out.turned T16 (by have := Z1.out; have := Z2.out; have := Z3.out; have := Z4.out; have := Z5.out; have := Z6.out; have := Z7.out; omega)
    have OW16 : Hid (OwnsR w16 3 1 w3.heap.size w4.heap.size (.slice b1 R.length d1) R.length (cellsI R)) := OW15.out.turned T16 (by have := Z1.out; have := Z2.out; have := Z3.out; have := Z4.out; have := Z5.out; have := Z6.out; have := Z7.out; omega)
    clear B15 X15 OW15
    have OG16 : Hid (OwnsR w16 3 1 w6.heap.size w7.heap.size (.slice g1 R.length k1) R.length (cellsI (mkI 1 R.length))) := ⟨m16, OG15.out.2⟩
    clear T16 G16 m16 OG15
    obtain ⟨E, hE⟩ : ∃ E : Nat, 1 + R.length = E := ⟨_, rfl⟩
    rw [hE]
    have HE : Hid (1 + R.length = E) := hE
    clear hE
    have hk2 : decide (((E : Nat) : Int) < 0) = false := by simp
    have hk3 : (((E : Nat) : Int) != ((E : Nat) : Int)) = false := by simp
    go_wp2_with fail
    refine (heldIntS g1 R.length k1 1 _ hL (by omega) (by omega) OG16.out.src).mono ?_
    rintro e w17 ⟨rfl, hb17⟩
    rw [HE.out]
    have B17 : Hid (Below w.heap.size w w17) := B16.out.trans ((hb17).mono B16.out.size)
    have X17 : Hid (Box w17 w.heap.size [.slice a1 H.length c1]) := X16.out.below (hb17)
    have OW17 : Hid (OwnsR w17 3 1 w3.heap.size w4.heap.size (.slice b1 R.length d1) R.length (cellsI R)) := OW16.out.below (hb17)
    have OG17 : Hid (OwnsR w17 3 1 w6.heap.size w7.heap.size (.slice g1 R.length k1) R.length (cellsI (mkI 1 R.length))) := OG16.out.below (hb17)
    clear B16 X16 OW16 OG16
    clear hb17
    obtain ⟨p0, _⟩ := X17.out 0 _ rfl
    go_wp2_with fail
    refine (toHeap _ H _ SM.out (HR.out.below B17.out)).mono ?_
    rintro e w18 ⟨v18, rfl, own18, hb18⟩
    obtain ⟨b18, d18, rfl⟩ := own18.lit
    have B18 : Hid (Below w.heap.size w w18) := B17.out.trans ((hb18).mono B17.out.size)
    have X18 : Hid (Box w18 w.heap.size [.slice a1 H.length c1]) := X17.out.below (hb18)
    have OW18 : Hid (OwnsR w18 3 1 w3.heap.size w4.heap.size (.slice b1 R.length d1) R.length (cellsI R)) := OW17.out.below (hb18)
    have OG18 : Hid (OwnsR w18 3 1 w6.heap.size w7.heap.size (.slice g1 R.length k1) R.length (cellsI (mkI 1 R.length))) := OG17.out.below (hb18)
    clear B17 X17 OW17 OG17
    have Q18 : Hid (ReadsH w18 (.agg #[.slice b18 H.length d18]) H) := own18.reads
    clear hb18 own18 p0
    go_wp2_with fail
    refine (toIntS ra n rc L _ HN.out hsm (HS.out.below B18.out)).mono ?_
    rintro e w19 ⟨v19, rfl, o19, hb19⟩
    obtain ⟨i19, j19, rfl, s19, _⟩ := own_src o19
    have B19 : Hid (Below w.heap.size w w19) := B18.out.trans ((hb19).mono B18.out.size)
    have X19 : Hid (Box w19 w.heap.size [.slice a1 H.length c1]) := X18.out.below (hb19)
    have OW19 : Hid (OwnsR w19 3 1 w3.heap.size w4.heap.size (.slice b1 R.length d1) R.length (cellsI R)) := OW18.out.below (hb19)
    have OG19 : Hid (OwnsR w19 3 1 w6.heap.size w7.heap.size (.slice g1 R.length k1) R.length (cellsI (mkI 1 R.length))) := OG18.out.below (hb19)
    clear B18 X18 OW18 OG18
    have Q19 : Hid (ReadsH w19 (.agg #[.slice b18 H.length d18]) H ∧ Src w19 i19 (cellsI L)) := ⟨Q18.out.below hb19, s19⟩
    clear hb19 o19 s19 Q18
    go_wp2_with fail
    refine (implCountRefs _ H i19 n j19 L _ SM.out Q19.out.1 HN.out hsm Q19.out.2).mono ?_
    rintro e w20 ⟨u20, R', q', rfl, heq, own20, _, hb20⟩
    obtain ⟨rfl, rfl⟩ : R = R' ∧ q = q' := by have h2 := HEQ.out.symm.trans heq; simpa using h2
    obtain ⟨m1, n1, rfl, s20, _⟩ := own_src own20
    have B20 : Hid (Below w.heap.size w w20) := B19.out.trans ((hb20).mono B19.out.size)
    have X20 : Hid (Box w20 w.heap.size [.slice a1 H.length c1]) := X19.out.below (hb20)
    have OW20 : Hid (OwnsR w20 3 1 w3.heap.size w4.heap.size (.slice b1 R.length d1) R.length (cellsI R)) := OW19.out.below (hb20)
    have OG20 : Hid (OwnsR w20 3 1 w6.heap.size w7.heap.size (.slice g1 R.length k1) R.length (cellsI (mkI 1 R.length))) := OG19.out.below (hb20)
    clear B19 X19 OW19 OG19
    have Q20 : Hid (Src w20 m1 (cellsI R)) := s20
    clear heq hb20 own20 s20 Q19
    go_wp2_with fail
    refine (eqIntS m1 b1 R.length n1 d1 R _ rfl (by omega) Q20.out OW20.out.src).mono ?_
    rintro e w21 ⟨rfl, hb21⟩
    have B21 : Hid (Below w.heap.size w w21) := B20.out.trans ((hb21).mono B20.out.size)
    have X21 : Hid (Box w21 w.heap.size [.slice a1 H.length c1]) := X20.out.below (hb21)
    have OW21 : Hid (OwnsR w21 3 1 w3.heap.size w4.heap.size (.slice b1 R.length d1) R.length (cellsI R)) := OW20.out.below (hb21)
    have OG21 : Hid (OwnsR w21 3 1 w6.heap.size w7.heap.size (.slice g1 R.length k1) R.length (cellsI (mkI 1 R.length))) := OG20.out.below (hb21)
    clear B20 X20 OW20 OG20
    clear hb21
    clear Q20
    go_wp2_with fail
    refine (heldIntS g1 R.length k1 1 _ hL (by omega) (by omega) OG21.out.src).mono ?_
    rintro e w22 ⟨rfl, hb22⟩
    rw [HE.out]
    have B22 : Hid (Below w.heap.size w w22) := B21.out.trans ((hb22).mono B21.out.size)
    have X22 : Hid (Box w22 w.heap.size [.slice a1 H.length c1]) := X21.out.below (hb22)
    have OW22 : Hid (OwnsR w22 3 1 w3.heap.size w4.heap.size (.slice b1 R.length d1) R.length (cellsI R)) := OW21.out.below (hb22)
    have OG22 : Hid (OwnsR w22 3 1 w6.heap.size w7.heap.size (.slice g1 R.length k1) R.length (cellsI (mkI 1 R.length))) := OG21.out.below (hb22)
    clear B21 X21 OW21 OG21
    clear hb22
    go_wp2_with fail
    go_ret
    exact ⟨rfl, B22.out⟩
end Go.Proofs.Ytmpaophegdeokaa.fnExactCountRefs
