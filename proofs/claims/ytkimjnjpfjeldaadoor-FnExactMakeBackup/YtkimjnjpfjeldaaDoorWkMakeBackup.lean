/-
  The walk of the law FnExactMakeBackup.
  By an AI agent.
-/
import Derived.Test.YtkimjnjpfjeldaaDoorMbk
namespace Go.Proofs.YtkimjnjpfjeldaaDoor.fnExactMakeBackup
open Go.ChangeShapes Go.WideShapes Go.ChangeAt Go.WideMaps Go.WideElems Go.RowKit Go.Deep
open Go.ChangeMaps (open_string shut_string)
set_option linter.unusedVariables false

set_option maxHeartbeats 4000000 in
theorem walk (F T : ByteArray) (C : Int) (a3 : Option Addr) (c3 : Nat) (L : List PM) (a4 : Option Addr) (c4 : Nat) (M : List PM) (w : World) (h0 : F.size ≤ maxLen) (h1 : T.size ≤ maxLen) (h2 : (Lit.int .i64 C).wf = true) (h3 : Src w a3 (cellsP L)) (hm3 : L.length ≤ maxLen ∧ ∀ x ∈ L, x.1.size ≤ maxLen ∧ x.2.size ≤ maxLen) (h4 : Src w a4 (cellsP M)) (hm4 : M.length ≤ maxLen ∧ ∀ x ∈ M, x.1.size ≤ maxLen ∧ x.2.size ≤ maxLen) (hH : HasHalf w) :
    Calls Tryd.prog 3 #[.string F, .string T, .int .i64 C, .slice a3 L.length c3, .slice a4 M.length c4] w fun e w' => e = .returned (.bool true) ∧ Below w.heap.size w w' := by
  obtain ⟨n3, hn3⟩ : ∃ n, L.length = n := ⟨_, rfl⟩
  have HN3 : Hid (L.length = n3) := hn3
  have HR3 : Hid (Src w a3 (cellsP L)) := h3
  have HM3 : Hid (L.length ≤ maxLen ∧ ∀ x ∈ L, x.1.size ≤ maxLen ∧ x.2.size ≤ maxLen) := hm3
  have hnm3 : n3 ≤ maxLen := by rw [← hn3]; exact hm3.1
  unfold maxLen at hnm3
  rw [hn3]
  clear hm3 h3 hn3
  obtain ⟨n4, hn4⟩ : ∃ n, M.length = n := ⟨_, rfl⟩
  have HN4 : Hid (M.length = n4) := hn4
  have HR4 : Hid (Src w a4 (cellsP M)) := h4
  have HM4 : Hid (M.length ≤ maxLen ∧ ∀ x ∈ M, x.1.size ≤ maxLen ∧ x.2.size ≤ maxLen) := hm4
  have hnm4 : n4 ≤ maxLen := by rw [← hn4]; exact hm4.1
  unfold maxLen at hnm4
  rw [hn4]
  clear hm4 h4 hn4
  have HH : Hid (HasHalf w) := hH
  clear hH
  unfold maxLen at h0
  by_cases hb_F : 1048576 < F.size
  · go_enter Tryd.func3, Tryd.ntmps3
    go_wp2_with fail
    go_ret
    exact ⟨rfl, Below.refl _ _⟩
  have hs_F : F.size ≤ 1048576 := by omega
  unfold maxLen at h1
  by_cases hb_T : 1048576 < T.size
  · go_enter Tryd.func3, Tryd.ntmps3
    go_wp2_with fail
    go_ret
    exact ⟨rfl, Below.refl _ _⟩
  have hs_T : T.size ≤ 1048576 := by omega
  go_enter Tryd.func3, Tryd.ntmps3
  go_wp2_with fail
  have B0 : Hid (Below w.heap.size w w) := Below.refl _ _
  go_at_call 4
  refine (szPairS a3 n3 c3 L 1048576 _ HN3.out (by unfold maxLen; omega) HM3.out.2 (by omega) (by omega) (HR3.out.below B0.out)).mono ?_
  rintro e w1 ⟨r3, rfl, hrl3, hr3, hb1⟩
  have B1 : Hid (Below w.heap.size w w1) := B0.out.trans ((hb1).mono B0.out.size)
  clear B0
  clear hb1
  by_cases hneg3 : r3 < 0
  · clear hr3
    go_wp2_with fail
    go_ret
    exact ⟨rfl, B1.out⟩
  have SM3 : Hid (n3 ≤ 1048576 ∧ ∀ x ∈ L, x.1.size ≤ 1048576 ∧ x.2.size ≤ 1048576) := (hr3 (by omega)).2
  have hsm3 : n3 ≤ 1048576 := SM3.out.1
  clear hr3
  go_wp2_with fail
  go_at_call 4
  refine (szPairS a4 n4 c4 M r3 _ HN4.out (by unfold maxLen; omega) HM4.out.2 (by omega) (by omega) (HR4.out.below B1.out)).mono ?_
  rintro e w2 ⟨r4, rfl, hrl4, hr4, hb2⟩
  have B2 : Hid (Below w.heap.size w w2) := B1.out.trans ((hb2).mono B1.out.size)
  clear B1
  clear hb2
  by_cases hneg4 : r4 < 0
  · clear hr4
    go_wp2_with fail
    go_ret
    exact ⟨rfl, B2.out⟩
  have SM4 : Hid (n4 ≤ 1048576 ∧ ∀ x ∈ M, x.1.size ≤ 1048576 ∧ x.2.size ≤ 1048576) := (hr4 (by omega)).2
  have hsm4 : n4 ≤ 1048576 := SM4.out.1
  clear hr4
  go_wp2_with fail
  have BZ : Hid (w.heap.size ≤ w2.heap.size) := B2.out.size
  go_at_call 6
  refine (toPairS a3 n3 c3 L _ HN3.out hsm3 (HR3.out.below B2.out)).mono ?_
  rintro e w3 ⟨v3, rfl, own3, hb3⟩
  obtain ⟨e3, f3, rfl, s3, _⟩ := own_src own3
  have B3 : Hid (Below w.heap.size w w3) := B2.out.trans ((hb3).mono B2.out.size)
  clear B2
  have Z3 : Hid (w2.heap.size ≤ w3.heap.size) := hb3.size
  have Q3x3 : Hid (Src w3 e3 (cellsP L)) := s3
  clear hb3 own3 s3
  go_wp2_with fail
  go_at_call 6
  refine (toPairS a4 n4 c4 M _ HN4.out hsm4 (HR4.out.below B3.out)).mono ?_
  rintro e w4 ⟨v4, rfl, own4, hb4⟩
  obtain ⟨e4, f4, rfl, s4, _⟩ := own_src own4
  have B4 : Hid (Below w.heap.size w w4) := B3.out.trans ((hb4).mono B3.out.size)
  have Q3x4 : Hid (Src w4 e3 (cellsP L)) := Q3x3.out.below (hb4)
  clear B3 Q3x3
  have Z4 : Hid (w3.heap.size ≤ w4.heap.size) := hb4.size
  have Q4x4 : Hid (Src w4 e4 (cellsP M)) := s4
  clear hb4 own4 s4
  go_wp2_with fail
  go_at_call 5
  refine (specMakeBackup F T C e3 e4 n3 n4 f3 f4 L M _ hs_F hs_T HN3.out HN4.out hsm3 hsm4 SM3.out.2 SM4.out.2 Q3x4.out Q4x4.out).mono ?_
  rintro e w5 ⟨u5, D, q, rfl, heq, own5, hb5⟩
  obtain ⟨b1, d1, rfl⟩ := own5.lit
  have B5 : Hid (Below w.heap.size w w5) := B4.out.trans ((hb5).mono B4.out.size)
  have Q3x5 : Hid (Src w5 e3 (cellsP L)) := Q3x4.out.below (hb5)
  have Q4x5 : Hid (Src w5 e4 (cellsP M)) := Q4x4.out.below (hb5)
  clear B4 Q3x4 Q4x4
  have OW5 : Hid (OwnsK w5 w4.heap.size w5.heap.size (.agg #[.string D.F, .string D.T, .int .i64 D.C, .slice b1 D.D.length d1, .int .i64 D.S]) D) := own5
  have Z5 : Hid (w4.heap.size ≤ w5.heap.size) := hb5.size
  have HEQ : Hid (mbA F T C L M = (D, q)) := heq
  have hL : D.D.length ≤ 1048576 := mbA_small heq
  clear hb5 own5 heq
  clear Q3x5
  clear Q4x5
  go_wp2_with fail
  go_at_call 6
  refine (toPairS a3 n3 c3 L _ HN3.out hsm3 (HR3.out.below (B5.out.alloc B5.out.size _))).mono ?_
  rintro e w6 ⟨v6, rfl, own6, hb6⟩
  obtain ⟨e6, f6, rfl, s6, _⟩ := own_src own6
  have B6 : Hid (Below w.heap.size w w6) := B5.out.trans ((Below.new hb6).mono B5.out.size)
  have OW6 : Hid (OwnsK w6 w4.heap.size w5.heap.size (.agg #[.string D.F, .string D.T, .int .i64 D.C, .slice b1 D.D.length d1, .int .i64 D.S]) D) := OW5.out.below (Below.new hb6)
  clear B5 OW5
  have Z6 : Hid ((w5.heap.size + 1) ≤ w6.heap.size) := size_new hb6
  have OXa6 : Hid (OwnsR w6 43 2 (w5.heap.size + 1) w6.heap.size (.slice e6 n3 f6) n3 (cellsP L)) := OwnsR.mk (own_mono own6 (by simp)) (Nat.le_refl _)
  have W6 : Hid (Box w6 w5.heap.size [.string D.F, .string D.T, .int .i64 D.C, .slice b1 D.D.length d1, .int .i64 D.S]) := Box.below (Box.new rfl) hb6
  clear hb6 own6 s6
  go_wp2_with fail
  go_at_call 6
  refine (toPairS a4 n4 c4 M _ HN4.out hsm4 (HR4.out.below B6.out)).mono ?_
  rintro e w7 ⟨v7, rfl, own7, hb7⟩
  obtain ⟨e7, f7, rfl, s7, _⟩ := own_src own7
  have B7 : Hid (Below w.heap.size w w7) := B6.out.trans ((hb7).mono B6.out.size)
  have OW7 : Hid (OwnsK w7 w4.heap.size w5.heap.size (.agg #[.string D.F, .string D.T, .int .i64 D.C, .slice b1 D.D.length d1, .int .i64 D.S]) D) := OW6.out.below (hb7)
  have OXa7 : Hid (OwnsR w7 43 2 (w5.heap.size + 1) w6.heap.size (.slice e6 n3 f6) n3 (cellsP L)) := OXa6.out.below (hb7)
  have W7 : Hid (Box w7 w5.heap.size [.string D.F, .string D.T, .int .i64 D.C, .slice b1 D.D.length d1, .int .i64 D.S]) := W6.out.below (hb7)
  clear B6 OW6 OXa6 W6
  have Z7 : Hid (w6.heap.size ≤ w7.heap.size) := hb7.size
  have OXb7 : Hid (OwnsR w7 43 2 w6.heap.size w7.heap.size (.slice e7 n4 f7) n4 (cellsP M)) := OwnsR.mk own7 (Nat.le_refl _)
  clear hb7 own7 s7
  go_wp2_with fail
  go_at_call 7
  refine (implMakeBackup F T C e6 e7 n3 n4 f6 f7 L M _ hs_F hs_T HN3.out HN4.out hsm3 hsm4 SM3.out.2 SM4.out.2 OXa7.out.src OXb7.out.src (HH.out.below B7.out)).mono ?_
  rintro e w8 ⟨u8, D', q', rfl, heq, own8, hb8⟩
  obtain ⟨rfl, rfl⟩ : D = D' ∧ q = q' := by have h2 := HEQ.out.symm.trans heq; simpa using h2
  clear heq
  obtain ⟨m1, k1, rfl⟩ := own8.lit
  have B8 : Hid (Below w.heap.size w w8) := B7.out.trans ((hb8).mono B7.out.size)
  have OW8 : Hid (OwnsK w8 w4.heap.size w5.heap.size (.agg #[.string D.F, .string D.T, .int .i64 D.C, .slice b1 D.D.length d1, .int .i64 D.S]) D) := OW7.out.below (hb8)
  have OXa8 : Hid (OwnsR w8 43 2 (w5.heap.size + 1) w6.heap.size (.slice e6 n3 f6) n3 (cellsP L)) := OXa7.out.below (hb8)
  have W8 : Hid (Box w8 w5.heap.size [.string D.F, .string D.T, .int .i64 D.C, .slice b1 D.D.length d1, .int .i64 D.S]) := W7.out.below (hb8)
  have OXb8 : Hid (OwnsR w8 43 2 w6.heap.size w7.heap.size (.slice e7 n4 f7) n4 (cellsP M)) := OXb7.out.below (hb8)
  clear B7 OW7 OXa7 W7 OXb7
  have Z8 : Hid (w7.heap.size ≤ w8.heap.size) := hb8.size
  have OG8 : Hid (OwnsK w8 w7.heap.size w8.heap.size (.agg #[.string D.F, .string D.T, .int .i64 D.C, .slice m1 D.D.length k1, .int .i64 D.S]) D) := own8
  clear hb8 own8
  have hcc : (q != q) = false := by simp
  obtain ⟨p0, _⟩ := (W8.out.old (.cells #[.string D.F, .string D.T, .int .i64 D.C, .slice m1 D.D.length k1, .int .i64 D.S] 26)) 0 _ rfl
  obtain ⟨p1, _⟩ := (W8.out.old (.cells #[.string D.F, .string D.T, .int .i64 D.C, .slice m1 D.D.length k1, .int .i64 D.S] 26)) 1 _ rfl
  obtain ⟨p2, _⟩ := (W8.out.old (.cells #[.string D.F, .string D.T, .int .i64 D.C, .slice m1 D.D.length k1, .int .i64 D.S] 26)) 2 _ rfl
  obtain ⟨p3, _⟩ := (W8.out.old (.cells #[.string D.F, .string D.T, .int .i64 D.C, .slice m1 D.D.length k1, .int .i64 D.S] 26)) 3 _ rfl
  obtain ⟨p4, _⟩ := (W8.out.old (.cells #[.string D.F, .string D.T, .int .i64 D.C, .slice m1 D.D.length k1, .int .i64 D.S] 26)) 4 _ rfl
  have A4 : Hid (Below w8.heap.size w8 (w8.alloc (.cells #[.string D.F, .string D.T, .int .i64 D.C, .slice m1 D.D.length k1, .int .i64 D.S] 26))) := (Below.refl _ _).alloc (Nat.le_refl _) _
  go_wp2_with fail
  go_at_call 8
  refine (eqBackup _ _ D _ (by omega) (OG8.out.reads.below A4.out) (OW8.out.reads.below A4.out)).mono ?_
  rintro e w9 ⟨rfl, hb9⟩
  have B9 : Hid (Below w.heap.size w w9) := B8.out.trans ((Below.new hb9).mono B8.out.size)
  have OW9 : Hid (OwnsK w9 w4.heap.size w5.heap.size (.agg #[.string D.F, .string D.T, .int .i64 D.C, .slice b1 D.D.length d1, .int .i64 D.S]) D) := OW8.out.below (Below.new hb9)
  have OXa9 : Hid (OwnsR w9 43 2 (w5.heap.size + 1) w6.heap.size (.slice e6 n3 f6) n3 (cellsP L)) := OXa8.out.below (Below.new hb9)
  have W9 : Hid (Box w9 w5.heap.size [.string D.F, .string D.T, .int .i64 D.C, .slice b1 D.D.length d1, .int .i64 D.S]) := W8.out.below (Below.new hb9)
  have OXb9 : Hid (OwnsR w9 43 2 w6.heap.size w7.heap.size (.slice e7 n4 f7) n4 (cellsP M)) := OXb8.out.below (Below.new hb9)
  have OG9 : Hid (OwnsK w9 w7.heap.size w8.heap.size (.agg #[.string D.F, .string D.T, .int .i64 D.C, .slice m1 D.D.length k1, .int .i64 D.S]) D) := OG8.out.below (Below.new hb9)
  clear B8 OW8 OXa8 W8 OXb8 OG8
  have Z9 : Hid (w8.heap.size + 1 ≤ w9.heap.size) := size_new hb9
  have Y9 : Hid (Box w9 w8.heap.size [.string D.F, .string D.T, .int .i64 D.C, .slice m1 D.D.length k1, .int .i64 D.S]) := Box.below (Box.new rfl) hb9
  clear hb9 A4 p0 p1 p2 p3 p4
  go_wp2_with fail
  go_at_call 6
  refine (toPairS a3 n3 c3 L _ HN3.out hsm3 (HR3.out.below B9.out)).mono ?_
  rintro e w10 ⟨v10, rfl, own10, hb10⟩
  obtain ⟨e10, f10, rfl, s10, _⟩ := own_src own10
  have B10 : Hid (Below w.heap.size w w10) := B9.out.trans ((hb10).mono B9.out.size)
  have OW10 : Hid (OwnsK w10 w4.heap.size w5.heap.size (.agg #[.string D.F, .string D.T, .int .i64 D.C, .slice b1 D.D.length d1, .int .i64 D.S]) D) := OW9.out.below (hb10)
  have OXa10 : Hid (OwnsR w10 43 2 (w5.heap.size + 1) w6.heap.size (.slice e6 n3 f6) n3 (cellsP L)) := OXa9.out.below (hb10)
  have W10 : Hid (Box w10 w5.heap.size [.string D.F, .string D.T, .int .i64 D.C, .slice b1 D.D.length d1, .int .i64 D.S]) := W9.out.below (hb10)
  have OXb10 : Hid (OwnsR w10 43 2 w6.heap.size w7.heap.size (.slice e7 n4 f7) n4 (cellsP M)) := OXb9.out.below (hb10)
  have OG10 : Hid (OwnsK w10 w7.heap.size w8.heap.size (.agg #[.string D.F, .string D.T, .int .i64 D.C, .slice m1 D.D.length k1, .int .i64 D.S]) D) := OG9.out.below (hb10)
  have Y10 : Hid (Box w10 w8.heap.size [.string D.F, .string D.T, .int .i64 D.C, .slice m1 D.D.length k1, .int .i64 D.S]) := Y9.out.below (hb10)
  clear B9 OW9 OXa9 W9 OXb9 OG9 Y9
  have Z10 : Hid (w9.heap.size ≤ w10.heap.size) := hb10.size
  have Q10x10 : Hid (Src w10 e10 (cellsP L)) := s10
  clear hb10 own10 s10
  go_wp2_with fail
  go_at_call 9
  refine (eqPairS e6 e10 n3 f6 f10 L _ HN3.out (by omega) OXa10.out.src Q10x10.out).mono ?_
  rintro e w11 ⟨rfl, hb11⟩
  have B11 : Hid (Below w.heap.size w w11) := B10.out.trans ((hb11).mono B10.out.size)
  have OW11 : Hid (OwnsK w11 w4.heap.size w5.heap.size (.agg #[.string D.F, .string D.T, .int .i64 D.C, .slice b1 D.D.length d1, .int .i64 D.S]) D) := OW10.out.below (hb11)
  have OXa11 : Hid (OwnsR w11 43 2 (w5.heap.size + 1) w6.heap.size (.slice e6 n3 f6) n3 (cellsP L)) := OXa10.out.below (hb11)
  have W11 : Hid (Box w11 w5.heap.size [.string D.F, .string D.T, .int .i64 D.C, .slice b1 D.D.length d1, .int .i64 D.S]) := W10.out.below (hb11)
  have OXb11 : Hid (OwnsR w11 43 2 w6.heap.size w7.heap.size (.slice e7 n4 f7) n4 (cellsP M)) := OXb10.out.below (hb11)
  have OG11 : Hid (OwnsK w11 w7.heap.size w8.heap.size (.agg #[.string D.F, .string D.T, .int .i64 D.C, .slice m1 D.D.length k1, .int .i64 D.S]) D) := OG10.out.below (hb11)
  have Y11 : Hid (Box w11 w8.heap.size [.string D.F, .string D.T, .int .i64 D.C, .slice m1 D.D.length k1, .int .i64 D.S]) := Y10.out.below (hb11)
  have Q10x11 : Hid (Src w11 e10 (cellsP L)) := Q10x10.out.below (hb11)
  clear B10 OW10 OXa10 W10 OXb10 OG10 Y10 Q10x10
  clear hb11
  clear Q10x11
  go_wp2_with fail
  go_at_call 6
  refine (toPairS a4 n4 c4 M _ HN4.out hsm4 (HR4.out.below B11.out)).mono ?_
  rintro e w12 ⟨v12, rfl, own12, hb12⟩
  obtain ⟨e12, f12, rfl, s12, _⟩ := own_src own12
  have B12 : Hid (Below w.heap.size w w12) := B11.out.trans ((hb12).mono B11.out.size)
  have OW12 : Hid (OwnsK w12 w4.heap.size w5.heap.size (.agg #[.string D.F, .string D.T, .int .i64 D.C, .slice b1 D.D.length d1, .int .i64 D.S]) D) := OW11.out.below (hb12)
  have OXa12 : Hid (OwnsR w12 43 2 (w5.heap.size + 1) w6.heap.size (.slice e6 n3 f6) n3 (cellsP L)) := OXa11.out.below (hb12)
  have W12 : Hid (Box w12 w5.heap.size [.string D.F, .string D.T, .int .i64 D.C, .slice b1 D.D.length d1, .int .i64 D.S]) := W11.out.below (hb12)
  have OXb12 : Hid (OwnsR w12 43 2 w6.heap.size w7.heap.size (.slice e7 n4 f7) n4 (cellsP M)) := OXb11.out.below (hb12)
  have OG12 : Hid (OwnsK w12 w7.heap.size w8.heap.size (.agg #[.string D.F, .string D.T, .int .i64 D.C, .slice m1 D.D.length k1, .int .i64 D.S]) D) := OG11.out.below (hb12)
  have Y12 : Hid (Box w12 w8.heap.size [.string D.F, .string D.T, .int .i64 D.C, .slice m1 D.D.length k1, .int .i64 D.S]) := Y11.out.below (hb12)
  clear B11 OW11 OXa11 W11 OXb11 OG11 Y11
  have Z12 : Hid (w11.heap.size ≤ w12.heap.size) := hb12.size
  have Q12x12 : Hid (Src w12 e12 (cellsP M)) := s12
  clear hb12 own12 s12
  go_wp2_with fail
  go_at_call 9
  refine (eqPairS e7 e12 n4 f7 f12 M _ HN4.out (by omega) OXb12.out.src Q12x12.out).mono ?_
  rintro e w13 ⟨rfl, hb13⟩
  have B13 : Hid (Below w.heap.size w w13) := B12.out.trans ((hb13).mono B12.out.size)
  have OW13 : Hid (OwnsK w13 w4.heap.size w5.heap.size (.agg #[.string D.F, .string D.T, .int .i64 D.C, .slice b1 D.D.length d1, .int .i64 D.S]) D) := OW12.out.below (hb13)
  have OXa13 : Hid (OwnsR w13 43 2 (w5.heap.size + 1) w6.heap.size (.slice e6 n3 f6) n3 (cellsP L)) := OXa12.out.below (hb13)
  have W13 : Hid (Box w13 w5.heap.size [.string D.F, .string D.T, .int .i64 D.C, .slice b1 D.D.length d1, .int .i64 D.S]) := W12.out.below (hb13)
  have OXb13 : Hid (OwnsR w13 43 2 w6.heap.size w7.heap.size (.slice e7 n4 f7) n4 (cellsP M)) := OXb12.out.below (hb13)
  have OG13 : Hid (OwnsK w13 w7.heap.size w8.heap.size (.agg #[.string D.F, .string D.T, .int .i64 D.C, .slice m1 D.D.length k1, .int .i64 D.S]) D) := OG12.out.below (hb13)
  have Y13 : Hid (Box w13 w8.heap.size [.string D.F, .string D.T, .int .i64 D.C, .slice m1 D.D.length k1, .int .i64 D.S]) := Y12.out.below (hb13)
  have Q12x13 : Hid (Src w13 e12 (cellsP M)) := Q12x12.out.below (hb13)
  clear B12 OW12 OXa12 W12 OXb12 OG12 Y12 Q12x12
  clear hb13
  clear Q12x13
  go_wp2_with fail
  go_at_call 10
  refine (markPairS _ n3 1 (w5.heap.size + 1) (cellsP L) _ hsm3 (by omega) (by omega) OXa13.out.1).mono ?_
  rintro e w14 ⟨rfl, G14, m14⟩
  have T14 : Turned (w5.heap.size + 1) w6.heap.size w13 w14 := Turned.of_grown G14 (fun k e => ⟨(OXa13.out.1.lt k e).1, OXa13.out.2 k e⟩)
  have B14 : Hid (Below w.heap.size w w14) := Below.turned B13.out T14 (Nat.le_refl _) (by have := Z3.out; have := Z4.out; have := Z5.out; have := Z6.out; have := Z7.out; have := Z8.out; have := Z9.out; have := Z10.out; have := Z12.out; have := BZ.out; omega)
  have OW14 : Hid (OwnsK w14 w4.heap.size w5.heap.size (.agg #[.string D.F, .string D.T, .int .i64 D.C, .slice b1 D.D.length d1, .int .i64 D.S]) D) := OW13.out.turned T14 (by have := Z3.out; have := Z4.out; have := Z5.out; have := Z6.out; have := Z7.out; have := Z8.out; have := Z9.out; have := Z10.out; have := Z12.out; have := BZ.out; omega)
  have W14 : Hid (Box w14 w5.heap.size [.string D.F, .string D.T, .int .i64 D.C, .slice b1 D.D.length d1, .int .i64 D.S]) := W13.out.turned T14 (by have := Z3.out; have := Z4.out; have := Z5.out; have := Z6.out; have := Z7.out; have := Z8.out; have := Z9.out; have := Z10.out; have := Z12.out; have := BZ.out; omega)
  have OXb14 : Hid (OwnsR w14 43 2 w6.heap.size w7.heap.size (.slice e7 n4 f7) n4 (cellsP M)) := OXb13.out.turned T14 (by have := Z3.out; have := Z4.out; have := Z5.out; have := Z6.out; have := Z7.out; have := Z8.out; have := Z9.out; have := Z10.out; have := Z12.out; have := BZ.out; omega)
  have OG14 : Hid (OwnsK w14 w7.heap.size w8.heap.size (.agg #[.string D.F, .string D.T, .int .i64 D.C, .slice m1 D.D.length k1, .int .i64 D.S]) D) := OG13.out.turned T14 (by have := Z3.out; have := Z4.out; have := Z5.out; have := Z6.out; have := Z7.out; have := Z8.out; have := Z9.out; have := Z10.out; have := Z12.out; have := BZ.out; omega)
  have Y14 : Hid (Box w14 w8.heap.size [.string D.F, .string D.T, .int .i64 D.C, .slice m1 D.D.length k1, .int .i64 D.S]) := Y13.out.turned T14 (by have := Z3.out; have := Z4.out; have := Z5.out; have := Z6.out; have := Z7.out; have := Z8.out; have := Z9.out; have := Z10.out; have := Z12.out; have := BZ.out; omega)
  clear B13 OW13 W13 OXb13 OG13 Y13
  clear T14 G14 m14 OXa13
  obtain ⟨E3, hE3⟩ : ∃ E : Nat, 1 + n3 * 2 = E := ⟨_, rfl⟩
  rw [hE3]
  have hbE3 : 0 < E3 ∧ E3 ≤ 4194304 := by omega
  clear hE3
  go_wp2_with fail
  go_at_call 10
  refine (markPairS _ n4 E3 w6.heap.size (cellsP M) _ hsm4 (by omega) (by omega) OXb14.out.1).mono ?_
  rintro e w15 ⟨rfl, G15, m15⟩
  have T15 : Turned w6.heap.size w7.heap.size w14 w15 := Turned.of_grown G15 (fun k e => ⟨(OXb14.out.1.lt k e).1, OXb14.out.2 k e⟩)
  have B15 : Hid (Below w.heap.size w w15) := Below.turned B14.out T15 (Nat.le_refl _) (by have := Z3.out; have := Z4.out; have := Z5.out; have := Z6.out; have := Z7.out; have := Z8.out; have := Z9.out; have := Z10.out; have := Z12.out; have := BZ.out; omega)
  have OW15 : Hid (OwnsK w15 w4.heap.size w5.heap.size (.agg #[.string D.F, .string D.T, .int .i64 D.C, .slice b1 D.D.length d1, .int .i64 D.S]) D) := OW14.out.turned T15 (by have := Z3.out; have := Z4.out; have := Z5.out; have := Z6.out; have := Z7.out; have := Z8.out; have := Z9.out; have := Z10.out; have := Z12.out; have := BZ.out; omega)
  have W15 : Hid (Box w15 w5.heap.size [.string D.F, .string D.T, .int .i64 D.C, .slice b1 D.D.length d1, .int .i64 D.S]) := W14.out.turned T15 (by have := Z3.out; have := Z4.out; have := Z5.out; have := Z6.out; have := Z7.out; have := Z8.out; have := Z9.out; have := Z10.out; have := Z12.out; have := BZ.out; omega)
  have OG15 : Hid (OwnsK w15 w7.heap.size w8.heap.size (.agg #[.string D.F, .string D.T, .int .i64 D.C, .slice m1 D.D.length k1, .int .i64 D.S]) D) := OG14.out.turned T15 (by have := Z3.out; have := Z4.out; have := Z5.out; have := Z6.out; have := Z7.out; have := Z8.out; have := Z9.out; have := Z10.out; have := Z12.out; have := BZ.out; omega)
  have Y15 : Hid (Box w15 w8.heap.size [.string D.F, .string D.T, .int .i64 D.C, .slice m1 D.D.length k1, .int .i64 D.S]) := Y14.out.turned T15 (by have := Z3.out; have := Z4.out; have := Z5.out; have := Z6.out; have := Z7.out; have := Z8.out; have := Z9.out; have := Z10.out; have := Z12.out; have := BZ.out; omega)
  clear B14 OW14 W14 OG14 Y14
  clear T15 G15 m15 OXb14
  obtain ⟨E4, hE4⟩ : ∃ E : Nat, E3 + n4 * 2 = E := ⟨_, rfl⟩
  rw [hE4]
  have hbE4 : 0 < E4 ∧ E4 ≤ 16777216 := by omega
  clear hE4
  have hk1 : decide (((E4 : Nat) : Int) < 0) = false := by simp
  obtain ⟨p0, _⟩ := W15.out 0 _ rfl
  obtain ⟨p1, _⟩ := W15.out 1 _ rfl
  obtain ⟨p2, _⟩ := W15.out 2 _ rfl
  obtain ⟨p3, _⟩ := W15.out 3 _ rfl
  obtain ⟨p4, _⟩ := W15.out 4 _ rfl
  obtain ⟨q0, _⟩ := Y15.out 0 _ rfl
  obtain ⟨q1, _⟩ := Y15.out 1 _ rfl
  obtain ⟨q2, _⟩ := Y15.out 2 _ rfl
  obtain ⟨q3, _⟩ := Y15.out 3 _ rfl
  obtain ⟨q4, _⟩ := Y15.out 4 _ rfl
  go_wp2_with fail
  go_at_call 8
  refine (eqBackup _ _ D _ (by omega) OG15.out.reads OW15.out.reads).mono ?_
  rintro e w16 ⟨rfl, hb16⟩
  have B16 : Hid (Below w.heap.size w w16) := B15.out.trans ((hb16).mono B15.out.size)
  have OW16 : Hid (OwnsK w16 w4.heap.size w5.heap.size (.agg #[.string D.F, .string D.T, .int .i64 D.C, .slice b1 D.D.length d1, .int .i64 D.S]) D) := OW15.out.below (hb16)
  have W16 : Hid (Box w16 w5.heap.size [.string D.F, .string D.T, .int .i64 D.C, .slice b1 D.D.length d1, .int .i64 D.S]) := W15.out.below (hb16)
  have OG16 : Hid (OwnsK w16 w7.heap.size w8.heap.size (.agg #[.string D.F, .string D.T, .int .i64 D.C, .slice m1 D.D.length k1, .int .i64 D.S]) D) := OG15.out.below (hb16)
  have Y16 : Hid (Box w16 w8.heap.size [.string D.F, .string D.T, .int .i64 D.C, .slice m1 D.D.length k1, .int .i64 D.S]) := Y15.out.below (hb16)
  clear B15 OW15 W15 OG15 Y15
  clear hb16 hk1 p0 p1 p2 p3 p4 q0 q1 q2 q3 q4
  obtain ⟨q0, _⟩ := Y16.out 0 _ rfl
  obtain ⟨q1, _⟩ := Y16.out 1 _ rfl
  obtain ⟨q2, _⟩ := Y16.out 2 _ rfl
  obtain ⟨q3, _⟩ := Y16.out 3 _ rfl
  obtain ⟨q4, _⟩ := Y16.out 4 _ rfl
  go_wp2_with fail
  have ZQ : Hid (w8.heap.size ≤ w16.heap.size) := Nat.le_of_lt (World.block_lt_of_cell? _ _ q0)
  go_at_call 11
  refine (markBackup _ D 1 w7.heap.size w8.heap.size _ hL (by omega) (by omega) ZQ.out OG16.out).mono ?_
  rintro e w17 ⟨rfl, T17, m17⟩
  have B17 : Hid (Below w.heap.size w w17) := Below.turned B16.out T17 (Nat.le_refl _) (by have := Z3.out; have := Z4.out; have := Z5.out; have := Z6.out; have := Z7.out; have := Z8.out; have := Z9.out; have := Z10.out; have := Z12.out; have := BZ.out; omega)
  have OW17 : Hid (OwnsK w17 w4.heap.size w5.heap.size (.agg #[.string D.F, .string D.T, .int .i64 D.C, .slice b1 D.D.length d1, .int .i64 D.S]) D) := OW16.out.turned T17 (by have := Z3.out; have := Z4.out; have := Z5.out; have := Z6.out; have := Z7.out; have := Z8.out; have := Z9.out; have := Z10.out; have := Z12.out; have := BZ.out; omega)
  have W17 : Hid (Box w17 w5.heap.size [.string D.F, .string D.T, .int .i64 D.C, .slice b1 D.D.length d1, .int .i64 D.S]) := W16.out.turned T17 (by have := Z3.out; have := Z4.out; have := Z5.out; have := Z6.out; have := Z7.out; have := Z8.out; have := Z9.out; have := Z10.out; have := Z12.out; have := BZ.out; omega)
  have Y17 : Hid (Box w17 w8.heap.size [.string D.F, .string D.T, .int .i64 D.C, .slice m1 D.D.length k1, .int .i64 D.S]) := Y16.out.turned T17 (by have := Z3.out; have := Z4.out; have := Z5.out; have := Z6.out; have := Z7.out; have := Z8.out; have := Z9.out; have := Z10.out; have := Z12.out; have := BZ.out; omega)
  clear B16 OW16 W16 Y16
  have OG17 : Hid (OwnsK w17 w7.heap.size w8.heap.size (.agg #[.string D.F, .string D.T, .int .i64 D.C, .slice m1 D.D.length k1, .int .i64 D.S]) (mkK D 1)) := m17
  clear T17 m17 OG16 ZQ q0 q1 q2 q3 q4
  obtain ⟨E, hE⟩ : ∃ E : Nat, 1 + D.D.length * 5 = E := ⟨_, rfl⟩
  rw [hE]
  have HE : Hid (1 + D.D.length * 5 = E) := hE
  clear hE
  have hk2 : decide (((E : Nat) : Int) < 0) = false := by simp
  have hk3 : (((E : Nat) : Int) != ((E : Nat) : Int)) = false := by simp
  obtain ⟨q0, _⟩ := Y17.out 0 _ rfl
  obtain ⟨q1, _⟩ := Y17.out 1 _ rfl
  obtain ⟨q2, _⟩ := Y17.out 2 _ rfl
  obtain ⟨q3, _⟩ := Y17.out 3 _ rfl
  obtain ⟨q4, _⟩ := Y17.out 4 _ rfl
  go_wp2_with fail
  go_at_call 12
  refine (heldBackup _ D 1 _ hL (by omega) (by omega) OG17.out.reads).mono ?_
  rintro e w18 ⟨rfl, hb18⟩
  rw [HE.out]
  have B18 : Hid (Below w.heap.size w w18) := B17.out.trans ((hb18).mono B17.out.size)
  have OW18 : Hid (OwnsK w18 w4.heap.size w5.heap.size (.agg #[.string D.F, .string D.T, .int .i64 D.C, .slice b1 D.D.length d1, .int .i64 D.S]) D) := OW17.out.below (hb18)
  have W18 : Hid (Box w18 w5.heap.size [.string D.F, .string D.T, .int .i64 D.C, .slice b1 D.D.length d1, .int .i64 D.S]) := W17.out.below (hb18)
  have OG18 : Hid (OwnsK w18 w7.heap.size w8.heap.size (.agg #[.string D.F, .string D.T, .int .i64 D.C, .slice m1 D.D.length k1, .int .i64 D.S]) (mkK D 1)) := OG17.out.below (hb18)
  have Y18 : Hid (Box w18 w8.heap.size [.string D.F, .string D.T, .int .i64 D.C, .slice m1 D.D.length k1, .int .i64 D.S]) := Y17.out.below (hb18)
  clear B17 OW17 W17 OG17 Y17
  clear hb18 q0 q1 q2 q3 q4
  go_wp2_with fail
  go_at_call 6
  refine (toPairS a3 n3 c3 L _ HN3.out hsm3 (HR3.out.below B18.out)).mono ?_
  rintro e w19 ⟨v19, rfl, own19, hb19⟩
  obtain ⟨e19, f19, rfl, s19, _⟩ := own_src own19
  have B19 : Hid (Below w.heap.size w w19) := B18.out.trans ((hb19).mono B18.out.size)
  have OW19 : Hid (OwnsK w19 w4.heap.size w5.heap.size (.agg #[.string D.F, .string D.T, .int .i64 D.C, .slice b1 D.D.length d1, .int .i64 D.S]) D) := OW18.out.below (hb19)
  have W19 : Hid (Box w19 w5.heap.size [.string D.F, .string D.T, .int .i64 D.C, .slice b1 D.D.length d1, .int .i64 D.S]) := W18.out.below (hb19)
  have OG19 : Hid (OwnsK w19 w7.heap.size w8.heap.size (.agg #[.string D.F, .string D.T, .int .i64 D.C, .slice m1 D.D.length k1, .int .i64 D.S]) (mkK D 1)) := OG18.out.below (hb19)
  have Y19 : Hid (Box w19 w8.heap.size [.string D.F, .string D.T, .int .i64 D.C, .slice m1 D.D.length k1, .int .i64 D.S]) := Y18.out.below (hb19)
  clear B18 OW18 W18 OG18 Y18
  have Z19 : Hid (w18.heap.size ≤ w19.heap.size) := hb19.size
  have Q19x19 : Hid (Src w19 e19 (cellsP L)) := s19
  clear hb19 own19 s19
  go_wp2_with fail
  go_at_call 6
  refine (toPairS a4 n4 c4 M _ HN4.out hsm4 (HR4.out.below B19.out)).mono ?_
  rintro e w20 ⟨v20, rfl, own20, hb20⟩
  obtain ⟨e20, f20, rfl, s20, _⟩ := own_src own20
  have B20 : Hid (Below w.heap.size w w20) := B19.out.trans ((hb20).mono B19.out.size)
  have OW20 : Hid (OwnsK w20 w4.heap.size w5.heap.size (.agg #[.string D.F, .string D.T, .int .i64 D.C, .slice b1 D.D.length d1, .int .i64 D.S]) D) := OW19.out.below (hb20)
  have W20 : Hid (Box w20 w5.heap.size [.string D.F, .string D.T, .int .i64 D.C, .slice b1 D.D.length d1, .int .i64 D.S]) := W19.out.below (hb20)
  have OG20 : Hid (OwnsK w20 w7.heap.size w8.heap.size (.agg #[.string D.F, .string D.T, .int .i64 D.C, .slice m1 D.D.length k1, .int .i64 D.S]) (mkK D 1)) := OG19.out.below (hb20)
  have Y20 : Hid (Box w20 w8.heap.size [.string D.F, .string D.T, .int .i64 D.C, .slice m1 D.D.length k1, .int .i64 D.S]) := Y19.out.below (hb20)
  have Q19x20 : Hid (Src w20 e19 (cellsP L)) := Q19x19.out.below (hb20)
  clear B19 OW19 W19 OG19 Y19 Q19x19
  have Z20 : Hid (w19.heap.size ≤ w20.heap.size) := hb20.size
  have Q20x20 : Hid (Src w20 e20 (cellsP M)) := s20
  clear hb20 own20 s20
  go_wp2_with fail
  go_at_call 7
  refine (implMakeBackup F T C e19 e20 n3 n4 f19 f20 L M _ hs_F hs_T HN3.out HN4.out hsm3 hsm4 SM3.out.2 SM4.out.2 Q19x20.out Q20x20.out (HH.out.below B20.out)).mono ?_
  rintro e w21 ⟨u21, D', q', rfl, heq, own21, hb21⟩
  obtain ⟨rfl, rfl⟩ : D = D' ∧ q = q' := by have h2 := HEQ.out.symm.trans heq; simpa using h2
  clear heq
  obtain ⟨m2, k2, rfl⟩ := own21.lit
  have B21 : Hid (Below w.heap.size w w21) := B20.out.trans ((hb21).mono B20.out.size)
  have OW21 : Hid (OwnsK w21 w4.heap.size w5.heap.size (.agg #[.string D.F, .string D.T, .int .i64 D.C, .slice b1 D.D.length d1, .int .i64 D.S]) D) := OW20.out.below (hb21)
  have W21 : Hid (Box w21 w5.heap.size [.string D.F, .string D.T, .int .i64 D.C, .slice b1 D.D.length d1, .int .i64 D.S]) := W20.out.below (hb21)
  have OG21 : Hid (OwnsK w21 w7.heap.size w8.heap.size (.agg #[.string D.F, .string D.T, .int .i64 D.C, .slice m1 D.D.length k1, .int .i64 D.S]) (mkK D 1)) := OG20.out.below (hb21)
  have Y21 : Hid (Box w21 w8.heap.size [.string D.F, .string D.T, .int .i64 D.C, .slice m1 D.D.length k1, .int .i64 D.S]) := Y20.out.below (hb21)
  have Q19x21 : Hid (Src w21 e19 (cellsP L)) := Q19x20.out.below (hb21)
  have Q20x21 : Hid (Src w21 e20 (cellsP M)) := Q20x20.out.below (hb21)
  clear B20 OW20 W20 OG20 Y20 Q19x20 Q20x20
  have OH : Hid (ReadsK w21 (.agg #[.string D.F, .string D.T, .int .i64 D.C, .slice m2 D.D.length k2, .int .i64 D.S]) D) := own21.reads
  clear hb21 own21
  clear Q19x21
  clear Q20x21
  obtain ⟨p0, _⟩ := (W21.out.old (.cells #[.string D.F, .string D.T, .int .i64 D.C, .slice m2 D.D.length k2, .int .i64 D.S] 26)) 0 _ rfl
  obtain ⟨p1, _⟩ := (W21.out.old (.cells #[.string D.F, .string D.T, .int .i64 D.C, .slice m2 D.D.length k2, .int .i64 D.S] 26)) 1 _ rfl
  obtain ⟨p2, _⟩ := (W21.out.old (.cells #[.string D.F, .string D.T, .int .i64 D.C, .slice m2 D.D.length k2, .int .i64 D.S] 26)) 2 _ rfl
  obtain ⟨p3, _⟩ := (W21.out.old (.cells #[.string D.F, .string D.T, .int .i64 D.C, .slice m2 D.D.length k2, .int .i64 D.S] 26)) 3 _ rfl
  obtain ⟨p4, _⟩ := (W21.out.old (.cells #[.string D.F, .string D.T, .int .i64 D.C, .slice m2 D.D.length k2, .int .i64 D.S] 26)) 4 _ rfl
  have A5 : Hid (Below w21.heap.size w21 (w21.alloc (.cells #[.string D.F, .string D.T, .int .i64 D.C, .slice m2 D.D.length k2, .int .i64 D.S] 26))) := (Below.refl _ _).alloc (Nat.le_refl _) _
  go_wp2_with fail
  go_at_call 8
  refine (eqBackup _ _ D _ (by omega) (OH.out.below A5.out) (OW21.out.reads.below A5.out)).mono ?_
  rintro e w22 ⟨rfl, hb22⟩
  have B22 : Hid (Below w.heap.size w w22) := B21.out.trans ((Below.new hb22).mono B21.out.size)
  have OW22 : Hid (OwnsK w22 w4.heap.size w5.heap.size (.agg #[.string D.F, .string D.T, .int .i64 D.C, .slice b1 D.D.length d1, .int .i64 D.S]) D) := OW21.out.below (Below.new hb22)
  have W22 : Hid (Box w22 w5.heap.size [.string D.F, .string D.T, .int .i64 D.C, .slice b1 D.D.length d1, .int .i64 D.S]) := W21.out.below (Below.new hb22)
  have OG22 : Hid (OwnsK w22 w7.heap.size w8.heap.size (.agg #[.string D.F, .string D.T, .int .i64 D.C, .slice m1 D.D.length k1, .int .i64 D.S]) (mkK D 1)) := OG21.out.below (Below.new hb22)
  have Y22 : Hid (Box w22 w8.heap.size [.string D.F, .string D.T, .int .i64 D.C, .slice m1 D.D.length k1, .int .i64 D.S]) := Y21.out.below (Below.new hb22)
  clear B21 OW21 W21 OG21 Y21
  clear hb22 A5 OH p0 p1 p2 p3 p4
  obtain ⟨q0, _⟩ := Y22.out 0 _ rfl
  obtain ⟨q1, _⟩ := Y22.out 1 _ rfl
  obtain ⟨q2, _⟩ := Y22.out 2 _ rfl
  obtain ⟨q3, _⟩ := Y22.out 3 _ rfl
  obtain ⟨q4, _⟩ := Y22.out 4 _ rfl
  go_wp2_with fail
  go_at_call 12
  refine (heldBackup _ D 1 _ hL (by omega) (by omega) OG22.out.reads).mono ?_
  rintro e w23 ⟨rfl, hb23⟩
  rw [HE.out]
  have B23 : Hid (Below w.heap.size w w23) := B22.out.trans ((hb23).mono B22.out.size)
  have OW23 : Hid (OwnsK w23 w4.heap.size w5.heap.size (.agg #[.string D.F, .string D.T, .int .i64 D.C, .slice b1 D.D.length d1, .int .i64 D.S]) D) := OW22.out.below (hb23)
  have W23 : Hid (Box w23 w5.heap.size [.string D.F, .string D.T, .int .i64 D.C, .slice b1 D.D.length d1, .int .i64 D.S]) := W22.out.below (hb23)
  have OG23 : Hid (OwnsK w23 w7.heap.size w8.heap.size (.agg #[.string D.F, .string D.T, .int .i64 D.C, .slice m1 D.D.length k1, .int .i64 D.S]) (mkK D 1)) := OG22.out.below (hb23)
  have Y23 : Hid (Box w23 w8.heap.size [.string D.F, .string D.T, .int .i64 D.C, .slice m1 D.D.length k1, .int .i64 D.S]) := Y22.out.below (hb23)
  clear B22 OW22 W22 OG22 Y22
  clear hb23 q0 q1 q2 q3 q4
  go_wp2_with fail
  go_ret
  exact ⟨rfl, B23.out⟩
end Go.Proofs.YtkimjnjpfjeldaaDoor.fnExactMakeBackup
