/-
  The walk of the law FnExactReplay.
  By an AI agent.
-/
import Derived.Test.YtmbndpgoihdpnaaGreatDoorRa3
import Derived.Test.YtmbndpgoihdpnaaGreatDoorRa4
import Derived.Test.YtmbndpgoihdpnaaGreatDoorCuts
import Derived.Deep.CutRange
import Derived.Deep.RegionWith
namespace Go.Proofs.YtmbndpgoihdpnaaGreatDoor.fnExactReplay
open Go.ChangeShapes Go.WideShapes Go.ChangeAt Go.WideMaps Go.WideElems Go.RowKit Go.Deep
open Go.ChangeMaps (open_string shut_string)
set_option linter.unusedVariables false

set_option maxHeartbeats 8000000 in
theorem walk (a : Option Addr) (c : Nat) (L : List PM) (s : ByteArray) (i : Int) (v : Value) (D : BM) (w : World) (h : Src w a (cellsP L)) (hm : L.length ≤ maxLen ∧ ∀ x ∈ L, x.1.size ≤ maxLen ∧ x.2.size ≤ maxLen) (hv : ReadsK w v D) (hmk : maxK D) (hH : HasHalf w) (hE : HasErr w) :
    Calls Tryz.prog 3 #[.slice a L.length c, .string s, .int .i64 i, v] w fun e w' => e = .returned (.bool true) ∧ Below w.heap.size w w' := by
  have HK : Hid (ReadsK w v D) := hv
  obtain ⟨b, d, rfl, _⟩ := hv
  obtain ⟨n, hn⟩ : ∃ n, L.length = n := ⟨_, rfl⟩
  have HN : Hid (L.length = n) := hn
  have HR : Hid (Src w a (cellsP L)) := h
  have HM : Hid (L.length ≤ maxLen ∧ ∀ x ∈ L, x.1.size ≤ maxLen ∧ x.2.size ≤ maxLen) := hm
  have MK : Hid (maxK D) := hmk
  have HH : Hid (HasHalf w) := hH
  have HE : Hid (HasErr w) := hE
  have hnm : n ≤ maxLen := by rw [← hn]; exact HM.out.1
  unfold maxLen at hnm
  obtain ⟨F, hF⟩ : ∃ A, D.F = A := ⟨_, rfl⟩
  obtain ⟨T, hT⟩ : ∃ A, D.T = A := ⟨_, rfl⟩
  obtain ⟨C, hC⟩ : ∃ A, D.C = A := ⟨_, rfl⟩
  obtain ⟨S, hS⟩ : ∃ A, D.S = A := ⟨_, rfl⟩
  obtain ⟨m, hm9⟩ : ∃ n, D.D.length = n := ⟨_, rfl⟩
  have LIT : Hid (∀ x y, (Value.agg #[.string D.F, .string D.T, .int .i64 D.C, .slice x D.D.length y, .int .i64 D.S]) = .agg #[.string F, .string T, .int .i64 C, .slice x m y, .int .i64 S]) := by intro x y; rw [hF, hT, hC, hS, hm9]
  have HDm : Hid (D.D.length = m) := hm9
  rw [LIT.out] at HK ⊢
  rw [hn]
  have A0 : Hid (Below w.heap.size w (w.alloc (.cells #[.string F, .string T, .int .i64 C, .slice b m d, .int .i64 S] 25))) := (Below.refl _ _).alloc (Nat.le_refl _) _
  obtain ⟨W0, hW0⟩ : ∃ W, w.alloc (.cells #[.string F, .string T, .int .i64 C, .slice b m d, .int .i64 S] 25) = W := ⟨_, rfl⟩
  have X0 : Hid (Box W0 w.heap.size [.string F, .string T, .int .i64 C, .slice b m d, .int .i64 S]) := by rw [← hW0]; exact Box.new rfl
  have HW0 : Hid (w.alloc (.cells #[.string F, .string T, .int .i64 C, .slice b m d, .int .i64 S] 25) = W0) := hW0
  rw [hW0] at A0
  have Z0 : Hid (W0.heap.size = w.heap.size + 1) := by show _ = _; rw [← hW0]; simp
  clear hm h hn hmk hH hE hF hT hC hS hm9 hW0
  by_cases hl : (1048576 : Int) < (s.size : Int)
  · go_enter Tryz.func3, Tryz.ntmps3
    go_wp2_with fail
    rw [HW0.out]
    go_ret
    exact ⟨rfl, A0.out⟩
  have hsz : s.size ≤ 1048576 := by omega
  go_enter Tryz.func3, Tryz.ntmps3
  go_wp2_with fail
  rw [HW0.out]
  have B0 : Hid (Below w.heap.size w W0) := A0.out
  refine (szPairS a n c L 1048576 _ HN.out (by unfold maxLen; omega) HM.out.2 (by omega) (by omega) (HR.out.below B0.out)).mono ?_
  rintro e w1 ⟨r, rfl, hr1, hr, hb1⟩
  have Z1 : Hid (W0.heap.size ≤ w1.heap.size) := hb1.size
  have B1 : Hid (Below w.heap.size w w1) := B0.out.trans ((hb1).mono B0.out.size)
  have X1 : Hid (Box w1 w.heap.size [.string F, .string T, .int .i64 C, .slice b m d, .int .i64 S]) := X0.out.below (hb1)
  clear B0 X0
  clear hb1
  by_cases hneg : r < 0
  · clear hr
    go_wp2_with fail
    go_ret
    exact ⟨rfl, B1.out⟩
  have SM : Hid (n ≤ 1048576 ∧ ∀ x ∈ L, x.1.size ≤ 1048576 ∧ x.2.size ≤ 1048576) := (hr (by omega)).2
  have hsm : n ≤ 1048576 := SM.out.1
  clear hr
  obtain ⟨p0, _⟩ := X1.out 0 _ rfl
  obtain ⟨p1, _⟩ := X1.out 1 _ rfl
  obtain ⟨p2, _⟩ := X1.out 2 _ rfl
  obtain ⟨p3, _⟩ := X1.out 3 _ rfl
  obtain ⟨p4, _⟩ := X1.out 4 _ rfl
  go_wp2_with fail
  refine (szBackup _ D r _ (by omega) (by omega) MK.out (HK.out.below B1.out)).mono ?_
  rintro e w2 ⟨r2, rfl, _, hr2, hb2⟩
  have Z2 : Hid (w1.heap.size ≤ w2.heap.size) := hb2.size
  have B2 : Hid (Below w.heap.size w w2) := B1.out.trans ((hb2).mono B1.out.size)
  have X2 : Hid (Box w2 w.heap.size [.string F, .string T, .int .i64 C, .slice b m d, .int .i64 S]) := X1.out.below (hb2)
  clear B1 X1
  clear hb2 p0 p1 p2 p3 p4
  by_cases hneg2 : r2 < 0
  · clear hr2
    go_wp2_with fail
    go_ret
    exact ⟨rfl, B2.out⟩
  have SK : Hid (smallK D) := hr2 (by omega)
  have WT : Hid (m ≤ 1048576) := by rw [← HDm.out]; exact SK.out.1
  clear hr2
  go_upto_region 10 with fail
  go_cut [10, 11] from 34 to 43 (fun v9 v8 wx => ∃ (b1 : Option Addr) (d1 : Nat) (R : List PM) (q : Int), v9 = .slice b1 R.length d1 ∧ v8 = .int .i64 q ∧ Hid (rpyA L s i D = (R, q)) ∧ Hid (wx.ownsRow w2.heap.size 70 2 (.slice b1 R.length d1) R.length (cellsP R)) ∧ Hid (Below w2.heap.size w2 wx))
  case first =>
    have HRx : Hid (Src w2 a (cellsP L)) := HR.out.below B2.out
    have HKx : Hid (ReadsK w2 (.agg #[.string F, .string T, .int .i64 C, .slice b m d, .int .i64 S]) D) := HK.out.below B2.out
    obtain ⟨p0, _⟩ := X2.out 0 _ rfl
    obtain ⟨p1, _⟩ := X2.out 1 _ rfl
    obtain ⟨p2, _⟩ := X2.out 2 _ rfl
    obtain ⟨p3, _⟩ := X2.out 3 _ rfl
    obtain ⟨p4, _⟩ := X2.out 4 _ rfl
    go_region_with (first | (go_at_call 9; refine (specReplay L s i D _ eL n fL _ HN.out hsm hcp hsz SM.out.2 SK.out SL.out RK.out).mono ?_; rintro e w3 ⟨u3, R, q, rfl, heq, o3, hb3⟩) | (go_at_call 11; refine (toBackup _ D _ SK.out (HKx.out.below BP.out)).mono ?_; rintro e wk ⟨vk, rfl, ok, hbk⟩; have BB : Hid (Below w2.heap.size w2 wk) := BP.out.trans (hbk.mono BP.out.size); obtain ⟨bk, dk, rfl⟩ := ok.lit; have RK : Hid (ReadsK wk _ D) := ok.reads; rw [LIT.out] at RK ⊢; have SL : Hid (Src wk eL (cellsP L)) := sp.below hbk; clear ok hbk) | (go_at_call 10; refine (toPairS a n c L _ HN.out hsm (HRx.out.below BK.out)).mono ?_; rintro e wp ⟨vp, rfl, op, hbp⟩; have BB : Hid (Below w2.heap.size w2 wp) := BK.out.trans (hbp.mono BK.out.size); obtain ⟨eL, fL, rfl, sp, _⟩ := own_src op; have hcp : n ≤ fL := (own_capx op).1; have SL : Hid (Src wp eL (cellsP L)) := sp; have RK : Hid (ReadsK wp _ D) := RK0.out.below hbp; clear op hbp) | (go_at_call 10; refine (toPairS a n c L _ HN.out hsm (show Src w2.drew a (cellsP L) from HRx.out)).mono ?_; rintro e wp ⟨vp, rfl, op, hbp⟩; have BP : Hid (Below w2.heap.size w2 wp) := (Below.refl _ _).drew.trans hbp; obtain ⟨eL, fL, rfl, sp, _⟩ := own_src op; have hcp : n ≤ fL := (own_capx op).1; clear op hbp; have p0BP : wp.cell? ⟨w.heap.size, 0, none⟩ = some (.string F) := ((X2.out.below BP.out) 0 _ rfl).1; have p1BP : wp.cell? ⟨w.heap.size, 1, none⟩ = some (.string T) := ((X2.out.below BP.out) 1 _ rfl).1; have p2BP : wp.cell? ⟨w.heap.size, 2, none⟩ = some (.int .i64 C) := ((X2.out.below BP.out) 2 _ rfl).1; have p3BP : wp.cell? ⟨w.heap.size, 3, none⟩ = some (.slice b m d) := ((X2.out.below BP.out) 3 _ rfl).1; have p4BP : wp.cell? ⟨w.heap.size, 4, none⟩ = some (.int .i64 S) := ((X2.out.below BP.out) 4 _ rfl).1) | (go_at_call 11; refine (toBackup _ D _ SK.out (show ReadsK w2.drew _ D from HKx.out)).mono ?_; rintro e wk ⟨vk, rfl, ok, hbk⟩; have BK : Hid (Below w2.heap.size w2 wk) := (Below.refl _ _).drew.trans hbk; obtain ⟨bk, dk, rfl⟩ := ok.lit; have RK0 : Hid (ReadsK wk _ D) := ok.reads; rw [LIT.out] at RK0 ⊢; clear ok hbk))
    all_goals
      obtain ⟨b1, d1, rfl, _, _⟩ := own_src o3
      have B3 : Hid (Below w2.heap.size w2 w3) := BB.out.trans (hb3.mono BB.out.size)
      have O3 : Hid (w3.ownsRow w2.heap.size 70 2 (.slice b1 R.length d1) R.length (cellsP R)) := own_mono o3 BB.out.size
      have HQ : Hid (rpyA L s i D = (R, q)) := heq
      clear o3 hb3 heq
      obtain ⟨z, hz⟩ : ∃ z, R.length = z := ⟨_, rfl⟩
      rw [hz] at O3 ⊢
      have HZ : Hid (R.length = z) := hz
      clear hz
      go_wp2_with fail
      go_meet
      exact ⟨b1, d1, R, q, by rw [HZ.out], rfl, HQ.out, by rw [HZ.out]; exact O3.out, B3.out⟩
  case rest =>
    obtain ⟨b1, d1, R, q, rfl, rfl, heq, o3, hb3⟩ := hcut
    obtain ⟨w3, rfl⟩ : ∃ W, W = wc := ⟨_, rfl⟩
    have hb3x := hb3.out
    have Z3 : Hid (w2.heap.size ≤ w3.heap.size) := hb3x.size
    have B3 : Hid (Below w.heap.size w w3) := B2.out.trans ((hb3x).mono B2.out.size)
    have X3 : Hid (Box w3 w.heap.size [.string F, .string T, .int .i64 C, .slice b m d, .int .i64 S]) := X2.out.below (hb3x)
    clear B2 X2
    have OW3 : Hid (OwnsR w3 70 2 w2.heap.size w3.heap.size (.slice b1 R.length d1) R.length (cellsP R)) := OwnsR.mk o3.out (Nat.le_refl _)
    have HEQ : Hid (rpyA L s i D = (R, q)) := heq.out
    have hL : R.length ≤ 1048576 := rpy_small HEQ.out
    clear hb3 hb3x o3 heq
    have hcc : (q != q) = false := by simp
    go_wp2_with fail
    refine (toPairS a n c L _ HN.out hsm (HR.out.below B3.out)).mono ?_
    rintro e w4 ⟨v4, rfl, own4, hb4⟩
    obtain ⟨e4, f4, rfl, _, _⟩ := own_src own4
    have CP4 : Hid (n ≤ f4) := (own_capx own4).1
    have Z4 : Hid (w3.heap.size ≤ w4.heap.size) := hb4.size
    have B4 : Hid (Below w.heap.size w w4) := B3.out.trans ((hb4).mono B3.out.size)
    have X4 : Hid (Box w4 w.heap.size [.string F, .string T, .int .i64 C, .slice b m d, .int .i64 S]) := X3.out.below (hb4)
    have OW4 : Hid (OwnsR w4 70 2 w2.heap.size w3.heap.size (.slice b1 R.length d1) R.length (cellsP R)) := OW3.out.below (hb4)
    clear B3 X3 OW3
    have OX4 : Hid (OwnsR w4 70 2 w3.heap.size w4.heap.size (.slice e4 n f4) n (cellsP L)) := OwnsR.mk own4 (Nat.le_refl _)
    clear hb4 own4
    obtain ⟨p0, _⟩ := X4.out 0 _ rfl
    obtain ⟨p1, _⟩ := X4.out 1 _ rfl
    obtain ⟨p2, _⟩ := X4.out 2 _ rfl
    obtain ⟨p3, _⟩ := X4.out 3 _ rfl
    obtain ⟨p4, _⟩ := X4.out 4 _ rfl
    go_wp2_with fail
    refine (toBackup _ D _ SK.out (HK.out.below B4.out)).mono ?_
    rintro e w5 ⟨v5, rfl, own5, hb5⟩
    obtain ⟨b5, d5, rfl⟩ := own5.lit
    have Z5 : Hid (w4.heap.size ≤ w5.heap.size) := hb5.size
    have B5 : Hid (Below w.heap.size w w5) := B4.out.trans ((hb5).mono B4.out.size)
    have X5 : Hid (Box w5 w.heap.size [.string F, .string T, .int .i64 C, .slice b m d, .int .i64 S]) := X4.out.below (hb5)
    have OW5 : Hid (OwnsR w5 70 2 w2.heap.size w3.heap.size (.slice b1 R.length d1) R.length (cellsP R)) := OW4.out.below (hb5)
    have OX5 : Hid (OwnsR w5 70 2 w3.heap.size w4.heap.size (.slice e4 n f4) n (cellsP L)) := OX4.out.below (hb5)
    clear B4 X4 OW4 OX4
    rw [LIT.out] at own5 ⊢
    have OK5 : Hid (OwnsK w5 w4.heap.size w5.heap.size (.agg #[.string F, .string T, .int .i64 C, .slice b5 m d5, .int .i64 S]) D) := own5
    clear hb5 own5 p0 p1 p2 p3 p4
    go_wp2_with fail
    refine (implReplay L s i D _ e4 n f4 _ HN.out hsm hsz SM.out.2 SK.out (OX5.out.src.below ((Below.refl _ _).alloc (Nat.le_refl _) _)) (OK5.out.reads.below ((Below.refl _ _).alloc (Nat.le_refl _) _)) (HH.out.below (B5.out.alloc B5.out.size _)) (HE.out.below (B5.out.alloc B5.out.size _))).mono ?_
    rintro e w6 ⟨u6, R', q', rfl, heq, own6, hb6⟩
    obtain ⟨rfl, rfl⟩ : R = R' ∧ q = q' := by have h2 := HEQ.out.symm.trans heq; simpa using h2
    clear heq
    obtain ⟨g1, k1, rfl, _, _⟩ := own_src own6
    have B6 : Hid (Below w.heap.size w w6) := B5.out.trans ((Below.new hb6).mono B5.out.size)
    have X6 : Hid (Box w6 w.heap.size [.string F, .string T, .int .i64 C, .slice b m d, .int .i64 S]) := X5.out.below (Below.new hb6)
    have OW6 : Hid (OwnsR w6 70 2 w2.heap.size w3.heap.size (.slice b1 R.length d1) R.length (cellsP R)) := OW5.out.below (Below.new hb6)
    have OX6 : Hid (OwnsR w6 70 2 w3.heap.size w4.heap.size (.slice e4 n f4) n (cellsP L)) := OX5.out.below (Below.new hb6)
    have OK6 : Hid (OwnsK w6 w4.heap.size w5.heap.size (.agg #[.string F, .string T, .int .i64 C, .slice b5 m d5, .int .i64 S]) D) := OK5.out.below (Below.new hb6)
    clear B5 X5 OW5 OX5 OK5
    have Y6 : Hid (Box w6 w5.heap.size [.string F, .string T, .int .i64 C, .slice b5 m d5, .int .i64 S]) := Box.below (Box.new rfl) hb6
    have Z6 : Hid (w5.heap.size + 1 ≤ w6.heap.size) := size_new hb6
    have OG6 : Hid (OwnsR w6 70 2 (w5.heap.size + 1) w6.heap.size (.slice g1 R.length k1) R.length (cellsP R)) := OwnsR.mk (own_mono own6 (by simp)) (Nat.le_refl _)
    clear hb6 own6
    go_wp2_with fail
    refine (eqPairS g1 b1 R.length k1 d1 R _ rfl (by omega) OG6.out.src OW6.out.src).mono ?_
    rintro e w7 ⟨rfl, hb7⟩
    have B7 : Hid (Below w.heap.size w w7) := B6.out.trans ((hb7).mono B6.out.size)
    have X7 : Hid (Box w7 w.heap.size [.string F, .string T, .int .i64 C, .slice b m d, .int .i64 S]) := X6.out.below (hb7)
    have OW7 : Hid (OwnsR w7 70 2 w2.heap.size w3.heap.size (.slice b1 R.length d1) R.length (cellsP R)) := OW6.out.below (hb7)
    have OX7 : Hid (OwnsR w7 70 2 w3.heap.size w4.heap.size (.slice e4 n f4) n (cellsP L)) := OX6.out.below (hb7)
    have OK7 : Hid (OwnsK w7 w4.heap.size w5.heap.size (.agg #[.string F, .string T, .int .i64 C, .slice b5 m d5, .int .i64 S]) D) := OK6.out.below (hb7)
    have Y7 : Hid (Box w7 w5.heap.size [.string F, .string T, .int .i64 C, .slice b5 m d5, .int .i64 S]) := Y6.out.below (hb7)
    have OG7 : Hid (OwnsR w7 70 2 (w5.heap.size + 1) w6.heap.size (.slice g1 R.length k1) R.length (cellsP R)) := OG6.out.below (hb7)
    clear B6 X6 OW6 OX6 OK6 Y6 OG6
    clear hb7
    go_wp2_with fail
    refine (toPairS a n c L _ HN.out hsm (HR.out.below B7.out)).mono ?_
    rintro e w8 ⟨v8, rfl, own8, hb8⟩
    obtain ⟨e8, f8, rfl, s8, _⟩ := own_src own8
    have B8 : Hid (Below w.heap.size w w8) := B7.out.trans ((hb8).mono B7.out.size)
    have X8 : Hid (Box w8 w.heap.size [.string F, .string T, .int .i64 C, .slice b m d, .int .i64 S]) := X7.out.below (hb8)
    have OW8 : Hid (OwnsR w8 70 2 w2.heap.size w3.heap.size (.slice b1 R.length d1) R.length (cellsP R)) := OW7.out.below (hb8)
    have OX8 : Hid (OwnsR w8 70 2 w3.heap.size w4.heap.size (.slice e4 n f4) n (cellsP L)) := OX7.out.below (hb8)
    have OK8 : Hid (OwnsK w8 w4.heap.size w5.heap.size (.agg #[.string F, .string T, .int .i64 C, .slice b5 m d5, .int .i64 S]) D) := OK7.out.below (hb8)
    have Y8 : Hid (Box w8 w5.heap.size [.string F, .string T, .int .i64 C, .slice b5 m d5, .int .i64 S]) := Y7.out.below (hb8)
    have OG8 : Hid (OwnsR w8 70 2 (w5.heap.size + 1) w6.heap.size (.slice g1 R.length k1) R.length (cellsP R)) := OG7.out.below (hb8)
    clear B7 X7 OW7 OX7 OK7 Y7 OG7
    have Q8 : Hid (Src w8 e8 (cellsP L)) := s8
    clear hb8 own8 s8
    go_wp2_with fail
    refine (eqPairS e4 e8 n f4 f8 L _ HN.out (by omega) OX8.out.src Q8.out).mono ?_
    rintro e w9 ⟨rfl, hb9⟩
    have B9 : Hid (Below w.heap.size w w9) := B8.out.trans ((hb9).mono B8.out.size)
    have X9 : Hid (Box w9 w.heap.size [.string F, .string T, .int .i64 C, .slice b m d, .int .i64 S]) := X8.out.below (hb9)
    have OW9 : Hid (OwnsR w9 70 2 w2.heap.size w3.heap.size (.slice b1 R.length d1) R.length (cellsP R)) := OW8.out.below (hb9)
    have OX9 : Hid (OwnsR w9 70 2 w3.heap.size w4.heap.size (.slice e4 n f4) n (cellsP L)) := OX8.out.below (hb9)
    have OK9 : Hid (OwnsK w9 w4.heap.size w5.heap.size (.agg #[.string F, .string T, .int .i64 C, .slice b5 m d5, .int .i64 S]) D) := OK8.out.below (hb9)
    have Y9 : Hid (Box w9 w5.heap.size [.string F, .string T, .int .i64 C, .slice b5 m d5, .int .i64 S]) := Y8.out.below (hb9)
    have OG9 : Hid (OwnsR w9 70 2 (w5.heap.size + 1) w6.heap.size (.slice g1 R.length k1) R.length (cellsP R)) := OG8.out.below (hb9)
    clear B8 X8 OW8 OX8 OK8 Y8 OG8
    clear hb9 Q8
    go_upto_region 18 with fail
    go_cut [74] from 70 to 74 (fun t9 wx => t9 = .bool false ∧ Hid (Below w9.heap.size w9 wx))
    case first =>
      have HKx : Hid (ReadsK w9 (.agg #[.string F, .string T, .int .i64 C, .slice b m d, .int .i64 S]) D) := HK.out.below B9.out
      have HYx : Hid (ReadsK w9 (.agg #[.string F, .string T, .int .i64 C, .slice b5 m d5, .int .i64 S]) D) := OK9.out.reads
      obtain ⟨p0, _⟩ := X9.out 0 _ rfl
      obtain ⟨p1, _⟩ := X9.out 1 _ rfl
      obtain ⟨p2, _⟩ := X9.out 2 _ rfl
      obtain ⟨p3, _⟩ := X9.out 3 _ rfl
      obtain ⟨p4, _⟩ := X9.out 4 _ rfl
      obtain ⟨q0, _⟩ := Y9.out 0 _ rfl
      obtain ⟨q1, _⟩ := Y9.out 1 _ rfl
      obtain ⟨q2, _⟩ := Y9.out 2 _ rfl
      obtain ⟨q3, _⟩ := Y9.out 3 _ rfl
      obtain ⟨q4, _⟩ := Y9.out 4 _ rfl
      go_region_with (first | (go_at_call 14; refine (eqBackup _ _ D _ (by have h9 := SK.out.1; omega) (HYx.out.below BK.out) RK.out).mono ?_; rintro e wq ⟨rfl, hbq⟩) | (go_at_call 11; refine (toBackup _ D _ SK.out (show ReadsK w9.drew _ D from HKx.out)).mono ?_; rintro e wk ⟨vk, rfl, ok, hbk⟩; have BK : Hid (Below w9.heap.size w9 wk) := (Below.refl _ _).drew.trans hbk; obtain ⟨bk, dk, rfl⟩ := ok.lit; have RK : Hid (ReadsK wk _ D) := ok.reads; rw [LIT.out] at RK ⊢; clear ok hbk; have q0k : wk.cell? ⟨w5.heap.size, 0, none⟩ = some (.string F) := ((Y9.out.below BK.out) 0 _ rfl).1; have q1k : wk.cell? ⟨w5.heap.size, 1, none⟩ = some (.string T) := ((Y9.out.below BK.out) 1 _ rfl).1; have q2k : wk.cell? ⟨w5.heap.size, 2, none⟩ = some (.int .i64 C) := ((Y9.out.below BK.out) 2 _ rfl).1; have q3k : wk.cell? ⟨w5.heap.size, 3, none⟩ = some (.slice b5 m d5) := ((Y9.out.below BK.out) 3 _ rfl).1; have q4k : wk.cell? ⟨w5.heap.size, 4, none⟩ = some (.int .i64 S) := ((Y9.out.below BK.out) 4 _ rfl).1))
      all_goals
        have BQ : Hid (Below w9.heap.size w9 wq) := BK.out.trans (hbq.mono BK.out.size)
        clear hbq
        go_wp2_with fail
        go_meet
        exact ⟨rfl, BQ.out⟩
    case rest =>
      obtain ⟨rfl, hb10⟩ := hcut
      obtain ⟨w10, rfl⟩ : ∃ W, W = wc := ⟨_, rfl⟩
      have hb10x := hb10.out
      have B10 : Hid (Below w.heap.size w w10) := B9.out.trans ((hb10x).mono B9.out.size)
      have X10 : Hid (Box w10 w.heap.size [.string F, .string T, .int .i64 C, .slice b m d, .int .i64 S]) := X9.out.below (hb10x)
      have OW10 : Hid (OwnsR w10 70 2 w2.heap.size w3.heap.size (.slice b1 R.length d1) R.length (cellsP R)) := OW9.out.below (hb10x)
      have OX10 : Hid (OwnsR w10 70 2 w3.heap.size w4.heap.size (.slice e4 n f4) n (cellsP L)) := OX9.out.below (hb10x)
      have OK10 : Hid (OwnsK w10 w4.heap.size w5.heap.size (.agg #[.string F, .string T, .int .i64 C, .slice b5 m d5, .int .i64 S]) D) := OK9.out.below (hb10x)
      have Y10 : Hid (Box w10 w5.heap.size [.string F, .string T, .int .i64 C, .slice b5 m d5, .int .i64 S]) := Y9.out.below (hb10x)
      have OG10 : Hid (OwnsR w10 70 2 (w5.heap.size + 1) w6.heap.size (.slice g1 R.length k1) R.length (cellsP R)) := OG9.out.below (hb10x)
      clear B9 X9 OW9 OX9 OK9 Y9 OG9
      clear hb10 hb10x
      go_wp2_with fail
      refine (markPairS _ n 1 w3.heap.size (cellsP L) _ hsm (by omega) (by omega) OX10.out.1).mono ?_
      rintro e w11 ⟨rfl, G11, m11⟩
      have T11 : Turned w3.heap.size w4.heap.size w10 w11 := Turned.of_grown G11 (fun k e => ⟨(OX10.out.1.lt k e).1, OX10.out.2 k e⟩)
      have B11 : Hid (Below w.heap.size w w11) := Below.turned B10.out T11 (Nat.le_refl _) (by have := Z0.out; have := Z1.out; have := Z2.out; have := Z3.out; have := Z4.out; have := Z5.out; have := Z6.out; omega)
      have X11 : Hid (Box w11 w.heap.size [.string F, .string T, .int .i64 C, .slice b m d, .int .i64 S]) := X10.out.turned T11 (by have := Z0.out; have := Z1.out; have := Z2.out; have := Z3.out; have := Z4.out; have := Z5.out; have := Z6.out; omega)
      have OW11 : Hid (OwnsR w11 70 2 w2.heap.size w3.heap.size (.slice b1 R.length d1) R.length (cellsP R)) := OW10.out.turned T11 (by have := Z0.out; have := Z1.out; have := Z2.out; have := Z3.out; have := Z4.out; have := Z5.out; have := Z6.out; omega)
      have OK11 : Hid (OwnsK w11 w4.heap.size w5.heap.size (.agg #[.string F, .string T, .int .i64 C, .slice b5 m d5, .int .i64 S]) D) := OK10.out.turned T11 (by have := Z0.out; have := Z1.out; have := Z2.out; have := Z3.out; have := Z4.out; have := Z5.out; have := Z6.out; omega)
      have Y11 : Hid (Box w11 w5.heap.size [.string F, .string T, .int .i64 C, .slice b5 m d5, .int .i64 S]) := Y10.out.turned T11 (by have := Z0.out; have := Z1.out; have := Z2.out; have := Z3.out; have := Z4.out; have := Z5.out; have := Z6.out; omega)
      have OG11 : Hid (OwnsR w11 70 2 (w5.heap.size + 1) w6.heap.size (.slice g1 R.length k1) R.length (cellsP R)) := OG10.out.turned T11 (by have := Z0.out; have := Z1.out; have := Z2.out; have := Z3.out; have := Z4.out; have := Z5.out; have := Z6.out; omega)
      clear B10 X10 OW10 OK10 Y10 OG10
      clear T11 G11 m11 OX10
      obtain ⟨q0, _⟩ := Y11.out 0 _ rfl
      obtain ⟨q1, _⟩ := Y11.out 1 _ rfl
      obtain ⟨q2, _⟩ := Y11.out 2 _ rfl
      obtain ⟨q3, _⟩ := Y11.out 3 _ rfl
      obtain ⟨q4, _⟩ := Y11.out 4 _ rfl
      have Z11 : Hid (w5.heap.size ≤ w11.heap.size) := Nat.le_of_lt (World.block_lt_of_cell? _ _ q0)
      obtain ⟨E0, hE0⟩ : ∃ E0 : Nat, 1 + n * 2 = E0 := ⟨_, rfl⟩
      have hE1 : 0 < E0 ∧ E0 ≤ 2097153 := by omega
      rw [hE0]
      clear hE0
      go_wp2_with fail
      refine (markBackup _ D E0 w4.heap.size w5.heap.size _ SK.out.1 hE1.1 (by omega) Z11.out OK11.out).mono ?_
      rintro e w12 ⟨rfl, T12, _⟩
      have B12 : Hid (Below w.heap.size w w12) := Below.turned B11.out T12 (Nat.le_refl _) (by have := Z0.out; have := Z1.out; have := Z2.out; have := Z3.out; have := Z4.out; have := Z5.out; have := Z6.out; omega)
      have X12 : Hid (Box w12 w.heap.size [.string F, .string T, .int .i64 C, .slice b m d, .int .i64 S]) := X11.out.turned T12 (by have := Z0.out; have := Z1.out; have := Z2.out; have := Z3.out; have := Z4.out; have := Z5.out; have := Z6.out; omega)
      have OW12 : Hid (OwnsR w12 70 2 w2.heap.size w3.heap.size (.slice b1 R.length d1) R.length (cellsP R)) := OW11.out.turned T12 (by have := Z0.out; have := Z1.out; have := Z2.out; have := Z3.out; have := Z4.out; have := Z5.out; have := Z6.out; omega)
      have Y12 : Hid (Box w12 w5.heap.size [.string F, .string T, .int .i64 C, .slice b5 m d5, .int .i64 S]) := Y11.out.turned T12 (by have := Z0.out; have := Z1.out; have := Z2.out; have := Z3.out; have := Z4.out; have := Z5.out; have := Z6.out; omega)
      have OG12 : Hid (OwnsR w12 70 2 (w5.heap.size + 1) w6.heap.size (.slice g1 R.length k1) R.length (cellsP R)) := OG11.out.turned T12 (by have := Z0.out; have := Z1.out; have := Z2.out; have := Z3.out; have := Z4.out; have := Z5.out; have := Z6.out; omega)
      clear B11 X11 OW11 Y11 OG11
      clear T12 OK11 Z11 q0 q1 q2 q3 q4
      rw [HDm.out]
      obtain ⟨E1, hE2⟩ : ∃ E1 : Nat, E0 + m * 5 = E1 := ⟨_, rfl⟩
      rw [hE2]
      clear hE2 hE1
      have hk1 : decide (((E1 : Nat) : Int) < 0) = false := by simp
      go_wp2_with fail
      refine (eqPairS g1 b1 R.length k1 d1 R _ rfl (by omega) OG12.out.src OW12.out.src).mono ?_
      rintro e w13 ⟨rfl, hb13⟩
      have B13 : Hid (Below w.heap.size w w13) := B12.out.trans ((hb13).mono B12.out.size)
      have X13 : Hid (Box w13 w.heap.size [.string F, .string T, .int .i64 C, .slice b m d, .int .i64 S]) := X12.out.below (hb13)
      have OW13 : Hid (OwnsR w13 70 2 w2.heap.size w3.heap.size (.slice b1 R.length d1) R.length (cellsP R)) := OW12.out.below (hb13)
      have Y13 : Hid (Box w13 w5.heap.size [.string F, .string T, .int .i64 C, .slice b5 m d5, .int .i64 S]) := Y12.out.below (hb13)
      have OG13 : Hid (OwnsR w13 70 2 (w5.heap.size + 1) w6.heap.size (.slice g1 R.length k1) R.length (cellsP R)) := OG12.out.below (hb13)
      clear B12 X12 OW12 Y12 OG12
      clear hb13
      clear hk1
      go_wp2_with fail
      refine (markPairS _ R.length 1 (w5.heap.size + 1) (cellsP R) _ hL (by omega) (by omega) OG13.out.1).mono ?_
      rintro e w14 ⟨rfl, G14, m14⟩
      have T14 : Turned (w5.heap.size + 1) w6.heap.size w13 w14 := Turned.of_grown G14 (fun k e => ⟨(OG13.out.1.lt k e).1, OG13.out.2 k e⟩)
      have B14 : Hid (Below w.heap.size w w14) := Below.turned B13.out T14 (Nat.le_refl _) (by have := Z0.out; have := Z1.out; have := Z2.out; have := Z3.out; have := Z4.out; have := Z5.out; have := Z6.out; omega)
      have X14 : Hid (Box w14 w.heap.size [.string F, .string T, .int .i64 C, .slice b m d, .int .i64 S]) := X13.out.turned T14 (by have := Z0.out; have := Z1.out; have := Z2.out; have := Z3.out; have := Z4.out; have := Z5.out; have := Z6.out; omega)
      have OW14 : Hid (OwnsR w14 70 2 w2.heap.size w3.heap.size (.slice b1 R.length d1) R.length (cellsP R)) := OW13.out.turned T14 (by have := Z0.out; have := Z1.out; have := Z2.out; have := Z3.out; have := Z4.out; have := Z5.out; have := Z6.out; omega)
      have Y14 : Hid (Box w14 w5.heap.size [.string F, .string T, .int .i64 C, .slice b5 m d5, .int .i64 S]) := Y13.out.turned T14 (by have := Z0.out; have := Z1.out; have := Z2.out; have := Z3.out; have := Z4.out; have := Z5.out; have := Z6.out; omega)
      clear B13 X13 OW13 Y13
      have OG14 : Hid (OwnsR w14 70 2 (w5.heap.size + 1) w6.heap.size (.slice g1 R.length k1) R.length (cellsP (mkP 1 R.length))) := ⟨m14, OG13.out.2⟩
      clear T14 G14 m14 OG13
      obtain ⟨E, hE⟩ : ∃ E : Nat, 1 + R.length * 2 = E := ⟨_, rfl⟩
      rw [hE]
      have HE2 : Hid (1 + R.length * 2 = E) := hE
      clear hE
      have hk2 : decide (((E : Nat) : Int) < 0) = false := by simp
      have hk3 : (((E : Nat) : Int) != ((E : Nat) : Int)) = false := by simp
      go_wp2_with fail
      refine (heldPairS g1 R.length k1 1 _ hL (by omega) (by omega) OG14.out.src).mono ?_
      rintro e w15 ⟨rfl, hb15⟩
      rw [HE2.out]
      have B15 : Hid (Below w.heap.size w w15) := B14.out.trans ((hb15).mono B14.out.size)
      have X15 : Hid (Box w15 w.heap.size [.string F, .string T, .int .i64 C, .slice b m d, .int .i64 S]) := X14.out.below (hb15)
      have OW15 : Hid (OwnsR w15 70 2 w2.heap.size w3.heap.size (.slice b1 R.length d1) R.length (cellsP R)) := OW14.out.below (hb15)
      have Y15 : Hid (Box w15 w5.heap.size [.string F, .string T, .int .i64 C, .slice b5 m d5, .int .i64 S]) := Y14.out.below (hb15)
      have OG15 : Hid (OwnsR w15 70 2 (w5.heap.size + 1) w6.heap.size (.slice g1 R.length k1) R.length (cellsP (mkP 1 R.length))) := OG14.out.below (hb15)
      clear B14 X14 OW14 Y14 OG14
      clear hb15
      go_upto_region 33 with fail
      go_cut [19, 20] from 105 to 114 (fun v9 v8 wx => ∃ (m1 : Option Addr) (n1 : Nat), v9 = .slice m1 R.length n1 ∧ v8 = .int .i64 q ∧ Hid (Src wx m1 (cellsP R)) ∧ Hid (Below w15.heap.size w15 wx))
      case first =>
        have HRx : Hid (Src w15 a (cellsP L)) := HR.out.below B15.out
        have HKx : Hid (ReadsK w15 (.agg #[.string F, .string T, .int .i64 C, .slice b m d, .int .i64 S]) D) := HK.out.below B15.out
        obtain ⟨p0, _⟩ := X15.out 0 _ rfl
        obtain ⟨p1, _⟩ := X15.out 1 _ rfl
        obtain ⟨p2, _⟩ := X15.out 2 _ rfl
        obtain ⟨p3, _⟩ := X15.out 3 _ rfl
        obtain ⟨p4, _⟩ := X15.out 4 _ rfl
        go_region_with (first | (go_at_call 12; refine (implReplay L s i D _ eL n fL _ HN.out hsm hsz SM.out.2 SK.out SL.out RK.out (HH.out.below (B15.out.trans (BB.out.mono B15.out.size))) (HE.out.below (B15.out.trans (BB.out.mono B15.out.size)))).mono ?_; rintro e w16 ⟨u16, R', q', rfl, heq, o16, hb16⟩) | (go_at_call 11; refine (toBackup _ D _ SK.out (HKx.out.below BP.out)).mono ?_; rintro e wk ⟨vk, rfl, ok, hbk⟩; have BB : Hid (Below w15.heap.size w15 wk) := BP.out.trans (hbk.mono BP.out.size); obtain ⟨bk, dk, rfl⟩ := ok.lit; have RK : Hid (ReadsK wk _ D) := ok.reads; rw [LIT.out] at RK ⊢; have SL : Hid (Src wk eL (cellsP L)) := sp.below hbk; clear ok hbk) | (go_at_call 10; refine (toPairS a n c L _ HN.out hsm (HRx.out.below BK.out)).mono ?_; rintro e wp ⟨vp, rfl, op, hbp⟩; have BB : Hid (Below w15.heap.size w15 wp) := BK.out.trans (hbp.mono BK.out.size); obtain ⟨eL, fL, rfl, sp, _⟩ := own_src op; have hcp : n ≤ fL := (own_capx op).1; have SL : Hid (Src wp eL (cellsP L)) := sp; have RK : Hid (ReadsK wp _ D) := RK0.out.below hbp; clear op hbp) | (go_at_call 10; refine (toPairS a n c L _ HN.out hsm (show Src w15.drew a (cellsP L) from HRx.out)).mono ?_; rintro e wp ⟨vp, rfl, op, hbp⟩; have BP : Hid (Below w15.heap.size w15 wp) := (Below.refl _ _).drew.trans hbp; obtain ⟨eL, fL, rfl, sp, _⟩ := own_src op; have hcp : n ≤ fL := (own_capx op).1; clear op hbp; have p0BP : wp.cell? ⟨w.heap.size, 0, none⟩ = some (.string F) := ((X15.out.below BP.out) 0 _ rfl).1; have p1BP : wp.cell? ⟨w.heap.size, 1, none⟩ = some (.string T) := ((X15.out.below BP.out) 1 _ rfl).1; have p2BP : wp.cell? ⟨w.heap.size, 2, none⟩ = some (.int .i64 C) := ((X15.out.below BP.out) 2 _ rfl).1; have p3BP : wp.cell? ⟨w.heap.size, 3, none⟩ = some (.slice b m d) := ((X15.out.below BP.out) 3 _ rfl).1; have p4BP : wp.cell? ⟨w.heap.size, 4, none⟩ = some (.int .i64 S) := ((X15.out.below BP.out) 4 _ rfl).1) | (go_at_call 11; refine (toBackup _ D _ SK.out (show ReadsK w15.drew _ D from HKx.out)).mono ?_; rintro e wk ⟨vk, rfl, ok, hbk⟩; have BK : Hid (Below w15.heap.size w15 wk) := (Below.refl _ _).drew.trans hbk; obtain ⟨bk, dk, rfl⟩ := ok.lit; have RK0 : Hid (ReadsK wk _ D) := ok.reads; rw [LIT.out] at RK0 ⊢; clear ok hbk))
        all_goals
          obtain ⟨rfl, rfl⟩ : R = R' ∧ q = q' := by have h2 := HEQ.out.symm.trans heq; simpa using h2
          obtain ⟨m1, n1, rfl, s16, _⟩ := own_src o16
          have B16 : Hid (Below w15.heap.size w15 w16) := BB.out.trans (hb16.mono BB.out.size)
          have S16 : Hid (Src w16 m1 (cellsP R)) := s16
          clear o16 hb16 heq s16
          go_wp2_with fail
          go_meet
          exact ⟨m1, n1, rfl, rfl, S16.out, B16.out⟩
      case rest =>
        obtain ⟨m1, n1, rfl, rfl, hs16, hb16⟩ := hcut
        obtain ⟨w16, rfl⟩ : ∃ W, W = wc := ⟨_, rfl⟩
        have hb16x := hb16.out
        have Q16 : Hid (Src w16 m1 (cellsP R)) := hs16.out
        have B16 : Hid (Below w.heap.size w w16) := B15.out.trans ((hb16x).mono B15.out.size)
        have X16 : Hid (Box w16 w.heap.size [.string F, .string T, .int .i64 C, .slice b m d, .int .i64 S]) := X15.out.below (hb16x)
        have OW16 : Hid (OwnsR w16 70 2 w2.heap.size w3.heap.size (.slice b1 R.length d1) R.length (cellsP R)) := OW15.out.below (hb16x)
        have Y16 : Hid (Box w16 w5.heap.size [.string F, .string T, .int .i64 C, .slice b5 m d5, .int .i64 S]) := Y15.out.below (hb16x)
        have OG16 : Hid (OwnsR w16 70 2 (w5.heap.size + 1) w6.heap.size (.slice g1 R.length k1) R.length (cellsP (mkP 1 R.length))) := OG15.out.below (hb16x)
        clear B15 X15 OW15 Y15 OG15
        clear hb16 hb16x hs16
        go_wp2_with fail
        refine (eqPairS m1 b1 R.length n1 d1 R _ rfl (by omega) Q16.out OW16.out.src).mono ?_
        rintro e w17 ⟨rfl, hb17⟩
        have B17 : Hid (Below w.heap.size w w17) := B16.out.trans ((hb17).mono B16.out.size)
        have X17 : Hid (Box w17 w.heap.size [.string F, .string T, .int .i64 C, .slice b m d, .int .i64 S]) := X16.out.below (hb17)
        have OW17 : Hid (OwnsR w17 70 2 w2.heap.size w3.heap.size (.slice b1 R.length d1) R.length (cellsP R)) := OW16.out.below (hb17)
        have Y17 : Hid (Box w17 w5.heap.size [.string F, .string T, .int .i64 C, .slice b5 m d5, .int .i64 S]) := Y16.out.below (hb17)
        have OG17 : Hid (OwnsR w17 70 2 (w5.heap.size + 1) w6.heap.size (.slice g1 R.length k1) R.length (cellsP (mkP 1 R.length))) := OG16.out.below (hb17)
        clear B16 X16 OW16 Y16 OG16
        clear hb17
        clear Q16
        go_wp2_with fail
        refine (heldPairS g1 R.length k1 1 _ hL (by omega) (by omega) OG17.out.src).mono ?_
        rintro e w18 ⟨rfl, hb18⟩
        rw [HE2.out]
        have B18 : Hid (Below w.heap.size w w18) := B17.out.trans ((hb18).mono B17.out.size)
        have X18 : Hid (Box w18 w.heap.size [.string F, .string T, .int .i64 C, .slice b m d, .int .i64 S]) := X17.out.below (hb18)
        have OW18 : Hid (OwnsR w18 70 2 w2.heap.size w3.heap.size (.slice b1 R.length d1) R.length (cellsP R)) := OW17.out.below (hb18)
        have Y18 : Hid (Box w18 w5.heap.size [.string F, .string T, .int .i64 C, .slice b5 m d5, .int .i64 S]) := Y17.out.below (hb18)
        have OG18 : Hid (OwnsR w18 70 2 (w5.heap.size + 1) w6.heap.size (.slice g1 R.length k1) R.length (cellsP (mkP 1 R.length))) := OG17.out.below (hb18)
        clear B17 X17 OW17 Y17 OG17
        clear hb18
        go_wp2_with fail
        go_ret
        exact ⟨rfl, B18.out⟩
end Go.Proofs.YtmbndpgoihdpnaaGreatDoor.fnExactReplay
