/-
  The walk of the law FnDiff.
  By an AI agent.
-/
import Derived.Test.YtmpaophegdeokaaDifr
import Derived.Test.YtmpaophegdeokaaAps
import Derived.Test.YtmpaophegdeokaaFnp
namespace Go.Proofs.Ytmpaophegdeokaa.fnDiff
open Go.ChangeShapes Go.WideShapes Go.ChangeAt Go.WideMaps Go.WideElems Go.RowKit Go.Deep
open Go.ChangeMaps (open_string shut_string)
set_option linter.unusedVariables false

set_option maxHeartbeats 1000000 in
theorem sameDiffs (a b : Option Addr) (n c d : Nat) (L : List DF) (w : World) (hL : L.length = n) (hn : n ≤ 1048576) (ha : Src w a (cellsDf L)) (hb : Src w b (cellsDf L)) :
    Calls Try.prog 36 #[.slice a n c, .slice b n d] w fun e w' => e = .returned (.bool true) ∧ Below w.heap.size w w' := by
  have hne : ((n : Int) != (n : Int)) = false := by simp
  have HA : Hid (Src w a (cellsDf L)) := ha
  have HB : Hid (Src w b (cellsDf L)) := hb
  have HL : Hid (L.length = n) := hL
  clear ha hb hL
  go_enter Try.func36, Try.ntmps36
  go_wp2_with fail
  go_loopw [5] (fun i wr => ∃ k : Nat, k ≤ n ∧ i = .int .i64 k ∧ Hid (Below w.heap.size w wr)) (fun i _ => n - (intOf i).toNat)
  case atStart => exact ⟨0, by omega, rfl, Below.refl _ _⟩
  case round =>
    obtain ⟨k, hk, rfl, hB⟩ := hrel
    by_cases hlt : k < n
    · have hkL : k < L.length := by rw [HL.out]; exact hlt
      obtain ⟨b1, o1, x0, x1, x2, x3, x4, rfl, p0, p1, p2, p3, p4, hx⟩ := srcDf (HA.out.below hB.out) hkL
      obtain ⟨b2, o2, y0, y1, y2, y3, y4, rfl, q0, q1, q2, q3, q4, hy⟩ := srcDf (HB.out.below hB.out) hkL
      have hxy := hx.out.symm.trans hy.out
      simp only [Prod.mk.injEq] at hxy
      obtain ⟨rfl, rfl, rfl, rfl, rfl⟩ := hxy
      clear hx hy hkL
      have hk0 : (0 : Int) ≤ (k : Int) := by omega
      have hki : (k : Int) < (n : Int) := by omega
      go_wp2_with fail
      go_quiet (fail)
      go_wp2_with fail
      exact ⟨⟨k + 1, by omega, by go_num, Below.drewN' hB.out _⟩, by simp [intOf]; omega⟩
    · go_wp2_with fail
      go_ret
      exact ⟨rfl, hB.out⟩
theorem src_good {w : World} {b l : Nat} {L : List PM} (h : Sp w (some ⟨b, 0, none⟩) l (fstL L) (sndL L)) (hl : L.length = l) : Src w (some ⟨b, 0, none⟩) (cellsP L) := by
  subst hl
  have h9 := src_sp h
  rwa [listP_self] at h9
set_option maxHeartbeats 4000000 in
theorem walk (a ma : Option Addr) (c mc : Nat) (C M : List Nat) (w : World) (hC9 : C.length ≤ maxLen) (hM9 : M.length ≤ maxLen) (hlt : ∀ x ∈ C, x < 256) (hmt : ∀ x ∈ M, x < 256) (h : Src w a (cellsB C)) (hm : Src w ma (cellsB M)) :
    Calls Try.prog 5 #[.slice a C.length c, .slice ma M.length mc] w fun e w' => e = .returned (.bool true) ∧ Below w.heap.size w w' := by
  unfold maxLen at hC9 hM9
  obtain ⟨n, hn⟩ : ∃ n, C.length = n := ⟨_, rfl⟩
  obtain ⟨m, hm9⟩ : ∃ m, M.length = m := ⟨_, rfl⟩
  have HN : Hid (C.length = n ∧ M.length = m) := ⟨hn, hm9⟩
  have HB : Hid ((∀ x ∈ C, x < 256) ∧ (∀ x ∈ M, x < 256)) := ⟨hlt, hmt⟩
  have HS : Hid (Src w a (cellsB C) ∧ Src w ma (cellsB M)) := ⟨h, hm⟩
  rw [hn] at hC9
  rw [hm9] at hM9
  rw [hn, hm9]
  clear hlt hmt h hm hn hm9
  by_cases t1 : (1048576 : Int) < (n : Int)
  · go_enter Try.func5, Try.ntmps5
    go_wp2_with fail
    go_ret
    exact ⟨rfl, Below.refl _ _⟩
  by_cases t2 : (1048576 : Int) < (m : Int)
  · go_enter Try.func5, Try.ntmps5
    go_wp2_with fail
    go_ret
    exact ⟨rfl, Below.refl _ _⟩
  have n20 : n ≤ 1048576 := by omega
  have m20 : m ≤ 1048576 := by omega
  go_enter Try.func5, Try.ntmps5
  go_wp2_with fail
  refine (specPairsOf a n c C _ HN.out.1 n20 HB.out.1 HS.out.1).mono ?_
  rintro e w1 ⟨b1, c1, L, rfl, q1, q2, q3, q4, q5, hb1⟩
  have B1 : Hid (Below w.heap.size w w1) := hb1
  obtain ⟨l, hl⟩ : ∃ l, L.length = l := ⟨_, rfl⟩
  have HL : Hid (L.length = l ∧ GoodL L) := ⟨hl, q5⟩
  rw [hl] at q1 q3 q4 ⊢
  have SA1 : Hid (Src w1 (some ⟨b1, 0, none⟩) (cellsP L)) := src_good q3 hl
  have hl11 : l ≤ 11 := q4
  clear q1 q2 q3 q4 q5 hb1 hl
  go_wp2_with fail
  refine (specPairsOf ma m mc M _ HN.out.2 m20 HB.out.2 (HS.out.2.below B1.out)).mono ?_
  rintro e w2 ⟨b2, c2, K, rfl, q1, q2, q3, q4, q5, hb2⟩
  have B2 : Hid (Below w.heap.size w w2) := B1.out.trans (hb2.mono B1.out.size)
  obtain ⟨j, hj⟩ : ∃ l, K.length = l := ⟨_, rfl⟩
  have HK : Hid (K.length = j ∧ GoodL K) := ⟨hj, q5⟩
  rw [hj] at q1 q3 q4 ⊢
  have SA2 : Hid (Src w2 (some ⟨b1, 0, none⟩) (cellsP L)) := SA1.out.below hb2
  have SB2 : Hid (Src w2 (some ⟨b2, 0, none⟩) (cellsP K)) := src_good q3 hj
  have hj11 : j ≤ 11 := q4
  clear q1 q2 q3 q4 q5 hb2 hj SA1
  have ll : Hid (L.length ≤ 60 ∧ K.length ≤ 60) := ⟨by rw [HL.out.1]; omega, by rw [HK.out.1]; omega⟩
  obtain ⟨D, hD⟩ : ∃ D, diffM L K = D := ⟨_, rfl⟩
  obtain ⟨E, hE⟩ : ∃ E, diffM K L = E := ⟨_, rfl⟩
  obtain ⟨d, hd⟩ : ∃ d, D.length = d := ⟨_, rfl⟩
  have hd22 : d ≤ 22 := by rw [← hd, ← hD]; have h9 := diffM_len L K; rw [HL.out.1, HK.out.1] at h9; omega
  have HD : Hid (D.length = d ∧ E.length = d) := ⟨hd, by show _ = d; rw [← hE, diff_back HL.out.2.2 HK.out.2.2, hD, hd]⟩
  have F1 : Hid (diffA L K = (D, 0)) := by show _ = _; rw [diffA_good HL.out.2 HK.out.2 ll.out.1 ll.out.2, hD]
  have F2 : Hid (diffA K L = (E, 0)) := by show _ = _; rw [diffA_good HK.out.2 HL.out.2 ll.out.2 ll.out.1, hE]
  have F3 : Hid (diffA L L = ([], 0)) := by show _ = _; rw [diffA_good HL.out.2 HL.out.2 ll.out.1 ll.out.1, diff_self HL.out.2.2]
  have F4 : Hid (applyA L D = (K, 0)) := by show _ = _; rw [← hD]; exact apply_diff HL.out.2 HK.out.2 ll.out.1 ll.out.2
  have F5 : Hid (applyA K E = (L, 0)) := by show _ = _; rw [← hE]; exact apply_diff HK.out.2 HL.out.2 ll.out.2 ll.out.1
  have F6 : Hid (d = 0 → L = K) := fun h9 => diff_nil HL.out.2 HK.out.2 (by rw [hD]; exact List.eq_nil_of_length_eq_zero (by rw [hd]; exact h9))
  have F7 : Hid (d ≠ 0 → applyA K D = (K, 18)) := fun h9 => by rw [← hD]; exact diff_other HL.out.2 HK.out.2 ll.out.1 ll.out.2 (by rw [hD]; intro e; rw [e] at hd; exact h9 hd.symm)
  have ZL : Hid (∀ x ∈ L, x.1.size ≤ 1048576 ∧ x.2.size ≤ 1048576) := good_sizes HL.out.2
  have ZK : Hid (∀ x ∈ K, x.1.size ≤ 1048576 ∧ x.2.size ≤ 1048576) := good_sizes HK.out.2
  have ZD : Hid (∀ x ∈ D, x.1.size ≤ 1048576 ∧ x.2.1.size ≤ 1048576 ∧ x.2.2.1.size ≤ 1048576) := by show ∀ x ∈ D, _; rw [← hD]; exact diff_sizes HL.out.2 HK.out.2
  have ZE : Hid (∀ x ∈ E, x.1.size ≤ 1048576 ∧ x.2.1.size ≤ 1048576 ∧ x.2.2.1.size ≤ 1048576) := by show ∀ x ∈ E, _; rw [← hE]; exact diff_sizes HK.out.2 HL.out.2
  clear hD hE hd
  go_wp2_with fail
  refine (implDiffPairs (some ⟨b1, 0, none⟩) (some ⟨b2, 0, none⟩) l j c1 c2 L K _ HL.out.1 HK.out.1 (by omega) (by omega) ZL.out ZK.out SA2.out SB2.out).mono ?_
  rintro e w3 ⟨u, R, q, rfl, heq, own, hb⟩
  obtain ⟨rfl, rfl⟩ : D = R ∧ 0 = q := by have h2 := F1.out.symm.trans heq; simpa using h2
  obtain ⟨da, dc, rfl, s9, _⟩ := own_src own
  rw [HD.out.1]
  have B3 : Hid (Below w.heap.size w w3) := B2.out.trans ((hb).mono B2.out.size)
  have SA3 : Hid (Src w3 (some ⟨b1, 0, none⟩) (cellsP L)) := SA2.out.below (hb)
  have SB3 : Hid (Src w3 (some ⟨b2, 0, none⟩) (cellsP K)) := SB2.out.below (hb)
  clear B2 SA2 SB2
  have SD3 : Hid (Src w3 da (cellsDf D)) := s9
  clear heq own hb s9
  go_wp2_with fail
  refine (specDiffPairs (some ⟨b1, 0, none⟩) (some ⟨b2, 0, none⟩) l j c1 c2 L K _ HL.out.1 HK.out.1 (by omega) (by omega) ZL.out ZK.out SA3.out SB3.out).mono ?_
  rintro e w4 ⟨u, R, q, rfl, heq, own, hb⟩
  obtain ⟨rfl, rfl⟩ : D = R ∧ 0 = q := by have h2 := F1.out.symm.trans heq; simpa using h2
  obtain ⟨va, vc, rfl, s9, _⟩ := own_src own
  rw [HD.out.1]
  have B4 : Hid (Below w.heap.size w w4) := B3.out.trans ((hb).mono B3.out.size)
  have SA4 : Hid (Src w4 (some ⟨b1, 0, none⟩) (cellsP L)) := SA3.out.below (hb)
  have SB4 : Hid (Src w4 (some ⟨b2, 0, none⟩) (cellsP K)) := SB3.out.below (hb)
  have SD4 : Hid (Src w4 da (cellsDf D)) := SD3.out.below (hb)
  clear B3 SA3 SB3 SD3
  have SV4 : Hid (Src w4 va (cellsDf D)) := s9
  clear heq own hb s9
  go_wp2_with fail
  refine (implApplyDiff (some ⟨b1, 0, none⟩) da l d c1 dc L D _ HL.out.1 HD.out.1 (by omega) (by omega) ZL.out ZD.out SA4.out SD4.out).mono ?_
  rintro e w5 ⟨u, R, q, rfl, heq, own, hb⟩
  obtain ⟨rfl, rfl⟩ : K = R ∧ 0 = q := by have h2 := F4.out.symm.trans heq; simpa using h2
  obtain ⟨ga, gc, rfl, s9, _⟩ := own_src own
  rw [HK.out.1]
  have B5 : Hid (Below w.heap.size w w5) := B4.out.trans ((hb).mono B4.out.size)
  have SA5 : Hid (Src w5 (some ⟨b1, 0, none⟩) (cellsP L)) := SA4.out.below (hb)
  have SB5 : Hid (Src w5 (some ⟨b2, 0, none⟩) (cellsP K)) := SB4.out.below (hb)
  have SD5 : Hid (Src w5 da (cellsDf D)) := SD4.out.below (hb)
  have SV5 : Hid (Src w5 va (cellsDf D)) := SV4.out.below (hb)
  clear B4 SA4 SB4 SD4 SV4
  have SG5 : Hid (Src w5 ga (cellsP K)) := s9
  clear heq own hb s9
  go_wp2_with fail
  refine (implDiffPairs (some ⟨b2, 0, none⟩) (some ⟨b1, 0, none⟩) j l c2 c1 K L _ HK.out.1 HL.out.1 (by omega) (by omega) ZK.out ZL.out SB5.out SA5.out).mono ?_
  rintro e w6 ⟨u, R, q, rfl, heq, own, hb⟩
  obtain ⟨rfl, rfl⟩ : E = R ∧ 0 = q := by have h2 := F2.out.symm.trans heq; simpa using h2
  obtain ⟨ra, rc, rfl, s9, _⟩ := own_src own
  rw [HD.out.2]
  have B6 : Hid (Below w.heap.size w w6) := B5.out.trans ((hb).mono B5.out.size)
  have SA6 : Hid (Src w6 (some ⟨b1, 0, none⟩) (cellsP L)) := SA5.out.below (hb)
  have SB6 : Hid (Src w6 (some ⟨b2, 0, none⟩) (cellsP K)) := SB5.out.below (hb)
  have SD6 : Hid (Src w6 da (cellsDf D)) := SD5.out.below (hb)
  have SV6 : Hid (Src w6 va (cellsDf D)) := SV5.out.below (hb)
  have SG6 : Hid (Src w6 ga (cellsP K)) := SG5.out.below (hb)
  clear B5 SA5 SB5 SD5 SV5 SG5
  have SR6 : Hid (Src w6 ra (cellsDf E)) := s9
  clear heq own hb s9
  go_wp2_with fail
  refine (implApplyDiff (some ⟨b2, 0, none⟩) ra j d c2 rc K E _ HK.out.1 HD.out.2 (by omega) (by omega) ZK.out ZE.out SB6.out SR6.out).mono ?_
  rintro e w7 ⟨u, R, q, rfl, heq, own, hb⟩
  obtain ⟨rfl, rfl⟩ : L = R ∧ 0 = q := by have h2 := F5.out.symm.trans heq; simpa using h2
  obtain ⟨ta, tc, rfl, s9, _⟩ := own_src own
  rw [HL.out.1]
  have B7 : Hid (Below w.heap.size w w7) := B6.out.trans ((hb).mono B6.out.size)
  have SA7 : Hid (Src w7 (some ⟨b1, 0, none⟩) (cellsP L)) := SA6.out.below (hb)
  have SB7 : Hid (Src w7 (some ⟨b2, 0, none⟩) (cellsP K)) := SB6.out.below (hb)
  have SD7 : Hid (Src w7 da (cellsDf D)) := SD6.out.below (hb)
  have SV7 : Hid (Src w7 va (cellsDf D)) := SV6.out.below (hb)
  have SG7 : Hid (Src w7 ga (cellsP K)) := SG6.out.below (hb)
  have SR7 : Hid (Src w7 ra (cellsDf E)) := SR6.out.below (hb)
  clear B6 SA6 SB6 SD6 SV6 SG6 SR6
  have ST7 : Hid (Src w7 ta (cellsP L)) := s9
  clear heq own hb s9
  go_wp2_with fail
  have hdd : ((d : Int) != (d : Int)) = false := by simp
  refine (implDiffPairs (some ⟨b1, 0, none⟩) (some ⟨b1, 0, none⟩) l l c1 c1 L L _ HL.out.1 HL.out.1 (by omega) (by omega) ZL.out ZL.out SA7.out SA7.out).mono ?_
  rintro e w8 ⟨u, R, q, rfl, heq, own, hb⟩
  obtain ⟨rfl, rfl⟩ : ([] : List DF) = R ∧ 0 = q := by have h2 := F3.out.symm.trans heq; simpa using h2
  obtain ⟨za, zc, rfl, s9, _⟩ := own_src own
  have B8 : Hid (Below w.heap.size w w8) := B7.out.trans ((hb).mono B7.out.size)
  have SA8 : Hid (Src w8 (some ⟨b1, 0, none⟩) (cellsP L)) := SA7.out.below (hb)
  have SB8 : Hid (Src w8 (some ⟨b2, 0, none⟩) (cellsP K)) := SB7.out.below (hb)
  have SD8 : Hid (Src w8 da (cellsDf D)) := SD7.out.below (hb)
  have SV8 : Hid (Src w8 va (cellsDf D)) := SV7.out.below (hb)
  have SG8 : Hid (Src w8 ga (cellsP K)) := SG7.out.below (hb)
  have SR8 : Hid (Src w8 ra (cellsDf E)) := SR7.out.below (hb)
  have ST8 : Hid (Src w8 ta (cellsP L)) := ST7.out.below (hb)
  clear B7 SA7 SB7 SD7 SV7 SG7 SR7 ST7
  clear heq own hb s9
  go_wp2_with fail
  refine (sameDiffs da va d dc vc D _ HD.out.1 (by omega) SD8.out SV8.out).mono ?_
  rintro e w9 ⟨rfl, hb⟩
  have B9 : Hid (Below w.heap.size w w9) := B8.out.trans ((hb).mono B8.out.size)
  have SA9 : Hid (Src w9 (some ⟨b1, 0, none⟩) (cellsP L)) := SA8.out.below (hb)
  have SB9 : Hid (Src w9 (some ⟨b2, 0, none⟩) (cellsP K)) := SB8.out.below (hb)
  have SD9 : Hid (Src w9 da (cellsDf D)) := SD8.out.below (hb)
  have SV9 : Hid (Src w9 va (cellsDf D)) := SV8.out.below (hb)
  have SG9 : Hid (Src w9 ga (cellsP K)) := SG8.out.below (hb)
  have SR9 : Hid (Src w9 ra (cellsDf E)) := SR8.out.below (hb)
  have ST9 : Hid (Src w9 ta (cellsP L)) := ST8.out.below (hb)
  clear B8 SA8 SB8 SD8 SV8 SG8 SR8 ST8
  clear hb
  go_wp2_with fail
  refine (samePairs ga (some ⟨b2, 0, none⟩) j gc c2 (fstL K) (sndL K) _ (by omega) (sp_of SG9.out HK.out.1) (sp_of SB9.out HK.out.1)).mono ?_
  rintro e w10 ⟨rfl, hb⟩
  have B10 : Hid (Below w.heap.size w w10) := B9.out.trans ((hb).mono B9.out.size)
  have SA10 : Hid (Src w10 (some ⟨b1, 0, none⟩) (cellsP L)) := SA9.out.below (hb)
  have SB10 : Hid (Src w10 (some ⟨b2, 0, none⟩) (cellsP K)) := SB9.out.below (hb)
  have SD10 : Hid (Src w10 da (cellsDf D)) := SD9.out.below (hb)
  have SV10 : Hid (Src w10 va (cellsDf D)) := SV9.out.below (hb)
  have SG10 : Hid (Src w10 ga (cellsP K)) := SG9.out.below (hb)
  have SR10 : Hid (Src w10 ra (cellsDf E)) := SR9.out.below (hb)
  have ST10 : Hid (Src w10 ta (cellsP L)) := ST9.out.below (hb)
  clear B9 SA9 SB9 SD9 SV9 SG9 SR9 ST9
  clear hb
  go_wp2_with fail
  refine (samePairs ta (some ⟨b1, 0, none⟩) l tc c1 (fstL L) (sndL L) _ (by omega) (sp_of ST10.out HL.out.1) (sp_of SA10.out HL.out.1)).mono ?_
  rintro e w11 ⟨rfl, hb⟩
  have B11 : Hid (Below w.heap.size w w11) := B10.out.trans ((hb).mono B10.out.size)
  have SA11 : Hid (Src w11 (some ⟨b1, 0, none⟩) (cellsP L)) := SA10.out.below (hb)
  have SB11 : Hid (Src w11 (some ⟨b2, 0, none⟩) (cellsP K)) := SB10.out.below (hb)
  have SD11 : Hid (Src w11 da (cellsDf D)) := SD10.out.below (hb)
  have SV11 : Hid (Src w11 va (cellsDf D)) := SV10.out.below (hb)
  have SG11 : Hid (Src w11 ga (cellsP K)) := SG10.out.below (hb)
  have SR11 : Hid (Src w11 ra (cellsDf E)) := SR10.out.below (hb)
  have ST11 : Hid (Src w11 ta (cellsP L)) := ST10.out.below (hb)
  clear B10 SA10 SB10 SD10 SV10 SG10 SR10 ST10
  clear hb
  by_cases hd0 : d = 0
  · have HE : Hid (L = K) := F6.out hd0
    have hlj : l = j := by rw [← HL.out.1, ← HK.out.1, HE.out]
    have hd1 : ((d : Int) == 0) = true := by simp; omega
    have SE : Hid (Src w11 (some ⟨b2, 0, none⟩) (cellsP L)) := by rw [HE.out]; exact SB11.out
    subst hlj
    clear hd0
    go_wp2_with fail
    refine (samePairs (some ⟨b1, 0, none⟩) (some ⟨b2, 0, none⟩) l c1 c2 (fstL L) (sndL L) _ (by omega) (sp_of SA11.out HL.out.1) (sp_of SE.out HL.out.1)).mono ?_
    rintro e w12 ⟨rfl, hb⟩
    have B12 : Hid (Below w.heap.size w w12) := B11.out.trans (hb.mono B11.out.size)
    clear hb
    go_wp2_with fail
    go_ret
    exact ⟨rfl, B12.out⟩
  have hd1 : ((d : Int) == 0) = false := by simp; omega
  have F8 : Hid (applyA K D = (K, 18)) := F7.out hd0
  clear hd0
  go_wp2_with fail
  refine (implApplyDiff (some ⟨b2, 0, none⟩) da j d c2 dc K D _ HK.out.1 HD.out.1 (by omega) (by omega) ZK.out ZD.out SB11.out SD11.out).mono ?_
  rintro e w12 ⟨u, R, q, rfl, heq, own, hb⟩
  obtain ⟨rfl, rfl⟩ : K = R ∧ 18 = q := by have h2 := F8.out.symm.trans heq; simpa using h2
  obtain ⟨ya, yc, rfl, s9, _⟩ := own_src own
  rw [HK.out.1]
  have B12 : Hid (Below w.heap.size w w12) := B11.out.trans ((hb).mono B11.out.size)
  have SA12 : Hid (Src w12 (some ⟨b1, 0, none⟩) (cellsP L)) := SA11.out.below (hb)
  have SB12 : Hid (Src w12 (some ⟨b2, 0, none⟩) (cellsP K)) := SB11.out.below (hb)
  have SD12 : Hid (Src w12 da (cellsDf D)) := SD11.out.below (hb)
  have SV12 : Hid (Src w12 va (cellsDf D)) := SV11.out.below (hb)
  have SG12 : Hid (Src w12 ga (cellsP K)) := SG11.out.below (hb)
  have SR12 : Hid (Src w12 ra (cellsDf E)) := SR11.out.below (hb)
  have ST12 : Hid (Src w12 ta (cellsP L)) := ST11.out.below (hb)
  clear B11 SA11 SB11 SD11 SV11 SG11 SR11 ST11
  have SY12 : Hid (Src w12 ya (cellsP K)) := s9
  clear heq own hb s9
  go_wp2_with fail
  go_ret
  exact ⟨rfl, B12.out⟩
end Go.Proofs.Ytmpaophegdeokaa.fnDiff
