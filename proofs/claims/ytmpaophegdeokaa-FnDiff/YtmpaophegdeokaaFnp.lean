
/-
  The walk of the law FnPairs. By an AI agent.
-/
import Derived.Test.YtmpaophegdeokaaDraws3
import Derived.Test.YtmpaophegdeokaaArgs
namespace Go.Proofs.Ytmpaophegdeokaa
open Go.ChangeShapes Go.WideShapes Go.ChangeAt Go.RowKit Go.Deep
set_option linter.unusedVariables false
set_option maxRecDepth 100000

set_option maxHeartbeats 1000000 in
theorem samePairs (a b : Option Addr) (n c d : Nat) (f g : Nat → ByteArray) (w : World) (hn : n ≤ 1048576) (ha : Sp w a n f g) (hb : Sp w b n f g) :
    Calls Try.prog 18 #[.slice a n c, .slice b n d] w fun e w' => e = .returned (.bool true) ∧ Below w.heap.size w w' := by
  have hne : ((n : Int) != (n : Int)) = false := by simp
  have HA : Hid (Sp w a n f g) := ha
  have HB : Hid (Sp w b n f g) := hb
  clear ha hb
  go_enter Try.func18, Try.ntmps18
  go_wp2_with fail
  go_loopw [5] (fun i wr => ∃ k : Nat, k ≤ n ∧ i = .int .i64 k ∧ Hid (Below w.heap.size w wr)) (fun i _ => n - (intOf i).toNat)
  case atStart => exact ⟨0, by omega, rfl, Below.refl _ _⟩
  case round =>
    obtain ⟨k, hk, rfl, hB⟩ := hrel
    by_cases hlt : k < n
    · rcases HA.out.below hB.out with h0 | ⟨b1, o1, rfl, hc1⟩
      · omega
      rcases HB.out.below hB.out with h0 | ⟨b2, o2, rfl, hc2⟩
      · omega
      obtain ⟨x, hx⟩ : ∃ x, f k = x := ⟨_, rfl⟩
      obtain ⟨y, hy⟩ : ∃ y, g k = y := ⟨_, rfl⟩
      obtain ⟨p1, p2⟩ := hc1 k hlt
      obtain ⟨p3, p4⟩ := hc2 k hlt
      rw [hx] at p1 p3
      rw [hy] at p2 p4
      clear hx hy hc1 hc2
      have hk0 : (0 : Int) ≤ (k : Int) := by omega
      have hki : (k : Int) < (n : Int) := by omega
      go_wp2_with fail
      go_quiet (fail)
      go_wp2_with fail
      exact ⟨⟨k + 1, by omega, by go_num, Below.drewN' hB.out _⟩, by simp [intOf]; omega⟩
    · go_wp2_with fail
      go_ret
      exact ⟨rfl, hB.out⟩
def newV : ByteArray := ⟨#[110, 101, 119, 32, 118, 97, 108, 117, 101]⟩
set_option maxHeartbeats 4000000 in
theorem pairsWalk (a ma : Option Addr) (c mc : Nat) (C M : List Nat) (w : World) (hC9 : C.length ≤ maxLen) (hM9 : M.length ≤ maxLen) (hlt : ∀ x ∈ C, x < 256) (hmt : ∀ x ∈ M, x < 256) (h : Src w a (cellsB C)) (hm : Src w ma (cellsB M)) :
    Calls Try.prog 3 #[.slice a C.length c, .slice ma M.length mc] w fun e w' => e = .returned (.bool true) ∧ Below w.heap.size w w' := by
  unfold maxLen at hC9 hM9
  obtain ⟨n, hn⟩ : ∃ n, C.length = n := ⟨_, rfl⟩
  obtain ⟨m, hm9⟩ : ∃ m, M.length = m := ⟨_, rfl⟩
  have HN : Hid (C.length = n ∧ M.length = m) := ⟨hn, hm9⟩
  have HB : Hid ((∀ x ∈ C, x < 256) ∧ (∀ x ∈ M, x < 256)) := ⟨hlt, hmt⟩
  have HS : Hid (Src w a (cellsB C) ∧ Src w ma (cellsB M)) := ⟨h, hm⟩
  rw [hn] at hC9
  rw [hm9] at hM9
  rw [hn, hm9]
  clear hlt hmt h hm hn hm9
  by_cases t1 : (1048576 : Int) < (n : Int)
  · go_enter Try.func3, Try.ntmps3
    go_wp2_with fail
    go_ret
    exact ⟨rfl, Below.refl _ _⟩
  by_cases t2 : (1048576 : Int) < (m : Int)
  · go_enter Try.func3, Try.ntmps3
    go_wp2_with fail
    go_ret
    exact ⟨rfl, Below.refl _ _⟩
  have n20 : n ≤ 1048576 := by omega
  have m20 : m ≤ 1048576 := by omega
  go_enter Try.func3, Try.ntmps3
  go_wp2_with fail
  refine (specPairsOf a n c C _ HN.out.1 n20 HB.out.1 HS.out.1).mono ?_
  rintro e w1 ⟨b1, c1, L, rfl, q1, q2, q3, q4, q5, hb1⟩
  have B1 : Hid (Below w.heap.size w w1) := hb1
  obtain ⟨l, hl⟩ : ∃ l, L.length = l := ⟨_, rfl⟩
  have HL : Hid (L.length = l ∧ GoodL L) := ⟨hl, q5⟩
  rw [hl] at q1 q3 q4 ⊢
  have C1 : Hid (l ≤ c1 ∧ c1 ≤ maxLen) := ⟨q1, q2⟩
  have S1 : Hid (Sp w1 (some ⟨b1, 0, none⟩) l (fstL L) (sndL L)) := q3
  clear q1 q2 q3 q5 hb1 hl
  go_wp2_with fail
  refine (specKeyOf ma m mc M _ HN.out.2 m20 HB.out.2 (HS.out.2.below B1.out)).mono ?_
  rintro e w2 ⟨k, rfl, hk, hb2⟩
  have B2 : Hid (Below w.heap.size w w2) := B1.out.trans (hb2.mono B1.out.size)
  have HK : Hid (keyB k = true) := hk
  have S2 : Hid (Sp w2 (some ⟨b1, 0, none⟩) l (fstL L) (sndL L)) := S1.out.below hb2
  have k30 : k.size ≤ 30 := (key_size hk).2
  have AK : Hid (askC (fstL L) (sndL L) l k = 0) := by
    have h9 := HL.out.2.ask (by rw [HL.out.1]; omega) hk
    rw [HL.out.1] at h9
    exact h9
  have SZ : Hid (∀ i, i < l → (fstL L i).size ≤ 1048576 ∧ (sndL L i).size ≤ 1048576) := by
    have h9 := HL.out.2.sizes
    rw [HL.out.1] at h9
    exact h9
  obtain ⟨p, hp⟩ := place_exists (fstL L) k l
  have HP : Hid (IsPlace (fstL L) l k p) := hp
  obtain ⟨Q, hQ⟩ : ∃ Q, putL (fstL L) (sndL L) l k newV p = Q := ⟨_, rfl⟩
  have hq0 : 0 < Q.length ∧ Q.length ≤ l + 1 := by
    have h9 := putL_length (fstL L) (sndL L) l k newV p hp.1
    rw [hQ] at h9
    have h8 : p ≤ l := hp.1
    rw [h9]
    by_cases h7 : hitB (fstL L) l k p = true
    · rw [if_pos h7]
      unfold hitB at h7
      simp at h7
      omega
    · rw [if_neg h7]
      omega
  have GQ : Hid (GoodL Q ∧ (k, newV) ∈ Q ∧ ∀ x ∈ L, x.1.toList ≠ k.toList → x ∈ Q) := by
    have h8 := put_good (v := newV) HL.out.2 hk (by decide) (p := p) (by rw [HL.out.1]; exact hp)
    have h7 := put_mem L k newV p
    have h6 := fun x (hx : x ∈ L) (hne : x.1.toList ≠ k.toList) => put_keep (v := newV) hx hne (p := p)
    rw [HL.out.1, hQ] at h8 h7
    rw [HL.out.1, hQ] at h6
    exact ⟨h8, h7, h6⟩
  have EQ : Hid (putL (fstL L) (sndL L) l k newV p = Q) := hQ
  obtain ⟨q, hq⟩ : ∃ q, Q.length = q := ⟨_, rfl⟩
  have HQ : Hid (Q.length = q) := hq
  rw [hq] at hq0
  clear hb2 hk hp hQ hq S1
  go_wp2_with fail
  refine (implPairPutC b1 0 l c1 (fstL L) (sndL L) k newV p _ (by omega) C1.out.1 C1.out.2 (by omega) (by decide) SZ.out AK.out HP.out S2.out).mono ?_
  rintro e w3 ⟨v3, rfl, ho3, hb3⟩
  rw [EQ.out] at ho3
  obtain ⟨b3, c3, rfl, r1, r2, r3, r4, r5⟩ := ho3.someP (by rw [HQ.out]; exact hq0.1)
  rw [HQ.out] at r1 r5 ⊢
  have B3 : Hid (Below w.heap.size w w3) := B2.out.trans (hb3.mono B2.out.size)
  have S3 : Hid (Sp w3 (some ⟨b1, 0, none⟩) l (fstL L) (sndL L)) := S2.out.below hb3
  have C3 : Hid (q ≤ c3 ∧ c3 ≤ maxLen) := ⟨r1, r2⟩
  have P3 : Hid (Sp w3 (some ⟨b3, 0, none⟩) q (fstL Q) (sndL Q)) := r5
  clear ho3 hb3 r1 r2 r3 r4 r5 S2
  go_wp2_with fail
  refine (specPairPutC b1 0 l c1 (fstL L) (sndL L) k newV p _ (by omega) C1.out.1 C1.out.2 (by omega) (by decide) SZ.out AK.out HP.out S3.out).mono ?_
  rintro e w4 ⟨v4, rfl, ho4, hb4⟩
  rw [EQ.out] at ho4
  obtain ⟨b4, c4, rfl, r1, r2, r3, r4, r5⟩ := ho4.someP (by rw [HQ.out]; exact hq0.1)
  rw [HQ.out] at r1 r5 ⊢
  have B4 : Hid (Below w.heap.size w w4) := B3.out.trans (hb4.mono B3.out.size)
  have S4 : Hid (Sp w4 (some ⟨b1, 0, none⟩) l (fstL L) (sndL L)) := S3.out.below hb4
  have P4 : Hid (Sp w4 (some ⟨b3, 0, none⟩) q (fstL Q) (sndL Q) ∧ Sp w4 (some ⟨b4, 0, none⟩) q (fstL Q) (sndL Q)) := ⟨P3.out.below hb4, r5⟩
  clear ho4 hb4 r1 r2 r3 r4 r5 S3 P3
  have SQ : Hid (∀ i, i < q → (fstL Q i).size ≤ 1048576 ∧ (sndL Q i).size ≤ 1048576) := by
    have h9 := GQ.out.1.sizes
    rw [HQ.out] at h9
    exact h9
  have q60 : q ≤ 60 := by omega
  have AQ : Hid (askC (fstL Q) (sndL Q) q k = 0) := by
    have h9 := GQ.out.1.ask (by rw [HQ.out]; exact q60) HK.out
    rw [HQ.out] at h9
    exact h9
  obtain ⟨p2, hp2⟩ := place_exists (fstL Q) k q
  have HP2 : Hid (IsPlace (fstL Q) q k p2) := hp2
  have GE : Hid (getV (fstL Q) (sndL Q) q k p2 = newV ∧ getC (fstL Q) (sndL Q) q k p2 = 0) := by
    have h9 := get_mem GQ.out.1 (by rw [HQ.out]; exact q60) GQ.out.2.1 (p := p2) (by rw [HQ.out]; exact hp2)
    rw [HQ.out] at h9
    exact h9
  clear hp2
  go_wp2_with fail
  refine (implPairGet (some ⟨b3, 0, none⟩) q c3 (fstL Q) (sndL Q) k p2 _ (by omega) (by omega) SQ.out HP2.out P4.out.1).mono ?_
  rintro e w5 ⟨rfl, hb5⟩
  rw [GE.out.1, GE.out.2]
  have B5 : Hid (Below w.heap.size w w5) := B4.out.trans (hb5.mono B4.out.size)
  have S5 : Hid (Sp w5 (some ⟨b1, 0, none⟩) l (fstL L) (sndL L)) := S4.out.below hb5
  have P5 : Hid (Sp w5 (some ⟨b3, 0, none⟩) q (fstL Q) (sndL Q) ∧ Sp w5 (some ⟨b4, 0, none⟩) q (fstL Q) (sndL Q)) := ⟨P4.out.1.below hb5, P4.out.2.below hb5⟩
  obtain ⟨D, hD⟩ : ∃ D, Q.take p2 ++ Q.drop (p2 + 1) = D := ⟨_, rfl⟩
  have GD : Hid (hitB (fstL Q) q k p2 = true ∧ GoodL D ∧ (∀ y ∈ D, y.1.toList ≠ k.toList) ∧ (∀ y ∈ Q, y.1.toList ≠ k.toList → y ∈ D)) := by
    have h9 := drop_facts GQ.out.1 GQ.out.2.1 (p := p2) (by rw [HQ.out]; exact HP2.out)
    rw [HQ.out, hD] at h9
    exact h9
  have ED : Hid ((listP (fstL Q) (sndL Q) q).take p2 ++ (listP (fstL Q) (sndL Q) q).drop (p2 + 1) = D) := by
    have h9 := listP_self Q
    rw [HQ.out] at h9
    rw [h9]
    exact hD
  obtain ⟨d, hd⟩ : ∃ d, D.length = d := ⟨_, rfl⟩
  have HD : Hid (D.length = d) := hd
  have d60 : d ≤ 60 := by
    rw [← hd, ← hD, List.length_append, List.length_take, List.length_drop, HQ.out]
    omega
  clear hb5 hD hd P4 S4
  go_wp2_with fail
  refine (implPairDropC b3 0 q c3 (fstL Q) (sndL Q) k p2 _ q60 C3.out.1 C3.out.2 (by omega) SQ.out AQ.out GD.out.1 HP2.out P5.out.1).mono ?_
  rintro e w6 ⟨v6, rfl, ho6, hb6⟩
  rw [ED.out] at ho6
  obtain ⟨ad, c6, rfl, r5, _⟩ := ho6.open
  rw [HD.out] at r5 ⊢
  have B6 : Hid (Below w.heap.size w w6) := B5.out.trans (hb6.mono B5.out.size)
  have S6 : Hid (Sp w6 (some ⟨b1, 0, none⟩) l (fstL L) (sndL L)) := S5.out.below hb6
  have P6 : Hid (Sp w6 (some ⟨b3, 0, none⟩) q (fstL Q) (sndL Q) ∧ Sp w6 (some ⟨b4, 0, none⟩) q (fstL Q) (sndL Q)) := ⟨P5.out.1.below hb6, P5.out.2.below hb6⟩
  have D6 : Hid (Sp w6 ad d (fstL D) (sndL D)) := r5
  have SD : Hid (∀ i, i < d → (fstL D i).size ≤ 1048576 ∧ (sndL D i).size ≤ 1048576) := by
    have h9 := GD.out.2.1.sizes
    rw [HD.out] at h9
    exact h9
  obtain ⟨p3, hp3⟩ := place_exists (fstL D) k d
  have HP3 : Hid (IsPlace (fstL D) d k p3) := hp3
  have GN : Hid (getC (fstL D) (sndL D) d k p3 = 5) := by
    have h9 := get_none GD.out.2.1 (by rw [HD.out]; exact d60) HK.out GD.out.2.2.1 p3
    rw [HD.out] at h9
    exact h9
  clear hb6 ho6 r5 hp3 P5 S5
  go_wp2_with fail
  refine (implPairGet ad d c6 (fstL D) (sndL D) k p3 _ (by omega) (by omega) SD.out HP3.out D6.out).mono ?_
  rintro e w7 ⟨rfl, hb7⟩
  rw [GN.out]
  have B7 : Hid (Below w.heap.size w w7) := B6.out.trans (hb7.mono B6.out.size)
  have S7 : Hid (Sp w7 (some ⟨b1, 0, none⟩) l (fstL L) (sndL L) ∧ Sp w7 (some ⟨b3, 0, none⟩) q (fstL Q) (sndL Q) ∧ Sp w7 (some ⟨b4, 0, none⟩) q (fstL Q) (sndL Q) ∧ Sp w7 ad d (fstL D) (sndL D)) := ⟨S6.out.below hb7, P6.out.1.below hb7, P6.out.2.below hb7, D6.out.below hb7⟩
  obtain ⟨R, hR⟩ : ∃ R, underL (fstL Q) (sndL Q) q k = (k, newV) :: R := by
    have h9 := (under_first GQ.out.1 (by rw [HQ.out]; exact q60) HK.out GQ.out.2.1).2
    rw [HQ.out] at h9
    exact h9
  have UC : Hid (underC (fstL Q) (sndL Q) q k = 0) := by
    have h9 := (under_first GQ.out.1 (by rw [HQ.out]; exact q60) HK.out GQ.out.2.1).1
    rw [HQ.out] at h9
    exact h9
  have UR : Hid (underL (fstL Q) (sndL Q) q k = (k, newV) :: R) := hR
  clear hb7 P6 S6 D6 hR
  go_wp2_with fail
  refine (implPairsUnder (some ⟨b3, 0, none⟩) q c3 (fstL Q) (sndL Q) k _ (by omega) (by omega) SQ.out S7.out.2.1).mono ?_
  rintro e w8 ⟨v8, rfl, ho8, hb8⟩
  rw [UC.out]
  rw [UR.out] at ho8
  obtain ⟨u, hu⟩ : ∃ u, ((k, newV) :: R).length = u := ⟨_, rfl⟩
  have hu0 : 0 < u := by rw [← hu]; simp
  obtain ⟨b8, c8, rfl, r1, r2, r3, r4, r5⟩ := ho8.someP (by rw [hu]; exact hu0)
  rw [hu] at r5 ⊢
  have B8 : Hid (Below w.heap.size w w8) := B7.out.trans (hb8.mono B7.out.size)
  have S8 : Hid (Sp w8 (some ⟨b1, 0, none⟩) l (fstL L) (sndL L) ∧ Sp w8 (some ⟨b3, 0, none⟩) q (fstL Q) (sndL Q) ∧ Sp w8 (some ⟨b4, 0, none⟩) q (fstL Q) (sndL Q) ∧ Sp w8 ad d (fstL D) (sndL D)) := ⟨S7.out.1.below hb8, S7.out.2.1.below hb8, S7.out.2.2.1.below hb8, S7.out.2.2.2.below hb8⟩
  have U8 : Hid (w8.cell? ⟨b8, 0, none⟩ = some (.string k) ∧ w8.cell? ⟨b8, 1, none⟩ = some (.string newV)) := by
    rcases r5 with h0 | ⟨b', o', e, hc⟩
    · omega
    · cases e
      have h9 := hc 0 hu0
      exact ⟨h9.1, h9.2⟩
  clear ho8 hb8 r1 r2 r3 r4 r5 S7 hu UR
  go_wp2_with fail
  refine (samePairs (some ⟨b3, 0, none⟩) (some ⟨b4, 0, none⟩) q c3 c4 (fstL Q) (sndL Q) _ (by omega) S8.out.2.1 S8.out.2.2.1).mono ?_
  rintro e w9 ⟨rfl, hb9⟩
  have B9 : Hid (Below w.heap.size w w9) := B8.out.trans (hb9.mono B8.out.size)
  have S9 : Hid (Sp w9 (some ⟨b1, 0, none⟩) l (fstL L) (sndL L) ∧ Sp w9 (some ⟨b3, 0, none⟩) q (fstL Q) (sndL Q) ∧ Sp w9 ad d (fstL D) (sndL D)) := ⟨S8.out.1.below hb9, S8.out.2.1.below hb9, S8.out.2.2.2.below hb9⟩
  have U9 : Hid (w9.cell? ⟨b8, 0, none⟩ = some (.string k) ∧ w9.cell? ⟨b8, 1, none⟩ = some (.string newV)) := ⟨cell_later hb9 U8.out.1, cell_later hb9 U8.out.2⟩
  have PB : Hid (pairsB (fstL Q) (sndL Q) q = true) := by
    have h9 := GQ.out.1.pairsB (by rw [HQ.out]; exact q60)
    rw [HQ.out] at h9
    exact h9
  have hnv : newV.toList = [110, 101, 119, 32, 118, 97, 108, 117, 101] := by rw [ByteArray.toList_eq]; rfl
  clear hb9 S8 U8
  go_wp2_with fail
  refine (implPairsOK (some ⟨b3, 0, none⟩) q c3 (fstL Q) (sndL Q) _ (by omega) SQ.out S9.out.2.1).mono ?_
  rintro e wa ⟨rfl, hba⟩
  rw [PB.out]
  have BA : Hid (Below w.heap.size w wa) := B9.out.trans (hba.mono B9.out.size)
  have SA : Hid (Sp wa (some ⟨b1, 0, none⟩) l (fstL L) (sndL L) ∧ Sp wa (some ⟨b3, 0, none⟩) q (fstL Q) (sndL Q) ∧ Sp wa ad d (fstL D) (sndL D)) := ⟨S9.out.1.below hba, S9.out.2.1.below hba, S9.out.2.2.below hba⟩
  have UA1 : wa.cell? ⟨b8, 0, none⟩ = some (.string k) := cell_later hba U9.out.1
  have UA2 : wa.cell? ⟨b8, 1, none⟩ = some (.string newV) := cell_later hba U9.out.2
  have hu1 : ((u : Int) == 0) = false := by simp; omega
  have hu2 : (0 : Int) < (u : Int) := by omega
  clear hba S9 U9
  go_wp2_with fail
  clear hnv UA1 UA2 hu1 hu2 hu0
  go_loopw [19] (fun i wr => ∃ j : Nat, j ≤ l ∧ i = .int .i64 j ∧ Hid (Below wa.heap.size wa wr)) (fun i _ => l - (intOf i).toNat)
  case atStart => exact ⟨0, by omega, rfl, Below.refl _ _⟩
  case round =>
    obtain ⟨j, hj, rfl, hW⟩ := hrel
    by_cases hjl : j < l
    case neg =>
      go_wp2_with fail
      go_ret
      exact ⟨rfl, BA.out.trans (hW.out.mono BA.out.size)⟩
    have hj0 : (0 : Int) ≤ (j : Int) := by omega
    have hj1 : (j : Int) < (l : Int) := by omega
    obtain ⟨x, hx⟩ : ∃ x, fstL L j = x := ⟨_, rfl⟩
    obtain ⟨y, hy⟩ : ∃ y, sndL L j = y := ⟨_, rfl⟩
    have XY : Hid ((x, y) ∈ L) := by
      have hjL : j < L.length := by rw [HL.out.1]; exact hjl
      have h9 := at_fst hjL
      rw [hx, hy] at h9
      have h8 : L[j] = (x, y) := by rw [h9.1, h9.2]
      rw [← h8]
      exact List.getElem_mem hjL
    obtain ⟨g1, g2⟩ : wr.cell? ⟨b1, 0 + j * 2, none⟩ = some (.string x) ∧ wr.cell? ⟨b1, 0 + j * 2 + 1, none⟩ = some (.string y) := by
      rcases SA.out.1.below hW.out with h0 | ⟨b', o', e, hc⟩
      · omega
      · cases e
        have h9 := hc j hjl
        rw [hx, hy] at h9
        exact h9
    rw [Nat.zero_add] at g1 g2
    clear hx hy
    by_cases hxk : x.toList = k.toList
    · go_wp2_with fail
      exact ⟨⟨j + 1, by omega, by go_num, hW.out⟩, by simp [intOf]; omega⟩
    have FIT : Hid (keyB x = true) := by
      have h9 := HL.out.2.1 _ XY.out
      unfold fitB at h9
      rw [Bool.and_eq_true] at h9
      exact h9.1
    have x30 : x.size ≤ 30 := (key_size FIT.out).2
    obtain ⟨p4, hp4⟩ := place_exists (fstL Q) x q
    obtain ⟨p5, hp5⟩ := place_exists (fstL D) x d
    have HP4 : Hid (IsPlace (fstL Q) q x p4) := hp4
    have HP5 : Hid (IsPlace (fstL D) d x p5) := hp5
    have G4 : Hid (getV (fstL Q) (sndL Q) q x p4 = y ∧ getC (fstL Q) (sndL Q) q x p4 = 0) := by
      have h9 := get_mem GQ.out.1 (by rw [HQ.out]; exact q60) (GQ.out.2.2 _ XY.out hxk) (p := p4) (by rw [HQ.out]; exact hp4)
      rw [HQ.out] at h9
      exact h9
    have G5 : Hid (getV (fstL D) (sndL D) d x p5 = y ∧ getC (fstL D) (sndL D) d x p5 = 0) := by
      have h9 := get_mem GD.out.2.1 (by rw [HD.out]; exact d60) (GD.out.2.2.2 _ (GQ.out.2.2 _ XY.out hxk) hxk) (p := p5) (by rw [HD.out]; exact hp5)
      rw [HD.out] at h9
      exact h9
    have hxb : (x.toList == k.toList) = false := by simpa using hxk
    clear hp4 hp5 hxk
    go_wp2_with fail
    refine (implPairGet (some ⟨b3, 0, none⟩) q c3 (fstL Q) (sndL Q) x p4 _ (by omega) (by omega) SQ.out HP4.out (SA.out.2.1.below hW.out)).mono ?_
    rintro e wb ⟨rfl, hbb⟩
    rw [G4.out.1, G4.out.2]
    have WB : Hid (Below wa.heap.size wa wb) := hW.out.trans (hbb.mono hW.out.size)
    have g3 : wb.cell? ⟨b1, j * 2, none⟩ = some (.string x) := cell_later hbb g1
    have g4 : wb.cell? ⟨b1, j * 2 + 1, none⟩ = some (.string y) := cell_later hbb g2
    clear hbb g1 g2
    go_wp2_with fail
    refine (implPairGet ad d c6 (fstL D) (sndL D) x p5 _ (by omega) (by omega) SD.out HP5.out (SA.out.2.2.below WB.out)).mono ?_
    rintro e wc ⟨rfl, hbc⟩
    rw [G5.out.1, G5.out.2]
    have WC : Hid (Below wa.heap.size wa wc) := WB.out.trans (hbc.mono WB.out.size)
    have g1 : wc.cell? ⟨b1, j * 2, none⟩ = some (.string x) := cell_later hbc g3
    have g2 : wc.cell? ⟨b1, j * 2 + 1, none⟩ = some (.string y) := cell_later hbc g4
    clear hbc g3 g4
    go_wp2_with fail
    exact ⟨⟨j + 1, by omega, by go_num, WC.out⟩, by simp [intOf]; omega⟩
end Go.Proofs.Ytmpaophegdeokaa
