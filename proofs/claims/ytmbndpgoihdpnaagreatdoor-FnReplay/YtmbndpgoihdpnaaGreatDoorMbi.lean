
/-
  MakeBackup of the program and of the specification. By an AI agent.
-/
import Derived.Test.YtmbndpgoihdpnaaGreatDoorBok
import Derived.Test.YtmbndpgoihdpnaaGreatDoorRa1
import Derived.Test.YtmbndpgoihdpnaaGreatDoorDifi
namespace Go.Proofs.YtmbndpgoihdpnaaGreatDoor
open Go.ChangeShapes Go.WideShapes Go.ChangeAt Go.RowKit Go.Deep
set_option linter.unusedVariables false
set_option linter.unusedSimpArgs false
set_option maxRecDepth 100000

theorem l01InM (d : Bool) (a b c : Int) (w : World) (h : (decide (b ≤ a) && decide (a ≤ c)) = d) : Calls Tryz.prog 69 #[.int .i64 a, .int .i64 b, .int .i64 c] w fun e w' => e = .returned (.bool d) ∧ w' = w := by
  rw [← h]; exact (l01In a b c w).mono fun e w' ⟨h1, h2⟩ => ⟨h1, h2.symm⟩
def bm0 : BM := ⟨⟨#[]⟩, ⟨#[]⟩, 0, [], 0⟩
/-- What MakeBackup answers. -/
def mbA (F T : ByteArray) (C : Int) (a b : List PM) : BM × Int :=
  if 65536 < F.size ∨ 65536 < T.size then (bm0, 2) else if (diffA a b).2 ≠ 0 then (bm0, (diffA a b).2) else
    if F.size = 0 ∧ 0 < a.length then (bm0, 1) else if followsB F T C = false then (bm0, 4) else (⟨F, T, C, (diffA a b).1, ((sumL (fsP b) : Nat) : Int)⟩, 0)
theorem ownK0 (w : World) (lo hi : Nat) : OwnsK w lo hi (.agg #[.string ⟨#[]⟩, .string ⟨#[]⟩, .int .i64 0, .slice none 0 0, .int .i64 0]) bm0 := ⟨_, rfl, World.ownsRow_nil _ _ _ _, fun k e => by cases e⟩
theorem okP_fit {M : List PM} (h : okP M = true) : M.length ≤ 60 ∧ ∀ p ∈ M, p.1.size ≤ 90 ∧ p.2.size ≤ 90 := by
  refine ⟨(okP_up h).2.1, fun p hp => ?_⟩
  have h9 := (okP_up h).2.2 p hp
  unfold fitB keyB at h9
  simp only [Bool.and_eq_true, decide_eq_true_eq] at h9
  omega
theorem diffA_ok {a b : List PM} {R : List DF} (h : diffA a b = (R, 0)) : R = diffM a b ∧ okP a = true ∧ okP b = true ∧ a.length ≤ 60 ∧ b.length ≤ 60 := by
  unfold diffA at h
  split at h
  · cases h
  · split at h
    · cases h
    · rename_i h1 h2
      cases h
      have ha : okP a = true := by cases e : okP a with | false => exact absurd (Or.inl e) h2 | true => rfl
      have hb : okP b = true := by cases e : okP b with | false => exact absurd (Or.inr e) h2 | true => rfl
      exact ⟨rfl, ha, hb, (okP_up ha).2.1, (okP_up hb).2.1⟩
theorem mbA_small {F T : ByteArray} {C : Int} {a b : List PM} {D : BM} {q : Int} (h : mbA F T C a b = (D, q)) : D.D.length ≤ 1048576 := by
  unfold mbA at h
  split at h
  · cases h; exact Nat.zero_le _
  · split at h
    · cases h; exact Nat.zero_le _
    · split at h
      · cases h; exact Nat.zero_le _
      · split at h
        · cases h; exact Nat.zero_le _
        · cases h
          exact diffA_small (R := (diffA a b).1) (q := (diffA a b).2) rfl

set_option maxHeartbeats 2000000 in
theorem implMakeBackup (F T : ByteArray) (C : Int) (a1 a2 : Option Addr) (n1 n2 c1 c2 : Nat) (L1 L2 : List PM) (w : World) (hF : F.size ≤ 1048576) (hT : T.size ≤ 1048576) (hL1 : L1.length = n1) (hL2 : L2.length = n2) (hn1 : n1 ≤ 1048576) (hn2 : n2 ≤ 1048576) (hs1 : ∀ x ∈ L1, x.1.size ≤ 1048576 ∧ x.2.size ≤ 1048576) (hs2 : ∀ x ∈ L2, x.1.size ≤ 1048576 ∧ x.2.size ≤ 1048576) (h1 : Src w a1 (cellsP L1)) (h2 : Src w a2 (cellsP L2)) (hH : HasHalf w) :
    Calls Tryz.prog 31 #[.string F, .string T, .int .i64 C, .slice a1 n1 c1, .slice a2 n2 c2] w fun e w' => ∃ u D q, e = .returned (.tuple #[u, .int .i64 q]) ∧ mbA F T C L1 L2 = (D, q) ∧ OwnsK w' w.heap.size w'.heap.size u D ∧ Below w.heap.size w w' := by
  have A0 : Hid (Below w.heap.size w (w.alloc (.cells #[.string ⟨#[]⟩, .string ⟨#[]⟩, .int .i64 0, .slice none 0 0, .int .i64 0] 34))) := (Below.refl _ _).alloc (Nat.le_refl _) _
  have HL : Hid (L1.length = n1 ∧ L2.length = n2) := ⟨hL1, hL2⟩
  have S1 : Hid (Src w a1 (cellsP L1)) := h1
  have S2 : Hid (Src w a2 (cellsP L2)) := h2
  have H1 : Hid (∀ x ∈ L1, x.1.size ≤ 1048576 ∧ x.2.size ≤ 1048576) := hs1
  have H2 : Hid (∀ x ∈ L2, x.1.size ≤ 1048576 ∧ x.2.size ≤ 1048576) := hs2
  have HT : Hid (HasHalf w) := hH
  clear h1 h2 hs1 hs2 hL1 hL2 hH
  by_cases k1 : (65536 : Int) < (F.size : Int)
  · have F9 : Hid (mbA F T C L1 L2 = (bm0, 2)) := by show _ = _; unfold mbA; rw [if_pos (by omega)]
    go_enter Tryz.func31, Tryz.ntmps31
    go_wp2_with fail
    exact bodyPost_ret (v := .tuple #[.agg #[.string ⟨#[]⟩, .string ⟨#[]⟩, .int .i64 0, .slice none 0 0, .int .i64 0], .int .i64 2]) (by simp [results, Tryz.results31, go_sem]) rfl ⟨_, _, _, rfl, F9.out, ownK0 _ _ _, A0.out⟩
  by_cases k2 : (65536 : Int) < (T.size : Int)
  · have F9 : Hid (mbA F T C L1 L2 = (bm0, 2)) := by show _ = _; unfold mbA; rw [if_pos (by omega)]
    go_enter Tryz.func31, Tryz.ntmps31
    go_wp2_with fail
    exact bodyPost_ret (v := .tuple #[.agg #[.string ⟨#[]⟩, .string ⟨#[]⟩, .int .i64 0, .slice none 0 0, .int .i64 0], .int .i64 2]) (by simp [results, Tryz.results31, go_sem]) rfl ⟨_, _, _, rfl, F9.out, ownK0 _ _ _, A0.out⟩
  have NB : Hid (¬ (65536 < F.size ∨ 65536 < T.size)) := by show ¬ _; omega
  go_enter Tryz.func31, Tryz.ntmps31
  go_wp2_with fail
  go_at_call 58
  refine (implDiffPairs a1 a2 n1 n2 c1 c2 L1 L2 _ HL.out.1 HL.out.2 hn1 hn2 H1.out H2.out (S1.out.below A0.out) (S2.out.below A0.out)).mono ?_
  rintro e w1 ⟨u1, R, q, rfl, heq, o1, hb1⟩
  obtain ⟨ra, rc, rfl, _, _⟩ := own_src o1
  have DE : Hid (diffA L1 L2 = (R, q)) := heq
  have B1 : Hid (Below w.heap.size w w1) := Below.new hb1
  have X1 : Hid (Box w1 w.heap.size [.string ⟨#[]⟩, .string ⟨#[]⟩, .int .i64 0, .slice none 0 0, .int .i64 0]) := Box.below (Box.new rfl) hb1
  have Z1 : Hid (w.heap.size + 1 ≤ w1.heap.size) := size_new hb1
  obtain ⟨m, hm⟩ : ∃ m, R.length = m := ⟨_, rfl⟩
  have HM : Hid (R.length = m) := hm
  have O1 : Hid (w1.ownsRow (w.heap.size + 1) 108 5 (.slice ra m rc) m (cellsDf R)) := by rw [← hm]; exact own_mono o1 (by simp)
  rw [hm]
  clear heq o1 hb1 hm
  by_cases hq : q = 0
  case neg =>
    have FF : Hid (mbA F T C L1 L2 = (bm0, q)) := by show _ = _; unfold mbA; rw [if_neg NB.out, DE.out, if_pos hq]
    have hq2 : (q != 0) = true := by simpa using hq
    obtain ⟨⟨p0, pf0⟩, ⟨p1, pf1⟩, ⟨p2, pf2⟩, ⟨p3, pf3⟩, ⟨p4, pf4⟩, r0, r1, r2, r3, r4⟩ := (X1.out).w5in (.string ⟨#[]⟩) (.string ⟨#[]⟩) (.int .i64 0) (.slice none 0 0) (.int .i64 0)
    have BE : Hid (Below w.heap.size w (W5 w1 w.heap.size (.string ⟨#[]⟩) (.string ⟨#[]⟩) (.int .i64 0) (.slice none 0 0) (.int .i64 0))) := Below.w5 B1.out (Nat.le_refl _) _ _ _ _ _
    go_wp2_with fail
    exact bodyPost_ret (v := .tuple #[.agg #[.string ⟨#[]⟩, .string ⟨#[]⟩, .int .i64 0, .slice none 0 0, .int .i64 0], .int .i64 q]) (by simp [results, Tryz.results31, go_sem, r0, r1, r2, r3, r4]) rfl ⟨_, _, _, rfl, FF.out, ownK0 _ _ _, BE.out⟩
  subst hq
  have DK : Hid (R = diffM L1 L2 ∧ okP L1 = true ∧ okP L2 = true ∧ L1.length ≤ 60 ∧ L2.length ≤ 60) := diffA_ok DE.out
  obtain ⟨fb, hfb⟩ : ∃ b, followsB F T C = b := ⟨_, rfl⟩
  have FB : Hid (followsB F T C = fb) := hfb
  obtain ⟨sm, hsm⟩ : ∃ s, sumL (fsP L2) = s := ⟨_, rfl⟩
  have SM : Hid (sumL (fsP L2) = sm) := hsm
  have HF9 : Hid (F.size ≤ 1048576 ∧ T.size ≤ 1048576) := ⟨hF, hT⟩
  clear hfb hsm
  by_cases hz : F.size = 0
  · by_cases hn0 : n1 = 0
    case neg =>
      have FF : Hid (mbA F T C L1 L2 = (bm0, 1)) := by show _ = _; unfold mbA; rw [if_neg NB.out, DE.out, if_neg (by simp), if_pos ⟨hz, by rw [HL.out.1]; omega⟩]
      have hn0p : (0 : Int) < (n1 : Int) := by omega
      have hn0n : 0 < n1 := by omega
      obtain rfl := size0 hz
      clear hn0 hz
      obtain ⟨⟨p0, pf0⟩, ⟨p1, pf1⟩, ⟨p2, pf2⟩, ⟨p3, pf3⟩, ⟨p4, pf4⟩, r0, r1, r2, r3, r4⟩ := (X1.out).w5in (.string ⟨#[]⟩) (.string ⟨#[]⟩) (.int .i64 0) (.slice none 0 0) (.int .i64 0)
      have BE : Hid (Below w.heap.size w (W5 w1 w.heap.size (.string ⟨#[]⟩) (.string ⟨#[]⟩) (.int .i64 0) (.slice none 0 0) (.int .i64 0))) := Below.w5 B1.out (Nat.le_refl _) _ _ _ _ _
      go_wp2_with fail
      exact bodyPost_ret (v := .tuple #[.agg #[.string ⟨#[]⟩, .string ⟨#[]⟩, .int .i64 0, .slice none 0 0, .int .i64 0], .int .i64 1]) (by simp [results, Tryz.results31, go_sem, r0, r1, r2, r3, r4]) rfl ⟨_, _, _, rfl, FF.out, ownK0 _ _ _, BE.out⟩
    have NE9 : Hid (¬ (F.size = 0 ∧ 0 < L1.length)) := by show ¬ _; rw [HL.out.1]; omega
    have hn0d : decide (0 < n1) = false := by simp; omega
    obtain rfl := size0 hz
    clear hz hn0
    go_wp2_with fail
    go_at_call 59
    refine (sumOf a2 n2 c2 L2 _ HL.out.2 (by have h9 := DK.out.2.2.2.2; rw [HL.out.2] at h9; exact h9) (okP_fit DK.out.2.2.1).2 (S2.out.below B1.out) (HT.out.below B1.out)).mono ?_
    rw [SM.out]
    rintro e w2 ⟨rfl, hb2⟩
    have B2 : Hid (Below w.heap.size w w2) := B1.out.trans (hb2.mono B1.out.size)
    have X2 : Hid (Box w2 w.heap.size [.string ⟨#[]⟩, .string ⟨#[]⟩, .int .i64 0, .slice none 0 0, .int .i64 0]) := X1.out.below hb2
    have O2 : Hid (w2.ownsRow (w.heap.size + 1) 108 5 (.slice ra m rc) m (cellsDf R)) := own_below O1.out hb2
    have Z2 : Hid (w.heap.size + 1 ≤ w2.heap.size) := by have := Z1.out; have := hb2.size; show _ ≤ _; omega
    clear hb2
    go_wp2_with fail
    go_at_call 60
    refine (follows ⟨#[]⟩ T C (sm : Int) ra m rc _ HF9.out.1 HF9.out.2).mono ?_
    rw [FB.out]
    rintro e w3 ⟨rfl, hb3⟩
    have B3 : Hid (Below w.heap.size w w3) := B2.out.trans ((Below.new hb3).mono B2.out.size)
    have X3 : Hid (Box w3 w.heap.size [.string ⟨#[]⟩, .string ⟨#[]⟩, .int .i64 0, .slice none 0 0, .int .i64 0]) := X2.out.below (Below.new hb3)
    have Y3 : Hid (Box w3 w2.heap.size [.string ⟨#[]⟩, .string T, .int .i64 C, .slice ra m rc, .int .i64 (sm : Int)]) := Box.below (Box.new rfl) hb3
    have O3 : Hid (w3.ownsRow (w.heap.size + 1) 108 5 (.slice ra m rc) m (cellsDf R)) := own_below O2.out (Below.new hb3)
    clear hb3
    cases fb with
    | false =>
      have FF : Hid (mbA ⟨#[]⟩ T C L1 L2 = (bm0, 4)) := by show _ = _; unfold mbA; rw [if_neg NB.out, DE.out, if_neg (by simp), if_neg NE9.out, if_pos FB.out]
      obtain ⟨⟨p0, pf0⟩, ⟨p1, pf1⟩, ⟨p2, pf2⟩, ⟨p3, pf3⟩, ⟨p4, pf4⟩, r0, r1, r2, r3, r4⟩ := (X3.out).w5in (.string ⟨#[]⟩) (.string ⟨#[]⟩) (.int .i64 0) (.slice none 0 0) (.int .i64 0)
      have BE : Hid (Below w.heap.size w (W5 w3 w.heap.size (.string ⟨#[]⟩) (.string ⟨#[]⟩) (.int .i64 0) (.slice none 0 0) (.int .i64 0))) := Below.w5 B3.out (Nat.le_refl _) _ _ _ _ _
      go_wp2_with fail
      exact bodyPost_ret (v := .tuple #[.agg #[.string ⟨#[]⟩, .string ⟨#[]⟩, .int .i64 0, .slice none 0 0, .int .i64 0], .int .i64 4]) (by simp [results, Tryz.results31, go_sem, r0, r1, r2, r3, r4]) rfl ⟨_, _, _, rfl, FF.out, ownK0 _ _ _, BE.out⟩
    | true =>
      have FF : Hid (mbA ⟨#[]⟩ T C L1 L2 = (⟨⟨#[]⟩, T, C, R, (sm : Int)⟩, 0)) := by show _ = _; unfold mbA; rw [if_neg NB.out, DE.out, if_neg (by simp), if_neg NE9.out, if_neg (by rw [FB.out]; decide), SM.out]
      obtain ⟨s0, _⟩ := Y3.out 0 _ rfl
      obtain ⟨s1, _⟩ := Y3.out 1 _ rfl
      obtain ⟨s2, _⟩ := Y3.out 2 _ rfl
      obtain ⟨s3, _⟩ := Y3.out 3 _ rfl
      obtain ⟨s4, _⟩ := Y3.out 4 _ rfl
      obtain ⟨⟨p0, pf0⟩, ⟨p1, pf1⟩, ⟨p2, pf2⟩, ⟨p3, pf3⟩, ⟨p4, pf4⟩, r0, r1, r2, r3, r4⟩ := (X3.out).w5in (.string ⟨#[]⟩) (.string T) (.int .i64 C) (.slice ra m rc) (.int .i64 (sm : Int))
      have BE : Hid (Below w.heap.size w (W5 w3 w.heap.size (.string ⟨#[]⟩) (.string T) (.int .i64 C) (.slice ra m rc) (.int .i64 (sm : Int)))) := Below.w5 B3.out (Nat.le_refl _) _ _ _ _ _
      have OE : Hid (OwnsK (W5 w3 w.heap.size (.string ⟨#[]⟩) (.string T) (.int .i64 C) (.slice ra m rc) (.int .i64 (sm : Int))) w.heap.size (W5 w3 w.heap.size (.string ⟨#[]⟩) (.string T) (.int .i64 C) (.slice ra m rc) (.int .i64 (sm : Int))).heap.size (.agg #[.string ⟨#[]⟩, .string T, .int .i64 C, .slice ra m rc, .int .i64 (sm : Int)]) ⟨⟨#[]⟩, T, C, R, (sm : Int)⟩) := by
        refine ⟨_, rfl, OwnsR.mk ?_ (Nat.le_refl _)⟩
        show World.ownsRow _ _ _ _ _ R.length _
        rw [HM.out]
        exact own_mono (own_w5 O3.out (by omega) _ _ _ _ _) (by omega)
      go_wp2_with fail
      exact bodyPost_ret (v := .tuple #[.agg #[.string ⟨#[]⟩, .string T, .int .i64 C, .slice ra m rc, .int .i64 (sm : Int)], .int .i64 0]) (by simp [results, Tryz.results31, go_sem, r0, r1, r2, r3, r4]) rfl ⟨_, _, _, rfl, FF.out, OE.out, BE.out⟩
  · have NE9 : Hid (¬ (F.size = 0 ∧ 0 < L1.length)) := by show ¬ _; omega
    have hne : F.toList.isEmpty = false := by
      cases e : F.toList with
      | nil => exact absurd (by have h9 : F = ⟨#[]⟩ := toList_injF (by rw [e, ByteArray.toList_eq]); rw [h9]; rfl) hz
      | cons _ _ => rfl
    clear hz
    go_wp2_with fail
    go_at_call 59
    refine (sumOf a2 n2 c2 L2 _ HL.out.2 (by have h9 := DK.out.2.2.2.2; rw [HL.out.2] at h9; exact h9) (okP_fit DK.out.2.2.1).2 (S2.out.below B1.out) (HT.out.below B1.out)).mono ?_
    rw [SM.out]
    rintro e w2 ⟨rfl, hb2⟩
    have B2 : Hid (Below w.heap.size w w2) := B1.out.trans (hb2.mono B1.out.size)
    have X2 : Hid (Box w2 w.heap.size [.string ⟨#[]⟩, .string ⟨#[]⟩, .int .i64 0, .slice none 0 0, .int .i64 0]) := X1.out.below hb2
    have O2 : Hid (w2.ownsRow (w.heap.size + 1) 108 5 (.slice ra m rc) m (cellsDf R)) := own_below O1.out hb2
    have Z2 : Hid (w.heap.size + 1 ≤ w2.heap.size) := by have := Z1.out; have := hb2.size; show _ ≤ _; omega
    clear hb2
    go_wp2_with fail
    go_at_call 60
    refine (follows F T C (sm : Int) ra m rc _ HF9.out.1 HF9.out.2).mono ?_
    rw [FB.out]
    rintro e w3 ⟨rfl, hb3⟩
    have B3 : Hid (Below w.heap.size w w3) := B2.out.trans ((Below.new hb3).mono B2.out.size)
    have X3 : Hid (Box w3 w.heap.size [.string ⟨#[]⟩, .string ⟨#[]⟩, .int .i64 0, .slice none 0 0, .int .i64 0]) := X2.out.below (Below.new hb3)
    have Y3 : Hid (Box w3 w2.heap.size [.string F, .string T, .int .i64 C, .slice ra m rc, .int .i64 (sm : Int)]) := Box.below (Box.new rfl) hb3
    have O3 : Hid (w3.ownsRow (w.heap.size + 1) 108 5 (.slice ra m rc) m (cellsDf R)) := own_below O2.out (Below.new hb3)
    clear hb3
    cases fb with
    | false =>
      have FF : Hid (mbA F T C L1 L2 = (bm0, 4)) := by show _ = _; unfold mbA; rw [if_neg NB.out, DE.out, if_neg (by simp), if_neg NE9.out, if_pos FB.out]
      obtain ⟨⟨p0, pf0⟩, ⟨p1, pf1⟩, ⟨p2, pf2⟩, ⟨p3, pf3⟩, ⟨p4, pf4⟩, r0, r1, r2, r3, r4⟩ := (X3.out).w5in (.string ⟨#[]⟩) (.string ⟨#[]⟩) (.int .i64 0) (.slice none 0 0) (.int .i64 0)
      have BE : Hid (Below w.heap.size w (W5 w3 w.heap.size (.string ⟨#[]⟩) (.string ⟨#[]⟩) (.int .i64 0) (.slice none 0 0) (.int .i64 0))) := Below.w5 B3.out (Nat.le_refl _) _ _ _ _ _
      go_wp2_with fail
      exact bodyPost_ret (v := .tuple #[.agg #[.string ⟨#[]⟩, .string ⟨#[]⟩, .int .i64 0, .slice none 0 0, .int .i64 0], .int .i64 4]) (by simp [results, Tryz.results31, go_sem, r0, r1, r2, r3, r4]) rfl ⟨_, _, _, rfl, FF.out, ownK0 _ _ _, BE.out⟩
    | true =>
      have FF : Hid (mbA F T C L1 L2 = (⟨F, T, C, R, (sm : Int)⟩, 0)) := by show _ = _; unfold mbA; rw [if_neg NB.out, DE.out, if_neg (by simp), if_neg NE9.out, if_neg (by rw [FB.out]; decide), SM.out]
      obtain ⟨s0, _⟩ := Y3.out 0 _ rfl
      obtain ⟨s1, _⟩ := Y3.out 1 _ rfl
      obtain ⟨s2, _⟩ := Y3.out 2 _ rfl
      obtain ⟨s3, _⟩ := Y3.out 3 _ rfl
      obtain ⟨s4, _⟩ := Y3.out 4 _ rfl
      obtain ⟨⟨p0, pf0⟩, ⟨p1, pf1⟩, ⟨p2, pf2⟩, ⟨p3, pf3⟩, ⟨p4, pf4⟩, r0, r1, r2, r3, r4⟩ := (X3.out).w5in (.string F) (.string T) (.int .i64 C) (.slice ra m rc) (.int .i64 (sm : Int))
      have BE : Hid (Below w.heap.size w (W5 w3 w.heap.size (.string F) (.string T) (.int .i64 C) (.slice ra m rc) (.int .i64 (sm : Int)))) := Below.w5 B3.out (Nat.le_refl _) _ _ _ _ _
      have OE : Hid (OwnsK (W5 w3 w.heap.size (.string F) (.string T) (.int .i64 C) (.slice ra m rc) (.int .i64 (sm : Int))) w.heap.size (W5 w3 w.heap.size (.string F) (.string T) (.int .i64 C) (.slice ra m rc) (.int .i64 (sm : Int))).heap.size (.agg #[.string F, .string T, .int .i64 C, .slice ra m rc, .int .i64 (sm : Int)]) ⟨F, T, C, R, (sm : Int)⟩) := by
        refine ⟨_, rfl, OwnsR.mk ?_ (Nat.le_refl _)⟩
        show World.ownsRow _ _ _ _ _ R.length _
        rw [HM.out]
        exact own_mono (own_w5 O3.out (by omega) _ _ _ _ _) (by omega)
      go_wp2_with fail
      exact bodyPost_ret (v := .tuple #[.agg #[.string F, .string T, .int .i64 C, .slice ra m rc, .int .i64 (sm : Int)], .int .i64 0]) (by simp [results, Tryz.results31, go_sem, r0, r1, r2, r3, r4]) rfl ⟨_, _, _, rfl, FF.out, OE.out, BE.out⟩
end Go.Proofs.YtmbndpgoihdpnaaGreatDoor
