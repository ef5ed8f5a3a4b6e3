
/-
  Marks of rows of backups that came in. By an AI agent.
-/
import Derived.Test.YtmbndpgoihdpnaaDoorBkr
namespace Go.Proofs.YtmbndpgoihdpnaaDoor
open Go.ChangeShapes Go.WideShapes Go.ChangeAt Go.RowKit Go.Deep
set_option linter.unusedVariables false
set_option maxRecDepth 100000

set_option maxHeartbeats 4000000 in
theorem markBackupS (v : Value) (H : List BM) (lo hi k n : Nat) (w : World) (hw : wtB H ≤ 1048576) (hk0 : 0 < k) (hk1 : k ≤ 1048576) (hh : hi ≤ w.heap.size) (h : OwnsBL w lo hi v n H) :
    Calls Tryd.prog 12 #[v, .int .i64 (k : Int)] w fun e w' => ∃ E : Nat, e = .returned (.int .i64 (E : Int)) ∧ Turned lo hi w w' := by
  have hHn : H.length = n := h.lit.choose_spec.choose_spec.2
  obtain ⟨V, h1, h2, h3⟩ := h
  rcases h1.2 with ⟨rfl, h0⟩ | ⟨B, cap, cur, rfl, _⟩
  · subst h0
    clear h1 h2 h3 hHn hw
    go_enter Tryd.func12, Tryd.ntmps12
    go_wp2_with fail
    go_loop [1, 5] (fun kk i => i = .int .i64 0 ∧ kk = .int .i64 (k : Int)) (fun _ _ => 0)
    case atStart => exact ⟨rfl, rfl⟩
    case round =>
      obtain ⟨rfl, rfl⟩ := hrel
      go_wp2_with fail
      go_ret
      first | exact ⟨⟨k, rfl⟩, Turned.of_below (Below.refl _ _)⟩ | exact ⟨k, rfl, Turned.of_below (Below.refl _ _)⟩
  have HB : Hid (lo ≤ B ∧ B < hi) := ⟨(h1.lt B rfl).1, h2 B rfl⟩
  have R0 : Hid (w.ownsRow lo 37 5 (.slice (some ⟨B, 0, none⟩) n cap) n (cellsBk V)) := h1
  have V0 : Hid (OwnsBs w lo hi V H) := h3
  have HH : Hid (hi ≤ w.heap.size) := hh
  have HW : Hid (k + 5 * wtB H ≤ 6291456 ∧ wtB H ≤ 1048576) := by show _ ∧ _; omega
  have HN : Hid (H.length + 0 = n) := hHn
  have HNB : n ≤ 9000000 := by
    have h9 : H.length ≤ wtB H := by
      clear h3 hHn hw HW HN V0
      induction H with
      | nil => simp
      | cons D H ih => have : wtB (D :: H) = wtB [D] + wtB H := wtB_append [D] H
                       have h8 : wtB [D] = 1 + D.D.length := by simp [wtB]
                       rw [List.length_cons]; omega
    omega
  clear h1 h2 h3 hHn hw hh
  go_enter Tryd.func12, Tryd.ntmps12
  go_wp2_with fail
  go_loopw [1, 5] (fun kk i wr => ∃ (j x m : Nat) (zs : List Value) (V2 : List BkV) (H2 : List BM), j ≤ n ∧ i = .int .i64 (j : Int) ∧ kk = .int .i64 (x : Int) ∧ 0 < x ∧ x ≤ 6291456 ∧ Hid (x + 5 * wtB H2 ≤ 6291456 ∧ wtB H2 ≤ 1048576) ∧ Hid (H2.length + j = n) ∧ Hid (zs.length = j * 5) ∧ Hid (lo ≤ m) ∧ Hid (OwnsBs wr m hi V2 H2) ∧ Hid (wr.ownsRow lo 37 5 (.slice (some ⟨B, 0, none⟩) n cap) n (zs ++ cellsBk V2)) ∧ Hid (Turned lo hi w wr)) (fun _ i _ => n - (RowKit.intOf i).toNat)
  case atStart => exact ⟨0, k, lo, [], V, H, by omega, rfl, rfl, hk0, by omega, HW.out, HN.out, rfl, Nat.le_refl _, V0.out, R0.out, Turned.of_below (Below.refl _ _)⟩
  case round =>
    obtain ⟨j, x, m, zs, V2, H2, hj, rfl, rfl, hx0, hx1, hx, hl, hz, hlm, O2, R, T⟩ := hrel
    by_cases hlt : j < n
    · have hjn : (j : Int) < (n : Int) := by omega
      have hl2 := hl.out
      obtain ⟨D, H2, rfl⟩ : ∃ D H', H2 = D :: H' := by cases H2 with | nil => simp at hl2; omega | cons D H' => exact ⟨D, H', rfl⟩
      obtain ⟨u, V2, rfl⟩ : ∃ u V', V2 = u :: V' := by have := O2.out.len; cases V2 with | nil => simp at this | cons D H' => exact ⟨D, H', rfl⟩
      obtain ⟨m', hm, ⟨v1, ev, r1, k1⟩, O3⟩ := O2.out
      obtain ⟨uF, uT, uC, u1, uS⟩ := u
      simp only [BkV.val, Value.agg.injEq, Array.mk.injEq, List.cons.injEq, Value.string.injEq, Value.int.injEq, and_true, true_and] at ev
      obtain ⟨rfl, rfl, rfl, rfl, rfl⟩ := ev
      obtain ⟨a1, c1, rfl, _, _⟩ := own_src r1
      have hm' : Hid (m ≤ m' ∧ m' ≤ hi) := ⟨hm, O3.le⟩
      obtain ⟨n1, e1⟩ : ∃ n, D.D.length = n := ⟨_, rfl⟩
      have hbd : Hid (x + 5 + n1 * 5 + 5 * wtB H2 ≤ 6291456 ∧ n1 ≤ 1048576 ∧ wtB H2 ≤ 1048576) := by
        have h8 := hx.out
        have h7 : wtB (D :: H2) = wtB [D] + wtB H2 := wtB_append [D] H2
        have h6 : wtB [D] = 1 + n1 := by simp [wtB, e1]
        show _ ∧ _ ∧ _
        have h5 := h8.1
        have h4 := h8.2
        omega
      have hxb : x + 5 ≤ 6291456 := by have := hbd.out.1; omega
      have HL2 : Hid (H2.length + (j + 1) = n) := by show _ = _; rw [List.length_cons] at hl2; omega
      obtain ⟨x1, hx1'⟩ : ∃ q, cellsDf D.D = q := ⟨_, rfl⟩
      rw [hx1', e1] at r1
      rw [e1] at k1
      have R1 : Hid (wr.ownsRow m 78 5 (.slice a1 n1 c1) n1 x1) := r1
      have rr := R.out
      obtain ⟨F, hF⟩ : ∃ A, D.F = A := ⟨_, rfl⟩
      obtain ⟨T', hT⟩ : ∃ A, D.T = A := ⟨_, rfl⟩
      obtain ⟨C, hC⟩ : ∃ A, D.C = A := ⟨_, rfl⟩
      obtain ⟨S, hS⟩ : ∃ A, D.S = A := ⟨_, rfl⟩
      rw [e1, hF, hT, hC, hS] at rr
      have RR : Hid (wr.ownsRow lo 37 5 (.slice (some ⟨B, 0, none⟩) n cap) n (zs ++ .string F :: .string T' :: .int .i64 C :: .slice a1 n1 c1 :: .int .i64 S :: cellsBk V2)) := rr
      have NB : Hid ((Value.slice a1 n1 c1).ownBlock ≠ some B) := own_ne RR.out r1 (by decide) B rfl
      have KK : Hid (∀ g, (Value.slice a1 n1 c1).ownBlock = some g → m ≤ g ∧ g < m') := fun g e => ⟨(r1.lt g e).1, k1 g e⟩
      have O3' : Hid (OwnsBs wr m' hi V2 H2) := O3
      have CL : Hid (zs.length = j * 5) := hz.out
      clear r1 k1 rr hl2 hm O3 hx1' hF hT hC hS R O2 hx hl hz e1
      go_wp2_with fail
      refine (markText x _ hx0 (by omega)).mono ?_
      rintro e w1 ⟨rfl, hb1⟩
      have S1 : Hid (w1.ownsRow lo 37 5 (.slice (some ⟨B, 0, none⟩) n cap) n (zs ++ .string F :: .string T' :: .int .i64 C :: .slice a1 n1 c1 :: .int .i64 S :: cellsBk V2)) := own_below RR.out hb1
      have Q1 : Hid (w1.ownsRow m 78 5 (.slice a1 n1 c1) n1 x1) := own_below R1.out hb1
      have P1 : Hid (OwnsBs w1 m' hi V2 H2) := O3'.out.below hb1
      have T1 : Hid (Turned lo hi w w1) := T.out.trans (Turned.of_below hb1)
      clear hb1 RR R1 O3' T
      obtain ⟨o0, q0⟩ := bown_at S1.out (bmid0 _ _ _ _ _ _ _ _ CL.out)
      have hset : Hid (∀ (X0 : Value) (c0 c1' c2 c3 c4 : Value) (Y : List Value), (zs ++ c0 :: c1' :: c2 :: c3 :: c4 :: Y).set (j * 5) X0 = zs ++ X0 :: c1' :: c2 :: c3 :: c4 :: Y ∧ (zs ++ c0 :: c1' :: c2 :: c3 :: c4 :: Y).set (j * 5 + 1) X0 = zs ++ c0 :: X0 :: c2 :: c3 :: c4 :: Y ∧ (zs ++ c0 :: c1' :: c2 :: c3 :: c4 :: Y).set (j * 5 + 2) X0 = zs ++ c0 :: c1' :: X0 :: c3 :: c4 :: Y ∧ (zs ++ c0 :: c1' :: c2 :: c3 :: c4 :: Y).set (j * 5 + 4) X0 = zs ++ c0 :: c1' :: c2 :: c3 :: X0 :: Y ∧ j * 5 + 4 < (zs ++ c0 :: c1' :: c2 :: c3 :: c4 :: Y).length) := by
        intro X0 c0 c1' c2 c3 c4 Y
        rw [← CL.out]
        refine ⟨by simp, by simp, by simp, by simp, by simp⟩
      have s1 := own_set S1.out (j * 5) (by have := (hset.out (.string (markT x)) (.string F) (.string T') (.int .i64 C) (.slice a1 n1 c1) (.int .i64 S) (cellsBk V2)).2.2.2.2; omega) (.string (markT x))
      rw [(hset.out _ _ _ _ _ _ _).1] at s1
      have S1' : Hid ((w1.setCell ⟨B, j * 5, none⟩ (.string (markT x))).ownsRow lo 37 5 (.slice (some ⟨B, 0, none⟩) n cap) n (zs ++ .string (markT x) :: .string T' :: .int .i64 C :: .slice a1 n1 c1 :: .int .i64 S :: cellsBk V2)) := s1
      have Q1' : Hid ((w1.setCell ⟨B, j * 5, none⟩ (.string (markT x))).ownsRow m 78 5 (.slice a1 n1 c1) n1 x1) := own_setOther Q1.out NB.out _
      have P1' : Hid (OwnsBs (w1.setCell ⟨B, j * 5, none⟩ (.string (markT x))) m' hi V2 H2) := P1.out.setKind (Lib.ownsRow_kind S1.out B rfl) _
      have T1' : Hid (Turned lo hi w (w1.setCell ⟨B, j * 5, none⟩ (.string (markT x)))) := T1.out.trans (Turned.of_grown (gb_set (gb_refl _ _) _ _) (fun q e => by cases e; exact HB.out))
      clear s1 S1 Q1 P1 T1
      go_wp2_with fail
      first | rw [show ((x : Int) + 1) = ((x + 1 : Nat) : Int) from by omega]
      refine (markText (x + 1) _ (by omega) (by omega)).mono ?_
      rintro e w2 ⟨rfl, hb2⟩
      have S2 : Hid (w2.ownsRow lo 37 5 (.slice (some ⟨B, 0, none⟩) n cap) n (zs ++ .string (markT x) :: .string T' :: .int .i64 C :: .slice a1 n1 c1 :: .int .i64 S :: cellsBk V2)) := own_below S1'.out hb2
      have Q2 : Hid (w2.ownsRow m 78 5 (.slice a1 n1 c1) n1 x1) := own_below Q1'.out hb2
      have P2 : Hid (OwnsBs w2 m' hi V2 H2) := P1'.out.below hb2
      have T2 : Hid (Turned lo hi w w2) := T1'.out.trans (Turned.of_below hb2)
      clear hb2 S1' Q1' P1' T1' o0 q0
      obtain ⟨o1, q1⟩ := bown_at S2.out (bmid1 _ _ _ _ _ _ _ _ CL.out)
      obtain ⟨o2, q2⟩ := bown_at S2.out (bmid2 _ _ _ _ _ _ _ _ CL.out)
      obtain ⟨o3, q3⟩ := bown_at S2.out (bmid3 _ _ _ _ _ _ _ _ CL.out)
      have o2' := boff_other (x := .string (markT (x + 1))) o2 (j := j * 5 + 1) (by omega)
      have o3' := boff_other (x := .int .i64 ((x : Int) + 2)) (boff_other (x := .string (markT (x + 1))) o3 (j := j * 5 + 1) (by omega)) (j := j * 5 + 2) (by omega)
      have o3'' := boff_other (x := .int .i64 ((x : Int) + 1 + 1)) (boff_other (x := .string (markT (x + 1))) o3 (j := j * 5 + 1) (by omega)) (j := j * 5 + 2) (by omega)
      obtain ⟨E2, hE2⟩ : ∃ E, ((w2.setCell ⟨B, j * 5 + 1, none⟩ (.string (markT (x + 1)))).setCell ⟨B, j * 5 + 2, none⟩ (.int .i64 ((x : Int) + 2))) = E := ⟨_, rfl⟩
      have HE2 : Hid (((w2.setCell ⟨B, j * 5 + 1, none⟩ (.string (markT (x + 1)))).setCell ⟨B, j * 5 + 2, none⟩ (.int .i64 ((x : Int) + 2))) = E2) := hE2
      have s2 := own_set S2.out (j * 5 + 1) (by have := (hset.out (.string (markT x)) (.string (markT x)) (.string T') (.int .i64 C) (.slice a1 n1 c1) (.int .i64 S) (cellsBk V2)).2.2.2.2; omega) (.string (markT (x + 1)))
      rw [(hset.out _ _ _ _ _ _ _).2.1] at s2
      have s3 := own_set s2 (j * 5 + 2) (by have := (hset.out (.string (markT x)) (.string (markT x)) (.string (markT (x + 1))) (.int .i64 C) (.slice a1 n1 c1) (.int .i64 S) (cellsBk V2)).2.2.2.2; omega) (.int .i64 ((x : Int) + 2))
      rw [(hset.out _ _ _ _ _ _ _).2.2.1] at s3
      have S3 : Hid (E2.ownsRow lo 37 5 (.slice (some ⟨B, 0, none⟩) n cap) n (zs ++ .string (markT x) :: .string (markT (x + 1)) :: .int .i64 ((x : Int) + 2) :: .slice a1 n1 c1 :: .int .i64 S :: cellsBk V2)) := by rw [← hE2]; exact s3
      have Q3 : Hid (E2.ownsRow m 78 5 (.slice a1 n1 c1) n1 x1) := by rw [← hE2]; exact own_setOther (own_setOther Q2.out NB.out _) NB.out _
      have P3 : Hid (OwnsBs E2 m' hi V2 H2) := by rw [← hE2]; exact (P2.out.setKind (Lib.ownsRow_kind S2.out B rfl) _).setKind (Lib.ownsRow_kind s2 B rfl) _
      have T3 : Hid (Turned lo hi w E2) := by rw [← hE2]; exact (T2.out.trans (Turned.of_grown (gb_set (gb_refl _ _) _ _) (fun q e => by cases e; exact HB.out))).trans (Turned.of_grown (gb_set (gb_refl _ _) _ _) (fun q e => by cases e; exact HB.out))
      clear s2 s3 S2 Q2 P2 T2 o2 o3 hE2
      go_wp2_with fail
      first | rw [show ((x : Int) + 1 + 1) = ((x : Int) + 2) from by omega] | skip
      rw [HE2.out]
      first | rw [show ((x : Int) + 3) = ((x + 3 : Nat) : Int) from by omega] | rw [show ((x : Int) + 2 + 1) = ((x + 3 : Nat) : Int) from by omega] | rw [show ((x : Int) + 1 + 2) = ((x + 3 : Nat) : Int) from by omega] | rw [show ((x : Int) + 1 + 1 + 1) = ((x + 3 : Nat) : Int) from by omega]
      refine (markDiffS _ n1 (x + 3) m x1 _ hbd.out.2.1 (by omega) (by have := hbd.out.1; omega) Q3.out).mono ?_
      rintro e w3 ⟨rfl, g1, _⟩
      have S4 : Hid (w3.ownsRow lo 37 5 (.slice (some ⟨B, 0, none⟩) n cap) n (zs ++ .string (markT x) :: .string (markT (x + 1)) :: .int .i64 ((x : Int) + 2) :: .slice a1 n1 c1 :: .int .i64 S :: cellsBk V2)) := own_grown S3.out g1 (fun g e e2 => by cases e; exact NB.out e2)
      have T34 : Hid (Turned m m' E2 w3) := Turned.of_grown g1 KK.out
      have P4 : Hid (OwnsBs w3 m' hi V2 H2) := P3.out.turned T34.out (.inr (Nat.le_refl _))
      have T4 : Hid (Turned lo hi w w3) := T3.out.trans ⟨T34.out.os, T34.out.tape, T34.out.output, T34.out.size, fun q hq hr => T34.out.block q hq (by have := hlm.out; have := hm'.out; omega)⟩
      clear g1 S3 Q3 P3 T3 T34 HE2 o1 q1 q2 q3 o2' o3' o3''
      obtain ⟨o4, q4⟩ := bown_at S4.out (bmid4 _ _ _ _ _ _ _ _ CL.out)
      have hkk : ((x + 3 + n1 * 5 : Nat) : Int) + 1 = ((x + 4 + n1 * 5 : Nat) : Int) := by omega
      obtain ⟨X4, hX4⟩ : ∃ X : Int, ((x + 3 + n1 * 5 : Nat) : Int) = X := ⟨_, rfl⟩
      have HX4 : Hid (((x + 3 + n1 * 5 : Nat) : Int) = X4) := hX4
      have hXb : 0 ≤ X4 ∧ X4 ≤ 6291456 := by have := hbd.out.1; omega
      rw [hX4]
      clear hX4 hkk
      have s4 := own_set S4.out (j * 5 + 4) (hset.out (.string (markT x)) (.string (markT x)) (.string (markT (x + 1))) (.int .i64 ((x : Int) + 2)) (.slice a1 n1 c1) (.int .i64 S) (cellsBk V2)).2.2.2.2 (.int .i64 X4)
      rw [(hset.out _ _ _ _ _ _ _).2.2.2.1] at s4
      have S5 : Hid ((w3.setCell ⟨B, j * 5 + 4, none⟩ (.int .i64 X4)).ownsRow lo 37 5 (.slice (some ⟨B, 0, none⟩) n cap) n ((zs ++ [.string (markT x), .string (markT (x + 1)), .int .i64 ((x : Int) + 2), .slice a1 n1 c1, .int .i64 X4]) ++ cellsBk V2)) := own_congr s4 (by simp)
      have P5 : Hid (OwnsBs (w3.setCell ⟨B, j * 5 + 4, none⟩ (.int .i64 X4)) m' hi V2 H2) := P4.out.setKind (Lib.ownsRow_kind S4.out B rfl) _
      have T5 : Hid (Turned lo hi w (w3.setCell ⟨B, j * 5 + 4, none⟩ (.int .i64 X4))) := T4.out.trans (Turned.of_grown (gb_set (gb_refl _ _) _ _) (fun q e => by cases e; exact HB.out))
      clear s4 S4 P4 T4
      go_wp2_with fail
      exact ⟨⟨j + 1, x + 4 + n1 * 5, m', _, V2, H2, by omega, by go_num, by have := HX4.out; first | (congr 1; omega) | go_num, by omega, by have := hbd.out.1; omega, by show _ ∧ _; have := hbd.out.1; have := hbd.out.2.2; omega, HL2.out, by show _ = _; rw [List.length_append, CL.out]; simp; omega, by show _ ≤ _; have := hlm.out; have := hm'.out; omega, P5.out, S5.out, T5.out⟩, by simp [RowKit.intOf]; omega⟩
    · have F : Hid (Turned lo hi w wr) := T.out
      clear hl hx O2 R T V0 R0
      go_wp2_with fail
      go_ret
      first | exact ⟨⟨x, rfl⟩, F.out⟩ | exact ⟨x, rfl, F.out⟩
end Go.Proofs.YtmbndpgoihdpnaaDoor
