
/-
  The specification's NodeOK. By an AI agent.
-/
import Derived.Test.YtnejklppbjkekaaDoorNoki
namespace Go.Proofs.YtnejklppbjkekaaDoor
open Go.ChangeShapes Go.WideShapes Go.ChangeAt Go.RowKit Go.Deep
set_option linter.unusedVariables false
set_option maxRecDepth 100000

theorem page_in (q : Int) : (decide (0 ≤ q) && decide (q ≤ 49)) = pageB q := by
  rw [Bool.eq_iff_iff]; simp [pageB]; omega
theorem key_in (y : ByteArray) : (decide (1 ≤ (y.size : Int)) && decide ((y.size : Int) ≤ 30)) = keyB y := rfl
theorem ok_leaf {D : NM} (h : D.A = true) : okB D = leafB D := by
  have h1 : freeB D = false := by unfold freeB; rw [h]; simp
  have h2 : innerB D = false := by unfold innerB; rw [h]; simp
  unfold okB
  rw [h1, h2]; simp
theorem ok_inner {D : NM} (h : D.A = false) (hf : freeB D = false) : okB D = innerB D := by
  have h2 : leafB D = false := by unfold leafB; rw [h]; simp
  unfold okB
  rw [hf, h2]; simp

set_option maxHeartbeats 4000000 in
theorem specNodeOK (v : Value) (D : NM) (w : World) (hs : smallN D) (h : ReadsN w v D) :
    Calls Tryd.prog 57 #[v] w fun e w' => e = .returned (.bool (okB D)) ∧ Below w.heap.size w w' := by
  obtain ⟨bb, hbb⟩ : ∃ bb, okB D = bb := ⟨_, rfl⟩
  rw [hbb]
  have HB : Hid (okB D = bb) := hbb
  obtain ⟨b1, h1⟩ : ∃ b, freeB D = b := ⟨_, rfl⟩
  have H1 : Hid (freeB D = b1) := h1
  have HS : Hid (smallN D) := hs
  obtain ⟨a1, c1, a2, c2, a3, c3, rfl, s1, s2, s3⟩ := h
  have HR : Hid (ReadsN w (.agg #[.bool D.A, .slice a1 D.P.length c1, .slice a2 D.L.length c2, .slice a3 D.K.length c3]) D) := ⟨a1, c1, a2, c2, a3, c3, rfl, s1, s2, s3⟩
  have S1 : Hid (Src w a1 (cellsP D.P)) := s1
  have S2 : Hid (Src w a2 (cellsS D.L)) := s2
  have S3 : Hid (Src w a3 (cellsI D.K)) := s3
  obtain ⟨n1, hn1⟩ : ∃ n, D.P.length = n := ⟨_, rfl⟩
  obtain ⟨n2, hn2⟩ : ∃ n, D.L.length = n := ⟨_, rfl⟩
  obtain ⟨n3, hn3⟩ : ∃ n, D.K.length = n := ⟨_, rfl⟩
  obtain ⟨A, hA⟩ : ∃ A, D.A = A := ⟨_, rfl⟩
  have N1 : Hid (D.P.length = n1) := hn1
  have N2 : Hid (D.L.length = n2) := hn2
  have N3 : Hid (D.K.length = n3) := hn3
  have NA : Hid (D.A = A) := hA
  have HN : Hid (n1 ≤ 1048576 ∧ n2 ≤ 1048576 ∧ n3 ≤ 1048576) := by
    have h1 := hs.1
    unfold wtN at h1
    exact ⟨by omega, by omega, by omega⟩
  have HP : Hid (∀ x ∈ D.P, x.1.size ≤ 1048576 ∧ x.2.size ≤ 1048576) := hs.2.1
  have HL : Hid (∀ x ∈ D.L, x.size ≤ 1048576) := hs.2.2
  rw [hn1, hn2, hn3, hA] at HR ⊢
  clear s1 s2 s3 hn1 hn2 hn3 hA hbb h1 hs
  go_enter Tryd.func57, Tryd.ntmps57
  go_wp2_with fail
  refine (l03Free _ D _ (HR.out.below ((Below.refl _ _).alloc (Nat.le_refl _) _))).mono ?_
  rw [H1.out]
  rintro e w1 ⟨rfl, hb1⟩
  have B1 : Hid (Below w.heap.size w w1) := Below.new hb1
  have X1 : Hid (Box w1 w.heap.size [.bool A, .slice a1 n1 c1, .slice a2 n2 c2, .slice a3 n3 c3]) := Box.below (Box.new rfl) hb1
  clear hb1
  cases b1 with
  | true =>
    have F : Hid (bb = true) := by show bb = true; rw [← HB.out]; unfold okB; rw [H1.out]; rfl
    go_wp2_with fail
    go_ret
    exact ⟨ret_bool F.out.symm, B1.out⟩
  | false =>
    obtain ⟨p0, _⟩ := X1.out 0 _ rfl
    obtain ⟨p1, _⟩ := X1.out 1 _ rfl
    obtain ⟨p2, _⟩ := X1.out 2 _ rfl
    obtain ⟨p3, _⟩ := X1.out 3 _ rfl
    cases A with
    | true =>
      obtain ⟨pb, hpb⟩ : ∃ pb, pairsB (fK D.P) (fV D.P) n1 = pb := ⟨_, rfl⟩
      have PB : Hid (pairsB (fK D.P) (fV D.P) n1 = pb) := hpb
      have HF : Hid (bb = (decide (true = true ∧ n2 = 0 ∧ n3 = 0 ∧ 1 ≤ n1 ∧ n1 ≤ 3) && pb)) := by
        show bb = _
        rw [← HB.out, ok_leaf NA.out, ← hpb, ← N1.out, ← N2.out, ← N3.out]
        unfold leafB
        rw [NA.out]
      clear hpb
      by_cases t1 : 1 ≤ n1 ∧ n1 ≤ 3
      · have hin : Hid ((decide (1 ≤ (n1 : Int)) && decide ((n1 : Int) ≤ 3)) = true) := by show _ = true; simp; omega
        go_wp2_with (first | (go_at_call 116; refine (l01InIs true _ _ _ _ hin.out).mono ?_; rintro e w9 ⟨rfl, rfl⟩) | (go_at_call 107; refine (specPairsOK a1 n1 c1 (fK D.P) (fV D.P) _ HN.out.1 (fun i hi => HP.out _ (mem_getD D.P Go.Proofs.YtnejklppbjkekaaDoor.p0 i (by rw [N1.out]; exact hi))) (sp_src (S1.out.below B1.out) N1.out)).mono ?_; rw [PB.out]; rintro e w2 ⟨rfl, hb2⟩; have B2 : Hid (Below w.heap.size w w2) := B1.out.trans (hb2.mono B1.out.size); have X2 : Hid (Box w2 w.heap.size [.bool true, .slice a1 n1 c1, .slice a2 n2 c2, .slice a3 n3 c3]) := X1.out.below hb2; clear hb2 p0 p1 p2 p3; obtain ⟨p0, _⟩ := X2.out 0 _ rfl; obtain ⟨p1, _⟩ := X2.out 1 _ rfl; obtain ⟨p2, _⟩ := X2.out 2 _ rfl; obtain ⟨p3, _⟩ := X2.out 3 _ rfl))
        all_goals
          go_ret
          refine ⟨ret_bool ?_, B2.out⟩
          rw [HF.out]
          rw [Bool.eq_iff_iff]
          simp_all
          try omega
      · have hin : Hid ((decide (1 ≤ (n1 : Int)) && decide ((n1 : Int) ≤ 3)) = false) := by show _ = false; simp; omega
        have F : Hid (bb = false) := by show bb = false; rw [HF.out, decide_eq_false (by rintro ⟨_, _, _, h4⟩; exact t1 h4)]; rfl
        clear HF t1
        go_wp2_with (go_at_call 116; refine (l01InIs false _ _ _ _ hin.out).mono ?_; rintro e w9 ⟨rfl, rfl⟩)
        go_ret
        exact ⟨ret_bool F.out.symm, B1.out⟩
    | false =>
      obtain ⟨pb, hpb⟩ : ∃ pb, kidsB D.K D.L = pb := ⟨_, rfl⟩
      have PB : Hid (kidsB D.K D.L = pb) := hpb
      have HF : Hid (bb = (decide (false = false ∧ n1 = 0 ∧ n2 = n3 ∧ 1 ≤ n3 ∧ n3 ≤ 4) && pb)) := by
        show bb = _
        rw [← HB.out, ok_inner NA.out H1.out, ← hpb, ← N1.out, ← N2.out, ← N3.out]
        unfold innerB
        rw [NA.out]
      clear hpb
      by_cases t1 : n1 = 0
      case neg =>
        have F : Hid (bb = false) := by show bb = false; rw [HF.out, decide_eq_false (by rintro ⟨_, h2, _⟩; exact t1 h2)]; rfl
        have t1' : ((n1 : Int) != 0) = true := by simp; omega
        clear HF t1
        go_wp2_with fail
        go_ret
        exact ⟨ret_bool F.out.symm, B1.out⟩
      subst t1
      by_cases t2 : 1 ≤ n3 ∧ n3 ≤ 4
      case neg =>
        have hin : Hid ((decide (1 ≤ (n3 : Int)) && decide ((n3 : Int) ≤ 4)) = false) := by show _ = false; simp; omega
        have F : Hid (bb = false) := by show bb = false; rw [HF.out, decide_eq_false (by rintro ⟨_, _, _, h4⟩; exact t2 h4)]; rfl
        clear HF t2
        go_wp2_with (go_at_call 116; refine (l01InIs false _ _ _ _ hin.out).mono ?_; rintro e w9 ⟨rfl, rfl⟩)
        go_ret
        exact ⟨ret_bool F.out.symm, B1.out⟩
      have hin : Hid ((decide (1 ≤ (n3 : Int)) && decide ((n3 : Int) ≤ 4)) = true) := by show _ = true; simp; omega
      by_cases t3 : n2 = n3
      case neg =>
        have F : Hid (bb = false) := by show bb = false; rw [HF.out, decide_eq_false (by rintro ⟨_, _, h3, _⟩; exact t3 h3)]; rfl
        have t3' : ((n2 : Int) != (n3 : Int)) = true := by simp; omega
        clear HF t2 t3
        go_wp2_with (go_at_call 116; refine (l01InIs true _ _ _ _ hin.out).mono ?_; rintro e w9 ⟨rfl, rfl⟩)
        go_ret
        exact ⟨ret_bool F.out.symm, B1.out⟩
      subst t3
      have t3' : ((n2 : Int) != (n2 : Int)) = false := by simp
      have FP : Hid (bb = pb) := by show bb = pb; rw [HF.out, decide_eq_true ⟨rfl, rfl, rfl, t2⟩]; simp
      clear HF
      go_wp2_with (go_at_call 116; refine (l01InIs true _ _ _ _ hin.out).mono ?_; rintro e w9 ⟨rfl, rfl⟩)
      go_loopw [3] (fun i wr => ∃ k : Nat, k ≤ n2 ∧ i = .int .i64 k ∧ Hid (∀ j, j < k → kidB D.K D.L j = true) ∧ Hid (Below w.heap.size w wr) ∧ Hid (Box wr w.heap.size [.bool false, .slice a1 0 c1, .slice a2 n2 c2, .slice a3 n2 c3])) (fun i _ => n2 - (intOf i).toNat)
      case atStart => exact ⟨0, by omega, rfl, fun j hj => absurd hj (by omega), B1.out, X1.out⟩
      case round =>
        obtain ⟨k, hk, rfl, hg, hb, hx⟩ := hrel
        clear p0 p1 p2 p3
        obtain ⟨x2, _⟩ := hx.out 2 _ rfl
        obtain ⟨x3, _⟩ := hx.out 3 _ rfl
        by_cases hlt : k < n2
        · obtain ⟨b2, o2, y, rfl, q2, hy⟩ := srcS (S2.out.below hb.out) (i := k) (by rw [N2.out]; exact hlt)
          obtain ⟨b3, o3, q, rfl, q3, hq⟩ := srcI (S3.out.below hb.out) (i := k) (by rw [N3.out]; exact hlt)
          have hysz : y.size ≤ 1048576 := by
            have h1 := HL.out _ (mem_getD D.L e0 k (by rw [N2.out]; exact hlt))
            rw [hy.out] at h1
            exact h1
          have hki : (k : Int) < (n2 : Int) := by omega
          have hk0 : (0 : Int) ≤ (k : Int) := by omega
          cases hp : pageB q with
          | false =>
            have F : Hid (bb = false) := by
              show bb = false
              rw [FP.out, ← PB.out]
              exact kids_bad (k := k) (by rw [N3.out]; exact hlt) (by unfold kidB; rw [hq.out, hp]; rfl)
            have HP2 : Hid ((decide (0 ≤ q) && decide (q ≤ 49)) = false) := by show _ = false; rw [page_in]; exact hp
            clear hp
            go_wp2_with fail
            go_quiet ((go_at_call 116; exact Calls.quiet_of_same (l01InIs false q 0 49 _ HP2.out)))
            go_wp2_with fail
            go_ret
            exact ⟨ret_bool F.out.symm, Below.drewN' hb.out _⟩
          | true =>
            have HP2 : Hid ((decide (0 ≤ q) && decide (q ≤ 49)) = true) := by show _ = true; rw [page_in]; exact hp
            cases hk1 : keyB y with
            | false =>
              have F : Hid (bb = false) := by
                show bb = false
                rw [FP.out, ← PB.out]
                exact kids_bad (k := k) (by rw [N3.out]; exact hlt) (by unfold kidB; rw [hq.out, hp, hy.out, hk1]; rfl)
              have HK : Hid ((decide (1 ≤ (y.size : Int)) && decide ((y.size : Int) ≤ 30)) = false) := by show _ = false; rw [key_in]; exact hk1
              clear hp hk1
              go_wp2_with fail
              go_quiet (first | (go_at_call_of 116 (Value.int IntKind.i64 49); exact Calls.quiet_of_same (l01InIs true q 0 49 _ HP2.out)) | (go_at_call_of 116 (Value.int IntKind.i64 30); exact Calls.quiet_of_same (l01InIs false (y.size : Int) 1 30 _ HK.out)))
              go_wp2_with fail
              go_ret
              exact ⟨ret_bool F.out.symm, Below.drewN' hb.out _⟩
            | true =>
              have HK : Hid ((decide (1 ≤ (y.size : Int)) && decide ((y.size : Int) ≤ 30)) = true) := by show _ = true; rw [key_in]; exact hk1
              by_cases hz : k = 0
              · have hgood : Hid (kidB D.K D.L k = true) := by show kidB D.K D.L k = true; unfold kidB upB; rw [hq.out, hp, hy.out, hk1, decide_eq_true hz]; rfl
                have hkz : decide (0 < k) = false := by simp; omega
                clear hp hk1 hz
                go_wp2_with fail
                go_quiet (first | (go_at_call_of 116 (Value.int IntKind.i64 49); exact Calls.quiet_of_same (l01InIs true q 0 49 _ HP2.out)) | (go_at_call_of 116 (Value.int IntKind.i64 30); exact Calls.quiet_of_same (l01InIs true (y.size : Int) 1 30 _ HK.out)))
                go_wp2_with fail
                exact ⟨⟨k + 1, by omega, by go_num, fun j hj => by
                  by_cases e : j = k
                  · rw [e]; exact hgood.out
                  · exact hg.out j (by omega), Below.drewN' hb.out _, hx.out⟩, by simp [intOf]; omega⟩
              · obtain ⟨b4, o4, y4, e4, q4, hy4⟩ := srcS (S2.out.below hb.out) (i := k - 1) (by rw [N2.out]; omega)
                cases e4
                have hkp : 0 < k := by omega
                have hkp2 : (0 : Int) < (k : Int) := by omega
                have hkm : (0 : Int) ≤ (k : Int) - 1 := by omega
                have hkm2 : (k : Int) - 1 < (n2 : Int) := by omega
                by_cases hl : Op.bytesLess y4.toList y.toList = true
                · have hgood : Hid (kidB D.K D.L k = true) := by show kidB D.K D.L k = true; unfold kidB upB; rw [hq.out, hp, hy.out, hk1, hy4.out, hl, decide_eq_false hz]; rfl
                  clear hp hk1 hz
                  go_wp2_with fail
                  go_quiet (first | (go_at_call_of 116 (Value.int IntKind.i64 49); exact Calls.quiet_of_same (l01InIs true q 0 49 _ HP2.out)) | (go_at_call_of 116 (Value.int IntKind.i64 30); exact Calls.quiet_of_same (l01InIs true (y.size : Int) 1 30 _ HK.out)))
                  go_wp2_with fail
                  exact ⟨⟨k + 1, by omega, by go_num, fun j hj => by
                    by_cases e : j = k
                    · rw [e]; exact hgood.out
                    · exact hg.out j (by omega), Below.drewN' hb.out _, hx.out⟩, by simp [intOf]; omega⟩
                · have hl' : Op.bytesLess y4.toList y.toList = false := by simpa using hl
                  have F : Hid (bb = false) := by
                    show bb = false
                    rw [FP.out, ← PB.out]
                    exact kids_bad (k := k) (by rw [N3.out]; exact hlt) (by unfold kidB upB; rw [hq.out, hp, hy.out, hk1, hy4.out, hl', decide_eq_false hz]; rfl)
                  clear hp hk1 hz hl
                  go_wp2_with fail
                  go_quiet (first | (go_at_call_of 116 (Value.int IntKind.i64 49); exact Calls.quiet_of_same (l01InIs true q 0 49 _ HP2.out)) | (go_at_call_of 116 (Value.int IntKind.i64 30); exact Calls.quiet_of_same (l01InIs true (y.size : Int) 1 30 _ HK.out)))
                  go_wp2_with fail
                  go_ret
                  exact ⟨ret_bool F.out.symm, Below.drewN' hb.out _⟩
        · have hkn : k = n2 := by omega
          have F : Hid (bb = true) := by
            show bb = true
            rw [FP.out, ← PB.out]
            exact kids_good (fun j hj => hg.out j (by rw [hkn]; rw [N3.out] at hj; exact hj))
          clear hkn
          go_wp2_with fail
          go_ret
          exact ⟨ret_bool F.out.symm, hb.out⟩
end Go.Proofs.YtnejklppbjkekaaDoor
