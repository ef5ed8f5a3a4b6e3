
/-
  The program's NodeOK. By an AI agent.
-/
import Derived.Test.YtnejklppbjkekaaDoorNok
namespace Go.Proofs.YtnejklppbjkekaaDoor
open Go.ChangeShapes Go.WideShapes Go.ChangeAt Go.RowKit Go.Deep
set_option linter.unusedVariables false
set_option maxRecDepth 100000

set_option maxHeartbeats 1000000 in
theorem leafOK (v : Value) (D : NM) (w : World) (hs : smallN D) (h : ReadsN w v D) :
    Calls Tryd.prog 65 #[v] w fun e w' => e = .returned (.bool (leafB D)) ∧ Below w.heap.size w w' := by
  obtain ⟨a1, c1, a2, c2, a3, c3, rfl, s1, s2, s3⟩ := h
  obtain ⟨bb, hbb⟩ : ∃ bb, leafB D = bb := ⟨_, rfl⟩
  rw [hbb]
  obtain ⟨pb, hpb⟩ : ∃ pb, pairsB (fK D.P) (fV D.P) D.P.length = pb := ⟨_, rfl⟩
  have S1 : Hid (Src w a1 (cellsP D.P)) := s1
  obtain ⟨n1, hn1⟩ : ∃ n, D.P.length = n := ⟨_, rfl⟩
  obtain ⟨n2, hn2⟩ : ∃ n, D.L.length = n := ⟨_, rfl⟩
  obtain ⟨n3, hn3⟩ : ∃ n, D.K.length = n := ⟨_, rfl⟩
  obtain ⟨A, hA⟩ : ∃ A, D.A = A := ⟨_, rfl⟩
  have N1 : Hid (D.P.length = n1) := hn1
  have HF : Hid (bb = (decide (A = true ∧ n2 = 0 ∧ n3 = 0 ∧ 1 ≤ n1 ∧ n1 ≤ 3) && pb)) := by
    show bb = _
    rw [← hbb, ← hpb, ← hn1, ← hn2, ← hn3, ← hA]; rfl
  have HS : Hid (n1 ≤ 1048576 ∧ n2 ≤ 1048576 ∧ n3 ≤ 1048576) := by
    have h1 := hs.1
    unfold wtN at h1
    exact ⟨by omega, by omega, by omega⟩
  have HP : Hid (∀ x ∈ D.P, x.1.size ≤ 1048576 ∧ x.2.size ≤ 1048576) := hs.2.1
  have PB : Hid (pairsB (fK D.P) (fV D.P) n1 = pb) := by show _ = pb; rw [← hn1]; exact hpb
  rw [hn1, hn2, hn3, hA]
  clear s1 s2 s3 hn1 hn2 hn3 hA hbb hpb hs
  cases A with
  | false =>
    have F : Hid (bb = false) := by show bb = false; rw [HF.out]; simp
    clear HF
    go_enter Tryd.func65, Tryd.ntmps65
    go_wp2_with fail
    go_ret
    exact ⟨ret_bool F.out.symm, (Below.refl _ _).alloc (Nat.le_refl _) _⟩
  | true =>
    by_cases t2 : (0 : Int) < (n2 : Int)
    · have F : Hid (bb = false) := by show bb = false; rw [HF.out, decide_eq_false (by omega)]; rfl
      clear HF
      go_enter Tryd.func65, Tryd.ntmps65
      go_wp2_with fail
      go_ret
      exact ⟨ret_bool F.out.symm, (Below.refl _ _).alloc (Nat.le_refl _) _⟩
    by_cases t3 : (0 : Int) < (n3 : Int)
    · have F : Hid (bb = false) := by show bb = false; rw [HF.out, decide_eq_false (by omega)]; rfl
      have e2 : n2 = 0 := by omega
      subst e2
      clear HF t2
      go_enter Tryd.func65, Tryd.ntmps65
      go_wp2_with fail
      go_ret
      exact ⟨ret_bool F.out.symm, (Below.refl _ _).alloc (Nat.le_refl _) _⟩
    have e2 : n2 = 0 := by omega
    have e3 : n3 = 0 := by omega
    subst e2 e3
    clear t2 t3
    by_cases t4 : (1 : Int) ≤ (n1 : Int)
    case neg =>
      have F : Hid (bb = false) := by show bb = false; rw [HF.out, decide_eq_false (by omega)]; rfl
      have e1 : n1 = 0 := by omega
      subst e1
      clear HF t4
      go_enter Tryd.func65, Tryd.ntmps65
      go_wp2_with fail
      go_ret
      exact ⟨ret_bool F.out.symm, (Below.refl _ _).alloc (Nat.le_refl _) _⟩
    by_cases t5 : (n1 : Int) ≤ 3
    case neg =>
      have F : Hid (bb = false) := by show bb = false; rw [HF.out, decide_eq_false (by omega)]; rfl
      have t6 : decide ((n1 : Int) ≤ 3) = false := decide_eq_false t5
      clear HF t5
      go_enter Tryd.func65, Tryd.ntmps65
      go_wp2_with fail
      go_ret
      exact ⟨ret_bool F.out.symm, (Below.refl _ _).alloc (Nat.le_refl _) _⟩
    have F : Hid (bb = pb) := by show bb = pb; rw [HF.out, decide_eq_true ⟨rfl, rfl, rfl, by omega, by omega⟩]; simp
    clear HF
    go_enter Tryd.func65, Tryd.ntmps65
    go_wp2_with fail
    refine (implPairsOK a1 n1 c1 (fK D.P) (fV D.P) _ HS.out.1 (fun i hi => HP.out _ (mem_getD D.P p0 i (by rw [N1.out]; exact hi))) (sp_src (S1.out.below ((Below.refl _ _).alloc (Nat.le_refl _) _)) N1.out)).mono ?_
    rw [PB.out]
    rintro e w1 ⟨rfl, hb1⟩
    have B1 : Hid (Below w.heap.size w w1) := Below.new hb1
    clear hb1
    go_wp2_with fail
    go_ret
    exact ⟨ret_bool F.out.symm, B1.out⟩

set_option maxHeartbeats 2000000 in
theorem innerOK (v : Value) (D : NM) (w : World) (hs : smallN D) (h : ReadsN w v D) :
    Calls Tryd.prog 66 #[v] w fun e w' => e = .returned (.bool (innerB D)) ∧ Below w.heap.size w w' := by
  obtain ⟨a1, c1, a2, c2, a3, c3, rfl, s1, s2, s3⟩ := h
  obtain ⟨bb, hbb⟩ : ∃ bb, innerB D = bb := ⟨_, rfl⟩
  rw [hbb]
  obtain ⟨pb, hpb⟩ : ∃ pb, kidsB D.K D.L = pb := ⟨_, rfl⟩
  have S2 : Hid (Src w a2 (cellsS D.L)) := s2
  have S3 : Hid (Src w a3 (cellsI D.K)) := s3
  obtain ⟨n1, hn1⟩ : ∃ n, D.P.length = n := ⟨_, rfl⟩
  obtain ⟨n2, hn2⟩ : ∃ n, D.L.length = n := ⟨_, rfl⟩
  obtain ⟨n3, hn3⟩ : ∃ n, D.K.length = n := ⟨_, rfl⟩
  obtain ⟨A, hA⟩ : ∃ A, D.A = A := ⟨_, rfl⟩
  have N2 : Hid (D.L.length = n2) := hn2
  have N3 : Hid (D.K.length = n3) := hn3
  have HF : Hid (bb = (decide (A = false ∧ n1 = 0 ∧ n2 = n3 ∧ 1 ≤ n3 ∧ n3 ≤ 4) && pb)) := by
    show bb = _
    rw [← hbb, ← hpb, ← hn1, ← hn2, ← hn3, ← hA]; rfl
  have HS : Hid (n1 ≤ 1048576 ∧ n2 ≤ 1048576 ∧ n3 ≤ 1048576) := by
    have h1 := hs.1
    unfold wtN at h1
    exact ⟨by omega, by omega, by omega⟩
  have HL : Hid (∀ x ∈ D.L, x.size ≤ 1048576) := hs.2.2
  have PB : Hid (kidsB D.K D.L = pb) := hpb
  rw [hn1, hn2, hn3, hA]
  clear s1 s2 s3 hn1 hn2 hn3 hA hbb hpb hs
  cases A with
  | true =>
    have F : Hid (bb = false) := by show bb = false; rw [HF.out]; simp
    clear HF
    go_enter Tryd.func66, Tryd.ntmps66
    go_wp2_with fail
    go_ret
    exact ⟨ret_bool F.out.symm, (Below.refl _ _).alloc (Nat.le_refl _) _⟩
  | false =>
    by_cases t1 : (0 : Int) < (n1 : Int)
    · have F : Hid (bb = false) := by show bb = false; rw [HF.out, decide_eq_false (by omega)]; rfl
      clear HF
      go_enter Tryd.func66, Tryd.ntmps66
      go_wp2_with fail
      go_ret
      exact ⟨ret_bool F.out.symm, (Below.refl _ _).alloc (Nat.le_refl _) _⟩
    have e1 : n1 = 0 := by omega
    subst e1
    clear t1
    by_cases t2 : n2 = n3
    case neg =>
      have F : Hid (bb = false) := by show bb = false; rw [HF.out, decide_eq_false (by omega)]; rfl
      have t3 : ((n2 : Int) != (n3 : Int)) = true := by simp; omega
      clear HF t2
      go_enter Tryd.func66, Tryd.ntmps66
      go_wp2_with fail
      go_ret
      exact ⟨ret_bool F.out.symm, (Below.refl _ _).alloc (Nat.le_refl _) _⟩
    subst t2
    have t3 : ((n2 : Int) != (n2 : Int)) = false := by simp
    by_cases t4 : (n2 : Int) < 1
    · have F : Hid (bb = false) := by show bb = false; rw [HF.out, decide_eq_false (by omega)]; rfl
      clear HF
      go_enter Tryd.func66, Tryd.ntmps66
      go_wp2_with fail
      go_ret
      exact ⟨ret_bool F.out.symm, (Below.refl _ _).alloc (Nat.le_refl _) _⟩
    by_cases t5 : (4 : Int) < (n2 : Int)
    · have F : Hid (bb = false) := by show bb = false; rw [HF.out, decide_eq_false (by omega)]; rfl
      clear HF
      go_enter Tryd.func66, Tryd.ntmps66
      go_wp2_with fail
      go_ret
      exact ⟨ret_bool F.out.symm, (Below.refl _ _).alloc (Nat.le_refl _) _⟩
    have FP : Hid (bb = pb) := by show bb = pb; rw [HF.out, decide_eq_true ⟨rfl, rfl, rfl, by omega, by omega⟩]; simp
    clear HF
    go_enter Tryd.func66, Tryd.ntmps66
    go_wp2_with fail
    go_loopw [35] (fun i wr => ∃ k : Nat, k ≤ n2 ∧ i = .int .i64 k ∧ Hid (∀ j, j < k → kidB D.K D.L j = true) ∧ Hid (Below w.heap.size w wr) ∧ Hid (Box wr w.heap.size [.bool false, .slice a1 0 c1, .slice a2 n2 c2, .slice a3 n2 c3])) (fun i _ => n2 - (intOf i).toNat)
    case atStart => exact ⟨0, by omega, rfl, fun j hj => absurd hj (by omega), (Below.refl _ _).alloc (Nat.le_refl _) _, Box.new rfl⟩
    case round =>
      obtain ⟨k, hk, rfl, hg, hb, hx⟩ := hrel
      by_cases hlt : k < n2
      · obtain ⟨b2, o2, y, rfl, q2, hy⟩ := srcS (S2.out.below hb.out) (i := k) (by rw [N2.out]; exact hlt)
        obtain ⟨b3, o3, q, rfl, q3, hq⟩ := srcI (S3.out.below hb.out) (i := k) (by rw [N3.out]; exact hlt)
        have SY : Hid (y.size ≤ maxLen) := by
          have h1 := HL.out _ (mem_getD D.L e0 k (by rw [N2.out]; exact hlt))
          rw [hy.out] at h1
          show y.size ≤ maxLen
          unfold maxLen; omega
        obtain ⟨x2, _⟩ := hx.out 2 _ rfl
        obtain ⟨x3, _⟩ := hx.out 3 _ rfl
        have hki : (k : Int) < (n2 : Int) := by omega
        cases hp : pageB q with
        | false =>
          have F : Hid (bb = false) := by
            show bb = false
            rw [FP.out, ← PB.out]
            exact kids_bad (k := k) (by rw [N3.out]; exact hlt) (by unfold kidB; rw [hq.out, hp]; rfl)
          have HP : Hid (pageB q = false) := hp
          clear hp
          go_wp2_with (go_at_call 123; refine (isPageIs false _ _ HP.out).mono ?_; rintro e w1 ⟨rfl, rfl⟩)
          go_ret
          exact ⟨ret_bool F.out.symm, hb.out⟩
        | true =>
          have HP : Hid (pageB q = true) := hp
          cases hk1 : keyB y with
          | false =>
            have F : Hid (bb = false) := by
              show bb = false
              rw [FP.out, ← PB.out]
              exact kids_bad (k := k) (by rw [N3.out]; exact hlt) (by unfold kidB; rw [hq.out, hp, hy.out, hk1]; rfl)
            have HK : Hid (keyB y = false) := hk1
            clear hp hk1
            go_wp2_with (first | (go_at_call 124; refine (keyFitsIs false _ _ HK.out SY.out).mono ?_; rintro e w1 ⟨rfl, rfl⟩) | (go_at_call 123; refine (isPageIs true _ _ HP.out).mono ?_; rintro e w1 ⟨rfl, rfl⟩))
            go_ret
            exact ⟨ret_bool F.out.symm, hb.out⟩
          | true =>
            have HK : Hid (keyB y = true) := hk1
            by_cases hz : k = 0
            · have hgood : Hid (kidB D.K D.L k = true) := by show kidB D.K D.L k = true; unfold kidB upB; rw [hq.out, hp, hy.out, hk1, decide_eq_true hz]; rfl
              have hkz : decide (0 < k) = false := by simp; omega
              clear hp hk1 hz
              go_wp2_with (first | (go_at_call 124; refine (keyFitsIs true _ _ HK.out SY.out).mono ?_; rintro e w1 ⟨rfl, rfl⟩) | (go_at_call 123; refine (isPageIs true _ _ HP.out).mono ?_; rintro e w1 ⟨rfl, rfl⟩))
              exact ⟨⟨k + 1, by omega, by go_num, fun j hj => by
                by_cases e : j = k
                · rw [e]; exact hgood.out
                · exact hg.out j (by omega), hb.out, hx.out⟩, by simp [intOf]; omega⟩
            · obtain ⟨b4, o4, y4, e4, q4, hy4⟩ := srcS (S2.out.below hb.out) (i := k - 1) (by rw [N2.out]; omega)
              cases e4
              have hkp : 0 < k := by omega
              have hkm : (0 : Int) ≤ (k : Int) - 1 := by omega
              have hkm2 : (k : Int) - 1 < (n2 : Int) := by omega
              by_cases hl : Op.bytesLess y4.toList y.toList = true
              · have hgood : Hid (kidB D.K D.L k = true) := by show kidB D.K D.L k = true; unfold kidB upB; rw [hq.out, hp, hy.out, hk1, hy4.out, hl, decide_eq_false hz]; rfl
                clear hp hk1 hz
                go_wp2_with (first | (go_at_call 124; refine (keyFitsIs true _ _ HK.out SY.out).mono ?_; rintro e w1 ⟨rfl, rfl⟩) | (go_at_call 123; refine (isPageIs true _ _ HP.out).mono ?_; rintro e w1 ⟨rfl, rfl⟩))
                exact ⟨⟨k + 1, by omega, by go_num, fun j hj => by
                  by_cases e : j = k
                  · rw [e]; exact hgood.out
                  · exact hg.out j (by omega), hb.out, hx.out⟩, by simp [intOf]; omega⟩
              · have hl' : Op.bytesLess y4.toList y.toList = false := by simpa using hl
                have F : Hid (bb = false) := by
                  show bb = false
                  rw [FP.out, ← PB.out]
                  exact kids_bad (k := k) (by rw [N3.out]; exact hlt) (by unfold kidB upB; rw [hq.out, hp, hy.out, hk1, hy4.out, hl', decide_eq_false hz]; rfl)
                clear hp hk1 hz hl
                go_wp2_with (first | (go_at_call 124; refine (keyFitsIs true _ _ HK.out SY.out).mono ?_; rintro e w1 ⟨rfl, rfl⟩) | (go_at_call 123; refine (isPageIs true _ _ HP.out).mono ?_; rintro e w1 ⟨rfl, rfl⟩))
                go_ret
                exact ⟨ret_bool F.out.symm, hb.out⟩
      · have hkn : k = n2 := by omega
        have F : Hid (bb = true) := by
          show bb = true
          rw [FP.out, ← PB.out]
          exact kids_good (fun j hj => hg.out j (by rw [hkn]; rw [N3.out] at hj; exact hj))
        clear hkn
        go_wp2_with fail
        go_ret
        exact ⟨ret_bool F.out.symm, hb.out⟩

set_option maxHeartbeats 1000000 in
theorem implNodeOK (v : Value) (D : NM) (w : World) (hs : smallN D) (h : ReadsN w v D) :
    Calls Tryd.prog 16 #[v] w fun e w' => e = .returned (.bool (okB D)) ∧ Below w.heap.size w w' := by
  obtain ⟨bb, hbb⟩ : ∃ bb, okB D = bb := ⟨_, rfl⟩
  rw [hbb]
  obtain ⟨b1, h1⟩ : ∃ b, freeB D = b := ⟨_, rfl⟩
  obtain ⟨b2, h2⟩ : ∃ b, leafB D = b := ⟨_, rfl⟩
  obtain ⟨b3, h3⟩ : ∃ b, innerB D = b := ⟨_, rfl⟩
  have HF : Hid (bb = (b1 || b2 || b3)) := by show bb = _; rw [← hbb, ← h1, ← h2, ← h3]; rfl
  have H1 : Hid (freeB D = b1) := h1
  have H2 : Hid (leafB D = b2) := h2
  have H3 : Hid (innerB D = b3) := h3
  have HS : Hid (smallN D) := hs
  clear hbb h1 h2 h3 hs
  obtain ⟨a1, c1, a2, c2, a3, c3, rfl, s1, s2, s3⟩ := h
  have HR : Hid (ReadsN w (.agg #[.bool D.A, .slice a1 D.P.length c1, .slice a2 D.L.length c2, .slice a3 D.K.length c3]) D) := ⟨a1, c1, a2, c2, a3, c3, rfl, s1, s2, s3⟩
  clear s1 s2 s3
  go_enter Tryd.func16, Tryd.ntmps16
  go_wp2_with fail
  refine (nodeFree _ D _ (HR.out.below ((Below.refl _ _).alloc (Nat.le_refl _) _))).mono ?_
  rw [H1.out]
  rintro e w1 ⟨rfl, hb1⟩
  have B1 : Hid (Below w.heap.size w w1) := Below.new hb1
  have X1 : Hid (Box w1 w.heap.size [.bool D.A, .slice a1 D.P.length c1, .slice a2 D.L.length c2, .slice a3 D.K.length c3]) := Box.below (Box.new rfl) hb1
  clear hb1
  cases b1 with
  | true =>
    have F : Hid (bb = true) := by show bb = true; rw [HF.out]; rfl
    go_wp2_with fail
    go_ret
    exact ⟨ret_bool F.out.symm, B1.out⟩
  | false =>
    obtain ⟨p0, _⟩ := X1.out 0 _ rfl
    obtain ⟨p1, _⟩ := X1.out 1 _ rfl
    obtain ⟨p2, _⟩ := X1.out 2 _ rfl
    obtain ⟨p3, _⟩ := X1.out 3 _ rfl
    go_wp2_with fail
    refine (leafOK _ D _ HS.out (HR.out.below B1.out)).mono ?_
    rw [H2.out]
    rintro e w2 ⟨rfl, hb2⟩
    have B2 : Hid (Below w.heap.size w w2) := B1.out.trans (hb2.mono B1.out.size)
    have X2 : Hid (Box w2 w.heap.size [.bool D.A, .slice a1 D.P.length c1, .slice a2 D.L.length c2, .slice a3 D.K.length c3]) := X1.out.below hb2
    clear hb2 p0 p1 p2 p3 X1 B1
    cases b2 with
    | true =>
      have F : Hid (bb = true) := by show bb = true; rw [HF.out]; rfl
      go_wp2_with fail
      go_ret
      exact ⟨ret_bool F.out.symm, B2.out⟩
    | false =>
      have F : Hid (bb = b3) := by show bb = b3; rw [HF.out]; rfl
      obtain ⟨p0, _⟩ := X2.out 0 _ rfl
      obtain ⟨p1, _⟩ := X2.out 1 _ rfl
      obtain ⟨p2, _⟩ := X2.out 2 _ rfl
      obtain ⟨p3, _⟩ := X2.out 3 _ rfl
      go_wp2_with fail
      refine (innerOK _ D _ HS.out (HR.out.below B2.out)).mono ?_
      rw [H3.out]
      rintro e w3 ⟨rfl, hb3⟩
      have B3 : Hid (Below w.heap.size w w3) := B2.out.trans (hb3.mono B2.out.size)
      clear hb3 p0 p1 p2 p3 X2 B2
      go_wp2_with fail
      go_ret
      exact ⟨ret_bool F.out.symm, B3.out⟩
end Go.Proofs.YtnejklppbjkekaaDoor
