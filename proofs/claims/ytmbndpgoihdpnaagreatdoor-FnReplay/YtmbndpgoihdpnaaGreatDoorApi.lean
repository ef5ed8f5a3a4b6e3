
/-
  ApplyDiff of the program. By an AI agent.
-/
import Derived.Test.YtmbndpgoihdpnaaGreatDoorDapl
import Derived.Deep.RegionHeld3
namespace Go.Proofs.YtmbndpgoihdpnaaGreatDoor
open Go.ChangeShapes Go.WideShapes Go.ChangeAt Go.RowKit Go.Deep
set_option linter.unusedVariables false
set_option maxRecDepth 100000

theorem drop_df {ds : List DF} {k : Nat} {x : DF} (hk : k < ds.length) (h : ds.getD k df0 = x) : ds.drop k = x :: ds.drop (k + 1) := by
  rw [List.drop_eq_getElem_cons hk]
  congr 1
  rw [← h, List.getD_eq_getElem?_getD, List.getElem?_eq_getElem hk]
  rfl
/-- ApplyDiff behind its first questions. -/
def applyB (L : List PM) (ds : List DF) : List PM × Int :=
  if (runM L ds).2 ≠ 0 then (L, (runM L ds).2) else if 60 < (runM L ds).1.length then (L, 7) else ((runM L ds).1, 0)
theorem applyB_bad {L : List PM} {ds : List DF} {R : List PM} {q : Int} (h : runM L ds = (R, q)) (hq : q ≠ 0) : applyB L ds = (L, q) := by unfold applyB; rw [h, if_pos hq]
theorem applyB_full {L : List PM} {ds : List DF} {R : List PM} (h : runM L ds = (R, 0)) (hq : 60 < R.length) : applyB L ds = (L, 7) := by unfold applyB; rw [h, if_neg (by simp), if_pos hq]
theorem applyB_good {L : List PM} {ds : List DF} {R : List PM} (h : runM L ds = (R, 0)) (hq : ¬ 60 < R.length) : applyB L ds = (R, 0) := by unfold applyB; rw [h, if_neg (by simp), if_neg hq]
theorem okP_good {L : List PM} (h : okP L = true) : GoodL L ∧ L.length ≤ 60 := ⟨⟨(okP_up h).2.2, (okP_up h).1⟩, (okP_up h).2.1⟩

set_option maxHeartbeats 4000000 in
theorem implApplyDiff (a1 a2 : Option Addr) (n1 n2 c1 c2 : Nat) (L : List PM) (ds : List DF) (w : World) (hL1 : L.length = n1) (hL2 : ds.length = n2) (hn1 : n1 ≤ 1048576) (hn2 : n2 ≤ 1048576) (hs1 : ∀ x ∈ L, x.1.size ≤ 1048576 ∧ x.2.size ≤ 1048576) (hs2 : ∀ x ∈ ds, x.1.size ≤ 1048576 ∧ x.2.1.size ≤ 1048576 ∧ x.2.2.1.size ≤ 1048576) (h1 : Src w a1 (cellsP L)) (h2 : Src w a2 (cellsDf ds)) :
    Calls Tryz.prog 76 #[.slice a1 n1 c1, .slice a2 n2 c2] w fun e w' => ∃ u R q, e = .returned (.tuple #[u, .int .i64 q]) ∧ applyA L ds = (R, q) ∧ w'.ownsRow w.heap.size 70 2 u R.length (cellsP R) ∧ Below w.heap.size w w' := by
  have HL : Hid (L.length = n1 ∧ ds.length = n2) := ⟨hL1, hL2⟩
  have S1 : Hid (Src w a1 (cellsP L)) := h1
  have S2 : Hid (Src w a2 (cellsDf ds)) := h2
  have P1 : Hid (Sp w a1 n1 (fstL L) (sndL L)) := sp_of h1 hL1
  have Q1 : Hid (∀ i, i < n1 → (fstL L i).size ≤ 1048576 ∧ (sndL L i).size ≤ 1048576) := by rw [← hL1]; exact sizes_of hs1
  have Q2 : Hid (∀ x ∈ ds, x.1.size ≤ 1048576 ∧ x.2.1.size ≤ 1048576 ∧ x.2.2.1.size ≤ 1048576) := hs2
  clear hL1 hL2 h1 h2 hs1 hs2
  by_cases t1 : 4096 < n1
  · have F : Hid (applyA L ds = ([], 2)) := by show _ = _; unfold applyA; rw [if_pos (.inl (by rw [HL.out.1]; exact t1))]
    go_enter Tryz.func76, Tryz.ntmps76
    go_wp2_with fail
    go_ret2
    exact ⟨_, _, _, rfl, F.out, World.ownsRow_nil _ _ _ _, Below.refl _ _⟩
  by_cases t2 : 4096 < n2
  · have F : Hid (applyA L ds = ([], 2)) := by show _ = _; unfold applyA; rw [if_pos (.inr (by rw [HL.out.2]; exact t2))]
    go_enter Tryz.func76, Tryz.ntmps76
    go_wp2_with fail
    go_ret2
    exact ⟨_, _, _, rfl, F.out, World.ownsRow_nil _ _ _ _, Below.refl _ _⟩
  have N2 : Hid (¬ (4096 < L.length ∨ 4096 < ds.length)) := by show ¬ _; rw [HL.out.1, HL.out.2]; omega
  obtain ⟨k1, hk1⟩ : ∃ b, okP L = b := ⟨_, rfl⟩
  have KP : Hid (okP L = k1 ∧ pairsB (fstL L) (sndL L) n1 = k1) := ⟨hk1, by rw [← HL.out.1]; exact hk1⟩
  clear hk1
  cases k1 with
  | false =>
    have F : Hid (applyA L ds = ([], 1)) := by show _ = _; unfold applyA; rw [if_neg N2.out, if_pos KP.out.1]
    go_enter Tryz.func76, Tryz.ntmps76
    go_wp2_with fail
    refine (implPairsOK a1 n1 c1 _ _ _ hn1 Q1.out P1.out).mono ?_
    rw [KP.out.2]
    rintro e w1 ⟨rfl, hb1⟩
    have B1 : Hid (Below w.heap.size w w1) := hb1
    clear hb1
    go_wp2_with fail
    go_ret2
    exact ⟨_, _, _, rfl, F.out, World.ownsRow_nil _ _ _ _, B1.out⟩
  | true =>
  have NK : Hid (¬ okP L = false) := by show ¬ _; rw [KP.out.1]; decide
  by_cases t3 : 120 < n2
  · have F : Hid (applyA L ds = ([], 6)) := by show _ = _; unfold applyA; rw [if_neg N2.out, if_neg NK.out, if_pos (by rw [HL.out.2]; exact t3)]
    go_enter Tryz.func76, Tryz.ntmps76
    go_wp2_with fail
    refine (implPairsOK a1 n1 c1 _ _ _ hn1 Q1.out P1.out).mono ?_
    rw [KP.out.2]
    rintro e w1 ⟨rfl, hb1⟩
    have B1 : Hid (Below w.heap.size w w1) := hb1
    clear hb1
    go_wp2_with fail
    go_ret2
    exact ⟨_, _, _, rfl, F.out, World.ownsRow_nil _ _ _ _, B1.out⟩
  have F : Hid (applyA L ds = applyB L ds) := by show _ = _; unfold applyA; rw [if_neg N2.out, if_neg NK.out, if_neg (by rw [HL.out.2]; exact t3)]; rfl
  have GL : Hid (GoodL L ∧ L.length ≤ 60) := okP_good KP.out.1
  have hn60 : n1 ≤ 60 := by rw [← HL.out.1]; exact GL.out.2
  have CPY : Hid (∀ w9, Below w.heap.size w w9 → Calls Tryz.prog 45 #[.slice a1 n1 c1] w9 fun e w' => ∃ v, e = .returned v ∧ OwnsP w' w.heap.size v L ∧ Below w.heap.size w w') := fun w9 hb9 =>
    (copyPairsS a1 n1 c1 L w9 HL.out.1 hn1 (S1.out.below hb9)).mono fun e w' ⟨v, e1, o1, b1⟩ => ⟨v, e1, o1.weaken hb9.size, hb9.trans (b1.mono hb9.size)⟩
  go_enter Tryz.func76, Tryz.ntmps76
  go_wp2_with fail
  refine (implPairsOK a1 n1 c1 _ _ _ hn1 Q1.out P1.out).mono ?_
  rw [KP.out.2]
  rintro e w1 ⟨rfl, hb1⟩
  have B1 : Hid (Below w.heap.size w w1) := hb1
  clear hb1
  go_wp2_with fail
  refine (CPY.out _ B1.out).mono ?_
  rintro e w2 ⟨v2, rfl, o2, hb2⟩
  have B2 : Hid (Below w.heap.size w w2) := hb2
  have O2 : Hid (OwnsP w2 w.heap.size v2 L) := o2
  clear hb2 o2
  go_wp2_with fail
  go_loopw [6, 27] (fun lv iv wr => ∃ (k : Nat) (u : Value) (M : List PM), k ≤ n2 ∧ iv = .int .i64 (k : Int) ∧ u = lv ∧ Hid (GoodL M ∧ M.length ≤ 60 + k ∧ runM L ds = runM M (ds.drop k)) ∧ Hid (Below w.heap.size w wr) ∧ Hid (OwnsP wr w.heap.size u M)) (fun _ i _ => n2 - (intOf i).toNat)
  case atStart => exact ⟨0, _, L, by omega, rfl, rfl, ⟨GL.out.1, by have := GL.out.2; omega, by simp⟩, B2.out, O2.out⟩
  case round =>
    clear O2
    obtain ⟨k, u, M, hk, rfl, hu, hM, hb, ho⟩ := hrel
    subst hu
    obtain ⟨ua, uc, rfl, us, _⟩ := own_src (show wr.ownsRow w.heap.size 70 2 u M.length (cellsP M) from ho.out)
    obtain ⟨m, hm⟩ : ∃ m, M.length = m := ⟨_, rfl⟩
    have HM : Hid (M.length = m) := hm
    have CP : Hid (m ≤ uc) := by rw [← hm]; exact (own_capx (show wr.ownsRow w.heap.size 70 2 (.slice ua M.length uc) M.length (cellsP M) from ho.out)).1
    have SU : Hid (Src wr ua (cellsP M)) := us
    have hm9 : m ≤ 180 := by rw [← hm]; have := hM.out.2.1; omega
    rw [hm]
    rw [hm] at ho
    clear us hm
    by_cases hlt : k < n2
    · have hki : (k : Int) < (n2 : Int) := by omega
      have hkd : k < ds.length := by rw [HL.out.2]; exact hlt
      obtain ⟨db, dq, x0, x1, x2, x3, x4, rfl, e0, e1, e2, e3, e4, hx⟩ := srcDf (S2.out.below hb.out) (i := k) hkd
      have HX : Hid (ds.drop k = (x0, x1, x2, x3, x4) :: ds.drop (k + 1)) := drop_df hkd hx.out
      have SZ : Hid (x0.size ≤ 1048576 ∧ x1.size ≤ 1048576 ∧ x2.size ≤ 1048576) := Q2.out (x0, x1, x2, x3, x4) (List.mem_of_mem_drop (i := k) (by rw [HX.out]; simp))
      obtain ⟨f, hf⟩ : ∃ b, formB (x0, x1, x2, x3, x4) = b := ⟨_, rfl⟩
      have HF : Hid (formB (x0, x1, x2, x3, x4) = f) := hf
      have AR : Hid (Below wr.heap.size wr (wr.alloc (.cells #[.string x0, .string x1, .string x2, .bool x3, .bool x4] 108))) := (Below.refl _ _).alloc (Nat.le_refl _) _
      clear hkd hx hf
      go_wp2_with fail
      refine (diffOK x0 x1 x2 x3 x4 _ SZ.out.1 SZ.out.2.1 SZ.out.2.2).mono ?_
      rw [HF.out]
      rintro e w4 ⟨rfl, hb4⟩
      have B4 : Hid (Below w.heap.size w w4) := hb.out.trans ((Below.new hb4).mono hb.out.size)
      have X4 : Hid (Box w4 wr.heap.size [.string x0, .string x1, .string x2, .bool x3, .bool x4]) := Box.below (Box.new rfl) hb4
      have S4 : Hid (Src w4 ua (cellsP M)) := (SU.out.below AR.out).below hb4
      clear hb4 AR SU ho e0 e1 e2 e3 e4
      cases f with
      | false =>
        have RR : Hid (applyA L ds = (L, 3)) := by
          show _ = _
          rw [F.out]
          exact applyB_bad (by rw [hM.out.2.2, HX.out, run_form HF.out]) (by decide)
        go_wp2_with fail
        refine (CPY.out _ B4.out).mono ?_
        rintro e w5 ⟨v5, rfl, o5, hb5⟩
        have B5 : Hid (Below w.heap.size w w5) := hb5
        have O5 : Hid (OwnsP w5 w.heap.size v5 L) := o5
        clear hb5 o5
        go_wp2_with fail
        go_ret2
        exact ⟨_, _, _, rfl, RR.out, O5.out, B5.out⟩
      | true =>
      obtain ⟨p0, _⟩ := X4.out 0 _ rfl
      obtain ⟨p1, _⟩ := X4.out 1 _ rfl
      obtain ⟨p2, _⟩ := X4.out 2 _ rfl
      obtain ⟨p3, _⟩ := X4.out 3 _ rfl
      obtain ⟨p4, _⟩ := X4.out 4 _ rfl
      by_cases heq : heldM M x0 = (x1, x3)
      · have HQ : Hid (heldM M x0 = (x1, x3)) := heq
        clear heq
        go_wp2_with fail
        go_region_with (first | (go_at_call 101; refine (diffWas x0 x1 x2 x3 x4 _).mono ?_; rintro e w6 ⟨rfl, hb6⟩; have B6 : Hid (Below w.heap.size w w6) := B5.out.trans (hb6.mono B5.out.size); have X6 : Hid (Box w6 wr.heap.size [.string x0, .string x1, .string x2, .bool x3, .bool x4]) := X5.out.below hb6; have S6 : Hid (Src w6 ua (cellsP M)) := S5.out.below hb6; clear hb6 B5 X5 S5) | (go_at_call 92; refine (heldAt ua m uc M x0 w4.drew HM.out (by omega) hM.out.1.2 (show Src w4.drew ua (cellsP M) from S4.out)).mono ?_; rw [HQ.out]; rintro e w5 ⟨rfl, hb5⟩; have B5 : Hid (Below w.heap.size w w5) := B4.out.drew.trans (hb5.mono B4.out.size); have X5 : Hid (Box w5 wr.heap.size [.string x0, .string x1, .string x2, .bool x3, .bool x4]) := Box.below (w := w4.drew) X4.out hb5; have S5 : Hid (Src w5 ua (cellsP M)) := Src.below (w := w4.drew) S4.out hb5; clear hb5 B4 X4 S4 p0 p1 p2 p3 p4; obtain ⟨p0, _⟩ := X5.out 0 _ rfl; obtain ⟨p1, _⟩ := X5.out 1 _ rfl; obtain ⟨p2, _⟩ := X5.out 2 _ rfl; obtain ⟨p3, _⟩ := X5.out 3 _ rfl; obtain ⟨p4, _⟩ := X5.out 4 _ rfl))
        all_goals
          obtain ⟨r0, _⟩ := X6.out 0 _ rfl
          obtain ⟨r1, _⟩ := X6.out 1 _ rfl
          obtain ⟨r2, _⟩ := X6.out 2 _ rfl
          obtain ⟨r3, _⟩ := X6.out 3 _ rfl
          obtain ⟨r4, _⟩ := X6.out 4 _ rfl
          go_wp2_with fail
          refine (diffDone x0 x1 x2 x3 x4 ua m uc M _ HM.out (by omega) CP.out S6.out).mono ?_
          rintro e w7 ⟨v7, rfl, o7, hb7⟩
          have B7 : Hid (Below w.heap.size w w7) := B6.out.trans (hb7.mono B6.out.size)
          have O7 : Hid (OwnsP w7 w.heap.size v7 (stepM M (x0, x1, x2, x3, x4))) := o7.weaken B6.out.size
          have G7 : Hid (GoodL (stepM M (x0, x1, x2, x3, x4)) ∧ (stepM M (x0, x1, x2, x3, x4)).length ≤ 60 + (k + 1) ∧ runM L ds = runM (stepM M (x0, x1, x2, x3, x4)) (ds.drop (k + 1))) := by
            refine ⟨step_good hM.out.1 HF.out, ?_, ?_⟩
            · have h8 := step_len M (x0, x1, x2, x3, x4)
              have h9 := hM.out.2.1
              omega
            · rw [hM.out.2.2, HX.out, run_step HF.out HQ.out]
          clear hb7 o7 r0 r1 r2 r3 r4
          go_wp2_with fail
          exact ⟨⟨k + 1, _, _, by omega, by go_num, rfl, G7.out, B7.out, O7.out⟩, by simp [intOf]; omega⟩
      · obtain ⟨hv, ht, hh⟩ : ∃ v t, heldM M x0 = (v, t) := ⟨_, _, rfl⟩
        have HQ : Hid (heldM M x0 = (hv, ht)) := hh
        have RR : Hid (applyA L ds = (L, 18)) := by
          show _ = _
          rw [F.out]
          exact applyB_bad (by rw [hM.out.2.2, HX.out, run_old HF.out heq]) (by decide)
        have hne : ¬ (hv = x1 ∧ ht = x3) := fun e => heq (by rw [hh, e.1, e.2])
        clear heq hh
        by_cases hv1 : hv = x1
        · have ht1 : ht ≠ x3 := fun e => hne ⟨hv1, e⟩
          have ht2 : (ht == x3) = false := by simpa using ht1
          have hv2 : (hv.toList == x1.toList) = true := by rw [hv1]; simp
          clear hne hv1 ht1
          go_wp2_with fail
          go_region_with (first | (go_at_call 101; refine (diffWas x0 x1 x2 x3 x4 _).mono ?_; rintro e w6 ⟨rfl, hb6⟩; have B6 : Hid (Below w.heap.size w w6) := B5.out.trans (hb6.mono B5.out.size); have X6 : Hid (Box w6 wr.heap.size [.string x0, .string x1, .string x2, .bool x3, .bool x4]) := X5.out.below hb6; have S6 : Hid (Src w6 ua (cellsP M)) := S5.out.below hb6; clear hb6 B5 X5 S5) | (go_at_call 92; refine (heldAt ua m uc M x0 w4.drew HM.out (by omega) hM.out.1.2 (show Src w4.drew ua (cellsP M) from S4.out)).mono ?_; rw [HQ.out]; rintro e w5 ⟨rfl, hb5⟩; have B5 : Hid (Below w.heap.size w w5) := B4.out.drew.trans (hb5.mono B4.out.size); have X5 : Hid (Box w5 wr.heap.size [.string x0, .string x1, .string x2, .bool x3, .bool x4]) := Box.below (w := w4.drew) X4.out hb5; have S5 : Hid (Src w5 ua (cellsP M)) := Src.below (w := w4.drew) S4.out hb5; clear hb5 B4 X4 S4 p0 p1 p2 p3 p4; obtain ⟨p0, _⟩ := X5.out 0 _ rfl; obtain ⟨p1, _⟩ := X5.out 1 _ rfl; obtain ⟨p2, _⟩ := X5.out 2 _ rfl; obtain ⟨p3, _⟩ := X5.out 3 _ rfl; obtain ⟨p4, _⟩ := X5.out 4 _ rfl))
          all_goals
            go_wp2_with fail
            refine (CPY.out _ B6.out).mono ?_
            rintro e w7 ⟨v7, rfl, o7, hb7⟩
            have B7 : Hid (Below w.heap.size w w7) := hb7
            have O7 : Hid (OwnsP w7 w.heap.size v7 L) := o7
            clear hb7 o7
            go_wp2_with fail
            go_ret2
            exact ⟨_, _, _, rfl, RR.out, O7.out, B7.out⟩
        · have hv2 : (hv.toList == x1.toList) = false := by
            cases e : (hv.toList == x1.toList) with
            | false => rfl
            | true => exact absurd (toList_inj (by simpa using e)) hv1
          clear hne hv1
          go_wp2_with fail
          go_region_with (first | (go_at_call 101; refine (diffWas x0 x1 x2 x3 x4 _).mono ?_; rintro e w6 ⟨rfl, hb6⟩; have B6 : Hid (Below w.heap.size w w6) := B5.out.trans (hb6.mono B5.out.size); have X6 : Hid (Box w6 wr.heap.size [.string x0, .string x1, .string x2, .bool x3, .bool x4]) := X5.out.below hb6; have S6 : Hid (Src w6 ua (cellsP M)) := S5.out.below hb6; clear hb6 B5 X5 S5) | (go_at_call 92; refine (heldAt ua m uc M x0 w4.drew HM.out (by omega) hM.out.1.2 (show Src w4.drew ua (cellsP M) from S4.out)).mono ?_; rw [HQ.out]; rintro e w5 ⟨rfl, hb5⟩; have B5 : Hid (Below w.heap.size w w5) := B4.out.drew.trans (hb5.mono B4.out.size); have X5 : Hid (Box w5 wr.heap.size [.string x0, .string x1, .string x2, .bool x3, .bool x4]) := Box.below (w := w4.drew) X4.out hb5; have S5 : Hid (Src w5 ua (cellsP M)) := Src.below (w := w4.drew) S4.out hb5; clear hb5 B4 X4 S4 p0 p1 p2 p3 p4; obtain ⟨p0, _⟩ := X5.out 0 _ rfl; obtain ⟨p1, _⟩ := X5.out 1 _ rfl; obtain ⟨p2, _⟩ := X5.out 2 _ rfl; obtain ⟨p3, _⟩ := X5.out 3 _ rfl; obtain ⟨p4, _⟩ := X5.out 4 _ rfl))
          all_goals
            go_wp2_with fail
            refine (CPY.out _ B6.out).mono ?_
            rintro e w7 ⟨v7, rfl, o7, hb7⟩
            have B7 : Hid (Below w.heap.size w w7) := hb7
            have O7 : Hid (OwnsP w7 w.heap.size v7 L) := o7
            clear hb7 o7
            go_wp2_with fail
            go_ret2
            exact ⟨_, _, _, rfl, RR.out, O7.out, B7.out⟩
    · have hkm : k = n2 := by omega
      have RM : Hid (runM L ds = (M, 0)) := by
        show _ = _
        rw [hM.out.2.2, List.drop_eq_nil_of_le (by rw [HL.out.2]; omega)]
        rfl
      have hki : ¬ (k : Int) < (n2 : Int) := by omega
      by_cases hq : 60 < m
      · have RR : Hid (applyA L ds = (L, 7)) := by show _ = _; rw [F.out]; exact applyB_full RM.out (by rw [HM.out]; exact hq)
        clear ho
        go_wp2_with fail
        refine (CPY.out _ hb.out).mono ?_
        rintro e w5 ⟨v5, rfl, o5, hb5⟩
        have B5 : Hid (Below w.heap.size w w5) := hb5
        have O5 : Hid (OwnsP w5 w.heap.size v5 L) := o5
        clear hb5 o5
        go_wp2_with fail
        go_ret2
        exact ⟨_, _, _, rfl, RR.out, O5.out, B5.out⟩
      · have RR : Hid (applyA L ds = (M, 0)) := by show _ = _; rw [F.out]; exact applyB_good RM.out (by rw [HM.out]; exact hq)
        have O5 : Hid (wr.ownsRow w.heap.size 70 2 (.slice ua m uc) M.length (cellsP M)) := ho.out
        clear ho
        go_wp2_with fail
        go_ret2
        exact ⟨_, _, _, rfl, RR.out, O5.out, hb.out⟩
end Go.Proofs.YtmbndpgoihdpnaaGreatDoor
