
/-
  ApplyDiff of the specification. By an AI agent.
-/
import Derived.Test.YtmbndpgoihdpnaaGreatDoorApi
import Derived.Deep.RegionHeld3
namespace Go.Proofs.YtmbndpgoihdpnaaGreatDoor
open Go.ChangeShapes Go.WideShapes Go.ChangeAt Go.RowKit Go.Deep
set_option linter.unusedVariables false
set_option maxRecDepth 100000

theorem held_got {M : List PM} {m : Nat} {k : ByteArray} (hu : UpL M) (hm : M.length = m) : heldM M k = (gotV (fstL M) (sndL M) m k (plc M k), hitB (fstL M) m k (plc M k)) := by
  subst hm
  rw [held_place hu (plc_is M k)]
  unfold gotV
  cases h : hitB (fstL M) M.length k (plc M k) <;> rfl
theorem empty_ne {v : ByteArray} (h : v ≠ ⟨#[]⟩) : ¬ v.toList = [] := fun e => h (toList_inj (by rw [e, ByteArray.toList_eq]))
theorem empty_size {v : ByteArray} (h : v ≠ ⟨#[]⟩) : ¬ v.size = 0 := fun e => h (size0 e)
theorem form_fitA {k o n : ByteArray} {p q : Bool} (h : fitB k n = false) : formB (k, o, n, p, q) = false := by
  rw [formB_of]
  unfold fitB at h
  cases hk : keyB k with
  | false => rfl
  | true =>
    rw [hk, Bool.true_and] at h
    have h2 := of_decide_eq_false h
    have h3 : sideB n q = false := by
      unfold sideB
      split
      · exact decide_eq_false (by omega)
      · exact decide_eq_false (by omega)
    rw [h3]; simp
theorem form_old {k o n : ByteArray} {p q : Bool} (h : ¬ o.size ≤ 90) : formB (k, o, n, p, q) = false := by
  rw [formB_of]
  have h3 : sideB o p = false := by
    unfold sideB
    split
    · exact decide_eq_false h
    · exact decide_eq_false (by omega)
  rw [h3]; simp
theorem form_noneA {k o n : ByteArray} : formB (k, o, n, false, false) = false := by rw [formB_of]; simp
theorem form_wasA {k o n : ByteArray} {q : Bool} (h : o ≠ ⟨#[]⟩) : formB (k, o, n, false, q) = false := by
  rw [formB_of]
  have h3 : sideB o false = false := decide_eq_false (empty_size h)
  rw [h3]; simp
theorem form_isA {k o n : ByteArray} {p : Bool} (h : n ≠ ⟨#[]⟩) : formB (k, o, n, p, false) = false := by
  rw [formB_of]
  have h3 : sideB n false = false := decide_eq_false (empty_size h)
  rw [h3]; simp
theorem fit_two {k n : ByteArray} (h : fitB k n = true) : keyB k = true ∧ n.size ≤ 90 := by
  unfold fitB at h
  simp at h
  exact ⟨h.1, by omega⟩
theorem form_new {k n : ByteArray} (h : fitB k n = true) : formB (k, ⟨#[]⟩, n, false, true) = true := by
  rw [formB_of, (fit_two h).1]
  have h3 : sideB n true = true := decide_eq_true (fit_two h).2
  rw [h3]; rfl
theorem form_gone {k o n : ByteArray} (h : fitB k n = true) (h2 : o.size ≤ 90) : formB (k, o, ⟨#[]⟩, true, false) = true := by
  rw [formB_of, (fit_two h).1]
  have h3 : sideB o true = true := decide_eq_true h2
  rw [h3]; rfl
theorem form_both {k o n : ByteArray} (h : fitB k n = true) (h2 : o.size ≤ 90) : formB (k, o, n, true, true) = true := by
  rw [formB_of, (fit_two h).1]
  have h3 : sideB o true = true := decide_eq_true h2
  have h4 : sideB n true = true := decide_eq_true (fit_two h).2
  rw [h3, h4]; rfl

set_option maxHeartbeats 4000000 in
theorem l05Apply (a1 a2 : Option Addr) (n1 n2 c1 c2 : Nat) (L : List PM) (ds : List DF) (w : World) (hL1 : L.length = n1) (hL2 : ds.length = n2) (hc1 : n1 ≤ c1) (hn60 : n1 ≤ 60) (hn2 : n2 ≤ 120) (hG : GoodL L) (hs2 : ∀ x ∈ ds, x.1.size ≤ 1048576 ∧ x.2.1.size ≤ 1048576 ∧ x.2.2.1.size ≤ 1048576) (h1 : Src w a1 (cellsP L)) (h2 : Src w a2 (cellsDf ds)) :
    Calls Tryz.prog 70 #[.slice a1 n1 c1, .slice a2 n2 c2] w fun e w' => ∃ ua R uc q, e = .returned (.tuple #[.slice ua R.length uc, .int .i64 q]) ∧ applyB L ds = (R, q) ∧ R.length ≤ 4096 ∧ Src w' ua (cellsP R) ∧ Below w.heap.size w w' := by
  have HL : Hid (L.length = n1 ∧ ds.length = n2) := ⟨hL1, hL2⟩
  have S1 : Hid (Src w a1 (cellsP L)) := h1
  have S2 : Hid (Src w a2 (cellsDf ds)) := h2
  have Q2 : Hid (∀ x ∈ ds, x.1.size ≤ 1048576 ∧ x.2.1.size ≤ 1048576 ∧ x.2.2.1.size ≤ 1048576) := hs2
  have GL : Hid (GoodL L) := hG
  have RB : Hid (∀ q w9, applyB L ds = (L, q) → Below w.heap.size w w9 → ∃ ua R uc q', Ending.returned (.tuple #[.slice a1 n1 c1, .int .i64 q]) = Ending.returned (.tuple #[.slice ua R.length uc, .int .i64 q']) ∧ applyB L ds = (R, q') ∧ R.length ≤ 4096 ∧ Src w9 ua (cellsP R) ∧ Below w.heap.size w w9) := fun q w9 he hb9 => ⟨a1, L, c1, q, by rw [HL.out.1], he, by rw [HL.out.1]; omega, S1.out.below hb9, hb9⟩
  clear hL1 hL2 h1 h2 hs2 hG
  go_enter Tryz.func70, Tryz.ntmps70
  go_wp2_with fail
  go_loopw [6, 7] (fun lv iv wr => ∃ (k m uc : Nat) (ua : Option Addr) (M : List PM), k ≤ n2 ∧ iv = .int .i64 (k : Int) ∧ lv = .slice ua m uc ∧ m ≤ uc ∧ m ≤ 60 + k ∧ Hid (M.length = m) ∧ Hid (Src wr ua (cellsP M)) ∧ Hid (GoodL M ∧ runM L ds = runM M (ds.drop k)) ∧ Hid (Below w.heap.size w wr)) (fun _ i _ => n2 - (intOf i).toNat)
  case atStart => exact ⟨0, n1, c1, a1, L, by omega, rfl, rfl, hc1, by omega, HL.out.1, S1.out, ⟨GL.out, by simp⟩, Below.refl _ _⟩
  case round =>
    obtain ⟨k, m, uc, ua, M, hk, rfl, rfl, hmc, hmk, HM, SU, hM, hb⟩ := hrel
    have hm9 : m ≤ 180 := by omega
    by_cases hlt : k < n2
    · have hki : (k : Int) < (n2 : Int) := by omega
      have hkd : k < ds.length := by rw [HL.out.2]; exact hlt
      obtain ⟨db, dq, x0, x1, x2, x3, x4, rfl, e0, e1, e2, e3, e4, hx⟩ := srcDf (S2.out.below hb.out) (i := k) hkd
      have HX : Hid (ds.drop k = (x0, x1, x2, x3, x4) :: ds.drop (k + 1)) := drop_df hkd hx.out
      have SZ : Hid (x0.size ≤ 1048576 ∧ x1.size ≤ 1048576 ∧ x2.size ≤ 1048576) := Q2.out (x0, x1, x2, x3, x4) (List.mem_of_mem_drop (i := k) (by rw [HX.out]; simp))
      have AR : Hid (Below wr.heap.size wr (wr.alloc (.cells #[.string x0, .string x1, .string x2, .bool x3, .bool x4] 108))) := (Below.refl _ _).alloc (Nat.le_refl _) _
      obtain ⟨fit, hfit⟩ : ∃ b, fitB x0 x2 = b := ⟨_, rfl⟩
      obtain ⟨gv, hgv⟩ : ∃ v, gotV (fstL M) (sndL M) m x0 (plc M x0) = v := ⟨_, rfl⟩
      obtain ⟨gh, hgh⟩ : ∃ v, hitB (fstL M) m x0 (plc M x0) = v := ⟨_, rfl⟩
      have PL : Hid (IsPlace (fstL M) m x0 (plc M x0)) := by rw [← HM.out]; exact plc_is M x0
      have HG : Hid (gotV (fstL M) (sndL M) m x0 (plc M x0) = gv ∧ hitB (fstL M) m x0 (plc M x0) = gh ∧ heldM M x0 = (gv, gh)) := ⟨hgv, hgh, by rw [held_got hM.out.1.2 HM.out, hgv, hgh]⟩
      have HF : Hid (fitB x0 x2 = fit) := hfit
      have R3 : Hid (formB (x0, x1, x2, x3, x4) = false → applyB L ds = (L, 3)) := fun h9 => applyB_bad (by rw [hM.out.2, HX.out, run_form h9]) (by decide)
      have R18 : Hid (formB (x0, x1, x2, x3, x4) = true → heldM M x0 ≠ (x1, x3) → applyB L ds = (L, 18)) := fun h9 h8 => applyB_bad (by rw [hM.out.2, HX.out, run_old h9 h8]) (by decide)
      have RS : Hid (formB (x0, x1, x2, x3, x4) = true → heldM M x0 = (x1, x3) → GoodL (stepM M (x0, x1, x2, x3, x4)) ∧ (stepM M (x0, x1, x2, x3, x4)).length ≤ m + 1 ∧ runM L ds = runM (stepM M (x0, x1, x2, x3, x4)) (ds.drop (k + 1))) := fun h9 h8 => ⟨step_good hM.out.1 h9, by rw [← HM.out]; exact step_len M _, by rw [hM.out.2, HX.out, run_step h9 h8]⟩
      clear hkd hx hfit hgv hgh
      go_wp2_with fail
      refine (l01Get ua m uc (fstL M) (sndL M) x0 (plc M x0) _ (by omega) PL.out ((sp_of SU.out HM.out).below AR.out)).mono ?_
      rw [HG.out.1, HG.out.2.1]
      rintro e w4 ⟨rfl, hw4⟩
      obtain rfl := hw4
      go_wp2_with fail
      refine (l01PairIs fit x0 x2 _ HF.out (by have := SZ.out.1; unfold maxLen; omega) (by have := SZ.out.2.2; unfold maxLen; omega)).mono ?_
      rintro e w5 ⟨rfl, hb5⟩
      have B5 : Hid (Below w.heap.size w w5) := hb.out.trans ((Below.new hb5).mono hb.out.size)
      have X5 : Hid (Box w5 wr.heap.size [.string x0, .string x1, .string x2, .bool x3, .bool x4]) := Box.below (Box.new rfl) hb5
      have S5 : Hid (Src w5 ua (cellsP M)) := (SU.out.below AR.out).below hb5
      clear hb5 AR SU e0 e1 e2 e3 e4
      obtain ⟨p0, _⟩ := X5.out 0 _ rfl
      obtain ⟨p1, _⟩ := X5.out 1 _ rfl
      obtain ⟨p2, _⟩ := X5.out 2 _ rfl
      obtain ⟨p3, _⟩ := X5.out 3 _ rfl
      obtain ⟨p4, _⟩ := X5.out 4 _ rfl
      have hz1 : x1.size ≤ 1048576 := SZ.out.2.1
      cases fit with
      | false =>
        have RR : Hid (applyB L ds = (L, 3)) := R3.out (form_fitA HF.out)
        clear R3 R18 RS
        go_wp2_with fail
        go_ret2
        exact RB.out _ _ RR.out B5.out
      | true =>
      by_cases hold : (90 : Int) < (x1.size : Int)
      · have RR : Hid (applyB L ds = (L, 3)) := R3.out (form_old (by omega))
        clear R3 R18 RS
        go_wp2_with fail
        go_ret2
        exact RB.out _ _ RR.out B5.out
      have hold2 : x1.size ≤ 90 := by omega
      cases x3 with
      | false =>
        cases x4 with
        | false =>
          have RR : Hid (applyB L ds = (L, 3)) := R3.out form_noneA
          clear R3 R18 RS
          go_wp2_with fail
          go_ret2
          exact RB.out _ _ RR.out B5.out
        | true =>
          by_cases he : x1 = ⟨#[]⟩
          · subst he
            have FM : Hid (formB (x0, ⟨#[]⟩, x2, false, true) = true) := form_new HF.out
            cases gh with
            | true =>
              have RR : Hid (applyB L ds = (L, 18)) := R18.out FM.out (by rw [HG.out.2.2]; intro h9; cases h9)
              clear R3 R18 RS
              go_wp2_with fail
              go_ret2
              exact RB.out _ _ RR.out B5.out
            | false =>
              have HE : Hid (heldM M x0 = (⟨#[]⟩, false)) := by
                show _ = _
                rw [HG.out.2.2, ← HG.out.1]
                unfold gotV
                rw [HG.out.2.1]
                rfl
              have ST := RS.out (FM.out) (HE.out)
              have SL : Hid (putL (fstL M) (sndL M) m x0 x2 (plc M x0) = stepM M (x0, ⟨#[]⟩, x2, false, true)) := by show _ = _; rw [← HM.out]; exact (step_put (d := (x0, ⟨#[]⟩, x2, false, true)) rfl).symm
              generalize hst : stepM M (x0, ⟨#[]⟩, x2, false, true) = M2 at ST SL
              have G6 : Hid (GoodL M2 ∧ M2.length ≤ m + 1 ∧ runM L ds = runM M2 (ds.drop (k + 1))) := ST
              clear R3 R18 RS ST hst
              go_wp2_with fail
              refine (l01PutA ua m uc (fstL M) (sndL M) x0 x2 (plc M x0) _ (by omega) hmc PL.out (sp_of S5.out HM.out)).mono ?_
              rw [SL.out]
              rintro e w6 ⟨v6, rfl, o6, hb6⟩
              have o7 : w6.ownsRow w5.heap.size 70 2 v6 M2.length (cellsP M2) := o6
              obtain ⟨ub, ud, rfl, us, _⟩ := own_src o7
              obtain ⟨m2, hm2⟩ : ∃ j, M2.length = j := ⟨_, rfl⟩
              have cp := (own_capx o7).1
              rw [hm2] at cp
              rw [hm2]
              have U6 : Hid (Src w6 ub (cellsP M2) ∧ M2.length = m2) := ⟨us, hm2⟩
              have hm6 : m2 ≤ m + 1 := by rw [← hm2]; exact G6.out.2.1
              have B6 : Hid (Below w.heap.size w w6) := B5.out.trans (hb6.mono B5.out.size)
              clear hb6 o6 o7 us hm2 p0 p1 p2 p3 p4
              go_wp2_with fail
              exact ⟨⟨k + 1, m2, ud, ub, M2, by omega, by go_num, rfl, cp, by omega, U6.out.2, U6.out.1, ⟨G6.out.1, G6.out.2.2⟩, B6.out⟩, by simp [intOf]; omega⟩
          · have hz : ¬ x1.toList = [] := empty_ne he
            have FM : Hid (formB (x0, x1, x2, false, true) = false) := form_wasA he
            clear he
            have RR : Hid (applyB L ds = (L, 3)) := R3.out FM.out
            clear R3 R18 RS
            go_wp2_with fail
            go_ret2
            exact RB.out _ _ RR.out B5.out
      | true =>
        cases x4 with
        | true =>
          have FM : Hid (formB (x0, x1, x2, true, true) = true) := form_both HF.out hold2
          cases gh with
          | false =>
            have RR : Hid (applyB L ds = (L, 18)) := R18.out FM.out (by rw [HG.out.2.2]; intro h9; cases h9)
            clear R3 R18 RS
            go_wp2_with fail
            go_ret2
            exact RB.out _ _ RR.out B5.out
          | true =>
            by_cases hv : gv = x1
            · subst hv
              have ST := RS.out (FM.out) (HG.out.2.2)
              have SL : Hid (putL (fstL M) (sndL M) m x0 x2 (plc M x0) = stepM M (x0, gv, x2, true, true)) := by show _ = _; rw [← HM.out]; exact (step_put (d := (x0, gv, x2, true, true)) rfl).symm
              generalize hst : stepM M (x0, gv, x2, true, true) = M2 at ST SL
              have G6 : Hid (GoodL M2 ∧ M2.length ≤ m + 1 ∧ runM L ds = runM M2 (ds.drop (k + 1))) := ST
              clear R3 R18 RS ST hst
              go_wp2_with fail
              refine (l01PutA ua m uc (fstL M) (sndL M) x0 x2 (plc M x0) _ (by omega) hmc PL.out (sp_of S5.out HM.out)).mono ?_
              rw [SL.out]
              rintro e w6 ⟨v6, rfl, o6, hb6⟩
              have o7 : w6.ownsRow w5.heap.size 70 2 v6 M2.length (cellsP M2) := o6
              obtain ⟨ub, ud, rfl, us, _⟩ := own_src o7
              obtain ⟨m2, hm2⟩ : ∃ j, M2.length = j := ⟨_, rfl⟩
              have cp := (own_capx o7).1
              rw [hm2] at cp
              rw [hm2]
              have U6 : Hid (Src w6 ub (cellsP M2) ∧ M2.length = m2) := ⟨us, hm2⟩
              have hm6 : m2 ≤ m + 1 := by rw [← hm2]; exact G6.out.2.1
              have B6 : Hid (Below w.heap.size w w6) := B5.out.trans (hb6.mono B5.out.size)
              clear hb6 o6 o7 us hm2 p0 p1 p2 p3 p4
              go_wp2_with fail
              exact ⟨⟨k + 1, m2, ud, ub, M2, by omega, by go_num, rfl, cp, by omega, U6.out.2, U6.out.1, ⟨G6.out.1, G6.out.2.2⟩, B6.out⟩, by simp [intOf]; omega⟩
            · have hv2 : (gv.toList == x1.toList) = false := by
                cases e : (gv.toList == x1.toList) with
                | false => rfl
                | true => exact absurd (toList_inj (by simpa using e)) hv
              have HN : Hid (heldM M x0 ≠ (x1, true)) := by show _ ≠ _; rw [HG.out.2.2]; intro h9; exact hv (by cases h9; rfl)
              clear hv
              have RR : Hid (applyB L ds = (L, 18)) := R18.out FM.out HN.out
              clear R3 R18 RS
              go_wp2_with fail
              go_ret2
              exact RB.out _ _ RR.out B5.out
        | false =>
          by_cases he : x2 = ⟨#[]⟩
          · subst he
            have FM : Hid (formB (x0, x1, ⟨#[]⟩, true, false) = true) := form_gone HF.out hold2
            cases gh with
            | false =>
              have RR : Hid (applyB L ds = (L, 18)) := R18.out FM.out (by rw [HG.out.2.2]; intro h9; cases h9)
              clear R3 R18 RS
              go_wp2_with fail
              go_ret2
              exact RB.out _ _ RR.out B5.out
            | true =>
              by_cases hv : gv = x1
              · subst hv
                have ST := RS.out (FM.out) (HG.out.2.2)
                have SL : Hid (dropTo (fstL M) (sndL M) x0 m = stepM M (x0, gv, ⟨#[]⟩, true, false)) := by show _ = _; rw [← HM.out]; exact dropTo_step (d := (x0, gv, ⟨#[]⟩, true, false)) hM.out.1.2 rfl
                generalize hst : stepM M (x0, gv, ⟨#[]⟩, true, false) = M2 at ST SL
                have G6 : Hid (GoodL M2 ∧ M2.length ≤ m + 1 ∧ runM L ds = runM M2 (ds.drop (k + 1))) := ST
                clear R3 R18 RS ST hst
                go_wp2_with fail
                refine (l01Drop ua m uc (fstL M) (sndL M) x0 _ (by omega) (sp_of S5.out HM.out)).mono ?_
                rw [SL.out]
                rintro e w6 ⟨v6, rfl, o6, hb6⟩
                have o7 : w6.ownsRow w5.heap.size 70 2 v6 M2.length (cellsP M2) := o6
                obtain ⟨ub, ud, rfl, us, _⟩ := own_src o7
                obtain ⟨m2, hm2⟩ : ∃ j, M2.length = j := ⟨_, rfl⟩
                have cp := (own_capx o7).1
                rw [hm2] at cp
                rw [hm2]
                have U6 : Hid (Src w6 ub (cellsP M2) ∧ M2.length = m2) := ⟨us, hm2⟩
                have hm6 : m2 ≤ m + 1 := by rw [← hm2]; exact G6.out.2.1
                have B6 : Hid (Below w.heap.size w w6) := B5.out.trans (hb6.mono B5.out.size)
                clear hb6 o6 o7 us hm2 p0 p1 p2 p3 p4
                go_wp2_with fail
                exact ⟨⟨k + 1, m2, ud, ub, M2, by omega, by go_num, rfl, cp, by omega, U6.out.2, U6.out.1, ⟨G6.out.1, G6.out.2.2⟩, B6.out⟩, by simp [intOf]; omega⟩
              · have hv2 : (gv.toList == x1.toList) = false := by
                  cases e : (gv.toList == x1.toList) with
                  | false => rfl
                  | true => exact absurd (toList_inj (by simpa using e)) hv
                have HN : Hid (heldM M x0 ≠ (x1, true)) := by show _ ≠ _; rw [HG.out.2.2]; intro h9; exact hv (by cases h9; rfl)
                clear hv
                have RR : Hid (applyB L ds = (L, 18)) := R18.out FM.out HN.out
                clear R3 R18 RS
                go_wp2_with fail
                go_ret2
                exact RB.out _ _ RR.out B5.out
          · have hz : ¬ x2.toList = [] := empty_ne he
            have hz3 : x2.toList.isEmpty = false := by cases e : x2.toList with
              | nil => exact absurd e hz
              | cons _ _ => rfl
            have FM : Hid (formB (x0, x1, x2, true, false) = false) := form_isA he
            clear he
            have RR : Hid (applyB L ds = (L, 3)) := R3.out FM.out
            clear R3 R18 RS
            go_wp2_with fail
            go_ret2
            exact RB.out _ _ RR.out B5.out
    · have hkm : k = n2 := by omega
      have RM : Hid (runM L ds = (M, 0)) := by
        show _ = _
        rw [hM.out.2, List.drop_eq_nil_of_le (by rw [HL.out.2]; omega)]
        rfl
      have hki : ¬ (k : Int) < (n2 : Int) := by omega
      by_cases hq : 60 < m
      · have RR : Hid (applyB L ds = (L, 7)) := applyB_full RM.out (by rw [HM.out]; exact hq)
        go_wp2_with fail
        go_ret2
        exact RB.out _ _ RR.out hb.out
      · have RR : Hid (applyB L ds = (M, 0)) := applyB_good RM.out (by rw [HM.out]; exact hq)
        go_wp2_with fail
        go_ret2
        exact ⟨ua, M, uc, 0, by rw [HM.out]; rfl, RR.out, by rw [HM.out]; omega, SU.out, hb.out⟩

end Go.Proofs.YtmbndpgoihdpnaaGreatDoor
