/-
  Apt Rpc Asp in one. By an AI agent.
-/
import Derived.Test.YtmbndpgoihdpnaaGreatDoorAps
import Derived.Test.YtmbndpgoihdpnaaGreatDoorRa2
import Derived.Test.YtmbndpgoihdpnaaGreatDoorRb1
import Derived.Test.YtmbndpgoihdpnaaGreatDoorRa3
import Derived.LaidEql
import Derived.Stop.Asserts
import Derived.RowKitTokens
namespace Go.Proofs.YtmbndpgoihdpnaaGreatDoor
open Go.ChangeShapes Go.WideShapes Go.ChangeAt Go.RowKit Go.Deep
set_option linter.unusedVariables false
set_option linter.unusedSimpArgs false
set_option maxRecDepth 100000

set_option maxHeartbeats 4000000 in
theorem l05ApplyC (a1 a2 : Option Addr) (n1 n2 c1 c2 : Nat) (L : List PM) (ds : List DF) (w : World) (hL1 : L.length = n1) (hL2 : ds.length = n2) (hc1 : n1 ≤ c1) (hn60 : n1 ≤ 60) (hn2 : n2 ≤ 120) (hG : GoodL L) (hs2 : ∀ x ∈ ds, x.1.size ≤ 1048576 ∧ x.2.1.size ≤ 1048576 ∧ x.2.2.1.size ≤ 1048576) (h1 : Src w a1 (cellsP L)) (h2 : Src w a2 (cellsDf ds)) :
    Calls Tryz.prog 70 #[.slice a1 n1 c1, .slice a2 n2 c2] w fun e w' => ∃ ua R uc q, e = .returned (.tuple #[.slice ua R.length uc, .int .i64 q]) ∧ applyB L ds = (R, q) ∧ R.length ≤ 4096 ∧ R.length ≤ uc ∧ Src w' ua (cellsP R) ∧ Below w.heap.size w w' := by
  have HL : Hid (L.length = n1 ∧ ds.length = n2) := ⟨hL1, hL2⟩
  have S1 : Hid (Src w a1 (cellsP L)) := h1
  have S2 : Hid (Src w a2 (cellsDf ds)) := h2
  have Q2 : Hid (∀ x ∈ ds, x.1.size ≤ 1048576 ∧ x.2.1.size ≤ 1048576 ∧ x.2.2.1.size ≤ 1048576) := hs2
  have GL : Hid (GoodL L) := hG
  have HC1 : Hid (n1 ≤ c1) := hc1
  have RB : Hid (∀ q w9, applyB L ds = (L, q) → Below w.heap.size w w9 → ∃ ua R uc q', Ending.returned (.tuple #[.slice a1 n1 c1, .int .i64 q]) = Ending.returned (.tuple #[.slice ua R.length uc, .int .i64 q']) ∧ applyB L ds = (R, q') ∧ R.length ≤ 4096 ∧ R.length ≤ uc ∧ Src w9 ua (cellsP R) ∧ Below w.heap.size w w9) := fun q w9 he hb9 => ⟨a1, L, c1, q, by rw [HL.out.1], he, by rw [HL.out.1]; omega, by rw [HL.out.1]; exact HC1.out, S1.out.below hb9, hb9⟩
  clear hL1 hL2 h1 h2 hs2 hG
  go_enter Tryz.func70, Tryz.ntmps70
  go_wp2_with fail
  go_loopw [6, 7] (fun lv iv wr => ∃ (k m uc : Nat) (ua : Option Addr) (M : List PM), k ≤ n2 ∧ iv = .int .i64 (k : Int) ∧ lv = .slice ua m uc ∧ m ≤ uc ∧ m ≤ 60 + k ∧ Hid (M.length = m) ∧ Hid (Src wr ua (cellsP M)) ∧ Hid (GoodL M ∧ runM L ds = runM M (ds.drop k)) ∧ Hid (Below w.heap.size w wr)) (fun _ i _ => n2 - (intOf i).toNat)
  case atStart => exact ⟨0, n1, c1, a1, L, by omega, rfl, rfl, hc1, by omega, HL.out.1, S1.out, ⟨GL.out, by simp⟩, Below.refl _ _⟩
  case round =>
    obtain ⟨k, m, uc, ua, M, hk, rfl, rfl, hmc, hmk, HM, SU, hM, hb⟩ := hrel
    have hm9 : m ≤ 180 := by omega
    by_cases hlt : k < n2
    · have hki : (k : Int) < (n2 : Int) := by omega
      have hkd : k < ds.length := by rw [HL.out.2]; exact hlt
      obtain ⟨db, dq, x0, x1, x2, x3, x4, rfl, e0, e1, e2, e3, e4, hx⟩ := srcDf (S2.out.below hb.out) (i := k) hkd
      have HX : Hid (ds.drop k = (x0, x1, x2, x3, x4) :: ds.drop (k + 1)) := drop_df hkd hx.out
      have SZ : Hid (x0.size ≤ 1048576 ∧ x1.size ≤ 1048576 ∧ x2.size ≤ 1048576) := Q2.out (x0, x1, x2, x3, x4) (List.mem_of_mem_drop (i := k) (by rw [HX.out]; simp))
      have AR : Hid (Below wr.heap.size wr (wr.alloc (.cells #[.string x0, .string x1, .string x2, .bool x3, .bool x4] 108))) := (Below.refl _ _).alloc (Nat.le_refl _) _
      obtain ⟨fit, hfit⟩ : ∃ b, fitB x0 x2 = b := ⟨_, rfl⟩
      obtain ⟨gv, hgv⟩ : ∃ v, gotV (fstL M) (sndL M) m x0 (plc M x0) = v := ⟨_, rfl⟩
      obtain ⟨gh, hgh⟩ : ∃ v, hitB (fstL M) m x0 (plc M x0) = v := ⟨_, rfl⟩
      have PL : Hid (IsPlace (fstL M) m x0 (plc M x0)) := by rw [← HM.out]; exact plc_is M x0
      have HG : Hid (gotV (fstL M) (sndL M) m x0 (plc M x0) = gv ∧ hitB (fstL M) m x0 (plc M x0) = gh ∧ heldM M x0 = (gv, gh)) := ⟨hgv, hgh, by rw [held_got hM.out.1.2 HM.out, hgv, hgh]⟩
      have HF : Hid (fitB x0 x2 = fit) := hfit
      have R3 : Hid (formB (x0, x1, x2, x3, x4) = false → applyB L ds = (L, 3)) := fun h9 => applyB_bad (by rw [hM.out.2, HX.out, run_form h9]) (by decide)
      have R18 : Hid (formB (x0, x1, x2, x3, x4) = true → heldM M x0 ≠ (x1, x3) → applyB L ds = (L, 18)) := fun h9 h8 => applyB_bad (by rw [hM.out.2, HX.out, run_old h9 h8]) (by decide)
      have RS : Hid (formB (x0, x1, x2, x3, x4) = true → heldM M x0 = (x1, x3) → GoodL (stepM M (x0, x1, x2, x3, x4)) ∧ (stepM M (x0, x1, x2, x3, x4)).length ≤ m + 1 ∧ runM L ds = runM (stepM M (x0, x1, x2, x3, x4)) (ds.drop (k + 1))) := fun h9 h8 => ⟨step_good hM.out.1 h9, by rw [← HM.out]; exact step_len M _, by rw [hM.out.2, HX.out, run_step h9 h8]⟩
      clear hkd hx hfit hgv hgh
      go_wp2_with fail
      refine (l01Get ua m uc (fstL M) (sndL M) x0 (plc M x0) _ (by omega) PL.out ((sp_of SU.out HM.out).below AR.out)).mono ?_
      rw [HG.out.1, HG.out.2.1]
      rintro e w4 ⟨rfl, hw4⟩
      obtain rfl := hw4
      go_wp2_with fail
      refine (l01PairIs fit x0 x2 _ HF.out (by have := SZ.out.1; unfold maxLen; omega) (by have := SZ.out.2.2; unfold maxLen; omega)).mono ?_
      rintro e w5 ⟨rfl, hb5⟩
      have B5 : Hid (Below w.heap.size w w5) := hb.out.trans ((Below.new hb5).mono hb.out.size)
      have X5 : Hid (Box w5 wr.heap.size [.string x0, .string x1, .string x2, .bool x3, .bool x4]) := Box.below (Box.new rfl) hb5
      have S5 : Hid (Src w5 ua (cellsP M)) := (SU.out.below AR.out).below hb5
      clear hb5 AR SU e0 e1 e2 e3 e4
      obtain ⟨p0, _⟩ := X5.out 0 _ rfl
      obtain ⟨p1, _⟩ := X5.out 1 _ rfl
      obtain ⟨p2, _⟩ := X5.out 2 _ rfl
      obtain ⟨p3, _⟩ := X5.out 3 _ rfl
      obtain ⟨p4, _⟩ := X5.out 4 _ rfl
      have hz1 : x1.size ≤ 1048576 := SZ.out.2.1
      cases fit with
      | false =>
        have RR : Hid (applyB L ds = (L, 3)) := R3.out (form_fitA HF.out)
        clear R3 R18 RS
        go_wp2_with fail
        go_ret2
        exact RB.out _ _ RR.out B5.out
      | true =>
      by_cases hold : (90 : Int) < (x1.size : Int)
      · have RR : Hid (applyB L ds = (L, 3)) := R3.out (form_old (by omega))
        clear R3 R18 RS
        go_wp2_with fail
        go_ret2
        exact RB.out _ _ RR.out B5.out
      have hold2 : x1.size ≤ 90 := by omega
      cases x3 with
      | false =>
        cases x4 with
        | false =>
          have RR : Hid (applyB L ds = (L, 3)) := R3.out form_noneA
          clear R3 R18 RS
          go_wp2_with fail
          go_ret2
          exact RB.out _ _ RR.out B5.out
        | true =>
          by_cases he : x1 = ⟨#[]⟩
          · subst he
            have FM : Hid (formB (x0, ⟨#[]⟩, x2, false, true) = true) := form_new HF.out
            cases gh with
            | true =>
              have RR : Hid (applyB L ds = (L, 18)) := R18.out FM.out (by rw [HG.out.2.2]; intro h9; cases h9)
              clear R3 R18 RS
              go_wp2_with fail
              go_ret2
              exact RB.out _ _ RR.out B5.out
            | false =>
              have HE : Hid (heldM M x0 = (⟨#[]⟩, false)) := by
                show _ = _
                rw [HG.out.2.2, ← HG.out.1]
                unfold gotV
                rw [HG.out.2.1]
                rfl
              have ST := RS.out (FM.out) (HE.out)
              have SL : Hid (putL (fstL M) (sndL M) m x0 x2 (plc M x0) = stepM M (x0, ⟨#[]⟩, x2, false, true)) := by show _ = _; rw [← HM.out]; exact (step_put (d := (x0, ⟨#[]⟩, x2, false, true)) rfl).symm
              generalize hst : stepM M (x0, ⟨#[]⟩, x2, false, true) = M2 at ST SL
              have G6 : Hid (GoodL M2 ∧ M2.length ≤ m + 1 ∧ runM L ds = runM M2 (ds.drop (k + 1))) := ST
              clear R3 R18 RS ST hst
              go_wp2_with fail
              refine (l01PutA ua m uc (fstL M) (sndL M) x0 x2 (plc M x0) _ (by omega) hmc PL.out (sp_of S5.out HM.out)).mono ?_
              rw [SL.out]
              rintro e w6 ⟨v6, rfl, o6, hb6⟩
              have o7 : w6.ownsRow w5.heap.size 70 2 v6 M2.length (cellsP M2) := o6
              obtain ⟨ub, ud, rfl, us, _⟩ := own_src o7
              obtain ⟨m2, hm2⟩ : ∃ j, M2.length = j := ⟨_, rfl⟩
              have cp := (own_capx o7).1
              rw [hm2] at cp
              rw [hm2]
              have U6 : Hid (Src w6 ub (cellsP M2) ∧ M2.length = m2) := ⟨us, hm2⟩
              have hm6 : m2 ≤ m + 1 := by rw [← hm2]; exact G6.out.2.1
              have B6 : Hid (Below w.heap.size w w6) := B5.out.trans (hb6.mono B5.out.size)
              clear hb6 o6 o7 us hm2 p0 p1 p2 p3 p4
              go_wp2_with fail
              exact ⟨⟨k + 1, m2, ud, ub, M2, by omega, by go_num, rfl, cp, by omega, U6.out.2, U6.out.1, ⟨G6.out.1, G6.out.2.2⟩, B6.out⟩, by simp [intOf]; omega⟩
          · have hz : ¬ x1.toList = [] := empty_ne he
            have FM : Hid (formB (x0, x1, x2, false, true) = false) := form_wasA he
            clear he
            have RR : Hid (applyB L ds = (L, 3)) := R3.out FM.out
            clear R3 R18 RS
            go_wp2_with fail
            go_ret2
            exact RB.out _ _ RR.out B5.out
      | true =>
        cases x4 with
        | true =>
          have FM : Hid (formB (x0, x1, x2, true, true) = true) := form_both HF.out hold2
          cases gh with
          | false =>
            have RR : Hid (applyB L ds = (L, 18)) := R18.out FM.out (by rw [HG.out.2.2]; intro h9; cases h9)
            clear R3 R18 RS
            go_wp2_with fail
            go_ret2
            exact RB.out _ _ RR.out B5.out
          | true =>
            by_cases hv : gv = x1
            · subst hv
              have ST := RS.out (FM.out) (HG.out.2.2)
              have SL : Hid (putL (fstL M) (sndL M) m x0 x2 (plc M x0) = stepM M (x0, gv, x2, true, true)) := by show _ = _; rw [← HM.out]; exact (step_put (d := (x0, gv, x2, true, true)) rfl).symm
              generalize hst : stepM M (x0, gv, x2, true, true) = M2 at ST SL
              have G6 : Hid (GoodL M2 ∧ M2.length ≤ m + 1 ∧ runM L ds = runM M2 (ds.drop (k + 1))) := ST
              clear R3 R18 RS ST hst
              go_wp2_with fail
              refine (l01PutA ua m uc (fstL M) (sndL M) x0 x2 (plc M x0) _ (by omega) hmc PL.out (sp_of S5.out HM.out)).mono ?_
              rw [SL.out]
              rintro e w6 ⟨v6, rfl, o6, hb6⟩
              have o7 : w6.ownsRow w5.heap.size 70 2 v6 M2.length (cellsP M2) := o6
              obtain ⟨ub, ud, rfl, us, _⟩ := own_src o7
              obtain ⟨m2, hm2⟩ : ∃ j, M2.length = j := ⟨_, rfl⟩
              have cp := (own_capx o7).1
              rw [hm2] at cp
              rw [hm2]
              have U6 : Hid (Src w6 ub (cellsP M2) ∧ M2.length = m2) := ⟨us, hm2⟩
              have hm6 : m2 ≤ m + 1 := by rw [← hm2]; exact G6.out.2.1
              have B6 : Hid (Below w.heap.size w w6) := B5.out.trans (hb6.mono B5.out.size)
              clear hb6 o6 o7 us hm2 p0 p1 p2 p3 p4
              go_wp2_with fail
              exact ⟨⟨k + 1, m2, ud, ub, M2, by omega, by go_num, rfl, cp, by omega, U6.out.2, U6.out.1, ⟨G6.out.1, G6.out.2.2⟩, B6.out⟩, by simp [intOf]; omega⟩
            · have hv2 : (gv.toList == x1.toList) = false := by
                cases e : (gv.toList == x1.toList) with
                | false => rfl
                | true => exact absurd (toList_inj (by simpa using e)) hv
              have HN : Hid (heldM M x0 ≠ (x1, true)) := by show _ ≠ _; rw [HG.out.2.2]; intro h9; exact hv (by cases h9; rfl)
              clear hv
              have RR : Hid (applyB L ds = (L, 18)) := R18.out FM.out HN.out
              clear R3 R18 RS
              go_wp2_with fail
              go_ret2
              exact RB.out _ _ RR.out B5.out
        | false =>
          by_cases he : x2 = ⟨#[]⟩
          · subst he
            have FM : Hid (formB (x0, x1, ⟨#[]⟩, true, false) = true) := form_gone HF.out hold2
            cases gh with
            | false =>
              have RR : Hid (applyB L ds = (L, 18)) := R18.out FM.out (by rw [HG.out.2.2]; intro h9; cases h9)
              clear R3 R18 RS
              go_wp2_with fail
              go_ret2
              exact RB.out _ _ RR.out B5.out
            | true =>
              by_cases hv : gv = x1
              · subst hv
                have ST := RS.out (FM.out) (HG.out.2.2)
                have SL : Hid (dropTo (fstL M) (sndL M) x0 m = stepM M (x0, gv, ⟨#[]⟩, true, false)) := by show _ = _; rw [← HM.out]; exact dropTo_step (d := (x0, gv, ⟨#[]⟩, true, false)) hM.out.1.2 rfl
                generalize hst : stepM M (x0, gv, ⟨#[]⟩, true, false) = M2 at ST SL
                have G6 : Hid (GoodL M2 ∧ M2.length ≤ m + 1 ∧ runM L ds = runM M2 (ds.drop (k + 1))) := ST
                clear R3 R18 RS ST hst
                go_wp2_with fail
                refine (l01Drop ua m uc (fstL M) (sndL M) x0 _ (by omega) (sp_of S5.out HM.out)).mono ?_
                rw [SL.out]
                rintro e w6 ⟨v6, rfl, o6, hb6⟩
                have o7 : w6.ownsRow w5.heap.size 70 2 v6 M2.length (cellsP M2) := o6
                obtain ⟨ub, ud, rfl, us, _⟩ := own_src o7
                obtain ⟨m2, hm2⟩ : ∃ j, M2.length = j := ⟨_, rfl⟩
                have cp := (own_capx o7).1
                rw [hm2] at cp
                rw [hm2]
                have U6 : Hid (Src w6 ub (cellsP M2) ∧ M2.length = m2) := ⟨us, hm2⟩
                have hm6 : m2 ≤ m + 1 := by rw [← hm2]; exact G6.out.2.1
                have B6 : Hid (Below w.heap.size w w6) := B5.out.trans (hb6.mono B5.out.size)
                clear hb6 o6 o7 us hm2 p0 p1 p2 p3 p4
                go_wp2_with fail
                exact ⟨⟨k + 1, m2, ud, ub, M2, by omega, by go_num, rfl, cp, by omega, U6.out.2, U6.out.1, ⟨G6.out.1, G6.out.2.2⟩, B6.out⟩, by simp [intOf]; omega⟩
              · have hv2 : (gv.toList == x1.toList) = false := by
                  cases e : (gv.toList == x1.toList) with
                  | false => rfl
                  | true => exact absurd (toList_inj (by simpa using e)) hv
                have HN : Hid (heldM M x0 ≠ (x1, true)) := by show _ ≠ _; rw [HG.out.2.2]; intro h9; exact hv (by cases h9; rfl)
                clear hv
                have RR : Hid (applyB L ds = (L, 18)) := R18.out FM.out HN.out
                clear R3 R18 RS
                go_wp2_with fail
                go_ret2
                exact RB.out _ _ RR.out B5.out
          · have hz : ¬ x2.toList = [] := empty_ne he
            have hz3 : x2.toList.isEmpty = false := by cases e : x2.toList with
              | nil => exact absurd e hz
              | cons _ _ => rfl
            have FM : Hid (formB (x0, x1, x2, true, false) = false) := form_isA he
            clear he
            have RR : Hid (applyB L ds = (L, 3)) := R3.out FM.out
            clear R3 R18 RS
            go_wp2_with fail
            go_ret2
            exact RB.out _ _ RR.out B5.out
    · have hkm : k = n2 := by omega
      have RM : Hid (runM L ds = (M, 0)) := by
        show _ = _
        rw [hM.out.2, List.drop_eq_nil_of_le (by rw [HL.out.2]; omega)]
        rfl
      have hki : ¬ (k : Int) < (n2 : Int) := by omega
      by_cases hq : 60 < m
      · have RR : Hid (applyB L ds = (L, 7)) := applyB_full RM.out (by rw [HM.out]; exact hq)
        go_wp2_with fail
        go_ret2
        exact RB.out _ _ RR.out hb.out
      · have RR : Hid (applyB L ds = (M, 0)) := applyB_good RM.out (by rw [HM.out]; exact hq)
        go_wp2_with fail
        go_ret2
        exact ⟨ua, M, uc, 0, by rw [HM.out]; rfl, RR.out, by rw [HM.out]; omega, by rw [HM.out]; exact hmc, SU.out, hb.out⟩

/-- A chain that is replayed on. -/
def rgoA : List BM → List PM → ByteArray → Int → List PM × Int
  | [], P, _, _ => (P, 0)
  | D :: H, P, l, c => if (folA P l c D).2 ≠ 0 then ([], (folA P l c D).2) else rgoA H (folA P l c D).1 D.T ((linkN D : Nat) : Int)
def rbA (H : List BM) : List PM × Int := if H.all okK = true then rgoA H [] ⟨#[]⟩ 0 else ([], 1)
def rpaA (H : List BM) : List PM × Int := if 4096 < H.length then ([], 2) else if 20 < H.length then ([], 6) else rbA H
theorem okP_nil : okP [] = true := by decide
theorem rgo_bad {H : List BM} {P : List PM} {l : ByteArray} {c : Int} {D : BM} {R : List PM} {q : Int} (h : folA P l c D = (R, q)) (hq : q ≠ 0) : rgoA (D :: H) P l c = ([], q) := by rw [rgoA, h, if_pos hq]
theorem rgo_good {H : List BM} {P : List PM} {l : ByteArray} {c : Int} {D : BM} {R : List PM} (h : folA P l c D = (R, 0)) : rgoA (D :: H) P l c = rgoA H R D.T ((linkN D : Nat) : Int) := by rw [rgoA, h, if_neg (by simp)]
theorem rgo_ok : ∀ (H : List BM) (P : List PM) (l : ByteArray) (c : Int) (R : List PM) (q : Int), okP P = true → rgoA H P l c = (R, q) → okP R = true
  | [], P, l, c, R, q, hk, h => by rw [rgoA] at h; cases h; exact hk
  | D :: H, P, l, c, R, q, hk, h => by
    obtain ⟨X, x, hx⟩ : ∃ X x, folA P l c D = (X, x) := ⟨_, _, rfl⟩
    by_cases h0 : x = 0
    · subst h0
      rw [rgo_good hx] at h
      exact rgo_ok H _ _ _ R q (fol_len hk hx) h
    · rw [rgo_bad hx h0] at h
      cases h
      exact okP_nil
theorem rpa_small {H : List BM} {R : List PM} {q : Int} (h : rpaA H = (R, q)) : R.length ≤ 1048576 := by
  unfold rpaA at h
  split at h
  · cases h; simp
  split at h
  · cases h; simp
  unfold rbA at h
  split at h
  · have := (okP_fitR (rgo_ok _ _ _ _ _ _ okP_nil h)).1; omega
  · cases h; simp
theorem take_snocR {H : List BM} {k : Nat} {D : BM} (hk : k < H.length) (h : H.getD k bk0 = D) : H.take (k + 1) = H.take k ++ [D] := by
  rw [List.take_succ_eq_append_getElem hk, ← h, List.getD_eq_getElem?_getD, List.getElem?_eq_getElem hk]; rfl
theorem drop_consR {H : List BM} {k : Nat} {D : BM} (hk : k < H.length) (h : H.getD k bk0 = D) : H.drop k = D :: H.drop (k + 1) := by
  rw [List.drop_eq_getElem_cons hk, ← h, List.getD_eq_getElem?_getD, List.getElem?_eq_getElem hk]; rfl
theorem all_badR {H : List BM} {k : Nat} {D : BM} (hk : k < H.length) (h : H.getD k bk0 = D) (hb : okK D = false) : rbA H = ([], 1) := by
  unfold rbA
  rw [if_neg]
  have : H.all okK = false := by
    rw [List.all_eq_false]
    exact ⟨D, by rw [← h]; exact getD_memB H k hk, by rw [hb]; decide⟩
  rw [this]; decide
theorem all_atR {H : List BM} {k : Nat} {D : BM} (ha : H.all okK = true) (hk : k < H.length) (h : H.getD k bk0 = D) : okK D = true := by
  rw [List.all_eq_true] at ha
  exact ha D (by rw [← h]; exact getD_memB H k hk)

set_option maxHeartbeats 4000000 in
theorem l06ReplayC (P : List PM) (l : ByteArray) (c : Int) (D : BM) (v : Value) (a : Option Addr) (n cc : Nat) (w : World) (hP : P.length = n) (hcc : n ≤ cc) (hk : okP P = true) (hd : okK D = true) (hs : smallK D) (h : Src w a (cellsP P)) (hv : ReadsK w v D) :
    Calls Tryz.prog 39 #[.slice a n cc, .string l, .int .i64 c, v] w fun e w' => ∃ u R uc q, e = .returned (.tuple #[.slice u R.length uc, .int .i64 q]) ∧ folA P l c D = (R, q) ∧ R.length ≤ uc ∧ Src w' u (cellsP R) ∧ Below w.heap.size w w' := by
  obtain ⟨b, d, rfl, hb⟩ := hv
  obtain ⟨F, hF⟩ : ∃ A, D.F = A := ⟨_, rfl⟩
  obtain ⟨T, hT⟩ : ∃ A, D.T = A := ⟨_, rfl⟩
  obtain ⟨C, hC⟩ : ∃ A, D.C = A := ⟨_, rfl⟩
  obtain ⟨S, hS⟩ : ∃ A, D.S = A := ⟨_, rfl⟩
  obtain ⟨m, hm⟩ : ∃ n, D.D.length = n := ⟨_, rfl⟩
  have F0 := okK_facts hd
  have HD : Hid (D.F = F ∧ D.C = C ∧ D.S = S ∧ D.D.length = m) := ⟨hF, hC, hS, hm⟩
  have hm120 : m ≤ 120 := by rw [← hm]; exact F0.2.2.2.2.1
  have HS2 : Hid (∀ x ∈ D.D, x.1.size ≤ 1048576 ∧ x.2.1.size ≤ 1048576 ∧ x.2.2.1.size ≤ 1048576) := hs.2.2.2
  have SP : Hid (Src w a (cellsP P)) := h
  have SD : Hid (Src w b (cellsDf D.D)) := hb
  have HP : Hid (P.length = n ∧ okP P = true) := ⟨hP, hk⟩
  have GP : Hid (GoodL P) := (okP_good hk).1
  have HCC : Hid (n ≤ cc) := hcc
  have hn60 : n ≤ 60 := by rw [← hP]; exact (okP_good hk).2
  rw [hF, hT, hC, hS, hm]
  clear F0 hF hT hC hS hm hP hk hd hs h hb
  by_cases e1 : F = l
  case neg =>
    have R1 : Hid (folA P l c D = (P, 13)) := by show _ = _; unfold folA; rw [if_pos (by rw [HD.out.1]; exact e1)]
    have hne : (F.toList == l.toList) = false := by
      rw [beq_eq_false_iff_ne]; exact fun e => e1 (toList_injF e)
    go_enter Tryz.func39, Tryz.ntmps39
    go_wp2_with fail
    go_ret2
    exact ⟨a, P, cc, 13, by rw [HP.out.1]; rfl, R1.out, by rw [HP.out.1]; exact HCC.out, SP.out.below ((Below.refl _ _).alloc (Nat.le_refl _) _), (Below.refl _ _).alloc (Nat.le_refl _) _⟩
  subst e1
  have hne : (F.toList == F.toList) = true := by simp
  by_cases e2 : C = c
  case neg =>
    have R1 : Hid (folA P F c D = (P, 14)) := by show _ = _; unfold folA; rw [if_neg (by rw [HD.out.1]; simp), if_pos (by rw [HD.out.2.1]; exact e2)]
    have hne2 : (C != c) = true := by simpa using e2
    go_enter Tryz.func39, Tryz.ntmps39
    go_wp2_with fail
    go_ret2
    exact ⟨a, P, cc, 14, by rw [HP.out.1]; rfl, R1.out, by rw [HP.out.1]; exact HCC.out, SP.out.below ((Below.refl _ _).alloc (Nat.le_refl _) _), (Below.refl _ _).alloc (Nat.le_refl _) _⟩
  subst e2
  have hne2 : (C != C) = false := by simp
  have R2 : Hid (folA P F C D = if (applyB P D.D).2 ≠ 0 then (P, (applyB P D.D).2) else if ((sumL (fsP (applyB P D.D).1) : Nat) : Int) ≠ D.S then (P, 8) else ((applyB P D.D).1, 0)) := by
    show _ = _; unfold folA; rw [if_neg (by rw [HD.out.1]; simp), if_neg (by rw [HD.out.2.1]; simp)]
  go_enter Tryz.func39, Tryz.ntmps39
  go_wp2_with fail
  refine (l05ApplyC a b n m cc d P D.D _ HP.out.1 HD.out.2.2.2 hcc hn60 hm120 GP.out HS2.out (SP.out.below ((Below.refl _ _).alloc (Nat.le_refl _) _)) (SD.out.below ((Below.refl _ _).alloc (Nat.le_refl _) _))).mono ?_
  rintro e w1 ⟨ua, R, uc, q, rfl, hR, hR4, hRc, s1, hb1⟩
  have B1 : Hid (Below w.heap.size w w1) := Below.new hb1
  have X1 : Hid (Box w1 w.heap.size [.string F, .string T, .int .i64 C, .slice b m d, .int .i64 S]) := Box.below (Box.new rfl) hb1
  have S1 : Hid (Src w1 ua (cellsP R)) := s1
  have HR : Hid (applyB P D.D = (R, q)) := hR
  have HRC : Hid (R.length ≤ uc) := hRc
  clear hb1 s1 hR hRc
  by_cases e3 : q = 0
  case neg =>
    have R3 : Hid (folA P F C D = (P, q)) := by show _ = _; rw [R2.out, HR.out, if_pos e3]
    have hne3 : (q != 0) = true := by simpa using e3
    obtain ⟨k, hk⟩ : ∃ k, R.length = k := ⟨_, rfl⟩
    rw [hk]
    clear hk
    go_wp2_with fail
    go_ret2
    exact ⟨a, P, cc, q, by rw [HP.out.1]; rfl, R3.out, by rw [HP.out.1]; exact HCC.out, SP.out.below B1.out, B1.out⟩
  subst e3
  have GR : Hid (GoodL R ∧ R.length ≤ 60) := applyB_goodL GP.out HR.out
  have FR : Hid (R.length ≤ 60 ∧ ∀ p ∈ R, p.1.size ≤ 90 ∧ p.2.size ≤ 90) := okP_fitR (GR.out.1.pairsB GR.out.2)
  have R3 : Hid (folA P F C D = if ((sumL (fsP R) : Nat) : Int) ≠ S then (P, 8) else (R, 0)) := by show _ = _; rw [R2.out, HR.out, if_neg (by simp), HD.out.2.2.1]
  obtain ⟨z, hz⟩ : ∃ z, sumL (fsP R) = z := ⟨_, rfl⟩
  have HZ : Hid (sumL (fsP R) = z) := hz
  obtain ⟨p0, _⟩ := X1.out 0 _ rfl
  obtain ⟨p1, _⟩ := X1.out 1 _ rfl
  obtain ⟨p2, _⟩ := X1.out 2 _ rfl
  obtain ⟨p3, _⟩ := X1.out 3 _ rfl
  obtain ⟨p4, _⟩ := X1.out 4 _ rfl
  obtain ⟨k, hk⟩ : ∃ k, R.length = k := ⟨_, rfl⟩
  have HK : Hid (R.length = k) := hk
  have hk60 : k ≤ 60 := by rw [← hk]; exact FR.out.1
  rw [hk]
  clear hz hk
  by_cases e4 : (z : Int) = S
  · have R4 : Hid (folA P F C D = (R, 0)) := by show _ = _; rw [R3.out, HZ.out, if_neg (by simpa using e4)]
    have hne4 : ((z : Int) != S) = false := by simpa using e4
    go_wp2_with fail
    go_region_with (go_at_call 71; refine (l06Sum ua k uc R _ HK.out hk60 FR.out.2 (show Src w1.drew ua (cellsP R) from S1.out)).mono ?_; rw [HZ.out]; rintro e w2 ⟨rfl, hb2⟩; obtain r4 := (hb2.cell (p := ⟨w.heap.size, 4, none⟩) (World.block_lt_of_cell? _ _ p4)).trans p4)
    all_goals
      have B2 : Hid (Below w.heap.size w w2) := B1.out.drew.trans (hb2.mono B1.out.size)
      have S2 : Hid (Src w2 ua (cellsP R)) := (show Src w1.drew ua (cellsP R) from S1.out).below hb2
      clear hb2
      go_wp2_with fail
      go_ret2
      exact ⟨ua, R, uc, 0, by rw [HK.out]; rfl, R4.out, HRC.out, S2.out, B2.out⟩
  · have R4 : Hid (folA P F C D = (P, 8)) := by show _ = _; rw [R3.out, HZ.out, if_pos e4]
    have hne4 : ((z : Int) != S) = true := by simpa using e4
    go_wp2_with fail
    go_region_with (go_at_call 71; refine (l06Sum ua k uc R _ HK.out hk60 FR.out.2 (show Src w1.drew ua (cellsP R) from S1.out)).mono ?_; rw [HZ.out]; rintro e w2 ⟨rfl, hb2⟩; obtain r4 := (hb2.cell (p := ⟨w.heap.size, 4, none⟩) (World.block_lt_of_cell? _ _ p4)).trans p4)
    all_goals
      have B2 : Hid (Below w.heap.size w w2) := B1.out.drew.trans (hb2.mono B1.out.size)
      clear hb2
      go_wp2_with fail
      go_ret2
      exact ⟨a, P, cc, 8, by rw [HP.out.1]; rfl, R4.out, by rw [HP.out.1]; exact HCC.out, SP.out.below B2.out, B2.out⟩

end Go.Proofs.YtmbndpgoihdpnaaGreatDoor
namespace Go.Proofs.YtmbndpgoihdpnaaGreatDoor
open Go.ChangeShapes Go.WideShapes Go.ChangeAt Go.RowKit Go.Deep Go.Extern.Stop Go.Stop Go.Extern
set_option linter.unusedVariables false
set_option maxRecDepth 100000

theorem xNoAsP (v : Value) (xT : TypeId) (w : World) : (Instr.typeAssert (.iface 124 v) xT 188 true).run Tryz.prog w = .ok (.tuple #[.nilIface, .bool false]) w := run_typeAssert_lacksB Tryz.underlying188 (by kernel_rfl) (by kernel_rfl) v xT w
theorem xHasUnwP (v : Value) (xT : TypeId) (w : World) : (Instr.typeAssert (.iface 124 v) xT 191 true).run Tryz.prog w = .ok (.tuple #[.iface 124 v, .bool true]) w := run_typeAssert_hasB Tryz.underlying191 (by kernel_rfl) v xT w
theorem xmUnw (z : Value) (w : World) : (Go.method 354 124 z "Unwrap").run Tryz.prog w = .ok (174, z) w := by kernel_rfl
theorem xTypeOfP (v : Value) (w : World) : (ReflectliteType.typeOf #[.iface 124 v]).run Tryz.prog w = .ok (.iface 184 (.agg #[.pointer (some ⟨4, 124, none⟩)])) w := by kernel_rfl
theorem xAssignP (w : World) : (ReflectliteType.relation "AssignableTo" ReflectliteType.assignableTo #[.agg #[.pointer (some ⟨4, 124, none⟩)], .iface 184 (.agg #[.pointer (some ⟨4, 113, none⟩)])]).run Tryz.prog w = .ok (.bool false) w := by kernel_rfl

set_option maxHeartbeats 8000000 in
theorem as_hitP (e t : Addr) (eb : Nat) (old : Value) (w : World) (hp : w.cell? ⟨eb, 1, none⟩ = some (.iface 113 (.pointer (some e)))) (hg : HasErr w) (ht0 : w.cell? t = some old) (hf0 : w.frozen? t = false) :
    Calls Tryz.prog 77 #[.iface 124 (.pointer (some ⟨eb, 0, none⟩)), .iface 117 (.pointer (some t))] w fun ev w' => ev = .returned (.bool true) ∧ w' = (((((w.alloc (.cells #[.pointer (some t)] 117)).alloc (.cells #[.pointer (some ⟨4, 117, none⟩), .pointer (some ⟨w.heap.size, 0, none⟩), .int .u64 150] 153)).alloc (.cells #[.pointer (some ⟨4, 117, none⟩), .pointer (some ⟨w.heap.size, 0, none⟩), .int .u64 150] 153)).alloc (.cells #[.pointer (some e)] 113))).setCell t (.pointer (some e)) := by
  have h6 := @run_callFunc_extern Tryz.prog 105 _ (fun args => ReflectliteValue.unpack (args.getD 0 (.tuple #[]))) Tryz.func105 (by kernel_rfl) (by kernel_rfl) (by kernel_rfl) (by kernel_rfl)
  have h7 := @run_callFunc_extern Tryz.prog 106 _ (ReflectliteValue.methodAny (ReflectliteValue.valueError "reflectlite.Value.Type" 0) (fun t _ _ _ => ReflectliteType.toType t)) Tryz.func106 (by kernel_rfl) (by kernel_rfl) (by kernel_rfl) (by kernel_rfl)
  have h8 := @run_callFunc_extern Tryz.prog 107 _ (ReflectliteValue.method (ReflectliteValue.valueError "reflectlite.Value.IsNil" 0) ReflectliteValue.isNil) Tryz.func107 (by kernel_rfl) (by kernel_rfl) (by kernel_rfl) (by kernel_rfl)
  have h27 := @run_callFunc_extern Tryz.prog 168 _ (ReflectliteType.abiMethod fun t => do pure (.int .u8 (← Rtype.kind t))) Tryz.func168 (by kernel_rfl) (by kernel_rfl) (by kernel_rfl) (by kernel_rfl)
  have h37 := @run_callFunc_extern Tryz.prog 181 _ (ReflectliteType.method ReflectliteType.elem) Tryz.func181 (by kernel_rfl) (by kernel_rfl) (by kernel_rfl) (by kernel_rfl)
  have h38 := @run_callFunc_extern Tryz.prog 182 _ (ReflectliteType.relation "Implements" ReflectliteType.implements_) Tryz.func182 (by kernel_rfl) (by kernel_rfl) (by kernel_rfl) (by kernel_rfl)
  have h10 := @run_callFunc_extern Tryz.prog 109 _ ReflectliteType.typeOf Tryz.func109 (by kernel_rfl) (by kernel_rfl) (by kernel_rfl) (by kernel_rfl)
  have h35 := @run_callFunc_extern Tryz.prog 179 _ (ReflectliteType.relation "AssignableTo" ReflectliteType.assignableTo) Tryz.func179 (by kernel_rfl) (by kernel_rfl) (by kernel_rfl) (by kernel_rfl)
  have h11 := @run_callFunc_extern Tryz.prog 127 _ (ReflectliteValue.method (ReflectliteValue.valueError "reflectlite.Value.Elem" 0) ReflectliteValue.elem) Tryz.func127 (by kernel_rfl) (by kernel_rfl) (by kernel_rfl) (by kernel_rfl)
  have h12 := @run_callFunc_extern Tryz.prog 128 _ ReflectliteValue.set Tryz.func128 (by kernel_rfl) (by kernel_rfl) (by kernel_rfl) (by kernel_rfl)
  have tO := xTypeOf
  have mA := xmAssign
  have a25 := xAssign
  have v25 := xValueOfR
  have f6 := xValueOf
  have f7 := xType
  have mK := xmKind
  have mE := xmElem
  have mI := xmImpl
  have k27 := xKindRR
  have k25 := xKindR
  have e27 := xElem
  have i25 := xImpl
  have tP := xTypeOfP
  have aP := xAssignP
  have nA := xNoAsP
  have hU := xHasUnwP
  have mU := xmUnw
  have n8 := xIsNil ⟨w.heap.size, 0, none⟩ t ((w.alloc (.cells #[.pointer (some t)] 117)).alloc (.cells #[.pointer (some ⟨4, 117, none⟩), .pointer (some ⟨w.heap.size, 0, none⟩), .int .u64 150] 153)) (by simp)
  have hlt : 1 < w.heap.size := World.block_lt_of_cell? _ _ hg
  have hg2 : ((w.alloc (.cells #[.pointer (some t)] 117)).alloc (.cells #[.pointer (some ⟨4, 117, none⟩), .pointer (some ⟨w.heap.size, 0, none⟩), .int .u64 150] 153)).cell? ⟨1, 0, none⟩ = some (.iface 184 (.agg #[.pointer (some ⟨4, 77, none⟩)])) := by
    rw [World.cell?_alloc_lt _ _ ⟨1, 0, none⟩ (by simp; omega), World.cell?_alloc_lt _ _ ⟨1, 0, none⟩ hlt]; exact hg
  have hpl : eb < w.heap.size := World.block_lt_of_cell? _ _ hp
  have hp3 : (((w.alloc (.cells #[.pointer (some t)] 117)).alloc (.cells #[.pointer (some ⟨4, 117, none⟩), .pointer (some ⟨w.heap.size, 0, none⟩), .int .u64 150] 153)).alloc (.cells #[.pointer (some ⟨4, 117, none⟩), .pointer (some ⟨w.heap.size, 0, none⟩), .int .u64 150] 153)).cell? ⟨eb, 1, none⟩ = some (.iface 113 (.pointer (some e))) := by
    rw [World.cell?_alloc_lt _ _ ⟨eb, 1, none⟩ (by simp; omega), World.cell?_alloc_lt _ _ ⟨eb, 1, none⟩ (by simp; omega), World.cell?_alloc_lt _ _ ⟨eb, 1, none⟩ hpl]; exact hp
  have htl : t.block < w.heap.size := by
    rcases Nat.lt_or_ge t.block w.heap.size with h | h
    · exact h
    · simp [World.cell?, Array.getElem?_eq_none h] at ht0
  have el := xElemV ⟨w.heap.size, 0, none⟩ t (((w.alloc (.cells #[.pointer (some t)] 117)).alloc (.cells #[.pointer (some ⟨4, 117, none⟩), .pointer (some ⟨w.heap.size, 0, none⟩), .int .u64 150] 153)).alloc (.cells #[.pointer (some ⟨4, 117, none⟩), .pointer (some ⟨w.heap.size, 0, none⟩), .int .u64 150] 153)) (by rw [World.cell?_alloc_lt _ _ ⟨w.heap.size, 0, none⟩ (by simp; omega)]; simp)
  have st := xSet t ⟨w.heap.size + 1 + 1 + 1, 0, none⟩ e old ((((w.alloc (.cells #[.pointer (some t)] 117)).alloc (.cells #[.pointer (some ⟨4, 117, none⟩), .pointer (some ⟨w.heap.size, 0, none⟩), .int .u64 150] 153)).alloc (.cells #[.pointer (some ⟨4, 117, none⟩), .pointer (some ⟨w.heap.size, 0, none⟩), .int .u64 150] 153)).alloc (.cells #[.pointer (some e)] 113))
    (by rw [World.cell?_alloc_at _ _ _ _ (by simp)]; rfl)
    (by rw [World.cell?_alloc_lt _ _ t (by simp; omega), World.cell?_alloc_lt _ _ t (by simp; omega), World.cell?_alloc_lt _ _ t (by simp; omega), World.cell?_alloc_lt _ _ t htl]; exact ht0)
    (by rw [World.frozen?_alloc_old _ _ t (by simp; omega), World.frozen?_alloc_old _ _ t (by simp; omega), World.frozen?_alloc_old _ _ t (by simp; omega), World.frozen?_alloc_old _ _ t (Nat.ne_of_lt htl)]; exact hf0)
  go_enter Tryz.func77, Tryz.ntmps77
  go_wp2
  refine wp_loop_rounds 2 ?_
  rw [rounds_succ]
  go_wp2
  rw [rounds_succ]
  go_wp2
  go_ret
  exact ⟨rfl, rfl⟩

set_option maxHeartbeats 2000000 in
theorem codeInP (eb ep : Nat) (k q : Int) (w : World) (hb : Box w eb [.int .i64 q]) (hp : Box w ep [.int .i64 k, .iface 113 (.pointer (some ⟨eb, 0, none⟩))]) (hE : HasErr w) :
    Calls Tryz.prog 46 #[.iface 124 (.pointer (some ⟨ep, 0, none⟩))] w fun e w' => e = .returned (.int .i64 q) ∧ Below w.heap.size w w' := by
  obtain ⟨hq, _⟩ := hb 0 _ rfl
  obtain ⟨hr, _⟩ := hp 1 _ rfl
  have hlt : eb < w.heap.size := World.block_lt_of_cell? _ _ hq
  have HQ : Hid (w.cell? ⟨eb, 0, none⟩ = some (.int .i64 q)) := hq
  have HR : Hid (w.cell? ⟨ep, 1, none⟩ = some (.iface 113 (.pointer (some ⟨eb, 0, none⟩)))) := hr
  have HE : Hid (HasErr w) := hE
  have hlr : ep < w.heap.size := World.block_lt_of_cell? _ _ hr
  clear hq hr hb hp hE
  go_enter Tryz.func46, Tryz.ntmps46
  go_wp2_with fail
  refine (as_hitP ⟨eb, 0, none⟩ ⟨w.heap.size, 0, none⟩ ep (.pointer none) _ (by rw [World.cell?_alloc_lt _ _ _ hlr]; exact HR.out) (HE.out.below ((Below.refl _ _).alloc (Nat.le_refl _) _)) (by simp) (by simp)).mono ?_
  rintro e w1 ⟨rfl, hw1⟩
  have h1 : w1.cell? ⟨w.heap.size, 0, none⟩ = some (.pointer (some ⟨eb, 0, none⟩)) := by
    rw [hw1]
    exact World.cell?_setCell_same _ _ _ (u := .pointer none) (by
      rw [World.cell?_alloc_lt _ _ _ (by simp; omega), World.cell?_alloc_lt _ _ _ (by simp; omega), World.cell?_alloc_lt _ _ _ (by simp; omega), World.cell?_alloc_lt _ _ _ (by simp)]; simp)
  have B1 : Below w.heap.size w w1 := by
    rw [hw1]
    exact Below.setCell (((((((Below.refl _ _).alloc (Nat.le_refl _) _).alloc (by simp) _).alloc (by simp; omega) _).alloc (by simp; omega) _).alloc (by simp; omega) _)) (by dsimp only; omega) _
  have h2 : w1.cell? ⟨eb, 0, none⟩ = some (.int .i64 q) := (B1.cell (p := ⟨eb, 0, none⟩) hlt).trans HQ.out
  have HB : Hid (Below w.heap.size w w1) := B1
  clear hw1 B1
  go_wp2_with fail
  go_ret
  exact ⟨rfl, HB.out⟩
end Go.Proofs.YtmbndpgoihdpnaaGreatDoor
