
/-
  What a right session that takes mail is: the specification's SmtpOK. By an AI agent.
-/
import Derived.Test.YtbaljcdiofoppaaSmoi
namespace Go.Proofs.Ytbaljcdiofoppaa
open Go.ChangeShapes Go.WideShapes Go.ChangeAt Go.RowKit Go.Deep
set_option linter.unusedVariables false
set_option maxRecDepth 100000

theorem dup_zero (R : List ByteArray) : dupB R 0 = false := rfl
theorem dup_one {R : List ByteArray} (h : 1 < R.length) : dupB R 1 = ((R.getD 0 e0).toList == (R.getD 1 e0).toList) := by
  match R, h with
  | x :: y :: t, _ => simp [dupB]

set_option maxHeartbeats 4000000 in
theorem specSmtpOK (v : Value) (D : SMT) (w : World) (hs : smallT D) (h : ReadsT w v D) :
    Calls Try.prog 11 #[v] w fun e w' => e = .returned (.bool (okT D)) ∧ Below w.heap.size w w' := by
  obtain ⟨a, c, b, d, rfl, s1, s2⟩ := h
  obtain ⟨H, hH⟩ : ∃ H, D.H = H := ⟨_, rfl⟩
  obtain ⟨Q, hQ⟩ : ∃ Q, D.D = Q := ⟨_, rfl⟩
  obtain ⟨O, hO⟩ : ∃ O, D.O = O := ⟨_, rfl⟩
  obtain ⟨F, hF⟩ : ∃ F, D.F = F := ⟨_, rfl⟩
  obtain ⟨n, hn⟩ : ∃ n, D.R.length = n := ⟨_, rfl⟩
  obtain ⟨m, hm⟩ : ∃ m, D.L.length = m := ⟨_, rfl⟩
  have S1 : Hid (Src w a (cellsS D.R)) := s1
  have S2 : Hid (Src w b (cellsS D.L)) := s2
  have N1 : Hid (D.R.length = n) := hn
  have N2 : Hid (D.L.length = m) := hm
  have HSM : Hid (smallT D) := hs
  have NB : n ≤ 1048576 := by rw [← hn]; exact hs.1.1
  have MB : m ≤ 1048576 := by rw [← hm]; exact hs.2.1.1
  obtain ⟨bb, hbb⟩ : ∃ bb, okT D = bb := ⟨_, rfl⟩
  obtain ⟨rb, hrb⟩ : ∃ rb, rcptsB D.R = rb := ⟨_, rfl⟩
  obtain ⟨lb, hlb⟩ : ∃ lb, linesB D.L = lb := ⟨_, rfl⟩
  have RB : Hid (rcptsB D.R = rb) := hrb
  have LB : Hid (linesB D.L = lb) := hlb
  have HF : Hid (bb = ((F.toList == [] || (shortB F && H && O)) && (decide (n ≤ 2) && !(decide (0 < n) && F.toList == []) && rb) && (!(Q && n == 0) && !(decide (0 < m) && !Q) && decide (m ≤ 9) && lb))) := by
    show bb = _
    rw [← hbb, ← hF, ← hH, ← hO, ← hQ, ← hn, ← hm, ← hrb, ← hlb]; rfl
  have SF : Hid (F.size ≤ maxLen) := by show F.size ≤ maxLen; unfold maxLen; rw [← hF]; have := hs.2.2; omega
  rw [hbb, hH, hQ, hO, hF, hn, hm]
  clear s1 s2 hH hQ hO hF hn hm hbb hs hrb hlb
  by_cases t1 : (2 : Int) < (n : Int)
  · have R1 : Hid (bb = false) := by show _ = _; rw [HF.out]; rw [decide_eq_false (p := n ≤ 2) (by omega)]; simp
    clear HF
    go_enter Try.func11, Try.ntmps11
    go_wp2_with fail
    go_ret
    exact ⟨ret_bool R1.out.symm, (Below.refl _ _).alloc (Nat.le_refl _) _⟩
  by_cases t2 : (9 : Int) < (m : Int)
  · have R1 : Hid (bb = false) := by show _ = _; rw [HF.out]; rw [decide_eq_false (p := m ≤ 9) (by omega)]; simp
    clear HF
    go_enter Try.func11, Try.ntmps11
    go_wp2_with fail
    go_ret
    exact ⟨ret_bool R1.out.symm, (Below.refl _ _).alloc (Nat.le_refl _) _⟩
  cases e1 : F.toList == [] with
  | true =>
    have e2 : F.toList = [] := by simpa using e1
    by_cases t3 : n = 0
    case neg =>
      have t4 : (0 : Int) < (n : Int) := by omega
      have R1 : Hid (bb = false) := by show _ = _; rw [HF.out]; rw [e1, decide_eq_true (p := 0 < n) (by omega)]; simp
      clear HF
      go_enter Try.func11, Try.ntmps11
      go_wp2_with fail
      go_ret
      exact ⟨ret_bool R1.out.symm, (Below.refl _ _).alloc (Nat.le_refl _) _⟩
    subst t3
    cases Q with
    | true =>
      have R1 : Hid (bb = false) := by show _ = _; rw [HF.out]; simp
      clear HF
      go_enter Try.func11, Try.ntmps11
      go_wp2_with fail
      go_ret
      exact ⟨ret_bool R1.out.symm, (Below.refl _ _).alloc (Nat.le_refl _) _⟩
    | false =>
      by_cases t4 : m = 0
      case neg =>
        have t5 : (0 : Int) < (m : Int) := by omega
        have R1 : Hid (bb = false) := by show _ = _; rw [HF.out]; rw [decide_eq_true (p := 0 < m) (by omega)]; simp
        clear HF
        go_enter Try.func11, Try.ntmps11
        go_wp2_with fail
        go_ret
        exact ⟨ret_bool R1.out.symm, (Below.refl _ _).alloc (Nat.le_refl _) _⟩
      subst t4
      have RT : rb = true := by rw [← RB.out]; unfold rcptsB; rw [N1.out]; rfl
      have LT : lb = true := by rw [← LB.out]; unfold linesB; rw [N2.out]; rfl
      have R1 : Hid (bb = true) := by show _ = _; rw [HF.out, e1, RT, LT]; rfl
      clear HF RT LT
      go_enter Try.func11, Try.ntmps11
      go_wp2_with fail
      go_loopw [3] (fun i wr => i = .int .i64 0 ∧ Hid (Below w.heap.size w wr) ∧ Hid (Box wr w.heap.size [.bool H, .bool false, .bool O, .string F, .slice a 0 c, .slice b 0 d])) (fun i _ => 0)
      case atStart => exact ⟨rfl, (Below.refl _ _).alloc (Nat.le_refl _) _, Box.new rfl⟩
      case round =>
        obtain ⟨rfl, hb, hx⟩ := hrel
        obtain ⟨g4, _⟩ := hx.out 4 _ rfl
        go_wp2_with fail
        go_loopw [4] (fun i wt => i = .int .i64 0 ∧ Hid (wt = wr)) (fun i _ => 0)
        case atStart => exact ⟨rfl, rfl⟩
        case round =>
          obtain ⟨rfl, hwt⟩ := hrel
          obtain rfl := hwt.out
          obtain ⟨g5, _⟩ := hx.out 5 _ rfl
          obtain ⟨g2, _⟩ := hx.out 2 _ rfl
          obtain ⟨g3, _⟩ := hx.out 3 _ rfl
          cases O
          all_goals
            go_wp2_with fail
            go_ret
            exact ⟨ret_bool R1.out.symm, hb.out⟩
  | false =>
    have e2 : ¬ F.toList = [] := by simpa using e1
    have e3 : F.toList.isEmpty = false := by rw [List.isEmpty_eq_false_iff]; exact e2
    cases H with
    | false =>
      have R1 : Hid (bb = false) := by show _ = _; rw [HF.out]; rw [e1]; simp
      clear HF
      go_enter Try.func11, Try.ntmps11
      go_wp2_with fail
      go_ret
      exact ⟨ret_bool R1.out.symm, (Below.refl _ _).alloc (Nat.le_refl _) _⟩
    | true =>
    cases h1 : shortB F with
    | false =>
      have H1 : Hid (shortB F = false) := h1
      have R1 : Hid (bb = false) := by show _ = _; rw [HF.out]; rw [e1, h1]; simp
      clear HF
      go_enter Try.func11, Try.ntmps11
      go_wp2_with fail
      refine (l04Is false F _ H1.out SF.out).mono ?_
      rintro e w1 ⟨rfl, rfl⟩
      go_wp2_with fail
      go_ret
      exact ⟨ret_bool R1.out.symm, (Below.refl _ _).alloc (Nat.le_refl _) _⟩
    | true =>
    have H1 : Hid (shortB F = true) := h1
    cases Q with
    | true =>
      by_cases t3 : n = 0
      · subst t3
        have R1 : Hid (bb = false) := by show _ = _; rw [HF.out]; simp
        clear HF
        go_enter Try.func11, Try.ntmps11
        go_wp2_with fail
        refine (l04Is true F _ H1.out SF.out).mono ?_
        rintro e w1 ⟨rfl, rfl⟩
        go_wp2_with fail
        go_ret
        exact ⟨ret_bool R1.out.symm, (Below.refl _ _).alloc (Nat.le_refl _) _⟩
      have t4 : ((n : Int) == 0) = false := by simp; omega
      have t4' : (n == 0) = false := by simp; omega
      have FP : Hid (bb = (O && rb && lb)) := by show _ = _; rw [HF.out, e1, h1, t4', decide_eq_true (p := n ≤ 2) (by omega), decide_eq_true (p := m ≤ 9) (by omega)]; simp
      clear HF h1
      by_cases t5 : n = 0
      · omega
      have t6 : (0 : Int) < (n : Int) := by omega
      clear t5 t3 t4'
      go_enter Try.func11, Try.ntmps11
      go_wp2_with fail
      refine (l04Is true F _ H1.out SF.out).mono ?_
      rintro e w1 ⟨rfl, rfl⟩
      go_wp2_with fail
      go_loopw [3] (fun i wr => ∃ k : Nat, k ≤ n ∧ i = .int .i64 k ∧ Hid (∀ j, j < k → rcptB D.R j = true) ∧ Hid (Below w.heap.size w wr) ∧ Hid (Box wr w.heap.size [.bool true, .bool true, .bool O, .string F, .slice a n c, .slice b m d])) (fun i _ => n - (intOf i).toNat)
      case atStart => exact ⟨0, by omega, rfl, fun j hj => absurd hj (by omega), (Below.refl _ _).alloc (Nat.le_refl _) _, Box.new rfl⟩
      case round =>
        obtain ⟨k, hk, rfl, hg, hb, hx⟩ := hrel
        obtain ⟨g4, _⟩ := hx.out 4 _ rfl
        by_cases hlt : k < n
        · obtain ⟨B, o, x, rfl, q1, hy⟩ := srcS (S1.out.below hb.out) (i := k) (by rw [N1.out]; exact hlt)
          have hki : (k : Int) < (n : Int) := by omega
          have hk0 : (0 : Int) ≤ (k : Int) := by omega
          have SX : Hid (x.size ≤ maxLen) := by
            show x.size ≤ maxLen
            have hk' : k < D.R.length := by rw [N1.out]; exact hlt
            have h1 := HSM.out.1.2 _ (List.getElem_mem hk')
            have h2 : D.R.getD k e0 = D.R[k] := by rw [List.getD_eq_getElem?_getD, List.getElem?_eq_getElem hk']; rfl
            rw [← h2, hy.out] at h1
            unfold maxLen; omega
          have hgd : Hid (rcptB D.R k = (shortB x && !dupB D.R k)) := by show _ = _; unfold rcptB; rw [hy.out]
          cases h1 : shortB x with
          | false =>
            have R1 : Hid (bb = false) := by
              show _ = _
              rw [FP.out, show rb = false from RB.out.symm.trans (all_bad (k := k) (by rw [N1.out]; exact hlt) (by rw [hgd.out, h1]; rfl))]
              simp
            have H9 : Hid (shortB x = false) := h1
            clear h1
            go_wp2_with fail
            go_quiet ((go_at_call 18; exact Calls.quiet_of_same (l04Is false x _ H9.out SX.out)))
            go_wp2_with fail
            go_ret
            exact ⟨ret_bool R1.out.symm, Below.drewN' hb.out _⟩
          | true =>
            have H9 : Hid (shortB x = true) := h1
            by_cases hz : k = 0
            · have G1 : Hid (rcptB D.R k = true) := by show _ = _; rw [hgd.out, h1, hz, dup_zero]; rfl
              have hkz : decide (0 < k) = false := by simp; omega
              have hkz2 : decide ((0 : Int) < (k : Int)) = false := by simp; omega
              clear hz h1
              go_wp2_with fail
              go_quiet ((go_at_call 18; exact Calls.quiet_of_same (l04Is true x _ H9.out SX.out)))
              go_wp2_with fail
              exact ⟨⟨k + 1, by omega, by go_num, fun j hj => by
                by_cases e : j = k
                · rw [e]; exact G1.out
                · exact hg.out j (by omega), Below.drewN' hb.out _, hx.out⟩, by simp [intOf]; omega⟩
            · obtain ⟨b4, o4, x4, e4, d1, hy4⟩ := srcS (S1.out.below hb.out) (i := 0) (by rw [N1.out]; omega)
              cases e4
              rw [Nat.add_zero] at d1
              have hkp : 0 < k := by omega
              have hkp2 : (0 : Int) < (k : Int) := by omega
              have hn0 : (0 : Int) < (n : Int) := by omega
              have hk1 : k = 1 := by omega
              have HD : Hid (dupB D.R k = (x.toList == x4.toList)) := by
                show _ = _
                rw [toList_comm, ← hy.out, ← hy4.out, hk1]
                exact dup_one (by rw [N1.out]; omega)
              clear hk1
              cases hl : x.toList == x4.toList with
              | false =>
                have G1 : Hid (rcptB D.R k = true) := by show _ = _; rw [hgd.out, h1, HD.out, hl]; rfl
                clear hz h1
                go_wp2_with fail
                go_quiet ((go_at_call 18; exact Calls.quiet_of_same (l04Is true x _ H9.out SX.out)))
                go_wp2_with fail
                exact ⟨⟨k + 1, by omega, by go_num, fun j hj => by
                  by_cases e : j = k
                  · rw [e]; exact G1.out
                  · exact hg.out j (by omega), Below.drewN' hb.out _, hx.out⟩, by simp [intOf]; omega⟩
              | true =>
                have R1 : Hid (bb = false) := by
                  show _ = _
                  rw [FP.out, show rb = false from RB.out.symm.trans (all_bad (k := k) (by rw [N1.out]; exact hlt) (by rw [hgd.out, h1, HD.out, hl]; rfl))]
                  simp
                have hl2 : x.toList = x4.toList := by simpa using hl
                clear hz h1
                go_wp2_with fail
                go_quiet ((go_at_call 18; exact Calls.quiet_of_same (l04Is true x _ H9.out SX.out)))
                go_wp2_with fail
                go_ret
                exact ⟨ret_bool R1.out.symm, Below.drewN' hb.out _⟩
        · have RT : Hid (rb = true) := RB.out.symm.trans (all_good fun j hj => hg.out j (by rw [N1.out] at hj; omega))
          have hb0 : Hid (Below w.heap.size w wr) := hb
          have hx0 : Hid (Box wr w.heap.size [.bool true, .bool true, .bool O, .string F, .slice a n c, .slice b m d]) := hx
          clear hg hb hx
          go_wp2_with fail
          go_loopw [4] (fun i wt => ∃ k : Nat, k ≤ m ∧ i = .int .i64 k ∧ Hid (∀ j, j < k → lineB D.L j = true) ∧ Hid (wt = wr)) (fun i _ => m - (intOf i).toNat)
          case atStart => exact ⟨0, by omega, rfl, fun j hj => absurd hj (by omega), rfl⟩
          case round =>
            obtain ⟨k, hk, rfl, hg, hwt⟩ := hrel
            obtain rfl := hwt.out
            obtain ⟨g5, _⟩ := hx0.out 5 _ rfl
            by_cases hlt : k < m
            · obtain ⟨B, o, x, rfl, q1, hy⟩ := srcS (S2.out.below hb0.out) (i := k) (by rw [N2.out]; exact hlt)
              have hki : (k : Int) < (m : Int) := by omega
              have hk0 : (0 : Int) ≤ (k : Int) := by omega
              have hgd : Hid (lineB D.L k = decide (x.size ≤ 60)) := by show _ = _; unfold lineB; rw [hy.out]
              by_cases h1 : (60 : Int) < (x.size : Int)
              · have R1 : Hid (bb = false) := by
                  show _ = _
                  rw [FP.out, show lb = false from LB.out.symm.trans (all_bad (k := k) (by rw [N2.out]; exact hlt) (by rw [hgd.out, decide_eq_false (by omega)]))]
                  simp
                go_wp2_with fail
                go_ret
                exact ⟨ret_bool R1.out.symm, hb0.out⟩
              · have G1 : Hid (lineB D.L k = true) := by show _ = _; rw [hgd.out, decide_eq_true (by omega)]
                go_wp2_with fail
                exact ⟨⟨k + 1, by omega, by go_num, fun j hj => by
                  by_cases e : j = k
                  · rw [e]; exact G1.out
                  · exact hg.out j (by omega), trivial⟩, by simp [intOf]; omega⟩
            · have LT : Hid (lb = true) := LB.out.symm.trans (all_good fun j hj => hg.out j (by rw [N2.out] at hj; omega))
              obtain ⟨g2, _⟩ := hx0.out 2 _ rfl
              obtain ⟨g3, _⟩ := hx0.out 3 _ rfl
              have R1 : Hid (bb = O) := by show _ = _; rw [FP.out, RT.out, LT.out]; simp
              cases O
              all_goals
                go_wp2_with fail
                go_ret
                exact ⟨ret_bool R1.out.symm, hb0.out⟩
      
    | false =>
      by_cases t5 : m = 0
      case neg =>
        have t6 : (0 : Int) < (m : Int) := by omega
        by_cases t7 : n = 0
        · subst t7
          have R1 : Hid (bb = false) := by show _ = _; rw [HF.out]; rw [decide_eq_true (p := 0 < m) (by omega)]; simp
          clear HF
          go_enter Try.func11, Try.ntmps11
          go_wp2_with fail
          refine (l04Is true F _ H1.out SF.out).mono ?_
          rintro e w1 ⟨rfl, rfl⟩
          go_wp2_with fail
          go_ret
          exact ⟨ret_bool R1.out.symm, (Below.refl _ _).alloc (Nat.le_refl _) _⟩
        have t8 : (0 : Int) < (n : Int) := by omega
        have R1 : Hid (bb = false) := by show _ = _; rw [HF.out]; rw [decide_eq_true (p := 0 < m) (by omega)]; simp
        clear HF
        go_enter Try.func11, Try.ntmps11
        go_wp2_with fail
        refine (l04Is true F _ H1.out SF.out).mono ?_
        rintro e w1 ⟨rfl, rfl⟩
        go_wp2_with fail
        go_ret
        exact ⟨ret_bool R1.out.symm, (Below.refl _ _).alloc (Nat.le_refl _) _⟩
      subst t5
      have FP : Hid (bb = (O && rb && lb)) := by show _ = _; rw [HF.out, e1, h1, decide_eq_true (p := n ≤ 2) (by omega)]; simp
      clear HF h1
      obtain ⟨m, hm0⟩ : ∃ m : Nat, m = 0 := ⟨0, rfl⟩
      by_cases t7 : n = 0
      · subst t7
        have RT : rb = true := by rw [← RB.out]; unfold rcptsB; rw [N1.out]; rfl
        have LT : lb = true := by rw [← LB.out]; unfold linesB; rw [N2.out]; rfl
        have R1 : Hid (bb = O) := by show _ = _; rw [FP.out, RT, LT]; simp
        clear FP RT LT
        go_enter Try.func11, Try.ntmps11
        go_wp2_with fail
        refine (l04Is true F _ H1.out SF.out).mono ?_
        rintro e w1 ⟨rfl, rfl⟩
        go_wp2_with fail
        go_loopw [3] (fun i wr => i = .int .i64 0 ∧ Hid (Below w.heap.size w wr) ∧ Hid (Box wr w.heap.size [.bool true, .bool false, .bool O, .string F, .slice a 0 c, .slice b 0 d])) (fun i _ => 0)
        case atStart => exact ⟨rfl, (Below.refl _ _).alloc (Nat.le_refl _) _, Box.new rfl⟩
        case round =>
          obtain ⟨rfl, hb, hx⟩ := hrel
          obtain ⟨g4, _⟩ := hx.out 4 _ rfl
          go_wp2_with fail
          go_loopw [4] (fun i wt => i = .int .i64 0 ∧ Hid (wt = wr)) (fun i _ => 0)
          case atStart => exact ⟨rfl, rfl⟩
          case round =>
            obtain ⟨rfl, hwt⟩ := hrel
            obtain rfl := hwt.out
            obtain ⟨g5, _⟩ := hx.out 5 _ rfl
            obtain ⟨g2, _⟩ := hx.out 2 _ rfl
            obtain ⟨g3, _⟩ := hx.out 3 _ rfl
            cases O
            all_goals
              go_wp2_with fail
              go_ret
              exact ⟨ret_bool R1.out.symm, hb.out⟩
      have t6 : (0 : Int) < (n : Int) := by omega
      clear t7
      go_enter Try.func11, Try.ntmps11
      go_wp2_with fail
      refine (l04Is true F _ H1.out SF.out).mono ?_
      rintro e w1 ⟨rfl, rfl⟩
      go_wp2_with fail
      go_loopw [3] (fun i wr => ∃ k : Nat, k ≤ n ∧ i = .int .i64 k ∧ Hid (∀ j, j < k → rcptB D.R j = true) ∧ Hid (Below w.heap.size w wr) ∧ Hid (Box wr w.heap.size [.bool true, .bool false, .bool O, .string F, .slice a n c, .slice b 0 d])) (fun i _ => n - (intOf i).toNat)
      case atStart => exact ⟨0, by omega, rfl, fun j hj => absurd hj (by omega), (Below.refl _ _).alloc (Nat.le_refl _) _, Box.new rfl⟩
      case round =>
        obtain ⟨k, hk, rfl, hg, hb, hx⟩ := hrel
        obtain ⟨g4, _⟩ := hx.out 4 _ rfl
        by_cases hlt : k < n
        · obtain ⟨B, o, x, rfl, q1, hy⟩ := srcS (S1.out.below hb.out) (i := k) (by rw [N1.out]; exact hlt)
          have hki : (k : Int) < (n : Int) := by omega
          have hk0 : (0 : Int) ≤ (k : Int) := by omega
          have SX : Hid (x.size ≤ maxLen) := by
            show x.size ≤ maxLen
            have hk' : k < D.R.length := by rw [N1.out]; exact hlt
            have h1 := HSM.out.1.2 _ (List.getElem_mem hk')
            have h2 : D.R.getD k e0 = D.R[k] := by rw [List.getD_eq_getElem?_getD, List.getElem?_eq_getElem hk']; rfl
            rw [← h2, hy.out] at h1
            unfold maxLen; omega
          have hgd : Hid (rcptB D.R k = (shortB x && !dupB D.R k)) := by show _ = _; unfold rcptB; rw [hy.out]
          cases h1 : shortB x with
          | false =>
            have R1 : Hid (bb = false) := by
              show _ = _
              rw [FP.out, show rb = false from RB.out.symm.trans (all_bad (k := k) (by rw [N1.out]; exact hlt) (by rw [hgd.out, h1]; rfl))]
              simp
            have H9 : Hid (shortB x = false) := h1
            clear h1
            go_wp2_with fail
            go_quiet ((go_at_call 18; exact Calls.quiet_of_same (l04Is false x _ H9.out SX.out)))
            go_wp2_with fail
            go_ret
            exact ⟨ret_bool R1.out.symm, Below.drewN' hb.out _⟩
          | true =>
            have H9 : Hid (shortB x = true) := h1
            by_cases hz : k = 0
            · have G1 : Hid (rcptB D.R k = true) := by show _ = _; rw [hgd.out, h1, hz, dup_zero]; rfl
              have hkz : decide (0 < k) = false := by simp; omega
              have hkz2 : decide ((0 : Int) < (k : Int)) = false := by simp; omega
              clear hz h1
              go_wp2_with fail
              go_quiet ((go_at_call 18; exact Calls.quiet_of_same (l04Is true x _ H9.out SX.out)))
              go_wp2_with fail
              exact ⟨⟨k + 1, by omega, by go_num, fun j hj => by
                by_cases e : j = k
                · rw [e]; exact G1.out
                · exact hg.out j (by omega), Below.drewN' hb.out _, hx.out⟩, by simp [intOf]; omega⟩
            · obtain ⟨b4, o4, x4, e4, d1, hy4⟩ := srcS (S1.out.below hb.out) (i := 0) (by rw [N1.out]; omega)
              cases e4
              rw [Nat.add_zero] at d1
              have hkp : 0 < k := by omega
              have hkp2 : (0 : Int) < (k : Int) := by omega
              have hn0 : (0 : Int) < (n : Int) := by omega
              have hk1 : k = 1 := by omega
              have HD : Hid (dupB D.R k = (x.toList == x4.toList)) := by
                show _ = _
                rw [toList_comm, ← hy.out, ← hy4.out, hk1]
                exact dup_one (by rw [N1.out]; omega)
              clear hk1
              cases hl : x.toList == x4.toList with
              | false =>
                have G1 : Hid (rcptB D.R k = true) := by show _ = _; rw [hgd.out, h1, HD.out, hl]; rfl
                clear hz h1
                go_wp2_with fail
                go_quiet ((go_at_call 18; exact Calls.quiet_of_same (l04Is true x _ H9.out SX.out)))
                go_wp2_with fail
                exact ⟨⟨k + 1, by omega, by go_num, fun j hj => by
                  by_cases e : j = k
                  · rw [e]; exact G1.out
                  · exact hg.out j (by omega), Below.drewN' hb.out _, hx.out⟩, by simp [intOf]; omega⟩
              | true =>
                have R1 : Hid (bb = false) := by
                  show _ = _
                  rw [FP.out, show rb = false from RB.out.symm.trans (all_bad (k := k) (by rw [N1.out]; exact hlt) (by rw [hgd.out, h1, HD.out, hl]; rfl))]
                  simp
                have hl2 : x.toList = x4.toList := by simpa using hl
                clear hz h1
                go_wp2_with fail
                go_quiet ((go_at_call 18; exact Calls.quiet_of_same (l04Is true x _ H9.out SX.out)))
                go_wp2_with fail
                go_ret
                exact ⟨ret_bool R1.out.symm, Below.drewN' hb.out _⟩
        · have RT : Hid (rb = true) := RB.out.symm.trans (all_good fun j hj => hg.out j (by rw [N1.out] at hj; omega))
          have hb0 : Hid (Below w.heap.size w wr) := hb
          have hx0 : Hid (Box wr w.heap.size [.bool true, .bool false, .bool O, .string F, .slice a n c, .slice b 0 d]) := hx
          clear hg hb hx
          go_wp2_with fail
          go_loopw [4] (fun i wt => ∃ k : Nat, k ≤ 0 ∧ i = .int .i64 k ∧ Hid (∀ j, j < k → lineB D.L j = true) ∧ Hid (wt = wr)) (fun i _ => 0 - (intOf i).toNat)
          case atStart => exact ⟨0, by omega, rfl, fun j hj => absurd hj (by omega), rfl⟩
          case round =>
            obtain ⟨k, hk, rfl, hg, hwt⟩ := hrel
            obtain rfl := hwt.out
            obtain ⟨g5, _⟩ := hx0.out 5 _ rfl
            by_cases hlt : k < 0
            · exact absurd hlt (Nat.not_lt_zero _)
            · have LT : Hid (lb = true) := LB.out.symm.trans (all_good fun j hj => hg.out j (by rw [N2.out] at hj; omega))
              obtain ⟨g2, _⟩ := hx0.out 2 _ rfl
              obtain ⟨g3, _⟩ := hx0.out 3 _ rfl
              have R1 : Hid (bb = O) := by show _ = _; rw [FP.out, RT.out, LT.out]; simp
              cases O
              all_goals
                go_wp2_with fail
                go_ret
                exact ⟨ret_bool R1.out.symm, hb0.out⟩
      
end Go.Proofs.Ytbaljcdiofoppaa
