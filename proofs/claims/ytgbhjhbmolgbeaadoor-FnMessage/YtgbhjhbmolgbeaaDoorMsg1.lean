
/-
  A field's name and value: the program's tests and the specification's. By an AI agent.
-/
import Derived.Test.YtgbhjhbmolgbeaaDoorMsgp
import Derived.Test.YtgbhjhbmolgbeaaDoorShelf
namespace Go.Proofs.YtgbhjhbmolgbeaaDoor
open Go.ChangeShapes Go.WideShapes Go.ChangeAt Go.RowKit Go.Deep
set_option linter.unusedVariables false

theorem ret_bool {a b : Bool} (h : a = b) : Ending.returned (.bool a) = .returned (.bool b) := by rw [h]

theorem letterI (c : Int) (w : World) : Calls Tryd.prog 72 #[.int .u8 c] w fun e w' => e = .returned (.bool (letB c)) ∧ w = w' := by
  go_enter Tryd.func72, Tryd.ntmps72
  go_wp2
  all_goals
    go_ret
    exact ⟨ret_bool (by rw [Bool.eq_iff_iff]; simp [letB]; omega), rfl⟩

theorem letterS (c : Int) (w : World) : Calls Tryd.prog 62 #[.int .u8 c] w fun e w' => e = .returned (.bool (letB c)) ∧ w = w' := by
  go_enter Tryd.func62, Tryd.ntmps62
  go_wp2
  all_goals
    go_ret
    exact ⟨ret_bool (by rw [Bool.eq_iff_iff]; simp [letB]; omega), rfl⟩

theorem inR (x a b : Int) (w : World) : Calls Tryd.prog 63 #[.int .i64 x, .int .i64 a, .int .i64 b] w fun e w' => e = .returned (.bool (decide (a ≤ x) && decide (x ≤ b))) ∧ w = w' := by
  go_enter Tryd.func63, Tryd.ntmps63
  go_wp2
  all_goals
    go_ret
    exact ⟨ret_bool (by rw [Bool.eq_iff_iff]; simp; omega), rfl⟩

theorem inR_yes (x a b : Int) (w : World) (h : a ≤ x ∧ x ≤ b) : Calls Tryd.prog 63 #[.int .i64 x, .int .i64 a, .int .i64 b] w fun e w' => e = .returned (.bool true) ∧ w = w' := by
  have := inR x a b w
  rwa [decide_eq_true h.1, decide_eq_true h.2] at this
theorem inR_no (x a b : Int) (w : World) (h : ¬ (a ≤ x ∧ x ≤ b)) : Calls Tryd.prog 63 #[.int .i64 x, .int .i64 a, .int .i64 b] w fun e w' => e = .returned (.bool false) ∧ w = w' := by
  have := inR x a b w
  rwa [show (decide (a ≤ x) && decide (x ≤ b)) = false by rw [← Bool.decide_and]; exact decide_eq_false h] at this

set_option maxHeartbeats 400000 in
theorem nameFitsI (s : ByteArray) (w : World) (hs : s.size ≤ maxLen) : Calls Tryd.prog 60 #[.string s] w fun e w' => e = .returned (.bool (nameB s)) ∧ w = w' := by
  unfold maxLen at hs
  by_cases h0 : s.size < 1
  · have HF : Hid (nameB s = false) := by show nameB s = false; unfold nameB; rw [decide_eq_false (by omega)]; rfl
    go_enter Tryd.func60, Tryd.ntmps60
    go_wp2_with fail
    go_ret
    exact ⟨ret_bool HF.out.symm, rfl⟩
  have h0' : decide ((s.size : Int) < 1) = false := decide_eq_false (by omega)
  by_cases h1 : 12 < s.size
  · have HF : Hid (nameB s = false) := by show nameB s = false; unfold nameB; rw [decide_eq_false (show ¬ s.size ≤ 12 by omega)]; simp
    go_enter Tryd.func60, Tryd.ntmps60
    go_wp2_with fail
    go_ret
    exact ⟨ret_bool HF.out.symm, rfl⟩
  have h1' : decide (12 < (s.size : Int)) = false := decide_eq_false (by omega)
  have HW : Hid (nameB s = nmFrom s 0) := by show nameB s = nmFrom s 0; unfold nameB; rw [decide_eq_true (show 1 ≤ s.size by omega), decide_eq_true (show s.size ≤ 12 by omega)]; rfl
  go_enter Tryd.func60, Tryd.ntmps60
  go_wp2_with fail
  go_loop [14] (fun i => ∃ k : Nat, k ≤ s.size ∧ i = .int .i64 k ∧ Hid (nameB s = nmFrom s k)) (fun i => s.size - (intOf i).toNat)
  case atStart => exact ⟨0, by omega, rfl, HW⟩
  case round =>
    obtain ⟨k, hk2, rfl, hr⟩ := hrel
    by_cases hlt : k < s.size
    · by_cases hL : letB s[k].toNat = true
      · have HN : Hid (nameB s = nmFrom s (k + 1)) := by show _ = _; rw [hr.out, nmFrom_step s k hlt, nmB, hL]; rfl
        go_wp2_with (go_at_call 72; refine (letterI _ _).mono ?_; rintro e w' ⟨rfl, rfl⟩)
        go_round
        case rel => exact ⟨k + 1, by omega, by go_num, HN⟩
        case measure => simp [intOf]; omega
      · have hL' : letB s[k].toNat = false := by simpa using hL
        clear hL
        by_cases hD : s[k].toNat = 45
        · have HN : Hid (nameB s = nmFrom s (k + 1)) := by show _ = _; rw [hr.out, nmFrom_step s k hlt, nmB, hL', hD]; rfl
          have hD' : ((s[k].toNat : Int) != 45) = false := by simp; omega
          clear hD
          go_wp2_with (go_at_call 72; refine (letterI _ _).mono ?_; rintro e w' ⟨rfl, rfl⟩)
          go_round
          case rel => exact ⟨k + 1, by omega, by go_num, HN⟩
          case measure => simp [intOf]; omega
        · have HN : Hid (nameB s = false) := by
            show _ = _
            rw [hr.out, nmFrom_step s k hlt, nmB, hL', beq_eq_false_iff_ne.2 hD]; rfl
          have hD' : ((s[k].toNat : Int) != 45) = true := by simp; omega
          clear hD
          go_wp2_with (go_at_call 72; refine (letterI _ _).mono ?_; rintro e w' ⟨rfl, rfl⟩)
          go_ret
          exact ⟨ret_bool HN.out.symm, rfl⟩
    · have HN : Hid (nameB s = true) := by show _ = _; rw [hr.out, nmFrom_end s k (by omega)]
      go_wp2
      go_ret
      exact ⟨ret_bool HN.out.symm, rfl⟩

set_option maxHeartbeats 400000 in
theorem l08NameS (s : ByteArray) (w : World) (hs : s.size ≤ maxLen) : Calls Tryd.prog 36 #[.string s] w fun e w' => e = .returned (.bool (nameB s)) ∧ w = w' := by
  unfold maxLen at hs
  by_cases h0 : s.size < 1
  · have HF : Hid (nameB s = false) := by show nameB s = false; unfold nameB; rw [decide_eq_false (by omega)]; rfl
    go_enter Tryd.func36, Tryd.ntmps36
    go_wp2_with fail
    go_ret
    exact ⟨ret_bool HF.out.symm, rfl⟩
  have h0' : decide ((s.size : Int) < 1) = false := decide_eq_false (by omega)
  by_cases h1 : 12 < s.size
  · have HF : Hid (nameB s = false) := by show nameB s = false; unfold nameB; rw [decide_eq_false (show ¬ s.size ≤ 12 by omega)]; simp
    go_enter Tryd.func36, Tryd.ntmps36
    go_wp2_with fail
    go_ret
    exact ⟨ret_bool HF.out.symm, rfl⟩
  have h1' : decide (12 < (s.size : Int)) = false := decide_eq_false (by omega)
  have HW : Hid (nameB s = nmFrom s 0) := by show nameB s = nmFrom s 0; unfold nameB; rw [decide_eq_true (show 1 ≤ s.size by omega), decide_eq_true (show s.size ≤ 12 by omega)]; rfl
  go_enter Tryd.func36, Tryd.ntmps36
  go_wp2_with fail
  go_loop [3] (fun i => ∃ k : Nat, k ≤ s.size ∧ i = .int .i64 k ∧ Hid (nameB s = nmFrom s k)) (fun i => s.size - (intOf i).toNat)
  case atStart => exact ⟨0, by omega, rfl, HW⟩
  case round =>
    obtain ⟨k, hk2, rfl, hr⟩ := hrel
    by_cases hlt : k < s.size
    · by_cases hL : letB s[k].toNat = true
      · have HN : Hid (nameB s = nmFrom s (k + 1)) := by show _ = _; rw [hr.out, nmFrom_step s k hlt, nmB, hL]; rfl
        go_wp2_with (go_at_call 62; refine (letterS _ _).mono ?_; rintro e w' ⟨rfl, rfl⟩)
        go_round
        case rel => exact ⟨k + 1, by omega, by go_num, HN⟩
        case measure => simp [intOf]; omega
      · have hL' : letB s[k].toNat = false := by simpa using hL
        clear hL
        by_cases hD : s[k].toNat = 45
        · have HN : Hid (nameB s = nmFrom s (k + 1)) := by show _ = _; rw [hr.out, nmFrom_step s k hlt, nmB, hL', hD]; rfl
          have hD' : ((s[k].toNat : Int) != 45) = false := by simp; omega
          clear hD
          go_wp2_with (go_at_call 62; refine (letterS _ _).mono ?_; rintro e w' ⟨rfl, rfl⟩)
          go_round
          case rel => exact ⟨k + 1, by omega, by go_num, HN⟩
          case measure => simp [intOf]; omega
        · have HN : Hid (nameB s = false) := by
            show _ = _
            rw [hr.out, nmFrom_step s k hlt, nmB, hL', beq_eq_false_iff_ne.2 hD]; rfl
          have hD' : ((s[k].toNat : Int) != 45) = true := by simp; omega
          clear hD
          go_wp2_with (go_at_call 62; refine (letterS _ _).mono ?_; rintro e w' ⟨rfl, rfl⟩)
          go_ret
          exact ⟨ret_bool HN.out.symm, rfl⟩
    · have HN : Hid (nameB s = true) := by show _ = _; rw [hr.out, nmFrom_end s k (by omega)]
      go_wp2
      go_ret
      exact ⟨ret_bool HN.out.symm, rfl⟩

theorem head_at (s : ByteArray) (h : 0 < s.size) : s.data.toList.headD 0 = s[0] := by
  have : s.data.toList = s.data.toList[0]'(by simpa using h) :: s.data.toList.drop 1 := by
    rw [← List.drop_eq_getElem_cons (by simpa using h)]; rfl
  rw [this]; rfl
theorem last_at (s : ByteArray) (h : 0 < s.size) : s.data.toList.getLastD 0 = s[s.size - 1] := by
  have hl : s.data.toList.length = s.size := by simp
  rw [List.getLastD_eq_getLast?, List.getLast?_eq_getElem?, hl, List.getElem?_eq_getElem (by omega)]
  rfl
theorem eq32 (c : UInt8) : (c == 32) = decide ((c.toNat : Int) = 32) := by
  rw [Bool.eq_iff_iff, beq_iff_eq, decide_eq_true_eq, ← UInt8.toNat_inj]
  show c.toNat = 32 ↔ _
  omega
theorem w64u8 (c : UInt8) : wrap64 (c.toNat : Int) = (c.toNat : Int) := by
  have := c.toNat_lt
  unfold wrap64
  omega
set_option maxHeartbeats 400000 in
theorem l08ValueS (s : ByteArray) (w : World) (hs : s.size ≤ maxLen) : Calls Tryd.prog 37 #[.string s] w fun e w' => e = .returned (.bool (valB s)) ∧ w = w' := by
  unfold maxLen at hs
  have HW : Hid (valB s = (vlFrom s 0 && endsL s.data.toList)) := rfl
  go_enter Tryd.func37, Tryd.ntmps37
  go_wp2_with fail
  go_loop [3] (fun i => ∃ k : Nat, k ≤ s.size ∧ i = .int .i64 k ∧ Hid (valB s = (vlFrom s k && endsL s.data.toList))) (fun i => s.size - (intOf i).toNat)
  case atStart => exact ⟨0, by omega, rfl, HW⟩
  case round =>
    obtain ⟨k, hk2, rfl, hr⟩ := hrel
    by_cases hlt : k < s.size
    · by_cases hL : vlB s[k] = true
      · have HN : Hid (valB s = (vlFrom s (k + 1) && endsL s.data.toList)) := by show _ = _; rw [hr.out, vlFrom_step s k hlt, hL]; rfl
        have hb : Hid (32 ≤ (s[k].toNat : Int) ∧ (s[k].toNat : Int) ≤ 126) := by
          show 32 ≤ (s[k].toNat : Int) ∧ (s[k].toNat : Int) ≤ 126
          unfold vlB at hL; simp at hL; omega
        clear hL
        have h64 := w64u8 s[k]
        go_wp2_with (go_at_call 63; refine (inR_yes _ _ _ _ hb.out).mono ?_; rintro e w' ⟨rfl, rfl⟩)
        go_round
        case rel => exact ⟨k + 1, by omega, by go_num, HN⟩
        case measure => simp [intOf]; omega
      · have hL' : vlB s[k] = false := by simpa using hL
        have HN : Hid (valB s = false) := by show _ = _; rw [hr.out, vlFrom_step s k hlt, hL']; rfl
        have hb : Hid (¬ (32 ≤ (s[k].toNat : Int) ∧ (s[k].toNat : Int) ≤ 126)) := by
          show ¬ (32 ≤ (s[k].toNat : Int) ∧ (s[k].toNat : Int) ≤ 126)
          unfold vlB at hL'; simp at hL'; omega
        clear hL hL'
        have h64 := w64u8 s[k]
        go_wp2_with (go_at_call 63; refine (inR_no _ _ _ _ hb.out).mono ?_; rintro e w' ⟨rfl, rfl⟩)
        go_ret
        exact ⟨ret_bool HN.out.symm, rfl⟩
    · have HN : Hid (valB s = endsL s.data.toList) := by show _ = _; rw [hr.out, vlFrom_end s k (by omega)]; rfl
      rcases Nat.eq_zero_or_pos s.size with h0 | hp
      · have hl : s.data.toList = [] := by
          have : s.data.toList.length = s.size := by simp
          exact List.length_eq_zero_iff.1 (by omega)
        have hq : (s.toList == []) = true := by rw [Lib.toList_data, hl]; rfl
        have HE : Hid (endsL s.data.toList = true) := by show _ = _; rw [hl]; rfl
        clear h0 hl
        go_wp2_with fail
        go_ret
        exact ⟨ret_bool (by rw [HN.out, HE.out]), rfl⟩
      · have hl : s.data.toList ≠ [] := by
          intro e
          have h2 : s.data.toList.length = s.size := by simp
          rw [e] at h2
          simp only [List.length_nil] at h2
          omega
        have hq : (s.toList == []) = false := by rw [Lib.toList_data, beq_eq_false_iff_ne]; exact hl
        have HE : Hid (endsL s.data.toList = (!(s[0] == 32) && !(s[s.size - 1] == 32))) := by
          show _ = _
          unfold endsL
          rw [head_at s hp, last_at s hp, List.isEmpty_eq_false_iff.2 hl]; rfl
        clear hl
        go_wp2_with fail
        all_goals
          go_ret
          exact ⟨ret_bool (by rw [HN.out, HE.out, eq32, eq32, Bool.eq_iff_iff]; first | (simp; done) | (simp; omega)), rfl⟩


set_option maxHeartbeats 800000 in
theorem valueFitsI (s : ByteArray) (w : World) (hs : s.size ≤ maxLen) : Calls Tryd.prog 61 #[.string s] w fun e w' => e = .returned (.bool (decide (s.size ≤ 85) && valB s)) ∧ ∃ n, w' = w.drewN n := by
  unfold maxLen at hs
  by_cases h85 : 85 < s.size
  · have HF : Hid ((decide (s.size ≤ 85) && valB s) = false) := by show _ = _; rw [decide_eq_false (by omega)]; rfl
    go_enter Tryd.func61, Tryd.ntmps61
    go_wp2_with fail
    go_ret
    exact ⟨ret_bool HF.out.symm, 0, rfl⟩
  have h85' : decide (85 < (s.size : Int)) = false := decide_eq_false (by omega)
  have HW : Hid ((decide (s.size ≤ 85) && valB s) = (vlFrom s 0 && endsL s.data.toList)) := by show _ = _; rw [decide_eq_true (by omega)]; rfl
  obtain ⟨t, ht⟩ : ∃ t : ByteArray, (⟨(Lib.trimB s.data.toList 32).toArray⟩ : ByteArray) = t := ⟨_, rfl⟩
  have HC : ∀ w, Calls Tryd.prog 73 #[.string s, .string ⟨#[32]⟩] w fun e w' => e = .returned (.string t) ∧ ∃ n, w' = w.drewN n := fun w => by
    rw [← ht]
    refine (Tryd.strings_Trim_one s 32 (by decide) w (by omega)).mono ?_
    rintro e w' ⟨rfl, h | h⟩
    · exact ⟨rfl, 0, by rw [h]; rfl⟩
    · exact ⟨rfl, 1, by rw [h]; rfl⟩
  have HT : Hid ((t.toList == s.toList) = endsL s.data.toList) := by
    show _ = _
    rw [← ht, Lib.toList_data, Lib.toList_data, Bool.eq_iff_iff, beq_iff_eq]
    simpa using trim_same s.data.toList
  clear ht
  cases hE : endsL s.data.toList with
  | false =>
    have hq : (t.toList == s.toList) = false := by rw [HT.out, hE]
    have HF : Hid ((decide (s.size ≤ 85) && valB s) = false) := by show _ = _; rw [HW.out, hE]; simp
    clear hE HT
    go_enter Tryd.func61, Tryd.ntmps61
    go_wp2_with (go_at_call 73; refine (HC _).mono ?_; rintro e w' ⟨rfl, m, rfl⟩)
    go_ret
    exact ⟨ret_bool HF.out.symm, m, rfl⟩
  | true =>
    have hq : (t.toList == s.toList) = true := by rw [HT.out, hE]
    have HV : Hid ((decide (s.size ≤ 85) && valB s) = vlFrom s 0) := by show _ = _; rw [HW.out, hE]; simp
    clear hE HT
    go_enter Tryd.func61, Tryd.ntmps61
    go_wp2_with (go_at_call 73; refine (HC _).mono ?_; rintro e w' ⟨rfl, m, rfl⟩)
    go_loop [15] (fun i => ∃ k : Nat, k ≤ s.size ∧ i = .int .i64 k ∧ Hid ((decide (s.size ≤ 85) && valB s) = vlFrom s k)) (fun i => s.size - (intOf i).toNat)
    case atStart => exact ⟨0, by omega, rfl, HV⟩
    case round =>
      obtain ⟨k, hk2, rfl, hr⟩ := hrel
      by_cases hlt : k < s.size
      · by_cases hL : vlB s[k] = true
        · have HN : Hid ((decide (s.size ≤ 85) && valB s) = vlFrom s (k + 1)) := by show _ = _; rw [hr.out, vlFrom_step s k hlt, hL]; rfl
          unfold vlB at hL
          simp only [Bool.and_eq_true, decide_eq_true_eq] at hL
          have hc1 : decide ((s[k].toNat : Int) < 32) = false := decide_eq_false (by omega)
          have hc2 : decide (126 < (s[k].toNat : Int)) = false := decide_eq_false (by omega)
          clear hL
          go_wp2_with fail
          go_round
          case rel => exact ⟨k + 1, by omega, by go_num, HN⟩
          case measure => simp [intOf]; omega
        · have hL' : vlB s[k] = false := by simpa using hL
          have HN : Hid ((decide (s.size ≤ 85) && valB s) = false) := by show _ = _; rw [hr.out, vlFrom_step s k hlt, hL']; rfl
          have hc : (s[k].toNat : Int) < 32 ∨ 126 < (s[k].toNat : Int) := by
            unfold vlB at hL'; simp at hL'; omega
          clear hL hL'
          rcases hc with hc | hc
          · have hc1 : decide ((s[k].toNat : Int) < 32) = true := decide_eq_true hc
            go_wp2_with fail
            go_ret
            exact ⟨ret_bool HN.out.symm, m, rfl⟩
          · have hc1 : decide ((s[k].toNat : Int) < 32) = false := decide_eq_false (by omega)
            have hc2 : decide (126 < (s[k].toNat : Int)) = true := decide_eq_true hc
            go_wp2_with fail
            go_ret
            exact ⟨ret_bool HN.out.symm, m, rfl⟩
      · have HN : Hid ((decide (s.size ≤ 85) && valB s) = true) := by show _ = _; rw [hr.out, vlFrom_end s k (by omega)]
        go_wp2_with fail
        go_ret
        exact ⟨ret_bool HN.out.symm, m, rfl⟩

end Go.Proofs.YtgbhjhbmolgbeaaDoor
