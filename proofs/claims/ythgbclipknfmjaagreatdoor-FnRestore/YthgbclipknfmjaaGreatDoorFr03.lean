/-
  Names Nus Dig in one. By an AI agent.
-/
import Derived.Test.YthgbclipknfmjaaGreatDoorFr02
import Derived.Test.YthgbclipknfmjaaGreatDoorFr01
import Derived.Deep.Cut
import Derived.Deep.CutRange
import Derived.Lib.ConvBytes
import Derived.Laws.IdiomStrings
namespace Go.Proofs.YthgbclipknfmjaaGreatDoor
open Go.ChangeShapes Go.WideShapes Go.ChangeAt Go.RowKit Go.Deep
set_option linter.unusedVariables false

def letB (c : Int) : Bool := (decide (97 ≤ c) && decide (c ≤ 122)) || (decide (65 ≤ c) && decide (c ≤ 90)) || c == 95
def digB (c : Int) : Bool := decide (48 ≤ c) && decide (c ≤ 57)
def chB (c : UInt8) : Bool := letB c.toNat || digB c.toNat
def okFrom (s : ByteArray) (k : Nat) : Bool := (s.data.toList.drop k).all chB
def wordB (s : ByteArray) : Bool := decide (1 ≤ s.size) && decide (s.size ≤ 40) && letB (s.data.toList.headD 0).toNat && okFrom s 1

theorem okFrom_step (s : ByteArray) (k : Nat) (h : k < s.size) : okFrom s k = (chB s[k] && okFrom s (k + 1)) := by
  unfold okFrom
  rw [List.drop_eq_getElem_cons (by simpa using h)]
  rfl
theorem okFrom_end (s : ByteArray) (k : Nat) (h : s.size ≤ k) : okFrom s k = true := by
  unfold okFrom
  rw [List.drop_of_length_le (by simpa using h)]
  rfl

theorem letterI (c : Int) (w : World) : Calls Tryz.prog 180 #[.int .u8 c] w fun e w' => e = .returned (.bool (letB c)) ∧ w = w' := by
  go_enter Tryz.func180, Tryz.ntmps180
  go_wp2
  all_goals
    go_ret
    exact ⟨ret_bool (by rw [Bool.eq_iff_iff]; simp [letB]; omega), rfl⟩

theorem digitI (c : Int) (w : World) : Calls Tryz.prog 181 #[.int .u8 c] w fun e w' => e = .returned (.bool (digB c)) ∧ w = w' := by
  go_enter Tryz.func181, Tryz.ntmps181
  go_wp2
  all_goals
    go_ret
    exact ⟨ret_bool (by rw [Bool.eq_iff_iff]; simp [digB]; omega), rfl⟩
theorem letterS (c : Int) (w : World) : Calls Tryz.prog 192 #[.int .u8 c] w fun e w' => e = .returned (.bool (letB c)) ∧ w = w' := by
  go_enter Tryz.func192, Tryz.ntmps192
  go_wp2
  all_goals
    go_ret
    exact ⟨ret_bool (by rw [Bool.eq_iff_iff]; simp [letB]; omega), rfl⟩
theorem digitS (c : Int) (w : World) : Calls Tryz.prog 141 #[.int .u8 c] w fun e w' => e = .returned (.bool (digB c)) ∧ w = w' := by
  go_enter Tryz.func141, Tryz.ntmps141
  go_wp2
  all_goals
    go_ret
    exact ⟨ret_bool (by rw [Bool.eq_iff_iff]; simp [digB]; omega), rfl⟩


theorem head_at (s : ByteArray) (h : 0 < s.size) : s.data.toList.headD 0 = s[0] := by
  have : s.data.toList = s.data.toList[0]'(by simpa using h) :: s.data.toList.drop 1 := by
    rw [← List.drop_eq_getElem_cons (by simpa using h)]; rfl
  rw [this]; rfl

set_option maxHeartbeats 400000 in
theorem implNameOK (s : ByteArray) (w : World) (hs : s.size ≤ maxLen) : Calls Tryz.prog 152 #[.string s] w fun e w' => e = .returned (.bool (wordB s)) ∧ w = w' := by
  unfold maxLen at hs
  by_cases h0 : s.size = 0
  · have h0' : ((s.size : Int) == 0) = true := by simp [h0]
    go_enter Tryz.func152, Tryz.ntmps152
    go_wp2_with fail
    go_ret
    exact ⟨ret_bool (by simp [wordB, h0]), rfl⟩
  have h0' : ((s.size : Int) == 0) = false := by first | exact beq_eq_false_iff_ne.2 (by omega) | (simp; omega)
  by_cases h1 : 40 < s.size
  · go_enter Tryz.func152, Tryz.ntmps152
    go_wp2_with fail
    go_ret
    exact ⟨ret_bool (by simp [wordB]; omega), rfl⟩
  have hp : 0 < s.size := by omega
  have h1' : decide (40 < (s.size : Int)) = false := by simp; omega
  have hhead := head_at s hp
  by_cases hl : letB s[0].toNat = true
  · have hw : Hid (wordB s = okFrom s 1) := by show wordB s = okFrom s 1; unfold wordB; rw [hhead, hl]; simp [Nat.not_lt.mp h1]; intro _; omega
    clear hhead
    go_enter Tryz.func152, Tryz.ntmps152
    go_wp2_with (go_at_call 180; refine (letterI _ _).mono ?_; rintro e w' ⟨rfl, rfl⟩)
    go_loop [3] (fun i => ∃ k : Nat, 1 ≤ k ∧ k ≤ s.size ∧ i = .int .i64 k ∧ Hid (okFrom s 1 = okFrom s k)) (fun i => s.size - (intOf i).toNat)
    case atStart => exact ⟨1, by omega, by omega, rfl, rfl⟩
    case round =>
      obtain ⟨k, hk1, hk2, rfl, hr⟩ := hrel
      by_cases hlt : k < s.size
      · by_cases hL : letB s[k].toNat = true
        · go_wp2_with (first | (go_at_call 180; refine (letterI _ _).mono ?_; rintro e w' ⟨rfl, rfl⟩) | (go_at_call 181; refine (digitI _ _).mono ?_; rintro e w' ⟨rfl, rfl⟩))
          go_round
          case rel => exact ⟨k + 1, by omega, by omega, by go_num, by have := hr.out; rw [okFrom_step s k hlt, chB, hL] at this; show okFrom s 1 = okFrom s (k + 1); simpa using this⟩
          case measure => simp [intOf]; omega
        · have hL' : letB s[k].toNat = false := by simpa using hL
          clear hL
          by_cases hD : digB s[k].toNat = true
          · go_wp2_with (first | (go_at_call 180; refine (letterI _ _).mono ?_; rintro e w' ⟨rfl, rfl⟩) | (go_at_call 181; refine (digitI _ _).mono ?_; rintro e w' ⟨rfl, rfl⟩))
            go_round
            case rel => exact ⟨k + 1, by omega, by omega, by go_num, by have := hr.out; rw [okFrom_step s k hlt, chB, hL', hD] at this; show okFrom s 1 = okFrom s (k + 1); simpa using this⟩
            case measure => simp [intOf]; omega
          · have hD' : digB s[k].toNat = false := by simpa using hD
            clear hD
            have hf : Hid (wordB s = false) := by
              have := hr.out; rw [okFrom_step s k hlt, chB, hL', hD'] at this
              show wordB s = false
              rw [hw.out, this]; rfl
            go_wp2_with (first | (go_at_call 180; refine (letterI _ _).mono ?_; rintro e w' ⟨rfl, rfl⟩) | (go_at_call 181; refine (digitI _ _).mono ?_; rintro e w' ⟨rfl, rfl⟩))
            go_ret
            exact ⟨ret_bool hf.out.symm, rfl⟩
      · have hf : Hid (wordB s = true) := by
          show wordB s = true
          rw [hw.out, hr.out, okFrom_end s k (by omega)]
        go_wp2
        go_ret
        exact ⟨ret_bool hf.out.symm, rfl⟩
  · have hl' : letB s[0].toNat = false := by simpa using hl
    clear hl
    have hw : Hid (wordB s = false) := by show wordB s = false; unfold wordB; rw [hhead, hl']; simp
    clear hhead
    go_enter Tryz.func152, Tryz.ntmps152
    go_wp2_with (go_at_call 180; refine (letterI _ _).mono ?_; rintro e w' ⟨rfl, rfl⟩)
    go_ret
    exact ⟨ret_bool hw.out.symm, rfl⟩

set_option maxHeartbeats 400000 in
theorem l00Word (s : ByteArray) (w : World) (hs : s.size ≤ maxLen) : Calls Tryz.prog 167 #[.string s] w fun e w' => e = .returned (.bool (wordB s)) ∧ w = w' := by
  unfold maxLen at hs
  by_cases h0 : s.size = 0
  · have h0' : decide ((s.size : Int) < 1) = true := by simp [h0]
    go_enter Tryz.func167, Tryz.ntmps167
    go_wp2_with fail
    go_ret
    exact ⟨ret_bool (by simp [wordB, h0]), rfl⟩
  have h0' : decide ((s.size : Int) < 1) = false := by first | exact beq_eq_false_iff_ne.2 (by omega) | (simp; omega)
  by_cases h1 : 40 < s.size
  · go_enter Tryz.func167, Tryz.ntmps167
    go_wp2_with fail
    go_ret
    exact ⟨ret_bool (by simp [wordB]; omega), rfl⟩
  have hp : 0 < s.size := by omega
  have h1' : decide (40 < (s.size : Int)) = false := by simp; omega
  have hhead := head_at s hp
  by_cases hl : letB s[0].toNat = true
  · have hw : Hid (wordB s = okFrom s 1) := by show wordB s = okFrom s 1; unfold wordB; rw [hhead, hl]; simp [Nat.not_lt.mp h1]; intro _; omega
    clear hhead
    go_enter Tryz.func167, Tryz.ntmps167
    go_wp2_with (go_at_call 192; refine (letterS _ _).mono ?_; rintro e w' ⟨rfl, rfl⟩)
    go_loop [3] (fun i => ∃ k : Nat, 1 ≤ k ∧ k ≤ s.size ∧ i = .int .i64 k ∧ Hid (okFrom s 1 = okFrom s k)) (fun i => s.size - (intOf i).toNat)
    case atStart => exact ⟨1, by omega, by omega, rfl, rfl⟩
    case round =>
      obtain ⟨k, hk1, hk2, rfl, hr⟩ := hrel
      by_cases hlt : k < s.size
      · by_cases hL : letB s[k].toNat = true
        · go_wp2_with (first | (go_at_call 192; refine (letterS _ _).mono ?_; rintro e w' ⟨rfl, rfl⟩) | (go_at_call 141; refine (digitS _ _).mono ?_; rintro e w' ⟨rfl, rfl⟩))
          go_round
          case rel => exact ⟨k + 1, by omega, by omega, by go_num, by have := hr.out; rw [okFrom_step s k hlt, chB, hL] at this; show okFrom s 1 = okFrom s (k + 1); simpa using this⟩
          case measure => simp [intOf]; omega
        · have hL' : letB s[k].toNat = false := by simpa using hL
          clear hL
          by_cases hD : digB s[k].toNat = true
          · go_wp2_with (first | (go_at_call 192; refine (letterS _ _).mono ?_; rintro e w' ⟨rfl, rfl⟩) | (go_at_call 141; refine (digitS _ _).mono ?_; rintro e w' ⟨rfl, rfl⟩))
            go_round
            case rel => exact ⟨k + 1, by omega, by omega, by go_num, by have := hr.out; rw [okFrom_step s k hlt, chB, hL', hD] at this; show okFrom s 1 = okFrom s (k + 1); simpa using this⟩
            case measure => simp [intOf]; omega
          · have hD' : digB s[k].toNat = false := by simpa using hD
            clear hD
            have hf : Hid (wordB s = false) := by
              have := hr.out; rw [okFrom_step s k hlt, chB, hL', hD'] at this
              show wordB s = false
              rw [hw.out, this]; rfl
            go_wp2_with (first | (go_at_call 192; refine (letterS _ _).mono ?_; rintro e w' ⟨rfl, rfl⟩) | (go_at_call 141; refine (digitS _ _).mono ?_; rintro e w' ⟨rfl, rfl⟩))
            go_ret
            exact ⟨ret_bool hf.out.symm, rfl⟩
      · have hf : Hid (wordB s = true) := by
          show wordB s = true
          rw [hw.out, hr.out, okFrom_end s k (by omega)]
        go_wp2
        go_ret
        exact ⟨ret_bool hf.out.symm, rfl⟩
  · have hl' : letB s[0].toNat = false := by simpa using hl
    clear hl
    have hw : Hid (wordB s = false) := by show wordB s = false; unfold wordB; rw [hhead, hl']; simp
    clear hhead
    go_enter Tryz.func167, Tryz.ntmps167
    go_wp2_with (go_at_call 192; refine (letterS _ _).mono ?_; rintro e w' ⟨rfl, rfl⟩)
    go_ret
    exact ⟨ret_bool hw.out.symm, rfl⟩
theorem specNameOK (s : ByteArray) (w : World) (hs : s.size ≤ maxLen) : Calls Tryz.prog 134 #[.string s] w fun e w' => e = .returned (.bool (wordB s)) ∧ w = w' := by
  go_enter Tryz.func134, Tryz.ntmps134
  go_wp2_with (go_at_call 167; refine (l00Word _ _ hs).mono ?_; rintro e w' ⟨rfl, rfl⟩)
  go_ret
  exact ⟨rfl, rfl⟩
def shortB (s : ByteArray) : Bool := wordB s && decide (s.size ≤ 8)
theorem shortName (s : ByteArray) (w : World) (hs : s.size ≤ maxLen) : Calls Tryz.prog 127 #[.string s] w fun e w' => e = .returned (.bool (shortB s)) ∧ w = w' := by
  obtain ⟨b, hb⟩ : ∃ b, wordB s = b := ⟨_, rfl⟩
  have HB : Hid (shortB s = (b && decide (s.size ≤ 8))) := by show _ = _; unfold shortB; rw [hb]
  have HC : Calls Tryz.prog 152 #[.string s] w fun e w' => e = .returned (.bool b) ∧ w = w' := by rw [← hb]; exact implNameOK s w hs
  clear hb
  go_enter Tryz.func127, Tryz.ntmps127
  go_wp2_with (go_at_call 152; refine HC.mono ?_; rintro e w' ⟨rfl, rfl⟩; cases b)
  all_goals
    go_ret
    exact ⟨ret_bool (by rw [HB.out]; first | (simp; done) | (simp; omega)), rfl⟩
theorem l04Name (s : ByteArray) (w : World) (hs : s.size ≤ maxLen) : Calls Tryz.prog 89 #[.string s] w fun e w' => e = .returned (.bool (shortB s)) ∧ w = w' := by
  obtain ⟨b, hb⟩ : ∃ b, wordB s = b := ⟨_, rfl⟩
  have HB : Hid (shortB s = (b && decide (s.size ≤ 8))) := by show _ = _; unfold shortB; rw [hb]
  have HC : Calls Tryz.prog 134 #[.string s] w fun e w' => e = .returned (.bool b) ∧ w = w' := by rw [← hb]; exact specNameOK s w hs
  clear hb
  by_cases h8 : s.size ≤ 8
  · have h8' : decide ((s.size : Int) ≤ 8) = true := decide_eq_true (by omega)
    go_enter Tryz.func89, Tryz.ntmps89
    go_wp2_with (go_at_call 134; refine HC.mono ?_; rintro e w' ⟨rfl, rfl⟩)
    go_ret
    exact ⟨ret_bool (by rw [HB.out]; simp [h8]), rfl⟩
  · have h8' : decide ((s.size : Int) ≤ 8) = false := decide_eq_false (by omega)
    go_enter Tryz.func89, Tryz.ntmps89
    go_wp2_with fail
    go_ret
    exact ⟨ret_bool (by rw [HB.out]; simp [h8]), rfl⟩
end Go.Proofs.YthgbclipknfmjaaGreatDoor
namespace Go.Proofs.YthgbclipknfmjaaGreatDoor
open Go.ChangeShapes Go.WideShapes Go.ChangeAt Go.RowKit Go.Deep Go.Lib
set_option linter.unusedVariables false
set_option maxRecDepth 100000

theorem ret_num {a b : Int} {k l : Bool} (h1 : a = b) (h2 : k = l) : Ending.returned (.tuple #[.int .i64 a, .bool k]) = .returned (.tuple #[.int .i64 b, .bool l]) := by rw [h1, h2]
theorem w64b (c : UInt8) : wrap64 (c.toNat : Int) = (c.toNat : Int) := by
  have := c.toNat_lt
  unfold wrap64
  omega
theorem bytes_drop (q : ByteArray) (k : Nat) (h : k < q.size) : q.data.toList.drop k = q[k] :: q.data.toList.drop (k + 1) := by
  rw [List.drop_eq_getElem_cons (by simpa using h)]
  rfl
theorem bytes_head (q : ByteArray) (h : 0 < q.size) : q.data.toList = q[0] :: q.data.toList.drop 1 := bytes_drop q 0 h
theorem bytes_end (q : ByteArray) (k : Nat) (h : q.size ≤ k) : q.data.toList.drop k = [] := List.drop_of_length_le (by simpa using h)
theorem bytes_len (q : ByteArray) : q.data.toList.length = q.size := by simp
theorem dec_yes {u : Nat} {b : UInt8} {r : List UInt8} (h1 : 48 ≤ b.toNat) (h2 : b.toNat ≤ 57) : decFrom u (b :: r) = decFrom (u * 10 + (b.toNat - 48)) r := by
  simp only [decFrom, digitVal, if_pos (And.intro h1 h2)]
theorem dec_no {u : Nat} {b : UInt8} {r : List UInt8} (h : ¬ (48 ≤ b.toNat ∧ b.toNat ≤ 57)) : decFrom u (b :: r) = none := by
  simp only [decFrom, digitVal, if_neg h]
theorem num_extract (s : ByteArray) (h : 0 < s.size) : (s.extract 1 s.size).data.toList = s.data.toList.drop 1 := by
  simp only [ByteArray.data_extract, Array.toList_extract, List.extract_eq_drop_take']
  rw [← bytes_len s, List.take_of_length_le (Nat.le_refl _)]

set_option maxHeartbeats 4000000 in
theorem specNumNeg (s : ByteArray) (R : Option Int) (w : World) (hs : s.size ≤ 9223372036854775807) (h0p : 0 < s.size) (hc : s[0] = 45) (HR : Hid (numB s.data.toList = R)) : Calls Tryz.prog 117 #[.string s] w fun e w' => e = .returned (.tuple #[.int .i64 (R.getD 0), .bool R.isSome]) ∧ w' = w := by
  have h0s : (0 : Int) < (s.size : Int) := by omega
  obtain ⟨q, hqe⟩ : ∃ q, s.extract 1 s.size = q := ⟨_, rfl⟩
  have HQ : Hid (s.extract 1 s.size = q) := hqe
  have HM : Hid (R = magB true q.data.toList) := by
    show _ = _
    rw [← HR.out, ← hqe, num_extract s h0p, bytes_head s h0p]
    show (if s[0] = 45 then magB true (s.data.toList.drop 1) else magB false (s[0] :: s.data.toList.drop 1)) = _
    rw [if_pos hc]
    rfl
  have hq : q.size ≤ 9223372036854775807 := by rw [← hqe, ByteArray.size_extract]; omega
  have hc2 : (s[0].toNat : Int) = 45 := by rw [hc]; rfl
  have hc3 : ((s[0].toNat : Int) == 45) = true := by rw [hc2]; rfl
  clear hc HR hqe
  go_enter Tryz.func117, Tryz.ntmps117
  go_upto_region 5 with fail
  rw [HQ.out]
  clear HQ hc2 hc3 h0s h0p hs
  by_cases h0 : q.size = 0
  · have HN : Hid (R = none) := by
      show _ = _
      rw [HM.out]
      unfold magB
      rw [if_pos (.inl (by rw [← List.length_eq_zero_iff, bytes_len]; exact h0))]
    have h0i : ((q.size : Int) == 0) = true := by rw [h0]; rfl
    clear HM
    go_wp2_with fail
    go_ret2
    exact ⟨by rw [HN.out]; rfl, rfl⟩
  have h0p : 0 < q.size := by omega
  have h0i : ((q.size : Int) == 0) = false := beq_eq_false_iff_ne.2 (by omega)
  by_cases h18 : 18 < q.size
  · have HN : Hid (R = none) := by
      show _ = _
      rw [HM.out]
      unfold magB
      rw [if_pos (.inr (.inl (by rw [bytes_len]; exact h18)))]
    have h18i : (18 : Int) < (q.size : Int) := by omega
    clear HM
    go_wp2_with fail
    go_ret2
    exact ⟨by rw [HN.out]; rfl, rfl⟩
  have h18i : ¬ (18 : Int) < (q.size : Int) := by omega
  obtain ⟨bad, hbad⟩ : ∃ bad : Bool, bad = (q[0].toNat == 48 && (decide (1 < q.size) || true)) := ⟨_, rfl⟩
  cases bad with
  | true =>
    have hb := hbad.symm
    rw [Bool.and_eq_true, beq_iff_eq, Bool.or_eq_true, decide_eq_true_eq] at hb
    obtain ⟨hb1, hb2⟩ := hb
    have HN : Hid (R = none) := by
      show _ = _
      rw [HM.out]
      unfold magB
      rw [if_pos (.inr (.inr ⟨by rw [bytes_head q h0p]; show some q[0] = some 48; rw [show q[0] = (48 : UInt8) from UInt8.toNat_inj.1 hb1], by rw [bytes_len]; exact hb2⟩))]
    have c48 : ((q[0].toNat : Int) == 48) = true := by rw [hb1]; rfl
    clear HM hbad
    rcases hb2 with hb2 | hb2
    · have h1i : (1 : Int) < (q.size : Int) := by omega
      go_wp2_with fail
      go_ret2
      exact ⟨by rw [HN.out]; rfl, rfl⟩
    · by_cases h1i : (1 : Int) < (q.size : Int)
      · go_wp2_with fail
        go_ret2
        exact ⟨by rw [HN.out]; rfl, rfl⟩
      · go_wp2_with fail
        go_ret2
        exact ⟨by rw [HN.out]; rfl, rfl⟩
  | false =>
    have HG : Hid (R = (decFrom 0 q.data.toList).map (fun u : Nat => if true = true then -(u : Int) else (u : Int))) := by
      show _ = _
      rw [HM.out]
      unfold magB
      rw [if_neg ?_]
      rintro (h9 | h9 | ⟨h9, h8⟩)
      · rw [← List.length_eq_zero_iff, bytes_len] at h9; omega
      · rw [bytes_len] at h9; omega
      · rw [bytes_head q h0p] at h9
        have h7 : q[0] = (48 : UInt8) := by simpa using h9
        rw [bytes_len] at h8
        have : (q[0].toNat == 48 && (decide (1 < q.size) || true)) = true := by
          rw [Bool.and_eq_true, beq_iff_eq, Bool.or_eq_true, decide_eq_true_eq]
          exact ⟨by rw [h7]; rfl, h8⟩
        rw [this] at hbad
        cases hbad
    have HCASE : Hid (¬ q[0].toNat = 48 ∨ (q.size = 1 ∧ true = false)) := by
      show _ ∨ _
      by_cases h9 : q[0].toNat = 48
      · right
        have h8 := hbad.symm
        rw [h9] at h8
        simp only [beq_self_eq_true, Bool.true_and, Bool.or_eq_false_iff, decide_eq_false_iff_not] at h8
        exact ⟨by omega, h8.2⟩
      · exact .inl h9
    clear HM hbad
    have h9 : ¬ q[0].toNat = 48 := by
      rcases HCASE.out with h9 | ⟨_, h9⟩
      · exact h9
      · cases h9
    have c48 : ((q[0].toNat : Int) == 48) = false := beq_eq_false_iff_ne.2 (by omega)
    clear HCASE
    go_wp2_with fail
    go_loopw [5, 6] (fun nv iv wr => ∃ (k u : Nat), k ≤ q.size ∧ nv = .int .i64 (u : Int) ∧ iv = .int .i64 (k : Int) ∧ Hid (u < 10 ^ k) ∧ Hid (decFrom 0 q.data.toList = decFrom u (q.data.toList.drop k)) ∧ wr = w) (fun _ i _ => q.size - (RowKit.intOf i).toNat)
    case atStart => exact ⟨0, 0, by omega, rfl, rfl, by show 0 < 10 ^ 0; omega, rfl, rfl⟩
    case round =>
      obtain ⟨k, u, hk, rfl, rfl, hu, hd, rfl⟩ := hrel
      by_cases hlt : k < q.size
      · have hlti : (k : Int) < (q.size : Int) := by omega
        have hu2 : (u : Int) ≤ 99999999999999999 := by
          have h17 : 10 ^ k ≤ 10 ^ 17 := Nat.pow_le_pow_right (by omega) (by omega)
          have := hu.out
          omega
        have hu0 : (0 : Int) ≤ (u : Int) := by omega
        have HD2 : Hid (decFrom 0 q.data.toList = decFrom u (q[k] :: q.data.toList.drop (k + 1))) := by show _ = _; rw [hd.out, bytes_drop q k hlt]
        have hcl := (q[k]).toNat_lt
        by_cases l48 : (q[k].toNat : Int) < 48
        · have HN : Hid (R = none) := by show _ = _; rw [HG.out, HD2.out, dec_no (by omega)]; rfl
          clear HG HD2 hd
          go_wp2_with fail
          go_ret2
          exact ⟨by rw [HN.out]; rfl, rfl⟩
        by_cases g57 : (57 : Int) < (q[k].toNat : Int)
        · have HN : Hid (R = none) := by show _ = _; rw [HG.out, HD2.out, dec_no (by omega)]; rfl
          clear HG HD2 hd
          go_wp2_with fail
          go_ret2
          exact ⟨by rw [HN.out]; rfl, rfl⟩
        have HN2 : Hid (decFrom 0 q.data.toList = decFrom (u * 10 + (q[k].toNat - 48)) (q.data.toList.drop (k + 1))) := by show _ = _; rw [HD2.out, dec_yes (by omega) (by omega)]
        have HU : Hid (u * 10 + (q[k].toNat - 48) < 10 ^ (k + 1)) := by
          show _ < _
          have := hu.out
          rw [Nat.pow_succ]
          omega
        have hw := w64b q[k]
        clear HD2 hd hu
        go_wp2_with fail
        exact ⟨⟨k + 1, u * 10 + (q[k].toNat - 48), by omega, by congr 1; omega, by go_num, HU.out, HN2.out, trivial⟩, by simp [RowKit.intOf]; omega⟩
      · have hkn : k = q.size := by omega
        have HN : Hid (R = some (if true = true then -(u : Int) else (u : Int))) := by
          show _ = _
          rw [HG.out, hd.out, bytes_end q k (by omega)]
          rfl
        have hu2 : (u : Int) ≤ 1000000000000000000 := by
          have h18 : 10 ^ k ≤ 10 ^ 18 := Nat.pow_le_pow_right (by omega) (by omega)
          have := hu.out
          omega
        clear HG hd hu hkn
        go_wp2_with fail
        go_ret2
        exact ⟨by rw [HN.out]; exact ret_num (by show _ = -(u : Int); omega) rfl, rfl⟩

set_option maxHeartbeats 4000000 in
theorem specNumPos (s : ByteArray) (R : Option Int) (w : World) (hs : s.size ≤ 9223372036854775807) (h0p : 0 < s.size) (hc : s[0] ≠ 45) (HR : Hid (numB s.data.toList = R)) : Calls Tryz.prog 117 #[.string s] w fun e w' => e = .returned (.tuple #[.int .i64 (R.getD 0), .bool R.isSome]) ∧ w' = w := by
  have h0s : (0 : Int) < (s.size : Int) := by omega
  have HM0 : Hid (R = magB false s.data.toList) := by
    show _ = _
    rw [← HR.out, bytes_head s h0p]
    show (if s[0] = 45 then magB true (s.data.toList.drop 1) else magB false (s[0] :: s.data.toList.drop 1)) = _
    rw [if_neg hc]
  have hc2 : ¬ (s[0].toNat : Int) = 45 := fun h9 => hc (UInt8.toNat_inj.1 (by have : (45 : UInt8).toNat = 45 := rfl; omega))
  have hc3 : ((s[0].toNat : Int) == 45) = false := beq_eq_false_iff_ne.2 hc2
  clear hc HR
  go_enter Tryz.func117, Tryz.ntmps117
  go_upto_region 5 with fail
  have HM := HM0
  have hq := hs
  clear HM0 hc2 hc3 h0s hs
  by_cases h0 : s.size = 0
  · have HN : Hid (R = none) := by
      show _ = _
      rw [HM.out]
      unfold magB
      rw [if_pos (.inl (by rw [← List.length_eq_zero_iff, bytes_len]; exact h0))]
    have h0i : ((s.size : Int) == 0) = true := by rw [h0]; rfl
    clear HM
    go_wp2_with fail
    go_ret2
    exact ⟨by rw [HN.out]; rfl, rfl⟩
  have h0i : ((s.size : Int) == 0) = false := beq_eq_false_iff_ne.2 (by omega)
  by_cases h18 : 18 < s.size
  · have HN : Hid (R = none) := by
      show _ = _
      rw [HM.out]
      unfold magB
      rw [if_pos (.inr (.inl (by rw [bytes_len]; exact h18)))]
    have h18i : (18 : Int) < (s.size : Int) := by omega
    clear HM
    go_wp2_with fail
    go_ret2
    exact ⟨by rw [HN.out]; rfl, rfl⟩
  have h18i : ¬ (18 : Int) < (s.size : Int) := by omega
  obtain ⟨bad, hbad⟩ : ∃ bad : Bool, bad = (s[0].toNat == 48 && (decide (1 < s.size) || false)) := ⟨_, rfl⟩
  cases bad with
  | true =>
    have hb := hbad.symm
    rw [Bool.and_eq_true, beq_iff_eq, Bool.or_eq_true, decide_eq_true_eq] at hb
    obtain ⟨hb1, hb2⟩ := hb
    have HN : Hid (R = none) := by
      show _ = _
      rw [HM.out]
      unfold magB
      rw [if_pos (.inr (.inr ⟨by rw [bytes_head s h0p]; show some s[0] = some 48; rw [show s[0] = (48 : UInt8) from UInt8.toNat_inj.1 hb1], by rw [bytes_len]; exact hb2⟩))]
    have c48 : ((s[0].toNat : Int) == 48) = true := by rw [hb1]; rfl
    clear HM hbad
    rcases hb2 with hb2 | hb2
    · have h1i : (1 : Int) < (s.size : Int) := by omega
      go_wp2_with fail
      go_ret2
      exact ⟨by rw [HN.out]; rfl, rfl⟩
    · cases hb2
  | false =>
    have HG : Hid (R = (decFrom 0 s.data.toList).map (fun u : Nat => if false = true then -(u : Int) else (u : Int))) := by
      show _ = _
      rw [HM.out]
      unfold magB
      rw [if_neg ?_]
      rintro (h9 | h9 | ⟨h9, h8⟩)
      · rw [← List.length_eq_zero_iff, bytes_len] at h9; omega
      · rw [bytes_len] at h9; omega
      · rw [bytes_head s h0p] at h9
        have h7 : s[0] = (48 : UInt8) := by simpa using h9
        rw [bytes_len] at h8
        have : (s[0].toNat == 48 && (decide (1 < s.size) || false)) = true := by
          rw [Bool.and_eq_true, beq_iff_eq, Bool.or_eq_true, decide_eq_true_eq]
          exact ⟨by rw [h7]; rfl, h8⟩
        rw [this] at hbad
        cases hbad
    have HCASE : Hid (¬ s[0].toNat = 48 ∨ (s.size = 1 ∧ false = false)) := by
      show _ ∨ _
      by_cases h9 : s[0].toNat = 48
      · right
        have h8 := hbad.symm
        rw [h9] at h8
        simp only [beq_self_eq_true, Bool.true_and, Bool.or_eq_false_iff, decide_eq_false_iff_not] at h8
        exact ⟨by omega, rfl⟩
      · exact .inl h9
    clear HM hbad
    by_cases h48 : s[0].toNat = 48
    · have c48 : ((s[0].toNat : Int) == 48) = true := by rw [h48]; rfl
      have h1i : ¬ (1 : Int) < (s.size : Int) := by
        rcases HCASE.out with h9 | ⟨h9, _⟩
        · exact absurd h48 h9
        · omega
      clear HCASE
      go_wp2_with fail
      go_loopw [5, 6] (fun nv iv wr => ∃ (k u : Nat), k ≤ s.size ∧ nv = .int .i64 (u : Int) ∧ iv = .int .i64 (k : Int) ∧ Hid (u < 10 ^ k) ∧ Hid (decFrom 0 s.data.toList = decFrom u (s.data.toList.drop k)) ∧ wr = w) (fun _ i _ => s.size - (RowKit.intOf i).toNat)
      case atStart => exact ⟨0, 0, by omega, rfl, rfl, by show 0 < 10 ^ 0; omega, rfl, rfl⟩
      case round =>
        obtain ⟨k, u, hk, rfl, rfl, hu, hd, rfl⟩ := hrel
        by_cases hlt : k < s.size
        · have hlti : (k : Int) < (s.size : Int) := by omega
          have hu2 : (u : Int) ≤ 99999999999999999 := by
            have h17 : 10 ^ k ≤ 10 ^ 17 := Nat.pow_le_pow_right (by omega) (by omega)
            have := hu.out
            omega
          have hu0 : (0 : Int) ≤ (u : Int) := by omega
          have HD2 : Hid (decFrom 0 s.data.toList = decFrom u (s[k] :: s.data.toList.drop (k + 1))) := by show _ = _; rw [hd.out, bytes_drop s k hlt]
          have hcl := (s[k]).toNat_lt
          by_cases l48 : (s[k].toNat : Int) < 48
          · have HN : Hid (R = none) := by show _ = _; rw [HG.out, HD2.out, dec_no (by omega)]; rfl
            clear HG HD2 hd
            go_wp2_with fail
            go_ret2
            exact ⟨by rw [HN.out]; rfl, rfl⟩
          by_cases g57 : (57 : Int) < (s[k].toNat : Int)
          · have HN : Hid (R = none) := by show _ = _; rw [HG.out, HD2.out, dec_no (by omega)]; rfl
            clear HG HD2 hd
            go_wp2_with fail
            go_ret2
            exact ⟨by rw [HN.out]; rfl, rfl⟩
          have HN2 : Hid (decFrom 0 s.data.toList = decFrom (u * 10 + (s[k].toNat - 48)) (s.data.toList.drop (k + 1))) := by show _ = _; rw [HD2.out, dec_yes (by omega) (by omega)]
          have HU : Hid (u * 10 + (s[k].toNat - 48) < 10 ^ (k + 1)) := by
            show _ < _
            have := hu.out
            rw [Nat.pow_succ]
            omega
          have hw := w64b s[k]
          clear HD2 hd hu
          go_wp2_with fail
          exact ⟨⟨k + 1, u * 10 + (s[k].toNat - 48), by omega, by congr 1; omega, by go_num, HU.out, HN2.out, trivial⟩, by simp [RowKit.intOf]; omega⟩
        · have hkn : k = s.size := by omega
          have HN : Hid (R = some (if false = true then -(u : Int) else (u : Int))) := by
            show _ = _
            rw [HG.out, hd.out, bytes_end s k (by omega)]
            rfl
          have hu2 : (u : Int) ≤ 1000000000000000000 := by
            have h18 : 10 ^ k ≤ 10 ^ 18 := Nat.pow_le_pow_right (by omega) (by omega)
            have := hu.out
            omega
          clear HG hd hu hkn
          go_wp2_with fail
          go_ret2
          exact ⟨by rw [HN.out]; exact ret_num (by show _ = (u : Int); omega) rfl, rfl⟩
    · have c48 : ((s[0].toNat : Int) == 48) = false := beq_eq_false_iff_ne.2 (by omega)
      clear HCASE
      go_wp2_with fail
      go_loopw [5, 6] (fun nv iv wr => ∃ (k u : Nat), k ≤ s.size ∧ nv = .int .i64 (u : Int) ∧ iv = .int .i64 (k : Int) ∧ Hid (u < 10 ^ k) ∧ Hid (decFrom 0 s.data.toList = decFrom u (s.data.toList.drop k)) ∧ wr = w) (fun _ i _ => s.size - (RowKit.intOf i).toNat)
      case atStart => exact ⟨0, 0, by omega, rfl, rfl, by show 0 < 10 ^ 0; omega, rfl, rfl⟩
      case round =>
        obtain ⟨k, u, hk, rfl, rfl, hu, hd, rfl⟩ := hrel
        by_cases hlt : k < s.size
        · have hlti : (k : Int) < (s.size : Int) := by omega
          have hu2 : (u : Int) ≤ 99999999999999999 := by
            have h17 : 10 ^ k ≤ 10 ^ 17 := Nat.pow_le_pow_right (by omega) (by omega)
            have := hu.out
            omega
          have hu0 : (0 : Int) ≤ (u : Int) := by omega
          have HD2 : Hid (decFrom 0 s.data.toList = decFrom u (s[k] :: s.data.toList.drop (k + 1))) := by show _ = _; rw [hd.out, bytes_drop s k hlt]
          have hcl := (s[k]).toNat_lt
          by_cases l48 : (s[k].toNat : Int) < 48
          · have HN : Hid (R = none) := by show _ = _; rw [HG.out, HD2.out, dec_no (by omega)]; rfl
            clear HG HD2 hd
            go_wp2_with fail
            go_ret2
            exact ⟨by rw [HN.out]; rfl, rfl⟩
          by_cases g57 : (57 : Int) < (s[k].toNat : Int)
          · have HN : Hid (R = none) := by show _ = _; rw [HG.out, HD2.out, dec_no (by omega)]; rfl
            clear HG HD2 hd
            go_wp2_with fail
            go_ret2
            exact ⟨by rw [HN.out]; rfl, rfl⟩
          have HN2 : Hid (decFrom 0 s.data.toList = decFrom (u * 10 + (s[k].toNat - 48)) (s.data.toList.drop (k + 1))) := by show _ = _; rw [HD2.out, dec_yes (by omega) (by omega)]
          have HU : Hid (u * 10 + (s[k].toNat - 48) < 10 ^ (k + 1)) := by
            show _ < _
            have := hu.out
            rw [Nat.pow_succ]
            omega
          have hw := w64b s[k]
          clear HD2 hd hu
          go_wp2_with fail
          exact ⟨⟨k + 1, u * 10 + (s[k].toNat - 48), by omega, by congr 1; omega, by go_num, HU.out, HN2.out, trivial⟩, by simp [RowKit.intOf]; omega⟩
        · have hkn : k = s.size := by omega
          have HN : Hid (R = some (if false = true then -(u : Int) else (u : Int))) := by
            show _ = _
            rw [HG.out, hd.out, bytes_end s k (by omega)]
            rfl
          have hu2 : (u : Int) ≤ 1000000000000000000 := by
            have h18 : 10 ^ k ≤ 10 ^ 18 := Nat.pow_le_pow_right (by omega) (by omega)
            have := hu.out
            omega
          clear HG hd hu hkn
          go_wp2_with fail
          go_ret2
          exact ⟨by rw [HN.out]; exact ret_num (by show _ = (u : Int); omega) rfl, rfl⟩

theorem l00NumberS (s : ByteArray) (w : World) (hs : s.size ≤ maxLen) : Calls Tryz.prog 117 #[.string s] w fun e w' => e = .returned (.tuple #[.int .i64 ((numB s.data.toList).getD 0), .bool (numB s.data.toList).isSome]) ∧ w' = w := by
  unfold maxLen at hs
  by_cases h0 : s.size = 0
  · have he : s.data.toList = [] := by rw [← List.length_eq_zero_iff, bytes_len]; exact h0
    rw [he]
    have h0i : ¬ (0 : Int) < (s.size : Int) := by omega
    have h0j : ((s.size : Int) == 0) = true := by rw [h0]; rfl
    go_enter Tryz.func117, Tryz.ntmps117
    go_wp2_with fail
    go_ret2
    exact ⟨rfl, rfl⟩
  · by_cases hc : s[0] = 45
    · exact specNumNeg s _ w hs (by omega) hc rfl
    · exact specNumPos s _ w hs (by omega) hc rfl
end Go.Proofs.YthgbclipknfmjaaGreatDoor
namespace Go.Proofs.YthgbclipknfmjaaGreatDoor
open Go.ChangeShapes Go.WideShapes Go.ChangeAt Go.RowKit Go.Deep Go.Lib
set_option linter.unusedVariables false
set_option linter.unusedSimpArgs false
set_option maxRecDepth 100000

theorem tkA {P : Program} {md : Region.Mode} {ops : Array Oper} {Q : Exit → Act → World → Prop} {S : World → Prop} {i : Nat} {oi : Oper} {v : Value} {fuel : Nat} {listed : Array Bool} {a : Act} {w : World} (hy : ∀ w, S w → (execOp a.eval oi).run P w = .ok (.value v) w) (hS : S w) (h : wpAnyH P md ops Q S fuel (listed.setIfInBounds i true) (a.put oi.dst v) w)
    (hi : ops[i]? = some oi := by rfl) (hs : Region.noSelect ops = true := by kernel_rfl) (hf : Region.free md ops listed i = true := by kernel_rfl) (hr : (Region.ready md ops listed).contains i = true := by kernel_rfl) (hw : Region.wanted oi (yielded ops a.tmps) = true := by kernel_rfl) (hQ : ∀ c a w, Q (.panic c) (a.put oi.dst v) w → Q (.panic c) a w := by exact fun _ _ _ h => h) : wpAnyH P md ops Q S (fuel + 1) listed a w :=
  wpAnyH_take hi hs hf hr hQ (Or.inl ⟨hw, hy⟩) hS h
theorem skA {P : Program} {md : Region.Mode} {ops : Array Oper} {Q : Exit → Act → World → Prop} {S : World → Prop} {i : Nat} {oi : Oper} {fuel : Nat} {listed : Array Bool} {a : Act} {w : World} (hS : S w) (h : wpAnyH P md ops Q S fuel (listed.setIfInBounds i true) (a.put oi.dst undef) w)
    (hi : ops[i]? = some oi := by rfl) (hs : Region.noSelect ops = true := by kernel_rfl) (hf : Region.free md ops listed i = true := by kernel_rfl) (hr : (Region.ready md ops listed).contains i = true := by kernel_rfl) (hw : Region.wanted oi (yielded ops a.tmps) = false := by kernel_rfl) (hQ : ∀ c a w, Q (.panic c) (a.put oi.dst undef) w → Q (.panic c) a w := by exact fun _ _ _ h => h) : wpAnyH P md ops Q S (fuel + 1) listed a w :=
  wpAnyH_take hi hs hf hr hQ (Or.inr ⟨hw, rfl⟩) hS h
def bs (l : List UInt8) : ByteArray := ⟨l.toArray⟩
theorem bs_append (l m : List UInt8) : bs l ++ bs m = bs (l ++ m) := by
  cases h : bs l ++ bs m
  simp only [bs] at h ⊢
  have : (ByteArray.mk l.toArray ++ ByteArray.mk m.toArray).data = _ := congrArg ByteArray.data h
  simp only [ByteArray.data_append] at this
  rw [← this]
  simp
/-- One byte as a text. -/
theorem conv_byte (W : World) (b : Nat) (z : Int) (d : Nat) (hd : d < 10) (hz : z = 48 + (d : Int)) (hc : W.cell? ⟨b, 0, none⟩ = some (.int .u8 z)) : (convert 22 9 (.slice (some ⟨b, 0, none⟩) 1 1)).run Tryz.prog W = .ok (.string (bs [UInt8.ofNat (48 + d)])) W := by
  refine run_convert_bytes_back (P := Tryz.prog) W 22 9 5 ⟨b, 0, none⟩ 1 [UInt8.ofNat (48 + d)] Tryz.underlying22 Tryz.underlying5 Tryz.underlying9 (fun j hj => ?_)
  have hj2 : j < 1 := hj
  obtain rfl : j = 0 := by omega
  have h1 : (UInt8.ofNat (48 + d)).toNat = 48 + d := by simp [UInt8.toNat_ofNat']; omega
  have h2 : W.cell? ((⟨b, 0, none⟩ : Addr).add 0) = W.cell? ⟨b, 0, none⟩ := rfl
  rw [h2, hc, hz]
  show some (Value.int .u8 (48 + (d : Int))) = some (Value.int .u8 ((UInt8.ofNat (48 + d)).toNat : Int))
  rw [h1]
  rfl
theorem conv_new (W : World) (z : Int) (d : Nat) (hd : d < 10) (hz : z = 48 + (d : Int)) : (convert 22 9 (.slice (some ⟨W.heap.size, 0, none⟩) 1 1)).run Tryz.prog (W.alloc (.cells #[.int .u8 z] 5)) = .ok (.string (bs [UInt8.ofNat (48 + d)])) (W.alloc (.cells #[.int .u8 z] 5)) :=
  conv_byte _ _ z d hd hz ((Box.new (w := W) (B := W.heap.size) (vs := #[.int .u8 z]) (t := 5) rfl) 0 _ rfl).1
theorem wrapI (z : Int) (h0 : -9223372036854775808 ≤ z) (h1 : z ≤ 9223372036854775807) : IntKind.i64.wrap z = z := by
  rw [IntKind.wrap_i64]; omega
theorem wrap8 (d : Nat) (hd : d < 10) : IntKind.u8.wrap (48 + (d : Int)) = 48 + (d : Int) := by
  have : ∀ d : Fin 10, IntKind.u8.wrap (48 + (d.val : Int)) = 48 + (d.val : Int) := by decide
  exact this ⟨d, hd⟩
set_option maxHeartbeats 2000000 in
theorem digitsOne (n : Nat) (hn : n < 10) (w : World) : Calls Tryz.prog 94 #[.int .i64 (n : Int)] w fun e w' => e = .returned (.string (bs (decDigits n))) ∧ Below w.heap.size w w' := by
  have h1 : ¬ ((n : Int) < 0) := by omega
  have h2 : (n : Int) < 10 := by omega
  have h3 : ((n : Int) == -9223372036854775808) = false := beq_eq_false_iff_ne.2 (by omega)
  have h4 := wrap8 n hn
  obtain ⟨T, hT⟩ : ∃ T, bs [UInt8.ofNat (48 + n)] = T := ⟨_, rfl⟩
  have hcv := conv_new w (48 + (n : Int)) n hn rfl
  rw [hT] at hcv
  have HD : Hid (bs (decDigits n) = T) := by show _ = _; rw [decDigits_one hn, hT]
  clear hT
  go_enter Tryz.func94, Tryz.ntmps94
  go_wp2_with fail
  go_ret
  exact ⟨by rw [HD.out]; rfl, (Below.refl _ _).alloc (Nat.le_refl _) _⟩
set_option maxHeartbeats 4000000 in
theorem l00DigitsS : ∀ (k n : Nat), n < 10 ^ (k + 1) → k ≤ 17 → ∀ w, Calls Tryz.prog 94 #[.int .i64 (n : Int)] w fun e w' => e = .returned (.string (bs (decDigits n))) ∧ Below w.heap.size w w' := by
  intro k
  induction k with
  | zero => intro n hn _ w; exact digitsOne n (by simpa using hn) w
  | succ k ih =>
    intro n hn hk w
    by_cases h10 : n < 10
    · exact digitsOne n h10 w
    have hb : n < 1000000000000000000 := by
      have : 10 ^ (k + 1 + 1) ≤ 10 ^ 18 := Nat.pow_le_pow_right (by omega) (by omega)
      omega
    have hq : n / 10 < 10 ^ (k + 1) := by
      rw [Nat.pow_succ] at hn; omega
    have IH : ∀ W, Calls Tryz.prog 94 #[.int .i64 ((n / 10 : Nat) : Int)] W fun e w' => e = .returned (.string (bs (decDigits (n / 10)))) ∧ Below W.heap.size W w' := ih (n / 10) hq (by omega)
    obtain ⟨T, hT⟩ : ∃ T, bs [UInt8.ofNat (48 + n % 10)] = T := ⟨_, rfl⟩
    obtain ⟨X, hX⟩ : ∃ X, bs (decDigits (n / 10)) = X := ⟨_, rfl⟩
    have HD : Hid (bs (decDigits n) = X ++ T) := by
      show _ = _
      rw [← hT, ← hX, bs_append]
      congr 1
      rw [decDigits, dif_neg h10]
    have hlen : X.size ≤ 18 := by
      have := (digits_len (n / 10) 17).2 (by omega)
      rw [← hX]
      simpa [bs, ByteArray.size] using this
    have hlt : T.size = 1 := by rw [← hT]; rfl
    have hcv := fun W => conv_new W (48 + ((n % 10 : Nat) : Int)) (n % 10) (by omega) rfl
    have hcb := fun W b => conv_byte W b (48 + ((n % 10 : Nat) : Int)) (n % 10) (by omega) rfl
    rw [hT] at hcb
    simp only [hT] at hcv
    rw [hX] at IH
    have h1 : ¬ ((n : Int) < 0) := by omega
    have h2 : ¬ (n : Int) < 10 := by omega
    have h3 : ((n : Int) == -9223372036854775808) = false := beq_eq_false_iff_ne.2 (by omega)
    have h4 := wrap8 (n % 10) (by omega)
    have e1 : ((n / 10 : Nat) : Int) = (n : Int) / 10 := by omega
    have e2 : ((n % 10 : Nat) : Int) = (n : Int) % 10 := by omega
    obtain ⟨m, hm⟩ : ∃ m : Int, (n : Int) / 10 = m := ⟨_, rfl⟩
    obtain ⟨r, hr⟩ : ∃ r : Int, (n : Int) % 10 = r := ⟨_, rfl⟩
    rw [e1, hm] at IH
    rw [e2, hr] at h4
    simp only [e2, hr] at hcv hcb
    have hr0 : 0 ≤ r ∧ r < 10 := by omega
    have hmm : (n : Int).tdiv 10 = m := by rw [← hm]; exact Int.tdiv_eq_ediv_of_nonneg (by omega)
    have hrr : (n : Int).tmod 10 = r := by rw [← hr]; exact Int.tmod_eq_emod_of_nonneg (by omega)
    have hwm : IntKind.i64.wrap m = m := wrapI m (by omega) (by omega)
    have hwr : IntKind.i64.wrap (48 + r) = 48 + r := wrapI _ (by omega) (by omega)
    have hnc : ¬ 9223372036854775807 < X.size + 1 := by omega
    clear hT hX ih
    go_enter Tryz.func94, Tryz.ntmps94
    go_wp2_with fail
    refine wp_region_noPanic ?_
    refine wp_region_held_drew (S := fun _ => True) (by kernel_rfl) trivial (fun hHeld => ?_)
    refine tkA (i := 0) (v := .int .i64 (n : Int)) ?_ hHeld ?_
    · intro w9 _
      go_simp
    simp only [Act.put, List.setIfInBounds_toArray, List.set_cons_zero, List.set_cons_succ]
    refine tkA (i := 1) (v := .int .i64 m) ?_ hHeld ?_
    · intro w9 _
      go_simp
    simp only [Act.put, List.setIfInBounds_toArray, List.set_cons_zero, List.set_cons_succ]
    refine tkA (i := 3) (v := .int .i64 (n : Int)) ?_ hHeld ?_
    · intro w9 _
      go_simp
    simp only [Act.put, List.setIfInBounds_toArray, List.set_cons_zero, List.set_cons_succ]
    refine tkA (i := 4) (v := .int .i64 r) ?_ hHeld ?_
    · intro w9 _
      go_simp
    simp only [Act.put, List.setIfInBounds_toArray, List.set_cons_zero, List.set_cons_succ]
    refine tkA (i := 5) (v := .int .i64 (48 + r)) ?_ hHeld ?_
    · intro w9 _
      go_simp
    simp only [Act.put, List.setIfInBounds_toArray, List.set_cons_zero, List.set_cons_succ]
    refine tkA (i := 6) (v := .int .u8 (48 + r)) ?_ hHeld ?_
    · intro w9 _
      go_simp
    simp only [Act.put, List.setIfInBounds_toArray, List.set_cons_zero, List.set_cons_succ]
    refine wpAnyH_ready (rs := [2, 7]) (by kernel_rfl) (by simp) ?_
    refine AllReadyH.cons rfl (fun K hK => ?_) (AllReadyH.cons rfl (fun K hK => ?_) AllReadyH.nil)
    · skip
      go_simp
      refine (IH _).mono ?_
      rintro e wa1 ⟨rfl, hb1⟩
      dsimp only
      have B1 : Hid (Below w.heap.size w wa1) := (Below.refl w.heap.size w).drew.trans (hb1.mono (Below.refl w.heap.size w).drew.size)
      clear hb1
      refine hK _ _ trivial (fun hHeld => ?_)
      clear hK K
      refine wpAnyH_ready (rs := [7]) (by kernel_rfl) (by simp) ?_
      refine AllReadyH.cons rfl (fun K hK => ?_) AllReadyH.nil
      go_simp
      have B2 : Hid (Below w.heap.size w ((wa1).alloc (.cells #[.int .u8 (48 + r)] 5))) := (B1.out).alloc (B1.out).size _
      have X2 : Hid (Box ((wa1).alloc (.cells #[.int .u8 (48 + r)] 5)) wa1.heap.size [.int .u8 (48 + r)]) := Box.new rfl
      refine hK _ _ trivial (fun hHeld => ?_)
      clear hK K
      refine wpAnyH_ready (rs := [8]) (by kernel_rfl) (by simp) ?_
      refine AllReadyH.cons rfl (fun K hK => ?_) AllReadyH.nil
      have hc3 := hcb ((wa1).alloc (.cells #[.int .u8 (48 + r)] 5)) (wa1.heap.size) (X2.out 0 _ rfl).1
      go_simp
      refine hK _ _ trivial (fun hHeld => ?_)
      clear hK K
      refine wpAnyH_ready (rs := [9]) (by kernel_rfl) (by simp) ?_
      refine AllReadyH.cons rfl (fun K hK => ?_) AllReadyH.nil
      go_simp
      refine hK _ _ trivial (fun hHeld => ?_)
      clear hK K
      refine wpAnyH_ready (rs := [10]) (by kernel_rfl) (by simp) ?_
      refine AllReadyH.cons rfl (fun K hK => ?_) AllReadyH.nil
      go_simp
      refine hK _ _ trivial (fun hHeld => ?_)
      clear hK K
      refine wpAnyH_done (by kernel_rfl) ?_ _
      refine NoPanic.normal ?_
      clear hHeld
      go_wp2_with fail
      go_ret
      exact ⟨by rw [HD.out]; rfl, B2.out⟩
    · skip
      go_simp
      have B4 : Hid (Below w.heap.size w ((w).alloc (.cells #[.int .u8 (48 + r)] 5))) := ((Below.refl w.heap.size w)).alloc ((Below.refl w.heap.size w)).size _
      have X4 : Hid (Box ((w).alloc (.cells #[.int .u8 (48 + r)] 5)) w.heap.size [.int .u8 (48 + r)]) := Box.new rfl
      refine hK _ _ trivial (fun hHeld => ?_)
      clear hK K
      refine wpAnyH_ready (rs := [2, 8]) (by kernel_rfl) (by simp) ?_
      refine AllReadyH.cons rfl (fun K hK => ?_) (AllReadyH.cons rfl (fun K hK => ?_) AllReadyH.nil)
      · skip
        go_simp
        refine (IH _).mono ?_
        rintro e wa5 ⟨rfl, hb5⟩
        dsimp only
        have B5 : Hid (Below w.heap.size w wa5) := B4.out.drew.trans (hb5.mono B4.out.drew.size)
        have X5 : Hid (Box wa5 w.heap.size [.int .u8 (48 + r)]) := Box.below (w := ((w).alloc (.cells #[.int .u8 (48 + r)] 5)).drew) X4.out.drew hb5
        clear hb5
        refine hK _ _ trivial (fun hHeld => ?_)
        clear hK K
        refine wpAnyH_ready (rs := [8]) (by kernel_rfl) (by simp) ?_
        refine AllReadyH.cons rfl (fun K hK => ?_) AllReadyH.nil
        have hc6 := hcb (wa5) (w.heap.size) (X5.out 0 _ rfl).1
        go_simp
        refine hK _ _ trivial (fun hHeld => ?_)
        clear hK K
        refine wpAnyH_ready (rs := [9]) (by kernel_rfl) (by simp) ?_
        refine AllReadyH.cons rfl (fun K hK => ?_) AllReadyH.nil
        go_simp
        refine hK _ _ trivial (fun hHeld => ?_)
        clear hK K
        refine wpAnyH_ready (rs := [10]) (by kernel_rfl) (by simp) ?_
        refine AllReadyH.cons rfl (fun K hK => ?_) AllReadyH.nil
        go_simp
        refine hK _ _ trivial (fun hHeld => ?_)
        clear hK K
        refine wpAnyH_done (by kernel_rfl) ?_ _
        refine NoPanic.normal ?_
        clear hHeld
        go_wp2_with fail
        go_ret
        exact ⟨by rw [HD.out]; rfl, B5.out⟩
      · skip
        have hc7 := hcb (((w).alloc (.cells #[.int .u8 (48 + r)] 5)).drew) (w.heap.size) (X4.out.drew 0 _ rfl).1
        go_simp
        refine hK _ _ trivial (fun hHeld => ?_)
        clear hK K
        refine wpAnyH_ready (rs := [2]) (by kernel_rfl) (by simp) ?_
        refine AllReadyH.cons rfl (fun K hK => ?_) AllReadyH.nil
        go_simp
        refine (IH _).mono ?_
        rintro e wa8 ⟨rfl, hb8⟩
        dsimp only
        have B8 : Hid (Below w.heap.size w wa8) := B4.out.drew.trans (hb8.mono B4.out.drew.size)
        have X8 : Hid (Box wa8 w.heap.size [.int .u8 (48 + r)]) := Box.below (w := ((w).alloc (.cells #[.int .u8 (48 + r)] 5)).drew) X4.out.drew hb8
        clear hb8
        refine hK _ _ trivial (fun hHeld => ?_)
        clear hK K
        refine wpAnyH_ready (rs := [9]) (by kernel_rfl) (by simp) ?_
        refine AllReadyH.cons rfl (fun K hK => ?_) AllReadyH.nil
        go_simp
        refine hK _ _ trivial (fun hHeld => ?_)
        clear hK K
        refine wpAnyH_ready (rs := [10]) (by kernel_rfl) (by simp) ?_
        refine AllReadyH.cons rfl (fun K hK => ?_) AllReadyH.nil
        go_simp
        refine hK _ _ trivial (fun hHeld => ?_)
        clear hK K
        refine wpAnyH_done (by kernel_rfl) ?_ _
        refine NoPanic.normal ?_
        clear hHeld
        go_wp2_with fail
        go_ret
        exact ⟨by rw [HD.out]; rfl, B8.out⟩
end Go.Proofs.YthgbclipknfmjaaGreatDoor
