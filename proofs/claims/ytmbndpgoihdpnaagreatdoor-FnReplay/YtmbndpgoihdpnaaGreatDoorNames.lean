
/-
  Names: the program's NameOK and the specification's. By an AI agent.
-/
import Derived.Test.YtmbndpgoihdpnaaGreatDoorPairsOKi
namespace Go.Proofs.YtmbndpgoihdpnaaGreatDoor
open Go.ChangeShapes Go.WideShapes Go.ChangeAt Go.RowKit Go.Deep
set_option linter.unusedVariables false

def letB (c : Int) : Bool := (decide (97 ≤ c) && decide (c ≤ 122)) || (decide (65 ≤ c) && decide (c ≤ 90)) || c == 95
def digB (c : Int) : Bool := decide (48 ≤ c) && decide (c ≤ 57)
def chB (c : UInt8) : Bool := letB c.toNat || digB c.toNat
def okFrom (s : ByteArray) (k : Nat) : Bool := (s.data.toList.drop k).all chB
def wordB (s : ByteArray) : Bool := decide (1 ≤ s.size) && decide (s.size ≤ 40) && letB (s.data.toList.headD 0).toNat && okFrom s 1

theorem okFrom_step (s : ByteArray) (k : Nat) (h : k < s.size) : okFrom s k = (chB s[k] && okFrom s (k + 1)) := by
  unfold okFrom
  rw [List.drop_eq_getElem_cons (by simpa using h)]
  rfl
theorem okFrom_end (s : ByteArray) (k : Nat) (h : s.size ≤ k) : okFrom s k = true := by
  unfold okFrom
  rw [List.drop_of_length_le (by simpa using h)]
  rfl

theorem letterI (c : Int) (w : World) : Calls Tryz.prog 132 #[.int .u8 c] w fun e w' => e = .returned (.bool (letB c)) ∧ w = w' := by
  go_enter Tryz.func132, Tryz.ntmps132
  go_wp2
  all_goals
    go_ret
    exact ⟨ret_bool (by rw [Bool.eq_iff_iff]; simp [letB]; omega), rfl⟩

theorem digitI (c : Int) (w : World) : Calls Tryz.prog 133 #[.int .u8 c] w fun e w' => e = .returned (.bool (digB c)) ∧ w = w' := by
  go_enter Tryz.func133, Tryz.ntmps133
  go_wp2
  all_goals
    go_ret
    exact ⟨ret_bool (by rw [Bool.eq_iff_iff]; simp [digB]; omega), rfl⟩
theorem letterS (c : Int) (w : World) : Calls Tryz.prog 134 #[.int .u8 c] w fun e w' => e = .returned (.bool (letB c)) ∧ w = w' := by
  go_enter Tryz.func134, Tryz.ntmps134
  go_wp2
  all_goals
    go_ret
    exact ⟨ret_bool (by rw [Bool.eq_iff_iff]; simp [letB]; omega), rfl⟩
theorem digitS (c : Int) (w : World) : Calls Tryz.prog 135 #[.int .u8 c] w fun e w' => e = .returned (.bool (digB c)) ∧ w = w' := by
  go_enter Tryz.func135, Tryz.ntmps135
  go_wp2
  all_goals
    go_ret
    exact ⟨ret_bool (by rw [Bool.eq_iff_iff]; simp [digB]; omega), rfl⟩


theorem head_at (s : ByteArray) (h : 0 < s.size) : s.data.toList.headD 0 = s[0] := by
  have : s.data.toList = s.data.toList[0]'(by simpa using h) :: s.data.toList.drop 1 := by
    rw [← List.drop_eq_getElem_cons (by simpa using h)]; rfl
  rw [this]; rfl

set_option maxHeartbeats 400000 in
theorem implNameOK (s : ByteArray) (w : World) (hs : s.size ≤ maxLen) : Calls Tryz.prog 124 #[.string s] w fun e w' => e = .returned (.bool (wordB s)) ∧ w = w' := by
  unfold maxLen at hs
  by_cases h0 : s.size = 0
  · have h0' : ((s.size : Int) == 0) = true := by simp [h0]
    go_enter Tryz.func124, Tryz.ntmps124
    go_wp2_with fail
    go_ret
    exact ⟨ret_bool (by simp [wordB, h0]), rfl⟩
  have h0' : ((s.size : Int) == 0) = false := by first | exact beq_eq_false_iff_ne.2 (by omega) | (simp; omega)
  by_cases h1 : 40 < s.size
  · go_enter Tryz.func124, Tryz.ntmps124
    go_wp2_with fail
    go_ret
    exact ⟨ret_bool (by simp [wordB]; omega), rfl⟩
  have hp : 0 < s.size := by omega
  have h1' : decide (40 < (s.size : Int)) = false := by simp; omega
  have hhead := head_at s hp
  by_cases hl : letB s[0].toNat = true
  · have hw : Hid (wordB s = okFrom s 1) := by show wordB s = okFrom s 1; unfold wordB; rw [hhead, hl]; simp [Nat.not_lt.mp h1]; intro _; omega
    clear hhead
    go_enter Tryz.func124, Tryz.ntmps124
    go_wp2_with (go_at_call 132; refine (letterI _ _).mono ?_; rintro e w' ⟨rfl, rfl⟩)
    go_loop [3] (fun i => ∃ k : Nat, 1 ≤ k ∧ k ≤ s.size ∧ i = .int .i64 k ∧ Hid (okFrom s 1 = okFrom s k)) (fun i => s.size - (intOf i).toNat)
    case atStart => exact ⟨1, by omega, by omega, rfl, rfl⟩
    case round =>
      obtain ⟨k, hk1, hk2, rfl, hr⟩ := hrel
      by_cases hlt : k < s.size
      · by_cases hL : letB s[k].toNat = true
        · go_wp2_with (first | (go_at_call 132; refine (letterI _ _).mono ?_; rintro e w' ⟨rfl, rfl⟩) | (go_at_call 133; refine (digitI _ _).mono ?_; rintro e w' ⟨rfl, rfl⟩))
          go_round
          case rel => exact ⟨k + 1, by omega, by omega, by go_num, by have := hr.out; rw [okFrom_step s k hlt, chB, hL] at this; show okFrom s 1 = okFrom s (k + 1); simpa using this⟩
          case measure => simp [intOf]; omega
        · have hL' : letB s[k].toNat = false := by simpa using hL
          clear hL
          by_cases hD : digB s[k].toNat = true
          · go_wp2_with (first | (go_at_call 132; refine (letterI _ _).mono ?_; rintro e w' ⟨rfl, rfl⟩) | (go_at_call 133; refine (digitI _ _).mono ?_; rintro e w' ⟨rfl, rfl⟩))
            go_round
            case rel => exact ⟨k + 1, by omega, by omega, by go_num, by have := hr.out; rw [okFrom_step s k hlt, chB, hL', hD] at this; show okFrom s 1 = okFrom s (k + 1); simpa using this⟩
            case measure => simp [intOf]; omega
          · have hD' : digB s[k].toNat = false := by simpa using hD
            clear hD
            have hf : Hid (wordB s = false) := by
              have := hr.out; rw [okFrom_step s k hlt, chB, hL', hD'] at this
              show wordB s = false
              rw [hw.out, this]; rfl
            go_wp2_with (first | (go_at_call 132; refine (letterI _ _).mono ?_; rintro e w' ⟨rfl, rfl⟩) | (go_at_call 133; refine (digitI _ _).mono ?_; rintro e w' ⟨rfl, rfl⟩))
            go_ret
            exact ⟨ret_bool hf.out.symm, rfl⟩
      · have hf : Hid (wordB s = true) := by
          show wordB s = true
          rw [hw.out, hr.out, okFrom_end s k (by omega)]
        go_wp2
        go_ret
        exact ⟨ret_bool hf.out.symm, rfl⟩
  · have hl' : letB s[0].toNat = false := by simpa using hl
    clear hl
    have hw : Hid (wordB s = false) := by show wordB s = false; unfold wordB; rw [hhead, hl']; simp
    clear hhead
    go_enter Tryz.func124, Tryz.ntmps124
    go_wp2_with (go_at_call 132; refine (letterI _ _).mono ?_; rintro e w' ⟨rfl, rfl⟩)
    go_ret
    exact ⟨ret_bool hw.out.symm, rfl⟩

set_option maxHeartbeats 400000 in
theorem l00Word (s : ByteArray) (w : World) (hs : s.size ≤ maxLen) : Calls Tryz.prog 125 #[.string s] w fun e w' => e = .returned (.bool (wordB s)) ∧ w = w' := by
  unfold maxLen at hs
  by_cases h0 : s.size = 0
  · have h0' : decide ((s.size : Int) < 1) = true := by simp [h0]
    go_enter Tryz.func125, Tryz.ntmps125
    go_wp2_with fail
    go_ret
    exact ⟨ret_bool (by simp [wordB, h0]), rfl⟩
  have h0' : decide ((s.size : Int) < 1) = false := by first | exact beq_eq_false_iff_ne.2 (by omega) | (simp; omega)
  by_cases h1 : 40 < s.size
  · go_enter Tryz.func125, Tryz.ntmps125
    go_wp2_with fail
    go_ret
    exact ⟨ret_bool (by simp [wordB]; omega), rfl⟩
  have hp : 0 < s.size := by omega
  have h1' : decide (40 < (s.size : Int)) = false := by simp; omega
  have hhead := head_at s hp
  by_cases hl : letB s[0].toNat = true
  · have hw : Hid (wordB s = okFrom s 1) := by show wordB s = okFrom s 1; unfold wordB; rw [hhead, hl]; simp [Nat.not_lt.mp h1]; intro _; omega
    clear hhead
    go_enter Tryz.func125, Tryz.ntmps125
    go_wp2_with (go_at_call 134; refine (letterS _ _).mono ?_; rintro e w' ⟨rfl, rfl⟩)
    go_loop [3] (fun i => ∃ k : Nat, 1 ≤ k ∧ k ≤ s.size ∧ i = .int .i64 k ∧ Hid (okFrom s 1 = okFrom s k)) (fun i => s.size - (intOf i).toNat)
    case atStart => exact ⟨1, by omega, by omega, rfl, rfl⟩
    case round =>
      obtain ⟨k, hk1, hk2, rfl, hr⟩ := hrel
      by_cases hlt : k < s.size
      · by_cases hL : letB s[k].toNat = true
        · go_wp2_with (first | (go_at_call 134; refine (letterS _ _).mono ?_; rintro e w' ⟨rfl, rfl⟩) | (go_at_call 135; refine (digitS _ _).mono ?_; rintro e w' ⟨rfl, rfl⟩))
          go_round
          case rel => exact ⟨k + 1, by omega, by omega, by go_num, by have := hr.out; rw [okFrom_step s k hlt, chB, hL] at this; show okFrom s 1 = okFrom s (k + 1); simpa using this⟩
          case measure => simp [intOf]; omega
        · have hL' : letB s[k].toNat = false := by simpa using hL
          clear hL
          by_cases hD : digB s[k].toNat = true
          · go_wp2_with (first | (go_at_call 134; refine (letterS _ _).mono ?_; rintro e w' ⟨rfl, rfl⟩) | (go_at_call 135; refine (digitS _ _).mono ?_; rintro e w' ⟨rfl, rfl⟩))
            go_round
            case rel => exact ⟨k + 1, by omega, by omega, by go_num, by have := hr.out; rw [okFrom_step s k hlt, chB, hL', hD] at this; show okFrom s 1 = okFrom s (k + 1); simpa using this⟩
            case measure => simp [intOf]; omega
          · have hD' : digB s[k].toNat = false := by simpa using hD
            clear hD
            have hf : Hid (wordB s = false) := by
              have := hr.out; rw [okFrom_step s k hlt, chB, hL', hD'] at this
              show wordB s = false
              rw [hw.out, this]; rfl
            go_wp2_with (first | (go_at_call 134; refine (letterS _ _).mono ?_; rintro e w' ⟨rfl, rfl⟩) | (go_at_call 135; refine (digitS _ _).mono ?_; rintro e w' ⟨rfl, rfl⟩))
            go_ret
            exact ⟨ret_bool hf.out.symm, rfl⟩
      · have hf : Hid (wordB s = true) := by
          show wordB s = true
          rw [hw.out, hr.out, okFrom_end s k (by omega)]
        go_wp2
        go_ret
        exact ⟨ret_bool hf.out.symm, rfl⟩
  · have hl' : letB s[0].toNat = false := by simpa using hl
    clear hl
    have hw : Hid (wordB s = false) := by show wordB s = false; unfold wordB; rw [hhead, hl']; simp
    clear hhead
    go_enter Tryz.func125, Tryz.ntmps125
    go_wp2_with (go_at_call 134; refine (letterS _ _).mono ?_; rintro e w' ⟨rfl, rfl⟩)
    go_ret
    exact ⟨ret_bool hw.out.symm, rfl⟩
theorem specNameOK (s : ByteArray) (w : World) (hs : s.size ≤ maxLen) : Calls Tryz.prog 98 #[.string s] w fun e w' => e = .returned (.bool (wordB s)) ∧ w = w' := by
  go_enter Tryz.func98, Tryz.ntmps98
  go_wp2_with (go_at_call 125; refine (l00Word _ _ hs).mono ?_; rintro e w' ⟨rfl, rfl⟩)
  go_ret
  exact ⟨rfl, rfl⟩
def shortB (s : ByteArray) : Bool := wordB s && decide (s.size ≤ 8)
theorem shortName (s : ByteArray) (w : World) (hs : s.size ≤ maxLen) : Calls Tryz.prog 95 #[.string s] w fun e w' => e = .returned (.bool (shortB s)) ∧ w = w' := by
  obtain ⟨b, hb⟩ : ∃ b, wordB s = b := ⟨_, rfl⟩
  have HB : Hid (shortB s = (b && decide (s.size ≤ 8))) := by show _ = _; unfold shortB; rw [hb]
  have HC : Calls Tryz.prog 124 #[.string s] w fun e w' => e = .returned (.bool b) ∧ w = w' := by rw [← hb]; exact implNameOK s w hs
  clear hb
  go_enter Tryz.func95, Tryz.ntmps95
  go_wp2_with (go_at_call 124; refine HC.mono ?_; rintro e w' ⟨rfl, rfl⟩; cases b)
  all_goals
    go_ret
    exact ⟨ret_bool (by rw [HB.out]; first | (simp; done) | (simp; omega)), rfl⟩
theorem l04Name (s : ByteArray) (w : World) (hs : s.size ≤ maxLen) : Calls Tryz.prog 68 #[.string s] w fun e w' => e = .returned (.bool (shortB s)) ∧ w = w' := by
  obtain ⟨b, hb⟩ : ∃ b, wordB s = b := ⟨_, rfl⟩
  have HB : Hid (shortB s = (b && decide (s.size ≤ 8))) := by show _ = _; unfold shortB; rw [hb]
  have HC : Calls Tryz.prog 98 #[.string s] w fun e w' => e = .returned (.bool b) ∧ w = w' := by rw [← hb]; exact specNameOK s w hs
  clear hb
  by_cases h8 : s.size ≤ 8
  · have h8' : decide ((s.size : Int) ≤ 8) = true := decide_eq_true (by omega)
    go_enter Tryz.func68, Tryz.ntmps68
    go_wp2_with (go_at_call 98; refine HC.mono ?_; rintro e w' ⟨rfl, rfl⟩)
    go_ret
    exact ⟨ret_bool (by rw [HB.out]; simp [h8]), rfl⟩
  · have h8' : decide ((s.size : Int) ≤ 8) = false := decide_eq_false (by omega)
    go_enter Tryz.func68, Tryz.ntmps68
    go_wp2_with fail
    go_ret
    exact ⟨ret_bool (by rw [HB.out]; simp [h8]), rfl⟩
end Go.Proofs.YtmbndpgoihdpnaaGreatDoor
