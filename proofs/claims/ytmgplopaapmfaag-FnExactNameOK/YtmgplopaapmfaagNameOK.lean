/-
  For every text the law FnExactNameOK returns true: the program's NameOK answers as the specification's NameOK does. No condition.
  By an AI agent. Both functions are walked to one and the same Bool of the text's bytes (wordB); the law then compares two equal values.
-/
import Derived.Test.YtmgplopaapmfaagRows
import Derived.WalkKit
import Derived.ProofKit
import Derived.OpenShut
import Derived.ShutString
namespace Go.Proofs.Ytmgplopaapmfaag.fnExactNameOK
open Go.ChangeShapes Go.WideShapes Go.ChangeAt Go.RowKit
open Go.ChangeMaps (open_string shut_string)
set_option linter.unusedVariables false

theorem own : ownKnob Try.prog.godebug = none := by kernel_rfl


def letB (c : Int) : Bool := (decide (97 ≤ c) && decide (c ≤ 122)) || (decide (65 ≤ c) && decide (c ≤ 90)) || c == 95
def digB (c : Int) : Bool := decide (48 ≤ c) && decide (c ≤ 57)
def okB (c : UInt8) : Bool := letB c.toNat || digB c.toNat
def okFrom (s : ByteArray) (k : Nat) : Bool := (s.data.toList.drop k).all okB
def wordB (s : ByteArray) : Bool := decide (1 ≤ s.size) && decide (s.size ≤ 40) && letB (s.data.toList.headD 0).toNat && okFrom s 1

theorem okFrom_step (s : ByteArray) (k : Nat) (h : k < s.size) : okFrom s k = (okB s[k] && okFrom s (k + 1)) := by
  unfold okFrom
  rw [List.drop_eq_getElem_cons (by simpa using h)]
  rfl
theorem okFrom_end (s : ByteArray) (k : Nat) (h : s.size ≤ k) : okFrom s k = true := by
  unfold okFrom
  rw [List.drop_of_length_le (by simpa using h)]
  rfl
theorem ret_bool {a b : Bool} (h : a = b) : Ending.returned (.bool a) = .returned (.bool b) := by rw [h]

theorem letter17 (c : Int) (w : World) : Calls Try.prog 17 #[.int .u8 c] w fun e w' => e = .returned (.bool (letB c)) ∧ w = w' := by
  go_enter Try.func17, Try.ntmps17
  go_wp2
  all_goals
    go_ret
    exact ⟨ret_bool (by rw [Bool.eq_iff_iff]; simp [letB]; omega), rfl⟩

theorem digit18 (c : Int) (w : World) : Calls Try.prog 18 #[.int .u8 c] w fun e w' => e = .returned (.bool (digB c)) ∧ w = w' := by
  go_enter Try.func18, Try.ntmps18
  go_wp2
  all_goals
    go_ret
    exact ⟨ret_bool (by rw [Bool.eq_iff_iff]; simp [digB]; omega), rfl⟩
theorem letter21 (c : Int) (w : World) : Calls Try.prog 21 #[.int .u8 c] w fun e w' => e = .returned (.bool (letB c)) ∧ w = w' := by
  go_enter Try.func21, Try.ntmps21
  go_wp2
  all_goals
    go_ret
    exact ⟨ret_bool (by rw [Bool.eq_iff_iff]; simp [letB]; omega), rfl⟩
theorem digit22 (c : Int) (w : World) : Calls Try.prog 22 #[.int .u8 c] w fun e w' => e = .returned (.bool (digB c)) ∧ w = w' := by
  go_enter Try.func22, Try.ntmps22
  go_wp2
  all_goals
    go_ret
    exact ⟨ret_bool (by rw [Bool.eq_iff_iff]; simp [digB]; omega), rfl⟩


theorem head_at (s : ByteArray) (h : 0 < s.size) : s.data.toList.headD 0 = s[0] := by
  have : s.data.toList = s.data.toList[0]'(by simpa using h) :: s.data.toList.drop 1 := by
    rw [← List.drop_eq_getElem_cons (by simpa using h)]; rfl
  rw [this]; rfl

set_option maxHeartbeats 400000 in
theorem name6 (s : ByteArray) (w : World) (hs : s.size ≤ maxLen) : Calls Try.prog 6 #[.string s] w fun e w' => e = .returned (.bool (wordB s)) ∧ w = w' := by
  unfold maxLen at hs
  by_cases h0 : s.size = 0
  · have h0' : ((s.size : Int) == 0) = true := by simp [h0]
    go_enter Try.func6, Try.ntmps6
    go_wp2_with fail
    go_ret
    exact ⟨ret_bool (by simp [wordB, h0]), rfl⟩
  have h0' : ((s.size : Int) == 0) = false := by first | exact beq_eq_false_iff_ne.2 (by omega) | (simp; omega)
  by_cases h1 : 40 < s.size
  · go_enter Try.func6, Try.ntmps6
    go_wp2_with fail
    go_ret
    exact ⟨ret_bool (by simp [wordB]; omega), rfl⟩
  have hp : 0 < s.size := by omega
  have h1' : decide (40 < (s.size : Int)) = false := by simp; omega
  have hhead := head_at s hp
  by_cases hl : letB s[0].toNat = true
  · have hw : Hid (wordB s = okFrom s 1) := by show wordB s = okFrom s 1; unfold wordB; rw [hhead, hl]; simp [Nat.not_lt.mp h1]; intro _; omega
    clear hhead
    go_enter Try.func6, Try.ntmps6
    go_wp2_with (go_at_call 17; refine (letter17 _ _).mono ?_; rintro e w' ⟨rfl, rfl⟩)
    go_loop [3] (fun i => ∃ k : Nat, 1 ≤ k ∧ k ≤ s.size ∧ i = .int .i64 k ∧ Hid (okFrom s 1 = okFrom s k)) (fun i => s.size - (intOf i).toNat)
    case atStart => exact ⟨1, by omega, by omega, rfl, rfl⟩
    case round =>
      obtain ⟨k, hk1, hk2, rfl, hr⟩ := hrel
      by_cases hlt : k < s.size
      · by_cases hL : letB s[k].toNat = true
        · go_wp2_with (first | (go_at_call 17; refine (letter17 _ _).mono ?_; rintro e w' ⟨rfl, rfl⟩) | (go_at_call 18; refine (digit18 _ _).mono ?_; rintro e w' ⟨rfl, rfl⟩))
          go_round
          case rel => exact ⟨k + 1, by omega, by omega, by go_num, by have := hr.out; rw [okFrom_step s k hlt, okB, hL] at this; show okFrom s 1 = okFrom s (k + 1); simpa using this⟩
          case measure => simp [intOf]; omega
        · have hL' : letB s[k].toNat = false := by simpa using hL
          clear hL
          by_cases hD : digB s[k].toNat = true
          · go_wp2_with (first | (go_at_call 17; refine (letter17 _ _).mono ?_; rintro e w' ⟨rfl, rfl⟩) | (go_at_call 18; refine (digit18 _ _).mono ?_; rintro e w' ⟨rfl, rfl⟩))
            go_round
            case rel => exact ⟨k + 1, by omega, by omega, by go_num, by have := hr.out; rw [okFrom_step s k hlt, okB, hL', hD] at this; show okFrom s 1 = okFrom s (k + 1); simpa using this⟩
            case measure => simp [intOf]; omega
          · have hD' : digB s[k].toNat = false := by simpa using hD
            clear hD
            have hf : Hid (wordB s = false) := by
              have := hr.out; rw [okFrom_step s k hlt, okB, hL', hD'] at this
              show wordB s = false
              rw [hw.out, this]; rfl
            go_wp2_with (first | (go_at_call 17; refine (letter17 _ _).mono ?_; rintro e w' ⟨rfl, rfl⟩) | (go_at_call 18; refine (digit18 _ _).mono ?_; rintro e w' ⟨rfl, rfl⟩))
            go_ret
            exact ⟨ret_bool hf.out.symm, rfl⟩
      · have hf : Hid (wordB s = true) := by
          show wordB s = true
          rw [hw.out, hr.out, okFrom_end s k (by omega)]
        go_wp2
        go_ret
        exact ⟨ret_bool hf.out.symm, rfl⟩
  · have hl' : letB s[0].toNat = false := by simpa using hl
    clear hl
    have hw : Hid (wordB s = false) := by show wordB s = false; unfold wordB; rw [hhead, hl']; simp
    clear hhead
    go_enter Try.func6, Try.ntmps6
    go_wp2_with (go_at_call 17; refine (letter17 _ _).mono ?_; rintro e w' ⟨rfl, rfl⟩)
    go_ret
    exact ⟨ret_bool hw.out.symm, rfl⟩

set_option maxHeartbeats 400000 in
theorem name16 (s : ByteArray) (w : World) (hs : s.size ≤ maxLen) : Calls Try.prog 16 #[.string s] w fun e w' => e = .returned (.bool (wordB s)) ∧ w = w' := by
  unfold maxLen at hs
  by_cases h0 : s.size = 0
  · have h0' : decide ((s.size : Int) < 1) = true := by simp [h0]
    go_enter Try.func16, Try.ntmps16
    go_wp2_with fail
    go_ret
    exact ⟨ret_bool (by simp [wordB, h0]), rfl⟩
  have h0' : decide ((s.size : Int) < 1) = false := by first | exact beq_eq_false_iff_ne.2 (by omega) | (simp; omega)
  by_cases h1 : 40 < s.size
  · go_enter Try.func16, Try.ntmps16
    go_wp2_with fail
    go_ret
    exact ⟨ret_bool (by simp [wordB]; omega), rfl⟩
  have hp : 0 < s.size := by omega
  have h1' : decide (40 < (s.size : Int)) = false := by simp; omega
  have hhead := head_at s hp
  by_cases hl : letB s[0].toNat = true
  · have hw : Hid (wordB s = okFrom s 1) := by show wordB s = okFrom s 1; unfold wordB; rw [hhead, hl]; simp [Nat.not_lt.mp h1]; intro _; omega
    clear hhead
    go_enter Try.func16, Try.ntmps16
    go_wp2_with (go_at_call 21; refine (letter21 _ _).mono ?_; rintro e w' ⟨rfl, rfl⟩)
    go_loop [3] (fun i => ∃ k : Nat, 1 ≤ k ∧ k ≤ s.size ∧ i = .int .i64 k ∧ Hid (okFrom s 1 = okFrom s k)) (fun i => s.size - (intOf i).toNat)
    case atStart => exact ⟨1, by omega, by omega, rfl, rfl⟩
    case round =>
      obtain ⟨k, hk1, hk2, rfl, hr⟩ := hrel
      by_cases hlt : k < s.size
      · by_cases hL : letB s[k].toNat = true
        · go_wp2_with (first | (go_at_call 21; refine (letter21 _ _).mono ?_; rintro e w' ⟨rfl, rfl⟩) | (go_at_call 22; refine (digit22 _ _).mono ?_; rintro e w' ⟨rfl, rfl⟩))
          go_round
          case rel => exact ⟨k + 1, by omega, by omega, by go_num, by have := hr.out; rw [okFrom_step s k hlt, okB, hL] at this; show okFrom s 1 = okFrom s (k + 1); simpa using this⟩
          case measure => simp [intOf]; omega
        · have hL' : letB s[k].toNat = false := by simpa using hL
          clear hL
          by_cases hD : digB s[k].toNat = true
          · go_wp2_with (first | (go_at_call 21; refine (letter21 _ _).mono ?_; rintro e w' ⟨rfl, rfl⟩) | (go_at_call 22; refine (digit22 _ _).mono ?_; rintro e w' ⟨rfl, rfl⟩))
            go_round
            case rel => exact ⟨k + 1, by omega, by omega, by go_num, by have := hr.out; rw [okFrom_step s k hlt, okB, hL', hD] at this; show okFrom s 1 = okFrom s (k + 1); simpa using this⟩
            case measure => simp [intOf]; omega
          · have hD' : digB s[k].toNat = false := by simpa using hD
            clear hD
            have hf : Hid (wordB s = false) := by
              have := hr.out; rw [okFrom_step s k hlt, okB, hL', hD'] at this
              show wordB s = false
              rw [hw.out, this]; rfl
            go_wp2_with (first | (go_at_call 21; refine (letter21 _ _).mono ?_; rintro e w' ⟨rfl, rfl⟩) | (go_at_call 22; refine (digit22 _ _).mono ?_; rintro e w' ⟨rfl, rfl⟩))
            go_ret
            exact ⟨ret_bool hf.out.symm, rfl⟩
      · have hf : Hid (wordB s = true) := by
          show wordB s = true
          rw [hw.out, hr.out, okFrom_end s k (by omega)]
        go_wp2
        go_ret
        exact ⟨ret_bool hf.out.symm, rfl⟩
  · have hl' : letB s[0].toNat = false := by simpa using hl
    clear hl
    have hw : Hid (wordB s = false) := by show wordB s = false; unfold wordB; rw [hhead, hl']; simp
    clear hhead
    go_enter Try.func16, Try.ntmps16
    go_wp2_with (go_at_call 21; refine (letter21 _ _).mono ?_; rintro e w' ⟨rfl, rfl⟩)
    go_ret
    exact ⟨ret_bool hw.out.symm, rfl⟩

theorem name5 (s : ByteArray) (w : World) (hs : s.size ≤ maxLen) : Calls Try.prog 5 #[.string s] w fun e w' => e = .returned (.bool (wordB s)) ∧ w = w' := by
  go_enter Try.func5, Try.ntmps5
  go_wp2_with (go_at_call 16; refine (name16 _ _ hs).mono ?_; rintro e w' ⟨rfl, rfl⟩)
  go_ret
  exact ⟨rfl, rfl⟩

theorem walk (a0 : ByteArray) (w0 : a0.size ≤ maxLen) (w : World) :
    Calls Try.prog 3 #[.string a0] w fun e w' => e = .returned (.bool true) ∧ Grown w w' := by
  by_cases h1 : 1048576 < a0.size
  · go_enter Try.func3, Try.ntmps3
    go_wp2_with fail
    go_ret
    exact ⟨rfl, Grown.refl _⟩
  go_enter Try.func3, Try.ntmps3
  go_wp2_with (first | (go_at_call 5; refine (name5 _ _ w0).mono ?_; rintro e w' ⟨rfl, rfl⟩) | (go_at_call 6; refine (name6 _ _ w0).mono ?_; rintro e w' ⟨rfl, rfl⟩))
  go_ret
  exact ⟨rfl, Grown.refl _⟩

set_option maxRecDepth 100000 in
theorem lifted (os : Os) (started : os.Started) (H : Type) (enc : TypeId × Value → H) :
    ReturnsInHanded {} Try.checked os 3 .any (Rows.fnExactNameOKSpec.pre6 enc Try.prog Try.f3 Rows.fnExactNameOKRow.domain false) (Rows.fnExactNameOKSpec.post enc Try.prog Try.f3 false true false false) := by
  refine returnsInHanded_of_change (C := Try.checked) own started (by kernel_rfl) Try.func3
    (ChangeSpec.witness6 (enc := enc) (C := Try.checked) false ⟨#[], #[.string ByteArray.empty], []⟩ 8 (by kernel_rfl) (by kernel_rfl) (by kernel_rfl) (by kernel_rfl)) ?_
  intro W base args ds gs before hval0 hW hcnd _
  have hval : ∀ (j : Nat) t v, Try.f3.params[j]? = some t → args[j]? = some v → Value.okWide Try.prog W .any base t v := hval0
  have hW' := hW
  obtain ⟨p, q, hA0, hV, rfl, hfz, hnd⟩ := hW
  have hA : DataW.TrodAll enc Try.prog W 0 (fun _ => true) true Try.f3.params.toList args.toList ds p := hA0
  rw [Try.params3] at hA hval
  obtain ⟨v0, vs0, d0, ds0, p0, q0, hargs, rfl, rfl, h0, r0⟩ := trodAll_cons hA
  obtain ⟨rfl, rfl, rfl⟩ := trodAll_nil r0
  obtain rfl : args = #[v0] := by cases args; simp_all
  obtain ⟨rfl, rfl⟩ := trodVars_none hV
  obtain ⟨a0, rfl, rfl, rfl, w0⟩ := open_string Try.underlying9 (hval 0 9 v0 rfl rfl) h0
  clear hA0 hval0
  simp only [List.append_nil] at hW'
  refine (walk a0 w0 W).mono fun e W' ⟨he, hg⟩ => ?_
  subst he
  exact ⟨_, rfl, post_of_same (pa := []) (pv := []) hW' (fun _ _ _ => (trodAll_cons_mk (shut_bool Try.underlying4 _) trodAll_mk0)) (fun sp _ => (trodAll_cons_mk (shut_string Try.underlying9 w0) trodAll_mk0)) (fun _ _ => rfl) rfl
    (hg.frame _) hg.2.1 (ok_one (by kernel_rfl) rfl (okWide_bool_mk Try.underlying4 _))⟩

theorem over : Rows.fnExactNameOKRow.holds Try.pinned (OpenSpec.ofChange Rows.fnExactNameOKSpec) :=
  OpenClaim.holds_of_wide 3 Try.f3 rfl rfl rfl rfl rfl rfl rfl ⟨rfl, rfl, rfl, rfl, rfl⟩ rfl rfl rfl rfl rfl (by kernel_rfl) Try.func3 (by kernel_rfl)
    (of_decide_eq_true (by kernel_rfl)) (by unfold Func.isWrapper; first | (rw [if_pos (by decide +kernel)]; kernel_rfl) | (rw [if_neg (by decide +kernel)]; exact ⟨rfl, rfl⟩))
    (fun os started H enc _ => lifted os started H enc)

theorem proved : Rows.FnExactNameOKSaid :=
  over
end Go.Proofs.Ytmgplopaapmfaag.fnExactNameOK
namespace Go.Proofs.Ytmgplopaapmfaag
theorem fnExactNameOK_holds : Rows.FnExactNameOKSaid := fnExactNameOK.proved
end Go.Proofs.Ytmgplopaapmfaag
