
/-
  Numbers' texts: the specification's l00Number and l00Digits. By an AI agent.
-/
import Derived.Test.YthgbclipknfmjaaGreatDoorNump
import Derived.Test.YthgbclipknfmjaaGreatDoorNames
import Derived.Deep.Cut
import Derived.Deep.CutRange
namespace Go.Proofs.YthgbclipknfmjaaGreatDoor
open Go.ChangeShapes Go.WideShapes Go.ChangeAt Go.RowKit Go.Deep Go.Lib
set_option linter.unusedVariables false
set_option maxRecDepth 100000

theorem ret_num {a b : Int} {k l : Bool} (h1 : a = b) (h2 : k = l) : Ending.returned (.tuple #[.int .i64 a, .bool k]) = .returned (.tuple #[.int .i64 b, .bool l]) := by rw [h1, h2]
theorem w64b (c : UInt8) : wrap64 (c.toNat : Int) = (c.toNat : Int) := by
  have := c.toNat_lt
  unfold wrap64
  omega
theorem bytes_drop (q : ByteArray) (k : Nat) (h : k < q.size) : q.data.toList.drop k = q[k] :: q.data.toList.drop (k + 1) := by
  rw [List.drop_eq_getElem_cons (by simpa using h)]
  rfl
theorem bytes_head (q : ByteArray) (h : 0 < q.size) : q.data.toList = q[0] :: q.data.toList.drop 1 := bytes_drop q 0 h
theorem bytes_end (q : ByteArray) (k : Nat) (h : q.size ≤ k) : q.data.toList.drop k = [] := List.drop_of_length_le (by simpa using h)
theorem bytes_len (q : ByteArray) : q.data.toList.length = q.size := by simp
theorem dec_yes {u : Nat} {b : UInt8} {r : List UInt8} (h1 : 48 ≤ b.toNat) (h2 : b.toNat ≤ 57) : decFrom u (b :: r) = decFrom (u * 10 + (b.toNat - 48)) r := by
  simp only [decFrom, digitVal, if_pos (And.intro h1 h2)]
theorem dec_no {u : Nat} {b : UInt8} {r : List UInt8} (h : ¬ (48 ≤ b.toNat ∧ b.toNat ≤ 57)) : decFrom u (b :: r) = none := by
  simp only [decFrom, digitVal, if_neg h]
theorem num_extract (s : ByteArray) (h : 0 < s.size) : (s.extract 1 s.size).data.toList = s.data.toList.drop 1 := by
  simp only [ByteArray.data_extract, Array.toList_extract, List.extract_eq_drop_take']
  rw [← bytes_len s, List.take_of_length_le (Nat.le_refl _)]

set_option maxHeartbeats 4000000 in
theorem specNumNeg (s : ByteArray) (R : Option Int) (w : World) (hs : s.size ≤ 9223372036854775807) (h0p : 0 < s.size) (hc : s[0] = 45) (HR : Hid (numB s.data.toList = R)) : Calls Tryz.prog 117 #[.string s] w fun e w' => e = .returned (.tuple #[.int .i64 (R.getD 0), .bool R.isSome]) ∧ w' = w := by
  have h0s : (0 : Int) < (s.size : Int) := by omega
  obtain ⟨q, hqe⟩ : ∃ q, s.extract 1 s.size = q := ⟨_, rfl⟩
  have HQ : Hid (s.extract 1 s.size = q) := hqe
  have HM : Hid (R = magB true q.data.toList) := by
    show _ = _
    rw [← HR.out, ← hqe, num_extract s h0p, bytes_head s h0p]
    show (if s[0] = 45 then magB true (s.data.toList.drop 1) else magB false (s[0] :: s.data.toList.drop 1)) = _
    rw [if_pos hc]
    rfl
  have hq : q.size ≤ 9223372036854775807 := by rw [← hqe, ByteArray.size_extract]; omega
  have hc2 : (s[0].toNat : Int) = 45 := by rw [hc]; rfl
  have hc3 : ((s[0].toNat : Int) == 45) = true := by rw [hc2]; rfl
  clear hc HR hqe
  go_enter Tryz.func117, Tryz.ntmps117
  go_upto_region 5 with fail
  rw [HQ.out]
  clear HQ hc2 hc3 h0s h0p hs
  by_cases h0 : q.size = 0
  · have HN : Hid (R = none) := by
      show _ = _
      rw [HM.out]
      unfold magB
      rw [if_pos (.inl (by rw [← List.length_eq_zero_iff, bytes_len]; exact h0))]
    have h0i : ((q.size : Int) == 0) = true := by rw [h0]; rfl
    clear HM
    go_wp2_with fail
    go_ret2
    exact ⟨by rw [HN.out]; rfl, rfl⟩
  have h0p : 0 < q.size := by omega
  have h0i : ((q.size : Int) == 0) = false := beq_eq_false_iff_ne.2 (by omega)
  by_cases h18 : 18 < q.size
  · have HN : Hid (R = none) := by
      show _ = _
      rw [HM.out]
      unfold magB
      rw [if_pos (.inr (.inl (by rw [bytes_len]; exact h18)))]
    have h18i : (18 : Int) < (q.size : Int) := by omega
    clear HM
    go_wp2_with fail
    go_ret2
    exact ⟨by rw [HN.out]; rfl, rfl⟩
  have h18i : ¬ (18 : Int) < (q.size : Int) := by omega
  obtain ⟨bad, hbad⟩ : ∃ bad : Bool, bad = (q[0].toNat == 48 && (decide (1 < q.size) || true)) := ⟨_, rfl⟩
  cases bad with
  | true =>
    have hb := hbad.symm
    rw [Bool.and_eq_true, beq_iff_eq, Bool.or_eq_true, decide_eq_true_eq] at hb
    obtain ⟨hb1, hb2⟩ := hb
    have HN : Hid (R = none) := by
      show _ = _
      rw [HM.out]
      unfold magB
      rw [if_pos (.inr (.inr ⟨by rw [bytes_head q h0p]; show some q[0] = some 48; rw [show q[0] = (48 : UInt8) from UInt8.toNat_inj.1 hb1], by rw [bytes_len]; exact hb2⟩))]
    have c48 : ((q[0].toNat : Int) == 48) = true := by rw [hb1]; rfl
    clear HM hbad
    rcases hb2 with hb2 | hb2
    · have h1i : (1 : Int) < (q.size : Int) := by omega
      go_wp2_with fail
      go_ret2
      exact ⟨by rw [HN.out]; rfl, rfl⟩
    · by_cases h1i : (1 : Int) < (q.size : Int)
      · go_wp2_with fail
        go_ret2
        exact ⟨by rw [HN.out]; rfl, rfl⟩
      · go_wp2_with fail
        go_ret2
        exact ⟨by rw [HN.out]; rfl, rfl⟩
  | false =>
    have HG : Hid (R = (decFrom 0 q.data.toList).map (fun u : Nat => if true = true then -(u : Int) else (u : Int))) := by
      show _ = _
      rw [HM.out]
      unfold magB
      rw [if_neg ?_]
      rintro (h9 | h9 | ⟨h9, h8⟩)
      · rw [← List.length_eq_zero_iff, bytes_len] at h9; omega
      · rw [bytes_len] at h9; omega
      · rw [bytes_head q h0p] at h9
        have h7 : q[0] = (48 : UInt8) := by simpa using h9
        rw [bytes_len] at h8
        have : (q[0].toNat == 48 && (decide (1 < q.size) || true)) = true := by
          rw [Bool.and_eq_true, beq_iff_eq, Bool.or_eq_true, decide_eq_true_eq]
          exact ⟨by rw [h7]; rfl, h8⟩
        rw [this] at hbad
        cases hbad
    have HCASE : Hid (¬ q[0].toNat = 48 ∨ (q.size = 1 ∧ true = false)) := by
      show _ ∨ _
      by_cases h9 : q[0].toNat = 48
      · right
        have h8 := hbad.symm
        rw [h9] at h8
        simp only [beq_self_eq_true, Bool.true_and, Bool.or_eq_false_iff, decide_eq_false_iff_not] at h8
        exact ⟨by omega, h8.2⟩
      · exact .inl h9
    clear HM hbad
    have h9 : ¬ q[0].toNat = 48 := by
      rcases HCASE.out with h9 | ⟨_, h9⟩
      · exact h9
      · cases h9
    have c48 : ((q[0].toNat : Int) == 48) = false := beq_eq_false_iff_ne.2 (by omega)
    clear HCASE
    go_wp2_with fail
    go_loopw [5, 6] (fun nv iv wr => ∃ (k u : Nat), k ≤ q.size ∧ nv = .int .i64 (u : Int) ∧ iv = .int .i64 (k : Int) ∧ Hid (u < 10 ^ k) ∧ Hid (decFrom 0 q.data.toList = decFrom u (q.data.toList.drop k)) ∧ wr = w) (fun _ i _ => q.size - (RowKit.intOf i).toNat)
    case atStart => exact ⟨0, 0, by omega, rfl, rfl, by show 0 < 10 ^ 0; omega, rfl, rfl⟩
    case round =>
      obtain ⟨k, u, hk, rfl, rfl, hu, hd, rfl⟩ := hrel
      by_cases hlt : k < q.size
      · have hlti : (k : Int) < (q.size : Int) := by omega
        have hu2 : (u : Int) ≤ 99999999999999999 := by
          have h17 : 10 ^ k ≤ 10 ^ 17 := Nat.pow_le_pow_right (by omega) (by omega)
          have := hu.out
          omega
        have hu0 : (0 : Int) ≤ (u : Int) := by omega
        have HD2 : Hid (decFrom 0 q.data.toList = decFrom u (q[k] :: q.data.toList.drop (k + 1))) := by show _ = _; rw [hd.out, bytes_drop q k hlt]
        have hcl := (q[k]).toNat_lt
        by_cases l48 : (q[k].toNat : Int) < 48
        · have HN : Hid (R = none) := by show _ = _; rw [HG.out, HD2.out, dec_no (by omega)]; rfl
          clear HG HD2 hd
          go_wp2_with fail
          go_ret2
          exact ⟨by rw [HN.out]; rfl, rfl⟩
        by_cases g57 : (57 : Int) < (q[k].toNat : Int)
        · have HN : Hid (R = none) := by show _ = _; rw [HG.out, HD2.out, dec_no (by omega)]; rfl
          clear HG HD2 hd
          go_wp2_with fail
          go_ret2
          exact ⟨by rw [HN.out]; rfl, rfl⟩
        have HN2 : Hid (decFrom 0 q.data.toList = decFrom (u * 10 + (q[k].toNat - 48)) (q.data.toList.drop (k + 1))) := by show _ = _; rw [HD2.out, dec_yes (by omega) (by omega)]
        have HU : Hid (u * 10 + (q[k].toNat - 48) < 10 ^ (k + 1)) := by
          show _ < _
          have := hu.out
          rw [Nat.pow_succ]
          omega
        have hw := w64b q[k]
        clear HD2 hd hu
        go_wp2_with fail
        exact ⟨⟨k + 1, u * 10 + (q[k].toNat - 48), by omega, by congr 1; omega, by go_num, HU.out, HN2.out, trivial⟩, by simp [RowKit.intOf]; omega⟩
      · have hkn : k = q.size := by omega
        have HN : Hid (R = some (if true = true then -(u : Int) else (u : Int))) := by
          show _ = _
          rw [HG.out, hd.out, bytes_end q k (by omega)]
          rfl
        have hu2 : (u : Int) ≤ 1000000000000000000 := by
          have h18 : 10 ^ k ≤ 10 ^ 18 := Nat.pow_le_pow_right (by omega) (by omega)
          have := hu.out
          omega
        clear HG hd hu hkn
        go_wp2_with fail
        go_ret2
        exact ⟨by rw [HN.out]; exact ret_num (by show _ = -(u : Int); omega) rfl, rfl⟩

set_option maxHeartbeats 4000000 in
theorem specNumPos (s : ByteArray) (R : Option Int) (w : World) (hs : s.size ≤ 9223372036854775807) (h0p : 0 < s.size) (hc : s[0] ≠ 45) (HR : Hid (numB s.data.toList = R)) : Calls Tryz.prog 117 #[.string s] w fun e w' => e = .returned (.tuple #[.int .i64 (R.getD 0), .bool R.isSome]) ∧ w' = w := by
  have h0s : (0 : Int) < (s.size : Int) := by omega
  have HM0 : Hid (R = magB false s.data.toList) := by
    show _ = _
    rw [← HR.out, bytes_head s h0p]
    show (if s[0] = 45 then magB true (s.data.toList.drop 1) else magB false (s[0] :: s.data.toList.drop 1)) = _
    rw [if_neg hc]
  have hc2 : ¬ (s[0].toNat : Int) = 45 := fun h9 => hc (UInt8.toNat_inj.1 (by have : (45 : UInt8).toNat = 45 := rfl; omega))
  have hc3 : ((s[0].toNat : Int) == 45) = false := beq_eq_false_iff_ne.2 hc2
  clear hc HR
  go_enter Tryz.func117, Tryz.ntmps117
  go_upto_region 5 with fail
  have HM := HM0
  have hq := hs
  clear HM0 hc2 hc3 h0s hs
  by_cases h0 : s.size = 0
  · have HN : Hid (R = none) := by
      show _ = _
      rw [HM.out]
      unfold magB
      rw [if_pos (.inl (by rw [← List.length_eq_zero_iff, bytes_len]; exact h0))]
    have h0i : ((s.size : Int) == 0) = true := by rw [h0]; rfl
    clear HM
    go_wp2_with fail
    go_ret2
    exact ⟨by rw [HN.out]; rfl, rfl⟩
  have h0i : ((s.size : Int) == 0) = false := beq_eq_false_iff_ne.2 (by omega)
  by_cases h18 : 18 < s.size
  · have HN : Hid (R = none) := by
      show _ = _
      rw [HM.out]
      unfold magB
      rw [if_pos (.inr (.inl (by rw [bytes_len]; exact h18)))]
    have h18i : (18 : Int) < (s.size : Int) := by omega
    clear HM
    go_wp2_with fail
    go_ret2
    exact ⟨by rw [HN.out]; rfl, rfl⟩
  have h18i : ¬ (18 : Int) < (s.size : Int) := by omega
  obtain ⟨bad, hbad⟩ : ∃ bad : Bool, bad = (s[0].toNat == 48 && (decide (1 < s.size) || false)) := ⟨_, rfl⟩
  cases bad with
  | true =>
    have hb := hbad.symm
    rw [Bool.and_eq_true, beq_iff_eq, Bool.or_eq_true, decide_eq_true_eq] at hb
    obtain ⟨hb1, hb2⟩ := hb
    have HN : Hid (R = none) := by
      show _ = _
      rw [HM.out]
      unfold magB
      rw [if_pos (.inr (.inr ⟨by rw [bytes_head s h0p]; show some s[0] = some 48; rw [show s[0] = (48 : UInt8) from UInt8.toNat_inj.1 hb1], by rw [bytes_len]; exact hb2⟩))]
    have c48 : ((s[0].toNat : Int) == 48) = true := by rw [hb1]; rfl
    clear HM hbad
    rcases hb2 with hb2 | hb2
    · have h1i : (1 : Int) < (s.size : Int) := by omega
      go_wp2_with fail
      go_ret2
      exact ⟨by rw [HN.out]; rfl, rfl⟩
    · cases hb2
  | false =>
    have HG : Hid (R = (decFrom 0 s.data.toList).map (fun u : Nat => if false = true then -(u : Int) else (u : Int))) := by
      show _ = _
      rw [HM.out]
      unfold magB
      rw [if_neg ?_]
      rintro (h9 | h9 | ⟨h9, h8⟩)
      · rw [← List.length_eq_zero_iff, bytes_len] at h9; omega
      · rw [bytes_len] at h9; omega
      · rw [bytes_head s h0p] at h9
        have h7 : s[0] = (48 : UInt8) := by simpa using h9
        rw [bytes_len] at h8
        have : (s[0].toNat == 48 && (decide (1 < s.size) || false)) = true := by
          rw [Bool.and_eq_true, beq_iff_eq, Bool.or_eq_true, decide_eq_true_eq]
          exact ⟨by rw [h7]; rfl, h8⟩
        rw [this] at hbad
        cases hbad
    have HCASE : Hid (¬ s[0].toNat = 48 ∨ (s.size = 1 ∧ false = false)) := by
      show _ ∨ _
      by_cases h9 : s[0].toNat = 48
      · right
        have h8 := hbad.symm
        rw [h9] at h8
        simp only [beq_self_eq_true, Bool.true_and, Bool.or_eq_false_iff, decide_eq_false_iff_not] at h8
        exact ⟨by omega, rfl⟩
      · exact .inl h9
    clear HM hbad
    by_cases h48 : s[0].toNat = 48
    · have c48 : ((s[0].toNat : Int) == 48) = true := by rw [h48]; rfl
      have h1i : ¬ (1 : Int) < (s.size : Int) := by
        rcases HCASE.out with h9 | ⟨h9, _⟩
        · exact absurd h48 h9
        · omega
      clear HCASE
      go_wp2_with fail
      go_loopw [5, 6] (fun nv iv wr => ∃ (k u : Nat), k ≤ s.size ∧ nv = .int .i64 (u : Int) ∧ iv = .int .i64 (k : Int) ∧ Hid (u < 10 ^ k) ∧ Hid (decFrom 0 s.data.toList = decFrom u (s.data.toList.drop k)) ∧ wr = w) (fun _ i _ => s.size - (RowKit.intOf i).toNat)
      case atStart => exact ⟨0, 0, by omega, rfl, rfl, by show 0 < 10 ^ 0; omega, rfl, rfl⟩
      case round =>
        obtain ⟨k, u, hk, rfl, rfl, hu, hd, rfl⟩ := hrel
        by_cases hlt : k < s.size
        · have hlti : (k : Int) < (s.size : Int) := by omega
          have hu2 : (u : Int) ≤ 99999999999999999 := by
            have h17 : 10 ^ k ≤ 10 ^ 17 := Nat.pow_le_pow_right (by omega) (by omega)
            have := hu.out
            omega
          have hu0 : (0 : Int) ≤ (u : Int) := by omega
          have HD2 : Hid (decFrom 0 s.data.toList = decFrom u (s[k] :: s.data.toList.drop (k + 1))) := by show _ = _; rw [hd.out, bytes_drop s k hlt]
          have hcl := (s[k]).toNat_lt
          by_cases l48 : (s[k].toNat : Int) < 48
          · have HN : Hid (R = none) := by show _ = _; rw [HG.out, HD2.out, dec_no (by omega)]; rfl
            clear HG HD2 hd
            go_wp2_with fail
            go_ret2
            exact ⟨by rw [HN.out]; rfl, rfl⟩
          by_cases g57 : (57 : Int) < (s[k].toNat : Int)
          · have HN : Hid (R = none) := by show _ = _; rw [HG.out, HD2.out, dec_no (by omega)]; rfl
            clear HG HD2 hd
            go_wp2_with fail
            go_ret2
            exact ⟨by rw [HN.out]; rfl, rfl⟩
          have HN2 : Hid (decFrom 0 s.data.toList = decFrom (u * 10 + (s[k].toNat - 48)) (s.data.toList.drop (k + 1))) := by show _ = _; rw [HD2.out, dec_yes (by omega) (by omega)]
          have HU : Hid (u * 10 + (s[k].toNat - 48) < 10 ^ (k + 1)) := by
            show _ < _
            have := hu.out
            rw [Nat.pow_succ]
            omega
          have hw := w64b s[k]
          clear HD2 hd hu
          go_wp2_with fail
          exact ⟨⟨k + 1, u * 10 + (s[k].toNat - 48), by omega, by congr 1; omega, by go_num, HU.out, HN2.out, trivial⟩, by simp [RowKit.intOf]; omega⟩
        · have hkn : k = s.size := by omega
          have HN : Hid (R = some (if false = true then -(u : Int) else (u : Int))) := by
            show _ = _
            rw [HG.out, hd.out, bytes_end s k (by omega)]
            rfl
          have hu2 : (u : Int) ≤ 1000000000000000000 := by
            have h18 : 10 ^ k ≤ 10 ^ 18 := Nat.pow_le_pow_right (by omega) (by omega)
            have := hu.out
            omega
          clear HG hd hu hkn
          go_wp2_with fail
          go_ret2
          exact ⟨by rw [HN.out]; exact ret_num (by show _ = (u : Int); omega) rfl, rfl⟩
    · have c48 : ((s[0].toNat : Int) == 48) = false := beq_eq_false_iff_ne.2 (by omega)
      clear HCASE
      go_wp2_with fail
      go_loopw [5, 6] (fun nv iv wr => ∃ (k u : Nat), k ≤ s.size ∧ nv = .int .i64 (u : Int) ∧ iv = .int .i64 (k : Int) ∧ Hid (u < 10 ^ k) ∧ Hid (decFrom 0 s.data.toList = decFrom u (s.data.toList.drop k)) ∧ wr = w) (fun _ i _ => s.size - (RowKit.intOf i).toNat)
      case atStart => exact ⟨0, 0, by omega, rfl, rfl, by show 0 < 10 ^ 0; omega, rfl, rfl⟩
      case round =>
        obtain ⟨k, u, hk, rfl, rfl, hu, hd, rfl⟩ := hrel
        by_cases hlt : k < s.size
        · have hlti : (k : Int) < (s.size : Int) := by omega
          have hu2 : (u : Int) ≤ 99999999999999999 := by
            have h17 : 10 ^ k ≤ 10 ^ 17 := Nat.pow_le_pow_right (by omega) (by omega)
            have := hu.out
            omega
          have hu0 : (0 : Int) ≤ (u : Int) := by omega
          have HD2 : Hid (decFrom 0 s.data.toList = decFrom u (s[k] :: s.data.toList.drop (k + 1))) := by show _ = _; rw [hd.out, bytes_drop s k hlt]
          have hcl := (s[k]).toNat_lt
          by_cases l48 : (s[k].toNat : Int) < 48
          · have HN : Hid (R = none) := by show _ = _; rw [HG.out, HD2.out, dec_no (by omega)]; rfl
            clear HG HD2 hd
            go_wp2_with fail
            go_ret2
            exact ⟨by rw [HN.out]; rfl, rfl⟩
          by_cases g57 : (57 : Int) < (s[k].toNat : Int)
          · have HN : Hid (R = none) := by show _ = _; rw [HG.out, HD2.out, dec_no (by omega)]; rfl
            clear HG HD2 hd
            go_wp2_with fail
            go_ret2
            exact ⟨by rw [HN.out]; rfl, rfl⟩
          have HN2 : Hid (decFrom 0 s.data.toList = decFrom (u * 10 + (s[k].toNat - 48)) (s.data.toList.drop (k + 1))) := by show _ = _; rw [HD2.out, dec_yes (by omega) (by omega)]
          have HU : Hid (u * 10 + (s[k].toNat - 48) < 10 ^ (k + 1)) := by
            show _ < _
            have := hu.out
            rw [Nat.pow_succ]
            omega
          have hw := w64b s[k]
          clear HD2 hd hu
          go_wp2_with fail
          exact ⟨⟨k + 1, u * 10 + (s[k].toNat - 48), by omega, by congr 1; omega, by go_num, HU.out, HN2.out, trivial⟩, by simp [RowKit.intOf]; omega⟩
        · have hkn : k = s.size := by omega
          have HN : Hid (R = some (if false = true then -(u : Int) else (u : Int))) := by
            show _ = _
            rw [HG.out, hd.out, bytes_end s k (by omega)]
            rfl
          have hu2 : (u : Int) ≤ 1000000000000000000 := by
            have h18 : 10 ^ k ≤ 10 ^ 18 := Nat.pow_le_pow_right (by omega) (by omega)
            have := hu.out
            omega
          clear HG hd hu hkn
          go_wp2_with fail
          go_ret2
          exact ⟨by rw [HN.out]; exact ret_num (by show _ = (u : Int); omega) rfl, rfl⟩

theorem l00NumberS (s : ByteArray) (w : World) (hs : s.size ≤ maxLen) : Calls Tryz.prog 117 #[.string s] w fun e w' => e = .returned (.tuple #[.int .i64 ((numB s.data.toList).getD 0), .bool (numB s.data.toList).isSome]) ∧ w' = w := by
  unfold maxLen at hs
  by_cases h0 : s.size = 0
  · have he : s.data.toList = [] := by rw [← List.length_eq_zero_iff, bytes_len]; exact h0
    rw [he]
    have h0i : ¬ (0 : Int) < (s.size : Int) := by omega
    have h0j : ((s.size : Int) == 0) = true := by rw [h0]; rfl
    go_enter Tryz.func117, Tryz.ntmps117
    go_wp2_with fail
    go_ret2
    exact ⟨rfl, rfl⟩
  · by_cases hc : s[0] = 45
    · exact specNumNeg s _ w hs (by omega) hc rfl
    · exact specNumPos s _ w hs (by omega) hc rfl
end Go.Proofs.YthgbclipknfmjaaGreatDoor
