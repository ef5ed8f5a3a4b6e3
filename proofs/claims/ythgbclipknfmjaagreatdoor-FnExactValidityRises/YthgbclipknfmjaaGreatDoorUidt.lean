
/-
  The three digits of a uid: lists, and the program's uidText; what the library reads of some digits. By an AI agent.
-/
import Derived.Test.YthgbclipknfmjaaGreatDoorTkf
namespace Go.Proofs.YthgbclipknfmjaaGreatDoor
open Go.ChangeShapes Go.WideShapes Go.ChangeAt Go.RowKit Go.Deep Go.Lib
set_option linter.unusedVariables false
set_option maxRecDepth 100000

theorem dec4 (x y z : Nat) (hx : x < 10) (hy : y < 10) (hz : z < 10) : decDigits (1000 + (x * 100 + y * 10 + z)) = [49, UInt8.ofNat (48 + x), UInt8.ofNat (48 + y), UInt8.ofNat (48 + z)] := by
  rw [decDigits, dif_neg (by omega), decDigits, dif_neg (by omega), decDigits, dif_neg (by omega), decDigits, dif_pos (by omega)]
  have e1 : (1000 + (x * 100 + y * 10 + z)) % 10 = z := by omega
  have e2 : (1000 + (x * 100 + y * 10 + z)) / 10 % 10 = y := by omega
  have e3 : (1000 + (x * 100 + y * 10 + z)) / 10 / 10 % 10 = x := by omega
  have e4 : (1000 + (x * 100 + y * 10 + z)) / 10 / 10 / 10 = 1 := by omega
  rw [e1, e2, e3, e4]
  rfl
def d3 (u : Nat) : List UInt8 := (decDigits (1000 + u)).drop 1
theorem split3 (u : Nat) (h : u < 1000) : ∃ x y z, x < 10 ∧ y < 10 ∧ z < 10 ∧ u = x * 100 + y * 10 + z := ⟨u / 100, u / 10 % 10, u % 10, by omega, by omega, by omega, by omega⟩
theorem d3_is (u : Nat) (h : u < 1000) : (d3 u).length = 3 ∧ decFrom 0 (d3 u) = some u := by
  obtain ⟨x, y, z, hx, hy, hz, rfl⟩ := split3 u h
  unfold d3
  rw [dec4 x y z hx hy hz]
  refine ⟨rfl, ?_⟩
  simp only [List.drop_succ_cons, List.drop_zero, decFrom, digitVal_of x hx, digitVal_of y hy, digitVal_of z hz]
  congr 1
  omega
theorem d3_back {d : List UInt8} {u : Nat} (hl : d.length = 3) (h : decFrom 0 d = some u) : u < 1000 ∧ d = d3 u := by
  match d, hl with
  | [a, b, c], _ =>
    simp only [decFrom] at h
    cases ha : digitVal a with
    | none => rw [ha] at h; cases h
    | some x =>
      rw [ha] at h
      cases hb : digitVal b with
      | none => rw [hb] at h; cases h
      | some y =>
        rw [hb] at h
        cases hc : digitVal c with
        | none => rw [hc] at h; cases h
        | some z =>
          rw [hc] at h
          obtain ⟨h1, e1⟩ := digitVal_back ha
          obtain ⟨h2, e2⟩ := digitVal_back hb
          obtain ⟨h3, e3⟩ := digitVal_back hc
          simp only [Option.some.injEq] at h
          have hu : u = x * 100 + y * 10 + z := by omega
          refine ⟨by omega, ?_⟩
          unfold d3
          rw [hu, dec4 x y z h1 h2 h3, e1, e2, e3]
          rfl
theorem atoi3 {d : List UInt8} {u : Nat} (hl : d.length = 3) (h : decFrom 0 d = some u) : atoiAll d = .ok (u : Int) := by
  have hu := (d3_back hl h).1
  have hp := parse_dec _ _ _ h (by omega)
  match d, hl with
  | c :: r, hl2 =>
    have hc : ¬ (c.toNat = 43 ∨ c.toNat = 45) := by
      simp only [decFrom] at h
      cases hb : digitVal c with
      | none => rw [hb] at h; cases h
      | some x =>
        unfold digitVal at hb
        split at hb
        · omega
        · cases hb
    have hc2 : ¬ c.toNat = 45 := fun h9 => hc (.inr h9)
    unfold atoiAll
    have e4 : parseMag (c :: r) = .ok u := by unfold parseMag; rw [if_neg (by simp), hp]
    have hif : (if c.toNat = 43 ∨ c.toNat = 45 then r else c :: r) = c :: r := if_neg hc
    simp only [hif, e4]
    rw [if_neg (by omega), if_neg (by omega), if_neg hc2]
set_option maxHeartbeats 1000000 in
theorem uidTextI (u : Nat) (hu : u < 1000) (w : World) (hg : Gl w) : Calls Tryz.prog 155 #[.int .i64 (u : Int)] w fun e w' => e = .returned (.string (bs (d3 u))) ∧ Below w.heap.size w w' := by
  have CI := Tryz.strconv_Itoa (1000 + (u : Int)) (by omega) (by omega) w hg.2.2.2
  have h1 : itoa (1000 + (u : Int)) = decDigits (1000 + u) := by
    unfold itoa
    rw [if_neg (by omega)]
    congr 1
  rw [h1] at CI
  obtain ⟨I, hI⟩ : ∃ I : ByteArray, (⟨(decDigits (1000 + u)).toArray⟩ : ByteArray) = I := ⟨_, rfl⟩
  rw [hI] at CI
  have hIs : I.size = 4 := by
    obtain ⟨x, y, z, hx, hy, hz, rfl⟩ := split3 u hu
    rw [← hI, dec4 x y z hx hy hz]
    rfl
  have HE : Hid (I.extract 1 I.size = bs (d3 u)) := by
    show _ = _
    refine bs_inj ?_
    rw [ext_data I 1 I.size (Nat.le_refl _), ← hI, List.take_of_length_le (by simp [ByteArray.size])]
    rfl
  have hi1 : (1 : Int) ≤ (I.size : Int) := by omega
  rw [hIs] at HE
  clear h1 hI
  go_enter Tryz.func155, Tryz.ntmps155
  go_wp2_with fail
  refine CI.mono ?_
  rintro e w1 ⟨rfl, k, os, hw1⟩
  have B1 : Hid (Below w.heap.size w w1) := by rw [hw1]; exact below_grow' w k os
  clear hw1 CI
  go_wp2_with fail
  go_ret
  exact ⟨by rw [← HE.out]; rfl, B1.out⟩
/-- The library's Atoi, whatever comes. -/
theorem atoiI (t : ByteArray) (w : World) (ht : t.size ≤ 1048576) (hg : Gl w) : Calls Tryz.prog 168 #[.string t] w fun e w' => ∃ n er, e = .returned (.tuple #[.int .i64 n, er]) ∧ (∀ v, atoiAll t.data.toList = .ok v → n = v) ∧ Below w.heap.size w w' := by
  obtain ⟨⟨ev, he1, he2⟩, ⟨ev', hr1, hr2⟩, _⟩ := hg
  cases hat : atoiAll t.data.toList with
  | «syntax» =>
    exact (Tryz.strconv_Atoi_syntax t (by omega) hat ev w he1 he2).mono fun e w' ⟨N, h1, _, _, hb⟩ => ⟨_, _, h1, (fun v h9 => by cases h9), hb⟩
  | range =>
    exact (Tryz.strconv_Atoi_range t (by omega) hat ev' w hr1 hr2).mono fun e w' ⟨N, h1, _, _, hb⟩ => ⟨_, _, h1, (fun v h9 => by cases h9), hb⟩
  | ok v =>
    refine (Tryz.strconv_Atoi_ok t (by omega) v hat w).mono ?_
    rintro e w' ⟨h1, hw⟩
    refine ⟨v, _, h1, (fun v2 h9 => by cases h9; rfl), ?_⟩
    rcases hw with rfl | ⟨t9, rfl⟩
    · exact Below.refl _ _
    · exact below_bytes w t9
theorem flagsIs (b : Bool) (f : Int) (w : World) (h : (decide (0 ≤ f) && decide (f ≤ 3)) = b) : Calls Tryz.prog 45 #[.int .i64 f] w fun e w' => e = .returned (.bool b) ∧ w' = w := by
  have HB : Hid ((decide (0 ≤ f) && decide (f ≤ 3)) = b) := h
  clear h
  go_enter Tryz.func45, Tryz.ntmps45
  go_wp2
  all_goals
    go_ret
    exact ⟨ret_bool (by rw [← HB.out, Bool.eq_iff_iff]; simp; omega), rfl⟩
end Go.Proofs.YthgbclipknfmjaaGreatDoor
