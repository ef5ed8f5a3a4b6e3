
/-
  The contract of the program's PairsOK. By an AI agent.
-/
import Derived.Test.YtmbndpgoihdpnaaGreatDoorPairsOK
namespace Go.Proofs.YtmbndpgoihdpnaaGreatDoor
open Go.ChangeShapes Go.WideShapes Go.ChangeAt Go.RowKit Go.Deep
set_option linter.unusedVariables false

theorem below_drewN {B : Nat} {a w : World} (h : Below B a w) (n : Nat) : Below B a (w.drewN n) := Below.drewN' h n
set_option maxHeartbeats 1000000 in
theorem implPairsOK (a : Option Addr) (n c : Nat) (f g : Nat → ByteArray) (w : World) (hn : n ≤ 1048576) (hs : ∀ i, i < n → (f i).size ≤ 1048576 ∧ (g i).size ≤ 1048576) (h : Sp w a n f g) :
    Calls Tryz.prog 42 #[.slice a n c] w fun e w' => e = .returned (.bool (pairsB f g n)) ∧ Below w.heap.size w w' := by
  by_cases h2 : 60 < n
  · have e : Hid (pairsB f g n = false) := pairsB_many f g n (by omega)
    clear h hs
    go_enter Tryz.func42, Tryz.ntmps42
    go_wp2_with fail
    go_ret
    exact ⟨ret_bool e.out.symm, Below.refl _ _⟩
  have HS : Hid (∀ i, i < n → (f i).size ≤ 1048576 ∧ (g i).size ≤ 1048576) := hs
  have HH : Hid (Sp w a n f g) := h
  clear hs h
  go_enter Tryz.func42, Tryz.ntmps42
  go_wp2_with fail
  go_loopw [10] (fun i wr => ∃ k : Nat, k ≤ n ∧ i = .int .i64 k ∧ Hid (∀ j, j < k → goodB f g j = true) ∧ Hid (Below w.heap.size w wr)) (fun i _ => n - (intOf i).toNat)
  case atStart => exact ⟨0, by omega, rfl, fun j hj => absurd hj (by omega), Below.refl _ _⟩
  case round =>
    obtain ⟨k, hk, rfl, hg, hb⟩ := hrel
    by_cases hlt : k < n
    · rcases HH.out.below hb.out with h1 | ⟨b, off, rfl, hc⟩
      · omega
      obtain ⟨hc1, hc2⟩ := hc k hlt
      have SX : Hid ((f k).size ≤ maxLen) := by have := (HS.out k hlt).1; show (f k).size ≤ maxLen; unfold maxLen; omega
      have hsy := (HS.out k hlt).2
      have HB1 : Hid (Below w.heap.size w (wr.alloc (.cells #[.string (f k), .string (g k)] 70))) := hb.out.alloc hb.out.size _
      by_cases hkey : keyB (f k) = true
      · by_cases hval : (90 : Int) < ((g k).size : Int)
        · have hbad : Hid (pairsB f g n = false) := pairsB_bad f g n k hlt (by unfold goodB fitB; rw [hkey, decide_eq_false (by omega)]; rfl)
          have HK : Hid (keyB (f k) = true) := hkey
          clear hc hkey
          go_wp2_with (go_at_call 73; refine (keyFitsIs true _ _ HK.out SX.out).mono ?_; rintro e w1 ⟨rfl, rfl⟩)
          go_ret
          exact ⟨ret_bool hbad.out.symm, HB1.out⟩
        · have hfit : fitB (f k) (g k) = true := by unfold fitB; rw [hkey, decide_eq_true (by omega)]; rfl
          have HK : Hid (keyB (f k) = true) := hkey
          clear hkey
          by_cases hz : k = 0
          · have hgood : Hid (goodB f g k = true) := by show goodB f g k = true; unfold goodB riseB; rw [hfit, decide_eq_true hz]; rfl
            have hkz : decide (0 < k) = false := by simp; omega
            clear hc hfit hz
            go_wp2_with (go_at_call 73; refine (keyFitsIs true _ _ HK.out SX.out).mono ?_; rintro e w1 ⟨rfl, rfl⟩)
            go_quiet (fail)
            go_wp2_with fail
            exact ⟨⟨k + 1, by omega, by go_num, next_good hg.out hgood.out, below_drewN HB1.out _⟩, by simp [intOf]; omega⟩
          · have hd1 := (hc (k - 1) (by omega)).1
            have hd1' : (wr.alloc (.cells #[.string (f k), .string (g k)] 70)).cell? ⟨b, off + (k - 1) * 2, none⟩ = some (.string (f (k - 1))) := by
              rw [World.cell?_alloc_past _ _ _ (World.block_lt_of_cell? _ _ hd1)]; exact hd1
            have hkp : 0 < k := by omega
            have hkm : (0 : Int) ≤ (k : Int) - 1 := by omega
            have hkm2 : (k : Int) - 1 < (n : Int) := by omega
            clear hc hz hd1
            by_cases hless : Op.bytesLess (f (k - 1)).toList (f k).toList = true
            · have hgood : Hid (goodB f g k = true) := by
                show goodB f g k = true
                unfold goodB riseB; rw [hfit, hless]; simp
              clear hfit
              go_wp2_with (go_at_call 73; refine (keyFitsIs true _ _ HK.out SX.out).mono ?_; rintro e w1 ⟨rfl, rfl⟩)
              go_quiet (fail)
              go_wp2_with fail
              exact ⟨⟨k + 1, by omega, by go_num, next_good hg.out hgood.out, below_drewN HB1.out _⟩, by simp [intOf]; omega⟩
            · have hless' : Op.bytesLess (f (k - 1)).toList (f k).toList = false := by simpa using hless
              have hbad : Hid (pairsB f g n = false) := pairsB_bad f g n k hlt (by
                unfold goodB riseB; rw [hfit, hless', decide_eq_false (by omega)]; rfl)
              clear hfit hless
              go_wp2_with (go_at_call 73; refine (keyFitsIs true _ _ HK.out SX.out).mono ?_; rintro e w1 ⟨rfl, rfl⟩)
              go_quiet (fail)
              go_wp2_with fail
              go_ret
              exact ⟨ret_bool hbad.out.symm, below_drewN HB1.out _⟩
      · have HK : Hid (keyB (f k) = false) := by show keyB (f k) = false; simpa using hkey
        have hbad : Hid (pairsB f g n = false) := pairsB_bad f g n k hlt (by unfold goodB fitB; rw [HK.out]; rfl)
        clear hc hkey
        go_wp2_with (go_at_call 73; refine (keyFitsIs false _ _ HK.out SX.out).mono ?_; rintro e w1 ⟨rfl, rfl⟩)
        go_ret
        exact ⟨ret_bool hbad.out.symm, HB1.out⟩
    · have hkn : k = n := by omega
      have e : Hid (pairsB f g n = true) := pairsB_good f g n (by omega) (by rw [← hkn]; exact hg.out)
      clear hkn
      go_wp2_with fail
      go_ret
      exact ⟨ret_bool e.out.symm, hb.out⟩
end Go.Proofs.YtmbndpgoihdpnaaGreatDoor
