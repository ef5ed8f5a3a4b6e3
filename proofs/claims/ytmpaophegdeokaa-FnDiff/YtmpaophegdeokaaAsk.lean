
/-
  What is asked ahead of a key. By an AI agent.
-/
import Derived.Test.YtmpaophegdeokaaPairGeti
namespace Go.Proofs.Ytmpaophegdeokaa
open Go.ChangeShapes Go.WideShapes Go.ChangeAt Go.RowKit Go.Deep
set_option linter.unusedVariables false
set_option maxRecDepth 100000

set_option maxHeartbeats 1000000 in
theorem l01Ask (a : Option Addr) (n c : Nat) (f g : Nat → ByteArray) (key : ByteArray) (w : World) (hn : n ≤ 1048576) (hk : key.size ≤ 1048576) (hs : ∀ i, i < n → (f i).size ≤ 1048576 ∧ (g i).size ≤ 1048576) (h : Sp w a n f g) :
    Calls Try.prog 66 #[.slice a n c, .string key] w fun e w' => e = .returned (.int .i64 (askC f g n key)) ∧ Below w.heap.size w w' := by
  by_cases h1 : 4096 < n
  · have e : Hid (askC f g n key = 2) := by show askC f g n key = 2; unfold askC; rw [if_pos (.inl h1)]
    clear h hs
    go_enter Try.func66, Try.ntmps66
    go_wp2_with fail
    go_ret
    exact ⟨ret_int e.out.symm, Below.refl _ _⟩
  by_cases h2 : 65536 < key.size
  · have e : Hid (askC f g n key = 2) := by show askC f g n key = 2; unfold askC; rw [if_pos (.inr h2)]
    clear h hs
    go_enter Try.func66, Try.ntmps66
    go_wp2_with fail
    go_ret
    exact ⟨ret_int e.out.symm, Below.refl _ _⟩
  have h12 : ¬ (4096 < n ∨ 65536 < key.size) := by omega
  have HH : Hid (Sp w a n f g) := h
  have HS : Hid (∀ i, i < n → (f i).size ≤ 1048576 ∧ (g i).size ≤ 1048576) := hs
  clear h hs
  by_cases h3 : pairsB f g n = true
  · have H3 : Hid (pairsB f g n = true) := h3
    by_cases h4 : keyB key = true
    · have e : Hid (askC f g n key = 0) := by show askC f g n key = 0; unfold askC; rw [if_neg h12, if_neg (by rw [h3]; decide), if_neg (by rw [h4]; decide)]
      have h4' : (decide (1 ≤ (key.size : Int)) && decide ((key.size : Int) ≤ 30)) = true := h4
      clear h12 h4
      go_enter Try.func66, Try.ntmps66
      go_wp2_with fail
      refine (specPairsOK a n c f g _ hn HS.out HH.out).mono ?_
      rintro e1 w1 ⟨rfl, hb⟩
      go_wp2_with (go_at_call 74; refine (l01In _ _ _ _).mono ?_; rintro e w' ⟨rfl, rfl⟩)
      go_ret
      exact ⟨ret_int e.out.symm, hb⟩
    · have h4' : (decide (1 ≤ (key.size : Int)) && decide ((key.size : Int) ≤ 30)) = false := by simpa [keyB] using h4
      have e : Hid (askC f g n key = 4) := by show askC f g n key = 4; unfold askC; rw [if_neg h12, if_neg (by rw [h3]; decide), if_pos (by simpa using h4)]
      clear h12 h4
      go_enter Try.func66, Try.ntmps66
      go_wp2_with fail
      refine (specPairsOK a n c f g _ hn HS.out HH.out).mono ?_
      rintro e1 w1 ⟨rfl, hb⟩
      go_wp2_with (go_at_call 74; refine (l01In _ _ _ _).mono ?_; rintro e w' ⟨rfl, rfl⟩)
      go_ret
      exact ⟨ret_int e.out.symm, hb⟩
  · have h3' : pairsB f g n = false := by simpa using h3
    have e : Hid (askC f g n key = 1) := by show askC f g n key = 1; unfold askC; rw [if_neg h12, if_pos h3']
    clear h12 h3
    go_enter Try.func66, Try.ntmps66
    go_wp2_with fail
    refine (specPairsOK a n c f g _ hn HS.out HH.out).mono ?_
    rintro e1 w1 ⟨rfl, hb⟩
    go_wp2_with fail
    go_ret
    exact ⟨ret_int e.out.symm, hb⟩
end Go.Proofs.Ytmpaophegdeokaa
