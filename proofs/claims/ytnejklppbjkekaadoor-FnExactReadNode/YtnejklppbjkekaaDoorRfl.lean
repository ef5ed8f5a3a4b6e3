
/-
  How many fields are read. By an AI agent.
-/
import Derived.Test.YtnejklppbjkekaaDoorRdh
namespace Go.Proofs.YtnejklppbjkekaaDoor
set_option linter.unusedVariables false
theorem own_cap {w : World} {base e s n c : Nat} {a : Option Addr} {xs : List Value} (h : w.ownsRow base e s (.slice a n c) n xs) : n ≤ c ∧ c ≤ maxLen := by
  obtain ⟨_, ⟨hv, h0⟩ | ⟨g, cap, cur, hv, _, _, h1, h2, _⟩⟩ := h
  · cases hv; exact ⟨Nat.le_refl _, Nat.zero_le _⟩
  · cases hv; exact ⟨h1, h2⟩
theorem cut_small {B : List Nat} {l : List ByteArray} {p : Nat} (h : cutA B = some (l, p)) : l.length ≤ 200 := by
  unfold cutA at h
  by_cases h1 : B.length = 0 ∨ 200 < B.getD 0 0
  · rw [if_pos h1] at h; cases h
  · rw [if_neg h1] at h
    have := rd_len h
    omega
theorem rf_small {B : List Nat} {R : List ByteArray} {q : Int} (h : rfA B = (R, q)) : R.length ≤ 1048576 := by
  unfold rfA at h
  by_cases h1 : 65536 < B.length
  · rw [if_pos h1] at h; cases h; decide
  rw [if_neg h1] at h
  cases hc : cutA B with
  | none => rw [hc] at h; cases h; decide
  | some lp =>
    obtain ⟨l, p⟩ := lp
    have hl := cut_small hc
    rw [hc] at h
    change (if p = B.length then (l, (0 : Int)) else ([], 3)) = (R, q) at h
    by_cases h2 : p = B.length
    · rw [if_pos h2] at h; cases h; omega
    · rw [if_neg h2] at h; cases h; decide
end Go.Proofs.YtnejklppbjkekaaDoor
