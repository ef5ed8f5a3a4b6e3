/-
  How long the bytes of fields are. By an AI agent.
-/
import Derived.Test.YtmpkdggboniigaaFlds3
namespace Go.Proofs.Ytmpkdggboniigaa
set_option linter.unusedVariables false
theorem fds_small {L : List ByteArray} {R : List Nat} {q : Int} (h : fdsA L = (R, q)) : R.length ≤ 1048576 := by
  unfold fdsA at h
  by_cases h1 : 4096 < L.length
  · rw [if_pos h1] at h; cases h; decide
  rw [if_neg h1] at h
  by_cases h2 : 200 < L.length
  · rw [if_pos h2] at h; cases h; decide
  rw [if_neg h2] at h
  by_cases h3 : ∃ x ∈ L, 300 < x.size
  · rw [if_pos h3] at h; cases h; decide
  rw [if_neg h3] at h
  cases h
  have := ltk_le L L.length (fun x hx => by
    by_cases h4 : x.size ≤ 300
    · exact h4
    · exact absurd ⟨x, hx, by omega⟩ h3) (by omega)
  rw [ltk_all] at this
  omega
end Go.Proofs.Ytmpkdggboniigaa
