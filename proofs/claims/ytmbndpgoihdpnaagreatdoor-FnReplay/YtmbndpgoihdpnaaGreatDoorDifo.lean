
/-
  Right pairs, as lists. By an AI agent.
-/
import Derived.Test.YtmbndpgoihdpnaaGreatDoorHld
import Derived.Test.YtmbndpgoihdpnaaGreatDoorDifm
import Derived.Test.YtmbndpgoihdpnaaGreatDoorListsd
namespace Go.Proofs.YtmbndpgoihdpnaaGreatDoor
open Go.ChangeShapes Go.WideShapes Go.ChangeAt Go.RowKit Go.Deep
set_option linter.unusedVariables false
set_option maxRecDepth 100000

def okP (L : List PM) : Bool := pairsB (fstL L) (sndL L) L.length
/-- What DiffPairs answers. -/
def diffA (a b : List PM) : List DF × Int := if 4096 < a.length ∨ 4096 < b.length then ([], 2) else if okP a = false ∨ okP b = false then ([], 1) else (diffM a b, 0)
theorem okP_up {L : List PM} (h : okP L = true) : UpL L ∧ L.length ≤ 60 ∧ ∀ x ∈ L, fitB x.1 x.2 = true := by
  have h60 : L.length ≤ 60 := by
    unfold okP pairsB at h
    simp at h
    exact h.1
  refine ⟨?_, h60, fun x hx => ?_⟩
  · unfold UpL
    rw [List.pairwise_iff_getElem]
    intro i j hi hj hij
    have h1 := rising h i j hij hj
    rw [(at_fst hi).1, (at_fst hj).1] at h1
    exact h1
  · obtain ⟨i, hi, rfl⟩ := List.mem_iff_getElem.1 hx
    unfold okP pairsB at h
    rw [Bool.and_eq_true, List.all_eq_true] at h
    have h2 := h.2 i (List.mem_range.2 hi)
    unfold goodB at h2
    rw [Bool.and_eq_true, (at_fst hi).1, (at_fst hi).2] at h2
    exact h2.1
end Go.Proofs.YtmbndpgoihdpnaaGreatDoor
