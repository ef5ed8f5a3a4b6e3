
/-
  PairPut and PairDrop of both, in lists' own words. By an AI agent.
-/
import Derived.Test.YtmbndpgoihdpnaaGreatDoorPmod
namespace Go.Proofs.YtmbndpgoihdpnaaGreatDoor
open Go.ChangeShapes Go.WideShapes Go.ChangeAt Go.RowKit Go.Deep
set_option linter.unusedVariables false
set_option maxRecDepth 100000

theorem sizes_of {L : List PM} (h : ∀ x ∈ L, x.1.size ≤ 1048576 ∧ x.2.size ≤ 1048576) : ∀ i, i < L.length → (fstL L i).size ≤ 1048576 ∧ (sndL L i).size ≤ 1048576 := fun i hi => by
  rw [(at_fst hi).1, (at_fst hi).2]
  exact h _ (List.getElem_mem hi)
def putA (L : List PM) (key val : ByteArray) (p : Nat) : List PM × Int := (putR (fstL L) (sndL L) L.length key val p, putC (fstL L) (sndL L) L.length key val p)
def dropA (L : List PM) (key : ByteArray) (p : Nat) : List PM × Int := (dropR (fstL L) (sndL L) L.length key p, dropC (fstL L) (sndL L) L.length key p)
theorem putA_small {L : List PM} {key val : ByteArray} {p : Nat} {R : List PM} {q : Int} (hp : IsPlace (fstL L) L.length key p) (h : putA L key val p = (R, q)) : R.length ≤ 1048576 := by
  unfold putA at h
  cases h
  unfold putR
  by_cases h0 : faultC (fstL L) (sndL L) L.length key val = 0
  · rw [if_pos h0]
    have h60 := pairs_le _ _ _ _ _ h0
    split
    · rw [listP_length]; omega
    · rw [putL_length _ _ _ _ _ _ hp.1]; split <;> omega
  · rw [if_neg h0]; simp
theorem dropA_small {L : List PM} {key : ByteArray} {p : Nat} {R : List PM} {q : Int} (h : dropA L key p = (R, q)) : R.length ≤ 1048576 := by
  unfold dropA at h
  cases h
  unfold dropR
  by_cases h0 : askC (fstL L) (sndL L) L.length key = 0
  · rw [if_pos h0]
    have h60 := pairs_le _ _ _ key ⟨#[]⟩ (by rw [fault_ask]; exact h0)
    split
    · rw [List.length_append, List.length_take, List.length_drop, listP_length]; omega
    · rw [listP_length]; omega
  · rw [if_neg h0]; simp
end Go.Proofs.YtmbndpgoihdpnaaGreatDoor
