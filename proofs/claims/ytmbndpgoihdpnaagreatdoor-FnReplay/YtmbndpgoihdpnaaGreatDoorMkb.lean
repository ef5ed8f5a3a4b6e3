
/-
  The bool that a mark leaves. By an AI agent.
-/
import Derived.Test.YtmbndpgoihdpnaaGreatDoorBoxes
namespace Go.Proofs.YtmbndpgoihdpnaaGreatDoor
set_option linter.unusedVariables false
def mkB3 (x : Nat) : Bool := decide (x % 3 = 0)
theorem mkB3_a (x j : Nat) : ((((x : Int) + (j : Int)) % 3) == 0) = mkB3 (x + j) := by
  unfold mkB3
  rw [Bool.eq_iff_iff, beq_iff_eq, decide_eq_true_eq]
  omega
theorem mkB3_b (x j : Nat) : ((((x : Int) + ((j % 3 : Nat) : Int)) % 3) == 0) = mkB3 (x + j) := by
  unfold mkB3
  rw [Bool.eq_iff_iff, beq_iff_eq, decide_eq_true_eq]
  omega
end Go.Proofs.YtmbndpgoihdpnaaGreatDoor
