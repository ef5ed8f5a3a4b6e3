
/-
  The text of a mark. By an AI agent.
-/
import Derived.Test.YtedbgofjgnidiaaRw
import Derived.Deep.RegionWith
import Derived.Deep.QuietTactic
import Derived.BigQuiet
import Derived.WalkLawsBesides
namespace Go.Proofs.Ytedbgofjgnidiaa
open Go.ChangeShapes Go.WideShapes Go.ChangeAt Go.RowKit Go.Deep
set_option linter.unusedVariables false

def d10 (j : Nat) : ByteArray := strOfNums [48 + (j : Int) % 10]
theorem d10_size (j : Nat) : (d10 j).size = 1 := rfl
/-- The digits of k ahead of out. -/
def mtF : Nat → Nat → ByteArray → ByteArray
  | 0, _, out => out
  | fuel + 1, k, out => if k = 0 then out else mtF fuel (k / 10) (d10 k ++ out)
def markT (k : Nat) : ByteArray := (⟨#[109]⟩ : ByteArray) ++ mtF (k + 1) k ⟨#[]⟩
theorem mtF_step (fuel k : Nat) (out : ByteArray) (h : 0 < k) : mtF (fuel + 1) k out = mtF fuel (k / 10) (d10 k ++ out) := by
  show (if k = 0 then out else _) = _
  rw [if_neg (by omega)]
theorem mtF_zero (fuel : Nat) (out : ByteArray) : mtF fuel 0 out = out := by
  cases fuel <;> rfl
end Go.Proofs.Ytedbgofjgnidiaa
