
/-
  The text of a mark. By an AI agent.
-/
import Derived.Test.YthgbclipknfmjaaGreatDoorRw
import Derived.Deep.RegionWith
import Derived.Deep.QuietTactic
import Derived.BigQuiet
import Derived.WalkLawsBesides
namespace Go.Proofs.YthgbclipknfmjaaGreatDoor
open Go.ChangeShapes Go.WideShapes Go.ChangeAt Go.RowKit Go.Deep
set_option linter.unusedVariables false

def d10 (j : Nat) : ByteArray := strOfNums [48 + (j : Int) % 10]
theorem d10_size (j : Nat) : (d10 j).size = 1 := rfl
/-- The digits of k ahead of out. -/
def mtF : Nat → Nat → ByteArray → ByteArray
  | 0, _, out => out
  | fuel + 1, k, out => if k = 0 then out else mtF fuel (k / 10) (d10 k ++ out)
def markT (k : Nat) : ByteArray := (⟨#[109]⟩ : ByteArray) ++ mtF (k + 1) k ⟨#[]⟩
theorem mtF_step (fuel k : Nat) (out : ByteArray) (h : 0 < k) : mtF (fuel + 1) k out = mtF fuel (k / 10) (d10 k ++ out) := by
  show (if k = 0 then out else _) = _
  rw [if_neg (by omega)]
theorem mtF_zero (fuel : Nat) (out : ByteArray) : mtF fuel 0 out = out := by
  cases fuel <;> rfl
theorem conv_digit (wr : World) (j : Nat) : (convert 22 9 (.slice (some ⟨wr.heap.size, 0, none⟩) 1 1)).run Tryz.prog (wr.alloc (.cells #[.int .u8 (48 + (j : Int) % 10)] 5)) = .ok (.string (d10 j)) (wr.alloc (.cells #[.int .u8 (48 + (j : Int) % 10)] 5)) :=
  run_convert_bytes_arg (P := Tryz.prog) _ 22 5 Tryz.underlying22 Tryz.underlying5 wr.heap.size 0 1 1 [48 + (j : Int) % 10] rfl (fun i hi => by
    have hi0 : i = 0 := by omega
    subst hi0
    rw [World.cell?_alloc_at _ _ _ _ rfl]; rfl) 9 Tryz.underlying9

end Go.Proofs.YthgbclipknfmjaaGreatDoor
