
/-
  Contracts of the functions that find the place of a key among pairs, and of both PairGet. By an AI agent.
-/
import Derived.Test.YtkimjnjpfjeldaaDoorPairsOKi
namespace Go.Proofs.YtkimjnjpfjeldaaDoor
open Go.ChangeShapes Go.WideShapes Go.ChangeAt Go.RowKit Go.Deep
set_option linter.unusedVariables false

/-- p is the first place whose key is not less than key. -/
def IsPlace (f : Nat → ByteArray) (n : Nat) (key : ByteArray) (p : Nat) : Prop :=
  p ≤ n ∧ (∀ j, j < p → Op.bytesLess (f j).toList key.toList = true) ∧ (p < n → Op.bytesLess (f p).toList key.toList = false)
theorem place_exists (f : Nat → ByteArray) (key : ByteArray) (n : Nat) : ∃ p, IsPlace f n key p := by
  induction n with
  | zero => exact ⟨0, Nat.le_refl _, fun j hj => absurd hj (by omega), fun h => absurd h (by omega)⟩
  | succ n ih =>
    obtain ⟨p, h1, h2, h3⟩ := ih
    by_cases e : p < n
    · exact ⟨p, by omega, h2, fun _ => h3 e⟩
    · have hp : p = n := by omega
      subst hp
      cases hl : Op.bytesLess (f p).toList key.toList with
      | false => exact ⟨p, by omega, h2, fun _ => hl⟩
      | true => exact ⟨p + 1, by omega, fun j hj => by
          by_cases e : j = p
          · rw [e]; exact hl
          · exact h2 j (by omega), fun h => absurd h (by omega)⟩
def hitB (f : Nat → ByteArray) (n : Nat) (key : ByteArray) (p : Nat) : Bool := decide (p < n) && ((f p).toList == key.toList)
def gotV (f g : Nat → ByteArray) (n : Nat) (key : ByteArray) (p : Nat) : ByteArray := if hitB f n key p = true then g p else ⟨#[]⟩
theorem ret_two {a b : ByteArray} {k l : Bool} (h1 : a = b) (h2 : k = l) : Ending.returned (.tuple #[.string a, .bool k]) = .returned (.tuple #[.string b, .bool l]) := by rw [h1, h2]
theorem ret_two' {a b : ByteArray} {k l : Int} (h1 : a = b) (h2 : k = l) : Ending.returned (.tuple #[.string a, .int .i64 k]) = .returned (.tuple #[.string b, .int .i64 l]) := by rw [h1, h2]
def askC (f g : Nat → ByteArray) (n : Nat) (key : ByteArray) : Int := if 4096 < n ∨ 65536 < key.size then 2 else if pairsB f g n = false then 1 else if keyB key = false then 4 else 0
theorem ret_int {k : IntKind} {a b : Int} (h : a = b) : Ending.returned (.int k a) = .returned (.int k b) := by rw [h]

/-- What both PairGet answer. -/
def getV (f g : Nat → ByteArray) (n : Nat) (key : ByteArray) (p : Nat) : ByteArray := if askC f g n key = 0 then gotV f g n key p else ⟨#[]⟩
def getC (f g : Nat → ByteArray) (n : Nat) (key : ByteArray) (p : Nat) : Int := if askC f g n key = 0 then (if hitB f n key p = true then 0 else 5) else askC f g n key
end Go.Proofs.YtkimjnjpfjeldaaDoor
