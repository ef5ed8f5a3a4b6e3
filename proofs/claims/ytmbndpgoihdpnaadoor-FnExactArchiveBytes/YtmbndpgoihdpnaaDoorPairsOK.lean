
/-
  Contracts of the two functions PairsOK: both give one Bool of the pairs. By an AI agent.
-/
import Derived.Test.YtmbndpgoihdpnaaDoorPairs0
namespace Go.Proofs.YtmbndpgoihdpnaaDoor
open Go.ChangeShapes Go.WideShapes Go.ChangeAt Go.RowKit Go.Deep
set_option linter.unusedVariables false

theorem cell_later {w wx : World} {a : Addr} {v : Value} (hb : Below w.heap.size w wx) (h : w.cell? a = some v) : wx.cell? a = some v := (hb.cell (World.block_lt_of_cell? _ _ h)).trans h
def keyB (x : ByteArray) : Bool := decide (1 ≤ (x.size : Int)) && decide ((x.size : Int) ≤ 30)
def fitB (x y : ByteArray) : Bool := keyB x && decide ((y.size : Int) ≤ 90)
def riseB (f : Nat → ByteArray) (i : Nat) : Bool := decide (i = 0) || Op.bytesLess (f (i - 1)).toList (f i).toList
def goodB (f g : Nat → ByteArray) (i : Nat) : Bool := fitB (f i) (g i) && riseB f i
def pairsB (f g : Nat → ByteArray) (n : Nat) : Bool := decide (n ≤ 60) && (List.range n).all (goodB f g)

theorem pairsB_many (f g : Nat → ByteArray) (n : Nat) (h : 60 < n) : pairsB f g n = false := by
  unfold pairsB; rw [decide_eq_false (by omega)]; rfl
theorem pairsB_bad (f g : Nat → ByteArray) (n k : Nat) (hk : k < n) (h : goodB f g k = false) : pairsB f g n = false := by
  unfold pairsB
  have : (List.range n).all (goodB f g) = false := by
    rw [List.all_eq_false]
    exact ⟨k, List.mem_range.2 hk, by rw [h]; decide⟩
  rw [this, Bool.and_false]
theorem pairsB_good (f g : Nat → ByteArray) (n : Nat) (hn : n ≤ 60) (h : ∀ k, k < n → goodB f g k = true) : pairsB f g n = true := by
  unfold pairsB
  rw [decide_eq_true hn, Bool.true_and, List.all_eq_true]
  exact fun k hk => h k (List.mem_range.1 hk)
theorem ret_bool {a b : Bool} (h : a = b) : Ending.returned (.bool a) = .returned (.bool b) := by rw [h]
theorem next_good {f g : Nat → ByteArray} {k : Nat} (h : ∀ j, j < k → goodB f g j = true) (hk : goodB f g k = true) : ∀ j, j < k + 1 → goodB f g j = true := fun j hj => by
  by_cases e : j = k
  · rw [e]; exact hk
  · exact h j (by omega)

theorem keyFits (x : ByteArray) (w : World) (hx : x.size ≤ maxLen) : Calls Tryd.prog 77 #[.string x] w fun e w' => e = .returned (.bool (keyB x)) ∧ w = w' := by
  unfold maxLen at hx
  go_enter Tryd.func77, Tryd.ntmps77
  go_wp2
  all_goals
    go_ret
    exact ⟨ret_bool (by rw [Bool.eq_iff_iff]; simp [keyB]; omega), rfl⟩

theorem l01In (a b c : Int) (w : World) : Calls Tryd.prog 54 #[.int .i64 a, .int .i64 b, .int .i64 c] w fun e w' => e = .returned (.bool (decide (b ≤ a) && decide (a ≤ c))) ∧ w = w' := by
  go_enter Tryd.func54, Tryd.ntmps54
  go_wp2
  all_goals
    go_ret
    exact ⟨ret_bool (by rw [Bool.eq_iff_iff]; simp; omega), rfl⟩

theorem keyFitsIs (b : Bool) (x : ByteArray) (w : World) (h : keyB x = b) (hx : x.size ≤ maxLen) : Calls Tryd.prog 77 #[.string x] w fun e w' => e = .returned (.bool b) ∧ w = w' := by
  rw [← h]; exact keyFits x w hx

end Go.Proofs.YtmbndpgoihdpnaaDoor
