/-
  Contracts of the two functions CodeWord over this seat's translation: both give the word at a code, the empty text elsewhere. By an AI agent.
-/
import Derived.Test.YtmgplopaapmfaagDoorRows
import Derived.WalkKit
import Derived.ProofKit
import Derived.OpenShut
import Derived.ShutString
import Derived.ChangeOld
import Derived.Below
namespace Go.Proofs.YtmgplopaapmfaagDoor
open Go.ChangeShapes Go.WideShapes Go.ChangeAt Go.RowKit
set_option linter.unusedVariables false

def words : List ByteArray := [⟨#[111, 107]⟩, ⟨#[98, 97, 100]⟩, ⟨#[108, 111, 110, 103]⟩, ⟨#[102, 111, 114, 109]⟩, ⟨#[114, 97, 110, 103, 101]⟩, ⟨#[110, 111, 110, 101]⟩, ⟨#[109, 97, 110, 121]⟩, ⟨#[102, 117, 108, 108]⟩, ⟨#[115, 117, 109]⟩, ⟨#[116, 119, 105, 99, 101]⟩, ⟨#[100, 111, 119, 110]⟩, ⟨#[115, 116, 97, 116, 101]⟩, ⟨#[113, 117, 111, 116, 97]⟩, ⟨#[111, 114, 100, 101, 114]⟩, ⟨#[99, 104, 97, 105, 110]⟩, ⟨#[117, 115, 101, 114]⟩, ⟨#[102, 111, 108, 100, 101, 114]⟩, ⟨#[110, 97, 109, 101]⟩, ⟨#[111, 108, 100]⟩, ⟨#[114, 111, 111, 116]⟩]
def wordAt (c : Int) : ByteArray := if 0 ≤ c ∧ c < 20 then words.getD c.toNat ⟨#[]⟩ else ⟨#[]⟩

theorem wordAt_out (c : Int) (h : c < 0 ∨ 20 ≤ c) : wordAt c = ⟨#[]⟩ := by
  unfold wordAt; rw [if_neg (by omega)]
theorem twenty (c : Int) (h0 : 0 ≤ c) (h1 : c < 20) : c = 0 ∨ c = 1 ∨ c = 2 ∨ c = 3 ∨ c = 4 ∨ c = 5 ∨ c = 6 ∨ c = 7 ∨ c = 8 ∨ c = 9 ∨ c = 10 ∨ c = 11 ∨ c = 12 ∨ c = 13 ∨ c = 14 ∨ c = 15 ∨ c = 16 ∨ c = 17 ∨ c = 18 ∨ c = 19 := by omega

theorem cw6_0 (w : World) : Calls Tryd.prog 6 #[.int .i64 0] w fun e w' => e = .returned (.string ⟨#[111, 107]⟩) ∧ Below w.heap.size w w' := by
  go_enter Tryd.func6, Tryd.ntmps6
  go_wp2
  go_ret
  exact ⟨rfl, (Below.refl _ _).alloc (Nat.le_refl _) _⟩
theorem cw6_1 (w : World) : Calls Tryd.prog 6 #[.int .i64 1] w fun e w' => e = .returned (.string ⟨#[98, 97, 100]⟩) ∧ Below w.heap.size w w' := by
  go_enter Tryd.func6, Tryd.ntmps6
  go_wp2
  go_ret
  exact ⟨rfl, (Below.refl _ _).alloc (Nat.le_refl _) _⟩
theorem cw6_2 (w : World) : Calls Tryd.prog 6 #[.int .i64 2] w fun e w' => e = .returned (.string ⟨#[108, 111, 110, 103]⟩) ∧ Below w.heap.size w w' := by
  go_enter Tryd.func6, Tryd.ntmps6
  go_wp2
  go_ret
  exact ⟨rfl, (Below.refl _ _).alloc (Nat.le_refl _) _⟩
theorem cw6_3 (w : World) : Calls Tryd.prog 6 #[.int .i64 3] w fun e w' => e = .returned (.string ⟨#[102, 111, 114, 109]⟩) ∧ Below w.heap.size w w' := by
  go_enter Tryd.func6, Tryd.ntmps6
  go_wp2
  go_ret
  exact ⟨rfl, (Below.refl _ _).alloc (Nat.le_refl _) _⟩
theorem cw6_4 (w : World) : Calls Tryd.prog 6 #[.int .i64 4] w fun e w' => e = .returned (.string ⟨#[114, 97, 110, 103, 101]⟩) ∧ Below w.heap.size w w' := by
  go_enter Tryd.func6, Tryd.ntmps6
  go_wp2
  go_ret
  exact ⟨rfl, (Below.refl _ _).alloc (Nat.le_refl _) _⟩
theorem cw6_5 (w : World) : Calls Tryd.prog 6 #[.int .i64 5] w fun e w' => e = .returned (.string ⟨#[110, 111, 110, 101]⟩) ∧ Below w.heap.size w w' := by
  go_enter Tryd.func6, Tryd.ntmps6
  go_wp2
  go_ret
  exact ⟨rfl, (Below.refl _ _).alloc (Nat.le_refl _) _⟩
theorem cw6_6 (w : World) : Calls Tryd.prog 6 #[.int .i64 6] w fun e w' => e = .returned (.string ⟨#[109, 97, 110, 121]⟩) ∧ Below w.heap.size w w' := by
  go_enter Tryd.func6, Tryd.ntmps6
  go_wp2
  go_ret
  exact ⟨rfl, (Below.refl _ _).alloc (Nat.le_refl _) _⟩
theorem cw6_7 (w : World) : Calls Tryd.prog 6 #[.int .i64 7] w fun e w' => e = .returned (.string ⟨#[102, 117, 108, 108]⟩) ∧ Below w.heap.size w w' := by
  go_enter Tryd.func6, Tryd.ntmps6
  go_wp2
  go_ret
  exact ⟨rfl, (Below.refl _ _).alloc (Nat.le_refl _) _⟩
theorem cw6_8 (w : World) : Calls Tryd.prog 6 #[.int .i64 8] w fun e w' => e = .returned (.string ⟨#[115, 117, 109]⟩) ∧ Below w.heap.size w w' := by
  go_enter Tryd.func6, Tryd.ntmps6
  go_wp2
  go_ret
  exact ⟨rfl, (Below.refl _ _).alloc (Nat.le_refl _) _⟩
theorem cw6_9 (w : World) : Calls Tryd.prog 6 #[.int .i64 9] w fun e w' => e = .returned (.string ⟨#[116, 119, 105, 99, 101]⟩) ∧ Below w.heap.size w w' := by
  go_enter Tryd.func6, Tryd.ntmps6
  go_wp2
  go_ret
  exact ⟨rfl, (Below.refl _ _).alloc (Nat.le_refl _) _⟩
theorem cw6_10 (w : World) : Calls Tryd.prog 6 #[.int .i64 10] w fun e w' => e = .returned (.string ⟨#[100, 111, 119, 110]⟩) ∧ Below w.heap.size w w' := by
  go_enter Tryd.func6, Tryd.ntmps6
  go_wp2
  go_ret
  exact ⟨rfl, (Below.refl _ _).alloc (Nat.le_refl _) _⟩
theorem cw6_11 (w : World) : Calls Tryd.prog 6 #[.int .i64 11] w fun e w' => e = .returned (.string ⟨#[115, 116, 97, 116, 101]⟩) ∧ Below w.heap.size w w' := by
  go_enter Tryd.func6, Tryd.ntmps6
  go_wp2
  go_ret
  exact ⟨rfl, (Below.refl _ _).alloc (Nat.le_refl _) _⟩
theorem cw6_12 (w : World) : Calls Tryd.prog 6 #[.int .i64 12] w fun e w' => e = .returned (.string ⟨#[113, 117, 111, 116, 97]⟩) ∧ Below w.heap.size w w' := by
  go_enter Tryd.func6, Tryd.ntmps6
  go_wp2
  go_ret
  exact ⟨rfl, (Below.refl _ _).alloc (Nat.le_refl _) _⟩
theorem cw6_13 (w : World) : Calls Tryd.prog 6 #[.int .i64 13] w fun e w' => e = .returned (.string ⟨#[111, 114, 100, 101, 114]⟩) ∧ Below w.heap.size w w' := by
  go_enter Tryd.func6, Tryd.ntmps6
  go_wp2
  go_ret
  exact ⟨rfl, (Below.refl _ _).alloc (Nat.le_refl _) _⟩
theorem cw6_14 (w : World) : Calls Tryd.prog 6 #[.int .i64 14] w fun e w' => e = .returned (.string ⟨#[99, 104, 97, 105, 110]⟩) ∧ Below w.heap.size w w' := by
  go_enter Tryd.func6, Tryd.ntmps6
  go_wp2
  go_ret
  exact ⟨rfl, (Below.refl _ _).alloc (Nat.le_refl _) _⟩
theorem cw6_15 (w : World) : Calls Tryd.prog 6 #[.int .i64 15] w fun e w' => e = .returned (.string ⟨#[117, 115, 101, 114]⟩) ∧ Below w.heap.size w w' := by
  go_enter Tryd.func6, Tryd.ntmps6
  go_wp2
  go_ret
  exact ⟨rfl, (Below.refl _ _).alloc (Nat.le_refl _) _⟩
theorem cw6_16 (w : World) : Calls Tryd.prog 6 #[.int .i64 16] w fun e w' => e = .returned (.string ⟨#[102, 111, 108, 100, 101, 114]⟩) ∧ Below w.heap.size w w' := by
  go_enter Tryd.func6, Tryd.ntmps6
  go_wp2
  go_ret
  exact ⟨rfl, (Below.refl _ _).alloc (Nat.le_refl _) _⟩
theorem cw6_17 (w : World) : Calls Tryd.prog 6 #[.int .i64 17] w fun e w' => e = .returned (.string ⟨#[110, 97, 109, 101]⟩) ∧ Below w.heap.size w w' := by
  go_enter Tryd.func6, Tryd.ntmps6
  go_wp2
  go_ret
  exact ⟨rfl, (Below.refl _ _).alloc (Nat.le_refl _) _⟩
theorem cw6_18 (w : World) : Calls Tryd.prog 6 #[.int .i64 18] w fun e w' => e = .returned (.string ⟨#[111, 108, 100]⟩) ∧ Below w.heap.size w w' := by
  go_enter Tryd.func6, Tryd.ntmps6
  go_wp2
  go_ret
  exact ⟨rfl, (Below.refl _ _).alloc (Nat.le_refl _) _⟩
theorem cw6_19 (w : World) : Calls Tryd.prog 6 #[.int .i64 19] w fun e w' => e = .returned (.string ⟨#[114, 111, 111, 116]⟩) ∧ Below w.heap.size w w' := by
  go_enter Tryd.func6, Tryd.ntmps6
  go_wp2
  go_ret
  exact ⟨rfl, (Below.refl _ _).alloc (Nat.le_refl _) _⟩

theorem codeWord6 (c : Int) (w : World) : Calls Tryd.prog 6 #[.int .i64 c] w fun e w' => e = .returned (.string (wordAt c)) ∧ Below w.heap.size w w' := by
  by_cases h0 : c < 0
  · go_enter Tryd.func6, Tryd.ntmps6
    go_wp2
    go_ret
    exact ⟨by rw [wordAt_out c (by omega)]; rfl, (Below.refl _ _).alloc (Nat.le_refl _) _⟩
  by_cases h1 : 20 ≤ c
  · go_enter Tryd.func6, Tryd.ntmps6
    go_wp2
    go_ret
    exact ⟨by rw [wordAt_out c (by omega)]; rfl, (Below.refl _ _).alloc (Nat.le_refl _) _⟩
  rcases twenty c (by omega) (by omega) with rfl | rfl | rfl | rfl | rfl | rfl | rfl | rfl | rfl | rfl | rfl | rfl | rfl | rfl | rfl | rfl | rfl | rfl | rfl | rfl
  · exact cw6_0 w
  · exact cw6_1 w
  · exact cw6_2 w
  · exact cw6_3 w
  · exact cw6_4 w
  · exact cw6_5 w
  · exact cw6_6 w
  · exact cw6_7 w
  · exact cw6_8 w
  · exact cw6_9 w
  · exact cw6_10 w
  · exact cw6_11 w
  · exact cw6_12 w
  · exact cw6_13 w
  · exact cw6_14 w
  · exact cw6_15 w
  · exact cw6_16 w
  · exact cw6_17 w
  · exact cw6_18 w
  · exact cw6_19 w

def HasWords (w : World) : Prop := ∀ i, i < 20 → w.cell? ⟨0, i, none⟩ = some (.string (words.getD i ⟨#[]⟩))

set_option maxHeartbeats 1000000 in
theorem codeWord7 (c : Int) (w : World) (hc : HasWords w) : Calls Tryd.prog 7 #[.int .i64 c] w fun e w' => e = .returned (.string (wordAt c)) ∧ w = w' := by
  by_cases h0 : c < 0
  · clear hc
    go_enter Tryd.func7, Tryd.ntmps7
    go_wp2
    go_ret
    exact ⟨by rw [wordAt_out c (by omega)]; rfl, rfl⟩
  by_cases h1 : 20 ≤ c
  · clear hc
    go_enter Tryd.func7, Tryd.ntmps7
    go_wp2
    go_ret
    exact ⟨by rw [wordAt_out c (by omega)]; rfl, rfl⟩
  have hcell := hc c.toNat (by omega)
  rcases twenty c (by omega) (by omega) with rfl | rfl | rfl | rfl | rfl | rfl | rfl | rfl | rfl | rfl | rfl | rfl | rfl | rfl | rfl | rfl | rfl | rfl | rfl | rfl
  all_goals
    clear h0 h1 hc
    simp [words] at hcell
    go_enter Tryd.func7, Tryd.ntmps7
    go_wp2
    go_ret
    exact ⟨rfl, rfl⟩

theorem HasWords.below {w w' : World} (h : HasWords w) (hb : Below w.heap.size w w') : HasWords w' := fun i hi => by
  have h1 := h i hi
  rw [← h1]
  exact hb.cell (p := ⟨0, i, none⟩) (block_lt_of_cell h1)
end Go.Proofs.YtmgplopaapmfaagDoor
