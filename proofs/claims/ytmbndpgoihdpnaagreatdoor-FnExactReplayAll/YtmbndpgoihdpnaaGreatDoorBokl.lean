
/-
  What a right backup is: the specification's BackupOK. By an AI agent.
-/
import Derived.Test.YtmbndpgoihdpnaaGreatDoorBok
namespace Go.Proofs.YtmbndpgoihdpnaaGreatDoor
open Go.ChangeShapes Go.WideShapes Go.ChangeAt Go.RowKit Go.Deep
set_option linter.unusedVariables false
set_option linter.unusedSimpArgs false
set_option maxRecDepth 100000

theorem form_big1 {x0 x1 x2 : ByteArray} {x3 x4 : Bool} (h : 90 < x1.size) : formB (x0, x1, x2, x3, x4) = false := by
  rw [formB_of]
  have h9 : sideB x1 x3 = false := by unfold sideB; split <;> exact decide_eq_false (by omega)
  rw [h9]; simp
theorem form_big2 {x0 x1 x2 : ByteArray} {x3 x4 : Bool} (h : 90 < x2.size) : formB (x0, x1, x2, x3, x4) = false := by
  rw [formB_of]
  have h9 : sideB x2 x4 = false := by unfold sideB; split <;> exact decide_eq_false (by omega)
  rw [h9]; simp
theorem form_key {x0 x1 x2 : ByteArray} {x3 x4 : Bool} (h : keyB x0 = false) : formB (x0, x1, x2, x3, x4) = false := by
  rw [formB_of, h]; rfl
theorem form_none {x0 x1 x2 : ByteArray} : formB (x0, x1, x2, false, false) = false := by
  rw [formB_of]; simp
theorem form_was {x0 x1 x2 : ByteArray} {x4 : Bool} (h : x1.size ≠ 0) : formB (x0, x1, x2, false, x4) = false := by
  rw [formB_of]
  have h9 : sideB x1 false = false := by unfold sideB; rw [if_neg (by decide)]; exact decide_eq_false h
  rw [h9]; simp
theorem form_is {x0 x1 x2 : ByteArray} {x3 : Bool} (h : x2.size ≠ 0) : formB (x0, x1, x2, x3, false) = false := by
  rw [formB_of]
  have h9 : sideB x2 false = false := by unfold sideB; rw [if_neg (by decide)]; exact decide_eq_false h
  rw [h9]; simp
theorem side_yes {v : ByteArray} (h : v.size ≤ 90) : sideB v true = true := by unfold sideB; rw [if_pos rfl]; exact decide_eq_true h
theorem side_emp {v : ByteArray} (h : v.size = 0) : sideB v false = true := by unfold sideB; rw [if_neg (by decide)]; exact decide_eq_true h
theorem is_empty {v : ByteArray} (h : v.size = 0) : v.toList.isEmpty = true := by
  rw [size0 h, ByteArray.toList_eq]; rfl
theorem side_no : sideB ⟨#[]⟩ false = true := by decide
theorem ne_empty {v : ByteArray} (h : v.size ≠ 0) : v.toList.isEmpty = false := by
  have h1 : ¬ v.toList = [] := fun e => h (by have h9 : v = ⟨#[]⟩ := toList_injF (by rw [e, ByteArray.toList_eq]); rw [h9]; rfl)
  simpa using h1
theorem ne_toList {v : ByteArray} (h : v.size ≠ 0) : ¬ v.toList = [] := fun e => h (by have h9 : v = ⟨#[]⟩ := toList_injF (by rw [e, ByteArray.toList_eq]); rw [h9]; rfl)
theorem l01InK (d : Bool) (a b c : Int) (w : World) (h : (decide (b ≤ a) && decide (a ≤ c)) = d) : Calls Tryz.prog 69 #[.int .i64 a, .int .i64 b, .int .i64 c] w fun e w' => e = .returned (.bool d) ∧ w' = w := by
  rw [← h]; exact (l01In a b c w).mono fun e w' ⟨h1, h2⟩ => ⟨h1, h2.symm⟩

end Go.Proofs.YtmbndpgoihdpnaaGreatDoor
