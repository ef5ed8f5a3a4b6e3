
/-
  A new session: the program's NewSmtp and the specification's. By an AI agent.
-/
import Derived.Test.YtbaljcdiofoppaaSmts
namespace Go.Proofs.Ytbaljcdiofoppaa
open Go.ChangeShapes Go.WideShapes Go.ChangeAt Go.RowKit Go.Deep
set_option linter.unusedVariables false
set_option maxRecDepth 100000

def newT : SMT := ⟨false, false, true, ⟨#[]⟩, [], []⟩
set_option maxHeartbeats 1000000 in
theorem implNewSmtp (w : World) : Calls Try.prog 6 #[] w fun e w' => ∃ v, e = .returned v ∧ OwnsT w' w.heap.size w'.heap.size v newT ∧ Below w.heap.size w w' := by
  go_enter Try.func6, Try.ntmps6
  go_wp2_with fail
  refine bodyPost_ret (v := .agg #[.bool false, .bool false, .bool true, .string ⟨#[]⟩, .slice none 0 0, .slice none 0 0]) (by simp [results, Try.results6, go_sem]) rfl ⟨_, rfl, ?_, ?_⟩
  · refine ⟨.slice none 0 0, .slice none 0 0, rfl, OwnsR.mk ⟨rfl, .inl ⟨rfl, rfl⟩⟩ (Nat.le_refl _), OwnsR.mk ⟨rfl, .inl ⟨rfl, rfl⟩⟩ (Nat.le_refl _), fun g h => by cases h⟩
  · exact (Below.refl _ _).alloc (Nat.le_refl _) _
set_option maxHeartbeats 1000000 in
theorem specNewSmtp (w : World) : Calls Try.prog 5 #[] w fun e w' => ∃ v, e = .returned v ∧ OwnsT w' w.heap.size w'.heap.size v newT ∧ Below w.heap.size w w' := by
  go_enter Try.func5, Try.ntmps5
  go_wp2_with fail
  obtain ⟨X, hX⟩ : ∃ X : Array Value, #[Value.bool false, .bool false, .bool true, .string ⟨#[]⟩, .slice (some ⟨w.heap.size + 1, 0, none⟩) 0 0, .slice (some ⟨w.heap.size + 1 + 1, 0, none⟩) 0 0] = X := ⟨_, rfl⟩
  have HB : Box (((w.alloc (.cells X 24)).alloc (.cells #[] 9)).alloc (.cells #[] 9)) w.heap.size X.toList := ((Box.new rfl).old _).old _
  rw [← hX] at HB
  clear hX
  obtain ⟨r0, _⟩ := HB 0 _ rfl
  obtain ⟨r1, _⟩ := HB 1 _ rfl
  obtain ⟨r2, _⟩ := HB 2 _ rfl
  obtain ⟨r3, _⟩ := HB 3 _ rfl
  obtain ⟨r4, _⟩ := HB 4 _ rfl
  obtain ⟨r5, _⟩ := HB 5 _ rfl
  refine bodyPost_ret (v := .agg #[.bool false, .bool false, .bool true, .string ⟨#[]⟩, .slice (some ⟨w.heap.size + 1, 0, none⟩) 0 0, .slice (some ⟨w.heap.size + 1 + 1, 0, none⟩) 0 0]) (by simp [results, Try.results5, go_sem, r0, r1, r2, r3, r4, r5]) rfl ⟨_, rfl, ?_, ?_⟩
  · refine ⟨.slice (some ⟨w.heap.size + 1, 0, none⟩) 0 0, .slice (some ⟨w.heap.size + 1 + 1, 0, none⟩) 0 0, rfl, OwnsR.mk ?_ (Nat.le_refl _), OwnsR.mk ?_ (Nat.le_refl _), fun g h1 h2 => ?_⟩
    · exact own_below (own_empty (by simp) (by simp)) ((Below.refl _ _).alloc (Nat.le_refl _) _)
    · exact own_empty (by simp) (by simp; omega)
    · simp [Value.ownBlock] at h1 h2; omega
  · exact (((Below.refl _ _).alloc (Nat.le_refl _) _).alloc (by simp) _).alloc (by simp; omega) _
end Go.Proofs.Ytbaljcdiofoppaa
