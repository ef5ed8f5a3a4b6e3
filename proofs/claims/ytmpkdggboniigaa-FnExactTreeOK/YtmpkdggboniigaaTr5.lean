/-
  The specification's TreeOK. By an AI agent.
-/
import Derived.Test.YtmpkdggboniigaaTr4
namespace Go.Proofs.Ytmpkdggboniigaa
open Go.ChangeShapes Go.WideShapes Go.ChangeAt Go.RowKit Go.Deep
set_option linter.unusedVariables false
set_option maxRecDepth 100000
set_option maxHeartbeats 400000 in
theorem specTreeOK (v : Value) (H : List NM) (root : Int) (w : World) (hsm : smallH H) (h : ReadsH w v H) :
    Calls Try.prog 81 #[v, .int .i64 root] w fun e w' => e = .returned (.bool (treeF H root).isSome) ∧ Below w.heap.size w w' := by
  obtain ⟨a, c, rfl, hr⟩ := h
  have HR : Hid (ReadsH w (.agg #[.slice a H.length c]) H) := ⟨a, c, rfl, hr⟩
  have HS : Hid (smallH H) := hsm
  obtain ⟨bb, hbb⟩ : ∃ bb, (treeF H root).isSome = bb := ⟨_, rfl⟩
  have HB : Hid ((treeF H root).isSome = bb) := hbb
  rw [hbb]
  clear hr hsm hbb
  go_enter Try.func81, Try.ntmps81
  go_wp2_with fail
  refine (l03Walk _ H root _ HS.out (HR.out.below ((Below.refl _ _).alloc (Nat.le_refl _) _))).mono ?_
  rintro e w1 ⟨hb1, (⟨hn, v1, v2, rfl⟩ | ⟨s, v1, v2, hs, rfl, _⟩)⟩
  · have F : Hid (bb = false) := by show bb = false; rw [← HB.out, hn]; rfl
    have B1 : Hid (Below w.heap.size w w1) := Below.new hb1
    clear hn hb1
    go_wp2_with fail
    go_ret
    exact ⟨ret_bool F.out.symm, B1.out⟩
  · have F : Hid (bb = true) := by show bb = true; rw [← HB.out, hs]; rfl
    have B1 : Hid (Below w.heap.size w w1) := Below.new hb1
    clear hs hb1
    go_wp2_with fail
    go_ret
    exact ⟨ret_bool F.out.symm, B1.out⟩
end Go.Proofs.Ytmpkdggboniigaa
