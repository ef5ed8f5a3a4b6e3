/-
  The walk of the law FnExactMessageOK.
  By an AI agent.
-/
import Derived.Test.YtgbhjhbmolgbeaaDoorPar6
namespace Go.Proofs.YtgbhjhbmolgbeaaDoor.fnExactMessageOK
open Go.ChangeShapes Go.WideShapes Go.ChangeAt Go.WideMaps Go.WideElems Go.RowKit Go.Deep
open Go.ChangeMaps (open_string shut_string)
set_option linter.unusedVariables false

set_option maxHeartbeats 2000000 in
theorem walk (s : ByteArray) (w : World) (hs : s.size ≤ maxLen) (hm : MaxAt w) :
    Calls Tryd.prog 4 #[.string s] w fun e w' => e = .returned (.bool true) ∧ Below w.heap.size w w' := by
  unfold maxLen at hs
  by_cases hbig : 1048576 < s.size
  · go_enter Tryd.func4, Tryd.ntmps4
    go_wp2_with fail
    go_ret
    exact ⟨rfl, Below.refl _ _⟩
  have hl : s.data.toList.length ≤ 1048576 := by simp; omega
  obtain ⟨b, hb⟩ : ∃ b, decide ((msgA s.data.toList).2 = 0) = b := ⟨_, rfl⟩
  have HS : ∀ w, Calls Tryd.prog 19 #[.string s] w fun e w' => e = .returned (.bool b) ∧ Below w.heap.size w w' := fun w => by
    have h9 := specMessageOK s.data.toList w hl
    rwa [bsOf_data, hb] at h9
  have HI : ∀ w, MaxAt w → Calls Tryd.prog 13 #[.string s] w fun e w' => e = .returned (.bool b) ∧ Below w.heap.size w w' := fun w hm => by
    have h9 := implMessageOK s.data.toList w hl hm
    rwa [bsOf_data, hb] at h9
  have HM : Hid (MaxAt w) := hm
  clear hb hl hm
  have hbb : (b != b) = false := by simp
  go_enter Tryd.func4, Tryd.ntmps4
  go_wp2_with (first | (go_at_call 19; refine (HS _).mono ?_; rintro e w1 ⟨rfl, hb1⟩) | (go_at_call 13; refine (HI _ (HM.out.below hb1)).mono ?_; rintro e w2 ⟨rfl, hb2⟩))
  go_ret
  exact ⟨rfl, hb1.trans (hb2.mono hb1.size)⟩

end Go.Proofs.YtgbhjhbmolgbeaaDoor.fnExactMessageOK
