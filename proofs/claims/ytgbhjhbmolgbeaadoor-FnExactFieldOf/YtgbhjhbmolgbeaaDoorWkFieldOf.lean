/-
  The walk of the law FnExactFieldOf.
  By an AI agent.
-/
import Derived.Test.YtgbhjhbmolgbeaaDoorFog
namespace Go.Proofs.YtgbhjhbmolgbeaaDoor.fnExactFieldOf
open Go.ChangeShapes Go.WideShapes Go.ChangeAt Go.WideMaps Go.WideElems Go.RowKit Go.Deep
open Go.ChangeMaps (open_string shut_string)
set_option linter.unusedVariables false

set_option maxHeartbeats 2000000 in
theorem walk (s nm : ByteArray) (w : World) (hs : s.size ≤ maxLen) (hn : nm.size ≤ maxLen) (hm : MaxAt w) :
    Calls Tryd.prog 7 #[.string s, .string nm] w fun e w' => e = .returned (.bool true) ∧ Below w.heap.size w w' := by
  unfold maxLen at hs hn
  by_cases hbig : 1048576 < s.size
  · go_enter Tryd.func7, Tryd.ntmps7
    go_wp2_with fail
    go_ret
    exact ⟨rfl, Below.refl _ _⟩
  by_cases hbig2 : 1048576 < nm.size
  · go_enter Tryd.func7, Tryd.ntmps7
    go_wp2_with fail
    go_ret
    exact ⟨rfl, Below.refl _ _⟩
  have hl : s.data.toList.length ≤ 1048576 := by simp; omega
  obtain ⟨V, C, hA⟩ : ∃ V C, fofA s.data.toList nm = (V, C) := ⟨_, _, rfl⟩
  have HS : ∀ w, Calls Tryd.prog 15 #[.string s, .string nm] w fun e w' => e = .returned (.tuple #[.string V, .int .i64 C]) ∧ Below w.heap.size w w' := fun w => by
    have h9 := specFieldOf s.data.toList nm w hl (by omega)
    rwa [bsOf_data, hA] at h9
  have HI : ∀ w, MaxAt w → Calls Tryd.prog 14 #[.string s, .string nm] w fun e w' => e = .returned (.tuple #[.string V, .int .i64 C]) ∧ Below w.heap.size w w' := fun w hm => by
    have h9 := implFieldOf s.data.toList nm w hl (by omega) hm
    rwa [bsOf_data, hA] at h9
  have HM : Hid (MaxAt w) := hm
  clear hA hl hm
  have hcc : (C != C) = false := by simp
  go_enter Tryd.func7, Tryd.ntmps7
  go_wp2_with (first | (go_at_call 15; refine (HS _).mono ?_; rintro e w1 ⟨rfl, hb1⟩) | (go_at_call 14; refine (HI _ (HM.out.below hb1)).mono ?_; rintro e w2 ⟨rfl, hb2⟩))
  go_ret
  exact ⟨rfl, hb1.trans (hb2.mono hb1.size)⟩

end Go.Proofs.YtgbhjhbmolgbeaaDoor.fnExactFieldOf
