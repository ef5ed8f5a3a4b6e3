
/-
  Appending what a slice, nil or not, leads to; copies of lists. By an AI agent.
-/
import Derived.Test.YtpbodiaglgkkkaaDisks
namespace Go.Proofs.Ytpbodiaglgkkkaa
open Go.ChangeShapes Go.WideShapes Go.ChangeAt Go.RowKit Go.Deep
set_option linter.unusedVariables false

set_option maxHeartbeats 400000 in
theorem copyQ (a : Option Addr) (n c : Nat) (L : List (Int × ByteArray)) (w : World) (hL : L.length = n) (hn : n ≤ 1048576) (h : Src w a (cellsQ L)) :
    Calls Try.prog 43 #[.slice a n c] w fun e w' => ∃ v, e = .returned v ∧ w'.ownsRow w.heap.size 47 2 v n (cellsQ L) ∧ Below w.heap.size w w' := by
  have HH : Hid (Src w a (cellsQ L)) := h
  have HL : Hid ((cellsQ L).length = n * 2) := by show _ = _; rw [cellsQ_length]; omega
  clear h hL
  go_enter Try.func43, Try.ntmps43
  go_wp2_with (at_builtin; refine wpList_append_src _ rfl _ _ 24 rfl w.heap.size 47 (.agg #[.int .i64 0, .string ⟨#[]⟩]) 2 24 Try.underlying24 infoQ rfl (by decide) (by decide) _ 0 [] rfl (World.ownsRow_nil _ _ _ _) a n c (cellsQ L) rfl HL.out HH.out (cellsQ_one L) (by omega) (Nat.le_refl _) ?_)
  intro v' w1 hown hgrow
  have HO : Hid (w1.ownsRow w.heap.size 47 2 v' n (cellsQ L)) := by simpa [Hid] using hown
  have HB : Hid (Below w.heap.size w w1) := (Below.refl _ _).grown hgrow (Nat.le_refl _) (fun k e => by cases e)
  clear hown hgrow
  go_wp2_with fail
  go_ret
  exact ⟨_, rfl, HO.out, HB.out⟩

end Go.Proofs.Ytpbodiaglgkkkaa
