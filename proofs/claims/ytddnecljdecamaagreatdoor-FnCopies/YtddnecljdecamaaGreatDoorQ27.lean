/-
  Ltw Ltx in one. By an AI agent.
-/
import Derived.Test.YtddnecljdecamaaGreatDoorQ24
import Derived.Test.YtddnecljdecamaaGreatDoorQ25
namespace Go.Proofs.YtddnecljdecamaaGreatDoor
open Go.ChangeShapes Go.WideShapes Go.ChangeAt Go.RowKit Go.Deep Go.Lib
set_option linter.unusedVariables false
set_option linter.unusedSimpArgs false
set_option maxRecDepth 100000

theorem src_2S {w : World} {s t : ByteArray} {B ty : Nat} (hB : B = w.heap.size) : Src (w.alloc (.cells #[.string s, .string t] ty)) (some ⟨B, 0, none⟩) (cellsS [s, t]) := by
  have hb : Box (w.alloc (.cells #[.string s, .string t] ty)) B [.string s, .string t] := Box.new hB
  refine .inr ⟨B, 0, rfl, fun j hj => ?_⟩
  have hj4 : j < 2 := hj
  rw [Nat.zero_add]
  match j, hj4 with
  | 0, _ => exact (hb 0 _ rfl).1
  | 1, _ => exact (hb 1 _ rfl).1
theorem ask_zero2 {L : List PM} {x y : ByteArray} (h : askM L [x, y] = 0) : storeB L = true ∧ shortB x = true ∧ shortB y = true := by
  unfold askM at h
  split at h
  · cases h
  · split at h
    · cases h
    · rename_i h1
      split at h
      · cases h
      · rename_i h2
        refine ⟨by simpa using h1, ?_⟩
        simpa using h2
def lawM2 (A : List PM × Int) (k : Int) : List PM × Int := if k = 0 then A else ([], k)
theorem store_src {L : List PM} {w : World} {a : Option Addr} (h : storeB L = true) (hs : Src w a (cellsP L)) : ∃ b o, a = some ⟨b, o, none⟩ := by
  obtain ⟨hg, nx0, hnm, n1, n2, _, _, _⟩ := store_facts h
  have hne : L ≠ [] := fun e => by
    rw [hnm, e] at n1
    have h9 : nextM [] = 0 := rfl
    omega
  rcases hs with hs | ⟨b, o, rfl, _⟩
  · have h9 := cellsP_length L
    rw [hs] at h9
    have : L.length = 0 := by simp at h9; omega
    exact absurd (List.eq_nil_of_length_eq_zero this) hne
  · exact ⟨b, o, rfl⟩
end Go.Proofs.YtddnecljdecamaaGreatDoor
namespace Go.Proofs.YtddnecljdecamaaGreatDoor
open Go.ChangeShapes Go.WideShapes Go.ChangeAt Go.RowKit Go.Deep Go.Lib
set_option linter.unusedVariables false
set_option linter.unusedSimpArgs false
set_option maxRecDepth 100000

end Go.Proofs.YtddnecljdecamaaGreatDoor
