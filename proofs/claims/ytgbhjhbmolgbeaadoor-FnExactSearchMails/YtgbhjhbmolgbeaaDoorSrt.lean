
/-
  SearchMails of both sides, as the law's walk takes them. By an AI agent.
-/
import Derived.Test.YtgbhjhbmolgbeaaDoorSrs
import Derived.Test.YtgbhjhbmolgbeaaDoorMlargs
namespace Go.Proofs.YtgbhjhbmolgbeaaDoor
open Go.RowKit
set_option linter.unusedVariables false
theorem specSearchC (a : Option Addr) (n c : Nat) (L : List MMl) (nm wd : ByteArray) (w : World) (hL : L.length = n) (hn : n ≤ 1048576) (hs : ∀ x ∈ L, x.2.2.size ≤ 1048576) (hnm : nm.size ≤ 1048576) (hwd : wd.size ≤ 1048576) (h : Src w a (cellsMl L)) :
    Calls Tryd.prog 17 #[.slice a n c, .string nm, .string wd] w fun e w' => ∃ v R q, e = .returned (.tuple #[v, .int .i64 q]) ∧ srchA L nm wd = (R, q) ∧ w'.ownsRow w.heap.size 3 1 v R.length (cellsI R) ∧ Below w.heap.size w w' := by
  refine (specSearchMails a n c L nm wd w hL hn hs hnm hwd h).mono ?_
  rintro e w' ⟨v, rfl, o, _, b⟩
  exact ⟨v, _, _, rfl, rfl, o, b⟩
theorem implSearchC (a : Option Addr) (n c : Nat) (L : List MMl) (nm wd : ByteArray) (w : World) (hL : L.length = n) (hn : n ≤ 1048576) (hs : ∀ x ∈ L, x.2.2.size ≤ 1048576) (hnm : nm.size ≤ 1048576) (hwd : wd.size ≤ 1048576) (hm : MaxAt w) (h : Src w a (cellsMl L)) :
    Calls Tryd.prog 16 #[.slice a n c, .string nm, .string wd] w fun e w' => ∃ v R q, e = .returned (.tuple #[v, .int .i64 q]) ∧ srchA L nm wd = (R, q) ∧ w'.ownsRow w.heap.size 3 1 v R.length (cellsI R) ∧ Below w.heap.size w w' := by
  refine (implSearchMails a n c L nm wd w hL hn hs hnm hwd hm h).mono ?_
  rintro e w' ⟨v, rfl, o, _, b⟩
  exact ⟨v, _, _, rfl, rfl, o, b⟩
theorem srchA_small {L : List MMl} {nm wd : ByteArray} {R : List Int} {q : Int} (h : srchA L nm wd = (R, q)) : R.length ≤ 1048576 := by
  unfold srchA at h
  split at h
  · cases h; simp
  · split at h
    · cases h; simp
    · split at h
      · cases h; simp
      · cases h
        rw [List.length_map]
        exact Nat.le_trans (List.length_filter_le _ _) (by omega)
end Go.Proofs.YtgbhjhbmolgbeaaDoor
