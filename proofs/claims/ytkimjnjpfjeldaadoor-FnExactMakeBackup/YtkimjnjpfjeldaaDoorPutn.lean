
/-
  Both PairPut and both PairDrop of any slice of pairs. By an AI agent.
-/
import Derived.Test.YtkimjnjpfjeldaaDoorDroph
namespace Go.Proofs.YtkimjnjpfjeldaaDoor
open Go.ChangeShapes Go.WideShapes Go.ChangeAt Go.RowKit Go.Deep
set_option linter.unusedVariables false
set_option maxRecDepth 100000

theorem src_sp {w : World} {a : Option Addr} {n : Nat} {f g : Nat → ByteArray} (h : Sp w a n f g) : Src w a (cellsP (listP f g n)) := by
  rcases h with h | ⟨b, o, rfl, hc⟩
  · subst h
    exact .inl rfl
  · refine .inr ⟨b, o, rfl, fun j hj => ?_⟩
    rw [cellsP_length, listP_length] at hj
    obtain ⟨c1, c2⟩ := cellsP_get (listP f g n) (j / 2) (by rw [listP_length]; omega)
    obtain ⟨h1, h2⟩ := hc (j / 2) (by omega)
    rw [listP_get f g n _ (by omega)] at c1 c2
    by_cases e : j % 2 = 0
    · rw [show j / 2 * 2 = j from by omega] at c1 h1
      rw [h1, getD_some c1]
    · rw [show j / 2 * 2 + 1 = j from by omega] at c2
      rw [show o + j / 2 * 2 + 1 = o + j from by omega] at h2
      rw [h2, getD_some c2]
theorem sp_of {w : World} {a : Option Addr} {L : List PM} {n : Nat} (h : Src w a (cellsP L)) (hn : L.length = n) : Sp w a n (fstL L) (sndL L) := by
  subst hn
  rcases h with h | ⟨b, o, rfl, hc⟩
  · refine .inl ?_
    have h2 := cellsP_length L
    rw [h] at h2
    simp only [List.length_nil] at h2
    omega
  · refine .inr ⟨b, o, rfl, fun i hi => ?_⟩
    obtain ⟨c1, c2⟩ := cellsP_get L i hi
    have h1 := hc (i * 2) (by rw [cellsP_length]; omega)
    have h2 := hc (i * 2 + 1) (by rw [cellsP_length]; omega)
    rw [getD_some c1] at h1
    rw [getD_some c2] at h2
    exact ⟨h1, h2⟩
theorem src_two {w : World} {x y : ByteArray} {B : Nat} (hB : B = w.heap.size) : Src (w.alloc (.cells #[.string x, .string y] 43)) (some ⟨B, 0, none⟩) (cellsP [(x, y)]) := by
  have hb : Box (w.alloc (.cells #[.string x, .string y] 43)) B [.string x, .string y] := Box.new hB
  refine .inr ⟨B, 0, rfl, fun j hj => ?_⟩
  have hj2 : j < 2 := hj
  rw [Nat.zero_add]
  match j, hj2 with
  | 0, _ => exact (hb 0 _ rfl).1
  | 1, _ => exact (hb 1 _ rfl).1
theorem OwnsP.row {w : World} {base : Nat} {v : Value} {L : List PM} {n : Nat} (h : OwnsP w base v L) (hn : L.length = n) : w.ownsRow base 43 2 v n (cellsP L) := by subst hn; exact h
theorem OwnsP.of {w : World} {base : Nat} {v : Value} {L : List PM} {n : Nat} (hn : L.length = n) (h : w.ownsRow base 43 2 v n (cellsP L)) : OwnsP w base v L := by subst hn; exact h

end Go.Proofs.YtkimjnjpfjeldaaDoor
