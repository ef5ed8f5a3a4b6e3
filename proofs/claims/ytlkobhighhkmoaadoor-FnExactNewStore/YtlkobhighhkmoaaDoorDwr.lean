
/-
  Contracts of both DiskWrite. By an AI agent.
-/
import Derived.Test.YtlkobhighhkmoaaDoorDowns
namespace Go.Proofs.YtlkobhighhkmoaaDoor
open Go.ChangeShapes Go.WideShapes Go.ChangeAt Go.RowKit Go.Deep
set_option linter.unusedVariables false

theorem OwnsD.rows {w : World} {lo hi : Nat} {x1 x2 x3 : Value} {A : Bool} {D : DM} (h : OwnsD w lo hi (.agg #[x1, x2, .bool A, x3]) D) : D.A = A ∧ w.ownsRow lo 9 1 x1 D.S.length (cellsS D.S) ∧ w.ownsRow lo 115 2 x2 D.C.length (cellsQ D.C) ∧ w.ownsRow lo 3 1 x3 D.K.length (cellsI D.K) := by
  obtain ⟨u1, u2, u3, e, ⟨h1, _⟩, ⟨h2, _⟩, h3, _⟩ := h
  simp at e
  obtain ⟨rfl, rfl, rfl, rfl⟩ := e
  exact ⟨rfl, h1, h2, h3⟩
def moreC (D : DM) (p : Int × ByteArray) : DM := ⟨D.S, D.C ++ [p], D.A, D.K⟩
/-- What DiskWrite answers. -/
def dwrite (D : DM) (x : Int) (y : ByteArray) : DM × Int :=
  if 65536 < y.size then (DM.none, 2) else if okD D then (if okW D.S.length (x, y) then (if D.C.length = 500 then (D, 7) else (moreC D (x, y), 0)) else (DM.none, 4)) else (DM.none, 1)
theorem dw_long {D : DM} {x : Int} {y : ByteArray} (h : 65536 < y.size) : dwrite D x y = (DM.none, 2) := by unfold dwrite; rw [if_pos h]
theorem dw_bad {D : DM} {x : Int} {y : ByteArray} (h : ¬ 65536 < y.size) (h1 : ¬ okD D) : dwrite D x y = (DM.none, 1) := by unfold dwrite; rw [if_neg h, if_neg h1]
theorem dw_range {D : DM} {x : Int} {y : ByteArray} (h : ¬ 65536 < y.size) (h1 : okD D) (h2 : ¬ okW D.S.length (x, y)) : dwrite D x y = (DM.none, 4) := by unfold dwrite; rw [if_neg h, if_pos h1, if_neg h2]
theorem dw_full {D : DM} {x : Int} {y : ByteArray} (h : ¬ 65536 < y.size) (h1 : okD D) (h2 : okW D.S.length (x, y)) (h3 : D.C.length = 500) : dwrite D x y = (D, 7) := by unfold dwrite; rw [if_neg h, if_pos h1, if_pos h2, if_pos h3]
theorem dw_ok {D : DM} {x : Int} {y : ByteArray} (h : ¬ 65536 < y.size) (h1 : okD D) (h2 : okW D.S.length (x, y)) (h3 : ¬ D.C.length = 500) : dwrite D x y = (moreC D (x, y), 0) := by unfold dwrite; rw [if_neg h, if_pos h1, if_pos h2, if_neg h3]
theorem small_more {D : DM} {x : Int} {y : ByteArray} (hs : smallD D) (hy : y.size ≤ 1048576) (hc : D.C.length ≤ 500) : smallD (moreC D (x, y)) := by
  refine ⟨hs.1, ⟨by simp [moreC]; omega, fun z hz => ?_⟩, hs.2.2⟩
  rcases List.mem_append.1 hz with h | h
  · exact hs.2.1.2 z h
  · rw [List.mem_singleton] at h; rw [h]; exact hy
theorem small_none : smallD DM.none := ⟨⟨by decide, fun x hx => by cases hx⟩, ⟨by decide, fun x hx => by cases hx⟩, by decide⟩
theorem dw_small {D R : DM} {x c : Int} {y : ByteArray} (hs : smallD D) (hy : y.size ≤ 1048576) (h : dwrite D x y = (R, c)) : smallD R := by
  unfold dwrite at h
  split at h
  · cases h; exact small_none
  · split at h
    · rename_i hok
      split at h
      · split at h
        · cases h; exact hs
        · cases h; exact small_more hs hy hok.2.1.1
      · cases h; exact small_none
    · cases h; exact small_none
theorem src_one {w : World} {x : Int} {y : ByteArray} {B t : Nat} (hB : B = w.heap.size) : Src (w.alloc (.cells #[.int .i64 x, .string y] t)) (some ⟨B, 0, none⟩) (cellsQ [(x, y)]) := by
  subst hB
  refine .inr ⟨_, 0, rfl, fun j hj => ?_⟩
  have hb := Box.new (w := w) (B := w.heap.size) (vs := #[.int .i64 x, .string y]) (t := t) rfl
  have hj' : j < 2 := hj
  rw [Nat.zero_add]
  match j, hj' with
  | 0, _ => exact (hb 0 _ rfl).1
  | 1, _ => exact (hb 1 _ rfl).1

end Go.Proofs.YtlkobhighhkmoaaDoor
