
/-
  Contracts of the helpers on disks: sizes, copies, comparisons, marks. By an AI agent.
-/
import Derived.Test.YtpbodiaglgkkkaaLists3
import Derived.Test.YtpbodiaglgkkkaaDm
namespace Go.Proofs.Ytpbodiaglgkkkaa
open Go.ChangeShapes Go.WideShapes Go.ChangeAt Go.RowKit Go.Deep
set_option linter.unusedVariables false

/-- v reads as D. -/
def ReadsD (w : World) (v : Value) (D : DM) : Prop :=
  ∃ a1 c1 a2 c2 a3 c3, v = .agg #[.slice a1 D.S.length c1, .slice a2 D.C.length c2, .bool D.A, .slice a3 D.K.length c3] ∧ Src w a1 (cellsS D.S) ∧ Src w a2 (cellsQ D.C) ∧ Src w a3 (cellsI D.K)
theorem ReadsD.below {w w' : World} {v : Value} {D : DM} (h : ReadsD w v D) (hb : Below w.heap.size w w') : ReadsD w' v D := by
  obtain ⟨a1, c1, a2, c2, a3, c3, rfl, h1, h2, h3⟩ := h
  exact ⟨a1, c1, a2, c2, a3, c3, rfl, h1.below hb, h2.below hb, h3.below hb⟩
/-- v owns D, in blocks from lo up to hi. -/
def OwnsD (w : World) (lo hi : Nat) (v : Value) (D : DM) : Prop :=
  ∃ v1 v2 v3, v = .agg #[v1, v2, .bool D.A, v3] ∧ (w.ownsRow lo 9 1 v1 D.S.length (cellsS D.S) ∧ ∀ k, v1.ownBlock = some k → k < hi) ∧ (w.ownsRow lo 47 2 v2 D.C.length (cellsQ D.C) ∧ ∀ k, v2.ownBlock = some k → k < hi) ∧ (w.ownsRow lo 3 1 v3 D.K.length (cellsI D.K) ∧ ∀ k, v3.ownBlock = some k → k < hi)
theorem OwnsD.mk {w : World} {lo hi : Nat} {v1 v2 v3 : Value} {A : Bool} {D : DM} (hA : D.A = A) (h1 : w.ownsRow lo 9 1 v1 D.S.length (cellsS D.S)) (h2 : w.ownsRow lo 47 2 v2 D.C.length (cellsQ D.C)) (h3 : w.ownsRow lo 3 1 v3 D.K.length (cellsI D.K)) (hh : w.heap.size ≤ hi) : OwnsD w lo hi (.agg #[v1, v2, .bool A, v3]) D :=
  ⟨v1, v2, v3, by rw [hA], ⟨h1, fun k e => by have := (h1.lt k e).2; omega⟩, ⟨h2, fun k e => by have := (h2.lt k e).2; omega⟩, h3, fun k e => by have := (h3.lt k e).2; omega⟩
theorem OwnsD.reads {w : World} {lo hi : Nat} {v : Value} {D : DM} (h : OwnsD w lo hi v D) : ReadsD w v D := by
  obtain ⟨v1, v2, v3, rfl, ⟨h1, _⟩, ⟨h2, _⟩, h3, _⟩ := h
  obtain ⟨a1, c1, rfl, s1, _⟩ := own_src h1
  obtain ⟨a2, c2, rfl, s2, _⟩ := own_src h2
  obtain ⟨a3, c3, rfl, s3, _⟩ := own_src h3
  exact ⟨a1, c1, a2, c2, a3, c3, rfl, s1, s2, s3⟩
theorem OwnsD.below {w w' : World} {lo hi : Nat} {v : Value} {D : DM} (h : OwnsD w lo hi v D) (hb : Below w.heap.size w w') : OwnsD w' lo hi v D := by
  obtain ⟨v1, v2, v3, rfl, ⟨h1, k1⟩, ⟨h2, k2⟩, h3, k3⟩ := h
  exact ⟨v1, v2, v3, rfl, ⟨own_below h1 hb, k1⟩, ⟨own_below h2 hb, k2⟩, own_below h3 hb, k3⟩
theorem OwnsD.turned {w w' : World} {lo hi lo' hi' : Nat} {v : Value} {D : DM} (h : OwnsD w lo hi v D) (ht : Turned lo' hi' w w') (hd : hi ≤ lo' ∨ hi' ≤ lo) : OwnsD w' lo hi v D := by
  obtain ⟨v1, v2, v3, rfl, ⟨h1, k1⟩, ⟨h2, k2⟩, h3, k3⟩ := h
  exact ⟨v1, v2, v3, rfl, ⟨own_turned h1 ht k1 hd, k1⟩, ⟨own_turned h2 ht k2 hd, k2⟩, own_turned h3 ht k3 hd, k3⟩
/-- What is small enough to be handled. -/
def smallD (D : DM) : Prop := (D.S.length ≤ 1048576 ∧ ∀ x ∈ D.S, x.size ≤ 1048576) ∧ (D.C.length ≤ 1048576 ∧ ∀ x ∈ D.C, x.2.size ≤ 1048576) ∧ D.K.length ≤ 1048576

def markedD (D : DM) (k : Nat) : DM := ⟨mkS k D.S.length, mkQ (k + D.S.length) D.C.length, D.A, mkI (k + D.S.length + D.C.length * 2) D.K.length⟩
def endD (D : DM) (k : Nat) : Nat := k + D.S.length + D.C.length * 2 + D.K.length

end Go.Proofs.Ytpbodiaglgkkkaa
