
/-
  Contracts of the helpers on nodes: sizes, copies, comparisons. By an AI agent.
-/
import Derived.Test.YtmbndpgoihdpnaaDoorBoxes
import Derived.Test.YtmbndpgoihdpnaaDoorListsp
namespace Go.Proofs.YtmbndpgoihdpnaaDoor
open Go.ChangeShapes Go.WideShapes Go.ChangeAt Go.RowKit Go.Deep
set_option linter.unusedVariables false

/-- A node: whether it is a leaf, its pairs, the least keys, the kids. -/
structure NM where
  A : Bool
  P : List PM
  L : List ByteArray
  K : List Int
abbrev nm0 : NM := ⟨false, [], [], []⟩
/-- v reads as D. -/
def ReadsN (w : World) (v : Value) (D : NM) : Prop :=
  ∃ a1 c1 a2 c2 a3 c3, v = .agg #[.bool D.A, .slice a1 D.P.length c1, .slice a2 D.L.length c2, .slice a3 D.K.length c3] ∧ Src w a1 (cellsP D.P) ∧ Src w a2 (cellsS D.L) ∧ Src w a3 (cellsI D.K)
theorem ReadsN.below {w w' : World} {v : Value} {D : NM} (h : ReadsN w v D) (hb : Below w.heap.size w w') : ReadsN w' v D := by
  obtain ⟨a1, c1, a2, c2, a3, c3, rfl, h1, h2, h3⟩ := h
  exact ⟨a1, c1, a2, c2, a3, c3, rfl, h1.below hb, h2.below hb, h3.below hb⟩
theorem ReadsN.drew {w : World} {v : Value} {D : NM} (h : ReadsN w v D) : ReadsN w.drew v D := h
/-- v owns D, in blocks from lo up to hi. -/
def OwnsN (w : World) (lo hi : Nat) (v : Value) (D : NM) : Prop :=
  ∃ v1 v2 v3, v = .agg #[.bool D.A, v1, v2, v3] ∧ (w.ownsRow lo 169 2 v1 D.P.length (cellsP D.P) ∧ ∀ k, v1.ownBlock = some k → k < hi) ∧ (w.ownsRow lo 9 1 v2 D.L.length (cellsS D.L) ∧ ∀ k, v2.ownBlock = some k → k < hi) ∧ (w.ownsRow lo 3 1 v3 D.K.length (cellsI D.K) ∧ ∀ k, v3.ownBlock = some k → k < hi)
theorem OwnsN.mk {w : World} {lo hi : Nat} {v1 v2 v3 : Value} {A : Bool} {D : NM} (hA : D.A = A) (h1 : w.ownsRow lo 169 2 v1 D.P.length (cellsP D.P)) (h2 : w.ownsRow lo 9 1 v2 D.L.length (cellsS D.L)) (h3 : w.ownsRow lo 3 1 v3 D.K.length (cellsI D.K)) (hh : w.heap.size ≤ hi) : OwnsN w lo hi (.agg #[.bool A, v1, v2, v3]) D :=
  ⟨v1, v2, v3, by rw [hA], ⟨h1, fun k e => by have := (h1.lt k e).2; omega⟩, ⟨h2, fun k e => by have := (h2.lt k e).2; omega⟩, h3, fun k e => by have := (h3.lt k e).2; omega⟩
theorem OwnsN.reads {w : World} {lo hi : Nat} {v : Value} {D : NM} (h : OwnsN w lo hi v D) : ReadsN w v D := by
  obtain ⟨v1, v2, v3, rfl, ⟨h1, _⟩, ⟨h2, _⟩, h3, _⟩ := h
  obtain ⟨a1, c1, rfl, s1, _⟩ := own_src h1
  obtain ⟨a2, c2, rfl, s2, _⟩ := own_src h2
  obtain ⟨a3, c3, rfl, s3, _⟩ := own_src h3
  exact ⟨a1, c1, a2, c2, a3, c3, rfl, s1, s2, s3⟩
theorem OwnsN.below {w w' : World} {lo hi : Nat} {v : Value} {D : NM} (h : OwnsN w lo hi v D) (hb : Below w.heap.size w w') : OwnsN w' lo hi v D := by
  obtain ⟨v1, v2, v3, rfl, ⟨h1, k1⟩, ⟨h2, k2⟩, h3, k3⟩ := h
  exact ⟨v1, v2, v3, rfl, ⟨own_below h1 hb, k1⟩, ⟨own_below h2 hb, k2⟩, own_below h3 hb, k3⟩
theorem OwnsN.turned {w w' : World} {lo hi lo' hi' : Nat} {v : Value} {D : NM} (h : OwnsN w lo hi v D) (ht : Turned lo' hi' w w') (hd : hi ≤ lo' ∨ hi' ≤ lo) : OwnsN w' lo hi v D := by
  obtain ⟨v1, v2, v3, rfl, ⟨h1, k1⟩, ⟨h2, k2⟩, h3, k3⟩ := h
  exact ⟨v1, v2, v3, rfl, ⟨own_turned h1 ht k1 hd, k1⟩, ⟨own_turned h2 ht k2 hd, k2⟩, own_turned h3 ht k3 hd, k3⟩
theorem OwnsN.mono {w : World} {lo hi lo' hi' : Nat} {v : Value} {D : NM} (h : OwnsN w lo hi v D) (hl : lo' ≤ lo) (hh : hi ≤ hi') : OwnsN w lo' hi' v D := by
  obtain ⟨v1, v2, v3, rfl, ⟨h1, k1⟩, ⟨h2, k2⟩, h3, k3⟩ := h
  exact ⟨v1, v2, v3, rfl, ⟨own_mono h1 hl, fun k e => Nat.lt_of_lt_of_le (k1 k e) hh⟩, ⟨own_mono h2 hl, fun k e => Nat.lt_of_lt_of_le (k2 k e) hh⟩, own_mono h3 hl, fun k e => Nat.lt_of_lt_of_le (k3 k e) hh⟩
theorem OwnsN.drew {w : World} {lo hi : Nat} {v : Value} {D : NM} (h : OwnsN w lo hi v D) : OwnsN w.drew lo hi v D := h
theorem OwnsN.lit {w : World} {lo hi : Nat} {v : Value} {D : NM} (h : OwnsN w lo hi v D) : ∃ a1 c1 a2 c2 a3 c3, v = .agg #[.bool D.A, .slice a1 D.P.length c1, .slice a2 D.L.length c2, .slice a3 D.K.length c3] := by
  obtain ⟨a1, c1, a2, c2, a3, c3, e, _⟩ := h.reads
  exact ⟨a1, c1, a2, c2, a3, c3, e⟩
/-- What the parts of a node weigh together. -/
def wtN (D : NM) : Nat := D.P.length + D.L.length + D.K.length
def smallN (D : NM) : Prop := wtN D ≤ 1048576 ∧ (∀ x ∈ D.P, x.1.size ≤ 1048576 ∧ x.2.size ≤ 1048576) ∧ (∀ x ∈ D.L, x.size ≤ 1048576)
def maxN (D : NM) : Prop := D.P.length ≤ maxLen ∧ (∀ x ∈ D.P, x.1.size ≤ maxLen ∧ x.2.size ≤ maxLen) ∧ D.L.length ≤ maxLen ∧ (∀ x ∈ D.L, x.size ≤ maxLen) ∧ D.K.length ≤ maxLen

end Go.Proofs.YtmbndpgoihdpnaaDoor
