
/-
  Contracts of the helpers on nodes: sizes, copies, comparisons. By an AI agent.
-/
import Derived.Test.YtlkobhighhkmoaaDoorBoxes
import Derived.Test.YtlkobhighhkmoaaDoorListsp
namespace Go.Proofs.YtlkobhighhkmoaaDoor
open Go.ChangeShapes Go.WideShapes Go.ChangeAt Go.RowKit Go.Deep
set_option linter.unusedVariables false

/-- A node: whether it is a leaf, its pairs, the least keys, the kids. -/
structure NM where
  A : Bool
  P : List PM
  L : List ByteArray
  K : List Int
abbrev nm0 : NM := ⟨false, [], [], []⟩
/-- v reads as D. -/
def ReadsN (w : World) (v : Value) (D : NM) : Prop :=
  ∃ a1 c1 a2 c2 a3 c3, v = .agg #[.bool D.A, .slice a1 D.P.length c1, .slice a2 D.L.length c2, .slice a3 D.K.length c3] ∧ Src w a1 (cellsP D.P) ∧ Src w a2 (cellsS D.L) ∧ Src w a3 (cellsI D.K)
theorem ReadsN.below {w w' : World} {v : Value} {D : NM} (h : ReadsN w v D) (hb : Below w.heap.size w w') : ReadsN w' v D := by
  obtain ⟨a1, c1, a2, c2, a3, c3, rfl, h1, h2, h3⟩ := h
  exact ⟨a1, c1, a2, c2, a3, c3, rfl, h1.below hb, h2.below hb, h3.below hb⟩
theorem ReadsN.drew {w : World} {v : Value} {D : NM} (h : ReadsN w v D) : ReadsN w.drew v D := h
/-- v owns D, in blocks from lo up to hi. -/
def OwnsN (w : World) (lo hi : Nat) (v : Value) (D : NM) : Prop :=
  ∃ v1 v2 v3, v = .agg #[.bool D.A, v1, v2, v3] ∧ (w.ownsRow lo 132 2 v1 D.P.length (cellsP D.P) ∧ ∀ k, v1.ownBlock = some k → k < hi) ∧ (w.ownsRow lo 9 1 v2 D.L.length (cellsS D.L) ∧ ∀ k, v2.ownBlock = some k → k < hi) ∧ (w.ownsRow lo 3 1 v3 D.K.length (cellsI D.K) ∧ ∀ k, v3.ownBlock = some k → k < hi)
theorem OwnsN.mk {w : World} {lo hi : Nat} {v1 v2 v3 : Value} {A : Bool} {D : NM} (hA : D.A = A) (h1 : w.ownsRow lo 132 2 v1 D.P.length (cellsP D.P)) (h2 : w.ownsRow lo 9 1 v2 D.L.length (cellsS D.L)) (h3 : w.ownsRow lo 3 1 v3 D.K.length (cellsI D.K)) (hh : w.heap.size ≤ hi) : OwnsN w lo hi (.agg #[.bool A, v1, v2, v3]) D :=
  ⟨v1, v2, v3, by rw [hA], ⟨h1, fun k e => by have := (h1.lt k e).2; omega⟩, ⟨h2, fun k e => by have := (h2.lt k e).2; omega⟩, h3, fun k e => by have := (h3.lt k e).2; omega⟩
theorem OwnsN.reads {w : World} {lo hi : Nat} {v : Value} {D : NM} (h : OwnsN w lo hi v D) : ReadsN w v D := by
  obtain ⟨v1, v2, v3, rfl, ⟨h1, _⟩, ⟨h2, _⟩, h3, _⟩ := h
  obtain ⟨a1, c1, rfl, s1, _⟩ := own_src h1
  obtain ⟨a2, c2, rfl, s2, _⟩ := own_src h2
  obtain ⟨a3, c3, rfl, s3, _⟩ := own_src h3
  exact ⟨a1, c1, a2, c2, a3, c3, rfl, s1, s2, s3⟩
theorem OwnsN.below {w w' : World} {lo hi : Nat} {v : Value} {D : NM} (h : OwnsN w lo hi v D) (hb : Below w.heap.size w w') : OwnsN w' lo hi v D := by
  obtain ⟨v1, v2, v3, rfl, ⟨h1, k1⟩, ⟨h2, k2⟩, h3, k3⟩ := h
  exact ⟨v1, v2, v3, rfl, ⟨own_below h1 hb, k1⟩, ⟨own_below h2 hb, k2⟩, own_below h3 hb, k3⟩
theorem OwnsN.turned {w w' : World} {lo hi lo' hi' : Nat} {v : Value} {D : NM} (h : OwnsN w lo hi v D) (ht : Turned lo' hi' w w') (hd : hi ≤ lo' ∨ hi' ≤ lo) : OwnsN w' lo hi v D := by
  obtain ⟨v1, v2, v3, rfl, ⟨h1, k1⟩, ⟨h2, k2⟩, h3, k3⟩ := h
  exact ⟨v1, v2, v3, rfl, ⟨own_turned h1 ht k1 hd, k1⟩, ⟨own_turned h2 ht k2 hd, k2⟩, own_turned h3 ht k3 hd, k3⟩
theorem OwnsN.mono {w : World} {lo hi lo' hi' : Nat} {v : Value} {D : NM} (h : OwnsN w lo hi v D) (hl : lo' ≤ lo) (hh : hi ≤ hi') : OwnsN w lo' hi' v D := by
  obtain ⟨v1, v2, v3, rfl, ⟨h1, k1⟩, ⟨h2, k2⟩, h3, k3⟩ := h
  exact ⟨v1, v2, v3, rfl, ⟨own_mono h1 hl, fun k e => Nat.lt_of_lt_of_le (k1 k e) hh⟩, ⟨own_mono h2 hl, fun k e => Nat.lt_of_lt_of_le (k2 k e) hh⟩, own_mono h3 hl, fun k e => Nat.lt_of_lt_of_le (k3 k e) hh⟩
theorem OwnsN.drew {w : World} {lo hi : Nat} {v : Value} {D : NM} (h : OwnsN w lo hi v D) : OwnsN w.drew lo hi v D := h
theorem OwnsN.lit {w : World} {lo hi : Nat} {v : Value} {D : NM} (h : OwnsN w lo hi v D) : ∃ a1 c1 a2 c2 a3 c3, v = .agg #[.bool D.A, .slice a1 D.P.length c1, .slice a2 D.L.length c2, .slice a3 D.K.length c3] := by
  obtain ⟨a1, c1, a2, c2, a3, c3, e, _⟩ := h.reads
  exact ⟨a1, c1, a2, c2, a3, c3, e⟩
/-- What the parts of a node weigh together. -/
def wtN (D : NM) : Nat := D.P.length + D.L.length + D.K.length
def smallN (D : NM) : Prop := wtN D ≤ 1048576 ∧ (∀ x ∈ D.P, x.1.size ≤ 1048576 ∧ x.2.size ≤ 1048576) ∧ (∀ x ∈ D.L, x.size ≤ 1048576)
def maxN (D : NM) : Prop := D.P.length ≤ maxLen ∧ (∀ x ∈ D.P, x.1.size ≤ maxLen ∧ x.2.size ≤ maxLen) ∧ D.L.length ≤ maxLen ∧ (∀ x ∈ D.L, x.size ≤ maxLen) ∧ D.K.length ≤ maxLen

set_option maxHeartbeats 1000000 in
theorem eqNode (v v' : Value) (D : NM) (w : World) (hs : wtN D ≤ 9000000000000000000) (h : ReadsN w v D) (h' : ReadsN w v' D) :
    Calls Tryd.prog 89 #[v, v'] w fun e w' => e = .returned (.bool true) ∧ Below w.heap.size w w' := by
  obtain ⟨a1, c1, a2, c2, a3, c3, rfl, s1, s2, s3⟩ := h
  obtain ⟨b1, d1, b2, d2, b3, d3, rfl, t1, t2, t3⟩ := h'
  have HS : Hid (wtN D ≤ 9000000000000000000) := hs
  have S1 : Hid (Src w a1 (cellsP D.P) ∧ Src w b1 (cellsP D.P)) := ⟨s1, t1⟩
  have S2 : Hid (Src w a2 (cellsS D.L) ∧ Src w b2 (cellsS D.L)) := ⟨s2, t2⟩
  have S3 : Hid (Src w a3 (cellsI D.K) ∧ Src w b3 (cellsI D.K)) := ⟨s3, t3⟩
  obtain ⟨n1, hn1⟩ : ∃ n, D.P.length = n := ⟨_, rfl⟩
  obtain ⟨n2, hn2⟩ : ∃ n, D.L.length = n := ⟨_, rfl⟩
  obtain ⟨n3, hn3⟩ : ∃ n, D.K.length = n := ⟨_, rfl⟩
  obtain ⟨A, hA⟩ : ∃ A, D.A = A := ⟨_, rfl⟩
  rw [hn1, hn2, hn3, hA]
  have N1 : Hid (D.P.length = n1) := hn1
  have N2 : Hid (D.L.length = n2) := hn2
  have N3 : Hid (D.K.length = n3) := hn3
  have NS : Hid (n1 ≤ 9000000000000000000 ∧ n2 ≤ 9000000000000000000 ∧ n3 ≤ 9000000000000000000) := by
    have h1 := HS.out
    unfold wtN at h1
    rw [hn1, hn2, hn3] at h1
    exact ⟨by omega, by omega, by omega⟩
  have hAA : (A != A) = false := by simp
  clear hs s1 s2 s3 hn1 hn2 hn3 hA t1 t2 t3
  go_enter Tryd.func89, Tryd.ntmps89
  go_wp2_with fail
  refine (eqPairS a1 b1 n1 c1 d1 D.P _ N1.out NS.out.1 (S1.out.1.below (((Below.refl _ _).alloc (Nat.le_refl _) _).alloc (by simp) _)) (S1.out.2.below (((Below.refl _ _).alloc (Nat.le_refl _) _).alloc (by simp) _))).mono ?_
  rintro e w1 ⟨rfl, hb1⟩
  have B1 : Hid (Below w.heap.size w w1) := (((Below.refl _ _).alloc (Nat.le_refl _) _).alloc (by simp) _).trans (hb1.mono (by simp; omega))
  have HA : Hid (Box w1 w.heap.size [.bool A, .slice a1 n1 c1, .slice a2 n2 c2, .slice a3 n3 c3]) := Box.below ((Box.new rfl).old _) hb1
  have HB : Hid (Box w1 (w.heap.size + 1) [.bool A, .slice b1 n1 d1, .slice b2 n2 d2, .slice b3 n3 d3]) := Box.below (Box.new (by simp)) hb1
  clear hb1
  obtain ⟨p2, _⟩ := HA.out 2 _ rfl
  obtain ⟨q2, _⟩ := HB.out 2 _ rfl
  go_wp2_with fail
  refine (eqStringS a2 b2 n2 c2 d2 D.L _ N2.out NS.out.2.1 (S2.out.1.below B1.out) (S2.out.2.below B1.out)).mono ?_
  rintro e w2 ⟨rfl, hb2⟩
  have B2 : Hid (Below w.heap.size w w2) := B1.out.trans (hb2.mono B1.out.size)
  have HA2 : Hid (Box w2 w.heap.size [.bool A, .slice a1 n1 c1, .slice a2 n2 c2, .slice a3 n3 c3]) := HA.out.below hb2
  have HB2 : Hid (Box w2 (w.heap.size + 1) [.bool A, .slice b1 n1 d1, .slice b2 n2 d2, .slice b3 n3 d3]) := HB.out.below hb2
  clear hb2 HA HB B1 p2 q2
  obtain ⟨p3, _⟩ := HA2.out 3 _ rfl
  obtain ⟨q3, _⟩ := HB2.out 3 _ rfl
  go_wp2_with fail
  refine (eqIntS a3 b3 n3 c3 d3 D.K _ N3.out NS.out.2.2 (S3.out.1.below B2.out) (S3.out.2.below B2.out)).mono ?_
  rintro e w3 ⟨rfl, hb3⟩
  have B3 : Hid (Below w.heap.size w w3) := B2.out.trans (hb3.mono B2.out.size)
  clear hb3 p3 q3
  go_wp2_with fail
  go_ret
  exact ⟨rfl, B3.out⟩
end Go.Proofs.YtlkobhighhkmoaaDoor
