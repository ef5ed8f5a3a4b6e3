
/-
  Contracts of the helpers on nodes: sizes, copies, comparisons. By an AI agent.
-/
import Derived.Test.YtnejklppbjkekaaDoorBoxes
import Derived.Test.YtnejklppbjkekaaDoorListsp
namespace Go.Proofs.YtnejklppbjkekaaDoor
open Go.ChangeShapes Go.WideShapes Go.ChangeAt Go.RowKit Go.Deep
set_option linter.unusedVariables false

/-- A node: whether it is a leaf, its pairs, the least keys, the kids. -/
structure NM where
  A : Bool
  P : List PM
  L : List ByteArray
  K : List Int
abbrev nm0 : NM := ⟨false, [], [], []⟩
/-- v reads as D. -/
def ReadsN (w : World) (v : Value) (D : NM) : Prop :=
  ∃ a1 c1 a2 c2 a3 c3, v = .agg #[.bool D.A, .slice a1 D.P.length c1, .slice a2 D.L.length c2, .slice a3 D.K.length c3] ∧ Src w a1 (cellsP D.P) ∧ Src w a2 (cellsS D.L) ∧ Src w a3 (cellsI D.K)
theorem ReadsN.below {w w' : World} {v : Value} {D : NM} (h : ReadsN w v D) (hb : Below w.heap.size w w') : ReadsN w' v D := by
  obtain ⟨a1, c1, a2, c2, a3, c3, rfl, h1, h2, h3⟩ := h
  exact ⟨a1, c1, a2, c2, a3, c3, rfl, h1.below hb, h2.below hb, h3.below hb⟩
theorem ReadsN.drew {w : World} {v : Value} {D : NM} (h : ReadsN w v D) : ReadsN w.drew v D := h
/-- v owns D, in blocks from lo up to hi. -/
def OwnsN (w : World) (lo hi : Nat) (v : Value) (D : NM) : Prop :=
  ∃ v1 v2 v3, v = .agg #[.bool D.A, v1, v2, v3] ∧ (w.ownsRow lo 130 2 v1 D.P.length (cellsP D.P) ∧ ∀ k, v1.ownBlock = some k → k < hi) ∧ (w.ownsRow lo 9 1 v2 D.L.length (cellsS D.L) ∧ ∀ k, v2.ownBlock = some k → k < hi) ∧ (w.ownsRow lo 3 1 v3 D.K.length (cellsI D.K) ∧ ∀ k, v3.ownBlock = some k → k < hi)
theorem OwnsN.mk {w : World} {lo hi : Nat} {v1 v2 v3 : Value} {A : Bool} {D : NM} (hA : D.A = A) (h1 : w.ownsRow lo 130 2 v1 D.P.length (cellsP D.P)) (h2 : w.ownsRow lo 9 1 v2 D.L.length (cellsS D.L)) (h3 : w.ownsRow lo 3 1 v3 D.K.length (cellsI D.K)) (hh : w.heap.size ≤ hi) : OwnsN w lo hi (.agg #[.bool A, v1, v2, v3]) D :=
  ⟨v1, v2, v3, by rw [hA], ⟨h1, fun k e => by have := (h1.lt k e).2; omega⟩, ⟨h2, fun k e => by have := (h2.lt k e).2; omega⟩, h3, fun k e => by have := (h3.lt k e).2; omega⟩
theorem OwnsN.reads {w : World} {lo hi : Nat} {v : Value} {D : NM} (h : OwnsN w lo hi v D) : ReadsN w v D := by
  obtain ⟨v1, v2, v3, rfl, ⟨h1, _⟩, ⟨h2, _⟩, h3, _⟩ := h
  obtain ⟨a1, c1, rfl, s1, _⟩ := own_src h1
  obtain ⟨a2, c2, rfl, s2, _⟩ := own_src h2
  obtain ⟨a3, c3, rfl, s3, _⟩ := own_src h3
  exact ⟨a1, c1, a2, c2, a3, c3, rfl, s1, s2, s3⟩
theorem OwnsN.below {w w' : World} {lo hi : Nat} {v : Value} {D : NM} (h : OwnsN w lo hi v D) (hb : Below w.heap.size w w') : OwnsN w' lo hi v D := by
  obtain ⟨v1, v2, v3, rfl, ⟨h1, k1⟩, ⟨h2, k2⟩, h3, k3⟩ := h
  exact ⟨v1, v2, v3, rfl, ⟨own_below h1 hb, k1⟩, ⟨own_below h2 hb, k2⟩, own_below h3 hb, k3⟩
theorem OwnsN.turned {w w' : World} {lo hi lo' hi' : Nat} {v : Value} {D : NM} (h : OwnsN w lo hi v D) (ht : Turned lo' hi' w w') (hd : hi ≤ lo' ∨ hi' ≤ lo) : OwnsN w' lo hi v D := by
  obtain ⟨v1, v2, v3, rfl, ⟨h1, k1⟩, ⟨h2, k2⟩, h3, k3⟩ := h
  exact ⟨v1, v2, v3, rfl, ⟨own_turned h1 ht k1 hd, k1⟩, ⟨own_turned h2 ht k2 hd, k2⟩, own_turned h3 ht k3 hd, k3⟩
theorem OwnsN.mono {w : World} {lo hi lo' hi' : Nat} {v : Value} {D : NM} (h : OwnsN w lo hi v D) (hl : lo' ≤ lo) (hh : hi ≤ hi') : OwnsN w lo' hi' v D := by
  obtain ⟨v1, v2, v3, rfl, ⟨h1, k1⟩, ⟨h2, k2⟩, h3, k3⟩ := h
  exact ⟨v1, v2, v3, rfl, ⟨own_mono h1 hl, fun k e => Nat.lt_of_lt_of_le (k1 k e) hh⟩, ⟨own_mono h2 hl, fun k e => Nat.lt_of_lt_of_le (k2 k e) hh⟩, own_mono h3 hl, fun k e => Nat.lt_of_lt_of_le (k3 k e) hh⟩
theorem OwnsN.drew {w : World} {lo hi : Nat} {v : Value} {D : NM} (h : OwnsN w lo hi v D) : OwnsN w.drew lo hi v D := h
theorem OwnsN.lit {w : World} {lo hi : Nat} {v : Value} {D : NM} (h : OwnsN w lo hi v D) : ∃ a1 c1 a2 c2 a3 c3, v = .agg #[.bool D.A, .slice a1 D.P.length c1, .slice a2 D.L.length c2, .slice a3 D.K.length c3] := by
  obtain ⟨a1, c1, a2, c2, a3, c3, e, _⟩ := h.reads
  exact ⟨a1, c1, a2, c2, a3, c3, e⟩
/-- What the parts of a node weigh together. -/
def wtN (D : NM) : Nat := D.P.length + D.L.length + D.K.length
def smallN (D : NM) : Prop := wtN D ≤ 1048576 ∧ (∀ x ∈ D.P, x.1.size ≤ 1048576 ∧ x.2.size ≤ 1048576) ∧ (∀ x ∈ D.L, x.size ≤ 1048576)
def maxN (D : NM) : Prop := D.P.length ≤ maxLen ∧ (∀ x ∈ D.P, x.1.size ≤ maxLen ∧ x.2.size ≤ maxLen) ∧ D.L.length ≤ maxLen ∧ (∀ x ∈ D.L, x.size ≤ maxLen) ∧ D.K.length ≤ maxLen

set_option maxHeartbeats 1000000 in
theorem toNode (v : Value) (D : NM) (w : World) (hs : smallN D) (h : ReadsN w v D) :
    Calls Tryd.prog 25 #[v] w fun e w' => ∃ v', e = .returned v' ∧ OwnsN w' w.heap.size w'.heap.size v' D ∧ Below w.heap.size w w' := by
  obtain ⟨a1, c1, a2, c2, a3, c3, rfl, s1, s2, s3⟩ := h
  obtain ⟨n1, hn1⟩ : ∃ n, D.P.length = n := ⟨_, rfl⟩
  obtain ⟨n2, hn2⟩ : ∃ n, D.L.length = n := ⟨_, rfl⟩
  obtain ⟨n3, hn3⟩ : ∃ n, D.K.length = n := ⟨_, rfl⟩
  obtain ⟨A, hA⟩ : ∃ A, D.A = A := ⟨_, rfl⟩
  have HS : Hid (n1 ≤ 1048576 ∧ n2 ≤ 1048576 ∧ n3 ≤ 1048576) := by
    have h1 := hs.1
    unfold wtN at h1
    exact ⟨by omega, by omega, by omega⟩
  have S1 : Hid (Src w a1 (cellsP D.P)) := s1
  have S2 : Hid (Src w a2 (cellsS D.L)) := s2
  have S3 : Hid (Src w a3 (cellsI D.K)) := s3
  rw [hn1, hn2, hn3, hA]
  have N1 : Hid (D.P.length = n1) := hn1
  have N2 : Hid (D.L.length = n2) := hn2
  have N3 : Hid (D.K.length = n3) := hn3
  have NA : Hid (D.A = A) := hA
  clear hs s1 s2 s3 hn1 hn2 hn3 hA
  go_enter Tryd.func25, Tryd.ntmps25
  go_wp2_with fail
  refine (toPairS a1 n1 c1 D.P _ N1.out HS.out.1 (S1.out.below ((((Below.refl _ _).alloc (Nat.le_refl _) _).alloc (by simp) _).alloc (by simp; omega) _))).mono ?_
  rintro e w1 ⟨v1, rfl, o1, hb1⟩
  obtain ⟨b1, d1, rfl, _, _⟩ := own_src o1
  have B1 : Hid (Below w.heap.size w w1) := ((((Below.refl _ _).alloc (Nat.le_refl _) _).alloc (by simp) _).alloc (by simp; omega) _).trans (hb1.mono (by simp; omega))
  have HA : Hid (Box w1 w.heap.size [.bool A, .slice a1 n1 c1, .slice a2 n2 c2, .slice a3 n3 c3]) := Box.below (((Box.new rfl).old _).old _) hb1
  have HR : Hid (Box w1 (w.heap.size + 1) [.bool false, .slice none 0 0, .slice none 0 0, .slice none 0 0]) := Box.below ((Box.new (by simp)).old _) hb1
  have HO : Hid (Box w1 (w.heap.size + 1 + 1) [.bool A, .slice none 0 0, .slice none 0 0, .slice none 0 0]) := Box.below (Box.new (by simp)) hb1
  have O1 : Hid (w1.ownsRow (w.heap.size + 3) 130 2 (.slice b1 n1 d1) n1 (cellsP D.P)) := own_mono o1 (by simp)
  clear o1 hb1
  obtain ⟨p2, _⟩ := HA.out 2 _ rfl
  obtain ⟨q1', q1f⟩ := HO.out 1 _ rfl
  go_wp2_with fail
  refine (toStringS a2 n2 c2 D.L _ N2.out HS.out.2.1 (S2.out.below (Below.setCell (p := ⟨w.heap.size + 1 + 1, 1, none⟩) B1.out (by show _ ≤ w.heap.size + 1 + 1; omega) _))).mono ?_
  rintro e w2 ⟨v2, rfl, o2, hb2⟩
  obtain ⟨b2, d2, rfl, _, _⟩ := own_src o2
  have B2 : Hid (Below w.heap.size w w2) := (Below.setCell (p := ⟨w.heap.size + 1 + 1, 1, none⟩) B1.out (by show _ ≤ w.heap.size + 1 + 1; omega) _).trans (hb2.mono (by simp; exact B1.out.size))
  have HA2 : Hid (Box w2 w.heap.size [.bool A, .slice a1 n1 c1, .slice a2 n2 c2, .slice a3 n3 c3]) := (HA.out.other _ (by dsimp only; omega) _).below hb2
  have HR2 : Hid (Box w2 (w.heap.size + 1) [.bool false, .slice none 0 0, .slice none 0 0, .slice none 0 0]) := (HR.out.other _ (by dsimp only; omega) _).below hb2
  have HO2 : Hid (Box w2 (w.heap.size + 1 + 1) [.bool A, .slice b1 n1 d1, .slice none 0 0, .slice none 0 0]) := (HO.out.set 1 (.slice b1 n1 d1)).below hb2
  have O12 : Hid (w2.ownsRow (w.heap.size + 3) 130 2 (.slice b1 n1 d1) n1 (cellsP D.P)) := own_below (own_setLow O1.out (by dsimp only; omega) _) hb2
  have X1 : Hid (w.heap.size + 3 ≤ w1.heap.size) := World.block_lt_of_cell? _ _ (HO.out 0 _ rfl).1
  have O22 : Hid (w2.ownsRow (w.heap.size + 3) 9 1 (.slice b2 n2 d2) n2 (cellsS D.L)) := own_mono o2 (by simp; exact X1.out)
  clear O1 HA HR HO B1 o2 hb2 p2 q1' q1f
  obtain ⟨p3, _⟩ := HA2.out 3 _ rfl
  obtain ⟨q2', q2f⟩ := HO2.out 2 _ rfl
  have p3' : (w2.setCell ⟨w.heap.size + 1 + 1, 2, none⟩ (.slice b2 n2 d2)).cell? ⟨w.heap.size, 3, none⟩ = some (.slice a3 n3 c3) := ((HA2.out.other _ (by dsimp only; omega) _) 3 _ rfl).1
  go_wp2_with fail
  have B2' : Hid (Below w.heap.size w (w2.setCell ⟨w.heap.size + 1 + 1, 2, none⟩ (.slice b2 n2 d2))) := Below.setCell (p := ⟨w.heap.size + 1 + 1, 2, none⟩) B2.out (by show _ ≤ w.heap.size + 1 + 1; omega) _
  refine (toIntS a3 n3 c3 D.K _ N3.out HS.out.2.2 (S3.out.below B2'.out)).mono ?_
  rintro e w3 ⟨v3, rfl, o3, hb3⟩
  obtain ⟨b3, d3, rfl, _, _⟩ := own_src o3
  have B3 : Hid (Below w.heap.size w w3) := B2'.out.trans (hb3.mono B2'.out.size)
  have HR3 : Hid (Box w3 (w.heap.size + 1) [.bool false, .slice none 0 0, .slice none 0 0, .slice none 0 0]) := (HR2.out.other _ (by dsimp only; omega) _).below hb3
  have HO3 : Hid (Box w3 (w.heap.size + 1 + 1) [.bool A, .slice b1 n1 d1, .slice b2 n2 d2, .slice none 0 0]) := (HO2.out.set 2 (.slice b2 n2 d2)).below hb3
  have O13 : Hid (w3.ownsRow (w.heap.size + 3) 130 2 (.slice b1 n1 d1) n1 (cellsP D.P)) := own_below (own_setLow O12.out (by dsimp only; omega) _) hb3
  have O23 : Hid (w3.ownsRow (w.heap.size + 3) 9 1 (.slice b2 n2 d2) n2 (cellsS D.L)) := own_below (own_setLow O22.out (by dsimp only; omega) _) hb3
  have X2 : Hid (w.heap.size + 3 ≤ w2.heap.size) := World.block_lt_of_cell? _ _ (HO2.out 0 _ rfl).1
  have O33 : Hid (w3.ownsRow (w.heap.size + 3) 3 1 (.slice b3 n3 d3) n3 (cellsI D.K)) := own_mono o3 (by simp; exact X2.out)
  clear O12 O22 HA2 HR2 HO2 B2 B2' o3 hb3 p3 p3' q2' q2f
  obtain ⟨q3', q3f⟩ := HO3.out 3 _ rfl
  have HO4 : Hid (Box (w3.setCell ⟨w.heap.size + 1 + 1, 3, none⟩ (.slice b3 n3 d3)) (w.heap.size + 1 + 1) [.bool A, .slice b1 n1 d1, .slice b2 n2 d2, .slice b3 n3 d3]) := HO3.out.set 3 _
  have HR4 : Hid (Box (w3.setCell ⟨w.heap.size + 1 + 1, 3, none⟩ (.slice b3 n3 d3)) (w.heap.size + 1) [.bool false, .slice none 0 0, .slice none 0 0, .slice none 0 0]) := HR3.out.other _ (by dsimp only; omega) _
  obtain ⟨f0, _⟩ := HO4.out 0 _ rfl
  obtain ⟨f1, _⟩ := HO4.out 1 _ rfl
  obtain ⟨f2, _⟩ := HO4.out 2 _ rfl
  obtain ⟨f3, _⟩ := HO4.out 3 _ rfl
  obtain ⟨⟨g0, h0⟩, ⟨g1, h1⟩, ⟨g2, h2⟩, ⟨g3, h3⟩, r0, r1, r2, r3⟩ := HR4.out.w4in (.bool A) (.slice b1 n1 d1) (.slice b2 n2 d2) (.slice b3 n3 d3)
  go_wp2_with fail
  refine bodyPost_ret (v := .agg #[.bool A, .slice b1 n1 d1, .slice b2 n2 d2, .slice b3 n3 d3]) (by simp [results, Tryd.results25, go_sem, r0, r1, r2, r3]) rfl ⟨_, rfl, ?_, ?_⟩
  · refine OwnsN.mk NA.out ?_ ?_ ?_ (Nat.le_refl _)
    · rw [N1.out]
      exact own_mono (own_setLow (own_setLow (own_setLow (own_setLow (own_setLow O13.out (by dsimp only; omega) _) (by dsimp only; omega) _) (by dsimp only; omega) _) (by dsimp only; omega) _) (by dsimp only; omega) _) (by omega)
    · rw [N2.out]
      exact own_mono (own_setLow (own_setLow (own_setLow (own_setLow (own_setLow O23.out (by dsimp only; omega) _) (by dsimp only; omega) _) (by dsimp only; omega) _) (by dsimp only; omega) _) (by dsimp only; omega) _) (by omega)
    · rw [N3.out]
      exact own_mono (own_setLow (own_setLow (own_setLow (own_setLow (own_setLow O33.out (by dsimp only; omega) _) (by dsimp only; omega) _) (by dsimp only; omega) _) (by dsimp only; omega) _) (by dsimp only; omega) _) (by omega)
  · exact Below.setCell (Below.setCell (Below.setCell (Below.setCell (Below.setCell B3.out (by dsimp only; omega) _) (by dsimp only; omega) _) (by dsimp only; omega) _) (by dsimp only; omega) _) (by dsimp only; omega) _

set_option maxHeartbeats 1000000 in
theorem szNode (v : Value) (D : NM) (l : Int) (w : World) (hl0 : 0 ≤ l) (hl1 : l ≤ 1048576) (hm : maxN D) (h : ReadsN w v D) :
    Calls Tryd.prog 24 #[v, .int .i64 l] w fun e w' => ∃ r : Int, e = .returned (.int .i64 r) ∧ r ≤ l ∧ (0 ≤ r → r + wtN D ≤ l ∧ smallN D) ∧ Below w.heap.size w w' := by
  obtain ⟨a1, c1, a2, c2, a3, c3, rfl, s1, s2, s3⟩ := h
  have HM : Hid (maxN D) := hm
  have S1 : Hid (Src w a1 (cellsP D.P)) := s1
  have S2 : Hid (Src w a2 (cellsS D.L)) := s2
  obtain ⟨n1, hn1⟩ : ∃ n, D.P.length = n := ⟨_, rfl⟩
  obtain ⟨n2, hn2⟩ : ∃ n, D.L.length = n := ⟨_, rfl⟩
  obtain ⟨n3, hn3⟩ : ∃ n, D.K.length = n := ⟨_, rfl⟩
  obtain ⟨A, hA⟩ : ∃ A, D.A = A := ⟨_, rfl⟩
  rw [hn1, hn2, hn3, hA]
  have N1 : Hid (D.P.length = n1) := hn1
  have N2 : Hid (D.L.length = n2) := hn2
  have N3 : Hid (D.K.length = n3) := hn3
  clear hm s1 s2 s3 hn1 hn2 hn3 hA
  go_enter Tryd.func24, Tryd.ntmps24
  go_wp2_with fail
  refine (szPairS a1 n1 c1 D.P l _ N1.out (by rw [← N1.out]; exact HM.out.1) HM.out.2.1 (by omega) (by omega) (S1.out.below ((Below.refl _ _).alloc (Nat.le_refl _) _))).mono ?_
  rintro e w1 ⟨r1, rfl, hl1', hr1, hb1⟩
  have B1 : Hid (Below w.heap.size w w1) := ((Below.refl _ _).alloc (Nat.le_refl _) _).trans (hb1.mono (by simp))
  have HA : Hid (Box w1 w.heap.size [.bool A, .slice a1 n1 c1, .slice a2 n2 c2, .slice a3 n3 c3]) := Box.below (Box.new rfl) hb1
  have HR1 : Hid (0 ≤ r1 → r1 + n1 ≤ l ∧ n1 ≤ 1048576 ∧ ∀ x ∈ D.P, x.1.size ≤ 1048576 ∧ x.2.size ≤ 1048576) := hr1
  clear hb1 hr1
  by_cases hneg1 : r1 < 0
  · go_wp2_with fail
    go_ret
    exact ⟨-1, rfl, by omega, fun h => absurd h (by omega), B1.out⟩
  obtain ⟨p2, _⟩ := HA.out 2 _ rfl
  go_wp2_with fail
  refine (szStringS a2 n2 c2 D.L r1 _ N2.out (by rw [← N2.out]; exact HM.out.2.2.1) HM.out.2.2.2.1 (by omega) (by omega) (S2.out.below B1.out)).mono ?_
  rintro e w2 ⟨r2, rfl, hl2, hr2, hb2⟩
  have B2 : Hid (Below w.heap.size w w2) := B1.out.trans (hb2.mono B1.out.size)
  have HA2 : Hid (Box w2 w.heap.size [.bool A, .slice a1 n1 c1, .slice a2 n2 c2, .slice a3 n3 c3]) := HA.out.below hb2
  have HR2 : Hid (0 ≤ r2 → r2 + n2 ≤ r1 ∧ n2 ≤ 1048576 ∧ ∀ x ∈ D.L, x.size ≤ 1048576) := hr2
  clear hb2 hr2 HA p2
  by_cases hneg2 : r2 < 0
  · go_wp2_with fail
    go_ret
    exact ⟨-1, rfl, by omega, fun h => absurd h (by omega), B2.out⟩
  obtain ⟨p3, _⟩ := HA2.out 3 _ rfl
  go_wp2_with fail
  refine (szIntS a3 n3 c3 r2 _ (by rw [← N3.out]; exact HM.out.2.2.2.2) (by omega) (by omega)).mono ?_
  rintro e w3 ⟨r3, rfl, hl3, hr3, hb3⟩
  have B3 : Hid (Below w.heap.size w w3) := B2.out.trans (hb3.mono B2.out.size)
  have HR3 : Hid (0 ≤ r3 → r3 + n3 ≤ r2 ∧ n3 ≤ 1048576) := hr3
  clear hb3 hr3 p3
  by_cases hneg3 : r3 < 0
  · go_wp2_with fail
    go_ret
    exact ⟨-1, rfl, by omega, fun h => absurd h (by omega), B3.out⟩
  have HF : Hid (r3 + wtN D ≤ l ∧ smallN D) := by
    obtain ⟨x0, x1, x2⟩ := HR1.out (by omega)
    obtain ⟨y0, x3, x4⟩ := HR2.out (by omega)
    obtain ⟨z0, x5⟩ := HR3.out (by omega)
    unfold smallN wtN
    rw [N1.out, N2.out, N3.out]
    exact ⟨by omega, by omega, x2, x4⟩
  go_wp2_with fail
  go_ret
  exact ⟨r3, rfl, by omega, fun _ => HF.out, B3.out⟩

set_option maxHeartbeats 1000000 in
theorem eqNode (v v' : Value) (D : NM) (w : World) (hs : wtN D ≤ 9000000000000000000) (h : ReadsN w v D) (h' : ReadsN w v' D) :
    Calls Tryd.prog 27 #[v, v'] w fun e w' => e = .returned (.bool true) ∧ Below w.heap.size w w' := by
  obtain ⟨a1, c1, a2, c2, a3, c3, rfl, s1, s2, s3⟩ := h
  obtain ⟨b1, d1, b2, d2, b3, d3, rfl, t1, t2, t3⟩ := h'
  have HS : Hid (wtN D ≤ 9000000000000000000) := hs
  have S1 : Hid (Src w a1 (cellsP D.P) ∧ Src w b1 (cellsP D.P)) := ⟨s1, t1⟩
  have S2 : Hid (Src w a2 (cellsS D.L) ∧ Src w b2 (cellsS D.L)) := ⟨s2, t2⟩
  have S3 : Hid (Src w a3 (cellsI D.K) ∧ Src w b3 (cellsI D.K)) := ⟨s3, t3⟩
  obtain ⟨n1, hn1⟩ : ∃ n, D.P.length = n := ⟨_, rfl⟩
  obtain ⟨n2, hn2⟩ : ∃ n, D.L.length = n := ⟨_, rfl⟩
  obtain ⟨n3, hn3⟩ : ∃ n, D.K.length = n := ⟨_, rfl⟩
  obtain ⟨A, hA⟩ : ∃ A, D.A = A := ⟨_, rfl⟩
  rw [hn1, hn2, hn3, hA]
  have N1 : Hid (D.P.length = n1) := hn1
  have N2 : Hid (D.L.length = n2) := hn2
  have N3 : Hid (D.K.length = n3) := hn3
  have NS : Hid (n1 ≤ 9000000000000000000 ∧ n2 ≤ 9000000000000000000 ∧ n3 ≤ 9000000000000000000) := by
    have h1 := HS.out
    unfold wtN at h1
    rw [hn1, hn2, hn3] at h1
    exact ⟨by omega, by omega, by omega⟩
  have hAA : (A != A) = false := by simp
  clear hs s1 s2 s3 hn1 hn2 hn3 hA t1 t2 t3
  go_enter Tryd.func27, Tryd.ntmps27
  go_wp2_with fail
  refine (eqPairS a1 b1 n1 c1 d1 D.P _ N1.out NS.out.1 (S1.out.1.below (((Below.refl _ _).alloc (Nat.le_refl _) _).alloc (by simp) _)) (S1.out.2.below (((Below.refl _ _).alloc (Nat.le_refl _) _).alloc (by simp) _))).mono ?_
  rintro e w1 ⟨rfl, hb1⟩
  have B1 : Hid (Below w.heap.size w w1) := (((Below.refl _ _).alloc (Nat.le_refl _) _).alloc (by simp) _).trans (hb1.mono (by simp; omega))
  have HA : Hid (Box w1 w.heap.size [.bool A, .slice a1 n1 c1, .slice a2 n2 c2, .slice a3 n3 c3]) := Box.below ((Box.new rfl).old _) hb1
  have HB : Hid (Box w1 (w.heap.size + 1) [.bool A, .slice b1 n1 d1, .slice b2 n2 d2, .slice b3 n3 d3]) := Box.below (Box.new (by simp)) hb1
  clear hb1
  obtain ⟨p2, _⟩ := HA.out 2 _ rfl
  obtain ⟨q2, _⟩ := HB.out 2 _ rfl
  go_wp2_with fail
  refine (eqStringS a2 b2 n2 c2 d2 D.L _ N2.out NS.out.2.1 (S2.out.1.below B1.out) (S2.out.2.below B1.out)).mono ?_
  rintro e w2 ⟨rfl, hb2⟩
  have B2 : Hid (Below w.heap.size w w2) := B1.out.trans (hb2.mono B1.out.size)
  have HA2 : Hid (Box w2 w.heap.size [.bool A, .slice a1 n1 c1, .slice a2 n2 c2, .slice a3 n3 c3]) := HA.out.below hb2
  have HB2 : Hid (Box w2 (w.heap.size + 1) [.bool A, .slice b1 n1 d1, .slice b2 n2 d2, .slice b3 n3 d3]) := HB.out.below hb2
  clear hb2 HA HB B1 p2 q2
  obtain ⟨p3, _⟩ := HA2.out 3 _ rfl
  obtain ⟨q3, _⟩ := HB2.out 3 _ rfl
  go_wp2_with fail
  refine (eqIntS a3 b3 n3 c3 d3 D.K _ N3.out NS.out.2.2 (S3.out.1.below B2.out) (S3.out.2.below B2.out)).mono ?_
  rintro e w3 ⟨rfl, hb3⟩
  have B3 : Hid (Below w.heap.size w w3) := B2.out.trans (hb3.mono B2.out.size)
  clear hb3 p3 q3
  go_wp2_with fail
  go_ret
  exact ⟨rfl, B3.out⟩
end Go.Proofs.YtnejklppbjkekaaDoor
