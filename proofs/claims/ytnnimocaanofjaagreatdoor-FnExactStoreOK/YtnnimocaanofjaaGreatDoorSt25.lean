/-
  Texts of the store, brought together: Disks. By an AI agent.
-/
import Derived.Test.YtnnimocaanofjaaGreatDoorSt24
/-
  Contracts of the helpers on disks: sizes, copies, comparisons, marks. By an AI agent.
-/
namespace Go.Proofs.YtnnimocaanofjaaGreatDoor
open Go.ChangeShapes Go.WideShapes Go.ChangeAt Go.RowKit Go.Deep
set_option linter.unusedVariables false

/-- v reads as D. -/
def ReadsD (w : World) (v : Value) (D : DM) : Prop :=
  ∃ a1 c1 a2 c2 a3 c3, v = .agg #[.slice a1 D.S.length c1, .slice a2 D.C.length c2, .bool D.A, .slice a3 D.K.length c3] ∧ Src w a1 (cellsS D.S) ∧ Src w a2 (cellsQ D.C) ∧ Src w a3 (cellsI D.K)
theorem ReadsD.below {w w' : World} {v : Value} {D : DM} (h : ReadsD w v D) (hb : Below w.heap.size w w') : ReadsD w' v D := by
  obtain ⟨a1, c1, a2, c2, a3, c3, rfl, h1, h2, h3⟩ := h
  exact ⟨a1, c1, a2, c2, a3, c3, rfl, h1.below hb, h2.below hb, h3.below hb⟩
/-- v owns D, in blocks from lo up to hi. -/
def OwnsD (w : World) (lo hi : Nat) (v : Value) (D : DM) : Prop :=
  ∃ v1 v2 v3, v = .agg #[v1, v2, .bool D.A, v3] ∧ (w.ownsRow lo 9 1 v1 D.S.length (cellsS D.S) ∧ ∀ k, v1.ownBlock = some k → k < hi) ∧ (w.ownsRow lo 127 2 v2 D.C.length (cellsQ D.C) ∧ ∀ k, v2.ownBlock = some k → k < hi) ∧ (w.ownsRow lo 3 1 v3 D.K.length (cellsI D.K) ∧ ∀ k, v3.ownBlock = some k → k < hi)
theorem OwnsD.mk {w : World} {lo hi : Nat} {v1 v2 v3 : Value} {A : Bool} {D : DM} (hA : D.A = A) (h1 : w.ownsRow lo 9 1 v1 D.S.length (cellsS D.S)) (h2 : w.ownsRow lo 127 2 v2 D.C.length (cellsQ D.C)) (h3 : w.ownsRow lo 3 1 v3 D.K.length (cellsI D.K)) (hh : w.heap.size ≤ hi) : OwnsD w lo hi (.agg #[v1, v2, .bool A, v3]) D :=
  ⟨v1, v2, v3, by rw [hA], ⟨h1, fun k e => by have := (h1.lt k e).2; omega⟩, ⟨h2, fun k e => by have := (h2.lt k e).2; omega⟩, h3, fun k e => by have := (h3.lt k e).2; omega⟩
theorem OwnsD.reads {w : World} {lo hi : Nat} {v : Value} {D : DM} (h : OwnsD w lo hi v D) : ReadsD w v D := by
  obtain ⟨v1, v2, v3, rfl, ⟨h1, _⟩, ⟨h2, _⟩, h3, _⟩ := h
  obtain ⟨a1, c1, rfl, s1, _⟩ := own_src h1
  obtain ⟨a2, c2, rfl, s2, _⟩ := own_src h2
  obtain ⟨a3, c3, rfl, s3, _⟩ := own_src h3
  exact ⟨a1, c1, a2, c2, a3, c3, rfl, s1, s2, s3⟩
theorem OwnsD.below {w w' : World} {lo hi : Nat} {v : Value} {D : DM} (h : OwnsD w lo hi v D) (hb : Below w.heap.size w w') : OwnsD w' lo hi v D := by
  obtain ⟨v1, v2, v3, rfl, ⟨h1, k1⟩, ⟨h2, k2⟩, h3, k3⟩ := h
  exact ⟨v1, v2, v3, rfl, ⟨own_below h1 hb, k1⟩, ⟨own_below h2 hb, k2⟩, own_below h3 hb, k3⟩
theorem OwnsD.turned {w w' : World} {lo hi lo' hi' : Nat} {v : Value} {D : DM} (h : OwnsD w lo hi v D) (ht : Turned lo' hi' w w') (hd : hi ≤ lo' ∨ hi' ≤ lo) : OwnsD w' lo hi v D := by
  obtain ⟨v1, v2, v3, rfl, ⟨h1, k1⟩, ⟨h2, k2⟩, h3, k3⟩ := h
  exact ⟨v1, v2, v3, rfl, ⟨own_turned h1 ht k1 hd, k1⟩, ⟨own_turned h2 ht k2 hd, k2⟩, own_turned h3 ht k3 hd, k3⟩
/-- What is small enough to be handled. -/
def smallD (D : DM) : Prop := (D.S.length ≤ 1048576 ∧ ∀ x ∈ D.S, x.size ≤ 1048576) ∧ (D.C.length ≤ 1048576 ∧ ∀ x ∈ D.C, x.2.size ≤ 1048576) ∧ D.K.length ≤ 1048576

set_option maxHeartbeats 1000000 in
theorem toDisk (v : Value) (D : DM) (w : World) (hs : smallD D) (h : ReadsD w v D) :
    Calls Tryz.prog 15 #[v] w fun e w' => ∃ v', e = .returned v' ∧ OwnsD w' w.heap.size w'.heap.size v' D ∧ Below w.heap.size w w' := by
  obtain ⟨a1, c1, a2, c2, a3, c3, rfl, s1, s2, s3⟩ := h
  have HS : Hid (smallD D) := hs
  have S1 : Hid (Src w a1 (cellsS D.S)) := s1
  have S2 : Hid (Src w a2 (cellsQ D.C)) := s2
  have S3 : Hid (Src w a3 (cellsI D.K)) := s3
  obtain ⟨n1, hn1⟩ : ∃ n, D.S.length = n := ⟨_, rfl⟩
  obtain ⟨n2, hn2⟩ : ∃ n, D.C.length = n := ⟨_, rfl⟩
  obtain ⟨n3, hn3⟩ : ∃ n, D.K.length = n := ⟨_, rfl⟩
  obtain ⟨A, hA⟩ : ∃ A, D.A = A := ⟨_, rfl⟩
  rw [hn1, hn2, hn3, hA]
  have N1 : Hid (D.S.length = n1) := hn1
  have N2 : Hid (D.C.length = n2) := hn2
  have N3 : Hid (D.K.length = n3) := hn3
  have NA : Hid (D.A = A) := hA
  clear hs s1 s2 s3 hn1 hn2 hn3 hA
  go_enter Tryz.func15, Tryz.ntmps15
  go_wp2_with fail
  refine (toStringS a1 n1 c1 D.S _ N1.out (by have := HS.out.1.1; rw [N1.out] at this; exact this) (S1.out.below ((((Below.refl _ _).alloc (Nat.le_refl _) _).alloc (by simp) _).alloc (by simp; omega) _))).mono ?_
  rintro e w1 ⟨v1, rfl, o1, hb1⟩
  obtain ⟨b1, d1, rfl, _, _⟩ := own_src o1
  have B1 : Hid (Below w.heap.size w w1) := ((((Below.refl _ _).alloc (Nat.le_refl _) _).alloc (by simp) _).alloc (by simp; omega) _).trans (hb1.mono (by simp; omega))
  have HA : Hid (Box w1 w.heap.size [.slice a1 n1 c1, .slice a2 n2 c2, .bool A, .slice a3 n3 c3]) := Box.below (((Box.new rfl).old _).old _) hb1
  have HR : Hid (Box w1 (w.heap.size + 1) [.slice none 0 0, .slice none 0 0, .bool false, .slice none 0 0]) := Box.below ((Box.new (by simp)).old _) hb1
  have HO : Hid (Box w1 (w.heap.size + 1 + 1) [.slice none 0 0, .slice none 0 0, .bool false, .slice none 0 0]) := Box.below (Box.new (by simp)) hb1
  have O1 : Hid (w1.ownsRow (w.heap.size + 3) 9 1 (.slice b1 n1 d1) n1 (cellsS D.S)) := own_mono o1 (by simp)
  clear o1 hb1
  obtain ⟨p1, _⟩ := HA.out 1 _ rfl
  obtain ⟨q0', q0f⟩ := HO.out 0 _ rfl
  go_wp2_with fail
  refine (toPendingS a2 n2 c2 D.C _ N2.out (by have := HS.out.2.1.1; rw [N2.out] at this; exact this) (S2.out.below (Below.setCell (p := ⟨w.heap.size + 1 + 1, 0, none⟩) B1.out (by show _ ≤ w.heap.size + 1 + 1; omega) _))).mono ?_
  rintro e w2 ⟨v2, rfl, o2, hb2⟩
  obtain ⟨b2, d2, rfl, _, _⟩ := own_src o2
  have B2 : Hid (Below w.heap.size w w2) := (Below.setCell (p := ⟨w.heap.size + 1 + 1, 0, none⟩) B1.out (by show _ ≤ w.heap.size + 1 + 1; omega) _).trans (hb2.mono (by simp; exact B1.out.size))
  have HA2 : Hid (Box w2 w.heap.size [.slice a1 n1 c1, .slice a2 n2 c2, .bool A, .slice a3 n3 c3]) := (HA.out.other _ (by dsimp only; omega) _).below hb2
  have HR2 : Hid (Box w2 (w.heap.size + 1) [.slice none 0 0, .slice none 0 0, .bool false, .slice none 0 0]) := (HR.out.other _ (by dsimp only; omega) _).below hb2
  have HO2 : Hid (Box w2 (w.heap.size + 1 + 1) [.slice b1 n1 d1, .slice none 0 0, .bool false, .slice none 0 0]) := (HO.out.set 0 (.slice b1 n1 d1)).below hb2
  have O12 : Hid (w2.ownsRow (w.heap.size + 3) 9 1 (.slice b1 n1 d1) n1 (cellsS D.S)) := own_below (own_setLow O1.out (by dsimp only; omega) _) hb2
  have X1 : Hid (w.heap.size + 3 ≤ w1.heap.size) := World.block_lt_of_cell? _ _ (HO.out 0 _ rfl).1
  have O22 : Hid (w2.ownsRow (w.heap.size + 3) 127 2 (.slice b2 n2 d2) n2 (cellsQ D.C)) := own_mono o2 (by simp; exact X1.out)
  clear O1 HA HR HO B1 o2 hb2 p1 q0' q0f
  obtain ⟨p2, _⟩ := HA2.out 2 _ rfl
  obtain ⟨p3, _⟩ := HA2.out 3 _ rfl
  obtain ⟨q1', q1f⟩ := HO2.out 1 _ rfl
  have p2' : (w2.setCell ⟨w.heap.size + 1 + 1, 1, none⟩ (.slice b2 n2 d2)).cell? ⟨w.heap.size, 2, none⟩ = some (.bool A) := ((HA2.out.other _ (by dsimp only; omega) _) 2 _ rfl).1
  obtain ⟨q2', q2f⟩ := (HO2.out.set 1 (.slice b2 n2 d2)) 2 _ rfl
  have p3' : ((w2.setCell ⟨w.heap.size + 1 + 1, 1, none⟩ (.slice b2 n2 d2)).setCell ⟨w.heap.size + 1 + 1, 2, none⟩ (.bool A)).cell? ⟨w.heap.size, 3, none⟩ = some (.slice a3 n3 c3) := (((HA2.out.other _ (by dsimp only; omega) _).other _ (by dsimp only; omega) _) 3 _ rfl).1
  go_wp2_with fail
  have B2' : Hid (Below w.heap.size w ((w2.setCell ⟨w.heap.size + 1 + 1, 1, none⟩ (.slice b2 n2 d2)).setCell ⟨w.heap.size + 1 + 1, 2, none⟩ (.bool A))) := (Below.setCell (p := ⟨w.heap.size + 1 + 1, 2, none⟩) (Below.setCell (p := ⟨w.heap.size + 1 + 1, 1, none⟩) B2.out (by show _ ≤ w.heap.size + 1 + 1; omega) _) (by show _ ≤ w.heap.size + 1 + 1; omega) _)
  refine (toIntS a3 n3 c3 D.K _ N3.out (by have := HS.out.2.2; rw [N3.out] at this; exact this) (S3.out.below B2'.out)).mono ?_
  rintro e w3 ⟨v3, rfl, o3, hb3⟩
  obtain ⟨b3, d3, rfl, _, _⟩ := own_src o3
  have B3 : Hid (Below w.heap.size w w3) := B2'.out.trans (hb3.mono B2'.out.size)
  have HR3 : Hid (Box w3 (w.heap.size + 1) [.slice none 0 0, .slice none 0 0, .bool false, .slice none 0 0]) := ((HR2.out.other _ (by dsimp only; omega) _).other _ (by dsimp only; omega) _).below hb3
  have HO3 : Hid (Box w3 (w.heap.size + 1 + 1) [.slice b1 n1 d1, .slice b2 n2 d2, .bool A, .slice none 0 0]) := ((HO2.out.set 1 (.slice b2 n2 d2)).set 2 (.bool A)).below hb3
  have O13 : Hid (w3.ownsRow (w.heap.size + 3) 9 1 (.slice b1 n1 d1) n1 (cellsS D.S)) := own_below (own_setLow (own_setLow O12.out (by dsimp only; omega) _) (by dsimp only; omega) _) hb3
  have O23 : Hid (w3.ownsRow (w.heap.size + 3) 127 2 (.slice b2 n2 d2) n2 (cellsQ D.C)) := own_below (own_setLow (own_setLow O22.out (by dsimp only; omega) _) (by dsimp only; omega) _) hb3
  have X2 : Hid (w.heap.size + 3 ≤ w2.heap.size) := World.block_lt_of_cell? _ _ (HO2.out 0 _ rfl).1
  have O33 : Hid (w3.ownsRow (w.heap.size + 3) 3 1 (.slice b3 n3 d3) n3 (cellsI D.K)) := own_mono o3 (by simp; exact X2.out)
  clear O12 O22 HA2 HR2 HO2 B2 B2' o3 hb3 p2 p3 p2' p3' q1' q1f q2' q2f
  obtain ⟨q3', q3f⟩ := HO3.out 3 _ rfl
  have HO4 : Hid (Box (w3.setCell ⟨w.heap.size + 1 + 1, 3, none⟩ (.slice b3 n3 d3)) (w.heap.size + 1 + 1) [.slice b1 n1 d1, .slice b2 n2 d2, .bool A, .slice b3 n3 d3]) := HO3.out.set 3 _
  have HR4 : Hid (Box (w3.setCell ⟨w.heap.size + 1 + 1, 3, none⟩ (.slice b3 n3 d3)) (w.heap.size + 1) [.slice none 0 0, .slice none 0 0, .bool false, .slice none 0 0]) := HR3.out.other _ (by dsimp only; omega) _
  obtain ⟨f0, _⟩ := HO4.out 0 _ rfl
  obtain ⟨f1, _⟩ := HO4.out 1 _ rfl
  obtain ⟨f2, _⟩ := HO4.out 2 _ rfl
  obtain ⟨f3, _⟩ := HO4.out 3 _ rfl
  obtain ⟨g0, h0⟩ := HR4.out 0 _ rfl
  obtain ⟨g1, h1⟩ := (HR4.out.set 0 (.slice b1 n1 d1)) 1 _ rfl
  obtain ⟨g2, h2⟩ := ((HR4.out.set 0 (.slice b1 n1 d1)).set 1 (.slice b2 n2 d2)) 2 _ rfl
  obtain ⟨g3, h3⟩ := (((HR4.out.set 0 (.slice b1 n1 d1)).set 1 (.slice b2 n2 d2)).set 2 (.bool A)) 3 _ rfl
  have HR5 := (((HR4.out.set 0 (.slice b1 n1 d1)).set 1 (.slice b2 n2 d2)).set 2 (.bool A)).set 3 (.slice b3 n3 d3)
  obtain ⟨r0, _⟩ := HR5 0 _ rfl
  obtain ⟨r1, _⟩ := HR5 1 _ rfl
  obtain ⟨r2, _⟩ := HR5 2 _ rfl
  obtain ⟨r3, _⟩ := HR5 3 _ rfl
  go_wp2_with fail
  refine bodyPost_ret (v := .agg #[.slice b1 n1 d1, .slice b2 n2 d2, .bool A, .slice b3 n3 d3]) (by simp [results, Tryz.results15, go_sem, r0, r1, r2, r3]) rfl ⟨_, rfl, ?_, ?_⟩
  · refine OwnsD.mk NA.out ?_ ?_ ?_ (Nat.le_refl _)
    · rw [N1.out]
      exact own_mono (own_setLow (own_setLow (own_setLow (own_setLow (own_setLow O13.out (by dsimp only; omega) _) (by dsimp only; omega) _) (by dsimp only; omega) _) (by dsimp only; omega) _) (by dsimp only; omega) _) (by omega)
    · rw [N2.out]
      exact own_mono (own_setLow (own_setLow (own_setLow (own_setLow (own_setLow O23.out (by dsimp only; omega) _) (by dsimp only; omega) _) (by dsimp only; omega) _) (by dsimp only; omega) _) (by dsimp only; omega) _) (by omega)
    · rw [N3.out]
      exact own_mono (own_setLow (own_setLow (own_setLow (own_setLow (own_setLow O33.out (by dsimp only; omega) _) (by dsimp only; omega) _) (by dsimp only; omega) _) (by dsimp only; omega) _) (by dsimp only; omega) _) (by omega)
  · exact Below.setCell (Below.setCell (Below.setCell (Below.setCell (Below.setCell B3.out (by dsimp only; omega) _) (by dsimp only; omega) _) (by dsimp only; omega) _) (by dsimp only; omega) _) (by dsimp only; omega) _

set_option maxHeartbeats 1000000 in
theorem eqDisk (v v' : Value) (D : DM) (w : World) (hs : D.S.length ≤ 9000000000000000000 ∧ D.C.length ≤ 9000000000000000000 ∧ D.K.length ≤ 9000000000000000000) (h : ReadsD w v D) (h' : ReadsD w v' D) :
    Calls Tryz.prog 17 #[v, v'] w fun e w' => e = .returned (.bool true) ∧ Below w.heap.size w w' := by
  obtain ⟨a1, c1, a2, c2, a3, c3, rfl, s1, s2, s3⟩ := h
  obtain ⟨b1, d1, b2, d2, b3, d3, rfl, t1, t2, t3⟩ := h'
  have HS : Hid (D.S.length ≤ 9000000000000000000 ∧ D.C.length ≤ 9000000000000000000 ∧ D.K.length ≤ 9000000000000000000) := hs
  have S1 : Hid (Src w a1 (cellsS D.S) ∧ Src w b1 (cellsS D.S)) := ⟨s1, t1⟩
  have S2 : Hid (Src w a2 (cellsQ D.C) ∧ Src w b2 (cellsQ D.C)) := ⟨s2, t2⟩
  have S3 : Hid (Src w a3 (cellsI D.K) ∧ Src w b3 (cellsI D.K)) := ⟨s3, t3⟩
  obtain ⟨n1, hn1⟩ : ∃ n, D.S.length = n := ⟨_, rfl⟩
  obtain ⟨n2, hn2⟩ : ∃ n, D.C.length = n := ⟨_, rfl⟩
  obtain ⟨n3, hn3⟩ : ∃ n, D.K.length = n := ⟨_, rfl⟩
  obtain ⟨A, hA⟩ : ∃ A, D.A = A := ⟨_, rfl⟩
  rw [hn1, hn2, hn3, hA]
  have N1 : Hid (D.S.length = n1) := hn1
  have N2 : Hid (D.C.length = n2) := hn2
  have N3 : Hid (D.K.length = n3) := hn3
  have hAA : (A != A) = false := by simp
  clear hs s1 s2 s3 hn1 hn2 hn3 hA t1 t2 t3
  go_enter Tryz.func17, Tryz.ntmps17
  go_wp2_with fail
  refine (eqStringS a1 b1 n1 c1 d1 D.S _ N1.out (by rw [← N1.out]; exact HS.out.1) (S1.out.1.below (((Below.refl _ _).alloc (Nat.le_refl _) _).alloc (by simp) _)) (S1.out.2.below (((Below.refl _ _).alloc (Nat.le_refl _) _).alloc (by simp) _))).mono ?_
  rintro e w1 ⟨rfl, hb1⟩
  have B1 : Hid (Below w.heap.size w w1) := (((Below.refl _ _).alloc (Nat.le_refl _) _).alloc (by simp) _).trans (hb1.mono (by simp; omega))
  have HA : Hid (Box w1 w.heap.size [.slice a1 n1 c1, .slice a2 n2 c2, .bool A, .slice a3 n3 c3]) := Box.below ((Box.new rfl).old _) hb1
  have HB : Hid (Box w1 (w.heap.size + 1) [.slice b1 n1 d1, .slice b2 n2 d2, .bool A, .slice b3 n3 d3]) := Box.below (Box.new (by simp)) hb1
  clear hb1
  obtain ⟨p1, _⟩ := HA.out 1 _ rfl
  obtain ⟨q1, _⟩ := HB.out 1 _ rfl
  go_wp2_with fail
  refine (eqPendingS a2 b2 n2 c2 d2 D.C _ N2.out (by rw [← N2.out]; exact HS.out.2.1) (S2.out.1.below B1.out) (S2.out.2.below B1.out)).mono ?_
  rintro e w2 ⟨rfl, hb2⟩
  have B2 : Hid (Below w.heap.size w w2) := B1.out.trans (hb2.mono B1.out.size)
  have HA2 : Hid (Box w2 w.heap.size [.slice a1 n1 c1, .slice a2 n2 c2, .bool A, .slice a3 n3 c3]) := HA.out.below hb2
  have HB2 : Hid (Box w2 (w.heap.size + 1) [.slice b1 n1 d1, .slice b2 n2 d2, .bool A, .slice b3 n3 d3]) := HB.out.below hb2
  clear hb2 HA HB B1 p1 q1
  obtain ⟨p2, _⟩ := HA2.out 2 _ rfl
  obtain ⟨q2, _⟩ := HB2.out 2 _ rfl
  obtain ⟨p3, _⟩ := HA2.out 3 _ rfl
  obtain ⟨q3, _⟩ := HB2.out 3 _ rfl
  go_wp2_with fail
  refine (eqIntS a3 b3 n3 c3 d3 D.K _ N3.out (by rw [← N3.out]; exact HS.out.2.2) (S3.out.1.below B2.out) (S3.out.2.below B2.out)).mono ?_
  rintro e w3 ⟨rfl, hb3⟩
  have B3 : Hid (Below w.heap.size w w3) := B2.out.trans (hb3.mono B2.out.size)
  clear hb3 p2 q2 p3 q3
  go_wp2_with fail
  go_ret
  exact ⟨rfl, B3.out⟩

end Go.Proofs.YtnnimocaanofjaaGreatDoor

