/-
  Texts of the store, brought together: Disks, Dok, Doki. By an AI agent.
-/
import Derived.Test.YtnnimocaanofjaaGreatDoorSq22
namespace Go.Proofs.YtnnimocaanofjaaGreatDoor
open Go.ChangeShapes Go.WideShapes Go.ChangeAt Go.RowKit Go.Deep
set_option linter.unusedVariables false
set_option linter.unusedSimpArgs false
set_option maxRecDepth 100000
def ReadsD (w : World) (v : Value) (D : DM) : Prop :=
  ∃ a1 c1 a2 c2 a3 c3, v = .agg #[.slice a1 D.S.length c1, .slice a2 D.C.length c2, .bool D.A, .slice a3 D.K.length c3] ∧ Src w a1 (cellsS D.S) ∧ Src w a2 (cellsQ D.C) ∧ Src w a3 (cellsI D.K)
theorem ReadsD.below {w w' : World} {v : Value} {D : DM} (h : ReadsD w v D) (hb : Below w.heap.size w w') : ReadsD w' v D := by
  obtain ⟨a1, c1, a2, c2, a3, c3, rfl, h1, h2, h3⟩ := h
  exact ⟨a1, c1, a2, c2, a3, c3, rfl, h1.below hb, h2.below hb, h3.below hb⟩
def OwnsD (w : World) (lo hi : Nat) (v : Value) (D : DM) : Prop :=
  ∃ v1 v2 v3, v = .agg #[v1, v2, .bool D.A, v3] ∧ (w.ownsRow lo 9 1 v1 D.S.length (cellsS D.S) ∧ ∀ k, v1.ownBlock = some k → k < hi) ∧ (w.ownsRow lo 127 2 v2 D.C.length (cellsQ D.C) ∧ ∀ k, v2.ownBlock = some k → k < hi) ∧ (w.ownsRow lo 3 1 v3 D.K.length (cellsI D.K) ∧ ∀ k, v3.ownBlock = some k → k < hi)
theorem OwnsD.mk {w : World} {lo hi : Nat} {v1 v2 v3 : Value} {A : Bool} {D : DM} (hA : D.A = A) (h1 : w.ownsRow lo 9 1 v1 D.S.length (cellsS D.S)) (h2 : w.ownsRow lo 127 2 v2 D.C.length (cellsQ D.C)) (h3 : w.ownsRow lo 3 1 v3 D.K.length (cellsI D.K)) (hh : w.heap.size ≤ hi) : OwnsD w lo hi (.agg #[v1, v2, .bool A, v3]) D :=
  ⟨v1, v2, v3, by rw [hA], ⟨h1, fun k e => by have := (h1.lt k e).2; omega⟩, ⟨h2, fun k e => by have := (h2.lt k e).2; omega⟩, h3, fun k e => by have := (h3.lt k e).2; omega⟩
theorem OwnsD.reads {w : World} {lo hi : Nat} {v : Value} {D : DM} (h : OwnsD w lo hi v D) : ReadsD w v D := by
  obtain ⟨v1, v2, v3, rfl, ⟨h1, _⟩, ⟨h2, _⟩, h3, _⟩ := h
  obtain ⟨a1, c1, rfl, s1, _⟩ := own_src h1
  obtain ⟨a2, c2, rfl, s2, _⟩ := own_src h2
  obtain ⟨a3, c3, rfl, s3, _⟩ := own_src h3
  exact ⟨a1, c1, a2, c2, a3, c3, rfl, s1, s2, s3⟩
theorem OwnsD.below {w w' : World} {lo hi : Nat} {v : Value} {D : DM} (h : OwnsD w lo hi v D) (hb : Below w.heap.size w w') : OwnsD w' lo hi v D := by
  obtain ⟨v1, v2, v3, rfl, ⟨h1, k1⟩, ⟨h2, k2⟩, h3, k3⟩ := h
  exact ⟨v1, v2, v3, rfl, ⟨own_below h1 hb, k1⟩, ⟨own_below h2 hb, k2⟩, own_below h3 hb, k3⟩
theorem OwnsD.turned {w w' : World} {lo hi lo' hi' : Nat} {v : Value} {D : DM} (h : OwnsD w lo hi v D) (ht : Turned lo' hi' w w') (hd : hi ≤ lo' ∨ hi' ≤ lo) : OwnsD w' lo hi v D := by
  obtain ⟨v1, v2, v3, rfl, ⟨h1, k1⟩, ⟨h2, k2⟩, h3, k3⟩ := h
  exact ⟨v1, v2, v3, rfl, ⟨own_turned h1 ht k1 hd, k1⟩, ⟨own_turned h2 ht k2 hd, k2⟩, own_turned h3 ht k3 hd, k3⟩
def smallD (D : DM) : Prop := (D.S.length ≤ 1048576 ∧ ∀ x ∈ D.S, x.size ≤ 1048576) ∧ (D.C.length ≤ 1048576 ∧ ∀ x ∈ D.C, x.2.size ≤ 1048576) ∧ D.K.length ≤ 1048576
set_option maxHeartbeats 1000000 in
theorem toDisk (v : Value) (D : DM) (w : World) (hs : smallD D) (h : ReadsD w v D) :
    Calls Tryz.prog 15 #[v] w fun e w' => ∃ v', e = .returned v' ∧ OwnsD w' w.heap.size w'.heap.size v' D ∧ Below w.heap.size w w' := by
  obtain ⟨a1, c1, a2, c2, a3, c3, rfl, s1, s2, s3⟩ := h
  have HS : Hid (smallD D) := hs
  have S1 : Hid (Src w a1 (cellsS D.S)) := s1
  have S2 : Hid (Src w a2 (cellsQ D.C)) := s2
  have S3 : Hid (Src w a3 (cellsI D.K)) := s3
  obtain ⟨n1, hn1⟩ : ∃ n, D.S.length = n := ⟨_, rfl⟩
  obtain ⟨n2, hn2⟩ : ∃ n, D.C.length = n := ⟨_, rfl⟩
  obtain ⟨n3, hn3⟩ : ∃ n, D.K.length = n := ⟨_, rfl⟩
  obtain ⟨A, hA⟩ : ∃ A, D.A = A := ⟨_, rfl⟩
  rw [hn1, hn2, hn3, hA]
  have N1 : Hid (D.S.length = n1) := hn1
  have N2 : Hid (D.C.length = n2) := hn2
  have N3 : Hid (D.K.length = n3) := hn3
  have NA : Hid (D.A = A) := hA
  clear hs s1 s2 s3 hn1 hn2 hn3 hA
  go_enter Tryz.func15, Tryz.ntmps15
  go_wp2_with fail
  refine (toStringS a1 n1 c1 D.S _ N1.out (by have := HS.out.1.1; rw [N1.out] at this; exact this) (S1.out.below ((((Below.refl _ _).alloc (Nat.le_refl _) _).alloc (by simp) _).alloc (by simp; omega) _))).mono ?_
  rintro e w1 ⟨v1, rfl, o1, hb1⟩
  obtain ⟨b1, d1, rfl, _, _⟩ := own_src o1
  have B1 : Hid (Below w.heap.size w w1) := ((((Below.refl _ _).alloc (Nat.le_refl _) _).alloc (by simp) _).alloc (by simp; omega) _).trans (hb1.mono (by simp; omega))
  have HA : Hid (Box w1 w.heap.size [.slice a1 n1 c1, .slice a2 n2 c2, .bool A, .slice a3 n3 c3]) := Box.below (((Box.new rfl).old _).old _) hb1
  have HR : Hid (Box w1 (w.heap.size + 1) [.slice none 0 0, .slice none 0 0, .bool false, .slice none 0 0]) := Box.below ((Box.new (by simp)).old _) hb1
  have HO : Hid (Box w1 (w.heap.size + 1 + 1) [.slice none 0 0, .slice none 0 0, .bool false, .slice none 0 0]) := Box.below (Box.new (by simp)) hb1
  have O1 : Hid (w1.ownsRow (w.heap.size + 3) 9 1 (.slice b1 n1 d1) n1 (cellsS D.S)) := own_mono o1 (by simp)
  clear o1 hb1
  obtain ⟨p1, _⟩ := HA.out 1 _ rfl
  obtain ⟨q0', q0f⟩ := HO.out 0 _ rfl
  go_wp2_with fail
  refine (toPendingS a2 n2 c2 D.C _ N2.out (by have := HS.out.2.1.1; rw [N2.out] at this; exact this) (S2.out.below (Below.setCell (p := ⟨w.heap.size + 1 + 1, 0, none⟩) B1.out (by show _ ≤ w.heap.size + 1 + 1; omega) _))).mono ?_
  rintro e w2 ⟨v2, rfl, o2, hb2⟩
  obtain ⟨b2, d2, rfl, _, _⟩ := own_src o2
  have B2 : Hid (Below w.heap.size w w2) := (Below.setCell (p := ⟨w.heap.size + 1 + 1, 0, none⟩) B1.out (by show _ ≤ w.heap.size + 1 + 1; omega) _).trans (hb2.mono (by simp; exact B1.out.size))
  have HA2 : Hid (Box w2 w.heap.size [.slice a1 n1 c1, .slice a2 n2 c2, .bool A, .slice a3 n3 c3]) := (HA.out.other _ (by dsimp only; omega) _).below hb2
  have HR2 : Hid (Box w2 (w.heap.size + 1) [.slice none 0 0, .slice none 0 0, .bool false, .slice none 0 0]) := (HR.out.other _ (by dsimp only; omega) _).below hb2
  have HO2 : Hid (Box w2 (w.heap.size + 1 + 1) [.slice b1 n1 d1, .slice none 0 0, .bool false, .slice none 0 0]) := (HO.out.set 0 (.slice b1 n1 d1)).below hb2
  have O12 : Hid (w2.ownsRow (w.heap.size + 3) 9 1 (.slice b1 n1 d1) n1 (cellsS D.S)) := own_below (own_setLow O1.out (by dsimp only; omega) _) hb2
  have X1 : Hid (w.heap.size + 3 ≤ w1.heap.size) := World.block_lt_of_cell? _ _ (HO.out 0 _ rfl).1
  have O22 : Hid (w2.ownsRow (w.heap.size + 3) 127 2 (.slice b2 n2 d2) n2 (cellsQ D.C)) := own_mono o2 (by simp; exact X1.out)
  clear O1 HA HR HO B1 o2 hb2 p1 q0' q0f
  obtain ⟨p2, _⟩ := HA2.out 2 _ rfl
  obtain ⟨p3, _⟩ := HA2.out 3 _ rfl
  obtain ⟨q1', q1f⟩ := HO2.out 1 _ rfl
  have p2' : (w2.setCell ⟨w.heap.size + 1 + 1, 1, none⟩ (.slice b2 n2 d2)).cell? ⟨w.heap.size, 2, none⟩ = some (.bool A) := ((HA2.out.other _ (by dsimp only; omega) _) 2 _ rfl).1
  obtain ⟨q2', q2f⟩ := (HO2.out.set 1 (.slice b2 n2 d2)) 2 _ rfl
  have p3' : ((w2.setCell ⟨w.heap.size + 1 + 1, 1, none⟩ (.slice b2 n2 d2)).setCell ⟨w.heap.size + 1 + 1, 2, none⟩ (.bool A)).cell? ⟨w.heap.size, 3, none⟩ = some (.slice a3 n3 c3) := (((HA2.out.other _ (by dsimp only; omega) _).other _ (by dsimp only; omega) _) 3 _ rfl).1
  go_wp2_with fail
  have B2' : Hid (Below w.heap.size w ((w2.setCell ⟨w.heap.size + 1 + 1, 1, none⟩ (.slice b2 n2 d2)).setCell ⟨w.heap.size + 1 + 1, 2, none⟩ (.bool A))) := (Below.setCell (p := ⟨w.heap.size + 1 + 1, 2, none⟩) (Below.setCell (p := ⟨w.heap.size + 1 + 1, 1, none⟩) B2.out (by show _ ≤ w.heap.size + 1 + 1; omega) _) (by show _ ≤ w.heap.size + 1 + 1; omega) _)
  refine (toIntS a3 n3 c3 D.K _ N3.out (by have := HS.out.2.2; rw [N3.out] at this; exact this) (S3.out.below B2'.out)).mono ?_
  rintro e w3 ⟨v3, rfl, o3, hb3⟩
  obtain ⟨b3, d3, rfl, _, _⟩ := own_src o3
  have B3 : Hid (Below w.heap.size w w3) := B2'.out.trans (hb3.mono B2'.out.size)
  have HR3 : Hid (Box w3 (w.heap.size + 1) [.slice none 0 0, .slice none 0 0, .bool false, .slice none 0 0]) := ((HR2.out.other _ (by dsimp only; omega) _).other _ (by dsimp only; omega) _).below hb3
  have HO3 : Hid (Box w3 (w.heap.size + 1 + 1) [.slice b1 n1 d1, .slice b2 n2 d2, .bool A, .slice none 0 0]) := ((HO2.out.set 1 (.slice b2 n2 d2)).set 2 (.bool A)).below hb3
  have O13 : Hid (w3.ownsRow (w.heap.size + 3) 9 1 (.slice b1 n1 d1) n1 (cellsS D.S)) := own_below (own_setLow (own_setLow O12.out (by dsimp only; omega) _) (by dsimp only; omega) _) hb3
  have O23 : Hid (w3.ownsRow (w.heap.size + 3) 127 2 (.slice b2 n2 d2) n2 (cellsQ D.C)) := own_below (own_setLow (own_setLow O22.out (by dsimp only; omega) _) (by dsimp only; omega) _) hb3
  have X2 : Hid (w.heap.size + 3 ≤ w2.heap.size) := World.block_lt_of_cell? _ _ (HO2.out 0 _ rfl).1
  have O33 : Hid (w3.ownsRow (w.heap.size + 3) 3 1 (.slice b3 n3 d3) n3 (cellsI D.K)) := own_mono o3 (by simp; exact X2.out)
  clear O12 O22 HA2 HR2 HO2 B2 B2' o3 hb3 p2 p3 p2' p3' q1' q1f q2' q2f
  obtain ⟨q3', q3f⟩ := HO3.out 3 _ rfl
  have HO4 : Hid (Box (w3.setCell ⟨w.heap.size + 1 + 1, 3, none⟩ (.slice b3 n3 d3)) (w.heap.size + 1 + 1) [.slice b1 n1 d1, .slice b2 n2 d2, .bool A, .slice b3 n3 d3]) := HO3.out.set 3 _
  have HR4 : Hid (Box (w3.setCell ⟨w.heap.size + 1 + 1, 3, none⟩ (.slice b3 n3 d3)) (w.heap.size + 1) [.slice none 0 0, .slice none 0 0, .bool false, .slice none 0 0]) := HR3.out.other _ (by dsimp only; omega) _
  obtain ⟨f0, _⟩ := HO4.out 0 _ rfl
  obtain ⟨f1, _⟩ := HO4.out 1 _ rfl
  obtain ⟨f2, _⟩ := HO4.out 2 _ rfl
  obtain ⟨f3, _⟩ := HO4.out 3 _ rfl
  obtain ⟨g0, h0⟩ := HR4.out 0 _ rfl
  obtain ⟨g1, h1⟩ := (HR4.out.set 0 (.slice b1 n1 d1)) 1 _ rfl
  obtain ⟨g2, h2⟩ := ((HR4.out.set 0 (.slice b1 n1 d1)).set 1 (.slice b2 n2 d2)) 2 _ rfl
  obtain ⟨g3, h3⟩ := (((HR4.out.set 0 (.slice b1 n1 d1)).set 1 (.slice b2 n2 d2)).set 2 (.bool A)) 3 _ rfl
  have HR5 := (((HR4.out.set 0 (.slice b1 n1 d1)).set 1 (.slice b2 n2 d2)).set 2 (.bool A)).set 3 (.slice b3 n3 d3)
  obtain ⟨r0, _⟩ := HR5 0 _ rfl
  obtain ⟨r1, _⟩ := HR5 1 _ rfl
  obtain ⟨r2, _⟩ := HR5 2 _ rfl
  obtain ⟨r3, _⟩ := HR5 3 _ rfl
  go_wp2_with fail
  refine bodyPost_ret (v := .agg #[.slice b1 n1 d1, .slice b2 n2 d2, .bool A, .slice b3 n3 d3]) (by simp [results, Tryz.results15, go_sem, r0, r1, r2, r3]) rfl ⟨_, rfl, ?_, ?_⟩
  · refine OwnsD.mk NA.out ?_ ?_ ?_ (Nat.le_refl _)
    · rw [N1.out]
      exact own_mono (own_setLow (own_setLow (own_setLow (own_setLow (own_setLow O13.out (by dsimp only; omega) _) (by dsimp only; omega) _) (by dsimp only; omega) _) (by dsimp only; omega) _) (by dsimp only; omega) _) (by omega)
    · rw [N2.out]
      exact own_mono (own_setLow (own_setLow (own_setLow (own_setLow (own_setLow O23.out (by dsimp only; omega) _) (by dsimp only; omega) _) (by dsimp only; omega) _) (by dsimp only; omega) _) (by dsimp only; omega) _) (by omega)
    · rw [N3.out]
      exact own_mono (own_setLow (own_setLow (own_setLow (own_setLow (own_setLow O33.out (by dsimp only; omega) _) (by dsimp only; omega) _) (by dsimp only; omega) _) (by dsimp only; omega) _) (by dsimp only; omega) _) (by omega)
  · exact Below.setCell (Below.setCell (Below.setCell (Below.setCell (Below.setCell B3.out (by dsimp only; omega) _) (by dsimp only; omega) _) (by dsimp only; omega) _) (by dsimp only; omega) _) (by dsimp only; omega) _
set_option maxHeartbeats 1000000 in
theorem eqDisk (v v' : Value) (D : DM) (w : World) (hs : D.S.length ≤ 9000000000000000000 ∧ D.C.length ≤ 9000000000000000000 ∧ D.K.length ≤ 9000000000000000000) (h : ReadsD w v D) (h' : ReadsD w v' D) :
    Calls Tryz.prog 17 #[v, v'] w fun e w' => e = .returned (.bool true) ∧ Below w.heap.size w w' := by
  obtain ⟨a1, c1, a2, c2, a3, c3, rfl, s1, s2, s3⟩ := h
  obtain ⟨b1, d1, b2, d2, b3, d3, rfl, t1, t2, t3⟩ := h'
  have HS : Hid (D.S.length ≤ 9000000000000000000 ∧ D.C.length ≤ 9000000000000000000 ∧ D.K.length ≤ 9000000000000000000) := hs
  have S1 : Hid (Src w a1 (cellsS D.S) ∧ Src w b1 (cellsS D.S)) := ⟨s1, t1⟩
  have S2 : Hid (Src w a2 (cellsQ D.C) ∧ Src w b2 (cellsQ D.C)) := ⟨s2, t2⟩
  have S3 : Hid (Src w a3 (cellsI D.K) ∧ Src w b3 (cellsI D.K)) := ⟨s3, t3⟩
  obtain ⟨n1, hn1⟩ : ∃ n, D.S.length = n := ⟨_, rfl⟩
  obtain ⟨n2, hn2⟩ : ∃ n, D.C.length = n := ⟨_, rfl⟩
  obtain ⟨n3, hn3⟩ : ∃ n, D.K.length = n := ⟨_, rfl⟩
  obtain ⟨A, hA⟩ : ∃ A, D.A = A := ⟨_, rfl⟩
  rw [hn1, hn2, hn3, hA]
  have N1 : Hid (D.S.length = n1) := hn1
  have N2 : Hid (D.C.length = n2) := hn2
  have N3 : Hid (D.K.length = n3) := hn3
  have hAA : (A != A) = false := by simp
  clear hs s1 s2 s3 hn1 hn2 hn3 hA t1 t2 t3
  go_enter Tryz.func17, Tryz.ntmps17
  go_wp2_with fail
  refine (eqStringS a1 b1 n1 c1 d1 D.S _ N1.out (by rw [← N1.out]; exact HS.out.1) (S1.out.1.below (((Below.refl _ _).alloc (Nat.le_refl _) _).alloc (by simp) _)) (S1.out.2.below (((Below.refl _ _).alloc (Nat.le_refl _) _).alloc (by simp) _))).mono ?_
  rintro e w1 ⟨rfl, hb1⟩
  have B1 : Hid (Below w.heap.size w w1) := (((Below.refl _ _).alloc (Nat.le_refl _) _).alloc (by simp) _).trans (hb1.mono (by simp; omega))
  have HA : Hid (Box w1 w.heap.size [.slice a1 n1 c1, .slice a2 n2 c2, .bool A, .slice a3 n3 c3]) := Box.below ((Box.new rfl).old _) hb1
  have HB : Hid (Box w1 (w.heap.size + 1) [.slice b1 n1 d1, .slice b2 n2 d2, .bool A, .slice b3 n3 d3]) := Box.below (Box.new (by simp)) hb1
  clear hb1
  obtain ⟨p1, _⟩ := HA.out 1 _ rfl
  obtain ⟨q1, _⟩ := HB.out 1 _ rfl
  go_wp2_with fail
  refine (eqPendingS a2 b2 n2 c2 d2 D.C _ N2.out (by rw [← N2.out]; exact HS.out.2.1) (S2.out.1.below B1.out) (S2.out.2.below B1.out)).mono ?_
  rintro e w2 ⟨rfl, hb2⟩
  have B2 : Hid (Below w.heap.size w w2) := B1.out.trans (hb2.mono B1.out.size)
  have HA2 : Hid (Box w2 w.heap.size [.slice a1 n1 c1, .slice a2 n2 c2, .bool A, .slice a3 n3 c3]) := HA.out.below hb2
  have HB2 : Hid (Box w2 (w.heap.size + 1) [.slice b1 n1 d1, .slice b2 n2 d2, .bool A, .slice b3 n3 d3]) := HB.out.below hb2
  clear hb2 HA HB B1 p1 q1
  obtain ⟨p2, _⟩ := HA2.out 2 _ rfl
  obtain ⟨q2, _⟩ := HB2.out 2 _ rfl
  obtain ⟨p3, _⟩ := HA2.out 3 _ rfl
  obtain ⟨q3, _⟩ := HB2.out 3 _ rfl
  go_wp2_with fail
  refine (eqIntS a3 b3 n3 c3 d3 D.K _ N3.out (by rw [← N3.out]; exact HS.out.2.2) (S3.out.1.below B2.out) (S3.out.2.below B2.out)).mono ?_
  rintro e w3 ⟨rfl, hb3⟩
  have B3 : Hid (Below w.heap.size w w3) := B2.out.trans (hb3.mono B2.out.size)
  clear hb3 p2 q2 p3 q3
  go_wp2_with fail
  go_ret
  exact ⟨rfl, B3.out⟩
def markedD (D : DM) (k : Nat) : DM := ⟨mkS k D.S.length, mkQ (k + D.S.length) D.C.length, D.A, mkI (k + D.S.length + D.C.length * 2) D.K.length⟩
def endD (D : DM) (k : Nat) : Nat := k + D.S.length + D.C.length * 2 + D.K.length
set_option maxHeartbeats 1000000 in
theorem markDisk (v : Value) (D : DM) (lo hi k : Nat) (w : World) (hs : D.S.length ≤ 1048576 ∧ D.C.length ≤ 1048576 ∧ D.K.length ≤ 1048576) (hk0 : 0 < k) (hk1 : k ≤ 1048576) (hh : hi ≤ w.heap.size) (h : OwnsD w lo hi v D) :
    Calls Tryz.prog 18 #[v, .int .i64 (k : Int)] w fun e w' => e = .returned (.int .i64 ((endD D k : Nat) : Int)) ∧ Turned lo hi w w' ∧ OwnsD w' lo hi v (markedD D k) := by
  obtain ⟨v1, v2, v3, rfl, ⟨h1, k1⟩, ⟨h2, k2⟩, h3, k3⟩ := h
  have D12 := own_ne h1 h2 (by decide)
  have D13 := own_ne h1 h3 (by decide)
  have D23 := own_ne h2 h3 (by decide)
  have HD : Hid ((∀ g, v1.ownBlock = some g → v2.ownBlock ≠ some g) ∧ (∀ g, v1.ownBlock = some g → v3.ownBlock ≠ some g) ∧ (∀ g, v2.ownBlock = some g → v3.ownBlock ≠ some g)) := ⟨D12, D13, D23⟩
  have K1 : Hid (∀ g, v1.ownBlock = some g → lo ≤ g ∧ g < hi) := fun g e => ⟨(h1.lt g e).1, k1 g e⟩
  have K2 : Hid (∀ g, v2.ownBlock = some g → lo ≤ g ∧ g < hi) := fun g e => ⟨(h2.lt g e).1, k2 g e⟩
  have K3 : Hid (∀ g, v3.ownBlock = some g → lo ≤ g ∧ g < hi) := fun g e => ⟨(h3.lt g e).1, k3 g e⟩
  clear D12 D13 D23 k1 k2 k3
  obtain ⟨a1, c1, rfl, _, _⟩ := own_src h1
  obtain ⟨a2, c2, rfl, _, _⟩ := own_src h2
  obtain ⟨a3, c3, rfl, _, _⟩ := own_src h3
  obtain ⟨n1, hn1⟩ : ∃ n, D.S.length = n := ⟨_, rfl⟩
  obtain ⟨n2, hn2⟩ : ∃ n, D.C.length = n := ⟨_, rfl⟩
  obtain ⟨n3, hn3⟩ : ∃ n, D.K.length = n := ⟨_, rfl⟩
  obtain ⟨A, hA⟩ : ∃ A, D.A = A := ⟨_, rfl⟩
  unfold markedD endD
  rw [hn1] at h1 hs HD K1 ⊢
  rw [hn2] at h2 hs HD K2 ⊢
  rw [hn3] at h3 hs HD K3 ⊢
  rw [hA]
  obtain ⟨x1, hx1⟩ : ∃ x, cellsS D.S = x := ⟨_, rfl⟩
  obtain ⟨x2, hx2⟩ : ∃ x, cellsQ D.C = x := ⟨_, rfl⟩
  obtain ⟨x3, hx3⟩ : ∃ x, cellsI D.K = x := ⟨_, rfl⟩
  rw [hx1] at h1
  rw [hx2] at h2
  rw [hx3] at h3
  obtain ⟨z1, z2, z3⟩ := hs
  have H1 : Hid (w.ownsRow lo 9 1 (.slice a1 n1 c1) n1 x1) := h1
  have H2 : Hid (w.ownsRow lo 127 2 (.slice a2 n2 c2) n2 x2) := h2
  have H3 : Hid (w.ownsRow lo 3 1 (.slice a3 n3 c3) n3 x3) := h3
  have HH : Hid (hi ≤ w.heap.size) := hh
  clear h1 h2 h3 hn1 hn2 hn3 hA hx1 hx2 hx3 hh
  go_enter Tryz.func18, Tryz.ntmps18
  go_wp2_with fail
  refine (markStringS _ n1 k lo x1 _ z1 hk0 (by omega) (H1.out.alloc _)).mono ?_
  rintro e w1 ⟨rfl, g1, o1⟩
  have T1 : Hid (Turned lo hi w w1) := (Turned.of_below ((Below.refl _ _).alloc (Nat.le_refl _) _)).trans (Turned.of_grown g1 K1.out)
  have O1 : Hid (w1.ownsRow lo 9 1 (.slice a1 n1 c1) n1 (cellsS (mkS k n1))) := o1
  have O2 : Hid (w1.ownsRow lo 127 2 (.slice a2 n2 c2) n2 x2) := own_grown (H2.out.alloc _) g1 (fun g e e2 => HD.out.1 g e2 e)
  have O3 : Hid (w1.ownsRow lo 3 1 (.slice a3 n3 c3) n3 x3) := own_grown (H3.out.alloc _) g1 (fun g e e2 => HD.out.2.1 g e2 e)
  have HX : Hid (Box w1 w.heap.size [.slice a1 n1 c1, .slice a2 n2 c2, .bool A, .slice a3 n3 c3]) := Box.grown (Box.new rfl) g1 (fun e => by have := (K1.out _ e).2; have := HH.out; omega)
  clear g1 o1 H1 H2 H3
  obtain ⟨p1, _⟩ := HX.out 1 _ rfl
  go_wp2_with fail
  rw [show ((k : Int) + (n1 : Int)) = ((k + n1 : Nat) : Int) from by omega]
  refine (markPendingS _ n2 (k + n1) lo x2 _ z2 (by omega) (by omega) O2.out).mono ?_
  rintro e w2 ⟨rfl, g2, o2⟩
  have T2 : Hid (Turned lo hi w w2) := T1.out.trans (Turned.of_grown g2 K2.out)
  have O12 : Hid (w2.ownsRow lo 9 1 (.slice a1 n1 c1) n1 (cellsS (mkS k n1))) := own_grown O1.out g2 (fun g e e2 => HD.out.1 g e e2)
  have O22 : Hid (w2.ownsRow lo 127 2 (.slice a2 n2 c2) n2 (cellsQ (mkQ (k + n1) n2))) := o2
  have O32 : Hid (w2.ownsRow lo 3 1 (.slice a3 n3 c3) n3 x3) := own_grown O3.out g2 (fun g e e2 => HD.out.2.2 g e2 e)
  have HX2 : Hid (Box w2 w.heap.size [.slice a1 n1 c1, .slice a2 n2 c2, .bool A, .slice a3 n3 c3]) := Box.grown HX.out g2 (fun e => by have := (K2.out _ e).2; have := HH.out; omega)
  clear g2 o2 O1 O2 O3 T1 HX p1
  obtain ⟨p3, _⟩ := HX2.out 3 _ rfl
  go_wp2_with fail
  rw [show ((k : Int) + (n1 : Int) + (n2 : Int) * 2) = ((k + n1 + n2 * 2 : Nat) : Int) from by omega]
  refine (markIntS _ n3 (k + n1 + n2 * 2) lo x3 _ z3 (by omega) (by omega) O32.out).mono ?_
  rintro e w3 ⟨rfl, g3, o3⟩
  have T3 : Hid (Turned lo hi w w3) := T2.out.trans (Turned.of_grown g3 K3.out)
  have O13 : Hid (w3.ownsRow lo 9 1 (.slice a1 n1 c1) n1 (cellsS (mkS k n1))) := own_grown O12.out g3 (fun g e e2 => HD.out.2.1 g e e2)
  have O23 : Hid (w3.ownsRow lo 127 2 (.slice a2 n2 c2) n2 (cellsQ (mkQ (k + n1) n2))) := own_grown O22.out g3 (fun g e e2 => HD.out.2.2 g e e2)
  have O33 : Hid (w3.ownsRow lo 3 1 (.slice a3 n3 c3) n3 (cellsI (mkI (k + n1 + n2 * 2) n3))) := o3
  clear g3 o3 O12 O22 O32 T2 HX2 p3
  go_wp2_with fail
  go_ret
  refine ⟨rfl, T3.out, _, _, _, rfl, ⟨?_, fun g e => (K1.out g e).2⟩, ⟨?_, fun g e => (K2.out g e).2⟩, ?_, fun g e => (K3.out g e).2⟩
  · simpa [mkS_length] using O13.out
  · simpa [mkQ_length] using O23.out
  · simpa [mkI_length] using O33.out
theorem in01_yes (a b c : Int) (w : World) (h : b ≤ a ∧ a ≤ c) : Calls Tryz.prog 77 #[.int .i64 a, .int .i64 b, .int .i64 c] w fun e w' => e = .returned (.bool true) ∧ w = w' := by
  obtain ⟨h1, h2⟩ := h
  go_enter Tryz.func77, Tryz.ntmps77
  go_wp2
  go_ret
  exact ⟨rfl, rfl⟩
theorem in01_no (a b c : Int) (w : World) (h : ¬ (b ≤ a ∧ a ≤ c)) : Calls Tryz.prog 77 #[.int .i64 a, .int .i64 b, .int .i64 c] w fun e w' => e = .returned (.bool false) ∧ w = w' := by
  by_cases h1 : b ≤ a
  · have h2 : decide (a ≤ c) = false := decide_eq_false (by omega)
    clear h
    go_enter Tryz.func77, Tryz.ntmps77
    go_wp2
    go_ret
    exact ⟨rfl, rfl⟩
  · have h2 : a < b := by omega
    clear h h1
    go_enter Tryz.func77, Tryz.ntmps77
    go_wp2
    go_ret
    exact ⟨rfl, rfl⟩
theorem ret_no {p : Prop} [Decidable p] (h : ¬ p) : Ending.returned (.bool false) = Ending.returned (.bool (decide p)) := by rw [decide_eq_false h]
theorem ret_yes {p : Prop} [Decidable p] (h : p) : Ending.returned (.bool true) = Ending.returned (.bool (decide p)) := by rw [decide_eq_true h]
set_option maxHeartbeats 2000000 in
theorem specDiskOK (v : Value) (D : DM) (w : World) (hs : smallD D) (h : ReadsD w v D) :
    Calls Tryz.prog 32 #[v] w fun e w' => e = .returned (.bool (decide (okD D))) ∧ Below w.heap.size w w' := by
  obtain ⟨a1, c1, a2, c2, a3, c3, rfl, s1, s2, s3⟩ := h
  have HS : Hid (smallD D) := hs
  have S1 : Hid (Src w a1 (cellsS D.S)) := s1
  have S2 : Hid (Src w a2 (cellsQ D.C)) := s2
  obtain ⟨n1, hn1⟩ : ∃ n, D.S.length = n := ⟨_, rfl⟩
  obtain ⟨n2, hn2⟩ : ∃ n, D.C.length = n := ⟨_, rfl⟩
  obtain ⟨n3, hn3⟩ : ∃ n, D.K.length = n := ⟨_, rfl⟩
  obtain ⟨A, hA⟩ : ∃ A, D.A = A := ⟨_, rfl⟩
  obtain ⟨bb, hbb⟩ : ∃ bb, decide (okD D) = bb := ⟨_, rfl⟩
  have HBB : Hid (decide (okD D) = bb) := hbb
  rw [hbb]
  clear hbb
  rw [hn1, hn2, hn3, hA]
  have z1 : n1 ≤ 1048576 := by rw [← hn1]; exact hs.1.1
  have z2 : n2 ≤ 1048576 := by rw [← hn2]; exact hs.2.1.1
  have z3 : n3 ≤ 1048576 := by rw [← hn3]; exact hs.2.2
  have N1 : Hid (D.S.length = n1) := hn1
  have N2 : Hid (D.C.length = n2) := hn2
  have N3 : Hid (D.K.length = n3) := hn3
  have NA : Hid (D.A = A) := hA
  clear hs s1 s2 s3 hn1 hn2 hn3 hA
  by_cases t1 : (1 : Int) ≤ (n1 : Int) ∧ (n1 : Int) ≤ 80
  case neg =>
    have F : Hid (¬ okD D) := fun h => t1 (by have := h.1.1; have := h.1.2.1; have := N1.out; omega)
    go_enter Tryz.func32, Tryz.ntmps32
    go_wp2_with fail
    refine (in01_no _ _ _ _ t1).mono ?_
    rintro e w' ⟨rfl, rfl⟩
    clear t1
    go_wp2_with fail
    go_ret
    exact ⟨(by rw [← HBB.out]; exact ret_no F.out), (Below.refl _ _).alloc (Nat.le_refl _) _⟩
  by_cases t2 : (500 : Int) < (n2 : Int)
  · have F : Hid (¬ okD D) := fun h => by have := h.2.1.1; have := N2.out; omega
    go_enter Tryz.func32, Tryz.ntmps32
    go_wp2_with fail
    refine (in01_yes _ _ _ _ t1).mono ?_
    rintro e w' ⟨rfl, rfl⟩
    clear t1
    go_wp2_with fail
    go_ret
    exact ⟨(by rw [← HBB.out]; exact ret_no F.out), (Below.refl _ _).alloc (Nat.le_refl _) _⟩
  by_cases t3 : (500 : Int) < (n3 : Int)
  · have F : Hid (¬ okD D) := fun h => by have := h.2.2.1; have := N3.out; omega
    go_enter Tryz.func32, Tryz.ntmps32
    go_wp2_with fail
    refine (in01_yes _ _ _ _ t1).mono ?_
    rintro e w' ⟨rfl, rfl⟩
    clear t1
    go_wp2_with fail
    go_ret
    exact ⟨(by rw [← HBB.out]; exact ret_no F.out), (Below.refl _ _).alloc (Nat.le_refl _) _⟩
  by_cases t4 : A = false ∧ (0 : Int) < (n3 : Int)
  · obtain ⟨rfl, t5⟩ := t4
    have F : Hid (¬ okD D) := fun h => by have := h.2.2.2 NA.out; have := N3.out; omega
    go_enter Tryz.func32, Tryz.ntmps32
    go_wp2_with fail
    refine (in01_yes _ _ _ _ t1).mono ?_
    rintro e w' ⟨rfl, rfl⟩
    clear t1
    go_wp2_with fail
    go_ret
    exact ⟨(by rw [← HBB.out]; exact ret_no F.out), (Below.refl _ _).alloc (Nat.le_refl _) _⟩
  have HT : Hid (1 ≤ n1 ∧ n1 ≤ 80 ∧ n2 ≤ 500 ∧ n3 ≤ 500 ∧ (D.A = false → D.K.length = 0)) := ⟨by omega, by omega, by omega, by omega, fun h => by
    apply Decidable.byContradiction
    intro h2
    exact t4 ⟨NA.out.symm.trans h, by have := N3.out; omega⟩⟩
  have t6 : (A = true ∨ A = false ∧ n3 = 0) := by
    cases A with
    | true => exact .inl rfl
    | false => exact .inr ⟨rfl, by apply Decidable.byContradiction; intro h2; exact t4 ⟨rfl, by omega⟩⟩
  clear t4
  rcases t6 with rfl | ⟨rfl, rfl⟩
  all_goals
    go_enter Tryz.func32, Tryz.ntmps32
    go_wp2_with fail
    refine (in01_yes _ _ _ _ t1).mono ?_
    rintro e w' ⟨rfl, rfl⟩
    go_wp2_with fail
    go_loopw [4] (fun i wr => ∃ k : Nat, k ≤ n1 ∧ i = .int .i64 k ∧ Hid (∀ i, i < k → (D.S.getD i e0).size ≤ 420) ∧ Hid (Below w.heap.size w wr) ∧ Hid (∃ b x, Box wr w.heap.size [.slice a1 n1 c1, .slice a2 n2 c2, b, x])) (fun i _ => n1 - (intOf i).toNat)
    case atStart => exact ⟨0, by omega, rfl, fun i hi => absurd hi (by omega), (Below.refl _ _).alloc (Nat.le_refl _) _, _, _, Box.new rfl⟩
    case round =>
      obtain ⟨k, hk, rfl, hall, hb, hbx⟩ := hrel
      obtain ⟨bb, xx, hbx⟩ := hbx.out
      have HX : Hid (Box wr w.heap.size [.slice a1 n1 c1, .slice a2 n2 c2, bb, xx]) := hbx
      clear hbx
      obtain ⟨p0, _⟩ := HX.out 0 _ rfl
      by_cases hlt : k < n1
      · obtain ⟨b, o, y, rfl, hc, hy⟩ := srcS (S1.out.below hb.out) (i := k) (by rw [N1.out]; exact hlt)
        have hsz : y.size ≤ 1048576 := by rw [← hy.out]; exact HS.out.1.2 _ (getD_mem _ _ _ (by rw [N1.out]; exact hlt))
        by_cases hbig : (420 : Int) < (y.size : Int)
        · have F : Hid (¬ okD D) := fun h => by
            have h1 := (all_iff D.S e0 (fun x => x.size ≤ 420)).1 h.1.2.2 k (by rw [N1.out]; exact hlt)
            rw [hy.out] at h1
            omega
          go_wp2_with fail
          go_ret
          exact ⟨(by rw [← HBB.out]; exact ret_no F.out), hb.out⟩
        · have hall2 : Hid (∀ i, i < k + 1 → (D.S.getD i e0).size ≤ 420) := fun i hi => by
            by_cases e : i = k
            · rw [e, hy.out]; omega
            · exact hall.out i (by omega)
          go_wp2_with fail
          exact ⟨⟨k + 1, by omega, by go_num, hall2, hb.out, _, _, HX.out⟩, by simp [intOf]; omega⟩
      · have hkn : k = n1 := by omega
        have HA1 : Hid (∀ x ∈ D.S, x.size ≤ 420) := (all_iff D.S e0 (fun x => x.size ≤ 420)).2 (fun i hi => hall.out i (by rw [hkn, ← N1.out]; exact hi))
        clear hkn hall p0
        go_wp2_with fail
        go_loopw [5] (fun i wr => ∃ k : Nat, k ≤ n2 ∧ i = .int .i64 k ∧ Hid (∀ i, i < k → okW n1 (D.C.getD i q0)) ∧ Hid (Below w.heap.size w wr) ∧ Hid (Box wr w.heap.size [.slice a1 n1 c1, .slice a2 n2 c2, bb, xx])) (fun i _ => n2 - (intOf i).toNat)
        case atStart => exact ⟨0, by omega, rfl, fun i hi => absurd hi (by omega), hb.out, HX.out⟩
        case round =>
          clear hb HX
          obtain ⟨j, hj, rfl, hall, hb, HX⟩ := hrel
          obtain ⟨p1, _⟩ := HX.out 1 _ rfl
          by_cases hlt2 : j < n2
          · obtain ⟨b, o, x, y, rfl, hc1, hc2, hy⟩ := srcQ (S2.out.below hb.out) (i := j) (by rw [N2.out]; exact hlt2)
            have hsz : y.size ≤ 1048576 := by
              have := HS.out.2.1.2 _ (getD_mem D.C q0 j (by rw [N2.out]; exact hlt2))
              rw [hy.out] at this; exact this
            have HJ : Hid (j < D.C.length) := by show j < D.C.length; rw [N2.out]; exact hlt2
            by_cases hin : (0 : Int) ≤ x ∧ x ≤ (n1 : Int) - 1
            · have HIN : Hid ((0 : Int) ≤ x ∧ x ≤ (n1 : Int) - 1) := hin
              clear hin
              go_wp2_with fail
              refine (in01_yes _ _ _ _ HIN.out).mono ?_
              rintro e w' ⟨rfl, rfl⟩
              by_cases hbig : (420 : Int) < (y.size : Int)
              · have F : Hid (¬ okD D) := fun h => by
                  have h1 := (all_iff D.C q0 (fun x => okW D.S.length x)).1 h.2.1.2 j HJ.out
                  rw [hy.out] at h1
                  have h2 := h1.2.2
                  simp only [] at h2
                  omega
                go_wp2_with fail
                go_ret
                exact ⟨(by rw [← HBB.out]; exact ret_no F.out), hb.out.alloc hb.out.size _⟩
              · have hall2 : Hid (∀ i, i < j + 1 → okW n1 (D.C.getD i q0)) := fun i hi => by
                  by_cases e : i = j
                  · rw [e, hy.out]
                    have h1 := HIN.out
                    exact ⟨h1.1, by show x < n1; omega, by show y.size ≤ 420; omega⟩
                  · exact hall.out i (by omega)
                go_wp2_with fail
                exact ⟨⟨j + 1, by omega, by go_num, hall2, hb.out.alloc hb.out.size _, HX.out.old _⟩, by simp [intOf]; omega⟩
            · have F : Hid (¬ okD D) := fun h => by
                have h1 := (all_iff D.C q0 (fun x => okW D.S.length x)).1 h.2.1.2 j HJ.out
                rw [hy.out, N1.out] at h1
                exact hin ⟨h1.1, by have := h1.2.1; simp only [] at this; omega⟩
              have HIN : Hid (¬ ((0 : Int) ≤ x ∧ x ≤ (n1 : Int) - 1)) := hin
              clear hin
              go_wp2_with fail
              refine (in01_no _ _ _ _ HIN.out).mono ?_
              rintro e w' ⟨rfl, rfl⟩
              go_wp2_with fail
              go_ret
              exact ⟨(by rw [← HBB.out]; exact ret_no F.out), hb.out.alloc hb.out.size _⟩
          · have hjn : j = n2 := by omega
            have F : Hid (okD D) := by
              have h := HT.out
              refine ⟨⟨by rw [N1.out]; exact h.1, by rw [N1.out]; exact h.2.1, HA1.out⟩, ⟨by rw [N2.out]; exact h.2.2.1, ?_⟩, by have h5 := h.2.2.2.1; have h6 := N3.out; omega, h.2.2.2.2⟩
              rw [all_iff D.C q0, N1.out]
              intro i hi
              exact hall.out i (by rw [hjn, ← N2.out]; exact hi)
            clear hjn
            go_wp2_with fail
            go_ret
            exact ⟨(by rw [← HBB.out]; exact ret_yes F.out), hb.out⟩
abbrev okS (S : List ByteArray) : Prop := 1 ≤ S.length ∧ S.length ≤ 80 ∧ ∀ x ∈ S, x.size ≤ 420
abbrev okC (C : List (Int × ByteArray)) (n : Nat) : Prop := C.length ≤ 500 ∧ ∀ p ∈ C, okW n p
abbrev okK (K : List Int) (A : Bool) : Prop := K.length ≤ 500 ∧ (A = false → K.length = 0)
set_option maxHeartbeats 400000 in
theorem sectorsOK (a : Option Addr) (n c : Nat) (S : List ByteArray) (w : World) (hn : S.length = n) (hn1 : n ≤ 1048576) (hs : ∀ x ∈ S, x.size ≤ 1048576) (h : Src w a (cellsS S)) :
    Calls Tryz.prog 133 #[.slice a n c] w fun e w' => e = .returned (.bool (decide (okS S))) ∧ Below w.heap.size w w' := by
  obtain ⟨bb, hbb⟩ : ∃ bb, decide (okS S) = bb := ⟨_, rfl⟩
  have HBB : Hid (decide (okS S) = bb) := hbb
  rw [hbb]
  clear hbb
  have HS : Hid (∀ x ∈ S, x.size ≤ 1048576) := hs
  have HH : Hid (Src w a (cellsS S)) := h
  have N1 : Hid (S.length = n) := hn
  clear hs h hn
  by_cases t1 : (n : Int) < 1
  · have F : Hid (¬ okS S) := fun h => by have := h.1; have := N1.out; omega
    go_enter Tryz.func133, Tryz.ntmps133
    go_wp2_with fail
    go_ret
    exact ⟨(by rw [← HBB.out]; exact ret_no F.out), Below.refl _ _⟩
  by_cases t2 : (80 : Int) < (n : Int)
  · have F : Hid (¬ okS S) := fun h => by have := h.2.1; have := N1.out; omega
    go_enter Tryz.func133, Tryz.ntmps133
    go_wp2_with fail
    go_ret
    exact ⟨(by rw [← HBB.out]; exact ret_no F.out), Below.refl _ _⟩
  go_enter Tryz.func133, Tryz.ntmps133
  go_wp2_with fail
  go_loopw [15] (fun i wr => ∃ k : Nat, k ≤ n ∧ i = .int .i64 k ∧ Hid (∀ i, i < k → (S.getD i e0).size ≤ 420) ∧ Hid (Below w.heap.size w wr)) (fun i _ => n - (intOf i).toNat)
  case atStart => exact ⟨0, by omega, rfl, fun i hi => absurd hi (by omega), Below.refl _ _⟩
  case round =>
    obtain ⟨k, hk, rfl, hall, hb⟩ := hrel
    by_cases hlt : k < n
    · obtain ⟨b, o, y, rfl, hc, hy⟩ := srcS (HH.out.below hb.out) (i := k) (by rw [N1.out]; exact hlt)
      have hsz : y.size ≤ 1048576 := by rw [← hy.out]; exact HS.out _ (getD_mem _ _ _ (by rw [N1.out]; exact hlt))
      by_cases hbig : (420 : Int) < (y.size : Int)
      · have F : Hid (¬ okS S) := fun h => by
          have h1 := (all_iff S e0 (fun x => x.size ≤ 420)).1 h.2.2 k (by rw [N1.out]; exact hlt)
          rw [hy.out] at h1
          omega
        go_wp2_with fail
        go_ret
        exact ⟨(by rw [← HBB.out]; exact ret_no F.out), hb.out⟩
      · have hall2 : Hid (∀ i, i < k + 1 → (S.getD i e0).size ≤ 420) := fun i hi => by
          by_cases e : i = k
          · rw [e, hy.out]; omega
          · exact hall.out i (by omega)
        go_wp2_with fail
        exact ⟨⟨k + 1, by omega, by go_num, hall2, hb.out⟩, by simp [intOf]; omega⟩
    · have hkn : k = n := by omega
      have F : Hid (okS S) := ⟨by have := N1.out; omega, by have := N1.out; omega, (all_iff S e0 (fun x => x.size ≤ 420)).2 (fun i hi => hall.out i (by rw [hkn, ← N1.out]; exact hi))⟩
      clear hkn
      go_wp2_with fail
      go_ret
      exact ⟨(by rw [← HBB.out]; exact ret_yes F.out), hb.out⟩
set_option maxHeartbeats 400000 in
theorem writeFits (x : Int) (y : ByteArray) (n : Nat) (w : World) (hy : y.size ≤ 1048576) :
    Calls Tryz.prog 154 #[.agg #[.int .i64 x, .string y], .int .i64 (n : Int)] w fun e w' => e = .returned (.bool (decide (okW n (x, y)))) ∧ Below w.heap.size w w' := by
  obtain ⟨bb, hbb⟩ : ∃ bb, decide (okW n (x, y)) = bb := ⟨_, rfl⟩
  have HBB : Hid (decide (okW n (x, y)) = bb) := hbb
  rw [hbb]
  clear hbb
  by_cases t1 : (0 : Int) ≤ x
  case neg =>
    have F : Hid (¬ okW n (x, y)) := fun h => t1 h.1
    have t2 : x < 0 := by omega
    clear t1
    go_enter Tryz.func154, Tryz.ntmps154
    go_wp2_with fail
    go_ret
    exact ⟨(by rw [← HBB.out]; exact ret_no F.out), (Below.refl _ _).alloc (Nat.le_refl _) _⟩
  by_cases t2 : x < (n : Int)
  case neg =>
    have F : Hid (¬ okW n (x, y)) := fun h => t2 h.2.1
    have t3 : (n : Int) ≤ x := by omega
    clear t2
    go_enter Tryz.func154, Tryz.ntmps154
    go_wp2_with fail
    go_ret
    exact ⟨(by rw [← HBB.out]; exact ret_no F.out), (Below.refl _ _).alloc (Nat.le_refl _) _⟩
  by_cases t3 : (y.size : Int) ≤ 420
  · have F : Hid (okW n (x, y)) := ⟨t1, t2, by show y.size ≤ 420; omega⟩
    go_enter Tryz.func154, Tryz.ntmps154
    go_wp2_with fail
    go_ret
    exact ⟨(by rw [← HBB.out]; exact ret_yes F.out), (Below.refl _ _).alloc (Nat.le_refl _) _⟩
  · have F : Hid (¬ okW n (x, y)) := fun h => t3 (by have := h.2.2; simp only [] at this; omega)
    have t4 : decide ((y.size : Int) ≤ 420) = false := decide_eq_false t3
    clear t3
    go_enter Tryz.func154, Tryz.ntmps154
    go_wp2_with fail
    go_ret
    exact ⟨(by rw [← HBB.out]; exact ret_no F.out), (Below.refl _ _).alloc (Nat.le_refl _) _⟩
set_option maxHeartbeats 400000 in
theorem writesOK (a : Option Addr) (n c m : Nat) (C : List (Int × ByteArray)) (w : World) (hn : C.length = n) (hn1 : n ≤ 1048576) (hs : ∀ x ∈ C, x.2.size ≤ 1048576) (h : Src w a (cellsQ C)) :
    Calls Tryz.prog 134 #[.slice a n c, .int .i64 (m : Int)] w fun e w' => e = .returned (.bool (decide (okC C m))) ∧ Below w.heap.size w w' := by
  obtain ⟨bb, hbb⟩ : ∃ bb, decide (okC C m) = bb := ⟨_, rfl⟩
  have HBB : Hid (decide (okC C m) = bb) := hbb
  rw [hbb]
  clear hbb
  have HS : Hid (∀ x ∈ C, x.2.size ≤ 1048576) := hs
  have HH : Hid (Src w a (cellsQ C)) := h
  have N1 : Hid (C.length = n) := hn
  clear hs h hn
  by_cases t2 : (500 : Int) < (n : Int)
  · have F : Hid (¬ okC C m) := fun h => by have := h.1; have := N1.out; omega
    go_enter Tryz.func134, Tryz.ntmps134
    go_wp2_with fail
    go_ret
    exact ⟨(by rw [← HBB.out]; exact ret_no F.out), Below.refl _ _⟩
  go_enter Tryz.func134, Tryz.ntmps134
  go_wp2_with fail
  go_loopw [12] (fun i wr => ∃ k : Nat, k ≤ n ∧ i = .int .i64 k ∧ Hid (∀ i, i < k → okW m (C.getD i q0)) ∧ Hid (Below w.heap.size w wr)) (fun i _ => n - (intOf i).toNat)
  case atStart => exact ⟨0, by omega, rfl, fun i hi => absurd hi (by omega), Below.refl _ _⟩
  case round =>
    obtain ⟨k, hk, rfl, hall, hb⟩ := hrel
    by_cases hlt : k < n
    · obtain ⟨b, o, x, y, rfl, hc1, hc2, hy⟩ := srcQ (HH.out.below hb.out) (i := k) (by rw [N1.out]; exact hlt)
      have hsz : y.size ≤ 1048576 := by
        have := HS.out _ (getD_mem C q0 k (by rw [N1.out]; exact hlt))
        rw [hy.out] at this; exact this
      have HJ : Hid (k < C.length) := by show k < C.length; rw [N1.out]; exact hlt
      go_wp2_with fail
      refine (writeFits x y m _ hsz).mono ?_
      rintro e w1 ⟨rfl, hb1⟩
      have HB1 : Hid (Below w.heap.size w w1) := (hb.out.alloc hb.out.size _).trans (hb1.mono (le_alloc hb.out.size _))
      clear hb1
      by_cases hok : okW m (x, y)
      · have hd : decide (okW m (x, y)) = true := decide_eq_true hok
        have hall2 : Hid (∀ i, i < k + 1 → okW m (C.getD i q0)) := fun i hi => by
          by_cases e : i = k
          · rw [e, hy.out]; exact hok
          · exact hall.out i (by omega)
        rw [hd]
        clear hok hd
        go_wp2_with fail
        exact ⟨⟨k + 1, by omega, by go_num, hall2, HB1.out⟩, by simp [intOf]; omega⟩
      · have hd : decide (okW m (x, y)) = false := decide_eq_false hok
        have F : Hid (¬ okC C m) := fun h => by
          have h1 := (all_iff C q0 (fun x => okW m x)).1 h.2 k HJ.out
          rw [hy.out] at h1
          exact hok h1
        rw [hd]
        clear hok hd
        go_wp2_with fail
        go_ret
        exact ⟨(by rw [← HBB.out]; exact ret_no F.out), HB1.out⟩
    · have hkn : k = n := by omega
      have F : Hid (okC C m) := ⟨by have := N1.out; omega, (all_iff C q0 (fun x => okW m x)).2 (fun i hi => hall.out i (by rw [hkn, ← N1.out]; exact hi))⟩
      clear hkn
      go_wp2_with fail
      go_ret
      exact ⟨(by rw [← HBB.out]; exact ret_yes F.out), hb.out⟩
set_option maxHeartbeats 400000 in
theorem keepOK (a : Option Addr) (n c : Nat) (K : List Int) (A : Bool) (w : World) (hn : K.length = n) (hn1 : n ≤ 1048576) :
    Calls Tryz.prog 135 #[.slice a n c, .bool A] w fun e w' => e = .returned (.bool (decide (okK K A))) ∧ Below w.heap.size w w' := by
  obtain ⟨bb, hbb⟩ : ∃ bb, decide (okK K A) = bb := ⟨_, rfl⟩
  have HBB : Hid (decide (okK K A) = bb) := hbb
  rw [hbb]
  clear hbb
  have N1 : Hid (K.length = n) := hn
  clear hn
  cases A with
  | true =>
    by_cases t : (n : Int) ≤ 500
    · have F : Hid (okK K true) := ⟨by have := N1.out; omega, fun h => by cases h⟩
      go_enter Tryz.func135, Tryz.ntmps135
      go_wp2_with fail
      go_ret
      exact ⟨(by rw [← HBB.out]; exact ret_yes F.out), Below.refl _ _⟩
    · have F : Hid (¬ okK K true) := fun h => by have := h.1; have := N1.out; omega
      have t4 : decide ((n : Int) ≤ 500) = false := decide_eq_false t
      clear t
      go_enter Tryz.func135, Tryz.ntmps135
      go_wp2_with fail
      go_ret
      exact ⟨(by rw [← HBB.out]; exact ret_no F.out), Below.refl _ _⟩
  | false =>
    by_cases t : n = 0
    · subst t
      have F : Hid (okK K false) := ⟨by have := N1.out; omega, fun _ => N1.out⟩
      go_enter Tryz.func135, Tryz.ntmps135
      go_wp2_with fail
      go_ret
      exact ⟨(by rw [← HBB.out]; exact ret_yes F.out), Below.refl _ _⟩
    · have F : Hid (¬ okK K false) := fun h => t (by have := h.2 rfl; have := N1.out; omega)
      have t4 : ((n : Int) == 0) = false := by simp; omega
      clear t
      go_enter Tryz.func135, Tryz.ntmps135
      go_wp2_with fail
      go_ret
      exact ⟨(by rw [← HBB.out]; exact ret_no F.out), Below.refl _ _⟩
set_option maxHeartbeats 1000000 in
theorem implDiskOK (v : Value) (D : DM) (w : World) (hs : smallD D) (h : ReadsD w v D) :
    Calls Tryz.prog 99 #[v] w fun e w' => e = .returned (.bool (decide (okD D))) ∧ Below w.heap.size w w' := by
  obtain ⟨a1, c1, a2, c2, a3, c3, rfl, s1, s2, s3⟩ := h
  have HS : Hid (smallD D) := hs
  have S1 : Hid (Src w a1 (cellsS D.S)) := s1
  have S2 : Hid (Src w a2 (cellsQ D.C)) := s2
  obtain ⟨n1, hn1⟩ : ∃ n, D.S.length = n := ⟨_, rfl⟩
  obtain ⟨n2, hn2⟩ : ∃ n, D.C.length = n := ⟨_, rfl⟩
  obtain ⟨n3, hn3⟩ : ∃ n, D.K.length = n := ⟨_, rfl⟩
  obtain ⟨A, hA⟩ : ∃ A, D.A = A := ⟨_, rfl⟩
  obtain ⟨bb, hbb⟩ : ∃ bb, decide (okD D) = bb := ⟨_, rfl⟩
  have HBB : Hid (decide (okD D) = bb) := hbb
  rw [hbb]
  clear hbb
  rw [hn1, hn2, hn3, hA]
  have z1 : n1 ≤ 1048576 := by rw [← hn1]; exact hs.1.1
  have z2 : n2 ≤ 1048576 := by rw [← hn2]; exact hs.2.1.1
  have z3 : n3 ≤ 1048576 := by rw [← hn3]; exact hs.2.2
  have N1 : Hid (D.S.length = n1) := hn1
  have N2 : Hid (D.C.length = n2) := hn2
  have N3 : Hid (D.K.length = n3) := hn3
  have NA : Hid (D.A = A) := hA
  clear hs s1 s2 s3 hn1 hn2 hn3 hA
  go_enter Tryz.func99, Tryz.ntmps99
  go_wp2_with fail
  refine (sectorsOK a1 n1 c1 D.S _ N1.out z1 HS.out.1.2 (S1.out.below ((Below.refl _ _).alloc (Nat.le_refl _) _))).mono ?_
  rintro e w1 ⟨rfl, hb1⟩
  have B1 : Hid (Below w.heap.size w w1) := ((Below.refl _ _).alloc (Nat.le_refl _) _).trans (hb1.mono (by simp))
  have HX : Hid (Box w1 w.heap.size [.slice a1 n1 c1, .slice a2 n2 c2, .bool A, .slice a3 n3 c3]) := Box.below (Box.new rfl) hb1
  clear hb1
  by_cases t1 : okS D.S
  case neg =>
    have F : Hid (¬ okD D) := fun h => t1 h.1
    rw [decide_eq_false t1]
    clear t1
    go_wp2_with fail
    go_ret
    exact ⟨(by rw [← HBB.out]; exact ret_no F.out), B1.out⟩
  rw [decide_eq_true t1]
  have T1 : Hid (okS D.S) := t1
  clear t1
  obtain ⟨p0, _⟩ := HX.out 0 _ rfl
  obtain ⟨p1, _⟩ := HX.out 1 _ rfl
  go_wp2_with fail
  refine (writesOK a2 n2 c2 n1 D.C _ N2.out z2 HS.out.2.1.2 (S2.out.below B1.out)).mono ?_
  rintro e w2 ⟨rfl, hb2⟩
  have B2 : Hid (Below w.heap.size w w2) := B1.out.trans (hb2.mono B1.out.size)
  have HX2 : Hid (Box w2 w.heap.size [.slice a1 n1 c1, .slice a2 n2 c2, .bool A, .slice a3 n3 c3]) := HX.out.below hb2
  clear hb2 HX B1 p0 p1
  by_cases t2 : okC D.C n1
  case neg =>
    have F : Hid (¬ okD D) := fun h => t2 (by have := h.2.1; rw [N1.out] at this; exact this)
    rw [decide_eq_false t2]
    clear t2
    go_wp2_with fail
    go_ret
    exact ⟨(by rw [← HBB.out]; exact ret_no F.out), B2.out⟩
  rw [decide_eq_true t2]
  have T2 : Hid (okC D.C n1) := t2
  clear t2
  obtain ⟨p2, _⟩ := HX2.out 2 _ rfl
  obtain ⟨p3, _⟩ := HX2.out 3 _ rfl
  go_wp2_with fail
  refine (keepOK a3 n3 c3 D.K A _ N3.out z3).mono ?_
  rintro e w3 ⟨rfl, hb3⟩
  have B3 : Hid (Below w.heap.size w w3) := B2.out.trans (hb3.mono B2.out.size)
  clear hb3 HX2 B2 p2 p3
  by_cases t3 : okK D.K A
  case neg =>
    have F : Hid (¬ okD D) := fun h => t3 (by have := h.2.2; rw [NA.out] at this; exact this)
    rw [decide_eq_false t3]
    clear t3
    go_wp2_with fail
    go_ret
    exact ⟨(by rw [← HBB.out]; exact ret_no F.out), B3.out⟩
  rw [decide_eq_true t3]
  have F : Hid (okD D) := ⟨T1.out, by have := T2.out; rw [← N1.out] at this; exact this, by have := t3; rw [← NA.out] at this; exact this⟩
  clear t3
  go_wp2_with fail
  go_ret
  exact ⟨(by rw [← HBB.out]; exact ret_yes F.out), B3.out⟩
end Go.Proofs.YtnnimocaanofjaaGreatDoor
