
/-
  Contracts of the helpers on disks: sizes, copies, comparisons, marks. By an AI agent.
-/
import Derived.Test.YtlkobhighhkmoaaDoorLists3
import Derived.Test.YtlkobhighhkmoaaDoorDm
namespace Go.Proofs.YtlkobhighhkmoaaDoor
open Go.ChangeShapes Go.WideShapes Go.ChangeAt Go.RowKit Go.Deep
set_option linter.unusedVariables false

/-- v reads as D. -/
def ReadsD (w : World) (v : Value) (D : DM) : Prop :=
  ∃ a1 c1 a2 c2 a3 c3, v = .agg #[.slice a1 D.S.length c1, .slice a2 D.C.length c2, .bool D.A, .slice a3 D.K.length c3] ∧ Src w a1 (cellsS D.S) ∧ Src w a2 (cellsQ D.C) ∧ Src w a3 (cellsI D.K)
theorem ReadsD.below {w w' : World} {v : Value} {D : DM} (h : ReadsD w v D) (hb : Below w.heap.size w w') : ReadsD w' v D := by
  obtain ⟨a1, c1, a2, c2, a3, c3, rfl, h1, h2, h3⟩ := h
  exact ⟨a1, c1, a2, c2, a3, c3, rfl, h1.below hb, h2.below hb, h3.below hb⟩
/-- v owns D, in blocks from lo up to hi. -/
def OwnsD (w : World) (lo hi : Nat) (v : Value) (D : DM) : Prop :=
  ∃ v1 v2 v3, v = .agg #[v1, v2, .bool D.A, v3] ∧ (w.ownsRow lo 9 1 v1 D.S.length (cellsS D.S) ∧ ∀ k, v1.ownBlock = some k → k < hi) ∧ (w.ownsRow lo 115 2 v2 D.C.length (cellsQ D.C) ∧ ∀ k, v2.ownBlock = some k → k < hi) ∧ (w.ownsRow lo 3 1 v3 D.K.length (cellsI D.K) ∧ ∀ k, v3.ownBlock = some k → k < hi)
theorem OwnsD.mk {w : World} {lo hi : Nat} {v1 v2 v3 : Value} {A : Bool} {D : DM} (hA : D.A = A) (h1 : w.ownsRow lo 9 1 v1 D.S.length (cellsS D.S)) (h2 : w.ownsRow lo 115 2 v2 D.C.length (cellsQ D.C)) (h3 : w.ownsRow lo 3 1 v3 D.K.length (cellsI D.K)) (hh : w.heap.size ≤ hi) : OwnsD w lo hi (.agg #[v1, v2, .bool A, v3]) D :=
  ⟨v1, v2, v3, by rw [hA], ⟨h1, fun k e => by have := (h1.lt k e).2; omega⟩, ⟨h2, fun k e => by have := (h2.lt k e).2; omega⟩, h3, fun k e => by have := (h3.lt k e).2; omega⟩
theorem OwnsD.reads {w : World} {lo hi : Nat} {v : Value} {D : DM} (h : OwnsD w lo hi v D) : ReadsD w v D := by
  obtain ⟨v1, v2, v3, rfl, ⟨h1, _⟩, ⟨h2, _⟩, h3, _⟩ := h
  obtain ⟨a1, c1, rfl, s1, _⟩ := own_src h1
  obtain ⟨a2, c2, rfl, s2, _⟩ := own_src h2
  obtain ⟨a3, c3, rfl, s3, _⟩ := own_src h3
  exact ⟨a1, c1, a2, c2, a3, c3, rfl, s1, s2, s3⟩
theorem OwnsD.below {w w' : World} {lo hi : Nat} {v : Value} {D : DM} (h : OwnsD w lo hi v D) (hb : Below w.heap.size w w') : OwnsD w' lo hi v D := by
  obtain ⟨v1, v2, v3, rfl, ⟨h1, k1⟩, ⟨h2, k2⟩, h3, k3⟩ := h
  exact ⟨v1, v2, v3, rfl, ⟨own_below h1 hb, k1⟩, ⟨own_below h2 hb, k2⟩, own_below h3 hb, k3⟩
theorem OwnsD.turned {w w' : World} {lo hi lo' hi' : Nat} {v : Value} {D : DM} (h : OwnsD w lo hi v D) (ht : Turned lo' hi' w w') (hd : hi ≤ lo' ∨ hi' ≤ lo) : OwnsD w' lo hi v D := by
  obtain ⟨v1, v2, v3, rfl, ⟨h1, k1⟩, ⟨h2, k2⟩, h3, k3⟩ := h
  exact ⟨v1, v2, v3, rfl, ⟨own_turned h1 ht k1 hd, k1⟩, ⟨own_turned h2 ht k2 hd, k2⟩, own_turned h3 ht k3 hd, k3⟩
/-- What is small enough to be handled. -/
def smallD (D : DM) : Prop := (D.S.length ≤ 1048576 ∧ ∀ x ∈ D.S, x.size ≤ 1048576) ∧ (D.C.length ≤ 1048576 ∧ ∀ x ∈ D.C, x.2.size ≤ 1048576) ∧ D.K.length ≤ 1048576

set_option maxHeartbeats 1000000 in
theorem eqDisk (v v' : Value) (D : DM) (w : World) (hs : D.S.length ≤ 9000000000000000000 ∧ D.C.length ≤ 9000000000000000000 ∧ D.K.length ≤ 9000000000000000000) (h : ReadsD w v D) (h' : ReadsD w v' D) :
    Calls Tryd.prog 26 #[v, v'] w fun e w' => e = .returned (.bool true) ∧ Below w.heap.size w w' := by
  obtain ⟨a1, c1, a2, c2, a3, c3, rfl, s1, s2, s3⟩ := h
  obtain ⟨b1, d1, b2, d2, b3, d3, rfl, t1, t2, t3⟩ := h'
  have HS : Hid (D.S.length ≤ 9000000000000000000 ∧ D.C.length ≤ 9000000000000000000 ∧ D.K.length ≤ 9000000000000000000) := hs
  have S1 : Hid (Src w a1 (cellsS D.S) ∧ Src w b1 (cellsS D.S)) := ⟨s1, t1⟩
  have S2 : Hid (Src w a2 (cellsQ D.C) ∧ Src w b2 (cellsQ D.C)) := ⟨s2, t2⟩
  have S3 : Hid (Src w a3 (cellsI D.K) ∧ Src w b3 (cellsI D.K)) := ⟨s3, t3⟩
  obtain ⟨n1, hn1⟩ : ∃ n, D.S.length = n := ⟨_, rfl⟩
  obtain ⟨n2, hn2⟩ : ∃ n, D.C.length = n := ⟨_, rfl⟩
  obtain ⟨n3, hn3⟩ : ∃ n, D.K.length = n := ⟨_, rfl⟩
  obtain ⟨A, hA⟩ : ∃ A, D.A = A := ⟨_, rfl⟩
  rw [hn1, hn2, hn3, hA]
  have N1 : Hid (D.S.length = n1) := hn1
  have N2 : Hid (D.C.length = n2) := hn2
  have N3 : Hid (D.K.length = n3) := hn3
  have hAA : (A != A) = false := by simp
  clear hs s1 s2 s3 hn1 hn2 hn3 hA t1 t2 t3
  go_enter Tryd.func26, Tryd.ntmps26
  go_wp2_with fail
  refine (eqStringS a1 b1 n1 c1 d1 D.S _ N1.out (by rw [← N1.out]; exact HS.out.1) (S1.out.1.below (((Below.refl _ _).alloc (Nat.le_refl _) _).alloc (by simp) _)) (S1.out.2.below (((Below.refl _ _).alloc (Nat.le_refl _) _).alloc (by simp) _))).mono ?_
  rintro e w1 ⟨rfl, hb1⟩
  have B1 : Hid (Below w.heap.size w w1) := (((Below.refl _ _).alloc (Nat.le_refl _) _).alloc (by simp) _).trans (hb1.mono (by simp; omega))
  have HA : Hid (Box w1 w.heap.size [.slice a1 n1 c1, .slice a2 n2 c2, .bool A, .slice a3 n3 c3]) := Box.below ((Box.new rfl).old _) hb1
  have HB : Hid (Box w1 (w.heap.size + 1) [.slice b1 n1 d1, .slice b2 n2 d2, .bool A, .slice b3 n3 d3]) := Box.below (Box.new (by simp)) hb1
  clear hb1
  obtain ⟨p1, _⟩ := HA.out 1 _ rfl
  obtain ⟨q1, _⟩ := HB.out 1 _ rfl
  go_wp2_with fail
  refine (eqPendingS a2 b2 n2 c2 d2 D.C _ N2.out (by rw [← N2.out]; exact HS.out.2.1) (S2.out.1.below B1.out) (S2.out.2.below B1.out)).mono ?_
  rintro e w2 ⟨rfl, hb2⟩
  have B2 : Hid (Below w.heap.size w w2) := B1.out.trans (hb2.mono B1.out.size)
  have HA2 : Hid (Box w2 w.heap.size [.slice a1 n1 c1, .slice a2 n2 c2, .bool A, .slice a3 n3 c3]) := HA.out.below hb2
  have HB2 : Hid (Box w2 (w.heap.size + 1) [.slice b1 n1 d1, .slice b2 n2 d2, .bool A, .slice b3 n3 d3]) := HB.out.below hb2
  clear hb2 HA HB B1 p1 q1
  obtain ⟨p2, _⟩ := HA2.out 2 _ rfl
  obtain ⟨q2, _⟩ := HB2.out 2 _ rfl
  obtain ⟨p3, _⟩ := HA2.out 3 _ rfl
  obtain ⟨q3, _⟩ := HB2.out 3 _ rfl
  go_wp2_with fail
  refine (eqIntS a3 b3 n3 c3 d3 D.K _ N3.out (by rw [← N3.out]; exact HS.out.2.2) (S3.out.1.below B2.out) (S3.out.2.below B2.out)).mono ?_
  rintro e w3 ⟨rfl, hb3⟩
  have B3 : Hid (Below w.heap.size w w3) := B2.out.trans (hb3.mono B2.out.size)
  clear hb3 p2 q2 p3 q3
  go_wp2_with fail
  go_ret
  exact ⟨rfl, B3.out⟩

def markedD (D : DM) (k : Nat) : DM := ⟨mkS k D.S.length, mkQ (k + D.S.length) D.C.length, D.A, mkI (k + D.S.length + D.C.length * 2) D.K.length⟩
def endD (D : DM) (k : Nat) : Nat := k + D.S.length + D.C.length * 2 + D.K.length

set_option maxHeartbeats 1000000 in
theorem markDisk (v : Value) (D : DM) (lo hi k : Nat) (w : World) (hs : D.S.length ≤ 1048576 ∧ D.C.length ≤ 1048576 ∧ D.K.length ≤ 1048576) (hk0 : 0 < k) (hk1 : k ≤ 1048576) (hh : hi ≤ w.heap.size) (h : OwnsD w lo hi v D) :
    Calls Tryd.prog 29 #[v, .int .i64 (k : Int)] w fun e w' => e = .returned (.int .i64 ((endD D k : Nat) : Int)) ∧ Turned lo hi w w' ∧ OwnsD w' lo hi v (markedD D k) := by
  obtain ⟨v1, v2, v3, rfl, ⟨h1, k1⟩, ⟨h2, k2⟩, h3, k3⟩ := h
  have D12 := own_ne h1 h2 (by decide)
  have D13 := own_ne h1 h3 (by decide)
  have D23 := own_ne h2 h3 (by decide)
  have HD : Hid ((∀ g, v1.ownBlock = some g → v2.ownBlock ≠ some g) ∧ (∀ g, v1.ownBlock = some g → v3.ownBlock ≠ some g) ∧ (∀ g, v2.ownBlock = some g → v3.ownBlock ≠ some g)) := ⟨D12, D13, D23⟩
  have K1 : Hid (∀ g, v1.ownBlock = some g → lo ≤ g ∧ g < hi) := fun g e => ⟨(h1.lt g e).1, k1 g e⟩
  have K2 : Hid (∀ g, v2.ownBlock = some g → lo ≤ g ∧ g < hi) := fun g e => ⟨(h2.lt g e).1, k2 g e⟩
  have K3 : Hid (∀ g, v3.ownBlock = some g → lo ≤ g ∧ g < hi) := fun g e => ⟨(h3.lt g e).1, k3 g e⟩
  clear D12 D13 D23 k1 k2 k3
  obtain ⟨a1, c1, rfl, _, _⟩ := own_src h1
  obtain ⟨a2, c2, rfl, _, _⟩ := own_src h2
  obtain ⟨a3, c3, rfl, _, _⟩ := own_src h3
  obtain ⟨n1, hn1⟩ : ∃ n, D.S.length = n := ⟨_, rfl⟩
  obtain ⟨n2, hn2⟩ : ∃ n, D.C.length = n := ⟨_, rfl⟩
  obtain ⟨n3, hn3⟩ : ∃ n, D.K.length = n := ⟨_, rfl⟩
  obtain ⟨A, hA⟩ : ∃ A, D.A = A := ⟨_, rfl⟩
  unfold markedD endD
  rw [hn1] at h1 hs HD K1 ⊢
  rw [hn2] at h2 hs HD K2 ⊢
  rw [hn3] at h3 hs HD K3 ⊢
  rw [hA]
  obtain ⟨x1, hx1⟩ : ∃ x, cellsS D.S = x := ⟨_, rfl⟩
  obtain ⟨x2, hx2⟩ : ∃ x, cellsQ D.C = x := ⟨_, rfl⟩
  obtain ⟨x3, hx3⟩ : ∃ x, cellsI D.K = x := ⟨_, rfl⟩
  rw [hx1] at h1
  rw [hx2] at h2
  rw [hx3] at h3
  obtain ⟨z1, z2, z3⟩ := hs
  have H1 : Hid (w.ownsRow lo 9 1 (.slice a1 n1 c1) n1 x1) := h1
  have H2 : Hid (w.ownsRow lo 115 2 (.slice a2 n2 c2) n2 x2) := h2
  have H3 : Hid (w.ownsRow lo 3 1 (.slice a3 n3 c3) n3 x3) := h3
  have HH : Hid (hi ≤ w.heap.size) := hh
  clear h1 h2 h3 hn1 hn2 hn3 hA hx1 hx2 hx3 hh
  go_enter Tryd.func29, Tryd.ntmps29
  go_wp2_with fail
  refine (markStringS _ n1 k lo x1 _ z1 hk0 (by omega) (H1.out.alloc _)).mono ?_
  rintro e w1 ⟨rfl, g1, o1⟩
  have T1 : Hid (Turned lo hi w w1) := (Turned.of_below ((Below.refl _ _).alloc (Nat.le_refl _) _)).trans (Turned.of_grown g1 K1.out)
  have O1 : Hid (w1.ownsRow lo 9 1 (.slice a1 n1 c1) n1 (cellsS (mkS k n1))) := o1
  have O2 : Hid (w1.ownsRow lo 115 2 (.slice a2 n2 c2) n2 x2) := own_grown (H2.out.alloc _) g1 (fun g e e2 => HD.out.1 g e2 e)
  have O3 : Hid (w1.ownsRow lo 3 1 (.slice a3 n3 c3) n3 x3) := own_grown (H3.out.alloc _) g1 (fun g e e2 => HD.out.2.1 g e2 e)
  have HX : Hid (Box w1 w.heap.size [.slice a1 n1 c1, .slice a2 n2 c2, .bool A, .slice a3 n3 c3]) := Box.grown (Box.new rfl) g1 (fun e => by have := (K1.out _ e).2; have := HH.out; omega)
  clear g1 o1 H1 H2 H3
  obtain ⟨p1, _⟩ := HX.out 1 _ rfl
  go_wp2_with fail
  rw [show ((k : Int) + (n1 : Int)) = ((k + n1 : Nat) : Int) from by omega]
  refine (markPendingS _ n2 (k + n1) lo x2 _ z2 (by omega) (by omega) O2.out).mono ?_
  rintro e w2 ⟨rfl, g2, o2⟩
  have T2 : Hid (Turned lo hi w w2) := T1.out.trans (Turned.of_grown g2 K2.out)
  have O12 : Hid (w2.ownsRow lo 9 1 (.slice a1 n1 c1) n1 (cellsS (mkS k n1))) := own_grown O1.out g2 (fun g e e2 => HD.out.1 g e e2)
  have O22 : Hid (w2.ownsRow lo 115 2 (.slice a2 n2 c2) n2 (cellsQ (mkQ (k + n1) n2))) := o2
  have O32 : Hid (w2.ownsRow lo 3 1 (.slice a3 n3 c3) n3 x3) := own_grown O3.out g2 (fun g e e2 => HD.out.2.2 g e2 e)
  have HX2 : Hid (Box w2 w.heap.size [.slice a1 n1 c1, .slice a2 n2 c2, .bool A, .slice a3 n3 c3]) := Box.grown HX.out g2 (fun e => by have := (K2.out _ e).2; have := HH.out; omega)
  clear g2 o2 O1 O2 O3 T1 HX p1
  obtain ⟨p3, _⟩ := HX2.out 3 _ rfl
  go_wp2_with fail
  rw [show ((k : Int) + (n1 : Int) + (n2 : Int) * 2) = ((k + n1 + n2 * 2 : Nat) : Int) from by omega]
  refine (markIntS _ n3 (k + n1 + n2 * 2) lo x3 _ z3 (by omega) (by omega) O32.out).mono ?_
  rintro e w3 ⟨rfl, g3, o3⟩
  have T3 : Hid (Turned lo hi w w3) := T2.out.trans (Turned.of_grown g3 K3.out)
  have O13 : Hid (w3.ownsRow lo 9 1 (.slice a1 n1 c1) n1 (cellsS (mkS k n1))) := own_grown O12.out g3 (fun g e e2 => HD.out.2.1 g e e2)
  have O23 : Hid (w3.ownsRow lo 115 2 (.slice a2 n2 c2) n2 (cellsQ (mkQ (k + n1) n2))) := own_grown O22.out g3 (fun g e e2 => HD.out.2.2 g e e2)
  have O33 : Hid (w3.ownsRow lo 3 1 (.slice a3 n3 c3) n3 (cellsI (mkI (k + n1 + n2 * 2) n3))) := o3
  clear g3 o3 O12 O22 O32 T2 HX2 p3
  go_wp2_with fail
  go_ret
  refine ⟨rfl, T3.out, _, _, _, rfl, ⟨?_, fun g e => (K1.out g e).2⟩, ⟨?_, fun g e => (K2.out g e).2⟩, ?_, fun g e => (K3.out g e).2⟩
  · simpa [mkS_length] using O13.out
  · simpa [mkQ_length] using O23.out
  · simpa [mkI_length] using O33.out
end Go.Proofs.YtlkobhighhkmoaaDoor
