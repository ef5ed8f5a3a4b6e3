
/-
  Marks over a node. By an AI agent.
-/
import Derived.Test.YtnejklppbjkekaaDoorNodes
import Derived.Test.YtnejklppbjkekaaDoorLists2
namespace Go.Proofs.YtnejklppbjkekaaDoor
open Go.ChangeShapes Go.WideShapes Go.ChangeAt Go.RowKit Go.Deep
set_option linter.unusedVariables false

def endNode (D : NM) (k : Nat) : Nat := k + D.P.length * 2 + D.L.length + D.K.length
def mkNode (D : NM) (k : Nat) : NM := ⟨D.A, mkP k D.P.length, mkS (k + D.P.length * 2) D.L.length, mkI (k + D.P.length * 2 + D.L.length) D.K.length⟩
set_option maxHeartbeats 1000000 in
theorem markNode (v : Value) (D : NM) (k lo hi : Nat) (w : World) (hs : wtN D ≤ 1048576) (hk0 : 0 < k) (hk1 : k ≤ 1048576) (hhi : hi ≤ w.heap.size) (h : OwnsN w lo hi v D) :
    Calls Tryd.prog 28 #[v, .int .i64 (k : Int)] w fun e w' => e = .returned (.int .i64 ((endNode D k : Nat) : Int)) ∧ Turned lo hi w w' ∧ OwnsN w' lo hi v (mkNode D k) := by
  obtain ⟨v1, v2, v3, rfl, ⟨o1, k1⟩, ⟨o2, k2⟩, o3, k3⟩ := h
  obtain ⟨a1, c1, rfl, _, _⟩ := own_src o1
  obtain ⟨a2, c2, rfl, _, _⟩ := own_src o2
  obtain ⟨a3, c3, rfl, _, _⟩ := own_src o3
  obtain ⟨n1, hn1⟩ : ∃ n, D.P.length = n := ⟨_, rfl⟩
  obtain ⟨n2, hn2⟩ : ∃ n, D.L.length = n := ⟨_, rfl⟩
  obtain ⟨n3, hn3⟩ : ∃ n, D.K.length = n := ⟨_, rfl⟩
  have NS : Hid (n1 + n2 + n3 ≤ 1048576) := by rw [← hn1, ← hn2, ← hn3]; exact hs
  have EN : Hid (endNode D k = k + n1 * 2 + n2 + n3) := by show _ = _; unfold endNode; rw [hn1, hn2, hn3]
  have MK : Hid (mkNode D k = ⟨D.A, mkP k n1, mkS (k + n1 * 2) n2, mkI (k + n1 * 2 + n2) n3⟩) := by show _ = _; unfold mkNode; rw [hn1, hn2, hn3]
  rw [hn1] at o1
  rw [hn2] at o2
  rw [hn3] at o3
  have O1 : Hid (w.ownsRow lo 130 2 (.slice a1 n1 c1) n1 (cellsP D.P)) := o1
  have O2 : Hid (w.ownsRow lo 9 1 (.slice a2 n2 c2) n2 (cellsS D.L)) := o2
  have O3 : Hid (w.ownsRow lo 3 1 (.slice a3 n3 c3) n3 (cellsI D.K)) := o3
  have KK : Hid ((∀ g, Value.ownBlock (.slice a1 n1 c1) = some g → g < hi) ∧ (∀ g, Value.ownBlock (.slice a2 n2 c2) = some g → g < hi) ∧ (∀ g, Value.ownBlock (.slice a3 n3 c3) = some g → g < hi)) := ⟨by rw [← hn1]; exact k1, by rw [← hn2]; exact k2, by rw [← hn3]; exact k3⟩
  obtain ⟨AA, hAA⟩ : ∃ AA, D.A = AA := ⟨_, rfl⟩
  have HA : Hid (D.A = AA) := hAA
  rw [hn1, hn2, hn3, hAA]
  clear o1 o2 o3 k1 k2 k3 hn1 hn2 hn3 hAA hs
  have n1b : n1 ≤ 1048576 := by have := NS.out; omega
  have n2b : n2 ≤ 1048576 := by have := NS.out; omega
  have n3b : n3 ≤ 1048576 := by have := NS.out; omega
  go_enter Tryd.func28, Tryd.ntmps28
  go_wp2_with fail
  have A0 : Hid (Below w.heap.size w (w.alloc (.cells #[.bool AA, .slice a1 n1 c1, .slice a2 n2 c2, .slice a3 n3 c3] 27))) := (Below.refl _ _).alloc (Nat.le_refl _) _
  refine (markPairS (.slice a1 n1 c1) n1 k lo (cellsP D.P) _ n1b hk0 (by omega) (own_below O1.out A0.out)).mono ?_
  rintro e w1 ⟨rfl, g1, m1⟩
  have T1 : Hid (Turned lo hi w w1) := (Turned.of_below A0.out).trans (Turned.of_grown g1 (fun j e => ⟨(O1.out.lt j e).1, KK.out.1 j e⟩))
  have X1 : Hid (Box w1 w.heap.size [.bool AA, .slice a1 n1 c1, .slice a2 n2 c2, .slice a3 n3 c3]) := Box.grown (Box.new rfl) g1 (fun e => by have := (O1.out.lt _ e).2; omega)
  have M1 : Hid (w1.ownsRow lo 130 2 (.slice a1 n1 c1) n1 (cellsP (mkP k n1))) := m1
  have P2 : Hid (w1.ownsRow lo 9 1 (.slice a2 n2 c2) n2 (cellsS D.L)) := own_grown (own_below O2.out A0.out) g1 (own_ne O2.out O1.out (by decide))
  have P3 : Hid (w1.ownsRow lo 3 1 (.slice a3 n3 c3) n3 (cellsI D.K)) := own_grown (own_below O3.out A0.out) g1 (own_ne O3.out O1.out (by decide))
  have Z1 : Hid (w.heap.size < w1.heap.size) := World.block_lt_of_cell? _ _ (X1.out 0 _ rfl).1
  clear g1 m1 A0
  obtain ⟨p2, _⟩ := X1.out 2 _ rfl
  go_wp2_with fail
  refine (markStringS (.slice a2 n2 c2) n2 (k + n1 * 2) lo (cellsS D.L) _ n2b (by omega) (by omega) P2.out).mono ?_
  rintro e w2 ⟨rfl, g2, m2⟩
  have T2 : Hid (Turned lo hi w w2) := T1.out.trans (Turned.of_grown g2 (fun j e => ⟨(O2.out.lt j e).1, KK.out.2.1 j e⟩))
  have X2 : Hid (Box w2 w.heap.size [.bool AA, .slice a1 n1 c1, .slice a2 n2 c2, .slice a3 n3 c3]) := Box.grown X1.out g2 (fun e => by have := (O2.out.lt _ e).2; omega)
  have M2 : Hid (w2.ownsRow lo 9 1 (.slice a2 n2 c2) n2 (cellsS (mkS (k + n1 * 2) n2))) := m2
  have M12 : Hid (w2.ownsRow lo 130 2 (.slice a1 n1 c1) n1 (cellsP (mkP k n1))) := own_grown M1.out g2 (own_ne M1.out P2.out (by decide))
  have P32 : Hid (w2.ownsRow lo 3 1 (.slice a3 n3 c3) n3 (cellsI D.K)) := own_grown P3.out g2 (own_ne P3.out P2.out (by decide))
  clear g2 m2 p2
  obtain ⟨p3, _⟩ := X2.out 3 _ rfl
  go_wp2_with fail
  refine (markIntS (.slice a3 n3 c3) n3 (k + n1 * 2 + n2) lo (cellsI D.K) _ n3b (by omega) (by omega) P32.out).mono ?_
  rintro e w3 ⟨rfl, g3, m3⟩
  have T3 : Hid (Turned lo hi w w3) := T2.out.trans (Turned.of_grown g3 (fun j e => ⟨(O3.out.lt j e).1, KK.out.2.2 j e⟩))
  have M3 : Hid (w3.ownsRow lo 3 1 (.slice a3 n3 c3) n3 (cellsI (mkI (k + n1 * 2 + n2) n3))) := m3
  have M13 : Hid (w3.ownsRow lo 130 2 (.slice a1 n1 c1) n1 (cellsP (mkP k n1))) := own_grown M12.out g3 (own_ne M12.out P32.out (by decide))
  have M23 : Hid (w3.ownsRow lo 9 1 (.slice a2 n2 c2) n2 (cellsS (mkS (k + n1 * 2) n2))) := own_grown M2.out g3 (own_ne M2.out P32.out (by decide))
  clear g3 m3 p3
  go_wp2_with fail
  go_ret
  refine ⟨by show Ending.returned (.int .i64 ((k + n1 * 2 + n2 + n3 : Nat) : Int)) = _; rw [EN.out], T3.out, ?_⟩
  rw [MK.out]
  refine ⟨.slice a1 n1 c1, .slice a2 n2 c2, .slice a3 n3 c3, by rw [HA.out], ?_, ?_, ?_⟩
  · show w3.ownsRow lo 130 2 _ (mkP k n1).length (cellsP (mkP k n1)) ∧ _
    rw [mkP_length]; exact ⟨M13.out, KK.out.1⟩
  · show w3.ownsRow lo 9 1 _ (mkS (k + n1 * 2) n2).length (cellsS (mkS (k + n1 * 2) n2)) ∧ _
    rw [mkS_length]; exact ⟨M23.out, KK.out.2.1⟩
  · show w3.ownsRow lo 3 1 _ (mkI (k + n1 * 2 + n2) n3).length (cellsI (mkI (k + n1 * 2 + n2) n3)) ∧ _
    rw [mkI_length]; exact ⟨M3.out, KK.out.2.2⟩

set_option maxHeartbeats 1000000 in
theorem heldNode (v : Value) (D : NM) (k : Nat) (w : World) (hs : wtN D ≤ 1048576) (hk0 : 0 < k) (hk1 : k ≤ 1048576) (h : ReadsN w v (mkNode D k)) :
    Calls Tryd.prog 33 #[v, .int .i64 (k : Int)] w fun e w' => e = .returned (.int .i64 ((endNode D k : Nat) : Int)) ∧ Below w.heap.size w w' := by
  obtain ⟨a1, c1, a2, c2, a3, c3, rfl, s1, s2, s3⟩ := h
  obtain ⟨n1, hn1⟩ : ∃ n, D.P.length = n := ⟨_, rfl⟩
  obtain ⟨n2, hn2⟩ : ∃ n, D.L.length = n := ⟨_, rfl⟩
  obtain ⟨n3, hn3⟩ : ∃ n, D.K.length = n := ⟨_, rfl⟩
  have NS : Hid (n1 + n2 + n3 ≤ 1048576) := by rw [← hn1, ← hn2, ← hn3]; exact hs
  have EN : Hid (endNode D k = k + n1 * 2 + n2 + n3) := by show _ = _; unfold endNode; rw [hn1, hn2, hn3]
  have e1 : (mkNode D k).P = mkP k n1 := by unfold mkNode; rw [hn1]
  have e2 : (mkNode D k).L = mkS (k + n1 * 2) n2 := by unfold mkNode; rw [hn1, hn2]
  have e3 : (mkNode D k).K = mkI (k + n1 * 2 + n2) n3 := by unfold mkNode; rw [hn1, hn2, hn3]
  rw [e1] at s1 ⊢
  rw [e2] at s2 ⊢
  rw [e3] at s3 ⊢
  rw [mkP_length, mkS_length, mkI_length]
  have S1 : Hid (Src w a1 (cellsP (mkP k n1))) := s1
  have S2 : Hid (Src w a2 (cellsS (mkS (k + n1 * 2) n2))) := s2
  have S3 : Hid (Src w a3 (cellsI (mkI (k + n1 * 2 + n2) n3))) := s3
  obtain ⟨AA, hAA⟩ : ∃ AA, (mkNode D k).A = AA := ⟨_, rfl⟩
  rw [hAA]
  clear e1 e2 e3 s1 s2 s3 hn1 hn2 hn3 hAA hs
  have n1b : n1 ≤ 1048576 := by have := NS.out; omega
  have n2b : n2 ≤ 1048576 := by have := NS.out; omega
  have n3b : n3 ≤ 1048576 := by have := NS.out; omega
  go_enter Tryd.func33, Tryd.ntmps33
  go_wp2_with fail
  refine (heldPairS a1 n1 c1 k _ n1b hk0 (by omega) (S1.out.below ((Below.refl _ _).alloc (Nat.le_refl _) _))).mono ?_
  rintro e w1 ⟨rfl, hb1⟩
  have B1 : Hid (Below w.heap.size w w1) := Below.new hb1
  have X1 : Hid (Box w1 w.heap.size [.bool AA, .slice a1 n1 c1, .slice a2 n2 c2, .slice a3 n3 c3]) := Box.below (Box.new rfl) hb1
  clear hb1
  obtain ⟨p2, _⟩ := X1.out 2 _ rfl
  obtain ⟨z1, hz1⟩ : ∃ z : Nat, k + n1 * 2 = z := ⟨_, rfl⟩
  have HZ1 : Hid (k + n1 * 2 = z1) := hz1
  have z1b : 0 < z1 ∧ z1 ≤ 8388608 := by omega
  rw [hz1] at S2 S3 ⊢
  have hg1 : decide ((z1 : Int) < 0) = false := by simp
  clear hz1
  go_wp2_with fail
  refine (heldStringS a2 n2 c2 z1 _ n2b z1b.1 z1b.2 (S2.out.below B1.out)).mono ?_
  rintro e w2 ⟨rfl, hb2⟩
  have B2 : Hid (Below w.heap.size w w2) := B1.out.trans (hb2.mono B1.out.size)
  have X2 : Hid (Box w2 w.heap.size [.bool AA, .slice a1 n1 c1, .slice a2 n2 c2, .slice a3 n3 c3]) := X1.out.below hb2
  clear hb2 p2 hg1
  obtain ⟨p3, _⟩ := X2.out 3 _ rfl
  obtain ⟨z2, hz2⟩ : ∃ z : Nat, z1 + n2 = z := ⟨_, rfl⟩
  have HZ2 : Hid (z1 + n2 = z2) := hz2
  have z2b : 0 < z2 ∧ z2 ≤ 8388608 := by have := HZ1.out; omega
  rw [hz2] at S3 ⊢
  have hg2 : decide ((z2 : Int) < 0) = false := by simp
  clear hz2
  go_wp2_with fail
  refine (heldIntS a3 n3 c3 z2 _ n3b z2b.1 z2b.2 (S3.out.below B2.out)).mono ?_
  rintro e w3 ⟨rfl, hb3⟩
  have B3 : Hid (Below w.heap.size w w3) := B2.out.trans (hb3.mono B2.out.size)
  clear hb3 p3 hg2
  obtain ⟨z3, hz3⟩ : ∃ z : Nat, z2 + n3 = z := ⟨_, rfl⟩
  have HZ3 : Hid (z2 + n3 = z3) := hz3
  rw [hz3]
  have hg3 : decide ((z3 : Int) < 0) = false := by simp
  clear hz3
  go_wp2_with fail
  go_ret
  exact ⟨by show Ending.returned (.int .i64 ((z3 : Nat) : Int)) = _; rw [EN.out, HZ1.out, HZ2.out, HZ3.out], B3.out⟩
end Go.Proofs.YtnejklppbjkekaaDoor
