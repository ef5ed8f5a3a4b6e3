
/-
  Appending what a slice, nil or not, leads to; copies of lists. By an AI agent.
-/
import Derived.Test.YtlkobhighhkmoaaDoorDisks
namespace Go.Proofs.YtlkobhighhkmoaaDoor
open Go.ChangeShapes Go.WideShapes Go.ChangeAt Go.RowKit Go.Deep
set_option linter.unusedVariables false

set_option maxHeartbeats 1000000 in
theorem heldDisk (v : Value) (D : DM) (k : Nat) (w : World) (hs : D.S.length ≤ 1048576 ∧ D.C.length ≤ 1048576 ∧ D.K.length ≤ 1048576) (hk0 : 0 < k) (hk1 : k ≤ 1048576) (h : ReadsD w v (markedD D k)) :
    Calls Tryd.prog 32 #[v, .int .i64 (k : Int)] w fun e w' => e = .returned (.int .i64 ((endD D k : Nat) : Int)) ∧ Below w.heap.size w w' := by
  obtain ⟨a1, c1, a2, c2, a3, c3, rfl, s1, s2, s3⟩ := h
  unfold markedD at s1 s2 s3 ⊢
  unfold endD
  simp only [mkS_length, mkQ_length, mkI_length] at s1 s2 s3 ⊢
  obtain ⟨n1, hn1⟩ : ∃ n, D.S.length = n := ⟨_, rfl⟩
  obtain ⟨n2, hn2⟩ : ∃ n, D.C.length = n := ⟨_, rfl⟩
  obtain ⟨n3, hn3⟩ : ∃ n, D.K.length = n := ⟨_, rfl⟩
  obtain ⟨A, hA⟩ : ∃ A, D.A = A := ⟨_, rfl⟩
  rw [hn1] at hs s1 s2 s3 ⊢
  rw [hn2] at hs s2 s3 ⊢
  rw [hn3] at hs s3 ⊢
  rw [hA]
  obtain ⟨z1, z2, z3⟩ := hs
  have S1 : Hid (Src w a1 (cellsS (mkS k n1))) := s1
  have S2 : Hid (Src w a2 (cellsQ (mkQ (k + n1) n2))) := s2
  have S3 : Hid (Src w a3 (cellsI (mkI (k + n1 + n2 * 2) n3))) := s3
  clear s1 s2 s3 hn1 hn2 hn3 hA
  go_enter Tryd.func32, Tryd.ntmps32
  go_wp2_with fail
  refine (heldStringS a1 n1 c1 k _ z1 hk0 (by omega) (S1.out.below ((Below.refl _ _).alloc (Nat.le_refl _) _))).mono ?_
  rintro e w1 ⟨rfl, hb1⟩
  have B1 : Hid (Below w.heap.size w w1) := ((Below.refl _ _).alloc (Nat.le_refl _) _).trans (hb1.mono (by simp))
  have HA : Hid (Box w1 w.heap.size [.slice a1 n1 c1, .slice a2 n2 c2, .bool A, .slice a3 n3 c3]) := Box.below (Box.new rfl) hb1
  clear hb1
  obtain ⟨p1, _⟩ := HA.out 1 _ rfl
  go_wp2_with fail
  rw [show ((k : Int) + (n1 : Int)) = ((k + n1 : Nat) : Int) from by omega]
  refine (heldPendingS a2 n2 c2 (k + n1) _ z2 (by omega) (by omega) (S2.out.below B1.out)).mono ?_
  rintro e w2 ⟨rfl, hb2⟩
  have B2 : Hid (Below w.heap.size w w2) := B1.out.trans (hb2.mono B1.out.size)
  have HA2 : Hid (Box w2 w.heap.size [.slice a1 n1 c1, .slice a2 n2 c2, .bool A, .slice a3 n3 c3]) := HA.out.below hb2
  clear hb2 HA p1
  obtain ⟨p3, _⟩ := HA2.out 3 _ rfl
  go_wp2_with fail
  rw [show ((k : Int) + (n1 : Int) + (n2 : Int) * 2) = ((k + n1 + n2 * 2 : Nat) : Int) from by omega]
  refine (heldIntS a3 n3 c3 (k + n1 + n2 * 2) _ z3 (by omega) (by omega) (S3.out.below B2.out)).mono ?_
  rintro e w3 ⟨rfl, hb3⟩
  have B3 : Hid (Below w.heap.size w w3) := B2.out.trans (hb3.mono B2.out.size)
  clear hb3 p3
  go_wp2_with fail
  go_ret
  exact ⟨rfl, B3.out⟩
end Go.Proofs.YtlkobhighhkmoaaDoor
