
/-
  The walk of the law FnExactUserPass.
  By an AI agent.
-/
import Derived.Test.YtcpbajbbjpkglaaGreatDoorUpj
namespace Go.Proofs.YtcpbajbbjpkglaaGreatDoor.fnExactUserPass
open Go.ChangeShapes Go.WideShapes Go.ChangeAt Go.WideMaps Go.WideElems Go.RowKit Go.Deep
set_option linter.unusedVariables false

set_option maxHeartbeats 4000000 in
theorem walk (a0 : Option Addr) (c0 : Nat) (L : List PM) (u : ByteArray) (w : World) (h0 : Src w a0 (cellsP L)) (hm0 : L.length ≤ maxLen ∧ ∀ x ∈ L, x.1.size ≤ maxLen ∧ x.2.size ≤ maxLen) (hu : u.size ≤ maxLen) (hG : Gl w) (h8 : 8 ≤ w.heap.size) :
    Calls Tryz.prog 4 #[.slice a0 L.length c0, .string u] w fun e w' => e = .returned (.bool true) ∧ Below w.heap.size w w' := by
  obtain ⟨n, hn⟩ : ∃ n, L.length = n := ⟨_, rfl⟩
  have HN : Hid (L.length = n) := hn
  have HR : Hid (Src w a0 (cellsP L)) := h0
  have HM : Hid (L.length ≤ maxLen ∧ ∀ x ∈ L, x.1.size ≤ maxLen ∧ x.2.size ≤ maxLen) := hm0
  have HG : Hid (Gl w) := hG
  have hnm : n ≤ maxLen := by rw [← hn]; exact hm0.1
  obtain ⟨T, Q, hTQ⟩ : ∃ T Q, passM L u = (T, Q) := ⟨_, _, rfl⟩
  have HTQ : Hid (passM L u = (T, Q)) := hTQ
  have hTT : (T.toList == T.toList) = true := by simp
  have hTN : (T.toList != T.toList) = false := by simp
  have hQQ : (Q != Q) = false := by simp
  unfold maxLen at hu
  unfold maxLen at hnm
  rw [hn]
  clear hm0 h0 hn hG hTQ
  by_cases hub : 1048576 < u.size
  · have hubi : (1048576 : Int) < (u.size : Int) := by omega
    go_enter Tryz.func4, Tryz.ntmps4
    go_wp2_with fail
    go_ret
    exact ⟨rfl, Below.refl _ _⟩
  have hubi : ¬ (1048576 : Int) < (u.size : Int) := by omega
  have hu2 : u.size ≤ 1048576 := by omega
  go_enter Tryz.func4, Tryz.ntmps4
  go_wp2_with fail
  refine (szPairS a0 n c0 L 1048576 _ HN.out (by unfold maxLen; omega) HM.out.2 (by omega) (by omega) HR.out).mono ?_
  rintro e w1 ⟨r, rfl, hrl, hr, hb1⟩
  have B1 : Hid (Below w.heap.size w w1) := hb1
  clear hb1
  by_cases hneg : r < 0
  · clear hr
    go_wp2_with fail
    go_ret
    exact ⟨rfl, B1.out⟩
  have SM : Hid (n ≤ 1048576 ∧ ∀ x ∈ L, x.1.size ≤ 1048576 ∧ x.2.size ≤ 1048576) := (hr (by omega)).2
  have hsm : n ≤ 1048576 := SM.out.1
  clear hr
  go_wp2_with fail
  refine (toPairS a0 n c0 L _ HN.out hsm (HR.out.below B1.out)).mono ?_
  rintro e w2 ⟨v2, rfl, own2, hb2⟩
  obtain ⟨e2, f2, rfl, s2, _⟩ := own_src own2
  have B2 : Hid (Below w.heap.size w w2) := B1.out.trans (hb2.mono B1.out.size)
  have Q2 : Hid (Src w2 e2 (cellsP L)) := s2
  clear hb2 own2 s2
  go_wp2_with fail
  refine (specUserPass e2 n f2 L u _ HN.out hsm SM.out.2 Q2.out hu2 T Q HTQ).mono ?_
  rintro e w3 ⟨rfl, hb3⟩
  have B3 : Hid (Below w.heap.size w w3) := B2.out.trans (hb3.mono B2.out.size)
  clear hb3 Q2
  go_wp2_with fail
  refine (toPairS a0 n c0 L _ HN.out hsm (HR.out.below B3.out)).mono ?_
  rintro e w4 ⟨v4, rfl, own4, hb4⟩
  obtain ⟨e4, f4, rfl, s4, _⟩ := own_src own4
  have B4 : Hid (Below w.heap.size w w4) := B3.out.trans (hb4.mono B3.out.size)
  have Q4 : Hid (Src w4 e4 (cellsP L)) := s4
  clear hb4 own4 s4
  go_wp2_with fail
  refine (implUserPass e4 n f4 L u _ HN.out hsm SM.out.2 Q4.out hu2 (HG.out.below h8 B4.out) (by have := B4.out.size; omega) T Q HTQ).mono ?_
  rintro e w5 ⟨rfl, hb5⟩
  have B5 : Hid (Below w.heap.size w w5) := B4.out.trans (hb5.mono B4.out.size)
  have Q5 : Hid (Src w5 e4 (cellsP L)) := Q4.out.below hb5
  clear hb5 Q4
  go_wp2_with fail
  refine (toPairS a0 n c0 L _ HN.out hsm (HR.out.below B5.out)).mono ?_
  rintro e w6 ⟨v6, rfl, own6, hb6⟩
  obtain ⟨e6, f6, rfl, s6, _⟩ := own_src own6
  have B6 : Hid (Below w.heap.size w w6) := B5.out.trans (hb6.mono B5.out.size)
  have Q6 : Hid (Src w6 e6 (cellsP L)) := s6
  have P6 : Hid (Src w6 e4 (cellsP L)) := Q5.out.below hb6
  clear hb6 own6 s6 Q5
  go_wp2_with fail
  refine (eqPairS e4 e6 n f4 f6 L _ HN.out (by omega) P6.out Q6.out).mono ?_
  rintro e w7 ⟨rfl, hb7⟩
  have B7 : Hid (Below w.heap.size w w7) := B6.out.trans (hb7.mono B6.out.size)
  clear hb7
  go_wp2_with fail
  go_ret
  exact ⟨rfl, B7.out⟩
end Go.Proofs.YtcpbajbbjpkglaaGreatDoor.fnExactUserPass
