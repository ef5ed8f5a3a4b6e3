/-
  The walk of the law FnExactPairsSum.
  By an AI agent.
-/
import Derived.Test.YtnejklppbjkekaaDoorPsum
namespace Go.Proofs.YtnejklppbjkekaaDoor.fnExactPairsSum
open Go.ChangeShapes Go.WideShapes Go.ChangeAt Go.WideMaps Go.WideElems Go.RowKit Go.Deep
open Go.ChangeMaps (open_string shut_string)
set_option linter.unusedVariables false

set_option maxHeartbeats 2000000 in
theorem walk (a : Option Addr) (c : Nat) (M : List PM) (w : World) (h : Src w a (cellsP M)) (hm : M.length ≤ maxLen ∧ ∀ s ∈ M, s.1.size ≤ maxLen ∧ s.2.size ≤ maxLen) (hH : HasHalf w) :
    Calls Tryd.prog 10 #[.slice a M.length c] w fun e w' => e = .returned (.bool true) ∧ Below w.heap.size w w' := by
  obtain ⟨n, hn⟩ : ∃ n, M.length = n := ⟨_, rfl⟩
  have HM : Hid (M.length = n) := hn
  have HS : Hid (∀ s ∈ M, s.1.size ≤ maxLen ∧ s.2.size ≤ maxLen) := hm.2
  have HX : Hid (n ≤ maxLen) := by rw [← hn]; exact hm.1
  have HR : Hid (Src w a (cellsP M)) := h
  have HH : Hid (HasHalf w) := hH
  rw [hn]
  clear hm h hn hH
  go_enter Tryd.func10, Tryd.ntmps10
  go_wp2_with fail
  go_at_call 46
  refine (szPairS a n c M 1048576 _ HM.out HX.out HS.out (by omega) (by omega) HR.out).mono ?_
  rintro e w1 ⟨r, rfl, _, hr, hb1⟩
  have B1 : Hid (Below w.heap.size w w1) := hb1
  clear hb1
  by_cases hneg : r < 0
  · clear hr
    go_wp2_with fail
    go_ret
    exact ⟨rfl, B1.out⟩
  have SM : Hid (n ≤ 1048576 ∧ ∀ p ∈ M, p.1.size ≤ 1048576 ∧ p.2.size ≤ 1048576) := (hr (by omega)).2
  clear hr
  go_wp2_with fail
  go_at_call 48
  refine (toPairS a n c M _ HM.out SM.out.1 (HR.out.below B1.out)).mono ?_
  rintro e w2 ⟨v2, rfl, own2, hb2⟩
  have B2 : Hid (Below w.heap.size w w2) := B1.out.trans (hb2.mono B1.out.size)
  obtain ⟨a2, c2, rfl, s2, _⟩ := own_src own2
  have S2 : Hid (Src w2 a2 (cellsP M)) := s2
  clear hb2 own2 B1 s2
  go_wp2_with fail
  go_at_call 47
  refine (specPairsSum a2 n c2 M _ HM.out SM.out.1 SM.out.2 S2.out).mono ?_
  rintro e w3 ⟨⟨r, q, rfl, heq⟩, hb3⟩
  have HEQ : Hid (psA M = (r, q)) := heq
  have B3 : Hid (Below w.heap.size w w3) := B2.out.trans (hb3.mono B2.out.size)
  clear heq hb3 S2 B2
  go_wp2_with fail
  go_at_call 48
  refine (toPairS a n c M _ HM.out SM.out.1 (HR.out.below B3.out)).mono ?_
  rintro e w4 ⟨v4, rfl, own4, hb4⟩
  have B4 : Hid (Below w.heap.size w w4) := B3.out.trans (hb4.mono B3.out.size)
  obtain ⟨a4, c4, rfl, s4, _⟩ := own_src own4
  have S4 : Hid (Src w4 a4 (cellsP M)) := s4
  clear hb4 own4 B3 s4
  go_wp2_with fail
  go_at_call 49
  refine (implPairsSum a4 n c4 M _ HM.out SM.out.1 SM.out.2 S4.out (HH.out.below B4.out)).mono ?_
  rintro e w5 ⟨⟨r', q', rfl, heq⟩, hb5⟩
  obtain ⟨rfl, rfl⟩ : r = r' ∧ q = q' := by have h2 := HEQ.out.symm.trans heq; simpa using h2
  have B5 : Hid (Below w.heap.size w w5) := B4.out.trans (hb5.mono B4.out.size)
  have S5 : Hid (Src w5 a4 (cellsP M)) := S4.out.below hb5
  clear heq hb5 S4 B4
  have hcc : (q != q) = false := by simp
  have hrr : ((r : Int) != (r : Int)) = false := by simp
  go_wp2_with fail
  go_at_call 48
  refine (toPairS a n c M _ HM.out SM.out.1 (HR.out.below B5.out)).mono ?_
  rintro e w6 ⟨v6, rfl, own6, hb6⟩
  have B6 : Hid (Below w.heap.size w w6) := B5.out.trans (hb6.mono B5.out.size)
  obtain ⟨a6, c6, rfl, s6, _⟩ := own_src own6
  have S6 : Hid (Src w6 a4 (cellsP M) ∧ Src w6 a6 (cellsP M)) := ⟨S5.out.below hb6, s6⟩
  clear hb6 own6 B5 s6 S5
  go_wp2_with fail
  go_at_call 50
  refine (eqPairS a4 a6 n c4 c6 M _ HM.out (by have h9 := SM.out.1; omega) S6.out.1 S6.out.2).mono ?_
  rintro e w7 ⟨rfl, hb7⟩
  have B7 : Hid (Below w.heap.size w w7) := B6.out.trans (hb7.mono B6.out.size)
  clear hb7
  go_wp2_with fail
  go_ret
  exact ⟨rfl, B7.out⟩

end Go.Proofs.YtnejklppbjkekaaDoor.fnExactPairsSum
