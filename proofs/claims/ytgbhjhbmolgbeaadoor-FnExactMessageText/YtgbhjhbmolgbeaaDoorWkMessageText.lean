/-
  The walk of the law FnExactMessageText.
  By an AI agent.
-/
import Derived.Test.YtgbhjhbmolgbeaaDoorMsg2
import Derived.Test.YtgbhjhbmolgbeaaDoorMsgs
namespace Go.Proofs.YtgbhjhbmolgbeaaDoor.fnExactMessageText
open Go.ChangeShapes Go.WideShapes Go.ChangeAt Go.WideMaps Go.WideElems Go.RowKit Go.Deep
open Go.ChangeMaps (open_string shut_string)
set_option linter.unusedVariables false

set_option maxHeartbeats 4000000 in
theorem walk (v : Value) (D : GM) (w : World) (h : ReadsG w v D) (hm : maxG D) :
    Calls Tryd.prog 6 #[v] w fun e w' => e = .returned (.bool true) ∧ Below w.heap.size w w' := by
  have HM : Hid (maxG D) := hm
  have HR9 := h
  obtain ⟨a, c, rfl, _⟩ := h
  have HR : Hid (ReadsG w (.agg #[.slice a D.F.length c, .string D.Y]) D) := HR9
  clear hm HR9
  obtain ⟨n, hn⟩ : ∃ n, D.F.length = n := ⟨_, rfl⟩
  obtain ⟨Y, hY⟩ : ∃ Y, D.Y = Y := ⟨_, rfl⟩
  have HN : Hid (D.F.length = n ∧ D.Y = Y) := ⟨hn, hY⟩
  rw [hn, hY] at HR ⊢
  clear hn hY
  go_enter Tryd.func6, Tryd.ntmps6
  go_wp2_with fail
  refine (szMessage _ D 1048576 _ (by omega) (by omega) HM.out (HR.out.below ((Below.refl _ _).alloc (Nat.le_refl _) _))).mono ?_
  rintro e w1 ⟨r, rfl, _, hr, hb1⟩
  have B1 : Hid (Below w.heap.size w w1) := Below.new hb1
  have X1 : Hid (Box w1 w.heap.size [.slice a n c, .string Y]) := Box.below (Box.new rfl) hb1
  clear hb1
  by_cases hneg : r < 0
  · clear hr
    go_wp2_with fail
    go_ret
    exact ⟨rfl, B1.out⟩
  have SM : Hid (smallG D) := hr (by omega)
  have hnn : n ≤ 1048576 := by rw [← HN.out.1]; exact SM.out.1.1
  clear hr
  obtain ⟨p0, _⟩ := X1.out 0 _ rfl
  obtain ⟨p1, _⟩ := X1.out 1 _ rfl
  go_wp2_with fail
  refine (toMessage _ D _ SM.out (HR.out.below B1.out)).mono ?_
  rintro e w2 ⟨v2, rfl, own2, hb2⟩
  obtain ⟨b2, d2, rfl, s2⟩ := own2.reads
  rw [HN.out.1, HN.out.2]
  have S2 : Hid (Src w2 b2 (cellsFl D.F)) := s2
  have B2 : Hid (Below w.heap.size w w2) := B1.out.trans (hb2.mono B1.out.size)
  have X2 : Hid (Box w2 w.heap.size [.slice a n c, .string Y]) := X1.out.below hb2
  clear hb2 own2 s2 p0 p1 B1 X1
  obtain ⟨T, C, hT⟩ : ∃ T C, textA D.F Y = (T, C) := ⟨_, _, rfl⟩
  have HY : Y.size ≤ maxLen := by rw [← HN.out.2]; exact HM.out.2
  have HSP : ∀ (b : Option Addr) (d : Nat) (w : World), Src w b (cellsFl D.F) → Calls Tryd.prog 11 #[.agg #[.slice b n d, .string Y]] w fun e w' => e = .returned (.tuple #[.string T, .int .i64 C]) ∧ Below w.heap.size w w' := fun b d w h => by
    have := specMessageText b n d D.F Y w HN.out.1 (by rw [← HN.out.1]; exact HM.out.1.1) HM.out.1.2 HY h
    rwa [hT] at this
  have HIM : ∀ (b : Option Addr) (d : Nat) (w : World), Src w b (cellsFl D.F) → Calls Tryd.prog 10 #[.agg #[.slice b n d, .string Y]] w fun e w' => e = .returned (.tuple #[.string T, .int .i64 C]) ∧ Below w.heap.size w w' := fun b d w h => by
    have := implMessageText b n d D.F Y w HN.out.1 (by rw [← HN.out.1]; exact HM.out.1.1) HM.out.1.2 HY h
    rwa [hT] at this
  clear hT HY
  go_wp2_with fail
  refine (HSP _ _ _ S2.out).mono ?_
  rintro e w3 ⟨rfl, hb3⟩
  have B3 : Hid (Below w.heap.size w w3) := B2.out.trans (hb3.mono B2.out.size)
  have X3 : Hid (Box w3 w.heap.size [.slice a n c, .string Y]) := X2.out.below hb3
  clear hb3 B2 X2 S2
  obtain ⟨p0, _⟩ := X3.out 0 _ rfl
  obtain ⟨p1, _⟩ := X3.out 1 _ rfl
  go_wp2_with fail
  refine (toMessage _ D _ SM.out (HR.out.below B3.out)).mono ?_
  rintro e w4 ⟨v4, rfl, own4, hb4⟩
  obtain ⟨b4, d4, rfl, s4⟩ := own4.reads
  rw [HN.out.1, HN.out.2]
  have S4 : Hid (Src w4 b4 (cellsFl D.F)) := s4
  have B4 : Hid (Below w.heap.size w w4) := B3.out.trans (hb4.mono B3.out.size)
  have X4 : Hid (Box w4 w.heap.size [.slice a n c, .string Y]) := X3.out.below hb4
  clear hb4 own4 s4 p0 p1 B3 X3
  go_wp2_with fail
  refine (HIM _ _ _ (S4.out.below ((Below.refl _ _).alloc (Nat.le_refl _) _))).mono ?_
  rintro e w5 ⟨rfl, hb5⟩
  have B5 : Hid (Below w.heap.size w w5) := B4.out.trans ((Below.new hb5).mono B4.out.size)
  have X5 : Hid (Box w5 w.heap.size [.slice a n c, .string Y]) := X4.out.below (Below.new hb5)
  have Y5 : Hid (Box w5 w4.heap.size [.slice b4 n d4, .string Y]) := Box.below (Box.new rfl) hb5
  have S5 : Hid (Src w5 b4 (cellsFl D.F)) := S4.out.below (Below.new hb5)
  clear hb5 B4 X4 S4
  have hcc : (C != C) = false := by simp
  obtain ⟨p0, _⟩ := X5.out 0 _ rfl
  obtain ⟨p1, _⟩ := X5.out 1 _ rfl
  obtain ⟨q0, _⟩ := Y5.out 0 _ rfl
  obtain ⟨q1, _⟩ := Y5.out 1 _ rfl
  go_wp2_with fail
  go_region_with (first | (go_at_call 21; refine (eqMessage _ _ D _ (by rw [HN.out.1]; omega) R6.out Q6.out).mono ?_; rintro e w7 ⟨rfl, hb7⟩; have B7 : Hid (Below w.heap.size w w7) := B6.out.trans (hb7.mono B6.out.size); clear hb7 B6) | (go_at_call 25; refine (toMessage _ D _ SM.out (HR.out.below B5.out.drew)).mono ?_; rintro e w6 ⟨v6, rfl, own6, hb6⟩; have B6 : Hid (Below w.heap.size w w6) := B5.out.drew.trans (hb6.mono B5.out.size); have Q6 : Hid (ReadsG w6 v6 D) := own6.reads; have R6 : Hid (ReadsG w6 (.agg #[.slice b4 n d4, .string Y]) D) := ⟨b4, d4, by rw [HN.out.1, HN.out.2], (show Src w5.drew b4 (cellsFl D.F) from S5.out).below hb6⟩; have r0 := (Y5.out.drew.below hb6) 0 _ rfl |>.1; have r1 := (Y5.out.drew.below hb6) 1 _ rfl |>.1; clear hb6 own6))
  all_goals
    go_wp2_with fail
    go_ret
    exact ⟨rfl, B7.out⟩

end Go.Proofs.YtgbhjhbmolgbeaaDoor.fnExactMessageText
