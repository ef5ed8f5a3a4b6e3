/-
  The walk of the law FnExactBackupOK.
  By an AI agent.
-/
import Derived.Test.YtmbloodofdclgaaBokz
namespace Go.Proofs.Ytmbloodofdclgaa.fnExactBackupOK
open Go.ChangeShapes Go.WideShapes Go.ChangeAt Go.WideMaps Go.WideElems Go.RowKit Go.Deep
open Go.ChangeMaps (open_string shut_string)
set_option linter.unusedVariables false

set_option maxHeartbeats 2000000 in
theorem walk (v : Value) (D : BM) (w : World) (h : ReadsK w v D) (hm : maxK D) :
    Calls Try.prog 4 #[v] w fun e w' => e = .returned (.bool true) ∧ Below w.heap.size w w' := by
  have HM : Hid (maxK D) := hm
  obtain ⟨a1, c1, rfl, s1⟩ := h
  have HR : Hid (ReadsK w (.agg #[.string D.F, .string D.T, .int .i64 D.C, .slice a1 D.D.length c1, .int .i64 D.S]) D) := ⟨a1, c1, rfl, s1⟩
  clear hm s1
  go_enter Try.func4, Try.ntmps4
  go_wp2_with fail
  refine (szBackup _ D 1048576 _ (by omega) (by omega) HM.out (HR.out.below ((Below.refl _ _).alloc (Nat.le_refl _) _))).mono ?_
  rintro e w1 ⟨r, rfl, _, hr, hb1⟩
  have B1 : Hid (Below w.heap.size w w1) := Below.new hb1
  have X1 : Hid (Box w1 w.heap.size [.string D.F, .string D.T, .int .i64 D.C, .slice a1 D.D.length c1, .int .i64 D.S]) := Box.below (Box.new rfl) hb1
  clear hb1
  by_cases hneg : r < 0
  · clear hr
    go_wp2_with fail
    go_ret
    exact ⟨rfl, B1.out⟩
  have SM : Hid (smallK D) := hr (by omega)
  clear hr
  obtain ⟨p0, _⟩ := X1.out 0 _ rfl
  obtain ⟨p1, _⟩ := X1.out 1 _ rfl
  obtain ⟨p2, _⟩ := X1.out 2 _ rfl
  obtain ⟨p3, _⟩ := X1.out 3 _ rfl
  obtain ⟨p4, _⟩ := X1.out 4 _ rfl
  go_wp2_with fail
  refine (toBackup _ D _ SM.out (HR.out.below B1.out)).mono ?_
  rintro e w2 ⟨v2, rfl, own2, hb2⟩
  have B2 : Hid (Below w.heap.size w w2) := B1.out.trans (hb2.mono B1.out.size)
  have X2 : Hid (Box w2 w.heap.size [.string D.F, .string D.T, .int .i64 D.C, .slice a1 D.D.length c1, .int .i64 D.S]) := X1.out.below hb2
  have O2 : Hid (ReadsK w2 v2 D) := own2.reads
  clear hb2 own2 B1 X1 p0 p1 p2 p3 p4
  go_wp2_with fail
  refine (specBackupOK v2 D _ SM.out O2.out).mono ?_
  obtain ⟨bb, hbb⟩ : ∃ bb, okK D = bb := ⟨_, rfl⟩
  have HBB : Hid (okK D = bb) := hbb
  rw [hbb]
  clear hbb
  rintro e w3 ⟨rfl, hb3⟩
  have B3 : Hid (Below w.heap.size w w3) := B2.out.trans (hb3.mono B2.out.size)
  have X3 : Hid (Box w3 w.heap.size [.string D.F, .string D.T, .int .i64 D.C, .slice a1 D.D.length c1, .int .i64 D.S]) := X2.out.below hb3
  clear hb3 O2 B2 X2
  obtain ⟨p0, _⟩ := X3.out 0 _ rfl
  obtain ⟨p1, _⟩ := X3.out 1 _ rfl
  obtain ⟨p2, _⟩ := X3.out 2 _ rfl
  obtain ⟨p3, _⟩ := X3.out 3 _ rfl
  obtain ⟨p4, _⟩ := X3.out 4 _ rfl
  go_wp2_with fail
  refine (toBackup _ D _ SM.out (HR.out.below B3.out)).mono ?_
  rintro e w4 ⟨v4, rfl, own4, hb4⟩
  obtain ⟨b1, d1, rfl⟩ := own4.lit
  have B4 : Hid (Below w.heap.size w w4) := B3.out.trans (hb4.mono B3.out.size)
  have X4 : Hid (Box w4 w.heap.size [.string D.F, .string D.T, .int .i64 D.C, .slice a1 D.D.length c1, .int .i64 D.S]) := X3.out.below hb4
  have O4 : Hid (ReadsK w4 (.agg #[.string D.F, .string D.T, .int .i64 D.C, .slice b1 D.D.length d1, .int .i64 D.S]) D) := own4.reads
  clear hb4 own4 B3 X3 p0 p1 p2 p3 p4
  go_wp2_with fail
  refine (implBackupOK _ D _ SM.out (O4.out.below ((Below.refl _ _).alloc (Nat.le_refl _) _))).mono ?_
  rw [HBB.out]
  rintro e w5 ⟨rfl, hb5⟩
  have B5 : Hid (Below w.heap.size w w5) := B4.out.trans ((Below.new hb5).mono B4.out.size)
  have X5 : Hid (Box w5 w.heap.size [.string D.F, .string D.T, .int .i64 D.C, .slice a1 D.D.length c1, .int .i64 D.S]) := X4.out.below (Below.new hb5)
  have Y5 : Hid (Box w5 w4.heap.size [.string D.F, .string D.T, .int .i64 D.C, .slice b1 D.D.length d1, .int .i64 D.S]) := Box.below (Box.new rfl) hb5
  have O5 : Hid (ReadsK w5 (.agg #[.string D.F, .string D.T, .int .i64 D.C, .slice b1 D.D.length d1, .int .i64 D.S]) D) := O4.out.below (Below.new hb5)
  clear hb5 B4 X4 O4
  have hne : (bb != bb) = false := by cases bb <;> rfl
  obtain ⟨p0, _⟩ := X5.out 0 _ rfl
  obtain ⟨p1, _⟩ := X5.out 1 _ rfl
  obtain ⟨p2, _⟩ := X5.out 2 _ rfl
  obtain ⟨p3, _⟩ := X5.out 3 _ rfl
  obtain ⟨p4, _⟩ := X5.out 4 _ rfl
  obtain ⟨q0, _⟩ := Y5.out 0 _ rfl
  obtain ⟨q1, _⟩ := Y5.out 1 _ rfl
  obtain ⟨q2, _⟩ := Y5.out 2 _ rfl
  obtain ⟨q3, _⟩ := Y5.out 3 _ rfl
  obtain ⟨q4, _⟩ := Y5.out 4 _ rfl
  have WT : Hid (D.D.length ≤ 9000000000000000000) := by have := SM.out.1; show D.D.length ≤ 9000000000000000000; omega
  go_wp2_with fail
  go_region_with (first | (go_at_call 22; refine (eqBackup _ _ D _ WT.out O6.out.1 O6.out.2).mono ?_; rintro e w7 ⟨rfl, hb7⟩; have B7 : Hid (Below w.heap.size w w7) := B6.out.trans (hb7.mono B6.out.size); clear hb7) | (go_at_call 20; refine (toBackup _ D _ SM.out (HR.out.below B5.out.drew)).mono ?_; rintro e w6 ⟨v6, rfl, own6, hb6⟩; have B6 : Hid (Below w.heap.size w w6) := B5.out.drew.trans (hb6.mono B5.out.size); have O6 : Hid (ReadsK w6 (.agg #[.string D.F, .string D.T, .int .i64 D.C, .slice b1 D.D.length d1, .int .i64 D.S]) D ∧ ReadsK w6 v6 D) := ⟨O5.out.drew.below hb6, own6.reads⟩; have Y6 := Y5.out.drew.below hb6; clear q0 q1 q2 q3 q4; obtain ⟨q0, _⟩ := Y6 0 _ rfl; obtain ⟨q1, _⟩ := Y6 1 _ rfl; obtain ⟨q2, _⟩ := Y6 2 _ rfl; obtain ⟨q3, _⟩ := Y6 3 _ rfl; obtain ⟨q4, _⟩ := Y6 4 _ rfl; clear hb6 own6 Y6))
  all_goals go_wp2_with fail
  all_goals
    go_ret
    exact ⟨rfl, B7.out⟩
end Go.Proofs.Ytmbloodofdclgaa.fnExactBackupOK
