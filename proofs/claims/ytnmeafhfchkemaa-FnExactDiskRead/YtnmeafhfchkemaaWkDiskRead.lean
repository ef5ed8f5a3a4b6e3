/-
  The walk of the law FnExactDiskRead.
  By an AI agent.
-/
import Derived.Test.YtnmeafhfchkemaaDrd
namespace Go.Proofs.Ytnmeafhfchkemaa.fnExactDiskRead
open Go.ChangeShapes Go.WideShapes Go.ChangeAt Go.WideMaps Go.WideElems Go.RowKit Go.Deep
open Go.ChangeMaps (open_string shut_string)
set_option linter.unusedVariables false

set_option maxHeartbeats 4000000 in
theorem walk (v : Value) (D : DM) (x : Int) (w : World) (h : ReadsD w v D) (hm : D.S.length ≤ maxLen ∧ (∀ x ∈ D.S, x.size ≤ maxLen) ∧ D.C.length ≤ maxLen ∧ (∀ x ∈ D.C, x.2.size ≤ maxLen) ∧ D.K.length ≤ maxLen) :
    Calls Try.prog 13 #[v, .int .i64 x] w fun e w' => e = .returned (.bool true) ∧ Below w.heap.size w w' := by
  have HM : Hid (D.S.length ≤ maxLen ∧ (∀ x ∈ D.S, x.size ≤ maxLen) ∧ D.C.length ≤ maxLen ∧ (∀ x ∈ D.C, x.2.size ≤ maxLen) ∧ D.K.length ≤ maxLen) := hm
  obtain ⟨a1, c1, a2, c2, a3, c3, rfl, s1, s2, s3⟩ := h
  have HR : Hid (ReadsD w (.agg #[.slice a1 D.S.length c1, .slice a2 D.C.length c2, .bool D.A, .slice a3 D.K.length c3]) D) := ⟨a1, c1, a2, c2, a3, c3, rfl, s1, s2, s3⟩
  clear hm s1 s2 s3
  go_enter Try.func13, Try.ntmps13
  go_wp2_with fail
  refine (szDisk _ D _ HM.out (HR.out.below ((Below.refl _ _).alloc (Nat.le_refl _) _))).mono ?_
  rintro e w1 ⟨r, rfl, hr, hb1⟩
  have B1 : Hid (Below w.heap.size w w1) := Below.new hb1
  have X1 : Hid (Box w1 w.heap.size [.slice a1 D.S.length c1, .slice a2 D.C.length c2, .bool D.A, .slice a3 D.K.length c3]) := Box.below (Box.new rfl) hb1
  clear hb1
  by_cases hneg : r < 0
  · clear hr
    go_wp2_with fail
    go_ret
    exact ⟨rfl, B1.out⟩
  have SM : Hid (smallD D) := hr (by omega)
  clear hr
  obtain ⟨p0, _⟩ := X1.out 0 _ rfl
  obtain ⟨p1, _⟩ := X1.out 1 _ rfl
  obtain ⟨p2, _⟩ := X1.out 2 _ rfl
  obtain ⟨p3, _⟩ := X1.out 3 _ rfl
  go_wp2_with fail
  refine (toDisk _ D _ SM.out (HR.out.below B1.out)).mono ?_
  rintro e w2 ⟨v2, rfl, own2, hb2⟩
  clear p0 p1 p2 p3
  have B2 : Hid (Below w.heap.size w w2) := B1.out.trans ((hb2).mono B1.out.size)
  have X2 : Hid (Box w2 w.heap.size [.slice a1 D.S.length c1, .slice a2 D.C.length c2, .bool D.A, .slice a3 D.K.length c3]) := X1.out.below (hb2)
  clear B1 X1
  have O2 : Hid (ReadsD w2 v2 D) := own2.reads
  clear hb2 own2
  go_wp2_with fail
  refine (specDiskRead _ D x _ SM.out O2.out).mono ?_
  rintro e w3 ⟨y, c, rfl, heq, hb3⟩
  have B3 : Hid (Below w.heap.size w w3) := B2.out.trans ((hb3).mono B2.out.size)
  have X3 : Hid (Box w3 w.heap.size [.slice a1 D.S.length c1, .slice a2 D.C.length c2, .bool D.A, .slice a3 D.K.length c3]) := X2.out.below (hb3)
  clear B2 X2
  have HEQ : Hid (dread D x = (y, c)) := heq
  clear hb3 heq O2
  obtain ⟨p0, _⟩ := X3.out 0 _ rfl
  obtain ⟨p1, _⟩ := X3.out 1 _ rfl
  obtain ⟨p2, _⟩ := X3.out 2 _ rfl
  obtain ⟨p3, _⟩ := X3.out 3 _ rfl
  go_wp2_with fail
  refine (toDisk _ D _ SM.out (HR.out.below B3.out)).mono ?_
  rintro e w4 ⟨v4, rfl, own4, hb4⟩
  obtain ⟨e1, f1, e2, f2, e3, f3, rfl⟩ := own4.lit
  clear p0 p1 p2 p3
  have B4 : Hid (Below w.heap.size w w4) := B3.out.trans ((hb4).mono B3.out.size)
  have X4 : Hid (Box w4 w.heap.size [.slice a1 D.S.length c1, .slice a2 D.C.length c2, .bool D.A, .slice a3 D.K.length c3]) := X3.out.below (hb4)
  clear B3 X3
  have O4 : Hid (ReadsD w4 (.agg #[.slice e1 D.S.length f1, .slice e2 D.C.length f2, .bool D.A, .slice e3 D.K.length f3]) D) := own4.reads
  clear hb4 own4
  go_wp2_with fail
  refine (implDiskRead _ D x _ SM.out (O4.out.below ((Below.refl _ _).alloc (Nat.le_refl _) _))).mono ?_
  rintro e w5 ⟨y', c', rfl, heq, hb5⟩
  obtain ⟨rfl, rfl⟩ : y = y' ∧ c = c' := by have h2 := HEQ.out.symm.trans heq; simpa using h2
  clear heq
  have B5 : Hid (Below w.heap.size w w5) := B4.out.trans ((Below.new hb5).mono B4.out.size)
  have X5 : Hid (Box w5 w.heap.size [.slice a1 D.S.length c1, .slice a2 D.C.length c2, .bool D.A, .slice a3 D.K.length c3]) := X4.out.below (Below.new hb5)
  have O5 : Hid (ReadsD w5 (.agg #[.slice e1 D.S.length f1, .slice e2 D.C.length f2, .bool D.A, .slice e3 D.K.length f3]) D) := O4.out.below (Below.new hb5)
  clear B4 X4 O4
  have Y5 : Hid (Box w5 w4.heap.size [.slice e1 D.S.length f1, .slice e2 D.C.length f2, .bool D.A, .slice e3 D.K.length f3]) := Box.below (Box.new rfl) hb5
  clear hb5
  have hcc : (c != c) = false := by simp
  obtain ⟨p0, _⟩ := X5.out 0 _ rfl
  obtain ⟨p1, _⟩ := X5.out 1 _ rfl
  obtain ⟨p2, _⟩ := X5.out 2 _ rfl
  obtain ⟨p3, _⟩ := X5.out 3 _ rfl
  obtain ⟨q0, _⟩ := Y5.out 0 _ rfl
  obtain ⟨q1, _⟩ := Y5.out 1 _ rfl
  obtain ⟨q2, _⟩ := Y5.out 2 _ rfl
  obtain ⟨q3, _⟩ := Y5.out 3 _ rfl
  go_wp2_with fail
  go_region_with (first | (go_at_call 63; refine (eqDisk _ _ D _ (small_len SM.out) O6.out.1 O6.out.2).mono ?_; rintro e w7 ⟨rfl, hb7⟩; have B7 : Hid (Below w.heap.size w w7) := B6.out.trans (hb7.mono B6.out.size); clear hb7) | (go_at_call 68; refine (toDisk _ D _ SM.out (HR.out.below B5.out.drew)).mono ?_; rintro e w6 ⟨v6, rfl, own6, hb6⟩; have B6 : Hid (Below w.heap.size w w6) := B5.out.drew.trans (hb6.mono B5.out.size); have O6 : Hid (ReadsD w6 (.agg #[.slice e1 D.S.length f1, .slice e2 D.C.length f2, .bool D.A, .slice e3 D.K.length f3]) D ∧ ReadsD w6 v6 D) := ⟨O5.out.drew.below hb6, own6.reads⟩; have Y6 := Y5.out.drew.below hb6; clear q0 q1 q2 q3; obtain ⟨q0, _⟩ := Y6 0 _ rfl; obtain ⟨q1, _⟩ := Y6 1 _ rfl; obtain ⟨q2, _⟩ := Y6 2 _ rfl; obtain ⟨q3, _⟩ := Y6 3 _ rfl; clear hb6 own6 Y6))
  all_goals go_wp2_with fail
  all_goals
    go_ret
    exact ⟨rfl, B7.out⟩
end Go.Proofs.Ytnmeafhfchkemaa.fnExactDiskRead
