/-
  The walk of the law FnExactNewHeap.
  By an AI agent.
-/
import Derived.Test.YtmpkdggboniigaaHeaps3
namespace Go.Proofs.Ytmpkdggboniigaa.fnExactNewHeap
open Go.ChangeShapes Go.WideShapes Go.ChangeAt Go.WideMaps Go.WideElems Go.RowKit Go.Deep
open Go.ChangeMaps (open_string shut_string)
set_option linter.unusedVariables false

theorem fresh_small : wtH freshH ≤ 1048576 ∧ freshH.length ≤ 1048576 ∧ ∀ D ∈ freshH, wtN D ≤ 9000000000000000000 := by
  refine ⟨by decide, by decide, fun D h => ?_⟩
  unfold freshH at h
  rw [List.eq_of_mem_replicate h]
  decide
set_option maxHeartbeats 2000000 in
theorem walk (w : World) : Calls Try.prog 11 #[] w fun e w' => e = .returned (.bool true) ∧ Below w.heap.size w w' := by
  obtain ⟨H, hH⟩ : ∃ H, freshH = H := ⟨_, rfl⟩
  have SM : Hid (wtH H ≤ 1048576 ∧ H.length ≤ 1048576 ∧ ∀ D ∈ H, wtN D ≤ 9000000000000000000) := hH ▸ fresh_small
  have HF : Hid (freshH = H) := hH
  clear hH
  go_enter Try.func11, Try.ntmps11
  go_wp2_with fail
  refine (specNewHeap _).mono ?_
  rw [HF.out]
  rintro e w1 ⟨v1, rfl, own1, hb1⟩
  obtain ⟨a1, c1, rfl⟩ := own1.lit
  have B1 : Hid (Below w.heap.size w w1) := hb1
  have R1 : Hid (OwnsH w1 w.heap.size w1.heap.size (.agg #[.slice a1 H.length c1]) H) := own1
  clear hb1 own1
  go_wp2_with fail
  refine (implNewHeap _).mono ?_
  rw [HF.out]
  rintro e w2 ⟨v2, rfl, own2, hb2⟩
  obtain ⟨a2, c2, rfl⟩ := own2.lit
  have B2 : Hid (Below w.heap.size w w2) := B1.out.trans ((Below.new hb2).mono B1.out.size)
  have R2 : Hid (OwnsH w2 w.heap.size w1.heap.size (.agg #[.slice a1 H.length c1]) H) := R1.out.below (Below.new hb2)
  have X2 : Hid (Box w2 w1.heap.size [.slice a1 H.length c1]) := Box.below (Box.new rfl) hb2
  have O2 : Hid (OwnsH w2 (w1.heap.size + 1) w2.heap.size (.agg #[.slice a2 H.length c2]) H) := own2.mono (by simp) (Nat.le_refl _)
  have Z2 : Hid (w1.heap.size + 1 ≤ w2.heap.size) := size_new hb2
  have ZW : Hid (w.heap.size ≤ w1.heap.size) := B1.out.size
  clear hb2 own2 R1 B1
  obtain ⟨p0, _⟩ := X2.out.old (.cells #[.slice a2 H.length c2] 62) 0 _ rfl
  go_wp2_with fail
  refine (eqHeap _ _ H _ SM.out.2.1 SM.out.2.2 (O2.out.reads.below ((Below.refl _ _).alloc (Nat.le_refl _) _)) (R2.out.reads.below ((Below.refl _ _).alloc (Nat.le_refl _) _))).mono ?_
  rintro e w3 ⟨rfl, hb3⟩
  have B3 : Hid (Below w.heap.size w w3) := B2.out.trans ((Below.new hb3).mono B2.out.size)
  have R3 : Hid (OwnsH w3 w.heap.size w1.heap.size (.agg #[.slice a1 H.length c1]) H) := R2.out.below (Below.new hb3)
  have X3 : Hid (Box w3 w1.heap.size [.slice a1 H.length c1]) := X2.out.below (Below.new hb3)
  have Y3 : Hid (Box w3 w2.heap.size [.slice a2 H.length c2]) := Box.below (Box.new rfl) hb3
  have O3 : Hid (OwnsH w3 (w1.heap.size + 1) w2.heap.size (.agg #[.slice a2 H.length c2]) H) := O2.out.below (Below.new hb3)
  have Z3 : Hid (w2.heap.size + 1 ≤ w3.heap.size) := size_new hb3
  clear hb3 B2 R2 X2 O2 p0
  obtain ⟨q0, _⟩ := Y3.out 0 _ rfl
  go_wp2_with fail
  refine (markHeap _ H (w1.heap.size + 1) w2.heap.size 1 _ SM.out.1 (by omega) (by omega) (by have := Z3.out; omega) O3.out).mono ?_
  rintro e w4 ⟨rfl, T4, m4⟩
  have OM : Hid (w.heap.size ≤ w1.heap.size ∧ w1.heap.size + 1 ≤ w2.heap.size ∧ w2.heap.size + 1 ≤ w3.heap.size) := ⟨ZW.out, Z2.out, Z3.out⟩
  have B4 : Hid (Below w.heap.size w w4) := Below.turned B3.out T4 (Nat.le_refl _) (by have := OM.out; omega)
  have X4 : Hid (Box w4 w1.heap.size [.slice a1 H.length c1]) := X3.out.turned T4 (by omega)
  have Y4 : Hid (Box w4 w2.heap.size [.slice a2 H.length c2]) := Y3.out.turned T4 (by omega)
  have O4 : Hid (OwnsH w4 (w1.heap.size + 1) w2.heap.size (.agg #[.slice a2 H.length c2]) (markH H 1)) := m4
  have R4 : Hid (OwnsH w4 w.heap.size w1.heap.size (.agg #[.slice a1 H.length c1]) H) := R3.out.turned T4 (by omega)
  clear T4 m4 B3 X3 Y3 O3 R3 q0
  obtain ⟨E, hE⟩ : ∃ E, endH H 1 = E := ⟨_, rfl⟩
  rw [hE]
  have HE : Hid (endH H 1 = E) := hE
  clear hE
  have hk2 : decide (((E : Nat) : Int) < 0) = false := by simp
  have hk3 : (((E : Nat) : Int) != ((E : Nat) : Int)) = false := by simp
  obtain ⟨q0, _⟩ := Y4.out 0 _ rfl
  go_wp2_with fail
  refine (heldHeap _ H 1 _ SM.out.1 (by omega) (by omega) O4.out.reads).mono ?_
  rw [HE.out]
  rintro e w5 ⟨rfl, hb5⟩
  have B5 : Hid (Below w.heap.size w w5) := B4.out.trans (hb5.mono B4.out.size)
  have X5 : Hid (Box w5 w1.heap.size [.slice a1 H.length c1]) := X4.out.below hb5
  have Y5 : Hid (Box w5 w2.heap.size [.slice a2 H.length c2]) := Y4.out.below hb5
  have O5 : Hid (OwnsH w5 (w1.heap.size + 1) w2.heap.size (.agg #[.slice a2 H.length c2]) (markH H 1)) := O4.out.below hb5
  have R5 : Hid (OwnsH w5 w.heap.size w1.heap.size (.agg #[.slice a1 H.length c1]) H) := R4.out.below hb5
  clear hb5 B4 X4 Y4 O4 R4 q0
  go_wp2_with fail
  refine (implNewHeap _).mono ?_
  rw [HF.out]
  rintro e w6 ⟨v6, rfl, own6, hb6⟩
  obtain ⟨a6, c6, rfl⟩ := own6.lit
  have B6 : Hid (Below w.heap.size w w6) := B5.out.trans (hb6.mono B5.out.size)
  have X6 : Hid (Box w6 w1.heap.size [.slice a1 H.length c1]) := X5.out.below hb6
  have Y6 : Hid (Box w6 w2.heap.size [.slice a2 H.length c2]) := Y5.out.below hb6
  have O6 : Hid (OwnsH w6 (w1.heap.size + 1) w2.heap.size (.agg #[.slice a2 H.length c2]) (markH H 1)) := O5.out.below hb6
  have R6 : Hid (OwnsH w6 w.heap.size w1.heap.size (.agg #[.slice a1 H.length c1]) H) := R5.out.below hb6
  have N6 : Hid (ReadsH w6 (.agg #[.slice a6 H.length c6]) H) := own6.reads
  clear hb6 own6 B5 X5 Y5 O5 R5
  obtain ⟨p0, _⟩ := X6.out.old (.cells #[.slice a6 H.length c6] 62) 0 _ rfl
  go_wp2_with fail
  refine (eqHeap _ _ H _ SM.out.2.1 SM.out.2.2 (N6.out.below ((Below.refl _ _).alloc (Nat.le_refl _) _)) (R6.out.reads.below ((Below.refl _ _).alloc (Nat.le_refl _) _))).mono ?_
  rintro e w7 ⟨rfl, hb7⟩
  have B7 : Hid (Below w.heap.size w w7) := B6.out.trans ((Below.new hb7).mono B6.out.size)
  have Y7 : Hid (Box w7 w2.heap.size [.slice a2 H.length c2]) := Y6.out.below (Below.new hb7)
  have O7 : Hid (OwnsH w7 (w1.heap.size + 1) w2.heap.size (.agg #[.slice a2 H.length c2]) (markH H 1)) := O6.out.below (Below.new hb7)
  clear hb7 B6 X6 Y6 O6 R6 N6 p0
  obtain ⟨q0, _⟩ := Y7.out 0 _ rfl
  go_wp2_with fail
  refine (heldHeap _ H 1 _ SM.out.1 (by omega) (by omega) O7.out.reads).mono ?_
  rw [HE.out]
  rintro e w8 ⟨rfl, hb8⟩
  have B8 : Hid (Below w.heap.size w w8) := B7.out.trans (hb8.mono B7.out.size)
  clear hb8 q0
  go_wp2_with fail
  go_ret
  exact ⟨rfl, B8.out⟩
end Go.Proofs.Ytmpkdggboniigaa.fnExactNewHeap
