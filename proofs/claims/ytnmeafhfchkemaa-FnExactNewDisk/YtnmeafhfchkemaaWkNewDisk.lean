/-
  The walk of the law FnExactNewDisk.
  By an AI agent.
-/
import Derived.Test.YtnmeafhfchkemaaDnew
namespace Go.Proofs.Ytnmeafhfchkemaa.fnExactNewDisk
open Go.ChangeShapes Go.WideShapes Go.ChangeAt Go.WideMaps Go.WideElems Go.RowKit Go.Deep
open Go.ChangeMaps (open_string shut_string)
set_option linter.unusedVariables false

set_option maxHeartbeats 4000000 in
theorem walk (n : Int) (w : World) : Calls Try.prog 10 #[.int .i64 n] w fun e w' => e = .returned (.bool true) ∧ Below w.heap.size w w' := by
  go_enter Try.func10, Try.ntmps10
  go_wp2_with fail
  refine (specNewDisk n _).mono ?_
  rintro e w1 ⟨v1, R, c, rfl, heq, own1, hb1⟩
  obtain ⟨b1, d1, b2, d2, b3, d3, rfl⟩ := own1.lit
  have B1 : Hid (Below w.heap.size w w1) := hb1
  have OW1 : Hid (OwnsD w1 w.heap.size w1.heap.size (.agg #[.slice b1 R.S.length d1, .slice b2 R.C.length d2, .bool R.A, .slice b3 R.K.length d3]) R) := own1
  have HEQ : Hid (ndisk n = (R, c)) := heq
  have SMR : Hid (smallD R) := nd_small heq
  have Z1 : Hid (w.heap.size ≤ w1.heap.size) := hb1.size
  clear heq hb1 own1
  go_wp2_with fail
  refine (implNewDisk n _).mono ?_
  rintro e w2 ⟨v2, R', c', rfl, heq, own2, hb2⟩
  obtain ⟨rfl, rfl⟩ : R = R' ∧ c = c' := by have h2 := HEQ.out.symm.trans heq; simpa using h2
  clear heq
  obtain ⟨g1, k1, g2, k2, g3, k3, rfl⟩ := own2.lit
  have B2 : Hid (Below w.heap.size w w2) := B1.out.trans ((Below.new hb2).mono B1.out.size)
  have OW2 : Hid (OwnsD w2 w.heap.size w1.heap.size (.agg #[.slice b1 R.S.length d1, .slice b2 R.C.length d2, .bool R.A, .slice b3 R.K.length d3]) R) := OW1.out.below (Below.new hb2)
  clear B1 OW1
  have W2 : Hid (Box w2 w1.heap.size [.slice b1 R.S.length d1, .slice b2 R.C.length d2, .bool R.A, .slice b3 R.K.length d3]) := Box.below (Box.new rfl) hb2
  have OG2 : Hid (OwnsD w2 (w1.heap.size + 1) w2.heap.size (.agg #[.slice g1 R.S.length k1, .slice g2 R.C.length k2, .bool R.A, .slice g3 R.K.length k3]) R) := own2.mono (by simp) (Nat.le_refl _)
  have Z2 : Hid (w1.heap.size + 1 ≤ w2.heap.size) := size_new hb2
  clear hb2 own2
  have hcc : (c != c) = false := by simp
  obtain ⟨q0, _⟩ := (W2.out.old (.cells #[.slice g1 R.S.length k1, .slice g2 R.C.length k2, .bool R.A, .slice g3 R.K.length k3] 46)) 0 _ rfl
  obtain ⟨q1, _⟩ := (W2.out.old (.cells #[.slice g1 R.S.length k1, .slice g2 R.C.length k2, .bool R.A, .slice g3 R.K.length k3] 46)) 1 _ rfl
  obtain ⟨q2, _⟩ := (W2.out.old (.cells #[.slice g1 R.S.length k1, .slice g2 R.C.length k2, .bool R.A, .slice g3 R.K.length k3] 46)) 2 _ rfl
  obtain ⟨q3, _⟩ := (W2.out.old (.cells #[.slice g1 R.S.length k1, .slice g2 R.C.length k2, .bool R.A, .slice g3 R.K.length k3] 46)) 3 _ rfl
  go_wp2_with fail
  refine (eqDisk _ _ R _ (small_len SMR.out) (OG2.out.reads.below ((Below.refl _ _).alloc (Nat.le_refl _) _)) (OW2.out.reads.below ((Below.refl _ _).alloc (Nat.le_refl _) _))).mono ?_
  rintro e w3 ⟨rfl, hb3⟩
  clear q0 q1 q2 q3
  have B3 : Hid (Below w.heap.size w w3) := B2.out.trans ((Below.new hb3).mono B2.out.size)
  have OW3 : Hid (OwnsD w3 w.heap.size w1.heap.size (.agg #[.slice b1 R.S.length d1, .slice b2 R.C.length d2, .bool R.A, .slice b3 R.K.length d3]) R) := OW2.out.below (Below.new hb3)
  have W3 : Hid (Box w3 w1.heap.size [.slice b1 R.S.length d1, .slice b2 R.C.length d2, .bool R.A, .slice b3 R.K.length d3]) := W2.out.below (Below.new hb3)
  have OG3 : Hid (OwnsD w3 (w1.heap.size + 1) w2.heap.size (.agg #[.slice g1 R.S.length k1, .slice g2 R.C.length k2, .bool R.A, .slice g3 R.K.length k3]) R) := OG2.out.below (Below.new hb3)
  clear B2 OW2 W2 OG2
  have GB3 : Hid (Box w3 w2.heap.size [.slice g1 R.S.length k1, .slice g2 R.C.length k2, .bool R.A, .slice g3 R.K.length k3]) := Box.below (Box.new rfl) hb3
  clear hb3
  obtain ⟨q0, _⟩ := GB3.out 0 _ rfl
  obtain ⟨q1, _⟩ := GB3.out 1 _ rfl
  obtain ⟨q2, _⟩ := GB3.out 2 _ rfl
  obtain ⟨q3, _⟩ := GB3.out 3 _ rfl
  go_wp2_with fail
  refine (markDisk _ R (w1.heap.size + 1) w2.heap.size 1 _ (small_len2 SMR.out) (by omega) (by omega) (by have := GB3.out 0 _ rfl; have := World.block_lt_of_cell? _ _ this.1; dsimp only at this; omega) OG3.out).mono ?_
  rintro e w4 ⟨rfl, T4, m4⟩
  clear q0 q1 q2 q3
  have B4 : Hid (Below w.heap.size w w4) := Below.turned B3.out T4 (Nat.le_refl _) (by have := Z1.out; have := Z2.out; omega)
  have OW4 : Hid (OwnsD w4 w.heap.size w1.heap.size (.agg #[.slice b1 R.S.length d1, .slice b2 R.C.length d2, .bool R.A, .slice b3 R.K.length d3]) R) := OW3.out.turned T4 (by have := Z1.out; have := Z2.out; omega)
  have W4 : Hid (Box w4 w1.heap.size [.slice b1 R.S.length d1, .slice b2 R.C.length d2, .bool R.A, .slice b3 R.K.length d3]) := W3.out.turned T4 (by have := Z1.out; have := Z2.out; omega)
  have GB4 : Hid (Box w4 w2.heap.size [.slice g1 R.S.length k1, .slice g2 R.C.length k2, .bool R.A, .slice g3 R.K.length k3]) := GB3.out.turned T4 (by have := Z1.out; have := Z2.out; omega)
  clear B3 OW3 W3 GB3
  clear OG3
  have OG4 : Hid (OwnsD w4 (w1.heap.size + 1) w2.heap.size (.agg #[.slice g1 R.S.length k1, .slice g2 R.C.length k2, .bool R.A, .slice g3 R.K.length k3]) (markedD R 1)) := m4
  clear T4 m4
  obtain ⟨E, hE⟩ : ∃ E, endD R 1 = E := ⟨_, rfl⟩
  rw [hE]
  have HE : Hid (endD R 1 = E) := hE
  clear hE
  have hk2 : decide (((E : Nat) : Int) < 0) = false := by simp
  have hk3 : (((E : Nat) : Int) != ((E : Nat) : Int)) = false := by simp
  obtain ⟨q0, _⟩ := GB4.out 0 _ rfl
  obtain ⟨q1, _⟩ := GB4.out 1 _ rfl
  obtain ⟨q2, _⟩ := GB4.out 2 _ rfl
  obtain ⟨q3, _⟩ := GB4.out 3 _ rfl
  go_wp2_with fail
  refine (heldDisk _ R 1 _ (small_len2 SMR.out) (by omega) (by omega) OG4.out.reads).mono ?_
  rintro e w5 ⟨rfl, hb5⟩
  rw [HE.out]
  clear q0 q1 q2 q3
  have B5 : Hid (Below w.heap.size w w5) := B4.out.trans ((hb5).mono B4.out.size)
  have OW5 : Hid (OwnsD w5 w.heap.size w1.heap.size (.agg #[.slice b1 R.S.length d1, .slice b2 R.C.length d2, .bool R.A, .slice b3 R.K.length d3]) R) := OW4.out.below (hb5)
  have W5 : Hid (Box w5 w1.heap.size [.slice b1 R.S.length d1, .slice b2 R.C.length d2, .bool R.A, .slice b3 R.K.length d3]) := W4.out.below (hb5)
  have OG5 : Hid (OwnsD w5 (w1.heap.size + 1) w2.heap.size (.agg #[.slice g1 R.S.length k1, .slice g2 R.C.length k2, .bool R.A, .slice g3 R.K.length k3]) (markedD R 1)) := OG4.out.below (hb5)
  have GB5 : Hid (Box w5 w2.heap.size [.slice g1 R.S.length k1, .slice g2 R.C.length k2, .bool R.A, .slice g3 R.K.length k3]) := GB4.out.below (hb5)
  clear B4 OW4 W4 OG4 GB4
  clear hb5
  go_wp2_with fail
  refine (implNewDisk n _).mono ?_
  rintro e w6 ⟨v6, R', c', rfl, heq, own6, hb6⟩
  obtain ⟨rfl, rfl⟩ : R = R' ∧ c = c' := by have h2 := HEQ.out.symm.trans heq; simpa using h2
  obtain ⟨m1, n1, m2, n2, m3, n3, rfl⟩ := own6.lit
  have B6 : Hid (Below w.heap.size w w6) := B5.out.trans ((hb6).mono B5.out.size)
  have OW6 : Hid (OwnsD w6 w.heap.size w1.heap.size (.agg #[.slice b1 R.S.length d1, .slice b2 R.C.length d2, .bool R.A, .slice b3 R.K.length d3]) R) := OW5.out.below (hb6)
  have W6 : Hid (Box w6 w1.heap.size [.slice b1 R.S.length d1, .slice b2 R.C.length d2, .bool R.A, .slice b3 R.K.length d3]) := W5.out.below (hb6)
  have OG6 : Hid (OwnsD w6 (w1.heap.size + 1) w2.heap.size (.agg #[.slice g1 R.S.length k1, .slice g2 R.C.length k2, .bool R.A, .slice g3 R.K.length k3]) (markedD R 1)) := OG5.out.below (hb6)
  have GB6 : Hid (Box w6 w2.heap.size [.slice g1 R.S.length k1, .slice g2 R.C.length k2, .bool R.A, .slice g3 R.K.length k3]) := GB5.out.below (hb6)
  clear B5 OW5 W5 OG5 GB5
  have OH : Hid (ReadsD w6 (.agg #[.slice m1 R.S.length n1, .slice m2 R.C.length n2, .bool R.A, .slice m3 R.K.length n3]) R) := own6.reads
  clear heq hb6 own6
  obtain ⟨q0, _⟩ := (W6.out.old (.cells #[.slice m1 R.S.length n1, .slice m2 R.C.length n2, .bool R.A, .slice m3 R.K.length n3] 46)) 0 _ rfl
  obtain ⟨q1, _⟩ := (W6.out.old (.cells #[.slice m1 R.S.length n1, .slice m2 R.C.length n2, .bool R.A, .slice m3 R.K.length n3] 46)) 1 _ rfl
  obtain ⟨q2, _⟩ := (W6.out.old (.cells #[.slice m1 R.S.length n1, .slice m2 R.C.length n2, .bool R.A, .slice m3 R.K.length n3] 46)) 2 _ rfl
  obtain ⟨q3, _⟩ := (W6.out.old (.cells #[.slice m1 R.S.length n1, .slice m2 R.C.length n2, .bool R.A, .slice m3 R.K.length n3] 46)) 3 _ rfl
  go_wp2_with fail
  refine (eqDisk _ _ R _ (small_len SMR.out) (OH.out.below ((Below.refl _ _).alloc (Nat.le_refl _) _)) (OW6.out.reads.below ((Below.refl _ _).alloc (Nat.le_refl _) _))).mono ?_
  rintro e w7 ⟨rfl, hb7⟩
  clear q0 q1 q2 q3
  have B7 : Hid (Below w.heap.size w w7) := B6.out.trans ((Below.new hb7).mono B6.out.size)
  have OW7 : Hid (OwnsD w7 w.heap.size w1.heap.size (.agg #[.slice b1 R.S.length d1, .slice b2 R.C.length d2, .bool R.A, .slice b3 R.K.length d3]) R) := OW6.out.below (Below.new hb7)
  have W7 : Hid (Box w7 w1.heap.size [.slice b1 R.S.length d1, .slice b2 R.C.length d2, .bool R.A, .slice b3 R.K.length d3]) := W6.out.below (Below.new hb7)
  have OG7 : Hid (OwnsD w7 (w1.heap.size + 1) w2.heap.size (.agg #[.slice g1 R.S.length k1, .slice g2 R.C.length k2, .bool R.A, .slice g3 R.K.length k3]) (markedD R 1)) := OG6.out.below (Below.new hb7)
  have GB7 : Hid (Box w7 w2.heap.size [.slice g1 R.S.length k1, .slice g2 R.C.length k2, .bool R.A, .slice g3 R.K.length k3]) := GB6.out.below (Below.new hb7)
  clear B6 OW6 W6 OG6 GB6
  clear hb7 OH
  obtain ⟨q0, _⟩ := GB7.out 0 _ rfl
  obtain ⟨q1, _⟩ := GB7.out 1 _ rfl
  obtain ⟨q2, _⟩ := GB7.out 2 _ rfl
  obtain ⟨q3, _⟩ := GB7.out 3 _ rfl
  go_wp2_with fail
  refine (heldDisk _ R 1 _ (small_len2 SMR.out) (by omega) (by omega) OG7.out.reads).mono ?_
  rintro e w8 ⟨rfl, hb8⟩
  rw [HE.out]
  clear q0 q1 q2 q3
  have B8 : Hid (Below w.heap.size w w8) := B7.out.trans ((hb8).mono B7.out.size)
  have OW8 : Hid (OwnsD w8 w.heap.size w1.heap.size (.agg #[.slice b1 R.S.length d1, .slice b2 R.C.length d2, .bool R.A, .slice b3 R.K.length d3]) R) := OW7.out.below (hb8)
  have W8 : Hid (Box w8 w1.heap.size [.slice b1 R.S.length d1, .slice b2 R.C.length d2, .bool R.A, .slice b3 R.K.length d3]) := W7.out.below (hb8)
  have OG8 : Hid (OwnsD w8 (w1.heap.size + 1) w2.heap.size (.agg #[.slice g1 R.S.length k1, .slice g2 R.C.length k2, .bool R.A, .slice g3 R.K.length k3]) (markedD R 1)) := OG7.out.below (hb8)
  have GB8 : Hid (Box w8 w2.heap.size [.slice g1 R.S.length k1, .slice g2 R.C.length k2, .bool R.A, .slice g3 R.K.length k3]) := GB7.out.below (hb8)
  clear B7 OW7 W7 OG7 GB7
  clear hb8
  go_wp2_with fail
  go_ret
  exact ⟨rfl, B8.out⟩
end Go.Proofs.Ytnmeafhfchkemaa.fnExactNewDisk
