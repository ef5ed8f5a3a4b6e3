/-
  The walk of the law FnExactTreeGet.
  By an AI agent.
-/
import Derived.Test.YtmpkdggboniigaaTr7
import Derived.Test.YtmpkdggboniigaaHeaps4
namespace Go.Proofs.Ytmpkdggboniigaa.fnExactTreeGet
open Go.ChangeShapes Go.WideShapes Go.ChangeAt Go.WideMaps Go.WideElems Go.RowKit Go.Deep
open Go.ChangeMaps (open_string shut_string)
set_option linter.unusedVariables false

set_option maxHeartbeats 2000000 in
theorem walk (v : Value) (H : List NM) (root : Int) (key : ByteArray) (w : World) (h : ReadsH w v H) (hm : H.length ≤ maxLen ∧ ∀ x ∈ H, maxN x) (hkm : key.size ≤ maxLen) :
    Calls Try.prog 15 #[v, .int .i64 root, .string key] w fun e w' => e = .returned (.bool true) ∧ Below w.heap.size w w' := by
  have HM : Hid (H.length ≤ maxLen ∧ ∀ x ∈ H, maxN x) := hm
  obtain ⟨a1, c1, rfl, s1⟩ := h
  have HR : Hid (ReadsH w (.agg #[.slice a1 H.length c1]) H) := ⟨a1, c1, rfl, s1⟩
  clear hm s1
  unfold maxLen at hkm
  by_cases hkb : 1048576 < key.size
  · go_enter Try.func15, Try.ntmps15
    go_wp2_with fail
    go_ret
    exact ⟨rfl, (Below.refl _ _).alloc (Nat.le_refl _) _⟩
  obtain ⟨p, hp⟩ := place_tree H root key
  have HP : Hid (∀ s, treeF H root = some s → IsPlace (fK s.P) s.P.length key p) := hp
  have HK : Hid (key.size ≤ 1048576) := by show key.size ≤ 1048576; omega
  clear hp
  go_enter Try.func15, Try.ntmps15
  go_wp2_with fail
  refine (szHeap _ H 1048576 _ (by omega) (by omega) HM.out.1 HM.out.2 (HR.out.below ((Below.refl _ _).alloc (Nat.le_refl _) _))).mono ?_
  rintro e w1 ⟨r, rfl, _, hr, hb1⟩
  have B1 : Hid (Below w.heap.size w w1) := Below.new hb1
  have X1 : Hid (Box w1 w.heap.size [.slice a1 H.length c1]) := Box.below (Box.new rfl) hb1
  clear hb1
  by_cases hneg : r < 0
  · clear hr
    go_wp2_with fail
    go_ret
    exact ⟨rfl, B1.out⟩
  have SM : Hid (smallH H) := (hr (by omega)).2
  clear hr
  obtain ⟨p0, _⟩ := X1.out 0 _ rfl
  go_wp2_with fail
  refine (toHeap _ H _ SM.out (HR.out.below B1.out)).mono ?_
  rintro e w2 ⟨v2, rfl, own2, hb2⟩
  obtain ⟨e1, f1, rfl⟩ := own2.lit
  have B2 : Hid (Below w.heap.size w w2) := B1.out.trans (hb2.mono B1.out.size)
  have X2 : Hid (Box w2 w.heap.size [.slice a1 H.length c1]) := X1.out.below hb2
  have O2 : Hid (ReadsH w2 (.agg #[.slice e1 H.length f1]) H) := own2.reads
  clear hb2 own2 B1 X1 p0
  go_wp2_with fail
  refine (specTreeGet _ H root key p _ SM.out HK.out HP.out O2.out).mono ?_
  obtain ⟨V, hV⟩ : ∃ V, tgV H root key p = V := ⟨_, rfl⟩
  obtain ⟨C, hC⟩ : ∃ C, tgC H root key p = C := ⟨_, rfl⟩
  have HVC : Hid (tgV H root key p = V ∧ tgC H root key p = C) := ⟨hV, hC⟩
  rw [hV, hC]
  clear hV hC
  rintro e w3 ⟨rfl, hb3⟩
  have B3 : Hid (Below w.heap.size w w3) := B2.out.trans (hb3.mono B2.out.size)
  have X3 : Hid (Box w3 w.heap.size [.slice a1 H.length c1]) := X2.out.below hb3
  clear hb3 O2 B2 X2
  obtain ⟨p0, _⟩ := X3.out 0 _ rfl
  go_wp2_with fail
  refine (toHeap _ H _ SM.out (HR.out.below B3.out)).mono ?_
  rintro e w4 ⟨v4, rfl, own4, hb4⟩
  obtain ⟨b1, d1, rfl⟩ := own4.lit
  have B4 : Hid (Below w.heap.size w w4) := B3.out.trans (hb4.mono B3.out.size)
  have X4 : Hid (Box w4 w.heap.size [.slice a1 H.length c1]) := X3.out.below hb4
  have O4 : Hid (ReadsH w4 (.agg #[.slice b1 H.length d1]) H) := own4.reads
  clear hb4 own4 B3 X3 p0
  go_wp2_with fail
  refine (implTreeGet _ H root key p _ SM.out HK.out HP.out (O4.out.below ((Below.refl _ _).alloc (Nat.le_refl _) _))).mono ?_
  rw [HVC.out.1, HVC.out.2]
  rintro e w5 ⟨rfl, hb5⟩
  have B5 : Hid (Below w.heap.size w w5) := B4.out.trans ((Below.new hb5).mono B4.out.size)
  have X5 : Hid (Box w5 w.heap.size [.slice a1 H.length c1]) := X4.out.below (Below.new hb5)
  have Y5 : Hid (Box w5 w4.heap.size [.slice b1 H.length d1]) := Box.below (Box.new rfl) hb5
  have O5 : Hid (ReadsH w5 (.agg #[.slice b1 H.length d1]) H) := O4.out.below (Below.new hb5)
  clear hb5 B4 X4 O4
  have hne : (V.toList == V.toList) = true := by simp
  have hne2 : (C != C) = false := by simp
  obtain ⟨p0, _⟩ := X5.out 0 _ rfl
  obtain ⟨q0, _⟩ := Y5.out 0 _ rfl
  have WT : Hid (H.length ≤ 1048576 ∧ ∀ D ∈ H, wtN D ≤ 9000000000000000000) := ⟨by have := SM.out.1; unfold wtH at this; omega, fun D hD => by have := (SM.out.2 D hD).1; omega⟩
  go_wp2_with fail
  go_region_with (first | (go_at_call 72; refine (eqHeap _ _ H _ WT.out.1 WT.out.2 O6.out.1 O6.out.2).mono ?_; rintro e w7 ⟨rfl, hb7⟩; have B7 : Hid (Below w.heap.size w w7) := B6.out.trans (hb7.mono B6.out.size); clear hb7) | (go_at_call 82; refine (toHeap _ H _ SM.out (HR.out.below B5.out.drew)).mono ?_; rintro e w6 ⟨v6, rfl, own6, hb6⟩; have B6 : Hid (Below w.heap.size w w6) := B5.out.drew.trans (hb6.mono B5.out.size); have O6 : Hid (ReadsH w6 (.agg #[.slice b1 H.length d1]) H ∧ ReadsH w6 v6 H) := ⟨O5.out.drew.below hb6, own6.reads⟩; have Y6 := Y5.out.drew.below hb6; clear q0; obtain ⟨q0, _⟩ := Y6 0 _ rfl; clear hb6 own6 Y6))
  all_goals go_wp2_with fail
  all_goals
    go_ret
    exact ⟨rfl, B7.out⟩
end Go.Proofs.Ytmpkdggboniigaa.fnExactTreeGet
