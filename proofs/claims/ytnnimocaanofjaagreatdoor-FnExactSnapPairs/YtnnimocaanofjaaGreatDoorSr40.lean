/-
  Texts of the store, brought together: Stl, Stw. By an AI agent.
-/
import Derived.Test.YtnnimocaanofjaaGreatDoorSq39
import Derived.Test.YtnnimocaanofjaaGreatDoorSr38
namespace Go.Proofs.YtnnimocaanofjaaGreatDoor
set_option linter.unusedSectionVars false
variable [DecidableEq NM]
open Go.ChangeShapes Go.WideShapes Go.ChangeAt Go.RowKit Go.Deep
set_option linter.unusedVariables false
set_option linter.unusedSimpArgs false
set_option maxRecDepth 100000
theorem OwnsD.monoL {w : World} {lo hi lo' hi' : Nat} {v : Value} {D : DM} (h : OwnsD w lo hi v D) (hl : lo' ≤ lo) (hh : hi ≤ hi') : OwnsD w lo' hi' v D := by
  obtain ⟨v1, v2, v3, e, ⟨o1, b1⟩, ⟨o2, b2⟩, o3, b3⟩ := h
  exact ⟨v1, v2, v3, e, ⟨own_mono o1 hl, fun k hk => Nat.lt_of_lt_of_le (b1 k hk) hh⟩, ⟨own_mono o2 hl, fun k hk => Nat.lt_of_lt_of_le (b2 k hk) hh⟩, own_mono o3 hl, fun k hk => Nat.lt_of_lt_of_le (b3 k hk) hh⟩
def maxSt (D : DM) (U : UM) (H : List NM) : Prop := (D.S.length ≤ maxLen ∧ (∀ x ∈ D.S, x.size ≤ maxLen) ∧ D.C.length ≤ maxLen ∧ (∀ x ∈ D.C, x.2.size ≤ maxLen) ∧ D.K.length ≤ maxLen) ∧ maxU U ∧ H.length ≤ maxLen ∧ ∀ N ∈ H, maxN N
set_option maxHeartbeats 8000000 in
theorem toStore (v : Value) (D : DM) (U : UM) (H : List NM) (w : World) (hs : smallD D ∧ smallU U ∧ smallH H) (h : ReadsS w v D U H) :
    Calls Tryz.prog 10 #[v] w fun e w' => ∃ v', e = .returned v' ∧ OwnsS w' w.heap.size w'.heap.size v' D U H ∧ Below w.heap.size w w' := by
  obtain ⟨x1, x2, x3, x4, x5, rfl, p1, p2, p3⟩ := h
  obtain ⟨a1, ax1, a2, ax2, a3, ax3, rfl, rfl, rfl, _⟩ := disk_lit p1
  obtain ⟨a4, ax4, rfl⟩ := super_lit p2
  obtain ⟨a5, ax5, rfl⟩ := heap_lit p3
  have HD : Hid (ReadsD w (.agg #[.slice a1 D.S.length ax1, .slice a2 D.C.length ax2, .bool D.A, .slice a3 D.K.length ax3]) D) := p1
  have HU : Hid (ReadsU w (.agg #[.int .i64 U.G, .int .i64 U.R, .slice a4 U.S.length ax4]) U) := p2
  have HH : Hid (ReadsH w (.agg #[.slice a5 H.length ax5]) H) := p3
  have HS : Hid (smallD D ∧ smallU U ∧ smallH H) := hs
  clear p1 p2 p3 hs
  go_enter Tryz.func10, Tryz.ntmps10
  go_wp2_with fail
  refine (toDisk _ D _ HS.out.1 (HD.out.below ((((Below.refl _ _).alloc (Nat.le_refl _) _).alloc (by simp) _).alloc (by simp; omega) _))).mono ?_
  rintro e w1 ⟨v1, rfl, o1, hb1⟩
  obtain ⟨b1, bx1, b2, bx2, b3, bx3, rfl⟩ := o1.lit
  have B1 : Hid (Below w.heap.size w w1) := ((((Below.refl _ _).alloc (Nat.le_refl _) _).alloc (by simp) _).alloc (by simp; omega) _).trans (hb1.mono (by simp; omega))
  have Z1 : Hid (w.heap.size + 1 + 1 + 1 ≤ w1.heap.size) := by have := hb1.size; simp at this; show _ ≤ _; omega
  have C1 : Hid (Box w1 w.heap.size [.slice a1 D.S.length ax1, .slice a2 D.C.length ax2, .bool D.A, .slice a3 D.K.length ax3, .int .i64 U.G, .int .i64 U.R, .slice a4 U.S.length ax4, .slice a5 H.length ax5]) := Box.below (((Box.new rfl).old _).old _) hb1
  have R1 : Hid (Box w1 (w.heap.size + 1) [.slice none 0 0, .slice none 0 0, .bool false, .slice none 0 0, .int .i64 0, .int .i64 0, .slice none 0 0, .slice none 0 0]) := Box.below ((Box.new (by simp)).old _) hb1
  have O1 : Hid (Box w1 (w.heap.size + 1 + 1) [.slice none 0 0, .slice none 0 0, .bool false, .slice none 0 0, .int .i64 0, .int .i64 0, .slice none 0 0, .slice none 0 0]) := Box.below (Box.new (by simp)) hb1
  have D1 : Hid (OwnsD w1 (w.heap.size + 3) w1.heap.size (.agg #[.slice b1 D.S.length bx1, .slice b2 D.C.length bx2, .bool D.A, .slice b3 D.K.length bx3]) D) := OwnsD.monoL o1 (by simp) (Nat.le_refl _)
  clear o1 hb1
  obtain ⟨q0, f0⟩ := O1.out 0 _ rfl
  obtain ⟨q1, f1⟩ := (O1.out.set 0 (.slice b1 D.S.length bx1)) 1 _ rfl
  obtain ⟨q2, f2⟩ := ((O1.out.set 0 (.slice b1 D.S.length bx1)).set 1 (.slice b2 D.C.length bx2)) 2 _ rfl
  obtain ⟨q3, f3⟩ := (((O1.out.set 0 (.slice b1 D.S.length bx1)).set 1 (.slice b2 D.C.length bx2)).set 2 (.bool D.A)) 3 _ rfl
  obtain ⟨v1w, hv1w⟩ : ∃ W, ((((w1.setCell ⟨w.heap.size + 1 + 1, 0, none⟩ (.slice b1 D.S.length bx1)).setCell ⟨w.heap.size + 1 + 1, 1, none⟩ (.slice b2 D.C.length bx2)).setCell ⟨w.heap.size + 1 + 1, 2, none⟩ (.bool D.A)).setCell ⟨w.heap.size + 1 + 1, 3, none⟩ (.slice b3 D.K.length bx3)) = W := ⟨_, rfl⟩
  have T1 : Hid (Turned w.heap.size (w.heap.size + 3) w1 v1w) := by rw [← hv1w]; exact (((((Turned.of_below (Below.refl _ _) : Turned w.heap.size (w.heap.size + 3) w1 w1).trans (Turned.set _ ⟨w.heap.size + 1 + 1, 0, none⟩ (by dsimp only; omega) (by dsimp only; omega) _)).trans (Turned.set _ ⟨w.heap.size + 1 + 1, 1, none⟩ (by dsimp only; omega) (by dsimp only; omega) _)).trans (Turned.set _ ⟨w.heap.size + 1 + 1, 2, none⟩ (by dsimp only; omega) (by dsimp only; omega) _)).trans (Turned.set _ ⟨w.heap.size + 1 + 1, 3, none⟩ (by dsimp only; omega) (by dsimp only; omega) _))
  have O1' : Hid (Box v1w (w.heap.size + 1 + 1) [.slice b1 D.S.length bx1, .slice b2 D.C.length bx2, .bool D.A, .slice b3 D.K.length bx3, .int .i64 0, .int .i64 0, .slice none 0 0, .slice none 0 0]) := by rw [← hv1w]; exact ((((O1.out.set 0 (.slice b1 D.S.length bx1)).set 1 (.slice b2 D.C.length bx2)).set 2 (.bool D.A)).set 3 (.slice b3 D.K.length bx3))
  have R1' : Hid (Box v1w (w.heap.size + 1) [.slice none 0 0, .slice none 0 0, .bool false, .slice none 0 0, .int .i64 0, .int .i64 0, .slice none 0 0, .slice none 0 0]) := by rw [← hv1w]; exact ((((R1.out.other _ (by dsimp only; omega) _).other _ (by dsimp only; omega) _).other _ (by dsimp only; omega) _).other _ (by dsimp only; omega) _)
  have C1' : Hid (Box v1w w.heap.size [.slice a1 D.S.length ax1, .slice a2 D.C.length ax2, .bool D.A, .slice a3 D.K.length ax3, .int .i64 U.G, .int .i64 U.R, .slice a4 U.S.length ax4, .slice a5 H.length ax5]) := by rw [← hv1w]; exact ((((C1.out.other _ (by dsimp only; omega) _).other _ (by dsimp only; omega) _).other _ (by dsimp only; omega) _).other _ (by dsimp only; omega) _)
  have B1' : Hid (Below w.heap.size w v1w) := Below.turned B1.out T1.out (Nat.le_refl _) (Nat.le_refl _)
  have S1' : Hid (v1w.heap.size = w1.heap.size) := by rw [← hv1w]; show _ = _; simp only [World.size_setCell]
  have HW1 : Hid (((((w1.setCell ⟨w.heap.size + 1 + 1, 0, none⟩ (.slice b1 D.S.length bx1)).setCell ⟨w.heap.size + 1 + 1, 1, none⟩ (.slice b2 D.C.length bx2)).setCell ⟨w.heap.size + 1 + 1, 2, none⟩ (.bool D.A)).setCell ⟨w.heap.size + 1 + 1, 3, none⟩ (.slice b3 D.K.length bx3)) = v1w) := hv1w
  obtain ⟨y4, _⟩ := C1'.out 4 _ rfl
  rw [← hv1w] at y4
  obtain ⟨y5, _⟩ := C1'.out 5 _ rfl
  rw [← hv1w] at y5
  obtain ⟨y6, _⟩ := C1'.out 6 _ rfl
  rw [← hv1w] at y6
  have D1' : Hid (OwnsD v1w (w.heap.size + 3) w1.heap.size (.agg #[.slice b1 D.S.length bx1, .slice b2 D.C.length bx2, .bool D.A, .slice b3 D.K.length bx3]) D) := D1.out.turned T1.out (by omega)
  clear D1 O1 R1 C1 B1 hv1w
  go_wp2_with fail
  rw [HW1.out]
  clear q0 q1 q2 q3 f0 f1 f2 f3 y4 y5 y6 HW1 T1
  refine (toSuper _ U _ HS.out.2.1 (HU.out.below B1'.out)).mono ?_
  rintro e w2 ⟨v2, rfl, o2, hb2⟩
  obtain ⟨b4, bx4, rfl⟩ := o2.lit
  have B2 : Hid (Below w.heap.size w w2) := B1'.out.trans (hb2.mono B1'.out.size)
  have C2 : Hid (Box w2 w.heap.size [.slice a1 D.S.length ax1, .slice a2 D.C.length ax2, .bool D.A, .slice a3 D.K.length ax3, .int .i64 U.G, .int .i64 U.R, .slice a4 U.S.length ax4, .slice a5 H.length ax5]) := C1'.out.below hb2
  have R2 : Hid (Box w2 (w.heap.size + 1) [.slice none 0 0, .slice none 0 0, .bool false, .slice none 0 0, .int .i64 0, .int .i64 0, .slice none 0 0, .slice none 0 0]) := R1'.out.below hb2
  have O2 : Hid (Box w2 (w.heap.size + 1 + 1) [.slice b1 D.S.length bx1, .slice b2 D.C.length bx2, .bool D.A, .slice b3 D.K.length bx3, .int .i64 0, .int .i64 0, .slice none 0 0, .slice none 0 0]) := O1'.out.below hb2
  have D2 : Hid (OwnsD w2 (w.heap.size + 3) w1.heap.size (.agg #[.slice b1 D.S.length bx1, .slice b2 D.C.length bx2, .bool D.A, .slice b3 D.K.length bx3]) D) := D1'.out.below hb2
  have U2 : Hid (OwnsU w2 w1.heap.size w2.heap.size (.agg #[.int .i64 U.G, .int .i64 U.R, .slice b4 U.S.length bx4]) U) := o2.mono (by have := S1'.out; omega) (Nat.le_refl _)
  have Z2 : Hid (w1.heap.size ≤ w2.heap.size) := by have h1 := hb2.size; have h2 := S1'.out; show _ ≤ _; omega
  clear o2 hb2 B1' C1' R1' O1' D1' S1'
  obtain ⟨q4, f4⟩ := O2.out 4 _ rfl
  obtain ⟨q5, f5⟩ := (O2.out.set 4 (.int .i64 U.G)) 5 _ rfl
  obtain ⟨q6, f6⟩ := ((O2.out.set 4 (.int .i64 U.G)).set 5 (.int .i64 U.R)) 6 _ rfl
  obtain ⟨v2w, hv2w⟩ : ∃ W, (((w2.setCell ⟨w.heap.size + 1 + 1, 4, none⟩ (.int .i64 U.G)).setCell ⟨w.heap.size + 1 + 1, 5, none⟩ (.int .i64 U.R)).setCell ⟨w.heap.size + 1 + 1, 6, none⟩ (.slice b4 U.S.length bx4)) = W := ⟨_, rfl⟩
  have T2 : Hid (Turned w.heap.size (w.heap.size + 3) w2 v2w) := by rw [← hv2w]; exact ((((Turned.of_below (Below.refl _ _) : Turned w.heap.size (w.heap.size + 3) w2 w2).trans (Turned.set _ ⟨w.heap.size + 1 + 1, 4, none⟩ (by dsimp only; omega) (by dsimp only; omega) _)).trans (Turned.set _ ⟨w.heap.size + 1 + 1, 5, none⟩ (by dsimp only; omega) (by dsimp only; omega) _)).trans (Turned.set _ ⟨w.heap.size + 1 + 1, 6, none⟩ (by dsimp only; omega) (by dsimp only; omega) _))
  have O2' : Hid (Box v2w (w.heap.size + 1 + 1) [.slice b1 D.S.length bx1, .slice b2 D.C.length bx2, .bool D.A, .slice b3 D.K.length bx3, .int .i64 U.G, .int .i64 U.R, .slice b4 U.S.length bx4, .slice none 0 0]) := by rw [← hv2w]; exact (((O2.out.set 4 (.int .i64 U.G)).set 5 (.int .i64 U.R)).set 6 (.slice b4 U.S.length bx4))
  have R2' : Hid (Box v2w (w.heap.size + 1) [.slice none 0 0, .slice none 0 0, .bool false, .slice none 0 0, .int .i64 0, .int .i64 0, .slice none 0 0, .slice none 0 0]) := by rw [← hv2w]; exact (((R2.out.other _ (by dsimp only; omega) _).other _ (by dsimp only; omega) _).other _ (by dsimp only; omega) _)
  have C2' : Hid (Box v2w w.heap.size [.slice a1 D.S.length ax1, .slice a2 D.C.length ax2, .bool D.A, .slice a3 D.K.length ax3, .int .i64 U.G, .int .i64 U.R, .slice a4 U.S.length ax4, .slice a5 H.length ax5]) := by rw [← hv2w]; exact (((C2.out.other _ (by dsimp only; omega) _).other _ (by dsimp only; omega) _).other _ (by dsimp only; omega) _)
  have B2' : Hid (Below w.heap.size w v2w) := Below.turned B2.out T2.out (Nat.le_refl _) (Nat.le_refl _)
  have S2' : Hid (v2w.heap.size = w2.heap.size) := by rw [← hv2w]; show _ = _; simp only [World.size_setCell]
  have HW2 : Hid ((((w2.setCell ⟨w.heap.size + 1 + 1, 4, none⟩ (.int .i64 U.G)).setCell ⟨w.heap.size + 1 + 1, 5, none⟩ (.int .i64 U.R)).setCell ⟨w.heap.size + 1 + 1, 6, none⟩ (.slice b4 U.S.length bx4)) = v2w) := hv2w
  obtain ⟨y7, _⟩ := C2'.out 7 _ rfl
  rw [← hv2w] at y7
  have D2' : Hid (OwnsD v2w (w.heap.size + 3) w1.heap.size (.agg #[.slice b1 D.S.length bx1, .slice b2 D.C.length bx2, .bool D.A, .slice b3 D.K.length bx3]) D) := D2.out.turned T2.out (by omega)
  have U2' : Hid (OwnsU v2w w1.heap.size w2.heap.size (.agg #[.int .i64 U.G, .int .i64 U.R, .slice b4 U.S.length bx4]) U) := U2.out.turned T2.out (by have := Z1.out; omega)
  clear D2 U2 O2 R2 C2 B2 hv2w
  go_wp2_with fail
  rw [HW2.out]
  clear q4 q5 q6 f4 f5 f6 y7 HW2 T2
  refine (toHeap _ H _ HS.out.2.2 (HH.out.below B2'.out)).mono ?_
  rintro e w3 ⟨v3, rfl, o3, hb3⟩
  obtain ⟨b5, bx5, rfl⟩ := o3.lit
  have B3 : Hid (Below w.heap.size w w3) := B2'.out.trans (hb3.mono B2'.out.size)
  have C3 : Hid (Box w3 w.heap.size [.slice a1 D.S.length ax1, .slice a2 D.C.length ax2, .bool D.A, .slice a3 D.K.length ax3, .int .i64 U.G, .int .i64 U.R, .slice a4 U.S.length ax4, .slice a5 H.length ax5]) := C2'.out.below hb3
  have R3 : Hid (Box w3 (w.heap.size + 1) [.slice none 0 0, .slice none 0 0, .bool false, .slice none 0 0, .int .i64 0, .int .i64 0, .slice none 0 0, .slice none 0 0]) := R2'.out.below hb3
  have O3 : Hid (Box w3 (w.heap.size + 1 + 1) [.slice b1 D.S.length bx1, .slice b2 D.C.length bx2, .bool D.A, .slice b3 D.K.length bx3, .int .i64 U.G, .int .i64 U.R, .slice b4 U.S.length bx4, .slice none 0 0]) := O2'.out.below hb3
  have D3 : Hid (OwnsD w3 (w.heap.size + 3) w1.heap.size (.agg #[.slice b1 D.S.length bx1, .slice b2 D.C.length bx2, .bool D.A, .slice b3 D.K.length bx3]) D) := D2'.out.below hb3
  have U3 : Hid (OwnsU w3 w1.heap.size w2.heap.size (.agg #[.int .i64 U.G, .int .i64 U.R, .slice b4 U.S.length bx4]) U) := U2'.out.below hb3
  have H3 : Hid (OwnsH w3 w2.heap.size w3.heap.size (.agg #[.slice b5 H.length bx5]) H) := o3.mono (by have := S2'.out; omega) (Nat.le_refl _)
  have Z3 : Hid (w2.heap.size ≤ w3.heap.size) := by have h1 := hb3.size; have h2 := S2'.out; show _ ≤ _; omega
  clear o3 hb3 B2' C2' R2' O2' D2' U2' S2'
  obtain ⟨q7, f7⟩ := O3.out 7 _ rfl
  obtain ⟨v3w, hv3w⟩ : ∃ W, (w3.setCell ⟨w.heap.size + 1 + 1, 7, none⟩ (.slice b5 H.length bx5)) = W := ⟨_, rfl⟩
  have T3 : Hid (Turned w.heap.size (w.heap.size + 3) w3 v3w) := by rw [← hv3w]; exact ((Turned.of_below (Below.refl _ _) : Turned w.heap.size (w.heap.size + 3) w3 w3).trans (Turned.set _ ⟨w.heap.size + 1 + 1, 7, none⟩ (by dsimp only; omega) (by dsimp only; omega) _))
  have O3' : Hid (Box v3w (w.heap.size + 1 + 1) [.slice b1 D.S.length bx1, .slice b2 D.C.length bx2, .bool D.A, .slice b3 D.K.length bx3, .int .i64 U.G, .int .i64 U.R, .slice b4 U.S.length bx4, .slice b5 H.length bx5]) := by rw [← hv3w]; exact (O3.out.set 7 (.slice b5 H.length bx5))
  have R3' : Hid (Box v3w (w.heap.size + 1) [.slice none 0 0, .slice none 0 0, .bool false, .slice none 0 0, .int .i64 0, .int .i64 0, .slice none 0 0, .slice none 0 0]) := by rw [← hv3w]; exact (R3.out.other _ (by dsimp only; omega) _)
  have C3' : Hid (Box v3w w.heap.size [.slice a1 D.S.length ax1, .slice a2 D.C.length ax2, .bool D.A, .slice a3 D.K.length ax3, .int .i64 U.G, .int .i64 U.R, .slice a4 U.S.length ax4, .slice a5 H.length ax5]) := by rw [← hv3w]; exact (C3.out.other _ (by dsimp only; omega) _)
  have B3' : Hid (Below w.heap.size w v3w) := Below.turned B3.out T3.out (Nat.le_refl _) (Nat.le_refl _)
  have S3' : Hid (v3w.heap.size = w3.heap.size) := by rw [← hv3w]; show _ = _; simp only [World.size_setCell]
  have HW3 : Hid ((w3.setCell ⟨w.heap.size + 1 + 1, 7, none⟩ (.slice b5 H.length bx5)) = v3w) := hv3w
  have D3' : Hid (OwnsD v3w (w.heap.size + 3) w1.heap.size (.agg #[.slice b1 D.S.length bx1, .slice b2 D.C.length bx2, .bool D.A, .slice b3 D.K.length bx3]) D) := D3.out.turned T3.out (by omega)
  have U3' : Hid (OwnsU v3w w1.heap.size w2.heap.size (.agg #[.int .i64 U.G, .int .i64 U.R, .slice b4 U.S.length bx4]) U) := U3.out.turned T3.out (by have := Z1.out; omega)
  have H3' : Hid (OwnsH v3w w2.heap.size w3.heap.size (.agg #[.slice b5 H.length bx5]) H) := H3.out.turned T3.out (by have := Z1.out; have := Z2.out; omega)
  clear D3 U3 H3 O3 R3 C3 B3 hv3w
  go_upto_region 5 with (fail)
  rw [HW3.out]
  clear q7 f7 HW3 T3
  obtain ⟨o0, _⟩ := O3'.out 0 _ rfl
  obtain ⟨o1, _⟩ := O3'.out 1 _ rfl
  obtain ⟨o2, _⟩ := O3'.out 2 _ rfl
  obtain ⟨o3, _⟩ := O3'.out 3 _ rfl
  obtain ⟨o4, _⟩ := O3'.out 4 _ rfl
  obtain ⟨o5, _⟩ := O3'.out 5 _ rfl
  obtain ⟨o6, _⟩ := O3'.out 6 _ rfl
  obtain ⟨o7, _⟩ := O3'.out 7 _ rfl
  obtain ⟨g0, h0⟩ := R3'.out 0 _ rfl
  obtain ⟨g1, h1⟩ := (R3'.out.set 0 (.slice b1 D.S.length bx1)) 1 _ rfl
  obtain ⟨g2, h2⟩ := ((R3'.out.set 0 (.slice b1 D.S.length bx1)).set 1 (.slice b2 D.C.length bx2)) 2 _ rfl
  obtain ⟨g3, h3⟩ := (((R3'.out.set 0 (.slice b1 D.S.length bx1)).set 1 (.slice b2 D.C.length bx2)).set 2 (.bool D.A)) 3 _ rfl
  obtain ⟨g4, h4⟩ := ((((R3'.out.set 0 (.slice b1 D.S.length bx1)).set 1 (.slice b2 D.C.length bx2)).set 2 (.bool D.A)).set 3 (.slice b3 D.K.length bx3)) 4 _ rfl
  obtain ⟨g5, h5⟩ := (((((R3'.out.set 0 (.slice b1 D.S.length bx1)).set 1 (.slice b2 D.C.length bx2)).set 2 (.bool D.A)).set 3 (.slice b3 D.K.length bx3)).set 4 (.int .i64 U.G)) 5 _ rfl
  obtain ⟨g6, h6⟩ := ((((((R3'.out.set 0 (.slice b1 D.S.length bx1)).set 1 (.slice b2 D.C.length bx2)).set 2 (.bool D.A)).set 3 (.slice b3 D.K.length bx3)).set 4 (.int .i64 U.G)).set 5 (.int .i64 U.R)) 6 _ rfl
  obtain ⟨g7, h7⟩ := (((((((R3'.out.set 0 (.slice b1 D.S.length bx1)).set 1 (.slice b2 D.C.length bx2)).set 2 (.bool D.A)).set 3 (.slice b3 D.K.length bx3)).set 4 (.int .i64 U.G)).set 5 (.int .i64 U.R)).set 6 (.slice b4 U.S.length bx4)) 7 _ rfl
  have FB := ((((((((R3'.out.set 0 (.slice b1 D.S.length bx1)).set 1 (.slice b2 D.C.length bx2)).set 2 (.bool D.A)).set 3 (.slice b3 D.K.length bx3)).set 4 (.int .i64 U.G)).set 5 (.int .i64 U.R)).set 6 (.slice b4 U.S.length bx4)).set 7 (.slice b5 H.length bx5))
  obtain ⟨r0, _⟩ := FB 0 _ rfl
  obtain ⟨r1, _⟩ := FB 1 _ rfl
  obtain ⟨r2, _⟩ := FB 2 _ rfl
  obtain ⟨r3, _⟩ := FB 3 _ rfl
  obtain ⟨r4, _⟩ := FB 4 _ rfl
  obtain ⟨r5, _⟩ := FB 5 _ rfl
  obtain ⟨r6, _⟩ := FB 6 _ rfl
  obtain ⟨r7, _⟩ := FB 7 _ rfl
  have TF : Hid (Turned w.heap.size (w.heap.size + 3) v3w ((((((((v3w.setCell ⟨w.heap.size + 1, 0, none⟩ (.slice b1 D.S.length bx1)).setCell ⟨w.heap.size + 1, 1, none⟩ (.slice b2 D.C.length bx2)).setCell ⟨w.heap.size + 1, 2, none⟩ (.bool D.A)).setCell ⟨w.heap.size + 1, 3, none⟩ (.slice b3 D.K.length bx3)).setCell ⟨w.heap.size + 1, 4, none⟩ (.int .i64 U.G)).setCell ⟨w.heap.size + 1, 5, none⟩ (.int .i64 U.R)).setCell ⟨w.heap.size + 1, 6, none⟩ (.slice b4 U.S.length bx4)).setCell ⟨w.heap.size + 1, 7, none⟩ (.slice b5 H.length bx5))) := (((((((((Turned.of_below (Below.refl _ _) : Turned w.heap.size (w.heap.size + 3) v3w v3w).trans (Turned.set _ ⟨w.heap.size + 1, 0, none⟩ (by dsimp only; omega) (by dsimp only; omega) _)).trans (Turned.set _ ⟨w.heap.size + 1, 1, none⟩ (by dsimp only; omega) (by dsimp only; omega) _)).trans (Turned.set _ ⟨w.heap.size + 1, 2, none⟩ (by dsimp only; omega) (by dsimp only; omega) _)).trans (Turned.set _ ⟨w.heap.size + 1, 3, none⟩ (by dsimp only; omega) (by dsimp only; omega) _)).trans (Turned.set _ ⟨w.heap.size + 1, 4, none⟩ (by dsimp only; omega) (by dsimp only; omega) _)).trans (Turned.set _ ⟨w.heap.size + 1, 5, none⟩ (by dsimp only; omega) (by dsimp only; omega) _)).trans (Turned.set _ ⟨w.heap.size + 1, 6, none⟩ (by dsimp only; omega) (by dsimp only; omega) _)).trans (Turned.set _ ⟨w.heap.size + 1, 7, none⟩ (by dsimp only; omega) (by dsimp only; omega) _))
  have SF : Hid (((((((((v3w.setCell ⟨w.heap.size + 1, 0, none⟩ (.slice b1 D.S.length bx1)).setCell ⟨w.heap.size + 1, 1, none⟩ (.slice b2 D.C.length bx2)).setCell ⟨w.heap.size + 1, 2, none⟩ (.bool D.A)).setCell ⟨w.heap.size + 1, 3, none⟩ (.slice b3 D.K.length bx3)).setCell ⟨w.heap.size + 1, 4, none⟩ (.int .i64 U.G)).setCell ⟨w.heap.size + 1, 5, none⟩ (.int .i64 U.R)).setCell ⟨w.heap.size + 1, 6, none⟩ (.slice b4 U.S.length bx4)).setCell ⟨w.heap.size + 1, 7, none⟩ (.slice b5 H.length bx5)).heap.size = w3.heap.size) := by show _ = _; simp only [World.size_setCell]; exact S3'.out
  clear FB
  go_wp2_with fail
  refine bodyPost_ret (v := .agg #[.slice b1 D.S.length bx1, .slice b2 D.C.length bx2, .bool D.A, .slice b3 D.K.length bx3, .int .i64 U.G, .int .i64 U.R, .slice b4 U.S.length bx4, .slice b5 H.length bx5]) (by simp [results, Tryz.results10, go_sem, r0, r1, r2, r3, r4, r5, r6, r7]) rfl ⟨_, rfl, ?_, ?_⟩
  · refine ⟨_, _, _, _, _, w.heap.size + 3, w1.heap.size, w1.heap.size, w2.heap.size, w2.heap.size, w3.heap.size, rfl, D3'.out.turned TF.out (by omega), U3'.out.turned TF.out (by have := Z1.out; omega), H3'.out.turned TF.out (by have := Z1.out; have := Z2.out; omega), ?_, .inl (Nat.le_refl _), .inl ?_, .inl (Nat.le_refl _)⟩
    · have h1 := Z1.out; have h2 := Z2.out; have h3 := Z3.out; have h4 := SF.out
      rw [h4]
      exact ⟨by omega, by omega, by omega, by omega, by omega, by omega⟩
    · have h2 := Z2.out; omega
  · exact Below.turned B3'.out TF.out (Nat.le_refl _) (Nat.le_refl _)
section
variable {H : Type} {enc : TypeId × Value → H} {W : World} {v : Value} {fuel : Nat} {x : DataW H × List MemPlace}
theorem writes_arg (h : DataW.trod enc Tryz.prog W 0 (fun _ => true) true fuel 23 [v] = some x) :
    ∃ (L : List (Int × ByteArray)) (a : Option Addr) (c : Nat), v = .slice a L.length c ∧ Src W a (cellsQ L) ∧ L.length ≤ maxLen ∧ ∀ s ∈ L, s.2.size ≤ maxLen := by
  rcases open_slice_pairs Tryz.underlying23 Tryz.underlying147 (by kernel_rfl) rfl rfl (by kernel_rfl) (by kernel_rfl) h with ⟨hcs, _⟩ | ⟨ad, len, cap, m, n, V0, V1, D0, D1, P0, P1, hcs, _, hl, hm, hmm, _, hall⟩
  · simp only [List.cons.injEq, and_true] at hcs
    exact ⟨[], none, 0, hcs, .inl rfl, by simp, fun s hs => by cases hs⟩
  · simp only [List.cons.injEq, and_true] at hcs
    rw [if_pos rfl] at hmm
    subst hmm
    have hval : ∀ i, i < m → V0 i = .int .i64 (intV (V0 i)) ∧ V1 i = .string (strV (V1 i)) ∧ (strV (V1 i)).size ≤ maxLen := fun i hi => by
      obtain ⟨_, _, h3, h4⟩ := hall i hi
      obtain ⟨q, e0, _⟩ := DataW.trod_int Tryz.underlying3 h3
      obtain ⟨s1, e1, _, z1⟩ := DataW.trod_string Tryz.underlying9 h4
      simp only [List.cons.injEq, and_true] at e0 e1
      rw [e0, e1]
      exact ⟨rfl, rfl, z1⟩
    let f : Nat → Int × ByteArray := fun i => (intV (V0 i), strV (V1 i))
    have hlen : ((List.range len).map f).length = len := by simp
    refine ⟨(List.range len).map f, some ad, m, by rw [hlen]; exact hcs, ?_, by rw [hlen]; omega, fun s hs => ?_⟩
    · by_cases h0 : len = 0
      · subst h0; exact .inl rfl
      obtain ⟨b, o, spot⟩ := ad
      have hc0 := (hall 0 (by omega)).1
      have hspot : spot = none := by simpa [Addr.add] using World.cell?_spot hc0
      subst hspot
      refine .inr ⟨b, o, rfl, fun j hj => ?_⟩
      rw [cellsQ_length, hlen] at hj
      have hd : (((List.range len).map f).getD (j / 2) q0) = f (j / 2) := by
        rw [List.getD_eq_getElem?_getD]
        simp [show j / 2 < len from by omega]
      obtain ⟨c1, c2⟩ := cellsQ_get ((List.range len).map f) (j / 2) (by rw [hlen]; omega)
      obtain ⟨h1, h2, _⟩ := hall (j / 2) (by omega)
      obtain ⟨v1, v2, _⟩ := hval (j / 2) (by omega)
      rw [add_plain] at h1 h2
      by_cases e : j % 2 = 0
      · rw [show j / 2 * 2 = j from by omega] at c1 h1
        rw [getD_some c1, hd, h1]
        show some (V0 (j / 2)) = some (Value.int .i64 (intV (V0 (j / 2))))
        rw [← v1]
      · rw [show j / 2 * 2 + 1 = j from by omega] at c2 h2
        rw [getD_some c2, hd, h2]
        show some (V1 (j / 2)) = some (Value.string (strV (V1 (j / 2))))
        rw [← v2]
    · rw [List.mem_map] at hs
      obtain ⟨i, hi, rfl⟩ := hs
      rw [List.mem_range] at hi
      exact (hval i (by omega)).2.2
theorem disk_cells {n : Nat} {cs : List Value} (hl : cs.length = 4) (h : DataW.trod enc Tryz.prog W 0 (fun _ => true) true n 26 cs = some x) : ∃ v0 v1 v2 v3 D, cs = [v0, v1, v2, v3] ∧ ReadsD W (.agg #[v0, v1, v2, v3]) D ∧ (D.S.length ≤ maxLen ∧ (∀ x ∈ D.S, x.size ≤ maxLen) ∧ D.C.length ≤ maxLen ∧ (∀ x ∈ D.C, x.2.size ≤ maxLen) ∧ D.K.length ≤ maxLen) := by
  obtain ⟨xs, k, hk, hxy, _, hxl, hf⟩ := DataW.trod_struct Tryz.underlying26 h
  match xs, hxl, cs, hl with
  | [y0, y1, y2, y3], _, [v0, v1, v2, v3], _ =>
    have g0 := hf 0 _ rfl
    have g1 := hf 1 _ rfl
    have g2 := hf 2 _ rfl
    have g3 := hf 3 _ rfl
    have c0 : Tryz.prog.cellsOf 22 = 1 := by kernel_rfl
    have c1 : Tryz.prog.cellsOf 23 = 1 := by kernel_rfl
    have c2 : Tryz.prog.cellsOf 4 = 1 := by kernel_rfl
    have c3 : Tryz.prog.cellsOf 24 = 1 := by kernel_rfl
    simp [c0, c1, c2, c3] at g0 g1 g2 g3
    obtain ⟨L0, a0, d0, rfl, r0, m0, k0⟩ := strings_arg g0
    obtain ⟨L1, a1, d1, rfl, r1, m1, k1⟩ := writes_arg g1
    obtain ⟨b2, e2, _⟩ := DataW.trod_bool Tryz.underlying4 g2
    obtain ⟨L3, a3, d3, rfl, r3, m3⟩ := ints_arg g3
    simp only [List.cons.injEq, and_true] at e2
    subst e2
    exact ⟨_, _, _, _, ⟨L0, L1, b2, L3⟩, rfl, ⟨a0, d0, a1, d1, a3, d3, rfl, r0, r1, r3⟩, m0, k0, m1, k1, m3⟩
theorem super_cells {n : Nat} {cs : List Value} (hl : cs.length = 3) (h : DataW.trod enc Tryz.prog W 0 (fun _ => true) true n 29 cs = some x) : ∃ v0 v1 v2 D, cs = [v0, v1, v2] ∧ ReadsU W (.agg #[v0, v1, v2]) D ∧ maxU D := by
  obtain ⟨v0, v1, v2, k, y0, y1, y2, rfl, g0, g1, g2⟩ := tri_cells Tryz.underlying29 rfl rfl rfl (by kernel_rfl) (by kernel_rfl) (by kernel_rfl) hl h
  obtain ⟨n0, e0, _⟩ := DataW.trod_int Tryz.underlying3 g0
  obtain ⟨n1, e1, _⟩ := DataW.trod_int Tryz.underlying3 g1
  obtain ⟨L, a, c, rfl, s1, m1, k1⟩ := snaps_arg g2
  simp only [List.cons.injEq, and_true] at e0 e1
  subst e0 e1
  exact ⟨_, _, _, ⟨n0, n1, L⟩, rfl, ⟨a, c, rfl, s1⟩, m1, k1⟩
end
section
variable {H : Type} {enc : TypeId × Value → H} {W : World} {v : Value} {d : DataW H} {p : List MemPlace} {base : Nat}
theorem store_in (hv : Value.okWide Tryz.prog W .any base 34 v) (h : DataW.Trod enc Tryz.prog W 0 (fun _ => true) true 34 v d p) :
    ∃ D : DM × UM × List NM, ReadsS W v D.1 D.2.1 D.2.2 ∧ maxSt D.1 D.2.1 D.2.2 := by
  obtain ⟨cs, rfl, hsz⟩ := okWide_struct Tryz.underlying34 hv
  obtain ⟨fuel, hf⟩ := h
  have hl : cs.toList.length = 8 := by
    have h9 : Tryz.prog.cellsOf 34 = 8 := by kernel_rfl
    rw [Array.length_toList, hsz, h9]
  have hf2 : DataW.trod enc Tryz.prog W 0 (fun _ => true) true fuel 34 cs.toList = some (d, p) := by simpa [Value.cells] using hf
  obtain ⟨xs, k, hk, hxy, _, hxl, hq⟩ := DataW.trod_struct Tryz.underlying34 hf2
  have g0 : DataW.trod enc Tryz.prog W 0 (fun _ => true) true k 26 ((cs.toList.drop 0).take (Tryz.prog.cellsOf 26)) = xs[0]? := hq 0 _ rfl
  have g1 : DataW.trod enc Tryz.prog W 0 (fun _ => true) true k 29 ((cs.toList.drop 4).take (Tryz.prog.cellsOf 29)) = xs[1]? := hq 1 _ rfl
  have g2 : DataW.trod enc Tryz.prog W 0 (fun _ => true) true k 32 ((cs.toList.drop 7).take (Tryz.prog.cellsOf 32)) = xs[2]? := hq 2 _ rfl
  have c0 : Tryz.prog.cellsOf 26 = 4 := by kernel_rfl
  have c1 : Tryz.prog.cellsOf 29 = 3 := by kernel_rfl
  have c2 : Tryz.prog.cellsOf 32 = 1 := by kernel_rfl
  rw [c0, List.drop_zero] at g0
  rw [c1] at g1
  rw [c2] at g2
  match xs, hxl with
  | [y0, y1, y2], _ =>
    obtain ⟨v0, v1, v2, v3, D, e0, r0, m0⟩ := disk_cells (by simp; omega) g0
    obtain ⟨v4, v5, v6, U, e1, r1, m1⟩ := super_cells (by simp; omega) g1
    obtain ⟨v7, k7, y7, e7, g7⟩ := one_cell Tryz.underlying32 rfl (by kernel_rfl) (by simp; omega) g2
    obtain ⟨N, a, c, rfl, s7, m7, k7⟩ := nodes_arg g7
    have ec : cs = #[v0, v1, v2, v3, v4, v5, v6, .slice a N.length c] := by
      apply Array.toList_inj.1
      have h1 : cs.toList = cs.toList.take 4 ++ ((cs.toList.drop 4).take 3 ++ (cs.toList.drop 7).take 1) := by
        have e2 : cs.toList.drop 7 = (cs.toList.drop 7).take 1 := by rw [List.take_of_length_le (by rw [List.length_drop]; omega)]
        have e3 : cs.toList.drop 4 = (cs.toList.drop 4).take 3 ++ cs.toList.drop 7 := by
          have := (List.take_append_drop 3 (cs.toList.drop 4)).symm
          rw [List.drop_drop] at this
          exact this
        rw [← e2, ← e3, List.take_append_drop]
      rw [h1, e0, e1, e7]
      rfl
    obtain ⟨w1, w2, w3, w4, w5, w6, ed, sd1, sd2, sd3⟩ := r0
    obtain ⟨u1, u2, eu, su⟩ := r1
    have ed' := ed
    have eu' := eu
    simp only [Value.agg.injEq, Array.mk.injEq, List.cons.injEq, and_true] at ed eu
    obtain ⟨rfl, rfl, rfl, rfl⟩ := ed
    obtain ⟨rfl, rfl, rfl⟩ := eu
    exact ⟨(D, U, N), ⟨_, _, _, _, _, by rw [ec], ⟨w1, w2, w3, w4, w5, w6, rfl, sd1, sd2, sd3⟩, ⟨u1, u2, rfl, su⟩, ⟨a, c, rfl, s7⟩⟩, m0, m1, m7, k7⟩
end
set_option maxHeartbeats 1000000 in
theorem eqStoreL (v v' : Value) (D : DM) (U : UM) (H : List NM) (w : World) (hs : smallD D ∧ smallU U ∧ smallH H) (h : ReadsS w v D U H) (h' : ReadsS w v' D U H) :
    Calls Tryz.prog 12 #[v, v'] w fun e w' => e = .returned (.bool true) ∧ Below w.heap.size w w' := by
  obtain ⟨x1, x2, x3, x4, x5, rfl, p1, p2, p3⟩ := h
  obtain ⟨y1, y2, y3, y4, y5, rfl, q1, q2, q3⟩ := h'
  obtain ⟨a1, c1, a2, c2, a3, c3, rfl, rfl, rfl, _⟩ := disk_lit p1
  obtain ⟨b1, d1, b2, d2, b3, d3, rfl, rfl, rfl, _⟩ := disk_lit q1
  obtain ⟨a4, c4, rfl⟩ := super_lit p2
  obtain ⟨b4, d4, rfl⟩ := super_lit q2
  obtain ⟨a5, c5, rfl⟩ := heap_lit p3
  obtain ⟨b5, d5, rfl⟩ := heap_lit q3
  have HD : Hid (ReadsD w (.agg #[.slice a1 D.S.length c1, .slice a2 D.C.length c2, .bool D.A, .slice a3 D.K.length c3]) D ∧ ReadsD w (.agg #[.slice b1 D.S.length d1, .slice b2 D.C.length d2, .bool D.A, .slice b3 D.K.length d3]) D) := ⟨p1, q1⟩
  have HU : Hid (ReadsU w (.agg #[.int .i64 U.G, .int .i64 U.R, .slice a4 U.S.length c4]) U ∧ ReadsU w (.agg #[.int .i64 U.G, .int .i64 U.R, .slice b4 U.S.length d4]) U) := ⟨p2, q2⟩
  have HH : Hid (ReadsH w (.agg #[.slice a5 H.length c5]) H ∧ ReadsH w (.agg #[.slice b5 H.length d5]) H) := ⟨p3, q3⟩
  have SM : Hid (smallD D ∧ smallU U ∧ smallH H) := hs
  obtain ⟨n1, hn1⟩ : ∃ n, D.S.length = n := ⟨_, rfl⟩
  obtain ⟨n2, hn2⟩ : ∃ n, D.C.length = n := ⟨_, rfl⟩
  obtain ⟨n3, hn3⟩ : ∃ n, D.K.length = n := ⟨_, rfl⟩
  obtain ⟨A, hA⟩ : ∃ A, D.A = A := ⟨_, rfl⟩
  obtain ⟨G, hG⟩ : ∃ n, U.G = n := ⟨_, rfl⟩
  obtain ⟨R, hR⟩ : ∃ n, U.R = n := ⟨_, rfl⟩
  obtain ⟨n4, hn4⟩ : ∃ n, U.S.length = n := ⟨_, rfl⟩
  obtain ⟨n5, hn5⟩ : ∃ n, H.length = n := ⟨_, rfl⟩
  rw [hn1, hn2, hn3, hA] at HD
  rw [hG, hR, hn4] at HU
  rw [hn5] at HH
  rw [hn1, hn2, hn3, hA, hG, hR, hn4, hn5]
  clear hs hn1 hn2 hn3 hA hG hR hn4 hn5 p1 p2 p3 q1 q2 q3
  have B0 : Hid (Below w.heap.size w ((w.alloc (.cells #[.slice a1 n1 c1, .slice a2 n2 c2, .bool A, .slice a3 n3 c3, .int .i64 G, .int .i64 R, .slice a4 n4 c4, .slice a5 n5 c5] 47)).alloc (.cells #[.slice b1 n1 d1, .slice b2 n2 d2, .bool A, .slice b3 n3 d3, .int .i64 G, .int .i64 R, .slice b4 n4 d4, .slice b5 n5 d5] 47))) := ((Below.refl _ _).alloc (Nat.le_refl _) _).alloc (by simp) _
  go_enter Tryz.func12, Tryz.ntmps12
  go_wp2_with fail
  refine (eqDisk _ _ D _ ⟨by have := SM.out.1.1.1; omega, by have := SM.out.1.2.1.1; omega, by have := SM.out.1.2.2; omega⟩ (HD.out.1.below B0.out) (HD.out.2.below B0.out)).mono ?_
  rintro e w1 ⟨rfl, hb⟩
  have B1 : Hid (Below w.heap.size w w1) := B0.out.trans (hb.mono B0.out.size)
  have X1 : Hid (Box w1 w.heap.size [.slice a1 n1 c1, .slice a2 n2 c2, .bool A, .slice a3 n3 c3, .int .i64 G, .int .i64 R, .slice a4 n4 c4, .slice a5 n5 c5]) := Box.below ((Box.new rfl).old _) hb
  have Y1 : Hid (Box w1 (w.heap.size + 1) [.slice b1 n1 d1, .slice b2 n2 d2, .bool A, .slice b3 n3 d3, .int .i64 G, .int .i64 R, .slice b4 n4 d4, .slice b5 n5 d5]) := Box.below (Box.new (by simp)) hb
  clear hb B0
  obtain ⟨p4, _⟩ := X1.out 4 _ rfl
  obtain ⟨p5, _⟩ := X1.out 5 _ rfl
  obtain ⟨p6, _⟩ := X1.out 6 _ rfl
  obtain ⟨q4, _⟩ := Y1.out 4 _ rfl
  obtain ⟨q5, _⟩ := Y1.out 5 _ rfl
  obtain ⟨q6, _⟩ := Y1.out 6 _ rfl
  go_wp2_with fail
  refine (eqSuper _ _ U _ (by have := SM.out.2.1.1; omega) (HU.out.1.below B1.out) (HU.out.2.below B1.out)).mono ?_
  rintro e w2 ⟨rfl, hb⟩
  have B2 : Hid (Below w.heap.size w w2) := B1.out.trans (hb.mono B1.out.size)
  have X2 : Hid (Box w2 w.heap.size [.slice a1 n1 c1, .slice a2 n2 c2, .bool A, .slice a3 n3 c3, .int .i64 G, .int .i64 R, .slice a4 n4 c4, .slice a5 n5 c5]) := X1.out.below hb
  have Y2 : Hid (Box w2 (w.heap.size + 1) [.slice b1 n1 d1, .slice b2 n2 d2, .bool A, .slice b3 n3 d3, .int .i64 G, .int .i64 R, .slice b4 n4 d4, .slice b5 n5 d5]) := Y1.out.below hb
  clear hb B1 X1 Y1 p4 p5 p6 q4 q5 q6
  obtain ⟨p7, _⟩ := X2.out 7 _ rfl
  obtain ⟨q7, _⟩ := Y2.out 7 _ rfl
  go_wp2_with fail
  refine (eqHeap _ _ H _ (by have h9 := SM.out.2.2.1; unfold wtH at h9; omega) (fun N hN => by have := (SM.out.2.2.2 N hN).1; omega) (HH.out.1.below B2.out) (HH.out.2.below B2.out)).mono ?_
  rintro e w3 ⟨rfl, hb⟩
  have B3 : Hid (Below w.heap.size w w3) := B2.out.trans (hb.mono B2.out.size)
  clear hb p7 q7
  go_wp2_with fail
  go_ret
  exact ⟨rfl, B3.out⟩
theorem StoreIn.of_owns {w : World} {lo hi : Nat} {a1 a2 a3 a4 a5 : Option Addr} {c1 c2 c3 c4 c5 : Nat} {D : DM} {U : UM} {H : List NM} (hs : smallD D ∧ smallU U ∧ smallH H) (h : OwnsS w lo hi (.agg #[.slice a1 D.S.length c1, .slice a2 D.C.length c2, .bool D.A, .slice a3 D.K.length c3, .int .i64 U.G, .int .i64 U.R, .slice a4 U.S.length c4, .slice a5 H.length c5]) D U H) : StoreIn w a1 a2 a3 a4 a5 D.S.length c1 D.C.length c2 D.K.length c3 U.S.length c4 H.length c5 D.A U.G U.R D U H := by
  obtain ⟨x1, x2, x3, x4, x5, l1, h1, l2, h2, l3, h3, e, od, ou, oh, _⟩ := h
  simp only [Value.agg.injEq, Array.mk.injEq, List.cons.injEq, and_true, true_and] at e
  obtain ⟨rfl, rfl, rfl, rfl, rfl⟩ := e
  have rd := od.reads
  have ru := ou.reads
  have rh := oh.reads
  have hcap : D.S.length ≤ c1 := by
    obtain ⟨v1, v2, v3, e, ⟨o1, _⟩, _⟩ := od
    simp only [Value.agg.injEq, Array.mk.injEq, List.cons.injEq, and_true, true_and] at e
    obtain ⟨rfl, rfl, rfl⟩ := e
    exact (own_capx o1).1
  refine ⟨hs.1, ⟨rfl, rfl, rfl, rfl⟩, hcap, rd, ?_, ⟨rfl, rfl, rfl, hs.2.1.1⟩, hs.2.1.2, ?_, ⟨rfl, ?_⟩, fun N hN => ?_, ?_⟩
  · obtain ⟨b1, d1, b2, d2, b3, d3, e, s1, _⟩ := rd
    simp only [Value.agg.injEq, Array.mk.injEq, List.cons.injEq, Value.slice.injEq, and_true, true_and] at e
    rw [e.1.1]; exact s1
  · obtain ⟨b, d, e, s1⟩ := ru
    simp only [Value.agg.injEq, Array.mk.injEq, List.cons.injEq, Value.slice.injEq, and_true, true_and] at e
    rw [e.1]; exact s1
  · have h9 := hs.2.2.1; unfold wtH at h9; omega
  · have h9 := (hs.2.2.2 N hN).1
    unfold wtN at h9
    exact ⟨by omega, by omega, by omega⟩
  · obtain ⟨b, d, e, s1⟩ := rh
    simp only [Value.agg.injEq, Array.mk.injEq, List.cons.injEq, Value.slice.injEq, and_true, true_and] at e
    rw [e.1]; exact s1
end Go.Proofs.YtnnimocaanofjaaGreatDoor
