/-
  Texts of the store, brought together: Stw. By an AI agent.
-/
import Derived.Test.YtnnimocaanofjaaGreatDoorSt43
import Derived.Test.YtnnimocaanofjaaGreatDoorSt45
/-
  Stores that are held to be alike, whatever their size; a store of one's own as an argument. By an AI agent.
-/
namespace Go.Proofs.YtnnimocaanofjaaGreatDoor
set_option linter.unusedSectionVars false
variable [DecidableEq NM]
open Go.ChangeShapes Go.WideShapes Go.ChangeAt Go.RowKit Go.Deep
set_option linter.unusedVariables false
set_option maxRecDepth 100000

set_option maxHeartbeats 1000000 in
theorem eqStoreL (v v' : Value) (D : DM) (U : UM) (H : List NM) (w : World) (hs : smallD D ∧ smallU U ∧ smallH H) (h : ReadsS w v D U H) (h' : ReadsS w v' D U H) :
    Calls Tryz.prog 12 #[v, v'] w fun e w' => e = .returned (.bool true) ∧ Below w.heap.size w w' := by
  obtain ⟨x1, x2, x3, x4, x5, rfl, p1, p2, p3⟩ := h
  obtain ⟨y1, y2, y3, y4, y5, rfl, q1, q2, q3⟩ := h'
  obtain ⟨a1, c1, a2, c2, a3, c3, rfl, rfl, rfl, _⟩ := disk_lit p1
  obtain ⟨b1, d1, b2, d2, b3, d3, rfl, rfl, rfl, _⟩ := disk_lit q1
  obtain ⟨a4, c4, rfl⟩ := super_lit p2
  obtain ⟨b4, d4, rfl⟩ := super_lit q2
  obtain ⟨a5, c5, rfl⟩ := heap_lit p3
  obtain ⟨b5, d5, rfl⟩ := heap_lit q3
  have HD : Hid (ReadsD w (.agg #[.slice a1 D.S.length c1, .slice a2 D.C.length c2, .bool D.A, .slice a3 D.K.length c3]) D ∧ ReadsD w (.agg #[.slice b1 D.S.length d1, .slice b2 D.C.length d2, .bool D.A, .slice b3 D.K.length d3]) D) := ⟨p1, q1⟩
  have HU : Hid (ReadsU w (.agg #[.int .i64 U.G, .int .i64 U.R, .slice a4 U.S.length c4]) U ∧ ReadsU w (.agg #[.int .i64 U.G, .int .i64 U.R, .slice b4 U.S.length d4]) U) := ⟨p2, q2⟩
  have HH : Hid (ReadsH w (.agg #[.slice a5 H.length c5]) H ∧ ReadsH w (.agg #[.slice b5 H.length d5]) H) := ⟨p3, q3⟩
  have SM : Hid (smallD D ∧ smallU U ∧ smallH H) := hs
  obtain ⟨n1, hn1⟩ : ∃ n, D.S.length = n := ⟨_, rfl⟩
  obtain ⟨n2, hn2⟩ : ∃ n, D.C.length = n := ⟨_, rfl⟩
  obtain ⟨n3, hn3⟩ : ∃ n, D.K.length = n := ⟨_, rfl⟩
  obtain ⟨A, hA⟩ : ∃ A, D.A = A := ⟨_, rfl⟩
  obtain ⟨G, hG⟩ : ∃ n, U.G = n := ⟨_, rfl⟩
  obtain ⟨R, hR⟩ : ∃ n, U.R = n := ⟨_, rfl⟩
  obtain ⟨n4, hn4⟩ : ∃ n, U.S.length = n := ⟨_, rfl⟩
  obtain ⟨n5, hn5⟩ : ∃ n, H.length = n := ⟨_, rfl⟩
  rw [hn1, hn2, hn3, hA] at HD
  rw [hG, hR, hn4] at HU
  rw [hn5] at HH
  rw [hn1, hn2, hn3, hA, hG, hR, hn4, hn5]
  clear hs hn1 hn2 hn3 hA hG hR hn4 hn5 p1 p2 p3 q1 q2 q3
  have B0 : Hid (Below w.heap.size w ((w.alloc (.cells #[.slice a1 n1 c1, .slice a2 n2 c2, .bool A, .slice a3 n3 c3, .int .i64 G, .int .i64 R, .slice a4 n4 c4, .slice a5 n5 c5] 47)).alloc (.cells #[.slice b1 n1 d1, .slice b2 n2 d2, .bool A, .slice b3 n3 d3, .int .i64 G, .int .i64 R, .slice b4 n4 d4, .slice b5 n5 d5] 47))) := ((Below.refl _ _).alloc (Nat.le_refl _) _).alloc (by simp) _
  go_enter Tryz.func12, Tryz.ntmps12
  go_wp2_with fail
  refine (eqDisk _ _ D _ ⟨by have := SM.out.1.1.1; omega, by have := SM.out.1.2.1.1; omega, by have := SM.out.1.2.2; omega⟩ (HD.out.1.below B0.out) (HD.out.2.below B0.out)).mono ?_
  rintro e w1 ⟨rfl, hb⟩
  have B1 : Hid (Below w.heap.size w w1) := B0.out.trans (hb.mono B0.out.size)
  have X1 : Hid (Box w1 w.heap.size [.slice a1 n1 c1, .slice a2 n2 c2, .bool A, .slice a3 n3 c3, .int .i64 G, .int .i64 R, .slice a4 n4 c4, .slice a5 n5 c5]) := Box.below ((Box.new rfl).old _) hb
  have Y1 : Hid (Box w1 (w.heap.size + 1) [.slice b1 n1 d1, .slice b2 n2 d2, .bool A, .slice b3 n3 d3, .int .i64 G, .int .i64 R, .slice b4 n4 d4, .slice b5 n5 d5]) := Box.below (Box.new (by simp)) hb
  clear hb B0
  obtain ⟨p4, _⟩ := X1.out 4 _ rfl
  obtain ⟨p5, _⟩ := X1.out 5 _ rfl
  obtain ⟨p6, _⟩ := X1.out 6 _ rfl
  obtain ⟨q4, _⟩ := Y1.out 4 _ rfl
  obtain ⟨q5, _⟩ := Y1.out 5 _ rfl
  obtain ⟨q6, _⟩ := Y1.out 6 _ rfl
  go_wp2_with fail
  refine (eqSuper _ _ U _ (by have := SM.out.2.1.1; omega) (HU.out.1.below B1.out) (HU.out.2.below B1.out)).mono ?_
  rintro e w2 ⟨rfl, hb⟩
  have B2 : Hid (Below w.heap.size w w2) := B1.out.trans (hb.mono B1.out.size)
  have X2 : Hid (Box w2 w.heap.size [.slice a1 n1 c1, .slice a2 n2 c2, .bool A, .slice a3 n3 c3, .int .i64 G, .int .i64 R, .slice a4 n4 c4, .slice a5 n5 c5]) := X1.out.below hb
  have Y2 : Hid (Box w2 (w.heap.size + 1) [.slice b1 n1 d1, .slice b2 n2 d2, .bool A, .slice b3 n3 d3, .int .i64 G, .int .i64 R, .slice b4 n4 d4, .slice b5 n5 d5]) := Y1.out.below hb
  clear hb B1 X1 Y1 p4 p5 p6 q4 q5 q6
  obtain ⟨p7, _⟩ := X2.out 7 _ rfl
  obtain ⟨q7, _⟩ := Y2.out 7 _ rfl
  go_wp2_with fail
  refine (eqHeap _ _ H _ (by have h9 := SM.out.2.2.1; unfold wtH at h9; omega) (fun N hN => by have := (SM.out.2.2.2 N hN).1; omega) (HH.out.1.below B2.out) (HH.out.2.below B2.out)).mono ?_
  rintro e w3 ⟨rfl, hb⟩
  have B3 : Hid (Below w.heap.size w w3) := B2.out.trans (hb.mono B2.out.size)
  clear hb p7 q7
  go_wp2_with fail
  go_ret
  exact ⟨rfl, B3.out⟩
theorem StoreIn.of_owns {w : World} {lo hi : Nat} {a1 a2 a3 a4 a5 : Option Addr} {c1 c2 c3 c4 c5 : Nat} {D : DM} {U : UM} {H : List NM} (hs : smallD D ∧ smallU U ∧ smallH H) (h : OwnsS w lo hi (.agg #[.slice a1 D.S.length c1, .slice a2 D.C.length c2, .bool D.A, .slice a3 D.K.length c3, .int .i64 U.G, .int .i64 U.R, .slice a4 U.S.length c4, .slice a5 H.length c5]) D U H) : StoreIn w a1 a2 a3 a4 a5 D.S.length c1 D.C.length c2 D.K.length c3 U.S.length c4 H.length c5 D.A U.G U.R D U H := by
  obtain ⟨x1, x2, x3, x4, x5, l1, h1, l2, h2, l3, h3, e, od, ou, oh, _⟩ := h
  simp only [Value.agg.injEq, Array.mk.injEq, List.cons.injEq, and_true, true_and] at e
  obtain ⟨rfl, rfl, rfl, rfl, rfl⟩ := e
  have rd := od.reads
  have ru := ou.reads
  have rh := oh.reads
  have hcap : D.S.length ≤ c1 := by
    obtain ⟨v1, v2, v3, e, ⟨o1, _⟩, _⟩ := od
    simp only [Value.agg.injEq, Array.mk.injEq, List.cons.injEq, and_true, true_and] at e
    obtain ⟨rfl, rfl, rfl⟩ := e
    exact (own_capx o1).1
  refine ⟨hs.1, ⟨rfl, rfl, rfl, rfl⟩, hcap, rd, ?_, ⟨rfl, rfl, rfl, hs.2.1.1⟩, hs.2.1.2, ?_, ⟨rfl, ?_⟩, fun N hN => ?_, ?_⟩
  · obtain ⟨b1, d1, b2, d2, b3, d3, e, s1, _⟩ := rd
    simp only [Value.agg.injEq, Array.mk.injEq, List.cons.injEq, Value.slice.injEq, and_true, true_and] at e
    rw [e.1.1]; exact s1
  · obtain ⟨b, d, e, s1⟩ := ru
    simp only [Value.agg.injEq, Array.mk.injEq, List.cons.injEq, Value.slice.injEq, and_true, true_and] at e
    rw [e.1]; exact s1
  · have h9 := hs.2.2.1; unfold wtH at h9; omega
  · have h9 := (hs.2.2.2 N hN).1
    unfold wtN at h9
    exact ⟨by omega, by omega, by omega⟩
  · obtain ⟨b, d, e, s1⟩ := rh
    simp only [Value.agg.injEq, Array.mk.injEq, List.cons.injEq, Value.slice.injEq, and_true, true_and] at e
    rw [e.1]; exact s1
end Go.Proofs.YtnnimocaanofjaaGreatDoor

