
/-
  Stores in memory: a disk, a superblock, a heap; held to be alike, marked, held against their marks. By an AI agent.
-/
import Derived.Test.YtlkobhighhkmoaaDoorApp
import Derived.Test.YtlkobhighhkmoaaDoorDlaw0
import Derived.Test.YtlkobhighhkmoaaDoorSupers
import Derived.Test.YtlkobhighhkmoaaDoorHeaps3
namespace Go.Proofs.YtlkobhighhkmoaaDoor
open Go.ChangeShapes Go.WideShapes Go.ChangeAt Go.RowKit Go.Deep
set_option linter.unusedVariables false
set_option maxRecDepth 100000

/-- v leads to the store (D, U, H). -/
def ReadsS (w : World) (v : Value) (D : DM) (U : UM) (H : List NM) : Prop := ∃ v1 v2 v3 v4 v5, v = .agg #[v1, v2, .bool D.A, v3, .int .i64 U.G, .int .i64 U.R, v4, v5] ∧ ReadsD w (.agg #[v1, v2, .bool D.A, v3]) D ∧ ReadsU w (.agg #[.int .i64 U.G, .int .i64 U.R, v4]) U ∧ ReadsH w (.agg #[v5]) H
theorem ReadsS.below {w w' : World} {v : Value} {D : DM} {U : UM} {H : List NM} (h : ReadsS w v D U H) (hb : Below w.heap.size w w') : ReadsS w' v D U H := by
  obtain ⟨x1, x2, x3, x4, x5, rfl, h1, h2, h3⟩ := h
  exact ⟨x1, x2, x3, x4, x5, rfl, h1.below hb, h2.below hb, h3.below hb⟩
/-- v owns the store (D, U, H): three ranges of blocks that lie apart. -/
def OwnsS (w : World) (lo hi : Nat) (v : Value) (D : DM) (U : UM) (H : List NM) : Prop :=
  ∃ v1 v2 v3 v4 v5 l1 h1 l2 h2 l3 h3, v = .agg #[v1, v2, .bool D.A, v3, .int .i64 U.G, .int .i64 U.R, v4, v5] ∧ OwnsD w l1 h1 (.agg #[v1, v2, .bool D.A, v3]) D ∧ OwnsU w l2 h2 (.agg #[.int .i64 U.G, .int .i64 U.R, v4]) U ∧ OwnsH w l3 h3 (.agg #[v5]) H ∧ (lo ≤ l1 ∧ lo ≤ l2 ∧ lo ≤ l3 ∧ h1 ≤ hi ∧ h2 ≤ hi ∧ h3 ≤ hi) ∧ (h1 ≤ l2 ∨ h2 ≤ l1) ∧ (h1 ≤ l3 ∨ h3 ≤ l1) ∧ (h2 ≤ l3 ∨ h3 ≤ l2)
theorem OwnsS.reads {w : World} {lo hi : Nat} {v : Value} {D : DM} {U : UM} {H : List NM} (h : OwnsS w lo hi v D U H) : ReadsS w v D U H := by
  obtain ⟨x1, x2, x3, x4, x5, l1, h1, l2, h2, l3, h3, rfl, a, b, c, _⟩ := h
  exact ⟨x1, x2, x3, x4, x5, rfl, a.reads, b.reads, c.reads⟩
theorem OwnsS.below {w w' : World} {lo hi : Nat} {v : Value} {D : DM} {U : UM} {H : List NM} (h : OwnsS w lo hi v D U H) (hb : Below w.heap.size w w') : OwnsS w' lo hi v D U H := by
  obtain ⟨x1, x2, x3, x4, x5, l1, h1, l2, h2, l3, h3, rfl, a, b, c, r⟩ := h
  exact ⟨x1, x2, x3, x4, x5, l1, h1, l2, h2, l3, h3, rfl, a.below hb, b.below hb, c.below hb, r⟩
theorem OwnsS.drew {w : World} {lo hi : Nat} {v : Value} {D : DM} {U : UM} {H : List NM} (h : OwnsS w lo hi v D U H) : OwnsS w.drew lo hi v D U H := by
  obtain ⟨x1, x2, x3, x4, x5, l1, h1, l2, h2, l3, h3, rfl, a, b, c, r⟩ := h
  exact ⟨x1, x2, x3, x4, x5, l1, h1, l2, h2, l3, h3, rfl, a.drew, b.drew, c.drew, r⟩
theorem OwnsS.turned {w w' : World} {lo hi lo' hi' : Nat} {v : Value} {D : DM} {U : UM} {H : List NM} (h : OwnsS w lo hi v D U H) (ht : Turned lo' hi' w w') (hd : hi ≤ lo' ∨ hi' ≤ lo) : OwnsS w' lo hi v D U H := by
  obtain ⟨x1, x2, x3, x4, x5, l1, h1, l2, h2, l3, h3, rfl, a, b, c, r, q⟩ := h
  exact ⟨x1, x2, x3, x4, x5, l1, h1, l2, h2, l3, h3, rfl, a.turned ht (by omega), b.turned ht (by omega), c.turned ht (by omega), r, q⟩
theorem OwnsS.mono {w : World} {lo hi lo' hi' : Nat} {v : Value} {D : DM} {U : UM} {H : List NM} (h : OwnsS w lo hi v D U H) (hl : lo' ≤ lo) (hh : hi ≤ hi') : OwnsS w lo' hi' v D U H := by
  obtain ⟨x1, x2, x3, x4, x5, l1, h1, l2, h2, l3, h3, rfl, a, b, c, r, q⟩ := h
  exact ⟨x1, x2, x3, x4, x5, l1, h1, l2, h2, l3, h3, rfl, a, b, c, by omega, q⟩
theorem disk_lit {w : World} {v1 v2 v3 : Value} {A : Bool} {D : DM} (h : ReadsD w (.agg #[v1, v2, .bool A, v3]) D) : ∃ a1 c1 a2 c2 a3 c3, v1 = .slice a1 D.S.length c1 ∧ v2 = .slice a2 D.C.length c2 ∧ v3 = .slice a3 D.K.length c3 ∧ A = D.A := by
  obtain ⟨a1, c1, a2, c2, a3, c3, e, _⟩ := h
  injection e with e
  simp only [Array.mk.injEq, List.cons.injEq, Value.bool.injEq, and_true] at e
  obtain ⟨rfl, rfl, rfl, rfl⟩ := e
  exact ⟨a1, c1, a2, c2, a3, c3, rfl, rfl, rfl, rfl⟩
theorem super_lit {w : World} {v4 : Value} {G R : Int} {U : UM} (h : ReadsU w (.agg #[.int .i64 G, .int .i64 R, v4]) U) : ∃ a c, v4 = .slice a U.S.length c := by
  obtain ⟨a, c, e, _⟩ := h
  injection e with e
  simp only [Array.mk.injEq, List.cons.injEq, and_true] at e
  exact ⟨a, c, e.2.2⟩
theorem heap_lit {w : World} {v5 : Value} {H : List NM} (h : ReadsH w (.agg #[v5]) H) : ∃ a c, v5 = .slice a H.length c := by
  obtain ⟨a, c, e, _⟩ := h
  injection e with e
  simp only [Array.mk.injEq, List.cons.injEq, and_true] at e
  exact ⟨a, c, e⟩
theorem OwnsS.lit {w : World} {lo hi : Nat} {v : Value} {D : DM} {U : UM} {H : List NM} (h : OwnsS w lo hi v D U H) : ∃ a1 c1 a2 c2 a3 c3 a4 c4 a5 c5, v = .agg #[.slice a1 D.S.length c1, .slice a2 D.C.length c2, .bool D.A, .slice a3 D.K.length c3, .int .i64 U.G, .int .i64 U.R, .slice a4 U.S.length c4, .slice a5 H.length c5] := by
  obtain ⟨x1, x2, x3, x4, x5, rfl, a, b, c⟩ := h.reads
  obtain ⟨a1, c1, a2, c2, a3, c3, rfl, rfl, rfl, _⟩ := disk_lit a
  obtain ⟨a4, c4, rfl⟩ := super_lit b
  obtain ⟨a5, c5, rfl⟩ := heap_lit c
  exact ⟨a1, c1, a2, c2, a3, c3, a4, c4, a5, c5, rfl⟩
theorem Turned.wide {lo hi lo' hi' : Nat} {w w' : World} (h : Turned lo hi w w') (h1 : lo' ≤ lo) (h2 : hi ≤ hi') : Turned lo' hi' w w' := ⟨h.os, h.tape, h.output, h.size, fun k hk hr => h.block k hk (by omega)⟩
/-- What is small enough to be marked. -/
def smallS (D : DM) (U : UM) (H : List NM) : Prop := (D.S.length ≤ 100000 ∧ D.C.length ≤ 100000 ∧ D.K.length ≤ 100000) ∧ U.S.length ≤ 100000 ∧ wtH H ≤ 1048576 ∧ H.length ≤ 1048576 ∧ (∀ D ∈ H, wtN D ≤ 9000000000000000000)

set_option maxHeartbeats 1000000 in
theorem eqStore (v v' : Value) (D : DM) (U : UM) (H : List NM) (w : World) (hs : smallS D U H) (h : ReadsS w v D U H) (h' : ReadsS w v' D U H) :
    Calls Tryd.prog 7 #[v, v'] w fun e w' => e = .returned (.bool true) ∧ Below w.heap.size w w' := by
  obtain ⟨x1, x2, x3, x4, x5, rfl, p1, p2, p3⟩ := h
  obtain ⟨y1, y2, y3, y4, y5, rfl, q1, q2, q3⟩ := h'
  obtain ⟨a1, c1, a2, c2, a3, c3, rfl, rfl, rfl, _⟩ := disk_lit p1
  obtain ⟨b1, d1, b2, d2, b3, d3, rfl, rfl, rfl, _⟩ := disk_lit q1
  obtain ⟨a4, c4, rfl⟩ := super_lit p2
  obtain ⟨b4, d4, rfl⟩ := super_lit q2
  obtain ⟨a5, c5, rfl⟩ := heap_lit p3
  obtain ⟨b5, d5, rfl⟩ := heap_lit q3
  have HD : Hid (ReadsD w (.agg #[.slice a1 D.S.length c1, .slice a2 D.C.length c2, .bool D.A, .slice a3 D.K.length c3]) D ∧ ReadsD w (.agg #[.slice b1 D.S.length d1, .slice b2 D.C.length d2, .bool D.A, .slice b3 D.K.length d3]) D) := ⟨p1, q1⟩
  have HU : Hid (ReadsU w (.agg #[.int .i64 U.G, .int .i64 U.R, .slice a4 U.S.length c4]) U ∧ ReadsU w (.agg #[.int .i64 U.G, .int .i64 U.R, .slice b4 U.S.length d4]) U) := ⟨p2, q2⟩
  have HH : Hid (ReadsH w (.agg #[.slice a5 H.length c5]) H ∧ ReadsH w (.agg #[.slice b5 H.length d5]) H) := ⟨p3, q3⟩
  have SM : Hid (smallS D U H) := hs
  obtain ⟨n1, hn1⟩ : ∃ n, D.S.length = n := ⟨_, rfl⟩
  obtain ⟨n2, hn2⟩ : ∃ n, D.C.length = n := ⟨_, rfl⟩
  obtain ⟨n3, hn3⟩ : ∃ n, D.K.length = n := ⟨_, rfl⟩
  obtain ⟨A, hA⟩ : ∃ A, D.A = A := ⟨_, rfl⟩
  obtain ⟨G, hG⟩ : ∃ n, U.G = n := ⟨_, rfl⟩
  obtain ⟨R, hR⟩ : ∃ n, U.R = n := ⟨_, rfl⟩
  obtain ⟨n4, hn4⟩ : ∃ n, U.S.length = n := ⟨_, rfl⟩
  obtain ⟨n5, hn5⟩ : ∃ n, H.length = n := ⟨_, rfl⟩
  rw [hn1, hn2, hn3, hA] at HD
  rw [hG, hR, hn4] at HU
  rw [hn5] at HH
  rw [hn1, hn2, hn3, hA, hG, hR, hn4, hn5]
  clear hs hn1 hn2 hn3 hA hG hR hn4 hn5 p1 p2 p3 q1 q2 q3
  have B0 : Hid (Below w.heap.size w ((w.alloc (.cells #[.slice a1 n1 c1, .slice a2 n2 c2, .bool A, .slice a3 n3 c3, .int .i64 G, .int .i64 R, .slice a4 n4 c4, .slice a5 n5 c5] 34)).alloc (.cells #[.slice b1 n1 d1, .slice b2 n2 d2, .bool A, .slice b3 n3 d3, .int .i64 G, .int .i64 R, .slice b4 n4 d4, .slice b5 n5 d5] 34))) := ((Below.refl _ _).alloc (Nat.le_refl _) _).alloc (by simp) _
  go_enter Tryd.func7, Tryd.ntmps7
  go_wp2_with fail
  refine (eqDisk _ _ D _ ⟨by have := SM.out.1.1; omega, by have := SM.out.1.2.1; omega, by have := SM.out.1.2.2; omega⟩ (HD.out.1.below B0.out) (HD.out.2.below B0.out)).mono ?_
  rintro e w1 ⟨rfl, hb⟩
  have B1 : Hid (Below w.heap.size w w1) := B0.out.trans (hb.mono B0.out.size)
  have X1 : Hid (Box w1 w.heap.size [.slice a1 n1 c1, .slice a2 n2 c2, .bool A, .slice a3 n3 c3, .int .i64 G, .int .i64 R, .slice a4 n4 c4, .slice a5 n5 c5]) := Box.below ((Box.new rfl).old _) hb
  have Y1 : Hid (Box w1 (w.heap.size + 1) [.slice b1 n1 d1, .slice b2 n2 d2, .bool A, .slice b3 n3 d3, .int .i64 G, .int .i64 R, .slice b4 n4 d4, .slice b5 n5 d5]) := Box.below (Box.new (by simp)) hb
  clear hb B0
  obtain ⟨p4, _⟩ := X1.out 4 _ rfl
  obtain ⟨p5, _⟩ := X1.out 5 _ rfl
  obtain ⟨p6, _⟩ := X1.out 6 _ rfl
  obtain ⟨q4, _⟩ := Y1.out 4 _ rfl
  obtain ⟨q5, _⟩ := Y1.out 5 _ rfl
  obtain ⟨q6, _⟩ := Y1.out 6 _ rfl
  go_wp2_with fail
  refine (eqSuper _ _ U _ (by have := SM.out.2.1; omega) (HU.out.1.below B1.out) (HU.out.2.below B1.out)).mono ?_
  rintro e w2 ⟨rfl, hb⟩
  have B2 : Hid (Below w.heap.size w w2) := B1.out.trans (hb.mono B1.out.size)
  have X2 : Hid (Box w2 w.heap.size [.slice a1 n1 c1, .slice a2 n2 c2, .bool A, .slice a3 n3 c3, .int .i64 G, .int .i64 R, .slice a4 n4 c4, .slice a5 n5 c5]) := X1.out.below hb
  have Y2 : Hid (Box w2 (w.heap.size + 1) [.slice b1 n1 d1, .slice b2 n2 d2, .bool A, .slice b3 n3 d3, .int .i64 G, .int .i64 R, .slice b4 n4 d4, .slice b5 n5 d5]) := Y1.out.below hb
  clear hb B1 X1 Y1 p4 p5 p6 q4 q5 q6
  obtain ⟨p7, _⟩ := X2.out 7 _ rfl
  obtain ⟨q7, _⟩ := Y2.out 7 _ rfl
  go_wp2_with fail
  refine (eqHeap _ _ H _ SM.out.2.2.2.1 SM.out.2.2.2.2 (HH.out.1.below B2.out) (HH.out.2.below B2.out)).mono ?_
  rintro e w3 ⟨rfl, hb⟩
  have B3 : Hid (Below w.heap.size w w3) := B2.out.trans (hb.mono B2.out.size)
  clear hb p7 q7
  go_wp2_with fail
  go_ret
  exact ⟨rfl, B3.out⟩
def k2S (D : DM) (k : Nat) : Nat := endD D k
def k3S (D : DM) (U : UM) (k : Nat) : Nat := endD D k + U.S.length * 3
def endS (D : DM) (U : UM) (H : List NM) (k : Nat) : Nat := endH H (k3S D U k)
theorem k_small {D : DM} {U : UM} {H : List NM} {k : Nat} (hs : smallS D U H) (hk : k ≤ 100) : endD D k ≤ 500000 ∧ k3S D U k ≤ 900000 := by
  obtain ⟨⟨h1, h2, h3⟩, h4, _⟩ := hs
  unfold k3S endD
  omega
theorem cast_own {w : World} {lo hi : Nat} {v1 v2 v3 : Value} {A B : Bool} {D : DM} (e : A = B) (h : OwnsD w lo hi (.agg #[v1, v2, .bool A, v3]) D) : OwnsD w lo hi (.agg #[v1, v2, .bool B, v3]) D := e ▸ h
theorem cast_ownU {w : World} {lo hi k k' : Nat} {v : Value} {G R G' R' : Int} {U : UM} (e : G = G' ∧ R = R') (e2 : k = k') (h : OwnsU w lo hi (.agg #[.int .i64 G, .int .i64 R, v]) (mkU U k)) : OwnsU w lo hi (.agg #[.int .i64 G', .int .i64 R', v]) (mkU U k') := by
  obtain ⟨rfl, rfl⟩ := e
  subst e2
  exact h
set_option maxHeartbeats 1000000 in
theorem markStore (v : Value) (D : DM) (U : UM) (H : List NM) (lo hi k : Nat) (w : World) (hs : smallS D U H) (hk0 : 0 < k) (hk1 : k ≤ 100) (hh : hi ≤ w.heap.size) (h : OwnsS w lo hi v D U H) :
    Calls Tryd.prog 8 #[v, .int .i64 (k : Int)] w fun e w' => e = .returned (.int .i64 ((endS D U H k : Nat) : Int)) ∧ Turned lo hi w w' ∧ OwnsS w' lo hi v (markedD D k) (mkU U (k2S D k)) (markH H (k3S D U k)) := by
  obtain ⟨x1, x2, x3, x4, x5, l1, h1, l2, h2, l3, h3, rfl, o1, o2, o3, r, q⟩ := h
  obtain ⟨a1, c1, a2, c2, a3, c3, rfl, rfl, rfl, _⟩ := disk_lit o1.reads
  obtain ⟨a4, c4, rfl⟩ := super_lit o2.reads
  obtain ⟨a5, c5, rfl⟩ := heap_lit o3.reads
  have KS := k_small hs hk1
  obtain ⟨k2, hk2⟩ : ∃ k2, endD D k = k2 := ⟨_, rfl⟩
  obtain ⟨k3, hk3⟩ : ∃ k3, k3S D U k = k3 := ⟨_, rfl⟩
  have KB : Hid (endD D k = k2 ∧ k3S D U k = k3 ∧ k2 + U.S.length * 3 = k3 ∧ 0 < k2 ∧ k2 ≤ 500000 ∧ k3 ≤ 900000) := ⟨hk2, hk3, by rw [← hk3, ← hk2]; rfl, by rw [← hk2]; unfold endD; omega, by omega, by omega⟩
  have O1 : Hid (OwnsD w l1 h1 (.agg #[.slice a1 D.S.length c1, .slice a2 D.C.length c2, .bool D.A, .slice a3 D.K.length c3]) D) := o1
  have O2 : Hid (OwnsU w l2 h2 (.agg #[.int .i64 U.G, .int .i64 U.R, .slice a4 U.S.length c4]) U) := o2
  have O3 : Hid (OwnsH w l3 h3 (.agg #[.slice a5 H.length c5]) H) := o3
  have RQ : Hid ((lo ≤ l1 ∧ lo ≤ l2 ∧ lo ≤ l3 ∧ h1 ≤ hi ∧ h2 ≤ hi ∧ h3 ≤ hi) ∧ (h1 ≤ l2 ∨ h2 ≤ l1) ∧ (h1 ≤ l3 ∨ h3 ≤ l1) ∧ (h2 ≤ l3 ∨ h3 ≤ l2)) := ⟨r, q⟩
  have SM : Hid (smallS D U H) := hs
  obtain ⟨n1, hn1⟩ : ∃ n, D.S.length = n := ⟨_, rfl⟩
  obtain ⟨n2, hn2⟩ : ∃ n, D.C.length = n := ⟨_, rfl⟩
  obtain ⟨n3, hn3⟩ : ∃ n, D.K.length = n := ⟨_, rfl⟩
  obtain ⟨A, hA⟩ : ∃ A, D.A = A := ⟨_, rfl⟩
  obtain ⟨G, hG⟩ : ∃ n, U.G = n := ⟨_, rfl⟩
  obtain ⟨R, hR⟩ : ∃ n, U.R = n := ⟨_, rfl⟩
  obtain ⟨n4, hn4⟩ : ∃ n, U.S.length = n := ⟨_, rfl⟩
  obtain ⟨n5, hn5⟩ : ∃ n, H.length = n := ⟨_, rfl⟩
  rw [hn1, hn2, hn3, hA] at O1
  rw [hG, hR, hn4] at O2
  rw [hn5] at O3
  rw [hn1, hn2, hn3, hA, hG, hR, hn4, hn5]
  have VL : Hid (Value.agg #[.slice a1 n1 c1, .slice a2 n2 c2, .bool A, .slice a3 n3 c3, .int .i64 G, .int .i64 R, .slice a4 n4 c4, .slice a5 n5 c5] = Value.agg #[.slice a1 n1 c1, .slice a2 n2 c2, .bool (markedD D k).A, .slice a3 n3 c3, .int .i64 (mkU U (k2S D k)).G, .int .i64 (mkU U (k2S D k)).R, .slice a4 n4 c4, .slice a5 n5 c5] ∧ A = (markedD D k).A ∧ (G = (mkU U (k2S D k)).G ∧ R = (mkU U (k2S D k)).R) ∧ k2 = k2S D k) := by
    refine ⟨?_, hA.symm, ⟨hG.symm, hR.symm⟩, hk2.symm⟩
    rw [← hA, ← hG, ← hR]
    rfl
  clear hs hn1 hn2 hn3 hA hG hR hn4 hn5 o1 o2 o3 r q KS hk2 hk3
  have B0 : Hid (Below w.heap.size w (w.alloc (.cells #[.slice a1 n1 c1, .slice a2 n2 c2, .bool A, .slice a3 n3 c3, .int .i64 G, .int .i64 R, .slice a4 n4 c4, .slice a5 n5 c5] 34))) := (Below.refl _ _).alloc (Nat.le_refl _) _
  go_enter Tryd.func8, Tryd.ntmps8
  go_wp2_with fail
  refine (markDisk _ D l1 h1 k _ ⟨by have := SM.out.1.1; omega, by have := SM.out.1.2.1; omega, by have := SM.out.1.2.2; omega⟩ hk0 (by omega) (by have := RQ.out.1; simp; omega) (O1.out.below B0.out)).mono ?_
  rintro e w1 ⟨rfl, t1, m1⟩
  have T1 : Hid (Turned l1 h1 w w1) := (Turned.of_below B0.out).trans t1
  have M1 : Hid (OwnsD w1 l1 h1 (.agg #[.slice a1 n1 c1, .slice a2 n2 c2, .bool A, .slice a3 n3 c3]) (markedD D k)) := m1
  have X1 : Hid (Box w1 w.heap.size [.slice a1 n1 c1, .slice a2 n2 c2, .bool A, .slice a3 n3 c3, .int .i64 G, .int .i64 R, .slice a4 n4 c4, .slice a5 n5 c5]) := Box.turned (Box.new rfl) t1 (.inr (by have := RQ.out.1; omega))
  rw [KB.out.1]
  clear t1 m1 B0
  obtain ⟨p4, _⟩ := X1.out 4 _ rfl
  obtain ⟨p5, _⟩ := X1.out 5 _ rfl
  obtain ⟨p6, _⟩ := X1.out 6 _ rfl
  go_wp2_with fail
  refine (markSuper _ U k2 l2 h2 _ (by have := SM.out.2.1; omega) KB.out.2.2.2.1 (by have := KB.out.2.2.2.2.1; omega) (by have := RQ.out.1; have := T1.out.size; omega) (O2.out.turned T1.out (by have := RQ.out.2; omega))).mono ?_
  rintro e w2 ⟨rfl, t2, m2⟩
  have T2 : Hid (Turned l2 h2 w1 w2) := t2
  have M2 : Hid (OwnsU w2 l2 h2 (.agg #[.int .i64 G, .int .i64 R, .slice a4 n4 c4]) (mkU U k2)) := m2
  have X2 : Hid (Box w2 w.heap.size [.slice a1 n1 c1, .slice a2 n2 c2, .bool A, .slice a3 n3 c3, .int .i64 G, .int .i64 R, .slice a4 n4 c4, .slice a5 n5 c5]) := X1.out.turned t2 (.inr (by have := RQ.out.1; omega))
  rw [KB.out.2.2.1]
  clear t2 m2 p4 p5 p6 X1
  obtain ⟨p7, _⟩ := X2.out 7 _ rfl
  go_wp2_with fail
  refine (markHeap _ H l3 h3 k3 _ SM.out.2.2.1 (by have := KB.out; omega) (by have := KB.out; omega) (by have := RQ.out.1; have := T1.out.size; have := T2.out.size; omega) ((O3.out.turned T1.out (by have := RQ.out.2; omega)).turned T2.out (by have := RQ.out.2; omega))).mono ?_
  rintro e w3 ⟨rfl, t3, m3⟩
  have T3 : Hid (Turned l3 h3 w2 w3) := t3
  have M3 : Hid (OwnsH w3 l3 h3 (.agg #[.slice a5 n5 c5]) (markH H k3)) := m3
  have EE : Hid (endH H k3 = endS D U H k) := by show _ = _; unfold endS; rw [KB.out.2.1]
  rw [EE.out]
  clear t3 m3 p7 X2
  go_wp2_with fail
  go_ret
  refine ⟨rfl, ?_, .slice a1 n1 c1, .slice a2 n2 c2, .slice a3 n3 c3, .slice a4 n4 c4, .slice a5 n5 c5, l1, h1, l2, h2, l3, h3, ?_, ?_, ?_, ?_, RQ.out.1, RQ.out.2⟩
  · exact ((T1.out.wide (by have := RQ.out.1; omega) (by have := RQ.out.1; omega)).trans (T2.out.wide (by have := RQ.out.1; omega) (by have := RQ.out.1; omega))).trans (T3.out.wide (by have := RQ.out.1; omega) (by have := RQ.out.1; omega))
  · exact VL.out.1
  · exact cast_own VL.out.2.1 ((M1.out.turned T2.out (by have := RQ.out.2; omega)).turned T3.out (by have := RQ.out.2; omega))
  · exact cast_ownU VL.out.2.2.1 VL.out.2.2.2 (M2.out.turned T3.out (by have := RQ.out.2; omega))
  · rw [KB.out.2.1]
    exact M3.out
set_option maxHeartbeats 1000000 in
theorem heldStore (v : Value) (D : DM) (U : UM) (H : List NM) (k : Nat) (w : World) (hs : smallS D U H) (hk0 : 0 < k) (hk1 : k ≤ 100) (h : ReadsS w v (markedD D k) (mkU U (k2S D k)) (markH H (k3S D U k))) :
    Calls Tryd.prog 9 #[v, .int .i64 (k : Int)] w fun e w' => e = .returned (.int .i64 ((endS D U H k : Nat) : Int)) ∧ Below w.heap.size w w' := by
  obtain ⟨x1, x2, x3, x4, x5, rfl, o1, o2, o3⟩ := h
  obtain ⟨a1, c1, a2, c2, a3, c3, rfl, rfl, rfl, _⟩ := disk_lit o1
  obtain ⟨a4, c4, rfl⟩ := super_lit o2
  obtain ⟨a5, c5, rfl⟩ := heap_lit o3
  have KS := k_small hs hk1
  obtain ⟨k2, hk2⟩ : ∃ k2, endD D k = k2 := ⟨_, rfl⟩
  obtain ⟨k3, hk3⟩ : ∃ k3, k3S D U k = k3 := ⟨_, rfl⟩
  obtain ⟨k4, hk4⟩ : ∃ k4, endS D U H k = k4 := ⟨_, rfl⟩
  have KB : Hid (endD D k = k2 ∧ k3S D U k = k3 ∧ k2 + U.S.length * 3 = k3 ∧ 0 < k2 ∧ k2 ≤ 500000 ∧ k3 ≤ 900000 ∧ endH H k3 = k4) := ⟨hk2, hk3, by rw [← hk3, ← hk2]; rfl, by rw [← hk2]; unfold endD; omega, by omega, by omega, by rw [← hk3, ← hk4]; rfl⟩
  have e2 : ¬ (k2 : Int) < 0 := by omega
  have e3 : ¬ (k3 : Int) < 0 := by omega
  have e4 : ¬ (k4 : Int) < 0 := by omega
  have E2 : k2S D k = k2 := hk2
  rw [hk3] at o3 ⊢
  rw [E2] at o2 ⊢
  rw [hk4]
  have O1 : Hid (ReadsD w (.agg #[.slice a1 (markedD D k).S.length c1, .slice a2 (markedD D k).C.length c2, .bool (markedD D k).A, .slice a3 (markedD D k).K.length c3]) (markedD D k)) := o1
  have O2 : Hid (ReadsU w (.agg #[.int .i64 (mkU U k2).G, .int .i64 (mkU U k2).R, .slice a4 (mkU U k2).S.length c4]) (mkU U k2)) := o2
  have O3 : Hid (ReadsH w (.agg #[.slice a5 (markH H k3).length c5]) (markH H k3)) := o3
  have SM : Hid (smallS D U H) := hs
  obtain ⟨n1, hn1⟩ : ∃ n, (markedD D k).S.length = n := ⟨_, rfl⟩
  obtain ⟨n2, hn2⟩ : ∃ n, (markedD D k).C.length = n := ⟨_, rfl⟩
  obtain ⟨n3, hn3⟩ : ∃ n, (markedD D k).K.length = n := ⟨_, rfl⟩
  obtain ⟨A, hA⟩ : ∃ A, (markedD D k).A = A := ⟨_, rfl⟩
  obtain ⟨G, hG⟩ : ∃ n, (mkU U k2).G = n := ⟨_, rfl⟩
  obtain ⟨R, hR⟩ : ∃ n, (mkU U k2).R = n := ⟨_, rfl⟩
  obtain ⟨n4, hn4⟩ : ∃ n, (mkU U k2).S.length = n := ⟨_, rfl⟩
  obtain ⟨n5, hn5⟩ : ∃ n, (markH H k3).length = n := ⟨_, rfl⟩
  rw [hn1, hn2, hn3, hA] at O1
  rw [hG, hR, hn4] at O2
  rw [hn5] at O3
  rw [hn1, hn2, hn3, hA, hG, hR, hn4, hn5]
  clear hs hn1 hn2 hn3 hA hG hR hn4 hn5 KS hk2 hk3 hk4 E2 o1 o2 o3
  have B0 : Hid (Below w.heap.size w (w.alloc (.cells #[.slice a1 n1 c1, .slice a2 n2 c2, .bool A, .slice a3 n3 c3, .int .i64 G, .int .i64 R, .slice a4 n4 c4, .slice a5 n5 c5] 34))) := (Below.refl _ _).alloc (Nat.le_refl _) _
  go_enter Tryd.func9, Tryd.ntmps9
  go_wp2_with fail
  refine (heldDisk _ D k _ ⟨by have := SM.out.1.1; omega, by have := SM.out.1.2.1; omega, by have := SM.out.1.2.2; omega⟩ hk0 (by omega) (O1.out.below B0.out)).mono ?_
  rintro e w1 ⟨rfl, hb⟩
  have B1 : Hid (Below w.heap.size w w1) := B0.out.trans (hb.mono B0.out.size)
  have X1 : Hid (Box w1 w.heap.size [.slice a1 n1 c1, .slice a2 n2 c2, .bool A, .slice a3 n3 c3, .int .i64 G, .int .i64 R, .slice a4 n4 c4, .slice a5 n5 c5]) := Box.below (Box.new rfl) hb
  rw [KB.out.1]
  clear hb B0
  obtain ⟨p4, _⟩ := X1.out 4 _ rfl
  obtain ⟨p5, _⟩ := X1.out 5 _ rfl
  obtain ⟨p6, _⟩ := X1.out 6 _ rfl
  go_wp2_with fail
  refine (heldSuper _ U k2 _ (by have := SM.out.2.1; omega) KB.out.2.2.2.1 (by have := KB.out.2.2.2.2.1; omega) (O2.out.below B1.out)).mono ?_
  rintro e w2 ⟨rfl, hb⟩
  have B2 : Hid (Below w.heap.size w w2) := B1.out.trans (hb.mono B1.out.size)
  have X2 : Hid (Box w2 w.heap.size [.slice a1 n1 c1, .slice a2 n2 c2, .bool A, .slice a3 n3 c3, .int .i64 G, .int .i64 R, .slice a4 n4 c4, .slice a5 n5 c5]) := X1.out.below hb
  rw [KB.out.2.2.1]
  clear hb p4 p5 p6 X1 B1
  obtain ⟨p7, _⟩ := X2.out 7 _ rfl
  go_wp2_with fail
  refine (heldHeap _ H k3 _ SM.out.2.2.1 (by have := KB.out; omega) (by have := KB.out; omega) (O3.out.below B2.out)).mono ?_
  rintro e w3 ⟨rfl, hb⟩
  have B3 : Hid (Below w.heap.size w w3) := B2.out.trans (hb.mono B2.out.size)
  rw [KB.out.2.2.2.2.2.2]
  clear hb p7 X2
  go_wp2_with fail
  go_ret
  exact ⟨rfl, B3.out⟩
end Go.Proofs.YtlkobhighhkmoaaDoor
