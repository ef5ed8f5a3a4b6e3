
/-
  Heaps: rows of nodes; their comparison. By an AI agent.
-/
import Derived.Test.YtlkobhighhkmoaaDoorNodes
namespace Go.Proofs.YtlkobhighhkmoaaDoor
open Go.ChangeShapes Go.WideShapes Go.ChangeAt Go.RowKit Go.Deep
set_option linter.unusedVariables false
set_option maxRecDepth 100000

/-- A node's four cells. -/
structure NV where
  A : Bool
  v1 : Value
  v2 : Value
  v3 : Value
abbrev nv0 : NV := ⟨false, .slice none 0 0, .slice none 0 0, .slice none 0 0⟩
abbrev NV.val (x : NV) : Value := .agg #[.bool x.A, x.v1, x.v2, x.v3]
def cellsN (V : List NV) : List Value := V.flatMap fun x => [.bool x.A, x.v1, x.v2, x.v3]
theorem cellsN_length (V : List NV) : (cellsN V).length = V.length * 4 := by
  induction V with
  | nil => rfl
  | cons p L ih => simp [cellsN] at ih ⊢; omega
theorem cellsN_append (V U : List NV) : cellsN (V ++ U) = cellsN V ++ cellsN U := by simp [cellsN]
theorem cellsN_get : ∀ (V : List NV) (i : Nat), i < V.length → (cellsN V)[i * 4]? = some (.bool (V.getD i nv0).A) ∧ (cellsN V)[i * 4 + 1]? = some (V.getD i nv0).v1 ∧ (cellsN V)[i * 4 + 2]? = some (V.getD i nv0).v2 ∧ (cellsN V)[i * 4 + 3]? = some (V.getD i nv0).v3
  | [], i, h => absurd h (by simp)
  | p :: L, 0, _ => ⟨rfl, rfl, rfl, rfl⟩
  | p :: L, i + 1, h => by
    have ih := cellsN_get L i (by simpa using h)
    have e1 : (i + 1) * 4 = i * 4 + 1 + 1 + 1 + 1 := by omega
    have e2 : cellsN (p :: L) = .bool p.A :: p.v1 :: p.v2 :: p.v3 :: cellsN L := rfl
    rw [e2, e1]
    exact ih
/-- A slice of nodes reads as H. -/
def ReadsHL (w : World) (a : Option Addr) (H : List NM) : Prop :=
  ∃ V : List NV, V.length = H.length ∧ Src w a (cellsN V) ∧ ∀ i, i < H.length → ReadsN w (V.getD i nv0).val (H.getD i nm0)
theorem ReadsHL.below {w w' : World} {a : Option Addr} {H : List NM} (h : ReadsHL w a H) (hb : Below w.heap.size w w') : ReadsHL w' a H := by
  obtain ⟨V, h1, h2, h3⟩ := h
  exact ⟨V, h1, h2.below hb, fun i hi => (h3 i hi).below hb⟩
theorem ReadsHL.drew {w : World} {a : Option Addr} {H : List NM} (h : ReadsHL w a H) : ReadsHL w.drew a H := h
theorem srcN {w : World} {a : Option Addr} {H : List NM} (h : ReadsHL w a H) {i : Nat} (hi : i < H.length) : ∃ b o D a1 c1 a2 c2 a3 c3, a = some ⟨b, o, none⟩ ∧ w.cell? ⟨b, o + i * 4, none⟩ = some (.bool D.A) ∧ w.cell? ⟨b, o + i * 4 + 1, none⟩ = some (.slice a1 D.P.length c1) ∧ w.cell? ⟨b, o + i * 4 + 2, none⟩ = some (.slice a2 D.L.length c2) ∧ w.cell? ⟨b, o + i * 4 + 3, none⟩ = some (.slice a3 D.K.length c3) ∧ Hid (H.getD i nm0 = D) ∧ Hid (ReadsN w (.agg #[.bool D.A, .slice a1 D.P.length c1, .slice a2 D.L.length c2, .slice a3 D.K.length c3]) D) := by
  obtain ⟨V, h1, h2, h3⟩ := h
  rcases h2 with h2 | ⟨b, o, rfl, hc⟩
  · have h4 := cellsN_length V
    rw [h2] at h4
    simp only [List.length_nil] at h4
    omega
  · have hR := h3 i hi
    obtain ⟨g0, g1, g2, g3⟩ := cellsN_get V i (by omega)
    have k0 := hc (i * 4) (by rw [cellsN_length]; omega)
    have k1 := hc (i * 4 + 1) (by rw [cellsN_length]; omega)
    have k2 := hc (i * 4 + 2) (by rw [cellsN_length]; omega)
    have k3 := hc (i * 4 + 3) (by rw [cellsN_length]; omega)
    rw [getD_some g0] at k0
    rw [getD_some g1] at k1
    rw [getD_some g2] at k2
    rw [getD_some g3] at k3
    obtain ⟨a1, c1, a2, c2, a3, c3, e, s1, s2, s3⟩ := hR
    have e2 := e
    simp only [Value.agg.injEq, Array.mk.injEq, List.cons.injEq, Value.bool.injEq, and_true] at e
    obtain ⟨e0, e1, e2', e3⟩ := e
    refine ⟨b, o, H.getD i nm0, a1, c1, a2, c2, a3, c3, rfl, ?_, ?_, ?_, ?_, rfl, ⟨a1, c1, a2, c2, a3, c3, rfl, s1, s2, s3⟩⟩
    · rw [k0, e0]
    · rw [← Nat.add_assoc] at k1; rw [k1, e1]
    · rw [← Nat.add_assoc] at k2; rw [k2, e2']
    · rw [← Nat.add_assoc] at k3; rw [k3, e3]
def wtH (H : List NM) : Nat := H.length + (H.map wtN).sum
def smallH (H : List NM) : Prop := wtH H ≤ 1048576 ∧ ∀ D ∈ H, smallN D
theorem getD_memH (H : List NM) (i : Nat) (h : i < H.length) : H.getD i nm0 ∈ H := by
  rw [List.getD_eq_getElem?_getD, List.getElem?_eq_getElem h]; exact List.getElem_mem _

set_option maxHeartbeats 1000000 in
theorem eqNodeS (a b : Option Addr) (n c d : Nat) (H : List NM) (w : World) (hL : H.length = n) (hn : n ≤ 1048576) (hs : ∀ D ∈ H, wtN D ≤ 9000000000000000000) (ha : ReadsHL w a H) (hb : ReadsHL w b H) :
    Calls Tryd.prog 57 #[.slice a n c, .slice b n d] w fun e w' => e = .returned (.bool true) ∧ Below w.heap.size w w' := by
  have hne : ((n : Int) != (n : Int)) = false := by simp
  have HA : Hid (ReadsHL w a H) := ha
  have HB : Hid (ReadsHL w b H) := hb
  have HL : Hid (H.length = n) := hL
  have HS : Hid (∀ D ∈ H, wtN D ≤ 9000000000000000000) := hs
  clear ha hb hL hs
  go_enter Tryd.func57, Tryd.ntmps57
  go_wp2_with fail
  go_loopw [5] (fun i wr => ∃ k : Nat, k ≤ n ∧ i = .int .i64 k ∧ Hid (Below w.heap.size w wr)) (fun i _ => n - (intOf i).toNat)
  case atStart => exact ⟨0, by omega, rfl, Below.refl _ _⟩
  case round =>
    obtain ⟨k, hk, rfl, hB⟩ := hrel
    by_cases hlt : k < n
    · obtain ⟨b1, o1, D, a1, c1, a2, c2, a3, c3, rfl, p0, p1, p2, p3, hD, hR⟩ := srcN (HA.out.below hB.out) (i := k) (by rw [HL.out]; exact hlt)
      obtain ⟨b2, o2, D', d1, e1, d2, e2, d3, e3, rfl, q0, q1, q2, q3, hD', hR'⟩ := srcN (HB.out.below hB.out) (i := k) (by rw [HL.out]; exact hlt)
      obtain rfl : D = D' := hD.out.symm.trans hD'.out
      have WT : Hid (wtN D ≤ 9000000000000000000) := by
        show wtN D ≤ _
        rw [← hD.out]
        exact HS.out _ (getD_memH H k (by rw [HL.out]; exact hlt))
      have hk0 : (0 : Int) ≤ (k : Int) := by omega
      have hki : (k : Int) < (n : Int) := by omega
      go_wp2_with fail
      go_region_with (go_at_call 89; refine (eqNode _ _ D _ WT.out hR.out.drew hR'.out.drew).mono ?_; rintro e w1 ⟨rfl, hb1⟩)
      all_goals go_wp2_with fail
      all_goals exact ⟨⟨k + 1, by omega, by go_num, hB.out.drew.trans (hb1.mono hB.out.size)⟩, by simp [intOf]; omega⟩
    · go_wp2_with fail
      go_ret
      exact ⟨rfl, hB.out⟩

/-- A heap's value. -/
def ReadsH (w : World) (v : Value) (H : List NM) : Prop := ∃ a c, v = .agg #[.slice a H.length c] ∧ ReadsHL w a H
theorem ReadsH.below {w w' : World} {v : Value} {H : List NM} (h : ReadsH w v H) (hb : Below w.heap.size w w') : ReadsH w' v H := by
  obtain ⟨a, c, rfl, h1⟩ := h
  exact ⟨a, c, rfl, h1.below hb⟩
theorem ReadsH.drew {w : World} {v : Value} {H : List NM} (h : ReadsH w v H) : ReadsH w.drew v H := h

set_option maxHeartbeats 400000 in
theorem eqHeap (v v' : Value) (H : List NM) (w : World) (hn : H.length ≤ 1048576) (hs : ∀ D ∈ H, wtN D ≤ 9000000000000000000) (h : ReadsH w v H) (h' : ReadsH w v' H) :
    Calls Tryd.prog 28 #[v, v'] w fun e w' => e = .returned (.bool true) ∧ Below w.heap.size w w' := by
  obtain ⟨a, c, rfl, s1⟩ := h
  obtain ⟨b, d, rfl, t1⟩ := h'
  obtain ⟨n, hl⟩ : ∃ n, H.length = n := ⟨_, rfl⟩
  have HS : Hid (∀ D ∈ H, wtN D ≤ 9000000000000000000) := hs
  have S1 : Hid (ReadsHL w a H) := s1
  have T1 : Hid (ReadsHL w b H) := t1
  have HL : Hid (H.length = n) := hl
  rw [hl] at hn ⊢
  clear hs s1 t1 hl
  go_enter Tryd.func28, Tryd.ntmps28
  go_wp2_with fail
  refine (eqNodeS a b n c d H _ HL.out hn HS.out (S1.out.below (((Below.refl _ _).alloc (Nat.le_refl _) _).alloc (by simp) _)) (T1.out.below (((Below.refl _ _).alloc (Nat.le_refl _) _).alloc (by simp) _))).mono ?_
  rintro e w1 ⟨rfl, hb1⟩
  have B1 : Hid (Below w.heap.size w w1) := (((Below.refl _ _).alloc (Nat.le_refl _) _).alloc (by simp) _).trans (hb1.mono (by simp; omega))
  clear hb1
  go_wp2_with fail
  go_ret
  exact ⟨rfl, B1.out⟩
end Go.Proofs.YtlkobhighhkmoaaDoor
