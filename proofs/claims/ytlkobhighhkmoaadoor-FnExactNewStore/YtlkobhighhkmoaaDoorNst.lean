
/-
  A new store: what program and specification give. By an AI agent.
-/
import Derived.Test.YtlkobhighhkmoaaDoorSto
import Derived.Test.YtlkobhighhkmoaaDoorSub
import Derived.Test.YtlkobhighhkmoaaDoorSus
import Derived.Test.YtlkobhighhkmoaaDoorDnew
import Derived.Test.YtlkobhighhkmoaaDoorRdf
import Derived.Deep.CutRange
namespace Go.Proofs.YtlkobhighhkmoaaDoor
open Go.ChangeShapes Go.WideShapes Go.ChangeAt Go.RowKit Go.Deep
set_option linter.unusedVariables false
set_option maxRecDepth 100000
abbrev W8 (w : World) (B : Nat) (v0 v1 v2 v3 v4 v5 v6 v7 : Value) : World := (((((((w.setCell ⟨B, 0, none⟩ v0).setCell ⟨B, 1, none⟩ v1).setCell ⟨B, 2, none⟩ v2).setCell ⟨B, 3, none⟩ v3).setCell ⟨B, 4, none⟩ v4).setCell ⟨B, 5, none⟩ v5).setCell ⟨B, 6, none⟩ v6).setCell ⟨B, 7, none⟩ v7
theorem Box.w8 {w : World} {B : Nat} {z0 z1 z2 z3 z4 z5 z6 z7 : Value} (h : Box w B [z0, z1, z2, z3, z4, z5, z6, z7]) (v0 v1 v2 v3 v4 v5 v6 v7 : Value) : Box (W8 w B v0 v1 v2 v3 v4 v5 v6 v7) B [v0, v1, v2, v3, v4, v5, v6, v7] := (((((((h.set 0 v0).set 1 v1).set 2 v2).set 3 v3).set 4 v4).set 5 v5).set 6 v6).set 7 v7
theorem Box.w8in {w : World} {B : Nat} {z0 z1 z2 z3 z4 z5 z6 z7 : Value} (h : Box w B [z0, z1, z2, z3, z4, z5, z6, z7]) (v0 v1 v2 v3 v4 v5 v6 v7 : Value) : (w.cell? ⟨B, 0, none⟩ = some z0 ∧ w.frozen? ⟨B, 0, none⟩ = false) ∧ ((w.setCell ⟨B, 0, none⟩ v0).cell? ⟨B, 1, none⟩ = some z1 ∧ (w.setCell ⟨B, 0, none⟩ v0).frozen? ⟨B, 1, none⟩ = false) ∧ (((w.setCell ⟨B, 0, none⟩ v0).setCell ⟨B, 1, none⟩ v1).cell? ⟨B, 2, none⟩ = some z2 ∧ ((w.setCell ⟨B, 0, none⟩ v0).setCell ⟨B, 1, none⟩ v1).frozen? ⟨B, 2, none⟩ = false) ∧ ((((w.setCell ⟨B, 0, none⟩ v0).setCell ⟨B, 1, none⟩ v1).setCell ⟨B, 2, none⟩ v2).cell? ⟨B, 3, none⟩ = some z3 ∧ (((w.setCell ⟨B, 0, none⟩ v0).setCell ⟨B, 1, none⟩ v1).setCell ⟨B, 2, none⟩ v2).frozen? ⟨B, 3, none⟩ = false) ∧ (((((w.setCell ⟨B, 0, none⟩ v0).setCell ⟨B, 1, none⟩ v1).setCell ⟨B, 2, none⟩ v2).setCell ⟨B, 3, none⟩ v3).cell? ⟨B, 4, none⟩ = some z4 ∧ ((((w.setCell ⟨B, 0, none⟩ v0).setCell ⟨B, 1, none⟩ v1).setCell ⟨B, 2, none⟩ v2).setCell ⟨B, 3, none⟩ v3).frozen? ⟨B, 4, none⟩ = false) ∧ ((((((w.setCell ⟨B, 0, none⟩ v0).setCell ⟨B, 1, none⟩ v1).setCell ⟨B, 2, none⟩ v2).setCell ⟨B, 3, none⟩ v3).setCell ⟨B, 4, none⟩ v4).cell? ⟨B, 5, none⟩ = some z5 ∧ (((((w.setCell ⟨B, 0, none⟩ v0).setCell ⟨B, 1, none⟩ v1).setCell ⟨B, 2, none⟩ v2).setCell ⟨B, 3, none⟩ v3).setCell ⟨B, 4, none⟩ v4).frozen? ⟨B, 5, none⟩ = false) ∧ (((((((w.setCell ⟨B, 0, none⟩ v0).setCell ⟨B, 1, none⟩ v1).setCell ⟨B, 2, none⟩ v2).setCell ⟨B, 3, none⟩ v3).setCell ⟨B, 4, none⟩ v4).setCell ⟨B, 5, none⟩ v5).cell? ⟨B, 6, none⟩ = some z6 ∧ ((((((w.setCell ⟨B, 0, none⟩ v0).setCell ⟨B, 1, none⟩ v1).setCell ⟨B, 2, none⟩ v2).setCell ⟨B, 3, none⟩ v3).setCell ⟨B, 4, none⟩ v4).setCell ⟨B, 5, none⟩ v5).frozen? ⟨B, 6, none⟩ = false) ∧ ((((((((w.setCell ⟨B, 0, none⟩ v0).setCell ⟨B, 1, none⟩ v1).setCell ⟨B, 2, none⟩ v2).setCell ⟨B, 3, none⟩ v3).setCell ⟨B, 4, none⟩ v4).setCell ⟨B, 5, none⟩ v5).setCell ⟨B, 6, none⟩ v6).cell? ⟨B, 7, none⟩ = some z7 ∧ (((((((w.setCell ⟨B, 0, none⟩ v0).setCell ⟨B, 1, none⟩ v1).setCell ⟨B, 2, none⟩ v2).setCell ⟨B, 3, none⟩ v3).setCell ⟨B, 4, none⟩ v4).setCell ⟨B, 5, none⟩ v5).setCell ⟨B, 6, none⟩ v6).frozen? ⟨B, 7, none⟩ = false) :=
  ⟨h 0 _ rfl, (h.set 0 v0) 1 _ rfl, ((h.set 0 v0).set 1 v1) 2 _ rfl, (((h.set 0 v0).set 1 v1).set 2 v2) 3 _ rfl, ((((h.set 0 v0).set 1 v1).set 2 v2).set 3 v3) 4 _ rfl, (((((h.set 0 v0).set 1 v1).set 2 v2).set 3 v3).set 4 v4) 5 _ rfl, ((((((h.set 0 v0).set 1 v1).set 2 v2).set 3 v3).set 4 v4).set 5 v5) 6 _ rfl, (((((((h.set 0 v0).set 1 v1).set 2 v2).set 3 v3).set 4 v4).set 5 v5).set 6 v6) 7 _ rfl⟩
theorem Box.w8out {w : World} {B : Nat} {z0 z1 z2 z3 z4 z5 z6 z7 : Value} (h : Box w B [z0, z1, z2, z3, z4, z5, z6, z7]) (v0 v1 v2 v3 v4 v5 v6 v7 : Value) : (w.setCell ⟨B, 0, none⟩ v0).cell? ⟨B, 0, none⟩ = some v0 ∧ ((w.setCell ⟨B, 0, none⟩ v0).setCell ⟨B, 1, none⟩ v1).cell? ⟨B, 1, none⟩ = some v1 ∧ (((w.setCell ⟨B, 0, none⟩ v0).setCell ⟨B, 1, none⟩ v1).setCell ⟨B, 2, none⟩ v2).cell? ⟨B, 2, none⟩ = some v2 ∧ ((((w.setCell ⟨B, 0, none⟩ v0).setCell ⟨B, 1, none⟩ v1).setCell ⟨B, 2, none⟩ v2).setCell ⟨B, 3, none⟩ v3).cell? ⟨B, 3, none⟩ = some v3 ∧ (((((w.setCell ⟨B, 0, none⟩ v0).setCell ⟨B, 1, none⟩ v1).setCell ⟨B, 2, none⟩ v2).setCell ⟨B, 3, none⟩ v3).setCell ⟨B, 4, none⟩ v4).cell? ⟨B, 4, none⟩ = some v4 ∧ ((((((w.setCell ⟨B, 0, none⟩ v0).setCell ⟨B, 1, none⟩ v1).setCell ⟨B, 2, none⟩ v2).setCell ⟨B, 3, none⟩ v3).setCell ⟨B, 4, none⟩ v4).setCell ⟨B, 5, none⟩ v5).cell? ⟨B, 5, none⟩ = some v5 ∧ (((((((w.setCell ⟨B, 0, none⟩ v0).setCell ⟨B, 1, none⟩ v1).setCell ⟨B, 2, none⟩ v2).setCell ⟨B, 3, none⟩ v3).setCell ⟨B, 4, none⟩ v4).setCell ⟨B, 5, none⟩ v5).setCell ⟨B, 6, none⟩ v6).cell? ⟨B, 6, none⟩ = some v6 ∧ ((((((((w.setCell ⟨B, 0, none⟩ v0).setCell ⟨B, 1, none⟩ v1).setCell ⟨B, 2, none⟩ v2).setCell ⟨B, 3, none⟩ v3).setCell ⟨B, 4, none⟩ v4).setCell ⟨B, 5, none⟩ v5).setCell ⟨B, 6, none⟩ v6).setCell ⟨B, 7, none⟩ v7).cell? ⟨B, 7, none⟩ = some v7 :=
  ⟨((h.set 0 v0) 0 _ rfl).1, (((h.set 0 v0).set 1 v1) 1 _ rfl).1, ((((h.set 0 v0).set 1 v1).set 2 v2) 2 _ rfl).1, (((((h.set 0 v0).set 1 v1).set 2 v2).set 3 v3) 3 _ rfl).1, ((((((h.set 0 v0).set 1 v1).set 2 v2).set 3 v3).set 4 v4) 4 _ rfl).1, (((((((h.set 0 v0).set 1 v1).set 2 v2).set 3 v3).set 4 v4).set 5 v5) 5 _ rfl).1, ((((((((h.set 0 v0).set 1 v1).set 2 v2).set 3 v3).set 4 v4).set 5 v5).set 6 v6) 6 _ rfl).1, (((((((((h.set 0 v0).set 1 v1).set 2 v2).set 3 v3).set 4 v4).set 5 v5).set 6 v6).set 7 v7) 7 _ rfl).1⟩
theorem turned_cell {lo hi : Nat} {a w : World} (h : Turned lo hi a w) (p : Addr) (h1 : lo ≤ p.block) (h2 : p.block < hi) (u : Value) : Turned lo hi a (w.setCell p u) :=
  ⟨h.os, h.tape, h.output, by rw [show (w.setCell p u).heap.size = w.heap.size by simp]; exact h.size, fun k hk hr => (Below.heap_setCell _ _ _ _ (by omega)).trans (h.block k hk hr)⟩
theorem turned_at {a w : World} (g i : Nat) (h : Turned g (g + 1) a w) (u : Value) : Turned g (g + 1) a (w.setCell ⟨g, i, none⟩ u) := turned_cell h ⟨g, i, none⟩ (Nat.le_refl _) (Nat.lt_succ_self _) u
theorem turned_w8 (w : World) (B : Nat) (v0 v1 v2 v3 v4 v5 v6 v7 : Value) : Turned B (B + 1) w (W8 w B v0 v1 v2 v3 v4 v5 v6 v7) :=
  (turned_cell (turned_cell (turned_cell (turned_cell (turned_cell (turned_cell (turned_cell (turned_cell (⟨rfl, rfl, rfl, Nat.le_refl _, fun _ _ _ => rfl⟩ : Turned B (B + 1) w w) ⟨B, 0, none⟩ (Nat.le_refl _) (Nat.lt_succ_self _) v0) ⟨B, 1, none⟩ (Nat.le_refl _) (Nat.lt_succ_self _) v1) ⟨B, 2, none⟩ (Nat.le_refl _) (Nat.lt_succ_self _) v2) ⟨B, 3, none⟩ (Nat.le_refl _) (Nat.lt_succ_self _) v3) ⟨B, 4, none⟩ (Nat.le_refl _) (Nat.lt_succ_self _) v4) ⟨B, 5, none⟩ (Nat.le_refl _) (Nat.lt_succ_self _) v5) ⟨B, 6, none⟩ (Nat.le_refl _) (Nat.lt_succ_self _) v6) ⟨B, 7, none⟩ (Nat.le_refl _) (Nat.lt_succ_self _) v7)
theorem Below.w8 {b B : Nat} {a w : World} (h : Below b a w) (hB : b ≤ B) (v0 v1 v2 v3 v4 v5 v6 v7 : Value) : Below b a (W8 w B v0 v1 v2 v3 v4 v5 v6 v7) :=
  (Below.setCell (p := ⟨B, 7, none⟩) (Below.setCell (p := ⟨B, 6, none⟩) (Below.setCell (p := ⟨B, 5, none⟩) (Below.setCell (p := ⟨B, 4, none⟩) (Below.setCell (p := ⟨B, 3, none⟩) (Below.setCell (p := ⟨B, 2, none⟩) (Below.setCell (p := ⟨B, 1, none⟩) (Below.setCell (p := ⟨B, 0, none⟩) h hB v0) hB v1) hB v2) hB v3) hB v4) hB v5) hB v6) hB v7)
theorem size_w8 (w : World) (B : Nat) (v0 v1 v2 v3 v4 v5 v6 v7 : Value) : (W8 w B v0 v1 v2 v3 v4 v5 v6 v7).heap.size = w.heap.size := by simp [W8]
def newU : UM := ⟨0, -1, []⟩
def newSB : List Nat := sealB (superL newU)
def newSD : DM := ⟨(List.replicate 52 e0).set 0 (strB newSB), [], false, []⟩
theorem newU_ok : okU newU = true := by decide
theorem newU_small : smallU newU := ⟨by decide, fun x hx => by cases hx⟩
theorem newU_bytes : superB newU = (newSB, 0) := by unfold superB; rw [if_pos newU_ok]; rfl
theorem sealB_lengthS (L : List Nat) : (sealB L).length = L.length + 4 := by unfold sealB; rw [List.length_append]; rfl
theorem newSB_len : 0 < newSB.length ∧ newSB.length ≤ 1048576 := by
  unfold newSB
  rw [sealB_lengthS]
  have h := fieldsB_le (newU.S.map snapF) (fun y hy => by cases hy)
  unfold superL
  simp only [List.length_cons]
  have e : (newU.S.map snapF).length = 0 := rfl
  omega
theorem newSD_small : smallS newSD newU freshH := by
  refine ⟨⟨by simp [newSD], by simp [newSD], by simp [newSD]⟩, by decide, by decide, by decide, fun D h => ?_⟩
  unfold freshH at h
  rw [List.eq_of_mem_replicate h]
  decide
theorem ownH_new {w : World} {lo hi : Nat} {v : Value} (h : OwnsH w lo hi v freshH) : ∃ a c, v = .agg #[.slice a 50 c] := h.lit
theorem ownU_nil (w : World) (lo hi : Nat) : OwnsU w lo hi (.agg #[.int .i64 0, .int .i64 (-1), .slice none 0 0]) newU := ⟨_, rfl, World.ownsRow_nil _ _ _ _, fun k e => by cases e⟩
theorem superTurn (a : Option Addr) (c : Nat) (w : World) :
    Calls Tryd.prog 24 #[.agg #[.int .i64 0, .int .i64 (-1), .slice a 0 c]] w fun e w' => e = .returned (.int .i64 0) ∧ Below w.heap.size w w' := by
  go_enter Tryd.func24, Tryd.ntmps24
  go_wp2_with fail
  go_ret
  exact ⟨rfl, (Below.refl _ _).alloc (Nat.le_refl _) _⟩
/-- A text is put into the first sector of a new disk. -/
theorem own_first {w : World} {lo hi g c1 c2 c3 : Nat} {a2 a3 : Option Addr} (h : OwnsD w lo hi (.agg #[.slice (some ⟨g, 0, none⟩) 52 c1, .slice a2 0 c2, .bool false, .slice a3 0 c3]) (newD 52)) (y : ByteArray) (hy : y = strB newSB) :
    w.cell? ⟨g, 0, none⟩ = some (.string e0) ∧ w.frozen? ⟨g, 0, none⟩ = false ∧ OwnsD (w.setCell ⟨g, 0, none⟩ (.string y)) lo hi (.agg #[.slice (some ⟨g, 0, none⟩) 52 c1, .slice a2 0 c2, .bool false, .slice a3 0 c3]) newSD ∧ lo ≤ g ∧ g < hi := by
  subst hy
  obtain ⟨v1, v2, v3, e, ⟨h1, k1⟩, ⟨h2, k2⟩, h3, k3⟩ := h
  injection e with e
  simp only [Array.mk.injEq, List.cons.injEq, Value.bool.injEq, and_true] at e
  obtain ⟨rfl, rfl, _, rfl⟩ := e
  have l1 : (newD 52).S.length = 52 := by simp [newD]
  have h1' : w.ownsRow lo 9 1 (.slice (some ⟨g, 0, none⟩) 52 c1) 52 (cellsS (List.replicate 52 e0)) := by rw [l1] at h1; exact h1
  have c0 : (cellsS (List.replicate 52 e0))[0]? = some (.string e0) := rfl
  obtain ⟨q1, q2⟩ := own_at h1' c0
  refine ⟨q1, q2, ⟨_, _, _, rfl, ⟨?_, k1⟩, ⟨?_, k2⟩, ?_, k3⟩, (h1.lt g rfl).1, k1 g rfl⟩
  · have h9 := own_set h1' 0 (by rw [show (cellsS (List.replicate 52 e0)).length = 52 from rfl]; omega) (.string (strB newSB))
    have e9 : (cellsS (List.replicate 52 e0)).set 0 (.string (strB newSB)) = cellsS newSD.S := by simp [cellsS, newSD]
    rw [e9] at h9
    have l2 : newSD.S.length = 52 := by simp [newSD]
    rw [l2]
    exact h9
  · exact own_setOther h2 (fun e => own_ne h2 h1 (by decide) _ e rfl) _
  · exact own_setOther h3 (fun e => own_ne h3 h1 (by decide) _ e rfl) _
theorem ownD_new {w : World} {lo hi : Nat} {v : Value} (h : OwnsD w lo hi v (newD 52)) : ∃ g c1 a2 c2 a3 c3, v = .agg #[.slice (some ⟨g, 0, none⟩) 52 c1, .slice a2 0 c2, .bool false, .slice a3 0 c3] := by
  obtain ⟨a1, c1, a2, c2, a3, c3, rfl⟩ := h.lit
  have l1 : (newD 52).S.length = 52 := by simp [newD]
  obtain ⟨g, cap, e, _⟩ := own_some h.rows.2.1 (by rw [l1]; omega)
  injection e with e1 e2 e3
  subst e1
  exact ⟨g, c1, a2, c2, a3, c3, by rw [l1]; rfl⟩
set_option maxHeartbeats 2000000 in
theorem specNewStore (w : World) : Calls Tryd.prog 5 #[] w fun e w' => ∃ v, e = .returned v ∧ OwnsS w' w.heap.size w'.heap.size v newSD newU freshH ∧ Below w.heap.size w w' := by
  go_enter Tryd.func5, Tryd.ntmps5
  go_wp2_with fail
  refine (l02New 52 _ (by omega)).mono ?_
  rintro e w1 ⟨v1, rfl, o1, hb⟩
  obtain ⟨g, c1, a2, c2, a3, c3, rfl⟩ := ownD_new o1
  have Z1 : Hid (Box w1 w.heap.size [.slice none 0 0, .slice none 0 0, .bool false, .slice none 0 0, .int .i64 0, .int .i64 0, .slice none 0 0, .slice none 0 0]) := Box.below (Box.new rfl) hb
  have BL1 : Hid (Below w.heap.size w w1) := Below.new hb
  have LZ : Hid (w.heap.size + 1 ≤ w1.heap.size) := size_new hb
  have O1 : Hid (OwnsD w1 (w.heap.size + 1) w1.heap.size (.agg #[.slice (some ⟨g, 0, none⟩) 52 c1, .slice a2 0 c2, .bool false, .slice a3 0 c3]) (newD 52)) := o1.mono (by simp) (Nat.le_refl _)
  clear o1 hb
  go_upto_region 3 with fail
  have BA : Hid (Below w1.heap.size w1 (((w1.alloc (.cells #[.slice (some ⟨g, 0, none⟩) 52 c1, .slice a2 0 c2, .bool false, .slice a3 0 c3] 26)).alloc (.cells #[] 78)).alloc (.cells #[.int .i64 0, .int .i64 (-1), .slice (some ⟨w1.heap.size + 1, 0, none⟩) 0 0] 29))) := (((Below.refl _ _).alloc (Nat.le_refl _) _).alloc (by simp) _).alloc (by simp; omega) _
  have BL : Hid (Below w.heap.size w (((w1.alloc (.cells #[.slice (some ⟨g, 0, none⟩) 52 c1, .slice a2 0 c2, .bool false, .slice a3 0 c3] 26)).alloc (.cells #[] 78)).alloc (.cells #[.int .i64 0, .int .i64 (-1), .slice (some ⟨w1.heap.size + 1, 0, none⟩) 0 0] 29))) := BL1.out.trans (BA.out.mono BL1.out.size)
  have Z0 : Hid (Box (((w1.alloc (.cells #[.slice (some ⟨g, 0, none⟩) 52 c1, .slice a2 0 c2, .bool false, .slice a3 0 c3] 26)).alloc (.cells #[] 78)).alloc (.cells #[.int .i64 0, .int .i64 (-1), .slice (some ⟨w1.heap.size + 1, 0, none⟩) 0 0] 29)) w.heap.size [.slice none 0 0, .slice none 0 0, .bool false, .slice none 0 0, .int .i64 0, .int .i64 0, .slice none 0 0, .slice none 0 0]) := Z1.out.below BA.out
  have X1 : Hid (Box (((w1.alloc (.cells #[.slice (some ⟨g, 0, none⟩) 52 c1, .slice a2 0 c2, .bool false, .slice a3 0 c3] 26)).alloc (.cells #[] 78)).alloc (.cells #[.int .i64 0, .int .i64 (-1), .slice (some ⟨w1.heap.size + 1, 0, none⟩) 0 0] 29)) w1.heap.size [.slice (some ⟨g, 0, none⟩) 52 c1, .slice a2 0 c2, .bool false, .slice a3 0 c3]) := ((Box.new rfl).old _).old _
  have X2 : Hid (Box (((w1.alloc (.cells #[.slice (some ⟨g, 0, none⟩) 52 c1, .slice a2 0 c2, .bool false, .slice a3 0 c3] 26)).alloc (.cells #[] 78)).alloc (.cells #[.int .i64 0, .int .i64 (-1), .slice (some ⟨w1.heap.size + 1, 0, none⟩) 0 0] 29)) (w1.heap.size + 2) [.int .i64 0, .int .i64 (-1), .slice (some ⟨w1.heap.size + 1, 0, none⟩) 0 0]) := Box.new (by simp)
  have OD : Hid (OwnsD (((w1.alloc (.cells #[.slice (some ⟨g, 0, none⟩) 52 c1, .slice a2 0 c2, .bool false, .slice a3 0 c3] 26)).alloc (.cells #[] 78)).alloc (.cells #[.int .i64 0, .int .i64 (-1), .slice (some ⟨w1.heap.size + 1, 0, none⟩) 0 0] 29)) (w.heap.size + 1) w1.heap.size (.agg #[.slice (some ⟨g, 0, none⟩) 52 c1, .slice a2 0 c2, .bool false, .slice a3 0 c3]) (newD 52)) := O1.out.below BA.out
  have OU : Hid (OwnsU (((w1.alloc (.cells #[.slice (some ⟨g, 0, none⟩) 52 c1, .slice a2 0 c2, .bool false, .slice a3 0 c3] 26)).alloc (.cells #[] 78)).alloc (.cells #[.int .i64 0, .int .i64 (-1), .slice (some ⟨w1.heap.size + 1, 0, none⟩) 0 0] 29)) (w1.heap.size + 1) (w1.heap.size + 2) (.agg #[.int .i64 0, .int .i64 (-1), .slice (some ⟨w1.heap.size + 1, 0, none⟩) 0 0]) newU) := ⟨_, rfl, (own_empty (w := w1.alloc (.cells #[.slice (some ⟨g, 0, none⟩) 52 c1, .slice a2 0 c2, .bool false, .slice a3 0 c3] 26)) (by simp) (by simp)).alloc _, fun k e => by have e2 : some (w1.heap.size + 1) = some k := e; injection e2 with e3; omega⟩
  have ZS : Hid ((((w1.alloc (.cells #[.slice (some ⟨g, 0, none⟩) 52 c1, .slice a2 0 c2, .bool false, .slice a3 0 c3] 26)).alloc (.cells #[] 78)).alloc (.cells #[.int .i64 0, .int .i64 (-1), .slice (some ⟨w1.heap.size + 1, 0, none⟩) 0 0] 29)).heap.size = w1.heap.size + 3) := by show _ = _; simp
  generalize hW : ((w1.alloc (.cells #[.slice (some ⟨g, 0, none⟩) 52 c1, .slice a2 0 c2, .bool false, .slice a3 0 c3] 26)).alloc (.cells #[] 78)).alloc (.cells #[.int .i64 0, .int .i64 (-1), .slice (some ⟨w1.heap.size + 1, 0, none⟩) 0 0] 29) = W3 at BA BL Z0 X1 X2 OD OU ZS ⊢
  clear hW BA Z1 BL1 O1
  go_cut [1] from 3 (fun p9 wx => p9 = .pointer (some ⟨w1.heap.size, 0, none⟩) ∧ Hid (Below w.heap.size w wx) ∧ Hid (Box wx w.heap.size [.slice none 0 0, .slice none 0 0, .bool false, .slice none 0 0, .int .i64 0, .int .i64 0, .slice none 0 0, .slice none 0 0]) ∧ Hid (Box wx w1.heap.size [.slice (some ⟨g, 0, none⟩) 52 c1, .slice a2 0 c2, .bool false, .slice a3 0 c3]) ∧ Hid (Box wx (w1.heap.size + 2) [.int .i64 0, .int .i64 (-1), .slice (some ⟨w1.heap.size + 1, 0, none⟩) 0 0]) ∧ Hid (OwnsD wx (w.heap.size + 1) w1.heap.size (.agg #[.slice (some ⟨g, 0, none⟩) 52 c1, .slice a2 0 c2, .bool false, .slice a3 0 c3]) newSD) ∧ Hid (OwnsU wx (w1.heap.size + 1) (w1.heap.size + 2) (.agg #[.int .i64 0, .int .i64 (-1), .slice (some ⟨w1.heap.size + 1, 0, none⟩) 0 0]) newU) ∧ Hid (w1.heap.size + 3 ≤ wx.heap.size))
  case first =>
    obtain ⟨nB, hnB⟩ : ∃ n, newSB.length = n := ⟨_, rfl⟩
    obtain ⟨sB, hsB⟩ : ∃ s, strB newSB = s := ⟨_, rfl⟩
    have NB : Hid (newSB.length = nB ∧ strB newSB = sB ∧ 0 < nB) := ⟨hnB, hsB, by rw [← hnB]; exact newSB_len.1⟩
    clear hnB hsB
    obtain ⟨p0, _⟩ := X1.out 0 _ rfl
    obtain ⟨p1, _⟩ := X1.out 1 _ rfl
    obtain ⟨p2, _⟩ := X1.out 2 _ rfl
    obtain ⟨p3, _⟩ := X1.out 3 _ rfl
    obtain ⟨q0, _⟩ := X2.out 0 _ rfl
    obtain ⟨q1, _⟩ := X2.out 1 _ rfl
    obtain ⟨q2, _⟩ := X2.out 2 _ rfl
    go_region_with (go_at_call 20; refine (l04Bytes _ newU W3.drew newU_ok (show ReadsU W3.drew (.agg #[.int .i64 0, .int .i64 (-1), .slice (some ⟨w1.heap.size + 1, 0, none⟩) 0 0]) newU from OU.out.reads)).mono ?_; rintro e w4 ⟨u, rfl, ow, hl, hb⟩; have ow2 : w4.ownsRow W3.heap.size 5 1 u nB (cellsB newSB) := (NB.out.1 ▸ ow : w4.ownsRow W3.heap.size 5 1 u nB (cellsB newSB)); obtain ⟨ug, uc, rfl, _, us⟩ := own_some ow2 NB.out.2.2; have CV : (convert 43 9 (.slice (some ⟨ug, 0, none⟩) nB uc)).run Tryd.prog w4 = .ok (.string sB) w4 := (by have h9 := conv_sub (c := uc) us (s := nB) (Nat.le_of_eq NB.out.1.symm); rw [List.take_of_length_le (Nat.le_of_eq NB.out.1), NB.out.2.1] at h9; exact h9); have H4 : Hid (Below W3.heap.size W3 w4) := ⟨hb.os, hb.tape, hb.output, hb.size, hb.block⟩; clear hb hl ow ow2 us p0 p1 p2 p3; have F4 := own_first (OD.out.below H4.out) sB NB.out.2.1.symm; obtain ⟨m0, m1, m2, m3, m4⟩ := F4; have OF : Hid (OwnsD (w4.setCell ⟨g, 0, none⟩ (.string sB)) (w.heap.size + 1) w1.heap.size (.agg #[.slice (some ⟨g, 0, none⟩) 52 c1, .slice a2 0 c2, .bool false, .slice a3 0 c3]) newSD ∧ w.heap.size + 1 ≤ g ∧ g < w1.heap.size) := ⟨m2, m3, m4⟩; clear m2 m3 m4; have X14 : Hid (Box w4 w1.heap.size [.slice (some ⟨g, 0, none⟩) 52 c1, .slice a2 0 c2, .bool false, .slice a3 0 c3]) := X1.out.below H4.out; obtain ⟨p0, _⟩ := X14.out 0 _ rfl)
    all_goals go_wp2_with fail
    all_goals go_meet
    all_goals exact ⟨rfl, Below.setCell (p := ⟨g, 0, none⟩) (BL.out.trans (H4.out.mono BL.out.size)) (by have h7 := OF.out.2.1; have h8 := OF.out.2.2; show w.heap.size ≤ g; omega) _, Z0.out.turned (turned_at g 0 (Turned.of_below H4.out) _) (.inl (by have h7 := OF.out.2.1; have h8 := OF.out.2.2; omega)), X1.out.turned (turned_at g 0 (Turned.of_below H4.out) _) (.inr (by have h7 := OF.out.2.1; have h8 := OF.out.2.2; omega)), X2.out.turned (turned_at g 0 (Turned.of_below H4.out) _) (.inr (by have h7 := OF.out.2.1; have h8 := OF.out.2.2; omega)), OF.out.1, OU.out.turned (turned_at g 0 (Turned.of_below H4.out) _) (.inr (by have h7 := OF.out.2.1; have h8 := OF.out.2.2; omega)), by show _ ≤ (World.setCell _ _ _).heap.size; rw [show (World.setCell w4 ⟨g, 0, none⟩ (.string sB)).heap.size = w4.heap.size by simp]; have := H4.out.size; have := ZS.out; omega⟩
  case rest =>
  clear BL Z0 X1 X2 OD OU ZS
  obtain ⟨rfl, BL, Z0, X1, X2, OD, OU, ZS⟩ := hcut
  obtain ⟨p0, _⟩ := X1.out 0 _ rfl
  obtain ⟨p1, _⟩ := X1.out 1 _ rfl
  obtain ⟨p2, _⟩ := X1.out 2 _ rfl
  obtain ⟨p3, _⟩ := X1.out 3 _ rfl
  obtain ⟨q0, _⟩ := X2.out 0 _ rfl
  obtain ⟨q1, _⟩ := X2.out 1 _ rfl
  obtain ⟨q2, _⟩ := X2.out 2 _ rfl
  go_wp2_with fail
  go_region_with (go_at_call 21; refine (specNewHeap wc.drew).mono ?_; rintro e w5 ⟨v5, rfl, oh, hb⟩; obtain ⟨a5, c5, rfl⟩ := ownH_new oh; have BL5 : Hid (Below w.heap.size w w5) := BL.out.drew.trans (hb.mono BL.out.size); have Z5 : Hid (Box w5 w.heap.size [.slice none 0 0, .slice none 0 0, .bool false, .slice none 0 0, .int .i64 0, .int .i64 0, .slice none 0 0, .slice none 0 0]) := Box.below (w := wc.drew) Z0.out hb; have X15 : Hid (Box w5 (w1.heap.size) [.slice (some ⟨g, 0, none⟩) 52 c1, .slice a2 0 c2, .bool false, .slice a3 0 c3]) := Box.below (w := wc.drew) X1.out hb; have X25 : Hid (Box w5 (w1.heap.size + 2) [.int .i64 0, .int .i64 (-1), .slice (some ⟨w1.heap.size + 1, 0, none⟩) 0 0]) := Box.below (w := wc.drew) X2.out hb; have OD5 : Hid (OwnsD w5 (w.heap.size + 1) w1.heap.size (.agg #[.slice (some ⟨g, 0, none⟩) 52 c1, .slice a2 0 c2, .bool false, .slice a3 0 c3]) newSD) := (OwnsD.below (w := wc.drew) OD.out hb); have OU5 : Hid (OwnsU w5 (w1.heap.size + 1) (w1.heap.size + 2) (.agg #[.int .i64 0, .int .i64 (-1), .slice (some ⟨w1.heap.size + 1, 0, none⟩) 0 0]) newU) := OwnsU.below (w := wc.drew) OU.out hb; have OH5 : Hid (OwnsH w5 (wc.heap.size) w5.heap.size (.agg #[.slice a5 50 c5]) freshH) := oh; have S5 : Hid (wc.heap.size ≤ w5.heap.size) := hb.size; clear hb oh p0 p1 p2 p3 q0 q1 q2; obtain ⟨p0, _⟩ := X15.out 0 _ rfl; obtain ⟨p1, _⟩ := X15.out 1 _ rfl; obtain ⟨p2, _⟩ := X15.out 2 _ rfl; obtain ⟨p3, _⟩ := X15.out 3 _ rfl; obtain ⟨q0, _⟩ := X25.out 0 _ rfl; obtain ⟨q1, _⟩ := X25.out 1 _ rfl; obtain ⟨q2, _⟩ := X25.out 2 _ rfl; obtain ⟨⟨g0, h0⟩, ⟨g1, h1⟩, ⟨g2, h2⟩, ⟨g3, h3⟩, ⟨g4, h4⟩, ⟨g5, h5⟩, ⟨g6, h6⟩, ⟨g7, h7⟩⟩ := Z5.out.w8in (.slice (some ⟨g, 0, none⟩) 52 c1) (.slice a2 0 c2) (.bool false) (.slice a3 0 c3) (.int .i64 0) (.int .i64 (-1)) (.slice (some ⟨w1.heap.size + 1, 0, none⟩) 0 0) (.slice a5 50 c5); obtain ⟨r0, r1, r2, r3, r4, r5, r6, r7⟩ := Z5.out.w8out (.slice (some ⟨g, 0, none⟩) 52 c1) (.slice a2 0 c2) (.bool false) (.slice a3 0 c3) (.int .i64 0) (.int .i64 (-1)) (.slice (some ⟨w1.heap.size + 1, 0, none⟩) 0 0) (.slice a5 50 c5))
  all_goals go_wp2_with fail
  all_goals exact bodyPost_ret (v := .agg #[.slice (some ⟨g, 0, none⟩) 52 c1, .slice a2 0 c2, .bool false, .slice a3 0 c3, .int .i64 0, .int .i64 (-1), .slice (some ⟨w1.heap.size + 1, 0, none⟩) 0 0, .slice a5 50 c5]) (by simp [results, Tryd.results5, go_sem, r0, r1, r2, r3, r4, r5, r6, r7]) rfl ⟨_, rfl, ⟨_, _, _, _, _, _, _, _, _, _, _, rfl, OD5.out.turned (turned_w8 _ _ _ _ _ _ _ _ _ _) (.inr (Nat.le_refl _)), OU5.out.turned (turned_w8 _ _ _ _ _ _ _ _ _ _) (.inr (by have := LZ.out; omega)), OH5.out.turned (turned_w8 _ _ _ _ _ _ _ _ _ _) (.inr (by have := LZ.out; have := ZS.out; omega)), ⟨by omega, by have := LZ.out; omega, by have := LZ.out; have := ZS.out; omega, by rw [size_w8]; have := ZS.out; have := S5.out; omega, by rw [size_w8]; have := ZS.out; have := S5.out; omega, by rw [size_w8]; exact Nat.le_refl _⟩, .inl (by omega), .inl (by have := ZS.out; omega), .inl (by have := ZS.out; omega)⟩, Below.w8 BL5.out (Nat.le_refl _) _ _ _ _ _ _ _ _⟩
set_option maxHeartbeats 2000000 in
theorem implNewStore (w : World) (hH : HasHalf w) : Calls Tryd.prog 6 #[] w fun e w' => ∃ v, e = .returned v ∧ OwnsS w' w.heap.size w'.heap.size v newSD newU freshH ∧ Below w.heap.size w w' := by
  have HF : Hid (HasHalf w) := hH
  clear hH
  have B0 : Hid (Below w.heap.size w ((w.alloc (.cells #[.slice none 0 0, .slice none 0 0, .bool false, .slice none 0 0, .int .i64 0, .int .i64 0, .slice none 0 0, .slice none 0 0] 34)).alloc (.cells #[.int .i64 0, .int .i64 (-1), .slice none 0 0] 29))) := ((Below.refl _ _).alloc (Nat.le_refl _) _).alloc (by simp) _
  go_enter Tryd.func6, Tryd.ntmps6
  go_wp2_with fail
  refine (implSuperBytes _ newU _ newU_small (OwnsU.reads (ownU_nil _ 0 0)) (HF.out.below B0.out)).mono ?_
  rintro e w1 ⟨u, R9, q9, rfl, hR, ow, hl, hb⟩
  have e9 := newU_bytes.symm.trans hR
  injection e9 with e91 e92
  subst e91 e92
  obtain ⟨nB, hnB⟩ : ∃ n, newSB.length = n := ⟨_, rfl⟩
  obtain ⟨sB, hsB⟩ : ∃ s, strB newSB = s := ⟨_, rfl⟩
  have NB : Hid (newSB.length = nB ∧ strB newSB = sB ∧ 0 < nB) := ⟨hnB, hsB, by rw [← hnB]; exact newSB_len.1⟩
  rw [hnB] at ow
  obtain ⟨ug, uc, rfl, _, us⟩ := own_some ow NB.out.2.2
  have US : Hid (Src w1 (some ⟨ug, 0, none⟩) (cellsB newSB)) := us
  have BL1 : Hid (Below w.heap.size w w1) := B0.out.trans (hb.mono (by simp; omega))
  have Z1 : Hid (Box w1 w.heap.size [.slice none 0 0, .slice none 0 0, .bool false, .slice none 0 0, .int .i64 0, .int .i64 0, .slice none 0 0, .slice none 0 0]) := Box.below ((Box.new rfl).old _) hb
  have X1 : Hid (Box w1 (w.heap.size + 1) [.int .i64 0, .int .i64 (-1), .slice none 0 0]) := Box.below (Box.new (by simp)) hb
  have LZ1 : Hid (w.heap.size + 2 ≤ w1.heap.size) := World.block_lt_of_cell? _ _ (X1.out 0 _ rfl).1
  clear hnB hsB ow us hb hl hR B0
  go_wp2_with fail
  refine (implNewDisk 52 _).mono ?_
  rintro e w2 ⟨v2, R9, c9, rfl, hR, o2, hb⟩
  have e9 := (nd_yes (n := 52) (m := 52) ⟨by omega, by omega⟩ rfl).symm.trans hR
  injection e9 with e91 e92
  subst e91 e92
  obtain ⟨g, c1, a2, c2, a3, c3, rfl⟩ := ownD_new o2
  have BL2 : Hid (Below w.heap.size w w2) := BL1.out.trans (hb.mono BL1.out.size)
  have Z2 : Hid (Box w2 w.heap.size [.slice none 0 0, .slice none 0 0, .bool false, .slice none 0 0, .int .i64 0, .int .i64 0, .slice none 0 0, .slice none 0 0]) := Z1.out.below hb
  have X2 : Hid (Box w2 (w.heap.size + 1) [.int .i64 0, .int .i64 (-1), .slice none 0 0]) := X1.out.below hb
  have US2 : Hid (Src w2 (some ⟨ug, 0, none⟩) (cellsB newSB)) := US.out.below hb
  have O2 : Hid (OwnsD w2 (w.heap.size + 2) w2.heap.size (.agg #[.slice (some ⟨g, 0, none⟩) 52 c1, .slice a2 0 c2, .bool false, .slice a3 0 c3]) (newD 52)) := o2.mono LZ1.out (Nat.le_refl _)
  have LZ : Hid (w.heap.size + 2 ≤ w2.heap.size) := Nat.le_trans LZ1.out hb.size
  clear o2 hb hR BL1 Z1 X1 US LZ1
  go_upto_region 4 with fail
  have BA : Hid (Below w2.heap.size w2 (w2.alloc (.cells #[.slice (some ⟨g, 0, none⟩) 52 c1, .slice a2 0 c2, .bool false, .slice a3 0 c3] 26))) := (Below.refl _ _).alloc (Nat.le_refl _) _
  have BL : Hid (Below w.heap.size w (w2.alloc (.cells #[.slice (some ⟨g, 0, none⟩) 52 c1, .slice a2 0 c2, .bool false, .slice a3 0 c3] 26))) := BL2.out.trans (BA.out.mono BL2.out.size)
  have Z0 : Hid (Box (w2.alloc (.cells #[.slice (some ⟨g, 0, none⟩) 52 c1, .slice a2 0 c2, .bool false, .slice a3 0 c3] 26)) w.heap.size [.slice none 0 0, .slice none 0 0, .bool false, .slice none 0 0, .int .i64 0, .int .i64 0, .slice none 0 0, .slice none 0 0]) := Z2.out.below BA.out
  have X1 : Hid (Box (w2.alloc (.cells #[.slice (some ⟨g, 0, none⟩) 52 c1, .slice a2 0 c2, .bool false, .slice a3 0 c3] 26)) w2.heap.size [.slice (some ⟨g, 0, none⟩) 52 c1, .slice a2 0 c2, .bool false, .slice a3 0 c3]) := Box.new rfl
  have X3 : Hid (Box (w2.alloc (.cells #[.slice (some ⟨g, 0, none⟩) 52 c1, .slice a2 0 c2, .bool false, .slice a3 0 c3] 26)) (w.heap.size + 1) [.int .i64 0, .int .i64 (-1), .slice none 0 0]) := X2.out.below BA.out
  have US : Hid (Src (w2.alloc (.cells #[.slice (some ⟨g, 0, none⟩) 52 c1, .slice a2 0 c2, .bool false, .slice a3 0 c3] 26)) (some ⟨ug, 0, none⟩) (cellsB newSB)) := US2.out.below BA.out
  have OD : Hid (OwnsD (w2.alloc (.cells #[.slice (some ⟨g, 0, none⟩) 52 c1, .slice a2 0 c2, .bool false, .slice a3 0 c3] 26)) (w.heap.size + 2) w2.heap.size (.agg #[.slice (some ⟨g, 0, none⟩) 52 c1, .slice a2 0 c2, .bool false, .slice a3 0 c3]) (newD 52)) := O2.out.below BA.out
  have ZS : Hid ((w2.alloc (.cells #[.slice (some ⟨g, 0, none⟩) 52 c1, .slice a2 0 c2, .bool false, .slice a3 0 c3] 26)).heap.size = w2.heap.size + 1) := by show _ = _; simp
  generalize hW : w2.alloc (.cells #[.slice (some ⟨g, 0, none⟩) 52 c1, .slice a2 0 c2, .bool false, .slice a3 0 c3] 26) = W3 at BA BL Z0 X1 X3 US OD ZS ⊢
  clear hW BA Z2 BL2 O2 X2 US2
  go_cut [4] from 6 (fun p9 wx => p9 = .pointer (some ⟨w2.heap.size, 0, none⟩) ∧ Hid (Below w.heap.size w wx) ∧ Hid (Box wx w.heap.size [.slice none 0 0, .slice none 0 0, .bool false, .slice none 0 0, .int .i64 0, .int .i64 0, .slice none 0 0, .slice none 0 0]) ∧ Hid (Box wx w2.heap.size [.slice (some ⟨g, 0, none⟩) 52 c1, .slice a2 0 c2, .bool false, .slice a3 0 c3]) ∧ Hid (Box wx (w.heap.size + 1) [.int .i64 0, .int .i64 (-1), .slice none 0 0]) ∧ Hid (OwnsD wx (w.heap.size + 2) w2.heap.size (.agg #[.slice (some ⟨g, 0, none⟩) 52 c1, .slice a2 0 c2, .bool false, .slice a3 0 c3]) newSD) ∧ Hid (w2.heap.size + 1 ≤ wx.heap.size))
  case first =>
    have CV0 : (convert 43 9 (.slice (some ⟨ug, 0, none⟩) nB uc)).run Tryd.prog W3.drew = .ok (.string sB) W3.drew := by
      have h9 := conv_sub (w := W3.drew) (c := uc) US.out (s := nB) (Nat.le_of_eq NB.out.1.symm)
      rw [List.take_of_length_le (Nat.le_of_eq NB.out.1), NB.out.2.1] at h9
      exact h9
    obtain ⟨p0, _⟩ := X1.out 0 _ rfl
    obtain ⟨p1, _⟩ := X1.out 1 _ rfl
    obtain ⟨p2, _⟩ := X1.out 2 _ rfl
    obtain ⟨p3, _⟩ := X1.out 3 _ rfl
    obtain ⟨q0, _⟩ := X3.out 0 _ rfl
    obtain ⟨q1, _⟩ := X3.out 1 _ rfl
    obtain ⟨q2, _⟩ := X3.out 2 _ rfl
    go_region_with (go_at_call 24; refine (superTurn none 0 W3.drew).mono ?_; rintro e w4 ⟨rfl, hb⟩; have H4 : Hid (Below W3.heap.size W3 w4) := ⟨hb.os, hb.tape, hb.output, hb.size, hb.block⟩; have CV : (convert 43 9 (.slice (some ⟨ug, 0, none⟩) nB uc)).run Tryd.prog w4 = .ok (.string sB) w4 := (by have h9 := conv_sub (c := uc) (US.out.below H4.out) (s := nB) (Nat.le_of_eq NB.out.1.symm); rw [List.take_of_length_le (Nat.le_of_eq NB.out.1), NB.out.2.1] at h9; exact h9); clear hb p0 p1 p2 p3; have F4 := own_first (OD.out.below H4.out) sB NB.out.2.1.symm; obtain ⟨m0, m1, m2, m3, m4⟩ := F4; have OF : Hid (OwnsD (w4.setCell ⟨g, 0, none⟩ (.string sB)) (w.heap.size + 2) w2.heap.size (.agg #[.slice (some ⟨g, 0, none⟩) 52 c1, .slice a2 0 c2, .bool false, .slice a3 0 c3]) newSD ∧ w.heap.size + 2 ≤ g ∧ g < w2.heap.size) := ⟨m2, m3, m4⟩; clear m2 m3 m4; have X14 : Hid (Box w4 w2.heap.size [.slice (some ⟨g, 0, none⟩) 52 c1, .slice a2 0 c2, .bool false, .slice a3 0 c3]) := X1.out.below H4.out; obtain ⟨p0, _⟩ := X14.out 0 _ rfl)
    all_goals go_wp2_with fail
    all_goals go_meet
    all_goals exact ⟨rfl, Below.setCell (p := ⟨g, 0, none⟩) (BL.out.trans (H4.out.mono BL.out.size)) (by have h7 := OF.out.2.1; have h8 := OF.out.2.2; show w.heap.size ≤ g; omega) _, Z0.out.turned (turned_at g 0 (Turned.of_below H4.out) _) (.inl (by have h7 := OF.out.2.1; have h8 := OF.out.2.2; omega)), X1.out.turned (turned_at g 0 (Turned.of_below H4.out) _) (.inr (by have h7 := OF.out.2.1; have h8 := OF.out.2.2; omega)), X3.out.turned (turned_at g 0 (Turned.of_below H4.out) _) (.inl (by have h7 := OF.out.2.1; have h8 := OF.out.2.2; omega)), OF.out.1, by show _ ≤ (World.setCell _ _ _).heap.size; rw [show (World.setCell w4 ⟨g, 0, none⟩ (.string sB)).heap.size = w4.heap.size by simp]; have := H4.out.size; have := ZS.out; omega⟩
  case rest =>
  clear BL Z0 X1 X3 OD US ZS
  obtain ⟨rfl, BL, Z0, X1, X2, OD, ZS⟩ := hcut
  have OU : Hid (OwnsU wc (w.heap.size + 1) (w.heap.size + 1) (.agg #[.int .i64 0, .int .i64 (-1), .slice none 0 0]) newU) := ownU_nil _ _ _
  obtain ⟨p0, _⟩ := X1.out 0 _ rfl
  obtain ⟨p1, _⟩ := X1.out 1 _ rfl
  obtain ⟨p2, _⟩ := X1.out 2 _ rfl
  obtain ⟨p3, _⟩ := X1.out 3 _ rfl
  obtain ⟨q0, _⟩ := X2.out 0 _ rfl
  obtain ⟨q1, _⟩ := X2.out 1 _ rfl
  obtain ⟨q2, _⟩ := X2.out 2 _ rfl
  go_wp2_with fail
  go_region_with (go_at_call 25; refine (implNewHeap wc.drew).mono ?_; rintro e w5 ⟨v5, rfl, oh, hb⟩; obtain ⟨a5, c5, rfl⟩ := ownH_new oh; have BL5 : Hid (Below w.heap.size w w5) := BL.out.drew.trans (hb.mono BL.out.size); have Z5 : Hid (Box w5 w.heap.size [.slice none 0 0, .slice none 0 0, .bool false, .slice none 0 0, .int .i64 0, .int .i64 0, .slice none 0 0, .slice none 0 0]) := Box.below (w := wc.drew) Z0.out hb; have X15 : Hid (Box w5 (w2.heap.size) [.slice (some ⟨g, 0, none⟩) 52 c1, .slice a2 0 c2, .bool false, .slice a3 0 c3]) := Box.below (w := wc.drew) X1.out hb; have X25 : Hid (Box w5 (w.heap.size + 1) [.int .i64 0, .int .i64 (-1), .slice none 0 0]) := Box.below (w := wc.drew) X2.out hb; have OD5 : Hid (OwnsD w5 (w.heap.size + 2) w2.heap.size (.agg #[.slice (some ⟨g, 0, none⟩) 52 c1, .slice a2 0 c2, .bool false, .slice a3 0 c3]) newSD) := (OwnsD.below (w := wc.drew) OD.out hb); have OU5 : Hid (OwnsU w5 (w.heap.size + 1) (w.heap.size + 1) (.agg #[.int .i64 0, .int .i64 (-1), .slice none 0 0]) newU) := OwnsU.below (w := wc.drew) OU.out hb; have OH5 : Hid (OwnsH w5 (wc.heap.size) w5.heap.size (.agg #[.slice a5 50 c5]) freshH) := oh; have S5 : Hid (wc.heap.size ≤ w5.heap.size) := hb.size; clear hb oh p0 p1 p2 p3 q0 q1 q2; obtain ⟨p0, _⟩ := X15.out 0 _ rfl; obtain ⟨p1, _⟩ := X15.out 1 _ rfl; obtain ⟨p2, _⟩ := X15.out 2 _ rfl; obtain ⟨p3, _⟩ := X15.out 3 _ rfl; obtain ⟨q0, _⟩ := X25.out 0 _ rfl; obtain ⟨q1, _⟩ := X25.out 1 _ rfl; obtain ⟨q2, _⟩ := X25.out 2 _ rfl; obtain ⟨⟨g0, h0⟩, ⟨g1, h1⟩, ⟨g2, h2⟩, ⟨g3, h3⟩, ⟨g4, h4⟩, ⟨g5, h5⟩, ⟨g6, h6⟩, ⟨g7, h7⟩⟩ := Z5.out.w8in (.slice (some ⟨g, 0, none⟩) 52 c1) (.slice a2 0 c2) (.bool false) (.slice a3 0 c3) (.int .i64 0) (.int .i64 (-1)) (.slice none 0 0) (.slice a5 50 c5); obtain ⟨r0, r1, r2, r3, r4, r5, r6, r7⟩ := Z5.out.w8out (.slice (some ⟨g, 0, none⟩) 52 c1) (.slice a2 0 c2) (.bool false) (.slice a3 0 c3) (.int .i64 0) (.int .i64 (-1)) (.slice none 0 0) (.slice a5 50 c5))
  all_goals go_wp2_with fail
  all_goals exact bodyPost_ret (v := .agg #[.slice (some ⟨g, 0, none⟩) 52 c1, .slice a2 0 c2, .bool false, .slice a3 0 c3, .int .i64 0, .int .i64 (-1), .slice none 0 0, .slice a5 50 c5]) (by simp [results, Tryd.results6, go_sem, r0, r1, r2, r3, r4, r5, r6, r7]) rfl ⟨_, rfl, ⟨_, _, _, _, _, _, _, _, _, _, _, rfl, OD5.out.turned (turned_w8 _ _ _ _ _ _ _ _ _ _) (.inr (by omega)), OU5.out.turned (turned_w8 _ _ _ _ _ _ _ _ _ _) (.inr (by omega)), OH5.out.turned (turned_w8 _ _ _ _ _ _ _ _ _ _) (.inr (by have := LZ.out; have := ZS.out; omega)), ⟨by omega, by omega, by have := LZ.out; have := ZS.out; omega, by rw [size_w8]; have := ZS.out; have := S5.out; omega, by rw [size_w8]; have := LZ.out; have := ZS.out; have := S5.out; omega, by rw [size_w8]; exact Nat.le_refl _⟩, .inr (by omega), .inl (by have := ZS.out; omega), .inl (by have := ZS.out; have := LZ.out; omega)⟩, Below.w8 BL5.out (Nat.le_refl _) _ _ _ _ _ _ _ _⟩
end Go.Proofs.YtlkobhighhkmoaaDoor
