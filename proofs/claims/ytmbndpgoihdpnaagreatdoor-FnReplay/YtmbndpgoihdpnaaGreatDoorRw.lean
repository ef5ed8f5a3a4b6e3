
/-
  Rows of cells that a slice leads to or that a call owns, and what turns them. By an AI agent.
-/
import Derived.Test.YtmbndpgoihdpnaaGreatDoorMem
import Derived.Lib.OwnKind
namespace Go.Proofs.YtmbndpgoihdpnaaGreatDoor
open Go.ChangeShapes Go.WideShapes Go.ChangeAt Go.RowKit
set_option linter.unusedVariables false

/-- The cells xs lie where a slice leads. -/
def Src (w : World) (a : Option Addr) (xs : List Value) : Prop :=
  xs = [] ∨ ∃ b o, a = some ⟨b, o, none⟩ ∧ ∀ j, j < xs.length → w.cell? ⟨b, o + j, none⟩ = some (xs.getD j undef)
theorem Src.below {w w' : World} {a : Option Addr} {xs : List Value} (h : Src w a xs) (hb : Below w.heap.size w w') : Src w' a xs := by
  rcases h with h | ⟨b, o, rfl, hc⟩
  · exact .inl h
  · refine .inr ⟨b, o, rfl, fun j hj => ?_⟩
    have h1 := hc j hj
    rw [← h1]
    exact hb.cell (p := ⟨b, o + j, none⟩) (World.block_lt_of_cell? _ _ h1)
theorem Src.nil (w : World) (a : Option Addr) : Src w a [] := .inl rfl

/-- Where something lies: a step to another form. -/
theorem getD_some {xs : List Value} {j : Nat} {u : Value} (h : xs[j]? = some u) : xs.getD j undef = u := by rw [List.getD_eq_getElem?_getD, h]; rfl

def cellsS (L : List ByteArray) : List Value := L.map .string
def cellsI (L : List Int) : List Value := L.map (.int .i64)
def cellsQ (L : List (Int × ByteArray)) : List Value := L.flatMap fun p => [.int .i64 p.1, .string p.2]
abbrev e0 : ByteArray := ⟨#[]⟩
abbrev q0 : Int × ByteArray := (0, ⟨#[]⟩)
theorem cellsS_length (L : List ByteArray) : (cellsS L).length = L.length := by simp [cellsS]
theorem cellsI_length (L : List Int) : (cellsI L).length = L.length := by simp [cellsI]
theorem cellsQ_length (L : List (Int × ByteArray)) : (cellsQ L).length = L.length * 2 := by
  induction L with
  | nil => rfl
  | cons p L ih => simp [cellsQ] at ih ⊢; omega
theorem cellsS_append (L M : List ByteArray) : cellsS (L ++ M) = cellsS L ++ cellsS M := by simp [cellsS]
theorem cellsI_append (L M : List Int) : cellsI (L ++ M) = cellsI L ++ cellsI M := by simp [cellsI]
theorem cellsQ_append (L M : List (Int × ByteArray)) : cellsQ (L ++ M) = cellsQ L ++ cellsQ M := by simp [cellsQ]
theorem cellsS_get (L : List ByteArray) (i : Nat) (h : i < L.length) : (cellsS L)[i]? = some (.string (L.getD i e0)) := by
  simp [cellsS, h]
theorem cellsI_get (L : List Int) (i : Nat) (h : i < L.length) : (cellsI L)[i]? = some (.int .i64 (L.getD i 0)) := by
  simp [cellsI, h]
theorem cellsQ_get : ∀ (L : List (Int × ByteArray)) (i : Nat), i < L.length → (cellsQ L)[i * 2]? = some (.int .i64 (L.getD i q0).1) ∧ (cellsQ L)[i * 2 + 1]? = some (.string (L.getD i q0).2)
  | [], i, h => absurd h (by simp)
  | p :: L, 0, _ => ⟨rfl, rfl⟩
  | p :: L, i + 1, h => by
    have ih := cellsQ_get L i (by simpa using h)
    have e1 : (i + 1) * 2 = i * 2 + 1 + 1 := by omega
    have e2 : cellsQ (p :: L) = .int .i64 p.1 :: .string p.2 :: cellsQ L := rfl
    rw [e2, e1]
    exact ih
theorem cellsS_one (L : List ByteArray) : ∀ u ∈ cellsS L, u.oneCell' = true := by
  intro u hu
  simp only [cellsS, List.mem_map] at hu
  obtain ⟨x, _, rfl⟩ := hu
  rfl
theorem cellsI_one (L : List Int) : ∀ u ∈ cellsI L, u.oneCell' = true := by
  intro u hu
  simp only [cellsI, List.mem_map] at hu
  obtain ⟨x, _, rfl⟩ := hu
  rfl
theorem cellsQ_one (L : List (Int × ByteArray)) : ∀ u ∈ cellsQ L, u.oneCell' = true := by
  intro u hu
  simp only [cellsQ, List.mem_flatMap] at hu
  obtain ⟨p, _, hp⟩ := hu
  simp at hp
  rcases hp with rfl | rfl <;> rfl
theorem srcS {w : World} {a : Option Addr} {L : List ByteArray} (h : Src w a (cellsS L)) {i : Nat} (hi : i < L.length) : ∃ b o x, a = some ⟨b, o, none⟩ ∧ w.cell? ⟨b, o + i, none⟩ = some (.string x) ∧ Hid (L.getD i e0 = x) := by
  rcases h with h | ⟨b, o, rfl, hc⟩
  · rw [← cellsS_length, h] at hi; exact absurd hi (by simp)
  · have := hc i (by rw [cellsS_length]; exact hi)
    rw [getD_some (cellsS_get L i hi)] at this
    exact ⟨b, o, _, rfl, this, rfl⟩
theorem srcI {w : World} {a : Option Addr} {L : List Int} (h : Src w a (cellsI L)) {i : Nat} (hi : i < L.length) : ∃ b o x, a = some ⟨b, o, none⟩ ∧ w.cell? ⟨b, o + i, none⟩ = some (.int .i64 x) ∧ Hid (L.getD i 0 = x) := by
  rcases h with h | ⟨b, o, rfl, hc⟩
  · rw [← cellsI_length, h] at hi; exact absurd hi (by simp)
  · have := hc i (by rw [cellsI_length]; exact hi)
    rw [getD_some (cellsI_get L i hi)] at this
    exact ⟨b, o, _, rfl, this, rfl⟩
theorem srcQ {w : World} {a : Option Addr} {L : List (Int × ByteArray)} (h : Src w a (cellsQ L)) {i : Nat} (hi : i < L.length) : ∃ b o x y, a = some ⟨b, o, none⟩ ∧ w.cell? ⟨b, o + i * 2, none⟩ = some (.int .i64 x) ∧ w.cell? ⟨b, o + i * 2 + 1, none⟩ = some (.string y) ∧ Hid (L.getD i q0 = (x, y)) := by
  rcases h with h | ⟨b, o, rfl, hc⟩
  · have h2 := cellsQ_length L
    rw [h] at h2
    simp only [List.length_nil] at h2
    omega
  · have h1 := hc (i * 2) (by rw [cellsQ_length]; omega)
    have h2 := hc (i * 2 + 1) (by rw [cellsQ_length]; omega)
    rw [getD_some (cellsQ_get L i hi).1] at h1
    rw [getD_some (cellsQ_get L i hi).2] at h2
    exact ⟨b, o, _, _, rfl, h1, h2, rfl⟩
/-- What is read is handed to append. -/
theorem Src.news {w : World} {b o : Nat} {xs : List Value} (h : Src w (some ⟨b, o, none⟩) xs) : ∀ j u, xs[j]? = some u → w.cell? ((⟨b, o, none⟩ : Addr).add j) = some u := fun j u hu => by
  have hj : j < xs.length := (List.getElem?_eq_some_iff.1 hu).1
  rcases h with h | ⟨b', o', e, hc⟩
  · rw [h] at hj; exact absurd hj (by simp)
  · cases e
    have h1 := hc j hj
    rw [getD_some hu] at h1
    unfold Addr.add
    split
    · rename_i h0; subst h0; exact h1
    · exact h1

section
variable {w w' : World} {base : Nat} {e : TypeId} {s : Nat} {v : Value} {n : Nat} {xs : List Value}
theorem own_cell {g cap i : Nat} (h : w.ownsRow base e s (.slice (some ⟨g, 0, none⟩) n cap) n xs) (hi : i < xs.length) : w.cell? ⟨g, i, none⟩ = some (xs.getD i undef) ∧ w.frozen? ⟨g, i, none⟩ = false := by
  obtain ⟨hl, ⟨hv, _⟩ | ⟨g', cap', cur, hv, hb, hg, hc1, hc2, hs, ht⟩⟩ := h
  · cases hv
  · cases hv
    refine ⟨?_, frozen_of_row w g i cur _ hg⟩
    rw [cell_of_row w g i cur _ _ hg, ← Array.getElem?_toList]
    have h1 : (cur.toList.take (n * s))[i]? = some (xs.getD i undef) := by
      rw [ht, List.getD_eq_getElem?_getD, List.getElem?_eq_getElem hi]; rfl
    rw [List.getElem?_take, if_pos (by omega)] at h1
    exact h1
theorem own_cellX {g cap i : Nat} (h : w.ownsRow base e s (.slice (some ⟨g, 0, none⟩) n cap) n xs) (hi : i < xs.length) : ∃ x, w.cell? ⟨g, i, none⟩ = some x ∧ w.frozen? ⟨g, i, none⟩ = false :=
  ⟨_, own_cell h hi⟩
/-- What it is as a slice. -/
theorem own_src (h : w.ownsRow base e s v n xs) : ∃ a c, v = .slice a n c ∧ Src w a xs ∧ (∀ ad, a = some ad → base ≤ ad.block ∧ ad.block < w.heap.size) := by
  have hlt := h.lt
  rcases h with ⟨hl, ⟨rfl, h0⟩ | ⟨g, cap, cur, rfl, hb, hg, hc1, hc2, hs, ht⟩⟩
  · subst h0
    exact ⟨none, 0, rfl, .inl (by simpa using hl), fun ad e => by cases e⟩
  · refine ⟨some ⟨g, 0, none⟩, cap, rfl, .inr ⟨g, 0, rfl, fun j hj => ?_⟩, fun ad e => by cases e; exact hlt g rfl⟩
    rw [Nat.zero_add]
    exact (own_cell (cap := cap) ⟨hl, .inr ⟨g, cap, cur, rfl, hb, hg, hc1, hc2, hs, ht⟩⟩ hj).1
theorem own_below (h : w.ownsRow base e s v n xs) (hb : Below w.heap.size w w') : w'.ownsRow base e s v n xs := by
  obtain ⟨hl, h0 | ⟨g, cap, cur, rfl, hb0, hg, hc1, hc2, hs, ht⟩⟩ := h
  · exact ⟨hl, .inl h0⟩
  · have hlt : g < w.heap.size := (Array.getElem?_eq_some_iff.1 hg).1
    exact ⟨hl, .inr ⟨g, cap, cur, rfl, hb0, by rw [hb.block g hlt]; exact hg, hc1, hc2, hs, ht⟩⟩
theorem own_mono {base' : Nat} (h : w.ownsRow base e s v n xs) (hb : base' ≤ base) : w.ownsRow base' e s v n xs := by
  obtain ⟨hl, h0 | ⟨g, cap, cur, rfl, hb0, rest⟩⟩ := h
  · exact ⟨hl, .inl h0⟩
  · exact ⟨hl, .inr ⟨g, cap, cur, rfl, Nat.le_trans hb hb0, rest⟩⟩
theorem own_set {g cap : Nat} (h : w.ownsRow base e s (.slice (some ⟨g, 0, none⟩) n cap) n xs) (i : Nat) (hi : i < xs.length) (u : Value) :
    (w.setCell ⟨g, i, none⟩ u).ownsRow base e s (.slice (some ⟨g, 0, none⟩) n cap) n (xs.set i u) := by
  obtain ⟨hl, ⟨hv, _⟩ | ⟨g', cap', cur, hv, hb, hg, hc1, hc2, hs, ht⟩⟩ := h
  · cases hv
  · cases hv
    refine ⟨by rw [List.length_set]; exact hl, .inr ⟨g, cap, cur.setIfInBounds i u, rfl, hb, ?_, hc1, hc2, by simpa using hs, ?_⟩⟩
    · simp [World.setCell, Array.getElem?_modify, hg]
    · rw [Array.toList_setIfInBounds, List.take_set, ht]
theorem own_congr {ys : List Value} (h : w.ownsRow base e s v n xs) (hx : xs = ys) : w.ownsRow base e s v n ys := hx ▸ h
theorem own_setOther {a : Addr} (h : w.ownsRow base e s v n xs) (hne : v.ownBlock ≠ some a.block) (u : Value) : (w.setCell a u).ownsRow base e s v n xs := by
  obtain ⟨hl, h0 | ⟨g, cap, cur, rfl, hb0, hg, rest⟩⟩ := h
  · exact ⟨hl, .inl h0⟩
  · refine ⟨hl, .inr ⟨g, cap, cur, rfl, hb0, ?_, rest⟩⟩
    rw [Below.heap_setCell _ _ _ _ (by intro e2; exact hne (by rw [← e2]; rfl))]; exact hg
end
/-- Two rows of other element types are other rows. -/
theorem own_ne {w : World} {b1 b2 : Nat} {e1 e2 : TypeId} {s1 s2 n1 n2 : Nat} {v1 v2 : Value} {x1 x2 : List Value} (h1 : w.ownsRow b1 e1 s1 v1 n1 x1) (h2 : w.ownsRow b2 e2 s2 v2 n2 x2) (hne : e1 ≠ e2) : ∀ g, v1.ownBlock = some g → v2.ownBlock ≠ some g := fun g hg hg2 => by
  obtain ⟨c1, f1, k1⟩ := Lib.ownsRow_kind h1 g hg
  obtain ⟨c2, f2, k2⟩ := Lib.ownsRow_kind h2 g hg2
  rw [k1] at k2
  simp at k2
  exact hne k2.2.1
/-- A row that was made, its zero values in it. -/
theorem rows_made (w : World) (z : Array Value) (n s : Nat) (e : TypeId) (hz : z.size = s) (hs : 0 < s) (hn : n ≤ maxLen) :
    ∃ xs, xs.length = n * s ∧ (w.alloc (.cells (madeCells z (n * s)) e)).ownsRow w.heap.size e s (.slice (some ⟨w.heap.size, 0, none⟩) n n) n xs :=
  ⟨(madeCells z (n * s)).toList, by simp [size_madeCells], by simp [size_madeCells], .inr ⟨w.heap.size, n, _, rfl, Nat.le_refl _, heap_alloc_new _ _, Nat.le_refl _, hn, by simp [size_madeCells], by
    rw [List.take_of_length_le]; simp [size_madeCells]⟩⟩
theorem fill_set (xs zs : List Value) (k : Nat) (u : Value) (hk : k < zs.length) (hu : xs[k]? = some u) : (xs.take k ++ zs.drop k).set k u = xs.take (k + 1) ++ zs.drop (k + 1) := by
  have hx : k < xs.length := (List.getElem?_eq_some_iff.1 hu).1
  rw [List.set_append_right _ _ (by simp; omega)]
  have e1 : k - (xs.take k).length = 0 := by simp; omega
  rw [e1, List.drop_eq_getElem_cons hk, List.set_cons_zero, List.take_add_one, hu]
  simp
theorem fill_length (xs zs : List Value) (k : Nat) (h : zs.length = xs.length) : (xs.take k ++ zs.drop k).length = xs.length := by simp; omega

/-- Blocks from lo up to hi may have been written; all others are as they were. -/
structure Turned (lo hi : Nat) (w w' : World) : Prop where
  os : w'.os = w.os
  tape : w'.tape = w.tape
  output : w'.output = w.output
  size : w.heap.size ≤ w'.heap.size
  block : ∀ k, k < w.heap.size → (k < lo ∨ hi ≤ k) → w'.heap[k]? = w.heap[k]?
theorem Turned.trans {lo hi : Nat} {a b c : World} (h : Turned lo hi a b) (k : Turned lo hi b c) : Turned lo hi a c :=
  ⟨k.os.trans h.os, k.tape.trans h.tape, k.output.trans h.output, Nat.le_trans h.size k.size, fun i hi hr => (k.block i (Nat.lt_of_lt_of_le hi h.size) hr).trans (h.block i hi hr)⟩
theorem Turned.of_below {lo hi : Nat} {w w' : World} (h : Below w.heap.size w w') : Turned lo hi w w' := ⟨h.os, h.tape, h.output, h.size, fun k hk _ => h.block k hk⟩
theorem Turned.of_grown {lo hi : Nat} {w w' : World} {row : Option Nat} (h : w.grownBy w' row) (hr : ∀ k, row = some k → lo ≤ k ∧ k < hi) : Turned lo hi w w' :=
  ⟨h.os, h.tape, h.output, h.size, fun k hk ho => h.block k hk (fun e => by have := hr k e.symm; omega)⟩
theorem Below.turned {B lo hi : Nat} {a w w' : World} (h : Below B a w) (ht : Turned lo hi w w') (hB : B ≤ a.heap.size) (hl : B ≤ lo) : Below B a w' :=
  h.trans ⟨ht.os, ht.tape, ht.output, ht.size, fun k hk => ht.block k (by have := h.size; omega) (.inl (by omega))⟩
theorem own_turned {w w' : World} {base e s n lo hi top : Nat} {v : Value} {xs : List Value} (h : w.ownsRow base e s v n xs) (ht : Turned lo hi w w') (htop : ∀ k, v.ownBlock = some k → k < top) (hd : top ≤ lo ∨ hi ≤ base) : w'.ownsRow base e s v n xs := by
  obtain ⟨hl, h0 | ⟨g, cap, cur, rfl, hb0, hg, rest⟩⟩ := h
  · exact ⟨hl, .inl h0⟩
  · have hlt : g < w.heap.size := (Array.getElem?_eq_some_iff.1 hg).1
    have h1 := htop g rfl
    exact ⟨hl, .inr ⟨g, cap, cur, rfl, hb0, by rw [ht.block g hlt (by omega)]; exact hg, rest⟩⟩
theorem own_grown {w w' : World} {base e s n : Nat} {v : Value} {xs : List Value} {row : Option Nat} (h : w.ownsRow base e s v n xs) (hg : w.grownBy w' row) (hne : ∀ k, v.ownBlock = some k → row ≠ some k) : w'.ownsRow base e s v n xs := by
  refine h.kept hg ?_
  cases hv : v.ownBlock with
  | none => exact .inl rfl
  | some k => exact .inr (fun e2 => hne k hv e2.symm)
theorem gb_refl (w : World) (row : Option Nat) : w.grownBy w row := ⟨rfl, rfl, rfl, Nat.le_refl _, fun _ _ _ => rfl⟩
theorem gb_below {w a b : World} {row : Option Nat} (h : w.grownBy a row) (hb : Below a.heap.size a b) : w.grownBy b row :=
  ⟨hb.os.trans h.os, hb.tape.trans h.tape, hb.output.trans h.output, Nat.le_trans h.size hb.size, fun k hk hr => (hb.block k (Nat.lt_of_lt_of_le hk h.size)).trans (h.block k hk hr)⟩
theorem gb_set {w a : World} {B : Nat} (h : w.grownBy a (some B)) (i : Nat) (v : Value) : w.grownBy (a.setCell ⟨B, i, none⟩ v) (some B) :=
  ⟨h.os, h.tape, h.output, by simp; exact h.size, fun k hk hr => (Below.heap_setCell _ _ _ _ (by intro e; exact hr (by rw [e]))).trans (h.block k hk hr)⟩
theorem Below.drewN' {B : Nat} {a w : World} (h : Below B a w) (n : Nat) : Below B a (w.drewN n) := ⟨h.os, h.tape, h.output, h.size, h.block⟩
theorem le_alloc {B : Nat} {w : World} (h : B ≤ w.heap.size) (o : Obj) : B ≤ (w.alloc o).heap.size := by
  rw [World.size_alloc]; omega
end Go.Proofs.YtmbndpgoihdpnaaGreatDoor
