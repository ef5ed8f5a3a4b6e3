
/-
  Lists of pairs that a call of its own makes and answers: what they read as. By an AI agent.
-/
import Derived.Test.YtmbndpgoihdpnaaGreatDoorPairsOKi
namespace Go.Proofs.YtmbndpgoihdpnaaGreatDoor
open Go.ChangeShapes Go.WideShapes Go.ChangeAt Go.RowKit Go.Deep
set_option linter.unusedVariables false

abbrev pe : ByteArray × ByteArray := p0
def fstL (L : List (ByteArray × ByteArray)) (i : Nat) : ByteArray := (L.getD i pe).1
def sndL (L : List (ByteArray × ByteArray)) (i : Nat) : ByteArray := (L.getD i pe).2
/-- v owns the pairs L, in blocks from base on. -/
def OwnsP (w : World) (base : Nat) (v : Value) (L : List (ByteArray × ByteArray)) : Prop := w.ownsRow base 70 2 v L.length (cellsP L)

/-- What it is as a slice: its address, its pairs, its cells. -/
theorem OwnsP.open {w : World} {base : Nat} {v : Value} {L : List (ByteArray × ByteArray)} (h : OwnsP w base v L) :
    ∃ a c, v = .slice a L.length c ∧ Sp w a L.length (fstL L) (sndL L) ∧ (∀ ad, a = some ad → base ≤ ad.block ∧ ad.block < w.heap.size) := by
  obtain ⟨hl, ⟨rfl, h0⟩ | ⟨g, cap, cur, rfl, hb, hg, hc1, hc2, hs, ht⟩⟩ := h
  · refine ⟨none, 0, by rw [h0],   .inl h0, fun ad e => by cases e⟩
  · have hcell : ∀ i, i < L.length * 2 → w.cell? ⟨g, i, none⟩ = some ((cellsP L).getD i (.bool false)) := fun i hi => by
      rw [cell_of_row w g i cur _ _ hg, ← Array.getElem?_toList, List.getD_eq_getElem?_getD, ← ht, List.getElem?_take, if_pos hi, List.getElem?_eq_getElem (by simp; have := Nat.mul_le_mul_right 2 hc1; omega)]
      rfl
    have hlt : g < w.heap.size := by
      apply Decidable.byContradiction
      intro hn
      rw [Array.getElem?_eq_none (by omega)] at hg
      cases hg
    refine ⟨some ⟨g, 0, none⟩, cap, rfl, .inr ⟨g, 0, rfl, fun i hi => ?_⟩, fun ad e => by cases e; exact ⟨hb, hlt⟩⟩
    obtain ⟨c1, c2⟩ := cellsP_get L i hi
    refine ⟨?_, ?_⟩
    · rw [Nat.zero_add, hcell _ (by omega), List.getD_eq_getElem?_getD, c1]; rfl
    · rw [Nat.zero_add, hcell _ (by omega), List.getD_eq_getElem?_getD, c2]; rfl

theorem OwnsP.below {w w' : World} {base : Nat} {v : Value} {L : List (ByteArray × ByteArray)} (h : OwnsP w base v L) (hb : Below w.heap.size w w') : OwnsP w' base v L := by
  obtain ⟨hl, h0 | ⟨g, cap, cur, rfl, hb0, hg, hc1, hc2, hs, ht⟩⟩ := h
  · exact ⟨hl, .inl h0⟩
  · have hlt : g < w.heap.size := by
      apply Decidable.byContradiction
      intro hn
      rw [Array.getElem?_eq_none (by omega)] at hg
      cases hg
    exact ⟨hl, .inr ⟨g, cap, cur, rfl, hb0, by rw [hb.block g hlt]; exact hg, hc1, hc2, hs, ht⟩⟩
theorem OwnsP.nil (w : World) (base : Nat) : OwnsP w base (.slice none 0 0) [] := ⟨rfl, .inl ⟨rfl, rfl⟩⟩
theorem OwnsP.made (w : World) (base : Nat) (hb : base ≤ w.heap.size) : OwnsP (w.alloc (.cells #[] 70)) base (.slice (some ⟨w.heap.size, 0, none⟩) 0 0) [] :=
  ⟨rfl, .inr ⟨w.heap.size, 0, #[], rfl, hb, heap_alloc_new _ _, Nat.le_refl _, by unfold maxLen; omega, rfl, rfl⟩⟩
theorem OwnsP.block {w : World} {base : Nat} {v : Value} {L : List (ByteArray × ByteArray)} (h : OwnsP w base v L) : ∀ k, v.ownBlock = some k → base ≤ k := by
  obtain ⟨hl, ⟨rfl, h0⟩ | ⟨g, cap, cur, rfl, hb0, _⟩⟩ := h
  · intro k e; cases e
  · intro k e; cases e; exact hb0
theorem infoPair' : ∃ i, Tryz.prog.info? 70 = some i ∧ i.zero = some (.agg #[.string ⟨#[]⟩, .string ⟨#[]⟩]) ∧ i.size = 2 ∧ i.bytes = 32 := by
  obtain ⟨i, hi, hzz⟩ := Option.map_eq_some_iff.1 infoP
  simp only [Prod.mk.injEq] at hzz
  exact ⟨i, hi, hzz⟩

theorem Sp.grown {w w' : World} {a : Option Addr} {n : Nat} {f g : Nat → ByteArray} {row : Option Nat} (h : Sp w a n f g) (hg : w.grownBy w' row) (hne : ∀ ad, a = some ad → row ≠ some ad.block) : Sp w' a n f g := by
  rcases h with h | ⟨b, off, rfl, hc⟩
  · exact .inl h
  · refine .inr ⟨b, off, rfl, fun i hi => ?_⟩
    obtain ⟨h1, h2⟩ := hc i hi
    have hlt := World.block_lt_of_cell? _ _ h1
    have hbk := hg.block b hlt (fun e => hne _ rfl e.symm)
    exact ⟨(World.cell?_of_block (w := w) (a := ⟨b, off + i * 2, none⟩) hbk).trans h1, (World.cell?_of_block (w := w) (a := ⟨b, off + i * 2 + 1, none⟩) hbk).trans h2⟩
theorem two_oneP (x y : ByteArray) : ∀ u ∈ [Value.string x, .string y], u.oneCell' = true := by
  intro u hu
  simp at hu
  rcases hu with rfl | rfl <;> rfl
end Go.Proofs.YtmbndpgoihdpnaaGreatDoor
