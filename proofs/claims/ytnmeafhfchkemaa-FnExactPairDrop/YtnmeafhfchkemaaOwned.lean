/-
  Lists of pairs that a call of its own makes and answers: what they read as. By an AI agent.
-/
import Derived.Test.YtnmeafhfchkemaaPairsOKi
import Derived.Test.YtnmeafhfchkemaaMarks
namespace Go.Proofs.Ytnmeafhfchkemaa
open Go.ChangeShapes Go.WideShapes Go.ChangeAt Go.RowKit Go.Deep
set_option linter.unusedVariables false

/-- The cells of a list of pairs. -/
def cellsP (L : List (ByteArray × ByteArray)) : List Value := L.flatMap fun p => [.string p.1, .string p.2]
theorem cellsP_length (L : List (ByteArray × ByteArray)) : (cellsP L).length = L.length * 2 := by
  induction L with
  | nil => rfl
  | cons p L ih => simp [cellsP] at ih ⊢; omega
theorem cellsP_append (L M : List (ByteArray × ByteArray)) : cellsP (L ++ M) = cellsP L ++ cellsP M := by simp [cellsP]
abbrev pe : ByteArray × ByteArray := (⟨#[]⟩, ⟨#[]⟩)
def fstL (L : List (ByteArray × ByteArray)) (i : Nat) : ByteArray := (L.getD i pe).1
def sndL (L : List (ByteArray × ByteArray)) (i : Nat) : ByteArray := (L.getD i pe).2
theorem cellsP_get : ∀ (L : List (ByteArray × ByteArray)) (i : Nat), i < L.length → (cellsP L)[i * 2]? = some (.string (fstL L i)) ∧ (cellsP L)[i * 2 + 1]? = some (.string (sndL L i))
  | [], i, h => absurd h (by simp)
  | p :: L, 0, _ => ⟨rfl, rfl⟩
  | p :: L, i + 1, h => by
    have ih := cellsP_get L i (by simpa using h)
    have e1 : (i + 1) * 2 = i * 2 + 1 + 1 := by omega
    have e2 : cellsP (p :: L) = .string p.1 :: .string p.2 :: cellsP L := rfl
    rw [e2, e1]
    exact ih
/-- v owns the pairs L, in blocks from base on. -/
def OwnsP (w : World) (base : Nat) (v : Value) (L : List (ByteArray × ByteArray)) : Prop := w.ownsRow base 42 2 v L.length (cellsP L)

/-- What it is as a slice: its address, its pairs, its cells. -/
theorem OwnsP.open {w : World} {base : Nat} {v : Value} {L : List (ByteArray × ByteArray)} (h : OwnsP w base v L) :
    ∃ a c, v = .slice a L.length c ∧ Sp w a L.length (fstL L) (sndL L) ∧ OwnV w a (L.length * 2) (fun i => (cellsP L).getD i undef) ∧ (∀ ad, a = some ad → base ≤ ad.block ∧ ad.block < w.heap.size) := by
  obtain ⟨hl, ⟨rfl, h0⟩ | ⟨g, cap, cur, rfl, hb, hg, hc1, hc2, hs, ht⟩⟩ := h
  · refine ⟨none, 0, by rw [h0], .inl h0, .inl (by omega), fun ad e => by cases e⟩
  · have hcell : ∀ i, i < L.length * 2 → w.cell? ⟨g, i, none⟩ = some ((cellsP L).getD i undef) := fun i hi => by
      rw [cell_of_row w g i cur _ _ hg, ← Array.getElem?_toList, List.getD_eq_getElem?_getD, ← ht, List.getElem?_take, if_pos hi, List.getElem?_eq_getElem (by simp; have := Nat.mul_le_mul_right 2 hc1; omega)]
      rfl
    have hlt : g < w.heap.size := by
      apply Decidable.byContradiction
      intro hn
      rw [Array.getElem?_eq_none (by omega)] at hg
      cases hg
    refine ⟨some ⟨g, 0, none⟩, cap, rfl, .inr ⟨g, 0, rfl, fun i hi => ?_⟩, .inr ⟨g, rfl, fun i hi => ⟨hcell i hi, frozen_of_row w g i cur _ hg⟩⟩, fun ad e => by cases e; exact ⟨hb, hlt⟩⟩
    obtain ⟨c1, c2⟩ := cellsP_get L i hi
    refine ⟨?_, ?_⟩
    · rw [Nat.zero_add, hcell _ (by omega), List.getD_eq_getElem?_getD, c1]; rfl
    · rw [Nat.zero_add, hcell _ (by omega), List.getD_eq_getElem?_getD, c2]; rfl

theorem OwnsP.below {w w' : World} {base : Nat} {v : Value} {L : List (ByteArray × ByteArray)} (h : OwnsP w base v L) (hb : Below w.heap.size w w') : OwnsP w' base v L := by
  obtain ⟨hl, h0 | ⟨g, cap, cur, rfl, hb0, hg, hc1, hc2, hs, ht⟩⟩ := h
  · exact ⟨hl, .inl h0⟩
  · have hlt : g < w.heap.size := by
      apply Decidable.byContradiction
      intro hn
      rw [Array.getElem?_eq_none (by omega)] at hg
      cases hg
    exact ⟨hl, .inr ⟨g, cap, cur, rfl, hb0, by rw [hb.block g hlt]; exact hg, hc1, hc2, hs, ht⟩⟩
theorem OwnsP.nil (w : World) (base : Nat) : OwnsP w base (.slice none 0 0) [] := ⟨rfl, .inl ⟨rfl, rfl⟩⟩
theorem OwnsP.made (w : World) (base : Nat) (hb : base ≤ w.heap.size) : OwnsP (w.alloc (.cells #[] 42)) base (.slice (some ⟨w.heap.size, 0, none⟩) 0 0) [] :=
  ⟨rfl, .inr ⟨w.heap.size, 0, #[], rfl, hb, heap_alloc_new _ _, Nat.le_refl _, by unfold maxLen; omega, rfl, rfl⟩⟩
theorem OwnsP.block {w : World} {base : Nat} {v : Value} {L : List (ByteArray × ByteArray)} (h : OwnsP w base v L) : ∀ k, v.ownBlock = some k → base ≤ k := by
  obtain ⟨hl, ⟨rfl, h0⟩ | ⟨g, cap, cur, rfl, hb0, _⟩⟩ := h
  · intro k e; cases e
  · intro k e; cases e; exact hb0
theorem infoPair' : ∃ i, Try.prog.info? 42 = some i ∧ i.zero = some (.agg #[.string ⟨#[]⟩, .string ⟨#[]⟩]) ∧ i.size = 2 ∧ i.bytes = 32 := by
  obtain ⟨i, hi, hzz⟩ := Option.map_eq_some_iff.1 infoPair
  simp only [Prod.mk.injEq] at hzz
  exact ⟨i, hi, hzz⟩

theorem Sp.grown {w w' : World} {a : Option Addr} {n : Nat} {f g : Nat → ByteArray} {row : Option Nat} (h : Sp w a n f g) (hg : w.grownBy w' row) (hne : ∀ ad, a = some ad → row ≠ some ad.block) : Sp w' a n f g := by
  rcases h with h | ⟨b, off, rfl, hc⟩
  · exact .inl h
  · refine .inr ⟨b, off, rfl, fun i hi => ?_⟩
    obtain ⟨h1, h2⟩ := hc i hi
    have hlt := World.block_lt_of_cell? _ _ h1
    have hbk := hg.block b hlt (fun e => hne _ rfl e.symm)
    exact ⟨(World.cell?_of_block (w := w) (a := ⟨b, off + i * 2, none⟩) hbk).trans h1, (World.cell?_of_block (w := w) (a := ⟨b, off + i * 2 + 1, none⟩) hbk).trans h2⟩
theorem OwnV.grown {w w' : World} {a : Option Addr} {m : Nat} {h : Nat → Value} {row : Option Nat} (ho : OwnV w a m h) (hg : w.grownBy w' row) (hne : ∀ ad, a = some ad → row ≠ some ad.block) : OwnV w' a m h := by
  rcases ho with h0 | ⟨B, rfl, ho⟩
  · exact .inl h0
  · refine .inr ⟨B, rfl, fun i hi => ?_⟩
    obtain ⟨h1, h2⟩ := ho i hi
    have hbk := hg.block B (World.block_lt_of_cell? _ _ h1) (fun e => hne _ rfl e.symm)
    exact ⟨(World.cell?_of_block (w := w) (a := ⟨B, i, none⟩) hbk).trans h1, (World.frozen?_of_block (w := w) (a := ⟨B, i, none⟩) hbk).trans h2⟩
theorem Own2.ownV {w : World} {B n : Nat} {f g : Nat → ByteArray} (h : Own2 w B n f g) : OwnV w (some ⟨B, 0, none⟩) (n * 2) (fun i => if i % 2 = 0 then .string (f (i / 2)) else .string (g (i / 2))) := by
  refine .inr ⟨B, rfl, fun i hi => ?_⟩
  obtain ⟨⟨h1, h2⟩, h3, h4⟩ := h (i / 2) (by omega)
  by_cases e : i % 2 = 0
  · rw [show i / 2 * 2 = i from by omega] at h1 h2
    show _ = some (if i % 2 = 0 then _ else _) ∧ _
    rw [if_pos e]; exact ⟨h1, h2⟩
  · rw [show i / 2 * 2 + 1 = i from by omega] at h3 h4
    show _ = some (if i % 2 = 0 then _ else _) ∧ _
    rw [if_neg e]; exact ⟨h3, h4⟩
theorem rowOf_ne {a : Option Addr} {b : Nat} (h : ∀ ad, a = some ad → ad.block ≠ b) : rowOf a ≠ some b := by
  cases a with
  | none => intro e; cases e
  | some ad => intro e; exact h ad rfl (by simpa [rowOf] using e)
theorem two_oneP (x y : ByteArray) : ∀ u ∈ [Value.string x, .string y], u.oneCell' = true := by
  intro u hu
  simp at hu
  rcases hu with rfl | rfl <;> rfl
end Go.Proofs.Ytnmeafhfchkemaa
