
/-
  Slices of pairs, read element by element. By an AI agent.
-/
import Derived.Test.YtmbndpgoihdpnaaGreatDoorListsp
import Derived.Deep.RegionHeld3
namespace Go.Proofs.YtmbndpgoihdpnaaGreatDoor
open Go.ChangeShapes Go.WideShapes Go.ChangeAt Go.RowKit Go.Deep
set_option linter.unusedVariables false

/-- The pairs that a slice of two-cell elements leads to. -/
def Sp (w : World) (a : Option Addr) (n : Nat) (f g : Nat → ByteArray) : Prop :=
  n = 0 ∨ ∃ b off, a = some ⟨b, off, none⟩ ∧ ∀ i, i < n → w.cell? ⟨b, off + i * 2, none⟩ = some (.string (f i)) ∧ w.cell? ⟨b, off + i * 2 + 1, none⟩ = some (.string (g i))

theorem Sp.below {w w' : World} {a : Option Addr} {n : Nat} {f g : Nat → ByteArray} (h : Sp w a n f g) (hb : Below w.heap.size w w') : Sp w' a n f g := by
  rcases h with h | ⟨b, off, rfl, hc⟩
  · exact .inl h
  · refine .inr ⟨b, off, rfl, fun i hi => ?_⟩
    obtain ⟨h1, h2⟩ := hc i hi
    rw [← h1, ← h2]
    exact ⟨hb.cell (p := ⟨b, off + i * 2, none⟩) (World.block_lt_of_cell? _ _ h1), hb.cell (p := ⟨b, off + i * 2 + 1, none⟩) (World.block_lt_of_cell? _ _ h2)⟩

abbrev fK (L : List PM) (i : Nat) : ByteArray := (L.getD i p0).1
abbrev fV (L : List PM) (i : Nat) : ByteArray := (L.getD i p0).2
theorem sp_src {w : World} {a : Option Addr} {L : List PM} {n : Nat} (h : Src w a (cellsP L)) (hn : L.length = n) : Sp w a n (fK L) (fV L) := by
  subst hn
  rcases h with h | ⟨b, o, rfl, hc⟩
  · have h2 := cellsP_length L
    rw [h] at h2
    exact .inl (by simp only [List.length_nil] at h2; omega)
  · refine .inr ⟨b, o, rfl, fun i hi => ?_⟩
    have h1 := hc (i * 2) (by rw [cellsP_length]; omega)
    have h2 := hc (i * 2 + 1) (by rw [cellsP_length]; omega)
    rw [getD_some (cellsP_get L i hi).1] at h1
    rw [getD_some (cellsP_get L i hi).2] at h2
    exact ⟨h1, h2⟩
theorem mem_getD {α : Type} (L : List α) (d : α) (i : Nat) (h : i < L.length) : L.getD i d ∈ L := by
  rw [List.getD_eq_getElem?_getD, List.getElem?_eq_getElem h]; exact List.getElem_mem _
end Go.Proofs.YtmbndpgoihdpnaaGreatDoor
