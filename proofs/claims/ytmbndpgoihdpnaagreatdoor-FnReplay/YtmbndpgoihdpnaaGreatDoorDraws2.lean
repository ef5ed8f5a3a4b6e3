
/-
  Texts that are drawn. By an AI agent.
-/
import Derived.Test.YtmbndpgoihdpnaaGreatDoorDraws
namespace Go.Proofs.YtmbndpgoihdpnaaGreatDoor
open Go.ChangeShapes Go.WideShapes Go.ChangeAt Go.RowKit Go.Deep
set_option linter.unusedVariables false
set_option maxRecDepth 100000

theorem none_new {w : World} (vs : Array Value) (t : TypeId) (i : Nat) (hi : vs.size ≤ i) : (w.alloc (.cells vs t)).cell? ⟨w.heap.size, i, none⟩ = none := by
  rw [World.cell?_alloc_at _ _ _ _ rfl]
  exact Array.getElem?_eq_none hi
theorem NoMore.below {w w' : World} {P : Nat} (h : NoMore w P) (hP : P < w.heap.size) (hb : Below w.heap.size w w') : NoMore w' P := fun i hi => by
  rw [← h i hi]
  exact World.cell?_of_block (a := ⟨P, i, none⟩) (hb.block P hP)
set_option maxHeartbeats 1000000 in
theorem l00Source (ca : Option Addr) (n cc : Nat) (C : List Nat) (w : World) (hC : C.length = n) (hn : n ≤ 1048577) (h8 : ∀ x ∈ C, x < 256) (hs : Src w ca (cellsB C)) :
    Calls Tryz.prog 56 #[.slice ca n cc] w fun e w' => e = .returned (.pointer (some ⟨w.heap.size, 0, none⟩)) ∧ w'.heap.size = w.heap.size + 1 ∧ Below w.heap.size w w' ∧ DrawOK w' w.heap.size ca n cc 0 C := by
  obtain ⟨s, hs9⟩ : ∃ s, n % 1000 = s := ⟨_, rfl⟩
  have hsl : s < 1000 := by rw [← hs9]; exact Nat.mod_lt _ (by omega)
  have R : Int.tmod (n : Int) 1000 = (s : Int) := by rw [← hs9]; exact tmod_nat n 1000
  have HC : Hid (C.length = n ∧ (∀ x ∈ C, x < 256) ∧ Src w ca (cellsB C)) := ⟨hC, h8, hs⟩
  clear hC h8 hs hs9
  go_enter Tryz.func56, Tryz.ntmps56
  go_wp2_with fail
  go_ret
  refine ⟨rfl, by simp, (Below.refl _ _).alloc (Nat.le_refl _) _, ⟨0, s, Box.new rfl, by omega, by omega, fun i hi => none_new _ _ i hi⟩, HC.out.1, hn, HC.out.2.1, HC.out.2.2.below ((Below.refl _ _).alloc (Nat.le_refl _) _), fun h0 a e => ?_⟩
  rcases HC.out.2.2 with h | ⟨b, o, e2, hc⟩
  · have h2 := cellsB_length C
    rw [h] at h2
    simp only [List.length_nil] at h2
    have := HC.out.1
    omega
  · rw [e2] at e
    cases e
    have h1 := World.block_lt_of_cell? _ _ (hc 0 (by rw [cellsB_length, HC.out.1]; omega))
    dsimp only at h1 ⊢
    omega
def drawn4 : List ByteArray := [⟨#[]⟩, ⟨#[97]⟩, ⟨#[116, 101, 120, 116]⟩, ⟨#[0, 1]⟩]
theorem drawn4_small : ∀ s ∈ drawn4, s.size ≤ 4 := by
  intro s hs
  simp [drawn4] at hs
  rcases hs with rfl | rfl | rfl | rfl <;> decide
theorem src_four {w : World} {s t u v : ByteArray} {B ty : Nat} (hB : B = w.heap.size) : Src (w.alloc (.cells #[.string s, .string t, .string u, .string v] ty)) (some ⟨B, 0, none⟩) (cellsS [s, t, u, v]) := by
  have hb : Box (w.alloc (.cells #[.string s, .string t, .string u, .string v] ty)) B [.string s, .string t, .string u, .string v] := Box.new hB
  refine .inr ⟨B, 0, rfl, fun j hj => ?_⟩
  have hj4 : j < 4 := hj
  rw [Nat.zero_add]
  match j, hj4 with
  | 0, _ => exact (hb 0 _ rfl).1
  | 1, _ => exact (hb 1 _ rfl).1
  | 2, _ => exact (hb 2 _ rfl).1
  | 3, _ => exact (hb 3 _ rfl).1
theorem src_oneT {w : World} {s : ByteArray} {B ty : Nat} (hB : B = w.heap.size) : Src (w.alloc (.cells #[.string s] ty)) (some ⟨B, 0, none⟩) (cellsS [s]) := by
  have hb : Box (w.alloc (.cells #[.string s] ty)) B [.string s] := Box.new hB
  refine .inr ⟨B, 0, rfl, fun j hj => ?_⟩
  have hj4 : j < 1 := hj
  rw [Nat.zero_add]
  match j, hj4 with
  | 0, _ => exact (hb 0 _ rfl).1
theorem DrawOK.below {w w' : World} {P n cc K : Nat} {ca : Option Addr} {C : List Nat} (h : DrawOK w P ca n cc K C) (hb : Below w.heap.size w w') : DrawOK w' P ca n cc K C := by
  obtain ⟨⟨a, s, h1, h2, h3⟩, h4, h5, h6, h7, h8⟩ := h
  exact ⟨⟨a, s, h1.below hb, h2, h3.1, h3.2.below (World.block_lt_of_cell? _ _ (h1 0 _ rfl).1) hb⟩, h4, h5, h6, h7.below hb, h8⟩
/-- A list of texts lies elsewhere than the source. -/
theorem DrawOK.apart {w : World} {P n cc K : Nat} {ca : Option Addr} {C : List Nat} (h : DrawOK w P ca n cc K C) {b o : Nat} {s : ByteArray} (hc : w.cell? ⟨b, o, none⟩ = some (.string s)) : b ≠ P := fun e => by
  subst e
  obtain ⟨⟨a, z, h1, _, _, h4⟩, _⟩ := h
  by_cases ho : 3 ≤ o
  · rw [h4 o ho] at hc
    cases hc
  · match o, ho with
    | 0, _ => rw [(h1 0 _ rfl).1] at hc; cases hc
    | 1, _ => rw [(h1 1 _ rfl).1] at hc; cases hc
    | 2, _ => rw [(h1 2 _ rfl).1] at hc; cases hc
    | k + 3, ho => exact absurd (by omega) ho
theorem DrawOK.lt {w : World} {P n cc K : Nat} {ca : Option Addr} {C : List Nat} (h : DrawOK w P ca n cc K C) : P < w.heap.size := by
  obtain ⟨⟨a, s, h1, h2, h3⟩, h4⟩ := h
  exact World.block_lt_of_cell? _ _ (h1 0 _ rfl).1
theorem DrawOK.grown {w w' : World} {P n cc K : Nat} {ca : Option Addr} {C : List Nat} {row : Option Nat} (h : DrawOK w P ca n cc K C) (hg : w.grownBy w' row) (hP : row ≠ some P) (hc : 0 < n → ∀ a, ca = some a → row ≠ some a.block) : DrawOK w' P ca n cc K C := by
  obtain ⟨⟨a, s, h1, h2, h3⟩, h4, h5, h6, h7, h8⟩ := h
  refine ⟨⟨a, s, h1.grown hg hP, h2, h3.1, fun i hi => by rw [← h3.2 i hi]; exact World.cell?_of_block (a := ⟨P, i, none⟩) (hg.block P (World.block_lt_of_cell? _ _ (h1 0 _ rfl).1) (fun e => hP e.symm))⟩, h4, h5, h6, ?_, h8⟩
  rcases h7 with h7 | ⟨b, o, rfl, h9⟩
  · exact .inl h7
  · refine .inr ⟨b, o, rfl, fun j hj => ?_⟩
    have h10 := h9 j hj
    rw [← h10]
    exact World.cell?_of_block (a := ⟨b, o + j, none⟩) (hg.block b (World.block_lt_of_cell? _ _ h10) (fun e => hc (by rw [cellsB_length, h4] at hj; omega) _ rfl e.symm))
theorem src_list {w : World} {L : List ByteArray} {B ty : Nat} (hB : B = w.heap.size) (cs : Array Value) (hcs : cs.toList = cellsS L) : Src (w.alloc (.cells cs ty)) (some ⟨B, 0, none⟩) (cellsS L) := by
  obtain rfl : cs = (cellsS L).toArray := by rw [← hcs]
  have hb : Box (w.alloc (.cells (cellsS L).toArray ty)) B (cellsS L) := Box.new hB
  refine .inr ⟨B, 0, rfl, fun j hj => ?_⟩
  rw [Nat.zero_add]
  exact (hb j _ (by rw [List.getD_eq_getElem?_getD, List.getElem?_eq_getElem hj]; rfl)).1
theorem DrawOK.more {w : World} {P n cc K1 K2 : Nat} {ca : Option Addr} {C : List Nat} (h : DrawOK w P ca n cc K1 C) (hk : K1 ≤ K2) : DrawOK w P ca n cc K2 C := by
  obtain ⟨⟨a, s, h1, h2, h3⟩, h4⟩ := h
  exact ⟨⟨a, s, h1, by omega, h3⟩, h4⟩
end Go.Proofs.YtmbndpgoihdpnaaGreatDoor
