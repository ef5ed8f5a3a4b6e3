
/-
  Drawing a message: what stands while it is drawn. By an AI agent.
-/
import Derived.Test.YtgbhjhbmolgbeaaDoorDraws2
import Derived.Test.YtgbhjhbmolgbeaaDoorFmp
import Derived.Deep.RegionHeld3
namespace Go.Proofs.YtgbhjhbmolgbeaaDoor
open Go.ChangeShapes Go.WideShapes Go.ChangeAt Go.RowKit Go.Deep
set_option linter.unusedVariables false
set_option maxRecDepth 100000

theorem Turned.far {P : Nat} {w W W' : World} (h : Turned P (P + 1) w W) (hb : Below w.heap.size W W') : Turned P (P + 1) w W' :=
  ⟨hb.os.trans h.os, hb.tape.trans h.tape, hb.output.trans h.output, Nat.le_trans h.size hb.size, fun k hk hr => (hb.block k hk).trans (h.block k hk hr)⟩
theorem far_turned {B : Nat} {W W' : World} (hb : Below B W W') : Turned B W.heap.size W W' :=
  ⟨hb.os, hb.tape, hb.output, hb.size, fun k hk hr => by
    rcases hr with h | h
    · exact hb.block k h
    · omega⟩
theorem DrawOK.far {W W' : World} {B P n cc K : Nat} {ca : Option Addr} {C : List Nat} (h : DrawOK W P ca n cc K C) (hb : Below B W W') (hP : P < B) (hc : 0 < n → ∀ a, ca = some a → a.block < B) : DrawOK W' P ca n cc K C := by
  obtain ⟨⟨a, s, h1, h2, h3⟩, h4, h5, h6, h7, h8⟩ := h
  refine ⟨⟨a, s, h1.turned (far_turned hb) (.inl hP), h2, h3⟩, h4, h5, h6, h7.turned (far_turned hb) (fun hl ad e => .inl (hc (by rw [cellsB_length] at hl; omega) ad e)), h8⟩
theorem DrawOK.code {W : World} {P n cc K : Nat} {ca : Option Addr} {C : List Nat} (h : DrawOK W P ca n cc K C) : 0 < n → ∀ a, ca = some a → a.block < W.heap.size := by
  obtain ⟨_, h4, _, _, h7, _⟩ := h
  intro hn a e
  rcases h7 with h7 | ⟨b, o, e2, hc⟩
  · have h2 := cellsB_length C
    rw [h7] at h2
    simp only [List.length_nil] at h2
    omega
  · rw [e] at e2
    cases e2
    have h9 := hc 0 (by rw [cellsB_length]; omega)
    rw [getD_some (cellsB_get C 0 (by omega))] at h9
    exact World.block_lt_of_cell? _ _ h9
/-- While a message is drawn: w at the start, W now; the message lies at B, its fields are S. -/
def FM (w : World) (P n cc : Nat) (ca : Option Addr) (C : List Nat) (B : Nat) (W : World) (K : Nat) (ua : Option Addr) (i uc : Nat) (S : List MFl) (Y : ByteArray) : Prop :=
  Turned P (P + 1) w W ∧ DrawOK W P ca n cc K C ∧ Box W B [.slice ua i uc, .string Y] ∧ W.ownsRow (w.heap.size + 1) 33 2 (.slice ua i uc) i (cellsFl S) ∧ Box W w.heap.size [.slice none 0 0, .string ⟨#[]⟩] ∧ w.heap.size < B ∧ P < w.heap.size ∧ (∀ g, Value.ownBlock (.slice ua i uc) = some g → g ≠ B) ∧ (0 < n → ∀ a, ca = some a → a.block < w.heap.size)
section
variable {w W W' : World} {P n cc B K i uc : Nat} {ca ua : Option Addr} {C : List Nat} {S : List MFl} {Y : ByteArray}
theorem FM.lt (h : FM w P n cc ca C B W K ua i uc S Y) : B < W.heap.size := by
  obtain ⟨_, _, h3, _⟩ := h
  exact World.block_lt_of_cell? _ _ (h3 0 _ rfl).1
theorem FM.size (h : FM w P n cc ca C B W K ua i uc S Y) : w.heap.size ≤ W.heap.size := h.1.size
theorem FM.ne (h : FM w P n cc ca C B W K ua i uc S Y) : W.heap.size ≠ P := by
  have h1 := h.size
  obtain ⟨_, _, _, _, _, _, h7, _⟩ := h
  omega
theorem FM.drew (h : FM w P n cc ca C B W K ua i uc S Y) : FM w P n cc ca C B W.drew K ua i uc S Y := by
  obtain ⟨h1, h2, h3, h4, h5, h6⟩ := h
  exact ⟨⟨h1.os, h1.tape, h1.output, h1.size, h1.block⟩, h2, h3, h4, h5, h6⟩
theorem FM.alloc (h : FM w P n cc ca C B W K ua i uc S Y) (o : Obj) : FM w P n cc ca C B (W.alloc o) K ua i uc S Y := by
  obtain ⟨h1, h2, h3, h4, h5, h6⟩ := h
  have hb : Below W.heap.size W (W.alloc o) := (Below.refl _ _).alloc (Nat.le_refl _) _
  exact ⟨h1.trans (Turned.of_below hb), h2.below hb, h3.old _, h4.alloc _, h5.old _, h6⟩
theorem FM.pick (h : FM w P n cc ca C B W K ua i uc S Y) (b : Nat) (L : List ByteArray) (hb : b ≠ P) (hL : L.length = 4) (hK : K ≤ 999999990) (hs : Src W (some ⟨b, 0, none⟩) (cellsS L)) :
    Calls Tryd.prog 58 #[.pointer (some ⟨P, 0, none⟩), .slice (some ⟨b, 0, none⟩) 4 4] W fun e w' => ∃ s, e = .returned (.string s) ∧ s ∈ L ∧ FM w P n cc ca C B w' (K + 3) ua i uc S Y ∧ ∀ (b' : Nat) (L' : List ByteArray), b' ≠ P → Src W (some ⟨b', 0, none⟩) (cellsS L') → Src w' (some ⟨b', 0, none⟩) (cellsS L') := by
  obtain ⟨h1, h2, h3, h4, h5, h6, h7, h8, h9⟩ := h
  refine (drawPick P n cc K ca C b 0 4 4 L W hL (by omega) (by omega) hK hb hs h2).mono ?_
  rintro e w' ⟨s, rfl, hsm, ht, hd⟩
  exact ⟨s, rfl, hsm, ⟨h1.trans ht, hd, h3.turned ht (.inr (by omega)), ((OwnsR.mk h4 (Nat.le_refl _)).turned ht (.inr (by omega))).1, h5.turned ht (.inr (by omega)), h6, h7, h8, h9⟩, fun b' L' hb' hs' => hs'.turned ht (fun _ ad e => by cases e; dsimp only; omega)⟩
theorem FM.grow (h : FM w P n cc ca C B W K ua i uc S Y) (v' : Value) (f : MFl) (hown : W'.ownsRow (w.heap.size + 1) 33 2 v' (i + 1) (cellsFl S ++ cellsFl [f])) (hg : W.grownBy W' (Value.ownBlock (.slice ua i uc))) (hnew : v'.ownBlock = Value.ownBlock (.slice ua i uc) ∨ ∀ g, v'.ownBlock = some g → W.heap.size ≤ g) :
    ∃ ub ud, v' = .slice ub (i + 1) ud ∧ Box W' B [.slice ua i uc, .string Y] ∧ FM w P n cc ca C B (W'.setCell ⟨B, 0, none⟩ v') K ub (i + 1) ud (S ++ [f]) Y := by
  obtain ⟨ub, ud, rfl, _, _⟩ := own_src hown
  have hlt := h.lt
  have hsz := h.size
  obtain ⟨h1, h2, h3, h4, h5, h6, h7, h8, h9⟩ := h
  have hrow : ∀ g, Value.ownBlock (.slice ua i uc) = some g → w.heap.size + 1 ≤ g := fun g e => (h4.lt g e).1
  have XG : Box W' B [.slice ua i uc, .string Y] := h3.grown hg (fun e => h8 _ e rfl)
  have hB : Below w.heap.size W W' := (Below.refl _ _).grown hg hsz (fun g e => by have := hrow g e; omega)
  have hB2 : Below w.heap.size W (W'.setCell ⟨B, 0, none⟩ (.slice ub (i + 1) ud)) := hB.setCell (by dsimp only; omega) _
  have NG : ∀ g, Value.ownBlock (.slice ub (i + 1) ud) = some g → g ≠ B := fun g e => by
    rcases hnew with h0 | h0
    · rw [h0] at e; exact h8 g e
    · have := h0 g e; omega
  refine ⟨ub, ud, rfl, XG, h1.far hB2, h2.far hB2 h7 h9, XG.set 0 _, ?_, ?_, h6, h7, NG, h9⟩
  · rw [cellsFl_append]
    exact own_setOther hown (fun e => NG _ e rfl) _
  · exact (h5.grown hg (fun e => by have := hrow _ e; omega)).other _ (by dsimp only; omega) _
theorem FM.next (h : FM w P n cc ca C B W K ua i uc S Y) (m : Nat) (hm : 1 ≤ m) (hm2 : m ≤ 1000000) (hK : K ≤ 999999990) :
    Calls Tryd.prog 59 #[.pointer (some ⟨P, 0, none⟩), .int .i64 (m : Int)] W fun e w' => ∃ x : Nat, e = .returned (.int .i64 (x : Int)) ∧ x < m ∧ FM w P n cc ca C B w' (K + 3) ua i uc S Y := by
  obtain ⟨h1, h2, h3, h4, h5, h6, h7, h8, h9⟩ := h
  refine (drawNext P n cc K m ca C W hm hm2 hK h2).mono ?_
  rintro e w' ⟨x, rfl, hx, ht, hd⟩
  exact ⟨x, rfl, hx, h1.trans ht, hd, h3.turned ht (.inr (by omega)), ((OwnsR.mk h4 (Nat.le_refl _)).turned ht (.inr (by omega))).1, h5.turned ht (.inr (by omega)), h6, h7, h8, h9⟩
theorem FM.up {K2 : Nat} (h : FM w P n cc ca C B W K ua i uc S Y) (hk : K ≤ K2) : FM w P n cc ca C B W K2 ua i uc S Y := by
  obtain ⟨h1, h2, h6⟩ := h
  exact ⟨h1, h2.more hk, h6⟩
theorem drawnF_snoc {F : List MFl} {f : MFl} (h : drawnF F) (h1 : f.1 ∈ nmL) (h2 : f.2 ∈ vlL) : drawnF (F ++ [f]) := by
  intro g hg
  rw [List.mem_append] at hg
  rcases hg with hg | hg
  · exact h g hg
  · simp at hg; subst hg; exact ⟨h1, h2⟩
end
end Go.Proofs.YtgbhjhbmolgbeaaDoor
