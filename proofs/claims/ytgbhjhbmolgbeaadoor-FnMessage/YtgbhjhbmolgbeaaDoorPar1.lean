
/-
  Reading a message, by the program: line, head, message, ParseMessage, MessageOK. By an AI agent.
-/
import Derived.Test.YtgbhjhbmolgbeaaDoorParp
import Derived.Test.YtgbhjhbmolgbeaaDoorMsg2
namespace Go.Proofs.YtgbhjhbmolgbeaaDoor
open Go.ChangeShapes Go.WideShapes Go.ChangeAt Go.RowKit Go.Deep
set_option linter.unusedVariables false
set_option maxRecDepth 100000

/-- The variable MaxLen of internal/bytealg holds some number. -/
def MaxAt (w : World) : Prop := ∃ m : Int, w.cell? ⟨0, 0, none⟩ = some (.int .i64 m)
theorem MaxAt.below {w w' : World} (h : MaxAt w) (hb : Below w.heap.size w w') : MaxAt w' := by
  obtain ⟨m, hm⟩ := h
  exact ⟨m, (hb.cell (p := ⟨0, 0, none⟩) (World.block_lt_of_cell? _ _ hm)).trans hm⟩
theorem MaxAt.turned {w w' : World} {lo hi : Nat} (h : MaxAt w) (ht : Turned lo hi w w') (hlo : 0 < lo) : MaxAt w' := by
  obtain ⟨m, hm⟩ := h
  exact ⟨m, (World.cell?_of_block (w := w) (a := ⟨0, 0, none⟩) (ht.block 0 (World.block_lt_of_cell? _ _ hm) (.inl hlo))).trans hm⟩
theorem MaxAt.drew {w : World} (h : MaxAt w) : MaxAt w.drew := h
theorem Turned.refl (lo hi : Nat) (w : World) : Turned lo hi w w := ⟨rfl, rfl, rfl, Nat.le_refl _, fun _ _ _ => rfl⟩
theorem Turned.drewN {lo hi : Nat} {w w' : World} (h : Turned lo hi w w') (n : Nat) : Turned lo hi w (w'.drewN n) := ⟨h.os, h.tape, h.output, h.size, h.block⟩
theorem Turned.set {lo hi : Nat} {w w' : World} (h : Turned lo hi w w') {B : Nat} (h1 : lo ≤ B) (h2 : B < hi) (i : Nat) (v : Value) : Turned lo hi w (w'.setCell ⟨B, i, none⟩ v) :=
  ⟨h.os, h.tape, h.output, by simp; exact h.size, fun k hk hr => by
    rw [Below.heap_setCell _ _ _ _ (show k ≠ B by omega)]
    exact h.block k hk hr⟩
theorem Turned.below {lo hi : Nat} {w a b : World} (h : Turned lo hi w a) (hb : Below w.heap.size a b) : Turned lo hi w b :=
  ⟨hb.os.trans h.os, hb.tape.trans h.tape, hb.output.trans h.output, Nat.le_trans h.size hb.size, fun k hk hr => (hb.block k hk).trans (h.block k hk hr)⟩
theorem Turned.src {lo hi : Nat} {w w' : World} {a : Option Addr} {xs : List Value} (h : Turned lo hi w w') (hs : Src w a xs) (hd : ∀ ad, a = some ad → ad.block < lo ∨ hi ≤ ad.block) : Src w' a xs := by
  rcases hs with hs | ⟨b, o, rfl, hc⟩
  · exact .inl hs
  · refine .inr ⟨b, o, rfl, fun j hj => ?_⟩
    have h1 := hc j hj
    rw [← h1]
    exact World.cell?_of_block (w := w) (a := ⟨b, o + j, none⟩) (h.block b (World.block_lt_of_cell? _ _ h1) (hd _ rfl))

theorem bsOf_data (s : ByteArray) : bsOf s.data.toList = s := by simp [bsOf]
/-- strings.Cut. -/
theorem cutC (l : List UInt8) (sep : ByteArray) (w : World) (hl : l.length ≤ 1048576) (hm : MaxAt w) :
    Calls Tryd.prog 75 #[.string (bsOf l), .string sep] w fun e w' => e = .returned (.tuple #[.string (bsOf (Lib.cut l sep.data.toList).1), .string (bsOf (Lib.cut l sep.data.toList).2.1), .bool (Lib.cut l sep.data.toList).2.2]) ∧ ∃ n, w' = w.drewN n := by
  obtain ⟨m, hm⟩ := hm
  have := Tryd.strings_Cut (bsOf l) sep m w (by rw [bsOf_size]; omega) hm
  rw [bsOf_list] at this
  exact this

set_option maxHeartbeats 1000000 in
theorem lineI (l : List UInt8) (B : Nat) (w : World) (hl : l.length ≤ 1048576) (hm : MaxAt w) (hB : Box w B [.string (bsOf l)]) :
    Calls Tryd.prog 74 #[.pointer (some ⟨B, 0, none⟩)] w fun e w' => e = .returned (.tuple #[.string (bsOf (Lib.cut l [10]).1), .bool (Lib.cut l [10]).2.2]) ∧ Box w' B [.string (bsOf (Lib.cut l [10]).2.1)] ∧ Turned B (B + 1) w w' := by
  have HC : ∀ w, MaxAt w → Calls Tryd.prog 75 #[.string (bsOf l), .string ⟨#[10]⟩] w fun e w' => e = .returned (.tuple #[.string (bsOf (Lib.cut l [10]).1), .string (bsOf (Lib.cut l [10]).2.1), .bool (Lib.cut l [10]).2.2]) ∧ ∃ n, w' = w.drewN n := fun w hm => cutC l ⟨#[10]⟩ w hl hm
  obtain ⟨s, hs⟩ : ∃ s, bsOf l = s := ⟨_, rfl⟩
  obtain ⟨a, ha⟩ : ∃ s, bsOf (Lib.cut l [10]).1 = s := ⟨_, rfl⟩
  obtain ⟨b, hb⟩ : ∃ s, bsOf (Lib.cut l [10]).2.1 = s := ⟨_, rfl⟩
  obtain ⟨f, hf⟩ : ∃ s, (Lib.cut l [10]).2.2 = s := ⟨_, rfl⟩
  simp only [hs, ha, hb, hf] at HC hB ⊢
  have HM : Hid (MaxAt w) := hm
  have HB : Hid (Box w B [.string s]) := hB
  obtain ⟨c0, f0⟩ := hB 0 _ rfl
  clear hs ha hb hf hm hB
  go_enter Tryd.func74, Tryd.ntmps74
  go_wp2_with (go_at_call 75; refine (HC _ HM.out).mono ?_; rintro e w' ⟨rfl, n, rfl⟩)
  go_ret2
  exact ⟨rfl, (show Box (w.drewN n) B _ from HB.out).set 0 _, ((Turned.refl _ _ _).drewN n).set (Nat.le_refl _) (by omega) _ _⟩
end Go.Proofs.YtgbhjhbmolgbeaaDoor
