
/-
  Contracts of the helpers that copy disks. By an AI agent.
-/
import Derived.Test.YtlkobhighhkmoaaDoorDlaw0
namespace Go.Proofs.YtlkobhighhkmoaaDoor
open Go.ChangeShapes Go.WideShapes Go.ChangeAt Go.RowKit Go.Deep
set_option linter.unusedVariables false

theorem OwnsD.nil (w : World) (lo hi : Nat) : OwnsD w lo hi (.agg #[.slice none 0 0, .slice none 0 0, .bool false, .slice none 0 0]) DM.none :=
  ⟨_, _, _, rfl, ⟨World.ownsRow_nil _ _ _ _, fun k e => by cases e⟩, ⟨World.ownsRow_nil _ _ _ _, fun k e => by cases e⟩, World.ownsRow_nil _ _ _ _, fun k e => by cases e⟩
theorem OwnsD.mono {w : World} {lo hi lo' hi' : Nat} {v : Value} {D : DM} (h : OwnsD w lo hi v D) (hl : lo' ≤ lo) (hh : hi ≤ hi') : OwnsD w lo' hi' v D := by
  obtain ⟨v1, v2, v3, rfl, ⟨h1, k1⟩, ⟨h2, k2⟩, h3, k3⟩ := h
  exact ⟨v1, v2, v3, rfl, ⟨own_mono h1 hl, fun k e => Nat.lt_of_lt_of_le (k1 k e) hh⟩, ⟨own_mono h2 hl, fun k e => Nat.lt_of_lt_of_le (k2 k e) hh⟩, own_mono h3 hl, fun k e => Nat.lt_of_lt_of_le (k3 k e) hh⟩
theorem OwnsD.w4 {w : World} {lo hi B : Nat} {v : Value} {D : DM} (h : OwnsD w lo hi v D) (hB : B < lo) (v0 v1 v2 v3 : Value) : OwnsD (W4 w B v0 v1 v2 v3) lo hi v D := by
  obtain ⟨u1, u2, u3, rfl, ⟨h1, k1⟩, ⟨h2, k2⟩, h3, k3⟩ := h
  exact ⟨u1, u2, u3, rfl, ⟨own_w4 h1 hB _ _ _ _, k1⟩, ⟨own_w4 h2 hB _ _ _ _, k2⟩, own_w4 h3 hB _ _ _ _, k3⟩

end Go.Proofs.YtlkobhighhkmoaaDoor
