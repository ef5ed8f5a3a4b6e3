
/-
  Small facts for the walks of the laws on disks. By an AI agent.
-/
import Derived.Test.YtlkobhighhkmoaaDoorDoki
import Derived.ProofKit
namespace Go.Proofs.YtlkobhighhkmoaaDoor
open Go.ChangeShapes Go.WideShapes Go.ChangeAt Go.RowKit Go.Deep
set_option linter.unusedVariables false
theorem ReadsD.drew {w : World} {v : Value} {D : DM} (h : ReadsD w v D) : ReadsD w.drew v D := h
theorem OwnsD.drew {w : World} {lo hi : Nat} {v : Value} {D : DM} (h : OwnsD w lo hi v D) : OwnsD w.drew lo hi v D := h
theorem OwnsD.lit {w : World} {lo hi : Nat} {v : Value} {D : DM} (h : OwnsD w lo hi v D) : ∃ a1 c1 a2 c2 a3 c3, v = .agg #[.slice a1 D.S.length c1, .slice a2 D.C.length c2, .bool D.A, .slice a3 D.K.length c3] := by
  obtain ⟨a1, c1, a2, c2, a3, c3, e, _⟩ := h.reads
  exact ⟨a1, c1, a2, c2, a3, c3, e⟩
theorem ReadsD.of {w : World} {a1 a2 a3 : Option Addr} {c1 c2 c3 : Nat} {D : DM} (h : ReadsD w (.agg #[.slice a1 D.S.length c1, .slice a2 D.C.length c2, .bool D.A, .slice a3 D.K.length c3]) D) : ReadsD w (.agg #[.slice a1 D.S.length c1, .slice a2 D.C.length c2, .bool D.A, .slice a3 D.K.length c3]) D := h
theorem small_len {D : DM} (h : smallD D) : D.S.length ≤ 9000000000000000000 ∧ D.C.length ≤ 9000000000000000000 ∧ D.K.length ≤ 9000000000000000000 := by
  obtain ⟨⟨h1, _⟩, ⟨h2, _⟩, h3⟩ := h
  exact ⟨by omega, by omega, by omega⟩
theorem small_len2 {D : DM} (h : smallD D) : D.S.length ≤ 1048576 ∧ D.C.length ≤ 1048576 ∧ D.K.length ≤ 1048576 := by
  obtain ⟨⟨h1, _⟩, ⟨h2, _⟩, h3⟩ := h
  exact ⟨h1, h2, h3⟩
end Go.Proofs.YtlkobhighhkmoaaDoor
