
/-
  What the form tells of a session that came in. By an AI agent.
-/
import Derived.Test.YtkkfeaajcbnlnaaImps
import Derived.Lib.SmallJoins
import Derived.SliceStrings
import Derived.ChangeSlices
namespace Go.Proofs.Ytkkfeaajcbnlnaa
open Go.ChangeShapes Go.WideShapes Go.ChangeAt Go.RowKit Go.Deep
set_option linter.unusedVariables false
set_option maxRecDepth 100000

section
variable {H : Type} {enc : TypeId × Value → H} {W : World} {v : Value} {fuel : Nat} {x : DataW H × List MemPlace}
theorem three_cells {P : Program} {e : TypeId} {f0 f1 f2 : Field} {cs : List Value} {n : Nat} (he : P.underlying e = some (.struct #[f0, f1, f2])) (o0 : f0.offset = 0) (o1 : f1.offset = 1) (o2 : f2.offset = 2) (c0 : P.cellsOf f0.type = 1) (c1 : P.cellsOf f1.type = 1) (c2 : P.cellsOf f2.type = 1) (hlen : cs.length = 3)
    (h : DataW.trod enc P W 0 (fun _ => true) true n e cs = some x) : ∃ v0 v1 v2 k y0 y1 y2, cs = [v0, v1, v2] ∧ DataW.trod enc P W 0 (fun _ => true) true k f0.type [v0] = some y0 ∧ DataW.trod enc P W 0 (fun _ => true) true k f1.type [v1] = some y1 ∧ DataW.trod enc P W 0 (fun _ => true) true k f2.type [v2] = some y2 := by
  obtain ⟨xs, k, hk, hxy, _, hxl, hf⟩ := DataW.trod_struct he h
  match xs, hxl, cs, hlen with
  | [y0, y1, y2], _, [v0, v1, v2], _ =>
    have g0 := hf 0 f0 rfl
    have g1 := hf 1 f1 rfl
    have g2 := hf 2 f2 rfl
    simp [o0, o1, o2, c0, c1, c2] at g0 g1 g2
    exact ⟨v0, v1, v2, k, y0, y1, y2, rfl, g0, g1, g2⟩
end
section
variable {H : Type} {enc : TypeId × Value → H} {W : World} {v : Value} {d : DataW H} {p : List MemPlace} {base : Nat}
/-- A session that came in. -/
theorem imap_in (hv : Value.okWide Try.prog W .any base 27 v) (h : DataW.Trod enc Try.prog W 0 (fun _ => true) true 27 v d p) :
    ∃ D : IMP, v = valI D ∧ maxIM D := by
  obtain ⟨cs, rfl, hsz⟩ := okWide_struct Try.underlying27 hv
  obtain ⟨fuel, hf⟩ := h
  have hl : cs.toList.length = 3 := by
    have h9 : Try.prog.cellsOf 27 = 3 := by kernel_rfl
    rw [Array.length_toList, hsz, h9]
  obtain ⟨v0, v1, v2, k, y0, y1, y2, ec, h0, h1, h2⟩ := three_cells Try.underlying27 rfl rfl rfl (by kernel_rfl) (by kernel_rfl) (by kernel_rfl) hl (show DataW.trod _ _ _ _ _ _ _ _ cs.toList = _ by simpa [Value.cells] using hf)
  obtain rfl : cs = #[v0, v1, v2] := by cases cs; simp_all
  obtain ⟨s0, e0, _, m0⟩ := DataW.trod_string Try.underlying9 h0
  obtain ⟨s1, e1, _, m1⟩ := DataW.trod_string Try.underlying9 h1
  obtain ⟨b2, e2, _⟩ := DataW.trod_bool Try.underlying4 h2
  simp only [List.cons.injEq, and_true] at e0 e1 e2
  subst e0 e1 e2
  exact ⟨⟨s0, s1, b2⟩, rfl, m0, m1⟩
end
end Go.Proofs.Ytkkfeaajcbnlnaa
