
/-
  What the form tells of a backup that came in. By an AI agent.
-/
import Derived.Test.YtmbndpgoihdpnaaDoorArgs5
import Derived.Test.YtmbndpgoihdpnaaDoorBkp
namespace Go.Proofs.YtmbndpgoihdpnaaDoor
open Go.ChangeShapes Go.WideShapes Go.ChangeAt Go.RowKit Go.Deep
set_option linter.unusedVariables false
set_option maxRecDepth 100000
section
variable {H : Type} {enc : TypeId × Value → H} {W : World} {v : Value} {d : DataW H} {p : List MemPlace} {base : Nat}
/-- A backup that came in. -/
theorem backup_in (hv : Value.okWide Tryd.prog W .any base 55 v) (h : DataW.Trod enc Tryd.prog W 0 (fun _ => true) true 55 v d p) :
    ∃ D, ReadsK W v D ∧ maxK D := by
  obtain ⟨cs, rfl, hsz⟩ := okWide_struct Tryd.underlying55 hv
  obtain ⟨fuel, hf⟩ := h
  have hl : cs.toList.length = 5 := by
    have h9 : Tryd.prog.cellsOf 55 = 5 := by kernel_rfl
    rw [Array.length_toList, hsz, h9]
  obtain ⟨v0, v1, v2, v3, v4, k, y0, y1, y2, y3, y4, ec, h0, h1, h2, h3, h4⟩ := five_cells Tryd.underlying55 rfl rfl rfl rfl rfl (by kernel_rfl) (by kernel_rfl) (by kernel_rfl) (by kernel_rfl) (by kernel_rfl) hl (show DataW.trod _ _ _ _ _ _ _ _ cs.toList = _ by simpa [Value.cells] using hf)
  obtain rfl : cs = #[v0, v1, v2, v3, v4] := by cases cs; simp_all
  obtain ⟨s0, e0, _, m0⟩ := DataW.trod_string Tryd.underlying9 h0
  obtain ⟨s1, e1, _, m1⟩ := DataW.trod_string Tryd.underlying9 h1
  obtain ⟨n2, e2, _⟩ := DataW.trod_int Tryd.underlying3 h2
  obtain ⟨L, a, c, rfl, r3, m3, k3⟩ := diffs_arg h3
  obtain ⟨n4, e4, _⟩ := DataW.trod_int Tryd.underlying3 h4
  simp only [List.cons.injEq, and_true] at e0 e1 e2 e4
  subst e0 e1 e2 e4
  exact ⟨⟨s0, s1, n2, L, n4⟩, ⟨a, c, rfl, r3⟩, m3, m0, m1, k3⟩
end
end Go.Proofs.YtmbndpgoihdpnaaDoor
