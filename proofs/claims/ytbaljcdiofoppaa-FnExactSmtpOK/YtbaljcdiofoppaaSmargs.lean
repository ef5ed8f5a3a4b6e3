
/-
  What the form tells of a session that came in. By an AI agent.
-/
import Derived.Test.YtbaljcdiofoppaaSmts
import Derived.Lib.SmallJoins
import Derived.SliceStrings
import Derived.ChangeSlices
namespace Go.Proofs.Ytbaljcdiofoppaa
open Go.ChangeShapes Go.WideShapes Go.ChangeAt Go.RowKit Go.Deep
set_option linter.unusedVariables false
set_option maxRecDepth 100000

theorem src_of_row {W : World} {x : Addr} {zs : List Value} {n : Nat} (hn : n ≤ zs.length) (hc : ∀ i, i < zs.length → W.cell? (x.add i) = some (zs.getD i undef)) : Src W (some x) (zs.take n) := by
  by_cases h0 : n = 0
  · subst h0; exact .inl (by simp)
  obtain ⟨b, o, spot⟩ := x
  have h1 := hc 0 (by omega)
  have hspot : spot = none := by simpa [Addr.add] using World.cell?_spot h1
  subst hspot
  refine .inr ⟨b, o, rfl, fun j hj => ?_⟩
  have hj2 : j < n := by simp at hj; omega
  have h2 := hc j (by omega)
  have e1 : (zs.take n).getD j undef = zs.getD j undef := by
    rw [List.getD_eq_getElem?_getD, List.getElem?_take, if_pos hj2, ← List.getD_eq_getElem?_getD]
  rw [e1, ← h2]
  congr 1
  unfold Addr.add
  split
  · rename_i h0; subst h0; rfl
  · rfl
section
variable {H : Type} {enc : TypeId × Value → H} {W : World} {v : Value} {fuel : Nat} {x : DataW H × List MemPlace}
theorem strings_arg (h : DataW.trod enc Try.prog W 0 (fun _ => true) true fuel 22 [v] = some x) :
    ∃ (L : List ByteArray) (a : Option Addr) (c : Nat), v = .slice a L.length c ∧ Src W a (cellsS L) ∧ L.length ≤ maxLen ∧ ∀ s ∈ L, s.size ≤ maxLen := by
  rcases open_strings Try.underlying22 Try.underlying9 (by kernel_rfl) h with ⟨hcs, _⟩ | ⟨ad, len, cap, ss, hcs, _, hl, hm, hz, _, hcell, hsz⟩
  · simp only [List.cons.injEq, and_true] at hcs
    exact ⟨[], none, 0, hcs, .inl rfl, by simp, fun s hs => by cases hs⟩
  · simp only [List.cons.injEq, and_true] at hcs
    rw [if_pos rfl] at hz
    have hlen : (ss.take len).length = len := by simp; omega
    refine ⟨ss.take len, some ad, cap, by rw [hlen]; exact hcs, ?_, by rw [hlen]; omega, fun s hs => hsz s (List.mem_of_mem_take hs)⟩
    have := src_of_row (W := W) (x := ad) (zs := cellsS ss) (n := len) (by rw [cellsS_length]; omega) (fun i hi => by
      rw [cellsS_length] at hi
      rw [hcell i hi, getD_some (cellsS_get ss i hi)]; rfl)
    rw [show cellsS (ss.take len) = (cellsS ss).take len from by simp [cellsS, List.map_take]]
    exact this
theorem six_cells {P : Program} {e : TypeId} {f0 f1 f2 f3 f4 f5 : Field} {cs : List Value} {n : Nat} (he : P.underlying e = some (.struct #[f0, f1, f2, f3, f4, f5])) (o0 : f0.offset = 0) (o1 : f1.offset = 1) (o2 : f2.offset = 2) (o3 : f3.offset = 3) (o4 : f4.offset = 4) (o5 : f5.offset = 5) (c0 : P.cellsOf f0.type = 1) (c1 : P.cellsOf f1.type = 1) (c2 : P.cellsOf f2.type = 1) (c3 : P.cellsOf f3.type = 1) (c4 : P.cellsOf f4.type = 1) (c5 : P.cellsOf f5.type = 1) (hlen : cs.length = 6)
    (h : DataW.trod enc P W 0 (fun _ => true) true n e cs = some x) : ∃ v0 v1 v2 v3 v4 v5 k y0 y1 y2 y3 y4 y5, cs = [v0, v1, v2, v3, v4, v5] ∧ DataW.trod enc P W 0 (fun _ => true) true k f0.type [v0] = some y0 ∧ DataW.trod enc P W 0 (fun _ => true) true k f1.type [v1] = some y1 ∧ DataW.trod enc P W 0 (fun _ => true) true k f2.type [v2] = some y2 ∧ DataW.trod enc P W 0 (fun _ => true) true k f3.type [v3] = some y3 ∧ DataW.trod enc P W 0 (fun _ => true) true k f4.type [v4] = some y4 ∧ DataW.trod enc P W 0 (fun _ => true) true k f5.type [v5] = some y5 := by
  obtain ⟨xs, k, hk, hxy, _, hxl, hf⟩ := DataW.trod_struct he h
  match xs, hxl, cs, hlen with
  | [y0, y1, y2, y3, y4, y5], _, [v0, v1, v2, v3, v4, v5], _ =>
    have g0 := hf 0 f0 rfl
    have g1 := hf 1 f1 rfl
    have g2 := hf 2 f2 rfl
    have g3 := hf 3 f3 rfl
    have g4 := hf 4 f4 rfl
    have g5 := hf 5 f5 rfl
    simp [o0, o1, o2, o3, o4, o5, c0, c1, c2, c3, c4, c5] at g0 g1 g2 g3 g4 g5
    exact ⟨v0, v1, v2, v3, v4, v5, k, y0, y1, y2, y3, y4, y5, rfl, g0, g1, g2, g3, g4, g5⟩
end
section
variable {H : Type} {enc : TypeId × Value → H} {W : World} {v : Value} {d : DataW H} {p : List MemPlace} {base : Nat}
/-- A session that came in. -/
theorem smtp_in (hv : Value.okWide Try.prog W .any base 29 v) (h : DataW.Trod enc Try.prog W 0 (fun _ => true) true 29 v d p) :
    ∃ D, ReadsT W v D ∧ maxT D := by
  obtain ⟨cs, rfl, hsz⟩ := okWide_struct Try.underlying29 hv
  obtain ⟨fuel, hf⟩ := h
  have hl : cs.toList.length = 6 := by
    have h9 : Try.prog.cellsOf 29 = 6 := by kernel_rfl
    rw [Array.length_toList, hsz, h9]
  obtain ⟨v0, v1, v2, v3, v4, v5, k, y0, y1, y2, y3, y4, y5, ec, h0, h1, h2, h3, h4, h5⟩ := six_cells Try.underlying29 rfl rfl rfl rfl rfl rfl (by kernel_rfl) (by kernel_rfl) (by kernel_rfl) (by kernel_rfl) (by kernel_rfl) (by kernel_rfl) hl (show DataW.trod _ _ _ _ _ _ _ _ cs.toList = _ by simpa [Value.cells] using hf)
  obtain rfl : cs = #[v0, v1, v2, v3, v4, v5] := by cases cs; simp_all
  obtain ⟨b0, e0, _⟩ := DataW.trod_bool Try.underlying4 h0
  obtain ⟨b1, e1, _⟩ := DataW.trod_bool Try.underlying4 h1
  obtain ⟨b2, e2, _⟩ := DataW.trod_bool Try.underlying4 h2
  obtain ⟨s3, e3, _, m3⟩ := DataW.trod_string Try.underlying9 h3
  obtain ⟨L4, a4, c4, rfl, r4, m4, k4⟩ := strings_arg h4
  obtain ⟨L5, a5, c5, rfl, r5, m5, k5⟩ := strings_arg h5
  simp only [List.cons.injEq, and_true] at e0 e1 e2 e3
  subst e0 e1 e2 e3
  exact ⟨⟨b0, b1, b2, s3, L4, L5⟩, ⟨a4, c4, a5, c5, rfl, r4, r5⟩, ⟨m4, k4⟩, ⟨m5, k5⟩, m3⟩
end
end Go.Proofs.Ytbaljcdiofoppaa
