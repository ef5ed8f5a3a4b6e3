
/-
  What the form tells of pairs and differences that came in. By an AI agent.
-/
import Derived.Test.YtmbndpgoihdpnaaDoorArgs
import Derived.Test.YtmbndpgoihdpnaaDoorListsd
import Derived.Deep.Slices
namespace Go.Proofs.YtmbndpgoihdpnaaDoor
open Go.ChangeShapes Go.WideShapes Go.ChangeAt Go.RowKit Go.Deep
set_option linter.unusedVariables false
set_option maxRecDepth 100000

section
variable {H : Type} {enc : TypeId × Value → H} {W : World} {v : Value} {fuel : Nat} {x : DataW H × List MemPlace}
theorem five_cells {P : Program} {e : TypeId} {f0 f1 f2 f3 f4 : Field} {cs : List Value} {n : Nat} (he : P.underlying e = some (.struct #[f0, f1, f2, f3, f4])) (o0 : f0.offset = 0) (o1 : f1.offset = 1) (o2 : f2.offset = 2) (o3 : f3.offset = 3) (o4 : f4.offset = 4) (c0 : P.cellsOf f0.type = 1) (c1 : P.cellsOf f1.type = 1) (c2 : P.cellsOf f2.type = 1) (c3 : P.cellsOf f3.type = 1) (c4 : P.cellsOf f4.type = 1) (hlen : cs.length = 5)
    (h : DataW.trod enc P W 0 (fun _ => true) true n e cs = some x) : ∃ v0 v1 v2 v3 v4 k y0 y1 y2 y3 y4, cs = [v0, v1, v2, v3, v4] ∧ DataW.trod enc P W 0 (fun _ => true) true k f0.type [v0] = some y0 ∧ DataW.trod enc P W 0 (fun _ => true) true k f1.type [v1] = some y1 ∧ DataW.trod enc P W 0 (fun _ => true) true k f2.type [v2] = some y2 ∧ DataW.trod enc P W 0 (fun _ => true) true k f3.type [v3] = some y3 ∧ DataW.trod enc P W 0 (fun _ => true) true k f4.type [v4] = some y4 := by
  obtain ⟨xs, k, hk, hxy, _, hxl, hf⟩ := DataW.trod_struct he h
  match xs, hxl, cs, hlen with
  | [y0, y1, y2, y3, y4], _, [v0, v1, v2, v3, v4], _ =>
    have g0 := hf 0 f0 rfl
    have g1 := hf 1 f1 rfl
    have g2 := hf 2 f2 rfl
    have g3 := hf 3 f3 rfl
    have g4 := hf 4 f4 rfl
    simp [o0, o1, o2, o3, o4, c0, c1, c2, c3, c4] at g0 g1 g2 g3 g4
    exact ⟨v0, v1, v2, v3, v4, k, y0, y1, y2, y3, y4, rfl, g0, g1, g2, g3, g4⟩
theorem diffs_arg (h : DataW.trod enc Tryd.prog W 0 (fun _ => true) true fuel 53 [v] = some x) :
    ∃ (L : List MDf) (a : Option Addr) (c : Nat), v = .slice a L.length c ∧ Src W a (cellsDf L) ∧ L.length ≤ maxLen ∧ ∀ s ∈ L, s.1.size ≤ maxLen ∧ s.2.1.size ≤ maxLen ∧ s.2.2.1.size ≤ maxLen := by
  rcases open_slice Tryd.underlying53 h with ⟨hcs, _⟩ | ⟨ad, len, cap, m, n, D, Pl, hcs, _, hl, hm, hmm, _, hall⟩
  · simp only [List.cons.injEq, and_true] at hcs
    exact ⟨[], none, 0, hcs, .inl rfl, by simp, fun s hs => by cases hs⟩
  · simp only [List.cons.injEq, and_true] at hcs
    rw [if_pos rfl] at hmm
    subst hmm
    have ce : Tryd.prog.cellsOf 120 = 5 := by kernel_rfl
    rw [ce] at hall
    have each : ∀ i, i < m → ∃ q : MDf, W.cell? (ad.add (i * 5)) = some (.string q.1) ∧ W.cell? (ad.add (i * 5 + 1)) = some (.string q.2.1) ∧ W.cell? (ad.add (i * 5 + 2)) = some (.string q.2.2.1) ∧ W.cell? (ad.add (i * 5 + 3)) = some (.bool q.2.2.2.1) ∧ W.cell? (ad.add (i * 5 + 4)) = some (.bool q.2.2.2.2) ∧ q.1.size ≤ maxLen ∧ q.2.1.size ≤ maxLen ∧ q.2.2.1.size ≤ maxLen := by
      intro i hi
      obtain ⟨cs', h1, h2⟩ := hall i hi
      obtain ⟨_, hlen, hcell⟩ := World.cells?_some h1
      obtain ⟨v0, v1, v2, v3, v4, k, y0, y1, y2, y3, y4, rfl, g0, g1, g2, g3, g4⟩ := five_cells Tryd.underlying120 rfl rfl rfl rfl rfl (by kernel_rfl) (by kernel_rfl) (by kernel_rfl) (by kernel_rfl) (by kernel_rfl) hlen h2
      have e0 := hcell 0 (by omega)
      have e1 := hcell 1 (by omega)
      have e2 := hcell 2 (by omega)
      have e3 := hcell 3 (by omega)
      have e4 := hcell 4 (by omega)
      rw [add_add] at e0 e1 e2 e3 e4
      obtain ⟨s0, z0, _, m0⟩ := DataW.trod_string Tryd.underlying9 g0
      obtain ⟨s1, z1, _, m1⟩ := DataW.trod_string Tryd.underlying9 g1
      obtain ⟨s2, z2, _, m2⟩ := DataW.trod_string Tryd.underlying9 g2
      obtain ⟨b3, z3, _⟩ := DataW.trod_bool Tryd.underlying4 g3
      obtain ⟨b4, z4, _⟩ := DataW.trod_bool Tryd.underlying4 g4
      simp only [List.cons.injEq, and_true] at z0 z1 z2 z3 z4
      subst z0 z1 z2 z3 z4
      exact ⟨(s0, s1, s2, b3, b4), by simpa using e0, by simpa using e1, by simpa using e2, by simpa using e3, by simpa using e4, m0, m1, m2⟩
    haveI : Inhabited MDf := ⟨df0⟩
    obtain ⟨q, hq⟩ := choose_lt each
    have hlen : ((List.range len).map q).length = len := by simp
    refine ⟨(List.range len).map q, some ad, m, by rw [hlen]; exact hcs, ?_, by rw [hlen]; omega, fun s hs => ?_⟩
    · by_cases h0 : len = 0
      · subst h0; exact .inl rfl
      obtain ⟨b, o, spot⟩ := ad
      have hc0 := (hq 0 (by omega)).1
      have hspot : spot = none := by simpa [Addr.add] using World.cell?_spot hc0
      subst hspot
      refine .inr ⟨b, o, rfl, fun j hj => ?_⟩
      rw [cellsDf_length, hlen] at hj
      have hd : (((List.range len).map q).getD (j / 5) df0) = q (j / 5) := by
        rw [List.getD_eq_getElem?_getD]
        simp [show j / 5 < len from by omega]
      obtain ⟨d0, d1, d2, d3, d4⟩ := cellsDf_get ((List.range len).map q) (j / 5) (by rw [hlen]; omega)
      obtain ⟨t0, t1, t2, t3, t4, _⟩ := hq (j / 5) (by omega)
      rw [hd] at d0 d1 d2 d3 d4
      rw [add_plain] at t0 t1 t2 t3 t4
      have hmod : j % 5 = 0 ∨ j % 5 = 1 ∨ j % 5 = 2 ∨ j % 5 = 3 ∨ j % 5 = 4 := by omega
      rcases hmod with e | e | e | e | e
      · rw [show j / 5 * 5 = j from by omega] at d0 t0
        rw [getD_some d0, t0]
      · rw [show j / 5 * 5 + 1 = j from by omega] at d1 t1
        rw [getD_some d1, t1]
      · rw [show j / 5 * 5 + 2 = j from by omega] at d2 t2
        rw [getD_some d2, t2]
      · rw [show j / 5 * 5 + 3 = j from by omega] at d3 t3
        rw [getD_some d3, t3]
      · rw [show j / 5 * 5 + 4 = j from by omega] at d4 t4
        rw [getD_some d4, t4]
    · rw [List.mem_map] at hs
      obtain ⟨i, hi, rfl⟩ := hs
      rw [List.mem_range] at hi
      exact (hq i (by omega)).2.2.2.2.2
end
section
variable {H : Type} {enc : TypeId × Value → H} {W : World} {v : Value} {d : DataW H} {p : List MemPlace} {base : Nat}
theorem diffsl_in (hv : Value.okWide Tryd.prog W .any base 53 v) (h : DataW.Trod enc Tryd.prog W 0 (fun _ => true) true 53 v d p) :
    ∃ (A : Option Addr) (C : Nat) (L : List MDf), v = .slice A L.length C ∧ Src W A (cellsDf L) ∧ L.length ≤ maxLen ∧ ∀ s ∈ L, s.1.size ≤ maxLen ∧ s.2.1.size ≤ maxLen ∧ s.2.2.1.size ≤ maxLen := by
  obtain ⟨a, len, cap, rfl⟩ := okWide_slice Tryd.underlying53 hv
  obtain ⟨fuel, hf⟩ := h
  obtain ⟨L, b, c, e, sl, ml⟩ := diffs_arg (show DataW.trod _ _ _ _ _ _ _ _ [.slice a len cap] = _ by simpa [Value.cells] using hf)
  exact ⟨b, c, L, e, sl, ml⟩
end
end Go.Proofs.YtmbndpgoihdpnaaDoor
