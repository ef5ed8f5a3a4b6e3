
/-
  What the form tells of a heap that came in. By an AI agent.
-/
import Derived.Test.YtmpaophegdeokaaArgs
import Derived.Test.YtmpaophegdeokaaHeaps4
import Derived.Deep.Slices
namespace Go.Proofs.Ytmpaophegdeokaa
open Go.ChangeShapes Go.WideShapes Go.ChangeAt Go.RowKit Go.Deep
set_option linter.unusedVariables false
set_option maxRecDepth 100000

section
variable {H : Type} {enc : TypeId × Value → H} {W : World} {v : Value} {fuel : Nat} {x : DataW H × List MemPlace}
theorem quad_cells {P : Program} {e : TypeId} {f0 f1 f2 f3 : Field} {cs : List Value} {n : Nat} (he : P.underlying e = some (.struct #[f0, f1, f2, f3])) (o0 : f0.offset = 0) (o1 : f1.offset = 1) (o2 : f2.offset = 2) (o3 : f3.offset = 3) (c0 : P.cellsOf f0.type = 1) (c1 : P.cellsOf f1.type = 1) (c2 : P.cellsOf f2.type = 1) (c3 : P.cellsOf f3.type = 1) (hlen : cs.length = 4)
    (h : DataW.trod enc P W 0 (fun _ => true) true n e cs = some x) : ∃ v0 v1 v2 v3 k y0 y1 y2 y3, cs = [v0, v1, v2, v3] ∧ DataW.trod enc P W 0 (fun _ => true) true k f0.type [v0] = some y0 ∧ DataW.trod enc P W 0 (fun _ => true) true k f1.type [v1] = some y1 ∧ DataW.trod enc P W 0 (fun _ => true) true k f2.type [v2] = some y2 ∧ DataW.trod enc P W 0 (fun _ => true) true k f3.type [v3] = some y3 := by
  obtain ⟨xs, k, hk, hxy, _, hxl, hf⟩ := DataW.trod_struct he h
  match xs, hxl, cs, hlen with
  | [y0, y1, y2, y3], _, [v0, v1, v2, v3], _ =>
    have g0 := hf 0 f0 rfl
    have g1 := hf 1 f1 rfl
    have g2 := hf 2 f2 rfl
    have g3 := hf 3 f3 rfl
    simp [o0, o1, o2, o3, c0, c1, c2, c3] at g0 g1 g2 g3
    exact ⟨v0, v1, v2, v3, k, y0, y1, y2, y3, rfl, g0, g1, g2, g3⟩
theorem one_cell {P : Program} {e : TypeId} {f0 : Field} {cs : List Value} {n : Nat} (he : P.underlying e = some (.struct #[f0])) (o0 : f0.offset = 0) (c0 : P.cellsOf f0.type = 1) (hlen : cs.length = 1)
    (h : DataW.trod enc P W 0 (fun _ => true) true n e cs = some x) : ∃ v0 k y0, cs = [v0] ∧ DataW.trod enc P W 0 (fun _ => true) true k f0.type [v0] = some y0 := by
  obtain ⟨xs, k, hk, hxy, _, hxl, hf⟩ := DataW.trod_struct he h
  match xs, hxl, cs, hlen with
  | [y0], _, [v0], _ =>
    have g0 := hf 0 f0 rfl
    simp [o0, c0] at g0
    exact ⟨v0, k, y0, rfl, g0⟩
theorem nodes_arg (h : DataW.trod enc Try.prog W 0 (fun _ => true) true fuel 65 [v] = some x) :
    ∃ (L : List NM) (a : Option Addr) (c : Nat), v = .slice a L.length c ∧ ReadsHL W a L ∧ L.length ≤ maxLen ∧ ∀ D ∈ L, maxN D := by
  rcases open_slice Try.underlying65 h with ⟨hcs, _⟩ | ⟨ad, len, cap, m, n, D, Pl, hcs, _, hl, hm, hmm, _, hall⟩
  · simp only [List.cons.injEq, and_true] at hcs
    exact ⟨[], none, 0, hcs, ⟨[], rfl, .inl rfl, fun i hi => by cases hi⟩, by simp, fun s hs => by cases hs⟩
  · simp only [List.cons.injEq, and_true] at hcs
    rw [if_pos rfl] at hmm
    subst hmm
    have ce : Try.prog.cellsOf 166 = 4 := by kernel_rfl
    rw [ce] at hall
    have each : ∀ i, i < m → ∃ q : NV × NM, W.cell? (ad.add (i * 4)) = some (.bool q.1.A) ∧ W.cell? (ad.add (i * 4 + 1)) = some q.1.v1 ∧ W.cell? (ad.add (i * 4 + 2)) = some q.1.v2 ∧ W.cell? (ad.add (i * 4 + 3)) = some q.1.v3 ∧ ReadsN W q.1.val q.2 ∧ maxN q.2 := by
      intro i hi
      obtain ⟨cs', h1, h2⟩ := hall i hi
      obtain ⟨_, hlen, hcell⟩ := World.cells?_some h1
      obtain ⟨v0, v1, v2, v3, k, y0, y1, y2, y3, rfl, g0, g1, g2, g3⟩ := quad_cells Try.underlying166 rfl rfl rfl rfl (by kernel_rfl) (by kernel_rfl) (by kernel_rfl) (by kernel_rfl) hlen h2
      have e0 := hcell 0 (by omega)
      have e1 := hcell 1 (by omega)
      have e2 := hcell 2 (by omega)
      have e3 := hcell 3 (by omega)
      rw [add_add] at e0 e1 e2 e3
      obtain ⟨b, z0, _⟩ := DataW.trod_bool Try.underlying4 g0
      obtain ⟨L1, a1, c1, rfl, s1, m1, k1⟩ := pairs_arg g1
      obtain ⟨L2, a2, c2, rfl, s2, m2, k2⟩ := strings_arg g2
      obtain ⟨L3, a3, c3, rfl, s3, m3⟩ := ints_arg g3
      simp only [List.cons.injEq, and_true] at z0
      subst z0
      exact ⟨(⟨b, .slice a1 L1.length c1, .slice a2 L2.length c2, .slice a3 L3.length c3⟩, ⟨b, L1, L2, L3⟩), by simpa using e0, by simpa using e1, by simpa using e2, by simpa using e3, ⟨a1, c1, a2, c2, a3, c3, rfl, s1, s2, s3⟩, m1, k1, m2, k2, m3⟩
    haveI : Inhabited (NV × NM) := ⟨(nv0, nm0)⟩
    obtain ⟨q, hq⟩ := choose_lt each
    have hlen : ((List.range len).map fun i => (q i).2).length = len := by simp
    have hlen1 : ((List.range len).map fun i => (q i).1).length = len := by simp
    have gV : ∀ i, i < len → (((List.range len).map fun i => (q i).1).getD i nv0) = (q i).1 := fun i hi => by
      rw [List.getD_eq_getElem?_getD]; simp [hi]
    have gH : ∀ i, i < len → (((List.range len).map fun i => (q i).2).getD i nm0) = (q i).2 := fun i hi => by
      rw [List.getD_eq_getElem?_getD]; simp [hi]
    refine ⟨(List.range len).map fun i => (q i).2, some ad, m, by rw [hlen]; exact hcs, ⟨(List.range len).map fun i => (q i).1, by rw [hlen, hlen1], ?_, fun i hi => ?_⟩, by rw [hlen]; omega, fun s hs => ?_⟩
    · by_cases h0 : len = 0
      · subst h0; exact .inl rfl
      obtain ⟨b, o, spot⟩ := ad
      have hc0 := (hq 0 (by omega)).1
      have hspot : spot = none := by simpa [Addr.add] using World.cell?_spot hc0
      subst hspot
      refine .inr ⟨b, o, rfl, fun j hj => ?_⟩
      rw [cellsN_length, hlen1] at hj
      obtain ⟨d0, d1, d2, d3⟩ := cellsN_get ((List.range len).map fun i => (q i).1) (j / 4) (by rw [hlen1]; omega)
      obtain ⟨t0, t1, t2, t3, _⟩ := hq (j / 4) (by omega)
      rw [gV (j / 4) (by omega)] at d0 d1 d2 d3
      rw [add_plain] at t0 t1 t2 t3
      have hmod : j % 4 = 0 ∨ j % 4 = 1 ∨ j % 4 = 2 ∨ j % 4 = 3 := by omega
      rcases hmod with e | e | e | e
      · rw [show j / 4 * 4 = j from by omega] at d0 t0
        rw [getD_some d0, t0]
      · rw [show j / 4 * 4 + 1 = j from by omega] at d1 t1
        rw [getD_some d1, t1]
      · rw [show j / 4 * 4 + 2 = j from by omega] at d2 t2
        rw [getD_some d2, t2]
      · rw [show j / 4 * 4 + 3 = j from by omega] at d3 t3
        rw [getD_some d3, t3]
    · rw [hlen] at hi
      rw [gV i hi, gH i hi]
      exact (hq i (by omega)).2.2.2.2.1
    · rw [List.mem_map] at hs
      obtain ⟨i, hi, rfl⟩ := hs
      rw [List.mem_range] at hi
      exact (hq i (by omega)).2.2.2.2.2
end
section
variable {H : Type} {enc : TypeId × Value → H} {W : World} {v : Value} {d : DataW H} {p : List MemPlace} {base : Nat}
/-- A heap that came in. -/
theorem heap_in (hv : Value.okWide Try.prog W .any base 67 v) (h : DataW.Trod enc Try.prog W 0 (fun _ => true) true 67 v d p) :
    ∃ D, ReadsH W v D ∧ D.length ≤ maxLen ∧ ∀ x ∈ D, maxN x := by
  obtain ⟨cs, rfl, hsz⟩ := okWide_struct Try.underlying67 hv
  have hC : Try.prog.cellsOf 67 = 1 := by kernel_rfl
  rw [hC] at hsz
  obtain ⟨fuel, hf⟩ := h
  obtain ⟨v0, k, y0, hcs, g0⟩ := one_cell Try.underlying67 rfl (by kernel_rfl) (by simpa [Value.cells] using hsz) (show DataW.trod _ _ _ _ _ _ _ _ cs.toList = _ by simpa [Value.cells] using hf)
  obtain ⟨L, a, c, rfl, s1, m1, k1⟩ := nodes_arg g0
  refine ⟨L, ⟨a, c, ?_, s1⟩, m1, k1⟩
  congr 1
  exact Array.toList_inj.1 (by rw [hcs])
end
end Go.Proofs.Ytmpaophegdeokaa
