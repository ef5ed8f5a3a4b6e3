
/-
  What the form tells of a state that came in. By an AI agent.
-/
import Derived.Test.YtedbgofjgnidiaaPargs
import Derived.Test.YtedbgofjgnidiaaKpc
namespace Go.Proofs.Ytedbgofjgnidiaa
open Go.ChangeShapes Go.WideShapes Go.ChangeAt Go.RowKit Go.Deep
set_option linter.unusedVariables false
set_option maxRecDepth 100000

section
variable {H : Type} {enc : TypeId × Value → H} {W : World} {v : Value} {fuel : Nat} {x : DataW H × List MemPlace}
theorem three_cells {P : Program} {e : TypeId} {f0 f1 f2 : Field} {cs : List Value} {n : Nat} (he : P.underlying e = some (.struct #[f0, f1, f2])) (o0 : f0.offset = 0) (o1 : f1.offset = 1) (o2 : f2.offset = 2) (c0 : P.cellsOf f0.type = 1) (c1 : P.cellsOf f1.type = 1) (c2 : P.cellsOf f2.type = 1) (hlen : cs.length = 3)
    (h : DataW.trod enc P W 0 (fun _ => true) true n e cs = some x) : ∃ v0 v1 v2 k y0 y1 y2, cs = [v0, v1, v2] ∧ DataW.trod enc P W 0 (fun _ => true) true k f0.type [v0] = some y0 ∧ DataW.trod enc P W 0 (fun _ => true) true k f1.type [v1] = some y1 ∧ DataW.trod enc P W 0 (fun _ => true) true k f2.type [v2] = some y2 := by
  obtain ⟨xs, k, hk, hxy, _, hxl, hf⟩ := DataW.trod_struct he h
  match xs, hxl, cs, hlen with
  | [y0, y1, y2], _, [v0, v1, v2], _ =>
    have g0 := hf 0 f0 rfl
    have g1 := hf 1 f1 rfl
    have g2 := hf 2 f2 rfl
    simp [o0, o1, o2, c0, c1, c2] at g0 g1 g2
    exact ⟨v0, v1, v2, k, y0, y1, y2, rfl, g0, g1, g2⟩
theorem kepts_arg (h : DataW.trod enc Try.prog W 0 (fun _ => true) true fuel 23 [v] = some x) :
    ∃ (L : List KeM) (a : Option Addr) (c : Nat), v = .slice a L.length c ∧ ReadsKL W a L ∧ L.length ≤ maxLen ∧ ∀ D ∈ L, maxKe D := by
  rcases open_slice Try.underlying23 h with ⟨hcs, _⟩ | ⟨ad, len, cap, m, n, D, Pl, hcs, _, hl, hm, hmm, _, hall⟩
  · simp only [List.cons.injEq, and_true] at hcs
    exact ⟨[], none, 0, hcs, ⟨[], rfl, .inl rfl, fun i hi => by cases hi⟩, by simp, fun s hs => by cases hs⟩
  · simp only [List.cons.injEq, and_true] at hcs
    rw [if_pos rfl] at hmm
    subst hmm
    have ce : Try.prog.cellsOf 50 = 3 := by kernel_rfl
    rw [ce] at hall
    have each : ∀ i, i < m → ∃ q : KeV × KeM, W.cell? (ad.add (i * 3)) = some (.string q.1.S) ∧ W.cell? (ad.add (i * 3 + 1)) = some (.int .i64 q.1.T) ∧ W.cell? (ad.add (i * 3 + 2)) = some q.1.v1 ∧ ReadsKe W q.1.val q.2 ∧ maxKe q.2 := by
      intro i hi
      obtain ⟨cs', h1, h2⟩ := hall i hi
      obtain ⟨_, hlen, hcell⟩ := World.cells?_some h1
      obtain ⟨v0, v1, v2, k, y0, y1, y2, rfl, g0, g1, g2⟩ := three_cells Try.underlying50 rfl rfl rfl (by kernel_rfl) (by kernel_rfl) (by kernel_rfl) hlen h2
      have e0 := hcell 0 (by omega)
      have e1 := hcell 1 (by omega)
      have e2 := hcell 2 (by omega)
      rw [add_add] at e0 e1 e2
      obtain ⟨s0, z0, _, m0⟩ := DataW.trod_string Try.underlying9 g0
      obtain ⟨n1, z1, _⟩ := DataW.trod_int Try.underlying3 g1
      obtain ⟨L1, a1, c1, rfl, s1, m1, k1⟩ := pairs_arg g2
      simp only [List.cons.injEq, and_true] at z0 z1
      subst z0 z1
      exact ⟨(⟨s0, n1, .slice a1 L1.length c1⟩, ⟨s0, n1, L1⟩), by simpa using e0, by simpa using e1, by simpa using e2, ⟨a1, c1, rfl, s1⟩, m0, m1, k1⟩
    haveI : Inhabited (KeV × KeM) := ⟨(kv0, ke0)⟩
    obtain ⟨q, hq⟩ := choose_lt each
    have hlen : ((List.range len).map fun i => (q i).2).length = len := by simp
    have hlen1 : ((List.range len).map fun i => (q i).1).length = len := by simp
    have gV : ∀ i, i < len → (((List.range len).map fun i => (q i).1).getD i kv0) = (q i).1 := fun i hi => by
      rw [List.getD_eq_getElem?_getD]; simp [hi]
    have gH : ∀ i, i < len → (((List.range len).map fun i => (q i).2).getD i ke0) = (q i).2 := fun i hi => by
      rw [List.getD_eq_getElem?_getD]; simp [hi]
    refine ⟨(List.range len).map fun i => (q i).2, some ad, m, by rw [hlen]; exact hcs, ⟨(List.range len).map fun i => (q i).1, by rw [hlen, hlen1], ?_, fun i hi => ?_⟩, by rw [hlen]; omega, fun s hs => ?_⟩
    · by_cases h0 : len = 0
      · subst h0; exact .inl rfl
      obtain ⟨b, o, spot⟩ := ad
      have hc0 := (hq 0 (by omega)).1
      have hspot : spot = none := by simpa [Addr.add] using World.cell?_spot hc0
      subst hspot
      refine .inr ⟨b, o, rfl, fun j hj => ?_⟩
      rw [cellsKe_length, hlen1] at hj
      obtain ⟨d0, d1, d2⟩ := cellsKe_get ((List.range len).map fun i => (q i).1) (j / 3) (by rw [hlen1]; omega)
      obtain ⟨t0, t1, t2, _⟩ := hq (j / 3) (by omega)
      rw [gV (j / 3) (by omega)] at d0 d1 d2
      rw [add_plain] at t0 t1 t2
      have hmod : j % 3 = 0 ∨ j % 3 = 1 ∨ j % 3 = 2 := by omega
      rcases hmod with e | e | e
      · rw [show j / 3 * 3 = j from by omega] at d0 t0
        rw [getD_some d0, t0]
      · rw [show j / 3 * 3 + 1 = j from by omega] at d1 t1
        rw [getD_some d1, t1]
      · rw [show j / 3 * 3 + 2 = j from by omega] at d2 t2
        rw [getD_some d2, t2]
    · rw [hlen] at hi
      rw [gV i hi, gH i hi]
      exact (hq i (by omega)).2.2.2.1
    · rw [List.mem_map] at hs
      obtain ⟨i, hi, rfl⟩ := hs
      rw [List.mem_range] at hi
      exact (hq i (by omega)).2.2.2.2
end
section
variable {H : Type} {enc : TypeId × Value → H} {W : World} {v : Value} {d : DataW H} {p : List MemPlace} {base : Nat}
/-- A state that came in. -/
theorem state_in (hv : Value.okWide Try.prog W .any base 25 v) (h : DataW.Trod enc Try.prog W 0 (fun _ => true) true 25 v d p) :
    ∃ D, ReadsSt W v D ∧ maxSt D := by
  obtain ⟨v0, v1, y0, y1, n, rfl, _, _, h0, h1⟩ := Joins.open_agg2 Try.underlying25 (by kernel_rfl) (by kernel_rfl) hv h
  obtain ⟨L1, a1, c1, rfl, s1, m1, k1⟩ := pairs_arg h0
  obtain ⟨L2, a2, c2, rfl, s2, m2, k2⟩ := kepts_arg h1
  exact ⟨⟨L1, L2⟩, ⟨a1, c1, a2, c2, rfl, s1, s2⟩, m1, k1, m2, k2⟩
end
end Go.Proofs.Ytedbgofjgnidiaa
