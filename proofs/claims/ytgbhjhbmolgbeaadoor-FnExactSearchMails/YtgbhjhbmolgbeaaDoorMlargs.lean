
/-
  What the form tells of mails that came in. By an AI agent.
-/
import Derived.Test.YtgbhjhbmolgbeaaDoorMargs
import Derived.Test.YtgbhjhbmolgbeaaDoorListsm
import Derived.Deep.Slices
namespace Go.Proofs.YtgbhjhbmolgbeaaDoor
open Go.ChangeShapes Go.WideShapes Go.ChangeAt Go.RowKit Go.Deep
set_option linter.unusedVariables false
set_option maxRecDepth 100000

theorem own_capx {w : World} {base e s n c : Nat} {a : Option Addr} {xs : List Value} (h : w.ownsRow base e s (.slice a n c) n xs) : n ≤ c ∧ c ≤ maxLen := by
  obtain ⟨_, ⟨e1, h0⟩ | ⟨g, cap, cur, e1, _, _, h1, h2, _⟩⟩ := h
  · cases e1; exact ⟨by omega, by unfold maxLen; omega⟩
  · cases e1; exact ⟨h1, h2⟩
section
variable {H : Type} {enc : TypeId × Value → H} {W : World} {v : Value} {fuel : Nat} {x : DataW H × List MemPlace}
theorem three_cells {P : Program} {e : TypeId} {f0 f1 f2 : Field} {cs : List Value} {n : Nat} (he : P.underlying e = some (.struct #[f0, f1, f2])) (o0 : f0.offset = 0) (o1 : f1.offset = 1) (o2 : f2.offset = 2) (c0 : P.cellsOf f0.type = 1) (c1 : P.cellsOf f1.type = 1) (c2 : P.cellsOf f2.type = 1) (hlen : cs.length = 3)
    (h : DataW.trod enc P W 0 (fun _ => true) true n e cs = some x) : ∃ v0 v1 v2 k y0 y1 y2, cs = [v0, v1, v2] ∧ DataW.trod enc P W 0 (fun _ => true) true k f0.type [v0] = some y0 ∧ DataW.trod enc P W 0 (fun _ => true) true k f1.type [v1] = some y1 ∧ DataW.trod enc P W 0 (fun _ => true) true k f2.type [v2] = some y2 := by
  obtain ⟨xs, k, hk, hxy, _, hxl, hf⟩ := DataW.trod_struct he h
  match xs, hxl, cs, hlen with
  | [y0, y1, y2], _, [v0, v1, v2], _ =>
    have g0 := hf 0 f0 rfl
    have g1 := hf 1 f1 rfl
    have g2 := hf 2 f2 rfl
    simp [o0, o1, o2, c0, c1, c2] at g0 g1 g2
    exact ⟨v0, v1, v2, k, y0, y1, y2, rfl, g0, g1, g2⟩
theorem mails_arg (h : DataW.trod enc Tryd.prog W 0 (fun _ => true) true fuel 52 [v] = some x) :
    ∃ (L : List MMl) (a : Option Addr) (c : Nat), v = .slice a L.length c ∧ Src W a (cellsMl L) ∧ L.length ≤ maxLen ∧ ∀ s ∈ L, s.2.2.size ≤ maxLen := by
  rcases open_slice Tryd.underlying52 h with ⟨hcs, _⟩ | ⟨ad, len, cap, m, n, D, Pl, hcs, _, hl, hm, hmm, _, hall⟩
  · simp only [List.cons.injEq, and_true] at hcs
    exact ⟨[], none, 0, hcs, .inl rfl, by simp, fun s hs => by cases hs⟩
  · simp only [List.cons.injEq, and_true] at hcs
    rw [if_pos rfl] at hmm
    subst hmm
    have ce : Tryd.prog.cellsOf 84 = 3 := by kernel_rfl
    rw [ce] at hall
    have each : ∀ i, i < m → ∃ q : MMl, W.cell? (ad.add (i * 3)) = some (.int .i64 q.1) ∧ W.cell? (ad.add (i * 3 + 1)) = some (.int .i64 q.2.1) ∧ W.cell? (ad.add (i * 3 + 2)) = some (.string q.2.2) ∧ q.2.2.size ≤ maxLen := by
      intro i hi
      obtain ⟨cs', h1, h2⟩ := hall i hi
      obtain ⟨_, hlen, hcell⟩ := World.cells?_some h1
      obtain ⟨v0, v1, v2, k, y0, y1, y2, rfl, g0, g1, g2⟩ := three_cells Tryd.underlying84 rfl rfl rfl (by kernel_rfl) (by kernel_rfl) (by kernel_rfl) hlen h2
      have e0 := hcell 0 (by omega)
      have e1 := hcell 1 (by omega)
      have e2 := hcell 2 (by omega)
      rw [add_add] at e0 e1 e2
      obtain ⟨n0, z0, _⟩ := DataW.trod_int Tryd.underlying3 g0
      obtain ⟨n1, z1, _⟩ := DataW.trod_int Tryd.underlying3 g1
      obtain ⟨s2, z2, _, m2⟩ := DataW.trod_string Tryd.underlying9 g2
      simp only [List.cons.injEq, and_true] at z0 z1 z2
      subst z0 z1 z2
      exact ⟨(n0, n1, s2), by simpa using e0, by simpa using e1, by simpa using e2, m2⟩
    haveI : Inhabited MMl := ⟨ml0⟩
    obtain ⟨q, hq⟩ := choose_lt each
    have hlen : ((List.range len).map q).length = len := by simp
    refine ⟨(List.range len).map q, some ad, m, by rw [hlen]; exact hcs, ?_, by rw [hlen]; omega, fun s hs => ?_⟩
    · by_cases h0 : len = 0
      · subst h0; exact .inl rfl
      obtain ⟨b, o, spot⟩ := ad
      have hc0 := (hq 0 (by omega)).1
      have hspot : spot = none := by simpa [Addr.add] using World.cell?_spot hc0
      subst hspot
      refine .inr ⟨b, o, rfl, fun j hj => ?_⟩
      rw [cellsMl_length, hlen] at hj
      have hd : (((List.range len).map q).getD (j / 3) ml0) = q (j / 3) := by
        rw [List.getD_eq_getElem?_getD]
        simp [show j / 3 < len from by omega]
      obtain ⟨d0, d1, d2⟩ := cellsMl_get ((List.range len).map q) (j / 3) (by rw [hlen]; omega)
      obtain ⟨t0, t1, t2, _⟩ := hq (j / 3) (by omega)
      rw [hd] at d0 d1 d2
      rw [add_plain] at t0 t1 t2
      have hmod : j % 3 = 0 ∨ j % 3 = 1 ∨ j % 3 = 2 := by omega
      rcases hmod with e | e | e
      · rw [show j / 3 * 3 = j from by omega] at d0 t0
        rw [getD_some d0, t0]
      · rw [show j / 3 * 3 + 1 = j from by omega] at d1 t1
        rw [getD_some d1, t1]
      · rw [show j / 3 * 3 + 2 = j from by omega] at d2 t2
        rw [getD_some d2, t2]
    · rw [List.mem_map] at hs
      obtain ⟨i, hi, rfl⟩ := hs
      rw [List.mem_range] at hi
      exact (hq i (by omega)).2.2.2
end
section
variable {H : Type} {enc : TypeId × Value → H} {W : World} {v : Value} {d : DataW H} {p : List MemPlace} {base : Nat}
theorem mailsl_in (hv : Value.okWide Tryd.prog W .any base 52 v) (h : DataW.Trod enc Tryd.prog W 0 (fun _ => true) true 52 v d p) :
    ∃ (A : Option Addr) (C : Nat) (L : List MMl), v = .slice A L.length C ∧ Src W A (cellsMl L) ∧ L.length ≤ maxLen ∧ ∀ s ∈ L, s.2.2.size ≤ maxLen := by
  obtain ⟨a, len, cap, rfl⟩ := okWide_slice Tryd.underlying52 hv
  obtain ⟨fuel, hf⟩ := h
  obtain ⟨L, b, c, e, sl, ml⟩ := mails_arg (show DataW.trod _ _ _ _ _ _ _ _ [.slice a len cap] = _ by simpa [Value.cells] using hf)
  exact ⟨b, c, L, e, sl, ml⟩
end
end Go.Proofs.YtgbhjhbmolgbeaaDoor
