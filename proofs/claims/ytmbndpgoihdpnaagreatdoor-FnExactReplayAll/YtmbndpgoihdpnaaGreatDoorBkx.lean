
/-
  What the form tells of a row of backups that came in. By an AI agent.
-/
import Derived.Test.YtmbndpgoihdpnaaGreatDoorRa4
import Derived.Test.YtmbndpgoihdpnaaGreatDoorRb1
namespace Go.Proofs.YtmbndpgoihdpnaaGreatDoor
open Go.ChangeShapes Go.WideShapes Go.ChangeAt Go.RowKit Go.Deep
set_option linter.unusedVariables false
set_option maxRecDepth 100000

section
variable {H : Type} {enc : TypeId × Value → H} {W : World} {v : Value} {fuel : Nat} {x : DataW H × List MemPlace}
theorem backups_arg (h : DataW.trod enc Tryz.prog W 0 (fun _ => true) true fuel 41 [v] = some x) :
    ∃ (L : List BM) (a : Option Addr) (c : Nat), v = .slice a L.length c ∧ ReadsBL W a L ∧ L.length ≤ maxLen ∧ ∀ D ∈ L, maxK D := by
  rcases open_slice Tryz.underlying41 h with ⟨hcs, _⟩ | ⟨ad, len, cap, m, n, D, Pl, hcs, _, hl, hm, hmm, _, hall⟩
  · simp only [List.cons.injEq, and_true] at hcs
    exact ⟨[], none, 0, hcs, ⟨[], rfl, .inl rfl, fun i hi => by cases hi⟩, by simp, fun s hs => by cases hs⟩
  · simp only [List.cons.injEq, and_true] at hcs
    rw [if_pos rfl] at hmm
    subst hmm
    have ce : Tryz.prog.cellsOf 25 = 5 := by kernel_rfl
    rw [ce] at hall
    have each : ∀ i, i < m → ∃ q : BkV × BM, W.cell? (ad.add (i * 5)) = some (.string q.1.F) ∧ W.cell? (ad.add (i * 5 + 1)) = some (.string q.1.T) ∧ W.cell? (ad.add (i * 5 + 2)) = some (.int .i64 q.1.C) ∧ W.cell? (ad.add (i * 5 + 3)) = some q.1.v1 ∧ W.cell? (ad.add (i * 5 + 4)) = some (.int .i64 q.1.S) ∧ ReadsK W q.1.val q.2 ∧ maxK q.2 := by
      intro i hi
      obtain ⟨cs', h1, h2⟩ := hall i hi
      obtain ⟨_, hlen, hcell⟩ := World.cells?_some h1
      obtain ⟨v0, v1, v2, v3, v4, k, y0, y1, y2, y3, y4, rfl, g0, g1, g2, g3, g4⟩ := five_cells Tryz.underlying25 rfl rfl rfl rfl rfl (by kernel_rfl) (by kernel_rfl) (by kernel_rfl) (by kernel_rfl) (by kernel_rfl) hlen h2
      have e0 := hcell 0 (by omega)
      have e1 := hcell 1 (by omega)
      have e2 := hcell 2 (by omega)
      have e3 := hcell 3 (by omega)
      have e4 := hcell 4 (by omega)
      rw [add_add] at e0 e1 e2 e3 e4
      obtain ⟨s0, z0, _, m0⟩ := DataW.trod_string Tryz.underlying9 g0
      obtain ⟨s1, z1, _, m1⟩ := DataW.trod_string Tryz.underlying9 g1
      obtain ⟨n2, z2, _⟩ := DataW.trod_int Tryz.underlying3 g2
      obtain ⟨L3, a3, c3, rfl, s3, m3, k3⟩ := diffs_arg g3
      obtain ⟨n4, z4, _⟩ := DataW.trod_int Tryz.underlying3 g4
      simp only [List.cons.injEq, and_true] at z0 z1 z2 z4
      subst z0 z1 z2 z4
      exact ⟨(⟨s0, s1, n2, .slice a3 L3.length c3, n4⟩, ⟨s0, s1, n2, L3, n4⟩), by simpa using e0, by simpa using e1, by simpa using e2, by simpa using e3, by simpa using e4, ⟨a3, c3, rfl, s3⟩, m3, m0, m1, k3⟩
    haveI : Inhabited (BkV × BM) := ⟨(bv0, bk0)⟩
    obtain ⟨q, hq⟩ := choose_lt each
    have hlen : ((List.range len).map fun i => (q i).2).length = len := by simp
    have hlen1 : ((List.range len).map fun i => (q i).1).length = len := by simp
    have gV : ∀ i, i < len → (((List.range len).map fun i => (q i).1).getD i bv0) = (q i).1 := fun i hi => by
      rw [List.getD_eq_getElem?_getD]; simp [hi]
    have gH : ∀ i, i < len → (((List.range len).map fun i => (q i).2).getD i bk0) = (q i).2 := fun i hi => by
      rw [List.getD_eq_getElem?_getD]; simp [hi]
    refine ⟨(List.range len).map fun i => (q i).2, some ad, m, by rw [hlen]; exact hcs, ⟨(List.range len).map fun i => (q i).1, by rw [hlen, hlen1], ?_, fun i hi => ?_⟩, by rw [hlen]; omega, fun s hs => ?_⟩
    · by_cases h0 : len = 0
      · subst h0; exact .inl rfl
      obtain ⟨b, o, spot⟩ := ad
      have hc0 := (hq 0 (by omega)).1
      have hspot : spot = none := by simpa [Addr.add] using World.cell?_spot hc0
      subst hspot
      refine .inr ⟨b, o, rfl, fun j hj => ?_⟩
      rw [cellsBk_length, hlen1] at hj
      obtain ⟨d0, d1, d2, d3, d4⟩ := cellsBk_get ((List.range len).map fun i => (q i).1) (j / 5) (by rw [hlen1]; omega)
      obtain ⟨t0, t1, t2, t3, t4, _⟩ := hq (j / 5) (by omega)
      rw [gV (j / 5) (by omega)] at d0 d1 d2 d3 d4
      rw [add_plain] at t0 t1 t2 t3 t4
      have hmod : j % 5 = 0 ∨ j % 5 = 1 ∨ j % 5 = 2 ∨ j % 5 = 3 ∨ j % 5 = 4 := by omega
      rcases hmod with e | e | e | e | e
      · rw [show j / 5 * 5 = j from by omega] at d0 t0
        rw [getD_some d0, t0]
      · rw [show j / 5 * 5 + 1 = j from by omega] at d1 t1
        rw [getD_some d1, t1]
      · rw [show j / 5 * 5 + 2 = j from by omega] at d2 t2
        rw [getD_some d2, t2]
      · rw [show j / 5 * 5 + 3 = j from by omega] at d3 t3
        rw [getD_some d3, t3]
      · rw [show j / 5 * 5 + 4 = j from by omega] at d4 t4
        rw [getD_some d4, t4]
    · rw [hlen] at hi
      rw [gV i hi, gH i hi]
      exact (hq i (by omega)).2.2.2.2.2.1
    · rw [List.mem_map] at hs
      obtain ⟨i, hi, rfl⟩ := hs
      rw [List.mem_range] at hi
      exact (hq i (by omega)).2.2.2.2.2.2
end
section
variable {H : Type} {enc : TypeId × Value → H} {W : World} {v : Value} {d : DataW H} {p : List MemPlace} {base : Nat}
/-- Backups that came in. -/
theorem backups_in (hv : Value.okWide Tryz.prog W .any base 41 v) (h : DataW.Trod enc Tryz.prog W 0 (fun _ => true) true 41 v d p) :
    ∃ (A : Option Addr) (C : Nat) (L : List BM), v = .slice A L.length C ∧ ReadsBL W A L ∧ L.length ≤ maxLen ∧ ∀ D ∈ L, maxK D := by
  obtain ⟨a, len, cap, rfl⟩ := okWide_slice Tryz.underlying41 hv
  obtain ⟨fuel, hf⟩ := h
  obtain ⟨L, b, c, e, sl, ml⟩ := backups_arg (show DataW.trod _ _ _ _ _ _ _ _ [.slice a len cap] = _ by simpa [Value.cells] using hf)
  exact ⟨b, c, L, e, sl, ml⟩
end
end Go.Proofs.YtmbndpgoihdpnaaGreatDoor
