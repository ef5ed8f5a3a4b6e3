/-
  Texts of the store, brought together: Args, Hargs, Uargs. By an AI agent.
-/
import Derived.Test.YtnnimocaanofjaaGreatDoorSq14
import Derived.Lib.SmallJoins
import Derived.SliceStrings
import Derived.ChangeSlices
import Derived.Deep.SlicePairs
import Derived.Deep.Slices
import Derived.Test.YtnnimocaanofjaaGreatDoorSq16
namespace Go.Proofs.YtnnimocaanofjaaGreatDoor
open Go.ChangeShapes Go.WideShapes Go.ChangeAt Go.RowKit Go.Deep
set_option linter.unusedVariables false
set_option linter.unusedSimpArgs false
set_option maxRecDepth 100000
theorem src_of_row {W : World} {x : Addr} {zs : List Value} {n : Nat} (hn : n ≤ zs.length) (hc : ∀ i, i < zs.length → W.cell? (x.add i) = some (zs.getD i undef)) : Src W (some x) (zs.take n) := by
  by_cases h0 : n = 0
  · subst h0; exact .inl (by simp)
  obtain ⟨b, o, spot⟩ := x
  have h1 := hc 0 (by omega)
  have hspot : spot = none := by simpa [Addr.add] using World.cell?_spot h1
  subst hspot
  refine .inr ⟨b, o, rfl, fun j hj => ?_⟩
  have hj2 : j < n := by simp at hj; omega
  have h2 := hc j (by omega)
  have e1 : (zs.take n).getD j undef = zs.getD j undef := by
    rw [List.getD_eq_getElem?_getD, List.getElem?_take, if_pos hj2, ← List.getD_eq_getElem?_getD]
  rw [e1, ← h2]
  congr 1
  unfold Addr.add
  split
  · rename_i h0; subst h0; rfl
  · rfl
section
variable {H : Type} {enc : TypeId × Value → H} {W : World} {v : Value} {fuel : Nat} {x : DataW H × List MemPlace}
theorem strings_arg (h : DataW.trod enc Tryz.prog W 0 (fun _ => true) true fuel 22 [v] = some x) :
    ∃ (L : List ByteArray) (a : Option Addr) (c : Nat), v = .slice a L.length c ∧ Src W a (cellsS L) ∧ L.length ≤ maxLen ∧ ∀ s ∈ L, s.size ≤ maxLen := by
  rcases open_strings Tryz.underlying22 Tryz.underlying9 (by kernel_rfl) h with ⟨hcs, _⟩ | ⟨ad, len, cap, ss, hcs, _, hl, hm, hz, _, hcell, hsz⟩
  · simp only [List.cons.injEq, and_true] at hcs
    exact ⟨[], none, 0, hcs, .inl rfl, by simp, fun s hs => by cases hs⟩
  · simp only [List.cons.injEq, and_true] at hcs
    rw [if_pos rfl] at hz
    have hlen : (ss.take len).length = len := by simp; omega
    refine ⟨ss.take len, some ad, cap, by rw [hlen]; exact hcs, ?_, by rw [hlen]; omega, fun s hs => hsz s (List.mem_of_mem_take hs)⟩
    have := src_of_row (W := W) (x := ad) (zs := cellsS ss) (n := len) (by rw [cellsS_length]; omega) (fun i hi => by
      rw [cellsS_length] at hi
      rw [hcell i hi, getD_some (cellsS_get ss i hi)]; rfl)
    rw [show cellsS (ss.take len) = (cellsS ss).take len from by simp [cellsS, List.map_take]]
    exact this
theorem ints_arg (h : DataW.trod enc Tryz.prog W 0 (fun _ => true) true fuel 24 [v] = some x) :
    ∃ (L : List Int) (a : Option Addr) (c : Nat), v = .slice a L.length c ∧ Src W a (cellsI L) ∧ L.length ≤ maxLen := by
  rcases open_ints Tryz.underlying24 Tryz.underlying3 (by kernel_rfl) h with ⟨hcs, _⟩ | ⟨ad, len, cap, zs, hcs, _, hl, hm, hz, _, hcell, _⟩
  · simp only [List.cons.injEq, and_true] at hcs
    exact ⟨[], none, 0, hcs, .inl rfl, by simp⟩
  · simp only [List.cons.injEq, and_true] at hcs
    rw [if_pos rfl] at hz
    have hlen : (zs.take len).length = len := by simp; omega
    refine ⟨zs.take len, some ad, cap, by rw [hlen]; exact hcs, ?_, by rw [hlen]; omega⟩
    have := src_of_row (W := W) (x := ad) (zs := cellsI zs) (n := len) (by rw [cellsI_length]; omega) (fun i hi => by
      rw [cellsI_length] at hi
      rw [hcell i hi, getD_some (cellsI_get zs i hi)])
    rw [show cellsI (zs.take len) = (cellsI zs).take len from by simp [cellsI, List.map_take]]
    exact this
def intV : Value → Int
  | .int _ q => q
  | _ => 0
def strV : Value → ByteArray
  | .string s => s
  | _ => ⟨#[]⟩
theorem pairs_arg (h : DataW.trod enc Tryz.prog W 0 (fun _ => true) true fuel 171 [v] = some x) :
    ∃ (L : List PM) (a : Option Addr) (c : Nat), v = .slice a L.length c ∧ Src W a (cellsP L) ∧ L.length ≤ maxLen ∧ ∀ s ∈ L, s.1.size ≤ maxLen ∧ s.2.size ≤ maxLen := by
  rcases open_slice_pairs Tryz.underlying171 Tryz.underlying219 (by kernel_rfl) rfl rfl (by kernel_rfl) (by kernel_rfl) h with ⟨hcs, _⟩ | ⟨ad, len, cap, m, n, V0, V1, D0, D1, P0, P1, hcs, _, hl, hm, hmm, _, hall⟩
  · simp only [List.cons.injEq, and_true] at hcs
    exact ⟨[], none, 0, hcs, .inl rfl, by simp, fun s hs => by cases hs⟩
  · simp only [List.cons.injEq, and_true] at hcs
    rw [if_pos rfl] at hmm
    subst hmm
    have hval : ∀ i, i < m → V0 i = .string (strV (V0 i)) ∧ V1 i = .string (strV (V1 i)) ∧ (strV (V0 i)).size ≤ maxLen ∧ (strV (V1 i)).size ≤ maxLen := fun i hi => by
      obtain ⟨_, _, h3, h4⟩ := hall i hi
      obtain ⟨s0, e0, _, z0⟩ := DataW.trod_string Tryz.underlying9 h3
      obtain ⟨s1, e1, _, z1⟩ := DataW.trod_string Tryz.underlying9 h4
      simp only [List.cons.injEq, and_true] at e0 e1
      rw [e0, e1]
      exact ⟨rfl, rfl, z0, z1⟩
    let f : Nat → PM := fun i => (strV (V0 i), strV (V1 i))
    have hlen : ((List.range len).map f).length = len := by simp
    refine ⟨(List.range len).map f, some ad, m, by rw [hlen]; exact hcs, ?_, by rw [hlen]; omega, fun s hs => ?_⟩
    · by_cases h0 : len = 0
      · subst h0; exact .inl rfl
      obtain ⟨b, o, spot⟩ := ad
      have hc0 := (hall 0 (by omega)).1
      have hspot : spot = none := by simpa [Addr.add] using World.cell?_spot hc0
      subst hspot
      refine .inr ⟨b, o, rfl, fun j hj => ?_⟩
      rw [cellsP_length, hlen] at hj
      have hd : (((List.range len).map f).getD (j / 2) p0) = f (j / 2) := by
        rw [List.getD_eq_getElem?_getD]
        simp [show j / 2 < len from by omega]
      obtain ⟨c1, c2⟩ := cellsP_get ((List.range len).map f) (j / 2) (by rw [hlen]; omega)
      obtain ⟨h1, h2, _⟩ := hall (j / 2) (by omega)
      obtain ⟨v1, v2, _⟩ := hval (j / 2) (by omega)
      rw [add_plain] at h1 h2
      by_cases e : j % 2 = 0
      · rw [show j / 2 * 2 = j from by omega] at c1 h1
        rw [getD_some c1, hd, h1]
        show some (V0 (j / 2)) = some (Value.string (strV (V0 (j / 2))))
        rw [← v1]
      · rw [show j / 2 * 2 + 1 = j from by omega] at c2 h2
        rw [getD_some c2, hd, h2]
        show some (V1 (j / 2)) = some (Value.string (strV (V1 (j / 2))))
        rw [← v2]
    · rw [List.mem_map] at hs
      obtain ⟨i, hi, rfl⟩ := hs
      rw [List.mem_range] at hi
      exact (hval i (by omega)).2.2
end
section
variable {H : Type} {enc : TypeId × Value → H} {W : World} {v : Value} {d : DataW H} {p : List MemPlace} {base : Nat}
end
section
variable {H : Type} {enc : TypeId × Value → H} {W : World} {v : Value} {fuel : Nat} {x : DataW H × List MemPlace}
theorem quad_cells {P : Program} {e : TypeId} {f0 f1 f2 f3 : Field} {cs : List Value} {n : Nat} (he : P.underlying e = some (.struct #[f0, f1, f2, f3])) (o0 : f0.offset = 0) (o1 : f1.offset = 1) (o2 : f2.offset = 2) (o3 : f3.offset = 3) (c0 : P.cellsOf f0.type = 1) (c1 : P.cellsOf f1.type = 1) (c2 : P.cellsOf f2.type = 1) (c3 : P.cellsOf f3.type = 1) (hlen : cs.length = 4)
    (h : DataW.trod enc P W 0 (fun _ => true) true n e cs = some x) : ∃ v0 v1 v2 v3 k y0 y1 y2 y3, cs = [v0, v1, v2, v3] ∧ DataW.trod enc P W 0 (fun _ => true) true k f0.type [v0] = some y0 ∧ DataW.trod enc P W 0 (fun _ => true) true k f1.type [v1] = some y1 ∧ DataW.trod enc P W 0 (fun _ => true) true k f2.type [v2] = some y2 ∧ DataW.trod enc P W 0 (fun _ => true) true k f3.type [v3] = some y3 := by
  obtain ⟨xs, k, hk, hxy, _, hxl, hf⟩ := DataW.trod_struct he h
  match xs, hxl, cs, hlen with
  | [y0, y1, y2, y3], _, [v0, v1, v2, v3], _ =>
    have g0 := hf 0 f0 rfl
    have g1 := hf 1 f1 rfl
    have g2 := hf 2 f2 rfl
    have g3 := hf 3 f3 rfl
    simp [o0, o1, o2, o3, c0, c1, c2, c3] at g0 g1 g2 g3
    exact ⟨v0, v1, v2, v3, k, y0, y1, y2, y3, rfl, g0, g1, g2, g3⟩
theorem one_cell {P : Program} {e : TypeId} {f0 : Field} {cs : List Value} {n : Nat} (he : P.underlying e = some (.struct #[f0])) (o0 : f0.offset = 0) (c0 : P.cellsOf f0.type = 1) (hlen : cs.length = 1)
    (h : DataW.trod enc P W 0 (fun _ => true) true n e cs = some x) : ∃ v0 k y0, cs = [v0] ∧ DataW.trod enc P W 0 (fun _ => true) true k f0.type [v0] = some y0 := by
  obtain ⟨xs, k, hk, hxy, _, hxl, hf⟩ := DataW.trod_struct he h
  match xs, hxl, cs, hlen with
  | [y0], _, [v0], _ =>
    have g0 := hf 0 f0 rfl
    simp [o0, c0] at g0
    exact ⟨v0, k, y0, rfl, g0⟩
theorem nodes_arg (h : DataW.trod enc Tryz.prog W 0 (fun _ => true) true fuel 30 [v] = some x) :
    ∃ (L : List NM) (a : Option Addr) (c : Nat), v = .slice a L.length c ∧ ReadsHL W a L ∧ L.length ≤ maxLen ∧ ∀ D ∈ L, maxN D := by
  rcases open_slice Tryz.underlying30 h with ⟨hcs, _⟩ | ⟨ad, len, cap, m, n, D, Pl, hcs, _, hl, hm, hmm, _, hall⟩
  · simp only [List.cons.injEq, and_true] at hcs
    exact ⟨[], none, 0, hcs, ⟨[], rfl, .inl rfl, fun i hi => by cases hi⟩, by simp, fun s hs => by cases hs⟩
  · simp only [List.cons.injEq, and_true] at hcs
    rw [if_pos rfl] at hmm
    subst hmm
    have ce : Tryz.prog.cellsOf 173 = 4 := by kernel_rfl
    rw [ce] at hall
    have each : ∀ i, i < m → ∃ q : NV × NM, W.cell? (ad.add (i * 4)) = some (.bool q.1.A) ∧ W.cell? (ad.add (i * 4 + 1)) = some q.1.v1 ∧ W.cell? (ad.add (i * 4 + 2)) = some q.1.v2 ∧ W.cell? (ad.add (i * 4 + 3)) = some q.1.v3 ∧ ReadsN W q.1.val q.2 ∧ maxN q.2 := by
      intro i hi
      obtain ⟨cs', h1, h2⟩ := hall i hi
      obtain ⟨_, hlen, hcell⟩ := World.cells?_some h1
      obtain ⟨v0, v1, v2, v3, k, y0, y1, y2, y3, rfl, g0, g1, g2, g3⟩ := quad_cells Tryz.underlying173 rfl rfl rfl rfl (by kernel_rfl) (by kernel_rfl) (by kernel_rfl) (by kernel_rfl) hlen h2
      have e0 := hcell 0 (by omega)
      have e1 := hcell 1 (by omega)
      have e2 := hcell 2 (by omega)
      have e3 := hcell 3 (by omega)
      rw [add_add] at e0 e1 e2 e3
      obtain ⟨b, z0, _⟩ := DataW.trod_bool Tryz.underlying4 g0
      obtain ⟨L1, a1, c1, rfl, s1, m1, k1⟩ := pairs_arg g1
      obtain ⟨L2, a2, c2, rfl, s2, m2, k2⟩ := strings_arg g2
      obtain ⟨L3, a3, c3, rfl, s3, m3⟩ := ints_arg g3
      simp only [List.cons.injEq, and_true] at z0
      subst z0
      exact ⟨(⟨b, .slice a1 L1.length c1, .slice a2 L2.length c2, .slice a3 L3.length c3⟩, ⟨b, L1, L2, L3⟩), by simpa using e0, by simpa using e1, by simpa using e2, by simpa using e3, ⟨a1, c1, a2, c2, a3, c3, rfl, s1, s2, s3⟩, m1, k1, m2, k2, m3⟩
    haveI : Inhabited (NV × NM) := ⟨(nv0, nm0)⟩
    obtain ⟨q, hq⟩ := choose_lt each
    have hlen : ((List.range len).map fun i => (q i).2).length = len := by simp
    have hlen1 : ((List.range len).map fun i => (q i).1).length = len := by simp
    have gV : ∀ i, i < len → (((List.range len).map fun i => (q i).1).getD i nv0) = (q i).1 := fun i hi => by
      rw [List.getD_eq_getElem?_getD]; simp [hi]
    have gH : ∀ i, i < len → (((List.range len).map fun i => (q i).2).getD i nm0) = (q i).2 := fun i hi => by
      rw [List.getD_eq_getElem?_getD]; simp [hi]
    refine ⟨(List.range len).map fun i => (q i).2, some ad, m, by rw [hlen]; exact hcs, ⟨(List.range len).map fun i => (q i).1, by rw [hlen, hlen1], ?_, fun i hi => ?_⟩, by rw [hlen]; omega, fun s hs => ?_⟩
    · by_cases h0 : len = 0
      · subst h0; exact .inl rfl
      obtain ⟨b, o, spot⟩ := ad
      have hc0 := (hq 0 (by omega)).1
      have hspot : spot = none := by simpa [Addr.add] using World.cell?_spot hc0
      subst hspot
      refine .inr ⟨b, o, rfl, fun j hj => ?_⟩
      rw [cellsN_length, hlen1] at hj
      obtain ⟨d0, d1, d2, d3⟩ := cellsN_get ((List.range len).map fun i => (q i).1) (j / 4) (by rw [hlen1]; omega)
      obtain ⟨t0, t1, t2, t3, _⟩ := hq (j / 4) (by omega)
      rw [gV (j / 4) (by omega)] at d0 d1 d2 d3
      rw [add_plain] at t0 t1 t2 t3
      have hmod : j % 4 = 0 ∨ j % 4 = 1 ∨ j % 4 = 2 ∨ j % 4 = 3 := by omega
      rcases hmod with e | e | e | e
      · rw [show j / 4 * 4 = j from by omega] at d0 t0
        rw [getD_some d0, t0]
      · rw [show j / 4 * 4 + 1 = j from by omega] at d1 t1
        rw [getD_some d1, t1]
      · rw [show j / 4 * 4 + 2 = j from by omega] at d2 t2
        rw [getD_some d2, t2]
      · rw [show j / 4 * 4 + 3 = j from by omega] at d3 t3
        rw [getD_some d3, t3]
    · rw [hlen] at hi
      rw [gV i hi, gH i hi]
      exact (hq i (by omega)).2.2.2.2.1
    · rw [List.mem_map] at hs
      obtain ⟨i, hi, rfl⟩ := hs
      rw [List.mem_range] at hi
      exact (hq i (by omega)).2.2.2.2.2
end
section
variable {H : Type} {enc : TypeId × Value → H} {W : World} {v : Value} {d : DataW H} {p : List MemPlace} {base : Nat}
end
section
variable {H : Type} {enc : TypeId × Value → H} {W : World} {v : Value} {fuel : Nat} {x : DataW H × List MemPlace}
theorem tri_cells {P : Program} {e : TypeId} {f0 f1 f2 : Field} {cs : List Value} {n : Nat} (he : P.underlying e = some (.struct #[f0, f1, f2])) (o0 : f0.offset = 0) (o1 : f1.offset = 1) (o2 : f2.offset = 2) (c0 : P.cellsOf f0.type = 1) (c1 : P.cellsOf f1.type = 1) (c2 : P.cellsOf f2.type = 1) (hlen : cs.length = 3)
    (h : DataW.trod enc P W 0 (fun _ => true) true n e cs = some x) : ∃ v0 v1 v2 k y0 y1 y2, cs = [v0, v1, v2] ∧ DataW.trod enc P W 0 (fun _ => true) true k f0.type [v0] = some y0 ∧ DataW.trod enc P W 0 (fun _ => true) true k f1.type [v1] = some y1 ∧ DataW.trod enc P W 0 (fun _ => true) true k f2.type [v2] = some y2 := by
  obtain ⟨xs, k, hk, hxy, _, hxl, hf⟩ := DataW.trod_struct he h
  match xs, hxl, cs, hlen with
  | [y0, y1, y2], _, [v0, v1, v2], _ =>
    have g0 := hf 0 f0 rfl
    have g1 := hf 1 f1 rfl
    have g2 := hf 2 f2 rfl
    simp [o0, o1, o2, c0, c1, c2] at g0 g1 g2
    exact ⟨v0, v1, v2, k, y0, y1, y2, rfl, g0, g1, g2⟩
theorem snaps_arg (h : DataW.trod enc Tryz.prog W 0 (fun _ => true) true fuel 27 [v] = some x) :
    ∃ (L : List SN) (a : Option Addr) (c : Nat), v = .slice a L.length c ∧ Src W a (cellsSn L) ∧ L.length ≤ maxLen ∧ ∀ s ∈ L, s.1.size ≤ maxLen := by
  rcases open_slice Tryz.underlying27 h with ⟨hcs, _⟩ | ⟨ad, len, cap, m, n, D, Pl, hcs, _, hl, hm, hmm, _, hall⟩
  · simp only [List.cons.injEq, and_true] at hcs
    exact ⟨[], none, 0, hcs, .inl rfl, by simp, fun s hs => by cases hs⟩
  · simp only [List.cons.injEq, and_true] at hcs
    rw [if_pos rfl] at hmm
    subst hmm
    have ce : Tryz.prog.cellsOf 169 = 3 := by kernel_rfl
    rw [ce] at hall
    have each : ∀ i, i < m → ∃ q : SN, W.cell? (ad.add (i * 3)) = some (.string q.1) ∧ W.cell? (ad.add (i * 3 + 1)) = some (.int .i64 q.2.1) ∧ W.cell? (ad.add (i * 3 + 2)) = some (.int .i64 q.2.2) ∧ q.1.size ≤ maxLen := by
      intro i hi
      obtain ⟨cs', h1, h2⟩ := hall i hi
      obtain ⟨_, hlen, hcell⟩ := World.cells?_some h1
      obtain ⟨v0, v1, v2, k, y0, y1, y2, rfl, g0, g1, g2⟩ := tri_cells Tryz.underlying169 rfl rfl rfl (by kernel_rfl) (by kernel_rfl) (by kernel_rfl) hlen h2
      have e0 := hcell 0 (by omega)
      have e1 := hcell 1 (by omega)
      have e2 := hcell 2 (by omega)
      rw [add_add] at e0 e1 e2
      obtain ⟨s0, z0, _, m0⟩ := DataW.trod_string Tryz.underlying9 g0
      obtain ⟨n1, z1, _⟩ := DataW.trod_int Tryz.underlying3 g1
      obtain ⟨n2, z2, _⟩ := DataW.trod_int Tryz.underlying3 g2
      simp only [List.cons.injEq, and_true] at z0 z1 z2
      subst z0 z1 z2
      exact ⟨(s0, n1, n2), by simpa using e0, by simpa using e1, by simpa using e2, m0⟩
    haveI : Inhabited SN := ⟨sn0⟩
    obtain ⟨q, hq⟩ := choose_lt each
    have hlen : ((List.range len).map q).length = len := by simp
    refine ⟨(List.range len).map q, some ad, m, by rw [hlen]; exact hcs, ?_, by rw [hlen]; omega, fun s hs => ?_⟩
    · by_cases h0 : len = 0
      · subst h0; exact .inl rfl
      obtain ⟨b, o, spot⟩ := ad
      have hc0 := (hq 0 (by omega)).1
      have hspot : spot = none := by simpa [Addr.add] using World.cell?_spot hc0
      subst hspot
      refine .inr ⟨b, o, rfl, fun j hj => ?_⟩
      rw [cellsSn_length, hlen] at hj
      have hd : (((List.range len).map q).getD (j / 3) sn0) = q (j / 3) := by
        rw [List.getD_eq_getElem?_getD]
        simp [show j / 3 < len from by omega]
      obtain ⟨d0, d1, d2⟩ := cellsSn_get ((List.range len).map q) (j / 3) (by rw [hlen]; omega)
      obtain ⟨t0, t1, t2, _⟩ := hq (j / 3) (by omega)
      rw [hd] at d0 d1 d2
      rw [add_plain] at t0 t1 t2
      have hmod : j % 3 = 0 ∨ j % 3 = 1 ∨ j % 3 = 2 := by omega
      rcases hmod with e | e | e
      · rw [show j / 3 * 3 = j from by omega] at d0 t0
        rw [getD_some d0, t0]
      · rw [show j / 3 * 3 + 1 = j from by omega] at d1 t1
        rw [getD_some d1, t1]
      · rw [show j / 3 * 3 + 2 = j from by omega] at d2 t2
        rw [getD_some d2, t2]
    · rw [List.mem_map] at hs
      obtain ⟨i, hi, rfl⟩ := hs
      rw [List.mem_range] at hi
      exact (hq i (by omega)).2.2.2
end
section
variable {H : Type} {enc : TypeId × Value → H} {W : World} {v : Value} {d : DataW H} {p : List MemPlace} {base : Nat}
end
end Go.Proofs.YtnnimocaanofjaaGreatDoor
