/-
  Nodes Args Args5 Bargs in one. By an AI agent.
-/
import Derived.Test.YtmbndpgoihdpnaaGreatDoorBoxes
import Derived.Test.YtmbndpgoihdpnaaGreatDoorListsp
import Derived.Test.YtmbndpgoihdpnaaGreatDoorRa1
import Derived.Test.YtmbndpgoihdpnaaGreatDoorListsd
import Derived.Test.YtmbndpgoihdpnaaGreatDoorBkp
import Derived.Lib.SmallJoins
import Derived.SliceStrings
import Derived.ChangeSlices
import Derived.Deep.SlicePairs
import Derived.Deep.Slices
namespace Go.Proofs.YtmbndpgoihdpnaaGreatDoor
open Go.ChangeShapes Go.WideShapes Go.ChangeAt Go.RowKit Go.Deep
set_option linter.unusedVariables false

/-- A node: whether it is a leaf, its pairs, the least keys, the kids. -/
structure NM where
  A : Bool
  P : List PM
  L : List ByteArray
  K : List Int
abbrev nm0 : NM := ⟨false, [], [], []⟩
/-- v reads as D. -/
def ReadsN (w : World) (v : Value) (D : NM) : Prop :=
  ∃ a1 c1 a2 c2 a3 c3, v = .agg #[.bool D.A, .slice a1 D.P.length c1, .slice a2 D.L.length c2, .slice a3 D.K.length c3] ∧ Src w a1 (cellsP D.P) ∧ Src w a2 (cellsS D.L) ∧ Src w a3 (cellsI D.K)
theorem ReadsN.below {w w' : World} {v : Value} {D : NM} (h : ReadsN w v D) (hb : Below w.heap.size w w') : ReadsN w' v D := by
  obtain ⟨a1, c1, a2, c2, a3, c3, rfl, h1, h2, h3⟩ := h
  exact ⟨a1, c1, a2, c2, a3, c3, rfl, h1.below hb, h2.below hb, h3.below hb⟩
theorem ReadsN.drew {w : World} {v : Value} {D : NM} (h : ReadsN w v D) : ReadsN w.drew v D := h
/-- v owns D, in blocks from lo up to hi. -/
def OwnsN (w : World) (lo hi : Nat) (v : Value) (D : NM) : Prop :=
  ∃ v1 v2 v3, v = .agg #[.bool D.A, v1, v2, v3] ∧ (w.ownsRow lo 70 2 v1 D.P.length (cellsP D.P) ∧ ∀ k, v1.ownBlock = some k → k < hi) ∧ (w.ownsRow lo 9 1 v2 D.L.length (cellsS D.L) ∧ ∀ k, v2.ownBlock = some k → k < hi) ∧ (w.ownsRow lo 3 1 v3 D.K.length (cellsI D.K) ∧ ∀ k, v3.ownBlock = some k → k < hi)
theorem OwnsN.mk {w : World} {lo hi : Nat} {v1 v2 v3 : Value} {A : Bool} {D : NM} (hA : D.A = A) (h1 : w.ownsRow lo 70 2 v1 D.P.length (cellsP D.P)) (h2 : w.ownsRow lo 9 1 v2 D.L.length (cellsS D.L)) (h3 : w.ownsRow lo 3 1 v3 D.K.length (cellsI D.K)) (hh : w.heap.size ≤ hi) : OwnsN w lo hi (.agg #[.bool A, v1, v2, v3]) D :=
  ⟨v1, v2, v3, by rw [hA], ⟨h1, fun k e => by have := (h1.lt k e).2; omega⟩, ⟨h2, fun k e => by have := (h2.lt k e).2; omega⟩, h3, fun k e => by have := (h3.lt k e).2; omega⟩
theorem OwnsN.reads {w : World} {lo hi : Nat} {v : Value} {D : NM} (h : OwnsN w lo hi v D) : ReadsN w v D := by
  obtain ⟨v1, v2, v3, rfl, ⟨h1, _⟩, ⟨h2, _⟩, h3, _⟩ := h
  obtain ⟨a1, c1, rfl, s1, _⟩ := own_src h1
  obtain ⟨a2, c2, rfl, s2, _⟩ := own_src h2
  obtain ⟨a3, c3, rfl, s3, _⟩ := own_src h3
  exact ⟨a1, c1, a2, c2, a3, c3, rfl, s1, s2, s3⟩
theorem OwnsN.below {w w' : World} {lo hi : Nat} {v : Value} {D : NM} (h : OwnsN w lo hi v D) (hb : Below w.heap.size w w') : OwnsN w' lo hi v D := by
  obtain ⟨v1, v2, v3, rfl, ⟨h1, k1⟩, ⟨h2, k2⟩, h3, k3⟩ := h
  exact ⟨v1, v2, v3, rfl, ⟨own_below h1 hb, k1⟩, ⟨own_below h2 hb, k2⟩, own_below h3 hb, k3⟩
theorem OwnsN.turned {w w' : World} {lo hi lo' hi' : Nat} {v : Value} {D : NM} (h : OwnsN w lo hi v D) (ht : Turned lo' hi' w w') (hd : hi ≤ lo' ∨ hi' ≤ lo) : OwnsN w' lo hi v D := by
  obtain ⟨v1, v2, v3, rfl, ⟨h1, k1⟩, ⟨h2, k2⟩, h3, k3⟩ := h
  exact ⟨v1, v2, v3, rfl, ⟨own_turned h1 ht k1 hd, k1⟩, ⟨own_turned h2 ht k2 hd, k2⟩, own_turned h3 ht k3 hd, k3⟩
theorem OwnsN.mono {w : World} {lo hi lo' hi' : Nat} {v : Value} {D : NM} (h : OwnsN w lo hi v D) (hl : lo' ≤ lo) (hh : hi ≤ hi') : OwnsN w lo' hi' v D := by
  obtain ⟨v1, v2, v3, rfl, ⟨h1, k1⟩, ⟨h2, k2⟩, h3, k3⟩ := h
  exact ⟨v1, v2, v3, rfl, ⟨own_mono h1 hl, fun k e => Nat.lt_of_lt_of_le (k1 k e) hh⟩, ⟨own_mono h2 hl, fun k e => Nat.lt_of_lt_of_le (k2 k e) hh⟩, own_mono h3 hl, fun k e => Nat.lt_of_lt_of_le (k3 k e) hh⟩
theorem OwnsN.drew {w : World} {lo hi : Nat} {v : Value} {D : NM} (h : OwnsN w lo hi v D) : OwnsN w.drew lo hi v D := h
theorem OwnsN.lit {w : World} {lo hi : Nat} {v : Value} {D : NM} (h : OwnsN w lo hi v D) : ∃ a1 c1 a2 c2 a3 c3, v = .agg #[.bool D.A, .slice a1 D.P.length c1, .slice a2 D.L.length c2, .slice a3 D.K.length c3] := by
  obtain ⟨a1, c1, a2, c2, a3, c3, e, _⟩ := h.reads
  exact ⟨a1, c1, a2, c2, a3, c3, e⟩
/-- What the parts of a node weigh together. -/
def wtN (D : NM) : Nat := D.P.length + D.L.length + D.K.length
def smallN (D : NM) : Prop := wtN D ≤ 1048576 ∧ (∀ x ∈ D.P, x.1.size ≤ 1048576 ∧ x.2.size ≤ 1048576) ∧ (∀ x ∈ D.L, x.size ≤ 1048576)
def maxN (D : NM) : Prop := D.P.length ≤ maxLen ∧ (∀ x ∈ D.P, x.1.size ≤ maxLen ∧ x.2.size ≤ maxLen) ∧ D.L.length ≤ maxLen ∧ (∀ x ∈ D.L, x.size ≤ maxLen) ∧ D.K.length ≤ maxLen

theorem src_of_row {W : World} {x : Addr} {zs : List Value} {n : Nat} (hn : n ≤ zs.length) (hc : ∀ i, i < zs.length → W.cell? (x.add i) = some (zs.getD i undef)) : Src W (some x) (zs.take n) := by
  by_cases h0 : n = 0
  · subst h0; exact .inl (by simp)
  obtain ⟨b, o, spot⟩ := x
  have h1 := hc 0 (by omega)
  have hspot : spot = none := by simpa [Addr.add] using World.cell?_spot h1
  subst hspot
  refine .inr ⟨b, o, rfl, fun j hj => ?_⟩
  have hj2 : j < n := by simp at hj; omega
  have h2 := hc j (by omega)
  have e1 : (zs.take n).getD j undef = zs.getD j undef := by
    rw [List.getD_eq_getElem?_getD, List.getElem?_take, if_pos hj2, ← List.getD_eq_getElem?_getD]
  rw [e1, ← h2]
  congr 1
  unfold Addr.add
  split
  · rename_i h0; subst h0; rfl
  · rfl
section
variable {H : Type} {enc : TypeId × Value → H} {W : World} {v : Value} {fuel : Nat} {x : DataW H × List MemPlace}
theorem strings_arg (h : DataW.trod enc Tryz.prog W 0 (fun _ => true) true fuel 49 [v] = some x) :
    ∃ (L : List ByteArray) (a : Option Addr) (c : Nat), v = .slice a L.length c ∧ Src W a (cellsS L) ∧ L.length ≤ maxLen ∧ ∀ s ∈ L, s.size ≤ maxLen := by
  rcases open_strings Tryz.underlying49 Tryz.underlying9 (by kernel_rfl) h with ⟨hcs, _⟩ | ⟨ad, len, cap, ss, hcs, _, hl, hm, hz, _, hcell, hsz⟩
  · simp only [List.cons.injEq, and_true] at hcs
    exact ⟨[], none, 0, hcs, .inl rfl, by simp, fun s hs => by cases hs⟩
  · simp only [List.cons.injEq, and_true] at hcs
    rw [if_pos rfl] at hz
    have hlen : (ss.take len).length = len := by simp; omega
    refine ⟨ss.take len, some ad, cap, by rw [hlen]; exact hcs, ?_, by rw [hlen]; omega, fun s hs => hsz s (List.mem_of_mem_take hs)⟩
    have := src_of_row (W := W) (x := ad) (zs := cellsS ss) (n := len) (by rw [cellsS_length]; omega) (fun i hi => by
      rw [cellsS_length] at hi
      rw [hcell i hi, getD_some (cellsS_get ss i hi)]; rfl)
    rw [show cellsS (ss.take len) = (cellsS ss).take len from by simp [cellsS, List.map_take]]
    exact this
def intV : Value → Int
  | .int _ q => q
  | _ => 0
def strV : Value → ByteArray
  | .string s => s
  | _ => ⟨#[]⟩
theorem pairs_arg (h : DataW.trod enc Tryz.prog W 0 (fun _ => true) true fuel 22 [v] = some x) :
    ∃ (L : List PM) (a : Option Addr) (c : Nat), v = .slice a L.length c ∧ Src W a (cellsP L) ∧ L.length ≤ maxLen ∧ ∀ s ∈ L, s.1.size ≤ maxLen ∧ s.2.size ≤ maxLen := by
  rcases open_slice_pairs Tryz.underlying22 Tryz.underlying66 (by kernel_rfl) rfl rfl (by kernel_rfl) (by kernel_rfl) h with ⟨hcs, _⟩ | ⟨ad, len, cap, m, n, V0, V1, D0, D1, P0, P1, hcs, _, hl, hm, hmm, _, hall⟩
  · simp only [List.cons.injEq, and_true] at hcs
    exact ⟨[], none, 0, hcs, .inl rfl, by simp, fun s hs => by cases hs⟩
  · simp only [List.cons.injEq, and_true] at hcs
    rw [if_pos rfl] at hmm
    subst hmm
    have hval : ∀ i, i < m → V0 i = .string (strV (V0 i)) ∧ V1 i = .string (strV (V1 i)) ∧ (strV (V0 i)).size ≤ maxLen ∧ (strV (V1 i)).size ≤ maxLen := fun i hi => by
      obtain ⟨_, _, h3, h4⟩ := hall i hi
      obtain ⟨s0, e0, _, z0⟩ := DataW.trod_string Tryz.underlying9 h3
      obtain ⟨s1, e1, _, z1⟩ := DataW.trod_string Tryz.underlying9 h4
      simp only [List.cons.injEq, and_true] at e0 e1
      rw [e0, e1]
      exact ⟨rfl, rfl, z0, z1⟩
    let f : Nat → PM := fun i => (strV (V0 i), strV (V1 i))
    have hlen : ((List.range len).map f).length = len := by simp
    refine ⟨(List.range len).map f, some ad, m, by rw [hlen]; exact hcs, ?_, by rw [hlen]; omega, fun s hs => ?_⟩
    · by_cases h0 : len = 0
      · subst h0; exact .inl rfl
      obtain ⟨b, o, spot⟩ := ad
      have hc0 := (hall 0 (by omega)).1
      have hspot : spot = none := by simpa [Addr.add] using World.cell?_spot hc0
      subst hspot
      refine .inr ⟨b, o, rfl, fun j hj => ?_⟩
      rw [cellsP_length, hlen] at hj
      have hd : (((List.range len).map f).getD (j / 2) p0) = f (j / 2) := by
        rw [List.getD_eq_getElem?_getD]
        simp [show j / 2 < len from by omega]
      obtain ⟨c1, c2⟩ := cellsP_get ((List.range len).map f) (j / 2) (by rw [hlen]; omega)
      obtain ⟨h1, h2, _⟩ := hall (j / 2) (by omega)
      obtain ⟨v1, v2, _⟩ := hval (j / 2) (by omega)
      rw [add_plain] at h1 h2
      by_cases e : j % 2 = 0
      · rw [show j / 2 * 2 = j from by omega] at c1 h1
        rw [getD_some c1, hd, h1]
        show some (V0 (j / 2)) = some (Value.string (strV (V0 (j / 2))))
        rw [← v1]
      · rw [show j / 2 * 2 + 1 = j from by omega] at c2 h2
        rw [getD_some c2, hd, h2]
        show some (V1 (j / 2)) = some (Value.string (strV (V1 (j / 2))))
        rw [← v2]
    · rw [List.mem_map] at hs
      obtain ⟨i, hi, rfl⟩ := hs
      rw [List.mem_range] at hi
      exact (hval i (by omega)).2.2

theorem bytes_arg (h : DataW.trod enc Tryz.prog W 0 (fun _ => true) true fuel 55 [v] = some x) :
    ∃ (L : List Nat) (a : Option Addr) (c : Nat), v = .slice a L.length c ∧ Src W a (cellsB L) ∧ L.length ≤ maxLen ∧ ∀ s ∈ L, s < 256 := by
  rcases open_ints Tryz.underlying55 Tryz.underlying5 (by kernel_rfl) h with ⟨hcs, _⟩ | ⟨ad, len, cap, zs, hcs, _, hl, hm, hz, _, hcell, hwz⟩
  · simp only [List.cons.injEq, and_true] at hcs
    exact ⟨[], none, 0, hcs, .inl rfl, by simp, fun s hs => by cases hs⟩
  · simp only [List.cons.injEq, and_true] at hcs
    rw [if_pos rfl] at hz
    have hbd : ∀ n ∈ zs, 0 ≤ n ∧ n < 256 := fun n hn => by have := bounds_u8 (hwz n hn); omega
    let f : Int → Nat := fun z => z.toNat
    have hcb : cellsB (zs.map f) = zs.map (Value.int .u8) := by
      unfold cellsB
      rw [List.map_map]
      refine List.map_congr_left fun n hn => ?_
      show Value.int .u8 ((n.toNat : Nat) : Int) = _
      rw [Int.toNat_of_nonneg (hbd n hn).1]
    have hlen : ((zs.map f).take len).length = len := by simp; omega
    refine ⟨(zs.map f).take len, some ad, cap, by rw [hlen]; exact hcs, ?_, by rw [hlen]; omega, fun s hs => ?_⟩
    · have := src_of_row (W := W) (x := ad) (zs := cellsB (zs.map f)) (n := len) (by rw [cellsB_length]; simp; omega) (fun i hi => by
        rw [cellsB_length, List.length_map] at hi
        rw [hcell i hi, hcb, getD_some (u := Value.int .u8 (zs.getD i 0))]
        simp [hi])
      rw [show cellsB ((zs.map f).take len) = (cellsB (zs.map f)).take len from by simp [cellsB, List.map_take]]
      exact this
    · have h1 := List.mem_of_mem_take hs
      rw [List.mem_map] at h1
      obtain ⟨n, hn, rfl⟩ := h1
      have := hbd n hn
      show n.toNat < 256
      omega
end
set_option maxRecDepth 100000
section
variable {H : Type} {enc : TypeId × Value → H} {W : World} {v : Value} {d : DataW H} {p : List MemPlace} {base : Nat}
theorem strings_in (hv : Value.okWide Tryz.prog W .any base 49 v) (h : DataW.Trod enc Tryz.prog W 0 (fun _ => true) true 49 v d p) :
    ∃ (A : Option Addr) (C : Nat) (L : List ByteArray), v = .slice A L.length C ∧ Src W A (cellsS L) ∧ L.length ≤ maxLen ∧ ∀ s ∈ L, s.size ≤ maxLen := by
  obtain ⟨a, len, cap, rfl⟩ := okWide_slice Tryz.underlying49 hv
  obtain ⟨fuel, hf⟩ := h
  obtain ⟨L, b, c, e, sl, ml⟩ := strings_arg (show DataW.trod _ _ _ _ _ _ _ _ [.slice a len cap] = _ by simpa [Value.cells] using hf)
  exact ⟨b, c, L, e, sl, ml⟩
theorem bytes_in (hv : Value.okWide Tryz.prog W .any base 55 v) (h : DataW.Trod enc Tryz.prog W 0 (fun _ => true) true 55 v d p) :
    ∃ (A : Option Addr) (C : Nat) (L : List Nat), v = .slice A L.length C ∧ Src W A (cellsB L) ∧ L.length ≤ maxLen ∧ ∀ s ∈ L, s < 256 := by
  obtain ⟨a, len, cap, rfl⟩ := okWide_slice Tryz.underlying55 hv
  obtain ⟨fuel, hf⟩ := h
  obtain ⟨L, b, c, e, sl, ml⟩ := bytes_arg (show DataW.trod _ _ _ _ _ _ _ _ [.slice a len cap] = _ by simpa [Value.cells] using hf)
  exact ⟨b, c, L, e, sl, ml⟩
end
end Go.Proofs.YtmbndpgoihdpnaaGreatDoor
namespace Go.Proofs.YtmbndpgoihdpnaaGreatDoor
open Go.ChangeShapes Go.WideShapes Go.ChangeAt Go.RowKit Go.Deep
set_option linter.unusedVariables false
set_option maxRecDepth 100000

section
variable {H : Type} {enc : TypeId × Value → H} {W : World} {v : Value} {fuel : Nat} {x : DataW H × List MemPlace}
theorem five_cells {P : Program} {e : TypeId} {f0 f1 f2 f3 f4 : Field} {cs : List Value} {n : Nat} (he : P.underlying e = some (.struct #[f0, f1, f2, f3, f4])) (o0 : f0.offset = 0) (o1 : f1.offset = 1) (o2 : f2.offset = 2) (o3 : f3.offset = 3) (o4 : f4.offset = 4) (c0 : P.cellsOf f0.type = 1) (c1 : P.cellsOf f1.type = 1) (c2 : P.cellsOf f2.type = 1) (c3 : P.cellsOf f3.type = 1) (c4 : P.cellsOf f4.type = 1) (hlen : cs.length = 5)
    (h : DataW.trod enc P W 0 (fun _ => true) true n e cs = some x) : ∃ v0 v1 v2 v3 v4 k y0 y1 y2 y3 y4, cs = [v0, v1, v2, v3, v4] ∧ DataW.trod enc P W 0 (fun _ => true) true k f0.type [v0] = some y0 ∧ DataW.trod enc P W 0 (fun _ => true) true k f1.type [v1] = some y1 ∧ DataW.trod enc P W 0 (fun _ => true) true k f2.type [v2] = some y2 ∧ DataW.trod enc P W 0 (fun _ => true) true k f3.type [v3] = some y3 ∧ DataW.trod enc P W 0 (fun _ => true) true k f4.type [v4] = some y4 := by
  obtain ⟨xs, k, hk, hxy, _, hxl, hf⟩ := DataW.trod_struct he h
  match xs, hxl, cs, hlen with
  | [y0, y1, y2, y3, y4], _, [v0, v1, v2, v3, v4], _ =>
    have g0 := hf 0 f0 rfl
    have g1 := hf 1 f1 rfl
    have g2 := hf 2 f2 rfl
    have g3 := hf 3 f3 rfl
    have g4 := hf 4 f4 rfl
    simp [o0, o1, o2, o3, o4, c0, c1, c2, c3, c4] at g0 g1 g2 g3 g4
    exact ⟨v0, v1, v2, v3, v4, k, y0, y1, y2, y3, y4, rfl, g0, g1, g2, g3, g4⟩
theorem diffs_arg (h : DataW.trod enc Tryz.prog W 0 (fun _ => true) true fuel 23 [v] = some x) :
    ∃ (L : List MDf) (a : Option Addr) (c : Nat), v = .slice a L.length c ∧ Src W a (cellsDf L) ∧ L.length ≤ maxLen ∧ ∀ s ∈ L, s.1.size ≤ maxLen ∧ s.2.1.size ≤ maxLen ∧ s.2.2.1.size ≤ maxLen := by
  rcases open_slice Tryz.underlying23 h with ⟨hcs, _⟩ | ⟨ad, len, cap, m, n, D, Pl, hcs, _, hl, hm, hmm, _, hall⟩
  · simp only [List.cons.injEq, and_true] at hcs
    exact ⟨[], none, 0, hcs, .inl rfl, by simp, fun s hs => by cases hs⟩
  · simp only [List.cons.injEq, and_true] at hcs
    rw [if_pos rfl] at hmm
    subst hmm
    have ce : Tryz.prog.cellsOf 104 = 5 := by kernel_rfl
    rw [ce] at hall
    have each : ∀ i, i < m → ∃ q : MDf, W.cell? (ad.add (i * 5)) = some (.string q.1) ∧ W.cell? (ad.add (i * 5 + 1)) = some (.string q.2.1) ∧ W.cell? (ad.add (i * 5 + 2)) = some (.string q.2.2.1) ∧ W.cell? (ad.add (i * 5 + 3)) = some (.bool q.2.2.2.1) ∧ W.cell? (ad.add (i * 5 + 4)) = some (.bool q.2.2.2.2) ∧ q.1.size ≤ maxLen ∧ q.2.1.size ≤ maxLen ∧ q.2.2.1.size ≤ maxLen := by
      intro i hi
      obtain ⟨cs', h1, h2⟩ := hall i hi
      obtain ⟨_, hlen, hcell⟩ := World.cells?_some h1
      obtain ⟨v0, v1, v2, v3, v4, k, y0, y1, y2, y3, y4, rfl, g0, g1, g2, g3, g4⟩ := five_cells Tryz.underlying104 rfl rfl rfl rfl rfl (by kernel_rfl) (by kernel_rfl) (by kernel_rfl) (by kernel_rfl) (by kernel_rfl) hlen h2
      have e0 := hcell 0 (by omega)
      have e1 := hcell 1 (by omega)
      have e2 := hcell 2 (by omega)
      have e3 := hcell 3 (by omega)
      have e4 := hcell 4 (by omega)
      rw [add_add] at e0 e1 e2 e3 e4
      obtain ⟨s0, z0, _, m0⟩ := DataW.trod_string Tryz.underlying9 g0
      obtain ⟨s1, z1, _, m1⟩ := DataW.trod_string Tryz.underlying9 g1
      obtain ⟨s2, z2, _, m2⟩ := DataW.trod_string Tryz.underlying9 g2
      obtain ⟨b3, z3, _⟩ := DataW.trod_bool Tryz.underlying4 g3
      obtain ⟨b4, z4, _⟩ := DataW.trod_bool Tryz.underlying4 g4
      simp only [List.cons.injEq, and_true] at z0 z1 z2 z3 z4
      subst z0 z1 z2 z3 z4
      exact ⟨(s0, s1, s2, b3, b4), by simpa using e0, by simpa using e1, by simpa using e2, by simpa using e3, by simpa using e4, m0, m1, m2⟩
    haveI : Inhabited MDf := ⟨df0⟩
    obtain ⟨q, hq⟩ := choose_lt each
    have hlen : ((List.range len).map q).length = len := by simp
    refine ⟨(List.range len).map q, some ad, m, by rw [hlen]; exact hcs, ?_, by rw [hlen]; omega, fun s hs => ?_⟩
    · by_cases h0 : len = 0
      · subst h0; exact .inl rfl
      obtain ⟨b, o, spot⟩ := ad
      have hc0 := (hq 0 (by omega)).1
      have hspot : spot = none := by simpa [Addr.add] using World.cell?_spot hc0
      subst hspot
      refine .inr ⟨b, o, rfl, fun j hj => ?_⟩
      rw [cellsDf_length, hlen] at hj
      have hd : (((List.range len).map q).getD (j / 5) df0) = q (j / 5) := by
        rw [List.getD_eq_getElem?_getD]
        simp [show j / 5 < len from by omega]
      obtain ⟨d0, d1, d2, d3, d4⟩ := cellsDf_get ((List.range len).map q) (j / 5) (by rw [hlen]; omega)
      obtain ⟨t0, t1, t2, t3, t4, _⟩ := hq (j / 5) (by omega)
      rw [hd] at d0 d1 d2 d3 d4
      rw [add_plain] at t0 t1 t2 t3 t4
      have hmod : j % 5 = 0 ∨ j % 5 = 1 ∨ j % 5 = 2 ∨ j % 5 = 3 ∨ j % 5 = 4 := by omega
      rcases hmod with e | e | e | e | e
      · rw [show j / 5 * 5 = j from by omega] at d0 t0
        rw [getD_some d0, t0]
      · rw [show j / 5 * 5 + 1 = j from by omega] at d1 t1
        rw [getD_some d1, t1]
      · rw [show j / 5 * 5 + 2 = j from by omega] at d2 t2
        rw [getD_some d2, t2]
      · rw [show j / 5 * 5 + 3 = j from by omega] at d3 t3
        rw [getD_some d3, t3]
      · rw [show j / 5 * 5 + 4 = j from by omega] at d4 t4
        rw [getD_some d4, t4]
    · rw [List.mem_map] at hs
      obtain ⟨i, hi, rfl⟩ := hs
      rw [List.mem_range] at hi
      exact (hq i (by omega)).2.2.2.2.2
end
section
variable {H : Type} {enc : TypeId × Value → H} {W : World} {v : Value} {d : DataW H} {p : List MemPlace} {base : Nat}
theorem pairsl_in (hv : Value.okWide Tryz.prog W .any base 22 v) (h : DataW.Trod enc Tryz.prog W 0 (fun _ => true) true 22 v d p) :
    ∃ (A : Option Addr) (C : Nat) (L : List PM), v = .slice A L.length C ∧ Src W A (cellsP L) ∧ L.length ≤ maxLen ∧ ∀ s ∈ L, s.1.size ≤ maxLen ∧ s.2.size ≤ maxLen := by
  obtain ⟨a, len, cap, rfl⟩ := okWide_slice Tryz.underlying22 hv
  obtain ⟨fuel, hf⟩ := h
  obtain ⟨L, b, c, e, sl, ml⟩ := pairs_arg (show DataW.trod _ _ _ _ _ _ _ _ [.slice a len cap] = _ by simpa [Value.cells] using hf)
  exact ⟨b, c, L, e, sl, ml⟩
theorem diffsl_in (hv : Value.okWide Tryz.prog W .any base 23 v) (h : DataW.Trod enc Tryz.prog W 0 (fun _ => true) true 23 v d p) :
    ∃ (A : Option Addr) (C : Nat) (L : List MDf), v = .slice A L.length C ∧ Src W A (cellsDf L) ∧ L.length ≤ maxLen ∧ ∀ s ∈ L, s.1.size ≤ maxLen ∧ s.2.1.size ≤ maxLen ∧ s.2.2.1.size ≤ maxLen := by
  obtain ⟨a, len, cap, rfl⟩ := okWide_slice Tryz.underlying23 hv
  obtain ⟨fuel, hf⟩ := h
  obtain ⟨L, b, c, e, sl, ml⟩ := diffs_arg (show DataW.trod _ _ _ _ _ _ _ _ [.slice a len cap] = _ by simpa [Value.cells] using hf)
  exact ⟨b, c, L, e, sl, ml⟩
end
section
variable {H : Type} {enc : TypeId × Value → H} {W : World} {v : Value} {d : DataW H} {p : List MemPlace} {base : Nat}
/-- A backup that came in. -/
theorem backup_in (hv : Value.okWide Tryz.prog W .any base 25 v) (h : DataW.Trod enc Tryz.prog W 0 (fun _ => true) true 25 v d p) :
    ∃ D, ReadsK W v D ∧ maxK D := by
  obtain ⟨cs, rfl, hsz⟩ := okWide_struct Tryz.underlying25 hv
  obtain ⟨fuel, hf⟩ := h
  have hl : cs.toList.length = 5 := by
    have h9 : Tryz.prog.cellsOf 25 = 5 := by kernel_rfl
    rw [Array.length_toList, hsz, h9]
  obtain ⟨v0, v1, v2, v3, v4, k, y0, y1, y2, y3, y4, ec, h0, h1, h2, h3, h4⟩ := five_cells Tryz.underlying25 rfl rfl rfl rfl rfl (by kernel_rfl) (by kernel_rfl) (by kernel_rfl) (by kernel_rfl) (by kernel_rfl) hl (show DataW.trod _ _ _ _ _ _ _ _ cs.toList = _ by simpa [Value.cells] using hf)
  obtain rfl : cs = #[v0, v1, v2, v3, v4] := by cases cs; simp_all
  obtain ⟨s0, e0, _, m0⟩ := DataW.trod_string Tryz.underlying9 h0
  obtain ⟨s1, e1, _, m1⟩ := DataW.trod_string Tryz.underlying9 h1
  obtain ⟨n2, e2, _⟩ := DataW.trod_int Tryz.underlying3 h2
  obtain ⟨L, a, c, rfl, r3, m3, k3⟩ := diffs_arg h3
  obtain ⟨n4, e4, _⟩ := DataW.trod_int Tryz.underlying3 h4
  simp only [List.cons.injEq, and_true] at e0 e1 e2 e4
  subst e0 e1 e2 e4
  exact ⟨⟨s0, s1, n2, L, n4⟩, ⟨a, c, rfl, r3⟩, m3, m0, m1, k3⟩
end
end Go.Proofs.YtmbndpgoihdpnaaGreatDoor
