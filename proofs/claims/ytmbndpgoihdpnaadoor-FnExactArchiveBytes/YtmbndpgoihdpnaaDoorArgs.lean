
/-
  What the form tells of lists and of a node that came in. By an AI agent.
-/
import Derived.Test.YtmbndpgoihdpnaaDoorNodes
import Derived.Test.YtmbndpgoihdpnaaDoorLists4
import Derived.Lib.SmallJoins
import Derived.SliceStrings
import Derived.ChangeSlices
import Derived.Deep.SlicePairs
namespace Go.Proofs.YtmbndpgoihdpnaaDoor
open Go.ChangeShapes Go.WideShapes Go.ChangeAt Go.RowKit Go.Deep
set_option linter.unusedVariables false

theorem src_of_row {W : World} {x : Addr} {zs : List Value} {n : Nat} (hn : n ≤ zs.length) (hc : ∀ i, i < zs.length → W.cell? (x.add i) = some (zs.getD i undef)) : Src W (some x) (zs.take n) := by
  by_cases h0 : n = 0
  · subst h0; exact .inl (by simp)
  obtain ⟨b, o, spot⟩ := x
  have h1 := hc 0 (by omega)
  have hspot : spot = none := by simpa [Addr.add] using World.cell?_spot h1
  subst hspot
  refine .inr ⟨b, o, rfl, fun j hj => ?_⟩
  have hj2 : j < n := by simp at hj; omega
  have h2 := hc j (by omega)
  have e1 : (zs.take n).getD j undef = zs.getD j undef := by
    rw [List.getD_eq_getElem?_getD, List.getElem?_take, if_pos hj2, ← List.getD_eq_getElem?_getD]
  rw [e1, ← h2]
  congr 1
  unfold Addr.add
  split
  · rename_i h0; subst h0; rfl
  · rfl
section
variable {H : Type} {enc : TypeId × Value → H} {W : World} {v : Value} {fuel : Nat} {x : DataW H × List MemPlace}
theorem strings_arg (h : DataW.trod enc Tryd.prog W 0 (fun _ => true) true fuel 24 [v] = some x) :
    ∃ (L : List ByteArray) (a : Option Addr) (c : Nat), v = .slice a L.length c ∧ Src W a (cellsS L) ∧ L.length ≤ maxLen ∧ ∀ s ∈ L, s.size ≤ maxLen := by
  rcases open_strings Tryd.underlying24 Tryd.underlying9 (by kernel_rfl) h with ⟨hcs, _⟩ | ⟨ad, len, cap, ss, hcs, _, hl, hm, hz, _, hcell, hsz⟩
  · simp only [List.cons.injEq, and_true] at hcs
    exact ⟨[], none, 0, hcs, .inl rfl, by simp, fun s hs => by cases hs⟩
  · simp only [List.cons.injEq, and_true] at hcs
    rw [if_pos rfl] at hz
    have hlen : (ss.take len).length = len := by simp; omega
    refine ⟨ss.take len, some ad, cap, by rw [hlen]; exact hcs, ?_, by rw [hlen]; omega, fun s hs => hsz s (List.mem_of_mem_take hs)⟩
    have := src_of_row (W := W) (x := ad) (zs := cellsS ss) (n := len) (by rw [cellsS_length]; omega) (fun i hi => by
      rw [cellsS_length] at hi
      rw [hcell i hi, getD_some (cellsS_get ss i hi)]; rfl)
    rw [show cellsS (ss.take len) = (cellsS ss).take len from by simp [cellsS, List.map_take]]
    exact this
def intV : Value → Int
  | .int _ q => q
  | _ => 0
def strV : Value → ByteArray
  | .string s => s
  | _ => ⟨#[]⟩
theorem bytes_arg (h : DataW.trod enc Tryd.prog W 0 (fun _ => true) true fuel 34 [v] = some x) :
    ∃ (L : List Nat) (a : Option Addr) (c : Nat), v = .slice a L.length c ∧ Src W a (cellsB L) ∧ L.length ≤ maxLen ∧ ∀ s ∈ L, s < 256 := by
  rcases open_ints Tryd.underlying34 Tryd.underlying5 (by kernel_rfl) h with ⟨hcs, _⟩ | ⟨ad, len, cap, zs, hcs, _, hl, hm, hz, _, hcell, hwz⟩
  · simp only [List.cons.injEq, and_true] at hcs
    exact ⟨[], none, 0, hcs, .inl rfl, by simp, fun s hs => by cases hs⟩
  · simp only [List.cons.injEq, and_true] at hcs
    rw [if_pos rfl] at hz
    have hbd : ∀ n ∈ zs, 0 ≤ n ∧ n < 256 := fun n hn => by have := bounds_u8 (hwz n hn); omega
    let f : Int → Nat := fun z => z.toNat
    have hcb : cellsB (zs.map f) = zs.map (Value.int .u8) := by
      unfold cellsB
      rw [List.map_map]
      refine List.map_congr_left fun n hn => ?_
      show Value.int .u8 ((n.toNat : Nat) : Int) = _
      rw [Int.toNat_of_nonneg (hbd n hn).1]
    have hlen : ((zs.map f).take len).length = len := by simp; omega
    refine ⟨(zs.map f).take len, some ad, cap, by rw [hlen]; exact hcs, ?_, by rw [hlen]; omega, fun s hs => ?_⟩
    · have := src_of_row (W := W) (x := ad) (zs := cellsB (zs.map f)) (n := len) (by rw [cellsB_length]; simp; omega) (fun i hi => by
        rw [cellsB_length, List.length_map] at hi
        rw [hcell i hi, hcb, getD_some (u := Value.int .u8 (zs.getD i 0))]
        simp [hi])
      rw [show cellsB ((zs.map f).take len) = (cellsB (zs.map f)).take len from by simp [cellsB, List.map_take]]
      exact this
    · have h1 := List.mem_of_mem_take hs
      rw [List.mem_map] at h1
      obtain ⟨n, hn, rfl⟩ := h1
      have := hbd n hn
      show n.toNat < 256
      omega
end
set_option maxRecDepth 100000
section
variable {H : Type} {enc : TypeId × Value → H} {W : World} {v : Value} {d : DataW H} {p : List MemPlace} {base : Nat}
theorem strings_in (hv : Value.okWide Tryd.prog W .any base 24 v) (h : DataW.Trod enc Tryd.prog W 0 (fun _ => true) true 24 v d p) :
    ∃ (A : Option Addr) (C : Nat) (L : List ByteArray), v = .slice A L.length C ∧ Src W A (cellsS L) ∧ L.length ≤ maxLen ∧ ∀ s ∈ L, s.size ≤ maxLen := by
  obtain ⟨a, len, cap, rfl⟩ := okWide_slice Tryd.underlying24 hv
  obtain ⟨fuel, hf⟩ := h
  obtain ⟨L, b, c, e, sl, ml⟩ := strings_arg (show DataW.trod _ _ _ _ _ _ _ _ [.slice a len cap] = _ by simpa [Value.cells] using hf)
  exact ⟨b, c, L, e, sl, ml⟩
theorem bytes_in (hv : Value.okWide Tryd.prog W .any base 34 v) (h : DataW.Trod enc Tryd.prog W 0 (fun _ => true) true 34 v d p) :
    ∃ (A : Option Addr) (C : Nat) (L : List Nat), v = .slice A L.length C ∧ Src W A (cellsB L) ∧ L.length ≤ maxLen ∧ ∀ s ∈ L, s < 256 := by
  obtain ⟨a, len, cap, rfl⟩ := okWide_slice Tryd.underlying34 hv
  obtain ⟨fuel, hf⟩ := h
  obtain ⟨L, b, c, e, sl, ml⟩ := bytes_arg (show DataW.trod _ _ _ _ _ _ _ _ [.slice a len cap] = _ by simpa [Value.cells] using hf)
  exact ⟨b, c, L, e, sl, ml⟩
end
end Go.Proofs.YtmbndpgoihdpnaaDoor
