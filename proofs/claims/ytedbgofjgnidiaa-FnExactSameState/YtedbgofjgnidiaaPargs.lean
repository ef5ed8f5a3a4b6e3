
/-
  What the form tells of pairs that came in. By an AI agent.
-/
import Derived.Test.YtedbgofjgnidiaaListsp
import Derived.Lib.SmallJoins
import Derived.SliceStrings
import Derived.ChangeSlices
import Derived.Deep.SlicePairs
import Derived.Deep.Slices
namespace Go.Proofs.Ytedbgofjgnidiaa
open Go.ChangeShapes Go.WideShapes Go.ChangeAt Go.RowKit Go.Deep
set_option linter.unusedVariables false
set_option maxRecDepth 100000

def strV : Value → ByteArray
  | .string s => s
  | _ => ⟨#[]⟩
section
variable {H : Type} {enc : TypeId × Value → H} {W : World} {v : Value} {fuel : Nat} {x : DataW H × List MemPlace}
theorem pairs_arg (h : DataW.trod enc Try.prog W 0 (fun _ => true) true fuel 22 [v] = some x) :
    ∃ (L : List PM) (a : Option Addr) (c : Nat), v = .slice a L.length c ∧ Src W a (cellsP L) ∧ L.length ≤ maxLen ∧ ∀ s ∈ L, s.1.size ≤ maxLen ∧ s.2.size ≤ maxLen := by
  rcases open_slice_pairs Try.underlying22 Try.underlying47 (by kernel_rfl) rfl rfl (by kernel_rfl) (by kernel_rfl) h with ⟨hcs, _⟩ | ⟨ad, len, cap, m, n, V0, V1, D0, D1, P0, P1, hcs, _, hl, hm, hmm, _, hall⟩
  · simp only [List.cons.injEq, and_true] at hcs
    exact ⟨[], none, 0, hcs, .inl rfl, by simp, fun s hs => by cases hs⟩
  · simp only [List.cons.injEq, and_true] at hcs
    rw [if_pos rfl] at hmm
    subst hmm
    have hval : ∀ i, i < m → V0 i = .string (strV (V0 i)) ∧ V1 i = .string (strV (V1 i)) ∧ (strV (V0 i)).size ≤ maxLen ∧ (strV (V1 i)).size ≤ maxLen := fun i hi => by
      obtain ⟨_, _, h3, h4⟩ := hall i hi
      obtain ⟨s0, e0, _, z0⟩ := DataW.trod_string Try.underlying9 h3
      obtain ⟨s1, e1, _, z1⟩ := DataW.trod_string Try.underlying9 h4
      simp only [List.cons.injEq, and_true] at e0 e1
      rw [e0, e1]
      exact ⟨rfl, rfl, z0, z1⟩
    let f : Nat → PM := fun i => (strV (V0 i), strV (V1 i))
    have hlen : ((List.range len).map f).length = len := by simp
    refine ⟨(List.range len).map f, some ad, m, by rw [hlen]; exact hcs, ?_, by rw [hlen]; omega, fun s hs => ?_⟩
    · by_cases h0 : len = 0
      · subst h0; exact .inl rfl
      obtain ⟨b, o, spot⟩ := ad
      have hc0 := (hall 0 (by omega)).1
      have hspot : spot = none := by simpa [Addr.add] using World.cell?_spot hc0
      subst hspot
      refine .inr ⟨b, o, rfl, fun j hj => ?_⟩
      rw [cellsP_length, hlen] at hj
      have hd : (((List.range len).map f).getD (j / 2) p0) = f (j / 2) := by
        rw [List.getD_eq_getElem?_getD]
        simp [show j / 2 < len from by omega]
      obtain ⟨c1, c2⟩ := cellsP_get ((List.range len).map f) (j / 2) (by rw [hlen]; omega)
      obtain ⟨h1, h2, _⟩ := hall (j / 2) (by omega)
      obtain ⟨v1, v2, _⟩ := hval (j / 2) (by omega)
      rw [add_plain] at h1 h2
      by_cases e : j % 2 = 0
      · rw [show j / 2 * 2 = j from by omega] at c1 h1
        rw [getD_some c1, hd, h1]
        show some (V0 (j / 2)) = some (Value.string (strV (V0 (j / 2))))
        rw [← v1]
      · rw [show j / 2 * 2 + 1 = j from by omega] at c2 h2
        rw [getD_some c2, hd, h2]
        show some (V1 (j / 2)) = some (Value.string (strV (V1 (j / 2))))
        rw [← v2]
    · rw [List.mem_map] at hs
      obtain ⟨i, hi, rfl⟩ := hs
      rw [List.mem_range] at hi
      exact (hval i (by omega)).2.2

end
section
variable {H : Type} {enc : TypeId × Value → H} {W : World} {v : Value} {d : DataW H} {p : List MemPlace} {base : Nat}
theorem pairsl_in (hv : Value.okWide Try.prog W .any base 22 v) (h : DataW.Trod enc Try.prog W 0 (fun _ => true) true 22 v d p) :
    ∃ (A : Option Addr) (C : Nat) (L : List PM), v = .slice A L.length C ∧ Src W A (cellsP L) ∧ L.length ≤ maxLen ∧ ∀ s ∈ L, s.1.size ≤ maxLen ∧ s.2.size ≤ maxLen := by
  obtain ⟨a, len, cap, rfl⟩ := okWide_slice Try.underlying22 hv
  obtain ⟨fuel, hf⟩ := h
  obtain ⟨L, b, c, e, sl, ml⟩ := pairs_arg (show DataW.trod _ _ _ _ _ _ _ _ [.slice a len cap] = _ by simpa [Value.cells] using hf)
  exact ⟨b, c, L, e, sl, ml⟩
end
end Go.Proofs.Ytedbgofjgnidiaa
