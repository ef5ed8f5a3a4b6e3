
/-
  Contracts of the helpers on slices of Mail: sizes, copies, comparisons, marks. By an AI agent.
-/
import Derived.Test.YthgbclipknfmjaaGreatDoorBoxes
namespace Go.Proofs.YthgbclipknfmjaaGreatDoor
open Go.ChangeShapes Go.WideShapes Go.ChangeAt Go.RowKit Go.Deep
set_option linter.unusedVariables false

abbrev MMl := Int × Int × ByteArray
abbrev ml0 : MMl := (0, 0, ⟨#[]⟩)
def cellsMl (L : List MMl) : List Value := L.flatMap fun p => [.int .i64 p.1, .int .i64 p.2.1, .string p.2.2]
theorem cellsMl_length (L : List MMl) : (cellsMl L).length = L.length * 3 := by
  induction L with
  | nil => rfl
  | cons p L ih => simp [cellsMl] at ih ⊢; omega
theorem cellsMl_append (L M : List MMl) : cellsMl (L ++ M) = cellsMl L ++ cellsMl M := by simp [cellsMl]
theorem cellsMl_get : ∀ (L : List MMl) (i : Nat), i < L.length → (cellsMl L)[i * 3]? = some (.int .i64 (L.getD i ml0).1) ∧ (cellsMl L)[i * 3 + 1]? = some (.int .i64 (L.getD i ml0).2.1) ∧ (cellsMl L)[i * 3 + 2]? = some (.string (L.getD i ml0).2.2)
  | [], i, h => absurd h (by simp)
  | p :: L, 0, _ => ⟨rfl, rfl, rfl⟩
  | p :: L, i + 1, h => by
    have ih := cellsMl_get L i (by simpa using h)
    have e1 : (i + 1) * 3 = i * 3 + 1 + 1 + 1 := by omega
    have e2 : cellsMl (p :: L) = .int .i64 p.1 :: .int .i64 p.2.1 :: .string p.2.2 :: cellsMl L := rfl
    rw [e2, e1]
    exact ih
theorem cellsMl_one (L : List MMl) : ∀ u ∈ cellsMl L, u.oneCell' = true := by
  intro u hu
  simp only [cellsMl, List.mem_flatMap] at hu
  obtain ⟨p, _, hp⟩ := hu
  simp at hp
  rcases hp with rfl | rfl | rfl <;> rfl
theorem srcMl {w : World} {a : Option Addr} {L : List MMl} (h : Src w a (cellsMl L)) {i : Nat} (hi : i < L.length) : ∃ b o x0 x1 x2, a = some ⟨b, o, none⟩ ∧ w.cell? ⟨b, o + i * 3, none⟩ = some (.int .i64 x0) ∧ w.cell? ⟨b, o + i * 3 + 1, none⟩ = some (.int .i64 x1) ∧ w.cell? ⟨b, o + i * 3 + 2, none⟩ = some (.string x2) ∧ Hid (L.getD i ml0 = (x0, x1, x2)) := by
  rcases h with h | ⟨b, o, rfl, hc⟩
  · have h2 := cellsMl_length L
    rw [h] at h2
    simp only [List.length_nil] at h2
    omega
  · have h0 := hc (i * 3) (by rw [cellsMl_length]; omega)
    have h1 := hc (i * 3 + 1) (by rw [cellsMl_length]; omega)
    have h2 := hc (i * 3 + 2) (by rw [cellsMl_length]; omega)
    rw [getD_some (cellsMl_get L i hi).1] at h0
    rw [getD_some (cellsMl_get L i hi).2.1] at h1
    rw [getD_some (cellsMl_get L i hi).2.2] at h2
    exact ⟨b, o, _, _, _, rfl, h0, h1, h2, rfl⟩
def mkMl (k n : Nat) : List MMl := (List.range n).map fun i => (((k + i * 3 : Nat) : Int), ((k + i * 3 + 1 : Nat) : Int), markT (k + i * 3 + 2))
theorem mkMl_length (k n : Nat) : (mkMl k n).length = n := by simp [mkMl]
theorem mkMl_get (k n i : Nat) (h : i < n) : (mkMl k n).getD i ml0 = (((k + i * 3 : Nat) : Int), ((k + i * 3 + 1 : Nat) : Int), markT (k + i * 3 + 2)) := by
  rw [List.getD_eq_getElem?_getD]; simp [mkMl, h]
theorem infoMl : (Tryz.prog.info? 37).map (fun i => (i.zero, i.size, i.bytes)) = some (some (.agg #[.int .i64 0, .int .i64 0, .string ⟨#[]⟩]), 3, 32) := by kernel_rfl
theorem run_make_Ml (n : Nat) (hn : n ≤ 1048576) (w : World) : (Instr.makeSlice 26 (.int .i64 (n : Int)) (.int .i64 (n : Int))).run Tryz.prog w = .ok (.slice (some ⟨w.heap.size, 0, none⟩) n n) (w.alloc (.cells (madeCells #[.int .i64 0, .int .i64 0, .string ⟨#[]⟩] (n * 3)) 37)) :=
  run_make_rows 26 37 (.agg #[.int .i64 0, .int .i64 0, .string ⟨#[]⟩]) 3 32 n Tryz.underlying26 infoMl (by omega) hn w
end Go.Proofs.YthgbclipknfmjaaGreatDoor
