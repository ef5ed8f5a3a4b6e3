
/-
  Contracts of the helpers on slices of bytes: copies, comparisons, marks. By an AI agent.
-/
import Derived.Test.YtgbhjhbmolgbeaaDoorBoxes
namespace Go.Proofs.YtgbhjhbmolgbeaaDoor
open Go.ChangeShapes Go.WideShapes Go.ChangeAt Go.RowKit Go.Deep
set_option linter.unusedVariables false

def cellsB (L : List Nat) : List Value := L.map fun x => .int .u8 ((x : Nat) : Int)
theorem cellsB_length (L : List Nat) : (cellsB L).length = L.length := by simp [cellsB]
theorem cellsB_append (L M : List Nat) : cellsB (L ++ M) = cellsB L ++ cellsB M := by simp [cellsB]
theorem cellsB_get (L : List Nat) (i : Nat) (h : i < L.length) : (cellsB L)[i]? = some (.int .u8 ((L.getD i 0 : Nat) : Int)) := by
  simp [cellsB, h]
theorem cellsB_one (L : List Nat) : ∀ u ∈ cellsB L, u.oneCell' = true := by
  intro u hu
  simp only [cellsB, List.mem_map] at hu
  obtain ⟨x, _, rfl⟩ := hu
  rfl
theorem srcB {w : World} {a : Option Addr} {L : List Nat} (h : Src w a (cellsB L)) {i : Nat} (hi : i < L.length) : ∃ b o x, a = some ⟨b, o, none⟩ ∧ w.cell? ⟨b, o + i, none⟩ = some (.int .u8 ((x : Nat) : Int)) ∧ Hid (L.getD i 0 = x) := by
  rcases h with h | ⟨b, o, rfl, hc⟩
  · rw [← cellsB_length, h] at hi; exact absurd hi (by simp)
  · have := hc i (by rw [cellsB_length]; exact hi)
    rw [getD_some (cellsB_get L i hi)] at this
    exact ⟨b, o, _, rfl, this, rfl⟩
def mkB (k n : Nat) : List Nat := (List.range n).map fun i => (k + i) % 256
theorem mkB_length (k n : Nat) : (mkB k n).length = n := by simp [mkB]
theorem mkB_get (k n i : Nat) (h : i < n) : (mkB k n).getD i 0 = (k + i) % 256 := by
  rw [List.getD_eq_getElem?_getD]; simp [mkB, h]
theorem infoB : (Tryd.prog.info? 5).map (fun i => (i.zero, i.size, i.bytes)) = some (some (.int .u8 0), 1, 1) := by kernel_rfl
theorem run_make_B (n : Nat) (hn : n ≤ 1048576) (w : World) : (Instr.makeSlice 22 (.int .i64 (n : Int)) (.int .i64 (n : Int))).run Tryd.prog w = .ok (.slice (some ⟨w.heap.size, 0, none⟩) n n) (w.alloc (.cells (madeCells #[.int .u8 0] (n * 1)) 5)) :=
  run_make_rows 22 5 (.int .u8 0) 1 1 n Tryd.underlying22 infoB (by omega) hn w

end Go.Proofs.YtgbhjhbmolgbeaaDoor
