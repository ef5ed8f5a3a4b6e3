
/-
  Contracts of the helpers on slices of pairs: sizes, copies, comparisons, marks. By an AI agent.
-/
import Derived.Test.YtmbndpgoihdpnaaDoorBoxes
namespace Go.Proofs.YtmbndpgoihdpnaaDoor
open Go.ChangeShapes Go.WideShapes Go.ChangeAt Go.RowKit Go.Deep
set_option linter.unusedVariables false

abbrev PM := ByteArray × ByteArray
abbrev p0 : PM := (⟨#[]⟩, ⟨#[]⟩)
def cellsP (L : List PM) : List Value := L.flatMap fun p => [.string p.1, .string p.2]
theorem cellsP_length (L : List PM) : (cellsP L).length = L.length * 2 := by
  induction L with
  | nil => rfl
  | cons p L ih => simp [cellsP] at ih ⊢; omega
theorem cellsP_append (L M : List PM) : cellsP (L ++ M) = cellsP L ++ cellsP M := by simp [cellsP]
theorem cellsP_get : ∀ (L : List PM) (i : Nat), i < L.length → (cellsP L)[i * 2]? = some (.string (L.getD i p0).1) ∧ (cellsP L)[i * 2 + 1]? = some (.string (L.getD i p0).2)
  | [], i, h => absurd h (by simp)
  | p :: L, 0, _ => ⟨rfl, rfl⟩
  | p :: L, i + 1, h => by
    have ih := cellsP_get L i (by simpa using h)
    have e1 : (i + 1) * 2 = i * 2 + 1 + 1 := by omega
    have e2 : cellsP (p :: L) = .string p.1 :: .string p.2 :: cellsP L := rfl
    rw [e2, e1]
    exact ih
theorem cellsP_one (L : List PM) : ∀ u ∈ cellsP L, u.oneCell' = true := by
  intro u hu
  simp only [cellsP, List.mem_flatMap] at hu
  obtain ⟨p, _, hp⟩ := hu
  simp at hp
  rcases hp with rfl | rfl <;> rfl
theorem srcP {w : World} {a : Option Addr} {L : List PM} (h : Src w a (cellsP L)) {i : Nat} (hi : i < L.length) : ∃ b o x y, a = some ⟨b, o, none⟩ ∧ w.cell? ⟨b, o + i * 2, none⟩ = some (.string x) ∧ w.cell? ⟨b, o + i * 2 + 1, none⟩ = some (.string y) ∧ Hid (L.getD i p0 = (x, y)) := by
  rcases h with h | ⟨b, o, rfl, hc⟩
  · have h2 := cellsP_length L
    rw [h] at h2
    simp only [List.length_nil] at h2
    omega
  · have h1 := hc (i * 2) (by rw [cellsP_length]; omega)
    have h2 := hc (i * 2 + 1) (by rw [cellsP_length]; omega)
    rw [getD_some (cellsP_get L i hi).1] at h1
    rw [getD_some (cellsP_get L i hi).2] at h2
    exact ⟨b, o, _, _, rfl, h1, h2, rfl⟩
def mkP (k n : Nat) : List PM := (List.range n).map fun i => (markT (k + i * 2), markT (k + i * 2 + 1))
theorem mkP_length (k n : Nat) : (mkP k n).length = n := by simp [mkP]
theorem mkP_get (k n i : Nat) (h : i < n) : (mkP k n).getD i p0 = (markT (k + i * 2), markT (k + i * 2 + 1)) := by
  rw [List.getD_eq_getElem?_getD]; simp [mkP, h]
theorem infoP : (Tryd.prog.info? 169).map (fun i => (i.zero, i.size, i.bytes)) = some (some (.agg #[.string ⟨#[]⟩, .string ⟨#[]⟩]), 2, 32) := by kernel_rfl
theorem run_make_P (n : Nat) (hn : n ≤ 1048576) (w : World) : (Instr.makeSlice 108 (.int .i64 (n : Int)) (.int .i64 (n : Int))).run Tryd.prog w = .ok (.slice (some ⟨w.heap.size, 0, none⟩) n n) (w.alloc (.cells (madeCells #[.string ⟨#[]⟩, .string ⟨#[]⟩] (n * 2)) 169)) :=
  run_make_rows 108 169 (.agg #[.string ⟨#[]⟩, .string ⟨#[]⟩]) 2 32 n Tryd.underlying108 infoP (by omega) hn w
end Go.Proofs.YtmbndpgoihdpnaaDoor
