
/-
  TreePages of both. By an AI agent.
-/
import Derived.Test.YtmpaophegdeokaaTr6
import Derived.Deep.MidRow
namespace Go.Proofs.Ytmpaophegdeokaa
open Go.ChangeShapes Go.WideShapes Go.ChangeAt Go.RowKit Go.Deep
set_option linter.unusedVariables false
set_option maxRecDepth 100000
/-- The pages below k that are reached. -/
def pgs (R : List Bool) (k : Nat) : List Int := ((List.range k).filter fun i => R.getD i false).map fun i => ((i : Nat) : Int)
theorem pgs_yes {R : List Bool} {k : Nat} (h : R.getD k false = true) : pgs R (k + 1) = pgs R k ++ [(k : Int)] := by
  unfold pgs
  rw [List.range_succ, List.filter_append, List.map_append]
  simp only [List.filter_cons, h, List.filter_nil, if_true, List.map_cons, List.map_nil]
theorem pgs_no {R : List Bool} {k : Nat} (h : R.getD k false = false) : pgs R (k + 1) = pgs R k := by
  unfold pgs
  rw [List.range_succ, List.filter_append, List.map_append]
  have h2 : R[k]?.getD false = false := by simpa using h
  simp [h2]
theorem pgs_len (R : List Bool) (k : Nat) : (pgs R k).length ≤ k := by
  unfold pgs
  rw [List.length_map]
  refine Nat.le_trans (List.length_filter_le _ _) ?_
  simp
theorem src_oneI {w : World} {z : Int} {B t : Nat} (hB : B = w.heap.size) : Src (w.alloc (.cells #[.int .i64 z] t)) (some ⟨B, 0, none⟩) (cellsI [z]) := by
  subst hB
  refine .inr ⟨_, 0, rfl, fun j hj => ?_⟩
  have : j = 0 := by simp [cellsI] at hj; omega
  subst this
  exact (Box.new (w := w) (B := w.heap.size) (vs := #[Value.int .i64 z]) rfl 0 _ rfl).1
theorem run_index_PS (arr : Array Value) (k : Nat) (b : Bool) (hk : k < 50) (h : arr[k]? = some (.bool b)) (w : World) : (Instr.index 139 (.agg arr) (.int .i64 (k : Int))).run Try.prog w = .ok (.bool b) w := by
  have hk1 : (0 : Int) ≤ (k : Int) ∧ (k : Int) < 50 := by omega
  have hsz : (sizeOf 4).run Try.prog w = .ok 1 w := by
    have hi : (Try.prog.info? 4).map (·.size) = some 1 := by kernel_rfl
    cases hq : Try.prog.info? 4 with
    | none => simp [hq] at hi
    | some i => simp [hq] at hi; simp [sizeOf, typeInfo, hq, hi]
  simp [Instr.index, run_underlying Try.underlying139, asIntOf, hk1, hsz, part, isAgg, run_underlying Try.underlying4, h, go_sem]
  intro h9; omega
/-- What TreePages answers. -/
def pagesA (H : List NM) (root : Int) : List Int × Int := match treeF H root with
  | none => ([], 1)
  | some s => (pgs s.R 50, 0)
end Go.Proofs.Ytmpaophegdeokaa
