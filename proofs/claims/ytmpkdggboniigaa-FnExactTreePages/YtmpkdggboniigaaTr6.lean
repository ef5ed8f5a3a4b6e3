/-
  TreePairs of both. By an AI agent.
-/
import Derived.Test.YtmpkdggboniigaaTr4
import Derived.Test.YtmpkdggboniigaaTr2
namespace Go.Proofs.Ytmpkdggboniigaa
open Go.ChangeShapes Go.WideShapes Go.ChangeAt Go.RowKit Go.Deep
set_option linter.unusedVariables false
set_option maxRecDepth 100000
/-- What TreePairs answers. -/
def pairsA (H : List NM) (root : Int) : List PM × Int := match treeF H root with
  | none => ([], 1)
  | some s => (s.P, 0)
theorem own_nilP (w : World) (base : Nat) : w.ownsRow base 42 2 (.slice none 0 0) 0 (cellsP []) := ⟨rfl, .inl ⟨rfl, rfl⟩⟩
set_option maxHeartbeats 400000 in
theorem implTreePairs (v : Value) (H : List NM) (root : Int) (w : World) (hsm : smallH H) (h : ReadsH w v H) :
    Calls Try.prog 49 #[v, .int .i64 root] w fun e w' => ∃ u R q, e = .returned (.tuple #[u, .int .i64 q]) ∧ pairsA H root = (R, q) ∧ w'.ownsRow w.heap.size 42 2 u R.length (cellsP R) ∧ R.length ≤ 150 ∧ Below w.heap.size w w' := by
  obtain ⟨a, c, rfl, hr⟩ := h
  have HR : Hid (ReadsH w (.agg #[.slice a H.length c]) H) := ⟨a, c, rfl, hr⟩
  have HS : Hid (smallH H) := hsm
  clear hr hsm
  go_enter Try.func49, Try.ntmps49
  go_wp2_with fail
  refine (readTree _ H root _ HS.out (HR.out.below ((Below.refl _ _).alloc (Nat.le_refl _) _))).mono ?_
  rintro e w1 ⟨hb1, (⟨hn, rfl⟩ | ⟨s, T, hs, rfl, a', c', top, pv, tm, _⟩)⟩
  · have F : Hid (pairsA H root = ([], 1)) := by show _ = _; unfold pairsA; rw [hn]
    have B1 : Hid (Below w.heap.size w w1) := Below.new hb1
    clear hn hb1
    go_wp2_with fail
    go_ret2
    exact ⟨_, _, _, rfl, F.out, own_nilP _ _, by simp, B1.out⟩
  · have F : Hid (pairsA H root = (s.P, 0)) := by show _ = _; unfold pairsA; rw [hs]
    have B1 : Hid (Below w.heap.size w w1) := Below.new hb1
    obtain ⟨pa, pc, rfl, _, _⟩ := own_src tm.row
    have O1 : Hid (w1.ownsRow w.heap.size 42 2 (.slice pa s.P.length pc) s.P.length (cellsP s.P) ∧ s.P.length ≤ 150) := ⟨own_mono tm.row (by simp), good_le tm.good⟩
    obtain ⟨c1, _⟩ := blk_at tm.blk (tarr_P tm.good.1)
    clear hs hb1 tm
    go_wp2_with fail
    go_ret2
    exact ⟨_, _, _, rfl, F.out, O1.out.1, O1.out.2, B1.out⟩
set_option maxHeartbeats 400000 in
theorem specTreePairs (v : Value) (H : List NM) (root : Int) (w : World) (hsm : smallH H) (h : ReadsH w v H) :
    Calls Try.prog 83 #[v, .int .i64 root] w fun e w' => ∃ u R q, e = .returned (.tuple #[u, .int .i64 q]) ∧ pairsA H root = (R, q) ∧ w'.ownsRow w.heap.size 42 2 u R.length (cellsP R) ∧ R.length ≤ 150 ∧ Below w.heap.size w w' := by
  obtain ⟨a, c, rfl, hr⟩ := h
  have HR : Hid (ReadsH w (.agg #[.slice a H.length c]) H) := ⟨a, c, rfl, hr⟩
  have HS : Hid (smallH H) := hsm
  clear hr hsm
  go_enter Try.func83, Try.ntmps83
  go_wp2_with fail
  refine (l03Walk _ H root _ HS.out (HR.out.below ((Below.refl _ _).alloc (Nat.le_refl _) _))).mono ?_
  rintro e w1 ⟨hb1, (⟨hn, v1, v2, rfl⟩ | ⟨s, v1, v2, hs, rfl, row, _, good, _⟩)⟩
  · have F : Hid (pairsA H root = ([], 1)) := by show _ = _; unfold pairsA; rw [hn]
    have B1 : Hid (Below w.heap.size w w1) := Below.new hb1
    clear hn hb1
    go_wp2_with fail
    go_ret2
    exact ⟨_, _, _, rfl, F.out, own_empty rfl B1.out.size, by simp, B1.out.alloc B1.out.size _⟩
  · have F : Hid (pairsA H root = (s.P, 0)) := by show _ = _; unfold pairsA; rw [hs]
    have B1 : Hid (Below w.heap.size w w1) := Below.new hb1
    have O1 : Hid (w1.ownsRow w.heap.size 42 2 v1 s.P.length (cellsP s.P) ∧ s.P.length ≤ 150) := ⟨own_mono row (by simp), good_le good⟩
    clear hs hb1 row good
    go_wp2_with fail
    go_ret2
    exact ⟨_, _, _, rfl, F.out, O1.out.1, O1.out.2, B1.out⟩
end Go.Proofs.Ytmpkdggboniigaa
