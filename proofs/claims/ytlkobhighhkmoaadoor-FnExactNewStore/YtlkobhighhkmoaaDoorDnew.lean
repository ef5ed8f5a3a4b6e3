
/-
  Contracts of both NewDisk. By an AI agent.
-/
import Derived.Test.YtlkobhighhkmoaaDoorDwr
namespace Go.Proofs.YtlkobhighhkmoaaDoor
open Go.ChangeShapes Go.WideShapes Go.ChangeAt Go.RowKit Go.Deep
set_option linter.unusedVariables false

def newD (n : Nat) : DM := ⟨List.replicate n e0, [], false, []⟩
/-- What NewDisk answers. -/
def ndisk (n : Int) : DM × Int := if 1 ≤ n ∧ n ≤ 80 then (newD n.toNat, 0) else (DM.none, 4)
theorem nd_yes {n : Int} {m : Nat} (h : 1 ≤ n ∧ n ≤ 80) (hm : n = (m : Int)) : ndisk n = (newD m, 0) := by unfold ndisk; rw [if_pos h, hm]; rfl
theorem nd_no {n : Int} (h : ¬ (1 ≤ n ∧ n ≤ 80)) : ndisk n = (DM.none, 4) := by unfold ndisk; rw [if_neg h]
theorem nd_small {n c : Int} {R : DM} (h : ndisk n = (R, c)) : smallD R := by
  unfold ndisk at h
  split at h
  · rename_i hn
    cases h
    refine ⟨⟨by simp [newD]; omega, fun x hx => ?_⟩, ⟨by simp [newD], fun x hx => by cases hx⟩, by simp [newD]⟩
    have := List.eq_of_mem_replicate hx
    rw [this]; decide
  · cases h; exact small_none
theorem own_madeS {w : World} {n B : Nat} (hB : B = w.heap.size) (hn : n ≤ 1048576) : (w.alloc (.cells (madeCells #[.string ⟨#[]⟩] n) 9)).ownsRow B 9 1 (.slice (some ⟨B, 0, none⟩) n n) n (cellsS (List.replicate n e0)) := by
  subst hB
  refine ⟨by rw [cellsS_length]; simp, .inr ⟨w.heap.size, n, _, rfl, Nat.le_refl _, heap_alloc_new _ _, Nat.le_refl _, by unfold maxLen; omega, by simp [size_madeCells], ?_⟩⟩
  rw [toList_madeCells_one, List.take_of_length_le (by simp)]
  simp [cellsS]

set_option maxHeartbeats 1000000 in
theorem l02New (n : Nat) (w : World) (hn : n ≤ 80) : Calls Tryd.prog 19 #[.int .i64 (n : Int)] w fun e w' => ∃ v', e = .returned v' ∧ OwnsD w' w.heap.size w'.heap.size v' (newD n) ∧ Below w.heap.size w w' := by
  have hmk := run_make_S n (by omega)
  have HN : Hid (n ≤ 80) := hn
  go_enter Tryd.func19, Tryd.ntmps19
  go_wp2_with fail
  refine bodyPost_ret (v := .agg #[.slice (some ⟨w.heap.size + 1, 0, none⟩) n n, .slice (some ⟨w.heap.size + 1 + 1, 0, none⟩) 0 0, .bool false, .slice (some ⟨w.heap.size + 1 + 1 + 1, 0, none⟩) 0 0]) (by simp [results, Tryd.results19, go_sem]) rfl ⟨_, rfl, ?_, ?_⟩
  · refine OwnsD.mk rfl ?_ ?_ ?_ (Nat.le_refl _)
    · rw [show (newD n).S.length = n from by simp [newD]]
      exact own_mono (((own_madeS (by simp) (by have := HN.out; omega)).alloc _).alloc _) (by omega)
    · exact own_mono ((own_empty (base := w.heap.size + 1) (by simp) (by simp)).alloc _) (by omega)
    · exact own_mono (own_empty (base := w.heap.size + 1) (by simp) (by simp)) (by omega)
  · exact ((((Below.refl _ _).alloc (Nat.le_refl _) _).alloc (by simp) _).alloc (by simp; omega) _).alloc (by simp; omega) _

set_option maxHeartbeats 1000000 in
theorem implNewDisk (n : Int) (w : World) : Calls Tryd.prog 23 #[.int .i64 n] w fun e w' => ∃ v' R c, e = .returned (.tuple #[v', .int .i64 c]) ∧ ndisk n = (R, c) ∧ OwnsD w' w.heap.size w'.heap.size v' R ∧ Below w.heap.size w w' := by
  by_cases h1 : n < 1
  · have F : Hid (ndisk n = (DM.none, 4)) := nd_no (by omega)
    go_enter Tryd.func23, Tryd.ntmps23
    go_wp2_with fail
    exact bodyPost_ret (v := .tuple #[.agg #[.slice none 0 0, .slice none 0 0, .bool false, .slice none 0 0], .int .i64 4]) (by simp [results, Tryd.results23, go_sem]) rfl ⟨_, _, _, rfl, F.out, OwnsD.nil _ _ _, (Below.refl _ _).alloc (Nat.le_refl _) _⟩
  by_cases h2 : 80 < n
  · have F : Hid (ndisk n = (DM.none, 4)) := nd_no (by omega)
    go_enter Tryd.func23, Tryd.ntmps23
    go_wp2_with fail
    exact bodyPost_ret (v := .tuple #[.agg #[.slice none 0 0, .slice none 0 0, .bool false, .slice none 0 0], .int .i64 4]) (by simp [results, Tryd.results23, go_sem]) rfl ⟨_, _, _, rfl, F.out, OwnsD.nil _ _ _, (Below.refl _ _).alloc (Nat.le_refl _) _⟩
  obtain ⟨m, rfl⟩ : ∃ m : Nat, n = (m : Int) := ⟨n.toNat, by omega⟩
  have F : Hid (ndisk (m : Int) = (newD m, 0)) := nd_yes (by omega) rfl
  have HN : Hid (m ≤ 80) := by show m ≤ 80; omega
  have hmk := run_make_S m (by omega)
  go_enter Tryd.func23, Tryd.ntmps23
  go_wp2_with fail
  refine bodyPost_ret (v := .tuple #[.agg #[.slice (some ⟨w.heap.size + 1, 0, none⟩) m m, .slice none 0 0, .bool false, .slice none 0 0], .int .i64 0]) (by simp [results, Tryd.results23, go_sem]) rfl ⟨_, _, _, rfl, F.out, ?_, ?_⟩
  · refine OwnsD.mk rfl ?_ (World.ownsRow_nil _ _ _ _) (World.ownsRow_nil _ _ _ _) (Nat.le_refl _)
    rw [show (newD m).S.length = m from by simp [newD]]
    exact own_mono (own_madeS (by simp) (by have := HN.out; omega)) (by omega)
  · exact ((Below.refl _ _).alloc (Nat.le_refl _) _).alloc (by simp) _
end Go.Proofs.YtlkobhighhkmoaaDoor
