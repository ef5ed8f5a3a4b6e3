
/-
  Contracts of both NewDisk. By an AI agent.
-/
import Derived.Test.YtpbodiaglgkkkaaDwr
namespace Go.Proofs.Ytpbodiaglgkkkaa
open Go.ChangeShapes Go.WideShapes Go.ChangeAt Go.RowKit Go.Deep
set_option linter.unusedVariables false

def newD (n : Nat) : DM := ⟨List.replicate n e0, [], false, []⟩
/-- What NewDisk answers. -/
def ndisk (n : Int) : DM × Int := if 1 ≤ n ∧ n ≤ 80 then (newD n.toNat, 0) else (DM.none, 4)
theorem nd_yes {n : Int} {m : Nat} (h : 1 ≤ n ∧ n ≤ 80) (hm : n = (m : Int)) : ndisk n = (newD m, 0) := by unfold ndisk; rw [if_pos h, hm]; rfl
theorem nd_no {n : Int} (h : ¬ (1 ≤ n ∧ n ≤ 80)) : ndisk n = (DM.none, 4) := by unfold ndisk; rw [if_neg h]
theorem nd_small {n c : Int} {R : DM} (h : ndisk n = (R, c)) : smallD R := by
  unfold ndisk at h
  split at h
  · rename_i hn
    cases h
    refine ⟨⟨by simp [newD]; omega, fun x hx => ?_⟩, ⟨by simp [newD], fun x hx => by cases hx⟩, by simp [newD]⟩
    have := List.eq_of_mem_replicate hx
    rw [this]; decide
  · cases h; exact small_none
theorem own_madeS {w : World} {n B : Nat} (hB : B = w.heap.size) (hn : n ≤ 1048576) : (w.alloc (.cells (madeCells #[.string ⟨#[]⟩] n) 9)).ownsRow B 9 1 (.slice (some ⟨B, 0, none⟩) n n) n (cellsS (List.replicate n e0)) := by
  subst hB
  refine ⟨by rw [cellsS_length]; simp, .inr ⟨w.heap.size, n, _, rfl, Nat.le_refl _, heap_alloc_new _ _, Nat.le_refl _, by unfold maxLen; omega, by simp [size_madeCells], ?_⟩⟩
  rw [toList_madeCells_one, List.take_of_length_le (by simp)]
  simp [cellsS]

set_option maxHeartbeats 1000000 in
theorem l02New (n : Nat) (w : World) (hn : n ≤ 80) : Calls Try.prog 36 #[.int .i64 (n : Int)] w fun e w' => ∃ v', e = .returned v' ∧ OwnsD w' w.heap.size w'.heap.size v' (newD n) ∧ Below w.heap.size w w' := by
  have hmk := run_make_S n (by omega)
  have HN : Hid (n ≤ 80) := hn
  go_enter Try.func36, Try.ntmps36
  go_wp2_with fail
  refine bodyPost_ret (v := .agg #[.slice (some ⟨w.heap.size + 1, 0, none⟩) n n, .slice (some ⟨w.heap.size + 1 + 1, 0, none⟩) 0 0, .bool false, .slice (some ⟨w.heap.size + 1 + 1 + 1, 0, none⟩) 0 0]) (by simp [results, Try.results36, go_sem]) rfl ⟨_, rfl, ?_, ?_⟩
  · refine OwnsD.mk rfl ?_ ?_ ?_ (Nat.le_refl _)
    · rw [show (newD n).S.length = n from by simp [newD]]
      exact own_mono (((own_madeS (by simp) (by have := HN.out; omega)).alloc _).alloc _) (by omega)
    · exact own_mono ((own_empty (base := w.heap.size + 1) (by simp) (by simp)).alloc _) (by omega)
    · exact own_mono (own_empty (base := w.heap.size + 1) (by simp) (by simp)) (by omega)
  · exact ((((Below.refl _ _).alloc (Nat.le_refl _) _).alloc (by simp) _).alloc (by simp; omega) _).alloc (by simp; omega) _

end Go.Proofs.Ytpbodiaglgkkkaa
