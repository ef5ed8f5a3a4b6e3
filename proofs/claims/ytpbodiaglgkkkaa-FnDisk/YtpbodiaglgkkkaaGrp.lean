
/-
  Lists of lists: each sector's writes, in blocks of their own. By an AI agent.
-/
import Derived.Test.YtpbodiaglgkkkaaDwr
import Derived.Deep.RegionLaw
import Derived.ArgAppend
namespace Go.Proofs.Ytpbodiaglgkkkaa
open Go.ChangeShapes Go.WideShapes Go.ChangeAt Go.RowKit Go.Deep
set_option linter.unusedVariables false

/-- Block LB holds n lists; list j holds what of the writes C goes to sector j; their blocks are others, from base on. -/
structure Grp (w : World) (base LB n : Nat) (vs : List Value) (C : List (Int × ByteArray)) : Prop where
  len : vs.length = n
  lists : w.ownsRow base 23 1 (.slice (some ⟨LB, 0, none⟩) n n) n vs
  row : ∀ j, j < n → w.ownsRow base 9 1 (vs.getD j undef) (byS C j).length (cellsS (byS C j))
  apart : ∀ i j, i < n → j < n → i ≠ j → ∀ g, (vs.getD i undef).ownBlock = some g → (vs.getD j undef).ownBlock ≠ some g
theorem Grp.below {w w' : World} {base LB n : Nat} {vs : List Value} {C : List (Int × ByteArray)} (h : Grp w base LB n vs C) (hb : Below w.heap.size w w') : Grp w' base LB n vs C :=
  ⟨h.len, own_below h.lists hb, fun j hj => own_below (h.row j hj) hb, h.apart⟩
theorem Grp.drew {w : World} {base LB n : Nat} {vs : List Value} {C : List (Int × ByteArray)} (h : Grp w base LB n vs C) : Grp w.drew base LB n vs C := ⟨h.len, h.lists, h.row, h.apart⟩
theorem getD_set (vs : List Value) (k j : Nat) (v : Value) (hk : k < vs.length) : (vs.set k v).getD j undef = if k = j then v else vs.getD j undef := by
  rw [List.getD_eq_getElem?_getD, List.getElem?_set]
  by_cases e : k = j
  · subst e; rw [if_pos rfl, if_pos rfl, if_pos hk]; rfl
  · rw [if_neg e, if_neg e, ← List.getD_eq_getElem?_getD]
/-- One write more. -/
theorem Grp.more {w w' : World} {base LB n k : Nat} {vs : List Value} {C : List (Int × ByteArray)} {y : ByteArray} {v' : Value} (h : Grp w base LB n vs C) (hk : k < n)
    (ho : w'.ownsRow base 9 1 v' ((byS C k).length + 1) (cellsS (byS C k) ++ cellsS [y])) (hg : w.grownBy w' (vs.getD k undef).ownBlock) (hb : v'.ownBlock = (vs.getD k undef).ownBlock ∨ ∀ g, v'.ownBlock = some g → w.heap.size ≤ g) :
    Grp (w'.setCell ⟨LB, k, none⟩ v') base LB n (vs.set k v') (C ++ [((k : Int), y)]) := by
  have hkl : k < vs.length := by rw [h.len]; exact hk
  have hLn : ∀ j, j < n → ∀ g, (vs.getD j undef).ownBlock = some g → g ≠ LB := fun j hj g e e2 => by
    subst e2
    exact own_ne h.lists (h.row j hj) (by decide) g rfl e
  have hL : w'.ownsRow base 23 1 (.slice (some ⟨LB, 0, none⟩) n n) n vs := own_grown h.lists hg (fun g e e2 => by cases e; exact hLn k hk _ e2 rfl)
  have hv' : v'.ownBlock ≠ some LB := fun e => own_ne hL ho (by decide) LB rfl e
  have hrow : ∀ j, j < n → j ≠ k → w'.ownsRow base 9 1 (vs.getD j undef) (byS C j).length (cellsS (byS C j)) := fun j hj hne =>
    own_grown (h.row j hj) hg (fun g e e2 => h.apart j k hj hk hne g e e2)
  have hnew : ∀ j, j < n → j ≠ k → ∀ g, v'.ownBlock = some g → (vs.getD j undef).ownBlock ≠ some g := fun j hj hne g e e2 => by
    rcases hb with hb | hb
    · rw [hb] at e; exact h.apart k j hk hj (fun e3 => hne e3.symm) g e e2
    · have h1 := hb g e
      have h2 := ((h.row j hj).lt g e2).2
      omega
  refine ⟨by rw [List.length_set]; exact h.len, own_set hL k hkl v', fun j hj => ?_, fun i j hi hj hne g e => ?_⟩
  · rw [getD_set _ _ _ _ hkl, byS_snoc, Int.toNat_natCast]
    by_cases e : k = j
    · subst e
      rw [if_pos rfl, if_pos rfl, List.length_append, cellsS_append]
      exact own_setOther ho hv' _
    · rw [if_neg e, if_neg e]
      exact own_setOther (hrow j hj (fun e2 => e e2.symm)) (fun e2 => hLn j hj _ e2 rfl) _
  · rw [getD_set _ _ _ _ hkl] at e ⊢
    by_cases e1 : k = i
    · subst e1
      rw [if_pos rfl] at e
      rw [if_neg hne]
      exact hnew j hj (fun e2 => hne e2.symm) g e
    · rw [if_neg e1] at e
      by_cases e2 : k = j
      · subst e2
        rw [if_pos rfl]
        exact fun e3 => hnew i hi (fun e4 => e1 e4.symm) g e3 e
      · rw [if_neg e2]; exact h.apart i j hi hj hne g e
theorem Grp.made {w : World} {n : Nat} (hn : n ≤ 1048576) : Grp (w.alloc (.cells (madeCells #[.slice none 0 0] n) 23)) w.heap.size w.heap.size n (List.replicate n (.slice none 0 0)) [] := by
  have hd : ∀ j, j < n → (List.replicate n (Value.slice none 0 0)).getD j undef = .slice none 0 0 := fun j hj => by rw [List.getD_eq_getElem?_getD]; simp [hj]
  refine ⟨by simp, ⟨by simp, .inr ⟨w.heap.size, n, _, rfl, Nat.le_refl _, heap_alloc_new _ _, Nat.le_refl _, by unfold maxLen; omega, by simp [size_madeCells], ?_⟩⟩, fun j hj => ?_, fun i j hi hj hne g e => ?_⟩
  · rw [toList_madeCells_one, List.take_of_length_le (by simp)]
  · rw [hd j hj]; exact World.ownsRow_nil _ _ _ _
  · rw [hd i hi] at e; cases e
theorem infoL : (Try.prog.info? 23).map (fun i => (i.zero, i.size, i.bytes)) = some (some (.slice none 0 0), 1, 24) := by kernel_rfl
theorem run_make_L (n : Nat) (hn : n ≤ 1048576) (w : World) : (Instr.makeSlice 56 (.int .i64 (n : Int)) (.int .i64 (n : Int))).run Try.prog w = .ok (.slice (some ⟨w.heap.size, 0, none⟩) n n) (w.alloc (.cells (madeCells #[.slice none 0 0] (n * 1)) 23)) :=
  run_make_rows 56 23 (.slice none 0 0) 1 24 n Try.underlying56 infoL (by omega) hn w
end Go.Proofs.Ytpbodiaglgkkkaa
