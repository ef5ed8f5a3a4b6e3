
/-
  The disk as lists: what a right one is, what writes do, which are kept. By an AI agent.
-/
import Derived.Test.YtlkobhighhkmoaaDoorRw
namespace Go.Proofs.YtlkobhighhkmoaaDoor
set_option linter.unusedVariables false

structure DM where
  S : List ByteArray
  C : List (Int × ByteArray)
  A : Bool
  K : List Int
abbrev DM.none : DM := ⟨[], [], false, []⟩
abbrev okW (n : Nat) (p : Int × ByteArray) : Prop := 0 ≤ p.1 ∧ p.1 < (n : Int) ∧ p.2.size ≤ 420
/-- A right disk. -/
abbrev okD (D : DM) : Prop := (1 ≤ D.S.length ∧ D.S.length ≤ 80 ∧ ∀ x ∈ D.S, x.size ≤ 420) ∧ (D.C.length ≤ 500 ∧ ∀ p ∈ D.C, okW D.S.length p) ∧ D.K.length ≤ 500 ∧ (D.A = false → D.K.length = 0)

theorem getD_mem {α : Type} (L : List α) (d : α) (i : Nat) (h : i < L.length) : L.getD i d ∈ L := by
  rw [List.getD_eq_getElem?_getD, List.getElem?_eq_getElem h]; exact List.getElem_mem h
theorem all_iff {α : Type} (L : List α) (d : α) (p : α → Prop) : (∀ x ∈ L, p x) ↔ ∀ i, i < L.length → p (L.getD i d) :=
  ⟨fun h i hi => h _ (getD_mem L d i hi), fun h x hx => by
    obtain ⟨i, hi, rfl⟩ := List.getElem_of_mem hx
    have := h i hi
    rw [List.getD_eq_getElem?_getD, List.getElem?_eq_getElem hi] at this
    exact this⟩

/-- The sectors behind these writes. -/
def applyW (S : List ByteArray) (C : List (Int × ByteArray)) : List ByteArray := C.foldl (fun S p => S.set p.1.toNat p.2) S
theorem applyW_snoc (S : List ByteArray) (C : List (Int × ByteArray)) (p : Int × ByteArray) : applyW S (C ++ [p]) = (applyW S C).set p.1.toNat p.2 := by
  simp [applyW, List.foldl_append]
theorem applyW_length (S : List ByteArray) (C : List (Int × ByteArray)) : (applyW S C).length = S.length := by
  unfold applyW
  induction C generalizing S with
  | nil => rfl
  | cons p C ih => rw [List.foldl_cons, ih, List.length_set]
theorem take_snoc {α : Type} (L : List α) (d : α) (i : Nat) (h : i < L.length) : L.take (i + 1) = L.take i ++ [L.getD i d] := by
  rw [List.take_add_one, List.getElem?_eq_getElem h, List.getD_eq_getElem?_getD, List.getElem?_eq_getElem h]; rfl
/-- Of the first i writes those that are kept. -/
def keptTo (C : List (Int × ByteArray)) (K : List Int) (i : Nat) : List (Int × ByteArray) :=
  ((List.range i).filter fun j => decide (j < K.length) && (K.getD j 0 != 0)).map fun j => C.getD j q0
theorem keptTo_yes (C : List (Int × ByteArray)) (K : List Int) (i : Nat) (h1 : i < K.length) (h2 : K.getD i 0 ≠ 0) : keptTo C K (i + 1) = keptTo C K i ++ [C.getD i q0] := by
  unfold keptTo
  rw [List.range_succ, List.filter_append, List.map_append]
  congr 1
  have : (decide (i < K.length) && (K.getD i 0 != 0)) = true := by simp only [h1, decide_true, Bool.true_and, bne_iff_ne, ne_eq]; exact h2
  rw [List.filter_cons, if_pos this]; rfl
theorem keptTo_no (C : List (Int × ByteArray)) (K : List Int) (i : Nat) (h : i < K.length → K.getD i 0 = 0) : keptTo C K (i + 1) = keptTo C K i := by
  unfold keptTo
  rw [List.range_succ, List.filter_append, List.map_append]
  have : (decide (i < K.length) && (K.getD i 0 != 0)) = false := by
    by_cases h1 : i < K.length
    · rw [h h1]; simp
    · rw [decide_eq_false h1]; rfl
  rw [List.filter_cons, if_neg (by rw [this]; simp)]; simp
theorem keptTo_length (C : List (Int × ByteArray)) (K : List Int) (i : Nat) : (keptTo C K i).length ≤ i := by
  unfold keptTo
  rw [List.length_map]
  exact Nat.le_trans (List.length_filter_le _ _) (by simp)
theorem keptTo_ok (C : List (Int × ByteArray)) (K : List Int) (i : Nat) (hi : i ≤ C.length) (P : Int × ByteArray → Prop) (h : ∀ p ∈ C, P p) : ∀ p ∈ keptTo C K i, P p := by
  intro p hp
  unfold keptTo at hp
  rw [List.mem_map] at hp
  obtain ⟨j, hj, rfl⟩ := hp
  have := (List.mem_filter.1 hj).1
  rw [List.mem_range] at this
  exact h _ (getD_mem _ _ _ (by omega))
/-- What is written to sector i, in its order. -/
def byS (C : List (Int × ByteArray)) (i : Nat) : List ByteArray := (C.filter fun p => p.1.toNat == i).map (·.2)
theorem byS_nil (i : Nat) : byS [] i = [] := rfl
theorem byS_snoc (C : List (Int × ByteArray)) (p : Int × ByteArray) (i : Nat) : byS (C ++ [p]) i = if p.1.toNat = i then byS C i ++ [p.2] else byS C i := by
  unfold byS
  rw [List.filter_append, List.map_append, List.filter_cons]
  by_cases h : p.1.toNat = i
  · rw [if_pos h, if_pos (by simp [h])]; rfl
  · rw [if_neg h, if_neg (by simp [h])]; simp
theorem byS_length (C : List (Int × ByteArray)) (i : Nat) : (byS C i).length ≤ C.length := by
  unfold byS
  rw [List.length_map]
  exact List.length_filter_le _ _
/-- The last write of sector i, or what was there. -/
def lastOr (L : List ByteArray) (x : ByteArray) : ByteArray := L.getLast?.getD x
theorem lastOr_nil (x : ByteArray) : lastOr [] x = x := rfl
theorem lastOr_snoc (L : List ByteArray) (y x : ByteArray) : lastOr (L ++ [y]) x = y := by simp [lastOr]
theorem lastOr_get (L : List ByteArray) (x : ByteArray) (h : 0 < L.length) : lastOr L x = L.getD (L.length - 1) e0 := by
  unfold lastOr
  rw [List.getLast?_eq_getElem?, List.getD_eq_getElem?_getD, List.getElem?_eq_getElem (by omega)]; rfl
theorem applyW_get (S : List ByteArray) (C : List (Int × ByteArray)) (i : Nat) (hi : i < S.length) : (applyW S C).getD i e0 = lastOr (byS C i) (S.getD i e0) := by
  rw [← List.reverse_reverse C]
  generalize C.reverse = R
  induction R with
  | nil => rfl
  | cons p R ih =>
    rw [List.reverse_cons, applyW_snoc, byS_snoc]
    by_cases h : p.1.toNat = i
    · rw [if_pos h, lastOr_snoc, List.getD_eq_getElem?_getD, List.getElem?_set, if_pos h, if_pos (by rw [h, applyW_length]; exact hi)]; rfl
    · rw [if_neg h, ← ih, List.getD_eq_getElem?_getD, List.getElem?_set, if_neg h, ← List.getD_eq_getElem?_getD]
theorem ext_getD {α : Type} {L M : List α} (d : α) (hl : L.length = M.length) (h : ∀ i, i < L.length → L.getD i d = M.getD i d) : L = M := by
  apply List.ext_getElem hl
  intro i h1 h2
  have := h i h1
  rw [List.getD_eq_getElem?_getD, List.getD_eq_getElem?_getD, List.getElem?_eq_getElem h1, List.getElem?_eq_getElem h2] at this
  exact this
/-- The first k sectors behind the writes, the others as they were. -/
def partW (S : List ByteArray) (C : List (Int × ByteArray)) (k : Nat) : List ByteArray := (applyW S C).take k ++ S.drop k
theorem partW_zero (S : List ByteArray) (C : List (Int × ByteArray)) : partW S C 0 = S := by simp [partW]
theorem partW_all (S : List ByteArray) (C : List (Int × ByteArray)) : partW S C S.length = applyW S C := by
  unfold partW
  rw [List.take_of_length_le (by rw [applyW_length]; exact Nat.le_refl _), List.drop_length, List.append_nil]
theorem partW_length (S : List ByteArray) (C : List (Int × ByteArray)) (k : Nat) : (partW S C k).length = S.length := by
  unfold partW
  have := applyW_length S C
  simp; omega
theorem partW_set (S : List ByteArray) (C : List (Int × ByteArray)) (k : Nat) (hk : k < S.length) : (partW S C k).set k (lastOr (byS C k) (S.getD k e0)) = partW S C (k + 1) := by
  rw [← applyW_get S C k hk]
  unfold partW
  have hl := applyW_length S C
  rw [List.set_append_right _ _ (by simp; omega)]
  have e1 : k - ((applyW S C).take k).length = 0 := by simp; omega
  rw [e1, List.drop_eq_getElem_cons hk, List.set_cons_zero, take_snoc (applyW S C) e0 k (by omega)]
  simp
theorem partW_skip (S : List ByteArray) (C : List (Int × ByteArray)) (k : Nat) (hk : k < S.length) (h : byS C k = []) : partW S C k = partW S C (k + 1) := by
  rw [← partW_set S C k hk, h, lastOr_nil]
  unfold partW
  have hl := applyW_length S C
  rw [List.set_append_right _ _ (by simp; omega)]
  have e1 : k - ((applyW S C).take k).length = 0 := by simp; omega
  rw [e1, List.drop_eq_getElem_cons hk, List.set_cons_zero, List.getD_eq_getElem?_getD, List.getElem?_eq_getElem hk]; rfl
/-- Of the first k sectors those with writes that are not sure. -/
def pendTo (C : List (Int × ByteArray)) (k : Nat) : List Int := ((List.range k).filter fun i => !(byS C i).isEmpty).map fun (i : Nat) => (i : Int)
theorem pendTo_yes (C : List (Int × ByteArray)) (k : Nat) (h : byS C k ≠ []) : pendTo C (k + 1) = pendTo C k ++ [(k : Int)] := by
  unfold pendTo
  rw [List.range_succ, List.filter_append, List.map_append]
  congr 1
  rw [List.filter_cons, if_pos (by simpa using h)]; rfl
theorem pendTo_no (C : List (Int × ByteArray)) (k : Nat) (h : byS C k = []) : pendTo C (k + 1) = pendTo C k := by
  unfold pendTo
  rw [List.range_succ, List.filter_append, List.map_append, List.filter_cons, if_neg (by simp [h])]; simp
theorem pendTo_length (C : List (Int × ByteArray)) (k : Nat) : (pendTo C k).length ≤ k := by
  unfold pendTo
  rw [List.length_map]
  exact Nat.le_trans (List.length_filter_le _ _) (by simp)
def crashD (D : DM) (keep : List Int) : DM := ⟨applyW D.S (keptTo D.C keep D.C.length), [], false, []⟩
def syncD (D : DM) : DM := ⟨applyW D.S D.C, [], false, []⟩
end Go.Proofs.YtlkobhighhkmoaaDoor
