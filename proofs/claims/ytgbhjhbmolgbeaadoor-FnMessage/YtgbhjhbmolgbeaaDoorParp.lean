
/-
  Reading a message, bytes alone: the specification's way and the program's, and that they agree. By an AI agent.
-/
import Derived.Test.YtgbhjhbmolgbeaaDoorMsgp
import Derived.Test.YtgbhjhbmolgbeaaDoorMsgs
import Derived.Lib.IndexMore
namespace Go.Proofs.YtgbhjhbmolgbeaaDoor
open Go.RowKit Go.Lib
set_option linter.unusedVariables false

def bsOf (l : List UInt8) : ByteArray := ⟨l.toArray⟩
theorem bsOf_size (l : List UInt8) : (bsOf l).size = l.length := by simp [bsOf, ByteArray.size]
theorem bsOf_list (l : List UInt8) : (bsOf l).data.toList = l := by simp [bsOf]
def nl (l : List UInt8) : Nat := l.findIdx (· == 10)
def cl (l : List UInt8) : Nat := l.findIdx (· == 58)
def fieldS (l : List UInt8) : Option MFl :=
  if cl l + 1 < l.length ∧ l.getD (cl l + 1) 0 = 32 ∧ nameB (bsOf (l.take (cl l))) = true ∧ valB (bsOf (l.drop (cl l + 2))) = true then some (bsOf (l.take (cl l)), bsOf (l.drop (cl l + 2))) else none
def parS : Nat → List UInt8 → List MFl → Option GM
  | 0, _, _ => none
  | n + 1, l, acc => if nl l = l.length then none else if nl l = 0 then (if acc.length ≤ 8 then some ⟨acc, bsOf (l.drop 1)⟩ else none) else
    match fieldS (l.take (nl l)) with
    | none => none
    | some f => parS n (l.drop (nl l + 1)) (acc ++ [f])
def headF : Nat → List UInt8 → List MFl → Option (List MFl × List UInt8)
  | 0, _, _ => none
  | n + 1, l, acc => if nl l = l.length then none else if nl l = 0 then some (acc, l.drop 1) else
    if (cut (l.take (nl l)) [58, 32]).2.2 then headF n (l.drop (nl l + 1)) (acc ++ [(bsOf (cut (l.take (nl l)) [58, 32]).1, bsOf (cut (l.take (nl l)) [58, 32]).2.1)]) else none
def parse (l : List UInt8) : Option GM := parS (l.length + 1) l []
theorem index_one (c : UInt8) : ∀ l : List UInt8, index l [c] = if l.findIdx (· == c) = l.length then -1 else (l.findIdx (· == c) : Int)
  | [] => by simp [index]
  | b :: l => by
    have ih := index_one c l
    have hle := List.findIdx_le_length (p := (· == c)) (xs := l)
    unfold index
    rw [ih, List.findIdx_cons]
    by_cases h : b = c
    · subst h; simp
    · have h1 : (b == c) = false := by simpa using h
      have h2 : ([c].isPrefixOf (b :: l)) = false := by simp [List.isPrefixOf]; exact fun e => h e.symm
      rw [h1, h2]
      by_cases h3 : l.findIdx (· == c) = l.length
      · simp [h3]
      · simp only [h3, if_false, cond_false, List.length_cons, Bool.false_eq_true]
        have h4 : ¬ (l.findIdx (· == c) + 1 = l.length + 1) := by omega
        have h5 : (((l.findIdx (· == c) : Nat) : Int) == -1) = false := by rw [beq_eq_false_iff_ne]; omega
        rw [if_neg h4, h5]
        simp
theorem cut_nl (l : List UInt8) : cut l [10] = if nl l = l.length then (l, [], false) else (l.take (nl l), l.drop (nl l + 1), true) := by
  unfold cut
  rw [index_one]
  unfold nl
  by_cases h : l.findIdx (· == 10) = l.length
  · simp [h]
  · simp [h]
theorem nl_le (l : List UInt8) : nl l ≤ l.length := List.findIdx_le_length
theorem cl_le (l : List UInt8) : cl l ≤ l.length := List.findIdx_le_length
theorem cl_at (l : List UInt8) (h : cl l < l.length) : l[cl l]? = some 58 := by
  have := List.findIdx_getElem (p := (· == (58 : UInt8))) (xs := l) (w := h)
  rw [List.getElem?_eq_getElem h]
  have h2 : l[cl l] = 58 := beq_iff_eq.1 this
  rw [h2]
theorem cl_before (l : List UInt8) (j : Nat) (h : j < cl l) : l[j]? ≠ some 58 := by
  have hl := cl_le l
  have := List.not_of_lt_findIdx (p := (· == (58 : UInt8))) (xs := l) h
  rw [List.getElem?_eq_getElem (by omega)]
  intro e
  have h2 : l[j]'(by omega) = 58 := by simpa using e
  simp [h2] at this
theorem occ_two (l : List UInt8) (j : Nat) : occAt l [58, 32] j = true ↔ (l[j]? = some 58 ∧ l[j + 1]? = some 32) := by
  unfold occAt
  rw [List.isPrefixOf_iff_prefix]
  constructor
  · rintro ⟨t, ht⟩
    have h0 : (l.drop j)[0]? = some 58 := by rw [← ht]; rfl
    have h1 : (l.drop j)[1]? = some 32 := by rw [← ht]; rfl
    rw [List.getElem?_drop] at h0 h1
    exact ⟨h0, h1⟩
  · rintro ⟨h0, h1⟩
    have hl0 : j < l.length := (List.getElem?_eq_some_iff.1 h0).1
    have hl1 : j + 1 < l.length := (List.getElem?_eq_some_iff.1 h1).1
    rw [List.getElem?_eq_getElem hl0] at h0
    rw [List.getElem?_eq_getElem hl1] at h1
    rw [List.drop_eq_getElem_cons hl0, List.drop_eq_getElem_cons hl1, Option.some.inj h0, Option.some.inj h1]
    exact ⟨l.drop (j + 1 + 1), rfl⟩
/-- The first colon has a blank behind it: it is cut there. -/
theorem cut_yes (l : List UInt8) (h1 : cl l + 1 < l.length) (h2 : l.getD (cl l + 1) 0 = 32) : cut l [58, 32] = (l.take (cl l), l.drop (cl l + 2), true) := by
  have hi : index l [58, 32] = (cl l : Int) := index_first (by omega) ((occ_two l _).2 ⟨cl_at l (by omega), by
    rw [List.getD_eq_getElem?_getD, List.getElem?_eq_getElem h1] at h2
    rw [List.getElem?_eq_getElem h1]; exact congrArg some h2⟩) (fun j hj => by
    cases ho : occAt l [58, 32] j with
    | false => rfl
    | true => exact absurd ((occ_two l j).1 ho).1 (cl_before l j hj))
  unfold cut
  rw [hi]
  simp
/-- It has none: what is cut is no name. -/
theorem cut_no (l : List UInt8) (h : ¬ (cl l + 1 < l.length ∧ l.getD (cl l + 1) 0 = 32)) (hc : (cut l [58, 32]).2.2 = true) : nameB (bsOf (cut l [58, 32]).1) = false := by
  unfold cut at hc ⊢
  rcases index_spec l [58, 32] with ⟨hi, _⟩ | ⟨i, hi, hle, ho, hn⟩
  · rw [hi] at hc; simp at hc
  · rw [hi] at hc ⊢
    obtain ⟨o0, o1⟩ := (occ_two l i).1 ho
    have hi1 : i + 1 < l.length := (List.getElem?_eq_some_iff.1 o1).1
    have hci : cl l ≤ i := by
      rcases Nat.lt_or_ge i (cl l) with h9 | h9
      · exact absurd o0 (cl_before l i h9)
      · exact h9
    have hne : cl l ≠ i := by
      intro e
      refine h ⟨by omega, ?_⟩
      rw [e, List.getD_eq_getElem?_getD, o1]; rfl
    have hlt : cl l < i := by omega
    have hat := cl_at l (by omega)
    simp only [Int.toNat_natCast]
    rw [if_pos (by omega)]
    show nameB (bsOf (l.take i)) = false
    unfold nameB nmFrom
    rw [bsOf_list]
    have hmem : (58 : UInt8) ∈ l.take i := by
      have : (l.take i)[cl l]? = some 58 := by rw [List.getElem?_take, if_pos hlt]; exact hat
      exact List.mem_of_getElem? this
    have : ((l.take i).drop 0).all nmB = false := by
      rw [List.drop_zero, List.all_eq_false]
      exact ⟨58, hmem, by decide⟩
    rw [this]
    simp
theorem headF_mem : ∀ (n : Nat) (l : List UInt8) (acc F : List MFl) (r : List UInt8), headF n l acc = some (F, r) → (∀ f ∈ acc, f ∈ F) ∧ r.length ≤ l.length
  | 0, l, acc, F, r, h => by simp [headF] at h
  | n + 1, l, acc, F, r, h => by
    unfold headF at h
    split at h
    · cases h
    · split at h
      · simp only [Option.some.injEq, Prod.mk.injEq] at h
        obtain ⟨rfl, rfl⟩ := h
        exact ⟨fun f hf => hf, by simp⟩
      · split at h
        · obtain ⟨h1, h2⟩ := headF_mem n _ _ F r h
          refine ⟨fun f hf => h1 f (List.mem_append_left _ hf), ?_⟩
          simp at h2
          omega
        · cases h
def fitO (o : Option (List MFl × List UInt8)) : Option GM := o.bind fun x => if fitsB x.1 (bsOf x.2) then some ⟨x.1, bsOf x.2⟩ else none
theorem fitO_bad {n : Nat} {l : List UInt8} {acc : List MFl} {f : MFl} (hf : fldB f = false) : fitO (headF n l (acc ++ [f])) = none := by
  cases h : headF n l (acc ++ [f]) with
  | none => rfl
  | some x =>
    obtain ⟨F, r⟩ := x
    have hm := (headF_mem n l _ F r h).1 f (by simp)
    have : fitsB F (bsOf r) = false := by
      unfold fitsB
      rw [List.all_eq_false.2 ⟨f, hm, by simp [hf]⟩]
      simp
    simp [fitO, this]
theorem agree : ∀ (n : Nat) (l : List UInt8) (acc : List MFl), l.length ≤ 85 → acc.all fldB = true → parS n l acc = fitO (headF n l acc)
  | 0, l, acc, _, _ => rfl
  | n + 1, l, acc, hl, ha => by
    unfold parS headF
    by_cases h1 : nl l = l.length
    · rw [if_pos h1, if_pos h1]; rfl
    rw [if_neg h1, if_neg h1]
    by_cases h2 : nl l = 0
    · rw [if_pos h2, if_pos h2]
      show _ = if fitsB acc (bsOf (l.drop 1)) = true then some (GM.mk acc (bsOf (l.drop 1))) else none
      have hs : (bsOf (l.drop 1)).size ≤ 85 := by rw [bsOf_size]; simp; omega
      unfold fitsB
      rw [ha, decide_eq_true hs]
      by_cases h3 : acc.length ≤ 8
      · simp [h3]
      · simp [h3]
    rw [if_neg h2, if_neg h2]
    have hline : (l.take (nl l)).length ≤ 85 := by simp; omega
    have hrest : (l.drop (nl l + 1)).length ≤ 85 := by simp; omega
    obtain ⟨line, hL⟩ : ∃ x, l.take (nl l) = x := ⟨_, rfl⟩
    obtain ⟨rest, hR⟩ : ∃ x, l.drop (nl l + 1) = x := ⟨_, rfl⟩
    rw [hL] at hline ⊢
    rw [hR] at hrest ⊢
    unfold fieldS
    by_cases hA : cl line + 1 < line.length ∧ line.getD (cl line + 1) 0 = 32
    · rw [cut_yes line hA.1 hA.2]
      have hvs : (bsOf (line.drop (cl line + 2))).size ≤ 85 := by rw [bsOf_size]; simp; omega
      by_cases hB : nameB (bsOf (line.take (cl line))) = true ∧ valB (bsOf (line.drop (cl line + 2))) = true
      · rw [if_pos ⟨hA.1, hA.2, hB.1, hB.2⟩]
        simp only [if_true]
        refine agree n rest _ hrest ?_
        rw [List.all_append, ha]
        simp [fldB, hB.1, hB.2, hvs]
      · rw [if_neg (fun h => hB ⟨h.2.2.1, h.2.2.2⟩)]
        simp only [if_true]
        rw [fitO_bad]
        unfold fldB
        simp only [Bool.and_eq_false_iff]
        by_cases h5 : nameB (bsOf (line.take (cl line))) = true
        · right; right
          have : ¬ valB (bsOf (line.drop (cl line + 2))) = true := fun h => hB ⟨h5, h⟩
          simpa using this
        · left; simpa using h5
    · rw [if_neg (fun h => hA ⟨h.1, h.2.1⟩)]
      by_cases hc : (cut line [58, 32]).2.2 = true
      · rw [if_pos hc]
        simp only
        rw [fitO_bad]
        unfold fldB
        rw [cut_no line hA hc]
        rfl
      · rw [if_neg hc]
        rfl
end Go.Proofs.YtgbhjhbmolgbeaaDoor
