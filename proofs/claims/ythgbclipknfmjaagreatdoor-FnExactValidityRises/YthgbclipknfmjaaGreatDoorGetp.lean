
/-
  What stands at a key of a list of pairs that rises. Lists alone, and the specification's l01Get. By an AI agent.
-/
import Derived.Test.YthgbclipknfmjaaGreatDoorSpl
import Derived.Test.YthgbclipknfmjaaGreatDoorPairGeti
import Derived.Test.YthgbclipknfmjaaGreatDoorUnder
namespace Go.Proofs.YthgbclipknfmjaaGreatDoor
open Go.ChangeShapes Go.WideShapes Go.ChangeAt Go.RowKit Go.Deep Go.Lib
set_option linter.unusedVariables false
set_option maxRecDepth 100000

theorem bl_eq : ∀ (x y : List UInt8), Op.bytesLess x y = decide (x < y)
  | [], [] => by simp [Op.bytesLess]
  | _ :: _, [] => by simp [Op.bytesLess]
  | [], _ :: _ => by simp [Op.bytesLess]
  | a :: x, b :: y => by
    rw [Op.bytesLess, bl_eq x y]
    simp only [List.cons_lt_cons_iff]
    by_cases h1 : a < b <;> by_cases h2 : a = b <;> by_cases h3 : x < y <;> simp [h1, h2, h3]
theorem bl_irrefl : ∀ x : List UInt8, Op.bytesLess x x = false
  | [] => rfl
  | a :: x => by simp [Op.bytesLess, bl_irrefl x]
theorem bl_trans : ∀ x y z : List UInt8, Op.bytesLess x y = true → Op.bytesLess y z = true → Op.bytesLess x z = true
  | [], [], _, h, _ => by simp [Op.bytesLess] at h
  | [], b :: y, [], _, h => by simp [Op.bytesLess] at h
  | [], b :: y, c :: z, _, _ => by simp [Op.bytesLess]
  | a :: x, [], _, h, _ => by simp [Op.bytesLess] at h
  | a :: x, b :: y, [], _, h => by simp [Op.bytesLess] at h
  | a :: x, b :: y, c :: z, h, k => by
    have ih := bl_trans x y z
    simp only [Op.bytesLess, Bool.or_eq_true, Bool.and_eq_true, decide_eq_true_eq, beq_iff_eq] at h k ⊢
    simp only [UInt8.lt_iff_toNat_lt] at h k ⊢
    rcases h with h | ⟨rfl, h⟩
    · rcases k with k | ⟨rfl, k⟩
      · exact .inl (by omega)
      · exact .inl h
    · rcases k with k | ⟨rfl, k⟩
      · exact .inl k
      · exact .inr ⟨rfl, ih h k⟩
theorem toList_inj {x y : ByteArray} (h : x.toList = y.toList) : x = y := by
  rw [ByteArray.toList_eq, ByteArray.toList_eq] at h
  exact bs_inj h
def ltK (x y : ByteArray) : Prop := Op.bytesLess x.toList y.toList = true
theorem ltK_irrefl (x : ByteArray) : ¬ ltK x x := fun h => by unfold ltK at h; rw [bl_irrefl] at h; cases h
def UpL (L : List PM) : Prop := L.Pairwise fun x y => ltK x.1 y.1
/-- A list that PairsOK takes. -/
def GoodL (L : List PM) : Prop := L.length ≤ 60 ∧ (∀ x ∈ L, 1 ≤ x.1.size ∧ x.1.size ≤ 30 ∧ x.2.size ≤ 90) ∧ UpL L
theorem at_fst {L : List PM} {i : Nat} (hi : i < L.length) : fK L i = L[i].1 ∧ fV L i = L[i].2 := by
  unfold fK fV
  rw [List.getD_eq_getElem?_getD, List.getElem?_eq_getElem hi]
  exact ⟨rfl, rfl⟩
theorem good_of {L : List PM} (h : pairsB (fK L) (fV L) L.length = true) : GoodL L := by
  unfold pairsB at h
  rw [Bool.and_eq_true, decide_eq_true_eq, List.all_eq_true] at h
  obtain ⟨h1, h2⟩ := h
  have h3 : ∀ i (hi : i < L.length), fitB L[i].1 L[i].2 = true ∧ (∀ j, i = j + 1 → ∀ hj : j < L.length, ltK L[j].1 L[i].1) := by
    intro i hi
    have := h2 i (List.mem_range.2 hi)
    unfold goodB at this
    rw [Bool.and_eq_true, (at_fst hi).1, (at_fst hi).2] at this
    refine ⟨this.1, fun j hij hj => ?_⟩
    have h4 := this.2
    unfold riseB at h4
    rw [Bool.or_eq_true, decide_eq_true_eq] at h4
    rcases h4 with h4 | h4
    · omega
    · rw [hij, show j + 1 - 1 = j by omega] at h4
      subst hij
      rw [(at_fst hj).1, (at_fst hi).1] at h4
      exact h4
  refine ⟨h1, fun x hx => ?_, ?_⟩
  · obtain ⟨i, hi, rfl⟩ := List.mem_iff_getElem.1 hx
    have := (h3 i hi).1
    unfold fitB keyB at this
    simp only [Bool.and_eq_true, decide_eq_true_eq] at this
    omega
  · unfold UpL
    rw [List.pairwise_iff_getElem]
    intro i j hi hj hij
    induction j with
    | zero => omega
    | succ j ih =>
      have h5 := (h3 (j + 1) hj).2 j rfl (by omega)
      by_cases e : i = j
      · subst e; exact h5
      · exact bl_trans _ _ _ (ih (by omega) (by omega)) h5
def getM : List PM → ByteArray → Option ByteArray
  | [], _ => none
  | x :: L, k => if x.1 = k then some x.2 else getM L k
theorem getM_none {k : ByteArray} : ∀ {L : List PM}, getM L k = none ↔ ∀ x ∈ L, x.1 ≠ k
  | [] => by simp [getM]
  | x :: L => by
    have ih := getM_none (k := k) (L := L)
    unfold getM
    by_cases h : x.1 = k
    · rw [if_pos h]
      simp [h]
    · rw [if_neg h, ih]
      simp [h]
theorem getM_mem {k v : ByteArray} : ∀ {L : List PM}, UpL L → (getM L k = some v ↔ (k, v) ∈ L)
  | [], _ => by simp [getM]
  | x :: L, hu => by
    obtain ⟨h1, h2⟩ := List.pairwise_cons.1 hu
    have ih := getM_mem (k := k) (v := v) (L := L) h2
    unfold getM
    by_cases h : x.1 = k
    · rw [if_pos h]
      constructor
      · intro h9
        have : x = (k, v) := Prod.ext h (Option.some.inj h9)
        rw [this]; exact List.mem_cons_self
      · intro h9
        rcases List.mem_cons.1 h9 with h9 | h9
        · rw [← h9]
        · have h8 := h1 _ h9
          rw [h] at h8
          exact absurd h8 (ltK_irrefl k)
    · rw [if_neg h, ih]
      constructor
      · exact fun h9 => List.mem_cons_of_mem _ h9
      · intro h9
        rcases List.mem_cons.1 h9 with h9 | h9
        · exact absurd (by rw [← h9]) h
        · exact h9
theorem hit_get {L : List PM} (hu : UpL L) {k : ByteArray} {p : Nat} (hp : IsPlace (fK L) L.length k p) : hitB (fK L) L.length k p = (getM L k).isSome ∧ gotV (fK L) (fV L) L.length k p = (getM L k).getD e0 := by
  obtain ⟨h1, h2, h3⟩ := hp
  by_cases hh : hitB (fK L) L.length k p = true
  · have h9 := hh
    unfold hitB at h9
    rw [Bool.and_eq_true, decide_eq_true_eq, beq_iff_eq] at h9
    obtain ⟨hlt, he⟩ := h9
    rw [(at_fst hlt).1] at he
    have hk : L[p].1 = k := toList_inj he
    have hm : getM L k = some L[p].2 := (getM_mem hu).2 (by rw [← hk]; exact List.getElem_mem hlt)
    rw [hm]
    refine ⟨hh, ?_⟩
    unfold gotV
    rw [if_pos hh, (at_fst hlt).2]
    rfl
  · have hn : getM L k = none := by
      rw [getM_none]
      intro x hx he
      obtain ⟨i, hi, rfl⟩ := List.mem_iff_getElem.1 hx
      rcases Nat.lt_trichotomy i p with h4 | h4 | h4
      · have := h2 i h4
        rw [(at_fst hi).1, he, bl_irrefl] at this
        cases this
      · subst h4
        apply hh
        unfold hitB
        rw [decide_eq_true hi, (at_fst hi).1, he]
        simp
      · have h5 := h3 (by omega)
        rw [(at_fst (show p < L.length by omega)).1] at h5
        have h6 := (List.pairwise_iff_getElem.1 hu) p i (by omega) hi h4
        unfold ltK at h6
        rw [he, h5] at h6
        cases h6
    have hf : hitB (fK L) L.length k p = false := by simpa using hh
    rw [hn]
    refine ⟨hf, ?_⟩
    unfold gotV
    rw [if_neg hh]
    rfl
theorem ret_got {a b : ByteArray} {k l : Bool} (h1 : a = b) (h2 : k = l) : Ending.returned (.tuple #[.string a, .bool k]) = .returned (.tuple #[.string b, .bool l]) := by rw [h1, h2]
/-- The specification's look at a key. -/
theorem l01GetM (a : Option Addr) (n c : Nat) (L : List PM) (key : ByteArray) (w : World) (hL : L.length = n) (hg : GoodL L) (h : Src w a (cellsP L)) :
    Calls Tryz.prog 92 #[.slice a n c, .string key] w fun e w' => e = .returned (.tuple #[.string ((getM L key).getD e0), .bool (getM L key).isSome]) ∧ w' = w := by
  subst hL
  obtain ⟨p, hp⟩ := place_exists (fK L) key L.length
  obtain ⟨h1, h2⟩ := hit_get hg.2.2 hp
  refine (l01Get a L.length c (fK L) (fV L) key p w (by have := hg.1; omega) hp (sp_src h rfl)).mono ?_
  rintro e w' ⟨rfl, rfl⟩
  exact ⟨ret_got h2 h1, rfl⟩
theorem getM_size {L : List PM} (hg : GoodL L) (k : ByteArray) : ((getM L k).getD e0).size ≤ 90 := by
  cases h : getM L k with
  | none => show (0 : Nat) ≤ 90; omega
  | some v => exact (hg.2.1 _ ((getM_mem hg.2.2).1 h)).2.2
end Go.Proofs.YthgbclipknfmjaaGreatDoor
