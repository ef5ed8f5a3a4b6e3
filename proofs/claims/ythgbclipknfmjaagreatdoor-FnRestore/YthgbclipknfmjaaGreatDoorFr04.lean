/-
  Splp in one. By an AI agent.
-/
import Derived.Test.YthgbclipknfmjaaGreatDoorFr03
import Derived.Lib.Split
namespace Go.Proofs.YthgbclipknfmjaaGreatDoor
open Go.Lib
set_option linter.unusedVariables false
set_option linter.unusedSimpArgs false

/-- A text cut at each of some byte. -/
def splitL (c : UInt8) : List UInt8 → List (List UInt8)
  | [] => [[]]
  | b :: r => if b = c then [] :: splitL c r else
    match splitL c r with
    | [] => [[b]]
    | h :: t => (b :: h) :: t
theorem splitL_ne (c : UInt8) (l : List UInt8) : splitL c l ≠ [] := by
  cases l with
  | nil => simp [splitL]
  | cons b r =>
    unfold splitL
    split
    · simp
    · split <;> simp
theorem splitL_seg (c : UInt8) : ∀ (l r : List UInt8), c ∉ l → splitL c (l ++ c :: r) = l :: splitL c r
  | [], r, _ => by simp [splitL]
  | b :: l, r, h => by
    have hb : b ≠ c := fun e => h (by rw [e]; exact List.mem_cons_self)
    have ih := splitL_seg c l r (fun h9 => h (List.mem_cons_of_mem _ h9))
    rw [List.cons_append, splitL, if_neg hb, ih]
theorem splitL_whole (c : UInt8) : ∀ (l : List UInt8), c ∉ l → splitL c l = [l]
  | [], _ => rfl
  | b :: l, h => by
    have hb : b ≠ c := fun e => h (by rw [e]; exact List.mem_cons_self)
    rw [splitL, if_neg hb, splitL_whole c l (fun h9 => h (List.mem_cons_of_mem _ h9))]
theorem splitL_length (c : UInt8) : ∀ (l : List UInt8), (splitL c l).length = l.count c + 1
  | [] => rfl
  | b :: l => by
    have ih := splitL_length c l
    unfold splitL
    by_cases hb : b = c
    · rw [if_pos hb, List.length_cons, ih, hb, List.count_cons_self]
    · rw [if_neg hb, List.count_cons_of_ne (by simpa using hb)]
      cases hs : splitL c l with
      | nil => exact absurd hs (splitL_ne c l)
      | cons h t => rw [hs] at ih; simpa using ih
theorem splitL_no (c : UInt8) : ∀ (l : List UInt8), ∀ p ∈ splitL c l, c ∉ p
  | [], p, hp => by
    simp only [splitL, List.mem_singleton] at hp
    rw [hp]; simp
  | b :: l, p, hp => by
    have ih := splitL_no c l
    unfold splitL at hp
    by_cases hb : b = c
    · rw [if_pos hb] at hp
      rcases List.mem_cons.1 hp with rfl | hp
      · simp
      · exact ih p hp
    · rw [if_neg hb] at hp
      cases hs : splitL c l with
      | nil => exact absurd hs (splitL_ne c l)
      | cons h t =>
        rw [hs] at hp ih
        rcases List.mem_cons.1 hp with rfl | hp
        · intro h9
          rcases List.mem_cons.1 h9 with h9 | h9
          · exact hb h9.symm
          · exact ih h List.mem_cons_self h9
        · exact ih p (List.mem_cons_of_mem _ hp)
theorem idx (c : UInt8) : ∀ l : List UInt8, (index l [c] = -1 ∧ c ∉ l) ∨ ∃ i : Nat, index l [c] = i ∧ i < l.length ∧ l = l.take i ++ c :: l.drop (i + 1) ∧ c ∉ l.take i
  | [] => .inl ⟨by simp [index], by simp⟩
  | b :: l => by
    by_cases hb : b = c
    · right
      subst hb
      exact ⟨0, by simp [index], by simp, by simp, by simp⟩
    · have hp : ([c].isPrefixOf (b :: l)) = false := by
        simp [List.isPrefixOf]
        exact fun e => hb e.symm
      rcases idx c l with ⟨h1, h2⟩ | ⟨i, h1, h2, h3, h4⟩
      · left
        refine ⟨by simp [index, hp, h1], fun h9 => ?_⟩
        rcases List.mem_cons.1 h9 with h9 | h9
        · exact hb h9.symm
        · exact h2 h9
      · right
        refine ⟨i + 1, ?_, by simp; omega, ?_, fun h9 => ?_⟩
        · have : ¬ index l [c] = -1 := by omega
          simp only [index, hp, Bool.false_eq_true, if_false, beq_iff_eq, this, h1]
          omega
        · simp only [List.take_succ_cons, List.drop_succ_cons, List.cons_append]
          rw [← h3]
        · rw [List.take_succ_cons] at h9
          rcases List.mem_cons.1 h9 with h9 | h9
          · exact hb h9.symm
          · exact h4 h9
theorem splitK_eq (c : UInt8) : ∀ (k : Nat) (l : List UInt8), l.count c ≤ k → splitK [c] 0 k l = splitL c l
  | 0, l, h => by
    have : c ∉ l := by
      intro h9
      have := List.count_pos_iff.2 h9
      omega
    rw [splitL_whole c l this]
    rfl
  | k + 1, l, h => by
    unfold splitK
    rcases idx c l with ⟨h1, h2⟩ | ⟨i, h1, h2, h3, h4⟩
    · rw [if_pos (by rw [h1]; rfl), splitL_whole c l h2]
    · have hne : ¬ (index l [c] == -1) = true := fun e => by have := beq_iff_eq.1 e; omega
      rw [if_neg hne, h1]
      simp only [Int.toNat_natCast, Nat.add_zero, List.length_singleton]
      have hc : (l.drop (i + 1)).count c ≤ k := by
        have h5 : l.count c = (l.take i).count c + (1 + (l.drop (i + 1)).count c) := by
          have h6 := congrArg (List.count c) h3
          rw [List.count_append, List.count_cons_self] at h6
          omega
        omega
      rw [splitK_eq c k _ hc]
      have h7 := splitL_seg c (l.take i) (l.drop (i + 1)) h4
      rw [← h3] at h7
      rw [h7]
theorem countFrom_eq (c : UInt8) : ∀ (fuel : Nat) (l : List UInt8), l.length < fuel → countFrom [c] fuel l = l.count c
  | 0, l, h => by omega
  | fuel + 1, l, h => by
    unfold countFrom
    rcases idx c l with ⟨h1, h2⟩ | ⟨i, h1, h2, h3, h4⟩
    · rw [if_pos (by rw [h1]; rfl), List.count_eq_zero_of_not_mem h2]
    · have hne : ¬ (index l [c] == -1) = true := fun e => by have := beq_iff_eq.1 e; omega
      rw [if_neg hne, h1]
      simp only [Int.toNat_natCast, List.length_singleton]
      rw [countFrom_eq c fuel _ (by rw [List.length_drop]; omega)]
      have h6 := congrArg (List.count c) h3
      rw [List.count_append, List.count_cons_self, List.count_eq_zero_of_not_mem h4] at h6
      omega
theorem count_eq (c : UInt8) (l : List UInt8) : count l [c] = l.count c := countFrom_eq c _ l (by omega)
theorem data_bs (s : ByteArray) : bs s.data.toList = s := rfl
theorem bs_inj {a b : ByteArray} (h : a.data.toList = b.data.toList) : a = b := by rw [← data_bs a, ← data_bs b, h]
/-- What the library's Split gives at a lone byte. -/
theorem splitB_eq (c : UInt8) (s : ByteArray) : splitB (bs [c]) 0 (countB s (bs [c])) s = (splitL c s.data.toList).map bs := by
  have h1 := splitB_data (bs [c]) 0 (countB s (bs [c])) s
  have h2 : countB s (bs [c]) = s.data.toList.count c := count_eq c _
  rw [h2] at h1 ⊢
  rw [show (bs [c]).data.toList = [c] from rfl, splitK_eq c _ _ (Nat.le_refl _)] at h1
  rw [← h1, List.map_map]
  have : (bs ∘ fun x : ByteArray => x.data.toList) = id := by funext x; exact data_bs x
  rw [this, List.map_id]
theorem countB_eq (c : UInt8) (s : ByteArray) : countB s (bs [c]) + 1 = ((splitL c s.data.toList).map bs).length := by
  rw [List.length_map, splitL_length]
  congr 1
  exact count_eq c _
theorem cut_yes (c : UInt8) (a b : List UInt8) (h : c ∉ a) : cut (a ++ c :: b) [c] = (a, b, true) := by
  rcases idx c (a ++ c :: b) with ⟨h1, h2⟩ | ⟨i, h1, h2, h3, h4⟩
  · exact absurd (List.mem_append_right _ List.mem_cons_self) h2
  · have e1 := splitL_seg c a b h
    have e2 := splitL_seg c _ ((a ++ c :: b).drop (i + 1)) h4
    rw [← h3, e1] at e2
    have e3 : a = (a ++ c :: b).take i := (List.cons.inj e2).1
    have e4 : a.length = i := by
      have := congrArg List.length e3
      rw [List.length_take] at this
      omega
    unfold cut
    rw [if_pos (by omega), h1]
    simp only [Int.toNat_natCast, List.length_singleton]
    rw [← e3, ← e4]
    simp
theorem cut_no (c : UInt8) (a : List UInt8) (h : c ∉ a) : cut a [c] = (a, [], false) := by
  rcases idx c a with ⟨h1, h2⟩ | ⟨i, h1, h2, h3, h4⟩
  · unfold cut; rw [if_neg (by omega)]
  · exact absurd (by rw [h3]; exact List.mem_append_right _ List.mem_cons_self) h
theorem split_sizes (c : UInt8) : ∀ (l : List UInt8), ∀ p ∈ splitL c l, p.length ≤ l.length
  | [], p, hp => by
    simp only [splitL, List.mem_singleton] at hp
    rw [hp]; simp
  | b :: l, p, hp => by
    have ih := split_sizes c l
    unfold splitL at hp
    by_cases hb : b = c
    · rw [if_pos hb] at hp
      rcases List.mem_cons.1 hp with rfl | hp
      · simp
      · have := ih p hp; simp; omega
    · rw [if_neg hb] at hp
      cases hs : splitL c l with
      | nil => exact absurd hs (splitL_ne c l)
      | cons h t =>
        rw [hs] at hp ih
        rcases List.mem_cons.1 hp with rfl | hp
        · have := ih h List.mem_cons_self; simp; omega
        · have := ih p (List.mem_cons_of_mem _ hp); simp; omega
end Go.Proofs.YthgbclipknfmjaaGreatDoor
