
/-
  Numbers' texts: what the program and the specification take for one. Lists alone. By an AI agent.
-/
import Derived.Test.YthgbclipknfmjaaGreatDoorMem
import Derived.Lib.AtoiAll
import Derived.Lib.Atoi
import Derived.Lib.ItoaNum
import Derived.Lib.Strings
namespace Go.Proofs.YthgbclipknfmjaaGreatDoor
open Go.Lib
set_option linter.unusedVariables false

theorem dec_snoc (l : List UInt8) (c : UInt8) : ∀ acc, decFrom acc (l ++ [c]) = (decFrom acc l).bind fun v => (digitVal c).map fun d => v * 10 + d := by
  induction l with
  | nil =>
    intro acc
    simp only [List.nil_append, decFrom]
    cases digitVal c <;> rfl
  | cons b r ih =>
    intro acc
    simp only [List.cons_append, decFrom]
    cases digitVal b with
    | none => rfl
    | some d => exact ih _
theorem digitVal_of (u : Nat) (h : u < 10) : digitVal (UInt8.ofNat (48 + u)) = some u := by
  unfold digitVal
  have h1 : (UInt8.ofNat (48 + u)).toNat = 48 + u := by simp [UInt8.toNat_ofNat']; omega
  rw [h1, if_pos (by omega)]
  congr 1
  omega
theorem digitVal_back {c : UInt8} {d : Nat} (h : digitVal c = some d) : d < 10 ∧ UInt8.ofNat (48 + d) = c := by
  unfold digitVal at h
  split at h
  · rename_i h1
    cases h
    refine ⟨by omega, ?_⟩
    apply UInt8.toNat_inj.1
    simp [UInt8.toNat_ofNat']
    omega
  · cases h
theorem dec_digits (u : Nat) : decFrom 0 (decDigits u) = some u := by
  induction u using decDigits.induct with
  | case1 u h =>
    rw [decDigits, dif_pos h]
    simp only [decFrom, digitVal_of u h]
    simp
  | case2 u h ih =>
    rw [decDigits, dif_neg h, dec_snoc, ih]
    simp only [Option.bind_some, digitVal_of (u % 10) (by omega), Option.map_some]
    congr 1
    omega
theorem digits_ne (u : Nat) : decDigits u ≠ [] := by
  rw [decDigits]
  split <;> simp
theorem digits_zero : decDigits 0 = [48] := by rw [decDigits, dif_pos (by omega)]; rfl
theorem digits_head (u : Nat) : ∃ c r d, decDigits u = c :: r ∧ digitVal c = some d ∧ (u ≠ 0 → c ≠ 48) := by
  induction u using decDigits.induct with
  | case1 u h =>
    refine ⟨UInt8.ofNat (48 + u), [], u, by rw [decDigits, dif_pos h], digitVal_of u h, fun h0 he => ?_⟩
    have h1 : (UInt8.ofNat (48 + u)).toNat = 48 + u := by simp [UInt8.toNat_ofNat']; omega
    rw [he] at h1
    have : (48 : UInt8).toNat = 48 := rfl
    omega
  | case2 u h ih =>
    obtain ⟨c, r, d, h1, h2, h3⟩ := ih
    exact ⟨c, r ++ [UInt8.ofNat (48 + u % 10)], d, by rw [decDigits, dif_neg h, h1]; rfl, h2, fun _ => h3 (by omega)⟩
theorem digits_len (u : Nat) : ∀ k, (decDigits u).length ≤ k + 1 ↔ u < 10 ^ (k + 1) := by
  induction u using decDigits.induct with
  | case1 u h =>
    intro k
    rw [decDigits, dif_pos h]
    have : 10 ^ 1 ≤ 10 ^ (k + 1) := Nat.pow_le_pow_right (by omega) (by omega)
    simp only [List.length_cons, List.length_nil]
    omega
  | case2 u h ih =>
    intro k
    rw [decDigits, dif_neg h, List.length_append, List.length_cons, List.length_nil]
    cases k with
    | zero =>
      have : 1 ≤ (decDigits (u / 10)).length := by
        rcases hd : decDigits (u / 10) with _ | ⟨a, b⟩
        · exact absurd hd (digits_ne _)
        · simp
      constructor
      · intro h9; omega
      · intro h9; simp at h9; omega
    | succ k =>
      have := ih k
      rw [show 10 ^ (k + 1 + 1) = 10 ^ (k + 1) * 10 from rfl]
      constructor
      · intro h9
        have h8 := this.1 (by omega)
        omega
      · intro h9
        have h8 := this.2 (by omega)
        omega
theorem rev_ind {P : List UInt8 → Prop} (h0 : P []) (h1 : ∀ l c, P l → P (l ++ [c])) (l : List UInt8) : P l := by
  have : ∀ r : List UInt8, P r.reverse := by
    intro r
    induction r with
    | nil => exact h0
    | cons a r ih => rw [List.reverse_cons]; exact h1 _ _ ih
  simpa using this l.reverse
theorem canon (l : List UInt8) : ∀ u, decFrom 0 l = some u → l ≠ [] → (l.head? ≠ some 48 ∨ l.length = 1) → decDigits u = l := by
  refine rev_ind (P := fun l => ∀ u, decFrom 0 l = some u → l ≠ [] → (l.head? ≠ some 48 ∨ l.length = 1) → decDigits u = l) (fun u h h0 => absurd rfl h0) (fun l c ih u h _ hh => ?_) l
  rw [dec_snoc] at h
  obtain ⟨v, hv, h2⟩ := Option.bind_eq_some_iff.1 h
  obtain ⟨d, hd, rfl⟩ := Option.map_eq_some_iff.1 h2
  obtain ⟨hd9, hdc⟩ := digitVal_back hd
  by_cases hl : l = []
  · subst hl
    simp only [decFrom] at hv
    cases hv
    rw [decDigits, dif_pos (by omega)]
    simp [hdc]
  · have hhd : l.head? ≠ some 48 := by
      rcases hh with hh | hh
      · intro h9
        apply hh
        rw [List.head?_append, h9]
        rfl
      · rw [List.length_append, List.length_cons, List.length_nil] at hh
        have : l.length = 0 := by omega
        exact absurd (List.eq_nil_of_length_eq_zero this) hl
    have hi := ih v hv hl (.inl hhd)
    have hv0 : v ≠ 0 := by
      intro h9
      subst h9
      rw [digits_zero] at hi
      rw [← hi] at hhd
      exact hhd rfl
    rw [decDigits, dif_neg (by omega), show (v * 10 + d) / 10 = v by omega, show (v * 10 + d) % 10 = d by omega, hi, hdc]
theorem dec_le (l : List UInt8) : ∀ acc u, decFrom acc l = some u → acc ≤ u := by
  induction l with
  | nil => intro acc u h; simp only [decFrom] at h; cases h; exact Nat.le_refl _
  | cons b r ih =>
    intro acc u h
    simp only [decFrom] at h
    cases hb : digitVal b with
    | none => rw [hb] at h; cases h
    | some d => rw [hb] at h; have := ih _ _ h; omega
theorem parse_dec (l : List UInt8) : ∀ acc u, decFrom acc l = some u → u < 1844674407370955162 → parseUint10 acc l = .ok u := by
  induction l with
  | nil => intro acc u h _; simp only [decFrom] at h; cases h; rfl
  | cons b r ih =>
    intro acc u h hu
    simp only [decFrom] at h
    cases hb : digitVal b with
    | none => rw [hb] at h; cases h
    | some d =>
      rw [hb] at h
      have hle := dec_le _ _ _ h
      have hb2 := hb
      unfold digitVal at hb2
      split at hb2
      · rename_i h9
        cases hb2
        simp only [parseUint10, if_pos h9]
        rw [if_neg (by omega), if_neg (by omega)]
        exact ih _ _ h hu
      · cases hb2
/-- The number that some digits are, with a sign ahead or without. -/
def magB (neg : Bool) (ds : List UInt8) : Option Int :=
  if ds = [] ∨ 18 < ds.length ∨ (ds.head? = some 48 ∧ (1 < ds.length ∨ neg = true)) then none
  else (decFrom 0 ds).map (fun u : Nat => if neg = true then -(u : Int) else (u : Int))
/-- The number that a text is, if it is a number's text. -/
def numB (t : List UInt8) : Option Int :=
  match t with
  | [] => none
  | c :: r => if c = 45 then magB true r else magB false (c :: r)
def NumIs (t : List UInt8) (n : Int) : Prop := itoa n = t ∧ n.natAbs < 10 ^ 18
theorem digit_not45 {d : Nat} (h : digitVal 45 = some d) : False := by
  unfold digitVal at h
  rw [if_neg (by decide)] at h
  cases h
theorem mag_digits (neg : Bool) (u : Nat) (hu : u < 10 ^ 18) (h0 : neg = true → u ≠ 0) : magB neg (decDigits u) = some (if neg = true then -(u : Int) else (u : Int)) := by
  have hl := (digits_len u 17).2 hu
  obtain ⟨c, r, d, e1, e2, e3⟩ := digits_head u
  unfold magB
  rw [if_neg ?_, dec_digits]
  · rfl
  · rintro (h9 | h9 | ⟨h9, h8⟩)
    · exact digits_ne _ h9
    · omega
    · have hu0 : u ≠ 0 := by
        rcases h8 with h8 | h8
        · intro h7
          rw [h7, digits_zero] at h8
          simp at h8
        · exact h0 h8
      rw [e1] at h9
      exact e3 hu0 (by simpa using h9)
theorem num_of_is {t : List UInt8} {n : Int} (h : NumIs t n) : numB t = some n := by
  obtain ⟨h1, h2⟩ := h
  unfold itoa at h1
  by_cases hn : n < 0
  · rw [if_pos hn] at h1
    subst h1
    show (if (45 : UInt8) = 45 then magB true (decDigits n.natAbs) else magB false (45 :: decDigits n.natAbs)) = _
    rw [if_pos rfl, mag_digits true _ h2 (fun _ => by omega)]
    simp only [if_true]
    congr 1
    omega
  · rw [if_neg hn] at h1
    have hm := mag_digits false n.toNat (by omega) (fun h9 => by cases h9)
    obtain ⟨c, r, d, e1, e2, e3⟩ := digits_head n.toNat
    have hc : c ≠ 45 := by intro h9; subst h9; exact digit_not45 e2
    rw [e1] at hm h1
    subst h1
    show (if c = 45 then magB true r else magB false (c :: r)) = _
    rw [if_neg hc, hm]
    simp only [Bool.false_eq_true, if_false]
    congr 1
    omega
theorem mag_back {neg : Bool} {ds : List UInt8} {n : Int} (h : magB neg ds = some n) : ∃ u : Nat, n = (if neg = true then -(u : Int) else (u : Int)) ∧ decDigits u = ds ∧ u < 10 ^ 18 ∧ (neg = true → u ≠ 0) := by
  unfold magB at h
  by_cases hb : ds = [] ∨ 18 < ds.length ∨ (ds.head? = some 48 ∧ (1 < ds.length ∨ neg = true))
  · rw [if_pos hb] at h; cases h
  · rw [if_neg hb] at h
    obtain ⟨u, hu, h2⟩ := Option.map_eq_some_iff.1 h
    have hr : ds ≠ [] := fun h9 => hb (.inl h9)
    have hl : ds.length ≤ 18 := by
      rcases Nat.lt_or_ge 18 ds.length with h9 | h9
      · exact absurd (.inr (.inl h9)) hb
      · exact h9
    have hh : ds.head? ≠ some 48 ∨ ds.length = 1 := by
      by_cases h9 : ds.head? = some 48
      · right
        rcases Nat.lt_or_ge 1 ds.length with h8 | h8
        · exact absurd (.inr (.inr ⟨h9, .inl h8⟩)) hb
        · have : ds.length ≠ 0 := fun h7 => hr (List.eq_nil_of_length_eq_zero h7)
          omega
      · exact .inl h9
    have hk := canon ds u hu hr hh
    refine ⟨u, h2.symm, hk, (digits_len u 17).1 (by rw [hk]; exact hl), fun hn h0 => ?_⟩
    subst h0
    rw [digits_zero] at hk
    exact hb (.inr (.inr ⟨by rw [← hk]; rfl, .inr hn⟩))
theorem is_of_num {t : List UInt8} {n : Int} (h : numB t = some n) : NumIs t n := by
  match t, h with
  | c :: r, h =>
    have h1 : (if c = 45 then magB true r else magB false (c :: r)) = some n := h
    by_cases hc : c = 45
    · rw [if_pos hc] at h1
      obtain ⟨u, hn, hk, hu, h0⟩ := mag_back h1
      simp only [if_true] at hn
      have hu0 := h0 rfl
      subst hn
      refine ⟨?_, by omega⟩
      unfold itoa
      rw [if_pos (by omega), show (-(u : Int)).natAbs = u by omega, hk, hc]
    · rw [if_neg hc] at h1
      obtain ⟨u, hn, hk, hu, h0⟩ := mag_back h1
      simp only [Bool.false_eq_true, if_false] at hn
      subst hn
      refine ⟨?_, by omega⟩
      unfold itoa
      rw [if_neg (by omega), show (u : Int).toNat = u by omega, hk]
/-- The program's way: what is read by the library, told again, is the text. -/
theorem atoi_is {t : List UInt8} {n : Int} (h : NumIs t n) : atoiAll t = .ok n := by
  obtain ⟨h1, h2⟩ := h
  unfold itoa at h1
  by_cases hn : n < 0
  · rw [if_pos hn] at h1
    subst h1
    have hp := parse_dec _ _ _ (dec_digits n.natAbs) (by omega)
    unfold atoiAll
    have e1 : parseMag (decDigits n.natAbs) = .ok n.natAbs := by
      unfold parseMag; rw [if_neg (digits_ne _), hp]
    simp only [show (45 : UInt8).toNat = 45 from rfl, or_true, if_true, e1, not_true, false_and, if_false, true_and]
    rw [if_neg (by omega)]
    congr 1
    omega
  · rw [if_neg hn] at h1
    subst h1
    have hp := parse_dec _ _ _ (dec_digits n.toNat) (by omega)
    obtain ⟨c, r, d, e1, e2, e3⟩ := digits_head n.toNat
    rw [e1] at hp ⊢
    have hc : ¬ (c.toNat = 43 ∨ c.toNat = 45) := by
      unfold digitVal at e2
      split at e2
      · omega
      · cases e2
    unfold atoiAll
    have e4 : parseMag (c :: r) = .ok n.toNat := by
      unfold parseMag; rw [if_neg (by simp), hp]
    have hc2 : ¬ c.toNat = 45 := fun h9 => hc (.inr h9)
    have hif : (if c.toNat = 43 ∨ c.toNat = 45 then r else c :: r) = c :: r := if_neg hc
    simp only [hif, e4]
    rw [if_neg (by omega), if_neg (by omega), if_neg hc2]
    congr 1
    omega
theorem trim_is {t : List UInt8} {n : Int} (h : itoa n = t) : ((trimPrefix t [45]).length ≤ 18 ↔ n.natAbs < 10 ^ 18) := by
  unfold itoa at h
  by_cases hn : n < 0
  · rw [if_pos hn] at h
    subst h
    have : trimPrefix (45 :: decDigits n.natAbs) [45] = decDigits n.natAbs := by
      unfold trimPrefix hasPrefix; simp
    rw [this]
    exact digits_len n.natAbs 17
  · rw [if_neg hn] at h
    subst h
    obtain ⟨c, r, d, e1, e2, e3⟩ := digits_head n.toNat
    have hc : c ≠ 45 := by intro h9; subst h9; exact digit_not45 e2
    have : trimPrefix (decDigits n.toNat) [45] = decDigits n.toNat := by
      unfold trimPrefix hasPrefix; rw [e1]; simp [Ne.symm hc]
    rw [this, show n.natAbs = n.toNat by omega]
    exact digits_len n.toNat 17
end Go.Proofs.YthgbclipknfmjaaGreatDoor
