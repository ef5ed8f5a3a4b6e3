/-
  Nump Rw Mtext Lists1 Lists2 Boxes Listsp Pairs0 in one. By an AI agent.
-/
import Derived.Test.YthgbclipknfmjaaGreatDoorMem
import Derived.Lib.AtoiAll
import Derived.Lib.Atoi
import Derived.Lib.ItoaNum
import Derived.Lib.Strings
import Derived.Lib.OwnKind
import Derived.Deep.RegionWith
import Derived.Deep.QuietTactic
import Derived.BigQuiet
import Derived.WalkLawsBesides
import Derived.Deep.RegionLaw
import Derived.ArgAppend
import Derived.Deep.RegionHeld3
namespace Go.Proofs.YthgbclipknfmjaaGreatDoor
open Go.Lib
set_option linter.unusedVariables false

theorem dec_snoc (l : List UInt8) (c : UInt8) : ∀ acc, decFrom acc (l ++ [c]) = (decFrom acc l).bind fun v => (digitVal c).map fun d => v * 10 + d := by
  induction l with
  | nil =>
    intro acc
    simp only [List.nil_append, decFrom]
    cases digitVal c <;> rfl
  | cons b r ih =>
    intro acc
    simp only [List.cons_append, decFrom]
    cases digitVal b with
    | none => rfl
    | some d => exact ih _
theorem digitVal_of (u : Nat) (h : u < 10) : digitVal (UInt8.ofNat (48 + u)) = some u := by
  unfold digitVal
  have h1 : (UInt8.ofNat (48 + u)).toNat = 48 + u := by simp [UInt8.toNat_ofNat']; omega
  rw [h1, if_pos (by omega)]
  congr 1
  omega
theorem digitVal_back {c : UInt8} {d : Nat} (h : digitVal c = some d) : d < 10 ∧ UInt8.ofNat (48 + d) = c := by
  unfold digitVal at h
  split at h
  · rename_i h1
    cases h
    refine ⟨by omega, ?_⟩
    apply UInt8.toNat_inj.1
    simp [UInt8.toNat_ofNat']
    omega
  · cases h
theorem dec_digits (u : Nat) : decFrom 0 (decDigits u) = some u := by
  induction u using decDigits.induct with
  | case1 u h =>
    rw [decDigits, dif_pos h]
    simp only [decFrom, digitVal_of u h]
    simp
  | case2 u h ih =>
    rw [decDigits, dif_neg h, dec_snoc, ih]
    simp only [Option.bind_some, digitVal_of (u % 10) (by omega), Option.map_some]
    congr 1
    omega
theorem digits_ne (u : Nat) : decDigits u ≠ [] := by
  rw [decDigits]
  split <;> simp
theorem digits_zero : decDigits 0 = [48] := by rw [decDigits, dif_pos (by omega)]; rfl
theorem digits_head (u : Nat) : ∃ c r d, decDigits u = c :: r ∧ digitVal c = some d ∧ (u ≠ 0 → c ≠ 48) := by
  induction u using decDigits.induct with
  | case1 u h =>
    refine ⟨UInt8.ofNat (48 + u), [], u, by rw [decDigits, dif_pos h], digitVal_of u h, fun h0 he => ?_⟩
    have h1 : (UInt8.ofNat (48 + u)).toNat = 48 + u := by simp [UInt8.toNat_ofNat']; omega
    rw [he] at h1
    have : (48 : UInt8).toNat = 48 := rfl
    omega
  | case2 u h ih =>
    obtain ⟨c, r, d, h1, h2, h3⟩ := ih
    exact ⟨c, r ++ [UInt8.ofNat (48 + u % 10)], d, by rw [decDigits, dif_neg h, h1]; rfl, h2, fun _ => h3 (by omega)⟩
theorem digits_len (u : Nat) : ∀ k, (decDigits u).length ≤ k + 1 ↔ u < 10 ^ (k + 1) := by
  induction u using decDigits.induct with
  | case1 u h =>
    intro k
    rw [decDigits, dif_pos h]
    have : 10 ^ 1 ≤ 10 ^ (k + 1) := Nat.pow_le_pow_right (by omega) (by omega)
    simp only [List.length_cons, List.length_nil]
    omega
  | case2 u h ih =>
    intro k
    rw [decDigits, dif_neg h, List.length_append, List.length_cons, List.length_nil]
    cases k with
    | zero =>
      have : 1 ≤ (decDigits (u / 10)).length := by
        rcases hd : decDigits (u / 10) with _ | ⟨a, b⟩
        · exact absurd hd (digits_ne _)
        · simp
      constructor
      · intro h9; omega
      · intro h9; simp at h9; omega
    | succ k =>
      have := ih k
      rw [show 10 ^ (k + 1 + 1) = 10 ^ (k + 1) * 10 from rfl]
      constructor
      · intro h9
        have h8 := this.1 (by omega)
        omega
      · intro h9
        have h8 := this.2 (by omega)
        omega
theorem rev_ind {P : List UInt8 → Prop} (h0 : P []) (h1 : ∀ l c, P l → P (l ++ [c])) (l : List UInt8) : P l := by
  have : ∀ r : List UInt8, P r.reverse := by
    intro r
    induction r with
    | nil => exact h0
    | cons a r ih => rw [List.reverse_cons]; exact h1 _ _ ih
  simpa using this l.reverse
theorem canon (l : List UInt8) : ∀ u, decFrom 0 l = some u → l ≠ [] → (l.head? ≠ some 48 ∨ l.length = 1) → decDigits u = l := by
  refine rev_ind (P := fun l => ∀ u, decFrom 0 l = some u → l ≠ [] → (l.head? ≠ some 48 ∨ l.length = 1) → decDigits u = l) (fun u h h0 => absurd rfl h0) (fun l c ih u h _ hh => ?_) l
  rw [dec_snoc] at h
  obtain ⟨v, hv, h2⟩ := Option.bind_eq_some_iff.1 h
  obtain ⟨d, hd, rfl⟩ := Option.map_eq_some_iff.1 h2
  obtain ⟨hd9, hdc⟩ := digitVal_back hd
  by_cases hl : l = []
  · subst hl
    simp only [decFrom] at hv
    cases hv
    rw [decDigits, dif_pos (by omega)]
    simp [hdc]
  · have hhd : l.head? ≠ some 48 := by
      rcases hh with hh | hh
      · intro h9
        apply hh
        rw [List.head?_append, h9]
        rfl
      · rw [List.length_append, List.length_cons, List.length_nil] at hh
        have : l.length = 0 := by omega
        exact absurd (List.eq_nil_of_length_eq_zero this) hl
    have hi := ih v hv hl (.inl hhd)
    have hv0 : v ≠ 0 := by
      intro h9
      subst h9
      rw [digits_zero] at hi
      rw [← hi] at hhd
      exact hhd rfl
    rw [decDigits, dif_neg (by omega), show (v * 10 + d) / 10 = v by omega, show (v * 10 + d) % 10 = d by omega, hi, hdc]
theorem dec_le (l : List UInt8) : ∀ acc u, decFrom acc l = some u → acc ≤ u := by
  induction l with
  | nil => intro acc u h; simp only [decFrom] at h; cases h; exact Nat.le_refl _
  | cons b r ih =>
    intro acc u h
    simp only [decFrom] at h
    cases hb : digitVal b with
    | none => rw [hb] at h; cases h
    | some d => rw [hb] at h; have := ih _ _ h; omega
theorem parse_dec (l : List UInt8) : ∀ acc u, decFrom acc l = some u → u < 1844674407370955162 → parseUint10 acc l = .ok u := by
  induction l with
  | nil => intro acc u h _; simp only [decFrom] at h; cases h; rfl
  | cons b r ih =>
    intro acc u h hu
    simp only [decFrom] at h
    cases hb : digitVal b with
    | none => rw [hb] at h; cases h
    | some d =>
      rw [hb] at h
      have hle := dec_le _ _ _ h
      have hb2 := hb
      unfold digitVal at hb2
      split at hb2
      · rename_i h9
        cases hb2
        simp only [parseUint10, if_pos h9]
        rw [if_neg (by omega), if_neg (by omega)]
        exact ih _ _ h hu
      · cases hb2
/-- The number that some digits are, with a sign ahead or without. -/
def magB (neg : Bool) (ds : List UInt8) : Option Int :=
  if ds = [] ∨ 18 < ds.length ∨ (ds.head? = some 48 ∧ (1 < ds.length ∨ neg = true)) then none
  else (decFrom 0 ds).map (fun u : Nat => if neg = true then -(u : Int) else (u : Int))
/-- The number that a text is, if it is a number's text. -/
def numB (t : List UInt8) : Option Int :=
  match t with
  | [] => none
  | c :: r => if c = 45 then magB true r else magB false (c :: r)
def NumIs (t : List UInt8) (n : Int) : Prop := itoa n = t ∧ n.natAbs < 10 ^ 18
theorem digit_not45 {d : Nat} (h : digitVal 45 = some d) : False := by
  unfold digitVal at h
  rw [if_neg (by decide)] at h
  cases h
theorem mag_digits (neg : Bool) (u : Nat) (hu : u < 10 ^ 18) (h0 : neg = true → u ≠ 0) : magB neg (decDigits u) = some (if neg = true then -(u : Int) else (u : Int)) := by
  have hl := (digits_len u 17).2 hu
  obtain ⟨c, r, d, e1, e2, e3⟩ := digits_head u
  unfold magB
  rw [if_neg ?_, dec_digits]
  · rfl
  · rintro (h9 | h9 | ⟨h9, h8⟩)
    · exact digits_ne _ h9
    · omega
    · have hu0 : u ≠ 0 := by
        rcases h8 with h8 | h8
        · intro h7
          rw [h7, digits_zero] at h8
          simp at h8
        · exact h0 h8
      rw [e1] at h9
      exact e3 hu0 (by simpa using h9)
theorem num_of_is {t : List UInt8} {n : Int} (h : NumIs t n) : numB t = some n := by
  obtain ⟨h1, h2⟩ := h
  unfold itoa at h1
  by_cases hn : n < 0
  · rw [if_pos hn] at h1
    subst h1
    show (if (45 : UInt8) = 45 then magB true (decDigits n.natAbs) else magB false (45 :: decDigits n.natAbs)) = _
    rw [if_pos rfl, mag_digits true _ h2 (fun _ => by omega)]
    simp only [if_true]
    congr 1
    omega
  · rw [if_neg hn] at h1
    have hm := mag_digits false n.toNat (by omega) (fun h9 => by cases h9)
    obtain ⟨c, r, d, e1, e2, e3⟩ := digits_head n.toNat
    have hc : c ≠ 45 := by intro h9; subst h9; exact digit_not45 e2
    rw [e1] at hm h1
    subst h1
    show (if c = 45 then magB true r else magB false (c :: r)) = _
    rw [if_neg hc, hm]
    simp only [Bool.false_eq_true, if_false]
    congr 1
    omega
theorem mag_back {neg : Bool} {ds : List UInt8} {n : Int} (h : magB neg ds = some n) : ∃ u : Nat, n = (if neg = true then -(u : Int) else (u : Int)) ∧ decDigits u = ds ∧ u < 10 ^ 18 ∧ (neg = true → u ≠ 0) := by
  unfold magB at h
  by_cases hb : ds = [] ∨ 18 < ds.length ∨ (ds.head? = some 48 ∧ (1 < ds.length ∨ neg = true))
  · rw [if_pos hb] at h; cases h
  · rw [if_neg hb] at h
    obtain ⟨u, hu, h2⟩ := Option.map_eq_some_iff.1 h
    have hr : ds ≠ [] := fun h9 => hb (.inl h9)
    have hl : ds.length ≤ 18 := by
      rcases Nat.lt_or_ge 18 ds.length with h9 | h9
      · exact absurd (.inr (.inl h9)) hb
      · exact h9
    have hh : ds.head? ≠ some 48 ∨ ds.length = 1 := by
      by_cases h9 : ds.head? = some 48
      · right
        rcases Nat.lt_or_ge 1 ds.length with h8 | h8
        · exact absurd (.inr (.inr ⟨h9, .inl h8⟩)) hb
        · have : ds.length ≠ 0 := fun h7 => hr (List.eq_nil_of_length_eq_zero h7)
          omega
      · exact .inl h9
    have hk := canon ds u hu hr hh
    refine ⟨u, h2.symm, hk, (digits_len u 17).1 (by rw [hk]; exact hl), fun hn h0 => ?_⟩
    subst h0
    rw [digits_zero] at hk
    exact hb (.inr (.inr ⟨by rw [← hk]; rfl, .inr hn⟩))
theorem is_of_num {t : List UInt8} {n : Int} (h : numB t = some n) : NumIs t n := by
  match t, h with
  | c :: r, h =>
    have h1 : (if c = 45 then magB true r else magB false (c :: r)) = some n := h
    by_cases hc : c = 45
    · rw [if_pos hc] at h1
      obtain ⟨u, hn, hk, hu, h0⟩ := mag_back h1
      simp only [if_true] at hn
      have hu0 := h0 rfl
      subst hn
      refine ⟨?_, by omega⟩
      unfold itoa
      rw [if_pos (by omega), show (-(u : Int)).natAbs = u by omega, hk, hc]
    · rw [if_neg hc] at h1
      obtain ⟨u, hn, hk, hu, h0⟩ := mag_back h1
      simp only [Bool.false_eq_true, if_false] at hn
      subst hn
      refine ⟨?_, by omega⟩
      unfold itoa
      rw [if_neg (by omega), show (u : Int).toNat = u by omega, hk]
/-- The program's way: what is read by the library, told again, is the text. -/
theorem atoi_is {t : List UInt8} {n : Int} (h : NumIs t n) : atoiAll t = .ok n := by
  obtain ⟨h1, h2⟩ := h
  unfold itoa at h1
  by_cases hn : n < 0
  · rw [if_pos hn] at h1
    subst h1
    have hp := parse_dec _ _ _ (dec_digits n.natAbs) (by omega)
    unfold atoiAll
    have e1 : parseMag (decDigits n.natAbs) = .ok n.natAbs := by
      unfold parseMag; rw [if_neg (digits_ne _), hp]
    simp only [show (45 : UInt8).toNat = 45 from rfl, or_true, if_true, e1, not_true, false_and, if_false, true_and]
    rw [if_neg (by omega)]
    congr 1
    omega
  · rw [if_neg hn] at h1
    subst h1
    have hp := parse_dec _ _ _ (dec_digits n.toNat) (by omega)
    obtain ⟨c, r, d, e1, e2, e3⟩ := digits_head n.toNat
    rw [e1] at hp ⊢
    have hc : ¬ (c.toNat = 43 ∨ c.toNat = 45) := by
      unfold digitVal at e2
      split at e2
      · omega
      · cases e2
    unfold atoiAll
    have e4 : parseMag (c :: r) = .ok n.toNat := by
      unfold parseMag; rw [if_neg (by simp), hp]
    have hc2 : ¬ c.toNat = 45 := fun h9 => hc (.inr h9)
    have hif : (if c.toNat = 43 ∨ c.toNat = 45 then r else c :: r) = c :: r := if_neg hc
    simp only [hif, e4]
    rw [if_neg (by omega), if_neg (by omega), if_neg hc2]
    congr 1
    omega
theorem trim_is {t : List UInt8} {n : Int} (h : itoa n = t) : ((trimPrefix t [45]).length ≤ 18 ↔ n.natAbs < 10 ^ 18) := by
  unfold itoa at h
  by_cases hn : n < 0
  · rw [if_pos hn] at h
    subst h
    have : trimPrefix (45 :: decDigits n.natAbs) [45] = decDigits n.natAbs := by
      unfold trimPrefix hasPrefix; simp
    rw [this]
    exact digits_len n.natAbs 17
  · rw [if_neg hn] at h
    subst h
    obtain ⟨c, r, d, e1, e2, e3⟩ := digits_head n.toNat
    have hc : c ≠ 45 := by intro h9; subst h9; exact digit_not45 e2
    have : trimPrefix (decDigits n.toNat) [45] = decDigits n.toNat := by
      unfold trimPrefix hasPrefix; rw [e1]; simp [Ne.symm hc]
    rw [this, show n.natAbs = n.toNat by omega]
    exact digits_len n.toNat 17
end Go.Proofs.YthgbclipknfmjaaGreatDoor
namespace Go.Proofs.YthgbclipknfmjaaGreatDoor
open Go.ChangeShapes Go.WideShapes Go.ChangeAt Go.RowKit
set_option linter.unusedVariables false

/-- The cells xs lie where a slice leads. -/
def Src (w : World) (a : Option Addr) (xs : List Value) : Prop :=
  xs = [] ∨ ∃ b o, a = some ⟨b, o, none⟩ ∧ ∀ j, j < xs.length → w.cell? ⟨b, o + j, none⟩ = some (xs.getD j undef)
theorem Src.below {w w' : World} {a : Option Addr} {xs : List Value} (h : Src w a xs) (hb : Below w.heap.size w w') : Src w' a xs := by
  rcases h with h | ⟨b, o, rfl, hc⟩
  · exact .inl h
  · refine .inr ⟨b, o, rfl, fun j hj => ?_⟩
    have h1 := hc j hj
    rw [← h1]
    exact hb.cell (p := ⟨b, o + j, none⟩) (World.block_lt_of_cell? _ _ h1)
theorem Src.nil (w : World) (a : Option Addr) : Src w a [] := .inl rfl

/-- Where something lies: a step to another form. -/
theorem getD_some {xs : List Value} {j : Nat} {u : Value} (h : xs[j]? = some u) : xs.getD j undef = u := by rw [List.getD_eq_getElem?_getD, h]; rfl

def cellsS (L : List ByteArray) : List Value := L.map .string
def cellsI (L : List Int) : List Value := L.map (.int .i64)
abbrev e0 : ByteArray := ⟨#[]⟩
abbrev q0 : Int × ByteArray := (0, ⟨#[]⟩)
theorem cellsS_length (L : List ByteArray) : (cellsS L).length = L.length := by simp [cellsS]
theorem cellsS_append (L M : List ByteArray) : cellsS (L ++ M) = cellsS L ++ cellsS M := by simp [cellsS]
theorem cellsI_append (L M : List Int) : cellsI (L ++ M) = cellsI L ++ cellsI M := by simp [cellsI]
theorem cellsS_get (L : List ByteArray) (i : Nat) (h : i < L.length) : (cellsS L)[i]? = some (.string (L.getD i e0)) := by
  simp [cellsS, h]
theorem cellsS_one (L : List ByteArray) : ∀ u ∈ cellsS L, u.oneCell' = true := by
  intro u hu
  simp only [cellsS, List.mem_map] at hu
  obtain ⟨x, _, rfl⟩ := hu
  rfl
theorem cellsI_one (L : List Int) : ∀ u ∈ cellsI L, u.oneCell' = true := by
  intro u hu
  simp only [cellsI, List.mem_map] at hu
  obtain ⟨x, _, rfl⟩ := hu
  rfl
theorem srcS {w : World} {a : Option Addr} {L : List ByteArray} (h : Src w a (cellsS L)) {i : Nat} (hi : i < L.length) : ∃ b o x, a = some ⟨b, o, none⟩ ∧ w.cell? ⟨b, o + i, none⟩ = some (.string x) ∧ Hid (L.getD i e0 = x) := by
  rcases h with h | ⟨b, o, rfl, hc⟩
  · rw [← cellsS_length, h] at hi; exact absurd hi (by simp)
  · have := hc i (by rw [cellsS_length]; exact hi)
    rw [getD_some (cellsS_get L i hi)] at this
    exact ⟨b, o, _, rfl, this, rfl⟩
/-- What is read is handed to append. -/
theorem Src.news {w : World} {b o : Nat} {xs : List Value} (h : Src w (some ⟨b, o, none⟩) xs) : ∀ j u, xs[j]? = some u → w.cell? ((⟨b, o, none⟩ : Addr).add j) = some u := fun j u hu => by
  have hj : j < xs.length := (List.getElem?_eq_some_iff.1 hu).1
  rcases h with h | ⟨b', o', e, hc⟩
  · rw [h] at hj; exact absurd hj (by simp)
  · cases e
    have h1 := hc j hj
    rw [getD_some hu] at h1
    unfold Addr.add
    split
    · rename_i h0; subst h0; exact h1
    · exact h1

section
variable {w w' : World} {base : Nat} {e : TypeId} {s : Nat} {v : Value} {n : Nat} {xs : List Value}
theorem own_cell {g cap i : Nat} (h : w.ownsRow base e s (.slice (some ⟨g, 0, none⟩) n cap) n xs) (hi : i < xs.length) : w.cell? ⟨g, i, none⟩ = some (xs.getD i undef) ∧ w.frozen? ⟨g, i, none⟩ = false := by
  obtain ⟨hl, ⟨hv, _⟩ | ⟨g', cap', cur, hv, hb, hg, hc1, hc2, hs, ht⟩⟩ := h
  · cases hv
  · cases hv
    refine ⟨?_, frozen_of_row w g i cur _ hg⟩
    rw [cell_of_row w g i cur _ _ hg, ← Array.getElem?_toList]
    have h1 : (cur.toList.take (n * s))[i]? = some (xs.getD i undef) := by
      rw [ht, List.getD_eq_getElem?_getD, List.getElem?_eq_getElem hi]; rfl
    rw [List.getElem?_take, if_pos (by omega)] at h1
    exact h1
/-- What it is as a slice. -/
theorem own_src (h : w.ownsRow base e s v n xs) : ∃ a c, v = .slice a n c ∧ Src w a xs ∧ (∀ ad, a = some ad → base ≤ ad.block ∧ ad.block < w.heap.size) := by
  have hlt := h.lt
  rcases h with ⟨hl, ⟨rfl, h0⟩ | ⟨g, cap, cur, rfl, hb, hg, hc1, hc2, hs, ht⟩⟩
  · subst h0
    exact ⟨none, 0, rfl, .inl (by simpa using hl), fun ad e => by cases e⟩
  · refine ⟨some ⟨g, 0, none⟩, cap, rfl, .inr ⟨g, 0, rfl, fun j hj => ?_⟩, fun ad e => by cases e; exact hlt g rfl⟩
    rw [Nat.zero_add]
    exact (own_cell (cap := cap) ⟨hl, .inr ⟨g, cap, cur, rfl, hb, hg, hc1, hc2, hs, ht⟩⟩ hj).1
theorem own_below (h : w.ownsRow base e s v n xs) (hb : Below w.heap.size w w') : w'.ownsRow base e s v n xs := by
  obtain ⟨hl, h0 | ⟨g, cap, cur, rfl, hb0, hg, hc1, hc2, hs, ht⟩⟩ := h
  · exact ⟨hl, .inl h0⟩
  · have hlt : g < w.heap.size := (Array.getElem?_eq_some_iff.1 hg).1
    exact ⟨hl, .inr ⟨g, cap, cur, rfl, hb0, by rw [hb.block g hlt]; exact hg, hc1, hc2, hs, ht⟩⟩
theorem own_mono {base' : Nat} (h : w.ownsRow base e s v n xs) (hb : base' ≤ base) : w.ownsRow base' e s v n xs := by
  obtain ⟨hl, h0 | ⟨g, cap, cur, rfl, hb0, rest⟩⟩ := h
  · exact ⟨hl, .inl h0⟩
  · exact ⟨hl, .inr ⟨g, cap, cur, rfl, Nat.le_trans hb hb0, rest⟩⟩
theorem own_congr {ys : List Value} (h : w.ownsRow base e s v n xs) (hx : xs = ys) : w.ownsRow base e s v n ys := hx ▸ h
theorem own_setOther {a : Addr} (h : w.ownsRow base e s v n xs) (hne : v.ownBlock ≠ some a.block) (u : Value) : (w.setCell a u).ownsRow base e s v n xs := by
  obtain ⟨hl, h0 | ⟨g, cap, cur, rfl, hb0, hg, rest⟩⟩ := h
  · exact ⟨hl, .inl h0⟩
  · refine ⟨hl, .inr ⟨g, cap, cur, rfl, hb0, ?_, rest⟩⟩
    rw [Below.heap_setCell _ _ _ _ (by intro e2; exact hne (by rw [← e2]; rfl))]; exact hg
end
/-- Two rows of other element types are other rows. -/
theorem own_ne {w : World} {b1 b2 : Nat} {e1 e2 : TypeId} {s1 s2 n1 n2 : Nat} {v1 v2 : Value} {x1 x2 : List Value} (h1 : w.ownsRow b1 e1 s1 v1 n1 x1) (h2 : w.ownsRow b2 e2 s2 v2 n2 x2) (hne : e1 ≠ e2) : ∀ g, v1.ownBlock = some g → v2.ownBlock ≠ some g := fun g hg hg2 => by
  obtain ⟨c1, f1, k1⟩ := Lib.ownsRow_kind h1 g hg
  obtain ⟨c2, f2, k2⟩ := Lib.ownsRow_kind h2 g hg2
  rw [k1] at k2
  simp at k2
  exact hne k2.2.1
/-- Blocks from lo up to hi may have been written; all others are as they were. -/
structure Turned (lo hi : Nat) (w w' : World) : Prop where
  os : w'.os = w.os
  tape : w'.tape = w.tape
  output : w'.output = w.output
  size : w.heap.size ≤ w'.heap.size
  block : ∀ k, k < w.heap.size → (k < lo ∨ hi ≤ k) → w'.heap[k]? = w.heap[k]?
theorem Turned.trans {lo hi : Nat} {a b c : World} (h : Turned lo hi a b) (k : Turned lo hi b c) : Turned lo hi a c :=
  ⟨k.os.trans h.os, k.tape.trans h.tape, k.output.trans h.output, Nat.le_trans h.size k.size, fun i hi hr => (k.block i (Nat.lt_of_lt_of_le hi h.size) hr).trans (h.block i hi hr)⟩
theorem Turned.of_below {lo hi : Nat} {w w' : World} (h : Below w.heap.size w w') : Turned lo hi w w' := ⟨h.os, h.tape, h.output, h.size, fun k hk _ => h.block k hk⟩
theorem Below.turned {B lo hi : Nat} {a w w' : World} (h : Below B a w) (ht : Turned lo hi w w') (hB : B ≤ a.heap.size) (hl : B ≤ lo) : Below B a w' :=
  h.trans ⟨ht.os, ht.tape, ht.output, ht.size, fun k hk => ht.block k (by have := h.size; omega) (.inl (by omega))⟩
theorem own_turned {w w' : World} {base e s n lo hi top : Nat} {v : Value} {xs : List Value} (h : w.ownsRow base e s v n xs) (ht : Turned lo hi w w') (htop : ∀ k, v.ownBlock = some k → k < top) (hd : top ≤ lo ∨ hi ≤ base) : w'.ownsRow base e s v n xs := by
  obtain ⟨hl, h0 | ⟨g, cap, cur, rfl, hb0, hg, rest⟩⟩ := h
  · exact ⟨hl, .inl h0⟩
  · have hlt : g < w.heap.size := (Array.getElem?_eq_some_iff.1 hg).1
    have h1 := htop g rfl
    exact ⟨hl, .inr ⟨g, cap, cur, rfl, hb0, by rw [ht.block g hlt (by omega)]; exact hg, rest⟩⟩
theorem own_grown {w w' : World} {base e s n : Nat} {v : Value} {xs : List Value} {row : Option Nat} (h : w.ownsRow base e s v n xs) (hg : w.grownBy w' row) (hne : ∀ k, v.ownBlock = some k → row ≠ some k) : w'.ownsRow base e s v n xs := by
  refine h.kept hg ?_
  cases hv : v.ownBlock with
  | none => exact .inl rfl
  | some k => exact .inr (fun e2 => hne k hv e2.symm)
theorem gb_refl (w : World) (row : Option Nat) : w.grownBy w row := ⟨rfl, rfl, rfl, Nat.le_refl _, fun _ _ _ => rfl⟩
theorem Below.drewN' {B : Nat} {a w : World} (h : Below B a w) (n : Nat) : Below B a (w.drewN n) := ⟨h.os, h.tape, h.output, h.size, h.block⟩
theorem le_alloc {B : Nat} {w : World} (h : B ≤ w.heap.size) (o : Obj) : B ≤ (w.alloc o).heap.size := by
  rw [World.size_alloc]; omega
end Go.Proofs.YthgbclipknfmjaaGreatDoor
namespace Go.Proofs.YthgbclipknfmjaaGreatDoor
open Go.ChangeShapes Go.WideShapes Go.ChangeAt Go.RowKit Go.Deep
set_option linter.unusedVariables false

theorem infoS : (Tryz.prog.info? 9).map (fun i => (i.zero, i.size, i.bytes)) = some (some (.string ⟨#[]⟩), 1, 16) := by kernel_rfl
theorem infoI : (Tryz.prog.info? 3).map (fun i => (i.zero, i.size, i.bytes)) = some (some (.int .i64 0), 1, 8) := by kernel_rfl
theorem offs_ne {B a b : Nat} (h : a ≠ b) : (⟨B, a, none⟩ : Addr) ≠ ⟨B, b, none⟩ := fun e => h (congrArg Addr.off e)
/-- The values vs lie at the head of block B, and may be written. -/
def Box (w : World) (B : Nat) (vs : List Value) : Prop := ∀ i v, vs[i]? = some v → w.cell? ⟨B, i, none⟩ = some v ∧ w.frozen? ⟨B, i, none⟩ = false
theorem Box.new {w : World} {B : Nat} {vs : Array Value} {t : TypeId} (hB : B = w.heap.size) : Box (w.alloc (.cells vs t)) B vs.toList := fun i v h => by
  subst hB
  refine ⟨?_, World.frozen?_alloc_at _ _ _ _ rfl⟩
  rw [World.cell?_alloc_at _ _ _ _ rfl, ← Array.getElem?_toList]
  exact h
theorem Box.below {w w' : World} {B : Nat} {vs : List Value} (h : Box w B vs) (hb : Below w.heap.size w w') : Box w' B vs := fun i v hv => by
  obtain ⟨h1, h2⟩ := h i v hv
  have hlt := World.block_lt_of_cell? _ _ h1
  exact ⟨(hb.cell (p := ⟨B, i, none⟩) hlt).trans h1, (hb.frozen (p := ⟨B, i, none⟩) hlt).trans h2⟩
theorem Box.old {w : World} {B : Nat} {vs : List Value} (h : Box w B vs) (o : Obj) : Box (w.alloc o) B vs := h.below ((Below.refl _ _).alloc (Nat.le_refl _) o)
theorem Box.set {w : World} {B : Nat} {vs : List Value} (h : Box w B vs) (i : Nat) (v : Value) : Box (w.setCell ⟨B, i, none⟩ v) B (vs.set i v) := fun j u hu => by
  rw [List.getElem?_set] at hu
  by_cases e : i = j
  · subst e
    rw [if_pos rfl] at hu
    by_cases hl : i < vs.length
    · rw [if_pos hl] at hu
      cases hu
      obtain ⟨h1, h2⟩ := h i _ (List.getElem?_eq_getElem hl)
      exact ⟨World.cell?_setCell_same _ _ _ h1, by rw [World.frozen?_setCell]; exact h2⟩
    · rw [if_neg hl] at hu; cases hu
  · rw [if_neg e] at hu
    obtain ⟨h1, h2⟩ := h j u hu
    exact ⟨by rw [World.cell?_setCell_other _ _ _ _ (offs_ne (by omega))]; exact h1, by rw [World.frozen?_setCell]; exact h2⟩
theorem Box.other {w : World} {B : Nat} {vs : List Value} (h : Box w B vs) (a : Addr) (hne : B ≠ a.block) (v : Value) : Box (w.setCell a v) B vs := fun j u hu => by
  obtain ⟨h1, h2⟩ := h j u hu
  refine ⟨?_, by rw [World.frozen?_setCell]; exact h2⟩
  rw [World.cell?_of_block (w := w) (a := ⟨B, j, none⟩) (Below.heap_setCell _ _ _ _ hne)]; exact h1

theorem own_setLow {w : World} {base e s n : Nat} {v : Value} {xs : List Value} {a : Addr} (h : w.ownsRow base e s v n xs) (ha : a.block < base) (u : Value) : (w.setCell a u).ownsRow base e s v n xs :=
  own_setOther h (fun e => by have := (h.lt _ e).1; omega) u
theorem Box.grown {w w' : World} {B : Nat} {vs : List Value} {row : Option Nat} (h : Box w B vs) (hg : w.grownBy w' row) (hne : row ≠ some B) : Box w' B vs := fun j u hu => by
  obtain ⟨h1, h2⟩ := h j u hu
  have hbk := hg.block B (World.block_lt_of_cell? _ _ h1) (fun e => hne e.symm)
  exact ⟨(World.cell?_of_block (w := w) (a := ⟨B, j, none⟩) hbk).trans h1, (World.frozen?_of_block (w := w) (a := ⟨B, j, none⟩) hbk).trans h2⟩
/-- Four values stored at the head of block B. -/
abbrev W4 (w : World) (B : Nat) (v0 v1 v2 v3 : Value) : World := (((w.setCell ⟨B, 0, none⟩ v0).setCell ⟨B, 1, none⟩ v1).setCell ⟨B, 2, none⟩ v2).setCell ⟨B, 3, none⟩ v3
theorem Box.w4 {w : World} {B : Nat} {z0 z1 z2 z3 : Value} (h : Box w B [z0, z1, z2, z3]) (v0 v1 v2 v3 : Value) : Box (W4 w B v0 v1 v2 v3) B [v0, v1, v2, v3] := (((h.set 0 v0).set 1 v1).set 2 v2).set 3 v3
theorem Below.w4 {b B : Nat} {a w : World} (h : Below b a w) (hB : b ≤ B) (v0 v1 v2 v3 : Value) : Below b a (W4 w B v0 v1 v2 v3) :=
  Below.setCell (Below.setCell (Below.setCell (Below.setCell h hB _) hB _) hB _) hB _
theorem own_notkind {w : World} {base e e' s n g : Nat} {v : Value} {xs : List Value} (h : w.ownsRow base e s v n xs) (hk : ∃ c f, w.heap[g]? = some (.cells c e' f)) (hne : e ≠ e') : v.ownBlock ≠ some g := fun h2 => by
  obtain ⟨c1, f1, k1⟩ := Lib.ownsRow_kind h g h2
  obtain ⟨c, f, hk⟩ := hk
  rw [k1] at hk
  simp at hk
  exact hne hk.2.1
theorem run_append_src {P : Program} (w : World) (base : Nat) (t ty e : TypeId) (z : Value) (size bytes : Nat) (ht : P.underlying t = some (.slice e)) (hinfo : (P.info? e).map (fun i => (i.zero, i.size, i.bytes)) = some (some z, size, bytes))
    (hzs : z.cells.size = size) (hsz : 0 < size) (hby : bytes ≤ 64) (v : Value) (n : Nat) (xs : List Value) (hown : w.ownsRow base e size v n xs)
    (ad : Option Addr) (m c : Nat) (news : List Value) (hl : news.length = m * size) (hsrc : Src w ad news) (h1 : ∀ u ∈ news, u.oneCell' = true) (hn : n + m ≤ 4194304) (hbase : base ≤ w.heap.size) :
    ∃ v' w', (Builtin.append_ #[t, t] ty #[v, .slice ad m c]).run P w = .ok v' w' ∧ w'.ownsRow base e size v' (n + m) (xs ++ news) ∧ w.grownBy w' v.ownBlock := by
  obtain ⟨i, hi, hzz⟩ := Option.map_eq_some_iff.1 hinfo
  simp only [Prod.mk.injEq] at hzz
  obtain ⟨hz, hsize, hbyt⟩ := hzz
  have hbb : (n + m) * bytes ≤ 4194304 * 64 := Nat.mul_le_mul hn hby
  cases ad with
  | some ad =>
    have hnews : ∀ j u, news[j]? = some u → w.cell? (ad.add j) = some u := by
      rcases hsrc with h0 | ⟨b, o, e2, hc⟩
      · intro j u hu; rw [h0] at hu; cases hu
      · cases e2
        exact Src.news (.inr ⟨b, o, rfl, hc⟩)
    obtain ⟨v', w', hr, ho, hg, _⟩ := run_append_own (P := P) w base t ty e i z size bytes ht hi hz hsize hbyt hzs hsz v n xs hown ad m c news hl hnews h1 (by unfold maxLen; omega) (by omega) hbase
    exact ⟨v', w', hr, ho, hg⟩
  | none =>
    have h0 : news = [] := by
      rcases hsrc with h0 | ⟨b, o, e2, hc⟩
      · exact h0
      · cases e2
    subst h0
    have hm : m = 0 := by
      rcases Nat.eq_zero_or_pos m with h | h
      · exact h
      · have := Nat.mul_pos h hsz
        simp at hl
        omega
    subst hm
    refine ⟨v, w, ?_, by simpa using hown, gb_refl _ _⟩
    obtain ⟨hl2, ⟨rfl, hn0⟩ | ⟨g, cap, cur, rfl, hb, hg, hc1, hc2, hs, htk⟩⟩ := hown
    · simp [Builtin.append_, run_underlying ht, sizeOf, typeInfo, hi, Builtin.lenOf, Builtin.firstCells]
    · simp [Builtin.append_, run_underlying ht, sizeOf, typeInfo, hi, Builtin.lenOf, Builtin.firstCells, hc1, storeCells]

theorem wpList_append_src {P : Program} (w : World) {ops : Array Oper} {rest : List Oper} {o : Oper} {a : Act} {Q : Exit → Act → World → Prop} (hgd : o.guard = none) (s x : Operand) (t : TypeId)
    (ho : o.op = .call { callee := .builtin .append, args := #[s, x], argTypes := #[t, t] })
    (base : Nat) (e : TypeId) (z : Value) (size bytes : Nat) (ht : P.underlying t = some (.slice e)) (hinfo : (P.info? e).map (fun i => (i.zero, i.size, i.bytes)) = some (some z, size, bytes))
    (hzs : z.cells.size = size) (hsz : 0 < size) (hby : bytes ≤ 64) (v : Value) (n : Nat) (xs : List Value) (hs : a.eval s = v) (hown : w.ownsRow base e size v n xs)
    (ad : Option Addr) (m c : Nat) (news : List Value) (hx : a.eval x = .slice ad m c) (hl : news.length = m * size) (hsrc : Src w ad news) (h1 : ∀ u ∈ news, u.oneCell' = true) (hn : n + m ≤ 4194304) (hbase : base ≤ w.heap.size)
    (h : ∀ v' w', w'.ownsRow base e size v' (n + m) (xs ++ news) → w.grownBy w' v.ownBlock → wpList P ops Q rest (a.put o.dst v') w') : wpList P ops Q (o :: rest) a w :=
  wpList_plain hgd fun _ hK => by
    obtain ⟨v', w', hr, h2, h3⟩ := run_append_src (P := P) w base t o.type e z size bytes ht hinfo hzs hsz hby v n xs hown ad m c news hl hsrc h1 hn hbase
    unfold Oper.wp execOp
    simp only [ho, resolve, invoke, builtin, Sem.run_bind, Sem.run_pure, Result.andThen_ok, List.map_toArray, List.map_cons, List.map_nil, hs, hx, hr]
    exact hK _ _ (h v' w' h2 h3)

theorem own_empty {w : World} {B base e s : Nat} (hB : B = w.heap.size) (hb : base ≤ w.heap.size) : (w.alloc (.cells #[] e)).ownsRow base e s (.slice (some ⟨B, 0, none⟩) 0 0) 0 [] := by
  subst hB
  exact World.ownsRow_made w #[] 0 hb (by unfold maxLen; omega) (by simp)
theorem Box.drew {w : World} {B : Nat} {vs : List Value} (h : Box w B vs) : Box w.drew B vs := h
theorem Box.turned {w w' : World} {lo hi B : Nat} {vs : List Value} (h : Box w B vs) (ht : Turned lo hi w w') (hd : B < lo ∨ hi ≤ B) : Box w' B vs := fun j u hu => by
  obtain ⟨h1, h2⟩ := h j u hu
  have hbk := ht.block B (World.block_lt_of_cell? _ _ h1) hd
  exact ⟨(World.cell?_of_block (w := w) (a := ⟨B, j, none⟩) hbk).trans h1, (World.frozen?_of_block (w := w) (a := ⟨B, j, none⟩) hbk).trans h2⟩
theorem Below.new {w w' : World} {o : Obj} (hb : Below (w.alloc o).heap.size (w.alloc o) w') : Below w.heap.size w w' :=
  ((Below.refl _ _).alloc (Nat.le_refl _) _).trans (hb.mono (by simp))
/-- v owns the numbers K, in a block from lo up to hi. -/
def OwnsI (w : World) (lo hi : Nat) (v : Value) (K : List Int) : Prop := w.ownsRow lo 3 1 v K.length (cellsI K) ∧ ∀ k, v.ownBlock = some k → k < hi
theorem OwnsI.below {w w' : World} {lo hi : Nat} {v : Value} {K : List Int} (h : OwnsI w lo hi v K) (hb : Below w.heap.size w w') : OwnsI w' lo hi v K := ⟨own_below h.1 hb, h.2⟩
theorem OwnsI.turned {w w' : World} {lo hi lo' hi' : Nat} {v : Value} {K : List Int} (h : OwnsI w lo hi v K) (ht : Turned lo' hi' w w') (hd : hi ≤ lo' ∨ hi' ≤ lo) : OwnsI w' lo hi v K := ⟨own_turned h.1 ht h.2 hd, h.2⟩
theorem OwnsI.drew {w : World} {lo hi : Nat} {v : Value} {K : List Int} (h : OwnsI w lo hi v K) : OwnsI w.drew lo hi v K := h
theorem OwnsI.mk {w : World} {lo hi : Nat} {v : Value} {K : List Int} (h : w.ownsRow lo 3 1 v K.length (cellsI K)) (hh : w.heap.size ≤ hi) : OwnsI w lo hi v K := ⟨h, fun k e => by have := (h.lt k e).2; omega⟩
theorem OwnsI.lit {w : World} {lo hi : Nat} {v : Value} {K : List Int} (h : OwnsI w lo hi v K) : ∃ a c, v = .slice a K.length c := by
  obtain ⟨a, c, e, _⟩ := own_src h.1
  exact ⟨a, c, e⟩
theorem OwnsI.mono {w : World} {lo hi lo' hi' : Nat} {v : Value} {K : List Int} (h : OwnsI w lo hi v K) (hl : lo' ≤ lo) (hh : hi ≤ hi') : OwnsI w lo' hi' v K := ⟨own_mono h.1 hl, fun k e => Nat.lt_of_lt_of_le (h.2 k e) hh⟩
/-- v owns a row of n elements of type e with cells xs, in a block from lo up to hi. -/
def OwnsR (w : World) (e s lo hi : Nat) (v : Value) (n : Nat) (xs : List Value) : Prop := w.ownsRow lo e s v n xs ∧ ∀ k, v.ownBlock = some k → k < hi
theorem OwnsR.below {w w' : World} {e s lo hi n : Nat} {v : Value} {xs : List Value} (h : OwnsR w e s lo hi v n xs) (hb : Below w.heap.size w w') : OwnsR w' e s lo hi v n xs := ⟨own_below h.1 hb, h.2⟩
theorem OwnsR.turned {w w' : World} {e s lo hi lo' hi' n : Nat} {v : Value} {xs : List Value} (h : OwnsR w e s lo hi v n xs) (ht : Turned lo' hi' w w') (hd : hi ≤ lo' ∨ hi' ≤ lo) : OwnsR w' e s lo hi v n xs := ⟨own_turned h.1 ht h.2 hd, h.2⟩
theorem OwnsR.drew {w : World} {e s lo hi n : Nat} {v : Value} {xs : List Value} (h : OwnsR w e s lo hi v n xs) : OwnsR w.drew e s lo hi v n xs := h
theorem OwnsR.mk {w : World} {e s lo hi n : Nat} {v : Value} {xs : List Value} (h : w.ownsRow lo e s v n xs) (hh : w.heap.size ≤ hi) : OwnsR w e s lo hi v n xs := ⟨h, fun k e => by have := (h.lt k e).2; omega⟩
theorem OwnsR.lit {w : World} {e s lo hi n : Nat} {v : Value} {xs : List Value} (h : OwnsR w e s lo hi v n xs) : ∃ a c, v = .slice a n c := by
  obtain ⟨a, c, e, _⟩ := own_src h.1
  exact ⟨a, c, e⟩
theorem OwnsR.mono {w : World} {e s lo hi lo' hi' n : Nat} {v : Value} {xs : List Value} (h : OwnsR w e s lo hi v n xs) (hl : lo' ≤ lo) (hh : hi ≤ hi') : OwnsR w e s lo' hi' v n xs := ⟨own_mono h.1 hl, fun k e => Nat.lt_of_lt_of_le (h.2 k e) hh⟩
theorem OwnsR.congr {w : World} {e s lo hi n : Nat} {v : Value} {xs ys : List Value} (h : OwnsR w e s lo hi v n xs) (hx : xs = ys) : OwnsR w e s lo hi v n ys := hx ▸ h
/-- An append to an owned row stays in its block or goes into a new one. -/
theorem run_append_src' {P : Program} (w : World) (base : Nat) (t ty e : TypeId) (z : Value) (size bytes : Nat) (ht : P.underlying t = some (.slice e)) (hinfo : (P.info? e).map (fun i => (i.zero, i.size, i.bytes)) = some (some z, size, bytes))
    (hzs : z.cells.size = size) (hsz : 0 < size) (hby : bytes ≤ 64) (v : Value) (n : Nat) (xs : List Value) (hown : w.ownsRow base e size v n xs)
    (ad : Addr) (m c : Nat) (news : List Value) (hl : news.length = m * size) (hsrc : Src w (some ad) news) (h1 : ∀ u ∈ news, u.oneCell' = true) (hn : n + m ≤ 4194304) (hm : 0 < m) (hbase : base ≤ w.heap.size) :
    ∃ v' w', (Builtin.append_ #[t, t] ty #[v, .slice (some ad) m c]).run P w = .ok v' w' ∧ w'.ownsRow base e size v' (n + m) (xs ++ news) ∧ w.grownBy w' v.ownBlock ∧ (v'.ownBlock = v.ownBlock ∨ ∀ g, v'.ownBlock = some g → w.heap.size ≤ g) := by
  obtain ⟨v', w', hr, ho, hg⟩ := run_append_src (P := P) w base t ty e z size bytes ht hinfo hzs hsz hby v n xs hown (some ad) m c news hl hsrc h1 hn hbase
  refine ⟨v', w', hr, ho, hg, ?_⟩
  obtain ⟨i, hi, hzz⟩ := Option.map_eq_some_iff.1 hinfo
  simp only [Prod.mk.injEq] at hzz
  obtain ⟨hz, hsize, hbyt⟩ := hzz
  have hbb : (n + m) * bytes ≤ 4194304 * 64 := Nat.mul_le_mul hn hby
  have hnews : ∀ j u, news[j]? = some u → w.cell? (ad.add j) = some u := by
    rcases hsrc with h0 | ⟨b, o, e2, hc⟩
    · intro j u hu; rw [h0] at hu; cases hu
    · cases e2
      exact Src.news (.inr ⟨b, o, rfl, hc⟩)
  have hcase := hown
  obtain ⟨hl2, ⟨rfl, hn0⟩ | ⟨g, cap, cur, rfl, hb, hgg, hc1, hc2, hs, htk⟩⟩ := hcase
  · subst hn0
    right
    have hx0 : xs = [] := List.eq_nil_of_length_eq_zero (by simpa using hl2)
    subst hx0
    obtain ⟨v2, w2, hr2, ho2, _, _⟩ := run_append_own (P := P) w w.heap.size t ty e i z size bytes ht hi hz hsize hbyt hzs hsz (.slice none 0 0) 0 [] (World.ownsRow_nil w _ e size) ad m c news hl hnews h1 (by unfold maxLen; omega) (by omega) (Nat.le_refl _)
    rw [hr] at hr2
    cases hr2
    intro g hg2
    exact (ho2.lt g hg2).1
  · by_cases hroom : n + m ≤ cap
    · left
      have hsub := hsize
      subst hsub
      have hfit : n * i.size + news.length ≤ cur.size := by
        rw [hl, hs, ← Nat.add_mul]
        exact Nat.mul_le_mul_right _ hroom
      have hr2 := run_append_room (P := P) w t ty e i ht hi g n cap cur hgg ad m c news hl hnews h1 hroom hfit
      rw [hr] at hr2
      cases hr2
      rfl
    · right
      obtain ⟨v2, w2, hr2, ho2, _⟩ := run_append_arg_grows (P := P) w t ty e i z size bytes ht hi hz hsize hbyt hzs hsz ⟨g, 0, none⟩ n cap xs hl2 (hown.cells rfl) ad m c news hl hnews (by omega) (by unfold maxLen; omega) (by omega)
      rw [hr] at hr2
      cases hr2
      intro g2 hg2
      exact (ho2.lt g2 hg2).1

theorem step_append_src {P : Program} {ops : Array Oper} {o : Oper} {a : Act} {w : World} {K : Act → World → Prop} {Q : Exit → Act → World → Prop} {E : Prop}
    (hg : o.guard = none) (s x : Operand) (t : TypeId) (ho : o.op = .call { callee := .builtin .append, args := #[s, x], argTypes := #[t, t] })
    (base : Nat) (e : TypeId) (z : Value) (size bytes : Nat) (ht : P.underlying t = some (.slice e)) (hinfo : (P.info? e).map (fun i => (i.zero, i.size, i.bytes)) = some (some z, size, bytes))
    (hzs : z.cells.size = size) (hsz : 0 < size) (hby : bytes ≤ 64) (v : Value) (n : Nat) (xs : List Value) (hs : a.eval s = v) (hown : w.ownsRow base e size v n xs)
    (ad : Addr) (m c : Nat) (news : List Value) (hx : a.eval x = .slice (some ad) m c) (hl : news.length = m * size) (hsrc : Src w (some ad) news) (h1 : ∀ u ∈ news, u.oneCell' = true) (hn : n + m ≤ 4194304) (hm : 0 < m) (hbase : base ≤ w.heap.size)
    (h : ∀ v' w', w'.ownsRow base e size v' (n + m) (xs ++ news) → w.grownBy w' v.ownBlock → (v'.ownBlock = v.ownBlock ∨ ∀ g, v'.ownBlock = some g → w.heap.size ≤ g) → K (a.put o.dst v') w') :
    if Region.wanted o (yielded ops a.tmps) = true then Oper.wp P o a w K Q else E := by
  have hw : Region.wanted o (yielded ops a.tmps) = true := by simp [Region.wanted, hg]
  rw [if_pos hw]
  obtain ⟨v', w', hr, h2, h3, h4⟩ := run_append_src' (P := P) w base t o.type e z size bytes ht hinfo hzs hsz hby v n xs hown ad m c news hl hsrc h1 hn hm hbase
  unfold Oper.wp execOp
  simp only [ho, resolve, invoke, builtin, Sem.run_bind, Sem.run_pure, Result.andThen_ok, List.map_toArray, List.map_cons, List.map_nil, hs, hx, hr]
  exact h v' w' h2 h3 h4

abbrev PM := ByteArray × ByteArray
abbrev p0 : PM := (⟨#[]⟩, ⟨#[]⟩)
def cellsP (L : List PM) : List Value := L.flatMap fun p => [.string p.1, .string p.2]
theorem cellsP_length (L : List PM) : (cellsP L).length = L.length * 2 := by
  induction L with
  | nil => rfl
  | cons p L ih => simp [cellsP] at ih ⊢; omega
theorem cellsP_append (L M : List PM) : cellsP (L ++ M) = cellsP L ++ cellsP M := by simp [cellsP]
theorem cellsP_get : ∀ (L : List PM) (i : Nat), i < L.length → (cellsP L)[i * 2]? = some (.string (L.getD i p0).1) ∧ (cellsP L)[i * 2 + 1]? = some (.string (L.getD i p0).2)
  | [], i, h => absurd h (by simp)
  | p :: L, 0, _ => ⟨rfl, rfl⟩
  | p :: L, i + 1, h => by
    have ih := cellsP_get L i (by simpa using h)
    have e1 : (i + 1) * 2 = i * 2 + 1 + 1 := by omega
    have e2 : cellsP (p :: L) = .string p.1 :: .string p.2 :: cellsP L := rfl
    rw [e2, e1]
    exact ih
theorem cellsP_one (L : List PM) : ∀ u ∈ cellsP L, u.oneCell' = true := by
  intro u hu
  simp only [cellsP, List.mem_flatMap] at hu
  obtain ⟨p, _, hp⟩ := hu
  simp at hp
  rcases hp with rfl | rfl <;> rfl
theorem srcP {w : World} {a : Option Addr} {L : List PM} (h : Src w a (cellsP L)) {i : Nat} (hi : i < L.length) : ∃ b o x y, a = some ⟨b, o, none⟩ ∧ w.cell? ⟨b, o + i * 2, none⟩ = some (.string x) ∧ w.cell? ⟨b, o + i * 2 + 1, none⟩ = some (.string y) ∧ Hid (L.getD i p0 = (x, y)) := by
  rcases h with h | ⟨b, o, rfl, hc⟩
  · have h2 := cellsP_length L
    rw [h] at h2
    simp only [List.length_nil] at h2
    omega
  · have h1 := hc (i * 2) (by rw [cellsP_length]; omega)
    have h2 := hc (i * 2 + 1) (by rw [cellsP_length]; omega)
    rw [getD_some (cellsP_get L i hi).1] at h1
    rw [getD_some (cellsP_get L i hi).2] at h2
    exact ⟨b, o, _, _, rfl, h1, h2, rfl⟩
theorem infoP : (Tryz.prog.info? 68).map (fun i => (i.zero, i.size, i.bytes)) = some (some (.agg #[.string ⟨#[]⟩, .string ⟨#[]⟩]), 2, 32) := by kernel_rfl
/-- The pairs that a slice of two-cell elements leads to. -/
def Sp (w : World) (a : Option Addr) (n : Nat) (f g : Nat → ByteArray) : Prop :=
  n = 0 ∨ ∃ b off, a = some ⟨b, off, none⟩ ∧ ∀ i, i < n → w.cell? ⟨b, off + i * 2, none⟩ = some (.string (f i)) ∧ w.cell? ⟨b, off + i * 2 + 1, none⟩ = some (.string (g i))

theorem Sp.below {w w' : World} {a : Option Addr} {n : Nat} {f g : Nat → ByteArray} (h : Sp w a n f g) (hb : Below w.heap.size w w') : Sp w' a n f g := by
  rcases h with h | ⟨b, off, rfl, hc⟩
  · exact .inl h
  · refine .inr ⟨b, off, rfl, fun i hi => ?_⟩
    obtain ⟨h1, h2⟩ := hc i hi
    rw [← h1, ← h2]
    exact ⟨hb.cell (p := ⟨b, off + i * 2, none⟩) (World.block_lt_of_cell? _ _ h1), hb.cell (p := ⟨b, off + i * 2 + 1, none⟩) (World.block_lt_of_cell? _ _ h2)⟩

abbrev fK (L : List PM) (i : Nat) : ByteArray := (L.getD i p0).1
abbrev fV (L : List PM) (i : Nat) : ByteArray := (L.getD i p0).2
theorem sp_src {w : World} {a : Option Addr} {L : List PM} {n : Nat} (h : Src w a (cellsP L)) (hn : L.length = n) : Sp w a n (fK L) (fV L) := by
  subst hn
  rcases h with h | ⟨b, o, rfl, hc⟩
  · have h2 := cellsP_length L
    rw [h] at h2
    exact .inl (by simp only [List.length_nil] at h2; omega)
  · refine .inr ⟨b, o, rfl, fun i hi => ?_⟩
    have h1 := hc (i * 2) (by rw [cellsP_length]; omega)
    have h2 := hc (i * 2 + 1) (by rw [cellsP_length]; omega)
    rw [getD_some (cellsP_get L i hi).1] at h1
    rw [getD_some (cellsP_get L i hi).2] at h2
    exact ⟨h1, h2⟩
theorem mem_getD {α : Type} (L : List α) (d : α) (i : Nat) (h : i < L.length) : L.getD i d ∈ L := by
  rw [List.getD_eq_getElem?_getD, List.getElem?_eq_getElem h]; exact List.getElem_mem _
end Go.Proofs.YthgbclipknfmjaaGreatDoor
