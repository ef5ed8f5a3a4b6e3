/-
  Nump Rw Mtext Lists1 Lists2 in one. By an AI agent.
-/
import Derived.Test.YtddnecljdecamaaGreatDoorMem
import Derived.Lib.AtoiAll
import Derived.Lib.Atoi
import Derived.Lib.ItoaNum
import Derived.Lib.Strings
import Derived.Lib.OwnKind
import Derived.Deep.RegionWith
import Derived.Deep.QuietTactic
import Derived.BigQuiet
import Derived.WalkLawsBesides
namespace Go.Proofs.YtddnecljdecamaaGreatDoor
open Go.Lib
set_option linter.unusedVariables false

theorem dec_snoc (l : List UInt8) (c : UInt8) : ∀ acc, decFrom acc (l ++ [c]) = (decFrom acc l).bind fun v => (digitVal c).map fun d => v * 10 + d := by
  induction l with
  | nil =>
    intro acc
    simp only [List.nil_append, decFrom]
    cases digitVal c <;> rfl
  | cons b r ih =>
    intro acc
    simp only [List.cons_append, decFrom]
    cases digitVal b with
    | none => rfl
    | some d => exact ih _
theorem digitVal_of (u : Nat) (h : u < 10) : digitVal (UInt8.ofNat (48 + u)) = some u := by
  unfold digitVal
  have h1 : (UInt8.ofNat (48 + u)).toNat = 48 + u := by simp [UInt8.toNat_ofNat']; omega
  rw [h1, if_pos (by omega)]
  congr 1
  omega
theorem digitVal_back {c : UInt8} {d : Nat} (h : digitVal c = some d) : d < 10 ∧ UInt8.ofNat (48 + d) = c := by
  unfold digitVal at h
  split at h
  · rename_i h1
    cases h
    refine ⟨by omega, ?_⟩
    apply UInt8.toNat_inj.1
    simp [UInt8.toNat_ofNat']
    omega
  · cases h
theorem dec_digits (u : Nat) : decFrom 0 (decDigits u) = some u := by
  induction u using decDigits.induct with
  | case1 u h =>
    rw [decDigits, dif_pos h]
    simp only [decFrom, digitVal_of u h]
    simp
  | case2 u h ih =>
    rw [decDigits, dif_neg h, dec_snoc, ih]
    simp only [Option.bind_some, digitVal_of (u % 10) (by omega), Option.map_some]
    congr 1
    omega
theorem digits_ne (u : Nat) : decDigits u ≠ [] := by
  rw [decDigits]
  split <;> simp
theorem digits_zero : decDigits 0 = [48] := by rw [decDigits, dif_pos (by omega)]; rfl
theorem digits_head (u : Nat) : ∃ c r d, decDigits u = c :: r ∧ digitVal c = some d ∧ (u ≠ 0 → c ≠ 48) := by
  induction u using decDigits.induct with
  | case1 u h =>
    refine ⟨UInt8.ofNat (48 + u), [], u, by rw [decDigits, dif_pos h], digitVal_of u h, fun h0 he => ?_⟩
    have h1 : (UInt8.ofNat (48 + u)).toNat = 48 + u := by simp [UInt8.toNat_ofNat']; omega
    rw [he] at h1
    have : (48 : UInt8).toNat = 48 := rfl
    omega
  | case2 u h ih =>
    obtain ⟨c, r, d, h1, h2, h3⟩ := ih
    exact ⟨c, r ++ [UInt8.ofNat (48 + u % 10)], d, by rw [decDigits, dif_neg h, h1]; rfl, h2, fun _ => h3 (by omega)⟩
theorem digits_len (u : Nat) : ∀ k, (decDigits u).length ≤ k + 1 ↔ u < 10 ^ (k + 1) := by
  induction u using decDigits.induct with
  | case1 u h =>
    intro k
    rw [decDigits, dif_pos h]
    have : 10 ^ 1 ≤ 10 ^ (k + 1) := Nat.pow_le_pow_right (by omega) (by omega)
    simp only [List.length_cons, List.length_nil]
    omega
  | case2 u h ih =>
    intro k
    rw [decDigits, dif_neg h, List.length_append, List.length_cons, List.length_nil]
    cases k with
    | zero =>
      have : 1 ≤ (decDigits (u / 10)).length := by
        rcases hd : decDigits (u / 10) with _ | ⟨a, b⟩
        · exact absurd hd (digits_ne _)
        · simp
      constructor
      · intro h9; omega
      · intro h9; simp at h9; omega
    | succ k =>
      have := ih k
      rw [show 10 ^ (k + 1 + 1) = 10 ^ (k + 1) * 10 from rfl]
      constructor
      · intro h9
        have h8 := this.1 (by omega)
        omega
      · intro h9
        have h8 := this.2 (by omega)
        omega
theorem rev_ind {P : List UInt8 → Prop} (h0 : P []) (h1 : ∀ l c, P l → P (l ++ [c])) (l : List UInt8) : P l := by
  have : ∀ r : List UInt8, P r.reverse := by
    intro r
    induction r with
    | nil => exact h0
    | cons a r ih => rw [List.reverse_cons]; exact h1 _ _ ih
  simpa using this l.reverse
theorem canon (l : List UInt8) : ∀ u, decFrom 0 l = some u → l ≠ [] → (l.head? ≠ some 48 ∨ l.length = 1) → decDigits u = l := by
  refine rev_ind (P := fun l => ∀ u, decFrom 0 l = some u → l ≠ [] → (l.head? ≠ some 48 ∨ l.length = 1) → decDigits u = l) (fun u h h0 => absurd rfl h0) (fun l c ih u h _ hh => ?_) l
  rw [dec_snoc] at h
  obtain ⟨v, hv, h2⟩ := Option.bind_eq_some_iff.1 h
  obtain ⟨d, hd, rfl⟩ := Option.map_eq_some_iff.1 h2
  obtain ⟨hd9, hdc⟩ := digitVal_back hd
  by_cases hl : l = []
  · subst hl
    simp only [decFrom] at hv
    cases hv
    rw [decDigits, dif_pos (by omega)]
    simp [hdc]
  · have hhd : l.head? ≠ some 48 := by
      rcases hh with hh | hh
      · intro h9
        apply hh
        rw [List.head?_append, h9]
        rfl
      · rw [List.length_append, List.length_cons, List.length_nil] at hh
        have : l.length = 0 := by omega
        exact absurd (List.eq_nil_of_length_eq_zero this) hl
    have hi := ih v hv hl (.inl hhd)
    have hv0 : v ≠ 0 := by
      intro h9
      subst h9
      rw [digits_zero] at hi
      rw [← hi] at hhd
      exact hhd rfl
    rw [decDigits, dif_neg (by omega), show (v * 10 + d) / 10 = v by omega, show (v * 10 + d) % 10 = d by omega, hi, hdc]
theorem dec_le (l : List UInt8) : ∀ acc u, decFrom acc l = some u → acc ≤ u := by
  induction l with
  | nil => intro acc u h; simp only [decFrom] at h; cases h; exact Nat.le_refl _
  | cons b r ih =>
    intro acc u h
    simp only [decFrom] at h
    cases hb : digitVal b with
    | none => rw [hb] at h; cases h
    | some d => rw [hb] at h; have := ih _ _ h; omega
theorem parse_dec (l : List UInt8) : ∀ acc u, decFrom acc l = some u → u < 1844674407370955162 → parseUint10 acc l = .ok u := by
  induction l with
  | nil => intro acc u h _; simp only [decFrom] at h; cases h; rfl
  | cons b r ih =>
    intro acc u h hu
    simp only [decFrom] at h
    cases hb : digitVal b with
    | none => rw [hb] at h; cases h
    | some d =>
      rw [hb] at h
      have hle := dec_le _ _ _ h
      have hb2 := hb
      unfold digitVal at hb2
      split at hb2
      · rename_i h9
        cases hb2
        simp only [parseUint10, if_pos h9]
        rw [if_neg (by omega), if_neg (by omega)]
        exact ih _ _ h hu
      · cases hb2
/-- The number that some digits are, with a sign ahead or without. -/
def magB (neg : Bool) (ds : List UInt8) : Option Int :=
  if ds = [] ∨ 18 < ds.length ∨ (ds.head? = some 48 ∧ (1 < ds.length ∨ neg = true)) then none
  else (decFrom 0 ds).map (fun u : Nat => if neg = true then -(u : Int) else (u : Int))
/-- The number that a text is, if it is a number's text. -/
def numB (t : List UInt8) : Option Int :=
  match t with
  | [] => none
  | c :: r => if c = 45 then magB true r else magB false (c :: r)
def NumIs (t : List UInt8) (n : Int) : Prop := itoa n = t ∧ n.natAbs < 10 ^ 18
theorem digit_not45 {d : Nat} (h : digitVal 45 = some d) : False := by
  unfold digitVal at h
  rw [if_neg (by decide)] at h
  cases h
theorem mag_digits (neg : Bool) (u : Nat) (hu : u < 10 ^ 18) (h0 : neg = true → u ≠ 0) : magB neg (decDigits u) = some (if neg = true then -(u : Int) else (u : Int)) := by
  have hl := (digits_len u 17).2 hu
  obtain ⟨c, r, d, e1, e2, e3⟩ := digits_head u
  unfold magB
  rw [if_neg ?_, dec_digits]
  · rfl
  · rintro (h9 | h9 | ⟨h9, h8⟩)
    · exact digits_ne _ h9
    · omega
    · have hu0 : u ≠ 0 := by
        rcases h8 with h8 | h8
        · intro h7
          rw [h7, digits_zero] at h8
          simp at h8
        · exact h0 h8
      rw [e1] at h9
      exact e3 hu0 (by simpa using h9)
theorem num_of_is {t : List UInt8} {n : Int} (h : NumIs t n) : numB t = some n := by
  obtain ⟨h1, h2⟩ := h
  unfold itoa at h1
  by_cases hn : n < 0
  · rw [if_pos hn] at h1
    subst h1
    show (if (45 : UInt8) = 45 then magB true (decDigits n.natAbs) else magB false (45 :: decDigits n.natAbs)) = _
    rw [if_pos rfl, mag_digits true _ h2 (fun _ => by omega)]
    simp only [if_true]
    congr 1
    omega
  · rw [if_neg hn] at h1
    have hm := mag_digits false n.toNat (by omega) (fun h9 => by cases h9)
    obtain ⟨c, r, d, e1, e2, e3⟩ := digits_head n.toNat
    have hc : c ≠ 45 := by intro h9; subst h9; exact digit_not45 e2
    rw [e1] at hm h1
    subst h1
    show (if c = 45 then magB true r else magB false (c :: r)) = _
    rw [if_neg hc, hm]
    simp only [Bool.false_eq_true, if_false]
    congr 1
    omega
theorem mag_back {neg : Bool} {ds : List UInt8} {n : Int} (h : magB neg ds = some n) : ∃ u : Nat, n = (if neg = true then -(u : Int) else (u : Int)) ∧ decDigits u = ds ∧ u < 10 ^ 18 ∧ (neg = true → u ≠ 0) := by
  unfold magB at h
  by_cases hb : ds = [] ∨ 18 < ds.length ∨ (ds.head? = some 48 ∧ (1 < ds.length ∨ neg = true))
  · rw [if_pos hb] at h; cases h
  · rw [if_neg hb] at h
    obtain ⟨u, hu, h2⟩ := Option.map_eq_some_iff.1 h
    have hr : ds ≠ [] := fun h9 => hb (.inl h9)
    have hl : ds.length ≤ 18 := by
      rcases Nat.lt_or_ge 18 ds.length with h9 | h9
      · exact absurd (.inr (.inl h9)) hb
      · exact h9
    have hh : ds.head? ≠ some 48 ∨ ds.length = 1 := by
      by_cases h9 : ds.head? = some 48
      · right
        rcases Nat.lt_or_ge 1 ds.length with h8 | h8
        · exact absurd (.inr (.inr ⟨h9, .inl h8⟩)) hb
        · have : ds.length ≠ 0 := fun h7 => hr (List.eq_nil_of_length_eq_zero h7)
          omega
      · exact .inl h9
    have hk := canon ds u hu hr hh
    refine ⟨u, h2.symm, hk, (digits_len u 17).1 (by rw [hk]; exact hl), fun hn h0 => ?_⟩
    subst h0
    rw [digits_zero] at hk
    exact hb (.inr (.inr ⟨by rw [← hk]; rfl, .inr hn⟩))
theorem is_of_num {t : List UInt8} {n : Int} (h : numB t = some n) : NumIs t n := by
  match t, h with
  | c :: r, h =>
    have h1 : (if c = 45 then magB true r else magB false (c :: r)) = some n := h
    by_cases hc : c = 45
    · rw [if_pos hc] at h1
      obtain ⟨u, hn, hk, hu, h0⟩ := mag_back h1
      simp only [if_true] at hn
      have hu0 := h0 rfl
      subst hn
      refine ⟨?_, by omega⟩
      unfold itoa
      rw [if_pos (by omega), show (-(u : Int)).natAbs = u by omega, hk, hc]
    · rw [if_neg hc] at h1
      obtain ⟨u, hn, hk, hu, h0⟩ := mag_back h1
      simp only [Bool.false_eq_true, if_false] at hn
      subst hn
      refine ⟨?_, by omega⟩
      unfold itoa
      rw [if_neg (by omega), show (u : Int).toNat = u by omega, hk]
/-- The program's way: what is read by the library, told again, is the text. -/
theorem atoi_is {t : List UInt8} {n : Int} (h : NumIs t n) : atoiAll t = .ok n := by
  obtain ⟨h1, h2⟩ := h
  unfold itoa at h1
  by_cases hn : n < 0
  · rw [if_pos hn] at h1
    subst h1
    have hp := parse_dec _ _ _ (dec_digits n.natAbs) (by omega)
    unfold atoiAll
    have e1 : parseMag (decDigits n.natAbs) = .ok n.natAbs := by
      unfold parseMag; rw [if_neg (digits_ne _), hp]
    simp only [show (45 : UInt8).toNat = 45 from rfl, or_true, if_true, e1, not_true, false_and, if_false, true_and]
    rw [if_neg (by omega)]
    congr 1
    omega
  · rw [if_neg hn] at h1
    subst h1
    have hp := parse_dec _ _ _ (dec_digits n.toNat) (by omega)
    obtain ⟨c, r, d, e1, e2, e3⟩ := digits_head n.toNat
    rw [e1] at hp ⊢
    have hc : ¬ (c.toNat = 43 ∨ c.toNat = 45) := by
      unfold digitVal at e2
      split at e2
      · omega
      · cases e2
    unfold atoiAll
    have e4 : parseMag (c :: r) = .ok n.toNat := by
      unfold parseMag; rw [if_neg (by simp), hp]
    have hc2 : ¬ c.toNat = 45 := fun h9 => hc (.inr h9)
    have hif : (if c.toNat = 43 ∨ c.toNat = 45 then r else c :: r) = c :: r := if_neg hc
    simp only [hif, e4]
    rw [if_neg (by omega), if_neg (by omega), if_neg hc2]
    congr 1
    omega
theorem trim_is {t : List UInt8} {n : Int} (h : itoa n = t) : ((trimPrefix t [45]).length ≤ 18 ↔ n.natAbs < 10 ^ 18) := by
  unfold itoa at h
  by_cases hn : n < 0
  · rw [if_pos hn] at h
    subst h
    have : trimPrefix (45 :: decDigits n.natAbs) [45] = decDigits n.natAbs := by
      unfold trimPrefix hasPrefix; simp
    rw [this]
    exact digits_len n.natAbs 17
  · rw [if_neg hn] at h
    subst h
    obtain ⟨c, r, d, e1, e2, e3⟩ := digits_head n.toNat
    have hc : c ≠ 45 := by intro h9; subst h9; exact digit_not45 e2
    have : trimPrefix (decDigits n.toNat) [45] = decDigits n.toNat := by
      unfold trimPrefix hasPrefix; rw [e1]; simp [Ne.symm hc]
    rw [this, show n.natAbs = n.toNat by omega]
    exact digits_len n.toNat 17
end Go.Proofs.YtddnecljdecamaaGreatDoor
namespace Go.Proofs.YtddnecljdecamaaGreatDoor
open Go.ChangeShapes Go.WideShapes Go.ChangeAt Go.RowKit
set_option linter.unusedVariables false

/-- The cells xs lie where a slice leads. -/
def Src (w : World) (a : Option Addr) (xs : List Value) : Prop :=
  xs = [] ∨ ∃ b o, a = some ⟨b, o, none⟩ ∧ ∀ j, j < xs.length → w.cell? ⟨b, o + j, none⟩ = some (xs.getD j undef)
theorem Src.below {w w' : World} {a : Option Addr} {xs : List Value} (h : Src w a xs) (hb : Below w.heap.size w w') : Src w' a xs := by
  rcases h with h | ⟨b, o, rfl, hc⟩
  · exact .inl h
  · refine .inr ⟨b, o, rfl, fun j hj => ?_⟩
    have h1 := hc j hj
    rw [← h1]
    exact hb.cell (p := ⟨b, o + j, none⟩) (World.block_lt_of_cell? _ _ h1)
theorem Src.nil (w : World) (a : Option Addr) : Src w a [] := .inl rfl

/-- Where something lies: a step to another form. -/
theorem getD_some {xs : List Value} {j : Nat} {u : Value} (h : xs[j]? = some u) : xs.getD j undef = u := by rw [List.getD_eq_getElem?_getD, h]; rfl

def cellsS (L : List ByteArray) : List Value := L.map .string
def cellsI (L : List Int) : List Value := L.map (.int .i64)
def cellsQ (L : List (Int × ByteArray)) : List Value := L.flatMap fun p => [.int .i64 p.1, .string p.2]
abbrev e0 : ByteArray := ⟨#[]⟩
abbrev q0 : Int × ByteArray := (0, ⟨#[]⟩)
theorem cellsS_length (L : List ByteArray) : (cellsS L).length = L.length := by simp [cellsS]
theorem cellsI_length (L : List Int) : (cellsI L).length = L.length := by simp [cellsI]
theorem cellsQ_length (L : List (Int × ByteArray)) : (cellsQ L).length = L.length * 2 := by
  induction L with
  | nil => rfl
  | cons p L ih => simp [cellsQ] at ih ⊢; omega
theorem cellsS_append (L M : List ByteArray) : cellsS (L ++ M) = cellsS L ++ cellsS M := by simp [cellsS]
theorem cellsI_append (L M : List Int) : cellsI (L ++ M) = cellsI L ++ cellsI M := by simp [cellsI]
theorem cellsQ_append (L M : List (Int × ByteArray)) : cellsQ (L ++ M) = cellsQ L ++ cellsQ M := by simp [cellsQ]
theorem cellsS_get (L : List ByteArray) (i : Nat) (h : i < L.length) : (cellsS L)[i]? = some (.string (L.getD i e0)) := by
  simp [cellsS, h]
theorem cellsI_get (L : List Int) (i : Nat) (h : i < L.length) : (cellsI L)[i]? = some (.int .i64 (L.getD i 0)) := by
  simp [cellsI, h]
theorem cellsQ_get : ∀ (L : List (Int × ByteArray)) (i : Nat), i < L.length → (cellsQ L)[i * 2]? = some (.int .i64 (L.getD i q0).1) ∧ (cellsQ L)[i * 2 + 1]? = some (.string (L.getD i q0).2)
  | [], i, h => absurd h (by simp)
  | p :: L, 0, _ => ⟨rfl, rfl⟩
  | p :: L, i + 1, h => by
    have ih := cellsQ_get L i (by simpa using h)
    have e1 : (i + 1) * 2 = i * 2 + 1 + 1 := by omega
    have e2 : cellsQ (p :: L) = .int .i64 p.1 :: .string p.2 :: cellsQ L := rfl
    rw [e2, e1]
    exact ih
theorem cellsS_one (L : List ByteArray) : ∀ u ∈ cellsS L, u.oneCell' = true := by
  intro u hu
  simp only [cellsS, List.mem_map] at hu
  obtain ⟨x, _, rfl⟩ := hu
  rfl
theorem cellsI_one (L : List Int) : ∀ u ∈ cellsI L, u.oneCell' = true := by
  intro u hu
  simp only [cellsI, List.mem_map] at hu
  obtain ⟨x, _, rfl⟩ := hu
  rfl
theorem cellsQ_one (L : List (Int × ByteArray)) : ∀ u ∈ cellsQ L, u.oneCell' = true := by
  intro u hu
  simp only [cellsQ, List.mem_flatMap] at hu
  obtain ⟨p, _, hp⟩ := hu
  simp at hp
  rcases hp with rfl | rfl <;> rfl
theorem srcS {w : World} {a : Option Addr} {L : List ByteArray} (h : Src w a (cellsS L)) {i : Nat} (hi : i < L.length) : ∃ b o x, a = some ⟨b, o, none⟩ ∧ w.cell? ⟨b, o + i, none⟩ = some (.string x) ∧ Hid (L.getD i e0 = x) := by
  rcases h with h | ⟨b, o, rfl, hc⟩
  · rw [← cellsS_length, h] at hi; exact absurd hi (by simp)
  · have := hc i (by rw [cellsS_length]; exact hi)
    rw [getD_some (cellsS_get L i hi)] at this
    exact ⟨b, o, _, rfl, this, rfl⟩
theorem srcI {w : World} {a : Option Addr} {L : List Int} (h : Src w a (cellsI L)) {i : Nat} (hi : i < L.length) : ∃ b o x, a = some ⟨b, o, none⟩ ∧ w.cell? ⟨b, o + i, none⟩ = some (.int .i64 x) ∧ Hid (L.getD i 0 = x) := by
  rcases h with h | ⟨b, o, rfl, hc⟩
  · rw [← cellsI_length, h] at hi; exact absurd hi (by simp)
  · have := hc i (by rw [cellsI_length]; exact hi)
    rw [getD_some (cellsI_get L i hi)] at this
    exact ⟨b, o, _, rfl, this, rfl⟩
theorem srcQ {w : World} {a : Option Addr} {L : List (Int × ByteArray)} (h : Src w a (cellsQ L)) {i : Nat} (hi : i < L.length) : ∃ b o x y, a = some ⟨b, o, none⟩ ∧ w.cell? ⟨b, o + i * 2, none⟩ = some (.int .i64 x) ∧ w.cell? ⟨b, o + i * 2 + 1, none⟩ = some (.string y) ∧ Hid (L.getD i q0 = (x, y)) := by
  rcases h with h | ⟨b, o, rfl, hc⟩
  · have h2 := cellsQ_length L
    rw [h] at h2
    simp only [List.length_nil] at h2
    omega
  · have h1 := hc (i * 2) (by rw [cellsQ_length]; omega)
    have h2 := hc (i * 2 + 1) (by rw [cellsQ_length]; omega)
    rw [getD_some (cellsQ_get L i hi).1] at h1
    rw [getD_some (cellsQ_get L i hi).2] at h2
    exact ⟨b, o, _, _, rfl, h1, h2, rfl⟩
/-- What is read is handed to append. -/
theorem Src.news {w : World} {b o : Nat} {xs : List Value} (h : Src w (some ⟨b, o, none⟩) xs) : ∀ j u, xs[j]? = some u → w.cell? ((⟨b, o, none⟩ : Addr).add j) = some u := fun j u hu => by
  have hj : j < xs.length := (List.getElem?_eq_some_iff.1 hu).1
  rcases h with h | ⟨b', o', e, hc⟩
  · rw [h] at hj; exact absurd hj (by simp)
  · cases e
    have h1 := hc j hj
    rw [getD_some hu] at h1
    unfold Addr.add
    split
    · rename_i h0; subst h0; exact h1
    · exact h1

section
variable {w w' : World} {base : Nat} {e : TypeId} {s : Nat} {v : Value} {n : Nat} {xs : List Value}
theorem own_cell {g cap i : Nat} (h : w.ownsRow base e s (.slice (some ⟨g, 0, none⟩) n cap) n xs) (hi : i < xs.length) : w.cell? ⟨g, i, none⟩ = some (xs.getD i undef) ∧ w.frozen? ⟨g, i, none⟩ = false := by
  obtain ⟨hl, ⟨hv, _⟩ | ⟨g', cap', cur, hv, hb, hg, hc1, hc2, hs, ht⟩⟩ := h
  · cases hv
  · cases hv
    refine ⟨?_, frozen_of_row w g i cur _ hg⟩
    rw [cell_of_row w g i cur _ _ hg, ← Array.getElem?_toList]
    have h1 : (cur.toList.take (n * s))[i]? = some (xs.getD i undef) := by
      rw [ht, List.getD_eq_getElem?_getD, List.getElem?_eq_getElem hi]; rfl
    rw [List.getElem?_take, if_pos (by omega)] at h1
    exact h1
theorem own_cellX {g cap i : Nat} (h : w.ownsRow base e s (.slice (some ⟨g, 0, none⟩) n cap) n xs) (hi : i < xs.length) : ∃ x, w.cell? ⟨g, i, none⟩ = some x ∧ w.frozen? ⟨g, i, none⟩ = false :=
  ⟨_, own_cell h hi⟩
/-- What it is as a slice. -/
theorem own_src (h : w.ownsRow base e s v n xs) : ∃ a c, v = .slice a n c ∧ Src w a xs ∧ (∀ ad, a = some ad → base ≤ ad.block ∧ ad.block < w.heap.size) := by
  have hlt := h.lt
  rcases h with ⟨hl, ⟨rfl, h0⟩ | ⟨g, cap, cur, rfl, hb, hg, hc1, hc2, hs, ht⟩⟩
  · subst h0
    exact ⟨none, 0, rfl, .inl (by simpa using hl), fun ad e => by cases e⟩
  · refine ⟨some ⟨g, 0, none⟩, cap, rfl, .inr ⟨g, 0, rfl, fun j hj => ?_⟩, fun ad e => by cases e; exact hlt g rfl⟩
    rw [Nat.zero_add]
    exact (own_cell (cap := cap) ⟨hl, .inr ⟨g, cap, cur, rfl, hb, hg, hc1, hc2, hs, ht⟩⟩ hj).1
theorem own_below (h : w.ownsRow base e s v n xs) (hb : Below w.heap.size w w') : w'.ownsRow base e s v n xs := by
  obtain ⟨hl, h0 | ⟨g, cap, cur, rfl, hb0, hg, hc1, hc2, hs, ht⟩⟩ := h
  · exact ⟨hl, .inl h0⟩
  · have hlt : g < w.heap.size := (Array.getElem?_eq_some_iff.1 hg).1
    exact ⟨hl, .inr ⟨g, cap, cur, rfl, hb0, by rw [hb.block g hlt]; exact hg, hc1, hc2, hs, ht⟩⟩
theorem own_mono {base' : Nat} (h : w.ownsRow base e s v n xs) (hb : base' ≤ base) : w.ownsRow base' e s v n xs := by
  obtain ⟨hl, h0 | ⟨g, cap, cur, rfl, hb0, rest⟩⟩ := h
  · exact ⟨hl, .inl h0⟩
  · exact ⟨hl, .inr ⟨g, cap, cur, rfl, Nat.le_trans hb hb0, rest⟩⟩
theorem own_set {g cap : Nat} (h : w.ownsRow base e s (.slice (some ⟨g, 0, none⟩) n cap) n xs) (i : Nat) (hi : i < xs.length) (u : Value) :
    (w.setCell ⟨g, i, none⟩ u).ownsRow base e s (.slice (some ⟨g, 0, none⟩) n cap) n (xs.set i u) := by
  obtain ⟨hl, ⟨hv, _⟩ | ⟨g', cap', cur, hv, hb, hg, hc1, hc2, hs, ht⟩⟩ := h
  · cases hv
  · cases hv
    refine ⟨by rw [List.length_set]; exact hl, .inr ⟨g, cap, cur.setIfInBounds i u, rfl, hb, ?_, hc1, hc2, by simpa using hs, ?_⟩⟩
    · simp [World.setCell, Array.getElem?_modify, hg]
    · rw [Array.toList_setIfInBounds, List.take_set, ht]
theorem own_congr {ys : List Value} (h : w.ownsRow base e s v n xs) (hx : xs = ys) : w.ownsRow base e s v n ys := hx ▸ h
theorem own_setOther {a : Addr} (h : w.ownsRow base e s v n xs) (hne : v.ownBlock ≠ some a.block) (u : Value) : (w.setCell a u).ownsRow base e s v n xs := by
  obtain ⟨hl, h0 | ⟨g, cap, cur, rfl, hb0, hg, rest⟩⟩ := h
  · exact ⟨hl, .inl h0⟩
  · refine ⟨hl, .inr ⟨g, cap, cur, rfl, hb0, ?_, rest⟩⟩
    rw [Below.heap_setCell _ _ _ _ (by intro e2; exact hne (by rw [← e2]; rfl))]; exact hg
end
/-- Two rows of other element types are other rows. -/
theorem own_ne {w : World} {b1 b2 : Nat} {e1 e2 : TypeId} {s1 s2 n1 n2 : Nat} {v1 v2 : Value} {x1 x2 : List Value} (h1 : w.ownsRow b1 e1 s1 v1 n1 x1) (h2 : w.ownsRow b2 e2 s2 v2 n2 x2) (hne : e1 ≠ e2) : ∀ g, v1.ownBlock = some g → v2.ownBlock ≠ some g := fun g hg hg2 => by
  obtain ⟨c1, f1, k1⟩ := Lib.ownsRow_kind h1 g hg
  obtain ⟨c2, f2, k2⟩ := Lib.ownsRow_kind h2 g hg2
  rw [k1] at k2
  simp at k2
  exact hne k2.2.1
/-- A row that was made, its zero values in it. -/
theorem rows_made (w : World) (z : Array Value) (n s : Nat) (e : TypeId) (hz : z.size = s) (hs : 0 < s) (hn : n ≤ maxLen) :
    ∃ xs, xs.length = n * s ∧ (w.alloc (.cells (madeCells z (n * s)) e)).ownsRow w.heap.size e s (.slice (some ⟨w.heap.size, 0, none⟩) n n) n xs :=
  ⟨(madeCells z (n * s)).toList, by simp [size_madeCells], by simp [size_madeCells], .inr ⟨w.heap.size, n, _, rfl, Nat.le_refl _, heap_alloc_new _ _, Nat.le_refl _, hn, by simp [size_madeCells], by
    rw [List.take_of_length_le]; simp [size_madeCells]⟩⟩
theorem fill_set (xs zs : List Value) (k : Nat) (u : Value) (hk : k < zs.length) (hu : xs[k]? = some u) : (xs.take k ++ zs.drop k).set k u = xs.take (k + 1) ++ zs.drop (k + 1) := by
  have hx : k < xs.length := (List.getElem?_eq_some_iff.1 hu).1
  rw [List.set_append_right _ _ (by simp; omega)]
  have e1 : k - (xs.take k).length = 0 := by simp; omega
  rw [e1, List.drop_eq_getElem_cons hk, List.set_cons_zero, List.take_add_one, hu]
  simp
theorem fill_length (xs zs : List Value) (k : Nat) (h : zs.length = xs.length) : (xs.take k ++ zs.drop k).length = xs.length := by simp; omega

/-- Blocks from lo up to hi may have been written; all others are as they were. -/
structure Turned (lo hi : Nat) (w w' : World) : Prop where
  os : w'.os = w.os
  tape : w'.tape = w.tape
  output : w'.output = w.output
  size : w.heap.size ≤ w'.heap.size
  block : ∀ k, k < w.heap.size → (k < lo ∨ hi ≤ k) → w'.heap[k]? = w.heap[k]?
theorem Turned.trans {lo hi : Nat} {a b c : World} (h : Turned lo hi a b) (k : Turned lo hi b c) : Turned lo hi a c :=
  ⟨k.os.trans h.os, k.tape.trans h.tape, k.output.trans h.output, Nat.le_trans h.size k.size, fun i hi hr => (k.block i (Nat.lt_of_lt_of_le hi h.size) hr).trans (h.block i hi hr)⟩
theorem Turned.of_below {lo hi : Nat} {w w' : World} (h : Below w.heap.size w w') : Turned lo hi w w' := ⟨h.os, h.tape, h.output, h.size, fun k hk _ => h.block k hk⟩
theorem Turned.of_grown {lo hi : Nat} {w w' : World} {row : Option Nat} (h : w.grownBy w' row) (hr : ∀ k, row = some k → lo ≤ k ∧ k < hi) : Turned lo hi w w' :=
  ⟨h.os, h.tape, h.output, h.size, fun k hk ho => h.block k hk (fun e => by have := hr k e.symm; omega)⟩
theorem Below.turned {B lo hi : Nat} {a w w' : World} (h : Below B a w) (ht : Turned lo hi w w') (hB : B ≤ a.heap.size) (hl : B ≤ lo) : Below B a w' :=
  h.trans ⟨ht.os, ht.tape, ht.output, ht.size, fun k hk => ht.block k (by have := h.size; omega) (.inl (by omega))⟩
theorem own_turned {w w' : World} {base e s n lo hi top : Nat} {v : Value} {xs : List Value} (h : w.ownsRow base e s v n xs) (ht : Turned lo hi w w') (htop : ∀ k, v.ownBlock = some k → k < top) (hd : top ≤ lo ∨ hi ≤ base) : w'.ownsRow base e s v n xs := by
  obtain ⟨hl, h0 | ⟨g, cap, cur, rfl, hb0, hg, rest⟩⟩ := h
  · exact ⟨hl, .inl h0⟩
  · have hlt : g < w.heap.size := (Array.getElem?_eq_some_iff.1 hg).1
    have h1 := htop g rfl
    exact ⟨hl, .inr ⟨g, cap, cur, rfl, hb0, by rw [ht.block g hlt (by omega)]; exact hg, rest⟩⟩
theorem own_grown {w w' : World} {base e s n : Nat} {v : Value} {xs : List Value} {row : Option Nat} (h : w.ownsRow base e s v n xs) (hg : w.grownBy w' row) (hne : ∀ k, v.ownBlock = some k → row ≠ some k) : w'.ownsRow base e s v n xs := by
  refine h.kept hg ?_
  cases hv : v.ownBlock with
  | none => exact .inl rfl
  | some k => exact .inr (fun e2 => hne k hv e2.symm)
theorem gb_refl (w : World) (row : Option Nat) : w.grownBy w row := ⟨rfl, rfl, rfl, Nat.le_refl _, fun _ _ _ => rfl⟩
theorem gb_below {w a b : World} {row : Option Nat} (h : w.grownBy a row) (hb : Below a.heap.size a b) : w.grownBy b row :=
  ⟨hb.os.trans h.os, hb.tape.trans h.tape, hb.output.trans h.output, Nat.le_trans h.size hb.size, fun k hk hr => (hb.block k (Nat.lt_of_lt_of_le hk h.size)).trans (h.block k hk hr)⟩
theorem gb_set {w a : World} {B : Nat} (h : w.grownBy a (some B)) (i : Nat) (v : Value) : w.grownBy (a.setCell ⟨B, i, none⟩ v) (some B) :=
  ⟨h.os, h.tape, h.output, by simp; exact h.size, fun k hk hr => (Below.heap_setCell _ _ _ _ (by intro e; exact hr (by rw [e]))).trans (h.block k hk hr)⟩
theorem Below.drewN' {B : Nat} {a w : World} (h : Below B a w) (n : Nat) : Below B a (w.drewN n) := ⟨h.os, h.tape, h.output, h.size, h.block⟩
theorem le_alloc {B : Nat} {w : World} (h : B ≤ w.heap.size) (o : Obj) : B ≤ (w.alloc o).heap.size := by
  rw [World.size_alloc]; omega
end Go.Proofs.YtddnecljdecamaaGreatDoor
namespace Go.Proofs.YtddnecljdecamaaGreatDoor
open Go.ChangeShapes Go.WideShapes Go.ChangeAt Go.RowKit Go.Deep
set_option linter.unusedVariables false

def d10 (j : Nat) : ByteArray := strOfNums [48 + (j : Int) % 10]
theorem d10_size (j : Nat) : (d10 j).size = 1 := rfl
/-- The digits of k ahead of out. -/
def mtF : Nat → Nat → ByteArray → ByteArray
  | 0, _, out => out
  | fuel + 1, k, out => if k = 0 then out else mtF fuel (k / 10) (d10 k ++ out)
def markT (k : Nat) : ByteArray := (⟨#[109]⟩ : ByteArray) ++ mtF (k + 1) k ⟨#[]⟩
theorem mtF_step (fuel k : Nat) (out : ByteArray) (h : 0 < k) : mtF (fuel + 1) k out = mtF fuel (k / 10) (d10 k ++ out) := by
  show (if k = 0 then out else _) = _
  rw [if_neg (by omega)]
theorem mtF_zero (fuel : Nat) (out : ByteArray) : mtF fuel 0 out = out := by
  cases fuel <;> rfl
theorem conv_digit (wr : World) (j : Nat) : (convert 22 9 (.slice (some ⟨wr.heap.size, 0, none⟩) 1 1)).run Tryz.prog (wr.alloc (.cells #[.int .u8 (48 + (j : Int) % 10)] 5)) = .ok (.string (d10 j)) (wr.alloc (.cells #[.int .u8 (48 + (j : Int) % 10)] 5)) :=
  run_convert_bytes_arg (P := Tryz.prog) _ 22 5 Tryz.underlying22 Tryz.underlying5 wr.heap.size 0 1 1 [48 + (j : Int) % 10] rfl (fun i hi => by
    have hi0 : i = 0 := by omega
    subst hi0
    rw [World.cell?_alloc_at _ _ _ _ rfl]; rfl) 9 Tryz.underlying9

end Go.Proofs.YtddnecljdecamaaGreatDoor
namespace Go.Proofs.YtddnecljdecamaaGreatDoor
open Go.ChangeShapes Go.WideShapes Go.ChangeAt Go.RowKit Go.Deep
set_option linter.unusedVariables false

theorem run_make_rows {P : Program} (t e : TypeId) (z : Value) (s bytes n : Nat) (ht : P.underlying t = some (.slice e)) (hinfo : (P.info? e).map (fun i => (i.zero, i.size, i.bytes)) = some (some z, s, bytes)) (hb : bytes ≤ 64) (hn : n ≤ 1048576) (w : World) :
    (Instr.makeSlice t (.int .i64 (n : Int)) (.int .i64 (n : Int))).run P w = .ok (.slice (some ⟨w.heap.size, 0, none⟩) n n) (w.alloc (.cells (madeCells z.cells (n * s)) e)) := by
  obtain ⟨i, hi, hzz⟩ := Option.map_eq_some_iff.1 hinfo
  simp only [Prod.mk.injEq] at hzz
  obtain ⟨hz, hs, hby⟩ := hzz
  have hm : bytes * n ≤ 64 * 1048576 := Nat.mul_le_mul hb hn
  have hm' : (i.bytes : Int) * (n : Int) ≤ 281474976710656 := by
    rw [hby]
    have h : ((bytes * n : Nat) : Int) ≤ 281474976710656 := by omega
    rwa [Int.natCast_mul] at h
  have hr := run_make (P := P) w t e i z ht hi hz .i64 .i64 n n (by omega) (Int.le_refl _) hm' (by omega)
  simp only [Int.toNat_natCast, hs] at hr
  exact hr
theorem fill_all {xs zs : List Value} {k : Nat} (hx : xs.length = k) (hz : zs.length = k) : xs.take k ++ zs.drop k = xs := by
  rw [List.take_of_length_le (by omega), List.drop_of_length_le (by omega), List.append_nil]
theorem infoS : (Tryz.prog.info? 9).map (fun i => (i.zero, i.size, i.bytes)) = some (some (.string ⟨#[]⟩), 1, 16) := by kernel_rfl
theorem infoI : (Tryz.prog.info? 3).map (fun i => (i.zero, i.size, i.bytes)) = some (some (.int .i64 0), 1, 8) := by kernel_rfl
theorem run_make_S (n : Nat) (hn : n ≤ 1048576) (w : World) : (Instr.makeSlice 40 (.int .i64 (n : Int)) (.int .i64 (n : Int))).run Tryz.prog w = .ok (.slice (some ⟨w.heap.size, 0, none⟩) n n) (w.alloc (.cells (madeCells #[.string ⟨#[]⟩] (n * 1)) 9)) :=
  run_make_rows 40 9 (.string ⟨#[]⟩) 1 16 n Tryz.underlying40 infoS (by omega) hn w
theorem run_make_I (n : Nat) (hn : n ≤ 1048576) (w : World) : (Instr.makeSlice 45 (.int .i64 (n : Int)) (.int .i64 (n : Int))).run Tryz.prog w = .ok (.slice (some ⟨w.heap.size, 0, none⟩) n n) (w.alloc (.cells (madeCells #[.int .i64 0] (n * 1)) 3)) :=
  run_make_rows 45 3 (.int .i64 0) 1 8 n Tryz.underlying45 infoI (by omega) hn w

end Go.Proofs.YtddnecljdecamaaGreatDoor
namespace Go.Proofs.YtddnecljdecamaaGreatDoor
open Go.ChangeShapes Go.WideShapes Go.ChangeAt Go.RowKit Go.Deep
set_option linter.unusedVariables false

def mkS (k n : Nat) : List ByteArray := (List.range n).map fun i => markT (k + i)
def mkI (k n : Nat) : List Int := (List.range n).map fun i => ((k + i : Nat) : Int)
theorem mkS_length (k n : Nat) : (mkS k n).length = n := by simp [mkS]
theorem mkI_length (k n : Nat) : (mkI k n).length = n := by simp [mkI]
theorem mkS_get (k n i : Nat) (h : i < n) : (mkS k n).getD i e0 = markT (k + i) := by
  rw [List.getD_eq_getElem?_getD]; simp [mkS, h]
theorem mkI_get (k n i : Nat) (h : i < n) : (mkI k n).getD i 0 = ((k + i : Nat) : Int) := by
  rw [List.getD_eq_getElem?_getD]; simp [mkI, h]

end Go.Proofs.YtddnecljdecamaaGreatDoor
