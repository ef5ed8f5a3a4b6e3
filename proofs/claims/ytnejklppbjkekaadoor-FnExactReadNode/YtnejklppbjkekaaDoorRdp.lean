
/-
  Fields are read back, and what is read is written as it was. By an AI agent.
-/
import Derived.Test.YtnejklppbjkekaaDoorRfl
import Derived.Test.YtnejklppbjkekaaDoorRdh
import Derived.Test.YtnejklppbjkekaaDoorFlds3
namespace Go.Proofs.YtnejklppbjkekaaDoor
open Go.ChangeShapes Go.WideShapes Go.ChangeAt Go.RowKit Go.Deep
set_option linter.unusedVariables false

theorem getD_mid (A F R : List Nat) (i : Nat) (h : i < F.length) : (A ++ (F ++ R)).getD (A.length + i) 0 = F.getD i 0 := by
  rw [List.getD_eq_getElem?_getD, List.getD_eq_getElem?_getD, List.getElem?_append_right (by omega), Nat.add_sub_cancel_left, List.getElem?_append_left h]
theorem fieldsB_split (L : List ByteArray) (k : Nat) (h : k < L.length) : fieldsB L = ltk L k ++ (fieldB (L.getD k e0) ++ (L.drop (k + 1)).flatMap fieldB) := by
  unfold fieldsB ltk
  rw [List.cons_append]
  congr 1
  have e1 : L = L.take k ++ (L.getD k e0 :: L.drop (k + 1)) := by
    rw [List.getD_eq_getElem?_getD, List.getElem?_eq_getElem h]
    show L = L.take k ++ (L[k] :: L.drop (k + 1))
    rw [← List.drop_eq_getElem_cons h, List.take_append_drop]
  conv => lhs; rw [e1]
  rw [List.flatMap_append, List.flatMap_cons]
/-- What was written is read. -/
theorem rd_back (L : List ByteArray) (hs : ∀ s ∈ L, s.size ≤ 300) : ∀ k, k ≤ L.length → rdSt (fieldsB L) k = some (L.take k, (ltk L k).length)
  | 0, _ => by simp [rdSt, ltk]
  | k + 1, hk => by
    have ih := rd_back L hs k (by omega)
    obtain ⟨s, hsk⟩ : ∃ s, L.getD k e0 = s := ⟨_, rfl⟩
    have h300 : s.size ≤ 300 := by
      rw [← hsk, List.getD_eq_getElem?_getD, List.getElem?_eq_getElem (by omega)]
      exact hs _ (List.getElem_mem _)
    have sp := fieldsB_split L k (by omega)
    rw [hsk] at sp
    have fl : (fieldB s).length = 2 + s.size := fieldB_length s
    have g0 := getD_mid (ltk L k) (fieldB s) ((L.drop (k + 1)).flatMap fieldB) 0 (by omega)
    have g1 := getD_mid (ltk L k) (fieldB s) ((L.drop (k + 1)).flatMap fieldB) 1 (by omega)
    rw [← sp] at g0 g1
    have f0 : (fieldB s).getD 0 0 = s.size / 256 % 256 := rfl
    have f1 : (fieldB s).getD 1 0 = s.size % 256 := rfl
    have hz : szAt (fieldsB L) (ltk L k).length = s.size := by
      unfold szAt
      rw [show (ltk L k).length = (ltk L k).length + 0 from rfl, g0, Nat.add_zero, g1, f0, f1]
      omega
    have hlen : (fieldsB L).length = (ltk L k).length + (2 + s.size) + ((L.drop (k + 1)).flatMap fieldB).length := by
      rw [sp, List.length_append, List.length_append, fl]; omega
    have hsub : sub (fieldsB L) ((ltk L k).length + 2) s.size = s := by
      unfold sub
      have e2 : (fieldsB L).drop ((ltk L k).length + 2) = bytesOf s ++ (L.drop (k + 1)).flatMap fieldB := by
        rw [sp, ← List.drop_drop, List.drop_left]
        rfl
      rw [e2, List.take_left' (by rw [bytesOf_length]), strB_bytes]
    rw [rd_more ih (by omega) (by rw [hz]; omega) (by rw [hz]; omega), hz, hsub]
    have e3 : L.take (k + 1) = L.take k ++ [s] := by
      rw [List.take_succ_eq_append_getElem (by omega), ← hsk, List.getD_eq_getElem?_getD, List.getElem?_eq_getElem (by omega)]; rfl
    have e4 : (ltk L (k + 1)).length = (ltk L k).length + 2 + s.size := by
      rw [ltk_snoc L k s (by omega) hsk, List.length_append, fl]; omega
    rw [e3, e4]
theorem rf_back (L : List ByteArray) (hn : L.length ≤ 200) (hs : ∀ s ∈ L, s.size ≤ 300) (hb : (fieldsB L).length ≤ 65536) : rfA (fieldsB L) = (L, 0) := by
  have h0 : (fieldsB L).getD 0 0 = L.length := by show L.length % 256 = L.length; omega
  have h1 := rd_back L hs L.length (Nat.le_refl _)
  rw [List.take_length, ltk_all] at h1
  unfold rfA cutA
  have hne : ¬ ((fieldsB L).length = 0 ∨ 200 < (fieldsB L).getD 0 0) := by
    rintro (h | h)
    · simp [fieldsB] at h
    · rw [h0] at h; omega
  rw [if_neg (by omega), if_neg hne, h0, h1]
  simp
/-- What was read is written as it was. -/
theorem rd_take {B : List Nat} (h8 : ∀ x ∈ B, x < 256) (hB : 0 < B.length) : ∀ {k p : Nat} {l : List ByteArray}, rdSt B k = some (l, p) → p ≤ B.length ∧ B.take p = B.getD 0 0 :: l.flatMap fieldB ∧ ∀ s ∈ l, s.size ≤ 300
  | 0, p, l, h => by
    simp [rdSt] at h
    obtain ⟨rfl, rfl⟩ := h
    refine ⟨hB, ?_, fun s hs => by cases hs⟩
    match B, hB with
    | x :: B, _ => rfl
  | k + 1, p, l, h => by
    cases hk : rdSt B k with
    | none => simp [rdSt, hk] at h
    | some lp =>
      obtain ⟨l', p'⟩ := lp
      obtain ⟨i1, i2, i3⟩ := rd_take h8 hB hk
      simp only [rdSt, hk] at h
      split at h
      · cases h
      split at h
      · cases h
      split at h
      · cases h
      rename_i q1 q2 q3
      simp only [Option.some.injEq, Prod.mk.injEq] at h
      obtain ⟨rfl, rfl⟩ := h
      have b0 : B.getD p' 0 < 256 := by
        rw [List.getD_eq_getElem?_getD, List.getElem?_eq_getElem (by omega)]; exact h8 _ (List.getElem_mem _)
      have b1 : B.getD (p' + 1) 0 < 256 := by
        rw [List.getD_eq_getElem?_getD, List.getElem?_eq_getElem (by omega)]; exact h8 _ (List.getElem_mem _)
      obtain ⟨z, hz⟩ : ∃ z, szAt B p' = z := ⟨_, rfl⟩
      have hz2 : B.getD p' 0 * 256 + B.getD (p' + 1) 0 = z := hz
      rw [hz] at q2 q3 ⊢
      have hl8 : ∀ x ∈ (B.drop (p' + 2)).take z, x < 256 := fun x hx => h8 x (List.mem_of_mem_drop (List.mem_of_mem_take hx))
      have hf : fieldB (sub B (p' + 2) z) = (B.drop p').take (2 + z) := by
        unfold fieldB sub
        rw [bytes_strB _ hl8, strB_size, List.length_take, List.length_drop, Nat.min_eq_left (by omega)]
        have e1 : (B.drop p').take (2 + z) = (B.drop p').take 2 ++ ((B.drop p').drop 2).take z := by rw [List.take_add]
        rw [e1, take_two B p' (by omega), List.drop_drop]
        congr 1
        unfold numB
        rw [show z / 256 % 256 = B.getD p' 0 from by omega, show z % 256 = B.getD (p' + 1) 0 from by omega]
      refine ⟨by omega, ?_, fun s hs => ?_⟩
      · rw [List.flatMap_append, ← List.cons_append, ← i2]
        have e2 : [sub B (p' + 2) z].flatMap fieldB = (B.drop p').take (2 + z) := by rw [← hf]; simp
        rw [e2, Nat.add_assoc, List.take_add]
      · rw [List.mem_append] at hs
        rcases hs with hs | hs
        · exact i3 s hs
        · simp at hs
          subst hs
          unfold sub
          rw [strB_size, List.length_take]
          omega
theorem rf_same {B : List Nat} {L : List ByteArray} (h8 : ∀ x ∈ B, x < 256) (h : rfA B = (L, 0)) : L.length ≤ 200 ∧ (∀ s ∈ L, s.size ≤ 300) ∧ fieldsB L = B := by
  unfold rfA cutA at h
  by_cases h1 : 65536 < B.length
  · rw [if_pos h1] at h; simp at h
  rw [if_neg h1] at h
  by_cases h2 : B.length = 0 ∨ 200 < B.getD 0 0
  · rw [if_pos h2] at h; simp at h
  rw [if_neg h2] at h
  cases hk : rdSt B (B.getD 0 0) with
  | none => rw [hk] at h; simp at h
  | some lp =>
    obtain ⟨l, p⟩ := lp
    rw [hk] at h
    simp only at h
    by_cases hp : p = B.length
    · rw [if_pos hp] at h
      simp only [Prod.mk.injEq, and_true] at h
      subst h
      obtain ⟨i1, i2, i3⟩ := rd_take h8 (by omega) hk
      have hl := rd_len hk
      refine ⟨by omega, i3, ?_⟩
      rw [hp, List.take_length] at i2
      unfold fieldsB
      rw [hl, Nat.mod_eq_of_lt (by omega)]
      exact i2.symm
    · rw [if_neg hp] at h; simp at h
end Go.Proofs.YtnejklppbjkekaaDoor
