
/-
  Messages, bytes alone: names, values, blanks at the ends, texts. By an AI agent.
-/
import Derived.Test.YtgbhjhbmolgbeaaDoorListsf
import Derived.Lib.TrimByte
namespace Go.Proofs.YtgbhjhbmolgbeaaDoor
open Go.RowKit
set_option linter.unusedVariables false

def letB (c : Int) : Bool := (decide (97 ≤ c) && decide (c ≤ 122)) || (decide (65 ≤ c) && decide (c ≤ 90)) || c == 95
def nmB (c : UInt8) : Bool := letB c.toNat || c.toNat == 45
def nmFrom (s : ByteArray) (k : Nat) : Bool := (s.data.toList.drop k).all nmB
def nameB (s : ByteArray) : Bool := decide (1 ≤ s.size) && decide (s.size ≤ 12) && nmFrom s 0
def vlB (c : UInt8) : Bool := decide (32 ≤ c.toNat) && decide (c.toNat ≤ 126)
def vlFrom (s : ByteArray) (k : Nat) : Bool := (s.data.toList.drop k).all vlB
def endsL (l : List UInt8) : Bool := l.isEmpty || (!(l.headD 0 == 32) && !(l.getLastD 0 == 32))
def valB (s : ByteArray) : Bool := vlFrom s 0 && endsL s.data.toList

theorem nmFrom_step (s : ByteArray) (k : Nat) (h : k < s.size) : nmFrom s k = (nmB s[k] && nmFrom s (k + 1)) := by
  unfold nmFrom
  rw [List.drop_eq_getElem_cons (by simpa using h)]
  rfl
theorem nmFrom_end (s : ByteArray) (k : Nat) (h : s.size ≤ k) : nmFrom s k = true := by
  unfold nmFrom
  rw [List.drop_of_length_le (by simpa using h)]
  rfl
theorem vlFrom_step (s : ByteArray) (k : Nat) (h : k < s.size) : vlFrom s k = (vlB s[k] && vlFrom s (k + 1)) := by
  unfold vlFrom
  rw [List.drop_eq_getElem_cons (by simpa using h)]
  rfl
theorem vlFrom_end (s : ByteArray) (k : Nat) (h : s.size ≤ k) : vlFrom s k = true := by
  unfold vlFrom
  rw [List.drop_of_length_le (by simpa using h)]
  rfl
theorem dw_len (l : List UInt8) (p : UInt8 → Bool) : (l.dropWhile p).length ≤ l.length := (List.dropWhile_suffix p).length_le
theorem trimR_len (l : List UInt8) (c : UInt8) : (Lib.trimRightB l c).length ≤ l.length := by
  unfold Lib.trimRightB
  have := dw_len l.reverse (· == c)
  simpa using this
theorem trimL_len (l : List UInt8) (c : UInt8) : (Lib.trimLeftB l c).length ≤ l.length := by
  unfold Lib.trimLeftB
  exact dw_len _ _
theorem trimL_same (l : List UInt8) (c : UInt8) : Lib.trimLeftB l c = l ↔ (l = [] ∨ l.headD 0 ≠ c) := by
  unfold Lib.trimLeftB
  cases l with
  | nil => simp
  | cons a l =>
    by_cases h : a = c
    · subst h
      have := dw_len l (· == a)
      simp
      intro e
      have := congrArg List.length e
      simp at this
      omega
    · simp [h]
theorem trimR_same (l : List UInt8) (c : UInt8) : Lib.trimRightB l c = l ↔ (l = [] ∨ l.getLastD 0 ≠ c) := by
  have h := trimL_same l.reverse c
  unfold Lib.trimLeftB at h
  unfold Lib.trimRightB
  have e : (l.reverse.dropWhile (· == c)).reverse = l ↔ l.reverse.dropWhile (· == c) = l.reverse := by
    constructor
    · intro e; have := congrArg List.reverse e; simpa using this
    · intro e; rw [e]; simp
  rw [e, h]
  have h2 : l.reverse.headD 0 = l.getLastD 0 := by
    rw [List.headD_eq_head?_getD, List.head?_reverse, List.getLastD_eq_getLast?]
  rw [h2]
  simp
theorem trim_same (l : List UInt8) : (Lib.trimB l 32 = l) ↔ endsL l = true := by
  unfold Lib.trimB endsL
  cases hl : l with
  | nil => simp [Lib.trimRightB, Lib.trimLeftB]
  | cons a r =>
    rw [← hl]
    have hne : l ≠ [] := by rw [hl]; simp
    have hi : l.isEmpty = false := by rw [hl]; rfl
    rw [hi]
    simp only [Bool.false_or, Bool.and_eq_true, Bool.not_eq_true', beq_eq_false_iff_ne]
    constructor
    · intro h
      have h1 := trimR_len l 32
      have h2 := trimL_len (Lib.trimRightB l 32) 32
      rw [h] at h2
      have hR : Lib.trimRightB l 32 = l := by
        have hp : (Lib.trimRightB l 32).length = l.length := by omega
        unfold Lib.trimRightB at hp ⊢
        have hs : l.reverse.dropWhile (· == (32 : UInt8)) <:+ l.reverse := List.dropWhile_suffix _
        have := hs.eq_of_length (by simpa using hp)
        rw [this]; simp
      rw [hR] at h
      rcases (trimL_same l 32).1 h with h | h
      · exact absurd h hne
      · rcases (trimR_same l 32).1 hR with h' | h'
        · exact absurd h' hne
        · exact ⟨h, h'⟩
    · rintro ⟨h1, h2⟩
      rw [(trimR_same l 32).2 (.inr h2), (trimL_same l 32).2 (.inr h1)]
def lineT (f : MFl) : ByteArray := ((f.1 ++ ⟨#[58, 32]⟩) ++ f.2) ++ ⟨#[10]⟩
def headT (L : List MFl) : ByteArray := L.foldl (fun t f => t ++ lineT f) ⟨#[]⟩
def fldB (f : MFl) : Bool := nameB f.1 && (decide (f.2.size ≤ 85) && valB f.2)
def fitsB (L : List MFl) (body : ByteArray) : Bool := decide (L.length ≤ 8) && decide (body.size ≤ 85) && L.all fldB
def textA (L : List MFl) (body : ByteArray) : ByteArray × Int :=
  if fitsB L body then (let t := headT L ++ (⟨#[10]⟩ ++ body); if t.size ≤ 85 then (t, 0) else (⟨#[]⟩, 7)) else (⟨#[]⟩, 1)
theorem headT_snoc (L : List MFl) (f : MFl) : headT (L ++ [f]) = headT L ++ lineT f := by simp [headT]
theorem headT_take (L : List MFl) (k : Nat) (h : k < L.length) : headT (L.take (k + 1)) = headT (L.take k) ++ lineT (L.getD k fl0) := by
  rw [List.take_succ_eq_append_getElem h, headT_snoc, List.getD_eq_getElem?_getD, List.getElem?_eq_getElem h]
  rfl
theorem all_take_snoc (L : List MFl) (k : Nat) (h : k < L.length) : (L.take (k + 1)).all fldB = ((L.take k).all fldB && fldB (L.getD k fl0)) := by
  rw [List.take_succ_eq_append_getElem h, List.all_append, List.getD_eq_getElem?_getD, List.getElem?_eq_getElem h]
  simp
theorem all_take_false (L : List MFl) (k : Nat) (h : k < L.length) (hf : fldB (L.getD k fl0) = false) : L.all fldB = false := by
  rw [List.all_eq_false]
  refine ⟨L[k], List.getElem_mem h, ?_⟩
  rw [List.getD_eq_getElem?_getD, List.getElem?_eq_getElem h] at hf
  simpa using hf
theorem size_app (a b : ByteArray) : (a ++ b).size = a.size + b.size := ByteArray.size_append
theorem lineT_size (f : MFl) : (lineT f).size = f.1.size + f.2.size + 3 := by
  unfold lineT
  rw [size_app, size_app, size_app]
  show f.1.size + 2 + f.2.size + 1 = _
  omega
theorem headT_size (L : List MFl) (h : L.all fldB = true) : (headT L).size ≤ 100 * L.length := by
  suffices ∀ (L : List MFl) (t : ByteArray), L.all fldB = true → (L.foldl (fun t f => t ++ lineT f) t).size ≤ t.size + 100 * L.length by
    have := this L ⟨#[]⟩ h
    have e : (⟨#[]⟩ : ByteArray).size = 0 := rfl
    unfold headT
    omega
  intro L
  induction L with
  | nil => intro t _; simp
  | cons f L ih =>
    intro t h
    simp only [List.all_cons, Bool.and_eq_true] at h
    have h1 := ih (t ++ lineT f) h.2
    have h2 := h.1
    unfold fldB nameB at h2
    simp only [Bool.and_eq_true, decide_eq_true_eq] at h2
    rw [size_app, lineT_size] at h1
    simp only [List.foldl_cons, List.length_cons]
    omega
end Go.Proofs.YtgbhjhbmolgbeaaDoor
