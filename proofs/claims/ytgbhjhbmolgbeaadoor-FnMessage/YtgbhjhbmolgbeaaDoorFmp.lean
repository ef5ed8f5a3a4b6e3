
/-
  Drawn messages, bytes alone: what is laid down is read back. By an AI agent.
-/
import Derived.Test.YtgbhjhbmolgbeaaDoorSrp
namespace Go.Proofs.YtgbhjhbmolgbeaaDoor
open Go.RowKit Go.Lib
set_option linter.unusedVariables false

theorem findIdx_at (p : UInt8 → Bool) (x : UInt8) (b : List UInt8) (hx : p x = true) : ∀ a : List UInt8, (∀ y ∈ a, p y = false) → (a ++ x :: b).findIdx p = a.length
  | [], _ => by simp [List.findIdx_cons, hx]
  | y :: a, h => by
    have h1 := findIdx_at p x b hx a (fun z hz => h z (List.mem_cons_of_mem _ hz))
    have h2 := h y (List.mem_cons_self ..)
    rw [List.cons_append, List.findIdx_cons, h2, h1]
    rfl
def nL (f : MFl) : List UInt8 := f.1.data.toList
def vL (f : MFl) : List UInt8 := f.2.data.toList
theorem fldB_parts {f : MFl} (h : fldB f = true) : nameB f.1 = true ∧ valB f.2 = true := by
  unfold fldB at h
  simp only [Bool.and_eq_true] at h
  exact ⟨h.1, h.2.2⟩
theorem name_bytes {f : MFl} (h : fldB f = true) : ∀ y ∈ nL f, nmB y = true := by
  have h1 := (fldB_parts h).1
  unfold nameB nmFrom at h1
  simp only [Bool.and_eq_true, List.drop_zero, List.all_eq_true] at h1
  exact h1.2
theorem val_bytes {f : MFl} (h : fldB f = true) : ∀ y ∈ vL f, vlB y = true := by
  have h1 := (fldB_parts h).2
  unfold valB vlFrom at h1
  simp only [Bool.and_eq_true, List.drop_zero, List.all_eq_true] at h1
  exact h1.1
theorem nm_not {y : UInt8} (h : nmB y = true) : (y == 10) = false ∧ (y == 58) = false := by
  constructor
  · cases e : y == 10 with
    | false => rfl
    | true => rw [beq_iff_eq] at e; subst e; exact absurd h (by decide)
  · cases e : y == 58 with
    | false => rfl
    | true => rw [beq_iff_eq] at e; subst e; exact absurd h (by decide)
theorem vl_not {y : UInt8} (h : vlB y = true) : (y == 10) = false := by
  cases e : y == 10 with
  | false => rfl
  | true => rw [beq_iff_eq] at e; subst e; exact absurd h (by decide)
theorem bsOf_self (x : ByteArray) : bsOf x.data.toList = x := by
  cases x; simp [bsOf]
theorem bytes_app (a b : ByteArray) : (a ++ b).data.toList = a.data.toList ++ b.data.toList := by simp
def lnL (f : MFl) : List UInt8 := nL f ++ 58 :: 32 :: vL f
theorem lineT_list (f : MFl) : (lineT f).data.toList = lnL f ++ [10] := by
  unfold lineT lnL nL vL
  rw [bytes_app, bytes_app, bytes_app]
  simp
theorem fieldS_line {f : MFl} (h : fldB f = true) : fieldS (lnL f) = some f := by
  have hc : cl (lnL f) = (nL f).length := findIdx_at _ 58 _ (by decide) _ (fun y hy => (nm_not (name_bytes h y hy)).2)
  have hk : cl (lnL f) + 1 < (lnL f).length := by rw [hc]; unfold lnL; simp
  have hb : (lnL f).getD (cl (lnL f) + 1) 0 = 32 := by
    rw [hc]; unfold lnL
    rw [List.getD_eq_getElem?_getD, List.getElem?_append_right (by omega)]
    simp
  have ht : (lnL f).take (cl (lnL f)) = nL f := by rw [hc]; unfold lnL; simp
  have hd : (lnL f).drop (cl (lnL f) + 2) = vL f := by
    rw [hc]; unfold lnL
    rw [List.drop_append]
    simp
  unfold fieldS
  rw [ht, hd]
  have e1 : bsOf (nL f) = f.1 := bsOf_self _
  have e2 : bsOf (vL f) = f.2 := bsOf_self _
  rw [e1, e2, if_pos ⟨hk, hb, (fldB_parts h).1, (fldB_parts h).2⟩]
theorem parS_line {f : MFl} (h : fldB f = true) (n : Nat) (rest : List UInt8) (acc : List MFl) : parS (n + 1) (lnL f ++ 10 :: rest) acc = parS n rest (acc ++ [f]) := by
  have hn : nl (lnL f ++ 10 :: rest) = (lnL f).length := findIdx_at _ 10 _ (by decide) _ (fun y hy => by
    unfold lnL at hy
    rw [List.mem_append] at hy
    rcases hy with hy | hy
    · exact (nm_not (name_bytes h y hy)).1
    · simp only [List.mem_cons] at hy
      rcases hy with rfl | rfl | hy
      · decide
      · decide
      · exact vl_not (val_bytes h y hy))
  have hp : 0 < (lnL f).length := by unfold lnL; simp; omega
  rw [parS]
  rw [if_neg (by rw [hn]; simp), if_neg (by rw [hn]; omega)]
  have ht : (lnL f ++ 10 :: rest).take (nl (lnL f ++ 10 :: rest)) = lnL f := by rw [hn]; simp
  have hd : (lnL f ++ 10 :: rest).drop (nl (lnL f ++ 10 :: rest) + 1) = rest := by rw [hn, List.drop_append]; simp
  rw [ht, hd, fieldS_line h]
theorem parS_all : ∀ (F : List MFl) (n : Nat) (rest : List UInt8) (acc : List MFl), F.all fldB = true → F.length ≤ n → parS n (F.flatMap (fun f => lnL f ++ [10]) ++ rest) acc = parS (n - F.length) rest (acc ++ F)
  | [], n, rest, acc, _, _ => by simp
  | f :: F, n, rest, acc, h, hn => by
    simp only [List.all_cons, Bool.and_eq_true] at h
    obtain ⟨m, rfl⟩ : ∃ m, n = m + 1 := ⟨n - 1, by simp at hn; omega⟩
    simp only [List.length_cons] at hn
    rw [List.flatMap_cons, List.append_assoc, List.append_assoc, List.singleton_append, parS_line h.1, parS_all F m rest _ h.2 (by omega), List.append_assoc]
    simp
theorem headT_list (F : List MFl) : (headT F).data.toList = F.flatMap (fun f => lnL f ++ [10]) := by
  suffices ∀ (F : List MFl) (t : ByteArray), (F.foldl (fun t f => t ++ lineT f) t).data.toList = t.data.toList ++ F.flatMap (fun f => lnL f ++ [10]) by
    have := this F ⟨#[]⟩
    unfold headT
    rw [this]; simp
  intro F
  induction F with
  | nil => intro t; simp
  | cons f F ih =>
    intro t
    rw [List.foldl_cons, ih, bytes_app, lineT_list, List.flatMap_cons, List.append_assoc]
def msgT (F : List MFl) (Y : ByteArray) : ByteArray := headT F ++ (⟨#[10]⟩ ++ Y)
theorem msgT_list (F : List MFl) (Y : ByteArray) : (msgT F Y).data.toList = F.flatMap (fun f => lnL f ++ [10]) ++ 10 :: Y.data.toList := by
  unfold msgT
  rw [bytes_app, bytes_app, headT_list]
  simp
theorem lines_long (F : List MFl) : F.length ≤ (F.flatMap (fun f => lnL f ++ [10])).length := by
  induction F with
  | nil => simp
  | cons f F ih => rw [List.flatMap_cons, List.length_append, List.length_append, List.length_cons, List.length_cons]; omega
theorem parse_msgT (F : List MFl) (Y : ByteArray) (h : F.all fldB = true) (h8 : F.length ≤ 8) : parse (msgT F Y).data.toList = some ⟨F, Y⟩ := by
  unfold parse
  have hl := lines_long F
  rw [msgT_list, parS_all F _ _ _ h (by simp only [List.length_append, List.length_cons]; omega)]
  obtain ⟨m, hm⟩ : ∃ m, (F.flatMap (fun f => lnL f ++ [10]) ++ 10 :: Y.data.toList).length + 1 - F.length = m + 1 := ⟨(F.flatMap (fun f => lnL f ++ [10]) ++ 10 :: Y.data.toList).length - F.length, by simp only [List.length_append, List.length_cons]; omega⟩
  rw [hm, parS]
  have hn : nl (10 :: Y.data.toList) = 0 := by simp [nl, List.findIdx_cons]
  rw [hn, if_neg (by simp), if_pos rfl, List.nil_append, if_pos h8]
  simp [bsOf_self]
/-- Drawn names, values, bodies. -/
def nmL : List ByteArray := [⟨#[83, 117, 98, 106, 101, 99, 116]⟩, ⟨#[70, 114, 111, 109]⟩, ⟨#[88, 45, 89]⟩, ⟨#[115, 117, 98, 106, 101, 99, 116]⟩]
def vlL : List ByteArray := [⟨#[]⟩, ⟨#[111, 110, 101]⟩, ⟨#[97, 58, 32, 98]⟩, ⟨#[116, 119, 111, 32, 119, 111, 114, 100, 115]⟩]
def bdL : List ByteArray := [⟨#[]⟩, ⟨#[98, 111, 100, 121]⟩, ⟨#[116, 119, 111, 10, 108, 105, 110, 101, 115]⟩, ⟨#[58]⟩]
def drawnF (F : List MFl) : Prop := ∀ f ∈ F, f.1 ∈ nmL ∧ f.2 ∈ vlL
def drawnM (F : List MFl) (Y : ByteArray) : Prop := F.length ≤ 2 ∧ drawnF F ∧ Y ∈ bdL
theorem drawn_fld {f : MFl} (h1 : f.1 ∈ nmL) (h2 : f.2 ∈ vlL) : fldB f = true := by
  obtain ⟨a, b⟩ := f
  simp only at h1 h2
  unfold fldB
  have e1 : nameB a = true := by
    simp only [nmL, List.mem_cons, List.not_mem_nil, or_false] at h1
    rcases h1 with rfl | rfl | rfl | rfl <;> decide
  have e2 : (decide (b.size ≤ 85) && valB b) = true := by
    simp only [vlL, List.mem_cons, List.not_mem_nil, or_false] at h2
    rcases h2 with rfl | rfl | rfl | rfl <;> decide
  simp only
  rw [e1, e2]; rfl
theorem drawn_all {F : List MFl} (h : drawnF F) : F.all fldB = true := by
  rw [List.all_eq_true]
  exact fun f hf => drawn_fld (h f hf).1 (h f hf).2
theorem drawn_small {f : MFl} (h1 : f.1 ∈ nmL) (h2 : f.2 ∈ vlL) : f.1.size ≤ 7 ∧ f.2.size ≤ 9 := by
  obtain ⟨a, b⟩ := f
  simp only at h1 h2 ⊢
  constructor
  · simp only [nmL, List.mem_cons, List.not_mem_nil, or_false] at h1
    rcases h1 with rfl | rfl | rfl | rfl <;> decide
  · simp only [vlL, List.mem_cons, List.not_mem_nil, or_false] at h2
    rcases h2 with rfl | rfl | rfl | rfl <;> decide
theorem body_small {Y : ByteArray} (h : Y ∈ bdL) : Y.size ≤ 9 := by
  simp only [bdL, List.mem_cons, List.not_mem_nil, or_false] at h
  rcases h with rfl | rfl | rfl | rfl <;> decide
theorem head_small {F : List MFl} (h : drawnF F) : (headT F).size ≤ 19 * F.length := by
  suffices ∀ (F : List MFl) (t : ByteArray), drawnF F → (F.foldl (fun t f => t ++ lineT f) t).size ≤ t.size + 19 * F.length by
    have := this F ⟨#[]⟩ h
    have e : (⟨#[]⟩ : ByteArray).size = 0 := rfl
    unfold headT
    omega
  intro F
  induction F with
  | nil => intro t _; simp
  | cons f F ih =>
    intro t h
    have h1 := ih (t ++ lineT f) (fun g hg => h g (List.mem_cons_of_mem _ hg))
    have h2 := h f (List.mem_cons_self ..)
    have h3 := drawn_small h2.1 h2.2
    rw [size_app, lineT_size] at h1
    simp only [List.foldl_cons, List.length_cons]
    omega
theorem msgT_small {F : List MFl} {Y : ByteArray} (h : drawnM F Y) : (msgT F Y).size ≤ 85 := by
  unfold msgT
  rw [size_app, size_app]
  have h1 := head_small h.2.1
  have h2 := body_small h.2.2
  have h3 := h.1
  have e : (⟨#[10]⟩ : ByteArray).size = 1 := rfl
  omega
theorem textA_drawn {F : List MFl} {Y : ByteArray} (h : drawnM F Y) : textA F Y = (msgT F Y, 0) := by
  unfold textA
  have h2 := body_small h.2.2
  have h3 := h.1
  have hf : fitsB F Y = true := by
    unfold fitsB
    rw [drawn_all h.2.1, decide_eq_true (by omega : F.length ≤ 8), decide_eq_true (by omega : Y.size ≤ 85)]
    rfl
  rw [if_pos hf]
  show (if (msgT F Y).size ≤ 85 then (msgT F Y, (0 : Int)) else _) = _
  rw [if_pos (msgT_small h)]
theorem msgA_drawn {F : List MFl} {Y : ByteArray} (h : drawnM F Y) : msgA (msgT F Y).data.toList = (⟨F, Y⟩, 0) := by
  have hs := msgT_small h
  have hl : (msgT F Y).data.toList.length ≤ 85 := by simpa using hs
  have h3 := h.1
  unfold msgA msgL
  rw [if_neg (by omega), if_neg (by omega), parse_msgT F Y (drawn_all h.2.1) (by omega)]
theorem fofA_own {F : List MFl} {Y : ByteArray} (h : drawnM F Y) (f : MFl) (hf : f ∈ F) : ∃ v, fofA (msgT F Y).data.toList f.1 = (v, 0) := by
  have h2 := drawn_small (h.2.1 f hf).1 (h.2.1 f hf).2
  unfold fofA
  rw [if_neg (by omega), msgA_drawn h]
  simp only [if_true]
  have : (findF F f.1).isSome = true := by
    unfold findF
    rw [List.find?_isSome]
    exact ⟨f, hf, by simp [sameN]⟩
  obtain ⟨g, hg⟩ := Option.isSome_iff_exists.1 this
  rw [hg]
  exact ⟨_, rfl⟩
def nowB : ByteArray := ⟨#[78, 111, 119, 104, 101, 114, 101]⟩
theorem fofA_none {F : List MFl} {Y : ByteArray} (h : drawnM F Y) : fofA (msgT F Y).data.toList nowB = (⟨#[]⟩, 5) := by
  unfold fofA
  rw [if_neg (by decide), msgA_drawn h]
  simp only [if_true]
  have : findF F nowB = none := by
    unfold findF
    rw [List.find?_eq_none]
    intro f hf
    have h1 := (h.2.1 f hf).1
    obtain ⟨a, b⟩ := f
    simp only [nmL, List.mem_cons, List.not_mem_nil, or_false] at h1
    unfold sameN
    simp only
    rcases h1 with rfl | rfl | rfl | rfl <;> decide
  rw [this]
theorem contains_tail (a b : List UInt8) : contains (a ++ b) b = true := by
  unfold contains
  rcases index_spec (a ++ b) b with ⟨h1, h2⟩ | ⟨i, h1, _⟩
  · have h3 := h2 a.length (by simp)
    unfold occAt at h3
    rw [List.drop_append_of_le_length (Nat.le_refl _), List.drop_length, List.nil_append] at h3
    rw [List.isPrefixOf_iff_prefix.2 (List.prefix_refl b)] at h3
    cases h3
  · rw [h1]; simp
theorem srch_body {F : List MFl} {Y : ByteArray} (h : drawnM F Y) : srchA [(7, 0, msgT F Y)] ⟨#[]⟩ Y = ([7], 0) := by
  have hs := msgT_small h
  have h2 := body_small h.2.2
  unfold srchA
  have e0 : (⟨#[]⟩ : ByteArray).size = 0 := rfl
  have hY : contains (lowL (msgT F Y)) (lowL Y) = true := by
    have e : lowL (msgT F Y) = (F.flatMap (fun f => lnL f ++ [10]) ++ [10]).map lowB ++ lowL Y := by
      unfold lowL
      rw [msgT_list]
      simp
    rw [e]
    exact contains_tail _ _
  have hh : hit ⟨#[]⟩ Y (7, 0, msgT F Y) = true := by
    unfold hit textOf
    rw [if_pos e0]
    exact hY
  rw [if_neg (by rw [e0]; simp; omega), if_neg (by simp), if_neg (by simp [longM]; omega)]
  simp [hh]
theorem srch_one {F : List MFl} {Y : ByteArray} (nm wd : ByteArray) (h : drawnM F Y) (h1 : nm.size ≤ 100) (h2 : wd.size ≤ 100) : ∃ K, srchA [(7, 0, msgT F Y)] nm wd = (K, 0) := by
  have hs := msgT_small h
  unfold srchA
  rw [if_neg (by simp; omega), if_neg (by simp), if_neg (by simp [longM]; omega)]
  exact ⟨_, rfl⟩
end Go.Proofs.YtgbhjhbmolgbeaaDoor
