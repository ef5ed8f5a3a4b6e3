
/-
  The sum of pairs: fieldsOf, sumOf and PairsSum of the program, l06Sum and PairsSum of the specification. By an AI agent.
-/
import Derived.Test.YtlkobhighhkmoaaDoorSeal
import Derived.Test.YtlkobhighhkmoaaDoorFlds3
import Derived.Test.YtlkobhighhkmoaaDoorPairsOKi
import Derived.Deep.RegionHeld3
namespace Go.Proofs.YtlkobhighhkmoaaDoor
open Go.ChangeShapes Go.WideShapes Go.ChangeAt Go.RowKit Go.Deep
set_option linter.unusedVariables false
set_option linter.unusedSimpArgs false
set_option maxRecDepth 100000

/-- The fields of pairs, one behind the other. -/
def fsP (L : List PM) : List Nat := L.flatMap fun p => fieldsB [p.1, p.2]
theorem fsP_snoc {L : List PM} {k : Nat} {x y : ByteArray} (hk : k < L.length) (h : L.getD k p0 = (x, y)) : fsP (L.take (k + 1)) = fsP (L.take k) ++ fieldsB [x, y] := by
  rw [List.getD_eq_getElem?_getD, List.getElem?_eq_getElem hk] at h
  have h2 : L[k] = (x, y) := h
  rw [List.take_succ_eq_append_getElem hk, h2]
  simp [fsP]
theorem two_len (x y : ByteArray) : (fieldsB [x, y]).length = 5 + x.size + y.size := by
  unfold fieldsB
  simp [fieldB_length]; omega
theorem fsP_len (L : List PM) (k : Nat) (hs : ∀ p ∈ L, p.1.size ≤ 90 ∧ p.2.size ≤ 90) : (fsP (L.take k)).length ≤ k * 185 := by
  induction k with
  | zero => simp [fsP]
  | succ k ih =>
    by_cases hk : k < L.length
    · rw [fsP_snoc (x := (L.getD k p0).1) (y := (L.getD k p0).2) hk rfl, List.length_append, two_len]
      have h9 := hs _ (mem_getD L p0 k hk)
      omega
    · rw [List.take_of_length_le (by omega)] at ih ⊢
      omega
theorem fieldsB_ltP (L : List ByteArray) : ∀ x ∈ fieldsB L, x < 256 := by
  intro x hx
  unfold fieldsB at hx
  rw [List.mem_cons] at hx
  rcases hx with rfl | hx
  · omega
  · rw [List.mem_flatMap] at hx
    obtain ⟨s, _, hs⟩ := hx
    unfold fieldB numB bytesOf at hs
    simp at hs
    rcases hs with rfl | rfl | ⟨b, _, rfl⟩
    · omega
    · omega
    · exact b.toNat_lt
theorem fsP_lt (L : List PM) : ∀ x ∈ fsP L, x < 256 := by
  intro x hx
  unfold fsP at hx
  rw [List.mem_flatMap] at hx
  obtain ⟨p, _, h⟩ := hx
  exact fieldsB_ltP _ x h
theorem src_2S {w : World} {s t : ByteArray} {B ty : Nat} (hB : B = w.heap.size) : Src (w.alloc (.cells #[.string s, .string t] ty)) (some ⟨B, 0, none⟩) (cellsS [s, t]) := by
  have hb : Box (w.alloc (.cells #[.string s, .string t] ty)) B [.string s, .string t] := Box.new hB
  refine .inr ⟨B, 0, rfl, fun j hj => ?_⟩
  have hj4 : j < 2 := hj
  rw [Nat.zero_add]
  match j, hj4 with
  | 0, _ => exact (hb 0 _ rfl).1
  | 1, _ => exact (hb 1 _ rfl).1
theorem pairsB_fit {M : List PM} (h : pairsB (fK M) (fV M) M.length = true) : M.length ≤ 60 ∧ ∀ p ∈ M, p.1.size ≤ 90 ∧ p.2.size ≤ 90 := by
  unfold pairsB at h
  rw [Bool.and_eq_true, decide_eq_true_eq, List.all_eq_true] at h
  refine ⟨h.1, fun p hp => ?_⟩
  obtain ⟨i, hi, rfl⟩ := List.getElem_of_mem hp
  have h2 := h.2 i (List.mem_range.2 hi)
  unfold goodB fitB keyB at h2
  simp only [Bool.and_eq_true, decide_eq_true_eq, fK, fV, List.getD_eq_getElem?_getD, List.getElem?_eq_getElem hi, Option.getD_some] at h2
  omega
/-- What PairsSum answers. -/
def psA (M : List PM) : Nat × Int := if 4096 < M.length then (0, 2) else if pairsB (fK M) (fV M) M.length = false then (0, 1) else (sumL (fsP M), 0)

theorem fieldsOf (a : Option Addr) (n c : Nat) (L : List ByteArray) (w : World) (hL : L.length = n) (hn : n ≤ 200) (hs : ∀ x ∈ L, x.size ≤ 300) (h : Src w a (cellsS L)) :
    Calls Tryd.prog 78 #[.slice a n c] w fun e w' => ∃ v, e = .returned v ∧ w'.ownsRow w.heap.size 5 1 v (fieldsB L).length (cellsB (fieldsB L)) ∧ Below w.heap.size w w' := by
  have E : Hid (fdsA L = (fieldsB L, 0)) := by
    show _ = _
    unfold fdsA
    rw [if_neg (by omega), if_neg (by omega), if_neg (by rintro ⟨x, hx, h9⟩; have := hs x hx; omega)]
  have HS : Hid (∀ x ∈ L, x.size ≤ 1048576) := fun x hx => by have := hs x hx; omega
  have HH : Hid (Src w a (cellsS L)) := h
  have HL : Hid (L.length = n) := hL
  clear hs h hL
  go_enter Tryd.func78, Tryd.ntmps78
  go_wp2_with fail
  refine (implFieldsBytes a n c L _ HL.out (by omega) HS.out HH.out).mono ?_
  rintro e w1 ⟨v, R, q, rfl, heq, own, hb⟩
  obtain ⟨rfl, rfl⟩ : fieldsB L = R ∧ 0 = q := by have h2 := E.out.symm.trans heq; simpa using h2
  obtain ⟨g, k, rfl, _, _⟩ := own_src own
  have O1 : Hid (w1.ownsRow w.heap.size 5 1 (.slice g (fieldsB L).length k) (fieldsB L).length (cellsB (fieldsB L))) := own
  have B1 : Hid (Below w.heap.size w w1) := hb
  obtain ⟨m, hm⟩ : ∃ m, (fieldsB L).length = m := ⟨_, rfl⟩
  rw [hm] at O1 ⊢
  have HM9 : Hid ((fieldsB L).length = m) := hm
  clear own hb heq hm
  go_wp2_with fail
  go_ret
  exact ⟨.slice g m k, rfl, by first | exact O1.out | (rw [HM9.out]; exact O1.out), B1.out⟩

end Go.Proofs.YtlkobhighhkmoaaDoor
