
/-
  How often a page is led to: lists alone. By an AI agent.
-/
import Derived.Test.YtmpaophegdeokaaTra
namespace Go.Proofs.Ytmpaophegdeokaa
open Go.ChangeShapes Go.WideShapes Go.ChangeAt Go.RowKit Go.Deep
set_option linter.unusedVariables false
set_option maxRecDepth 100000
theorem ok_kids {D : NM} (h : badN D = false) : ∀ x ∈ D.K, pageB x = true := by
  unfold badN at h
  rw [Bool.or_eq_false_iff] at h
  obtain ⟨hf, ho⟩ := h
  have ho' : okB D = true := by simpa using ho
  unfold okB at ho'
  rw [hf, Bool.false_or, Bool.or_eq_true] at ho'
  intro x hx
  obtain ⟨i, hi, rfl⟩ := List.getElem_of_mem hx
  rcases ho' with h | h
  · unfold leafB at h
    simp only [Bool.and_eq_true, decide_eq_true_eq] at h
    omega
  · unfold innerB kidsB at h
    simp only [Bool.and_eq_true, decide_eq_true_eq, List.all_eq_true] at h
    have h9 := h.2 i (List.mem_range.2 hi)
    unfold kidB at h9
    simp only [Bool.and_eq_true] at h9
    have e : D.K.getD i 0 = D.K[i] := by rw [List.getD_eq_getElem?_getD, List.getElem?_eq_getElem hi]; rfl
    rw [e] at h9
    exact h9.1.1
def nodS (H : List NM) (R : List Bool) : Prop := ∀ i, R.getD i false = true → badN (H.getD i nm0) = false
theorem set_getD {R : List Bool} {q i : Nat} (h : (R.set q true).getD i false = true) : i = q ∨ R.getD i false = true := by
  rw [List.getD_eq_getElem?_getD, List.getElem?_set] at h
  by_cases e : q = i
  · exact .inl e.symm
  · rw [if_neg e] at h
    exact .inr (by rw [List.getD_eq_getElem?_getD]; exact h)
theorem grow_nod {H : List NM} : ∀ (d : Nat) (q : Int) (s s' : St), growF H d q s = some s' → nodS H s.R → nodS H s'.R
  | 0, q, s, s', h, _ => by cases h
  | d + 1, q, s, s', h, hf => by
    obtain ⟨d', e, h1, h2, h3, h4⟩ := grow_some h
    cases e
    refine kids_ind (fun a b => nodS H a.R → nodS H b.R) (fun _ h => h) (fun _ _ _ h1 h2 h => h2 (h1 h)) (fun k a b hk ha => grow_nod d k a b hk ha) _ _ _ _ h4 (fun i hi => ?_)
    rcases set_getD hi with rfl | hi
    · exact h3
    · exact hf i hi
theorem nod0 (H : List NM) : nodS H st0.R := fun i hi => by
  exfalso
  have : st0.R.getD i false = false := by
    unfold st0
    rw [List.getD_eq_getElem?_getD, List.getElem?_replicate]
    split <;> rfl
  rw [this] at hi
  cases hi
theorem tree_nod {H : List NM} {root : Int} {s : St} (h : treeF H root = some s) : nodS H s.R ∧ s.R.length = 50 ∧ (root = -1 ∨ pageB root = true) := by
  unfold treeF at h
  by_cases h1 : H.length = 50
  · rw [if_pos h1] at h
    by_cases h2 : root = -1
    · rw [if_pos h2] at h
      cases h
      exact ⟨nod0 H, rfl, .inl h2⟩
    · rw [if_neg h2] at h
      cases h3 : growF H 21 root st0 with
      | none => rw [h3] at h; cases h
      | some s1 =>
        rw [h3] at h
        have h5 : (if pairsOf s1.P = true then some s1 else none) = some s := h
        by_cases h4 : pairsOf s1.P = true
        · rw [if_pos h4] at h5
          cases h5
          obtain ⟨d', _, hp, _⟩ := grow_some h3
          exact ⟨grow_nod 21 root st0 _ h3 (nod0 H), (grow_good 21 root st0 _ h3 good0).1, .inr hp⟩
        · rw [if_neg h4] at h5
          cases h5
  · rw [if_neg h1] at h
    cases h
theorem or_getD {A R : List Bool} {i : Nat} (hA : A.length = 50) (hR : R.length = 50) (h : (orB A R).getD i false = true) : A.getD i false = true ∨ R.getD i false = true := by
  by_cases hi : i < 50
  · rw [List.getD_eq_getElem?_getD, orB_get hA hR hi] at h
    simpa [Bool.or_eq_true] using h
  · rw [List.getD_eq_getElem?_getD, List.getElem?_eq_none (by rw [orB_length hA hR]; omega)] at h
    cases h
theorem all_nod {H : List NM} : ∀ (L : List Int) (A0 A : List Bool), allF H L A0 = some A → nodS H A0 → A0.length = 50 → nodS H A ∧ ∀ r ∈ L, r = -1 ∨ pageB r = true
  | [], A0, A, h, hn, _ => by cases h; exact ⟨hn, fun r hr => by cases hr⟩
  | r :: L, A0, A, h, hn, hl => by
    cases ht : treeF H r with
    | none =>
      have h2 : allF H (r :: L) A0 = none := by unfold allF; rw [ht]
      rw [h2] at h
      cases h
    | some s =>
      have h2 : allF H (r :: L) A0 = allF H L (orB A0 s.R) := by rw [allF, ht]
      rw [h2] at h
      obtain ⟨t1, t2, t3⟩ := tree_nod ht
      obtain ⟨u1, u2⟩ := all_nod L _ A h (fun i hi => (or_getD hl t2 hi).elim (hn i) (t1 i)) (orB_length hl t2)
      exact ⟨u1, fun x hx => by
        rcases List.mem_cons.1 hx with rfl | hx
        · exact t3
        · exact u2 x hx⟩
/-- How often each page is in a list. -/
def cntI (T : List Int) : List Int := (List.range 50).map fun j => ((T.count ((j : Nat) : Int) : Nat) : Int)
theorem cntI_length (T : List Int) : (cntI T).length = 50 := by simp [cntI]
theorem cntI_get (T : List Int) {j : Nat} (hj : j < 50) : (cntI T)[j]? = some ((T.count ((j : Nat) : Int) : Nat) : Int) := by
  unfold cntI
  rw [List.getElem?_map, List.getElem?_range hj]
  rfl
theorem cntI_bump (T : List Int) {x : Nat} (hx : x < 50) : (cntI T).set x ((T.count ((x : Nat) : Int) : Nat) + 1 : Int) = cntI (T ++ [(x : Int)]) := by
  apply List.ext_getElem?
  intro j
  rw [List.getElem?_set]
  by_cases hj : j < 50
  · by_cases e : x = j
    · subst e
      rw [if_pos rfl, if_pos (by rw [cntI_length]; exact hx), cntI_get _ hx, List.count_append]
      simp
    · rw [if_neg e, cntI_get _ hj, cntI_get _ hj, List.count_append]
      have : List.count ((j : Nat) : Int) [(x : Int)] = 0 := by
        rw [List.count_eq_zero]
        simp
        omega
      rw [this, Nat.add_zero]
  · rw [List.getElem?_eq_none (by rw [cntI_length]; omega), if_neg (by omega)]
    rw [List.getElem?_eq_none (by rw [cntI_length]; omega)]
theorem cntI_comm (T U : List Int) : cntI (T ++ U) = cntI (U ++ T) := by
  unfold cntI
  simp only [List.count_append, Nat.add_comm]
theorem nod_lt {H : List NM} {A : List Bool} {i : Nat} (hn : nodS H A) (h : A.getD i false = true) : i < H.length := by
  have h1 := hn i h
  by_cases e : i < H.length
  · exact e
  · rw [List.getD_eq_getElem?_getD, List.getElem?_eq_none (by omega)] at h1
    exact absurd h1 (by decide)
theorem bad_few {D : NM} (h : badN D = false) : D.K.length ≤ 4 := by
  unfold badN at h
  rw [Bool.or_eq_false_iff] at h
  obtain ⟨hf, ho⟩ := h
  have ho' : okB D = true := by simpa using ho
  unfold okB at ho'
  rw [hf, Bool.false_or, Bool.or_eq_true] at ho'
  rcases ho' with h | h
  · unfold leafB at h
    simp only [Bool.and_eq_true, decide_eq_true_eq] at h
    omega
  · unfold innerB at h
    simp only [Bool.and_eq_true, decide_eq_true_eq] at h
    omega
/-- The kids of the pages below i that are reached. -/
def kT (H : List NM) (A : List Bool) : Nat → List Int
  | 0 => []
  | i + 1 => kT H A i ++ (if A.getD i false = true then (H.getD i nm0).K else [])
theorem kT_le {H : List NM} {A : List Bool} (hn : nodS H A) : ∀ i, (kT H A i).length ≤ 4 * i
  | 0 => by simp [kT]
  | i + 1 => by
    have ih := kT_le hn i
    unfold kT
    rw [List.length_append]
    by_cases e : A.getD i false = true
    · rw [if_pos e]
      have := bad_few (hn i e)
      omega
    · rw [if_neg e]
      simp
      omega
/-- The roots ahead of i that are pages. -/
def rT (L : List Int) (i : Nat) : List Int := (L.take i).filter fun r => decide (0 ≤ r)
theorem rT_le (L : List Int) (i : Nat) : (rT L i).length ≤ i := by
  unfold rT
  refine Nat.le_trans (List.length_filter_le _ _) ?_
  simp
  omega
theorem rT_yes {L : List Int} {i : Nat} (h : i < L.length) (hr : 0 ≤ L.getD i 0) : rT L (i + 1) = rT L i ++ [L.getD i 0] := by
  unfold rT
  rw [List.take_succ_eq_append_getElem h, List.filter_append]
  have e : L.getD i 0 = L[i] := by rw [List.getD_eq_getElem?_getD, List.getElem?_eq_getElem h]; rfl
  rw [e] at hr ⊢
  simp [hr]
theorem rT_no {L : List Int} {i : Nat} (h : i < L.length) (hr : ¬ 0 ≤ L.getD i 0) : rT L (i + 1) = rT L i := by
  unfold rT
  rw [List.take_succ_eq_append_getElem h, List.filter_append]
  have e : L.getD i 0 = L[i] := by rw [List.getD_eq_getElem?_getD, List.getElem?_eq_getElem h]; rfl
  rw [e] at hr
  simp [hr]
/-- What CountRefs answers. -/
def refsA (H : List NM) (L : List Int) : List Int × Int := if 4096 < L.length then ([], 2) else if 20 < L.length then ([], 6) else match allF H L st0.R with
  | none => ([], 1)
  | some A => (cntI (rT L L.length ++ kT H A 50), 0)
/-- A row of counts. -/
theorem bump {w : World} {base B : Nat} {T : List Int} {x : Nat} (h : w.ownsRow base 3 1 (.slice (some ⟨B, 0, none⟩) 50 50) 50 (cellsI (cntI T))) (hx : x < 50) :
    w.cell? ⟨B, x, none⟩ = some (.int .i64 ((T.count ((x : Nat) : Int) : Nat) : Int)) ∧ w.frozen? ⟨B, x, none⟩ = false ∧ (w.setCell ⟨B, x, none⟩ (.int .i64 ((T.count ((x : Nat) : Int) : Nat) + 1 : Int))).ownsRow base 3 1 (.slice (some ⟨B, 0, none⟩) 50 50) 50 (cellsI (cntI (T ++ [(x : Int)]))) := by
  have hc : (cellsI (cntI T))[x]? = some (.int .i64 ((T.count ((x : Nat) : Int) : Nat) : Int)) := by
    unfold cellsI
    rw [List.getElem?_map, cntI_get T hx]; rfl
  obtain ⟨h1, h2⟩ := own_at h hc
  refine ⟨h1, h2, ?_⟩
  have h3 := own_set h x (by unfold cellsI; rw [List.length_map, cntI_length]; exact hx) (.int .i64 ((T.count ((x : Nat) : Int) : Nat) + 1 : Int))
  have e : (cellsI (cntI T)).set x (.int .i64 ((T.count ((x : Nat) : Int) : Nat) + 1 : Int)) = cellsI (cntI (T ++ [(x : Int)])) := by
    unfold cellsI
    rw [← List.map_set, cntI_bump T hx]
  rw [e] at h3
  exact h3
theorem run_make_I50 (w : World) : (Instr.makeSlice 38 (.int .i64 50) (.int .i64 50)).run Try.prog w = .ok (.slice (some ⟨w.heap.size, 0, none⟩) 50 50) (w.alloc (.cells (madeCells #[.int .i64 0] 50) 3)) :=
  run_make_big 38 3 (.int .i64 0) 1 8 50 Try.underlying38 infoI (by omega) (by omega) w
theorem own_zero (w : World) (base : Nat) (hb : base ≤ w.heap.size) : (w.alloc (.cells (madeCells #[.int .i64 0] 50) 3)).ownsRow base 3 1 (.slice (some ⟨w.heap.size, 0, none⟩) 50 50) 50 (cellsI (cntI [])) := by
  refine ⟨by simp [cellsI, cntI_length], .inr ⟨w.heap.size, 50, _, rfl, hb, heap_alloc_new _ _, Nat.le_refl _, by unfold maxLen; omega, by simp [size_madeCells], ?_⟩⟩
  kernel_rfl
end Go.Proofs.Ytmpaophegdeokaa
