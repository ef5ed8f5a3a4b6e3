/-
  Texts of the store, brought together: Fsm, Stp, Sto. By an AI agent.
-/
import Derived.Test.YtnnimocaanofjaaGreatDoorSr33
import Derived.Test.YtnnimocaanofjaaGreatDoorSq35
namespace Go.Proofs.YtnnimocaanofjaaGreatDoor
set_option linter.unusedSectionVars false
variable [DecidableEq NM]
open Go.ChangeShapes Go.WideShapes Go.ChangeAt Go.RowKit Go.Deep
set_option linter.unusedVariables false
set_option linter.unusedSimpArgs false
set_option maxRecDepth 100000
theorem sealB_length (L : List Nat) : (sealB L).length = L.length + 4 := by unfold sealB; rw [List.length_append]; rfl
theorem body_seal (L : List Nat) : bodyB (sealB L) = L := by
  unfold bodyB
  rw [sealB_length, Nat.add_sub_cancel]
  unfold sealB
  exact List.take_left
theorem sealed_seal (L : List Nat) : sealedB (sealB L) = true := by
  unfold sealedB
  rw [body_seal, Bool.and_eq_true, decide_eq_true_eq, decide_eq_true_eq, sealB_length]
  exact ⟨by omega, rfl⟩
theorem snap_back {x : SN} (h1 : -1 ≤ x.2.1) (h2 : x.2.1 ≤ 49) (h3 : 0 ≤ x.2.2) (h4 : x.2.2 ≤ 60000) : snapOf (snapF x) = x := by
  have hb : bytesOf (snapF x) = snapH x ++ bytesOf x.1 := by
    unfold snapF
    have h9 : bytesOf (strB (snapH x) ++ x.1) = bytesOf (strB (snapH x)) ++ bytesOf x.1 := by unfold bytesOf; simp
    rw [h9, bytes_strB]
    intro y hy
    unfold snapH at hy
    simp at hy
    omega
  have he : (snapF x).extract 3 (snapF x).size = x.1 := by
    have hs : (strB (snapH x)).size = 3 := by rw [strB_size]; rfl
    unfold snapF
    exact ByteArray.extract_append_eq_right hs.symm ByteArray.size_append
  unfold snapOf
  rw [he, hb]
  have e0 : (snapH x ++ bytesOf x.1).getD 0 0 = (x.2.1 + 1).toNat % 256 := rfl
  have e1 : (snapH x ++ bytesOf x.1).getD 1 0 = x.2.2.toNat / 256 % 256 := rfl
  have e2 : (snapH x ++ bytesOf x.1).getD 2 0 = x.2.2.toNat % 256 := rfl
  rw [e0, e1, e2]
  obtain ⟨a, b, c⟩ := x
  simp only at h1 h2 h3 h4 ⊢
  refine Prod.ext rfl (Prod.ext ?_ ?_)
  · show (((b + 1).toNat % 256 : Nat) : Int) - 1 = b
    omega
  · show ((c.toNat / 256 % 256 * 256 + c.toNat % 256 : Nat) : Int) = c
    omega
theorem superL_lt {D : UM} : ∀ z ∈ superL D, z < 256 := by
  intro z hz
  unfold superL at hz
  simp only [List.mem_cons] at hz
  rcases hz with h | h | h | h
  · omega
  · omega
  · omega
  · exact fieldsB_lt _ z h
theorem super_len {D : UM} (h : okU D = true) : (superL D).length ≤ 60 ∧ 4 ≤ (superL D).length := by
  have hf := okU_facts h
  have hS : ∀ x ∈ D.S, x.1.size ≤ 8 := fun x hx => by
    obtain ⟨i, hi, rfl⟩ := List.getElem_of_mem hx
    have h1 := (hf.2.2.2.2.2 i hi).1
    rw [List.getD_eq_getElem?_getD, List.getElem?_eq_getElem hi] at h1
    exact h1
  have h2 : ∀ M : List SN, (∀ x ∈ M, x.1.size ≤ 8) → ((M.map snapF).flatMap fieldB).length ≤ M.length * 13 := by
    intro M
    induction M with
    | nil => intro _; simp
    | cons x M ih =>
      intro hM
      have h3 := ih fun y hy => hM y (List.mem_cons_of_mem _ hy)
      have h4 := hM x (List.mem_cons_self ..)
      rw [List.map_cons, List.flatMap_cons, List.length_append, List.length_cons]
      have h5 : (fieldB (snapF x)).length = 2 + (snapF x).size := by unfold fieldB numB; rw [List.length_append, bytesOf_length]; rfl
      rw [snapF_size] at h5
      omega
  have h6 := h2 D.S hS
  have h7 := hf.2.2.2.2.1
  unfold superL fieldsB
  simp only [List.length_cons]
  omega
theorem super_back {D : UM} (h : okU D = true) : superA (superL D) = some D := by
  have hf := okU_facts h
  have hl := super_len h
  have hd : (superL D).drop 3 = fieldsB (D.S.map snapF) := rfl
  have hr : rfA (fieldsB (D.S.map snapF)) = (D.S.map snapF, 0) := by
    refine rf_back _ (by rw [List.length_map]; omega) (snapF_all h) ?_
    have h9 : (superL D).length = 3 + (fieldsB (D.S.map snapF)).length := by unfold superL; simp only [List.length_cons]; omega
    omega
  have hm : (D.S.map snapF).map snapOf = D.S := by
    rw [List.map_map]
    conv => rhs; rw [← List.map_id D.S]
    refine List.map_congr_left fun x hx => ?_
    obtain ⟨i, hi, rfl⟩ := List.getElem_of_mem hx
    have h1 := (hf.2.2.2.2.2 i hi).2
    rw [List.getD_eq_getElem?_getD, List.getElem?_eq_getElem hi] at h1
    exact snap_back h1.1 h1.2.1 h1.2.2.1 h1.2.2.2
  unfold superA
  rw [hd, hr, if_neg, if_neg (by simp), if_neg, hm]
  · have e1 : (superL D).getD 1 0 = D.G.toNat % 256 := rfl
    have e2 : (superL D).getD 2 0 = (D.R + 1).toNat % 256 := rfl
    rw [e1, e2]
    congr 1
    obtain ⟨G, R, S⟩ := D
    simp only at hf ⊢
    congr 1
    · omega
    · omega
  · rintro ⟨f, hf2, hlt⟩
    obtain ⟨x, _, rfl⟩ := List.mem_map.1 hf2
    rw [snapF_size] at hlt
    omega
  · rintro (h9 | h9)
    · omega
    · exact h9 rfl
theorem readU_back {D : UM} (h : okU D = true) : readU (sealB (superL D)) = (D, 0) := by
  have hl := super_len h
  unfold readU
  rw [if_neg (by rw [sealB_length]; omega), if_neg (by rw [sealed_seal]; decide), superR_some (sealed_seal _) (by rw [body_seal]; exact super_back h) h]
def diskK (D : DM) : Prop := okD D ∧ D.S.length = 52 ∧ D.C.length = 0
theorem store_closed {D : DM} {U : UM} {H : List NM} (h : ¬ diskK D) : storeB D U H = false := by
  unfold storeB openM
  rw [if_pos]
  by_cases h1 : okD D
  · by_cases h2 : D.S.length = 52
    · refine .inr (.inr ?_)
      by_cases h3 : D.C.length = 0
      · exact absurd ⟨h1, h2, h3⟩ h
      · omega
    · exact .inr (.inl h2)
  · exact .inl h1
theorem sup_of {D : DM} (h : diskK D) (j : Nat) : supAt D j = superR (bytesOf (D.S.getD j e0)) := by
  have hC : D.C = [] := List.length_eq_zero_iff.1 h.2.2
  unfold supAt
  rw [hC]
  rfl
theorem page_of {D : DM} (h : diskK D) (k : Nat) : pageAt D k = nodeR (bytesOf (D.S.getD (2 + k) e0)) := by
  have hC : D.C = [] := List.length_eq_zero_iff.1 h.2.2
  unfold pageAt
  rw [hC]
  rfl
theorem getD_take (S : List ByteArray) (n j : Nat) (h : j < n) : (S.take n).getD j e0 = S.getD j e0 := by
  rw [List.getD_eq_getElem?_getD, List.getElem?_take, if_pos h, List.getD_eq_getElem?_getD]
theorem new_of {D : DM} (h : diskK D) : newTo (D.S.take 2) 2 = newestM (supAt D 0) (supAt D 1) := by
  rw [sup_of h, sup_of h]
  show newestM (newestM none (superR (bytesOf ((D.S.take 2).getD 0 e0)))) (superR (bytesOf ((D.S.take 2).getD 1 e0))) = _
  rw [getD_take _ _ _ (by omega), getD_take _ _ _ (by omega), newest_b rfl]
theorem superR_ok {B : List Nat} {U : UM} (h : superR B = some U) : okU U = true := by
  unfold superR at h
  split at h
  · split at h
    · cases h
    · split at h
      · cases h; assumption
      · cases h
  · cases h
theorem new_ok {D : DM} {X : UM} (h : diskK D) (hX : newestM (supAt D 0) (supAt D 1) = some X) : okU X = true := by
  rw [sup_of h, sup_of h] at hX
  rcases newest_one hX with h1 | h1 <;> exact superR_ok h1
theorem store_none {D : DM} {U : UM} {H : List NM} (h : diskK D) (hX : newestM (supAt D 0) (supAt D 1) = none) : storeB D U H = false := by
  unfold storeB openM
  rw [if_neg (by rintro (h1 | h1 | h1); exact h1 h.1; exact h1 h.2.1; have := h.2.2; omega), new_of h, hX]
theorem store_some {D : DM} {U X : UM} {H : List NM} (h : diskK D) (hX : newestM (supAt D 0) (supAt D 1) = some X) : storeB D U H = match allF (pagesM (D.S.drop 2)) (rootsU X) st0.R with
    | none => false
    | some A => X.G == U.G && (X.R == U.R && (decide (X.S = U.S) && decide (keepH A (pagesM (D.S.drop 2)) = H))) := by
  unfold storeB openM
  rw [if_neg (by rintro (h1 | h1 | h1); exact h1 h.1; exact h1 h.2.1; have := h.2.2; omega), new_of h, hX]
  simp only
  cases allF (pagesM (D.S.drop 2)) (rootsU X) st0.R <;> rfl
theorem um_ext {X U : UM} (h1 : X.G = U.G) (h2 : X.R = U.R) (h3 : X.S = U.S) : X = U := by
  cases X; cases U; simp only at h1 h2 h3; rw [h1, h2, h3]
theorem store_other {D : DM} {U X : UM} {H : List NM} (h : diskK D) (hX : newestM (supAt D 0) (supAt D 1) = some X) (hne : X ≠ U) : storeB D U H = false := by
  rw [store_some h hX]
  split
  · rfl
  · by_cases h1 : X.G = U.G
    · by_cases h2 : X.R = U.R
      · by_cases h3 : X.S = U.S
        · exact absurd (um_ext h1 h2 h3) hne
        · rw [decide_eq_false h3]; simp
      · have : (X.R == U.R) = false := by simpa using h2
        rw [this]; simp
    · have : (X.G == U.G) = false := by simpa using h1
      rw [this]; simp
theorem store_bad {D : DM} {U : UM} {H : List NM} (hU : okU U = false) : storeB D U H = false := by
  by_cases h : diskK D
  · cases hX : newestM (supAt D 0) (supAt D 1) with
    | none => exact store_none h hX
    | some X =>
      refine store_other h hX (fun e => ?_)
      have := new_ok h hX
      rw [e, hU] at this
      cases this
  · exact store_closed h
theorem store_same {D : DM} {U : UM} {H : List NM} (h : diskK D) (hX : newestM (supAt D 0) (supAt D 1) = some U) : storeB D U H = match allF (pagesM (D.S.drop 2)) (rootsU U) st0.R with
    | none => false
    | some A => decide (keepH A (pagesM (D.S.drop 2)) = H) := by
  rw [store_some h hX]
  split
  · rfl
  · simp
theorem bytes_same {X U : UM} (hX : okU X = true) (hU : okU U = true) (h : sealB (superL X) = sealB (superL U)) : X = U := by
  have h1 := readU_back hX
  rw [h, readU_back hU] at h1
  simp only [Prod.mk.injEq, and_true] at h1
  exact h1.symm
theorem roots_ok {U : UM} (h : okU U = true) : ∀ r ∈ rootsU U, r = -1 ∨ pageB r = true := by
  have key : ∀ r, rootB r = true → r = -1 ∨ pageB r = true := fun r hr => by
    unfold rootB at hr
    unfold pageB
    rw [decide_eq_true_eq] at hr ⊢
    omega
  unfold okU at h
  simp only [Bool.and_eq_true] at h
  intro r hr
  unfold rootsU at hr
  rcases List.mem_cons.1 hr with rfl | hr
  · exact key _ h.1.1.2
  · rw [List.mem_map] at hr
    obtain ⟨x, hx, rfl⟩ := hr
    obtain ⟨i, hi, rfl⟩ := List.getElem_of_mem hx
    have h9 := h.2
    unfold snapsB at h9
    rw [List.all_eq_true] at h9
    have h8 := h9 i (List.mem_range.2 hi)
    unfold snapB at h8
    simp only [Bool.and_eq_true] at h8
    have h7 := h8.1.1.2
    rw [List.getD_eq_getElem?_getD, List.getElem?_eq_getElem hi] at h7
    exact key _ h7
theorem okU_len {U : UM} (h : okU U = true) : U.S.length ≤ 4 := by
  unfold okU at h
  simp only [Bool.and_eq_true, decide_eq_true_eq] at h
  exact h.1.2
theorem read_getD {B : List Nat} (h1 : ¬ 65536 < B.length) : (readN B).1 = (nodeR B).getD nm0 := by
  cases h2 : sealedB B with
  | true =>
    rw [readN_R h1 h2]
    cases nodeR B <;> rfl
  | false =>
    unfold readN nodeR
    rw [if_neg h1, if_pos h2, if_neg (by rw [h2]; decide)]
    rfl
theorem size_of {D : DM} (h : diskK D) (j : Nat) (hj : j < 52) : (D.S.getD j e0).size ≤ 420 := by
  have hC : D.C = [] := List.length_eq_zero_iff.1 h.2.2
  have h9 := last_size h.1 (j := j) (by rw [h.2.1]; exact hj)
  rw [hC] at h9
  exact h9
theorem allG_pages {D : DM} (h : diskK D) : allG (pageAt D) = pagesM (D.S.drop 2) := by
  apply List.ext_getElem?
  intro i
  unfold allG pagesM
  rw [List.getElem?_map, List.getElem?_map, List.getElem?_drop]
  by_cases hi : i < 50
  · rw [List.getElem?_range hi, List.getElem?_eq_getElem (by rw [h.2.1]; omega)]
    simp only [Option.map_some]
    have e1 : D.S.getD (2 + i) e0 = D.S[2 + i]'(by rw [h.2.1]; omega) := by rw [List.getD_eq_getElem?_getD, List.getElem?_eq_getElem (by rw [h.2.1]; omega)]; rfl
    have h9 := size_of h (2 + i) (by omega)
    rw [page_of h, e1, read_getD]
    rw [bytesOf_length, ← e1]
    omega
  · rw [List.getElem?_eq_none (by simp; omega), List.getElem?_eq_none (by rw [h.2.1]; omega)]
    rfl
theorem load_case {D : DM} {U : UM} {w' : World} {v : Value} {b : Bool} (h : diskK D) (hU : okU U = true) (hp : LoadPost (pageAt D) (rootsU U) w' v b) :
    ∃ a c, v = .agg #[.slice a 50 c] ∧ ((b = true ∧ ∃ A, allF (pagesM (D.S.drop 2)) (rootsU U) st0.R = some A ∧ A.length = 50 ∧ ReadsHL w' a (keepH A (pagesM (D.S.drop 2)))) ∨ (b = false ∧ allF (pagesM (D.S.drop 2)) (rootsU U) st0.R = none)) := by
  obtain ⟨a, c, rfl, hc⟩ := hp
  refine ⟨a, c, rfl, ?_⟩
  have hr := roots_ok hU
  have hG : ∀ i E, pageAt D i = some E → ∀ k ∈ E.K, k < 50 := fun i E hE k hk => by
    have h1 := page_nat ((nodeR_facts hE).2.2 k hk)
    omega
  have hag := allG_pages h
  rcases hc with ⟨rfl, Hs, A, h1, h2, h3, h4, h5⟩ | ⟨rfl, h1⟩
  · have h6 := load_no hr hG h1 h3
    have h7 := (load_yes hr h6 (Nat.le_refl _)).1
    have h8 : some Hs = some (keepH A (allG (pageAt D))) := h1.symm.trans h7
    cases h8
    rw [hag] at h6 h5
    exact .inl ⟨rfl, A, h6, h4, h5⟩
  · refine .inr ⟨rfl, ?_⟩
    cases hA : allF (pagesM (D.S.drop 2)) (rootsU U) st0.R with
    | none => rfl
    | some A =>
      rw [← hag] at hA
      obtain ⟨h7, h8⟩ := load_yes hr hA (Nat.le_refl _)
      have h7' : loadF (pageAt D) (250 + (rootsU U).length) (rootsU U) freshH = some (keepH A (allG (pageAt D))) := h7
      rcases h1 with h1 | ⟨Hs, h1, h2⟩
      · rw [h7'] at h1; cases h1
      · rw [h7'] at h1
        cases h1
        rw [h8] at h2
        cases h2
theorem keep_lenN {D : DM} {A : List Bool} (h : diskK D) : (∀ N ∈ keepH A (pagesM (D.S.drop 2)), lenN N) := keep_lens (fun x hx => by
  obtain ⟨i, hi, rfl⟩ := List.getElem_of_mem (List.mem_of_mem_drop hx)
  have h9 := size_of h i (by rw [h.2.1] at hi; exact hi)
  rw [List.getD_eq_getElem?_getD, List.getElem?_eq_getElem hi] at h9
  have h8 : D.S[i].size ≤ 420 := h9
  omega)
def ReadsS (w : World) (v : Value) (D : DM) (U : UM) (H : List NM) : Prop := ∃ v1 v2 v3 v4 v5, v = .agg #[v1, v2, .bool D.A, v3, .int .i64 U.G, .int .i64 U.R, v4, v5] ∧ ReadsD w (.agg #[v1, v2, .bool D.A, v3]) D ∧ ReadsU w (.agg #[.int .i64 U.G, .int .i64 U.R, v4]) U ∧ ReadsH w (.agg #[v5]) H
theorem ReadsS.below {w w' : World} {v : Value} {D : DM} {U : UM} {H : List NM} (h : ReadsS w v D U H) (hb : Below w.heap.size w w') : ReadsS w' v D U H := by
  obtain ⟨x1, x2, x3, x4, x5, rfl, h1, h2, h3⟩ := h
  exact ⟨x1, x2, x3, x4, x5, rfl, h1.below hb, h2.below hb, h3.below hb⟩
def OwnsS (w : World) (lo hi : Nat) (v : Value) (D : DM) (U : UM) (H : List NM) : Prop :=
  ∃ v1 v2 v3 v4 v5 l1 h1 l2 h2 l3 h3, v = .agg #[v1, v2, .bool D.A, v3, .int .i64 U.G, .int .i64 U.R, v4, v5] ∧ OwnsD w l1 h1 (.agg #[v1, v2, .bool D.A, v3]) D ∧ OwnsU w l2 h2 (.agg #[.int .i64 U.G, .int .i64 U.R, v4]) U ∧ OwnsH w l3 h3 (.agg #[v5]) H ∧ (lo ≤ l1 ∧ lo ≤ l2 ∧ lo ≤ l3 ∧ h1 ≤ hi ∧ h2 ≤ hi ∧ h3 ≤ hi) ∧ (h1 ≤ l2 ∨ h2 ≤ l1) ∧ (h1 ≤ l3 ∨ h3 ≤ l1) ∧ (h2 ≤ l3 ∨ h3 ≤ l2)
theorem OwnsS.reads {w : World} {lo hi : Nat} {v : Value} {D : DM} {U : UM} {H : List NM} (h : OwnsS w lo hi v D U H) : ReadsS w v D U H := by
  obtain ⟨x1, x2, x3, x4, x5, l1, h1, l2, h2, l3, h3, rfl, a, b, c, _⟩ := h
  exact ⟨x1, x2, x3, x4, x5, rfl, a.reads, b.reads, c.reads⟩
theorem OwnsS.below {w w' : World} {lo hi : Nat} {v : Value} {D : DM} {U : UM} {H : List NM} (h : OwnsS w lo hi v D U H) (hb : Below w.heap.size w w') : OwnsS w' lo hi v D U H := by
  obtain ⟨x1, x2, x3, x4, x5, l1, h1, l2, h2, l3, h3, rfl, a, b, c, r⟩ := h
  exact ⟨x1, x2, x3, x4, x5, l1, h1, l2, h2, l3, h3, rfl, a.below hb, b.below hb, c.below hb, r⟩
theorem OwnsS.drew {w : World} {lo hi : Nat} {v : Value} {D : DM} {U : UM} {H : List NM} (h : OwnsS w lo hi v D U H) : OwnsS w.drew lo hi v D U H := by
  obtain ⟨x1, x2, x3, x4, x5, l1, h1, l2, h2, l3, h3, rfl, a, b, c, r⟩ := h
  exact ⟨x1, x2, x3, x4, x5, l1, h1, l2, h2, l3, h3, rfl, a.drew, b.drew, c.drew, r⟩
theorem disk_lit {w : World} {v1 v2 v3 : Value} {A : Bool} {D : DM} (h : ReadsD w (.agg #[v1, v2, .bool A, v3]) D) : ∃ a1 c1 a2 c2 a3 c3, v1 = .slice a1 D.S.length c1 ∧ v2 = .slice a2 D.C.length c2 ∧ v3 = .slice a3 D.K.length c3 ∧ A = D.A := by
  obtain ⟨a1, c1, a2, c2, a3, c3, e, _⟩ := h
  injection e with e
  simp only [Array.mk.injEq, List.cons.injEq, Value.bool.injEq, and_true] at e
  obtain ⟨rfl, rfl, rfl, rfl⟩ := e
  exact ⟨a1, c1, a2, c2, a3, c3, rfl, rfl, rfl, rfl⟩
theorem super_lit {w : World} {v4 : Value} {G R : Int} {U : UM} (h : ReadsU w (.agg #[.int .i64 G, .int .i64 R, v4]) U) : ∃ a c, v4 = .slice a U.S.length c := by
  obtain ⟨a, c, e, _⟩ := h
  injection e with e
  simp only [Array.mk.injEq, List.cons.injEq, and_true] at e
  exact ⟨a, c, e.2.2⟩
theorem heap_lit {w : World} {v5 : Value} {H : List NM} (h : ReadsH w (.agg #[v5]) H) : ∃ a c, v5 = .slice a H.length c := by
  obtain ⟨a, c, e, _⟩ := h
  injection e with e
  simp only [Array.mk.injEq, List.cons.injEq, and_true] at e
  exact ⟨a, c, e⟩
theorem OwnsS.lit {w : World} {lo hi : Nat} {v : Value} {D : DM} {U : UM} {H : List NM} (h : OwnsS w lo hi v D U H) : ∃ a1 c1 a2 c2 a3 c3 a4 c4 a5 c5, v = .agg #[.slice a1 D.S.length c1, .slice a2 D.C.length c2, .bool D.A, .slice a3 D.K.length c3, .int .i64 U.G, .int .i64 U.R, .slice a4 U.S.length c4, .slice a5 H.length c5] := by
  obtain ⟨x1, x2, x3, x4, x5, rfl, a, b, c⟩ := h.reads
  obtain ⟨a1, c1, a2, c2, a3, c3, rfl, rfl, rfl, _⟩ := disk_lit a
  obtain ⟨a4, c4, rfl⟩ := super_lit b
  obtain ⟨a5, c5, rfl⟩ := heap_lit c
  exact ⟨a1, c1, a2, c2, a3, c3, a4, c4, a5, c5, rfl⟩
theorem Turned.wide {lo hi lo' hi' : Nat} {w w' : World} (h : Turned lo hi w w') (h1 : lo' ≤ lo) (h2 : hi ≤ hi') : Turned lo' hi' w w' := ⟨h.os, h.tape, h.output, h.size, fun k hk hr => h.block k hk (by omega)⟩
def k2S (D : DM) (k : Nat) : Nat := endD D k
def k3S (D : DM) (U : UM) (k : Nat) : Nat := endD D k + U.S.length * 3
def endS (D : DM) (U : UM) (H : List NM) (k : Nat) : Nat := endH H (k3S D U k)
theorem cast_own {w : World} {lo hi : Nat} {v1 v2 v3 : Value} {A B : Bool} {D : DM} (e : A = B) (h : OwnsD w lo hi (.agg #[v1, v2, .bool A, v3]) D) : OwnsD w lo hi (.agg #[v1, v2, .bool B, v3]) D := e ▸ h
theorem cast_ownU {w : World} {lo hi k k' : Nat} {v : Value} {G R G' R' : Int} {U : UM} (e : G = G' ∧ R = R') (e2 : k = k') (h : OwnsU w lo hi (.agg #[.int .i64 G, .int .i64 R, v]) (mkU U k)) : OwnsU w lo hi (.agg #[.int .i64 G', .int .i64 R', v]) (mkU U k') := by
  obtain ⟨rfl, rfl⟩ := e
  subst e2
  exact h
end Go.Proofs.YtnnimocaanofjaaGreatDoor
