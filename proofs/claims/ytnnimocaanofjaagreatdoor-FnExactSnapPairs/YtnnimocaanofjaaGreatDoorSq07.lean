/-
  Texts of the store, brought together: Trq, Ldp, Ldq. By an AI agent.
-/
import Derived.Test.YtnnimocaanofjaaGreatDoorSq06
namespace Go.Proofs.YtnnimocaanofjaaGreatDoor
open Go.ChangeShapes Go.WideShapes Go.ChangeAt Go.RowKit Go.Deep
set_option linter.unusedVariables false
set_option linter.unusedSimpArgs false
set_option maxRecDepth 100000
def orB (A R : List Bool) : List Bool := List.zipWith (· || ·) A R
def allF (H : List NM) : List Int → List Bool → Option (List Bool)
  | [], A => some A
  | r :: rs, A => match treeF H r with
    | none => none
    | some s => allF H rs (orB A s.R)
theorem orB_length {A R : List Bool} (hA : A.length = 50) (hR : R.length = 50) : (orB A R).length = 50 := by
  unfold orB; rw [List.length_zipWith, hA, hR]; rfl
theorem orB_get {A R : List Bool} {k : Nat} (hA : A.length = 50) (hR : R.length = 50) (hk : k < 50) : (orB A R)[k]? = some (A.getD k false || R.getD k false) := by
  unfold orB
  rw [List.getElem?_zipWith, List.getElem?_eq_getElem (by omega), List.getElem?_eq_getElem (by omega), List.getD_eq_getElem?_getD, List.getD_eq_getElem?_getD, List.getElem?_eq_getElem (by omega), List.getElem?_eq_getElem (by omega)]
  rfl
theorem ok_kids {D : NM} (h : badN D = false) : ∀ x ∈ D.K, pageB x = true := by
  unfold badN at h
  rw [Bool.or_eq_false_iff] at h
  obtain ⟨hf, ho⟩ := h
  have ho' : okB D = true := by simpa using ho
  unfold okB at ho'
  rw [hf, Bool.false_or, Bool.or_eq_true] at ho'
  intro x hx
  obtain ⟨i, hi, rfl⟩ := List.getElem_of_mem hx
  rcases ho' with h | h
  · unfold leafB at h
    simp only [Bool.and_eq_true, decide_eq_true_eq] at h
    omega
  · unfold innerB kidsB at h
    simp only [Bool.and_eq_true, decide_eq_true_eq, List.all_eq_true] at h
    have h9 := h.2 i (List.mem_range.2 hi)
    unfold kidB at h9
    simp only [Bool.and_eq_true] at h9
    have e : D.K.getD i 0 = D.K[i] := by rw [List.getD_eq_getElem?_getD, List.getElem?_eq_getElem hi]; rfl
    rw [e] at h9
    exact h9.1.1
def nodS (H : List NM) (R : List Bool) : Prop := ∀ i, R.getD i false = true → badN (H.getD i nm0) = false
theorem set_getD {R : List Bool} {q i : Nat} (h : (R.set q true).getD i false = true) : i = q ∨ R.getD i false = true := by
  rw [List.getD_eq_getElem?_getD, List.getElem?_set] at h
  by_cases e : q = i
  · exact .inl e.symm
  · rw [if_neg e] at h
    exact .inr (by rw [List.getD_eq_getElem?_getD]; exact h)
theorem grow_nod {H : List NM} : ∀ (d : Nat) (q : Int) (s s' : St), growF H d q s = some s' → nodS H s.R → nodS H s'.R
  | 0, q, s, s', h, _ => by cases h
  | d + 1, q, s, s', h, hf => by
    obtain ⟨d', e, h1, h2, h3, h4⟩ := grow_some h
    cases e
    refine kids_ind (fun a b => nodS H a.R → nodS H b.R) (fun _ h => h) (fun _ _ _ h1 h2 h => h2 (h1 h)) (fun k a b hk ha => grow_nod d k a b hk ha) _ _ _ _ h4 (fun i hi => ?_)
    rcases set_getD hi with rfl | hi
    · exact h3
    · exact hf i hi
theorem nod0 (H : List NM) : nodS H st0.R := fun i hi => by
  exfalso
  have : st0.R.getD i false = false := by
    unfold st0
    rw [List.getD_eq_getElem?_getD, List.getElem?_replicate]
    split <;> rfl
  rw [this] at hi
  cases hi
theorem tree_nod {H : List NM} {root : Int} {s : St} (h : treeF H root = some s) : nodS H s.R ∧ s.R.length = 50 ∧ (root = -1 ∨ pageB root = true) := by
  unfold treeF at h
  by_cases h1 : H.length = 50
  · rw [if_pos h1] at h
    by_cases h2 : root = -1
    · rw [if_pos h2] at h
      cases h
      exact ⟨nod0 H, rfl, .inl h2⟩
    · rw [if_neg h2] at h
      cases h3 : growF H 21 root st0 with
      | none => rw [h3] at h; cases h
      | some s1 =>
        rw [h3] at h
        have h5 : (if pairsOf s1.P = true then some s1 else none) = some s := h
        by_cases h4 : pairsOf s1.P = true
        · rw [if_pos h4] at h5
          cases h5
          obtain ⟨d', _, hp, _⟩ := grow_some h3
          exact ⟨grow_nod 21 root st0 _ h3 (nod0 H), (grow_good 21 root st0 _ h3 good0).1, .inr hp⟩
        · rw [if_neg h4] at h5
          cases h5
  · rw [if_neg h1] at h
    cases h
theorem or_getD {A R : List Bool} {i : Nat} (hA : A.length = 50) (hR : R.length = 50) (h : (orB A R).getD i false = true) : A.getD i false = true ∨ R.getD i false = true := by
  by_cases hi : i < 50
  · rw [List.getD_eq_getElem?_getD, orB_get hA hR hi] at h
    simpa [Bool.or_eq_true] using h
  · rw [List.getD_eq_getElem?_getD, List.getElem?_eq_none (by rw [orB_length hA hR]; omega)] at h
    cases h
theorem all_nod {H : List NM} : ∀ (L : List Int) (A0 A : List Bool), allF H L A0 = some A → nodS H A0 → A0.length = 50 → nodS H A ∧ ∀ r ∈ L, r = -1 ∨ pageB r = true
  | [], A0, A, h, hn, _ => by cases h; exact ⟨hn, fun r hr => by cases hr⟩
  | r :: L, A0, A, h, hn, hl => by
    cases ht : treeF H r with
    | none =>
      have h2 : allF H (r :: L) A0 = none := by unfold allF; rw [ht]
      rw [h2] at h
      cases h
    | some s =>
      have h2 : allF H (r :: L) A0 = allF H L (orB A0 s.R) := by rw [allF, ht]
      rw [h2] at h
      obtain ⟨t1, t2, t3⟩ := tree_nod ht
      obtain ⟨u1, u2⟩ := all_nod L _ A h (fun i hi => (or_getD hl t2 hi).elim (hn i) (t1 i)) (orB_length hl t2)
      exact ⟨u1, fun x hx => by
        rcases List.mem_cons.1 hx with rfl | hx
        · exact t3
        · exact u2 x hx⟩
def onR (R : List Bool) (i : Nat) : Prop := R.getD i false = true
theorem on_set {R : List Bool} {q i : Nat} (h : onR R i) : onR (R.set q true) i := by
  unfold onR at *
  rw [List.getD_eq_getElem?_getD, List.getElem?_set]
  rw [List.getD_eq_getElem?_getD] at h
  by_cases e : q = i
  · subst e
    rw [if_pos rfl]
    by_cases hl : q < R.length
    · rw [if_pos hl]; rfl
    · rw [List.getElem?_eq_none (by omega)] at h
      cases h
  · rw [if_neg e]; exact h
theorem on_self {R : List Bool} {q : Nat} (h : q < R.length) : onR (R.set q true) q := by
  unfold onR
  rw [List.getD_eq_getElem?_getD, List.getElem?_set, if_pos rfl, if_pos h]
  rfl
theorem grow_mono {H : List NM} : ∀ (d : Nat) (q : Int) (s s' : St), growF H d q s = some s' → ∀ i, onR s.R i → onR s'.R i
  | 0, q, s, s', h => by cases h
  | d + 1, q, s, s', h => by
    obtain ⟨d', e, h1, h2, h3, h4⟩ := grow_some h
    cases e
    intro i hi
    exact kids_ind (fun a b => ∀ i, onR a.R i → onR b.R i) (fun _ _ h => h) (fun _ _ _ h1 h2 i h => h2 i (h1 i h)) (fun k a b hk => grow_mono d k a b hk) _ _ _ _ h4 i (on_set hi)
theorem kids_mono {H : List NM} {d : Nat} {l : Int → ByteArray} {K : List Int} {L : List ByteArray} {s s' : St} (h : kidsF (growF H d) l K L s = some s') : ∀ i, onR s.R i → onR s'.R i :=
  kids_ind (fun a b => ∀ i, onR a.R i → onR b.R i) (fun _ _ h => h) (fun _ _ _ h1 h2 i h => h2 i (h1 i h)) (fun k a b hk => grow_mono d k a b hk) _ _ _ _ h
theorem grow_len {H : List NM} : ∀ (d : Nat) (q : Int) (s s' : St), growF H d q s = some s' → s'.R.length = s.R.length
  | 0, q, s, s', h => by cases h
  | d + 1, q, s, s', h => by
    obtain ⟨d', e, h1, h2, h3, h4⟩ := grow_some h
    cases e
    have := kids_ind (fun a b => b.R.length = a.R.length) (fun _ => rfl) (fun _ _ _ h1 h2 => h2.trans h1) (fun k a b hk => grow_len d k a b hk) _ _ _ _ h4
    rw [this, List.length_set]
theorem grow_root {H : List NM} {d : Nat} {q : Int} {s s' : St} (hl : s.R.length = 50) (h : growF H d q s = some s') : onR s'.R q.toNat := by
  obtain ⟨d', e, h1, h2, h3, h4⟩ := grow_some h
  exact kids_mono h4 _ (on_self (by rw [hl]; exact (page_nat h1).2))
theorem kids_met {H : List NM} {d : Nat} {l : Int → ByteArray} : ∀ (K : List Int) (L : List ByteArray) (s s' : St), kidsF (growF H d) l K L s = some s' → s.R.length = 50 → L.length = K.length → ∀ k ∈ K, onR s'.R k.toNat
  | [], L, s, s', h, _, _ => fun k hk => by cases hk
  | k :: K, [], s, s', h, _, hL => by simp at hL
  | k :: K, y :: L, s, s', h, hs, hL => by
    cases hk : growF H d k s with
    | none => rw [kids_none hk] at h; cases h
    | some s1 =>
      by_cases hl : l k = y
      · rw [kids_cons hk hl] at h
        intro x hx
        rcases List.mem_cons.1 hx with rfl | hx
        · exact kids_mono h _ (grow_root hs hk)
        · exact kids_met K L s1 s' h ((grow_len _ _ _ _ hk).trans hs) (by simpa using hL) x hx
      · rw [kids_less hk hl] at h; cases h
def closedAt (H : List NM) (R : List Bool) (i : Nat) : Prop := ∀ k ∈ (H.getD i nm0).K, onR R k.toNat
theorem grow_closed {H : List NM} : ∀ (d : Nat) (q : Int) (s s' : St), growF H d q s = some s' → s.R.length = 50 → ∀ i, onR s'.R i → onR s.R i ∨ closedAt H s'.R i
  | 0, q, s, s', h => by cases h
  | d + 1, q, s, s', h => by
    obtain ⟨d', e, h1, h2, h3, h4⟩ := grow_some h
    cases e
    intro hs i hi
    have key := kids_ind (l := leastM H d) (g := growF H d) (fun a b => a.R.length = 50 → b.R.length = 50 ∧ (∀ i, onR a.R i → onR b.R i) ∧ ∀ i, onR b.R i → onR a.R i ∨ closedAt H b.R i)
      (fun a ha => ⟨ha, fun _ h => h, fun _ h => .inl h⟩)
      (fun a b c hab hbc ha => by
        obtain ⟨b1, b2, b3⟩ := hab ha
        obtain ⟨c1, c2, c3⟩ := hbc b1
        refine ⟨c1, fun i h => c2 i (b2 i h), fun i h => ?_⟩
        rcases c3 i h with h | h
        · rcases b3 i h with h | h
          · exact .inl h
          · exact .inr fun k hk => c2 _ (h k hk)
        · exact .inr h)
      (fun k a b hk ha => ⟨(grow_len _ _ _ _ hk).trans ha, grow_mono _ _ _ _ hk, grow_closed d k a b hk ha⟩) _ _ _ _ h4 (by rw [List.length_set]; exact hs)
    rcases key.2.2 i hi with h | h
    · rcases set_getD h with rfl | h
      · exact .inr (kids_met _ _ _ _ h4 (by rw [List.length_set]; exact hs) (ok_small h3).2.2.1)
      · exact .inl h
    · exact .inr h
theorem grow_least {H : List NM} (C : Nat → Prop) (hC : ∀ i, C i → ∀ k ∈ (H.getD i nm0).K, C k.toNat) : ∀ (d : Nat) (q : Int) (s s' : St), growF H d q s = some s' → C q.toNat → ∀ i, onR s'.R i → onR s.R i ∨ C i
  | 0, q, s, s', h => by cases h
  | d + 1, q, s, s', h => by
    obtain ⟨d', e, h1, h2, h3, h4⟩ := grow_some h
    cases e
    intro hq i hi
    have key : ∀ (K : List Int) (L : List ByteArray) (s s' : St), (∀ k ∈ K, C k.toNat) → kidsF (growF H d) (leastM H d) K L s = some s' → ∀ i, onR s'.R i → onR s.R i ∨ C i := by
      intro K
      induction K with
      | nil => intro L s s' _ h; rw [kidsF] at h <;> first | (cases h; exact fun _ h => .inl h) | simp
      | cons k K ih =>
        intro L s s' hK h
        cases L with
        | nil => rw [kidsF] at h <;> first | (cases h; exact fun _ h => .inl h) | simp
        | cons y L =>
          cases hk : growF H d k s with
          | none => rw [kids_none hk] at h; cases h
          | some s1 =>
            by_cases hl : leastM H d k = y
            · rw [kids_cons hk hl] at h
              intro i hi
              rcases ih L s1 s' (fun x hx => hK x (List.mem_cons_of_mem _ hx)) h i hi with h8 | h8
              · exact grow_least C hC d k s s1 hk (hK k (List.mem_cons_self ..)) i h8
              · exact .inr h8
            · rw [kids_less hk hl] at h; cases h
    rcases key _ _ _ _ (hC _ hq) h4 i hi with h | h
    · rcases set_getD h with rfl | h
      · exact .inr hq
      · exact .inl h
    · exact .inr h
theorem grow_congr {H H' : List NM} : ∀ (d : Nat) (q : Int) (s s' : St), growF H d q s = some s' → s.R.length = 50 → (∀ i, onR s'.R i → H'.getD i nm0 = H.getD i nm0) → growF H' d q s = some s' ∧ leastM H' d q = leastM H d q
  | 0, q, s, s', h => by cases h
  | d + 1, q, s, s', h => by
    obtain ⟨d', e, h1, h2, h3, h4⟩ := grow_some h
    cases e
    intro hs ha
    have hq : nd H' q = nd H q := ha _ (grow_root hs h)
    have key : ∀ (K : List Int) (L : List ByteArray) (s s' : St), kidsF (growF H d) (leastM H d) K L s = some s' → s.R.length = 50 → (∀ i, onR s'.R i → H'.getD i nm0 = H.getD i nm0) → kidsF (growF H' d) (leastM H' d) K L s = some s' := by
      intro K
      induction K with
      | nil => intro L s s' h _ _; rw [kidsF] at h ⊢ <;> first | exact h | simp
      | cons k K ih =>
        intro L s s' h hs ha
        cases L with
        | nil => rw [kidsF] at h ⊢ <;> first | exact h | simp
        | cons y L =>
          cases hk : growF H d k s with
          | none => rw [kids_none hk] at h; cases h
          | some s1 =>
            by_cases hl : leastM H d k = y
            · rw [kids_cons hk hl] at h
              obtain ⟨g1, g2⟩ := grow_congr d k s s1 hk hs (fun i hi => ha i (kids_mono h i hi))
              rw [kids_cons g1 (g2.trans hl)]
              exact ih L s1 s' h ((grow_len _ _ _ _ hk).trans hs) ha
            · rw [kids_less hk hl] at h; cases h
    refine ⟨?_, ?_⟩
    · rw [grow_in h1 h2 (by rw [hq]; exact h3), hq]
      exact key _ _ _ _ h4 (by rw [List.length_set]; exact hs) ha
    · rw [leastM, leastM, hq]
      cases hK : (nd H q).K with
      | nil => rfl
      | cons k K =>
        rw [hK] at h4
        have hL : (nd H q).L.length = (k :: K).length := by rw [← hK]; exact (ok_small h3).2.2.1
        cases hL2 : (nd H q).L with
        | nil => rw [hL2] at hL; simp at hL
        | cons y L =>
          rw [hL2] at h4
          cases hk : growF H d k ⟨s.R.set q.toNat true, s.P ++ (nd H q).P⟩ with
          | none => rw [kids_none hk] at h4; cases h4
          | some s1 =>
            by_cases hl : leastM H d k = y
            · rw [kids_cons hk hl] at h4
              exact (grow_congr d k _ s1 hk (by rw [List.length_set]; exact hs) (fun i hi => ha i (kids_mono h4 i hi))).2
            · rw [kids_less hk hl] at h4; cases h4
theorem on_st0 (i : Nat) : ¬ onR st0.R i := fun h => by
  unfold onR st0 at h
  rw [List.getD_eq_getElem?_getD, List.getElem?_replicate] at h
  split at h <;> cases h
theorem st0_len : st0.R.length = 50 := by decide
theorem tree_some {H : List NM} {root : Int} {s : St} (h : treeF H root = some s) : H.length = 50 ∧ ((root = -1 ∧ s = st0) ∨ (root ≠ -1 ∧ growF H 21 root st0 = some s ∧ pairsOf s.P = true)) := by
  unfold treeF at h
  by_cases h1 : H.length = 50
  · rw [if_pos h1] at h
    by_cases h2 : root = -1
    · rw [if_pos h2] at h
      cases h
      exact ⟨h1, .inl ⟨h2, rfl⟩⟩
    · rw [if_neg h2] at h
      cases hg : growF H 21 root st0 with
      | none => rw [hg] at h; cases h
      | some s1 =>
        rw [hg] at h
        by_cases h3 : pairsOf s1.P = true
        · simp only [h3, if_true] at h
          cases h
          exact ⟨h1, .inr ⟨h2, rfl, h3⟩⟩
        · simp only [h3] at h
          cases h
  · rw [if_neg h1] at h
    cases h
theorem tree_facts {H : List NM} {root : Int} {s : St} (h : treeF H root = some s) : s.R.length = 50 ∧ (root ≠ -1 → onR s.R root.toNat) ∧ ∀ i, onR s.R i → closedAt H s.R i := by
  obtain ⟨h1, ⟨rfl, rfl⟩ | ⟨h2, h3, h4⟩⟩ := tree_some h
  · exact ⟨st0_len, fun h => absurd rfl h, fun i hi => absurd hi (on_st0 i)⟩
  · refine ⟨(grow_len _ _ _ _ h3).trans st0_len, fun _ => grow_root st0_len h3, fun i hi => ?_⟩
    rcases grow_closed _ _ _ _ h3 st0_len i hi with h | h
    · exact absurd h (on_st0 i)
    · exact h
theorem tree_least {H : List NM} {root : Int} {s : St} (C : Nat → Prop) (hC : ∀ i, C i → ∀ k ∈ (H.getD i nm0).K, C k.toNat) (h : treeF H root = some s) (hr : root ≠ -1 → C root.toNat) : ∀ i, onR s.R i → C i := by
  obtain ⟨h1, ⟨rfl, rfl⟩ | ⟨h2, h3, h4⟩⟩ := tree_some h
  · exact fun i hi => absurd hi (on_st0 i)
  · intro i hi
    rcases grow_least C hC _ _ _ _ h3 (hr h2) i hi with h | h
    · exact absurd h (on_st0 i)
    · exact h
theorem tree_congr {H H' : List NM} {root : Int} {s : St} (hl : H'.length = 50) (h : treeF H root = some s) (ha : ∀ i, onR s.R i → H'.getD i nm0 = H.getD i nm0) : treeF H' root = some s := by
  obtain ⟨h1, ⟨rfl, rfl⟩ | ⟨h2, h3, h4⟩⟩ := tree_some h
  · unfold treeF
    rw [if_pos hl, if_pos rfl]
  · unfold treeF
    rw [if_pos hl, if_neg h2, (grow_congr _ _ _ _ h3 st0_len ha).1]
    simp only [h4, if_true]
theorem on_or {A R : List Bool} (hA : A.length = 50) (hR : R.length = 50) {i : Nat} : onR (orB A R) i ↔ onR A i ∨ onR R i := by
  refine ⟨fun h => or_getD hA hR h, fun h => ?_⟩
  have hi : i < 50 := by
    rcases Nat.lt_or_ge i 50 with h1 | h1
    · exact h1
    · exfalso
      rcases h with h | h
      · unfold onR at h; rw [List.getD_eq_getElem?_getD, List.getElem?_eq_none (by omega)] at h; cases h
      · unfold onR at h; rw [List.getD_eq_getElem?_getD, List.getElem?_eq_none (by omega)] at h; cases h
  unfold onR at *
  rw [List.getD_eq_getElem?_getD, orB_get hA hR hi]
  simpa [Bool.or_eq_true] using h
theorem all_cons {H : List NM} {r : Int} {L : List Int} {A0 A : List Bool} (h : allF H (r :: L) A0 = some A) : ∃ s, treeF H r = some s ∧ allF H L (orB A0 s.R) = some A := by
  cases ht : treeF H r with
  | none =>
    have h2 : allF H (r :: L) A0 = none := by unfold allF; rw [ht]
    rw [h2] at h
    cases h
  | some s =>
    have h2 : allF H (r :: L) A0 = allF H L (orB A0 s.R) := by rw [allF, ht]
    rw [h2] at h
    exact ⟨s, rfl, h⟩
theorem all_facts {H : List NM} : ∀ (L : List Int) (A0 A : List Bool), allF H L A0 = some A → A0.length = 50 → A.length = 50 ∧ (∀ i, onR A0 i → onR A i) ∧ (∀ r ∈ L, r ≠ -1 → onR A r.toNat) ∧ ((∀ i, onR A0 i → closedAt H A0 i) → ∀ i, onR A i → closedAt H A i)
  | [], A0, A, h, hl => by
    cases h
    exact ⟨hl, fun _ h => h, (fun r hr => by cases hr), fun h => h⟩
  | r :: L, A0, A, h, hl => by
    obtain ⟨s, ht, h2⟩ := all_cons h
    obtain ⟨t1, t2, t3⟩ := tree_facts ht
    obtain ⟨u1, u2, u3, u4⟩ := all_facts L _ A h2 (orB_length hl t1)
    refine ⟨u1, fun i hi => u2 i ((on_or hl t1).2 (.inl hi)), fun x hx hne => ?_, fun hc => u4 (fun i hi k hk => ?_)⟩
    · rcases List.mem_cons.1 hx with rfl | hx
      · exact u2 _ ((on_or hl t1).2 (.inr (t2 hne)))
      · exact u3 x hx hne
    · rcases (on_or hl t1).1 hi with h9 | h9
      · exact (on_or hl t1).2 (.inl (hc i h9 k hk))
      · exact (on_or hl t1).2 (.inr (t3 i h9 k hk))
theorem all_least {H : List NM} (C : Nat → Prop) (hC : ∀ i, C i → ∀ k ∈ (H.getD i nm0).K, C k.toNat) : ∀ (L : List Int) (A0 A : List Bool), allF H L A0 = some A → A0.length = 50 → (∀ r ∈ L, r ≠ -1 → C r.toNat) → ∀ i, onR A i → onR A0 i ∨ C i
  | [], A0, A, h, hl, _ => by
    cases h
    exact fun _ h => .inl h
  | r :: L, A0, A, h, hl, hr => by
    obtain ⟨s, ht, h2⟩ := all_cons h
    obtain ⟨t1, t2, t3⟩ := tree_facts ht
    intro i hi
    rcases all_least C hC L _ A h2 (orB_length hl t1) (fun x hx => hr x (List.mem_cons_of_mem _ hx)) i hi with h9 | h9
    · rcases (on_or hl t1).1 h9 with h8 | h8
      · exact .inl h8
      · exact .inr (tree_least C hC ht (hr r (List.mem_cons_self ..)) i h8)
    · exact .inr h9
theorem all_congr {H H' : List NM} (hl' : H'.length = 50) : ∀ (L : List Int) (A0 A : List Bool), allF H L A0 = some A → A0.length = 50 → (∀ i, onR A i → H'.getD i nm0 = H.getD i nm0) → allF H' L A0 = some A
  | [], A0, A, h, hl, _ => by
    cases h
    rfl
  | r :: L, A0, A, h, hl, ha => by
    obtain ⟨s, ht, h2⟩ := all_cons h
    obtain ⟨t1, t2, t3⟩ := tree_facts ht
    obtain ⟨u1, u2, u3, u4⟩ := all_facts L _ A h2 (orB_length hl t1)
    have hs := tree_congr hl' ht (fun i hi => ha i (u2 i ((on_or hl t1).2 (.inr hi))))
    rw [allF, hs]
    exact all_congr hl' L _ A h2 (orB_length hl t1) ha
def loadF (G : Nat → Option NM) : Nat → List Int → List NM → Option (List NM)
  | _, [], H => some H
  | 0, _ :: _, _ => none
  | n + 1, k :: t, H => if k < 0 then loadF G n t H else if freeB (H.getD k.toNat nm0) = false then loadF G n t H else match G k.toNat with
    | none => none
    | some D => loadF G n (t ++ D.K) (H.set k.toNat D)
def allG (G : Nat → Option NM) : List NM := (List.range 50).map fun k => (G k).getD nm0
theorem allG_get (G : Nat → Option NM) {i : Nat} (hi : i < 50) : (allG G).getD i nm0 = (G i).getD nm0 := by
  unfold allG
  rw [List.getD_eq_getElem?_getD, List.getElem?_map, List.getElem?_range hi]
  rfl
theorem allG_len (G : Nat → Option NM) : (allG G).length = 50 := by simp [allG]
def keepH (A : List Bool) (H : List NM) : List NM := (List.range 50).map fun i => if A.getD i false = true then H.getD i nm0 else nm0
theorem nm0_free : freeB nm0 = true := by decide
theorem set_getN {H : List NM} {q i : Nat} (D : NM) (hq : q < H.length) : (H.set q D).getD i nm0 = if q = i then D else H.getD i nm0 := by
  rw [List.getD_eq_getElem?_getD, List.getElem?_set]
  by_cases e : q = i
  · rw [if_pos e, if_pos hq, if_pos e]
    rfl
  · rw [if_neg e, if_neg e, List.getD_eq_getElem?_getD]
def freeC (H : List NM) : Nat := H.countP freeB
theorem freeC_set : ∀ (H : List NM) (q : Nat) (D : NM), q < H.length → freeB (H.getD q nm0) = true → freeB D = false → freeC (H.set q D) + 1 = freeC H
  | [], q, D, h, _, _ => by simp at h
  | X :: H, 0, D, _, h1, h2 => by
    have h1' : freeB X = true := h1
    unfold freeC
    rw [List.set_cons_zero, List.countP_cons, List.countP_cons, if_pos h1', if_neg (by rw [h2]; decide)]
  | X :: H, q + 1, D, h, h1, h2 => by
    have h9 := freeC_set H q D (by simpa using h) h1 h2
    unfold freeC at *
    rw [List.set_cons_succ, List.countP_cons, List.countP_cons]
    omega
theorem bad_free {D : NM} (h : badN D = false) : freeB D = false := by
  unfold badN at h
  cases hf : freeB D with
  | false => rfl
  | true => rw [hf] at h; cases h
theorem load_of {G : Nat → Option NM} : ∀ (n : Nat) (t : List Int) (H Hs : List NM), loadF G n t H = some Hs → H.length = 50 → (∀ i, H.getD i nm0 = nm0 ∨ G i = some (H.getD i nm0)) → (∀ k ∈ t, k < 50) → (∀ i D, G i = some D → ∀ k ∈ D.K, k < 50) → Hs.length = 50 ∧ ∀ i, Hs.getD i nm0 = nm0 ∨ G i = some (Hs.getD i nm0)
  | n, [], H, Hs, h, hl, hi, _, _ => by
    cases n <;> (rw [loadF] at h; cases h; exact ⟨hl, hi⟩)
  | 0, k :: t, H, Hs, h, _, _, _, _ => by rw [loadF] at h; cases h
  | n + 1, k :: t, H, Hs, h, hl, hi, ht, hG => by
    rw [loadF] at h
    by_cases h1 : k < 0
    · rw [if_pos h1] at h
      exact load_of n t H Hs h hl hi (fun x hx => ht x (List.mem_cons_of_mem _ hx)) hG
    · rw [if_neg h1] at h
      by_cases h2 : freeB (H.getD k.toNat nm0) = false
      · rw [if_pos h2] at h
        exact load_of n t H Hs h hl hi (fun x hx => ht x (List.mem_cons_of_mem _ hx)) hG
      · rw [if_neg h2] at h
        cases hg : G k.toNat with
        | none => rw [hg] at h; cases h
        | some D =>
          rw [hg] at h
          have hk : k.toNat < H.length := by have := ht k (List.mem_cons_self ..); rw [hl]; omega
          refine load_of n (t ++ D.K) (H.set k.toNat D) Hs h (by rw [List.length_set]; exact hl) (fun i => ?_) (fun x hx => ?_) hG
          · rw [set_getN D hk]
            by_cases e : k.toNat = i
            · rw [if_pos e, ← e]
              exact .inr hg
            · rw [if_neg e]
              exact hi i
          · rcases List.mem_append.1 hx with hx | hx
            · exact ht x (List.mem_cons_of_mem _ hx)
            · exact hG _ D hg x hx
theorem load_all {G : Nat → Option NM} {A : List Bool} (hA : A.length = 50) (hn : nodS (allG G) A) (hc : ∀ i, onR A i → closedAt (allG G) A i) : ∀ (n : Nat) (t : List Int) (H : List NM) (L : List Int), 5 * freeC H + t.length ≤ n → H.length = 50 → (∀ i, H.getD i nm0 = nm0 ∨ (onR A i ∧ H.getD i nm0 = (allG G).getD i nm0)) → (∀ k ∈ t, k < 0 ∨ onR A k.toNat) → (∀ i, freeB (H.getD i nm0) = false → ∀ k ∈ (H.getD i nm0).K, k ∈ t ∨ freeB (H.getD k.toNat nm0) = false) → (∀ r ∈ L, r < 0 ∨ r ∈ t ∨ freeB (H.getD r.toNat nm0) = false) →
    ∃ Hs, loadF G n t H = some Hs ∧ Hs.length = 50 ∧ (∀ i, Hs.getD i nm0 = nm0 ∨ (onR A i ∧ Hs.getD i nm0 = (allG G).getD i nm0)) ∧ (∀ i, freeB (Hs.getD i nm0) = false → ∀ k ∈ (Hs.getD i nm0).K, freeB (Hs.getD k.toNat nm0) = false) ∧ (∀ r ∈ L, r < 0 ∨ freeB (Hs.getD r.toNat nm0) = false)
  | n, [], H, L, hm, hl, hi, ht, hk, hr => by
    refine ⟨H, by cases n <;> rw [loadF], hl, hi, fun i h k h2 => ?_, fun r h => ?_⟩
    · rcases hk i h k h2 with h9 | h9
      · cases h9
      · exact h9
    · rcases hr r h with h9 | h9 | h9
      · exact .inl h9
      · cases h9
      · exact .inr h9
  | 0, k :: t, H, L, hm, _, _, _, _, _ => by simp at hm
  | n + 1, k :: t, H, L, hm, hl, hi, ht, hk, hr => by
    rw [List.length_cons] at hm
    have drop1 : (k < 0 ∨ freeB (H.getD k.toNat nm0) = false) → ∃ Hs, loadF G n t H = some Hs ∧ Hs.length = 50 ∧ (∀ i, Hs.getD i nm0 = nm0 ∨ (onR A i ∧ Hs.getD i nm0 = (allG G).getD i nm0)) ∧ (∀ i, freeB (Hs.getD i nm0) = false → ∀ k ∈ (Hs.getD i nm0).K, freeB (Hs.getD k.toNat nm0) = false) ∧ (∀ r ∈ L, r < 0 ∨ freeB (Hs.getD r.toNat nm0) = false) := fun hd => by
      refine load_all hA hn hc n t H L (by omega) hl hi (fun x hx => ht x (List.mem_cons_of_mem _ hx)) (fun i h x hx => ?_) (fun r h => ?_)
      · rcases hk i h x hx with h9 | h9
        · rcases List.mem_cons.1 h9 with rfl | h9
          · rcases hd with hd | hd
            · exfalso
              rcases hi i with e | ⟨e1, e2⟩
              · rw [e, nm0_free] at h; cases h
              · rw [e2] at hx
                have h8 := ok_kids (hn i e1) x hx
                have h7 := (page_nat h8).1
                omega
            · exact .inr hd
          · exact .inl h9
        · exact .inr h9
      · rcases hr r h with h9 | h9 | h9
        · exact .inl h9
        · rcases List.mem_cons.1 h9 with rfl | h9
          · rcases hd with hd | hd
            · exact .inl hd
            · exact .inr (.inr hd)
          · exact .inr (.inl h9)
        · exact .inr (.inr h9)
    rw [loadF]
    by_cases h1 : k < 0
    · rw [if_pos h1]
      exact drop1 (.inl h1)
    · rw [if_neg h1]
      by_cases h2 : freeB (H.getD k.toNat nm0) = false
      · rw [if_pos h2]
        exact drop1 (.inr h2)
      · rw [if_neg h2]
        have h2t : freeB (H.getD k.toNat nm0) = true := by simpa using h2
        have hka : onR A k.toNat := by
          rcases ht k (List.mem_cons_self ..) with h9 | h9
          · exact absurd h9 h1
          · exact h9
        have hk50 : k.toNat < 50 := by
          rcases Nat.lt_or_ge k.toNat 50 with h9 | h9
          · exact h9
          · exfalso
            unfold onR at hka
            rw [List.getD_eq_getElem?_getD, List.getElem?_eq_none (by omega)] at hka
            cases hka
        have hgood : badN ((allG G).getD k.toNat nm0) = false := hn _ hka
        rw [allG_get G hk50] at hgood
        cases hg : G k.toNat with
        | none =>
          rw [hg] at hgood
          have h9 := bad_free hgood
          rw [show (none : Option NM).getD nm0 = nm0 from rfl, nm0_free] at h9
          cases h9
        | some D =>
          rw [hg] at hgood
          have hD : (allG G).getD k.toNat nm0 = D := by rw [allG_get G hk50, hg]; rfl
          have hDf : freeB D = false := bad_free hgood
          have hkl : k.toNat < H.length := by rw [hl]; exact hk50
          have hc9 := freeC_set H k.toNat D hkl h2t hDf
          have h4 : D.K.length ≤ 4 := (ok_small hgood).2.1
          refine load_all hA hn hc n (t ++ D.K) (H.set k.toNat D) L (by rw [List.length_append]; omega) (by rw [List.length_set]; exact hl) (fun i => ?_) (fun x hx => ?_) (fun i h x hx => ?_) (fun r h => ?_)
          · rw [set_getN D hkl]
            by_cases e : k.toNat = i
            · rw [if_pos e, ← e, hD]
              exact .inr ⟨hka, rfl⟩
            · rw [if_neg e]
              exact hi i
          · rcases List.mem_append.1 hx with hx | hx
            · exact ht x (List.mem_cons_of_mem _ hx)
            · exact .inr (hc _ hka x (by rw [hD]; exact hx))
          · rw [set_getN D hkl] at h hx
            rw [set_getN D hkl]
            by_cases e : k.toNat = i
            · rw [if_pos e] at h hx
              exact .inl (List.mem_append.2 (.inr hx))
            · rw [if_neg e] at h hx
              rcases hk i h x hx with h9 | h9
              · rcases List.mem_cons.1 h9 with rfl | h9
                · rw [if_pos rfl]; exact .inr hDf
                · exact .inl (List.mem_append.2 (.inl h9))
              · by_cases e2 : k.toNat = x.toNat
                · rw [if_pos e2]; exact .inr hDf
                · rw [if_neg e2]; exact .inr h9
          · rw [set_getN D hkl]
            rcases hr r h with h9 | h9 | h9
            · exact .inl h9
            · rcases List.mem_cons.1 h9 with rfl | h9
              · rw [if_pos rfl]; exact .inr (.inr hDf)
              · exact .inr (.inl (List.mem_append.2 (.inl h9)))
            · by_cases e2 : k.toNat = r.toNat
              · rw [if_pos e2]; exact .inr (.inr hDf)
              · rw [if_neg e2]; exact .inr (.inr h9)
theorem free_new : freeC (List.replicate 50 nm0) = 50 := by decide
theorem load_yes {G : Nat → Option NM} {L : List Int} {A : List Bool} {n : Nat} (hr : ∀ r ∈ L, r = -1 ∨ pageB r = true) (h : allF (allG G) L st0.R = some A) (hn : 250 + L.length ≤ n) :
    loadF G n L (List.replicate 50 nm0) = some (keepH A (allG G)) ∧ allF (keepH A (allG G)) L st0.R = some A := by
  obtain ⟨a1, a2, a3, a4⟩ := all_facts L _ A h st0_len
  obtain ⟨b1, _⟩ := all_nod L _ A h (nod0 _) st0_len
  have hc := a4 (fun i hi => absurd hi (on_st0 i))
  have rep : ∀ i, (List.replicate 50 nm0).getD i nm0 = nm0 := fun i => by
    rw [List.getD_eq_getElem?_getD, List.getElem?_replicate]
    split <;> rfl
  obtain ⟨Hs, c1, c2, c3, c4, c5⟩ := load_all a1 b1 hc n L (List.replicate 50 nm0) L (by rw [free_new]; omega) (by simp) (fun i => .inl (rep i)) (fun k hk => by
      rcases hr k hk with e | e
      · exact .inl (by omega)
      · exact .inr (a3 k hk (by have := (page_nat e).1; omega))) (fun i hi => by rw [rep i, nm0_free] at hi; cases hi) (fun r hk => .inr (.inl hk))
  have hin : ∀ i, onR A i → freeB (Hs.getD i nm0) = false := fun i hi => by
    rcases all_least (fun i => freeB (Hs.getD i nm0) = false) (fun i h k hk => by
        rcases c3 i with e | ⟨e1, e2⟩
        · rw [e, nm0_free] at h; cases h
        · exact c4 i h k (by rw [e2]; exact hk)) L _ A h st0_len (fun r hk hne => by
        rcases c5 r hk with h9 | h9
        · rcases hr r hk with e | e
          · exact absurd e hne
          · have := (page_nat e).1; omega
        · exact h9) i hi with h9 | h9
    · exact absurd h9 (on_st0 i)
    · exact h9
  have hag : ∀ i, onR A i → Hs.getD i nm0 = (allG G).getD i nm0 := fun i hi => by
    rcases c3 i with e | ⟨e1, e2⟩
    · have := hin i hi
      rw [e, nm0_free] at this
      cases this
    · exact e2
  have hk : Hs = keepH A (allG G) := by
    apply List.ext_getElem?
    intro i
    by_cases hi : i < 50
    · have e1 : Hs[i]? = some (Hs.getD i nm0) := by rw [List.getD_eq_getElem?_getD, List.getElem?_eq_getElem (by omega)]; rfl
      have e2 : (keepH A (allG G))[i]? = some (if A.getD i false = true then (allG G).getD i nm0 else nm0) := by
        unfold keepH
        rw [List.getElem?_map, List.getElem?_range hi]
        rfl
      rw [e1, e2]
      by_cases ha : A.getD i false = true
      · rw [if_pos ha, hag i ha]
      · rw [if_neg ha]
        rcases c3 i with e | ⟨e, _⟩
        · rw [e]
        · exact absurd e ha
    · rw [List.getElem?_eq_none (by omega), List.getElem?_eq_none (by simp [keepH]; omega)]
  rw [← hk]
  exact ⟨c1, all_congr c2 L _ A h st0_len hag⟩
theorem load_no {G : Nat → Option NM} {L : List Int} {A : List Bool} {Hs : List NM} {n : Nat} (hr : ∀ r ∈ L, r = -1 ∨ pageB r = true) (hG : ∀ i D, G i = some D → ∀ k ∈ D.K, k < 50) (h1 : loadF G n L (List.replicate 50 nm0) = some Hs) (h2 : allF Hs L st0.R = some A) : allF (allG G) L st0.R = some A := by
  have rep : ∀ i, (List.replicate 50 nm0).getD i nm0 = nm0 := fun i => by
    rw [List.getD_eq_getElem?_getD, List.getElem?_replicate]
    split <;> rfl
  obtain ⟨d1, d2⟩ := load_of n L _ Hs h1 (by simp) (fun i => .inl (rep i)) (fun k hk => by
    rcases hr k hk with e | e
    · omega
    · have := page_nat e; omega) hG
  obtain ⟨b1, _⟩ := all_nod L _ A h2 (nod0 _) st0_len
  obtain ⟨a1, _⟩ := all_facts L _ A h2 st0_len
  refine all_congr (allG_len G) L _ A h2 st0_len (fun i hi => ?_)
  have hi50 : i < 50 := by
    rcases Nat.lt_or_ge i 50 with h9 | h9
    · exact h9
    · exfalso
      unfold onR at hi
      rw [List.getD_eq_getElem?_getD, List.getElem?_eq_none (by omega)] at hi
      cases hi
  rcases d2 i with e | e
  · have h9 := bad_free (b1 i hi)
    rw [e, nm0_free] at h9
    cases h9
  · rw [allG_get G hi50, e]
    rfl
end Go.Proofs.YtnnimocaanofjaaGreatDoor
