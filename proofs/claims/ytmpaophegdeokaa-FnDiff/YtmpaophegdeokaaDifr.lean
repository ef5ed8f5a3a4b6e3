
/-
  What differs leads from the ones to the others: over lists. By an AI agent.
-/
import Derived.Test.YtmpaophegdeokaaApi
namespace Go.Proofs.Ytmpaophegdeokaa
open Go.ChangeShapes Go.WideShapes Go.ChangeAt Go.RowKit Go.Deep
set_option linter.unusedVariables false

theorem place_unique {f : Nat → ByteArray} {n : Nat} {k : ByteArray} {p q : Nat} (hp : IsPlace f n k p) (hq : IsPlace f n k q) : p = q := by
  rcases Nat.lt_trichotomy p q with h | h | h
  · have h1 := hp.2.2 (by have := hq.1; omega)
    rw [hq.2.1 p h] at h1
    cases h1
  · exact h
  · have h1 := hq.2.2 (by have := hp.1; omega)
    rw [hp.2.1 q h] at h1
    cases h1
theorem plc_app {P Q : List PM} {k : ByteArray} (hP : ∀ x ∈ P, ltK x.1 k) (hQ : ∀ x L, Q = x :: L → ¬ ltK x.1 k) : plc (P ++ Q) k = P.length := by
  refine place_unique (plc_is (P ++ Q) k) ⟨by simp, fun j hj => ?_, fun h => ?_⟩
  · have h9 := (at_fst (L := P ++ Q) (i := j) (by simp; omega)).1
    rw [h9, List.getElem_append_left hj]
    exact hP _ (List.getElem_mem hj)
  · have h9 := (at_fst (L := P ++ Q) (i := P.length) h).1
    rw [h9, List.getElem_append_right (Nat.le_refl _)]
    cases Q with
    | nil => simp at h
    | cons x L =>
      have h8 := hQ x L rfl
      unfold ltK at h8
      simp only [Nat.sub_self, List.getElem_cons_zero]
      simpa using h8
theorem step_ins {P Q : List PM} {d : DF} (hP : ∀ x ∈ P, ltK x.1 d.1) (hQ : ∀ x ∈ Q, ltK d.1 x.1) : stepM (P ++ Q) d = P ++ (if d.2.2.2.2 = true then [(d.1, d.2.2.1)] else []) ++ Q := by
  have hp := plc_app (P := P) (Q := Q) hP (fun x L e h9 => by subst e; exact ltK_irrefl _ (ltK_trans h9 (hQ x (by simp))))
  have hb : beh (P ++ Q) d.1 = P.length := by
    unfold beh
    rw [hp, if_neg]
    intro h
    unfold hitB at h
    rw [Bool.and_eq_true, decide_eq_true_eq] at h
    have h9 := (at_fst (L := P ++ Q) (i := P.length) h.1).1
    have h8 : (fstL (P ++ Q) P.length).toList = d.1.toList := by simpa using h.2
    rw [h9] at h8
    have h7 := toList_inj h8
    have h6 : (P ++ Q)[P.length] ∈ Q := by rw [List.getElem_append_right (Nat.le_refl _)]; exact List.getElem_mem _
    have h5 := hQ _ h6
    rw [h7] at h5
    exact ltK_irrefl _ h5
  unfold stepM
  rw [hb, hp, List.take_left, List.drop_left]
theorem step_hit {P Q : List PM} {z : PM} {d : DF} (hz : z.1 = d.1) (hP : ∀ x ∈ P, ltK x.1 d.1) : stepM (P ++ z :: Q) d = P ++ (if d.2.2.2.2 = true then [(d.1, d.2.2.1)] else []) ++ Q := by
  have hp := plc_app (P := P) (Q := z :: Q) hP (fun x L e h9 => by cases e; rw [hz] at h9; exact ltK_irrefl _ h9)
  have hb : beh (P ++ z :: Q) d.1 = P.length + 1 := by
    unfold beh
    rw [hp, if_pos]
    unfold hitB
    rw [Bool.and_eq_true, decide_eq_true_eq]
    have hlt : P.length < (P ++ z :: Q).length := by simp
    refine ⟨hlt, ?_⟩
    rw [(at_fst hlt).1, List.getElem_append_right (Nat.le_refl _)]
    simp only [Nat.sub_self, List.getElem_cons_zero]
    rw [hz]
    simp
  unfold stepM
  rw [hb, hp, List.take_left]
  congr 1
  rw [← List.drop_drop, List.drop_left]
  rfl
theorem held_app : ∀ {P Q : List PM} {k : ByteArray}, (∀ x ∈ P, ltK x.1 k) → heldM (P ++ Q) k = heldM Q k
  | [], Q, k, _ => rfl
  | x :: P, Q, k, h => by
    show heldM (x :: (P ++ Q)) k = _
    rw [heldM_ne (ltK_ne (h x (by simp))), held_app fun y hy => h y (by simp [hy])]
theorem form_mk {k o n : ByteArray} {p q : Bool} (hk : keyB k = true) (ho : sideB o p = true) (hn : sideB n q = true) (h : (p || q) = true) : formB (k, o, n, p, q) = true := by rw [formB_of, hk, ho, hn, h]; rfl
theorem fit_key {x y : ByteArray} (h : fitB x y = true) : keyB x = true ∧ sideB y true = true := by
  unfold fitB at h
  rw [Bool.and_eq_true, decide_eq_true_eq] at h
  exact ⟨h.1, decide_eq_true (by omega)⟩
theorem run_diff (a b : List PM) (P : List PM) (h1 : ∀ x ∈ P, ∀ y ∈ a, ltK x.1 y.1) (h2 : ∀ x ∈ P, ∀ y ∈ b, ltK x.1 y.1) (ha : UpL a) (hb : UpL b) (fa : ∀ x ∈ a, fitB x.1 x.2 = true) (fb : ∀ x ∈ b, fitB x.1 x.2 = true) : runM (P ++ a) (diffM a b) = (P ++ b, 0) := by
  induction a, b using diffM.induct generalizing P with
  | case1 => simp [diffM, runM]
  | case2 x a ih =>
    have hu := up_cons ha
    have hx := fit_key (fa x (by simp))
    have hP : ∀ z ∈ P, ltK z.1 x.1 := fun z hz => h1 z hz x (by simp)
    rw [diffM, run_step (form_mk hx.1 hx.2 rfl rfl) (by rw [held_app hP, heldM_eq]), step_hit (d := (x.1, x.2, e0, true, false)) rfl hP]
    have h9 := ih P (fun z hz y hy => h1 z hz y (by simp [hy])) h2 hu.2 hb (fun z hz => fa z (by simp [hz])) fb
    simpa using h9
  | case3 y b ih =>
    have hu := up_cons hb
    have hy := fit_key (fb y (by simp))
    have hP : ∀ z ∈ P, ltK z.1 y.1 := fun z hz => h2 z hz y (by simp)
    rw [diffM, run_step (form_mk hy.1 rfl hy.2 rfl) (by rw [held_app hP]; rfl), step_ins (d := (y.1, e0, y.2, false, true)) hP (fun z hz => by cases hz)]
    have h9 := ih (P ++ [y]) (fun z hz w hw => by cases hw) (fun z hz w hw => by
      rcases List.mem_append.1 hz with e | e
      · exact h2 z e w (by simp [hw])
      · rw [List.mem_singleton.1 e]; exact hu.1 w hw) ha hu.2 fa (fun z hz => fb z (by simp [hz]))
    simpa using h9
  | case4 x a y b hlt ih =>
    have hu := up_cons ha
    have hx := fit_key (fa x (by simp))
    have hP : ∀ z ∈ P, ltK z.1 x.1 := fun z hz => h1 z hz x (by simp)
    rw [diffM, if_pos hlt, run_step (form_mk hx.1 hx.2 rfl rfl) (by rw [held_app hP, heldM_eq]), step_hit (d := (x.1, x.2, e0, true, false)) rfl hP]
    have h9 := ih P (fun z hz w hw => h1 z hz w (by simp [hw])) h2 hu.2 hb (fun z hz => fa z (by simp [hz])) fb
    simpa using h9
  | case5 x a y b hlt hlt2 ih =>
    have hu := up_cons ha
    have hv := up_cons hb
    have hy := fit_key (fb y (by simp))
    have hxy : ltK y.1 x.1 := hlt2
    have hall : ∀ z ∈ x :: a, ltK y.1 z.1 := fun z hz => by
      rcases List.mem_cons.1 hz with e | e
      · rw [e]; exact hxy
      · exact ltK_trans hxy (hu.1 z e)
    have hP : ∀ z ∈ P, ltK z.1 y.1 := fun z hz => h2 z hz y (by simp)
    rw [diffM, if_neg hlt, if_pos hlt2, run_step (form_mk hy.1 rfl hy.2 rfl) (by rw [held_app hP, heldM_none (fun z hz => (ltK_ne (hall z hz)).symm)]), step_ins (d := (y.1, e0, y.2, false, true)) hP hall]
    have h9 := ih (P ++ [y]) (fun z hz w hw => by
      rcases List.mem_append.1 hz with e | e
      · exact h1 z e w hw
      · rw [List.mem_singleton.1 e]; exact hall w hw) (fun z hz w hw => by
      rcases List.mem_append.1 hz with e | e
      · exact h2 z e w (by simp [hw])
      · rw [List.mem_singleton.1 e]; exact hv.1 w hw) ha hv.2 fa (fun z hz => fb z (by simp [hz]))
    simpa using h9
  | case6 x a y b hlt hlt2 ih =>
    have hu := up_cons ha
    have hv := up_cons hb
    have hxy : x.1 = y.1 := by
      apply Decidable.byContradiction
      intro hne
      rcases ltK_total hne with e | e
      · exact hlt e
      · exact hlt2 e
    have hx := fit_key (fa x (by simp))
    have hy := fit_key (fb y (by simp))
    have hP : ∀ z ∈ P, ltK z.1 x.1 := fun z hz => h1 z hz x (by simp)
    have h9 := ih (P ++ [y]) (fun z hz w hw => by
      rcases List.mem_append.1 hz with e | e
      · exact h1 z e w (by simp [hw])
      · rw [List.mem_singleton.1 e, ← hxy]; exact hu.1 w hw) (fun z hz w hw => by
      rcases List.mem_append.1 hz with e | e
      · exact h2 z e w (by simp [hw])
      · rw [List.mem_singleton.1 e]; exact hv.1 w hw) hu.2 hv.2 (fun z hz => fa z (by simp [hz])) (fun z hz => fb z (by simp [hz]))
    rw [diffM, if_neg hlt, if_neg hlt2]
    by_cases hval : x.2 = y.2
    · rw [if_pos hval, List.nil_append]
      have e1 : x = y := Prod.ext hxy hval
      subst e1
      simpa using h9
    · rw [if_neg hval, List.cons_append, List.nil_append, run_step (form_mk hx.1 hx.2 hy.2 rfl) (by rw [held_app hP, heldM_eq]), step_hit (d := (x.1, x.2, y.2, true, true)) rfl hP]
      have e1 : ((x.1, y.2) : PM) = y := Prod.ext hxy rfl
      simp only [if_true, e1]
      simpa using h9
theorem GoodL.okP {L : List PM} (h : GoodL L) (hn : L.length ≤ 60) : okP L = true := h.pairsB hn
theorem apply_diff {a b : List PM} (ha : GoodL a) (hb : GoodL b) (la : a.length ≤ 60) (lb : b.length ≤ 60) : applyA a (diffM a b) = (b, 0) := by
  have h1 := run_diff a b [] (fun x hx => by cases hx) (fun x hx => by cases hx) ha.2 hb.2 ha.1 hb.1
  have h2 := diffM_len a b
  rw [List.nil_append, List.nil_append] at h1
  unfold applyA
  rw [if_neg (by omega), if_neg (by rw [ha.okP la]; decide), if_neg (by omega), h1, if_neg (by simp), if_neg (by simp only; omega)]
theorem diffA_good {a b : List PM} (ha : GoodL a) (hb : GoodL b) (la : a.length ≤ 60) (lb : b.length ≤ 60) : diffA a b = (diffM a b, 0) := by
  unfold diffA
  rw [if_neg (by omega), if_neg (by rw [ha.okP la, hb.okP lb]; simp)]
theorem diff_nil {a b : List PM} (ha : GoodL a) (hb : GoodL b) (h : diffM a b = []) : a = b := by
  have h1 := run_diff a b [] (fun x hx => by cases hx) (fun x hx => by cases hx) ha.2 hb.2 ha.1 hb.1
  rw [h, List.nil_append, List.nil_append, runM] at h1
  exact (Prod.mk.inj h1).1
theorem diff_self {a : List PM} (ha : UpL a) : diffM a a = [] := by
  rw [← keysM_diff a a ha ha, List.filterMap_eq_nil_iff]
  intro k _
  unfold diffAt
  rw [if_pos rfl]
theorem filterMap_len {α β γ : Type} {f : α → Option β} {g : α → Option γ} (h : ∀ x, (f x).isSome = (g x).isSome) : ∀ l : List α, (l.filterMap f).length = (l.filterMap g).length
  | [] => rfl
  | x :: l => by
    have ih := filterMap_len h l
    have h9 := h x
    cases hf : f x <;> cases hg : g x <;> rw [hf, hg] at h9 <;> simp [hf, hg, ih] at h9 ⊢
theorem diff_back {a b : List PM} (ha : UpL a) (hb : UpL b) : (diffM b a).length = (diffM a b).length := by
  have hk : KeysOf (keysM a b) b a := ⟨(keysM_of a b).1, fun k => ((keysM_of a b).2 k).trans Or.comm⟩
  rw [← diff_keys b a (keysM a b) hb ha hk, ← keysM_diff a b ha hb]
  refine filterMap_len (fun k => ?_) _
  unfold diffAt
  by_cases h : heldM a k = heldM b k
  · rw [if_pos h.symm, if_pos h]
  · rw [if_neg (fun e => h e.symm), if_neg h]; rfl
theorem held_good {L : List PM} (h : ∀ x ∈ L, fitB x.1 x.2 = true) (k : ByteArray) : sideB (heldM L k).1 (heldM L k).2 = true := by
  induction L with
  | nil => rfl
  | cons x L ih =>
    by_cases e : x.1 = k
    · subst e
      rw [heldM_eq]
      exact (fit_key (h x (by simp))).2
    · rw [heldM_ne e]
      exact ih fun y hy => h y (by simp [hy])
theorem held_there : ∀ {L : List PM} {k : ByteArray}, (∃ x ∈ L, x.1 = k) → (heldM L k).2 = true
  | [], k, ⟨x, hx, _⟩ => by cases hx
  | y :: L, k, ⟨x, hx, e⟩ => by
    by_cases h : y.1 = k
    · subst h; rw [heldM_eq]
    · rw [heldM_ne h]
      rcases List.mem_cons.1 hx with e2 | e2
      · subst e2; exact absurd e h
      · exact held_there ⟨x, e2, e⟩
theorem diff_other {a b : List PM} (ha : GoodL a) (hb : GoodL b) (la : a.length ≤ 60) (lb : b.length ≤ 60) (h : diffM a b ≠ []) : applyA b (diffM a b) = (b, 18) := by
  have h2 := diffM_len a b
  cases hd : diffM a b with
  | nil => exact absurd hd h
  | cons d ds =>
    have hm : d ∈ (keysM a b).filterMap (diffAt a b) := by rw [keysM_diff a b ha.2 hb.2, hd]; simp
    obtain ⟨k, hk, hdk⟩ := List.mem_filterMap.1 hm
    unfold diffAt at hdk
    by_cases he : heldM a k = heldM b k
    · rw [if_pos he] at hdk; cases hdk
    · rw [if_neg he] at hdk
      have ek := ((keysM_of a b).2 k).1 hk
      cases hdk
      have hkey : keyB k = true := by
        rcases ek with ⟨x, hx, e⟩ | ⟨x, hx, e⟩
        · rw [← e]; exact (fit_key (ha.1 x hx)).1
        · rw [← e]; exact (fit_key (hb.1 x hx)).1
      have hor : ((heldM a k).2 || (heldM b k).2) = true := by
        rcases ek with e | e
        · rw [held_there e]; rfl
        · rw [held_there e]; simp
      have hr : runM b ((k, (heldM a k).1, (heldM b k).1, (heldM a k).2, (heldM b k).2) :: ds) = ([], 18) := run_old (form_mk hkey (held_good ha.1 k) (held_good hb.1 k) hor) (fun e => he e.symm)
      rw [hd] at h2
      unfold applyA
      rw [if_neg (by omega), if_neg (by rw [hb.okP lb]; decide), if_neg (by omega), hr, if_pos (by decide)]
theorem diff_form {a b : List PM} (ha : GoodL a) (hb : GoodL b) {d : DF} (h : d ∈ diffM a b) : formB d = true := by
  rw [← keysM_diff a b ha.2 hb.2] at h
  obtain ⟨k, hk, hdk⟩ := List.mem_filterMap.1 h
  unfold diffAt at hdk
  by_cases he : heldM a k = heldM b k
  · rw [if_pos he] at hdk; cases hdk
  · rw [if_neg he] at hdk
    have ek := ((keysM_of a b).2 k).1 hk
    cases hdk
    have hkey : keyB k = true := by
      rcases ek with ⟨x, hx, e⟩ | ⟨x, hx, e⟩
      · rw [← e]; exact (fit_key (ha.1 x hx)).1
      · rw [← e]; exact (fit_key (hb.1 x hx)).1
    have hor : ((heldM a k).2 || (heldM b k).2) = true := by
      rcases ek with e | e
      · rw [held_there e]; rfl
      · rw [held_there e]; simp
    exact form_mk hkey (held_good ha.1 k) (held_good hb.1 k) hor
theorem diff_sizes {a b : List PM} (ha : GoodL a) (hb : GoodL b) : ∀ x ∈ diffM a b, x.1.size ≤ 1048576 ∧ x.2.1.size ≤ 1048576 ∧ x.2.2.1.size ≤ 1048576 := fun x hx => by
  have h := diff_form ha hb hx
  unfold formB at h
  simp only [Bool.and_eq_true] at h
  have h1 := key_size h.1.1.1
  have h2 := side_le h.1.1.2
  have h3 := side_le h.1.2
  omega
theorem good_sizes {a : List PM} (ha : GoodL a) : ∀ x ∈ a, x.1.size ≤ 1048576 ∧ x.2.size ≤ 1048576 := fun x hx => by
  have h := fit_key (ha.1 x hx)
  have h1 := key_size h.1
  have h2 := side_le h.2
  omega
end Go.Proofs.Ytmpaophegdeokaa
