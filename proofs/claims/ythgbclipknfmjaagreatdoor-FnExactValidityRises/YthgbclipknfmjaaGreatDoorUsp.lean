
/-
  The desk of a user of a right mail store; its word. By an AI agent.
-/
import Derived.Test.YthgbclipknfmjaaGreatDoorAsk7
namespace Go.Proofs.YthgbclipknfmjaaGreatDoor
open Go.ChangeShapes Go.WideShapes Go.ChangeAt Go.RowKit Go.Deep Go.Lib
set_option linter.unusedVariables false
set_option linter.unusedSimpArgs false
set_option maxRecDepth 100000

theorem take_word {nx : Int} {u : ByteArray} {S S' : SM} {q : PM} (hus : (47 : UInt8) ∉ u.data.toList) (h : takeM nx u S q = some S') : S'.word = if q.1 = userK u then q.2 else S.word := by
  by_cases ho : ownerM q = some u
  · unfold takeM at h
    unfold ownerM at ho
    match hG : splitL 47 q.1.data.toList, ho, h with
    | [a, b], ho, h =>
      obtain ⟨h1, h2⟩ := ite_some ho
      subst h1
      have h3 : takeP nx u S q [[117], b] = userM u S q.2 := if_pos ⟨h2, rfl⟩
      rw [h3] at h
      unfold userM at h
      obtain ⟨_, rfl⟩ := ite_some h
      rw [if_pos (by rw [(key_user hG).1, h2])]
    | [a, b, c], ho, h =>
      obtain ⟨h1, h2⟩ := ite_some ho
      have h3 : takeP nx u S q [a, b, c] = putM S (folderM nx (bs c) q.2) := if_pos ⟨h2, h1⟩
      rw [h3] at h
      rw [(put_aside h).2, if_neg fun e => by rw [e, parts_user hus] at hG; cases hG]
    | [a, b, c, d], ho, h =>
      obtain ⟨h1, h2⟩ := ite_some ho
      have h3 : takeP nx u S q [a, b, c, d] = putM S (mailM S.fs (bs c) (bs d) q.2) := if_pos ⟨h2, h1⟩
      rw [h3] at h
      rw [(put_aside h).2, if_neg fun e => by rw [e, parts_user hus] at hG; cases hG]
  · have h3 : asideM S q = some S' := (take_other ho).symm.trans h
    cases h3
    rw [if_neg fun e => ho (by unfold ownerM; rw [e, parts_user hus]; rfl)]
theorem all_word {nx : Int} {u : ByteArray} (hus : (47 : UInt8) ∉ u.data.toList) : ∀ {L : List PM} {S S' : SM}, UpL L → takeAll nx u S L = some S' → S'.word = (getM L (userK u)).getD S.word
  | [], S, S', _, h => by cases h; rfl
  | q :: L, S, S', hu, h => by
    unfold takeAll at h
    obtain ⟨S1, h1, h2⟩ := Option.bind_eq_some_iff.1 h
    obtain ⟨u1, u2⟩ := List.pairwise_cons.1 hu
    have hgm : getM (q :: L) (userK u) = if q.1 = userK u then some q.2 else getM L (userK u) := rfl
    rw [all_word hus u2 h2, take_word hus h1, hgm]
    by_cases e : q.1 = userK u
    · have h3 : getM L (userK u) = none := getM_none.2 fun x hx e9 => by
        have h9 := u1 x hx
        rw [e, e9] at h9
        exact ltK_irrefl _ h9
      rw [if_pos e, if_pos e, h3]
      rfl
    · rw [if_neg e, if_neg e]
theorem word_slash {u : ByteArray} (h : shortB u = true) : (47 : UInt8) ∉ u.data.toList := by
  unfold shortB wordB at h
  simp only [Bool.and_eq_true, decide_eq_true_eq] at h
  obtain ⟨⟨⟨⟨h1, _⟩, h2⟩, h3⟩, _⟩ := h
  match hd : u.data.toList with
  | [] => simp
  | c :: r =>
    rw [hd] at h2
    unfold okFrom at h3
    rw [hd] at h3
    rw [List.all_eq_true] at h3
    intro h9
    rcases List.mem_cons.1 h9 with h9 | h9
    · rw [← h9] at h2
      have h2 : letB (((47 : UInt8).toNat : Nat) : Int) = true := h2
      exact absurd h2 (by decide)
    · exact absurd (h3 47 (by simpa using h9)) (by decide)
/-- The facts that a right mail store gives. -/
theorem store_facts {L : List PM} (h : storeB L = true) : GoodL L ∧ ∃ nx, nx = nextM L ∧ 1 ≤ nx ∧ nx ≤ 10000 ∧ inB (numB ((getM L vK).getD e0).data.toList) 1 10000 = true ∧ (∀ u, (∃ q ∈ L, q.1 = userK u) → layF nx u S0 L = true) ∧ ∀ q ∈ L, q.1 = vK ∨ ∃ u, ownerM q = some u ∧ ∃ z ∈ L, z.1 = userK u := by
  have h2 : implB L = true := (impl_store L).trans h
  unfold implB at h2
  rw [Bool.and_eq_true, Bool.and_eq_true] at h2
  obtain ⟨h3, h4, h5⟩ := h2
  have hg := good_of h3
  cases hv : getM L vK with
  | none => rw [hv] at h4; exact absurd h4 (by decide)
  | some v0 =>
    have h4' := h4
    rw [hv, Option.getD_some] at h4
    cases hn : numB v0.data.toList with
    | none => rw [hn] at h4; cases h4
    | some nx =>
      have hnm : nx = nextM L := by unfold nextM; rw [hv]; simp [hn]
      rw [hn] at h4
      have h6 : (decide (1 ≤ nx) && decide (nx ≤ 10000)) = true := h4
      rw [Bool.and_eq_true, decide_eq_true_eq, decide_eq_true_eq] at h6
      obtain ⟨k1, k2⟩ := (known_iff hnm hg.2.2 ⟨_, (getM_mem hg.2.2).1 hv, rfl⟩).1 h5
      rw [hv] at h4'
      exact ⟨hg, nx, hnm, h6.1, h6.2, h4', k1, k2⟩
theorem take_all {L : List PM} {u : ByteArray} (h : storeB L = true) (hus : (47 : UInt8) ∉ u.data.toList) : ∃ S, takeAll (nextM L) u S0 L = some S ∧ S.word = (getM L (userK u)).getD e0 ∧ Inv (nextM L) u L S := by
  obtain ⟨hg, nx, hnm, _, h2, _, k1, k2⟩ := store_facts h
  rw [← hnm]
  have hI : Inv nx u [] S0 := ⟨fun name f' hf => (by cases hf), fun name w _ hm => (by cases hm), rfl⟩
  obtain ⟨m1, m2⟩ := all_step h2 hg.2.2 hus L [] S0 rfl hI
  have hs : (takeAll nx u S0 L).isSome = true := m1.2 fun q hq ho => by
    rcases k2 q hq with e | ⟨u2, ho2, hz⟩
    · rw [owner_v e] at ho; cases ho
    · rw [ho] at ho2
      cases ho2
      exact ((lay_iff h2 hg.2.2 hus).1 (k1 u hz)).1 q hq ho
  obtain ⟨S, hS⟩ := Option.isSome_iff_exists.1 hs
  exact ⟨S, hS, all_word hus hg.2.2 hS, m2 S hS⟩
theorem word_some {L : List PM} (h : storeB L = true) {u v : ByteArray} (hus : (47 : UInt8) ∉ u.data.toList) (hv : getM L (userK u) = some v) : v.toList ≠ [] := by
  obtain ⟨hg, nx, hnm, _, h2, _, k1, k2⟩ := store_facts h
  have hm := (getM_mem hg.2.2).1 hv
  have h3 := ((lay_iff h2 hg.2.2 hus).1 (k1 u ⟨_, hm, rfl⟩)).1 _ hm (by unfold ownerM; rw [parts_user hus]; rfl)
  have h4 : shortB v = true := by
    simp only [parts_user hus] at h3
    exact h3.2
  intro e
  rw [ByteArray.toList_eq] at e
  have h5 : v = ⟨#[]⟩ := bs_inj e
  rw [h5] at h4
  exact absurd h4 (by decide)
end Go.Proofs.YthgbclipknfmjaaGreatDoor
