
/-
  A mail store: the program's count and the specification's look at each pair tell the same. Lists alone. By an AI agent.
-/
import Derived.Test.YthgbclipknfmjaaGreatDoorEqb
namespace Go.Proofs.YthgbclipknfmjaaGreatDoor
open Go.ChangeShapes Go.WideShapes Go.ChangeAt Go.RowKit Go.Deep Go.Lib
set_option linter.unusedVariables false
set_option linter.unusedSimpArgs false
set_option maxRecDepth 100000

theorem key_one {L : List PM} (hu : UpL L) {k v w : ByteArray} (h1 : (k, v) ∈ L) (h2 : (k, w) ∈ L) : v = w := by
  have h3 := (getM_mem hu).2 h1
  rw [(getM_mem hu).2 h2] at h3
  exact (Option.some.inj h3).symm
theorem owner_folder {u name w : ByteArray} (hus : (47 : UInt8) ∉ u.data.toList) (hn : (47 : UInt8) ∉ name.data.toList) : ownerM (folderK u name, w) = some u := by
  unfold ownerM
  rw [parts_folder hus hn]
  rfl
theorem mail_owner {u : ByteArray} {q : PM} (h : isMail u q = true) : ownerM q = some u := by
  unfold isMail at h
  unfold ownerM
  match hG : splitL 47 q.1.data.toList, h with
  | [a, b, c, d], h =>
    have h9 := of_decide_eq_true h
    show (if a = [109] then some (bs b) else none) = _
    rw [if_pos h9.1, h9.2]
theorem take_step {nx : Int} {u : ByteArray} {L P R : List PM} {q : PM} {S : SM} (hnx : nx ≤ 10000) (hu : UpL L) (hL : L = P ++ q :: R) (hus : (47 : UInt8) ∉ u.data.toList) (hI : Inv nx u P S) (ho : ownerM q = some u) :
    ((takeM nx u S q).isSome = true ↔ okG nx u L q.2 (splitL 47 q.1.data.toList)) ∧ ∀ S', takeM nx u S q = some S' → Inv nx u (P ++ [q]) S' := by
  have hpq : ∀ z ∈ P, ltK z.1 q.1 := fun z hz => by
    rw [hL] at hu
    exact (List.pairwise_append.1 hu).2.2 z hz q List.mem_cons_self
  have hqr : ∀ z ∈ R, ltK q.1 z.1 := fun z hz => by
    rw [hL] at hu
    exact (List.pairwise_cons.1 (List.pairwise_append.1 hu).2.1).1 z hz
  have hPL : ∀ z ∈ P, z ∈ L := fun z hz => by rw [hL]; exact List.mem_append_left _ hz
  unfold takeM
  unfold ownerM at ho
  match hG : splitL 47 q.1.data.toList, ho with
  | [a, b], ho =>
    obtain ⟨h1, h2⟩ := ite_some ho
    subst h1
    have h3 : takeP nx u S q [[117], b] = userM u S q.2 := if_pos ⟨h2, rfl⟩
    have hmf : isMail u q = false := by unfold isMail; rw [hG]; rfl
    rw [h3]
    unfold userM
    constructor
    · show _ ↔ shortB u = true ∧ shortB q.2 = true
      rw [← Bool.and_eq_true]
      split
      · simp_all
      · simp_all
    · intro S' hS
      obtain ⟨_, rfl⟩ := ite_some hS
      refine ⟨fun name f' hf => ?_, fun name w hn hm => ?_, ?_⟩
      · obtain ⟨w, f, k1, k2⟩ := hI.a name f' hf
        exact ⟨w, f, List.mem_append_left _ k1, k2⟩
      · rcases List.mem_append.1 hm with hm | hm
        · exact hI.b name w hn hm
        · have h9 := List.mem_singleton.1 hm
          rw [← h9, parts_folder hus hn] at hG
          cases hG
      · show sumF S.fs = _
        rw [filter_snoc, hmf, hI.c]
        simp
  | [a, b, c], ho =>
    obtain ⟨h1, h2⟩ := ite_some ho
    subst h1
    have h3 : takeP nx u S q [[102], b, c] = putM S (folderM nx (bs c) q.2) := if_pos ⟨h2, rfl⟩
    have hmf : isMail u q = false := by unfold isMail; rw [hG]; rfl
    obtain ⟨hk, hnb, hnc⟩ := key_folder hG
    rw [h2] at hk
    rw [h3]
    unfold putM
    constructor
    · rw [Option.isSome_map]
      exact Option.isSome_iff_exists
    · intro S' hS
      obtain ⟨g, hg, rfl⟩ := Option.map_eq_some_iff.1 hS
      have hgf := (folder_meta hnx).1 hg
      have hgn : g.name = bs c := by rw [hgf.2.2.2]
      have hgm : g.mails.length = 0 := by rw [hgf.2.2.2]; rfl
      have hno : lookF g.name S.fs = none := by
        rw [hgn]
        cases hl : lookF (bs c) S.fs with
        | none => rfl
        | some f' =>
          obtain ⟨w, f, k1, _⟩ := hI.a _ _ hl
          have k3 := hpq _ k1
          rw [hk] at k3
          exact absurd k3 (ltK_irrefl _)
      have hqe : (folderK u (bs c), q.2) = q := Prod.ext hk.symm rfl
      refine ⟨fun name f' hf => ?_, fun name w hn hm => ?_, ?_⟩
      · have hf2 : (if g.name = name then some g else lookF name S.fs) = some f' := lookF_put.symm.trans hf
        split at hf2
        · rename_i e
          cases hf2
          rw [hgn] at e
          subst e
          exact ⟨q.2, g, by rw [hqe]; exact List.mem_append_right _ (List.mem_singleton.2 rfl), hg, rfl⟩
        · obtain ⟨w, f, k1, k2⟩ := hI.a name f' hf2
          exact ⟨w, f, List.mem_append_left _ k1, k2⟩
      · show (lookF name (putF g S.fs)).isSome = true
        rw [lookF_put]
        split
        · rfl
        · rename_i e
          rcases List.mem_append.1 hm with hm | hm
          · exact hI.b name w hn hm
          · have h9 := List.mem_singleton.1 hm
            have h8 : folderK u name = folderK u (bs c) := by rw [← hk, ← h9]
            exact absurd (by rw [hgn, folderK_inj h8]) e
      · show sumF (putF g S.fs) = _
        rw [filter_snoc, hmf, sum_fresh hno, hgm, hI.c]
        simp
  | [a, b, c, d], ho =>
    obtain ⟨h1, h2⟩ := ite_some ho
    subst h1
    have h3 : takeP nx u S q [[109], b, c, d] = putM S (mailM S.fs (bs c) (bs d) q.2) := if_pos ⟨h2, rfl⟩
    have hmf : isMail u q = true := by
      unfold isMail
      rw [hG]
      exact decide_eq_true ⟨rfl, h2⟩
    obtain ⟨hk, hnb, hnc⟩ := key_mail hG
    rw [h3]
    unfold putM mailM
    constructor
    · rw [Option.isSome_map]
      show _ ↔ ∃ w f, (folderK u (bs c), w) ∈ L ∧ folderM nx (bs c) w = some f ∧ (mailO f d q.2).isSome = true
      constructor
      · intro h
        cases hl : lookF (bs c) S.fs with
        | none => rw [hl] at h; cases h
        | some f' =>
          rw [hl] at h
          obtain ⟨w, f, k1, k2, k3⟩ := hI.a _ _ hl
          exact ⟨w, f, hPL _ k1, k2, by rw [← mailO_next k3]; exact h⟩
      · rintro ⟨w, f, k1, k2, k3⟩
        have hP : (folderK u (bs c), w) ∈ P := by
          rw [hL] at k1
          rcases List.mem_append.1 k1 with k1 | k1
          · exact k1
          · exfalso
            have hne : ∀ k : ByteArray, k.data.toList = 109 :: 47 :: (b ++ 47 :: (c ++ 47 :: d)) → ¬ ltK k (folderK u (bs c)) ∧ k ≠ folderK u (bs c) := fun k hk => by
              refine ⟨fun h9 => ?_, fun h9 => ?_⟩
              · unfold ltK at h9
                rw [ByteArray.toList_eq, ByteArray.toList_eq, folderK_data, hk] at h9
                simp [Op.bytesLess] at h9
              · rw [h9, folderK_data] at hk
                simp at hk
            rcases List.mem_cons.1 k1 with k1 | k1
            · exact (hne _ hk).2 (by rw [← k1])
            · exact (hne _ hk).1 (hqr _ k1)
        obtain ⟨f', hl⟩ := Option.isSome_iff_exists.1 (hI.b (bs c) w hnc hP)
        obtain ⟨w', f2, m1, m2, m3⟩ := hI.a _ _ hl
        obtain rfl := key_one hu (hPL _ hP) (hPL _ m1)
        rw [k2] at m2
        cases m2
        rw [hl]
        show (mailO f' d q.2).isSome = true
        rw [mailO_next m3]
        exact k3
    · intro S' hS
      obtain ⟨g, hg, rfl⟩ := Option.map_eq_some_iff.1 hS
      obtain ⟨f', hl, hg2⟩ := Option.bind_eq_some_iff.1 hg
      obtain ⟨un, _, _, _, _, _, _, _, _, hgm⟩ := mailO_some hg2
      have hfn := (lookF_mem hl).2
      have hgn : g.name = bs c := by rw [hgm]; exact hfn
      have hgx : g.next = f'.next := by rw [hgm]; rfl
      have hgl : g.mails.length = f'.mails.length + 1 := by rw [hgm]; exact List.length_append
      have hl2 : lookF g.name S.fs = some f' := by rw [hgn]; exact hl
      refine ⟨fun name f2 hf => ?_, fun name w hn hm => ?_, ?_⟩
      · have hf2 : (if g.name = name then some g else lookF name S.fs) = some f2 := lookF_put.symm.trans hf
        split at hf2
        · rename_i e
          cases hf2
          rw [hgn] at e
          subst e
          obtain ⟨w, f, k1, k2, k3⟩ := hI.a _ _ hl
          exact ⟨w, f, List.mem_append_left _ k1, k2, hgx.trans k3⟩
        · obtain ⟨w, f, k1, k2⟩ := hI.a name f2 hf2
          exact ⟨w, f, List.mem_append_left _ k1, k2⟩
      · show (lookF name (putF g S.fs)).isSome = true
        rw [lookF_put]
        split
        · rfl
        · rcases List.mem_append.1 hm with hm | hm
          · exact hI.b name w hn hm
          · have h9 := List.mem_singleton.1 hm
            rw [← h9, parts_folder hus hn] at hG
            cases hG
      · show sumF (putF g S.fs) = _
        have h9 := sum_old hl2
        rw [filter_snoc, hmf, ← hI.c, if_pos rfl]
        omega
theorem aside_step {nx : Int} {u : ByteArray} {P : List PM} {q : PM} {S S' : SM} (hus : (47 : UInt8) ∉ u.data.toList) (hI : Inv nx u P S) (ho : ownerM q ≠ some u) (h : asideM S q = some S') : Inv nx u (P ++ [q]) S' := by
  cases h
  refine ⟨fun name f' hf => ?_, fun name w hn hm => ?_, ?_⟩
  · obtain ⟨w, f, k1, k2⟩ := hI.a name f' hf
    exact ⟨w, f, List.mem_append_left _ k1, k2⟩
  · rcases List.mem_append.1 hm with hm | hm
    · exact hI.b name w hn hm
    · have h9 := List.mem_singleton.1 hm
      exact absurd (by rw [← h9]; exact owner_folder hus hn) ho
  · have hmf : isMail u q = false := by
      cases h9 : isMail u q with
      | false => rfl
      | true => exact absurd (mail_owner h9) ho
    show sumF S.fs = _
    rw [filter_snoc, hmf, hI.c]
    simp
theorem all_step {nx : Int} {u : ByteArray} {L : List PM} (hnx : nx ≤ 10000) (hu : UpL L) (hus : (47 : UInt8) ∉ u.data.toList) : ∀ (R P : List PM) (S : SM), L = P ++ R → Inv nx u P S →
    ((takeAll nx u S R).isSome = true ↔ ∀ q ∈ R, ownerM q = some u → okG nx u L q.2 (splitL 47 q.1.data.toList)) ∧ ∀ S', takeAll nx u S R = some S' → Inv nx u L S'
  | [], P, S, hL, hI => by
    refine ⟨⟨fun _ q hq => (by cases hq), fun _ => rfl⟩, fun S' h => ?_⟩
    cases h
    rw [hL, List.append_nil]
    exact hI
  | q :: R, P, S, hL, hI => by
    have hL2 : L = (P ++ [q]) ++ R := by rw [hL]; simp
    unfold takeAll
    by_cases ho : ownerM q = some u
    · obtain ⟨h1, h2⟩ := take_step hnx hu hL hus hI ho
      cases ht : takeM nx u S q with
      | none =>
        rw [ht] at h1
        constructor
        · constructor
          · intro h; cases h
          · intro h
            exact absurd (h1.2 (h q List.mem_cons_self ho)) (by simp)
        · intro S' h; cases h
      | some S1 =>
        rw [ht] at h1
        obtain ⟨h3, h4⟩ := all_step hnx hu hus R (P ++ [q]) S1 hL2 (h2 S1 ht)
        refine ⟨h3.trans ?_, h4⟩
        constructor
        · intro h z hz hz2
          rcases List.mem_cons.1 hz with rfl | hz
          · exact h1.1 rfl
          · exact h z hz hz2
        · exact fun h z hz => h z (List.mem_cons_of_mem _ hz)
    · have ht : takeM nx u S q = asideM S q := take_other ho
      rw [ht]
      obtain ⟨h3, h4⟩ := all_step hnx hu hus R (P ++ [q]) _ hL2 (aside_step hus hI ho rfl)
      refine ⟨h3.trans ?_, h4⟩
      constructor
      · intro h z hz hz2
        rcases List.mem_cons.1 hz with rfl | hz
        · exact absurd hz2 ho
        · exact h z hz hz2
      · exact fun h z hz => h z (List.mem_cons_of_mem _ hz)
theorem lay_iff {nx : Int} {u : ByteArray} {L : List PM} (hnx : nx ≤ 10000) (hu : UpL L) (hus : (47 : UInt8) ∉ u.data.toList) :
    layF nx u S0 L = true ↔ (∀ q ∈ L, ownerM q = some u → okG nx u L q.2 (splitL 47 q.1.data.toList)) ∧ (∃ w f, (folderK u inboxT, w) ∈ L ∧ folderM nx inboxT w = some f) ∧ (L.filter (isMail u)).length ≤ 6 := by
  have hI : Inv nx u [] S0 := ⟨fun name f' hf => (by cases hf), fun name w _ hm => (by cases hm), rfl⟩
  obtain ⟨h1, h2⟩ := all_step hnx hu hus L [] S0 rfl hI
  unfold layF
  cases ht : takeAll nx u S0 L with
  | none =>
    rw [ht] at h1
    constructor
    · intro h; cases h
    · rintro ⟨h, _⟩; exact absurd (h1.2 h) (by simp)
  | some S' =>
    rw [ht] at h1
    have hI2 := h2 S' ht
    show ((lookF inboxT S'.fs).isSome && decide (sumF S'.fs ≤ 6)) = true ↔ _
    rw [Bool.and_eq_true, decide_eq_true_eq, hI2.c]
    constructor
    · rintro ⟨h3, h4⟩
      obtain ⟨f', hf⟩ := Option.isSome_iff_exists.1 h3
      obtain ⟨w, f, k1, k2, _⟩ := hI2.a _ _ hf
      exact ⟨h1.1 rfl, ⟨w, f, k1, k2⟩, h4⟩
    · rintro ⟨_, ⟨w, f, k1, k2⟩, h4⟩
      exact ⟨hI2.b _ w (by decide) k1, h4⟩
end Go.Proofs.YthgbclipknfmjaaGreatDoor
