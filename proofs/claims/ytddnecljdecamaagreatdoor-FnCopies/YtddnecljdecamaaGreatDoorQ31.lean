/-
  Rnp Lie Kst in one. By an AI agent.
-/
import Derived.Test.YtddnecljdecamaaGreatDoorQ30
namespace Go.Proofs.YtddnecljdecamaaGreatDoor
open Go.ChangeShapes Go.WideShapes Go.ChangeAt Go.RowKit Go.Deep Go.Lib
set_option linter.unusedVariables false
set_option linter.unusedSimpArgs false
set_option maxRecDepth 100000

/-- Pairs put into a list, one by one. -/
def insAll (X : List PM) (R : List PM) : List PM := X.foldl (fun R p => insL p.1 p.2 R) R
theorem ins_all : ∀ {X R : List PM}, UpL R → X.Pairwise (fun a b => a.1 ≠ b.1) → (∀ p ∈ X, ∀ x ∈ R, x.1 ≠ p.1) → UpL (insAll X R) ∧ (insAll X R).Perm (X ++ R)
  | [], R, hu, _, _ => ⟨hu, List.Perm.refl _⟩
  | p :: X, R, hu, hp, hx => by
    obtain ⟨h1, h2⟩ := List.pairwise_cons.1 hp
    have hi : (insL p.1 p.2 R).Perm (p :: R) := by
      have h9 := ins_perm (k := p.1) (v := p.2) hu
      rw [notK_self (hx p List.mem_cons_self)] at h9
      exact h9
    obtain ⟨k1, k2⟩ := ins_all (X := X) (R := insL p.1 p.2 R) (ins_up hu) h2 (fun q hq x hxx => by
      rcases List.mem_cons.1 (hi.mem_iff.1 hxx) with rfl | h9
      · exact h1 q hq
      · exact hx q (List.mem_cons_of_mem _ hq) x h9)
    exact ⟨k1, k2.trans ((List.Perm.append_left X hi).trans List.perm_middle)⟩
theorem insAll_step (X R : List PM) (j : Nat) (hj : j < X.length) : insAll (X.take (j + 1)) R = insL (X.getD j p0).1 (X.getD j p0).2 (insAll (X.take j) R) := by
  unfold insAll
  rw [List.take_add_one, List.getD_eq_getElem?_getD, List.getElem?_eq_getElem hj, List.foldl_append]
  rfl
theorem insAll_up (X : List PM) : ∀ {R : List PM}, UpL R → UpL (insAll X R) := by
  induction X with
  | nil => exact fun h => h
  | cons p X ih => exact fun h => ih (ins_up h)
theorem insAll_len (X : List PM) : ∀ {R : List PM}, UpL R → (insAll X R).length ≤ R.length + X.length := by
  induction X with
  | nil => exact fun h => Nat.le_refl _
  | cons p X ih =>
    intro R h
    have h1 := ih (R := insL p.1 p.2 R) (ins_up h)
    have h2 := (ins_len (k := p.1) (v := p.2) h).1
    rw [List.length_cons]
    show (insAll X (insL p.1 p.2 R)).length ≤ _
    omega
def fm0 : FM := ⟨⟨#[]⟩, 0, 0, []⟩
def rnG (f : ByteArray) : Option SM → FM
  | some S => (lookF f S.fs).getD fm0
  | none => fm0
/-- A folder of the list, as it lies on the desk. -/
def rnF (L : List PM) (u f : ByteArray) : FM := rnG f (takeAll (nextM L) u S0 L)
theorem rnF_is {L : List PM} {u f : ByteArray} {S : SM} {g : FM} (hS : takeAll (nextM L) u S0 L = some S) (hl : lookF f S.fs = some g) : rnF L u f = g := by
  unfold rnF
  rw [hS]
  show (lookF f S.fs).getD fm0 = g
  rw [hl]
  rfl
abbrev rnN (L : List PM) (u f : ByteArray) : List PM := notK (folderK u f) (emptyR L u f)
def rnT (L : List PM) (Ms : List PM) (r : List PM × Int) : List PM × Int := if r.2 ≠ 0 then (L, r.2) else (insAll Ms r.1, 0)
def rnR (L : List PM) (u f tf : ByteArray) : List PM × Int :=
  if knownR L u f ≠ 0 then (L, knownR L u f) else if f = inboxT then (L, 11) else if knownR L u tf = 0 then (L, 9) else rnT L ((rnF L u f).mails.map (mailP u tf)) (freshR (rnN L u f) L u tf (rnF L u f).next)
def rnO (nx : Int) (S : SM) (f tf : ByteArray) : Option FM → Int × Int × SM
  | none => (16, nx, S)
  | some g => if f = inboxT then (11, nx, S) else if (lookF tf S.fs).isSome = true then (9, nx, S) else if 9999 < nx then (6, nx, ⟨S.aside, S.word, dropF f S.fs⟩) else (0, nx + 1, ⟨S.aside, S.word, putF ⟨tf, nx, g.next, g.mails⟩ (dropF f S.fs)⟩)
theorem rnO_some (nx : Int) (S : SM) (f tf : ByteArray) (g : FM) : rnO nx S f tf (some g) = if f = inboxT then (11, nx, S) else if (lookF tf S.fs).isSome = true then (9, nx, S) else if 9999 < nx then (6, nx, ⟨S.aside, S.word, dropF f S.fs⟩) else (0, nx + 1, ⟨S.aside, S.word, putF ⟨tf, nx, g.next, g.mails⟩ (dropF f S.fs)⟩) := rfl
def rnM (nx : Int) (S : SM) (f tf : ByteArray) : Int × Int × SM := if S.word.toList = [] then (15, nx, S) else rnO nx S f tf (lookF f S.fs)
theorem look_drop {n m : ByteArray} : ∀ {fs : List FM}, lookF n fs = none → lookF n (dropF m fs) = none
  | [], _ => rfl
  | f :: fs, h => by
    unfold lookF at h
    by_cases e : f.name = n
    · rw [if_pos e] at h; cases h
    · rw [if_neg e] at h
      unfold dropF
      by_cases e2 : f.name = m
      · rw [if_pos e2]; exact h
      · rw [if_neg e2]
        unfold lookF
        rw [if_neg e]
        exact look_drop h
theorem pass_v (u f T : ByteArray) : passB u f (vK, T) = true := by
  unfold passB
  rw [Bool.and_eq_true, decide_eq_true_eq]
  refine ⟨(folder_not u f).symm, ?_⟩
  cases hb : beginsB vK (preK u f) with
  | false => rfl
  | true =>
    obtain ⟨r, hr⟩ := begins_pre.1 hb
    simp at hr
theorem pass_u (u f T : ByteArray) : passB u f (userK u, T) = true := by
  unfold passB
  rw [Bool.and_eq_true, decide_eq_true_eq]
  refine ⟨fun e => ?_, ?_⟩
  · have h9 := congrArg (fun x : ByteArray => x.data.toList) e
    simp [ByteArray.data_append] at h9
  · cases hb : beginsB (userK u) (preK u f) with
    | false => rfl
    | true =>
      obtain ⟨r, hr⟩ := begins_pre.1 hb
      simp [ByteArray.data_append] at hr
theorem next_drop {L : List PM} {u f : ByteArray} (h : storeB L = true) : nextM (rnN L u f) = nextM L := by
  have hu := (store_facts h).1.2.2
  obtain ⟨T, hT⟩ : ∃ T, (vK, T) ∈ L := ⟨_, v_mem h⟩
  have a1 : getM L vK = some T := (getM_mem hu).2 hT
  have a2 : getM (rnN L u f) vK = some T := by
    unfold rnN
    rw [drop_eq]
    exact (getM_mem (hu.sublist List.filter_sublist)).2 (List.mem_filter.2 ⟨hT, pass_v u f T⟩)
  unfold nextM
  rw [a1, a2]
theorem no_mails {L : List PM} {u f : ByteArray} {S : SM} (h : storeB L = true) (hus : (47 : UInt8) ∉ u.data.toList) (hfs : (47 : UInt8) ∉ f.data.toList) (hS : takeAll (nextM L) u S0 L = some S) (hw : S.word.toList ≠ []) (hl : lookF f S.fs = none) : ∀ x ∈ L, beginsB x.1 (preK u f) = false := fun x hx => by
  rcases List.mem_cons.1 ((desk_list h hus hS hw).mem_iff.1 hx) with rfl | hx
  · exact pass_not (pass_v u f _)
  rcases List.mem_cons.1 hx with rfl | hx
  · exact pass_not (pass_u u f _)
  rcases List.mem_append.1 hx with hx | hx
  · exact pass_not (aside_pass h hus hfs hS hx)
  · have hr := rest_pass (u := u) (f := f) (fs := S.fs) hus hfs fun g hg => ⟨(fun e => by
      have h9 := look_mem' hg
      rw [e, hl] at h9
      cases h9), word_slash (name_short h hus hS hg)⟩
    rw [List.filter_eq_self] at hr
    exact pass_not (hr x hx)
theorem mailK_swap {u f g : ByteArray} {a b : Int} (e : mailK u f a = mailK u f b) : mailK u g a = mailK u g b := by
  have h9 := congrArg (fun x : ByteArray => x.data.toList) e
  have h8 : d3 a.toNat = d3 b.toNat := by simpa [bs] using h9
  show bs _ = bs _
  rw [h8]
theorem mails_apart {L : List PM} {u f tf : ByteArray} {S : SM} {g : FM} (h : storeB L = true) (hS : takeAll (nextM L) u S0 L = some S) (hl : lookF f S.fs = some g) : (g.mails.map (mailP u tf)).Pairwise (fun a b => a.1 ≠ b.1) := by
  obtain ⟨hgm, hgn⟩ := lookF_mem hl
  have hsub := store_sub h hS g hgm
  unfold SubF at hsub
  have hp := (store_facts h).1.2.2.sublist hsub
  unfold UpL at hp
  rw [List.pairwise_map] at hp ⊢
  exact hp.imp fun h9 e => ltK_ne h9 (mailK_swap e)
theorem begins_mail (u f : ByteArray) (m : MMl) : beginsB (mailP u f m).1 (preK u f) = true := begins_pre.2 ⟨d3 m.1.toNat, by simp [mailP, bs]⟩
theorem rn_fits {L : List PM} {u f tf : ByteArray} {S S' : SM} {q nx' : Int} (h : storeB L = true) (hsu : shortB u = true) (hsf : shortB f = true) (hst : shortB tf = true) (hS : takeAll (nextM L) u S0 L = some S) (hQ : rnM (nextM L) S f tf = (q, nx', S')) : OpFits L u q nx' S' (rnR L u f tf) := by
  have hus := word_slash hsu
  have hfs := word_slash hsf
  have hts := word_slash hst
  obtain ⟨hg, nx0, hnm, n1, n2, _, _, _⟩ := store_facts h
  rw [hnm] at n1 n2
  obtain ⟨hwi, hwd⟩ := word_iff h hus hS
  obtain ⟨hli, hln⟩ := look_iff h hus hS hfs
  obtain ⟨hti, htn⟩ := look_iff h hus hS hts
  unfold rnM at hQ
  by_cases hw : S.word.toList = []
  · rw [if_pos hw] at hQ
    cases hQ
    have hk : knownR L u f = 15 := by unfold knownR; rw [hwi.1 hw]; rfl
    unfold rnR
    rw [hk, if_pos (by decide)]
    exact ⟨fun _ => rfl, fun h9 => by cases h9⟩
  rw [if_neg hw] at hQ
  have hs : (getM L (userK u)).isSome = true := by
    cases hv : getM L (userK u) with
    | none => exact absurd (hwi.2 hv) hw
    | some v => rfl
  cases hl : lookF f S.fs with
  | none =>
    rw [hl] at hQ
    cases hQ
    have hk : knownR L u f = 16 := by unfold knownR; rw [hs, ← hli, hl]; rfl
    unfold rnR
    rw [hk, if_pos (by decide)]
    exact ⟨fun _ => rfl, fun h9 => by cases h9⟩
  | some g =>
    rw [hl, rnO_some] at hQ
    have hk : knownR L u f = 0 := by unfold knownR; rw [hs, ← hli, hl]; rfl
    unfold rnR
    rw [hk, if_neg (by decide)]
    by_cases hi : f = inboxT
    · rw [if_pos hi] at hQ
      cases hQ
      rw [if_pos hi]
      exact ⟨fun _ => rfl, fun h9 => by cases h9⟩
    rw [if_neg hi] at hQ
    rw [if_neg hi]
    by_cases ht : (lookF tf S.fs).isSome = true
    · rw [if_pos ht] at hQ
      cases hQ
      have hk2 : knownR L u tf = 0 := by unfold knownR; rw [hs, ← hti, ht]; rfl
      rw [if_pos hk2]
      exact ⟨fun _ => rfl, fun h9 => by cases h9⟩
    rw [if_neg ht] at hQ
    have ht0 : lookF tf S.fs = none := by
      cases hv : lookF tf S.fs with
      | none => rfl
      | some z => rw [hv] at ht; exact absurd rfl ht
    have hk2 : knownR L u tf = 16 := by unfold knownR; rw [hs, ← hti, ht0]; rfl
    rw [hk2, if_neg (by decide), rnF_is hS hl]
    have hd : dropM (nextM L) S f = (0, nextM L, ⟨S.aside, S.word, dropF f S.fs⟩) := by
      unfold dropM
      rw [if_neg hw, if_neg (by rw [hl]; simp), if_neg hi]
    obtain ⟨_, _, _, Y, y1, y2, y3, y4⟩ := (drop_fits h hsu hsf hS hd).2 rfl
    have hY : Y = rnN L u f := by
      unfold dropR at y4
      rw [hk, if_neg (by decide), if_neg hi] at y4
      unfold fitsR at y4
      split at y4
      · exact absurd (Prod.mk.inj y4).2 (by decide)
      · exact (Prod.mk.inj y4).1.symm
    rw [hY] at y1 y2
    clear hY y3 y4 Y
    unfold freshR
    rw [next_drop h]
    by_cases hx : 9999 < nextM L
    · rw [if_pos hx] at hQ
      cases hQ
      rw [if_pos hx]
      exact ⟨fun _ => rfl, fun h9 => by cases h9⟩
    rw [if_neg hx] at hQ
    cases hQ
    rw [if_neg hx]
    obtain ⟨hgm, hgn⟩ := lookF_mem hl
    obtain ⟨e1, e2, e3, e4, e5, e6⟩ := store_fit h hS g hgm
    have htz := short_size' hst
    refine ⟨fun h9 => absurd rfl h9, fun _ => ⟨by omega, by omega, fun x hx => ?_, ?_⟩⟩
    · rcases putF_mem hx with hx | rfl
      · exact store_fit h hS x ((dropF_sub f S.fs).subset hx)
      · exact ⟨by show 0 ≤ nextM L; omega, n2, e3, e4, by show tf.size ≤ 1000; omega, e6⟩
    obtain ⟨V1, hV1⟩ : ∃ V, bs (itoa (nextM L + 1)) = V := ⟨_, rfl⟩
    obtain ⟨MT, hMT⟩ : ∃ V, metaT (nextM L) g.next = V := ⟨_, rfl⟩
    rw [hV1, hMT]
    obtain ⟨D, hD⟩ : ∃ D, (userK u, S.word) :: (notK vK S.aside ++ flatF u (dropF f S.fs)) = D := ⟨_, rfl⟩
    have p1 : (rnN L u f).Perm ((vK, bs (itoa (nextM L))) :: D) := by
      rw [← hD]
      exact y2.symm
    have p2 := swap_ins (v' := V1) y1 p1
    have u2 := ins_up (k := vK) (v := V1) y1
    have hNL : ∀ x ∈ insL vK V1 (rnN L u f), x.1 = vK ∨ x ∈ L := fun x hx => by
      rcases ins_mem y1 hx with rfl | hx
      · exact .inl rfl
      · have h9 := hx.1
        unfold rnN at h9
        rw [drop_eq] at h9
        exact .inr (List.mem_filter.1 h9).1
    have p3 : (insL (folderK u tf) MT (insL vK V1 (rnN L u f))).Perm ((folderK u tf, MT) :: (vK, V1) :: D) := by
      have h9 := ins_perm (k := folderK u tf) (v := MT) u2
      rw [notK_self fun x hx => ?_] at h9
      · exact h9.trans (List.Perm.cons _ p2)
      · rcases hNL x hx with e | e
        · rw [e]; exact (folder_not u tf).symm
        · exact htn ht0 x e
    have u3 := ins_up (k := folderK u tf) (v := MT) u2
    obtain ⟨Y0, hY0⟩ : ∃ Y, insL (folderK u tf) MT (insL vK V1 (rnN L u f)) = Y := ⟨_, rfl⟩
    have hno : ∀ p ∈ g.mails.map (mailP u tf), ∀ x ∈ Y0, x.1 ≠ p.1 := fun p hp x hx e => by
      rw [← hY0] at hx
      rcases ins_mem u2 hx with rfl | hx
      · exact mails_not p hp e.symm
      · obtain ⟨m, _, rfl⟩ := List.mem_map.1 hp
        rcases hNL x hx.1 with e2 | e2
        · rw [e2] at e
          exact mailK_not u tf m.1 e.symm
        · have h8 := no_mails h hus hts hS hw ht0 x e2
          rw [e, begins_mail u tf m] at h8
          cases h8
    rw [hY0] at p3 u3 ⊢
    obtain ⟨u4, p4⟩ := ins_all u3 (mails_apart (tf := tf) h hS hl) hno
    have l1 := (desk_list h hus hS hw).length_eq
    have l2 := (flat_perm (u := u) (drop_perm hl)).length_eq
    have l3 := p4.length_eq
    have l4 := p3.length_eq
    have hDl : D.length = 1 + ((notK vK S.aside).length + (flatF u (dropF f S.fs)).length) := by
      rw [← hD, List.length_cons, List.length_append]
      omega
    rw [flat_cons, List.length_append] at l2
    have l5 : (fPairs u g).length = g.mails.length + 1 := by unfold fPairs; rw [List.length_cons, List.length_map]
    rw [List.length_cons, List.length_cons, List.length_append] at l1
    rw [List.length_append, List.length_map] at l3
    rw [List.length_cons, List.length_cons] at l4
    have h60 := hg.1
    refine ⟨insAll (g.mails.map (mailP u tf)) Y0, u4, ?_, by omega, ?_⟩
    · refine List.Perm.trans ?_ p4.symm
      refine List.Perm.trans ?_ (List.Perm.append_left _ p3.symm)
      have e7 : flatF u (putF ⟨tf, nextM L, g.next, g.mails⟩ (dropF f S.fs)) = flatF u (dropF f S.fs) ++ ((folderK u tf, MT) :: g.mails.map (mailP u tf)) := by
        rw [put_none (look_drop ht0)]
        unfold flatF
        rw [List.flatMap_append, List.flatMap_cons, List.flatMap_nil, List.append_nil]
        rw [← hMT]
        rfl
      unfold deskP
      show ((vK, bs (itoa (nextM L + 1))) :: (userK u, S.word) :: (notK vK S.aside ++ flatF u (putF ⟨tf, nextM L, g.next, g.mails⟩ (dropF f S.fs)))).Perm _
      rw [e7, hV1, ← List.append_assoc]
      have e8 : (vK, V1) :: (userK u, S.word) :: ((notK vK S.aside ++ flatF u (dropF f S.fs)) ++ ((folderK u tf, MT) :: g.mails.map (mailP u tf))) = ((vK, V1) :: D) ++ ((folderK u tf, MT) :: g.mails.map (mailP u tf)) := by
        rw [← hD]
        rfl
      rw [e8]
      refine List.perm_append_comm.trans ?_
      exact List.perm_middle.symm
    · have f1 : fitsR L Y0 = (Y0, 0) := by unfold fitsR; rw [if_neg (by omega)]
      rw [f1]
      unfold rnT fitsR
      rw [if_neg (by simp), if_neg (by omega)]
end Go.Proofs.YtddnecljdecamaaGreatDoor
namespace Go.Proofs.YtddnecljdecamaaGreatDoor
open Go.ChangeShapes Go.WideShapes Go.ChangeAt Go.RowKit Go.Deep Go.Lib
set_option linter.unusedVariables false
set_option linter.unusedSimpArgs false
set_option maxRecDepth 100000

/-- A list is what a desk tells, in its order; what lies aside is nothing of the user's. -/
structure Lies (N : List PM) (nx : Int) (u : ByteArray) (S : SM) : Prop where
  up : UpL N
  pm : N.Perm (deskP nx u S)
  nd : (S.fs.map (·.name)).Nodup
  sl : ∀ g ∈ S.fs, (47 : UInt8) ∉ g.name.data.toList
  pass : ∀ f : ByteArray, (47 : UInt8) ∉ f.data.toList → ∀ p ∈ notK vK S.aside, passB u f p = true
  away : ∀ p ∈ notK vK S.aside, beginsB p.1 (mailsK u) = false
theorem away_owner {u : ByteArray} {p : PM} (h : ownerM p ≠ some u) : isMail u p = false := by
  unfold ownerM at h
  unfold isMail
  match hG : splitL 47 p.1.data.toList, h with
  | [], _ => rfl
  | [a], _ => rfl
  | [a, b], _ => rfl
  | [a, b, c], _ => rfl
  | [a, b, c, d], h =>
    refine decide_eq_false fun h9 => h ?_
    show (if a = [109] then some (bs b) else none) = some u
    rw [if_pos h9.1, h9.2]
  | a :: b :: c :: d :: e :: r, _ => rfl
theorem begins_flat {u : ByteArray} (hus : (47 : UInt8) ∉ u.data.toList) : ∀ fs : List FM, ((flatF u fs).filter fun p => beginsB p.1 (mailsK u)).length = sumF fs
  | [] => rfl
  | g :: fs => by
    rw [flat_cons, List.filter_append, List.length_append, begins_flat hus fs]
    unfold fPairs
    have e1 : beginsB (folderK u g.name) (mailsK u) = false := by
      cases hb : beginsB (folderK u g.name) (mailsK u) with
      | false => rfl
      | true =>
        obtain ⟨r, hr⟩ := begins_iff.1 hb
        rw [folderK_data, mailsK_data] at hr
        simp at hr
    have e2 : ((g.mails.map (mailP u g.name)).filter fun p => beginsB p.1 (mailsK u)) = g.mails.map (mailP u g.name) := by
      rw [List.filter_eq_self]
      intro p hp
      obtain ⟨m, _, rfl⟩ := List.mem_map.1 hp
      refine begins_iff.2 ⟨g.name.data.toList ++ 47 :: d3 m.1.toNat, ?_⟩
      rw [mailsK_data]
      simp [mailP, bs]
    rw [List.filter_cons_of_neg (by rw [e1]; simp), e2, List.length_map]
    rfl
theorem lies_count {N : List PM} {nx : Int} {u : ByteArray} {S : SM} (h : Lies N nx u S) (hus : (47 : UInt8) ∉ u.data.toList) : countM N u = sumF S.fs := by
  unfold countM
  rw [(h.pm.filter _).length_eq]
  unfold deskP
  have e1 : beginsB vK (mailsK u) = false := by
    cases hb : beginsB vK (mailsK u) with
    | false => rfl
    | true =>
      obtain ⟨r, hr⟩ := begins_iff.1 hb
      rw [mailsK_data] at hr
      simp at hr
  have e2 : beginsB (userK u) (mailsK u) = false := by
    cases hb : beginsB (userK u) (mailsK u) with
    | false => rfl
    | true =>
      obtain ⟨r, hr⟩ := begins_iff.1 hb
      rw [mailsK_data] at hr
      simp [ByteArray.data_append] at hr
  rw [List.filter_cons_of_neg (by rw [e1]; simp), List.filter_cons_of_neg (by rw [e2]; simp), List.filter_append]
  have e3 : ((notK vK S.aside).filter fun p => beginsB p.1 (mailsK u)) = [] := by
    rw [List.filter_eq_nil_iff]
    intro p hp
    rw [h.away p hp]
    simp
  rw [e3, List.nil_append, begins_flat hus]
theorem lies_next {N : List PM} {nx : Int} {u : ByteArray} {S : SM} (h : Lies N nx u S) (n0 : 0 ≤ nx) (n1 : nx ≤ 10000) : nextM N = nx := by
  have h1 : (vK, bs (itoa nx)) ∈ N := h.pm.mem_iff.2 List.mem_cons_self
  unfold nextM
  rw [(getM_mem h.up).2 h1]
  show (numB (bs (itoa nx)).data.toList).getD 0 = nx
  rw [show (bs (itoa nx)).data.toList = itoa nx from by simp [bs], num_of_is ⟨rfl, by omega⟩]
  rfl
end Go.Proofs.YtddnecljdecamaaGreatDoor
namespace Go.Proofs.YtddnecljdecamaaGreatDoor
open Go.ChangeShapes Go.WideShapes Go.ChangeAt Go.RowKit Go.Deep Go.Lib
set_option linter.unusedVariables false
set_option linter.unusedSimpArgs false
set_option maxRecDepth 100000

theorem pairs_of {Y : List PM} (hg : GoodL Y) : pairsB (fK Y) (fV Y) Y.length = true := by
  refine pairsB_good _ _ _ hg.1 fun k hk => ?_
  have h1 := hg.2.1 _ (List.getElem_mem hk)
  unfold goodB fitB keyB riseB
  rw [(at_fst hk).1, (at_fst hk).2, decide_eq_true (by omega), decide_eq_true (by omega), decide_eq_true (by omega)]
  by_cases e : k = 0
  · rw [decide_eq_true e]
    rfl
  · have hk1 : k - 1 < Y.length := by omega
    have h2 := List.pairwise_iff_getElem.1 hg.2.2 (k - 1) k hk1 hk (by omega)
    rw [(at_fst hk1).1]
    unfold ltK at h2
    rw [h2]
    simp
theorem meta_is {x y : Int} (h : 1 ≤ x ∧ x ≤ 9999 ∧ 1 ≤ y ∧ y ≤ 999) : metaV (metaT x y) = some (x, y) := by
  have n1 : numB (itoa x) = some x := num_of_is ⟨rfl, by omega⟩
  have n2 : numB (itoa y) = some y := num_of_is ⟨rfl, by omega⟩
  have e : (metaT x y).data.toList = itoa x ++ 32 :: itoa y := by simp [metaT, bs, ByteArray.data_append]
  rw [metaV_two (a := itoa x) (b := itoa y) (by rw [e, splitL_seg _ _ _ (num_space n1), splitL_whole _ _ (num_space n2)]), n1, n2]
  show (if 1 ≤ x ∧ x ≤ 9999 ∧ 1 ≤ y ∧ y ≤ 999 then some (x, y) else none) = some (x, y)
  rw [if_pos h]
theorem getM_same {Y N : List PM} (hY : UpL Y) (hN : UpL N) {k : ByteArray} (h : ∀ w, (k, w) ∈ Y ↔ (k, w) ∈ N) : getM Y k = getM N k := by
  apply Option.ext
  intro v
  rw [getM_mem hY, getM_mem hN]
  exact h v
theorem owner_folderK {u f w : ByteArray} (hus : (47 : UInt8) ∉ u.data.toList) (hfs : (47 : UInt8) ∉ f.data.toList) : ownerM (folderK u f, w) = some u := by
  unfold ownerM
  show ownerG (splitL 47 (folderK u f).data.toList) = _
  rw [folderK_data, show (102 :: 47 :: (u.data.toList ++ 47 :: f.data.toList) : List UInt8) = [102] ++ 47 :: (u.data.toList ++ 47 :: f.data.toList) from rfl, splitL_seg 47 [102] _ (by decide), splitL_seg 47 _ _ hus, splitL_whole 47 _ hfs]
  show (if ([102] : List UInt8) = [102] then some (bs u.data.toList) else none) = some u
  rw [if_pos rfl, data_bs]
theorem userK_data (u : ByteArray) : (userK u).data.toList = 117 :: 47 :: u.data.toList := by simp [userK, ByteArray.data_append]
theorem owner_user {u w : ByteArray} (hus : (47 : UInt8) ∉ u.data.toList) : ownerM (userK u, w) = some u := by
  unfold ownerM
  show ownerG (splitL 47 (userK u).data.toList) = _
  rw [userK_data, show (117 :: 47 :: u.data.toList : List UInt8) = [117] ++ 47 :: u.data.toList from rfl, splitL_seg 47 [117] _ (by decide), splitL_whole 47 _ hus]
  show (if ([117] : List UInt8) = [117] then some (bs u.data.toList) else none) = some u
  rw [if_pos rfl, data_bs]
theorem owner_mails {u v : ByteArray} {p : PM} (hv : (47 : UInt8) ∉ v.data.toList) (hne : v ≠ u) (h : beginsB p.1 (mailsK v) = true) : p.1 ≠ vK ∧ ownerM p ≠ some u := by
  obtain ⟨r, hr⟩ := begins_iff.1 h
  rw [mailsK_data] at hr
  have e : p.1.data.toList = [109] ++ 47 :: (v.data.toList ++ 47 :: r) := by rw [hr]; simp
  refine ⟨fun e9 => ?_, ?_⟩
  · rw [e9] at e
    cases e
  unfold ownerM
  rw [e, splitL_seg 47 [109] _ (by decide), splitL_seg 47 _ _ hv]
  match hs : splitL 47 r with
  | [] => exact absurd hs (splitL_ne 47 _)
  | [c] => exact fun h9 => by cases h9
  | [c, d] =>
    intro h9
    have h8 : some (bs v.data.toList) = some u := h9
    rw [data_bs] at h8
    exact hne (Option.some.inj h8)
  | _ :: _ :: _ :: _ => exact fun h9 => by cases h9
theorem count_same {Y N : List PM} {u v : ByteArray} (hY : UpL Y) (hN : UpL N) (hoth : ∀ p : PM, p.1 ≠ vK → ownerM p ≠ some u → (p ∈ Y ↔ p ∈ N)) (hv : (47 : UInt8) ∉ v.data.toList) (hne : v ≠ u) : countM Y v = countM N v := by
  have nd : ∀ {L : List PM}, UpL L → L.Nodup := fun h => h.imp fun {a b} h9 e => by rw [e] at h9; exact ltK_irrefl _ h9
  have hp : (Y.filter fun x => beginsB x.1 (mailsK v)).Perm (N.filter fun x => beginsB x.1 (mailsK v)) := by
    refine (List.perm_ext_iff_of_nodup ((nd hY).sublist List.filter_sublist) ((nd hN).sublist List.filter_sublist)).2 fun p => ?_
    rw [List.mem_filter, List.mem_filter]
    constructor
    · rintro ⟨h1, h2⟩
      obtain ⟨k1, k2⟩ := owner_mails hv hne h2
      exact ⟨(hoth p k1 k2).1 h1, h2⟩
    · rintro ⟨h1, h2⟩
      obtain ⟨k1, k2⟩ := owner_mails hv hne h2
      exact ⟨(hoth p k1 k2).2 h1, h2⟩
  exact hp.length_eq
theorem no_slash {c : UInt8} {l : List UInt8} {G : List (List UInt8)} (h : splitL c l = G) : ∀ p ∈ G, c ∉ (bs p).data.toList := fun p hp => by
  rw [← h] at hp
  have h9 := splitL_no c l p hp
  simpa [bs] using h9
theorem fold_mono {n m : Int} {v : ByteArray} {o : Option (Int × Int)} (hnm : n ≤ m) (h : foldB n v o = true) : foldB m v o = true := by
  cases o with
  | none => cases h
  | some p =>
    unfold foldB at h ⊢
    rw [Bool.and_eq_true, decide_eq_true_eq] at h ⊢
    exact ⟨by omega, h.2⟩
theorem folder_nv (u f : ByteArray) : folderK u f ≠ vK := fun e => by
  have h1 := congrArg (fun x : ByteArray => x.data.toList) e
  simp only [folderK_data] at h1
  cases h1
theorem user_nv (u : ByteArray) : userK u ≠ vK := fun e => by
  have h1 := congrArg (fun x : ByteArray => x.data.toList) e
  simp only [userK_data] at h1
  cases h1
/-- A list is a store if one user's pairs are right in it and all others are as they were in a store. -/
theorem store_keep {N Y : List PM} {u : ByteArray} {nx' : Int} (hN : storeB N = true) (hg : GoodL Y) (hv : (vK, bs (itoa nx')) ∈ Y) (hnx : nextM N ≤ nx') (hn9 : nx' ≤ 10000) (hoth : ∀ p : PM, p.1 ≠ vK → ownerM p ≠ some u → (p ∈ Y ↔ p ∈ N)) (hown : ∀ p ∈ Y, ownerM p = some u → p.1 ≠ vK → askG Y nx' p.2 (splitL 47 p.1.data.toList)) : storeB Y = true := by
  obtain ⟨hgN, nx0, hnm, n1, _⟩ := store_facts hN
  rw [hnm] at n1
  have hnY : nextM Y = nx' := by
    unfold nextM
    rw [(getM_mem hg.2.2).2 hv]
    show (numB (bs (itoa nx')).data.toList).getD 0 = nx'
    rw [show (bs (itoa nx')).data.toList = itoa nx' from by simp [bs], num_of_is ⟨rfl, by omega⟩]
    rfl
  have hall : ∀ p ∈ N, pairB N (nextM N) p = true := by
    unfold storeB at hN
    rw [Bool.and_eq_true] at hN
    exact List.all_eq_true.1 hN.2
  have hmeta : ∀ {v f : ByteArray}, (47 : UInt8) ∉ v.data.toList → (47 : UInt8) ∉ f.data.toList → v ≠ u → metaM Y v f = metaM N v f := fun {v f} hv hf hne => by
    unfold metaM
    rw [getM_same hg.2.2 hgN.2.2 fun w => hoth (folderK v f, w) (folder_nv v f) (by rw [owner_folderK hv hf]; exact fun e => hne (Option.some.inj e))]
  unfold storeB
  rw [pairs_of hg, hnY, decide_eq_true (by omega), decide_eq_true hn9, Bool.true_and, Bool.true_and, Bool.true_and, List.all_eq_true]
  intro p hp
  by_cases hk : p.1 = vK
  · unfold pairB
    rw [if_pos hk]
    have h1 : (vK, p.2) ∈ Y := by rw [← hk]; exact hp
    have h2 := (getM_mem hg.2.2).2 h1
    rw [(getM_mem hg.2.2).2 hv] at h2
    rw [Option.some.inj h2]
    simp
  · rw [pair_iff hk]
    by_cases ho : ownerM p = some u
    · exact hown p hp ho hk
    · have h1 := (pair_iff hk).1 (hall p ((hoth p hk ho).1 hp))
      unfold ownerM at ho
      have hns := no_slash (c := 47) (l := p.1.data.toList) rfl
      generalize splitL 47 p.1.data.toList = G at h1 ho hns
      match G, h1, ho, hns with
      | [], h1, _, _ => exact h1
      | [_], h1, _, _ => exact h1
      | [a, b], h1, ho, hns =>
        obtain ⟨k1, k2, k3⟩ := h1
        have hne : bs b ≠ u := fun e => ho (by show (if a = [117] then some (bs b) else none) = some u; rw [if_pos k1, e])
        refine ⟨k1, k2, ?_⟩
        have k4 : (shortB (bs b) && shortB p.2 && (metaM N (bs b) inboxT).isSome) = true := k3
        show (shortB (bs b) && shortB p.2 && (metaM Y (bs b) inboxT).isSome) = true
        rw [hmeta (f := inboxT) (hns b (by simp)) (by decide) hne]
        exact k4
      | [a, b, c], h1, ho, hns =>
        obtain ⟨k1, k3⟩ := h1
        have hne : bs b ≠ u := fun e => ho (by show (if a = [102] then some (bs b) else none) = some u; rw [if_pos k1, e])
        refine ⟨k1, ?_⟩
        have k4 : (shortB (bs c) && (getM N (userK (bs b))).isSome && foldB (nextM N) p.2 (metaM N (bs b) (bs c))) = true := k3
        show (shortB (bs c) && (getM Y (userK (bs b))).isSome && foldB nx' p.2 (metaM Y (bs b) (bs c))) = true
        rw [hmeta (hns b (by simp)) (hns c (by simp)) hne, getM_same hg.2.2 hgN.2.2 fun w => hoth (userK (bs b), w) (user_nv _) (by rw [owner_user (hns b (by simp))]; exact fun e => hne (Option.some.inj e))]
        rw [Bool.and_eq_true] at k4 ⊢
        exact ⟨k4.1, fold_mono hnx k4.2⟩
      | [a, b, c, d], h1, ho, hns =>
        obtain ⟨k1, k3⟩ := h1
        have hne : bs b ≠ u := fun e => ho (by show (if a = [109] then some (bs b) else none) = some u; rw [if_pos k1, e])
        refine ⟨k1, ?_⟩
        have k4 : (d.length == 3 && (decide (1 ≤ (p.2.size : Int)) && decide ((p.2.size : Int) ≤ 86)) && (decide (48 ≤ headV p.2) && decide (headV p.2 ≤ 51)) && mailN (countM N (bs b)) (decFrom 0 d) (metaM N (bs b) (bs c))) = true := k3
        show (d.length == 3 && (decide (1 ≤ (p.2.size : Int)) && decide ((p.2.size : Int) ≤ 86)) && (decide (48 ≤ headV p.2) && decide (headV p.2 ≤ 51)) && mailN (countM Y (bs b)) (decFrom 0 d) (metaM Y (bs b) (bs c))) = true
        rw [hmeta (hns b (by simp)) (hns c (by simp)) hne, count_same hg.2.2 hgN.2.2 hoth (hns b (by simp)) hne]
        exact k4
      | _ :: _ :: _ :: _ :: _ :: _, h1, _, _ => exact h1
end Go.Proofs.YtddnecljdecamaaGreatDoor
