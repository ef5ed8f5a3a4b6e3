/-
  Lie Kst Kss Kop in one. By an AI agent.
-/
import Derived.Test.YthgbclipknfmjaaGreatDoorFr23
import Derived.Test.YthgbclipknfmjaaGreatDoorFr21
namespace Go.Proofs.YthgbclipknfmjaaGreatDoor
open Go.ChangeShapes Go.WideShapes Go.ChangeAt Go.RowKit Go.Deep Go.Lib
set_option linter.unusedVariables false
set_option linter.unusedSimpArgs false
set_option maxRecDepth 100000

/-- A list is what a desk tells, in its order; what lies aside is nothing of the user's. -/
structure Lies (N : List PM) (nx : Int) (u : ByteArray) (S : SM) : Prop where
  up : UpL N
  pm : N.Perm (deskP nx u S)
  nd : (S.fs.map (·.name)).Nodup
  sl : ∀ g ∈ S.fs, (47 : UInt8) ∉ g.name.data.toList
  pass : ∀ f : ByteArray, (47 : UInt8) ∉ f.data.toList → ∀ p ∈ notK vK S.aside, passB u f p = true
  away : ∀ p ∈ notK vK S.aside, beginsB p.1 (mailsK u) = false
theorem away_owner {u : ByteArray} {p : PM} (h : ownerM p ≠ some u) : isMail u p = false := by
  unfold ownerM at h
  unfold isMail
  match hG : splitL 47 p.1.data.toList, h with
  | [], _ => rfl
  | [a], _ => rfl
  | [a, b], _ => rfl
  | [a, b, c], _ => rfl
  | [a, b, c, d], h =>
    refine decide_eq_false fun h9 => h ?_
    show (if a = [109] then some (bs b) else none) = some u
    rw [if_pos h9.1, h9.2]
  | a :: b :: c :: d :: e :: r, _ => rfl
theorem lies_of {L : List PM} {u : ByteArray} {S : SM} (h : storeB L = true) (hus : (47 : UInt8) ∉ u.data.toList) (hS : takeAll (nextM L) u S0 L = some S) (hw : S.word.toList ≠ []) : Lies L (nextM L) u S where
  up := (store_facts h).1.2.2
  pm := desk_list h hus hS hw
  nd := names_all (S := S0) List.nodup_nil hS
  sl := fun g hg => word_slash (name_short h hus hS hg)
  pass := fun f hf p hp => aside_pass h hus hf hS hp
  away := fun p hp => by
    obtain ⟨h1, h2⟩ := notK_sub hp
    rw [all_aside hS] at h1
    have h3 : p ∈ L.filter fun p => !isOwn u p := by simpa using h1
    obtain ⟨h4, h5⟩ := List.mem_filter.1 h3
    have h6 : ownerM p ≠ some u := by simpa using h5
    rw [← mail_is h hus h4]
    exact away_owner h6
theorem drop_none {n : ByteArray} : ∀ {fs : List FM}, lookF n fs = none → dropF n fs = fs
  | [], _ => rfl
  | f :: fs, h => by
    unfold lookF at h
    by_cases e : f.name = n
    · rw [if_pos e] at h; cases h
    · rw [if_neg e] at h
      unfold dropF
      rw [if_neg e, drop_none h]
theorem put_any (g : FM) (fs : List FM) : (putF g fs).Perm (g :: dropF g.name fs) := by
  cases hl : lookF g.name fs with
  | none =>
    rw [put_none hl, drop_none hl]
    exact List.perm_append_comm
  | some f => exact put_perm hl
/-- What is left of a folder whose mails are gone. -/
def headL (u f : ByteArray) : Option FM → List PM
  | some g => [(folderK u f, metaT g.val g.next)]
  | none => []
theorem empty_perm {N : List PM} {nx : Int} {u f : ByteArray} {S : SM} (h : Lies N nx u S) (hus : (47 : UInt8) ∉ u.data.toList) (hfs : (47 : UInt8) ∉ f.data.toList) :
    (emptyR N u f).Perm ((vK, bs (itoa nx)) :: (userK u, S.word) :: (notK vK S.aside ++ (headL u f (lookF f S.fs) ++ flatF u (dropF f S.fs)))) := by
  unfold emptyR
  refine (h.pm.filter _).trans ?_
  unfold deskP
  rw [List.filter_cons_of_pos (by rw [pass_not (pass_v u f _)]; rfl), List.filter_cons_of_pos (by rw [pass_not (pass_u u f _)]; rfl), List.filter_append]
  have e3 : ((notK vK S.aside).filter fun p => !beginsB p.1 (preK u f)) = notK vK S.aside := by
    rw [List.filter_eq_self]
    intro p hp
    rw [pass_not (h.pass f hfs p hp)]
    rfl
  rw [e3]
  refine List.Perm.cons _ (List.Perm.cons _ (List.Perm.append_left _ ?_))
  have hrest : ∀ fs : List FM, (∀ g ∈ fs, g.name ≠ f ∧ (47 : UInt8) ∉ g.name.data.toList) → ((flatF u fs).filter fun p => !beginsB p.1 (preK u f)) = flatF u fs := fun fs hf => by
    have h9 := rest_pass (u := u) (f := f) (fs := fs) hus hfs hf
    rw [List.filter_eq_self] at h9 ⊢
    intro p hp
    rw [pass_not (h9 p hp)]
    rfl
  cases hl : lookF f S.fs with
  | none =>
    rw [drop_none hl, hrest S.fs fun g hg => ⟨(fun e => by
      have h9 := look_mem' hg
      rw [e, hl] at h9
      cases h9), h.sl g hg⟩]
    exact List.Perm.refl _
  | some g =>
    refine ((flat_perm (drop_perm hl)).filter _).trans ?_
    obtain ⟨hgm, hgn⟩ := lookF_mem hl
    rw [flat_cons, List.filter_append, hrest (dropF f S.fs) fun x hx => ⟨drop_names h.nd x hx, h.sl x ((dropF_sub f S.fs).subset hx)⟩]
    refine List.Perm.append_right _ ?_
    unfold fPairs
    rw [hgn]
    have e5 : beginsB (folderK u f) (preK u f) = false := by
      cases hb : beginsB (folderK u f) (preK u f) with
      | false => rfl
      | true =>
        obtain ⟨r, hr⟩ := begins_pre.1 hb
        rw [folderK_data] at hr
        simp at hr
    rw [List.filter_cons_of_pos (by rw [e5]; rfl)]
    have e6 : ((g.mails.map (mailP u f)).filter fun p => !beginsB p.1 (preK u f)) = [] := by
      rw [List.filter_eq_nil_iff]
      intro p hp
      obtain ⟨m, _, rfl⟩ := List.mem_map.1 hp
      rw [begins_mail]
      simp
    rw [e6]
    exact List.Perm.refl _
theorem flat_key {u f : ByteArray} {fs : List FM} (hn : ∀ g ∈ fs, g.name ≠ f) : ∀ p ∈ flatF u fs, p.1 ≠ folderK u f := fun p hp e => by
  obtain ⟨g, hg, hpg⟩ := flat_mem hp
  unfold fPairs at hpg
  rcases List.mem_cons.1 hpg with rfl | hpg
  · exact hn g hg (folderK_inj e)
  · exact mails_not p hpg e
/-- A folder laid afresh, empty, in the place of the one of that name. -/
theorem lies_fresh {N : List PM} {nx next : Int} {u f : ByteArray} {S : SM} (h : Lies N nx u S) (hus : (47 : UInt8) ∉ u.data.toList) (hfs : (47 : UInt8) ∉ f.data.toList) :
    Lies (insL (folderK u f) (metaT nx next) (insL vK (bs (itoa (nx + 1))) (emptyR N u f))) (nx + 1) u ⟨S.aside, S.word, putF ⟨f, nx, next, []⟩ S.fs⟩ := by
  have u1 : UpL (emptyR N u f) := h.up.sublist List.filter_sublist
  have p1 := swap_ins (v' := bs (itoa (nx + 1))) u1 (empty_perm h hus hfs)
  have u2 := ins_up (k := vK) (v := bs (itoa (nx + 1))) u1
  obtain ⟨A, hA⟩ : ∃ A, notK vK S.aside = A := ⟨_, rfl⟩
  have p2 : (insL (folderK u f) (metaT nx next) (insL vK (bs (itoa (nx + 1))) (emptyR N u f))).Perm ((folderK u f, metaT nx next) :: ((vK, bs (itoa (nx + 1))) :: (userK u, S.word) :: (A ++ flatF u (dropF f S.fs)))) := by
    rw [hA] at p1
    cases hl : lookF f S.fs with
    | none =>
      rw [hl] at p1
      have h9 := ins_perm (k := folderK u f) (v := metaT nx next) u2
      rw [notK_self fun x hx => ?_] at h9
      · exact h9.trans (List.Perm.cons _ p1)
      · have hx2 := p1.mem_iff.1 hx
        rcases List.mem_cons.1 hx2 with rfl | hx2
        · exact (folder_not u f).symm
        rcases List.mem_cons.1 hx2 with rfl | hx2
        · have h8 := pass_u u f S.word
          unfold passB at h8
          rw [Bool.and_eq_true, decide_eq_true_eq] at h8
          exact h8.1
        rcases List.mem_append.1 hx2 with hx2 | hx2
        · have h8 := h.pass f hfs x (by rw [hA]; exact hx2)
          unfold passB at h8
          rw [Bool.and_eq_true, decide_eq_true_eq] at h8
          exact h8.1
        · exact flat_key (fun g hg => by
            rw [drop_none hl] at hg
            intro e
            have h8 := look_mem' hg
            rw [e, hl] at h8
            cases h8) x hx2
    | some g =>
      rw [hl] at p1
      refine swap_ins (v := metaT g.val g.next) u2 (p1.trans ?_)
      show ((vK, bs (itoa (nx + 1))) :: (userK u, S.word) :: (A ++ ((folderK u f, metaT g.val g.next) :: flatF u (dropF f S.fs)))).Perm _
      refine (List.Perm.cons _ (List.Perm.cons _ List.perm_middle)).trans ?_
      exact (List.Perm.cons _ (List.Perm.swap _ _ _)).trans (List.Perm.swap _ _ _)
  refine ⟨ins_up u2, p2.trans ?_, putF_names h.nd, fun g hg => ?_, h.pass, h.away⟩
  · unfold deskP
    show List.Perm _ ((vK, bs (itoa (nx + 1))) :: (userK u, S.word) :: (notK vK S.aside ++ flatF u (putF ⟨f, nx, next, []⟩ S.fs)))
    rw [hA]
    have h9 : (flatF u (putF ⟨f, nx, next, []⟩ S.fs)).Perm ((folderK u f, metaT nx next) :: flatF u (dropF f S.fs)) := flat_perm (put_any ⟨f, nx, next, []⟩ S.fs)
    refine List.Perm.trans ?_ (List.Perm.cons _ (List.Perm.cons _ (List.Perm.append_left A h9.symm)))
    refine List.Perm.trans ?_ (List.Perm.cons _ (List.Perm.cons _ List.perm_middle.symm))
    exact (List.Perm.swap _ _ _).trans (List.Perm.cons _ (List.Perm.swap _ _ _))
  · rcases putF_mem hg with hg | rfl
    · exact h.sl g hg
    · exact hfs
theorem put_put {f : ByteArray} {a b c d : Int} {Ms Ns : List MMl} : ∀ fs : List FM, putF ⟨f, a, b, Ms⟩ (putF ⟨f, c, d, Ns⟩ fs) = putF ⟨f, a, b, Ms⟩ fs
  | [] => by
    show putF ⟨f, a, b, Ms⟩ [⟨f, c, d, Ns⟩] = [⟨f, a, b, Ms⟩]
    rw [putF, if_pos rfl]
  | x :: fs => by
    have ih := put_put (f := f) (a := a) (b := b) (c := c) (d := d) (Ms := Ms) (Ns := Ns) fs
    by_cases e : x.name = f
    · have e1 : putF ⟨f, c, d, Ns⟩ (x :: fs) = ⟨f, c, d, Ns⟩ :: fs := by unfold putF; rw [if_pos e]
      have e2 : putF ⟨f, a, b, Ms⟩ (x :: fs) = ⟨f, a, b, Ms⟩ :: fs := by unfold putF; rw [if_pos e]
      rw [e1, e2]
      unfold putF
      rw [if_pos rfl]
    · have e1 : putF ⟨f, c, d, Ns⟩ (x :: fs) = x :: putF ⟨f, c, d, Ns⟩ fs := by rw [putF, if_neg e]
      have e2 : putF ⟨f, a, b, Ms⟩ (x :: fs) = x :: putF ⟨f, a, b, Ms⟩ fs := by rw [putF, if_neg e]
      have e3 : ∀ R, putF ⟨f, a, b, Ms⟩ (x :: R) = x :: putF ⟨f, a, b, Ms⟩ R := fun R => by rw [putF, if_neg e]
      rw [e1, e2, e3, ih]
theorem drop_put {g : FM} : ∀ fs : List FM, dropF g.name (putF g fs) = dropF g.name fs
  | [] => by
    unfold putF
    unfold dropF
    rw [if_pos rfl]
  | x :: fs => by
    have ih := drop_put (g := g) fs
    by_cases e : x.name = g.name
    · have e1 : putF g (x :: fs) = g :: fs := by rw [putF, if_pos e]
      rw [e1]
      unfold dropF
      rw [if_pos rfl, if_pos e]
    · have e1 : putF g (x :: fs) = x :: putF g fs := by rw [putF, if_neg e]
      rw [e1]
      unfold dropF
      rw [if_neg e, if_neg e, ih]
/-- Mails laid into a folder that has none. -/
theorem lies_mails {N : List PM} {nx v next : Int} {u f : ByteArray} {sd : List PM} {wd : ByteArray} {fs : List FM} {Ms : List MMl} (h : Lies N nx u ⟨sd, wd, putF ⟨f, v, next, []⟩ fs⟩) (hus : (47 : UInt8) ∉ u.data.toList) (hfs : (47 : UInt8) ∉ f.data.toList) (hM : (Ms.map (mailP u f)).Pairwise (fun a b => a.1 ≠ b.1)) :
    Lies (insAll (Ms.map (mailP u f)) N) nx u ⟨sd, wd, putF ⟨f, v, next, Ms⟩ fs⟩ := by
  have hno : ∀ p ∈ Ms.map (mailP u f), ∀ x ∈ N, x.1 ≠ p.1 := fun p hp x hx e => by
    obtain ⟨m, _, rfl⟩ := List.mem_map.1 hp
    have hx2 : beginsB x.1 (preK u f) = false := by
      have hx3 := h.pm.mem_iff.1 hx
      unfold deskP at hx3
      rcases List.mem_cons.1 hx3 with rfl | hx3
      · exact pass_not (pass_v u f _)
      rcases List.mem_cons.1 hx3 with rfl | hx3
      · exact pass_not (pass_u u f _)
      rcases List.mem_append.1 hx3 with hx3 | hx3
      · exact pass_not (h.pass f hfs x hx3)
      · have h9 := (flat_perm (u := u) (put_any ⟨f, v, next, []⟩ fs)).mem_iff.1 hx3
        rw [flat_cons] at h9
        rcases List.mem_append.1 h9 with h9 | h9
        · have h8 : x = (folderK u f, metaT v next) := by
            unfold fPairs at h9
            simpa using h9
          rw [h8]
          cases hb : beginsB (folderK u f) (preK u f) with
          | false => rfl
          | true =>
            obtain ⟨r, hr⟩ := begins_pre.1 hb
            rw [folderK_data] at hr
            simp at hr
        · have hd : dropF f (putF ⟨f, v, next, []⟩ fs) = dropF f fs := drop_put (g := ⟨f, v, next, []⟩) fs
          have h7 := rest_pass (u := u) (f := f) (fs := dropF f (putF ⟨f, v, next, []⟩ fs)) hus hfs fun g hg => ⟨drop_names h.nd g hg, h.sl g ((dropF_sub f _).subset hg)⟩
          rw [hd, List.filter_eq_self] at h7
          exact pass_not (h7 x h9)
    rw [e, begins_mail] at hx2
    cases hx2
  obtain ⟨k1, k2⟩ := ins_all h.up hM hno
  refine ⟨k1, ?_, ?_, fun g hg => ?_, h.pass, h.away⟩
  · refine k2.trans ((List.Perm.append_left _ h.pm).trans ?_)
    unfold deskP
    show (Ms.map (mailP u f) ++ ((vK, bs (itoa nx)) :: (userK u, wd) :: (notK vK sd ++ flatF u (putF ⟨f, v, next, []⟩ fs)))).Perm ((vK, bs (itoa nx)) :: (userK u, wd) :: (notK vK sd ++ flatF u (putF ⟨f, v, next, Ms⟩ fs)))
    have h1 : (flatF u (putF ⟨f, v, next, []⟩ fs)).Perm ((folderK u f, metaT v next) :: flatF u (dropF f fs)) := flat_perm (put_any ⟨f, v, next, []⟩ fs)
    have h2 : (flatF u (putF ⟨f, v, next, Ms⟩ fs)).Perm (((folderK u f, metaT v next) :: Ms.map (mailP u f)) ++ flatF u (dropF f fs)) := flat_perm (put_any ⟨f, v, next, Ms⟩ fs)
    refine List.Perm.trans (List.Perm.append_left _ (List.Perm.cons _ (List.Perm.cons _ (List.Perm.append_left _ h1)))) ?_
    refine List.Perm.trans ?_ (List.Perm.cons _ (List.Perm.cons _ (List.Perm.append_left _ h2.symm)))
    refine (List.perm_middle).trans (List.Perm.cons _ ((List.perm_middle).trans (List.Perm.cons _ ?_)))
    obtain ⟨X, hX⟩ : ∃ X, Ms.map (mailP u f) = X := ⟨_, rfl⟩
    obtain ⟨A, hA⟩ : ∃ A, notK vK sd = A := ⟨_, rfl⟩
    obtain ⟨Fl, hF⟩ : ∃ A, flatF u (dropF f fs) = A := ⟨_, rfl⟩
    rw [hX, hA, hF]
    rw [← List.append_assoc]
    refine (List.Perm.append_right _ List.perm_append_comm).trans ?_
    rw [List.append_assoc]
    refine List.Perm.append_left _ ?_
    rw [List.cons_append]
    exact List.perm_middle
  · have e : (putF ⟨f, v, next, Ms⟩ (putF ⟨f, v, next, []⟩ fs)) = putF ⟨f, v, next, Ms⟩ fs := put_put fs
    show ((putF ⟨f, v, next, Ms⟩ fs).map (·.name)).Nodup
    rw [← e]
    exact putF_names h.nd
  · have e : (putF ⟨f, v, next, Ms⟩ (putF ⟨f, v, next, []⟩ fs)) = putF ⟨f, v, next, Ms⟩ fs := put_put fs
    have hg2 : g ∈ putF ⟨f, v, next, Ms⟩ fs := hg
    rw [← e] at hg2
    rcases putF_mem hg2 with hg2 | rfl
    · exact h.sl g hg2
    · exact hfs
theorem begins_flat {u : ByteArray} (hus : (47 : UInt8) ∉ u.data.toList) : ∀ fs : List FM, ((flatF u fs).filter fun p => beginsB p.1 (mailsK u)).length = sumF fs
  | [] => rfl
  | g :: fs => by
    rw [flat_cons, List.filter_append, List.length_append, begins_flat hus fs]
    unfold fPairs
    have e1 : beginsB (folderK u g.name) (mailsK u) = false := by
      cases hb : beginsB (folderK u g.name) (mailsK u) with
      | false => rfl
      | true =>
        obtain ⟨r, hr⟩ := begins_iff.1 hb
        rw [folderK_data, mailsK_data] at hr
        simp at hr
    have e2 : ((g.mails.map (mailP u g.name)).filter fun p => beginsB p.1 (mailsK u)) = g.mails.map (mailP u g.name) := by
      rw [List.filter_eq_self]
      intro p hp
      obtain ⟨m, _, rfl⟩ := List.mem_map.1 hp
      refine begins_iff.2 ⟨g.name.data.toList ++ 47 :: d3 m.1.toNat, ?_⟩
      rw [mailsK_data]
      simp [mailP, bs]
    rw [List.filter_cons_of_neg (by rw [e1]; simp), e2, List.length_map]
    rfl
theorem lies_count {N : List PM} {nx : Int} {u : ByteArray} {S : SM} (h : Lies N nx u S) (hus : (47 : UInt8) ∉ u.data.toList) : countM N u = sumF S.fs := by
  unfold countM
  rw [(h.pm.filter _).length_eq]
  unfold deskP
  have e1 : beginsB vK (mailsK u) = false := by
    cases hb : beginsB vK (mailsK u) with
    | false => rfl
    | true =>
      obtain ⟨r, hr⟩ := begins_iff.1 hb
      rw [mailsK_data] at hr
      simp at hr
  have e2 : beginsB (userK u) (mailsK u) = false := by
    cases hb : beginsB (userK u) (mailsK u) with
    | false => rfl
    | true =>
      obtain ⟨r, hr⟩ := begins_iff.1 hb
      rw [mailsK_data] at hr
      simp [ByteArray.data_append] at hr
  rw [List.filter_cons_of_neg (by rw [e1]; simp), List.filter_cons_of_neg (by rw [e2]; simp), List.filter_append]
  have e3 : ((notK vK S.aside).filter fun p => beginsB p.1 (mailsK u)) = [] := by
    rw [List.filter_eq_nil_iff]
    intro p hp
    rw [h.away p hp]
    simp
  rw [e3, List.nil_append, begins_flat hus]
theorem lies_next {N : List PM} {nx : Int} {u : ByteArray} {S : SM} (h : Lies N nx u S) (n0 : 0 ≤ nx) (n1 : nx ≤ 10000) : nextM N = nx := by
  have h1 : (vK, bs (itoa nx)) ∈ N := h.pm.mem_iff.2 List.mem_cons_self
  unfold nextM
  rw [(getM_mem h.up).2 h1]
  show (numB (bs (itoa nx)).data.toList).getD 0 = nx
  rw [show (bs (itoa nx)).data.toList = itoa nx from by simp [bs], num_of_is ⟨rfl, by omega⟩]
  rfl
theorem pairs_of {Y : List PM} (hg : GoodL Y) : pairsB (fK Y) (fV Y) Y.length = true := by
  refine pairsB_good _ _ _ hg.1 fun k hk => ?_
  have h1 := hg.2.1 _ (List.getElem_mem hk)
  unfold goodB fitB keyB riseB
  rw [(at_fst hk).1, (at_fst hk).2, decide_eq_true (by omega), decide_eq_true (by omega), decide_eq_true (by omega)]
  by_cases e : k = 0
  · rw [decide_eq_true e]
    rfl
  · have hk1 : k - 1 < Y.length := by omega
    have h2 := List.pairwise_iff_getElem.1 hg.2.2 (k - 1) k hk1 hk (by omega)
    rw [(at_fst hk1).1]
    unfold ltK at h2
    rw [h2]
    simp
theorem meta_is {x y : Int} (h : 1 ≤ x ∧ x ≤ 9999 ∧ 1 ≤ y ∧ y ≤ 999) : metaV (metaT x y) = some (x, y) := by
  have n1 : numB (itoa x) = some x := num_of_is ⟨rfl, by omega⟩
  have n2 : numB (itoa y) = some y := num_of_is ⟨rfl, by omega⟩
  have e : (metaT x y).data.toList = itoa x ++ 32 :: itoa y := by simp [metaT, bs, ByteArray.data_append]
  rw [metaV_two (a := itoa x) (b := itoa y) (by rw [e, splitL_seg _ _ _ (num_space n1), splitL_whole _ _ (num_space n2)]), n1, n2]
  show (if 1 ≤ x ∧ x ≤ 9999 ∧ 1 ≤ y ∧ y ≤ 999 then some (x, y) else none) = some (x, y)
  rw [if_pos h]
theorem getM_same {Y N : List PM} (hY : UpL Y) (hN : UpL N) {k : ByteArray} (h : ∀ w, (k, w) ∈ Y ↔ (k, w) ∈ N) : getM Y k = getM N k := by
  apply Option.ext
  intro v
  rw [getM_mem hY, getM_mem hN]
  exact h v
theorem owner_folderK {u f w : ByteArray} (hus : (47 : UInt8) ∉ u.data.toList) (hfs : (47 : UInt8) ∉ f.data.toList) : ownerM (folderK u f, w) = some u := by
  unfold ownerM
  show ownerG (splitL 47 (folderK u f).data.toList) = _
  rw [folderK_data, show (102 :: 47 :: (u.data.toList ++ 47 :: f.data.toList) : List UInt8) = [102] ++ 47 :: (u.data.toList ++ 47 :: f.data.toList) from rfl, splitL_seg 47 [102] _ (by decide), splitL_seg 47 _ _ hus, splitL_whole 47 _ hfs]
  show (if ([102] : List UInt8) = [102] then some (bs u.data.toList) else none) = some u
  rw [if_pos rfl, data_bs]
theorem userK_data (u : ByteArray) : (userK u).data.toList = 117 :: 47 :: u.data.toList := by simp [userK, ByteArray.data_append]
theorem owner_user {u w : ByteArray} (hus : (47 : UInt8) ∉ u.data.toList) : ownerM (userK u, w) = some u := by
  unfold ownerM
  show ownerG (splitL 47 (userK u).data.toList) = _
  rw [userK_data, show (117 :: 47 :: u.data.toList : List UInt8) = [117] ++ 47 :: u.data.toList from rfl, splitL_seg 47 [117] _ (by decide), splitL_whole 47 _ hus]
  show (if ([117] : List UInt8) = [117] then some (bs u.data.toList) else none) = some u
  rw [if_pos rfl, data_bs]
theorem owner_mails {u v : ByteArray} {p : PM} (hv : (47 : UInt8) ∉ v.data.toList) (hne : v ≠ u) (h : beginsB p.1 (mailsK v) = true) : p.1 ≠ vK ∧ ownerM p ≠ some u := by
  obtain ⟨r, hr⟩ := begins_iff.1 h
  rw [mailsK_data] at hr
  have e : p.1.data.toList = [109] ++ 47 :: (v.data.toList ++ 47 :: r) := by rw [hr]; simp
  refine ⟨fun e9 => ?_, ?_⟩
  · rw [e9] at e
    cases e
  unfold ownerM
  rw [e, splitL_seg 47 [109] _ (by decide), splitL_seg 47 _ _ hv]
  match hs : splitL 47 r with
  | [] => exact absurd hs (splitL_ne 47 _)
  | [c] => exact fun h9 => by cases h9
  | [c, d] =>
    intro h9
    have h8 : some (bs v.data.toList) = some u := h9
    rw [data_bs] at h8
    exact hne (Option.some.inj h8)
  | _ :: _ :: _ :: _ => exact fun h9 => by cases h9
theorem count_same {Y N : List PM} {u v : ByteArray} (hY : UpL Y) (hN : UpL N) (hoth : ∀ p : PM, p.1 ≠ vK → ownerM p ≠ some u → (p ∈ Y ↔ p ∈ N)) (hv : (47 : UInt8) ∉ v.data.toList) (hne : v ≠ u) : countM Y v = countM N v := by
  have nd : ∀ {L : List PM}, UpL L → L.Nodup := fun h => h.imp fun {a b} h9 e => by rw [e] at h9; exact ltK_irrefl _ h9
  have hp : (Y.filter fun x => beginsB x.1 (mailsK v)).Perm (N.filter fun x => beginsB x.1 (mailsK v)) := by
    refine (List.perm_ext_iff_of_nodup ((nd hY).sublist List.filter_sublist) ((nd hN).sublist List.filter_sublist)).2 fun p => ?_
    rw [List.mem_filter, List.mem_filter]
    constructor
    · rintro ⟨h1, h2⟩
      obtain ⟨k1, k2⟩ := owner_mails hv hne h2
      exact ⟨(hoth p k1 k2).1 h1, h2⟩
    · rintro ⟨h1, h2⟩
      obtain ⟨k1, k2⟩ := owner_mails hv hne h2
      exact ⟨(hoth p k1 k2).2 h1, h2⟩
  exact hp.length_eq
theorem no_slash {c : UInt8} {l : List UInt8} {G : List (List UInt8)} (h : splitL c l = G) : ∀ p ∈ G, c ∉ (bs p).data.toList := fun p hp => by
  rw [← h] at hp
  have h9 := splitL_no c l p hp
  simpa [bs] using h9
theorem fold_mono {n m : Int} {v : ByteArray} {o : Option (Int × Int)} (hnm : n ≤ m) (h : foldB n v o = true) : foldB m v o = true := by
  cases o with
  | none => cases h
  | some p =>
    unfold foldB at h ⊢
    rw [Bool.and_eq_true, decide_eq_true_eq] at h ⊢
    exact ⟨by omega, h.2⟩
theorem folder_nv (u f : ByteArray) : folderK u f ≠ vK := fun e => by
  have h1 := congrArg (fun x : ByteArray => x.data.toList) e
  simp only [folderK_data] at h1
  cases h1
theorem user_nv (u : ByteArray) : userK u ≠ vK := fun e => by
  have h1 := congrArg (fun x : ByteArray => x.data.toList) e
  simp only [userK_data] at h1
  cases h1
/-- A list is a store if one user's pairs are right in it and all others are as they were in a store. -/
theorem store_keep {N Y : List PM} {u : ByteArray} {nx' : Int} (hN : storeB N = true) (hg : GoodL Y) (hv : (vK, bs (itoa nx')) ∈ Y) (hnx : nextM N ≤ nx') (hn9 : nx' ≤ 10000) (hoth : ∀ p : PM, p.1 ≠ vK → ownerM p ≠ some u → (p ∈ Y ↔ p ∈ N)) (hown : ∀ p ∈ Y, ownerM p = some u → p.1 ≠ vK → askG Y nx' p.2 (splitL 47 p.1.data.toList)) : storeB Y = true := by
  obtain ⟨hgN, nx0, hnm, n1, _⟩ := store_facts hN
  rw [hnm] at n1
  have hnY : nextM Y = nx' := by
    unfold nextM
    rw [(getM_mem hg.2.2).2 hv]
    show (numB (bs (itoa nx')).data.toList).getD 0 = nx'
    rw [show (bs (itoa nx')).data.toList = itoa nx' from by simp [bs], num_of_is ⟨rfl, by omega⟩]
    rfl
  have hall : ∀ p ∈ N, pairB N (nextM N) p = true := by
    unfold storeB at hN
    rw [Bool.and_eq_true] at hN
    exact List.all_eq_true.1 hN.2
  have hmeta : ∀ {v f : ByteArray}, (47 : UInt8) ∉ v.data.toList → (47 : UInt8) ∉ f.data.toList → v ≠ u → metaM Y v f = metaM N v f := fun {v f} hv hf hne => by
    unfold metaM
    rw [getM_same hg.2.2 hgN.2.2 fun w => hoth (folderK v f, w) (folder_nv v f) (by rw [owner_folderK hv hf]; exact fun e => hne (Option.some.inj e))]
  unfold storeB
  rw [pairs_of hg, hnY, decide_eq_true (by omega), decide_eq_true hn9, Bool.true_and, Bool.true_and, Bool.true_and, List.all_eq_true]
  intro p hp
  by_cases hk : p.1 = vK
  · unfold pairB
    rw [if_pos hk]
    have h1 : (vK, p.2) ∈ Y := by rw [← hk]; exact hp
    have h2 := (getM_mem hg.2.2).2 h1
    rw [(getM_mem hg.2.2).2 hv] at h2
    rw [Option.some.inj h2]
    simp
  · rw [pair_iff hk]
    by_cases ho : ownerM p = some u
    · exact hown p hp ho hk
    · have h1 := (pair_iff hk).1 (hall p ((hoth p hk ho).1 hp))
      unfold ownerM at ho
      have hns := no_slash (c := 47) (l := p.1.data.toList) rfl
      generalize splitL 47 p.1.data.toList = G at h1 ho hns
      match G, h1, ho, hns with
      | [], h1, _, _ => exact h1
      | [_], h1, _, _ => exact h1
      | [a, b], h1, ho, hns =>
        obtain ⟨k1, k2, k3⟩ := h1
        have hne : bs b ≠ u := fun e => ho (by show (if a = [117] then some (bs b) else none) = some u; rw [if_pos k1, e])
        refine ⟨k1, k2, ?_⟩
        have k4 : (shortB (bs b) && shortB p.2 && (metaM N (bs b) inboxT).isSome) = true := k3
        show (shortB (bs b) && shortB p.2 && (metaM Y (bs b) inboxT).isSome) = true
        rw [hmeta (f := inboxT) (hns b (by simp)) (by decide) hne]
        exact k4
      | [a, b, c], h1, ho, hns =>
        obtain ⟨k1, k3⟩ := h1
        have hne : bs b ≠ u := fun e => ho (by show (if a = [102] then some (bs b) else none) = some u; rw [if_pos k1, e])
        refine ⟨k1, ?_⟩
        have k4 : (shortB (bs c) && (getM N (userK (bs b))).isSome && foldB (nextM N) p.2 (metaM N (bs b) (bs c))) = true := k3
        show (shortB (bs c) && (getM Y (userK (bs b))).isSome && foldB nx' p.2 (metaM Y (bs b) (bs c))) = true
        rw [hmeta (hns b (by simp)) (hns c (by simp)) hne, getM_same hg.2.2 hgN.2.2 fun w => hoth (userK (bs b), w) (user_nv _) (by rw [owner_user (hns b (by simp))]; exact fun e => hne (Option.some.inj e))]
        rw [Bool.and_eq_true] at k4 ⊢
        exact ⟨k4.1, fold_mono hnx k4.2⟩
      | [a, b, c, d], h1, ho, hns =>
        obtain ⟨k1, k3⟩ := h1
        have hne : bs b ≠ u := fun e => ho (by show (if a = [109] then some (bs b) else none) = some u; rw [if_pos k1, e])
        refine ⟨k1, ?_⟩
        have k4 : (d.length == 3 && (decide (1 ≤ (p.2.size : Int)) && decide ((p.2.size : Int) ≤ 86)) && (decide (48 ≤ headV p.2) && decide (headV p.2 ≤ 51)) && mailN (countM N (bs b)) (decFrom 0 d) (metaM N (bs b) (bs c))) = true := k3
        show (d.length == 3 && (decide (1 ≤ (p.2.size : Int)) && decide ((p.2.size : Int) ≤ 86)) && (decide (48 ≤ headV p.2) && decide (headV p.2 ≤ 51)) && mailN (countM Y (bs b)) (decFrom 0 d) (metaM Y (bs b) (bs c))) = true
        rw [hmeta (hns b (by simp)) (hns c (by simp)) hne, count_same hg.2.2 hgN.2.2 hoth (hns b (by simp)) hne]
        exact k4
      | _ :: _ :: _ :: _ :: _ :: _, h1, _, _ => exact h1
theorem itoa_19 (x : Int) (h0 : 0 ≤ x) (h1 : x ≤ 10001) : (bs (itoa x)).size ≤ 19 := by
  have h2 := (trim_is (t := itoa x) rfl).2 (by omega)
  have h3 : (bs (itoa x)).size = (itoa x).length := rfl
  have h4 : (itoa x).length ≤ (trimPrefix (itoa x) [45]).length + 1 := by
    unfold trimPrefix
    split
    · rw [List.length_drop]; simp only [List.length_singleton]; omega
    · omega
  omega
theorem metaT_39 {x y : Int} (h0 : 0 ≤ x) (h1 : x ≤ 10000) (h2 : 0 ≤ y) (h3 : y ≤ 10000) : (metaT x y).size ≤ 39 := by
  have a := itoa_19 x h0 (by omega)
  have b := itoa_19 y h2 (by omega)
  have e : (metaT x y).size = (bs (itoa x)).size + 1 + (bs (itoa y)).size := by
    unfold metaT
    rw [ByteArray.size_append, ByteArray.size_append]
    rfl
  omega
/-- A folder that a store may have. -/
def GoodF (nx : Int) (f : FM) : Prop := shortB f.name = true ∧ 1 ≤ f.val ∧ f.val ≤ 9999 ∧ f.val < nx ∧ 1 ≤ f.next ∧ f.next ≤ 999 ∧ ∀ m ∈ f.mails, 1 ≤ m.1 ∧ m.1 < f.next ∧ 0 ≤ m.2.1 ∧ m.2.1 ≤ 3 ∧ m.2.2.size ≤ 85
/-- A desk that a store may have. -/
structure FitS (nx : Int) (u : ByteArray) (S : SM) : Prop where
  us : shortB u = true
  ws : shortB S.word = true
  ib : (lookF inboxT S.fs).isSome = true
  sm : sumF S.fs ≤ 6
  fs : ∀ f ∈ S.fs, GoodF nx f
theorem short_one {u : ByteArray} (h : shortB u = true) : 1 ≤ u.size := by
  unfold shortB wordB at h
  simp only [Bool.and_eq_true, decide_eq_true_eq] at h
  omega
theorem mailK_data' (u f : ByteArray) (n : Int) : (mailK u f n).data.toList = 109 :: 47 :: (u.data.toList ++ 47 :: (f.data.toList ++ 47 :: d3 n.toNat)) := by
  simp [mailK, bs, ByteArray.data_append]
theorem d3_slash {n : Nat} (h : n < 1000) : (47 : UInt8) ∉ d3 n := by
  obtain ⟨x, y, z, hx, hy, hz, rfl⟩ := split3 n h
  unfold d3
  rw [dec4 x y z hx hy hz]
  intro h9
  simp only [List.drop_succ_cons, List.drop_zero, List.mem_cons, List.not_mem_nil, or_false] at h9
  rcases h9 with h9 | h9 | h9
  all_goals
    have h8 := congrArg UInt8.toNat h9
    simp at h8
    omega
theorem split_mail {u f : ByteArray} {n : Int} (hus : (47 : UInt8) ∉ u.data.toList) (hfs : (47 : UInt8) ∉ f.data.toList) (hn : n.toNat < 1000) : splitL 47 (mailK u f n).data.toList = [[109], u.data.toList, f.data.toList, d3 n.toNat] := by
  rw [mailK_data', show (109 :: 47 :: (u.data.toList ++ 47 :: (f.data.toList ++ 47 :: d3 n.toNat)) : List UInt8) = [109] ++ 47 :: (u.data.toList ++ 47 :: (f.data.toList ++ 47 :: d3 n.toNat)) from rfl, splitL_seg 47 [109] _ (by decide), splitL_seg 47 _ _ hus, splitL_seg 47 _ _ hfs, splitL_whole 47 _ (d3_slash hn)]
theorem split_folder {u f : ByteArray} (hus : (47 : UInt8) ∉ u.data.toList) (hfs : (47 : UInt8) ∉ f.data.toList) : splitL 47 (folderK u f).data.toList = [[102], u.data.toList, f.data.toList] := by
  rw [folderK_data, show (102 :: 47 :: (u.data.toList ++ 47 :: f.data.toList) : List UInt8) = [102] ++ 47 :: (u.data.toList ++ 47 :: f.data.toList) from rfl, splitL_seg 47 [102] _ (by decide), splitL_seg 47 _ _ hus, splitL_whole 47 _ hfs]
theorem split_user {u : ByteArray} (hus : (47 : UInt8) ∉ u.data.toList) : splitL 47 (userK u).data.toList = [[117], u.data.toList] := by
  rw [userK_data, show (117 :: 47 :: u.data.toList : List UInt8) = [117] ++ 47 :: u.data.toList from rfl, splitL_seg 47 [117] _ (by decide), splitL_whole 47 _ hus]
theorem owner_mail {u f w : ByteArray} {n : Int} (hus : (47 : UInt8) ∉ u.data.toList) (hfs : (47 : UInt8) ∉ f.data.toList) (hn : n.toNat < 1000) : ownerM (mailK u f n, w) = some u := by
  unfold ownerM
  show ownerG (splitL 47 (mailK u f n).data.toList) = _
  rw [split_mail hus hfs hn]
  rfl
theorem mailV_head {m : MMl} (h0 : 0 ≤ m.2.1) (h1 : m.2.1 ≤ 3) : 48 ≤ headV (mailV m) ∧ headV (mailV m) ≤ 51 ∧ (mailV m).size = m.2.2.size + 1 := by
  have hd : m.2.1 = 0 ∨ m.2.1 = 1 ∨ m.2.1 = 2 ∨ m.2.1 = 3 := by omega
  have key : ∀ c : UInt8, itoa m.2.1 = [c] → 48 ≤ c.toNat → c.toNat ≤ 51 → 48 ≤ headV (mailV m) ∧ headV (mailV m) ≤ 51 ∧ (mailV m).size = m.2.2.size + 1 := fun c hc k1 k2 => by
    have e : (mailV m).data.toList = c :: m.2.2.data.toList := by
      unfold mailV
      rw [hc]
      simp [bs, ByteArray.data_append]
    refine ⟨?_, ?_, ?_⟩
    · unfold headV; rw [e]; show (48 : Int) ≤ (c.toNat : Int); omega
    · unfold headV; rw [e]; show (c.toNat : Int) ≤ 51; omega
    · rw [size_of, e, size_of]; rfl
  rcases hd with h | h | h | h
  · exact key 48 (by rw [h]; kernel_rfl) (by decide) (by decide)
  · exact key 49 (by rw [h]; kernel_rfl) (by decide) (by decide)
  · exact key 50 (by rw [h]; kernel_rfl) (by decide) (by decide)
  · exact key 51 (by rw [h]; kernel_rfl) (by decide) (by decide)
theorem lies_store {N Y : List PM} {nx : Int} {u : ByteArray} {S : SM} (hN : storeB N = true) (hY : Lies Y nx u S) (h6 : Y.length ≤ 60) (hnx : nextM N ≤ nx) (hn9 : nx ≤ 10000) (hF : FitS nx u S) (hasd : ∀ p : PM, p.1 ≠ vK → (p ∈ notK vK S.aside ↔ p ∈ N ∧ ownerM p ≠ some u)) : storeB Y = true := by
  have hus := word_slash hF.us
  have hgN := (store_facts hN).1
  obtain ⟨_, nx0, hnm, n1, _⟩ := store_facts hN
  rw [hnm] at n1
  have hmem : ∀ p, p ∈ Y ↔ p = (vK, bs (itoa nx)) ∨ p = (userK u, S.word) ∨ p ∈ notK vK S.aside ∨ ∃ g ∈ S.fs, p ∈ fPairs u g := fun p => by
    rw [hY.pm.mem_iff]
    unfold deskP
    rw [List.mem_cons, List.mem_cons, List.mem_append]
    constructor
    · rintro (h | h | h | h)
      · exact .inl h
      · exact .inr (.inl h)
      · exact .inr (.inr (.inl h))
      · exact .inr (.inr (.inr (flat_mem h)))
    · rintro (h | h | h | ⟨g, hg, h⟩)
      · exact .inl h
      · exact .inr (.inl h)
      · exact .inr (.inr (.inl h))
      · exact .inr (.inr (.inr (List.mem_flatMap.2 ⟨g, hg, h⟩)))
  have hasv : ∀ p ∈ notK vK S.aside, p ∈ N ∧ ownerM p ≠ some u := fun p hp => (hasd p (notK_sub hp).2).1 hp
  have hfp : ∀ g ∈ S.fs, ∀ p ∈ fPairs u g, p = (folderK u g.name, metaT g.val g.next) ∨ ∃ m ∈ g.mails, p = mailP u g.name m := fun g hg p hp => by
    unfold fPairs at hp
    rcases List.mem_cons.1 hp with h | h
    · exact .inl h
    · obtain ⟨m, hm, e⟩ := List.mem_map.1 h
      exact .inr ⟨m, hm, e.symm⟩
  have hfo : ∀ g ∈ S.fs, ∀ p ∈ fPairs u g, ownerM p = some u := fun g hg p hp => by
    obtain ⟨g1, g2, g3, g4, g5, g6, g7⟩ := hF.fs g hg
    rcases hfp g hg p hp with rfl | ⟨m, hm, rfl⟩
    · exact owner_folderK hus (word_slash g1)
    · obtain ⟨m1, m2, m3, m4, m5⟩ := g7 m hm
      exact owner_mail hus (word_slash g1) (by omega)
  have hmeta : ∀ g ∈ S.fs, metaM Y u g.name = some (g.val, g.next) := fun g hg => by
    obtain ⟨g1, g2, g3, g4, g5, g6, g7⟩ := hF.fs g hg
    refine (meta_iff hY.up).2 ⟨metaT g.val g.next, ?_, meta_is ⟨g2, g3, g5, g6⟩⟩
    rw [hmem]
    exact .inr (.inr (.inr ⟨g, hg, List.mem_cons_self⟩))
  have hgY : GoodL Y := by
    refine ⟨h6, fun p hp => ?_, hY.up⟩
    have u1 := short_one hF.us
    have u2 := short_size' hF.us
    rcases (hmem p).1 hp with rfl | rfl | h | ⟨g, hg, h⟩
    · have h3 := itoa_19 nx (by omega) (by omega)
      exact ⟨by show 1 ≤ vK.size; decide, by show vK.size ≤ 30; decide, by show (bs (itoa nx)).size ≤ 90; omega⟩
    · have h3 := short_size' hF.ws
      have h4 : (userK u).size = u.size + 2 := by rw [size_of, userK_data, size_of]; simp
      exact ⟨by show 1 ≤ (userK u).size; omega, by show (userK u).size ≤ 30; omega, by show S.word.size ≤ 90; omega⟩
    · exact hgN.2.1 p (hasv p h).1
    · obtain ⟨g1, g2, g3, g4, g5, g6, g7⟩ := hF.fs g hg
      have g8 := short_size' g1
      rcases hfp g hg p h with rfl | ⟨m, hm, rfl⟩
      · have h1 := metaT_39 (x := g.val) (y := g.next) (by omega) (by omega) (by omega) (by omega)
        have h2 : (folderK u g.name).size = u.size + g.name.size + 3 := by
          rw [size_of, folderK_data, size_of, size_of]
          simp only [List.length_cons, List.length_append]
          omega
        exact ⟨by show 1 ≤ (folderK u g.name).size; omega, by show (folderK u g.name).size ≤ 30; omega, by show (metaT _ _).size ≤ 90; omega⟩
      · obtain ⟨m1, m2, m3, m4, m5⟩ := g7 m hm
        have h1 := (mailV_head m3 m4).2.2
        have h3 := (d3_is m.1.toNat (by omega)).1
        have h2 : (mailK u g.name m.1).size = u.size + g.name.size + 7 := by
          rw [size_of, mailK_data', size_of, size_of]
          simp only [List.length_cons, List.length_append, h3]
          omega
        exact ⟨by show 1 ≤ (mailK u g.name m.1).size; omega, by show (mailK u g.name m.1).size ≤ 30; omega, by show (mailV m).size ≤ 90; omega⟩
  refine store_keep (u := u) hN hgY ((hmem _).2 (.inl rfl)) hnx hn9 (fun p hk ho => ?_) fun p hp ho hk => ?_
  · rw [hmem]
    constructor
    · rintro (rfl | rfl | h | ⟨g, hg, h⟩)
      · exact absurd rfl hk
      · exact absurd (owner_user hus) ho
      · exact (hasv p h).1
      · exact absurd (hfo g hg p h) ho
    · exact fun h => .inr (.inr (.inl ((hasd p hk).2 ⟨h, ho⟩)))
  · rcases (hmem p).1 hp with rfl | rfl | h | ⟨g, hg, h⟩
    · exact absurd rfl hk
    · show askG Y nx S.word (splitL 47 (userK u).data.toList)
      rw [split_user hus]
      obtain ⟨g, hg⟩ := Option.isSome_iff_exists.1 hF.ib
      obtain ⟨k1, k2⟩ := lookF_mem hg
      have h9 := hmeta g k1
      rw [k2] at h9
      refine ⟨rfl, fun e => ?_, ?_⟩
      · have := short_one hF.us
        rw [size_of, e] at this
        simp at this
      · show (shortB (bs u.data.toList) && shortB S.word && (metaM Y (bs u.data.toList) inboxT).isSome) = true
        rw [data_bs, hF.us, hF.ws, h9]
        rfl
    · exact absurd ho (hasv p h).2
    · obtain ⟨g1, g2, g3, g4, g5, g6, g7⟩ := hF.fs g hg
      have hfs := word_slash g1
      rcases hfp g hg p h with rfl | ⟨m, hm, rfl⟩
      · show askG Y nx (metaT g.val g.next) (splitL 47 (folderK u g.name).data.toList)
        rw [split_folder hus hfs]
        refine ⟨rfl, ?_⟩
        show (shortB (bs g.name.data.toList) && (getM Y (userK (bs u.data.toList))).isSome && foldB nx (metaT g.val g.next) (metaM Y (bs u.data.toList) (bs g.name.data.toList))) = true
        rw [data_bs, data_bs, hmeta g hg, g1, (getM_mem hY.up).2 ((hmem (userK u, S.word)).2 (.inr (.inl rfl)))]
        show (decide (g.val < nx) && ((metaT g.val g.next).toList == (metaT g.val g.next).toList)) = true
        rw [decide_eq_true g4]
        simp
      · obtain ⟨m1, m2, m3, m4, m5⟩ := g7 m hm
        obtain ⟨v1, v2, v3⟩ := mailV_head m3 m4
        obtain ⟨d1, d2⟩ := d3_is m.1.toNat (by omega)
        show askG Y nx (mailV m) (splitL 47 (mailK u g.name m.1).data.toList)
        rw [split_mail hus hfs (by omega)]
        refine ⟨rfl, ?_⟩
        show ((d3 m.1.toNat).length == 3 && (decide (1 ≤ ((mailV m).size : Int)) && decide (((mailV m).size : Int) ≤ 86)) && (decide (48 ≤ headV (mailV m)) && decide (headV (mailV m) ≤ 51)) && mailN (countM Y (bs u.data.toList)) (decFrom 0 (d3 m.1.toNat)) (metaM Y (bs u.data.toList) (bs g.name.data.toList))) = true
        rw [data_bs, data_bs, hmeta g hg, d1, d2, lies_count hY hus, decide_eq_true v1, decide_eq_true v2, decide_eq_true (by omega), decide_eq_true (by omega)]
        have s6 := hF.sm
        show (true && (decide (1 ≤ (m.1.toNat : Int)) && decide ((m.1.toNat : Int) ≤ g.next - 1)) && decide ((sumF S.fs : Int) ≤ 6)) = true
        rw [decide_eq_true (by omega), decide_eq_true (by omega), decide_eq_true (by omega)]
        rfl
theorem store_pair {L : List PM} (h : storeB L = true) {p : PM} (hp : p ∈ L) (hk : p.1 ≠ vK) : askG L (nextM L) p.2 (splitL 47 p.1.data.toList) := by
  unfold storeB at h
  rw [Bool.and_eq_true] at h
  exact (pair_iff hk).1 (List.all_eq_true.1 h.2 p hp)
theorem mail_nv (u f : ByteArray) (n : Int) : mailK u f n ≠ vK := fun e => by
  have h1 := congrArg (fun x : ByteArray => x.data.toList) e
  simp only [mailK_data'] at h1
  cases h1
theorem aside_is {L : List PM} {u : ByteArray} {S : SM} (hS : takeAll (nextM L) u S0 L = some S) : ∀ p : PM, p.1 ≠ vK → (p ∈ notK vK S.aside ↔ p ∈ L ∧ ownerM p ≠ some u) := fun p hk => by
  rw [all_aside hS]
  constructor
  · intro hp
    obtain ⟨h1, h2⟩ := notK_sub hp
    have h3 : p ∈ L.filter fun p => !isOwn u p := by simpa using h1
    obtain ⟨h4, h5⟩ := List.mem_filter.1 h3
    exact ⟨h4, by simpa using h5⟩
  · rintro ⟨h1, h2⟩
    refine List.mem_filter.2 ⟨?_, decide_eq_true hk⟩
    have h3 : p ∈ L.filter fun p => !isOwn u p := List.mem_filter.2 ⟨h1, by simpa using h2⟩
    simpa using h3
/-- What is left of a store by a right desk is a store. -/
theorem store_left {N Y : List PM} {nx : Int} {u : ByteArray} {S S' : SM} (h : storeB N = true) (hS : takeAll (nextM N) u S0 N = some S) (ha : S'.aside = S.aside) (hnd : (S'.fs.map (·.name)).Nodup) (hF : FitS nx u S') (hnx : nextM N ≤ nx) (hn9 : nx ≤ 10000) (up : UpL Y) (pm : (deskP nx u S').Perm Y) (h6 : Y.length ≤ 60) : storeB Y = true := by
  have hus := word_slash hF.us
  have hl : Lies Y nx u S' := ⟨up, pm.symm, hnd, fun g hg => word_slash (hF.fs g hg).1, fun f hf p hp => by
    rw [ha] at hp
    exact aside_pass h hus hf hS hp, fun p hp => by
    rw [ha] at hp
    obtain ⟨h1, h2⟩ := (aside_is hS p (notK_sub hp).2).1 hp
    rw [← mail_is h hus h1]
    exact away_owner h2⟩
  refine lies_store h hl h6 hnx hn9 hF ?_
  rw [ha]
  exact aside_is hS
/-- A store's desk is right. -/
theorem store_fits {L : List PM} {u : ByteArray} {S : SM} (h : storeB L = true) (hus : (47 : UInt8) ∉ u.data.toList) (hS : takeAll (nextM L) u S0 L = some S) (hw : S.word.toList ≠ []) : FitS (nextM L) u S := by
  obtain ⟨hg, nx0, hnm, n1, n2, _, kk, _⟩ := store_facts h
  obtain ⟨v, hv⟩ : ∃ v, getM L (userK u) = some v := by
    cases hv : getM L (userK u) with
    | none => exact absurd (((word_iff h hus hS).1).2 hv) hw
    | some v => exact ⟨v, rfl⟩
  have hm := (getM_mem hg.2.2).1 hv
  have hsv : S.word = v := by
    have h9 := (word_iff h hus hS).2
    rw [hv] at h9
    exact h9
  have hp := store_pair h hm (user_nv u)
  have hp2 : askG L (nextM L) v (splitL 47 (userK u).data.toList) := hp
  rw [split_user hus] at hp2
  obtain ⟨_, _, hp3⟩ := hp2
  have hp4 : (shortB (bs u.data.toList) && shortB v && (metaM L (bs u.data.toList) inboxT).isSome) = true := hp3
  rw [data_bs, Bool.and_eq_true, Bool.and_eq_true] at hp4
  have hlay := kk u ⟨_, hm, rfl⟩
  rw [hnm] at hlay n1 n2
  unfold layF at hlay
  rw [hS] at hlay
  have hl2 : ((lookF inboxT S.fs).isSome && decide (sumF S.fs ≤ 6)) = true := hlay
  rw [Bool.and_eq_true, decide_eq_true_eq] at hl2
  refine ⟨hp4.1.1, by rw [hsv]; exact hp4.1.2, hl2.1, hl2.2, fun g hg9 => ?_⟩
  have hgn := name_short h hus hS hg9
  have hgs := word_slash hgn
  obtain ⟨⟨w, f2, k1, k2, k3, k4⟩, _⟩ := store_fol h hS g hg9
  obtain ⟨j1, j2, j3, j4⟩ := (folder_meta n2).1 k2
  have hr := metaV_range j2
  have hme : metaM L u g.name = some (g.val, g.next) := by
    unfold metaM
    rw [(getM_mem hg.2.2).2 k1]
    show metaV w = _
    rw [j2, k3, k4]
  refine ⟨hgn, by omega, by omega, by omega, by omega, by omega, fun m hm9 => ?_⟩
  obtain ⟨e1, e2, e3, e4, e5, e6⟩ := store_fit h hS g hg9
  obtain ⟨m1, m2, m3, m4, m5⟩ := e6 m hm9
  have hin : mailP u g.name m ∈ L := (store_sub h hS g hg9).subset (List.mem_map.2 ⟨m, hm9, rfl⟩)
  have hq : askG L (nextM L) (mailV m) (splitL 47 (mailK u g.name m.1).data.toList) := store_pair h hin (mail_nv u g.name m.1)
  rw [split_mail hus hgs (by omega)] at hq
  obtain ⟨_, hq2⟩ := hq
  have hq3 : ((d3 m.1.toNat).length == 3 && (decide (1 ≤ ((mailV m).size : Int)) && decide (((mailV m).size : Int) ≤ 86)) && (decide (48 ≤ headV (mailV m)) && decide (headV (mailV m) ≤ 51)) && mailN (countM L (bs u.data.toList)) (decFrom 0 (d3 m.1.toNat)) (metaM L (bs u.data.toList) (bs g.name.data.toList))) = true := hq2
  rw [data_bs, data_bs, hme, (d3_is m.1.toNat (by omega)).2] at hq3
  simp only [Bool.and_eq_true, decide_eq_true_eq] at hq3
  obtain ⟨⟨⟨_, _, q2⟩, _⟩, q5⟩ := hq3
  have q6 : ((decide (1 ≤ (m.1.toNat : Int)) && decide ((m.1.toNat : Int) ≤ g.next - 1)) && decide ((countM L u : Int) ≤ 6)) = true := q5
  simp only [Bool.and_eq_true, decide_eq_true_eq] at q6
  have h1 := (mailV_head m3 m4).2.2
  exact ⟨by omega, by omega, m3, m4, by omega⟩
theorem goodF_mono {n m : Int} {f : FM} (hnm : n ≤ m) (h : GoodF n f) : GoodF m f := by
  obtain ⟨h1, h2, h3, h4, h5⟩ := h
  exact ⟨h1, h2, h3, by omega, h5⟩
end Go.Proofs.YthgbclipknfmjaaGreatDoor
