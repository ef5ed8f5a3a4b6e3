/-
  Apf in one. By an AI agent.
-/
import Derived.Test.YtddnecljdecamaaGreatDoorQ25
namespace Go.Proofs.YtddnecljdecamaaGreatDoor
open Go.ChangeShapes Go.WideShapes Go.ChangeAt Go.RowKit Go.Deep Go.Lib
set_option linter.unusedVariables false
set_option linter.unusedSimpArgs false
set_option maxRecDepth 100000

/-- What a folder on the desk is of the list, and that its uids are below the next. -/
def FolOf (nx : Int) (u : ByteArray) (L : List PM) (g : FM) : Prop := (∃ w f, (folderK u g.name, w) ∈ L ∧ folderM nx g.name w = some f ∧ g.val = f.val ∧ g.next = f.next) ∧ ∀ m ∈ g.mails, m.1 < g.next
theorem fol_take {nx : Int} {u : ByteArray} {L : List PM} {S S' : SM} {q : PM} (hnx : nx ≤ 10000) (hq : q ∈ L) (hS : ∀ g ∈ S.fs, FolOf nx u L g) (h : takeM nx u S q = some S') : ∀ g ∈ S'.fs, FolOf nx u L g := by
  have hput : ∀ {o : Option FM}, putM S o = some S' → (∀ g, o = some g → FolOf nx u L g) → ∀ g ∈ S'.fs, FolOf nx u L g := fun {o} h9 hg => by
    unfold putM at h9
    obtain ⟨g, rfl, rfl⟩ := Option.map_eq_some_iff.1 h9
    intro f hf
    rcases putF_mem hf with hf | rfl
    · exact hS f hf
    · exact hg _ rfl
  have haside : asideM S q = some S' → ∀ g ∈ S'.fs, FolOf nx u L g := fun h9 => by cases h9; exact hS
  unfold takeM takeP at h
  split at h
  · split at h
    · unfold userM at h
      obtain ⟨_, rfl⟩ := ite_some h
      exact hS
    · exact haside h
  · rename_i a b c hG
    split at h
    · rename_i hc
      refine hput h fun g hg => ?_
      have hgf := (folder_meta hnx).1 hg
      have hgn : g.name = bs c := by rw [hgf.2.2.2]
      have hgm : g.mails = [] := by rw [hgf.2.2.2]
      have hsp : splitL 47 q.1.data.toList = [[102], b, c] := by rw [hG, hc.2]
      have hk := (key_folder hsp).1
      rw [hc.1] at hk
      refine ⟨⟨q.2, g, by rw [hgn, ← hk]; exact hq, by rw [hgn]; exact hg, rfl, rfl⟩, fun m hm => ?_⟩
      rw [hgm] at hm
      cases hm
    · exact haside h
  · rename_i a b c d hG
    split at h
    · refine hput h fun g hg => ?_
      unfold mailM at hg
      obtain ⟨f', hl, hg2⟩ := Option.bind_eq_some_iff.1 hg
      obtain ⟨un, m1, m2, m3, m4, m5, m6, m7, m8, hgm⟩ := mailO_some hg2
      obtain ⟨e1, e2⟩ := hS f' (lookF_mem hl).1
      rw [hgm]
      refine ⟨e1, fun m hm => ?_⟩
      rcases List.mem_append.1 (show m ∈ f'.mails ++ [((un : Int), hdV q.2 - 48, q.2.extract 1 q.2.size)] from hm) with hm | hm
      · exact e2 m hm
      · rw [List.mem_singleton.1 hm]
        exact m8
    · exact haside h
  · exact haside h
theorem fol_all {nx : Int} {u : ByteArray} {L : List PM} (hnx : nx ≤ 10000) : ∀ {R : List PM} {S S' : SM}, (∀ q ∈ R, q ∈ L) → (∀ g ∈ S.fs, FolOf nx u L g) → takeAll nx u S R = some S' → ∀ g ∈ S'.fs, FolOf nx u L g
  | [], S, S', _, hS, h => by cases h; exact hS
  | q :: R, S, S', hR, hS, h => by
    unfold takeAll at h
    obtain ⟨S1, h1, h2⟩ := Option.bind_eq_some_iff.1 h
    exact fol_all hnx (fun x hx => hR x (List.mem_cons_of_mem _ hx)) (fol_take hnx (hR q List.mem_cons_self) hS h1) h2
theorem store_fol {L : List PM} {u : ByteArray} {S : SM} (h : storeB L = true) (hS : takeAll (nextM L) u S0 L = some S) : ∀ g ∈ S.fs, FolOf (nextM L) u L g := by
  obtain ⟨hg, nx0, hnm, n1, n2, _, _, _⟩ := store_facts h
  exact fol_all (by omega) (fun q hq => hq) (fun f hf => by cases hf) hS
theorem look_meta {L : List PM} {u f : ByteArray} {S : SM} {g : FM} (h : storeB L = true) (hS : takeAll (nextM L) u S0 L = some S) (hl : lookF f S.fs = some g) : metaM L u f = some (g.val, g.next) := by
  obtain ⟨hg, nx0, hnm, n1, n2, _, _, _⟩ := store_facts h
  obtain ⟨hm, hn⟩ := lookF_mem hl
  obtain ⟨⟨w, f2, k1, k2, k3, k4⟩, _⟩ := store_fol h hS g hm
  rw [hn] at k1 k2
  have k5 := ((folder_meta (by omega)).1 k2).2.1
  unfold metaM
  rw [(getM_mem hg.2.2).2 k1]
  show metaV w = _
  rw [k5, k3, k4]
theorem mail_is {L : List PM} {u : ByteArray} (h : storeB L = true) (hus : (47 : UInt8) ∉ u.data.toList) {q : PM} (hq : q ∈ L) : isMail u q = beginsB q.1 (mailsK u) := by
  rw [Bool.eq_iff_iff]
  refine ⟨mail_begins, fun hb => ?_⟩
  obtain ⟨r, hr⟩ := begins_parts hus hb
  obtain ⟨_, nx0, _, _, _, _, _, k⟩ := store_facts h
  rcases k _ hq with k | ⟨u', k1, _⟩
  · rw [k] at hr
    have h9 : splitL 47 vK.data.toList = [[118]] := rfl
    rw [h9] at hr
    simp at hr
  · unfold ownerM at k1
    rw [hr] at k1
    unfold isMail
    rw [hr]
    match r, k1 with
    | [], k1 => exact absurd k1 (by unfold ownerG; simp)
    | [c], k1 => exact absurd k1 (by unfold ownerG; simp)
    | [c, d], _ => exact decide_eq_true ⟨rfl, data_bs u⟩
    | _ :: _ :: _ :: _, k1 => exact absurd k1 (by unfold ownerG; simp)
theorem sum_count {L : List PM} {u : ByteArray} {S : SM} (h : storeB L = true) (hus : (47 : UInt8) ∉ u.data.toList) (hS : takeAll (nextM L) u S0 L = some S) : sumF S.fs = countM L u := by
  obtain ⟨S', k1, _, hI⟩ := take_all h hus
  rw [hS] at k1
  cases k1
  rw [hI.c]
  unfold countM
  congr 1
  exact List.filter_congr fun q hq => mail_is h hus hq
theorem count_six {L : List PM} {u : ByteArray} {S : SM} (h : storeB L = true) (hus : (47 : UInt8) ∉ u.data.toList) (hS : takeAll (nextM L) u S0 L = some S) (hk : (getM L (userK u)).isSome = true) : sumF S.fs ≤ 6 := by
  obtain ⟨hg, nx0, hnm, n1, n2, _, hlay, _⟩ := store_facts h
  obtain ⟨v, hv⟩ := Option.isSome_iff_exists.1 hk
  have h1 := hlay u ⟨_, (getM_mem hg.2.2).1 hv, rfl⟩
  rw [hnm] at h1
  unfold layF at h1
  rw [hS] at h1
  have h2 : ((lookF inboxT S.fs).isSome && decide (sumF S.fs ≤ 6)) = true := h1
  rw [Bool.and_eq_true, decide_eq_true_eq] at h2
  exact h2.2
def appT (L : List PM) (u f t : ByteArray) (fl : Int) : List PM × Int × Int :=
  if countM L u = 6 then (L, 0, 12) else if (metaD L u f).2 = 999 then (L, 0, 6) else if 60 < (appY L u f t fl).length then (L, 0, 7) else (appY L u f t fl, (metaD L u f).2, 0)
theorem d3_inj {a b : Nat} (ha : a < 1000) (hb : b < 1000) (h : d3 a = d3 b) : a = b := by
  have h1 := (d3_is a ha).2
  rw [h, (d3_is b hb).2] at h1
  exact (Option.some.inj h1).symm
theorem mails_not {u n f : ByteArray} {ms : List MMl} : ∀ p ∈ ms.map (mailP u n), p.1 ≠ folderK u f := fun p hp e => by
  obtain ⟨m, _, rfl⟩ := List.mem_map.1 hp
  have h9 := congrArg (fun x : ByteArray => x.data.toList) e
  simp only [mailP, folderK_data] at h9
  simp [bs] at h9
theorem same_name {fs : List FM} (hn : (fs.map (·.name)).Nodup) {a b : FM} (ha : a ∈ fs) (hb : b ∈ fs) (h : a.name = b.name) : a = b := by
  induction fs with
  | nil => cases ha
  | cons x fs ih =>
    rw [List.map_cons, List.nodup_cons] at hn
    rcases List.mem_cons.1 ha with ha1 | ha1
    · rcases List.mem_cons.1 hb with hb1 | hb1
      · rw [ha1, hb1]
      · exact absurd (List.mem_map.2 ⟨b, hb1, by rw [← h, ha1]⟩) hn.1
    · rcases List.mem_cons.1 hb with hb1 | hb1
      · exact absurd (List.mem_map.2 ⟨a, ha1, by rw [h, hb1]⟩) hn.1
      · exact ih hn.2 ha1 hb1
theorem look_self {fs : List FM} (hn : (fs.map (·.name)).Nodup) {g : FM} (hg : g ∈ fs) : lookF g.name fs = some g := by
  obtain ⟨g2, h2⟩ := Option.isSome_iff_exists.1 (look_mem' hg)
  obtain ⟨h3, h4⟩ := lookF_mem h2
  rw [h2, same_name hn h3 hg h4]
/-- A mail's key in the list is that of a mail on the desk. -/
theorem mail_there {L : List PM} {u f : ByteArray} {S : SM} {g : FM} {n : Nat} {v : ByteArray} (h : storeB L = true) (hus : (47 : UInt8) ∉ u.data.toList) (hfs : (47 : UInt8) ∉ f.data.toList) (hS : takeAll (nextM L) u S0 L = some S) (hl : lookF f S.fs = some g) (hn : n < 1000) (hm : (mailK u f (n : Int), v) ∈ L) : ∃ m ∈ g.mails, m.1 = (n : Int) ∧ mailV m = v := by
  have hnd := names_all (S := S0) List.nodup_nil hS
  have hd := (take_desk h hus hS).mem_iff.2 hm
  have hkd : (mailK u f (n : Int)).data.toList = 109 :: 47 :: (u.data.toList ++ 47 :: (f.data.toList ++ 47 :: d3 n)) := by simp [bs]
  have hsp : splitL 47 (mailK u f (n : Int)).data.toList = [109] :: u.data.toList :: f.data.toList :: splitL 47 (d3 n) := by
    rw [hkd]
    have e : (109 : UInt8) :: 47 :: (u.data.toList ++ 47 :: (f.data.toList ++ 47 :: d3 n)) = [109] ++ 47 :: (u.data.toList ++ 47 :: (f.data.toList ++ 47 :: d3 n)) := rfl
    rw [e, splitL_seg 47 [109] _ (by decide), splitL_seg 47 _ _ hus, splitL_seg 47 _ _ hfs]
  have how : ownerM (mailK u f (n : Int), v) = some u := by
    obtain ⟨_, nx0, _, _, _, _, _, k⟩ := store_facts h
    rcases k _ hm with k | ⟨u', k1, _⟩
    · exact absurd k (mailK_not _ _ _)
    · unfold ownerM at k1 ⊢
      rw [hsp] at k1 ⊢
      match hq : splitL 47 (d3 n), k1 with
      | [], k1 => exact absurd hq (splitL_ne 47 _)
      | [d], k1 =>
        show (if ([109] : List UInt8) = [109] then some (bs u.data.toList) else none) = some u
        rw [if_pos rfl, data_bs]
      | _ :: _ :: _, k1 => cases k1
  unfold deskX at hd
  rcases List.mem_append.1 hd with hd | hd
  · exfalso
    rw [all_aside hS] at hd
    have h3 : (mailK u f (n : Int), v) ∈ L.filter fun p => !isOwn u p := by simpa using hd
    have h5 := (List.mem_filter.1 h3).2
    rw [show isOwn u (mailK u f (n : Int), v) = true from decide_eq_true how] at h5
    cases h5
  · rcases List.mem_append.1 hd with hd | hd
    · exfalso
      unfold wordL at hd
      split at hd
      · cases hd
      · have h9 := congrArg Prod.fst (List.mem_singleton.1 hd)
        have h7 := congrArg (fun x : ByteArray => x.data.toList) h9
        simp [bs, ByteArray.data_append] at h7
    · obtain ⟨g2, hg2, hp⟩ := flat_mem hd
      unfold fPairs at hp
      rcases List.mem_cons.1 hp with hp | hp
      · exfalso
        have h9 := congrArg Prod.fst hp
        have h7 := congrArg (fun x : ByteArray => x.data.toList) h9
        simp only [folderK_data] at h7
        simp [bs] at h7
      · obtain ⟨m, hm1, hm2⟩ := List.mem_map.1 hp
        have h9 := congrArg Prod.fst hm2
        have h7 := congrArg (fun x : ByteArray => x.data.toList) h9
        have h6 : 109 :: 47 :: (u.data.toList ++ 47 :: (g2.name.data.toList ++ 47 :: d3 m.1.toNat)) = 109 :: 47 :: (u.data.toList ++ 47 :: (f.data.toList ++ 47 :: d3 n)) := by
          simpa [mailP, bs] using h7
        simp only [List.cons.injEq, true_and] at h6
        obtain ⟨_, h5⟩ := seg_inj hus hus h6
        obtain ⟨h4, h3⟩ := seg_inj (word_slash (name_short h hus hS hg2)) hfs h5
        have h2 : g2.name = f := bs_inj h4
        have h1 : g2 = g := by
          have h8 := look_self hnd hg2
          rw [h2, hl] at h8
          exact (Option.some.inj h8).symm
        subst h1
        have hft := (store_fit h hS g2 hg2).2.2.2.2.2 m hm1
        have h0 := d3_inj (by omega) hn h3
        exact ⟨m, hm1, by omega, congrArg Prod.snd hm2⟩
/-- The desk and the list, one folder told apart. -/
theorem desk_apart {L : List PM} {u f : ByteArray} {S : SM} {g : FM} (h : storeB L = true) (hus : (47 : UInt8) ∉ u.data.toList) (hfs : (47 : UInt8) ∉ f.data.toList) (hS : takeAll (nextM L) u S0 L = some S) (hw : S.word.toList ≠ []) (hl : lookF f S.fs = some g) :
    (notK (folderK u f) L).Perm ((vK, bs (itoa (nextM L))) :: (userK u, S.word) :: (notK vK S.aside ++ (g.mails.map (mailP u f) ++ flatF u (dropF f S.fs)))) := by
  have hnd := names_all (S := S0) List.nodup_nil hS
  refine (notK_perm (desk_list h hus hS hw)).trans ?_
  rw [notK_cons _ _ _ (folder_not u f).symm, notK_cons _ _ _ (fun e => by
    have h9 := congrArg (fun x : ByteArray => x.data.toList) e
    simp [ByteArray.data_append] at h9), notK_app]
  refine List.Perm.cons _ (List.Perm.cons _ ?_)
  have e1 : notK (folderK u f) (notK vK S.aside) = notK vK S.aside := notK_self fun p hp => by
    have h9 := aside_pass h hus hfs hS hp
    unfold passB at h9
    rw [Bool.and_eq_true, decide_eq_true_eq] at h9
    exact h9.1
  rw [e1]
  refine List.Perm.append_left _ ?_
  refine (notK_perm (flat_perm (drop_perm hl))).trans ?_
  rw [flat_cons, notK_app]
  have hgn := (lookF_mem hl).2
  have e2 : notK (folderK u f) (fPairs u g) = g.mails.map (mailP u f) := by
    unfold fPairs
    rw [hgn, notK_skip (folderK u f) (folderK u f, metaT g.val g.next) _ rfl, notK_self mails_not]
  have e3 : notK (folderK u f) (flatF u (dropF f S.fs)) = flatF u (dropF f S.fs) := notK_self fun p hp => by
    have h8 := rest_pass (fs := dropF f S.fs) hus hfs fun x hx => ⟨drop_names hnd x hx, word_slash (name_short h hus hS ((dropF_sub f S.fs).subset hx))⟩
    have h9 := List.filter_eq_self.1 h8 p hp
    unfold passB at h9
    rw [Bool.and_eq_true, decide_eq_true_eq] at h9
    exact h9.1
  rw [e2, e3]
def AppFits (L : List PM) (nx : Int) (u : ByteArray) (gx : Int) (q : Int) (S' : SM) (A : List PM × Int × Int) : Prop :=
  (q ≠ 0 → A = (L, 0, q)) ∧ (q = 0 → (∀ f ∈ S'.fs, FitF f) ∧ ∃ Y, UpL Y ∧ (deskP nx u S').Perm Y ∧ Y.length ≤ 4000 ∧ A = if 60 < Y.length then (L, 0, 7) else (Y, gx, 0))
theorem app_fits {L : List PM} {u f t : ByteArray} {fl : Int} {S S' : SM} {g : FM} {q : Int} (h : storeB L = true) (hsu : shortB u = true) (hsf : shortB f = true) (hts : t.size ≤ 1000) (f0 : 0 ≤ fl) (f1 : fl ≤ 3) (hS : takeAll (nextM L) u S0 L = some S) (hw : S.word.toList ≠ []) (hl : lookF f S.fs = some g) (hQ : apM S g fl t = (q, S')) : AppFits L (nextM L) u g.next q S' (appT L u f t fl) := by
  have hus := word_slash hsu
  have hfs := word_slash hsf
  obtain ⟨hg, nx0, hnm, n1, n2, _, _, _⟩ := store_facts h
  have hmd : metaD L u f = (g.val, g.next) := by unfold metaD; rw [look_meta h hS hl]; rfl
  have hgm := (lookF_mem hl).1
  have hgn := (lookF_mem hl).2
  have hs : (getM L (userK u)).isSome = true := by
    cases hv : getM L (userK u) with
    | none => exact absurd ((word_iff h hus hS).1.2 hv) hw
    | some v => rfl
  have h6 := count_six h hus hS hs
  have hsc := sum_count h hus hS
  unfold apM at hQ
  unfold appT
  rw [← hsc, hmd]
  by_cases hc : 6 ≤ sumF S.fs
  · rw [if_pos hc] at hQ
    cases hQ
    rw [if_pos (by omega)]
    exact ⟨fun _ => rfl, fun h9 => by cases h9⟩
  · rw [if_neg hc] at hQ
    rw [if_neg (by omega)]
    by_cases hx : g.next = 999
    · rw [if_pos hx] at hQ
      cases hQ
      rw [if_pos hx]
      exact ⟨fun _ => rfl, fun h9 => by cases h9⟩
    · rw [if_neg hx] at hQ
      cases hQ
      rw [if_neg hx]
      have hfit := store_fit h hS g hgm
      obtain ⟨p1, p2, p3, p4⟩ := meta_range (look_meta h hS hl)
      dsimp only at p1 p2 p3 p4
      obtain ⟨k1, k2⟩ := app_len hg u f t fl
      refine ⟨fun h9 => absurd rfl h9, fun _ => ⟨fun z hz => ?_, appY L u f t fl, k2, ?_, by omega, rfl⟩⟩
      · rcases putF_mem hz with hz | rfl
        · exact store_fit h hS z hz
        · obtain ⟨e1, e2, e3, e4, e5, e6⟩ := hfit
          refine ⟨e1, e2, by show 0 ≤ g.next + 1; omega, by show g.next + 1 ≤ 10000; omega, e5, fun m hm => ?_⟩
          rcases List.mem_append.1 (show m ∈ g.mails ++ [(g.next, fl, t)] from hm) with hm | hm
          · exact e6 m hm
          · rw [List.mem_singleton.1 hm]
            exact ⟨by show 0 ≤ g.next; omega, by show g.next < 1000; omega, f0, f1, hts⟩
      · unfold appY
        rw [hmd]
        dsimp only
        have hu1 := ins_up (k := folderK u f) (v := metaT g.val (g.next + 1)) hg.2.2
        refine List.Perm.trans ?_ (ins_perm hu1).symm
        have hno : notK (mailK u f g.next) (insL (folderK u f) (metaT g.val (g.next + 1)) L) = insL (folderK u f) (metaT g.val (g.next + 1)) L := notK_self fun x hx2 e => by
          rcases ins_mem hg.2.2 hx2 with rfl | hx2
          · have h9 := congrArg (fun x : ByteArray => x.data.toList) e
            simp only [folderK_data] at h9
            simp [bs] at h9
          · have hx3 : (mailK u f ((g.next.toNat : Nat) : Int), x.2) ∈ L := by
              rw [show ((g.next.toNat : Nat) : Int) = g.next by omega, ← e]
              exact hx2.1
            obtain ⟨m, hm1, hm2, _⟩ := mail_there h hus hfs hS hl (by omega) hx3
            have h8 := (store_fol h hS g hgm).2 m hm1
            omega
        rw [hno]
        refine List.Perm.trans ?_ (List.Perm.cons _ (ins_perm hg.2.2).symm)
        refine List.Perm.trans ?_ (List.Perm.cons _ (List.Perm.cons _ (desk_apart h hus hfs hS hw hl).symm))
        unfold deskP
        have hfl : (flatF u (putF (moreF g fl t) S.fs)).Perm (fPairs u (moreF g fl t) ++ flatF u (dropF f S.fs)) := by
          have h9 := flat_perm (u := u) (put_perm (g := moreF g fl t) (f := g) (fs := S.fs) (by show lookF g.name S.fs = some g; rw [hgn]; exact hl))
          rw [flat_cons] at h9
          have e9 : (moreF g fl t).name = f := hgn
          rw [e9] at h9
          exact h9
        have hfp : fPairs u (moreF g fl t) = (folderK u f, metaT g.val (g.next + 1)) :: (g.mails.map (mailP u f) ++ [(mailK u f g.next, mailV (g.next, fl, t))]) := by
          unfold fPairs moreF
          dsimp only
          rw [hgn, List.map_append]
          rfl
        refine (List.Perm.cons _ (List.Perm.cons _ (List.Perm.append_left _ hfl))).trans ?_
        rw [hfp]
        -- v, u, A ++ (F :: (ms ++ [m]) ++ r)  against  m :: F :: v :: u :: (A ++ (ms ++ r))
        have e1 : ∀ (v w F m : PM) (A ms r : List PM), (v :: w :: (A ++ ((F :: (ms ++ [m])) ++ r))).Perm (m :: F :: v :: w :: (A ++ (ms ++ r))) := fun v w F m A ms r => by
          have p1 : (A ++ ((F :: (ms ++ [m])) ++ r)).Perm (m :: F :: (A ++ (ms ++ r))) := by
            have p2 : ((F :: (ms ++ [m])) ++ r).Perm (m :: F :: (ms ++ r)) := by
              have p3 : ((ms ++ [m]) ++ r).Perm (m :: (ms ++ r)) := by
                rw [List.append_assoc]
                exact List.perm_middle
              exact (List.Perm.cons F p3).trans (List.Perm.swap _ _ _)
            refine (List.Perm.append_left A p2).trans ?_
            refine (List.perm_middle).trans ?_
            exact List.Perm.cons _ List.perm_middle
          refine (List.Perm.cons v (List.Perm.cons w p1)).trans ?_
          refine (List.Perm.cons v (List.Perm.swap _ _ _)).trans ?_
          refine (List.Perm.swap _ _ _).trans ?_
          refine List.Perm.cons m ?_
          refine (List.Perm.cons v (List.Perm.swap _ _ _)).trans ?_
          exact List.Perm.swap _ _ _
        exact e1 _ _ _ _ _ _ _
theorem appR_T {L : List PM} {u f t : ByteArray} {fl : Int} (h : knownR L u f = 0) : appR L u f t fl = appT L u f t fl := by
  unfold appR appT
  rw [if_neg (by simp [h])]
end Go.Proofs.YtddnecljdecamaaGreatDoor
