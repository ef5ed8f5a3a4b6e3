/-
  Fdp in one. By an AI agent.
-/
import Derived.Test.YtddnecljdecamaaGreatDoorQ37
import Derived.Test.YtddnecljdecamaaGreatDoorQ38
namespace Go.Proofs.YtddnecljdecamaaGreatDoor
open Go.ChangeShapes Go.WideShapes Go.ChangeAt Go.RowKit Go.Deep Go.Lib
set_option linter.unusedVariables false
set_option linter.unusedSimpArgs false
set_option maxRecDepth 100000

/-- A store's desk. -/
structure DeskS (N : List PM) (u : ByteArray) (S : SM) : Prop where
  st : storeB N = true
  tk : takeAll (nextM N) u S0 N = some S
  wd : S.word.toList ≠ []
  fit : FitS (nextM N) u S
  nd : (S.fs.map (·.name)).Nodup
  n1 : 1 ≤ nextM N
/-- What a list is that a desk's operation left. -/
structure LeftS (N Y : List PM) (u : ByteArray) (S S' : SM) : Prop where
  st : storeB Y = true
  up : UpL Y
  pm : (deskP (nextM Y) u S').Perm Y
  fit : FitS (nextM Y) u S'
  nd : (S'.fs.map (·.name)).Nodup
  wd : S'.word.toList ≠ []
  asd : S'.aside = S.aside
theorem LeftS.desk {N Y : List PM} {u : ByteArray} {S S' : SM} (h : LeftS N Y u S S') : ∃ S2, DeskS Y u S2 := by
  have hus := word_slash h.fit.us
  obtain ⟨S2, hS2, _, _⟩ := take_all h.st hus
  have hw : S2.word.toList ≠ [] := fun e => by
    have h1 := (word_iff h.st hus hS2).1.1 e
    rw [desk_user h.up h.pm] at h1
    cases h1
  obtain ⟨_, nx0, hnm, n1, _⟩ := store_facts h.st
  rw [hnm] at n1
  exact ⟨S2, h.st, hS2, hw, store_fits h.st hus hS2 hw, names_of hS2, n1⟩
theorem LeftS.fa {N Y : List PM} {u : ByteArray} {S S' : SM} {g : FM} (hD : DeskS N u S) (h : LeftS N Y u S S') (hg : g ∈ S'.fs) (hr : Rise g.mails) : faM Y u g.name = ((g.name, g.val, g.next, g.mails), 0) :=
  fa_exact hD.st hD.tk h.asd h.st h.fit h.nd h.up h.pm h.wd hg hr
theorem put_len0 {g : FM} : ∀ {fs : List FM}, lookF g.name fs = none → (putF g fs).length = fs.length + 1
  | [], _ => rfl
  | x :: fs, h => by
    unfold lookF at h
    unfold putF
    by_cases e : x.name = g.name
    · rw [if_pos e] at h
      cases h
    · rw [if_neg e] at h ⊢
      show (putF g fs).length + 1 = fs.length + 1 + 1
      rw [put_len0 h]
theorem drop_len0 {f : ByteArray} {g : FM} : ∀ {fs : List FM}, lookF f fs = some g → (dropF f fs).length + 1 = fs.length
  | [], h => by cases h
  | x :: fs, h => by
    unfold lookF at h
    unfold dropF
    by_cases e : x.name = f
    · rw [if_pos e]
      rfl
    · rw [if_neg e] at h ⊢
      show (dropF f fs).length + 1 + 1 = fs.length + 1
      rw [drop_len0 h]
theorem left_of {N Y : List PM} {u : ByteArray} {nx' : Int} {S S' : SM} (hD : DeskS N u S) (hT : StepS (fun _ => True) (nextM N) nx' u S S') (h9 : nx' ≤ 10000) (up : UpL Y) (pm : (deskP nx' u S').Perm Y) (h6 : Y.length ≤ 60) : LeftS N Y u S S' ∧ nextM Y = nx' := by
  have hl := lies_left hD.st hD.tk hT.aside hT.nd hT.fit up pm
  have hn := lies_next hl (by have := hT.n0; have := hD.n1; omega) h9
  have hst := store_left hD.st hD.tk hT.aside hT.nd hT.fit hT.n0 h9 up pm h6
  exact ⟨⟨hst, up, by rw [hn]; exact pm, by rw [hn]; exact hT.fit, hT.nd, by rw [hT.word]; exact hD.wd, hT.aside⟩, hn⟩
theorem mk_gen {N : List PM} {u f : ByteArray} {S : SM} (hD : DeskS N u S) (hsf : shortB f = true) (hl : lookF f S.fs = none) (h9 : nextM N ≤ 9999) :
    (mkR N u f = (N, 7) ∧ 60 ≤ N.length) ∨ ∃ Y, mkR N u f = (Y, 0) ∧ LeftS N Y u S ⟨S.aside, S.word, putF ⟨f, nextM N, 1, []⟩ S.fs⟩ ∧ nextM Y = nextM N + 1 ∧ Y.length = N.length + 1 := by
  have hus := word_slash hD.fit.us
  have hQ : mkM (nextM N) S f = (0, nextM N + 1, ⟨S.aside, S.word, putF ⟨f, nextM N, 1, []⟩ S.fs⟩) := by
    unfold mkM
    rw [if_neg hD.wd, hl, if_neg (by simp), if_neg (by omega)]
  have hO := mk_fits hD.st hD.fit.us hsf hD.tk hQ
  have hT := step_mk (P := fun _ => True) hD.n1 hD.fit hD.nd hsf trivial hQ
  obtain ⟨_, j1, _, Y, up, pm, _, j5⟩ := hO.2 rfl
  have l1 := pm.length_eq
  have l2 := (desk_list hD.st hus hD.tk hD.wd).length_eq
  have l3 := sum_fresh (g := ⟨f, nextM N, 1, []⟩) (fs := S.fs) hl
  have l4 := put_len0 (g := ⟨f, nextM N, 1, []⟩) (fs := S.fs) hl
  have l5 : (⟨f, nextM N, 1, []⟩ : FM).mails.length = 0 := rfl
  unfold deskP at l1
  simp only [List.length_cons, List.length_append, flat_len] at l1 l2
  have hlen : Y.length = N.length + 1 := by omega
  unfold fitsR at j5
  split at j5
  · exact .inl ⟨j5, by omega⟩
  · rename_i h60
    obtain ⟨hL, hn⟩ := left_of hD hT j1 up pm (by omega)
    exact .inr ⟨Y, j5, hL, hn, hlen⟩
theorem drop_gen {N : List PM} {u f : ByteArray} {S : SM} {g : FM} (hD : DeskS N u S) (hsf : shortB f = true) (hl : lookF f S.fs = some g) (hi : f ≠ inboxT) :
    ∃ Z, dropR N u f = (Z, 0) ∧ LeftS N Z u S ⟨S.aside, S.word, dropF f S.fs⟩ ∧ nextM Z = nextM N ∧ Z.length + 1 + g.mails.length = N.length := by
  have hus := word_slash hD.fit.us
  have hQ : dropM (nextM N) S f = (0, nextM N, ⟨S.aside, S.word, dropF f S.fs⟩) := by
    unfold dropM
    rw [if_neg hD.wd, hl, if_neg (by simp), if_neg hi]
  have hO := drop_fits hD.st hD.fit.us hsf hD.tk hQ
  have hT := step_drop (P := fun _ => True) hD.fit hD.nd hQ
  obtain ⟨_, j1, _, Y, up, pm, _, j5⟩ := hO.2 rfl
  have l1 := pm.length_eq
  have l2 := (desk_list hD.st hus hD.tk hD.wd).length_eq
  have l3 := sum_dropF hl
  have l4 := drop_len0 hl
  unfold deskP at l1
  simp only [List.length_cons, List.length_append, flat_len] at l1 l2
  have h60 := (store_facts hD.st).1.1
  unfold fitsR at j5
  rw [if_neg (by omega)] at j5
  obtain ⟨hL, hn⟩ := left_of hD hT j1 up pm (by omega)
  exact ⟨Y, j5, hL, hn, by omega⟩
def freshT : ByteArray := ⟨#[102, 114, 101, 115, 104]⟩
theorem fresh_short : shortB freshT = true := by kernel_rfl
theorem fresh_not : ¬ FoldN freshT := by
  rintro (h | h | h) <;> (have h2 := congrArg ByteArray.toList h; rw [ByteArray.toList_eq, ByteArray.toList_eq] at h2; revert h2; decide)
/-- A drawn store has no folder of that name. -/
theorem no_fresh {k : Nat} {L : List PM} {u : ByteArray} {S : SM} (h : Drawn k L) (hD : DeskS L u S) : lookF freshT S.fs = none := by
  cases hv : lookF freshT S.fs with
  | none => rfl
  | some g =>
    obtain ⟨w, k1, _⟩ := (meta_iff (store_facts h.st).1.2.2).1 (look_meta h.st hD.tk hv)
    exact absurd (h.fo _ k1 u freshT (word_slash hD.fit.us) (word_slash fresh_short) rfl) fresh_not
theorem law2 {N : List PM} {u f : ByteArray} {A : List PM × Int} (h : storeB N = true) (hsu : shortB u = true) (hsf : shortB f = true) : lawM2 A (askM N [u, f]) = A := by
  unfold lawM2
  rw [ask_ok h (by simp [hsu, hsf]), if_pos rfl]
/-- The folders' names, and what is told of them. -/
theorem names_told {Y : List PM} {u : ByteArray} {S : SM} (hD : DeskS Y u S) : flM Y u = (listS Y u, 0) ∧ (listS Y u).Nodup ∧ (listS Y u).length ≤ 60 ∧ (∀ nm ∈ listS Y u, shortB nm = true ∧ ∃ g ∈ S.fs, g.name = nm ∧ faM Y u nm = ((nm, g.val, g.next, g.mails), 0) ∧ metaM Y u nm = some (g.val, g.next)) ∧ ∀ g ∈ S.fs, g.name ∈ listS Y u := by
  have hsu := hD.fit.us
  have hus := word_slash hsu
  obtain ⟨S2, hS2, _, hI⟩ := take_all hD.st hus
  obtain rfl : S = S2 := by
    have h9 := hD.tk
    rw [hS2] at h9
    exact (Option.some.inj h9).symm
  have hk : (getM Y (userK u)).isSome = true := by
    cases hv : getM Y (userK u) with
    | some v => rfl
    | none => exact absurd ((word_iff hD.st hus hS2).1.2 hv) hD.wd
  have hnd : (listS Y u).Nodup := (listS_up (store_facts hD.st).1.2.2).imp fun {a b} h e => by rw [e] at h; exact ltK_irrefl _ h
  have hperm := (List.perm_ext_iff_of_nodup hD.nd hnd).2 (folders_mem hD.st hus hI)
  refine ⟨?_, hnd, ?_, fun nm hnm => ?_, fun g hg => (folders_mem hD.st hus hI g.name).1 (List.mem_map.2 ⟨g, hg, rfl⟩)⟩
  · unfold flM
    rw [ask_ok hD.st (by simp [hsu]), if_pos rfl, hk]
    rfl
  · rw [← hperm.length_eq, List.length_map]
    have l2 := (desk_list hD.st hus hD.tk hD.wd).length_eq
    simp only [List.length_cons, List.length_append, flat_len] at l2
    have := (store_facts hD.st).1.1
    omega
  · obtain ⟨g, hg, rfl⟩ := List.mem_map.1 ((folders_mem hD.st hus hI nm).2 hnm)
    have hsg := (hD.fit.fs g hg).1
    have hl := look_self hD.nd hg
    have hm := look_meta hD.st hS2 hl
    refine ⟨hsg, g, hg, rfl, ?_, hm⟩
    unfold faM
    rw [ask_ok hD.st (by simp [hsu, hsg]), if_pos rfl, show knownR Y u g.name = 0 from by unfold knownR; rw [hk, hm]; rfl, if_pos rfl, hS2]
    show (faG (lookF g.name S.fs), (0 : Int)) = _
    rw [hl]
    rfl
/-- What is asked of a folder that is made. -/
structure Made (L R : List PM) (u : ByteArray) : Prop where
  st : storeB R = true
  fa : faM R u freshT = ((freshT, nextM L, 1, []), 0)
  tw : lawM2 (mkR R u freshT) (askM R [u, freshT]) = (R, 9)
  nms : flM R u = (listS R u, 0) ∧ (listS R u).Nodup ∧ (listS R u).length ≤ 60 ∧ freshT ∈ listS R u
  each : ∀ nm ∈ listS R u, nm.size ≤ 8 ∧ ∃ va nx Ms, faM R u nm = ((nm, va, nx, Ms), 0) ∧ (nm ≠ freshT → va < nextM L)
  gone : ∃ G B va, storeB G = true ∧ storeB B = true ∧ lawM2 (dropR R u freshT) (askM R [u, freshT]) = (G, 0) ∧ lawM2 (dropR G u freshT) (askM G [u, freshT]) = (G, 16) ∧ lawM2 (mkR G u freshT) (askM G [u, freshT]) = (B, 0) ∧ faM B u freshT = ((freshT, va, 1, []), 0) ∧ nextM L < va
theorem folder_made {k : Nat} {L R : List PM} {u : ByteArray} {q : Int} (hk : k ≤ 900) (h : Drawn k L) (hu : u = annT ∨ u = bobT) (hR : mkR L u freshT = (R, q)) :
    lawM2 (dropR L u inboxT) (askM L [u, inboxT]) = (L, 11) ∧ ((q = 7 ∧ R = L) ∨ (q = 0 ∧ Made L R u)) := by
  obtain ⟨hsu, S, hS, hw, hF, hnd, n1⟩ := h.desk hu
  have hus := word_slash hsu
  have hD : DeskS L u S := ⟨h.st, hS, hw, hF, hnd, n1⟩
  have h25 := h.nx
  have hno := no_fresh h hD
  have hsi : shortB inboxT = true := by kernel_rfl
  refine ⟨?_, ?_⟩
  · rw [law2 h.st hsu hsi]
    obtain ⟨g, hg⟩ := Option.isSome_iff_exists.1 hF.ib
    have hk0 : knownR L u inboxT = 0 := by
      unfold knownR
      rw [(h.us u hus).2 hu, look_meta h.st hS hg]
      rfl
    unfold dropR
    rw [hk0, if_neg (by decide), if_pos rfl]
  · rcases mk_gen hD fresh_short hno (by omega) with ⟨h1, _⟩ | ⟨Y, h1, hL, hn, hlen⟩
    · rw [hR] at h1
      cases h1
      exact .inl ⟨rfl, rfl⟩
    · rw [hR] at h1
      cases h1
      refine .inr ⟨rfl, ?_⟩
      have hmem : (⟨freshT, nextM L, 1, []⟩ : FM) ∈ putF ⟨freshT, nextM L, 1, []⟩ S.fs := put_self
      have hfa : faM R u freshT = ((freshT, nextM L, 1, []), 0) := hL.fa hD hmem List.Pairwise.nil
      obtain ⟨S2, hD2⟩ := hL.desk
      obtain ⟨n1', n2', n3', n4', n5'⟩ := names_told hD2
      have hkn : knownR R u freshT = 0 := by
        unfold knownR
        rw [desk_user hL.up hL.pm, desk_folder hL.up hL.pm hmem (hL.fit.fs _ hmem)]
        rfl
      obtain ⟨_, g2, hl2⟩ := known_zero hL.st hus (word_slash fresh_short) hD2.tk hkn
      have hg2 : faG (some g2) = (freshT, nextM L, 1, []) := by
        have h9 := hfa
        unfold faM at h9
        rw [ask_ok hL.st (by simp [hsu, fresh_short]), if_pos rfl, hkn, if_pos rfl, hD2.tk] at h9
        have h8 : ((faG (lookF freshT S2.fs), (0 : Int)) : (ByteArray × Int × Int × List MMl) × Int) = ((freshT, nextM L, 1, []), 0) := h9
        rw [hl2] at h8
        exact congrArg Prod.fst h8
      have hg3 : g2.mails = [] := congrArg (fun x : ByteArray × Int × Int × List MMl => x.2.2.2) hg2
      obtain ⟨G, hG1, hGL, hGn, hGl⟩ := drop_gen hD2 fresh_short hl2 (fun e => fresh_not (.inl e))
      obtain ⟨S3, hD3⟩ := hGL.desk
      have hnG : metaM G u freshT = none := by
        cases hv : metaM G u freshT with
        | none => rfl
        | some p =>
          exfalso
          obtain ⟨w, k1, _⟩ := (meta_iff hGL.up).1 hv
          have hu3 := hGL.pm
          rcases desk_mem hGL.pm k1 with h8 | h8 | h8 | ⟨g', hg', h8 | ⟨m2, hm2, h8⟩⟩
          · exact folder_nv _ _ (congrArg Prod.fst h8)
          · have h7 := congrArg (fun x : PM => x.1.data.toList) h8
            simp only [userK_data, folderK_data] at h7
            cases h7
          · have h8b : (folderK u freshT, w) ∈ notK vK S2.aside := h8
            obtain ⟨_, k2⟩ := (aside_is hD2.tk _ (notK_sub h8b).2).1 h8b
            exact k2 (owner_folderK hus (word_slash fresh_short))
          · have h7 := folderK_inj (congrArg Prod.fst h8)
            exact drop_names hD2.nd g' hg' h7.symm
          · have h7 := congrArg (fun x : PM => x.1.data.toList) h8
            unfold mailP at h7
            simp only [folderK_data, mailK_data'] at h7
            cases h7
      have hkG : knownR G u freshT = 16 := by
        unfold knownR
        rw [desk_user hGL.up hGL.pm, hnG]
        rfl
      have hno3 : lookF freshT S3.fs = none := by
        have h9 := (look_iff hGL.st hus hD3.tk (word_slash fresh_short)).1
        rw [hnG] at h9
        cases hv : lookF freshT S3.fs with
        | none => rfl
        | some x => rw [hv] at h9; cases h9
      rcases mk_gen hD3 fresh_short hno3 (by rw [hGn, hn]; omega) with ⟨_, h60⟩ | ⟨B, hB1, hBL, hBn, _⟩
      · have h9 := (store_facts hL.st).1.1
        omega
      · have hmem3 : (⟨freshT, nextM G, 1, []⟩ : FM) ∈ putF ⟨freshT, nextM G, 1, []⟩ S3.fs := put_self
        have hfaB : faM B u freshT = ((freshT, nextM G, 1, []), 0) := hBL.fa hD3 hmem3 List.Pairwise.nil
        refine ⟨hL.st, hfa, ?_, ⟨n1', n2', n3', ?_⟩, fun nm hnm => ?_, ⟨G, B, nextM G, hGL.st, hBL.st, ?_, ?_, ?_, hfaB, by rw [hGn, hn]; omega⟩⟩
        · rw [law2 hL.st hsu fresh_short]
          unfold mkR
          rw [hkn, if_neg (by decide), if_pos rfl]
        · have h9 := n5' g2 (lookF_mem hl2).1
          rw [(lookF_mem hl2).2] at h9
          exact h9
        · obtain ⟨hsn, g, hg, e1, e2, e3⟩ := n4' nm hnm
          refine ⟨short_size' hsn, g.val, g.next, g.mails, e2, fun hne => ?_⟩
          obtain ⟨w, k1, k2⟩ := (meta_iff hL.up).1 e3
          rcases desk_mem hL.pm k1 with h8 | h8 | h8 | ⟨g', hg', h8 | ⟨m2, hm2, h8⟩⟩
          · exact absurd (congrArg Prod.fst h8) (folder_nv _ _)
          · have h7 := congrArg (fun x : PM => x.1.data.toList) h8
            simp only [userK_data, folderK_data] at h7
            cases h7
          · have h8b : (folderK u nm, w) ∈ notK vK S.aside := h8
            obtain ⟨_, k3⟩ := (aside_is hS _ (notK_sub h8b).2).1 h8b
            exact absurd (owner_folderK hus (word_slash hsn)) k3
          · have h7 : g'.name = nm := (folderK_inj (congrArg Prod.fst h8)).symm
            rcases putF_mem hg' with h6 | h6
            · obtain ⟨f1, f2, f3, f4, f5, f6, f7⟩ := hF.fs g' h6
              have hw2 : w = metaT g'.val g'.next := congrArg Prod.snd h8
              rw [hw2, meta_is ⟨f2, f3, f5, f6⟩] at k2
              have h4 : g'.val = g.val := congrArg Prod.fst (Option.some.inj k2)
              rw [← h4]
              exact f4
            · rw [h6] at h7
              exact absurd h7.symm hne
          · have h7 := congrArg (fun x : PM => x.1.data.toList) h8
            unfold mailP at h7
            simp only [folderK_data, mailK_data'] at h7
            cases h7
        · rw [law2 hL.st hsu fresh_short, hG1]
        · rw [law2 hGL.st hsu fresh_short]
          unfold dropR
          rw [hkG, if_pos (by decide)]
        · rw [law2 hGL.st hsu fresh_short, hB1]
end Go.Proofs.YtddnecljdecamaaGreatDoor
