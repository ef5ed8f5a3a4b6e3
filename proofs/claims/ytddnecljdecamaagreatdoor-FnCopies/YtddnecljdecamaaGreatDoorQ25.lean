/-
  Dfi Sap Apm in one. By an AI agent.
-/
import Derived.Test.YtddnecljdecamaaGreatDoorQ24
import Derived.Test.YtddnecljdecamaaGreatDoorQ22
namespace Go.Proofs.YtddnecljdecamaaGreatDoor
open Go.ChangeShapes Go.WideShapes Go.ChangeAt Go.RowKit Go.Deep Go.Lib
set_option linter.unusedVariables false
set_option linter.unusedSimpArgs false
set_option maxRecDepth 100000

theorem ins_same {k v : ByteArray} {L : List PM} (hu : UpL L) (h : (k, v) ∈ L) : insL k v L = L := by
  refine up_mem (ins_up hu) hu fun q => ⟨fun hq => ?_, fun hq => ?_⟩
  · rcases ins_mem hu hq with rfl | hq
    · exact h
    · exact hq.1
  · refine (ins_perm hu).mem_iff.2 ?_
    by_cases e : q.1 = k
    · have h2 : (k, q.2) ∈ L := by rw [← e]; exact hq
      have h3 := key_one hu h h2
      rw [h3]
      exact List.mem_cons.2 (.inl (Prod.ext e rfl))
    · exact List.mem_cons_of_mem _ (List.mem_filter.2 ⟨hq, decide_eq_true e⟩)
theorem split_k {k v : ByteArray} {L : List PM} (hu : UpL L) (h : (k, v) ∈ L) : L.Perm ((k, v) :: notK k L) := by
  have h1 := ins_perm (k := k) (v := v) hu
  rw [ins_same hu h] at h1
  exact h1
theorem v_mem {L : List PM} (h : storeB L = true) : (vK, bs (itoa (nextM L))) ∈ L := by
  obtain ⟨hg, nx0, hnm, n1, n2, _, _, _⟩ := store_facts h
  rw [hnm] at n1
  have h9 : nextM L = nextM L := rfl
  unfold nextM at n1 ⊢
  cases hv : getM L vK with
  | none => rw [hv] at n1; exact absurd n1 (by show ¬ (1 : Int) ≤ 0; omega)
  | some v =>
    rw [hv] at n1
    simp only [Option.bind_some] at n1 ⊢
    cases hn : numB v.data.toList with
    | none => rw [hn] at n1; exact absurd n1 (by show ¬ (1 : Int) ≤ 0; omega)
    | some x =>
      have h1 := (is_of_num hn).1
      have h2 : bs (itoa ((some x).getD 0)) = v := by
        refine bs_inj ?_
        show (bs (itoa x)).data.toList = _
        rw [h1]
        simp [bs]
      rw [h2]
      exact (getM_mem hg.2.2).1 hv
theorem seg_inj : ∀ {a b x y : List UInt8}, (47 : UInt8) ∉ a → (47 : UInt8) ∉ b → a ++ 47 :: x = b ++ 47 :: y → a = b ∧ x = y
  | [], [], x, y, _, _, h => by simpa using h
  | [], c :: b, x, y, _, hb, h => by
    simp only [List.nil_append, List.cons_append, List.cons.injEq] at h
    exact absurd (by rw [h.1]; exact List.mem_cons_self) hb
  | c :: a, [], x, y, ha, _, h => by
    simp only [List.nil_append, List.cons_append, List.cons.injEq] at h
    exact absurd (by rw [← h.1]; exact List.mem_cons_self) ha
  | c :: a, d :: b, x, y, ha, hb, h => by
    simp only [List.cons_append, List.cons.injEq] at h
    obtain ⟨h1, h2⟩ := seg_inj (fun h9 => ha (List.mem_cons_of_mem _ h9)) (fun h9 => hb (List.mem_cons_of_mem _ h9)) h.2
    exact ⟨by rw [h.1, h1], h2⟩
theorem names_take {nx : Int} {u : ByteArray} {S S' : SM} {q : PM} (hS : (S.fs.map (·.name)).Nodup) (h : takeM nx u S q = some S') : (S'.fs.map (·.name)).Nodup := by
  have hput : ∀ {o : Option FM}, putM S o = some S' → (S'.fs.map (·.name)).Nodup := fun {o} h9 => by
    unfold putM at h9
    obtain ⟨g, rfl, rfl⟩ := Option.map_eq_some_iff.1 h9
    exact putF_names hS
  have haside : asideM S q = some S' → (S'.fs.map (·.name)).Nodup := fun h9 => by cases h9; exact hS
  unfold takeM takeP at h
  split at h
  · split at h
    · unfold userM at h
      obtain ⟨_, rfl⟩ := ite_some h
      exact hS
    · exact haside h
  · split at h
    · exact hput h
    · exact haside h
  · split at h
    · exact hput h
    · exact haside h
  · exact haside h
theorem names_all {nx : Int} {u : ByteArray} : ∀ {L : List PM} {S S' : SM}, (S.fs.map (·.name)).Nodup → takeAll nx u S L = some S' → (S'.fs.map (·.name)).Nodup
  | [], S, S', hS, h => by cases h; exact hS
  | q :: L, S, S', hS, h => by
    unfold takeAll at h
    obtain ⟨S1, h1, h2⟩ := Option.bind_eq_some_iff.1 h
    exact names_all (names_take hS h1) h2
theorem look_mem' {f : FM} : ∀ {fs : List FM}, f ∈ fs → (lookF f.name fs).isSome = true
  | [], h => by cases h
  | g :: fs, h => by
    unfold lookF
    by_cases e : g.name = f.name
    · rw [if_pos e]; rfl
    · rw [if_neg e]
      rcases List.mem_cons.1 h with rfl | h
      · exact absurd rfl e
      · exact look_mem' h
theorem drop_names {n : ByteArray} : ∀ {fs : List FM}, (fs.map (·.name)).Nodup → ∀ g ∈ dropF n fs, g.name ≠ n
  | [], _, g, h => by cases h
  | f :: fs, hn, g, h => by
    rw [List.map_cons, List.nodup_cons] at hn
    unfold dropF at h
    by_cases e : f.name = n
    · rw [if_pos e] at h
      exact fun e2 => hn.1 (List.mem_map.2 ⟨g, h, by rw [e2, e]⟩)
    · rw [if_neg e] at h
      rcases List.mem_cons.1 h with rfl | h
      · exact e
      · exact drop_names hn.2 g h
theorem name_short {L : List PM} {u : ByteArray} {S : SM} (h : storeB L = true) (hus : (47 : UInt8) ∉ u.data.toList) (hS : takeAll (nextM L) u S0 L = some S) {g : FM} (hg : g ∈ S.fs) : shortB g.name = true := by
  obtain ⟨g2, h2⟩ := Option.isSome_iff_exists.1 (look_mem' hg)
  obtain ⟨w, _, _, k⟩ := look_known h hus hS h2
  exact k
/-- What a drop of a folder leaves. -/
def passB (u f : ByteArray) (p : PM) : Bool := decide (p.1 ≠ folderK u f) && !beginsB p.1 (preK u f)
theorem begins_pre {u f k : ByteArray} : beginsB k (preK u f) = true ↔ ∃ r, k.data.toList = 109 :: 47 :: (u.data.toList ++ 47 :: (f.data.toList ++ 47 :: r)) := by
  rw [begins_iff, preK_data]
  constructor
  · rintro ⟨r, h⟩
    exact ⟨r, by rw [h]; simp⟩
  · rintro ⟨r, h⟩
    exact ⟨r, by rw [h]; simp⟩
theorem drop_eq (L : List PM) (u f : ByteArray) : notK (folderK u f) (emptyR L u f) = L.filter (passB u f) := by
  unfold notK emptyR
  rw [List.filter_filter]
  rfl
theorem aside_pass {L : List PM} {u f : ByteArray} {S : SM} (h : storeB L = true) (hus : (47 : UInt8) ∉ u.data.toList) (hfs : (47 : UInt8) ∉ f.data.toList) (hS : takeAll (nextM L) u S0 L = some S) {p : PM} (hp : p ∈ notK vK S.aside) : passB u f p = true := by
  obtain ⟨h1, h2⟩ := notK_sub hp
  rw [all_aside hS] at h1
  have h3 : p ∈ L.filter fun p => !isOwn u p := by simpa using h1
  obtain ⟨h4, h5⟩ := List.mem_filter.1 h3
  have h6 : ownerM p ≠ some u := by simpa using h5
  obtain ⟨_, nx0, _, _, _, _, _, k⟩ := store_facts h
  rcases k _ h4 with k | ⟨u', k1, _⟩
  · exact absurd k h2
  · unfold passB
    rw [Bool.and_eq_true, decide_eq_true_eq]
    constructor
    · intro e
      have h7 : ownerM (folderK u f, p.2) = some u := owner_folder hus hfs
      exact h6 (by rw [← h7]; unfold ownerM; rw [e])
    · cases hb : beginsB p.1 (preK u f) with
      | false => rfl
      | true =>
        exfalso
        obtain ⟨r, hr⟩ := begins_pre.1 hb
        have hsp : splitL 47 p.1.data.toList = [109] :: u.data.toList :: f.data.toList :: splitL 47 r := by
          rw [hr]
          have e : (109 : UInt8) :: 47 :: (u.data.toList ++ 47 :: (f.data.toList ++ 47 :: r)) = [109] ++ 47 :: (u.data.toList ++ 47 :: (f.data.toList ++ 47 :: r)) := rfl
          rw [e, splitL_seg 47 [109] _ (by decide), splitL_seg 47 _ _ hus, splitL_seg 47 _ _ hfs]
        unfold ownerM at k1 h6
        rw [hsp] at k1 h6
        match hq : splitL 47 r, k1, h6 with
        | [], k1, h6 => exact absurd hq (splitL_ne 47 r)
        | [d], k1, h6 =>
          refine h6 ?_
          show (if ([109] : List UInt8) = [109] then some (bs u.data.toList) else none) = some u
          rw [if_pos rfl, data_bs]
        | _ :: _ :: _, k1, h6 => cases k1
theorem rest_pass {u f : ByteArray} {fs : List FM} (hus : (47 : UInt8) ∉ u.data.toList) (hfs : (47 : UInt8) ∉ f.data.toList) (hn : ∀ g ∈ fs, g.name ≠ f ∧ (47 : UInt8) ∉ g.name.data.toList) : (flatF u fs).filter (passB u f) = flatF u fs := by
  rw [List.filter_eq_self]
  intro p hp
  obtain ⟨g, hg, hpg⟩ := flat_mem hp
  obtain ⟨k1, k2⟩ := hn g hg
  unfold fPairs at hpg
  unfold passB
  rw [Bool.and_eq_true, decide_eq_true_eq]
  rcases List.mem_cons.1 hpg with rfl | hpg
  · refine ⟨fun e => k1 (folderK_inj e), ?_⟩
    cases hb : beginsB (folderK u g.name) (preK u f) with
    | false => rfl
    | true =>
      obtain ⟨r, hr⟩ := begins_pre.1 hb
      rw [folderK_data] at hr
      simp at hr
  · obtain ⟨m, _, rfl⟩ := List.mem_map.1 hpg
    refine ⟨fun e => ?_, ?_⟩
    · have h9 := congrArg (fun x : ByteArray => x.data.toList) e
      simp only [mailP, folderK_data] at h9
      simp [bs] at h9
    · cases hb : beginsB (mailP u g.name m).1 (preK u f) with
      | false => rfl
      | true =>
        exfalso
        obtain ⟨r, hr⟩ := begins_pre.1 hb
        have hr2 : 109 :: 47 :: (u.data.toList ++ 47 :: (g.name.data.toList ++ 47 :: d3 m.1.toNat)) = 109 :: 47 :: (u.data.toList ++ 47 :: (f.data.toList ++ 47 :: r)) := by
          rw [← hr]
          simp [mailP, bs]
        simp only [List.cons.injEq, true_and] at hr2
        obtain ⟨_, h2⟩ := seg_inj hus hus hr2
        obtain ⟨h3, _⟩ := seg_inj k2 hfs h2
        exact k1 (bs_inj h3)
theorem gone_pass {u f : ByteArray} {g : FM} (hg : g.name = f) : (fPairs u g).filter (passB u f) = [] := by
  rw [List.filter_eq_nil_iff]
  intro p hp
  unfold fPairs at hp
  unfold passB
  rcases List.mem_cons.1 hp with rfl | hp
  · rw [hg]; simp
  · obtain ⟨m, _, rfl⟩ := List.mem_map.1 hp
    have hb : beginsB (mailP u g.name m).1 (preK u f) = true := begins_pre.2 ⟨d3 m.1.toNat, by rw [hg]; simp [mailP, bs]⟩
    rw [hb]
    simp
theorem desk_list {L : List PM} {u : ByteArray} {S : SM} (h : storeB L = true) (hus : (47 : UInt8) ∉ u.data.toList) (hS : takeAll (nextM L) u S0 L = some S) (hw : S.word.toList ≠ []) : L.Perm ((vK, bs (itoa (nextM L))) :: (userK u, S.word) :: (notK vK S.aside ++ flatF u S.fs)) := by
  refine (split_k (store_facts h).1.2.2 (v_mem h)).trans (List.Perm.cons _ ?_)
  have h1 := rest_perm h hus hS
  unfold wordL at h1
  rw [if_neg hw] at h1
  exact h1
theorem drop_fits {L : List PM} {u f : ByteArray} {S S' : SM} {q nx' : Int} (h : storeB L = true) (hsu : shortB u = true) (hsf : shortB f = true) (hS : takeAll (nextM L) u S0 L = some S) (hQ : dropM (nextM L) S f = (q, nx', S')) : OpFits L u q nx' S' (dropR L u f) := by
  have hus := word_slash hsu
  have hfs := word_slash hsf
  obtain ⟨hg, nx0, hnm, n1, n2, _, _, _⟩ := store_facts h
  rw [hnm] at n1 n2
  obtain ⟨hwi, hwd⟩ := word_iff h hus hS
  obtain ⟨hli, hln⟩ := look_iff h hus hS hfs
  unfold dropM at hQ
  by_cases hw : S.word.toList = []
  · rw [if_pos hw] at hQ
    cases hQ
    have hk : knownR L u f = 15 := by unfold knownR; rw [hwi.1 hw]; rfl
    unfold dropR
    rw [hk, if_pos (by decide)]
    exact ⟨fun _ => rfl, fun h9 => by cases h9⟩
  · rw [if_neg hw] at hQ
    have hs : (getM L (userK u)).isSome = true := by
      cases hv : getM L (userK u) with
      | none => exact absurd (hwi.2 hv) hw
      | some v => rfl
    by_cases hl : (lookF f S.fs).isSome = false
    · rw [if_pos hl] at hQ
      cases hQ
      have hk : knownR L u f = 16 := by unfold knownR; rw [hs, ← hli, hl]; rfl
      unfold dropR
      rw [hk, if_pos (by decide)]
      exact ⟨fun _ => rfl, fun h9 => by cases h9⟩
    · rw [if_neg hl] at hQ
      have hl1 : (lookF f S.fs).isSome = true := by
        cases h9 : (lookF f S.fs).isSome with
        | true => rfl
        | false => exact absurd h9 hl
      have hk : knownR L u f = 0 := by unfold knownR; rw [hs, ← hli, hl1]; rfl
      unfold dropR
      rw [hk, if_neg (by decide)]
      by_cases hi : f = inboxT
      · rw [if_pos hi] at hQ
        cases hQ
        rw [if_pos hi]
        exact ⟨fun _ => rfl, fun h9 => by cases h9⟩
      · rw [if_neg hi] at hQ
        cases hQ
        rw [if_neg hi]
        obtain ⟨g, hgl⟩ := Option.isSome_iff_exists.1 hl1
        have hnd := names_all (S := S0) List.nodup_nil hS
        refine ⟨fun h9 => absurd rfl h9, fun _ => ⟨by omega, n2, fun x hx => store_fit h hS x ((dropF_sub f S.fs).subset hx), ?_⟩⟩
        have hlen : (notK (folderK u f) (emptyR L u f)).length ≤ 60 := by
          rw [drop_eq]
          exact Nat.le_trans (List.length_filter_le _ _) hg.1
        refine ⟨notK (folderK u f) (emptyR L u f), ?_, ?_, by omega, ?_⟩
        · rw [drop_eq]
          exact hg.2.2.sublist List.filter_sublist
        · rw [drop_eq]
          refine List.Perm.symm ?_
          refine ((desk_list h hus hS hw).filter _).trans ?_
          have e1 : passB u f (vK, bs (itoa (nextM L))) = true := by
            unfold passB
            rw [Bool.and_eq_true, decide_eq_true_eq]
            refine ⟨(folder_not u f).symm, ?_⟩
            cases hb : beginsB vK (preK u f) with
            | false => rfl
            | true =>
              obtain ⟨r, hr⟩ := begins_pre.1 hb
              simp at hr
          have e2 : passB u f (userK u, S.word) = true := by
            unfold passB
            rw [Bool.and_eq_true, decide_eq_true_eq]
            refine ⟨fun e => ?_, ?_⟩
            · have h9 := congrArg (fun x : ByteArray => x.data.toList) e
              simp [ByteArray.data_append] at h9
            · cases hb : beginsB (userK u) (preK u f) with
              | false => rfl
              | true =>
                obtain ⟨r, hr⟩ := begins_pre.1 hb
                simp [ByteArray.data_append] at hr
          rw [List.filter_cons_of_pos e1, List.filter_cons_of_pos e2, List.filter_append]
          have e3 : (notK vK S.aside).filter (passB u f) = notK vK S.aside := by
            rw [List.filter_eq_self]
            exact fun p hp => aside_pass h hus hfs hS hp
          rw [e3]
          unfold deskP
          refine List.Perm.cons _ (List.Perm.cons _ (List.Perm.append_left _ ?_))
          refine ((flat_perm (drop_perm hgl)).filter _).trans ?_
          rw [flat_cons, List.filter_append, gone_pass (lookF_mem hgl).2, List.nil_append, rest_pass hus hfs fun x hx => ⟨drop_names hnd x hx, word_slash (name_short h hus hS ((dropF_sub f S.fs).subset hx))⟩]
        · unfold fitsR
          rw [if_neg (by omega)]
end Go.Proofs.YtddnecljdecamaaGreatDoor
namespace Go.Proofs.YtddnecljdecamaaGreatDoor
open Go.ChangeShapes Go.WideShapes Go.ChangeAt Go.RowKit Go.Deep Go.Lib
set_option linter.unusedVariables false
set_option linter.unusedSimpArgs false
set_option maxRecDepth 100000

abbrev metaD (L : List PM) (u f : ByteArray) : Int × Int := (metaM L u f).getD (0, 0)
def appY (L : List PM) (u f t : ByteArray) (fl : Int) : List PM := insL (mailK u f (metaD L u f).2) (mailV ((metaD L u f).2, fl, t)) (insL (folderK u f) (metaT (metaD L u f).1 ((metaD L u f).2 + 1)) L)
def appR (L : List PM) (u f t : ByteArray) (fl : Int) : List PM × Int × Int :=
  if knownR L u f ≠ 0 then (L, 0, knownR L u f) else if countM L u = 6 then (L, 0, 12) else if (metaD L u f).2 = 999 then (L, 0, 6) else if 60 < (appY L u f t fl).length then (L, 0, 7) else (appY L u f t fl, (metaD L u f).2, 0)
theorem known_meta {L : List PM} {u f : ByteArray} (h : knownR L u f = 0) : ∃ p, metaM L u f = some p := by
  unfold knownR at h
  split at h
  · cases h
  · split at h
    · cases h
    · rename_i h2
      cases hm : metaM L u f with
      | none => rw [hm] at h2; exact absurd rfl h2
      | some p => exact ⟨p, rfl⟩
theorem app_len {L : List PM} (hg : GoodL L) (u f t : ByteArray) (fl : Int) : (appY L u f t fl).length ≤ 62 ∧ UpL (appY L u f t fl) := by
  have h1 := (ins_len (k := folderK u f) (v := metaT (metaD L u f).1 ((metaD L u f).2 + 1)) hg.2.2).1
  have h3 := ins_up (k := folderK u f) (v := metaT (metaD L u f).1 ((metaD L u f).2 + 1)) hg.2.2
  have h2 := (ins_len (k := mailK u f (metaD L u f).2) (v := mailV ((metaD L u f).2, fl, t)) h3).1
  have := hg.1
  unfold appY
  exact ⟨by omega, ins_up h3⟩
set_option maxHeartbeats 4000000 in
theorem l07AppendC (b o n c : Nat) (L : List PM) (hL : L.length = n) (hc : n ≤ c) (hc9 : c ≤ maxLen) (hg : GoodL L) (u f t : ByteArray) (fl : Int) (hus : u.size ≤ 8) (hfs : f.size ≤ 8) (hts : t.size ≤ 85) (f0 : 0 ≤ fl) (f1 : fl ≤ 3) (w : World) (h : Src w (some ⟨b, o, none⟩) (cellsP L)) (R : List PM) (q1 q2 : Int) (HR : Hid (appR L u f t fl = (R, q1, q2))) :
    Calls Tryz.prog 50 #[.slice (some ⟨b, o, none⟩) n c, .string u, .string f, .string t, .int .i64 fl] w fun e w' => ∃ a2 n2 c2, e = .returned (.tuple #[.slice a2 n2 c2, .int .i64 q1, .int .i64 q2]) ∧ LenC R n2 c2 ∧ Src w' a2 (cellsP R) ∧ Below w.heap.size w w' := by
  have hn60 := hg.1
  rw [hL] at hn60
  have HLN : Hid (LenC L n c ∧ Src w (some ⟨b, o, none⟩) (cellsP L)) := ⟨⟨hL, hc, hc9⟩, h⟩
  have CK := l07KnownS (some ⟨b, o, none⟩) n c L hL hg u f (by omega) (by omega) w h _ rfl
  have HR1 := HR.out
  unfold appR at HR1
  by_cases hk : knownR L u f ≠ 0
  · rw [if_pos hk] at HR1
    obtain ⟨kk, hkk⟩ : ∃ t, knownR L u f = t := ⟨_, rfl⟩
    rw [hkk] at CK HR1 hk
    obtain ⟨rfl, rfl, rfl⟩ : L = R ∧ 0 = q1 ∧ kk = q2 := by cases HR1; exact ⟨rfl, rfl, rfl⟩
    have hki : (kk != 0) = true := by simpa using hk
    clear hL h hg HR HR1 hkk
    go_enter Tryz.func50, Tryz.ntmps50
    go_wp2_with fail
    refine CK.mono ?_
    rintro e w1 ⟨rfl, hb1⟩
    have B1 : Hid (Below w.heap.size w w1) := hb1
    clear hb1 CK
    go_wp2_with fail
    exact bodyPost_ret (v := .tuple #[.slice (some ⟨b, o, none⟩) n c, .int .i64 0, .int .i64 kk]) (by simp [results, Tryz.results50, go_sem]) rfl ⟨_, _, _, rfl, HLN.out.1, HLN.out.2.below B1.out, B1.out⟩
  have hk0 : knownR L u f = 0 := by
    by_cases e : knownR L u f = 0
    · exact e
    · exact absurd e hk
  rw [if_neg hk] at HR1
  obtain ⟨p, hp⟩ := known_meta hk0
  obtain ⟨p1, p2, p3, p4⟩ := meta_range hp
  have hpd : metaD L u f = p := by unfold metaD; rw [hp]; rfl
  rw [hk0] at CK
  have CM := fun W (hW : Below w.heap.size w W) => l07MetaS (some ⟨b, o, none⟩) n c L u f W hL hg (by omega) (by omega) (h.below hW)
  rw [hp] at CM
  have CC := fun W (hW : Below w.heap.size w W) => l07CountS (some ⟨b, o, none⟩) n c L u W hL hg (by omega) (h.below hW)
  have hyl := (app_len hg u f t fl).1
  unfold appY at HR1 hyl
  rw [hpd] at HR1 hyl
  obtain ⟨va, nx⟩ := p
  dsimp only at HR1 p1 p2 p3 p4 hyl
  obtain ⟨nn, rfl⟩ : ∃ nn : Nat, nx = (nn : Int) := ⟨nx.toNat, by omega⟩
  have CP := fun W (hW : Below w.heap.size w W) => l07PutS b o n c L u f va ((nn : Int) + 1) W hL (by omega) hc hc9 hg.2.2 (h.below hW) (by omega) (by omega) (by omega) (by omega) (by omega) (by omega) _ _ rfl rfl
  have hu1 := ins_up (k := folderK u f) (v := metaT va ((nn : Int) + 1)) hg.2.2
  have hl1 := (ins_len (k := folderK u f) (v := metaT va ((nn : Int) + 1)) hg.2.2).1
  rw [hL] at hl1
  obtain ⟨N1, hN1⟩ : ∃ t, insL (folderK u f) (metaT va ((nn : Int) + 1)) L = t := ⟨_, rfl⟩
  simp only [hN1] at CP hu1 hl1 hyl
  rw [hN1] at HR1
  obtain ⟨n1, hn1⟩ : ∃ t, N1.length = t := ⟨_, rfl⟩
  simp only [hn1] at CP hl1
  have CK2 := fun W => l07MailS u f nn (by omega) (by omega) (by omega) W
  have CD := fun W => digitsI fl f0 (by omega) W
  have zd := itoa_small fl f0 (by omega)
  have HMV : Hid (bs (itoa fl) ++ t = mailV ((nn : Int), fl, t)) := rfl
  obtain ⟨TD, hTD⟩ : ∃ t, bs (itoa fl) = t := ⟨_, rfl⟩
  simp only [hTD] at CD zd HMV
  obtain ⟨MV, hMV⟩ : ∃ x, mailV ((nn : Int), fl, t) = x := ⟨_, rfl⟩
  rw [hMV] at HMV HR1 hyl
  obtain ⟨MK, hMK⟩ : ∃ x, mailK u f (nn : Int) = x := ⟨_, rfl⟩
  rw [hMK] at HR1 hyl
  simp only [hMK] at CK2
  have CQ := fun (g cap : Nat) (W : World) (k1 : n1 ≤ cap) (k2 : cap ≤ maxLen) (k3 : Src W (some ⟨g, 0, none⟩) (cellsP N1)) => l01PutM g 0 n1 cap N1 MK MV W hn1 (by omega) k1 k2 hu1 k3
  obtain ⟨N2, hN2⟩ : ∃ t, insL MK MV N1 = t := ⟨_, rfl⟩
  simp only [hN2] at CQ
  rw [hN2] at HR1 hyl
  obtain ⟨n2, hn2⟩ : ∃ t, N2.length = t := ⟨_, rfl⟩
  simp only [hn2] at CQ
  rw [hn2] at HR1 hyl
  have HN2 : Hid (N2.length = n2) := hn2
  obtain ⟨cn, hcn⟩ : ∃ t, countM L u = t := ⟨_, rfl⟩
  simp only [hcn] at CC
  rw [hcn] at HR1
  have HRX : Hid ((if cn = 6 then (L, 0, 12) else if (nn : Int) = 999 then (L, 0, 6) else if 60 < n2 then (L, 0, 7) else (N2, (nn : Int), 0)) = (R, q1, q2)) := HR1
  have HBAD : Hid (∀ (W : World) (z1 z2 : Int), Below w.heap.size w W → (L, z1, z2) = (R, q1, q2) → ∃ a2 n2 c2, Ending.returned (Value.tuple #[.slice (some ⟨b, o, none⟩) n c, .int .i64 z1, .int .i64 z2]) = Ending.returned (.tuple #[.slice a2 n2 c2, .int .i64 q1, .int .i64 q2]) ∧ LenC R n2 c2 ∧ Src W a2 (cellsP R) ∧ Below w.heap.size w W) := fun W z1 z2 hW he => by
    cases he
    exact ⟨_, _, _, rfl, HLN.out.1, HLN.out.2.below hW, hW⟩
  clear hL h hg HR HR1 hk hk0 hp hpd hN1 hn1 hTD hMV hMK hN2 hn2 hcn hu1
  go_enter Tryz.func50, Tryz.ntmps50
  go_wp2_with fail
  refine CK.mono ?_
  rintro e w1 ⟨rfl, hb1⟩
  have B1 : Hid (Below w.heap.size w w1) := hb1
  have CM1 := CM w1 hb1
  clear hb1 CK CM
  go_wp2_with fail
  refine CM1.mono ?_
  rintro e w2 ⟨x, y, rfl, hpost, hb2⟩
  obtain ⟨hx1, hy1⟩ := hpost _ rfl
  dsimp only at hx1 hy1
  subst hx1 hy1
  have B2 : Hid (Below w.heap.size w w2) := B1.out.trans (hb2.mono B1.out.size)
  have CC2 := CC w2 B2.out
  clear hb2 CM1 CC hpost
  go_wp2_with fail
  refine CC2.mono ?_
  rintro e w3 ⟨rfl, hb3⟩
  have B3 : Hid (Below w.heap.size w w3) := B2.out.trans (hb3.mono B2.out.size)
  clear hb3 CC2
  by_cases h6 : cn = 6
  · have h6i : ((cn : Int) == 6) = true := by rw [h6]; rfl
    have hf := HBAD.out w3 0 12 B3.out (by have h9 := HRX.out; rw [if_pos h6] at h9; exact h9)
    have HF : Hid (∃ a2 n2 c2, Ending.returned (Value.tuple #[.slice (some ⟨b, o, none⟩) n c, .int .i64 0, .int .i64 12]) = Ending.returned (.tuple #[.slice a2 n2 c2, .int .i64 q1, .int .i64 q2]) ∧ LenC R n2 c2 ∧ Src w3 a2 (cellsP R) ∧ Below w.heap.size w w3) := hf
    clear hf HBAD CP CQ CD CK2
    go_wp2_with fail
    exact bodyPost_ret (v := .tuple #[.slice (some ⟨b, o, none⟩) n c, .int .i64 0, .int .i64 12]) (by simp [results, Tryz.results50, go_sem]) rfl HF.out
  have h6i : ((cn : Int) == 6) = false := beq_eq_false_iff_ne.2 (by omega)
  by_cases h9 : (nn : Int) = 999
  · have h9i : ((nn : Int) == 999) = true := by rw [h9]; rfl
    have hf := HBAD.out w3 0 6 B3.out (by have h8 := HRX.out; rw [if_neg h6, if_pos h9] at h8; exact h8)
    have HF : Hid (∃ a2 n2 c2, Ending.returned (Value.tuple #[.slice (some ⟨b, o, none⟩) n c, .int .i64 0, .int .i64 6]) = Ending.returned (.tuple #[.slice a2 n2 c2, .int .i64 q1, .int .i64 q2]) ∧ LenC R n2 c2 ∧ Src w3 a2 (cellsP R) ∧ Below w.heap.size w w3) := hf
    clear hf HBAD CP CQ CD CK2
    go_wp2_with fail
    exact bodyPost_ret (v := .tuple #[.slice (some ⟨b, o, none⟩) n c, .int .i64 0, .int .i64 6]) (by simp [results, Tryz.results50, go_sem]) rfl HF.out
  have h9i : ((nn : Int) == 999) = false := beq_eq_false_iff_ne.2 h9
  have CP3 := CP w3 B3.out
  clear CP
  go_wp2_with fail
  refine CP3.mono ?_
  rintro e w4 ⟨g, cap, rfl, k1, k2, k3, hb4⟩
  have B4 : Hid (Below w.heap.size w w4) := B3.out.trans (hb4.mono B3.out.size)
  have HK4 : Hid (n1 ≤ cap ∧ cap ≤ maxLen ∧ Src w4 (some ⟨g, 0, none⟩) (cellsP N1)) := ⟨k1, k2, k3⟩
  clear hb4 CP3 k1 k2 k3
  go_wp2_with fail
  refine (CK2 _).mono ?_
  rintro e w5 ⟨rfl, hb5⟩
  have B5 : Hid (Below w.heap.size w w5) := B4.out.trans (hb5.mono B4.out.size)
  have HK5 : Hid (n1 ≤ cap ∧ cap ≤ maxLen ∧ Src w5 (some ⟨g, 0, none⟩) (cellsP N1)) := ⟨HK4.out.1, HK4.out.2.1, HK4.out.2.2.below hb5⟩
  clear hb5 CK2 HK4
  go_wp2_with fail
  refine (CD _).mono ?_
  rintro e w6 ⟨rfl, hb6⟩
  have B6 : Hid (Below w.heap.size w w6) := B5.out.trans (hb6.mono B5.out.size)
  have CQ6 := CQ g cap w6 HK5.out.1 HK5.out.2.1 (HK5.out.2.2.below hb6)
  clear hb6 CD HK5 CQ
  have hmv := HMV.out
  go_wp2_with fail
  try rw [hmv]
  refine CQ6.mono ?_
  rintro e w7 ⟨g7, cap7, rfl, k1, k2, k3, hb7⟩
  have B7 : Hid (Below w.heap.size w w7) := B6.out.trans (hb7.mono B6.out.size)
  have H7 : Hid (Src w7 (some ⟨g7, 0, none⟩) (cellsP N2)) := k3
  have HC7 : Hid (n2 ≤ cap7 ∧ cap7 ≤ maxLen) := ⟨k1, k2⟩
  clear hb7 CQ6 k1 k2 k3
  by_cases h60 : 60 < n2
  · have CF := l07FitsS (some ⟨b, o, none⟩) n c (some ⟨g7, 0, none⟩) n2 cap7 w7 (some ⟨b, o, none⟩) n c 7 (by show ite _ _ _; rw [if_pos h60])
    have hf := HBAD.out w7 0 7 B7.out (by have h8 := HRX.out; rw [if_neg h6, if_neg h9, if_pos h60] at h8; exact h8)
    have HF : Hid (∃ a2 n2 c2, Ending.returned (Value.tuple #[.slice (some ⟨b, o, none⟩) n c, .int .i64 0, .int .i64 7]) = Ending.returned (.tuple #[.slice a2 n2 c2, .int .i64 q1, .int .i64 q2]) ∧ LenC R n2 c2 ∧ Src w7 a2 (cellsP R) ∧ Below w.heap.size w w7) := hf
    clear hf HBAD
    go_wp2_with fail
    refine CF.mono ?_
    rintro e w8 ⟨rfl, hw8⟩
    obtain rfl := hw8
    clear CF
    go_wp2_with fail
    exact bodyPost_ret (v := .tuple #[.slice (some ⟨b, o, none⟩) n c, .int .i64 0, .int .i64 7]) (by simp [results, Tryz.results50, go_sem]) rfl HF.out
  · have CF := l07FitsS (some ⟨b, o, none⟩) n c (some ⟨g7, 0, none⟩) n2 cap7 w7 (some ⟨g7, 0, none⟩) n2 cap7 0 (by show ite _ _ _; rw [if_neg h60])
    obtain ⟨rfl, rfl, rfl⟩ : N2 = R ∧ (nn : Int) = q1 ∧ 0 = q2 := by
      have h8 := HRX.out
      rw [if_neg h6, if_neg h9, if_neg h60] at h8
      cases h8
      exact ⟨rfl, rfl, rfl⟩
    clear HBAD
    go_wp2_with fail
    refine CF.mono ?_
    rintro e w8 ⟨rfl, hw8⟩
    obtain rfl := hw8
    clear CF
    go_wp2_with fail
    exact bodyPost_ret (v := .tuple #[.slice (some ⟨g7, 0, none⟩) n2 cap7, .int .i64 (nn : Int), .int .i64 0]) (by simp [results, Tryz.results50, go_sem]) rfl ⟨_, _, _, rfl, ⟨HN2.out, HC7.out⟩, H7.out, B7.out⟩
theorem l07AppendS (b o n c : Nat) (L : List PM) (hL : L.length = n) (hc : n ≤ c) (hc9 : c ≤ maxLen) (hg : GoodL L) (u f t : ByteArray) (fl : Int) (hus : u.size ≤ 8) (hfs : f.size ≤ 8) (hts : t.size ≤ 85) (f0 : 0 ≤ fl) (f1 : fl ≤ 3) (w : World) (h : Src w (some ⟨b, o, none⟩) (cellsP L)) (R : List PM) (q1 q2 : Int) (HR : Hid (appR L u f t fl = (R, q1, q2))) :
    Calls Tryz.prog 50 #[.slice (some ⟨b, o, none⟩) n c, .string u, .string f, .string t, .int .i64 fl] w fun e w' => ∃ a2 n2 c2, e = .returned (.tuple #[.slice a2 n2 c2, .int .i64 q1, .int .i64 q2]) ∧ R.length = n2 ∧ Src w' a2 (cellsP R) ∧ Below w.heap.size w w' :=
  (l07AppendC b o n c L hL hc hc9 hg u f t fl hus hfs hts f0 f1 w h R q1 q2 HR).mono fun e w' ⟨a2, n2, c2, h1, h2, h3, h4⟩ => ⟨a2, n2, c2, h1, h2.1, h3, h4⟩
end Go.Proofs.YtddnecljdecamaaGreatDoor
namespace Go.Proofs.YtddnecljdecamaaGreatDoor
open Go.ChangeShapes Go.WideShapes Go.ChangeAt Go.RowKit Go.Deep Go.Lib
set_option linter.unusedVariables false
set_option linter.unusedSimpArgs false
set_option maxRecDepth 100000

theorem wpList_append_srcL {P : Program} (w : World) {ops : Array Oper} {rest : List Oper} {o : Oper} {a : Act} {Q : Exit → Act → World → Prop} (hgd : o.guard = none) (s x : Operand) (t : TypeId)
    (ho : o.op = .call { callee := .builtin .append, args := #[s, x], argTypes := #[t, t] })
    (base : Nat) (e : TypeId) (z : Value) (size bytes : Nat) (ht : P.underlying t = some (.slice e)) (hinfo : (P.info? e).map (fun i => (i.zero, i.size, i.bytes)) = some (some z, size, bytes))
    (hzs : z.cells.size = size) (hsz : 0 < size) (hby : bytes ≤ 64) (v : Value) (n : Nat) (xs : List Value) (hs : a.eval s = v) (hown : w.ownsRow base e size v n xs)
    (ad : Addr) (m c : Nat) (news : List Value) (hx : a.eval x = .slice (some ad) m c) (hl : news.length = m * size) (hsrc : Src w (some ad) news) (h1 : ∀ u ∈ news, u.oneCell' = true) (hn : n + m ≤ 4194304) (hm : 0 < m) (hbase : base ≤ w.heap.size)
    (h : ∀ v' w', w'.ownsRow base e size v' (n + m) (xs ++ news) → w.grownBy w' v.ownBlock → (v'.ownBlock = v.ownBlock ∨ ∀ g, v'.ownBlock = some g → w.heap.size ≤ g) → wpList P ops Q rest (a.put o.dst v') w') : wpList P ops Q (o :: rest) a w :=
  wpList_plain hgd fun _ hK => by
    obtain ⟨v', w', hr, h2, h3, h4⟩ := run_append_src' (P := P) w base t o.type e z size bytes ht hinfo hzs hsz hby v n xs hown ad m c news hl hsrc h1 hn hm hbase
    unfold Oper.wp execOp
    simp only [ho, resolve, invoke, builtin, Sem.run_bind, Sem.run_pure, Result.andThen_ok, List.map_toArray, List.map_cons, List.map_nil, hs, hx, hr]
    exact hK _ _ (h v' w' h2 h3 h4)
abbrev moreF (g : FM) (fl : Int) (t : ByteArray) : FM := ⟨g.name, g.val, g.next + 1, g.mails ++ [(g.next, fl, t)]⟩
def apM (S : SM) (g : FM) (fl : Int) (t : ByteArray) : Int × SM := if 6 ≤ sumF S.fs then (12, S) else if g.next = 999 then (6, S) else (0, ⟨S.aside, S.word, putF (moreF g fl t) S.fs⟩)
set_option maxHeartbeats 4000000 in
theorem appendMailI (w : World) (M : Nat) (a : Option Addr) (n c : Nat) (nx : Int) (u : ByteArray) (S : SM) (k : Nat) (hS : StAt w M a n c nx u S k) (f : ByteArray) (g : FM) (hl : lookF f S.fs = some g) (hfz : f.size ≤ 1000) (hu : u.size ≤ 1000) (x0 fl : Int) (t : ByteArray) (hsum : sumF S.fs ≤ 60) (hk : k ≤ 1000) (q : Int) (S' : SM) (HQ : Hid (apM S g fl t = (q, S'))) :
    Calls Tryz.prog 90 #[.pointer (some ⟨M + 1, 0, none⟩), .string f, .agg #[.int .i64 x0, .int .i64 fl, .string t]] w fun e w' => e = .returned (.int .i64 q) ∧ StAt w' M a n c nx u S' (k + 1) ∧ Below M w w' := by
  obtain ⟨va, X, hD, hV, hN, hf, hkk⟩ := hS
  have hM1 : M + 1 < w.heap.size := World.block_lt_of_cell? _ _ (hD.1 0 _ rfl).1
  obtain ⟨w0, hw0⟩ : ∃ W, w.alloc (.cells #[.int .i64 x0, .int .i64 fl, .string t] 36) = W := ⟨_, rfl⟩
  have A0 : Below w.heap.size w w0 := by rw [← hw0]; exact (Below.refl _ _).alloc (Nat.le_refl _) _
  have X0 : Hid (Box w0 w.heap.size [.int .i64 x0, .int .i64 fl, .string t]) := by show Box _ _ _; rw [← hw0]; exact Box.new rfl
  have HA0 : Hid (Below w.heap.size w w0) := A0
  have D0 : Hid (DeskAt w0 M ⟨a, n, c, va, S.aside, nx, u, S.word, X⟩) := hD.later A0
  have CM := mailsI w0 M _ D0.out (sumF S.fs) (sum_view hV) (by omega)
  obtain ⟨x, hx, hxg⟩ : ∃ x, lookX (folderK u f) X = some x ∧ fmX x = g := by
    have h9 := hV.look f
    rw [hl] at h9
    obtain ⟨x, h1, h2⟩ := Option.map_eq_some_iff.1 h9
    exact ⟨x, h1, h2⟩
  obtain ⟨ax, cx, hxv, _, _⟩ := own_src (hD.2.2.2.1 x (look_mem hx))
  have HX : Hid (lookX (folderK u f) X = some x ∧ fmX x = g ∧ x.v = .slice ax x.mails.length cx) := ⟨hx, hxg, hxv⟩
  have CT := fun W (hW : DeskAt W M ⟨a, n, c, va, S.aside, nx, u, S.word, X⟩) => atI f W M _ (by omega) (by show u.size ≤ 1048576; omega) hW
  have hat : atX (lookX (folderK u f) X) = .agg #[.string x.name, .int .i64 x.val, .int .i64 x.next, .slice ax x.mails.length cx] := by
    rw [hx]
    show valX x = _
    unfold valX
    rw [hxv]
  simp only [hat] at CT
  have hgn : x.name = g.name ∧ x.val = g.val ∧ x.next = g.next ∧ x.mails = g.mails := by rw [← hxg]; exact ⟨rfl, rfl, rfl, rfl⟩
  obtain ⟨ml, hml⟩ : ∃ z, g.mails.length = z := ⟨_, rfl⟩
  rw [hgn.1, hgn.2.1, hgn.2.2.1, hgn.2.2.2, hml] at CT
  obtain ⟨gn, gv, gx, gm⟩ := g
  dsimp only at CT hml hgn
  have hq9 := HQ.out
  unfold apM at hq9
  obtain ⟨sm, hsm⟩ : ∃ z, sumF S.fs = z := ⟨_, rfl⟩
  rw [hsm] at CM hq9 hsum
  have HREST : Hid ((S.fs.map (·.name)).Nodup ∧ (∀ f ∈ S.fs, 1 ≤ f.next ∧ f.next ≤ 999 ∧ f.mails.length ≤ k) ∧ S.aside.length ≤ k ∧ View u X S.fs) := ⟨hN, hf, hkk, hV⟩
  have hgok := hf _ (lookF_mem hl).1
  dsimp only at hgok hq9
  rw [hml] at hgok
  have HD : Hid (DeskAt w M ⟨a, n, c, va, S.aside, nx, u, S.word, X⟩) := hD
  have HO : Hid (w.ownsRow (M + 2) 36 3 (.slice ax ml cx) ml (cellsMl gm)) := by
    have h9 := hD.2.2.2.1 x (look_mem hx)
    rw [hxv, hgn.2.2.2, hml] at h9
    exact h9
  have hnf2 : f = gn := (lookF_mem hl).2.symm
  subst hnf2
  clear hD hV hN hf hkk hat hx hxg hxv hsm
  by_cases h6 : 6 ≤ sm
  · have h6i : (6 : Int) ≤ (sm : Int) := by omega
    rw [if_pos h6] at hq9
    obtain ⟨rfl, rfl⟩ : 12 = q ∧ S = S' := by cases hq9; exact ⟨rfl, rfl⟩
    clear CT hq9 HQ HX
    go_enter Tryz.func90, Tryz.ntmps90
    go_wp2_with fail
    refine CM.mono ?_
    rintro e w1 ⟨rfl, hb1⟩
    have HF : Hid (StAt w1 M a n c nx u S (k + 1) ∧ Below M w w1) := ⟨⟨va, X, D0.out.later hb1, HREST.out.2.2.2, HREST.out.1, fun z hz => by have h9 := HREST.out.2.1 z hz; omega, by have h9 := HREST.out.2.2.1; omega⟩, (HA0.out.trans (hb1.mono HA0.out.size)).mono (by omega)⟩
    clear CM hb1
    go_wp2_with fail
    go_ret
    exact ⟨rfl, HF.out.1, HF.out.2⟩
  have h6i : ¬ (6 : Int) ≤ (sm : Int) := by omega
  rw [if_neg h6] at hq9
  by_cases h9 : gx = 999
  · rw [if_pos h9] at hq9
    subst h9
    obtain ⟨rfl, rfl⟩ : 6 = q ∧ S = S' := by cases hq9; exact ⟨rfl, rfl⟩
    clear hq9 HQ HX
    go_enter Tryz.func90, Tryz.ntmps90
    go_wp2_with fail
    refine CM.mono ?_
    rintro e w1 ⟨rfl, hb1⟩
    have B1 : Hid (Below w.heap.size w w1) := HA0.out.trans (hb1.mono HA0.out.size)
    have D1 : Hid (DeskAt w1 M ⟨a, n, c, va, S.aside, nx, u, S.word, X⟩) := D0.out.later hb1
    have CT1 := CT w1 D1.out
    clear hb1 CM CT
    go_wp2_with fail
    refine CT1.mono ?_
    rintro e w2 ⟨rfl, hb2⟩
    have AL2 := (Below.refl w2.heap.size w2).alloc (Nat.le_refl _) (.cells #[.string f, .int .i64 gv, .int .i64 999, .slice ax ml cx] 28)
    have B2 : Below w.heap.size w w2 := B1.out.trans (hb2.mono B1.out.size)
    have HF : Hid (StAt (w2.alloc (.cells #[.string f, .int .i64 gv, .int .i64 999, .slice ax ml cx] 28)) M a n c nx u S (k + 1) ∧ Below M w (w2.alloc (.cells #[.string f, .int .i64 gv, .int .i64 999, .slice ax ml cx] 28))) := ⟨⟨va, X, (D1.out.later hb2).later AL2, HREST.out.2.2.2, HREST.out.1, fun z hz => by have h9 := HREST.out.2.1 z hz; omega, by have h9 := HREST.out.2.2.1; omega⟩, (B2.trans (AL2.mono B2.size)).mono (by omega)⟩
    clear CT1 hb2 AL2 B2
    go_wp2_with fail
    go_ret
    exact ⟨rfl, HF.out.1, HF.out.2⟩
  have h9i : (gx == 999) = false := beq_eq_false_iff_ne.2 h9
  rw [if_neg h9] at hq9
  have HQ9 : Hid (0 = q ∧ S' = ⟨S.aside, S.word, putF ⟨f, gv, gx + 1, gm ++ [(gx, fl, t)]⟩ S.fs⟩) := by cases hq9; exact ⟨rfl, rfl⟩
  clear hq9 HQ
  go_enter Tryz.func90, Tryz.ntmps90
  go_wp2_with fail
  refine CM.mono ?_
  rintro e w1 ⟨rfl, hb1⟩
  have D1 : Hid (DeskAt w1 M ⟨a, n, c, va, S.aside, nx, u, S.word, X⟩) := D0.out.later hb1
  have X1 : Hid (Box w1 w.heap.size [.int .i64 x0, .int .i64 fl, .string t]) := X0.out.below hb1
  have B1 : Hid (Below w.heap.size w w1) := HA0.out.trans (hb1.mono HA0.out.size)
  have Z1 : Hid (w.heap.size < w1.heap.size) := World.block_lt_of_cell? _ _ (X1.out 0 _ rfl).1
  have CT1 := CT w1 D1.out
  clear hb1 CM CT
  go_wp2_with fail
  refine CT1.mono ?_
  rintro e w2 ⟨rfl, hb2⟩
  have X2 : Box w2 w.heap.size [.int .i64 x0, .int .i64 fl, .string t] := X1.out.below hb2
  have B2 : Below w.heap.size w w2 := B1.out.trans (hb2.mono B1.out.size)
  have z2 : w.heap.size < w2.heap.size := by have h7 := hb2.size; have h8 := Z1.out; omega
  clear hb2 CT1
  obtain ⟨wA, hwA⟩ : ∃ W, w2.alloc (.cells #[.string f, .int .i64 gv, .int .i64 gx, .slice ax ml cx] 28) = W := ⟨_, rfl⟩
  have AA : Below w2.heap.size w2 wA := by rw [← hwA]; exact (Below.refl _ _).alloc (Nat.le_refl _) _
  have FA : Box wA w2.heap.size [.string f, .int .i64 gv, .int .i64 gx, .slice ax ml cx] := by rw [← hwA]; exact Box.new rfl
  have MA : Box wA w.heap.size [.int .i64 x0, .int .i64 fl, .string t] := X2.below AA
  have BA : Below w.heap.size w wA := B2.trans (AA.mono B2.size)
  have zA : wA.heap.size = w2.heap.size + 1 := by rw [← hwA]; simp
  obtain ⟨wB, hwB⟩ : ∃ W, wA.setCell ⟨w.heap.size, 0, none⟩ (.int .i64 gx) = W := ⟨_, rfl⟩
  have MB : Box wB w.heap.size [.int .i64 gx, .int .i64 fl, .string t] := by rw [← hwB]; exact MA.set 0 _
  have FB : Box wB w2.heap.size [.string f, .int .i64 gv, .int .i64 gx, .slice ax ml cx] := by rw [← hwB]; exact FA.other _ (by show w2.heap.size ≠ w.heap.size; omega) _
  have BB : Below w.heap.size w wB := by rw [← hwB]; exact BA.setCell (Nat.le_refl _) _
  have zB : wB.heap.size = w2.heap.size + 1 := by rw [← hwB, ← zA]; simp
  obtain ⟨wC, hwC⟩ : ∃ W, wB.setCell ⟨w2.heap.size, 2, none⟩ (.int .i64 (gx + 1)) = W := ⟨_, rfl⟩
  have MC : Box wC w.heap.size [.int .i64 gx, .int .i64 fl, .string t] := by rw [← hwC]; exact MB.other _ (by show w.heap.size ≠ w2.heap.size; omega) _
  have FC : Box wC w2.heap.size [.string f, .int .i64 gv, .int .i64 (gx + 1), .slice ax ml cx] := by rw [← hwC]; exact FB.set 2 _
  have BC : Below w.heap.size w wC := by rw [← hwC]; exact BB.setCell (by show w.heap.size ≤ w2.heap.size; omega) _
  have zC : wC.heap.size = w2.heap.size + 1 := by rw [← hwC, ← zB]; simp
  obtain ⟨mA0, mA0f⟩ := MA 0 _ rfl
  obtain ⟨fA2, _⟩ := FA 2 _ rfl
  obtain ⟨fB2, fB2f⟩ := FB 2 _ rfl
  obtain ⟨fC3, _⟩ := FC 3 _ rfl
  obtain ⟨mC0, _⟩ := MC 0 _ rfl
  obtain ⟨mC1, _⟩ := MC 1 _ rfl
  obtain ⟨mC2, _⟩ := MC 2 _ rfl
  obtain ⟨wD, hwD⟩ : ∃ W, wC.alloc (.cells #[.int .i64 gx, .int .i64 fl, .string t] 36) = W := ⟨_, rfl⟩
  have AD : Below wC.heap.size wC wD := by rw [← hwD]; exact (Below.refl _ _).alloc (Nat.le_refl _) _
  have BD : Below w.heap.size w wD := BC.trans (AD.mono BC.size)
  have FD : Hid (Box wD w2.heap.size [.string f, .int .i64 gv, .int .i64 (gx + 1), .slice ax ml cx]) := FC.below AD
  have SD : Hid (Src wD (some ⟨w2.heap.size + 1, 0, none⟩) (cellsMl [(gx, fl, t)])) := by show Src _ _ _; rw [← hwD]; exact src_oneMl zC.symm
  have DD : Hid (DeskAt wD M ⟨a, n, c, va, S.aside, nx, u, S.word, X⟩) := HD.out.later BD
  have OD : Hid (wD.ownsRow (M + 2) 36 3 (.slice ax ml cx) ml (cellsMl gm)) := own_below HO.out BD
  have HBD : Hid (Below w.heap.size w wD) := BD
  have zD : wD.heap.size = w2.heap.size + 2 := by rw [← hwD]; simp; omega
  have hg3 : gx + 1 ≤ 1000 := by omega
  clear X2 B2 AA FA MA BA MB FB BB MC FC BC AD BD
  go_wp2_with (at_builtin; refine wpList_append_srcL _ rfl _ _ 26 rfl (M + 2) 36 (.agg #[.int .i64 0, .int .i64 0, .string ⟨#[]⟩]) 3 32 Tryz.underlying26 infoMl rfl (by decide) (by decide) (.slice ax ml cx) ml (cellsMl gm) rfl OD.out ⟨w2.heap.size + 1, 0, none⟩ 1 1 (cellsMl [(gx, fl, t)]) rfl rfl SD.out (cellsMl_one _) (by omega) (by omega) (by omega) ?_)
  intro v6 w6 hown6 hgrow6 hloc6
  obtain ⟨a6, c6, rfl, _, hl6⟩ := own_src hown6
  have hrow : ∀ g, Value.ownBlock (.slice ax ml cx) = some g → M + 2 ≤ g ∧ g < w.heap.size := fun g h9 => ⟨(HO.out.lt g h9).1, (HO.out.lt g h9).2⟩
  have B6 : Below M w w6 := (HBD.out.mono (by omega)).grown hgrow6 (by omega) (fun g h9 => by have := (hrow g h9).1; omega)
  have X6 : Box w6 w2.heap.size [.string f, .int .i64 gv, .int .i64 (gx + 1), .slice ax ml cx] := FD.out.grown hgrow6 (fun h9 => by have := (hrow _ h9).2; omega)
  have K6 : DeskH w6 M ⟨a, n, c, va, S.aside, nx, u, S.word, X⟩ := by
    obtain ⟨k1, ⟨cl, k2⟩, k3, _⟩ := DD.out
    exact ⟨k1.grown hgrow6 (fun h9 => by have := (hrow _ h9).1; omega), ⟨cl, k2.grown hgrow6 (fun h9 => by have := (hrow _ h9).1; omega)⟩, own_grown k3 hgrow6 (fun g h9 h7 => own_ne k3 OD.out (by decide) g h9 h7)⟩
  have R6 : ∀ z ∈ X, z.k ≠ folderK u f → w6.ownsRow (M + 2) 36 3 z.v z.mails.length (cellsMl z.mails) ∧ ∀ g, z.v.ownBlock = some g → Value.ownBlock (.slice a6 (ml + 1) c6) ≠ some g := fun z hz hzk => by
    have k4 := DD.out.2.2.2
    have kd : ∀ g, z.v.ownBlock = some g → Value.ownBlock (.slice ax ml cx) ≠ some g := fun g h9 => by
      have h7 := rows_apart k4 HX.out.1 hz hzk g h9
      rw [HX.out.2.2, hgn.2.2.2, hml] at h7
      exact h7
    refine ⟨own_grown (k4.1 z hz) hgrow6 kd, fun g h9 h7 => ?_⟩
    rcases hloc6 with h5 | h5
    · rw [h5] at h7; exact kd g h9 h7
    · have h6 := h5 g h7
      have h4 := ((HD.out.2.2.2.1 z hz).lt g h9).2
      omega
  have L6 : ∀ g, Value.ownBlock (.slice a6 (ml + 1) c6) = some g → g ≠ w2.heap.size := fun g h9 h7 => by
    rcases hloc6 with h5 | h5
    · rw [h5] at h9; have := (hrow g h9).2; omega
    · have h6 := h5 g h9
      omega
  have hold : ∀ z ∈ X, z.v.ownBlock ≠ some w2.heap.size := fun z hz h9 => by
    have h7 := ((HD.out.2.2.2.1 z hz).lt _ h9).2
    omega
  have hasd : va.ownBlock ≠ some w2.heap.size := fun h9 => by
    have h7 := (HD.out.2.2.1.lt _ h9).2
    omega
  obtain ⟨w7, hw7⟩ : ∃ W, w6.setCell ⟨w2.heap.size, 3, none⟩ (.slice a6 (ml + 1) c6) = W := ⟨_, rfl⟩
  have X7 : Box w7 w2.heap.size [.string f, .int .i64 gv, .int .i64 (gx + 1), .slice a6 (ml + 1) c6] := by rw [← hw7]; exact X6.set 3 _
  have K7 : Hid (DeskH w7 M ⟨a, n, c, va, S.aside, nx, u, S.word, X⟩) := by
    obtain ⟨k1, ⟨cl, k2⟩, k3⟩ := K6
    rw [← hw7]
    exact ⟨box_far k1 _ _ (by show M + 1 ≠ w2.heap.size; omega), ⟨cl, k2.setCell _ _ (by show M ≠ w2.heap.size; omega)⟩, own_setOther k3 hasd _⟩
  have hKN : (X.map (·.k)).Nodup := by
    rw [HREST.out.2.2.2.keys]
    exact nodup_keys HREST.out.1
  have hgml : (gm ++ [(gx, fl, t)]).length = ml + 1 := by rw [List.length_append, hml]; rfl
  have R7 : Hid (∀ clock, Rows w7 M (setX ⟨folderK u f, 0, f, gv, gx + 1, .slice a6 (ml + 1) c6, gm ++ [(gx, fl, t)]⟩ clock X)) := fun clock => by
    refine rows_set' (fun z hz hzk => by rw [← hw7]; exact own_setOther (R6 z hz hzk).1 (hold z hz) _) HD.out.2.2.2.2 ?_ hKN (fun z hz hzk => (R6 z hz hzk).2) clock
    show World.ownsRow _ _ _ _ _ (gm ++ [(gx, fl, t)]).length _
    rw [hgml, ← hw7, cellsMl_append]
    exact own_setOther hown6 (fun h9 => L6 _ h9 rfl) _
  have B7 : Hid (Below M w w7) := by
    rw [← hw7]
    exact B6.setCell (by show M ≤ w2.heap.size; omega) _
  have CP := putI ⟨folderK u f, 0, f, gv, gx + 1, .slice a6 (ml + 1) c6, gm ++ [(gx, fl, t)]⟩ f gv (gx + 1) a6 (ml + 1) c6 w7 M ⟨a, n, c, va, S.aside, nx, u, S.word, X⟩ rfl (by omega) (by show u.size ≤ 1048576; omega) K7.out R7.out
  obtain ⟨e6, f6⟩ := X6 3 _ rfl
  obtain ⟨g0, _⟩ := X7 0 _ rfl
  obtain ⟨g1, _⟩ := X7 1 _ rfl
  obtain ⟨g2, _⟩ := X7 2 _ rfl
  obtain ⟨g3, _⟩ := X7 3 _ rfl
  clear X7 hold hasd hown6 hgrow6 hloc6 hl6 hrow B6 X6 K6 R6 L6 hKN K7 R7 hgml
  go_wp2_with fail
  refine CP.mono ?_
  rintro e w8 ⟨rfl, ⟨clock, hd8⟩, hb8⟩
  have HF : Hid (StAt w8 M a n c nx u S' (k + 1) ∧ Below M w w8) := by
    rw [HQ9.out.2]
    refine ⟨⟨va, _, hd8, ?_, putF_names HREST.out.1, fun z hz => ?_, by have h9 := HREST.out.2.2.1; show S.aside.length ≤ k + 1; omega⟩, B7.out.trans hb8⟩
    · exact HREST.out.2.2.2.put (y := ⟨folderK u f, 0, f, gv, gx + 1, .slice a6 (ml + 1) c6, gm ++ [(gx, fl, t)]⟩) rfl clock
    · rcases putF_mem hz with hz | rfl
      · have h9 := HREST.out.2.1 z hz; omega
      · refine ⟨by show 1 ≤ gx + 1; omega, by show gx + 1 ≤ 999; omega, ?_⟩
        show (gm ++ [(gx, fl, t)]).length ≤ k + 1
        rw [List.length_append, hml]
        show ml + 1 ≤ k + 1
        omega
  have HQ0 : Hid (0 = q) := HQ9.out.1
  clear CP hd8 hb8 g0 g1 g2 g3
  go_wp2_with fail
  go_ret
  exact ⟨ret_int HQ0.out, HF.out.1, HF.out.2⟩
end Go.Proofs.YtddnecljdecamaaGreatDoor
