/-
  Kss Kop Exp Wks in one. By an AI agent.
-/
import Derived.Test.YtddnecljdecamaaGreatDoorQ31
import Derived.Test.YtddnecljdecamaaGreatDoorQ26
import Derived.Test.YtddnecljdecamaaGreatDoorQ30
namespace Go.Proofs.YtddnecljdecamaaGreatDoor
open Go.ChangeShapes Go.WideShapes Go.ChangeAt Go.RowKit Go.Deep Go.Lib
set_option linter.unusedVariables false
set_option linter.unusedSimpArgs false
set_option maxRecDepth 100000

theorem itoa_19 (x : Int) (h0 : 0 ≤ x) (h1 : x ≤ 10001) : (bs (itoa x)).size ≤ 19 := by
  have h2 := (trim_is (t := itoa x) rfl).2 (by omega)
  have h3 : (bs (itoa x)).size = (itoa x).length := rfl
  have h4 : (itoa x).length ≤ (trimPrefix (itoa x) [45]).length + 1 := by
    unfold trimPrefix
    split
    · rw [List.length_drop]; simp only [List.length_singleton]; omega
    · omega
  omega
theorem metaT_39 {x y : Int} (h0 : 0 ≤ x) (h1 : x ≤ 10000) (h2 : 0 ≤ y) (h3 : y ≤ 10000) : (metaT x y).size ≤ 39 := by
  have a := itoa_19 x h0 (by omega)
  have b := itoa_19 y h2 (by omega)
  have e : (metaT x y).size = (bs (itoa x)).size + 1 + (bs (itoa y)).size := by
    unfold metaT
    rw [ByteArray.size_append, ByteArray.size_append]
    rfl
  omega
/-- A folder that a store may have. -/
def GoodF (nx : Int) (f : FM) : Prop := shortB f.name = true ∧ 1 ≤ f.val ∧ f.val ≤ 9999 ∧ f.val < nx ∧ 1 ≤ f.next ∧ f.next ≤ 999 ∧ ∀ m ∈ f.mails, 1 ≤ m.1 ∧ m.1 < f.next ∧ 0 ≤ m.2.1 ∧ m.2.1 ≤ 3 ∧ m.2.2.size ≤ 85
/-- A desk that a store may have. -/
structure FitS (nx : Int) (u : ByteArray) (S : SM) : Prop where
  us : shortB u = true
  ws : shortB S.word = true
  ib : (lookF inboxT S.fs).isSome = true
  sm : sumF S.fs ≤ 6
  fs : ∀ f ∈ S.fs, GoodF nx f
theorem short_one {u : ByteArray} (h : shortB u = true) : 1 ≤ u.size := by
  unfold shortB wordB at h
  simp only [Bool.and_eq_true, decide_eq_true_eq] at h
  omega
theorem mailK_data' (u f : ByteArray) (n : Int) : (mailK u f n).data.toList = 109 :: 47 :: (u.data.toList ++ 47 :: (f.data.toList ++ 47 :: d3 n.toNat)) := by
  simp [mailK, bs, ByteArray.data_append]
theorem d3_slash {n : Nat} (h : n < 1000) : (47 : UInt8) ∉ d3 n := by
  obtain ⟨x, y, z, hx, hy, hz, rfl⟩ := split3 n h
  unfold d3
  rw [dec4 x y z hx hy hz]
  intro h9
  simp only [List.drop_succ_cons, List.drop_zero, List.mem_cons, List.not_mem_nil, or_false] at h9
  rcases h9 with h9 | h9 | h9
  all_goals
    have h8 := congrArg UInt8.toNat h9
    simp at h8
    omega
theorem split_mail {u f : ByteArray} {n : Int} (hus : (47 : UInt8) ∉ u.data.toList) (hfs : (47 : UInt8) ∉ f.data.toList) (hn : n.toNat < 1000) : splitL 47 (mailK u f n).data.toList = [[109], u.data.toList, f.data.toList, d3 n.toNat] := by
  rw [mailK_data', show (109 :: 47 :: (u.data.toList ++ 47 :: (f.data.toList ++ 47 :: d3 n.toNat)) : List UInt8) = [109] ++ 47 :: (u.data.toList ++ 47 :: (f.data.toList ++ 47 :: d3 n.toNat)) from rfl, splitL_seg 47 [109] _ (by decide), splitL_seg 47 _ _ hus, splitL_seg 47 _ _ hfs, splitL_whole 47 _ (d3_slash hn)]
theorem split_folder {u f : ByteArray} (hus : (47 : UInt8) ∉ u.data.toList) (hfs : (47 : UInt8) ∉ f.data.toList) : splitL 47 (folderK u f).data.toList = [[102], u.data.toList, f.data.toList] := by
  rw [folderK_data, show (102 :: 47 :: (u.data.toList ++ 47 :: f.data.toList) : List UInt8) = [102] ++ 47 :: (u.data.toList ++ 47 :: f.data.toList) from rfl, splitL_seg 47 [102] _ (by decide), splitL_seg 47 _ _ hus, splitL_whole 47 _ hfs]
theorem split_user {u : ByteArray} (hus : (47 : UInt8) ∉ u.data.toList) : splitL 47 (userK u).data.toList = [[117], u.data.toList] := by
  rw [userK_data, show (117 :: 47 :: u.data.toList : List UInt8) = [117] ++ 47 :: u.data.toList from rfl, splitL_seg 47 [117] _ (by decide), splitL_whole 47 _ hus]
theorem owner_mail {u f w : ByteArray} {n : Int} (hus : (47 : UInt8) ∉ u.data.toList) (hfs : (47 : UInt8) ∉ f.data.toList) (hn : n.toNat < 1000) : ownerM (mailK u f n, w) = some u := by
  unfold ownerM
  show ownerG (splitL 47 (mailK u f n).data.toList) = _
  rw [split_mail hus hfs hn]
  rfl
theorem mailV_head {m : MMl} (h0 : 0 ≤ m.2.1) (h1 : m.2.1 ≤ 3) : 48 ≤ headV (mailV m) ∧ headV (mailV m) ≤ 51 ∧ (mailV m).size = m.2.2.size + 1 := by
  have hd : m.2.1 = 0 ∨ m.2.1 = 1 ∨ m.2.1 = 2 ∨ m.2.1 = 3 := by omega
  have key : ∀ c : UInt8, itoa m.2.1 = [c] → 48 ≤ c.toNat → c.toNat ≤ 51 → 48 ≤ headV (mailV m) ∧ headV (mailV m) ≤ 51 ∧ (mailV m).size = m.2.2.size + 1 := fun c hc k1 k2 => by
    have e : (mailV m).data.toList = c :: m.2.2.data.toList := by
      unfold mailV
      rw [hc]
      simp [bs, ByteArray.data_append]
    refine ⟨?_, ?_, ?_⟩
    · unfold headV; rw [e]; show (48 : Int) ≤ (c.toNat : Int); omega
    · unfold headV; rw [e]; show (c.toNat : Int) ≤ 51; omega
    · rw [size_of, e, size_of]; rfl
  rcases hd with h | h | h | h
  · exact key 48 (by rw [h]; kernel_rfl) (by decide) (by decide)
  · exact key 49 (by rw [h]; kernel_rfl) (by decide) (by decide)
  · exact key 50 (by rw [h]; kernel_rfl) (by decide) (by decide)
  · exact key 51 (by rw [h]; kernel_rfl) (by decide) (by decide)
theorem lies_store {N Y : List PM} {nx : Int} {u : ByteArray} {S : SM} (hN : storeB N = true) (hY : Lies Y nx u S) (h6 : Y.length ≤ 60) (hnx : nextM N ≤ nx) (hn9 : nx ≤ 10000) (hF : FitS nx u S) (hasd : ∀ p : PM, p.1 ≠ vK → (p ∈ notK vK S.aside ↔ p ∈ N ∧ ownerM p ≠ some u)) : storeB Y = true := by
  have hus := word_slash hF.us
  have hgN := (store_facts hN).1
  obtain ⟨_, nx0, hnm, n1, _⟩ := store_facts hN
  rw [hnm] at n1
  have hmem : ∀ p, p ∈ Y ↔ p = (vK, bs (itoa nx)) ∨ p = (userK u, S.word) ∨ p ∈ notK vK S.aside ∨ ∃ g ∈ S.fs, p ∈ fPairs u g := fun p => by
    rw [hY.pm.mem_iff]
    unfold deskP
    rw [List.mem_cons, List.mem_cons, List.mem_append]
    constructor
    · rintro (h | h | h | h)
      · exact .inl h
      · exact .inr (.inl h)
      · exact .inr (.inr (.inl h))
      · exact .inr (.inr (.inr (flat_mem h)))
    · rintro (h | h | h | ⟨g, hg, h⟩)
      · exact .inl h
      · exact .inr (.inl h)
      · exact .inr (.inr (.inl h))
      · exact .inr (.inr (.inr (List.mem_flatMap.2 ⟨g, hg, h⟩)))
  have hasv : ∀ p ∈ notK vK S.aside, p ∈ N ∧ ownerM p ≠ some u := fun p hp => (hasd p (notK_sub hp).2).1 hp
  have hfp : ∀ g ∈ S.fs, ∀ p ∈ fPairs u g, p = (folderK u g.name, metaT g.val g.next) ∨ ∃ m ∈ g.mails, p = mailP u g.name m := fun g hg p hp => by
    unfold fPairs at hp
    rcases List.mem_cons.1 hp with h | h
    · exact .inl h
    · obtain ⟨m, hm, e⟩ := List.mem_map.1 h
      exact .inr ⟨m, hm, e.symm⟩
  have hfo : ∀ g ∈ S.fs, ∀ p ∈ fPairs u g, ownerM p = some u := fun g hg p hp => by
    obtain ⟨g1, g2, g3, g4, g5, g6, g7⟩ := hF.fs g hg
    rcases hfp g hg p hp with rfl | ⟨m, hm, rfl⟩
    · exact owner_folderK hus (word_slash g1)
    · obtain ⟨m1, m2, m3, m4, m5⟩ := g7 m hm
      exact owner_mail hus (word_slash g1) (by omega)
  have hmeta : ∀ g ∈ S.fs, metaM Y u g.name = some (g.val, g.next) := fun g hg => by
    obtain ⟨g1, g2, g3, g4, g5, g6, g7⟩ := hF.fs g hg
    refine (meta_iff hY.up).2 ⟨metaT g.val g.next, ?_, meta_is ⟨g2, g3, g5, g6⟩⟩
    rw [hmem]
    exact .inr (.inr (.inr ⟨g, hg, List.mem_cons_self⟩))
  have hgY : GoodL Y := by
    refine ⟨h6, fun p hp => ?_, hY.up⟩
    have u1 := short_one hF.us
    have u2 := short_size' hF.us
    rcases (hmem p).1 hp with rfl | rfl | h | ⟨g, hg, h⟩
    · have h3 := itoa_19 nx (by omega) (by omega)
      exact ⟨by show 1 ≤ vK.size; decide, by show vK.size ≤ 30; decide, by show (bs (itoa nx)).size ≤ 90; omega⟩
    · have h3 := short_size' hF.ws
      have h4 : (userK u).size = u.size + 2 := by rw [size_of, userK_data, size_of]; simp
      exact ⟨by show 1 ≤ (userK u).size; omega, by show (userK u).size ≤ 30; omega, by show S.word.size ≤ 90; omega⟩
    · exact hgN.2.1 p (hasv p h).1
    · obtain ⟨g1, g2, g3, g4, g5, g6, g7⟩ := hF.fs g hg
      have g8 := short_size' g1
      rcases hfp g hg p h with rfl | ⟨m, hm, rfl⟩
      · have h1 := metaT_39 (x := g.val) (y := g.next) (by omega) (by omega) (by omega) (by omega)
        have h2 : (folderK u g.name).size = u.size + g.name.size + 3 := by
          rw [size_of, folderK_data, size_of, size_of]
          simp only [List.length_cons, List.length_append]
          omega
        exact ⟨by show 1 ≤ (folderK u g.name).size; omega, by show (folderK u g.name).size ≤ 30; omega, by show (metaT _ _).size ≤ 90; omega⟩
      · obtain ⟨m1, m2, m3, m4, m5⟩ := g7 m hm
        have h1 := (mailV_head m3 m4).2.2
        have h3 := (d3_is m.1.toNat (by omega)).1
        have h2 : (mailK u g.name m.1).size = u.size + g.name.size + 7 := by
          rw [size_of, mailK_data', size_of, size_of]
          simp only [List.length_cons, List.length_append, h3]
          omega
        exact ⟨by show 1 ≤ (mailK u g.name m.1).size; omega, by show (mailK u g.name m.1).size ≤ 30; omega, by show (mailV m).size ≤ 90; omega⟩
  refine store_keep (u := u) hN hgY ((hmem _).2 (.inl rfl)) hnx hn9 (fun p hk ho => ?_) fun p hp ho hk => ?_
  · rw [hmem]
    constructor
    · rintro (rfl | rfl | h | ⟨g, hg, h⟩)
      · exact absurd rfl hk
      · exact absurd (owner_user hus) ho
      · exact (hasv p h).1
      · exact absurd (hfo g hg p h) ho
    · exact fun h => .inr (.inr (.inl ((hasd p hk).2 ⟨h, ho⟩)))
  · rcases (hmem p).1 hp with rfl | rfl | h | ⟨g, hg, h⟩
    · exact absurd rfl hk
    · show askG Y nx S.word (splitL 47 (userK u).data.toList)
      rw [split_user hus]
      obtain ⟨g, hg⟩ := Option.isSome_iff_exists.1 hF.ib
      obtain ⟨k1, k2⟩ := lookF_mem hg
      have h9 := hmeta g k1
      rw [k2] at h9
      refine ⟨rfl, fun e => ?_, ?_⟩
      · have := short_one hF.us
        rw [size_of, e] at this
        simp at this
      · show (shortB (bs u.data.toList) && shortB S.word && (metaM Y (bs u.data.toList) inboxT).isSome) = true
        rw [data_bs, hF.us, hF.ws, h9]
        rfl
    · exact absurd ho (hasv p h).2
    · obtain ⟨g1, g2, g3, g4, g5, g6, g7⟩ := hF.fs g hg
      have hfs := word_slash g1
      rcases hfp g hg p h with rfl | ⟨m, hm, rfl⟩
      · show askG Y nx (metaT g.val g.next) (splitL 47 (folderK u g.name).data.toList)
        rw [split_folder hus hfs]
        refine ⟨rfl, ?_⟩
        show (shortB (bs g.name.data.toList) && (getM Y (userK (bs u.data.toList))).isSome && foldB nx (metaT g.val g.next) (metaM Y (bs u.data.toList) (bs g.name.data.toList))) = true
        rw [data_bs, data_bs, hmeta g hg, g1, (getM_mem hY.up).2 ((hmem (userK u, S.word)).2 (.inr (.inl rfl)))]
        show (decide (g.val < nx) && ((metaT g.val g.next).toList == (metaT g.val g.next).toList)) = true
        rw [decide_eq_true g4]
        simp
      · obtain ⟨m1, m2, m3, m4, m5⟩ := g7 m hm
        obtain ⟨v1, v2, v3⟩ := mailV_head m3 m4
        obtain ⟨d1, d2⟩ := d3_is m.1.toNat (by omega)
        show askG Y nx (mailV m) (splitL 47 (mailK u g.name m.1).data.toList)
        rw [split_mail hus hfs (by omega)]
        refine ⟨rfl, ?_⟩
        show ((d3 m.1.toNat).length == 3 && (decide (1 ≤ ((mailV m).size : Int)) && decide (((mailV m).size : Int) ≤ 86)) && (decide (48 ≤ headV (mailV m)) && decide (headV (mailV m) ≤ 51)) && mailN (countM Y (bs u.data.toList)) (decFrom 0 (d3 m.1.toNat)) (metaM Y (bs u.data.toList) (bs g.name.data.toList))) = true
        rw [data_bs, data_bs, hmeta g hg, d1, d2, lies_count hY hus, decide_eq_true v1, decide_eq_true v2, decide_eq_true (by omega), decide_eq_true (by omega)]
        have s6 := hF.sm
        show (true && (decide (1 ≤ (m.1.toNat : Int)) && decide ((m.1.toNat : Int) ≤ g.next - 1)) && decide ((sumF S.fs : Int) ≤ 6)) = true
        rw [decide_eq_true (by omega), decide_eq_true (by omega), decide_eq_true (by omega)]
        rfl
end Go.Proofs.YtddnecljdecamaaGreatDoor
namespace Go.Proofs.YtddnecljdecamaaGreatDoor
open Go.ChangeShapes Go.WideShapes Go.ChangeAt Go.RowKit Go.Deep Go.Lib
set_option linter.unusedVariables false
set_option linter.unusedSimpArgs false
set_option maxRecDepth 100000

theorem store_pair {L : List PM} (h : storeB L = true) {p : PM} (hp : p ∈ L) (hk : p.1 ≠ vK) : askG L (nextM L) p.2 (splitL 47 p.1.data.toList) := by
  unfold storeB at h
  rw [Bool.and_eq_true] at h
  exact (pair_iff hk).1 (List.all_eq_true.1 h.2 p hp)
theorem mail_nv (u f : ByteArray) (n : Int) : mailK u f n ≠ vK := fun e => by
  have h1 := congrArg (fun x : ByteArray => x.data.toList) e
  simp only [mailK_data'] at h1
  cases h1
theorem aside_is {L : List PM} {u : ByteArray} {S : SM} (hS : takeAll (nextM L) u S0 L = some S) : ∀ p : PM, p.1 ≠ vK → (p ∈ notK vK S.aside ↔ p ∈ L ∧ ownerM p ≠ some u) := fun p hk => by
  rw [all_aside hS]
  constructor
  · intro hp
    obtain ⟨h1, h2⟩ := notK_sub hp
    have h3 : p ∈ L.filter fun p => !isOwn u p := by simpa using h1
    obtain ⟨h4, h5⟩ := List.mem_filter.1 h3
    exact ⟨h4, by simpa using h5⟩
  · rintro ⟨h1, h2⟩
    refine List.mem_filter.2 ⟨?_, decide_eq_true hk⟩
    have h3 : p ∈ L.filter fun p => !isOwn u p := List.mem_filter.2 ⟨h1, by simpa using h2⟩
    simpa using h3
/-- What is left of a store by a right desk is a store. -/
theorem store_left {N Y : List PM} {nx : Int} {u : ByteArray} {S S' : SM} (h : storeB N = true) (hS : takeAll (nextM N) u S0 N = some S) (ha : S'.aside = S.aside) (hnd : (S'.fs.map (·.name)).Nodup) (hF : FitS nx u S') (hnx : nextM N ≤ nx) (hn9 : nx ≤ 10000) (up : UpL Y) (pm : (deskP nx u S').Perm Y) (h6 : Y.length ≤ 60) : storeB Y = true := by
  have hus := word_slash hF.us
  have hl : Lies Y nx u S' := ⟨up, pm.symm, hnd, fun g hg => word_slash (hF.fs g hg).1, fun f hf p hp => by
    rw [ha] at hp
    exact aside_pass h hus hf hS hp, fun p hp => by
    rw [ha] at hp
    obtain ⟨h1, h2⟩ := (aside_is hS p (notK_sub hp).2).1 hp
    rw [← mail_is h hus h1]
    exact away_owner h2⟩
  refine lies_store h hl h6 hnx hn9 hF ?_
  rw [ha]
  exact aside_is hS
/-- A store's desk is right. -/
theorem store_fits {L : List PM} {u : ByteArray} {S : SM} (h : storeB L = true) (hus : (47 : UInt8) ∉ u.data.toList) (hS : takeAll (nextM L) u S0 L = some S) (hw : S.word.toList ≠ []) : FitS (nextM L) u S := by
  obtain ⟨hg, nx0, hnm, n1, n2, _, kk, _⟩ := store_facts h
  obtain ⟨v, hv⟩ : ∃ v, getM L (userK u) = some v := by
    cases hv : getM L (userK u) with
    | none => exact absurd (((word_iff h hus hS).1).2 hv) hw
    | some v => exact ⟨v, rfl⟩
  have hm := (getM_mem hg.2.2).1 hv
  have hsv : S.word = v := by
    have h9 := (word_iff h hus hS).2
    rw [hv] at h9
    exact h9
  have hp := store_pair h hm (user_nv u)
  have hp2 : askG L (nextM L) v (splitL 47 (userK u).data.toList) := hp
  rw [split_user hus] at hp2
  obtain ⟨_, _, hp3⟩ := hp2
  have hp4 : (shortB (bs u.data.toList) && shortB v && (metaM L (bs u.data.toList) inboxT).isSome) = true := hp3
  rw [data_bs, Bool.and_eq_true, Bool.and_eq_true] at hp4
  have hlay := kk u ⟨_, hm, rfl⟩
  rw [hnm] at hlay n1 n2
  unfold layF at hlay
  rw [hS] at hlay
  have hl2 : ((lookF inboxT S.fs).isSome && decide (sumF S.fs ≤ 6)) = true := hlay
  rw [Bool.and_eq_true, decide_eq_true_eq] at hl2
  refine ⟨hp4.1.1, by rw [hsv]; exact hp4.1.2, hl2.1, hl2.2, fun g hg9 => ?_⟩
  have hgn := name_short h hus hS hg9
  have hgs := word_slash hgn
  obtain ⟨⟨w, f2, k1, k2, k3, k4⟩, _⟩ := store_fol h hS g hg9
  obtain ⟨j1, j2, j3, j4⟩ := (folder_meta n2).1 k2
  have hr := metaV_range j2
  have hme : metaM L u g.name = some (g.val, g.next) := by
    unfold metaM
    rw [(getM_mem hg.2.2).2 k1]
    show metaV w = _
    rw [j2, k3, k4]
  refine ⟨hgn, by omega, by omega, by omega, by omega, by omega, fun m hm9 => ?_⟩
  obtain ⟨e1, e2, e3, e4, e5, e6⟩ := store_fit h hS g hg9
  obtain ⟨m1, m2, m3, m4, m5⟩ := e6 m hm9
  have hin : mailP u g.name m ∈ L := (store_sub h hS g hg9).subset (List.mem_map.2 ⟨m, hm9, rfl⟩)
  have hq : askG L (nextM L) (mailV m) (splitL 47 (mailK u g.name m.1).data.toList) := store_pair h hin (mail_nv u g.name m.1)
  rw [split_mail hus hgs (by omega)] at hq
  obtain ⟨_, hq2⟩ := hq
  have hq3 : ((d3 m.1.toNat).length == 3 && (decide (1 ≤ ((mailV m).size : Int)) && decide (((mailV m).size : Int) ≤ 86)) && (decide (48 ≤ headV (mailV m)) && decide (headV (mailV m) ≤ 51)) && mailN (countM L (bs u.data.toList)) (decFrom 0 (d3 m.1.toNat)) (metaM L (bs u.data.toList) (bs g.name.data.toList))) = true := hq2
  rw [data_bs, data_bs, hme, (d3_is m.1.toNat (by omega)).2] at hq3
  simp only [Bool.and_eq_true, decide_eq_true_eq] at hq3
  obtain ⟨⟨⟨_, _, q2⟩, _⟩, q5⟩ := hq3
  have q6 : ((decide (1 ≤ (m.1.toNat : Int)) && decide ((m.1.toNat : Int) ≤ g.next - 1)) && decide ((countM L u : Int) ≤ 6)) = true := q5
  simp only [Bool.and_eq_true, decide_eq_true_eq] at q6
  have h1 := (mailV_head m3 m4).2.2
  exact ⟨by omega, by omega, m3, m4, by omega⟩
theorem goodF_mono {n m : Int} {f : FM} (hnm : n ≤ m) (h : GoodF n f) : GoodF m f := by
  obtain ⟨h1, h2, h3, h4, h5⟩ := h
  exact ⟨h1, h2, h3, by omega, h5⟩
/-- An operation leaves a store. -/
theorem op_store {N : List PM} {u : ByteArray} {S S' : SM} {q nx' : Int} {A : List PM × Int} (h : storeB N = true) (hS : takeAll (nextM N) u S0 N = some S) (hO : OpFits N u q nx' S' A) (hF : q = 0 → S'.aside = S.aside ∧ (S'.fs.map (·.name)).Nodup ∧ FitS nx' u S' ∧ nextM N ≤ nx') : storeB A.1 = true := by
  by_cases e : q = 0
  · obtain ⟨k1, k2, k3, k4⟩ := hF e
    obtain ⟨_, j1, _, Y, j2, j3, _, j5⟩ := hO.2 e
    rw [j5]
    unfold fitsR
    split
    · exact h
    · rename_i h9
      exact store_left h hS k1 k2 k3 k4 j1 (Y := Y) j2 j3 (by omega)
  · rw [hO.1 e]
    exact h
end Go.Proofs.YtddnecljdecamaaGreatDoor
namespace Go.Proofs.YtddnecljdecamaaGreatDoor
open Go.ChangeShapes Go.WideShapes Go.ChangeAt Go.RowKit Go.Deep Go.Lib
set_option linter.unusedVariables false
set_option linter.unusedSimpArgs false
set_option maxRecDepth 100000

/-- A mail that is marked as deleted. -/
def delB (m : MMl) : Bool := decide (2 ≤ m.2.1)
def goI (Ms : List MMl) : List Int := (Ms.filter delB).map (·.1)
abbrev keepM (Ms : List MMl) : List MMl := Ms.filter fun m => !delB m
def exP (u f : ByteArray) (Ms : List MMl) (p : PM) : Bool := (Ms.filter delB).all fun m => decide (p.1 ≠ mailK u f m.1)
def exTo (L : List PM) (u f : ByteArray) (Ms : List MMl) (j : Nat) : List PM := L.filter (exP u f (Ms.take j))
theorem take_next {Ms : List MMl} {j : Nat} (hj : j < Ms.length) : Ms.take (j + 1) = Ms.take j ++ [Ms.getD j ml0] := by
  rw [List.take_add_one, List.getD_eq_getElem?_getD, List.getElem?_eq_getElem hj]
  rfl
theorem ex_hit {L : List PM} {u f : ByteArray} {Ms : List MMl} {j : Nat} (hj : j < Ms.length) (h : delB (Ms.getD j ml0) = true) : notK (mailK u f (Ms.getD j ml0).1) (exTo L u f Ms j) = exTo L u f Ms (j + 1) ∧ goI (Ms.take (j + 1)) = goI (Ms.take j) ++ [(Ms.getD j ml0).1] := by
  constructor
  · unfold exTo notK
    rw [List.filter_filter]
    refine List.filter_congr fun p _ => ?_
    unfold exP
    rw [take_next hj, List.filter_append, List.filter_cons_of_pos h, List.filter_nil, List.all_append]
    simp only [List.all_cons, List.all_nil, Bool.and_true]
    rw [Bool.and_comm]
  · unfold goI
    rw [take_next hj, List.filter_append, List.filter_cons_of_pos h, List.filter_nil, List.map_append]
    rfl
theorem ex_miss {L : List PM} {u f : ByteArray} {Ms : List MMl} {j : Nat} (hj : j < Ms.length) (h : delB (Ms.getD j ml0) = false) : exTo L u f Ms j = exTo L u f Ms (j + 1) ∧ goI (Ms.take (j + 1)) = goI (Ms.take j) := by
  have e : (Ms.take (j + 1)).filter delB = (Ms.take j).filter delB := by
    rw [take_next hj, List.filter_append, List.filter_cons_of_neg (by rw [h]; simp), List.filter_nil, List.append_nil]
  constructor
  · unfold exTo exP
    rw [e]
  · unfold goI
    rw [e]
theorem ex_zero (L : List PM) (u f : ByteArray) (Ms : List MMl) : exTo L u f Ms 0 = L := by
  unfold exTo
  rw [List.filter_eq_self]
  intro p _
  rfl
theorem ex_len (L : List PM) (u f : ByteArray) (Ms : List MMl) (j : Nat) : (exTo L u f Ms j).length ≤ L.length := List.length_filter_le _ _
theorem go_len (Ms : List MMl) (j : Nat) : (goI (Ms.take j)).length ≤ Ms.length := by
  unfold goI
  rw [List.length_map]
  have h1 := List.length_filter_le delB (Ms.take j)
  have h2 : (Ms.take j).length ≤ Ms.length := by rw [List.length_take]; omega
  omega
def exY (L : List PM) (u f : ByteArray) : List PM := exTo L u f (rnF L u f).mails (rnF L u f).mails.length
def exR (L : List PM) (u f : ByteArray) : List PM × List Int × Int := if knownR L u f ≠ 0 then (L, [], knownR L u f) else (exY L u f, goI (rnF L u f).mails, 0)
def eR (L : List PM) (u f : ByteArray) : List PM × List Int × Int := if askM L [u, f] ≠ 0 then ([], [], askM L [u, f]) else exR L u f
abbrev exS (S : SM) (g : FM) : SM := ⟨S.aside, S.word, putF ⟨g.name, g.val, g.next, keepM g.mails⟩ S.fs⟩
theorem ex_pass {u f : ByteArray} {Ms : List MMl} {p : PM} (h : beginsB p.1 (preK u f) = false) : exP u f Ms p = true := by
  unfold exP
  rw [List.all_eq_true]
  intro m _
  refine decide_eq_true fun e => ?_
  have h9 := begins_mail u f m
  rw [show (mailP u f m).1 = p.1 from e.symm, h] at h9
  cases h9
theorem ex_mails {L : List PM} {u f : ByteArray} {S : SM} {g : FM} (h : storeB L = true) (hus : (47 : UInt8) ∉ u.data.toList) (hS : takeAll (nextM L) u S0 L = some S) (hl : lookF f S.fs = some g) : (g.mails.map (mailP u f)).filter (exP u f g.mails) = (keepM g.mails).map (mailP u f) := by
  rw [List.filter_map]
  congr 1
  refine List.filter_congr fun m hm => ?_
  show exP u f g.mails (mailP u f m) = !delB m
  have hfit := (store_fit h hS g (lookF_mem hl).1).2.2.2.2.2
  cases hd : delB m with
  | true =>
    unfold exP
    rw [Bool.eq_iff_iff]
    constructor
    · intro h9
      rw [List.all_eq_true] at h9
      exact absurd rfl (of_decide_eq_true (h9 m (List.mem_filter.2 ⟨hm, hd⟩)))
    · intro h9; cases h9
  | false =>
    unfold exP
    show _ = true
    rw [List.all_eq_true]
    intro m' hm'
    obtain ⟨k1, k2⟩ := List.mem_filter.1 hm'
    refine decide_eq_true fun e => ?_
    have p1 := mail_pair h hus hS hl hm
    have p2 := mail_pair h hus hS hl k1
    have e2 : mailK u f m.1 = mailK u f m'.1 := e
    rw [e2] at p1
    have e3 := key_one (store_facts h).1.2.2 p1 p2
    have q1 := (mailV_parts (hfit m hm).2.2.1 (hfit m hm).2.2.2.1).2
    have q2 := (mailV_parts (hfit m' k1).2.2.1 (hfit m' k1).2.2.2.1).2
    rw [e3, q2] at q1
    unfold delB at hd k2
    rw [q1] at k2
    rw [k2] at hd
    cases hd
theorem ex_fits {L : List PM} {u f : ByteArray} {S : SM} {g : FM} (h : storeB L = true) (hus : (47 : UInt8) ∉ u.data.toList) (hfs : (47 : UInt8) ∉ f.data.toList) (hS : takeAll (nextM L) u S0 L = some S) (hw : S.word.toList ≠ []) (hl : lookF f S.fs = some g) :
    UpL (exY L u f) ∧ (deskP (nextM L) u (exS S g)).Perm (exY L u f) ∧ (exY L u f).length ≤ 60 ∧ (∀ x ∈ (exS S g).fs, FitF x) ∧ rnF L u f = g := by
  have hg := (store_facts h).1
  have hr := rnF_is hS hl
  obtain ⟨hgm, hgn⟩ := lookF_mem hl
  have hnd := names_all (S := S0) List.nodup_nil hS
  have hy : exY L u f = L.filter (exP u f g.mails) := by
    unfold exY exTo
    rw [hr, List.take_of_length_le (Nat.le_refl _)]
  rw [hy]
  refine ⟨hg.2.2.sublist List.filter_sublist, ?_, Nat.le_trans (List.length_filter_le _ _) hg.1, fun x hx => ?_, hr⟩
  · refine List.Perm.symm ?_
    refine ((desk_list h hus hS hw).filter _).trans ?_
    rw [List.filter_cons_of_pos (ex_pass (pass_not (pass_v u f _))), List.filter_cons_of_pos (ex_pass (pass_not (pass_u u f _))), List.filter_append]
    have e3 : (notK vK S.aside).filter (exP u f g.mails) = notK vK S.aside := by
      rw [List.filter_eq_self]
      exact fun p hp => ex_pass (pass_not (aside_pass h hus hfs hS hp))
    rw [e3]
    unfold deskP
    refine List.Perm.cons _ (List.Perm.cons _ (List.Perm.append_left _ ?_))
    refine ((flat_perm (drop_perm hl)).filter _).trans ?_
    have hl2 : lookF (⟨g.name, g.val, g.next, keepM g.mails⟩ : FM).name S.fs = some g := by rw [show (⟨g.name, g.val, g.next, keepM g.mails⟩ : FM).name = f from hgn]; exact hl
    refine List.Perm.trans ?_ (flat_perm (put_perm hl2)).symm
    rw [flat_cons, flat_cons, List.filter_append]
    have e4 : (flatF u (dropF f S.fs)).filter (exP u f g.mails) = flatF u (dropF f S.fs) := by
      have h7 := rest_pass (u := u) (f := f) (fs := dropF f S.fs) hus hfs fun x hx => ⟨drop_names hnd x hx, word_slash (name_short h hus hS ((dropF_sub f S.fs).subset hx))⟩
      rw [List.filter_eq_self] at h7 ⊢
      exact fun p hp => ex_pass (pass_not (h7 p hp))
    have e5 : (fPairs u g).filter (exP u f g.mails) = fPairs u ⟨g.name, g.val, g.next, keepM g.mails⟩ := by
      unfold fPairs
      rw [hgn]
      have e6 : beginsB (folderK u f) (preK u f) = false := by
        cases hb : beginsB (folderK u f) (preK u f) with
        | false => rfl
        | true =>
          obtain ⟨r, hr⟩ := begins_pre.1 hb
          rw [folderK_data] at hr
          simp at hr
      rw [List.filter_cons_of_pos (ex_pass e6), ex_mails h hus hS hl]
    rw [e4, e5, show (⟨g.name, g.val, g.next, keepM g.mails⟩ : FM).name = f from hgn]
  · rcases putF_mem hx with hx | rfl
    · exact store_fit h hS x hx
    · obtain ⟨e1, e2, e3, e4, e5, e6⟩ := store_fit h hS g hgm
      exact ⟨e1, e2, e3, e4, e5, fun m hm => e6 m (List.mem_filter.1 hm).1⟩
end Go.Proofs.YtddnecljdecamaaGreatDoor
namespace Go.Proofs.YtddnecljdecamaaGreatDoor
open Go.ChangeShapes Go.WideShapes Go.ChangeAt Go.RowKit Go.Deep Go.Lib
set_option linter.unusedVariables false
set_option linter.unusedSimpArgs false
set_option maxRecDepth 100000

/-- A right desk behind an operation. -/
structure StepS (P : ByteArray → Prop) (nx nx' : Int) (u : ByteArray) (S S' : SM) : Prop where
  aside : S'.aside = S.aside
  word : S'.word = S.word
  nd : (S'.fs.map (·.name)).Nodup
  n0 : nx ≤ nx'
  n1 : nx' ≤ nx + 1
  fit : FitS nx' u S'
  nxt : ∀ k : Int, (∀ g ∈ S.fs, g.next ≤ k) → 1 ≤ k → ∀ g ∈ S'.fs, g.next ≤ k + 1
  nm : ∀ g ∈ S'.fs, P g.name ∨ ∃ h ∈ S.fs, h.name = g.name
theorem nm_put {P : ByteArray → Prop} {g : FM} {fs gs : List FM} (hs : ∀ f ∈ fs, f ∈ gs) (hg : P g.name ∨ ∃ h ∈ gs, h.name = g.name) : ∀ f ∈ putF g fs, P f.name ∨ ∃ h ∈ gs, h.name = f.name := fun f hf => by
  rcases putF_mem hf with h | rfl
  · exact .inr ⟨f, hs f h, rfl⟩
  · exact hg
theorem fit_put {nx nx' : Int} {u : ByteArray} {S : SM} {g : FM} {fs : List FM} (hF : FitS nx u S) (hn : nx ≤ nx') (hs : ∀ f ∈ fs, f ∈ S.fs) (hib : (lookF inboxT fs).isSome = true ∨ g.name = inboxT) (hg : GoodF nx' g) (h6 : sumF (putF g fs) ≤ 6) : FitS nx' u ⟨S.aside, S.word, putF g fs⟩ := by
  refine ⟨hF.us, hF.ws, ?_, h6, fun f hf => ?_⟩
  · show (lookF inboxT (putF g fs)).isSome = true
    rw [lookF_put]
    split
    · rfl
    · rename_i h9
      exact hib.resolve_right h9
  · rcases putF_mem hf with h | rfl
    · exact goodF_mono hn (hF.fs f (hs f h))
    · exact hg
theorem nxt_put {g : FM} {fs gs : List FM} (hs : ∀ f ∈ fs, f ∈ gs) (hg : ∀ k : Int, (∀ g ∈ gs, g.next ≤ k) → 1 ≤ k → g.next ≤ k + 1) : ∀ k : Int, (∀ g ∈ gs, g.next ≤ k) → 1 ≤ k → ∀ f ∈ putF g fs, f.next ≤ k + 1 := fun k h0 h1 f hf => by
  rcases putF_mem hf with h | rfl
  · have := h0 f (hs f h)
    omega
  · exact hg k h0 h1
theorem sum_dropF {n : ByteArray} {g : FM} : ∀ {fs : List FM}, lookF n fs = some g → sumF (dropF n fs) + g.mails.length = sumF fs
  | [], h => by cases h
  | f :: fs, h => by
    unfold lookF at h
    unfold dropF
    by_cases e : f.name = n
    · rw [if_pos e] at h
      cases h
      rw [if_pos e]
      show sumF fs + g.mails.length = g.mails.length + sumF fs
      omega
    · rw [if_neg e] at h
      rw [if_neg e]
      show f.mails.length + sumF (dropF n fs) + g.mails.length = f.mails.length + sumF fs
      have := sum_dropF h
      omega
theorem look_dropK {n m : ByteArray} (hn : n ≠ m) : ∀ fs : List FM, lookF n (dropF m fs) = lookF n fs
  | [] => rfl
  | f :: fs => by
    unfold dropF
    by_cases e : f.name = m
    · rw [if_pos e]
      show lookF n fs = if f.name = n then some f else lookF n fs
      rw [if_neg (fun e9 => hn (by rw [← e9, e]))]
    · rw [if_neg e]
      show (if f.name = n then some f else lookF n (dropF m fs)) = if f.name = n then some f else lookF n fs
      rw [look_dropK hn fs]
theorem step_mk {P : ByteArray → Prop} {nx nx' : Int} {u f : ByteArray} {S S' : SM} (n1 : 1 ≤ nx) (hF : FitS nx u S) (hnd : (S.fs.map (·.name)).Nodup) (hsf : shortB f = true) (hp : P f) (hQ : mkM nx S f = (0, nx', S')) : StepS P nx nx' u S S' := by
  unfold mkM at hQ
  split at hQ
  · cases hQ
  split at hQ
  · cases hQ
  rename_i h9
  have hl : lookF f S.fs = none := by
    cases hv : lookF f S.fs with
    | none => rfl
    | some g => rw [hv] at h9; exact absurd rfl h9
  split at hQ
  · cases hQ
  cases hQ
  have h6 := sum_fresh (g := ⟨f, nx, 1, []⟩) (fs := S.fs) hl
  have s6 := hF.sm
  exact ⟨rfl, rfl, putF_names hnd, by omega, by omega, fit_put hF (by omega) (fun _ h => h) (.inl hF.ib) ⟨hsf, by show (1 : Int) ≤ nx; omega, by show nx ≤ 9999; omega, by show nx < nx + 1; omega, by show (1 : Int) ≤ 1; omega, by show (1 : Int) ≤ 999; omega, fun m hm => by cases hm⟩ (by rw [h6]; show sumF S.fs + 0 ≤ 6; omega), nxt_put (fun _ h => h) (fun k _ h1 => by show (1 : Int) ≤ k + 1; omega), nm_put (fun _ h => h) (.inl hp)⟩
theorem step_drop {P : ByteArray → Prop} {nx nx' : Int} {u f : ByteArray} {S S' : SM} (hF : FitS nx u S) (hnd : (S.fs.map (·.name)).Nodup) (hQ : dropM nx S f = (0, nx', S')) : StepS P nx nx' u S S' := by
  unfold dropM at hQ
  split at hQ
  · cases hQ
  split at hQ
  · cases hQ
  rename_i h9
  split at hQ
  · cases hQ
  rename_i hi
  obtain ⟨g, hg⟩ : ∃ g, lookF f S.fs = some g := by
    cases hv : lookF f S.fs with
    | none => rw [hv] at h9; exact absurd rfl h9
    | some g => exact ⟨g, rfl⟩
  cases hQ
  have h6 := sum_dropF hg
  have s6 := hF.sm
  have hsub := dropF_sub f S.fs
  refine ⟨rfl, rfl, hnd.sublist (hsub.map _), by omega, by omega, ⟨hF.us, hF.ws, ?_, by show sumF (dropF f S.fs) ≤ 6; omega, fun x hx => hF.fs x (hsub.subset hx)⟩, fun k h0 _ x hx => by have := h0 x (hsub.subset hx); omega, fun x hx => .inr ⟨x, hsub.subset hx, rfl⟩⟩
  show (lookF inboxT (dropF f S.fs)).isSome = true
  rw [look_dropK (fun e => hi e.symm)]
  exact hF.ib
theorem step_rn {P : ByteArray → Prop} {nx nx' : Int} {u f tf : ByteArray} {S S' : SM} (n1 : 1 ≤ nx) (hF : FitS nx u S) (hnd : (S.fs.map (·.name)).Nodup) (hst : shortB tf = true) (hp : P tf) (hQ : rnM nx S f tf = (0, nx', S')) : StepS P nx nx' u S S' := by
  unfold rnM at hQ
  split at hQ
  · cases hQ
  cases hg : lookF f S.fs with
  | none => rw [hg] at hQ; cases hQ
  | some g =>
    rw [hg, rnO_some] at hQ
    split at hQ
    · cases hQ
    rename_i hi
    split at hQ
    · cases hQ
    rename_i h9
    have hl : lookF tf S.fs = none := by
      cases hv : lookF tf S.fs with
      | none => rfl
      | some x => rw [hv] at h9; exact absurd rfl h9
    split at hQ
    · cases hQ
    cases hQ
    have h6 := sum_dropF hg
    have s6 := hF.sm
    have hsub := dropF_sub f S.fs
    have h7 := sum_fresh (g := ⟨tf, nx, g.next, g.mails⟩) (fs := dropF f S.fs) (look_drop hl)
    obtain ⟨g1, g2, g3, g4, g5, g6, g7⟩ := hF.fs g (lookF_mem hg).1
    exact ⟨rfl, rfl, putF_names (hnd.sublist (hsub.map _)), by omega, by omega, fit_put hF (by omega) (fun _ h => hsub.subset h) (.inl (by rw [look_dropK (fun e => hi e.symm)]; exact hF.ib)) ⟨hst, by show (1 : Int) ≤ nx; omega, by show nx ≤ 9999; omega, by show nx < nx + 1; omega, g5, g6, g7⟩ (by rw [h7]; show sumF (dropF f S.fs) + g.mails.length ≤ 6; omega), nxt_put (fun _ h => hsub.subset h) (fun k h0 h1 => by have := h0 g (lookF_mem hg).1; show g.next ≤ k + 1; omega), nm_put (fun _ h => hsub.subset h) (.inl hp)⟩
/-- A folder's mails are others. -/
theorem step_set {P : ByteArray → Prop} {nx : Int} {u f : ByteArray} {S : SM} {g : FM} {n2 : Int} {Ms : List MMl} (hF : FitS nx u S) (hnd : (S.fs.map (·.name)).Nodup) (hl : lookF f S.fs = some g) (h2 : g.next ≤ n2 ∧ n2 ≤ g.next + 1 ∧ n2 ≤ 999) (hM : ∀ m ∈ Ms, 1 ≤ m.1 ∧ m.1 < n2 ∧ 0 ≤ m.2.1 ∧ m.2.1 ≤ 3 ∧ m.2.2.size ≤ 85) (h6 : sumF S.fs + Ms.length ≤ 6 + g.mails.length) : StepS P nx nx u S ⟨S.aside, S.word, putF ⟨g.name, g.val, n2, Ms⟩ S.fs⟩ := by
  obtain ⟨k1, k2⟩ := lookF_mem hl
  obtain ⟨g1, g2, g3, g4, g5, g6, g7⟩ := hF.fs g k1
  have h7 := sum_old (g := ⟨g.name, g.val, n2, Ms⟩) (fs := S.fs) (f := g) (by show lookF g.name S.fs = some g; rw [k2]; exact hl)
  have h8 : sumF (putF ⟨g.name, g.val, n2, Ms⟩ S.fs) + g.mails.length = sumF S.fs + Ms.length := h7
  exact ⟨rfl, rfl, putF_names hnd, by omega, by omega, fit_put hF (by omega) (fun _ h => h) (.inl hF.ib) ⟨g1, g2, g3, g4, by show (1 : Int) ≤ n2; omega, h2.2.2, hM⟩ (by omega), nxt_put (fun _ h => h) (fun k h0 h1 => by have := h0 g k1; show n2 ≤ k + 1; omega), nm_put (fun _ h => h) (.inr ⟨g, k1, rfl⟩)⟩
theorem step_sf {P : ByteArray → Prop} {nx : Int} {u f : ByteArray} {un fl : Int} {S S' : SM} (hF : FitS nx u S) (hnd : (S.fs.map (·.name)).Nodup) (f0 : 0 ≤ fl) (f1 : fl ≤ 3) (hQ : SfIs S f un fl 0 S') : StepS P nx nx u S S' := by
  rcases hQ with ⟨h1, h2, _⟩ | ⟨_, g, hl, ⟨_, h2, _⟩ | ⟨j, hj, _, _, rfl⟩⟩
  · exact absurd h2.symm h1
  · cases h2
  · obtain ⟨g1, g2, g3, g4, g5, g6, g7⟩ := hF.fs g (lookF_mem hl).1
    have s6 := hF.sm
    have hjm := g7 _ (mem_getD' g.mails ml0 j hj)
    refine step_set hF hnd hl ⟨by omega, by omega, g6⟩ (fun m hm => ?_) (by rw [List.length_set]; omega)
    rcases List.mem_or_eq_of_mem_set hm with h | rfl
    · exact g7 m h
    · exact ⟨hjm.1, hjm.2.1, f0, f1, hjm.2.2.2.2⟩
theorem step_ex {P : ByteArray → Prop} {nx : Int} {u f : ByteArray} {S : SM} {g : FM} (hF : FitS nx u S) (hnd : (S.fs.map (·.name)).Nodup) (hl : lookF f S.fs = some g) : StepS P nx nx u S (exS S g) := by
  obtain ⟨g1, g2, g3, g4, g5, g6, g7⟩ := hF.fs g (lookF_mem hl).1
  have s6 := hF.sm
  have h9 : (keepM g.mails).length ≤ g.mails.length := List.length_filter_le _ _
  exact step_set hF hnd hl ⟨by omega, by omega, g6⟩ (fun m hm => g7 m ((List.mem_filter.1 hm).1)) (by omega)
theorem step_app {P : ByteArray → Prop} {nx : Int} {u f t : ByteArray} {fl : Int} {S S' : SM} {g : FM} (hF : FitS nx u S) (hnd : (S.fs.map (·.name)).Nodup) (f0 : 0 ≤ fl) (f1 : fl ≤ 3) (ht : t.size ≤ 85) (hl : lookF f S.fs = some g) (hQ : apM S g fl t = (0, S')) : StepS P nx nx u S S' := by
  unfold apM at hQ
  split at hQ
  · cases hQ
  split at hQ
  · cases hQ
  cases hQ
  obtain ⟨g1, g2, g3, g4, g5, g6, g7⟩ := hF.fs g (lookF_mem hl).1
  have s6 := hF.sm
  refine step_set hF hnd hl ⟨by omega, by omega, by omega⟩ (fun m hm => ?_) (by rw [List.length_append]; show sumF S.fs + (g.mails.length + 1) ≤ 6 + g.mails.length; omega)
  rcases List.mem_append.1 hm with h | h
  · have := g7 m h
    exact ⟨this.1, by omega, this.2.2⟩
  · rw [List.mem_singleton] at h
    subst h
    exact ⟨g5, by show g.next < g.next + 1; omega, f0, f1, ht⟩
def annT : ByteArray := ⟨#[97, 110, 110]⟩
def bobT : ByteArray := ⟨#[98, 111, 98]⟩
def workT : ByteArray := ⟨#[119, 111, 114, 107]⟩
def oldT : ByteArray := ⟨#[111, 108, 100]⟩
/-- The names of folders that are drawn. -/
def FoldN (f : ByteArray) : Prop := f = inboxT ∨ f = workT ∨ f = oldT
theorem fold_short {f : ByteArray} (h : FoldN f) : shortB f = true := by
  rcases h with rfl | rfl | rfl <;> kernel_rfl
/-- A drawn store, k steps behind the first one. -/
structure Drawn (k : Nat) (L : List PM) : Prop where
  st : storeB L = true
  nx : nextM L ≤ 3 + k
  us : ∀ v : ByteArray, (47 : UInt8) ∉ v.data.toList → ((getM L (userK v)).isSome = true ↔ v = annT ∨ v = bobT)
  fn : ∀ p ∈ L, ∀ v f, p.1 = folderK v f → ∀ y, metaV p.2 = some y → y.2 ≤ 1 + (k : Int)
  fo : ∀ p ∈ L, ∀ v f : ByteArray, (47 : UInt8) ∉ v.data.toList → (47 : UInt8) ∉ f.data.toList → p.1 = folderK v f → FoldN f
theorem Drawn.more {k : Nat} {L : List PM} (h : Drawn k L) : Drawn (k + 1) L :=
  ⟨h.st, by have := h.nx; omega, h.us, fun p hp v f e y hy => by have := h.fn p hp v f e y hy; omega, h.fo⟩
theorem lies_left {N Y : List PM} {nx : Int} {u : ByteArray} {S S' : SM} (h : storeB N = true) (hS : takeAll (nextM N) u S0 N = some S) (ha : S'.aside = S.aside) (hnd : (S'.fs.map (·.name)).Nodup) (hF : FitS nx u S') (up : UpL Y) (pm : (deskP nx u S').Perm Y) : Lies Y nx u S' := by
  have hus := word_slash hF.us
  exact ⟨up, pm.symm, hnd, fun g hg => word_slash (hF.fs g hg).1, fun f hf p hp => by
    rw [ha] at hp
    exact aside_pass h hus hf hS hp, fun p hp => by
    rw [ha] at hp
    obtain ⟨h1, h2⟩ := (aside_is hS p (notK_sub hp).2).1 hp
    rw [← mail_is h hus h1]
    exact away_owner h2⟩
theorem names_of {L : List PM} {u : ByteArray} {S : SM} (hS : takeAll (nextM L) u S0 L = some S) : (S.fs.map (·.name)).Nodup := names_all (S := S0) List.nodup_nil hS
theorem userK_inj {u v : ByteArray} (h : userK u = userK v) : u = v := by
  have h1 := congrArg (fun x : ByteArray => x.data.toList) h
  simp only [userK_data] at h1
  exact bs_inj (List.cons.inj (List.cons.inj h1).2).2
theorem drawn_step {k : Nat} {N Y : List PM} {u : ByteArray} {nx' : Int} {S S' : SM} (h : Drawn k N) (hS : takeAll (nextM N) u S0 N = some S) (hw : S.word.toList ≠ []) (hT : StepS FoldN (nextM N) nx' u S S') (h9 : nx' ≤ 10000) (up : UpL Y) (pm : (deskP nx' u S').Perm Y) (h6 : Y.length ≤ 60) : Drawn (k + 1) Y := by
  have hus := word_slash hT.fit.us
  obtain ⟨hgN, nx0, hnm, n1, n2, _⟩ := store_facts h.st
  rw [hnm] at n1
  have hst := store_left h.st hS hT.aside hT.nd hT.fit hT.n0 h9 up pm h6
  have hl := lies_left h.st hS hT.aside hT.nd hT.fit up pm
  have hnY : nextM Y = nx' := lies_next hl (by have := hT.n0; omega) h9
  have hmem : ∀ p, p ∈ Y → p = (vK, bs (itoa nx')) ∨ p = (userK u, S'.word) ∨ (p ∈ N ∧ p.1 ≠ vK ∧ ownerM p ≠ some u) ∨ ∃ g ∈ S'.fs, p ∈ fPairs u g := fun p hp => by
    rw [← pm.mem_iff] at hp
    unfold deskP at hp
    rw [List.mem_cons, List.mem_cons, List.mem_append] at hp
    rcases hp with hp | hp | hp | hp
    · exact .inl hp
    · exact .inr (.inl hp)
    · rw [hT.aside] at hp
      obtain ⟨j1, j2⟩ := (aside_is hS p (notK_sub hp).2).1 hp
      exact .inr (.inr (.inl ⟨j1, (notK_sub hp).2, j2⟩))
    · exact .inr (.inr (.inr (flat_mem hp)))
  have hback : ∀ p : PM, p ∈ N → p.1 ≠ vK → ownerM p ≠ some u → p ∈ Y := fun p hp hk ho => by
    rw [← pm.mem_iff]
    unfold deskP
    refine List.mem_cons_of_mem _ (List.mem_cons_of_mem _ (List.mem_append_left _ ?_))
    rw [hT.aside]
    exact (aside_is hS p hk).2 ⟨hp, ho⟩
  have hfp : ∀ g ∈ S'.fs, ∀ p ∈ fPairs u g, p = (folderK u g.name, metaT g.val g.next) ∨ ∃ m ∈ g.mails, p = mailP u g.name m := fun g hg p hp => by
    unfold fPairs at hp
    rcases List.mem_cons.1 hp with h | h
    · exact .inl h
    · obtain ⟨m, hm, e⟩ := List.mem_map.1 h
      exact .inr ⟨m, hm, e.symm⟩
  have hsome : (getM N (userK u)).isSome = true := by
    cases hv : getM N (userK u) with
    | some v => rfl
    | none => exact absurd ((word_iff h.st hus hS).1.2 hv) hw
  refine ⟨hst, by rw [hnY]; have := hT.n1; have := h.nx; omega, fun v hv => ?_, fun p hp v f e y hy => ?_, fun p hp v f hv hf e => ?_⟩
  · by_cases e : v = u
    · subst e
      have h8 : (userK v, S'.word) ∈ Y := by
        rw [← pm.mem_iff]
        unfold deskP
        exact List.mem_cons_of_mem _ List.mem_cons_self
      rw [(getM_mem up).2 h8]
      exact ⟨fun _ => (h.us v hv).1 hsome, fun _ => rfl⟩
    · rw [← h.us v hv]
      have hx : ∀ x, (userK v, x) ∈ Y ↔ (userK v, x) ∈ N := fun x => by
        constructor
        · intro hp
          rcases hmem _ hp with h8 | h8 | h8 | ⟨g, hg, h8⟩
          · exact absurd (congrArg Prod.fst h8) (user_nv v)
          · exact absurd (userK_inj (congrArg Prod.fst h8)) e
          · exact h8.1
          · rcases hfp g hg _ h8 with h7 | ⟨m, _, h7⟩
            · have h6 := congrArg (fun x : PM => x.1.data.toList) h7
              simp only [userK_data, folderK_data] at h6
              cases h6
            · have h6 := congrArg (fun x : PM => x.1.data.toList) h7
              unfold mailP at h6
              simp only [userK_data, mailK_data'] at h6
              cases h6
        · intro hp
          exact hback _ hp (user_nv v) (by rw [owner_user hv]; exact fun h8 => e (Option.some.inj h8))
      have hg : getM Y (userK v) = getM N (userK v) := by
        apply Option.ext
        intro x
        rw [getM_mem up, getM_mem hgN.2.2]
        exact hx x
      rw [hg]
  · rcases hmem p hp with h8 | h8 | h8 | ⟨g, hg, h8⟩
    · rw [h8] at e
      exact absurd e.symm (folder_nv v f)
    · rw [h8] at e
      have h6 := congrArg (fun x : ByteArray => x.data.toList) e
      simp only [userK_data, folderK_data] at h6
      cases h6
    · have := h.fn p h8.1 v f e y hy
      omega
    · rcases hfp g hg p h8 with rfl | ⟨m, _, rfl⟩
      · obtain ⟨g1, g2, g3, g4, g5, g6, g7⟩ := hT.fit.fs g hg
        have hy2 : metaV (metaT g.val g.next) = some y := hy
        rw [meta_is ⟨g2, g3, g5, g6⟩] at hy2
        cases hy2
        have := hT.nxt (1 + (k : Int)) (fun x hx => ?_) (by omega) g hg
        · show g.next ≤ 1 + ((k + 1 : Nat) : Int)
          omega
        · obtain ⟨w, k1, k2⟩ := (meta_iff hgN.2.2).1 (look_meta h.st hS (look_self (names_of hS) hx))
          exact h.fn _ k1 u x.name rfl _ k2
      · unfold mailP at e
        have h6 := congrArg (fun x : ByteArray => x.data.toList) e
        simp only [mailK_data', folderK_data] at h6
        cases h6
  · rcases hmem p hp with h8 | h8 | h8 | ⟨g, hg, h8⟩
    · rw [h8] at e
      exact absurd e.symm (folder_nv v f)
    · rw [h8] at e
      have h6 := congrArg (fun x : ByteArray => x.data.toList) e
      simp only [userK_data, folderK_data] at h6
      cases h6
    · exact h.fo p h8.1 v f hv hf e
    · rcases hfp g hg p h8 with rfl | ⟨m, _, rfl⟩
      · have h6 := congrArg (fun x : ByteArray => x.data.toList) (show folderK u g.name = folderK v f from e)
        simp only [folderK_data] at h6
        have hn := seg_inj hus hv (List.cons.inj (List.cons.inj h6).2).2
        obtain rfl : g.name = f := bs_inj hn.2
        rcases hT.nm g hg with h5 | ⟨x, hx, hxn⟩
        · exact h5
        · obtain ⟨w, k1, k2⟩ := (meta_iff hgN.2.2).1 (look_meta h.st hS (look_self (names_of hS) hx))
          rw [← hxn]
          exact h.fo _ k1 u x.name hus (by rw [hxn]; exact hf) rfl
      · unfold mailP at e
        have h6 := congrArg (fun x : ByteArray => x.data.toList) e
        simp only [mailK_data', folderK_data] at h6
        cases h6
end Go.Proofs.YtddnecljdecamaaGreatDoor
