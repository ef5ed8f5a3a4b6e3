/-
  Fom Sfl Sfs in one. By an AI agent.
-/
import Derived.Test.YtddnecljdecamaaGreatDoorQ29
namespace Go.Proofs.YtddnecljdecamaaGreatDoor
open Go.ChangeShapes Go.WideShapes Go.ChangeAt Go.RowKit Go.Deep Go.Lib
set_option linter.unusedVariables false
set_option linter.unusedSimpArgs false
set_option maxRecDepth 100000

/-- A folder's mails lie in the list in their order. -/
def SubF (u : ByteArray) (P : List PM) (g : FM) : Prop := (g.mails.map (mailP u g.name)).Sublist P
theorem sub_take {nx : Int} {u : ByteArray} {P : List PM} {S S' : SM} {q : PM} (hnx : nx ≤ 10000) (hS : ∀ g ∈ S.fs, SubF u P g) (h : takeM nx u S q = some S') : ∀ g ∈ S'.fs, SubF u (P ++ [q]) g := by
  have hold : ∀ g ∈ S.fs, SubF u (P ++ [q]) g := fun g hg => (hS g hg).trans (List.sublist_append_left P [q])
  have hput : ∀ {o : Option FM}, putM S o = some S' → (∀ g, o = some g → SubF u (P ++ [q]) g) → ∀ g ∈ S'.fs, SubF u (P ++ [q]) g := fun {o} h9 hg => by
    unfold putM at h9
    obtain ⟨g, rfl, rfl⟩ := Option.map_eq_some_iff.1 h9
    intro f hf
    rcases putF_mem hf with hf | rfl
    · exact hold f hf
    · exact hg _ rfl
  have haside : asideM S q = some S' → ∀ g ∈ S'.fs, SubF u (P ++ [q]) g := fun h9 => by cases h9; exact hold
  unfold takeM takeP at h
  split at h
  · split at h
    · unfold userM at h
      obtain ⟨_, rfl⟩ := ite_some h
      exact hold
    · exact haside h
  · rename_i a b c hG
    split at h
    · rename_i hc
      refine hput h fun g hg => ?_
      have hgf := (folder_meta hnx).1 hg
      have hgm : g.mails = [] := by rw [hgf.2.2.2]
      unfold SubF
      rw [hgm]
      exact List.nil_sublist _
    · exact haside h
  · rename_i a b c d hG
    split at h
    · rename_i hc
      refine hput h fun g hg => ?_
      unfold mailM at hg
      obtain ⟨f', hl, hg2⟩ := Option.bind_eq_some_iff.1 hg
      obtain ⟨un, m1, m2, m3, m4, m5, m6, m7, m8, hgm⟩ := mailO_some hg2
      have hfn := (lookF_mem hl).2
      have hG2 : splitL 47 q.1.data.toList = [[109], b, c, d] := by rw [hG, hc.2]
      obtain ⟨hk, hnb, hnc⟩ := key_mail hG2
      have hub : u.data.toList = b := by rw [← hc.1]; simp [bs]
      have hpp : fPairs u g = fPairs u f' ++ [q] := by
        rw [hgm]
        refine mail_pairs m1 m2 m3 m5 m6 ?_
        rw [hk, hub, hfn]
        simp [bs]
      have hgn : g.name = f'.name := by rw [hgm]; rfl
      have e : g.mails.map (mailP u g.name) = f'.mails.map (mailP u f'.name) ++ [q] := by
        unfold fPairs at hpp
        rw [List.cons_append] at hpp
        exact (List.cons.inj hpp).2
      unfold SubF
      rw [e]
      exact (hS f' (lookF_mem hl).1).append_right [q]
    · exact haside h
  · exact haside h
theorem sub_all {nx : Int} {u : ByteArray} (hnx : nx ≤ 10000) : ∀ {R P : List PM} {S S' : SM}, (∀ g ∈ S.fs, SubF u P g) → takeAll nx u S R = some S' → ∀ g ∈ S'.fs, SubF u (P ++ R) g
  | [], P, S, S', hS, h => by cases h; rw [List.append_nil]; exact hS
  | q :: R, P, S, S', hS, h => by
    unfold takeAll at h
    obtain ⟨S1, h1, h2⟩ := Option.bind_eq_some_iff.1 h
    have h3 := sub_all hnx (P := P ++ [q]) (sub_take hnx hS h1) h2
    rw [List.append_assoc] at h3
    exact h3
theorem store_sub {L : List PM} {u : ByteArray} {S : SM} (h : storeB L = true) (hS : takeAll (nextM L) u S0 L = some S) : ∀ g ∈ S.fs, SubF u L g := by
  obtain ⟨hg, nx0, hnm, n1, n2, _, _, _⟩ := store_facts h
  exact sub_all (P := []) (by omega) (fun f hf => by cases hf) hS
theorem pass_not {u f : ByteArray} {p : PM} (h : passB u f p = true) : beginsB p.1 (preK u f) = false := by
  unfold passB at h
  rw [Bool.and_eq_true] at h
  simpa using h.2
theorem fol_mails {L : List PM} {u f : ByteArray} {S : SM} {g : FM} (h : storeB L = true) (hus : (47 : UInt8) ∉ u.data.toList) (hfs : (47 : UInt8) ∉ f.data.toList) (hS : takeAll (nextM L) u S0 L = some S) (hw : S.word.toList ≠ []) (hl : lookF f S.fs = some g) : (L.filter fun x => beginsB x.1 (preK u f)) = g.mails.map (mailP u f) := by
  obtain ⟨hg, nx0, hnm, n1, n2, _, _, _⟩ := store_facts h
  obtain ⟨hgm, hgn⟩ := lookF_mem hl
  have hnd := names_all (S := S0) List.nodup_nil hS
  have hsub := store_sub h hS g hgm
  unfold SubF at hsub
  rw [hgn] at hsub
  refine up_perm (hg.2.2.sublist List.filter_sublist) (hg.2.2.sublist hsub) ?_
  refine ((desk_list h hus hS hw).filter _).trans ?_
  have e1 : beginsB vK (preK u f) = false := by
    cases hb : beginsB vK (preK u f) with
    | false => rfl
    | true =>
      obtain ⟨r, hr⟩ := begins_pre.1 hb
      simp at hr
  have e2 : beginsB (userK u) (preK u f) = false := by
    cases hb : beginsB (userK u) (preK u f) with
    | false => rfl
    | true =>
      obtain ⟨r, hr⟩ := begins_pre.1 hb
      simp [ByteArray.data_append] at hr
  rw [List.filter_cons_of_neg (by simp [e1]), List.filter_cons_of_neg (by simp [e2]), List.filter_append]
  have e3 : ((notK vK S.aside).filter fun x => beginsB x.1 (preK u f)) = [] := by
    rw [List.filter_eq_nil_iff]
    intro p hp
    rw [pass_not (aside_pass h hus hfs hS hp)]
    simp
  rw [e3, List.nil_append]
  refine ((flat_perm (drop_perm hl)).filter _).trans ?_
  have hrest := rest_pass (u := u) (f := f) (fs := dropF f S.fs) hus hfs fun x hx => ⟨drop_names hnd x hx, word_slash (name_short h hus hS ((dropF_sub f S.fs).subset hx))⟩
  rw [List.filter_eq_self] at hrest
  have e4 : ((flatF u (dropF f S.fs)).filter fun x => beginsB x.1 (preK u f)) = [] := by
    rw [List.filter_eq_nil_iff]
    intro p hp
    rw [pass_not (hrest p hp)]
    simp
  rw [flat_cons, List.filter_append, e4, List.append_nil]
  unfold fPairs
  have e5 : beginsB (folderK u g.name) (preK u f) = false := by
    cases hb : beginsB (folderK u g.name) (preK u f) with
    | false => rfl
    | true =>
      obtain ⟨r, hr⟩ := begins_pre.1 hb
      rw [folderK_data] at hr
      simp at hr
  rw [List.filter_cons_of_neg (by simp [e5]), hgn]
  have e6 : ((g.mails.map (mailP u f)).filter fun x => beginsB x.1 (preK u f)) = g.mails.map (mailP u f) := by
    rw [List.filter_eq_self]
    intro p hp
    obtain ⟨m, _, rfl⟩ := List.mem_map.1 hp
    exact begins_pre.2 ⟨d3 m.1.toNat, by simp [mailP, bs]⟩
  rw [e6]
end Go.Proofs.YtddnecljdecamaaGreatDoor
namespace Go.Proofs.YtddnecljdecamaaGreatDoor
open Go.ChangeShapes Go.WideShapes Go.ChangeAt Go.RowKit Go.Deep Go.Lib
set_option linter.unusedVariables false
set_option linter.unusedSimpArgs false
set_option maxRecDepth 100000

def setM (S : SM) (g : FM) (Ms : List MMl) : SM := ⟨S.aside, S.word, putF ⟨g.name, g.val, g.next, Ms⟩ S.fs⟩
/-- What the flags' setting does. -/
def SfIs (S : SM) (f : ByteArray) (un fl q : Int) (S' : SM) : Prop :=
  (lackM S.word S.fs [f] ≠ 0 ∧ q = lackM S.word S.fs [f] ∧ S' = S) ∨ (lackM S.word S.fs [f] = 0 ∧ ∃ g, lookF f S.fs = some g ∧ (((∀ m ∈ g.mails, m.1 ≠ un) ∧ q = 5 ∧ S' = S) ∨ ∃ j, j < g.mails.length ∧ (g.mails.getD j ml0).1 = un ∧ q = 0 ∧ S' = setM S g (g.mails.set j ((g.mails.getD j ml0).1, fl, (g.mails.getD j ml0).2.2))))
theorem lack_zero {S : SM} {f : ByteArray} (h : lackM S.word S.fs [f] = 0) : ∃ g, lookF f S.fs = some g := by
  unfold lackM at h
  split at h
  · cases h
  · split at h
    · cases h
    · rename_i hb
      refine Option.isSome_iff_exists.1 ?_
      cases h9 : (lookF f S.fs).isSome with
      | true => rfl
      | false => exact absurd (by show ((lookF f S.fs).isSome && true) = false; rw [h9]; rfl) hb
end Go.Proofs.YtddnecljdecamaaGreatDoor
namespace Go.Proofs.YtddnecljdecamaaGreatDoor
open Go.ChangeShapes Go.WideShapes Go.ChangeAt Go.RowKit Go.Deep Go.Lib
set_option linter.unusedVariables false
set_option linter.unusedSimpArgs false
set_option maxRecDepth 100000

def flT (L : List PM) (u f : ByteArray) (un fl : Int) : List PM × Int :=
  if (decide (1 ≤ un) && decide (un ≤ 999)) = false then (L, 5) else match getM L (mailK u f un) with
    | none => (L, 5)
    | some v => (insL (mailK u f un) (bs (itoa fl) ++ v.extract 1 v.size) L, 0)
def flR (L : List PM) (u f : ByteArray) (un fl : Int) : List PM × Int := if knownR L u f ≠ 0 then (L, knownR L u f) else flT L u f un fl
theorem swap_ins {L D : List PM} {k v v' : ByteArray} (hu : UpL L) (hp : L.Perm ((k, v) :: D)) : (insL k v' L).Perm ((k, v') :: D) := by
  refine (ins_perm hu).trans (List.Perm.cons _ ?_)
  have hnd : (L.map (·.1)).Nodup := by
    have h1 : L.Pairwise fun x y => x.1 ≠ y.1 := hu.imp fun h e => by rw [e] at h; exact ltK_irrefl _ h
    rw [List.Nodup, List.pairwise_map]
    exact h1
  have h2 : (((k, v) :: D).map (·.1)).Nodup := (hp.map _).nodup_iff.1 hnd
  rw [List.map_cons, List.nodup_cons] at h2
  refine (notK_perm hp).trans ?_
  rw [notK_skip k (k, v) D rfl, notK_self fun x hx e => h2.1 (List.mem_map.2 ⟨x, hx, e⟩)]
theorem pull_perm (v w F x : PM) (A a b r : List PM) : (v :: w :: (A ++ ((F :: (a ++ x :: b)) ++ r))).Perm (x :: (v :: w :: (A ++ ((F :: (a ++ b)) ++ r)))) := by
  have p1 : (A ++ ((F :: (a ++ x :: b)) ++ r)).Perm (x :: (A ++ ((F :: (a ++ b)) ++ r))) := by
    have p2 : ((F :: (a ++ x :: b)) ++ r).Perm (x :: ((F :: (a ++ b)) ++ r)) := by
      have p3 : (F :: (a ++ x :: b)).Perm (x :: F :: (a ++ b)) := (List.Perm.cons F List.perm_middle).trans (List.Perm.swap _ _ _)
      exact List.Perm.append_right r p3
    exact (List.Perm.append_left A p2).trans List.perm_middle
  exact (List.Perm.cons v (List.Perm.cons w p1)).trans ((List.Perm.cons v (List.Perm.swap _ _ _)).trans (List.Perm.swap _ _ _))
theorem set_split {α : Type} (d : α) : ∀ (L : List α) (j : Nat) (y : α), j < L.length → ∃ A B, L = A ++ L.getD j d :: B ∧ L.set j y = A ++ y :: B
  | [], j, _, h => by cases h
  | x :: L, 0, y, _ => ⟨[], L, rfl, rfl⟩
  | x :: L, j + 1, y, h => by
    obtain ⟨A, B, h1, h2⟩ := set_split d L j y (by simpa using h)
    refine ⟨x :: A, B, ?_, ?_⟩
    · show x :: L = x :: (A ++ L.getD j d :: B)
      rw [← h1]
    · show x :: L.set j y = x :: (A ++ y :: B)
      rw [h2]
theorem sf_fits {L : List PM} {u f : ByteArray} {un fl : Int} {S S' : SM} {q : Int} (h : storeB L = true) (hsu : shortB u = true) (hsf : shortB f = true) (f0 : 0 ≤ fl) (f1 : fl ≤ 3) (hS : takeAll (nextM L) u S0 L = some S) (hQ : SfIs S f un fl q S') : OpFits L u q (nextM L) S' (flR L u f un fl) := by
  have hus := word_slash hsu
  have hfs := word_slash hsf
  obtain ⟨hg, nx0, hnm, n1, n2, _, _, _⟩ := store_facts h
  rw [hnm] at n1 n2
  have hlk := lack_known h hus hfs hS
  unfold flR
  rcases hQ with ⟨k1, rfl, rfl⟩ | ⟨k1, g, hl, ⟨hno, rfl, rfl⟩ | ⟨j, hj, hju, rfl, rfl⟩⟩
  · rw [hlk] at k1 ⊢
    rw [if_pos k1]
    exact ⟨fun _ => rfl, fun h9 => absurd h9 k1⟩
  · rw [hlk] at k1
    rw [if_neg (by simp [k1])]
    refine ⟨fun _ => ?_, fun h9 => by cases h9⟩
    unfold flT
    by_cases hr : (decide (1 ≤ un) && decide (un ≤ 999)) = false
    · rw [if_pos hr]
    · rw [if_neg hr]
      have hcp := cp_miss (tf := f) h hus hfs hS hl hno
      unfold cpT at hcp
      rw [if_neg hr] at hcp
      cases hv : getM L (mailK u f un) with
      | none => rfl
      | some v =>
        exfalso
        have hr2 : 1 ≤ un ∧ un ≤ 999 := by
          by_cases e : 1 ≤ un ∧ un ≤ 999
          · exact e
          · exact absurd (by
              by_cases e1 : 1 ≤ un
              · have e2 : ¬ un ≤ 999 := fun h9 => e ⟨e1, h9⟩
                rw [decide_eq_false e2]; simp
              · rw [decide_eq_false e1]; rfl) hr
        have hp := (getM_mem hg.2.2).1 hv
        have hp2 : (mailK u f ((un.toNat : Nat) : Int), v) ∈ L := by rw [show ((un.toNat : Nat) : Int) = un by omega]; exact hp
        obtain ⟨m, m1, m2, _⟩ := mail_there h hus hfs hS hl (by omega) hp2
        exact hno m m1 (by omega)
  · rw [hlk] at k1
    rw [if_neg (by simp [k1])]
    obtain ⟨hw, _⟩ := known_zero h hus hfs hS k1
    obtain ⟨hgm, hgn⟩ := lookF_mem hl
    obtain ⟨m, hmd⟩ : ∃ m, g.mails.getD j ml0 = m := ⟨_, rfl⟩
    rw [hmd] at hju ⊢
    have hmm : m ∈ g.mails := by rw [← hmd]; exact mem_getD' _ _ _ hj
    obtain ⟨e1, e2, e3, e4, e5⟩ := (store_fit h hS g hgm).2.2.2.2.2 m hmm
    have hp := mail_pair h hus hS hl hmm
    have hp2 : (mailK u f ((m.1.toNat : Nat) : Int), mailV m) ∈ L := by rw [show ((m.1.toNat : Nat) : Int) = m.1 by omega]; exact hp
    obtain ⟨_, _, _, _, hpos⟩ := mail_val h hus hfs (hasU h hus hS hw) (by omega) hp2
    obtain ⟨A, B, hA, hB⟩ := set_split ml0 g.mails j (m.1, fl, m.2.2) hj
    rw [hmd] at hA
    have hflT : flT L u f un fl = (insL (mailK u f un) (mailV (m.1, fl, m.2.2)) L, 0) := by
      unfold flT
      rw [if_neg (by rw [← hju, decide_eq_true (by omega), decide_eq_true (by omega)]; decide), ← hju, (getM_mem hg.2.2).2 hp]
      show (insL (mailK u f m.1) (bs (itoa fl) ++ (mailV m).extract 1 (mailV m).size) L, (0 : Int)) = _
      rw [(mailV_parts e3 e4).1]
      rfl
    rw [hflT, hB]
    have hdl := desk_list h hus hS hw
    have hfp : ∀ m' : MMl, fPairs u ⟨g.name, g.val, g.next, A ++ m' :: B⟩ = (folderK u f, metaT g.val g.next) :: (A.map (mailP u f) ++ (mailP u f m') :: B.map (mailP u f)) := fun m' => by
      unfold fPairs
      dsimp only
      rw [hgn, List.map_append]
      rfl
    have hgg : g = ⟨g.name, g.val, g.next, A ++ m :: B⟩ := by
      cases g
      dsimp only at hA ⊢
      rw [← hA]
    have hfl1 : (flatF u S.fs).Perm (fPairs u g ++ flatF u (dropF f S.fs)) := by
      have h9 := flat_perm (u := u) (drop_perm hl)
      rw [flat_cons] at h9
      exact h9
    rw [hgg, hfp] at hfl1
    have hLD : L.Perm ((mailK u f un, mailV m) :: ((vK, bs (itoa (nextM L))) :: (userK u, S.word) :: (notK vK S.aside ++ (((folderK u f, metaT g.val g.next) :: (A.map (mailP u f) ++ B.map (mailP u f))) ++ flatF u (dropF f S.fs))))) := by
      refine hdl.trans ?_
      refine (List.Perm.cons _ (List.Perm.cons _ (List.Perm.append_left _ hfl1))).trans ?_
      rw [← hju]
      exact pull_perm _ _ _ _ _ _ _ _
    have hY := swap_ins (v' := mailV (m.1, fl, m.2.2)) hg.2.2 hLD
    have hlen : (insL (mailK u f un) (mailV (m.1, fl, m.2.2)) L).length ≤ 60 := by
      have h8 := hLD.length_eq
      have h7 := hg.1
      rw [hY.length_eq]
      simp only [List.length_cons] at h8 ⊢
      omega
    refine ⟨fun h9 => absurd rfl h9, fun _ => ⟨by omega, n2, fun z hz => ?_, insL (mailK u f un) (mailV (m.1, fl, m.2.2)) L, ins_up hg.2.2, ?_, by omega, ?_⟩⟩
    · rcases putF_mem (show z ∈ putF ⟨g.name, g.val, g.next, A ++ (m.1, fl, m.2.2) :: B⟩ S.fs from hz) with hz | rfl
      · exact store_fit h hS z hz
      · obtain ⟨t1, t2, t3, t4, t5, t6⟩ := store_fit h hS g hgm
        refine ⟨t1, t2, t3, t4, t5, fun z hz => ?_⟩
        rw [hA] at t6
        rcases List.mem_append.1 (show z ∈ A ++ (m.1, fl, m.2.2) :: B from hz) with hz | hz
        · exact t6 z (List.mem_append_left _ hz)
        · rcases List.mem_cons.1 hz with rfl | hz
          · exact ⟨e1, e2, f0, f1, e5⟩
          · exact t6 z (List.mem_append_right _ (List.mem_cons_of_mem _ hz))
    · refine List.Perm.trans ?_ hY.symm
      unfold deskP setM
      dsimp only
      have hfl2 : (flatF u (putF ⟨g.name, g.val, g.next, A ++ (m.1, fl, m.2.2) :: B⟩ S.fs)).Perm (fPairs u ⟨g.name, g.val, g.next, A ++ (m.1, fl, m.2.2) :: B⟩ ++ flatF u (dropF f S.fs)) := by
        have h9 := flat_perm (u := u) (put_perm (g := ⟨g.name, g.val, g.next, A ++ (m.1, fl, m.2.2) :: B⟩) (f := g) (fs := S.fs) (by show lookF g.name S.fs = some g; rw [hgn]; exact hl))
        rw [flat_cons] at h9
        dsimp only at h9
        rw [hgn] at h9 ⊢
        exact h9
      rw [hfp] at hfl2
      refine (List.Perm.cons _ (List.Perm.cons _ (List.Perm.append_left _ hfl2))).trans ?_
      rw [← hju]
      exact pull_perm _ _ _ _ _ _ _ _
    · unfold fitsR
      rw [if_neg (by omega)]
set_option maxHeartbeats 4000000 in
theorem l07FlagsC (b o n c : Nat) (L : List PM) (hL : L.length = n) (hc : n ≤ c) (hc9 : c ≤ maxLen) (hg : GoodL L) (u f : ByteArray) (un fl : Int) (hus : u.size ≤ 8) (hfs : f.size ≤ 8) (f0 : 0 ≤ fl) (f1 : fl ≤ 3) (hval : knownR L u f = 0 → ∀ v, 1 ≤ un → un ≤ 999 → getM L (mailK u f un) = some v → 1 ≤ v.size ∧ v.size ≤ 86) (w : World) (h : Src w (some ⟨b, o, none⟩) (cellsP L)) (R : List PM) (q : Int) (HR : Hid (flR L u f un fl = (R, q))) :
    Calls Tryz.prog 69 #[.slice (some ⟨b, o, none⟩) n c, .string u, .string f, .int .i64 un, .int .i64 fl] w fun e w' => ∃ a2 n2 c2, e = .returned (.tuple #[.slice a2 n2 c2, .int .i64 q]) ∧ LenC R n2 c2 ∧ Src w' a2 (cellsP R) ∧ Below w.heap.size w w' := by
  have hn60 := hg.1
  rw [hL] at hn60
  have HLN : Hid (LenC L n c ∧ Src w (some ⟨b, o, none⟩) (cellsP L)) := ⟨⟨hL, hc, hc9⟩, h⟩
  have HBAD : Hid (∀ (W : World) (z : Int), Below w.heap.size w W → (L, z) = (R, q) → ∃ a2 n2 c2, Ending.returned (Value.tuple #[.slice (some ⟨b, o, none⟩) n c, .int .i64 z]) = Ending.returned (.tuple #[.slice a2 n2 c2, .int .i64 q]) ∧ LenC R n2 c2 ∧ Src W a2 (cellsP R) ∧ Below w.heap.size w W) := fun W z hW he => by
    cases he
    exact ⟨_, _, _, rfl, HLN.out.1, HLN.out.2.below hW, hW⟩
  have CK := l07KnownS (some ⟨b, o, none⟩) n c L hL hg u f (by omega) (by omega) w h _ rfl
  have HR1 := HR.out
  unfold flR at HR1
  obtain ⟨k1, hk1⟩ : ∃ z, knownR L u f = z := ⟨_, rfl⟩
  rw [hk1] at CK HR1 hval
  by_cases e1 : k1 = 0
  case neg =>
    rw [if_pos e1] at HR1
    have HFH : Hid (∀ W, Below w.heap.size w W → ∃ a2 n2 c2, Ending.returned (Value.tuple #[.slice (some ⟨b, o, none⟩) n c, .int .i64 k1]) = Ending.returned (.tuple #[.slice a2 n2 c2, .int .i64 q]) ∧ LenC R n2 c2 ∧ Src W a2 (cellsP R) ∧ Below w.heap.size w W) := fun W hW => HBAD.out W k1 hW HR1
    have hki : (k1 != 0) = true := by simpa using e1
    clear hL h hg HR HR1 hk1 HBAD hval
    go_enter Tryz.func69, Tryz.ntmps69
    go_wp2_with fail
    refine CK.mono ?_
    rintro e w1 ⟨rfl, hb1⟩
    have HG : Hid (∃ a2 n2 c2, Ending.returned (Value.tuple #[.slice (some ⟨b, o, none⟩) n c, .int .i64 k1]) = Ending.returned (.tuple #[.slice a2 n2 c2, .int .i64 q]) ∧ LenC R n2 c2 ∧ Src w1 a2 (cellsP R) ∧ Below w.heap.size w w1) := HFH.out w1 hb1
    clear hb1 CK HFH
    go_wp2_with fail
    exact bodyPost_ret (v := .tuple #[.slice (some ⟨b, o, none⟩) n c, .int .i64 k1]) (by simp [results, Tryz.results69, go_sem]) rfl HG.out
  subst e1
  rw [if_neg (by decide)] at HR1
  unfold flT at HR1
  cases hrg : (decide (1 ≤ un) && decide (un ≤ 999)) with
  | false =>
    rw [if_pos hrg] at HR1
    have HFH : Hid (∀ W, Below w.heap.size w W → ∃ a2 n2 c2, Ending.returned (Value.tuple #[.slice (some ⟨b, o, none⟩) n c, .int .i64 5]) = Ending.returned (.tuple #[.slice a2 n2 c2, .int .i64 q]) ∧ LenC R n2 c2 ∧ Src W a2 (cellsP R) ∧ Below w.heap.size w W) := fun W hW => HBAD.out W 5 hW HR1
    have CI := fun W => l01InS un 1 999 false W hrg
    clear hL h hg HR HR1 hk1 HBAD hval hrg
    go_enter Tryz.func69, Tryz.ntmps69
    go_wp2_with fail
    refine CK.mono ?_
    rintro e w1 ⟨rfl, hb1⟩
    have HG : Hid (∃ a2 n2 c2, Ending.returned (Value.tuple #[.slice (some ⟨b, o, none⟩) n c, .int .i64 5]) = Ending.returned (.tuple #[.slice a2 n2 c2, .int .i64 q]) ∧ LenC R n2 c2 ∧ Src w1 a2 (cellsP R) ∧ Below w.heap.size w w1) := HFH.out w1 hb1
    clear hb1 CK HFH
    go_wp2_with fail
    refine (CI _).mono ?_
    rintro e w3 ⟨rfl, hw3⟩
    obtain rfl := hw3
    go_wp2_with fail
    exact bodyPost_ret (v := .tuple #[.slice (some ⟨b, o, none⟩) n c, .int .i64 5]) (by simp [results, Tryz.results69, go_sem]) rfl HG.out
  | true =>
    rw [if_neg (by rw [hrg]; decide)] at HR1
    have hr2 : 1 ≤ un ∧ un ≤ 999 := by
      rw [Bool.and_eq_true, decide_eq_true_eq, decide_eq_true_eq] at hrg
      exact hrg
    have CI := fun W => l01InS un 1 999 true W hrg
    obtain ⟨nn, rfl⟩ : ∃ nn : Nat, un = (nn : Int) := ⟨un.toNat, by omega⟩
    have CML := fun W => l07MailS u f nn (by omega) (by omega) (by omega) W
    have CG := fun W (hW : Below w.heap.size w W) => l01GetM (some ⟨b, o, none⟩) n c L (mailK u f (nn : Int)) W hL hg (h.below hW)
    have hval2 := fun v => hval rfl v hr2.1 hr2.2
    clear hrg hr2 hval
    cases hv : getM L (mailK u f (nn : Int)) with
    | none =>
      rw [hv] at HR1
      simp only [hv] at CG
      have HFH : Hid (∀ W, Below w.heap.size w W → ∃ a2 n2 c2, Ending.returned (Value.tuple #[.slice (some ⟨b, o, none⟩) n c, .int .i64 5]) = Ending.returned (.tuple #[.slice a2 n2 c2, .int .i64 q]) ∧ LenC R n2 c2 ∧ Src W a2 (cellsP R) ∧ Below w.heap.size w W) := fun W hW => HBAD.out W 5 hW HR1
      obtain ⟨MK, hMK⟩ : ∃ x, mailK u f (nn : Int) = x := ⟨_, rfl⟩
      simp only [hMK] at CML CG
      clear hL h hg HR HR1 hk1 HBAD hval2 hv hMK
      go_enter Tryz.func69, Tryz.ntmps69
      go_wp2_with fail
      refine CK.mono ?_
      rintro e w1 ⟨rfl, hb1⟩
      have B2 : Hid (Below w.heap.size w w1) := hb1
      clear hb1 CK
      go_wp2_with fail
      refine (CI _).mono ?_
      rintro e w3 ⟨rfl, hw3⟩
      obtain rfl := hw3
      clear CI
      go_wp2_with fail
      refine (CML _).mono ?_
      rintro e w4 ⟨rfl, hb4⟩
      have B4 : Hid (Below w.heap.size w w4) := B2.out.trans (hb4.mono B2.out.size)
      have CG4 := CG w4 B4.out
      have HG : Hid (∃ a2 n2 c2, Ending.returned (Value.tuple #[.slice (some ⟨b, o, none⟩) n c, .int .i64 5]) = Ending.returned (.tuple #[.slice a2 n2 c2, .int .i64 q]) ∧ LenC R n2 c2 ∧ Src w4 a2 (cellsP R) ∧ Below w.heap.size w w4) := HFH.out w4 B4.out
      clear hb4 CML CG HFH
      go_wp2_with fail
      refine CG4.mono ?_
      rintro e w5 ⟨rfl, hw5⟩
      obtain rfl := hw5
      clear CG4
      go_wp2_with fail
      exact bodyPost_ret (v := .tuple #[.slice (some ⟨b, o, none⟩) n c, .int .i64 5]) (by simp [results, Tryz.results69, go_sem]) rfl HG.out
    | some v =>
      rw [hv] at HR1
      simp only [hv] at CG
      obtain ⟨z1, z2⟩ := hval2 v hv
      have hts2 : (v.extract 1 v.size).size ≤ 85 := by
        rw [ByteArray.size_extract]
        omega
      have hcut : ∀ W : World, (Instr.slice 9 (.string v) (some (.int .i64 1)) none none).run Tryz.prog W = .ok (.string (v.extract 1 v.size)) W := fun W => by
        have := run_slice_string_l (P := Tryz.prog) (w := W) (t := 9) (s := v) Tryz.underlying9 .i64 1 (by omega) (by omega)
        exact this
      have CD := fun W => digitsI fl f0 (by omega) W
      have zd := itoa_small fl f0 (by omega)
      obtain ⟨tx, htx⟩ : ∃ x, v.extract 1 v.size = x := ⟨_, rfl⟩
      simp only [htx] at hcut hts2 HR1
      obtain ⟨TD, hTD⟩ : ∃ t, bs (itoa fl) = t := ⟨_, rfl⟩
      simp only [hTD] at CD zd HR1
      obtain ⟨MK, hMK⟩ : ∃ x, mailK u f (nn : Int) = x := ⟨_, rfl⟩
      simp only [hMK] at CML CG HR1
      have CP := fun W (hW : Below w.heap.size w W) => l01PutM b o n c L MK (TD ++ tx) W hL (by omega) hc hc9 hg.2.2 (h.below hW)
      obtain ⟨N2, hN2⟩ : ∃ t, insL MK (TD ++ tx) L = t := ⟨_, rfl⟩
      simp only [hN2] at CP
      rw [hN2] at HR1
      obtain ⟨rfl, rfl⟩ : N2 = R ∧ 0 = q := by cases HR1; exact ⟨rfl, rfl⟩
      clear hL h hg HR HR1 hk1 HBAD hval2 hv hMK htx hTD hN2
      go_enter Tryz.func69, Tryz.ntmps69
      go_wp2_with fail
      refine CK.mono ?_
      rintro e w1 ⟨rfl, hb1⟩
      have B2 : Hid (Below w.heap.size w w1) := hb1
      clear hb1 CK
      go_wp2_with fail
      refine (CI _).mono ?_
      rintro e w3 ⟨rfl, hw3⟩
      obtain rfl := hw3
      clear CI
      go_wp2_with fail
      refine (CML _).mono ?_
      rintro e w4 ⟨rfl, hb4⟩
      have B4 : Hid (Below w.heap.size w w4) := B2.out.trans (hb4.mono B2.out.size)
      have CG4 := CG w4 B4.out
      clear hb4 CML CG
      go_wp2_with fail
      refine CG4.mono ?_
      rintro e w5 ⟨rfl, hw5⟩
      obtain rfl := hw5
      clear CG4
      go_upto_region 10 with fail
      refine wp_region_noPanic ?_
      refine wp_region_held_drew (S := fun w' => True) (by kernel_rfl) trivial (fun hHeld => ?_)
      refine tkA (i := 0) (v := .slice (some ⟨b, o, none⟩) n c) ?_ hHeld ?_
      · intro w9 hSw
        go_simp
      simp only [Act.put, List.setIfInBounds_toArray, List.set_cons_zero, List.set_cons_succ]
      refine tkA (i := 1) (v := .string MK) ?_ hHeld ?_
      · intro w9 hSw
        go_simp
      simp only [Act.put, List.setIfInBounds_toArray, List.set_cons_zero, List.set_cons_succ]
      refine tkA (i := 2) (v := .int .i64 fl) ?_ hHeld ?_
      · intro w9 hSw
        go_simp
      simp only [Act.put, List.setIfInBounds_toArray, List.set_cons_zero, List.set_cons_succ]
      refine tkA (i := 4) (v := .string v) ?_ hHeld ?_
      · intro w9 hSw
        go_simp
      simp only [Act.put, List.setIfInBounds_toArray, List.set_cons_zero, List.set_cons_succ]
      refine tkA (i := 5) (v := .string tx) ?_ hHeld ?_
      · intro w9 hSw
        have h9 := hcut w9
        go_simp
      simp only [Act.put, List.setIfInBounds_toArray, List.set_cons_zero, List.set_cons_succ]
      refine wpAnyH_ready (rs := [3]) (by kernel_rfl) (by simp) ?_
      refine AllReadyH.cons rfl (fun K hK => ?_) AllReadyH.nil
      go_simp
      refine (CD _).mono ?_
      rintro e w6 ⟨rfl, hb6⟩
      dsimp only
      have B6 : Hid (Below w.heap.size w w6) := B4.out.drew.trans (Below.mono hb6 B4.out.size)
      have CP6 := CP w6 B6.out
      clear hb6
      refine hK _ _ trivial (fun hHeld => ?_)
      clear hK K
      refine tkA (i := 6) (v := .string (TD ++ tx)) ?_ hHeld ?_
      · intro w9 hSw
        go_simp
        omega
      simp only [Act.put, List.setIfInBounds_toArray, List.set_cons_zero, List.set_cons_succ]
      refine wpAnyH_ready (rs := [7]) (by kernel_rfl) (by simp) ?_
      refine AllReadyH.cons rfl (fun K hK => ?_) AllReadyH.nil
      go_simp
      refine CP6.mono ?_
      rintro e w7 ⟨g7, cap7, rfl, y1, y2, y3, hb7⟩
      dsimp only
      have HF : Hid (LenC N2 N2.length cap7 ∧ Src w7 (some ⟨g7, 0, none⟩) (cellsP N2) ∧ Below w.heap.size w w7) := ⟨⟨rfl, y1, y2⟩, y3, B6.out.trans (hb7.mono B6.out.size)⟩
      clear y1 y2 y3 hb7
      refine hK _ _ trivial (fun hHeld => ?_)
      clear hK K
      refine wpAnyH_ready (rs := [8]) (by kernel_rfl) (by simp) ?_
      refine AllReadyH.cons rfl (fun K hK => ?_) AllReadyH.nil
      go_simp
      refine hK _ _ trivial (fun hHeld => ?_)
      clear hK K
      refine wpAnyH_ready (rs := [9]) (by kernel_rfl) (by simp) ?_
      refine AllReadyH.cons rfl (fun K hK => ?_) AllReadyH.nil
      go_simp
      refine hK _ _ trivial (fun hHeld => ?_)
      clear hK K
      refine wpAnyH_done (by kernel_rfl) ?_ _
      refine NoPanic.normal ?_
      clear hHeld
      go_wp2_with fail
      exact bodyPost_ret (v := .tuple #[.slice (some ⟨g7, 0, none⟩) N2.length cap7, .int .i64 0]) (by simp [results, Tryz.results69, go_sem]) rfl ⟨_, _, _, rfl, HF.out⟩
theorem l07FlagsS (b o n c : Nat) (L : List PM) (hL : L.length = n) (hc : n ≤ c) (hc9 : c ≤ maxLen) (hg : GoodL L) (u f : ByteArray) (un fl : Int) (hus : u.size ≤ 8) (hfs : f.size ≤ 8) (f0 : 0 ≤ fl) (f1 : fl ≤ 3) (hval : knownR L u f = 0 → ∀ v, 1 ≤ un → un ≤ 999 → getM L (mailK u f un) = some v → 1 ≤ v.size ∧ v.size ≤ 86) (w : World) (h : Src w (some ⟨b, o, none⟩) (cellsP L)) (R : List PM) (q : Int) (HR : Hid (flR L u f un fl = (R, q))) :
    Calls Tryz.prog 69 #[.slice (some ⟨b, o, none⟩) n c, .string u, .string f, .int .i64 un, .int .i64 fl] w fun e w' => ∃ a2 n2 c2, e = .returned (.tuple #[.slice a2 n2 c2, .int .i64 q]) ∧ R.length = n2 ∧ Src w' a2 (cellsP R) ∧ Below w.heap.size w w' :=
  (l07FlagsC b o n c L hL hc hc9 hg u f un fl hus hfs f0 f1 hval w h R q HR).mono fun e w' ⟨a2, n2, c2, h1, h2, h3, h4⟩ => ⟨a2, n2, c2, h1, h2.1, h3, h4⟩
end Go.Proofs.YtddnecljdecamaaGreatDoor
