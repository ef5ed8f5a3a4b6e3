/-
  Sfs Rnp in one. By an AI agent.
-/
import Derived.Test.YthgbclipknfmjaaGreatDoorFr22
namespace Go.Proofs.YthgbclipknfmjaaGreatDoor
open Go.ChangeShapes Go.WideShapes Go.ChangeAt Go.RowKit Go.Deep Go.Lib
set_option linter.unusedVariables false
set_option linter.unusedSimpArgs false
set_option maxRecDepth 100000

def flT (L : List PM) (u f : ByteArray) (un fl : Int) : List PM × Int :=
  if (decide (1 ≤ un) && decide (un ≤ 999)) = false then (L, 5) else match getM L (mailK u f un) with
    | none => (L, 5)
    | some v => (insL (mailK u f un) (bs (itoa fl) ++ v.extract 1 v.size) L, 0)
def flR (L : List PM) (u f : ByteArray) (un fl : Int) : List PM × Int := if knownR L u f ≠ 0 then (L, knownR L u f) else flT L u f un fl
theorem swap_ins {L D : List PM} {k v v' : ByteArray} (hu : UpL L) (hp : L.Perm ((k, v) :: D)) : (insL k v' L).Perm ((k, v') :: D) := by
  refine (ins_perm hu).trans (List.Perm.cons _ ?_)
  have hnd : (L.map (·.1)).Nodup := by
    have h1 : L.Pairwise fun x y => x.1 ≠ y.1 := hu.imp fun h e => by rw [e] at h; exact ltK_irrefl _ h
    rw [List.Nodup, List.pairwise_map]
    exact h1
  have h2 : (((k, v) :: D).map (·.1)).Nodup := (hp.map _).nodup_iff.1 hnd
  rw [List.map_cons, List.nodup_cons] at h2
  refine (notK_perm hp).trans ?_
  rw [notK_skip k (k, v) D rfl, notK_self fun x hx e => h2.1 (List.mem_map.2 ⟨x, hx, e⟩)]
theorem pull_perm (v w F x : PM) (A a b r : List PM) : (v :: w :: (A ++ ((F :: (a ++ x :: b)) ++ r))).Perm (x :: (v :: w :: (A ++ ((F :: (a ++ b)) ++ r)))) := by
  have p1 : (A ++ ((F :: (a ++ x :: b)) ++ r)).Perm (x :: (A ++ ((F :: (a ++ b)) ++ r))) := by
    have p2 : ((F :: (a ++ x :: b)) ++ r).Perm (x :: ((F :: (a ++ b)) ++ r)) := by
      have p3 : (F :: (a ++ x :: b)).Perm (x :: F :: (a ++ b)) := (List.Perm.cons F List.perm_middle).trans (List.Perm.swap _ _ _)
      exact List.Perm.append_right r p3
    exact (List.Perm.append_left A p2).trans List.perm_middle
  exact (List.Perm.cons v (List.Perm.cons w p1)).trans ((List.Perm.cons v (List.Perm.swap _ _ _)).trans (List.Perm.swap _ _ _))
theorem set_split {α : Type} (d : α) : ∀ (L : List α) (j : Nat) (y : α), j < L.length → ∃ A B, L = A ++ L.getD j d :: B ∧ L.set j y = A ++ y :: B
  | [], j, _, h => by cases h
  | x :: L, 0, y, _ => ⟨[], L, rfl, rfl⟩
  | x :: L, j + 1, y, h => by
    obtain ⟨A, B, h1, h2⟩ := set_split d L j y (by simpa using h)
    refine ⟨x :: A, B, ?_, ?_⟩
    · show x :: L = x :: (A ++ L.getD j d :: B)
      rw [← h1]
    · show x :: L.set j y = x :: (A ++ y :: B)
      rw [h2]
theorem sf_fits {L : List PM} {u f : ByteArray} {un fl : Int} {S S' : SM} {q : Int} (h : storeB L = true) (hsu : shortB u = true) (hsf : shortB f = true) (f0 : 0 ≤ fl) (f1 : fl ≤ 3) (hS : takeAll (nextM L) u S0 L = some S) (hQ : SfIs S f un fl q S') : OpFits L u q (nextM L) S' (flR L u f un fl) := by
  have hus := word_slash hsu
  have hfs := word_slash hsf
  obtain ⟨hg, nx0, hnm, n1, n2, _, _, _⟩ := store_facts h
  rw [hnm] at n1 n2
  have hlk := lack_known h hus hfs hS
  unfold flR
  rcases hQ with ⟨k1, rfl, rfl⟩ | ⟨k1, g, hl, ⟨hno, rfl, rfl⟩ | ⟨j, hj, hju, rfl, rfl⟩⟩
  · rw [hlk] at k1 ⊢
    rw [if_pos k1]
    exact ⟨fun _ => rfl, fun h9 => absurd h9 k1⟩
  · rw [hlk] at k1
    rw [if_neg (by simp [k1])]
    refine ⟨fun _ => ?_, fun h9 => by cases h9⟩
    unfold flT
    by_cases hr : (decide (1 ≤ un) && decide (un ≤ 999)) = false
    · rw [if_pos hr]
    · rw [if_neg hr]
      have hcp := cp_miss (tf := f) h hus hfs hS hl hno
      unfold cpT at hcp
      rw [if_neg hr] at hcp
      cases hv : getM L (mailK u f un) with
      | none => rfl
      | some v =>
        exfalso
        have hr2 : 1 ≤ un ∧ un ≤ 999 := by
          by_cases e : 1 ≤ un ∧ un ≤ 999
          · exact e
          · exact absurd (by
              by_cases e1 : 1 ≤ un
              · have e2 : ¬ un ≤ 999 := fun h9 => e ⟨e1, h9⟩
                rw [decide_eq_false e2]; simp
              · rw [decide_eq_false e1]; rfl) hr
        have hp := (getM_mem hg.2.2).1 hv
        have hp2 : (mailK u f ((un.toNat : Nat) : Int), v) ∈ L := by rw [show ((un.toNat : Nat) : Int) = un by omega]; exact hp
        obtain ⟨m, m1, m2, _⟩ := mail_there h hus hfs hS hl (by omega) hp2
        exact hno m m1 (by omega)
  · rw [hlk] at k1
    rw [if_neg (by simp [k1])]
    obtain ⟨hw, _⟩ := known_zero h hus hfs hS k1
    obtain ⟨hgm, hgn⟩ := lookF_mem hl
    obtain ⟨m, hmd⟩ : ∃ m, g.mails.getD j ml0 = m := ⟨_, rfl⟩
    rw [hmd] at hju ⊢
    have hmm : m ∈ g.mails := by rw [← hmd]; exact mem_getD' _ _ _ hj
    obtain ⟨e1, e2, e3, e4, e5⟩ := (store_fit h hS g hgm).2.2.2.2.2 m hmm
    have hp := mail_pair h hus hS hl hmm
    have hp2 : (mailK u f ((m.1.toNat : Nat) : Int), mailV m) ∈ L := by rw [show ((m.1.toNat : Nat) : Int) = m.1 by omega]; exact hp
    obtain ⟨_, _, _, _, hpos⟩ := mail_val h hus hfs (hasU h hus hS hw) (by omega) hp2
    obtain ⟨A, B, hA, hB⟩ := set_split ml0 g.mails j (m.1, fl, m.2.2) hj
    rw [hmd] at hA
    have hflT : flT L u f un fl = (insL (mailK u f un) (mailV (m.1, fl, m.2.2)) L, 0) := by
      unfold flT
      rw [if_neg (by rw [← hju, decide_eq_true (by omega), decide_eq_true (by omega)]; decide), ← hju, (getM_mem hg.2.2).2 hp]
      show (insL (mailK u f m.1) (bs (itoa fl) ++ (mailV m).extract 1 (mailV m).size) L, (0 : Int)) = _
      rw [(mailV_parts e3 e4).1]
      rfl
    rw [hflT, hB]
    have hdl := desk_list h hus hS hw
    have hfp : ∀ m' : MMl, fPairs u ⟨g.name, g.val, g.next, A ++ m' :: B⟩ = (folderK u f, metaT g.val g.next) :: (A.map (mailP u f) ++ (mailP u f m') :: B.map (mailP u f)) := fun m' => by
      unfold fPairs
      dsimp only
      rw [hgn, List.map_append]
      rfl
    have hgg : g = ⟨g.name, g.val, g.next, A ++ m :: B⟩ := by
      cases g
      dsimp only at hA ⊢
      rw [← hA]
    have hfl1 : (flatF u S.fs).Perm (fPairs u g ++ flatF u (dropF f S.fs)) := by
      have h9 := flat_perm (u := u) (drop_perm hl)
      rw [flat_cons] at h9
      exact h9
    rw [hgg, hfp] at hfl1
    have hLD : L.Perm ((mailK u f un, mailV m) :: ((vK, bs (itoa (nextM L))) :: (userK u, S.word) :: (notK vK S.aside ++ (((folderK u f, metaT g.val g.next) :: (A.map (mailP u f) ++ B.map (mailP u f))) ++ flatF u (dropF f S.fs))))) := by
      refine hdl.trans ?_
      refine (List.Perm.cons _ (List.Perm.cons _ (List.Perm.append_left _ hfl1))).trans ?_
      rw [← hju]
      exact pull_perm _ _ _ _ _ _ _ _
    have hY := swap_ins (v' := mailV (m.1, fl, m.2.2)) hg.2.2 hLD
    have hlen : (insL (mailK u f un) (mailV (m.1, fl, m.2.2)) L).length ≤ 60 := by
      have h8 := hLD.length_eq
      have h7 := hg.1
      rw [hY.length_eq]
      simp only [List.length_cons] at h8 ⊢
      omega
    refine ⟨fun h9 => absurd rfl h9, fun _ => ⟨by omega, n2, fun z hz => ?_, insL (mailK u f un) (mailV (m.1, fl, m.2.2)) L, ins_up hg.2.2, ?_, by omega, ?_⟩⟩
    · rcases putF_mem (show z ∈ putF ⟨g.name, g.val, g.next, A ++ (m.1, fl, m.2.2) :: B⟩ S.fs from hz) with hz | rfl
      · exact store_fit h hS z hz
      · obtain ⟨t1, t2, t3, t4, t5, t6⟩ := store_fit h hS g hgm
        refine ⟨t1, t2, t3, t4, t5, fun z hz => ?_⟩
        rw [hA] at t6
        rcases List.mem_append.1 (show z ∈ A ++ (m.1, fl, m.2.2) :: B from hz) with hz | hz
        · exact t6 z (List.mem_append_left _ hz)
        · rcases List.mem_cons.1 hz with rfl | hz
          · exact ⟨e1, e2, f0, f1, e5⟩
          · exact t6 z (List.mem_append_right _ (List.mem_cons_of_mem _ hz))
    · refine List.Perm.trans ?_ hY.symm
      unfold deskP setM
      dsimp only
      have hfl2 : (flatF u (putF ⟨g.name, g.val, g.next, A ++ (m.1, fl, m.2.2) :: B⟩ S.fs)).Perm (fPairs u ⟨g.name, g.val, g.next, A ++ (m.1, fl, m.2.2) :: B⟩ ++ flatF u (dropF f S.fs)) := by
        have h9 := flat_perm (u := u) (put_perm (g := ⟨g.name, g.val, g.next, A ++ (m.1, fl, m.2.2) :: B⟩) (f := g) (fs := S.fs) (by show lookF g.name S.fs = some g; rw [hgn]; exact hl))
        rw [flat_cons] at h9
        dsimp only at h9
        rw [hgn] at h9 ⊢
        exact h9
      rw [hfp] at hfl2
      refine (List.Perm.cons _ (List.Perm.cons _ (List.Perm.append_left _ hfl2))).trans ?_
      rw [← hju]
      exact pull_perm _ _ _ _ _ _ _ _
    · unfold fitsR
      rw [if_neg (by omega)]
set_option maxHeartbeats 4000000 in
theorem l07FlagsC (b o n c : Nat) (L : List PM) (hL : L.length = n) (hc : n ≤ c) (hc9 : c ≤ maxLen) (hg : GoodL L) (u f : ByteArray) (un fl : Int) (hus : u.size ≤ 8) (hfs : f.size ≤ 8) (f0 : 0 ≤ fl) (f1 : fl ≤ 3) (hval : knownR L u f = 0 → ∀ v, 1 ≤ un → un ≤ 999 → getM L (mailK u f un) = some v → 1 ≤ v.size ∧ v.size ≤ 86) (w : World) (h : Src w (some ⟨b, o, none⟩) (cellsP L)) (R : List PM) (q : Int) (HR : Hid (flR L u f un fl = (R, q))) :
    Calls Tryz.prog 50 #[.slice (some ⟨b, o, none⟩) n c, .string u, .string f, .int .i64 un, .int .i64 fl] w fun e w' => ∃ a2 n2 c2, e = .returned (.tuple #[.slice a2 n2 c2, .int .i64 q]) ∧ LenC R n2 c2 ∧ Src w' a2 (cellsP R) ∧ Below w.heap.size w w' := by
  have hn60 := hg.1
  rw [hL] at hn60
  have HLN : Hid (LenC L n c ∧ Src w (some ⟨b, o, none⟩) (cellsP L)) := ⟨⟨hL, hc, hc9⟩, h⟩
  have HBAD : Hid (∀ (W : World) (z : Int), Below w.heap.size w W → (L, z) = (R, q) → ∃ a2 n2 c2, Ending.returned (Value.tuple #[.slice (some ⟨b, o, none⟩) n c, .int .i64 z]) = Ending.returned (.tuple #[.slice a2 n2 c2, .int .i64 q]) ∧ LenC R n2 c2 ∧ Src W a2 (cellsP R) ∧ Below w.heap.size w W) := fun W z hW he => by
    cases he
    exact ⟨_, _, _, rfl, HLN.out.1, HLN.out.2.below hW, hW⟩
  have CK := l07KnownS (some ⟨b, o, none⟩) n c L hL hg u f (by omega) (by omega) w h _ rfl
  have HR1 := HR.out
  unfold flR at HR1
  obtain ⟨k1, hk1⟩ : ∃ z, knownR L u f = z := ⟨_, rfl⟩
  rw [hk1] at CK HR1 hval
  by_cases e1 : k1 = 0
  case neg =>
    rw [if_pos e1] at HR1
    have HFH : Hid (∀ W, Below w.heap.size w W → ∃ a2 n2 c2, Ending.returned (Value.tuple #[.slice (some ⟨b, o, none⟩) n c, .int .i64 k1]) = Ending.returned (.tuple #[.slice a2 n2 c2, .int .i64 q]) ∧ LenC R n2 c2 ∧ Src W a2 (cellsP R) ∧ Below w.heap.size w W) := fun W hW => HBAD.out W k1 hW HR1
    have hki : (k1 != 0) = true := by simpa using e1
    clear hL h hg HR HR1 hk1 HBAD hval
    go_enter Tryz.func50, Tryz.ntmps50
    go_wp2_with fail
    refine CK.mono ?_
    rintro e w1 ⟨rfl, hb1⟩
    have HG : Hid (∃ a2 n2 c2, Ending.returned (Value.tuple #[.slice (some ⟨b, o, none⟩) n c, .int .i64 k1]) = Ending.returned (.tuple #[.slice a2 n2 c2, .int .i64 q]) ∧ LenC R n2 c2 ∧ Src w1 a2 (cellsP R) ∧ Below w.heap.size w w1) := HFH.out w1 hb1
    clear hb1 CK HFH
    go_wp2_with fail
    exact bodyPost_ret (v := .tuple #[.slice (some ⟨b, o, none⟩) n c, .int .i64 k1]) (by simp [results, Tryz.results50, go_sem]) rfl HG.out
  subst e1
  rw [if_neg (by decide)] at HR1
  unfold flT at HR1
  cases hrg : (decide (1 ≤ un) && decide (un ≤ 999)) with
  | false =>
    rw [if_pos hrg] at HR1
    have HFH : Hid (∀ W, Below w.heap.size w W → ∃ a2 n2 c2, Ending.returned (Value.tuple #[.slice (some ⟨b, o, none⟩) n c, .int .i64 5]) = Ending.returned (.tuple #[.slice a2 n2 c2, .int .i64 q]) ∧ LenC R n2 c2 ∧ Src W a2 (cellsP R) ∧ Below w.heap.size w W) := fun W hW => HBAD.out W 5 hW HR1
    have CI := fun W => l01InS un 1 999 false W hrg
    clear hL h hg HR HR1 hk1 HBAD hval hrg
    go_enter Tryz.func50, Tryz.ntmps50
    go_wp2_with fail
    refine CK.mono ?_
    rintro e w1 ⟨rfl, hb1⟩
    have HG : Hid (∃ a2 n2 c2, Ending.returned (Value.tuple #[.slice (some ⟨b, o, none⟩) n c, .int .i64 5]) = Ending.returned (.tuple #[.slice a2 n2 c2, .int .i64 q]) ∧ LenC R n2 c2 ∧ Src w1 a2 (cellsP R) ∧ Below w.heap.size w w1) := HFH.out w1 hb1
    clear hb1 CK HFH
    go_wp2_with fail
    refine (CI _).mono ?_
    rintro e w3 ⟨rfl, hw3⟩
    obtain rfl := hw3
    go_wp2_with fail
    exact bodyPost_ret (v := .tuple #[.slice (some ⟨b, o, none⟩) n c, .int .i64 5]) (by simp [results, Tryz.results50, go_sem]) rfl HG.out
  | true =>
    rw [if_neg (by rw [hrg]; decide)] at HR1
    have hr2 : 1 ≤ un ∧ un ≤ 999 := by
      rw [Bool.and_eq_true, decide_eq_true_eq, decide_eq_true_eq] at hrg
      exact hrg
    have CI := fun W => l01InS un 1 999 true W hrg
    obtain ⟨nn, rfl⟩ : ∃ nn : Nat, un = (nn : Int) := ⟨un.toNat, by omega⟩
    have CML := fun W => l07MailS u f nn (by omega) (by omega) (by omega) W
    have CG := fun W (hW : Below w.heap.size w W) => l01GetM (some ⟨b, o, none⟩) n c L (mailK u f (nn : Int)) W hL hg (h.below hW)
    have hval2 := fun v => hval rfl v hr2.1 hr2.2
    clear hrg hr2 hval
    cases hv : getM L (mailK u f (nn : Int)) with
    | none =>
      rw [hv] at HR1
      simp only [hv] at CG
      have HFH : Hid (∀ W, Below w.heap.size w W → ∃ a2 n2 c2, Ending.returned (Value.tuple #[.slice (some ⟨b, o, none⟩) n c, .int .i64 5]) = Ending.returned (.tuple #[.slice a2 n2 c2, .int .i64 q]) ∧ LenC R n2 c2 ∧ Src W a2 (cellsP R) ∧ Below w.heap.size w W) := fun W hW => HBAD.out W 5 hW HR1
      obtain ⟨MK, hMK⟩ : ∃ x, mailK u f (nn : Int) = x := ⟨_, rfl⟩
      simp only [hMK] at CML CG
      clear hL h hg HR HR1 hk1 HBAD hval2 hv hMK
      go_enter Tryz.func50, Tryz.ntmps50
      go_wp2_with fail
      refine CK.mono ?_
      rintro e w1 ⟨rfl, hb1⟩
      have B2 : Hid (Below w.heap.size w w1) := hb1
      clear hb1 CK
      go_wp2_with fail
      refine (CI _).mono ?_
      rintro e w3 ⟨rfl, hw3⟩
      obtain rfl := hw3
      clear CI
      go_wp2_with fail
      refine (CML _).mono ?_
      rintro e w4 ⟨rfl, hb4⟩
      have B4 : Hid (Below w.heap.size w w4) := B2.out.trans (hb4.mono B2.out.size)
      have CG4 := CG w4 B4.out
      have HG : Hid (∃ a2 n2 c2, Ending.returned (Value.tuple #[.slice (some ⟨b, o, none⟩) n c, .int .i64 5]) = Ending.returned (.tuple #[.slice a2 n2 c2, .int .i64 q]) ∧ LenC R n2 c2 ∧ Src w4 a2 (cellsP R) ∧ Below w.heap.size w w4) := HFH.out w4 B4.out
      clear hb4 CML CG HFH
      go_wp2_with fail
      refine CG4.mono ?_
      rintro e w5 ⟨rfl, hw5⟩
      obtain rfl := hw5
      clear CG4
      go_wp2_with fail
      exact bodyPost_ret (v := .tuple #[.slice (some ⟨b, o, none⟩) n c, .int .i64 5]) (by simp [results, Tryz.results50, go_sem]) rfl HG.out
    | some v =>
      rw [hv] at HR1
      simp only [hv] at CG
      obtain ⟨z1, z2⟩ := hval2 v hv
      have hts2 : (v.extract 1 v.size).size ≤ 85 := by
        rw [ByteArray.size_extract]
        omega
      have hcut : ∀ W : World, (Instr.slice 9 (.string v) (some (.int .i64 1)) none none).run Tryz.prog W = .ok (.string (v.extract 1 v.size)) W := fun W => by
        have := run_slice_string_l (P := Tryz.prog) (w := W) (t := 9) (s := v) Tryz.underlying9 .i64 1 (by omega) (by omega)
        exact this
      have CD := fun W => digitsI fl f0 (by omega) W
      have zd := itoa_small fl f0 (by omega)
      obtain ⟨tx, htx⟩ : ∃ x, v.extract 1 v.size = x := ⟨_, rfl⟩
      simp only [htx] at hcut hts2 HR1
      obtain ⟨TD, hTD⟩ : ∃ t, bs (itoa fl) = t := ⟨_, rfl⟩
      simp only [hTD] at CD zd HR1
      obtain ⟨MK, hMK⟩ : ∃ x, mailK u f (nn : Int) = x := ⟨_, rfl⟩
      simp only [hMK] at CML CG HR1
      have CP := fun W (hW : Below w.heap.size w W) => l01PutM b o n c L MK (TD ++ tx) W hL (by omega) hc hc9 hg.2.2 (h.below hW)
      obtain ⟨N2, hN2⟩ : ∃ t, insL MK (TD ++ tx) L = t := ⟨_, rfl⟩
      simp only [hN2] at CP
      rw [hN2] at HR1
      obtain ⟨rfl, rfl⟩ : N2 = R ∧ 0 = q := by cases HR1; exact ⟨rfl, rfl⟩
      clear hL h hg HR HR1 hk1 HBAD hval2 hv hMK htx hTD hN2
      go_enter Tryz.func50, Tryz.ntmps50
      go_wp2_with fail
      refine CK.mono ?_
      rintro e w1 ⟨rfl, hb1⟩
      have B2 : Hid (Below w.heap.size w w1) := hb1
      clear hb1 CK
      go_wp2_with fail
      refine (CI _).mono ?_
      rintro e w3 ⟨rfl, hw3⟩
      obtain rfl := hw3
      clear CI
      go_wp2_with fail
      refine (CML _).mono ?_
      rintro e w4 ⟨rfl, hb4⟩
      have B4 : Hid (Below w.heap.size w w4) := B2.out.trans (hb4.mono B2.out.size)
      have CG4 := CG w4 B4.out
      clear hb4 CML CG
      go_wp2_with fail
      refine CG4.mono ?_
      rintro e w5 ⟨rfl, hw5⟩
      obtain rfl := hw5
      clear CG4
      go_upto_region 10 with fail
      refine wp_region_noPanic ?_
      refine wp_region_held_drew (S := fun w' => True) (by kernel_rfl) trivial (fun hHeld => ?_)
      refine tkA (i := 0) (v := .slice (some ⟨b, o, none⟩) n c) ?_ hHeld ?_
      · intro w9 hSw
        go_simp
      simp only [Act.put, List.setIfInBounds_toArray, List.set_cons_zero, List.set_cons_succ]
      refine tkA (i := 1) (v := .string MK) ?_ hHeld ?_
      · intro w9 hSw
        go_simp
      simp only [Act.put, List.setIfInBounds_toArray, List.set_cons_zero, List.set_cons_succ]
      refine tkA (i := 2) (v := .int .i64 fl) ?_ hHeld ?_
      · intro w9 hSw
        go_simp
      simp only [Act.put, List.setIfInBounds_toArray, List.set_cons_zero, List.set_cons_succ]
      refine tkA (i := 4) (v := .string v) ?_ hHeld ?_
      · intro w9 hSw
        go_simp
      simp only [Act.put, List.setIfInBounds_toArray, List.set_cons_zero, List.set_cons_succ]
      refine tkA (i := 5) (v := .string tx) ?_ hHeld ?_
      · intro w9 hSw
        have h9 := hcut w9
        go_simp
      simp only [Act.put, List.setIfInBounds_toArray, List.set_cons_zero, List.set_cons_succ]
      refine wpAnyH_ready (rs := [3]) (by kernel_rfl) (by simp) ?_
      refine AllReadyH.cons rfl (fun K hK => ?_) AllReadyH.nil
      go_simp
      refine (CD _).mono ?_
      rintro e w6 ⟨rfl, hb6⟩
      dsimp only
      have B6 : Hid (Below w.heap.size w w6) := B4.out.drew.trans (Below.mono hb6 B4.out.size)
      have CP6 := CP w6 B6.out
      clear hb6
      refine hK _ _ trivial (fun hHeld => ?_)
      clear hK K
      refine tkA (i := 6) (v := .string (TD ++ tx)) ?_ hHeld ?_
      · intro w9 hSw
        go_simp
        omega
      simp only [Act.put, List.setIfInBounds_toArray, List.set_cons_zero, List.set_cons_succ]
      refine wpAnyH_ready (rs := [7]) (by kernel_rfl) (by simp) ?_
      refine AllReadyH.cons rfl (fun K hK => ?_) AllReadyH.nil
      go_simp
      refine CP6.mono ?_
      rintro e w7 ⟨g7, cap7, rfl, y1, y2, y3, hb7⟩
      dsimp only
      have HF : Hid (LenC N2 N2.length cap7 ∧ Src w7 (some ⟨g7, 0, none⟩) (cellsP N2) ∧ Below w.heap.size w w7) := ⟨⟨rfl, y1, y2⟩, y3, B6.out.trans (hb7.mono B6.out.size)⟩
      clear y1 y2 y3 hb7
      refine hK _ _ trivial (fun hHeld => ?_)
      clear hK K
      refine wpAnyH_ready (rs := [8]) (by kernel_rfl) (by simp) ?_
      refine AllReadyH.cons rfl (fun K hK => ?_) AllReadyH.nil
      go_simp
      refine hK _ _ trivial (fun hHeld => ?_)
      clear hK K
      refine wpAnyH_ready (rs := [9]) (by kernel_rfl) (by simp) ?_
      refine AllReadyH.cons rfl (fun K hK => ?_) AllReadyH.nil
      go_simp
      refine hK _ _ trivial (fun hHeld => ?_)
      clear hK K
      refine wpAnyH_done (by kernel_rfl) ?_ _
      refine NoPanic.normal ?_
      clear hHeld
      go_wp2_with fail
      exact bodyPost_ret (v := .tuple #[.slice (some ⟨g7, 0, none⟩) N2.length cap7, .int .i64 0]) (by simp [results, Tryz.results50, go_sem]) rfl ⟨_, _, _, rfl, HF.out⟩
/-- Pairs put into a list, one by one. -/
def insAll (X : List PM) (R : List PM) : List PM := X.foldl (fun R p => insL p.1 p.2 R) R
theorem ins_all : ∀ {X R : List PM}, UpL R → X.Pairwise (fun a b => a.1 ≠ b.1) → (∀ p ∈ X, ∀ x ∈ R, x.1 ≠ p.1) → UpL (insAll X R) ∧ (insAll X R).Perm (X ++ R)
  | [], R, hu, _, _ => ⟨hu, List.Perm.refl _⟩
  | p :: X, R, hu, hp, hx => by
    obtain ⟨h1, h2⟩ := List.pairwise_cons.1 hp
    have hi : (insL p.1 p.2 R).Perm (p :: R) := by
      have h9 := ins_perm (k := p.1) (v := p.2) hu
      rw [notK_self (hx p List.mem_cons_self)] at h9
      exact h9
    obtain ⟨k1, k2⟩ := ins_all (X := X) (R := insL p.1 p.2 R) (ins_up hu) h2 (fun q hq x hxx => by
      rcases List.mem_cons.1 (hi.mem_iff.1 hxx) with rfl | h9
      · exact h1 q hq
      · exact hx q (List.mem_cons_of_mem _ hq) x h9)
    exact ⟨k1, k2.trans ((List.Perm.append_left X hi).trans List.perm_middle)⟩
theorem insAll_step (X R : List PM) (j : Nat) (hj : j < X.length) : insAll (X.take (j + 1)) R = insL (X.getD j p0).1 (X.getD j p0).2 (insAll (X.take j) R) := by
  unfold insAll
  rw [List.take_add_one, List.getD_eq_getElem?_getD, List.getElem?_eq_getElem hj, List.foldl_append]
  rfl
theorem insAll_up (X : List PM) : ∀ {R : List PM}, UpL R → UpL (insAll X R) := by
  induction X with
  | nil => exact fun h => h
  | cons p X ih => exact fun h => ih (ins_up h)
theorem insAll_len (X : List PM) : ∀ {R : List PM}, UpL R → (insAll X R).length ≤ R.length + X.length := by
  induction X with
  | nil => exact fun h => Nat.le_refl _
  | cons p X ih =>
    intro R h
    have h1 := ih (R := insL p.1 p.2 R) (ins_up h)
    have h2 := (ins_len (k := p.1) (v := p.2) h).1
    rw [List.length_cons]
    show (insAll X (insL p.1 p.2 R)).length ≤ _
    omega
def fm0 : FM := ⟨⟨#[]⟩, 0, 0, []⟩
def rnG (f : ByteArray) : Option SM → FM
  | some S => (lookF f S.fs).getD fm0
  | none => fm0
/-- A folder of the list, as it lies on the desk. -/
def rnF (L : List PM) (u f : ByteArray) : FM := rnG f (takeAll (nextM L) u S0 L)
theorem rnF_is {L : List PM} {u f : ByteArray} {S : SM} {g : FM} (hS : takeAll (nextM L) u S0 L = some S) (hl : lookF f S.fs = some g) : rnF L u f = g := by
  unfold rnF
  rw [hS]
  show (lookF f S.fs).getD fm0 = g
  rw [hl]
  rfl
abbrev rnN (L : List PM) (u f : ByteArray) : List PM := notK (folderK u f) (emptyR L u f)
def rnT (L : List PM) (Ms : List PM) (r : List PM × Int) : List PM × Int := if r.2 ≠ 0 then (L, r.2) else (insAll Ms r.1, 0)
def rnR (L : List PM) (u f tf : ByteArray) : List PM × Int :=
  if knownR L u f ≠ 0 then (L, knownR L u f) else if f = inboxT then (L, 11) else if knownR L u tf = 0 then (L, 9) else rnT L ((rnF L u f).mails.map (mailP u tf)) (freshR (rnN L u f) L u tf (rnF L u f).next)
def rnO (nx : Int) (S : SM) (f tf : ByteArray) : Option FM → Int × Int × SM
  | none => (16, nx, S)
  | some g => if f = inboxT then (11, nx, S) else if (lookF tf S.fs).isSome = true then (9, nx, S) else if 9999 < nx then (6, nx, ⟨S.aside, S.word, dropF f S.fs⟩) else (0, nx + 1, ⟨S.aside, S.word, putF ⟨tf, nx, g.next, g.mails⟩ (dropF f S.fs)⟩)
theorem rnO_some (nx : Int) (S : SM) (f tf : ByteArray) (g : FM) : rnO nx S f tf (some g) = if f = inboxT then (11, nx, S) else if (lookF tf S.fs).isSome = true then (9, nx, S) else if 9999 < nx then (6, nx, ⟨S.aside, S.word, dropF f S.fs⟩) else (0, nx + 1, ⟨S.aside, S.word, putF ⟨tf, nx, g.next, g.mails⟩ (dropF f S.fs)⟩) := rfl
def rnM (nx : Int) (S : SM) (f tf : ByteArray) : Int × Int × SM := if S.word.toList = [] then (15, nx, S) else rnO nx S f tf (lookF f S.fs)
theorem look_drop {n m : ByteArray} : ∀ {fs : List FM}, lookF n fs = none → lookF n (dropF m fs) = none
  | [], _ => rfl
  | f :: fs, h => by
    unfold lookF at h
    by_cases e : f.name = n
    · rw [if_pos e] at h; cases h
    · rw [if_neg e] at h
      unfold dropF
      by_cases e2 : f.name = m
      · rw [if_pos e2]; exact h
      · rw [if_neg e2]
        unfold lookF
        rw [if_neg e]
        exact look_drop h
theorem pass_v (u f T : ByteArray) : passB u f (vK, T) = true := by
  unfold passB
  rw [Bool.and_eq_true, decide_eq_true_eq]
  refine ⟨(folder_not u f).symm, ?_⟩
  cases hb : beginsB vK (preK u f) with
  | false => rfl
  | true =>
    obtain ⟨r, hr⟩ := begins_pre.1 hb
    simp at hr
theorem pass_u (u f T : ByteArray) : passB u f (userK u, T) = true := by
  unfold passB
  rw [Bool.and_eq_true, decide_eq_true_eq]
  refine ⟨fun e => ?_, ?_⟩
  · have h9 := congrArg (fun x : ByteArray => x.data.toList) e
    simp [ByteArray.data_append] at h9
  · cases hb : beginsB (userK u) (preK u f) with
    | false => rfl
    | true =>
      obtain ⟨r, hr⟩ := begins_pre.1 hb
      simp [ByteArray.data_append] at hr
theorem next_drop {L : List PM} {u f : ByteArray} (h : storeB L = true) : nextM (rnN L u f) = nextM L := by
  have hu := (store_facts h).1.2.2
  obtain ⟨T, hT⟩ : ∃ T, (vK, T) ∈ L := ⟨_, v_mem h⟩
  have a1 : getM L vK = some T := (getM_mem hu).2 hT
  have a2 : getM (rnN L u f) vK = some T := by
    unfold rnN
    rw [drop_eq]
    exact (getM_mem (hu.sublist List.filter_sublist)).2 (List.mem_filter.2 ⟨hT, pass_v u f T⟩)
  unfold nextM
  rw [a1, a2]
theorem no_mails {L : List PM} {u f : ByteArray} {S : SM} (h : storeB L = true) (hus : (47 : UInt8) ∉ u.data.toList) (hfs : (47 : UInt8) ∉ f.data.toList) (hS : takeAll (nextM L) u S0 L = some S) (hw : S.word.toList ≠ []) (hl : lookF f S.fs = none) : ∀ x ∈ L, beginsB x.1 (preK u f) = false := fun x hx => by
  rcases List.mem_cons.1 ((desk_list h hus hS hw).mem_iff.1 hx) with rfl | hx
  · exact pass_not (pass_v u f _)
  rcases List.mem_cons.1 hx with rfl | hx
  · exact pass_not (pass_u u f _)
  rcases List.mem_append.1 hx with hx | hx
  · exact pass_not (aside_pass h hus hfs hS hx)
  · have hr := rest_pass (u := u) (f := f) (fs := S.fs) hus hfs fun g hg => ⟨(fun e => by
      have h9 := look_mem' hg
      rw [e, hl] at h9
      cases h9), word_slash (name_short h hus hS hg)⟩
    rw [List.filter_eq_self] at hr
    exact pass_not (hr x hx)
theorem mailK_swap {u f g : ByteArray} {a b : Int} (e : mailK u f a = mailK u f b) : mailK u g a = mailK u g b := by
  have h9 := congrArg (fun x : ByteArray => x.data.toList) e
  have h8 : d3 a.toNat = d3 b.toNat := by simpa [bs] using h9
  show bs _ = bs _
  rw [h8]
theorem mails_apart {L : List PM} {u f tf : ByteArray} {S : SM} {g : FM} (h : storeB L = true) (hS : takeAll (nextM L) u S0 L = some S) (hl : lookF f S.fs = some g) : (g.mails.map (mailP u tf)).Pairwise (fun a b => a.1 ≠ b.1) := by
  obtain ⟨hgm, hgn⟩ := lookF_mem hl
  have hsub := store_sub h hS g hgm
  unfold SubF at hsub
  have hp := (store_facts h).1.2.2.sublist hsub
  unfold UpL at hp
  rw [List.pairwise_map] at hp ⊢
  exact hp.imp fun h9 e => ltK_ne h9 (mailK_swap e)
theorem begins_mail (u f : ByteArray) (m : MMl) : beginsB (mailP u f m).1 (preK u f) = true := begins_pre.2 ⟨d3 m.1.toNat, by simp [mailP, bs]⟩
theorem rn_fits {L : List PM} {u f tf : ByteArray} {S S' : SM} {q nx' : Int} (h : storeB L = true) (hsu : shortB u = true) (hsf : shortB f = true) (hst : shortB tf = true) (hS : takeAll (nextM L) u S0 L = some S) (hQ : rnM (nextM L) S f tf = (q, nx', S')) : OpFits L u q nx' S' (rnR L u f tf) := by
  have hus := word_slash hsu
  have hfs := word_slash hsf
  have hts := word_slash hst
  obtain ⟨hg, nx0, hnm, n1, n2, _, _, _⟩ := store_facts h
  rw [hnm] at n1 n2
  obtain ⟨hwi, hwd⟩ := word_iff h hus hS
  obtain ⟨hli, hln⟩ := look_iff h hus hS hfs
  obtain ⟨hti, htn⟩ := look_iff h hus hS hts
  unfold rnM at hQ
  by_cases hw : S.word.toList = []
  · rw [if_pos hw] at hQ
    cases hQ
    have hk : knownR L u f = 15 := by unfold knownR; rw [hwi.1 hw]; rfl
    unfold rnR
    rw [hk, if_pos (by decide)]
    exact ⟨fun _ => rfl, fun h9 => by cases h9⟩
  rw [if_neg hw] at hQ
  have hs : (getM L (userK u)).isSome = true := by
    cases hv : getM L (userK u) with
    | none => exact absurd (hwi.2 hv) hw
    | some v => rfl
  cases hl : lookF f S.fs with
  | none =>
    rw [hl] at hQ
    cases hQ
    have hk : knownR L u f = 16 := by unfold knownR; rw [hs, ← hli, hl]; rfl
    unfold rnR
    rw [hk, if_pos (by decide)]
    exact ⟨fun _ => rfl, fun h9 => by cases h9⟩
  | some g =>
    rw [hl, rnO_some] at hQ
    have hk : knownR L u f = 0 := by unfold knownR; rw [hs, ← hli, hl]; rfl
    unfold rnR
    rw [hk, if_neg (by decide)]
    by_cases hi : f = inboxT
    · rw [if_pos hi] at hQ
      cases hQ
      rw [if_pos hi]
      exact ⟨fun _ => rfl, fun h9 => by cases h9⟩
    rw [if_neg hi] at hQ
    rw [if_neg hi]
    by_cases ht : (lookF tf S.fs).isSome = true
    · rw [if_pos ht] at hQ
      cases hQ
      have hk2 : knownR L u tf = 0 := by unfold knownR; rw [hs, ← hti, ht]; rfl
      rw [if_pos hk2]
      exact ⟨fun _ => rfl, fun h9 => by cases h9⟩
    rw [if_neg ht] at hQ
    have ht0 : lookF tf S.fs = none := by
      cases hv : lookF tf S.fs with
      | none => rfl
      | some z => rw [hv] at ht; exact absurd rfl ht
    have hk2 : knownR L u tf = 16 := by unfold knownR; rw [hs, ← hti, ht0]; rfl
    rw [hk2, if_neg (by decide), rnF_is hS hl]
    have hd : dropM (nextM L) S f = (0, nextM L, ⟨S.aside, S.word, dropF f S.fs⟩) := by
      unfold dropM
      rw [if_neg hw, if_neg (by rw [hl]; simp), if_neg hi]
    obtain ⟨_, _, _, Y, y1, y2, y3, y4⟩ := (drop_fits h hsu hsf hS hd).2 rfl
    have hY : Y = rnN L u f := by
      unfold dropR at y4
      rw [hk, if_neg (by decide), if_neg hi] at y4
      unfold fitsR at y4
      split at y4
      · exact absurd (Prod.mk.inj y4).2 (by decide)
      · exact (Prod.mk.inj y4).1.symm
    rw [hY] at y1 y2
    clear hY y3 y4 Y
    unfold freshR
    rw [next_drop h]
    by_cases hx : 9999 < nextM L
    · rw [if_pos hx] at hQ
      cases hQ
      rw [if_pos hx]
      exact ⟨fun _ => rfl, fun h9 => by cases h9⟩
    rw [if_neg hx] at hQ
    cases hQ
    rw [if_neg hx]
    obtain ⟨hgm, hgn⟩ := lookF_mem hl
    obtain ⟨e1, e2, e3, e4, e5, e6⟩ := store_fit h hS g hgm
    have htz := short_size' hst
    refine ⟨fun h9 => absurd rfl h9, fun _ => ⟨by omega, by omega, fun x hx => ?_, ?_⟩⟩
    · rcases putF_mem hx with hx | rfl
      · exact store_fit h hS x ((dropF_sub f S.fs).subset hx)
      · exact ⟨by show 0 ≤ nextM L; omega, n2, e3, e4, by show tf.size ≤ 1000; omega, e6⟩
    obtain ⟨V1, hV1⟩ : ∃ V, bs (itoa (nextM L + 1)) = V := ⟨_, rfl⟩
    obtain ⟨MT, hMT⟩ : ∃ V, metaT (nextM L) g.next = V := ⟨_, rfl⟩
    rw [hV1, hMT]
    obtain ⟨D, hD⟩ : ∃ D, (userK u, S.word) :: (notK vK S.aside ++ flatF u (dropF f S.fs)) = D := ⟨_, rfl⟩
    have p1 : (rnN L u f).Perm ((vK, bs (itoa (nextM L))) :: D) := by
      rw [← hD]
      exact y2.symm
    have p2 := swap_ins (v' := V1) y1 p1
    have u2 := ins_up (k := vK) (v := V1) y1
    have hNL : ∀ x ∈ insL vK V1 (rnN L u f), x.1 = vK ∨ x ∈ L := fun x hx => by
      rcases ins_mem y1 hx with rfl | hx
      · exact .inl rfl
      · have h9 := hx.1
        unfold rnN at h9
        rw [drop_eq] at h9
        exact .inr (List.mem_filter.1 h9).1
    have p3 : (insL (folderK u tf) MT (insL vK V1 (rnN L u f))).Perm ((folderK u tf, MT) :: (vK, V1) :: D) := by
      have h9 := ins_perm (k := folderK u tf) (v := MT) u2
      rw [notK_self fun x hx => ?_] at h9
      · exact h9.trans (List.Perm.cons _ p2)
      · rcases hNL x hx with e | e
        · rw [e]; exact (folder_not u tf).symm
        · exact htn ht0 x e
    have u3 := ins_up (k := folderK u tf) (v := MT) u2
    obtain ⟨Y0, hY0⟩ : ∃ Y, insL (folderK u tf) MT (insL vK V1 (rnN L u f)) = Y := ⟨_, rfl⟩
    have hno : ∀ p ∈ g.mails.map (mailP u tf), ∀ x ∈ Y0, x.1 ≠ p.1 := fun p hp x hx e => by
      rw [← hY0] at hx
      rcases ins_mem u2 hx with rfl | hx
      · exact mails_not p hp e.symm
      · obtain ⟨m, _, rfl⟩ := List.mem_map.1 hp
        rcases hNL x hx.1 with e2 | e2
        · rw [e2] at e
          exact mailK_not u tf m.1 e.symm
        · have h8 := no_mails h hus hts hS hw ht0 x e2
          rw [e, begins_mail u tf m] at h8
          cases h8
    rw [hY0] at p3 u3 ⊢
    obtain ⟨u4, p4⟩ := ins_all u3 (mails_apart (tf := tf) h hS hl) hno
    have l1 := (desk_list h hus hS hw).length_eq
    have l2 := (flat_perm (u := u) (drop_perm hl)).length_eq
    have l3 := p4.length_eq
    have l4 := p3.length_eq
    have hDl : D.length = 1 + ((notK vK S.aside).length + (flatF u (dropF f S.fs)).length) := by
      rw [← hD, List.length_cons, List.length_append]
      omega
    rw [flat_cons, List.length_append] at l2
    have l5 : (fPairs u g).length = g.mails.length + 1 := by unfold fPairs; rw [List.length_cons, List.length_map]
    rw [List.length_cons, List.length_cons, List.length_append] at l1
    rw [List.length_append, List.length_map] at l3
    rw [List.length_cons, List.length_cons] at l4
    have h60 := hg.1
    refine ⟨insAll (g.mails.map (mailP u tf)) Y0, u4, ?_, by omega, ?_⟩
    · refine List.Perm.trans ?_ p4.symm
      refine List.Perm.trans ?_ (List.Perm.append_left _ p3.symm)
      have e7 : flatF u (putF ⟨tf, nextM L, g.next, g.mails⟩ (dropF f S.fs)) = flatF u (dropF f S.fs) ++ ((folderK u tf, MT) :: g.mails.map (mailP u tf)) := by
        rw [put_none (look_drop ht0)]
        unfold flatF
        rw [List.flatMap_append, List.flatMap_cons, List.flatMap_nil, List.append_nil]
        rw [← hMT]
        rfl
      unfold deskP
      show ((vK, bs (itoa (nextM L + 1))) :: (userK u, S.word) :: (notK vK S.aside ++ flatF u (putF ⟨tf, nextM L, g.next, g.mails⟩ (dropF f S.fs)))).Perm _
      rw [e7, hV1, ← List.append_assoc]
      have e8 : (vK, V1) :: (userK u, S.word) :: ((notK vK S.aside ++ flatF u (dropF f S.fs)) ++ ((folderK u tf, MT) :: g.mails.map (mailP u tf))) = ((vK, V1) :: D) ++ ((folderK u tf, MT) :: g.mails.map (mailP u tf)) := by
        rw [← hD]
        rfl
      rw [e8]
      refine List.perm_append_comm.trans ?_
      exact List.perm_middle.symm
    · have f1 : fitsR L Y0 = (Y0, 0) := by unfold fitsR; rw [if_neg (by omega)]
      rw [f1]
      unfold rnT fitsR
      rw [if_neg (by simp), if_neg (by omega)]
end Go.Proofs.YthgbclipknfmjaaGreatDoor
