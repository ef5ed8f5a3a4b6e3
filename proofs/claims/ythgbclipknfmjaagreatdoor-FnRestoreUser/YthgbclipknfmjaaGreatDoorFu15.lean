/-
  Sap Apm Apf Ltw Ltx Apl Plc Cpm in one. By an AI agent.
-/
import Derived.Test.YthgbclipknfmjaaGreatDoorFu14
namespace Go.Proofs.YthgbclipknfmjaaGreatDoor
open Go.ChangeShapes Go.WideShapes Go.ChangeAt Go.RowKit Go.Deep Go.Lib
set_option linter.unusedVariables false
set_option linter.unusedSimpArgs false
set_option maxRecDepth 100000

abbrev metaD (L : List PM) (u f : ByteArray) : Int × Int := (metaM L u f).getD (0, 0)
def appY (L : List PM) (u f t : ByteArray) (fl : Int) : List PM := insL (mailK u f (metaD L u f).2) (mailV ((metaD L u f).2, fl, t)) (insL (folderK u f) (metaT (metaD L u f).1 ((metaD L u f).2 + 1)) L)
def appR (L : List PM) (u f t : ByteArray) (fl : Int) : List PM × Int × Int :=
  if knownR L u f ≠ 0 then (L, 0, knownR L u f) else if countM L u = 6 then (L, 0, 12) else if (metaD L u f).2 = 999 then (L, 0, 6) else if 60 < (appY L u f t fl).length then (L, 0, 7) else (appY L u f t fl, (metaD L u f).2, 0)
theorem known_meta {L : List PM} {u f : ByteArray} (h : knownR L u f = 0) : ∃ p, metaM L u f = some p := by
  unfold knownR at h
  split at h
  · cases h
  · split at h
    · cases h
    · rename_i h2
      cases hm : metaM L u f with
      | none => rw [hm] at h2; exact absurd rfl h2
      | some p => exact ⟨p, rfl⟩
theorem app_len {L : List PM} (hg : GoodL L) (u f t : ByteArray) (fl : Int) : (appY L u f t fl).length ≤ 62 ∧ UpL (appY L u f t fl) := by
  have h1 := (ins_len (k := folderK u f) (v := metaT (metaD L u f).1 ((metaD L u f).2 + 1)) hg.2.2).1
  have h3 := ins_up (k := folderK u f) (v := metaT (metaD L u f).1 ((metaD L u f).2 + 1)) hg.2.2
  have h2 := (ins_len (k := mailK u f (metaD L u f).2) (v := mailV ((metaD L u f).2, fl, t)) h3).1
  have := hg.1
  unfold appY
  exact ⟨by omega, ins_up h3⟩
set_option maxHeartbeats 4000000 in
theorem l07AppendC (b o n c : Nat) (L : List PM) (hL : L.length = n) (hc : n ≤ c) (hc9 : c ≤ maxLen) (hg : GoodL L) (u f t : ByteArray) (fl : Int) (hus : u.size ≤ 8) (hfs : f.size ≤ 8) (hts : t.size ≤ 85) (f0 : 0 ≤ fl) (f1 : fl ≤ 3) (w : World) (h : Src w (some ⟨b, o, none⟩) (cellsP L)) (R : List PM) (q1 q2 : Int) (HR : Hid (appR L u f t fl = (R, q1, q2))) :
    Calls Tryz.prog 101 #[.slice (some ⟨b, o, none⟩) n c, .string u, .string f, .string t, .int .i64 fl] w fun e w' => ∃ a2 n2 c2, e = .returned (.tuple #[.slice a2 n2 c2, .int .i64 q1, .int .i64 q2]) ∧ LenC R n2 c2 ∧ Src w' a2 (cellsP R) ∧ Below w.heap.size w w' := by
  have hn60 := hg.1
  rw [hL] at hn60
  have HLN : Hid (LenC L n c ∧ Src w (some ⟨b, o, none⟩) (cellsP L)) := ⟨⟨hL, hc, hc9⟩, h⟩
  have CK := l07KnownS (some ⟨b, o, none⟩) n c L hL hg u f (by omega) (by omega) w h _ rfl
  have HR1 := HR.out
  unfold appR at HR1
  by_cases hk : knownR L u f ≠ 0
  · rw [if_pos hk] at HR1
    obtain ⟨kk, hkk⟩ : ∃ t, knownR L u f = t := ⟨_, rfl⟩
    rw [hkk] at CK HR1 hk
    obtain ⟨rfl, rfl, rfl⟩ : L = R ∧ 0 = q1 ∧ kk = q2 := by cases HR1; exact ⟨rfl, rfl, rfl⟩
    have hki : (kk != 0) = true := by simpa using hk
    clear hL h hg HR HR1 hkk
    go_enter Tryz.func101, Tryz.ntmps101
    go_wp2_with fail
    refine CK.mono ?_
    rintro e w1 ⟨rfl, hb1⟩
    have B1 : Hid (Below w.heap.size w w1) := hb1
    clear hb1 CK
    go_wp2_with fail
    exact bodyPost_ret (v := .tuple #[.slice (some ⟨b, o, none⟩) n c, .int .i64 0, .int .i64 kk]) (by simp [results, Tryz.results101, go_sem]) rfl ⟨_, _, _, rfl, HLN.out.1, HLN.out.2.below B1.out, B1.out⟩
  have hk0 : knownR L u f = 0 := by
    by_cases e : knownR L u f = 0
    · exact e
    · exact absurd e hk
  rw [if_neg hk] at HR1
  obtain ⟨p, hp⟩ := known_meta hk0
  obtain ⟨p1, p2, p3, p4⟩ := meta_range hp
  have hpd : metaD L u f = p := by unfold metaD; rw [hp]; rfl
  rw [hk0] at CK
  have CM := fun W (hW : Below w.heap.size w W) => l07MetaS (some ⟨b, o, none⟩) n c L u f W hL hg (by omega) (by omega) (h.below hW)
  rw [hp] at CM
  have CC := fun W (hW : Below w.heap.size w W) => l07CountS (some ⟨b, o, none⟩) n c L u W hL hg (by omega) (h.below hW)
  have hyl := (app_len hg u f t fl).1
  unfold appY at HR1 hyl
  rw [hpd] at HR1 hyl
  obtain ⟨va, nx⟩ := p
  dsimp only at HR1 p1 p2 p3 p4 hyl
  obtain ⟨nn, rfl⟩ : ∃ nn : Nat, nx = (nn : Int) := ⟨nx.toNat, by omega⟩
  have CP := fun W (hW : Below w.heap.size w W) => l07PutS b o n c L u f va ((nn : Int) + 1) W hL (by omega) hc hc9 hg.2.2 (h.below hW) (by omega) (by omega) (by omega) (by omega) (by omega) (by omega) _ _ rfl rfl
  have hu1 := ins_up (k := folderK u f) (v := metaT va ((nn : Int) + 1)) hg.2.2
  have hl1 := (ins_len (k := folderK u f) (v := metaT va ((nn : Int) + 1)) hg.2.2).1
  rw [hL] at hl1
  obtain ⟨N1, hN1⟩ : ∃ t, insL (folderK u f) (metaT va ((nn : Int) + 1)) L = t := ⟨_, rfl⟩
  simp only [hN1] at CP hu1 hl1 hyl
  rw [hN1] at HR1
  obtain ⟨n1, hn1⟩ : ∃ t, N1.length = t := ⟨_, rfl⟩
  simp only [hn1] at CP hl1
  have CK2 := fun W => l07MailS u f nn (by omega) (by omega) (by omega) W
  have CD := fun W => digitsI fl f0 (by omega) W
  have zd := itoa_small fl f0 (by omega)
  have HMV : Hid (bs (itoa fl) ++ t = mailV ((nn : Int), fl, t)) := rfl
  obtain ⟨TD, hTD⟩ : ∃ t, bs (itoa fl) = t := ⟨_, rfl⟩
  simp only [hTD] at CD zd HMV
  obtain ⟨MV, hMV⟩ : ∃ x, mailV ((nn : Int), fl, t) = x := ⟨_, rfl⟩
  rw [hMV] at HMV HR1 hyl
  obtain ⟨MK, hMK⟩ : ∃ x, mailK u f (nn : Int) = x := ⟨_, rfl⟩
  rw [hMK] at HR1 hyl
  simp only [hMK] at CK2
  have CQ := fun (g cap : Nat) (W : World) (k1 : n1 ≤ cap) (k2 : cap ≤ maxLen) (k3 : Src W (some ⟨g, 0, none⟩) (cellsP N1)) => l01PutM g 0 n1 cap N1 MK MV W hn1 (by omega) k1 k2 hu1 k3
  obtain ⟨N2, hN2⟩ : ∃ t, insL MK MV N1 = t := ⟨_, rfl⟩
  simp only [hN2] at CQ
  rw [hN2] at HR1 hyl
  obtain ⟨n2, hn2⟩ : ∃ t, N2.length = t := ⟨_, rfl⟩
  simp only [hn2] at CQ
  rw [hn2] at HR1 hyl
  have HN2 : Hid (N2.length = n2) := hn2
  obtain ⟨cn, hcn⟩ : ∃ t, countM L u = t := ⟨_, rfl⟩
  simp only [hcn] at CC
  rw [hcn] at HR1
  have HRX : Hid ((if cn = 6 then (L, 0, 12) else if (nn : Int) = 999 then (L, 0, 6) else if 60 < n2 then (L, 0, 7) else (N2, (nn : Int), 0)) = (R, q1, q2)) := HR1
  have HBAD : Hid (∀ (W : World) (z1 z2 : Int), Below w.heap.size w W → (L, z1, z2) = (R, q1, q2) → ∃ a2 n2 c2, Ending.returned (Value.tuple #[.slice (some ⟨b, o, none⟩) n c, .int .i64 z1, .int .i64 z2]) = Ending.returned (.tuple #[.slice a2 n2 c2, .int .i64 q1, .int .i64 q2]) ∧ LenC R n2 c2 ∧ Src W a2 (cellsP R) ∧ Below w.heap.size w W) := fun W z1 z2 hW he => by
    cases he
    exact ⟨_, _, _, rfl, HLN.out.1, HLN.out.2.below hW, hW⟩
  clear hL h hg HR HR1 hk hk0 hp hpd hN1 hn1 hTD hMV hMK hN2 hn2 hcn hu1
  go_enter Tryz.func101, Tryz.ntmps101
  go_wp2_with fail
  refine CK.mono ?_
  rintro e w1 ⟨rfl, hb1⟩
  have B1 : Hid (Below w.heap.size w w1) := hb1
  have CM1 := CM w1 hb1
  clear hb1 CK CM
  go_wp2_with fail
  refine CM1.mono ?_
  rintro e w2 ⟨x, y, rfl, hpost, hb2⟩
  obtain ⟨hx1, hy1⟩ := hpost _ rfl
  dsimp only at hx1 hy1
  subst hx1 hy1
  have B2 : Hid (Below w.heap.size w w2) := B1.out.trans (hb2.mono B1.out.size)
  have CC2 := CC w2 B2.out
  clear hb2 CM1 CC hpost
  go_wp2_with fail
  refine CC2.mono ?_
  rintro e w3 ⟨rfl, hb3⟩
  have B3 : Hid (Below w.heap.size w w3) := B2.out.trans (hb3.mono B2.out.size)
  clear hb3 CC2
  by_cases h6 : cn = 6
  · have h6i : ((cn : Int) == 6) = true := by rw [h6]; rfl
    have hf := HBAD.out w3 0 12 B3.out (by have h9 := HRX.out; rw [if_pos h6] at h9; exact h9)
    have HF : Hid (∃ a2 n2 c2, Ending.returned (Value.tuple #[.slice (some ⟨b, o, none⟩) n c, .int .i64 0, .int .i64 12]) = Ending.returned (.tuple #[.slice a2 n2 c2, .int .i64 q1, .int .i64 q2]) ∧ LenC R n2 c2 ∧ Src w3 a2 (cellsP R) ∧ Below w.heap.size w w3) := hf
    clear hf HBAD CP CQ CD CK2
    go_wp2_with fail
    exact bodyPost_ret (v := .tuple #[.slice (some ⟨b, o, none⟩) n c, .int .i64 0, .int .i64 12]) (by simp [results, Tryz.results101, go_sem]) rfl HF.out
  have h6i : ((cn : Int) == 6) = false := beq_eq_false_iff_ne.2 (by omega)
  by_cases h9 : (nn : Int) = 999
  · have h9i : ((nn : Int) == 999) = true := by rw [h9]; rfl
    have hf := HBAD.out w3 0 6 B3.out (by have h8 := HRX.out; rw [if_neg h6, if_pos h9] at h8; exact h8)
    have HF : Hid (∃ a2 n2 c2, Ending.returned (Value.tuple #[.slice (some ⟨b, o, none⟩) n c, .int .i64 0, .int .i64 6]) = Ending.returned (.tuple #[.slice a2 n2 c2, .int .i64 q1, .int .i64 q2]) ∧ LenC R n2 c2 ∧ Src w3 a2 (cellsP R) ∧ Below w.heap.size w w3) := hf
    clear hf HBAD CP CQ CD CK2
    go_wp2_with fail
    exact bodyPost_ret (v := .tuple #[.slice (some ⟨b, o, none⟩) n c, .int .i64 0, .int .i64 6]) (by simp [results, Tryz.results101, go_sem]) rfl HF.out
  have h9i : ((nn : Int) == 999) = false := beq_eq_false_iff_ne.2 h9
  have CP3 := CP w3 B3.out
  clear CP
  go_wp2_with fail
  refine CP3.mono ?_
  rintro e w4 ⟨g, cap, rfl, k1, k2, k3, hb4⟩
  have B4 : Hid (Below w.heap.size w w4) := B3.out.trans (hb4.mono B3.out.size)
  have HK4 : Hid (n1 ≤ cap ∧ cap ≤ maxLen ∧ Src w4 (some ⟨g, 0, none⟩) (cellsP N1)) := ⟨k1, k2, k3⟩
  clear hb4 CP3 k1 k2 k3
  go_wp2_with fail
  refine (CK2 _).mono ?_
  rintro e w5 ⟨rfl, hb5⟩
  have B5 : Hid (Below w.heap.size w w5) := B4.out.trans (hb5.mono B4.out.size)
  have HK5 : Hid (n1 ≤ cap ∧ cap ≤ maxLen ∧ Src w5 (some ⟨g, 0, none⟩) (cellsP N1)) := ⟨HK4.out.1, HK4.out.2.1, HK4.out.2.2.below hb5⟩
  clear hb5 CK2 HK4
  go_wp2_with fail
  refine (CD _).mono ?_
  rintro e w6 ⟨rfl, hb6⟩
  have B6 : Hid (Below w.heap.size w w6) := B5.out.trans (hb6.mono B5.out.size)
  have CQ6 := CQ g cap w6 HK5.out.1 HK5.out.2.1 (HK5.out.2.2.below hb6)
  clear hb6 CD HK5 CQ
  have hmv := HMV.out
  go_wp2_with fail
  try rw [hmv]
  refine CQ6.mono ?_
  rintro e w7 ⟨g7, cap7, rfl, k1, k2, k3, hb7⟩
  have B7 : Hid (Below w.heap.size w w7) := B6.out.trans (hb7.mono B6.out.size)
  have H7 : Hid (Src w7 (some ⟨g7, 0, none⟩) (cellsP N2)) := k3
  have HC7 : Hid (n2 ≤ cap7 ∧ cap7 ≤ maxLen) := ⟨k1, k2⟩
  clear hb7 CQ6 k1 k2 k3
  by_cases h60 : 60 < n2
  · have CF := l07FitsS (some ⟨b, o, none⟩) n c (some ⟨g7, 0, none⟩) n2 cap7 w7 (some ⟨b, o, none⟩) n c 7 (by show ite _ _ _; rw [if_pos h60])
    have hf := HBAD.out w7 0 7 B7.out (by have h8 := HRX.out; rw [if_neg h6, if_neg h9, if_pos h60] at h8; exact h8)
    have HF : Hid (∃ a2 n2 c2, Ending.returned (Value.tuple #[.slice (some ⟨b, o, none⟩) n c, .int .i64 0, .int .i64 7]) = Ending.returned (.tuple #[.slice a2 n2 c2, .int .i64 q1, .int .i64 q2]) ∧ LenC R n2 c2 ∧ Src w7 a2 (cellsP R) ∧ Below w.heap.size w w7) := hf
    clear hf HBAD
    go_wp2_with fail
    refine CF.mono ?_
    rintro e w8 ⟨rfl, hw8⟩
    obtain rfl := hw8
    clear CF
    go_wp2_with fail
    exact bodyPost_ret (v := .tuple #[.slice (some ⟨b, o, none⟩) n c, .int .i64 0, .int .i64 7]) (by simp [results, Tryz.results101, go_sem]) rfl HF.out
  · have CF := l07FitsS (some ⟨b, o, none⟩) n c (some ⟨g7, 0, none⟩) n2 cap7 w7 (some ⟨g7, 0, none⟩) n2 cap7 0 (by show ite _ _ _; rw [if_neg h60])
    obtain ⟨rfl, rfl, rfl⟩ : N2 = R ∧ (nn : Int) = q1 ∧ 0 = q2 := by
      have h8 := HRX.out
      rw [if_neg h6, if_neg h9, if_neg h60] at h8
      cases h8
      exact ⟨rfl, rfl, rfl⟩
    clear HBAD
    go_wp2_with fail
    refine CF.mono ?_
    rintro e w8 ⟨rfl, hw8⟩
    obtain rfl := hw8
    clear CF
    go_wp2_with fail
    exact bodyPost_ret (v := .tuple #[.slice (some ⟨g7, 0, none⟩) n2 cap7, .int .i64 (nn : Int), .int .i64 0]) (by simp [results, Tryz.results101, go_sem]) rfl ⟨_, _, _, rfl, ⟨HN2.out, HC7.out⟩, H7.out, B7.out⟩
abbrev moreF (g : FM) (fl : Int) (t : ByteArray) : FM := ⟨g.name, g.val, g.next + 1, g.mails ++ [(g.next, fl, t)]⟩
def apM (S : SM) (g : FM) (fl : Int) (t : ByteArray) : Int × SM := if 6 ≤ sumF S.fs then (12, S) else if g.next = 999 then (6, S) else (0, ⟨S.aside, S.word, putF (moreF g fl t) S.fs⟩)
/-- What a folder on the desk is of the list, and that its uids are below the next. -/
def FolOf (nx : Int) (u : ByteArray) (L : List PM) (g : FM) : Prop := (∃ w f, (folderK u g.name, w) ∈ L ∧ folderM nx g.name w = some f ∧ g.val = f.val ∧ g.next = f.next) ∧ ∀ m ∈ g.mails, m.1 < g.next
theorem fol_take {nx : Int} {u : ByteArray} {L : List PM} {S S' : SM} {q : PM} (hnx : nx ≤ 10000) (hq : q ∈ L) (hS : ∀ g ∈ S.fs, FolOf nx u L g) (h : takeM nx u S q = some S') : ∀ g ∈ S'.fs, FolOf nx u L g := by
  have hput : ∀ {o : Option FM}, putM S o = some S' → (∀ g, o = some g → FolOf nx u L g) → ∀ g ∈ S'.fs, FolOf nx u L g := fun {o} h9 hg => by
    unfold putM at h9
    obtain ⟨g, rfl, rfl⟩ := Option.map_eq_some_iff.1 h9
    intro f hf
    rcases putF_mem hf with hf | rfl
    · exact hS f hf
    · exact hg _ rfl
  have haside : asideM S q = some S' → ∀ g ∈ S'.fs, FolOf nx u L g := fun h9 => by cases h9; exact hS
  unfold takeM takeP at h
  split at h
  · split at h
    · unfold userM at h
      obtain ⟨_, rfl⟩ := ite_some h
      exact hS
    · exact haside h
  · rename_i a b c hG
    split at h
    · rename_i hc
      refine hput h fun g hg => ?_
      have hgf := (folder_meta hnx).1 hg
      have hgn : g.name = bs c := by rw [hgf.2.2.2]
      have hgm : g.mails = [] := by rw [hgf.2.2.2]
      have hsp : splitL 47 q.1.data.toList = [[102], b, c] := by rw [hG, hc.2]
      have hk := (key_folder hsp).1
      rw [hc.1] at hk
      refine ⟨⟨q.2, g, by rw [hgn, ← hk]; exact hq, by rw [hgn]; exact hg, rfl, rfl⟩, fun m hm => ?_⟩
      rw [hgm] at hm
      cases hm
    · exact haside h
  · rename_i a b c d hG
    split at h
    · refine hput h fun g hg => ?_
      unfold mailM at hg
      obtain ⟨f', hl, hg2⟩ := Option.bind_eq_some_iff.1 hg
      obtain ⟨un, m1, m2, m3, m4, m5, m6, m7, m8, hgm⟩ := mailO_some hg2
      obtain ⟨e1, e2⟩ := hS f' (lookF_mem hl).1
      rw [hgm]
      refine ⟨e1, fun m hm => ?_⟩
      rcases List.mem_append.1 (show m ∈ f'.mails ++ [((un : Int), hdV q.2 - 48, q.2.extract 1 q.2.size)] from hm) with hm | hm
      · exact e2 m hm
      · rw [List.mem_singleton.1 hm]
        exact m8
    · exact haside h
  · exact haside h
theorem fol_all {nx : Int} {u : ByteArray} {L : List PM} (hnx : nx ≤ 10000) : ∀ {R : List PM} {S S' : SM}, (∀ q ∈ R, q ∈ L) → (∀ g ∈ S.fs, FolOf nx u L g) → takeAll nx u S R = some S' → ∀ g ∈ S'.fs, FolOf nx u L g
  | [], S, S', _, hS, h => by cases h; exact hS
  | q :: R, S, S', hR, hS, h => by
    unfold takeAll at h
    obtain ⟨S1, h1, h2⟩ := Option.bind_eq_some_iff.1 h
    exact fol_all hnx (fun x hx => hR x (List.mem_cons_of_mem _ hx)) (fol_take hnx (hR q List.mem_cons_self) hS h1) h2
theorem store_fol {L : List PM} {u : ByteArray} {S : SM} (h : storeB L = true) (hS : takeAll (nextM L) u S0 L = some S) : ∀ g ∈ S.fs, FolOf (nextM L) u L g := by
  obtain ⟨hg, nx0, hnm, n1, n2, _, _, _⟩ := store_facts h
  exact fol_all (by omega) (fun q hq => hq) (fun f hf => by cases hf) hS
theorem look_meta {L : List PM} {u f : ByteArray} {S : SM} {g : FM} (h : storeB L = true) (hS : takeAll (nextM L) u S0 L = some S) (hl : lookF f S.fs = some g) : metaM L u f = some (g.val, g.next) := by
  obtain ⟨hg, nx0, hnm, n1, n2, _, _, _⟩ := store_facts h
  obtain ⟨hm, hn⟩ := lookF_mem hl
  obtain ⟨⟨w, f2, k1, k2, k3, k4⟩, _⟩ := store_fol h hS g hm
  rw [hn] at k1 k2
  have k5 := ((folder_meta (by omega)).1 k2).2.1
  unfold metaM
  rw [(getM_mem hg.2.2).2 k1]
  show metaV w = _
  rw [k5, k3, k4]
theorem mail_is {L : List PM} {u : ByteArray} (h : storeB L = true) (hus : (47 : UInt8) ∉ u.data.toList) {q : PM} (hq : q ∈ L) : isMail u q = beginsB q.1 (mailsK u) := by
  rw [Bool.eq_iff_iff]
  refine ⟨mail_begins, fun hb => ?_⟩
  obtain ⟨r, hr⟩ := begins_parts hus hb
  obtain ⟨_, nx0, _, _, _, _, _, k⟩ := store_facts h
  rcases k _ hq with k | ⟨u', k1, _⟩
  · rw [k] at hr
    have h9 : splitL 47 vK.data.toList = [[118]] := rfl
    rw [h9] at hr
    simp at hr
  · unfold ownerM at k1
    rw [hr] at k1
    unfold isMail
    rw [hr]
    match r, k1 with
    | [], k1 => exact absurd k1 (by unfold ownerG; simp)
    | [c], k1 => exact absurd k1 (by unfold ownerG; simp)
    | [c, d], _ => exact decide_eq_true ⟨rfl, data_bs u⟩
    | _ :: _ :: _ :: _, k1 => exact absurd k1 (by unfold ownerG; simp)
theorem sum_count {L : List PM} {u : ByteArray} {S : SM} (h : storeB L = true) (hus : (47 : UInt8) ∉ u.data.toList) (hS : takeAll (nextM L) u S0 L = some S) : sumF S.fs = countM L u := by
  obtain ⟨S', k1, _, hI⟩ := take_all h hus
  rw [hS] at k1
  cases k1
  rw [hI.c]
  unfold countM
  congr 1
  exact List.filter_congr fun q hq => mail_is h hus hq
theorem count_six {L : List PM} {u : ByteArray} {S : SM} (h : storeB L = true) (hus : (47 : UInt8) ∉ u.data.toList) (hS : takeAll (nextM L) u S0 L = some S) (hk : (getM L (userK u)).isSome = true) : sumF S.fs ≤ 6 := by
  obtain ⟨hg, nx0, hnm, n1, n2, _, hlay, _⟩ := store_facts h
  obtain ⟨v, hv⟩ := Option.isSome_iff_exists.1 hk
  have h1 := hlay u ⟨_, (getM_mem hg.2.2).1 hv, rfl⟩
  rw [hnm] at h1
  unfold layF at h1
  rw [hS] at h1
  have h2 : ((lookF inboxT S.fs).isSome && decide (sumF S.fs ≤ 6)) = true := h1
  rw [Bool.and_eq_true, decide_eq_true_eq] at h2
  exact h2.2
def appT (L : List PM) (u f t : ByteArray) (fl : Int) : List PM × Int × Int :=
  if countM L u = 6 then (L, 0, 12) else if (metaD L u f).2 = 999 then (L, 0, 6) else if 60 < (appY L u f t fl).length then (L, 0, 7) else (appY L u f t fl, (metaD L u f).2, 0)
theorem d3_inj {a b : Nat} (ha : a < 1000) (hb : b < 1000) (h : d3 a = d3 b) : a = b := by
  have h1 := (d3_is a ha).2
  rw [h, (d3_is b hb).2] at h1
  exact (Option.some.inj h1).symm
theorem mails_not {u n f : ByteArray} {ms : List MMl} : ∀ p ∈ ms.map (mailP u n), p.1 ≠ folderK u f := fun p hp e => by
  obtain ⟨m, _, rfl⟩ := List.mem_map.1 hp
  have h9 := congrArg (fun x : ByteArray => x.data.toList) e
  simp only [mailP, folderK_data] at h9
  simp [bs] at h9
theorem same_name {fs : List FM} (hn : (fs.map (·.name)).Nodup) {a b : FM} (ha : a ∈ fs) (hb : b ∈ fs) (h : a.name = b.name) : a = b := by
  induction fs with
  | nil => cases ha
  | cons x fs ih =>
    rw [List.map_cons, List.nodup_cons] at hn
    rcases List.mem_cons.1 ha with ha1 | ha1
    · rcases List.mem_cons.1 hb with hb1 | hb1
      · rw [ha1, hb1]
      · exact absurd (List.mem_map.2 ⟨b, hb1, by rw [← h, ha1]⟩) hn.1
    · rcases List.mem_cons.1 hb with hb1 | hb1
      · exact absurd (List.mem_map.2 ⟨a, ha1, by rw [h, hb1]⟩) hn.1
      · exact ih hn.2 ha1 hb1
theorem look_self {fs : List FM} (hn : (fs.map (·.name)).Nodup) {g : FM} (hg : g ∈ fs) : lookF g.name fs = some g := by
  obtain ⟨g2, h2⟩ := Option.isSome_iff_exists.1 (look_mem' hg)
  obtain ⟨h3, h4⟩ := lookF_mem h2
  rw [h2, same_name hn h3 hg h4]
/-- A mail's key in the list is that of a mail on the desk. -/
theorem mail_there {L : List PM} {u f : ByteArray} {S : SM} {g : FM} {n : Nat} {v : ByteArray} (h : storeB L = true) (hus : (47 : UInt8) ∉ u.data.toList) (hfs : (47 : UInt8) ∉ f.data.toList) (hS : takeAll (nextM L) u S0 L = some S) (hl : lookF f S.fs = some g) (hn : n < 1000) (hm : (mailK u f (n : Int), v) ∈ L) : ∃ m ∈ g.mails, m.1 = (n : Int) ∧ mailV m = v := by
  have hnd := names_all (S := S0) List.nodup_nil hS
  have hd := (take_desk h hus hS).mem_iff.2 hm
  have hkd : (mailK u f (n : Int)).data.toList = 109 :: 47 :: (u.data.toList ++ 47 :: (f.data.toList ++ 47 :: d3 n)) := by simp [bs]
  have hsp : splitL 47 (mailK u f (n : Int)).data.toList = [109] :: u.data.toList :: f.data.toList :: splitL 47 (d3 n) := by
    rw [hkd]
    have e : (109 : UInt8) :: 47 :: (u.data.toList ++ 47 :: (f.data.toList ++ 47 :: d3 n)) = [109] ++ 47 :: (u.data.toList ++ 47 :: (f.data.toList ++ 47 :: d3 n)) := rfl
    rw [e, splitL_seg 47 [109] _ (by decide), splitL_seg 47 _ _ hus, splitL_seg 47 _ _ hfs]
  have how : ownerM (mailK u f (n : Int), v) = some u := by
    obtain ⟨_, nx0, _, _, _, _, _, k⟩ := store_facts h
    rcases k _ hm with k | ⟨u', k1, _⟩
    · exact absurd k (mailK_not _ _ _)
    · unfold ownerM at k1 ⊢
      rw [hsp] at k1 ⊢
      match hq : splitL 47 (d3 n), k1 with
      | [], k1 => exact absurd hq (splitL_ne 47 _)
      | [d], k1 =>
        show (if ([109] : List UInt8) = [109] then some (bs u.data.toList) else none) = some u
        rw [if_pos rfl, data_bs]
      | _ :: _ :: _, k1 => cases k1
  unfold deskX at hd
  rcases List.mem_append.1 hd with hd | hd
  · exfalso
    rw [all_aside hS] at hd
    have h3 : (mailK u f (n : Int), v) ∈ L.filter fun p => !isOwn u p := by simpa using hd
    have h5 := (List.mem_filter.1 h3).2
    rw [show isOwn u (mailK u f (n : Int), v) = true from decide_eq_true how] at h5
    cases h5
  · rcases List.mem_append.1 hd with hd | hd
    · exfalso
      unfold wordL at hd
      split at hd
      · cases hd
      · have h9 := congrArg Prod.fst (List.mem_singleton.1 hd)
        have h7 := congrArg (fun x : ByteArray => x.data.toList) h9
        simp [bs, ByteArray.data_append] at h7
    · obtain ⟨g2, hg2, hp⟩ := flat_mem hd
      unfold fPairs at hp
      rcases List.mem_cons.1 hp with hp | hp
      · exfalso
        have h9 := congrArg Prod.fst hp
        have h7 := congrArg (fun x : ByteArray => x.data.toList) h9
        simp only [folderK_data] at h7
        simp [bs] at h7
      · obtain ⟨m, hm1, hm2⟩ := List.mem_map.1 hp
        have h9 := congrArg Prod.fst hm2
        have h7 := congrArg (fun x : ByteArray => x.data.toList) h9
        have h6 : 109 :: 47 :: (u.data.toList ++ 47 :: (g2.name.data.toList ++ 47 :: d3 m.1.toNat)) = 109 :: 47 :: (u.data.toList ++ 47 :: (f.data.toList ++ 47 :: d3 n)) := by
          simpa [mailP, bs] using h7
        simp only [List.cons.injEq, true_and] at h6
        obtain ⟨_, h5⟩ := seg_inj hus hus h6
        obtain ⟨h4, h3⟩ := seg_inj (word_slash (name_short h hus hS hg2)) hfs h5
        have h2 : g2.name = f := bs_inj h4
        have h1 : g2 = g := by
          have h8 := look_self hnd hg2
          rw [h2, hl] at h8
          exact (Option.some.inj h8).symm
        subst h1
        have hft := (store_fit h hS g2 hg2).2.2.2.2.2 m hm1
        have h0 := d3_inj (by omega) hn h3
        exact ⟨m, hm1, by omega, congrArg Prod.snd hm2⟩
/-- The desk and the list, one folder told apart. -/
theorem desk_apart {L : List PM} {u f : ByteArray} {S : SM} {g : FM} (h : storeB L = true) (hus : (47 : UInt8) ∉ u.data.toList) (hfs : (47 : UInt8) ∉ f.data.toList) (hS : takeAll (nextM L) u S0 L = some S) (hw : S.word.toList ≠ []) (hl : lookF f S.fs = some g) :
    (notK (folderK u f) L).Perm ((vK, bs (itoa (nextM L))) :: (userK u, S.word) :: (notK vK S.aside ++ (g.mails.map (mailP u f) ++ flatF u (dropF f S.fs)))) := by
  have hnd := names_all (S := S0) List.nodup_nil hS
  refine (notK_perm (desk_list h hus hS hw)).trans ?_
  rw [notK_cons _ _ _ (folder_not u f).symm, notK_cons _ _ _ (fun e => by
    have h9 := congrArg (fun x : ByteArray => x.data.toList) e
    simp [ByteArray.data_append] at h9), notK_app]
  refine List.Perm.cons _ (List.Perm.cons _ ?_)
  have e1 : notK (folderK u f) (notK vK S.aside) = notK vK S.aside := notK_self fun p hp => by
    have h9 := aside_pass h hus hfs hS hp
    unfold passB at h9
    rw [Bool.and_eq_true, decide_eq_true_eq] at h9
    exact h9.1
  rw [e1]
  refine List.Perm.append_left _ ?_
  refine (notK_perm (flat_perm (drop_perm hl))).trans ?_
  rw [flat_cons, notK_app]
  have hgn := (lookF_mem hl).2
  have e2 : notK (folderK u f) (fPairs u g) = g.mails.map (mailP u f) := by
    unfold fPairs
    rw [hgn, notK_skip (folderK u f) (folderK u f, metaT g.val g.next) _ rfl, notK_self mails_not]
  have e3 : notK (folderK u f) (flatF u (dropF f S.fs)) = flatF u (dropF f S.fs) := notK_self fun p hp => by
    have h8 := rest_pass (fs := dropF f S.fs) hus hfs fun x hx => ⟨drop_names hnd x hx, word_slash (name_short h hus hS ((dropF_sub f S.fs).subset hx))⟩
    have h9 := List.filter_eq_self.1 h8 p hp
    unfold passB at h9
    rw [Bool.and_eq_true, decide_eq_true_eq] at h9
    exact h9.1
  rw [e2, e3]
def AppFits (L : List PM) (nx : Int) (u : ByteArray) (gx : Int) (q : Int) (S' : SM) (A : List PM × Int × Int) : Prop :=
  (q ≠ 0 → A = (L, 0, q)) ∧ (q = 0 → (∀ f ∈ S'.fs, FitF f) ∧ ∃ Y, UpL Y ∧ (deskP nx u S').Perm Y ∧ Y.length ≤ 4000 ∧ A = if 60 < Y.length then (L, 0, 7) else (Y, gx, 0))
theorem app_fits {L : List PM} {u f t : ByteArray} {fl : Int} {S S' : SM} {g : FM} {q : Int} (h : storeB L = true) (hsu : shortB u = true) (hsf : shortB f = true) (hts : t.size ≤ 1000) (f0 : 0 ≤ fl) (f1 : fl ≤ 3) (hS : takeAll (nextM L) u S0 L = some S) (hw : S.word.toList ≠ []) (hl : lookF f S.fs = some g) (hQ : apM S g fl t = (q, S')) : AppFits L (nextM L) u g.next q S' (appT L u f t fl) := by
  have hus := word_slash hsu
  have hfs := word_slash hsf
  obtain ⟨hg, nx0, hnm, n1, n2, _, _, _⟩ := store_facts h
  have hmd : metaD L u f = (g.val, g.next) := by unfold metaD; rw [look_meta h hS hl]; rfl
  have hgm := (lookF_mem hl).1
  have hgn := (lookF_mem hl).2
  have hs : (getM L (userK u)).isSome = true := by
    cases hv : getM L (userK u) with
    | none => exact absurd ((word_iff h hus hS).1.2 hv) hw
    | some v => rfl
  have h6 := count_six h hus hS hs
  have hsc := sum_count h hus hS
  unfold apM at hQ
  unfold appT
  rw [← hsc, hmd]
  by_cases hc : 6 ≤ sumF S.fs
  · rw [if_pos hc] at hQ
    cases hQ
    rw [if_pos (by omega)]
    exact ⟨fun _ => rfl, fun h9 => by cases h9⟩
  · rw [if_neg hc] at hQ
    rw [if_neg (by omega)]
    by_cases hx : g.next = 999
    · rw [if_pos hx] at hQ
      cases hQ
      rw [if_pos hx]
      exact ⟨fun _ => rfl, fun h9 => by cases h9⟩
    · rw [if_neg hx] at hQ
      cases hQ
      rw [if_neg hx]
      have hfit := store_fit h hS g hgm
      obtain ⟨p1, p2, p3, p4⟩ := meta_range (look_meta h hS hl)
      dsimp only at p1 p2 p3 p4
      obtain ⟨k1, k2⟩ := app_len hg u f t fl
      refine ⟨fun h9 => absurd rfl h9, fun _ => ⟨fun z hz => ?_, appY L u f t fl, k2, ?_, by omega, rfl⟩⟩
      · rcases putF_mem hz with hz | rfl
        · exact store_fit h hS z hz
        · obtain ⟨e1, e2, e3, e4, e5, e6⟩ := hfit
          refine ⟨e1, e2, by show 0 ≤ g.next + 1; omega, by show g.next + 1 ≤ 10000; omega, e5, fun m hm => ?_⟩
          rcases List.mem_append.1 (show m ∈ g.mails ++ [(g.next, fl, t)] from hm) with hm | hm
          · exact e6 m hm
          · rw [List.mem_singleton.1 hm]
            exact ⟨by show 0 ≤ g.next; omega, by show g.next < 1000; omega, f0, f1, hts⟩
      · unfold appY
        rw [hmd]
        dsimp only
        have hu1 := ins_up (k := folderK u f) (v := metaT g.val (g.next + 1)) hg.2.2
        refine List.Perm.trans ?_ (ins_perm hu1).symm
        have hno : notK (mailK u f g.next) (insL (folderK u f) (metaT g.val (g.next + 1)) L) = insL (folderK u f) (metaT g.val (g.next + 1)) L := notK_self fun x hx2 e => by
          rcases ins_mem hg.2.2 hx2 with rfl | hx2
          · have h9 := congrArg (fun x : ByteArray => x.data.toList) e
            simp only [folderK_data] at h9
            simp [bs] at h9
          · have hx3 : (mailK u f ((g.next.toNat : Nat) : Int), x.2) ∈ L := by
              rw [show ((g.next.toNat : Nat) : Int) = g.next by omega, ← e]
              exact hx2.1
            obtain ⟨m, hm1, hm2, _⟩ := mail_there h hus hfs hS hl (by omega) hx3
            have h8 := (store_fol h hS g hgm).2 m hm1
            omega
        rw [hno]
        refine List.Perm.trans ?_ (List.Perm.cons _ (ins_perm hg.2.2).symm)
        refine List.Perm.trans ?_ (List.Perm.cons _ (List.Perm.cons _ (desk_apart h hus hfs hS hw hl).symm))
        unfold deskP
        have hfl : (flatF u (putF (moreF g fl t) S.fs)).Perm (fPairs u (moreF g fl t) ++ flatF u (dropF f S.fs)) := by
          have h9 := flat_perm (u := u) (put_perm (g := moreF g fl t) (f := g) (fs := S.fs) (by show lookF g.name S.fs = some g; rw [hgn]; exact hl))
          rw [flat_cons] at h9
          have e9 : (moreF g fl t).name = f := hgn
          rw [e9] at h9
          exact h9
        have hfp : fPairs u (moreF g fl t) = (folderK u f, metaT g.val (g.next + 1)) :: (g.mails.map (mailP u f) ++ [(mailK u f g.next, mailV (g.next, fl, t))]) := by
          unfold fPairs moreF
          dsimp only
          rw [hgn, List.map_append]
          rfl
        refine (List.Perm.cons _ (List.Perm.cons _ (List.Perm.append_left _ hfl))).trans ?_
        rw [hfp]
        -- v, u, A ++ (F :: (ms ++ [m]) ++ r)  against  m :: F :: v :: u :: (A ++ (ms ++ r))
        have e1 : ∀ (v w F m : PM) (A ms r : List PM), (v :: w :: (A ++ ((F :: (ms ++ [m])) ++ r))).Perm (m :: F :: v :: w :: (A ++ (ms ++ r))) := fun v w F m A ms r => by
          have p1 : (A ++ ((F :: (ms ++ [m])) ++ r)).Perm (m :: F :: (A ++ (ms ++ r))) := by
            have p2 : ((F :: (ms ++ [m])) ++ r).Perm (m :: F :: (ms ++ r)) := by
              have p3 : ((ms ++ [m]) ++ r).Perm (m :: (ms ++ r)) := by
                rw [List.append_assoc]
                exact List.perm_middle
              exact (List.Perm.cons F p3).trans (List.Perm.swap _ _ _)
            refine (List.Perm.append_left A p2).trans ?_
            refine (List.perm_middle).trans ?_
            exact List.Perm.cons _ List.perm_middle
          refine (List.Perm.cons v (List.Perm.cons w p1)).trans ?_
          refine (List.Perm.cons v (List.Perm.swap _ _ _)).trans ?_
          refine (List.Perm.swap _ _ _).trans ?_
          refine List.Perm.cons m ?_
          refine (List.Perm.cons v (List.Perm.swap _ _ _)).trans ?_
          exact List.Perm.swap _ _ _
        exact e1 _ _ _ _ _ _ _
theorem appR_T {L : List PM} {u f t : ByteArray} {fl : Int} (h : knownR L u f = 0) : appR L u f t fl = appT L u f t fl := by
  unfold appR appT
  rw [if_neg (by simp [h])]
theorem src_2S {w : World} {s t : ByteArray} {B ty : Nat} (hB : B = w.heap.size) : Src (w.alloc (.cells #[.string s, .string t] ty)) (some ⟨B, 0, none⟩) (cellsS [s, t]) := by
  have hb : Box (w.alloc (.cells #[.string s, .string t] ty)) B [.string s, .string t] := Box.new hB
  refine .inr ⟨B, 0, rfl, fun j hj => ?_⟩
  have hj4 : j < 2 := hj
  rw [Nat.zero_add]
  match j, hj4 with
  | 0, _ => exact (hb 0 _ rfl).1
  | 1, _ => exact (hb 1 _ rfl).1
theorem ask_zero2 {L : List PM} {x y : ByteArray} (h : askM L [x, y] = 0) : storeB L = true ∧ shortB x = true ∧ shortB y = true := by
  unfold askM at h
  split at h
  · cases h
  · split at h
    · cases h
    · rename_i h1
      split at h
      · cases h
      · rename_i h2
        refine ⟨by simpa using h1, ?_⟩
        simpa using h2
def lawM2 (A : List PM × Int) (k : Int) : List PM × Int := if k = 0 then A else ([], k)
theorem store_src {L : List PM} {w : World} {a : Option Addr} (h : storeB L = true) (hs : Src w a (cellsP L)) : ∃ b o, a = some ⟨b, o, none⟩ := by
  obtain ⟨hg, nx0, hnm, n1, n2, _, _, _⟩ := store_facts h
  have hne : L ≠ [] := fun e => by
    rw [hnm, e] at n1
    have h9 : nextM [] = 0 := rfl
    omega
  rcases hs with hs | ⟨b, o, rfl, _⟩
  · have h9 := cellsP_length L
    rw [hs] at h9
    have : L.length = 0 := by simp at h9; omega
    exact absurd (List.eq_nil_of_length_eq_zero this) hne
  · exact ⟨b, o, rfl⟩
theorem lack_known {L : List PM} {u f : ByteArray} {S : SM} (h : storeB L = true) (hus : (47 : UInt8) ∉ u.data.toList) (hfs : (47 : UInt8) ∉ f.data.toList) (hS : takeAll (nextM L) u S0 L = some S) : lackM S.word S.fs [f] = knownR L u f := by
  obtain ⟨hwi, _⟩ := word_iff h hus hS
  obtain ⟨hli, _⟩ := look_iff h hus hS hfs
  unfold lackM knownR
  by_cases hw : S.word.toList = []
  · rw [if_pos hw, hwi.1 hw]
    rfl
  · have hs : (getM L (userK u)).isSome = true := by
      cases hv : getM L (userK u) with
      | none => exact absurd (hwi.2 hv) hw
      | some v => rfl
    have hall : [f].all (fun s => (lookF s S.fs).isSome) = (lookF f S.fs).isSome := by simp
    rw [if_neg hw, hs, hall, hli]
    rfl
theorem known_zero {L : List PM} {u f : ByteArray} {S : SM} (h : storeB L = true) (hus : (47 : UInt8) ∉ u.data.toList) (hfs : (47 : UInt8) ∉ f.data.toList) (hS : takeAll (nextM L) u S0 L = some S) (hk : knownR L u f = 0) : S.word.toList ≠ [] ∧ ∃ g, lookF f S.fs = some g := by
  rw [← lack_known h hus hfs hS] at hk
  unfold lackM at hk
  split at hk
  · cases hk
  · rename_i hw
    split at hk
    · cases hk
    · rename_i hb
      refine ⟨hw, Option.isSome_iff_exists.1 ?_⟩
      cases h9 : (lookF f S.fs).isSome with
      | true => rfl
      | false => exact absurd (by show ((lookF f S.fs).isSome && true) = false; rw [h9]; rfl) hb
theorem l01InS (n lo hi : Int) (b : Bool) (w : World) (h : (decide (lo ≤ n) && decide (n ≤ hi)) = b) : Calls Tryz.prog 49 #[.int .i64 n, .int .i64 lo, .int .i64 hi] w fun e w' => e = .returned (.bool b) ∧ w' = w := by
  by_cases h1 : lo ≤ n
  · by_cases h2 : n ≤ hi
    · obtain rfl : true = b := by rw [← h, decide_eq_true h1, decide_eq_true h2]; rfl
      clear h
      go_enter Tryz.func49, Tryz.ntmps49
      go_wp2_with fail
      go_ret
      exact ⟨rfl, rfl⟩
    · obtain rfl : false = b := by rw [← h, decide_eq_false h2]; simp
      clear h
      go_enter Tryz.func49, Tryz.ntmps49
      go_wp2_with fail
      go_ret
      exact ⟨rfl, rfl⟩
  · obtain rfl : false = b := by rw [← h, decide_eq_false h1]; rfl
    clear h
    go_enter Tryz.func49, Tryz.ntmps49
    go_wp2_with fail
    go_ret
    exact ⟨rfl, rfl⟩
theorem hasU {L : List PM} {u : ByteArray} {S : SM} (h : storeB L = true) (hus : (47 : UInt8) ∉ u.data.toList) (hS : takeAll (nextM L) u S0 L = some S) (hw : S.word.toList ≠ []) : ∃ q ∈ L, q.1 = userK u := by
  cases hv : getM L (userK u) with
  | none => exact absurd ((word_iff h hus hS).1.2 hv) hw
  | some v => exact ⟨_, (getM_mem (store_facts h).1.2.2).1 hv, rfl⟩
theorem mail_val {L : List PM} {u f : ByteArray} {n : Nat} {v : ByteArray} (h : storeB L = true) (hus : (47 : UInt8) ∉ u.data.toList) (hfs : (47 : UInt8) ∉ f.data.toList) (hU : ∃ q ∈ L, q.1 = userK u) (hn : n < 1000) (hm : (mailK u f (n : Int), v) ∈ L) : 1 ≤ v.size ∧ v.size ≤ 86 ∧ 48 ≤ hdV v ∧ hdV v ≤ 51 ∧ 1 ≤ n := by
  obtain ⟨hg, nx0, hnm, n1, n2, _, hlay, k⟩ := store_facts h
  have hkd : (mailK u f (n : Int)).data.toList = 109 :: 47 :: (u.data.toList ++ 47 :: (f.data.toList ++ 47 :: d3 n)) := by simp [bs]
  have hsp : splitL 47 (mailK u f (n : Int)).data.toList = [109] :: u.data.toList :: f.data.toList :: splitL 47 (d3 n) := by
    rw [hkd]
    have e : (109 : UInt8) :: 47 :: (u.data.toList ++ 47 :: (f.data.toList ++ 47 :: d3 n)) = [109] ++ 47 :: (u.data.toList ++ 47 :: (f.data.toList ++ 47 :: d3 n)) := rfl
    rw [e, splitL_seg 47 [109] _ (by decide), splitL_seg 47 _ _ hus, splitL_seg 47 _ _ hfs]
  have h1 := (lay_iff (nx := nx0) (by omega) hg.2.2 hus).1 (hlay u hU)
  rcases k _ hm with k | ⟨u', k1, _⟩
  · exact absurd k (mailK_not _ _ _)
  · match hq : splitL 47 (d3 n) with
    | [] => exact absurd hq (splitL_ne 47 _)
    | [d] =>
      have hd : d3 n = d := (split_one hq).1
      have how : ownerM (mailK u f (n : Int), v) = some u := by
        unfold ownerM
        rw [hsp, hq]
        show (if ([109] : List UInt8) = [109] then some (bs u.data.toList) else none) = some u
        rw [if_pos rfl, data_bs]
      have h2 := h1.1 _ hm how
      rw [hsp, hq] at h2
      obtain ⟨w, f2, _, _, h3⟩ := h2
      obtain ⟨n9, e1, _, e3, e4, e5, e6, e7, _⟩ := mailO_iff.1 h3
      rw [← hd, (d3_is n hn).2] at e1
      cases e1
      exact ⟨e3, e4, e5, e6, by omega⟩
    | _ :: _ :: _ =>
      unfold ownerM at k1
      rw [hsp, hq] at k1
      cases k1
theorem mail_pair {L : List PM} {u f : ByteArray} {S : SM} {g : FM} {m : MMl} (h : storeB L = true) (hus : (47 : UInt8) ∉ u.data.toList) (hS : takeAll (nextM L) u S0 L = some S) (hl : lookF f S.fs = some g) (hm : m ∈ g.mails) : (mailK u f m.1, mailV m) ∈ L := by
  obtain ⟨h1, h2⟩ := lookF_mem hl
  refine (take_desk h hus hS).mem_iff.1 ?_
  unfold deskX
  refine List.mem_append_right _ (List.mem_append_right _ (List.mem_flatMap.2 ⟨g, h1, ?_⟩))
  unfold fPairs
  refine List.mem_cons_of_mem _ (List.mem_map.2 ⟨m, hm, ?_⟩)
  rw [h2]
  rfl
theorem mailV_parts {m : MMl} (h0 : 0 ≤ m.2.1) (h1 : m.2.1 ≤ 3) : (mailV m).extract 1 (mailV m).size = m.2.2 ∧ hdV (mailV m) - 48 = m.2.1 := by
  have hit : ∃ c : UInt8, itoa m.2.1 = [c] ∧ (c.toNat : Int) = 48 + m.2.1 := by
    refine ⟨UInt8.ofNat (48 + m.2.1.toNat), ?_, ?_⟩
    · unfold itoa
      rw [if_neg (by omega)]
      unfold decDigits
      rw [dif_pos (by omega)]
    · have h2 : (UInt8.ofNat (48 + m.2.1.toNat)).toNat = 48 + m.2.1.toNat := by simp [UInt8.toNat_ofNat']; omega
      rw [h2]
      omega
  obtain ⟨c, hc, hcn⟩ := hit
  have hd : (mailV m).data.toList = c :: m.2.2.data.toList := by
    unfold mailV
    rw [ByteArray.data_append, Array.toList_append, hc]
    simp [bs]
  constructor
  · apply bs_inj
    rw [ByteArray.data_extract, Array.toList_extract, hd]
    have h9 : (mailV m).size = (c :: m.2.2.data.toList).length := by rw [← hd]; simp
    rw [h9]
    simp [List.extract]
    exact List.take_of_length_le (by simp)
  · unfold hdV
    rw [hd]
    show (c.toNat : Int) - 48 = m.2.1
    omega
def cpT (L : List PM) (u f : ByteArray) (un : Int) (tf : ByteArray) : List PM × Int × Int :=
  if (decide (1 ≤ un) && decide (un ≤ 999)) = false then (L, 0, 5) else match getM L (mailK u f un) with
    | none => (L, 0, 5)
    | some v => appR L u tf (v.extract 1 v.size) (hdV v - 48)
def cpR (L : List PM) (u f : ByteArray) (un : Int) (tf : ByteArray) : List PM × Int × Int :=
  if knownR L u f ≠ 0 then (L, 0, knownR L u f) else if knownR L u tf ≠ 0 then (L, 0, knownR L u tf) else cpT L u f un tf
theorem cp_miss {L : List PM} {u f tf : ByteArray} {S : SM} {g : FM} {un : Int} (h : storeB L = true) (hus : (47 : UInt8) ∉ u.data.toList) (hfs : (47 : UInt8) ∉ f.data.toList) (hS : takeAll (nextM L) u S0 L = some S) (hl : lookF f S.fs = some g) (hm : ∀ m ∈ g.mails, m.1 ≠ un) : cpT L u f un tf = (L, 0, 5) := by
  unfold cpT
  by_cases hr : (decide (1 ≤ un) && decide (un ≤ 999)) = false
  · rw [if_pos hr]
  · rw [if_neg hr]
    cases hv : getM L (mailK u f un) with
    | none => rfl
    | some v =>
      exfalso
      have hr2 : 1 ≤ un ∧ un ≤ 999 := by
        by_cases e : 1 ≤ un ∧ un ≤ 999
        · exact e
        · exact absurd (by
            by_cases e1 : 1 ≤ un
            · have e2 : ¬ un ≤ 999 := fun h9 => e ⟨e1, h9⟩
              rw [decide_eq_false e2]; simp
            · rw [decide_eq_false e1]; rfl) hr
      have hp := (getM_mem (store_facts h).1.2.2).1 hv
      have hp2 : (mailK u f ((un.toNat : Nat) : Int), v) ∈ L := by rw [show ((un.toNat : Nat) : Int) = un by omega]; exact hp
      obtain ⟨m, m1, m2, _⟩ := mail_there h hus hfs hS hl (by omega) hp2
      exact hm m m1 (by omega)
set_option maxHeartbeats 4000000 in
theorem l07CopyC (b o n c : Nat) (L : List PM) (hL : L.length = n) (hc : n ≤ c) (hc9 : c ≤ maxLen) (hg : GoodL L) (u f tf : ByteArray) (un : Int) (hus : u.size ≤ 8) (hfs : f.size ≤ 8) (hts : tf.size ≤ 8) (hval : knownR L u f = 0 → ∀ v, 1 ≤ un → un ≤ 999 → getM L (mailK u f un) = some v → 1 ≤ v.size ∧ v.size ≤ 86 ∧ 48 ≤ hdV v ∧ hdV v ≤ 51) (w : World) (h : Src w (some ⟨b, o, none⟩) (cellsP L)) (R : List PM) (q1 q2 : Int) (HR : Hid (cpR L u f un tf = (R, q1, q2))) :
    Calls Tryz.prog 100 #[.slice (some ⟨b, o, none⟩) n c, .string u, .string f, .int .i64 un, .string tf] w fun e w' => ∃ a2 n2 c2, e = .returned (.tuple #[.slice a2 n2 c2, .int .i64 q1, .int .i64 q2]) ∧ LenC R n2 c2 ∧ Src w' a2 (cellsP R) ∧ Below w.heap.size w w' := by
  have hn60 := hg.1
  rw [hL] at hn60
  have HLN : Hid (LenC L n c ∧ Src w (some ⟨b, o, none⟩) (cellsP L)) := ⟨⟨hL, hc, hc9⟩, h⟩
  have HBAD : Hid (∀ (W : World) (z1 z2 : Int), Below w.heap.size w W → (L, z1, z2) = (R, q1, q2) → ∃ a2 n2 c2, Ending.returned (Value.tuple #[.slice (some ⟨b, o, none⟩) n c, .int .i64 z1, .int .i64 z2]) = Ending.returned (.tuple #[.slice a2 n2 c2, .int .i64 q1, .int .i64 q2]) ∧ LenC R n2 c2 ∧ Src W a2 (cellsP R) ∧ Below w.heap.size w W) := fun W z1 z2 hW he => by
    cases he
    exact ⟨_, _, _, rfl, HLN.out.1, HLN.out.2.below hW, hW⟩
  have CK := l07KnownS (some ⟨b, o, none⟩) n c L hL hg u f (by omega) (by omega) w h _ rfl
  have CK2 := fun W (hW : Below w.heap.size w W) => l07KnownS (some ⟨b, o, none⟩) n c L hL hg u tf (by omega) (by omega) W (h.below hW) _ rfl
  have HR1 := HR.out
  unfold cpR at HR1
  obtain ⟨k1, hk1⟩ : ∃ z, knownR L u f = z := ⟨_, rfl⟩
  obtain ⟨k2, hk2⟩ : ∃ z, knownR L u tf = z := ⟨_, rfl⟩
  rw [hk1] at CK HR1 hval
  simp only [hk2] at CK2
  rw [hk2] at HR1
  by_cases e1 : k1 = 0
  case neg =>
    rw [if_pos e1] at HR1
    have HF := fun W hW => HBAD.out W 0 k1 hW HR1
    have HFH : Hid (∀ W, Below w.heap.size w W → ∃ a2 n2 c2, Ending.returned (Value.tuple #[.slice (some ⟨b, o, none⟩) n c, .int .i64 0, .int .i64 k1]) = Ending.returned (.tuple #[.slice a2 n2 c2, .int .i64 q1, .int .i64 q2]) ∧ LenC R n2 c2 ∧ Src W a2 (cellsP R) ∧ Below w.heap.size w W) := HF
    have hki : (k1 != 0) = true := by simpa using e1
    clear hL h hg HR HR1 hk1 hk2 CK2 HF HBAD hval
    go_enter Tryz.func100, Tryz.ntmps100
    go_wp2_with fail
    refine CK.mono ?_
    rintro e w1 ⟨rfl, hb1⟩
    have HG : Hid (∃ a2 n2 c2, Ending.returned (Value.tuple #[.slice (some ⟨b, o, none⟩) n c, .int .i64 0, .int .i64 k1]) = Ending.returned (.tuple #[.slice a2 n2 c2, .int .i64 q1, .int .i64 q2]) ∧ LenC R n2 c2 ∧ Src w1 a2 (cellsP R) ∧ Below w.heap.size w w1) := HFH.out w1 hb1
    clear hb1 CK HFH
    go_wp2_with fail
    exact bodyPost_ret (v := .tuple #[.slice (some ⟨b, o, none⟩) n c, .int .i64 0, .int .i64 k1]) (by simp [results, Tryz.results100, go_sem]) rfl HG.out
  subst e1
  rw [if_neg (by decide)] at HR1
  by_cases e2 : k2 = 0
  case neg =>
    rw [if_pos e2] at HR1
    have HFH : Hid (∀ W, Below w.heap.size w W → ∃ a2 n2 c2, Ending.returned (Value.tuple #[.slice (some ⟨b, o, none⟩) n c, .int .i64 0, .int .i64 k2]) = Ending.returned (.tuple #[.slice a2 n2 c2, .int .i64 q1, .int .i64 q2]) ∧ LenC R n2 c2 ∧ Src W a2 (cellsP R) ∧ Below w.heap.size w W) := fun W hW => HBAD.out W 0 k2 hW HR1
    have hki : (k2 != 0) = true := by simpa using e2
    clear hL h hg HR HR1 hk1 hk2 HBAD hval
    go_enter Tryz.func100, Tryz.ntmps100
    go_wp2_with fail
    refine CK.mono ?_
    rintro e w1 ⟨rfl, hb1⟩
    have B1 : Hid (Below w.heap.size w w1) := hb1
    have CK3 := CK2 w1 hb1
    clear hb1 CK CK2
    go_wp2_with fail
    refine CK3.mono ?_
    rintro e w2 ⟨rfl, hb2⟩
    have HG : Hid (∃ a2 n2 c2, Ending.returned (Value.tuple #[.slice (some ⟨b, o, none⟩) n c, .int .i64 0, .int .i64 k2]) = Ending.returned (.tuple #[.slice a2 n2 c2, .int .i64 q1, .int .i64 q2]) ∧ LenC R n2 c2 ∧ Src w2 a2 (cellsP R) ∧ Below w.heap.size w w2) := HFH.out w2 (B1.out.trans (hb2.mono B1.out.size))
    clear hb2 CK3 HFH
    go_wp2_with fail
    exact bodyPost_ret (v := .tuple #[.slice (some ⟨b, o, none⟩) n c, .int .i64 0, .int .i64 k2]) (by simp [results, Tryz.results100, go_sem]) rfl HG.out
  subst e2
  rw [if_neg (by decide)] at HR1
  unfold cpT at HR1
  cases hrg : (decide (1 ≤ un) && decide (un ≤ 999)) with
  | false =>
    rw [if_pos hrg] at HR1
    have HFH : Hid (∀ W, Below w.heap.size w W → ∃ a2 n2 c2, Ending.returned (Value.tuple #[.slice (some ⟨b, o, none⟩) n c, .int .i64 0, .int .i64 5]) = Ending.returned (.tuple #[.slice a2 n2 c2, .int .i64 q1, .int .i64 q2]) ∧ LenC R n2 c2 ∧ Src W a2 (cellsP R) ∧ Below w.heap.size w W) := fun W hW => HBAD.out W 0 5 hW HR1
    have CI := fun W => l01InS un 1 999 false W hrg
    clear hL h hg HR HR1 hk1 hk2 HBAD hval hrg
    go_enter Tryz.func100, Tryz.ntmps100
    go_wp2_with fail
    refine CK.mono ?_
    rintro e w1 ⟨rfl, hb1⟩
    have B1 : Hid (Below w.heap.size w w1) := hb1
    have CK3 := CK2 w1 hb1
    clear hb1 CK CK2
    go_wp2_with fail
    refine CK3.mono ?_
    rintro e w2 ⟨rfl, hb2⟩
    have HG : Hid (∃ a2 n2 c2, Ending.returned (Value.tuple #[.slice (some ⟨b, o, none⟩) n c, .int .i64 0, .int .i64 5]) = Ending.returned (.tuple #[.slice a2 n2 c2, .int .i64 q1, .int .i64 q2]) ∧ LenC R n2 c2 ∧ Src w2 a2 (cellsP R) ∧ Below w.heap.size w w2) := HFH.out w2 (B1.out.trans (hb2.mono B1.out.size))
    clear hb2 CK3 HFH
    go_wp2_with fail
    refine (CI _).mono ?_
    rintro e w3 ⟨rfl, hw3⟩
    obtain rfl := hw3
    go_wp2_with fail
    exact bodyPost_ret (v := .tuple #[.slice (some ⟨b, o, none⟩) n c, .int .i64 0, .int .i64 5]) (by simp [results, Tryz.results100, go_sem]) rfl HG.out
  | true =>
    rw [if_neg (by rw [hrg]; decide)] at HR1
    have hr2 : 1 ≤ un ∧ un ≤ 999 := by
      rw [Bool.and_eq_true, decide_eq_true_eq, decide_eq_true_eq] at hrg
      exact hrg
    have CI := fun W => l01InS un 1 999 true W hrg
    obtain ⟨nn, rfl⟩ : ∃ nn : Nat, un = (nn : Int) := ⟨un.toNat, by omega⟩
    have CML := fun W => l07MailS u f nn (by omega) (by omega) (by omega) W
    have CG := fun W (hW : Below w.heap.size w W) => l01GetM (some ⟨b, o, none⟩) n c L (mailK u f (nn : Int)) W hL hg (h.below hW)
    have hval2 := fun v => hval rfl v hr2.1 hr2.2
    clear hrg hr2 hval
    cases hv : getM L (mailK u f (nn : Int)) with
    | none =>
      rw [hv] at HR1
      simp only [hv] at CG
      have HFH : Hid (∀ W, Below w.heap.size w W → ∃ a2 n2 c2, Ending.returned (Value.tuple #[.slice (some ⟨b, o, none⟩) n c, .int .i64 0, .int .i64 5]) = Ending.returned (.tuple #[.slice a2 n2 c2, .int .i64 q1, .int .i64 q2]) ∧ LenC R n2 c2 ∧ Src W a2 (cellsP R) ∧ Below w.heap.size w W) := fun W hW => HBAD.out W 0 5 hW HR1
      obtain ⟨MK, hMK⟩ : ∃ x, mailK u f (nn : Int) = x := ⟨_, rfl⟩
      simp only [hMK] at CML CG
      clear hL h hg HR HR1 hk1 hk2 HBAD hval2 hv hMK
      go_enter Tryz.func100, Tryz.ntmps100
      go_wp2_with fail
      refine CK.mono ?_
      rintro e w1 ⟨rfl, hb1⟩
      have B1 : Hid (Below w.heap.size w w1) := hb1
      have CK3 := CK2 w1 hb1
      clear hb1 CK CK2
      go_wp2_with fail
      refine CK3.mono ?_
      rintro e w2 ⟨rfl, hb2⟩
      have B2 : Hid (Below w.heap.size w w2) := B1.out.trans (hb2.mono B1.out.size)
      clear hb2 CK3
      go_wp2_with fail
      refine (CI _).mono ?_
      rintro e w3 ⟨rfl, hw3⟩
      obtain rfl := hw3
      clear CI
      go_wp2_with fail
      refine (CML _).mono ?_
      rintro e w4 ⟨rfl, hb4⟩
      have B4 : Hid (Below w.heap.size w w4) := B2.out.trans (hb4.mono B2.out.size)
      have CG4 := CG w4 B4.out
      have HG : Hid (∃ a2 n2 c2, Ending.returned (Value.tuple #[.slice (some ⟨b, o, none⟩) n c, .int .i64 0, .int .i64 5]) = Ending.returned (.tuple #[.slice a2 n2 c2, .int .i64 q1, .int .i64 q2]) ∧ LenC R n2 c2 ∧ Src w4 a2 (cellsP R) ∧ Below w.heap.size w w4) := HFH.out w4 B4.out
      clear hb4 CML CG HFH
      go_wp2_with fail
      refine CG4.mono ?_
      rintro e w5 ⟨rfl, hw5⟩
      obtain rfl := hw5
      clear CG4
      go_wp2_with fail
      exact bodyPost_ret (v := .tuple #[.slice (some ⟨b, o, none⟩) n c, .int .i64 0, .int .i64 5]) (by simp [results, Tryz.results100, go_sem]) rfl HG.out
    | some v =>
      rw [hv] at HR1
      simp only [hv] at CG
      obtain ⟨z1, z2, z3, z4⟩ := hval2 v hv
      have hts2 : (v.extract 1 v.size).size ≤ 85 := by
        rw [ByteArray.size_extract]
        omega
      have CP := fun W (hW : Below w.heap.size w W) => l07AppendC b o n c L hL hc hc9 hg u tf (v.extract 1 v.size) (hdV v - 48) hus hts hts2 (by omega) (by omega) W (h.below hW) R q1 q2 HR1
      have hv0 : 0 < v.size := by omega
      have hcut : ∀ W : World, (Instr.slice 9 (.string v) (some (.int .i64 1)) none none).run Tryz.prog W = .ok (.string (v.extract 1 v.size)) W := fun W => by
        have := run_slice_string_l (P := Tryz.prog) (w := W) (t := 9) (s := v) Tryz.underlying9 .i64 1 (by omega) (by omega)
        exact this
      have hhd : (v[0].toNat : Int) = hdV v := by
        unfold hdV
        have e9 : v.data.toList.headD 0 = v[0] := by
          cases hvl : v.data.toList with
          | nil =>
            have h9 : v.data.toList.length = v.size := by simp
            rw [hvl] at h9
            simp at h9
            omega
          | cons c0 r0 =>
            have h9 : v[0] = v.data.toList[0]'(by rw [hvl]; simp) := rfl
            rw [h9]
            simp [hvl]
        rw [e9]
      obtain ⟨tx, htx⟩ : ∃ x, v.extract 1 v.size = x := ⟨_, rfl⟩
      simp only [htx] at CP hcut
      obtain ⟨hh, hhh⟩ : ∃ x : Int, hdV v = x := ⟨_, rfl⟩
      rw [hhh] at hhd z3 z4
      simp only [hhh] at CP
      have w8 : IntKind.u8.wrap (hh - 48) = hh - 48 := by
        simp [IntKind.wrap, IntKind.bits, IntKind.signed]
        omega
      have w64 : IntKind.i64.wrap (hh - 48) = hh - 48 := wrapI _ (by omega) (by omega)
      obtain ⟨MK, hMK⟩ : ∃ x, mailK u f (nn : Int) = x := ⟨_, rfl⟩
      simp only [hMK] at CML CG
      clear hL h hg HR HR1 hk1 hk2 HBAD hval2 hv hMK htx hhh hts2
      go_enter Tryz.func100, Tryz.ntmps100
      go_wp2_with fail
      refine CK.mono ?_
      rintro e w1 ⟨rfl, hb1⟩
      have B1 : Hid (Below w.heap.size w w1) := hb1
      have CK3 := CK2 w1 hb1
      clear hb1 CK CK2
      go_wp2_with fail
      refine CK3.mono ?_
      rintro e w2 ⟨rfl, hb2⟩
      have B2 : Hid (Below w.heap.size w w2) := B1.out.trans (hb2.mono B1.out.size)
      clear hb2 CK3
      go_wp2_with fail
      refine (CI _).mono ?_
      rintro e w3 ⟨rfl, hw3⟩
      obtain rfl := hw3
      clear CI
      go_wp2_with fail
      refine (CML _).mono ?_
      rintro e w4 ⟨rfl, hb4⟩
      have B4 : Hid (Below w.heap.size w w4) := B2.out.trans (hb4.mono B2.out.size)
      have CG4 := CG w4 B4.out
      clear hb4 CML CG
      go_wp2_with fail
      refine CG4.mono ?_
      rintro e w5 ⟨rfl, hw5⟩
      obtain rfl := hw5
      clear CG4
      have CP5 := CP w5.drew B4.out.drew
      clear CP
      go_upto_region 12 with fail
      refine wp_region_noPanic ?_
      refine wp_region_held_drew (S := fun w' => True) (by kernel_rfl) trivial (fun hHeld => ?_)
      refine tkA (i := 0) (v := .slice (some ⟨b, o, none⟩) n c) ?_ hHeld ?_
      · intro w9 hSw
        go_simp
      simp only [Act.put, List.setIfInBounds_toArray, List.set_cons_zero, List.set_cons_succ]
      refine tkA (i := 1) (v := .string u) ?_ hHeld ?_
      · intro w9 hSw
        go_simp
      simp only [Act.put, List.setIfInBounds_toArray, List.set_cons_zero, List.set_cons_succ]
      refine tkA (i := 2) (v := .string tf) ?_ hHeld ?_
      · intro w9 hSw
        go_simp
      simp only [Act.put, List.setIfInBounds_toArray, List.set_cons_zero, List.set_cons_succ]
      refine tkA (i := 3) (v := .string v) ?_ hHeld ?_
      · intro w9 hSw
        go_simp
      simp only [Act.put, List.setIfInBounds_toArray, List.set_cons_zero, List.set_cons_succ]
      refine tkA (i := 4) (v := .string tx) ?_ hHeld ?_
      · intro w9 hSw
        have h9 := hcut w9
        go_simp
      simp only [Act.put, List.setIfInBounds_toArray, List.set_cons_zero, List.set_cons_succ]
      refine tkA (i := 5) (v := .string v) ?_ hHeld ?_
      · intro w9 hSw
        go_simp
      simp only [Act.put, List.setIfInBounds_toArray, List.set_cons_zero, List.set_cons_succ]
      refine tkA (i := 6) (v := .int .u8 hh) ?_ hHeld ?_
      · intro w9 hSw
        go_simp
      simp only [Act.put, List.setIfInBounds_toArray, List.set_cons_zero, List.set_cons_succ]
      refine tkA (i := 7) (v := .int .u8 (hh - 48)) ?_ hHeld ?_
      · intro w9 hSw
        go_simp
      simp only [Act.put, List.setIfInBounds_toArray, List.set_cons_zero, List.set_cons_succ]
      refine tkA (i := 8) (v := .int .i64 (hh - 48)) ?_ hHeld ?_
      · intro w9 hSw
        go_simp
      simp only [Act.put, List.setIfInBounds_toArray, List.set_cons_zero, List.set_cons_succ]
      refine wpAnyH_ready (rs := [9]) (by kernel_rfl) (by simp) ?_
      refine AllReadyH.cons rfl (fun K hK => ?_) AllReadyH.nil
      go_simp
      refine CP5.mono ?_
      rintro e w6 ⟨a6, n6, c6, rfl, y1, y2, hb6⟩
      dsimp only
      have HF : Hid (LenC R n6 c6 ∧ Src w6 a6 (cellsP R) ∧ Below w.heap.size w w6) := ⟨y1, y2, B4.out.drew.trans (Below.mono hb6 B4.out.size)⟩
      clear y1 y2 hb6
      refine hK _ _ trivial (fun hHeld => ?_)
      clear hK K
      refine tkA (i := 10) (v := .slice a6 n6 c6) ?_ hHeld ?_
      · intro w9 hSw
        go_simp
      simp only [Act.put, List.setIfInBounds_toArray, List.set_cons_zero, List.set_cons_succ]
      refine tkA (i := 11) (v := .int .i64 q1) ?_ hHeld ?_
      · intro w9 hSw
        go_simp
      simp only [Act.put, List.setIfInBounds_toArray, List.set_cons_zero, List.set_cons_succ]
      refine tkA (i := 12) (v := .int .i64 q2) ?_ hHeld ?_
      · intro w9 hSw
        go_simp
      simp only [Act.put, List.setIfInBounds_toArray, List.set_cons_zero, List.set_cons_succ]
      refine wpAnyH_ready (rs := [13]) (by kernel_rfl) (by simp) ?_
      refine AllReadyH.cons rfl (fun K hK => ?_) AllReadyH.nil
      go_simp
      refine hK _ _ trivial (fun hHeld => ?_)
      clear hK K
      refine wpAnyH_ready (rs := [14]) (by kernel_rfl) (by simp) ?_
      refine AllReadyH.cons rfl (fun K hK => ?_) AllReadyH.nil
      go_simp
      refine hK _ _ trivial (fun hHeld => ?_)
      clear hK K
      refine wpAnyH_ready (rs := [15]) (by kernel_rfl) (by simp) ?_
      refine AllReadyH.cons rfl (fun K hK => ?_) AllReadyH.nil
      go_simp
      refine hK _ _ trivial (fun hHeld => ?_)
      clear hK K
      refine wpAnyH_done (by kernel_rfl) ?_ _
      refine NoPanic.normal ?_
      clear hHeld
      go_wp2_with fail
      exact bodyPost_ret (v := .tuple #[.slice a6 n6 c6, .int .i64 q1, .int .i64 q2]) (by simp [results, Tryz.results100, go_sem]) rfl ⟨_, _, _, rfl, HF.out⟩
end Go.Proofs.YthgbclipknfmjaaGreatDoor
