/-
  Rns Wkd in one. By an AI agent.
-/
import Derived.Test.YthgbclipknfmjaaGreatDoorFr23
import Derived.Test.YthgbclipknfmjaaGreatDoorFr25
import Derived.Test.YthgbclipknfmjaaGreatDoorFr26
import Derived.Test.YthgbclipknfmjaaGreatDoorFr21
namespace Go.Proofs.YthgbclipknfmjaaGreatDoor
open Go.ChangeShapes Go.WideShapes Go.ChangeAt Go.RowKit Go.Deep Go.Lib
set_option linter.unusedVariables false
set_option linter.unusedSimpArgs false
set_option maxRecDepth 100000

theorem l01DropO (a : Option Addr) (n c : Nat) (L : List PM) (key : ByteArray) (w : World) (hL : L.length = n) (hn : n ≤ 4096) (h : Src w a (cellsP L)) (m : Nat) (hm : (notK key L).length = m) (h1 : 1 ≤ m) :
    Calls Tryz.prog 96 #[.slice a n c, .string key] w fun e w' => ∃ g cap, e = .returned (.slice (some ⟨g, 0, none⟩) m cap) ∧ m ≤ cap ∧ cap ≤ maxLen ∧ Src w' (some ⟨g, 0, none⟩) (cellsP (notK key L)) ∧ Below w.heap.size w w' := by
  refine (l01Drop a n c (fK L) (fV L) key w hn (sp_src h hL)).mono ?_
  rintro e w' ⟨v, rfl, ho, hb⟩
  have e1 : dropTo (fK L) (fV L) key n = notK key L := by
    rw [dropTo_is L key n (by omega), List.take_of_length_le (by omega)]
  rw [e1] at ho
  have ho2 : w'.ownsRow w.heap.size 68 2 v m (cellsP (notK key L)) := by rw [← hm]; exact ho
  obtain ⟨g, cap, rfl, h2, h3⟩ := own_someP ho2 h1
  exact ⟨g, cap, rfl, h2, (own_capx ho2).2, h3, hb⟩
theorem fresh_ok {N W R : List PM} {u f : ByteArray} {nx : Int} (hu : UpL N) (h : freshR N W u f nx = (R, 0)) : R.length ≤ 60 ∧ UpL R := by
  unfold freshR at h
  split at h
  · cases h
  · unfold fitsR at h
    split at h
    · cases h
    · rename_i h9
      cases h
      exact ⟨by omega, ins_up (ins_up hu)⟩
theorem map_getD {u tf : ByteArray} (Ms : List MMl) (j : Nat) (hj : j < Ms.length) : (Ms.map (mailP u tf)).getD j p0 = mailP u tf (Ms.getD j ml0) := by
  rw [List.getD_eq_getElem?_getD, List.getD_eq_getElem?_getD, List.getElem?_map, List.getElem?_eq_getElem hj]
  rfl
theorem drop_good {L : List PM} {u f : ByteArray} (h : storeB L = true) : GoodW (rnN L u f) ∧ 1 ≤ (rnN L u f).length := by
  have hg := (store_facts h).1
  have hm : (vK, bs (itoa (nextM L))) ∈ rnN L u f := by
    show _ ∈ notK (folderK u f) (emptyR L u f)
    rw [drop_eq]
    exact List.mem_filter.2 ⟨v_mem h, pass_v u f _⟩
  refine ⟨?_, List.length_pos_of_mem hm⟩
  show GoodW (notK (folderK u f) (emptyR L u f))
  rw [drop_eq]
  have := List.length_filter_le (passB u f) L
  have := hg.1
  exact ⟨by omega, fun x hx => hg.2.1 x (List.mem_filter.1 hx).1, hg.2.2.sublist List.filter_sublist⟩
set_option maxHeartbeats 8000000 in
theorem l07RenameC (b o n c : Nat) (L : List PM) (hL : L.length = n) (hc : n ≤ c) (hc9 : c ≤ maxLen) (hg : GoodL L) (hst : storeB L = true) (u f tf : ByteArray) (hsu : shortB u = true) (hsf : shortB f = true) (hstf : shortB tf = true) (n0 : 0 ≤ nextM L) (w : World) (h : Src w (some ⟨b, o, none⟩) (cellsP L)) (R : List PM) (q : Int) (HR : Hid (rnR L u f tf = (R, q))) :
    Calls Tryz.prog 99 #[.slice (some ⟨b, o, none⟩) n c, .string u, .string f, .string tf] w fun e w' => ∃ a2 n2 c2, e = .returned (.tuple #[.slice a2 n2 c2, .int .i64 q]) ∧ LenC R n2 c2 ∧ Src w' a2 (cellsP R) ∧ Below w.heap.size w w' := by
  have hn60 := hg.1
  rw [hL] at hn60
  have hus := word_slash hsu
  have hfs := word_slash hsf
  have zu := short_size' hsu
  have zf := short_size' hsf
  have zt := short_size' hstf
  have HLN : Hid (LenC L n c ∧ Src w (some ⟨b, o, none⟩) (cellsP L)) := ⟨⟨hL, hc, hc9⟩, h⟩
  have HBAD : Hid (∀ (W : World) (z : Int), Below w.heap.size w W → (L, z) = (R, q) → ∃ a2 n2 c2, Ending.returned (Value.tuple #[.slice (some ⟨b, o, none⟩) n c, .int .i64 z]) = Ending.returned (.tuple #[.slice a2 n2 c2, .int .i64 q]) ∧ LenC R n2 c2 ∧ Src W a2 (cellsP R) ∧ Below w.heap.size w W) := fun W z hW he => by
    cases he
    exact ⟨_, _, _, rfl, HLN.out.1, HLN.out.2.below hW, hW⟩
  have CK := l07KnownS (some ⟨b, o, none⟩) n c L hL hg u f (by omega) (by omega) w h _ rfl
  have CK2 := fun W (hW : Below w.heap.size w W) => l07KnownS (some ⟨b, o, none⟩) n c L hL hg u tf (by omega) (by omega) W (h.below hW) _ rfl
  have HR1 := HR.out
  unfold rnR at HR1
  obtain ⟨k1, hk1⟩ : ∃ z, knownR L u f = z := ⟨_, rfl⟩
  obtain ⟨k2, hk2⟩ : ∃ z, knownR L u tf = z := ⟨_, rfl⟩
  rw [hk1] at CK HR1
  simp only [hk2] at CK2
  rw [hk2] at HR1
  by_cases e1 : k1 = 0
  case neg =>
    rw [if_pos e1] at HR1
    have HFH : Hid (∀ W, Below w.heap.size w W → ∃ a2 n2 c2, Ending.returned (Value.tuple #[.slice (some ⟨b, o, none⟩) n c, .int .i64 k1]) = Ending.returned (.tuple #[.slice a2 n2 c2, .int .i64 q]) ∧ LenC R n2 c2 ∧ Src W a2 (cellsP R) ∧ Below w.heap.size w W) := fun W hW => HBAD.out W k1 hW HR1
    have hki : (k1 != 0) = true := by simpa using e1
    clear hL h hg HR HR1 hk1 hk2 CK2 HBAD hst hsu hsf hstf hus hfs n0
    go_enter Tryz.func99, Tryz.ntmps99
    go_wp2_with fail
    refine CK.mono ?_
    rintro e w1 ⟨rfl, hb1⟩
    have B1 : Hid (Below w.heap.size w w1) := hb1
    clear hb1 CK
    have HG : Hid (∃ a2 n2 c2, Ending.returned (Value.tuple #[.slice (some ⟨b, o, none⟩) n c, .int .i64 k1]) = Ending.returned (.tuple #[.slice a2 n2 c2, .int .i64 q]) ∧ LenC R n2 c2 ∧ Src w1 a2 (cellsP R) ∧ Below w.heap.size w w1) := HFH.out w1 B1.out
    clear HFH
    go_wp2_with fail
    exact bodyPost_ret (v := .tuple #[.slice (some ⟨b, o, none⟩) n c, .int .i64 k1]) (by simp [results, Tryz.results99, go_sem]) rfl HG.out
  subst e1
  rw [if_neg (by decide)] at HR1
  by_cases hi : f = inboxT
  case pos =>
    rw [if_pos hi] at HR1
    have hib : (f.toList == [105, 110, 98, 111, 120]) = true := by rw [hi, ByteArray.toList_eq]; rfl
    have HFH : Hid (∀ W, Below w.heap.size w W → ∃ a2 n2 c2, Ending.returned (Value.tuple #[.slice (some ⟨b, o, none⟩) n c, .int .i64 11]) = Ending.returned (.tuple #[.slice a2 n2 c2, .int .i64 q]) ∧ LenC R n2 c2 ∧ Src W a2 (cellsP R) ∧ Below w.heap.size w W) := fun W hW => HBAD.out W 11 hW HR1
    clear hL h hg HR HR1 hk1 hk2 CK2 HBAD hst hsu hsf hstf hus hfs n0 hi
    go_enter Tryz.func99, Tryz.ntmps99
    go_wp2_with fail
    refine CK.mono ?_
    rintro e w1 ⟨rfl, hb1⟩
    have B1 : Hid (Below w.heap.size w w1) := hb1
    clear hb1 CK
    have HG : Hid (∃ a2 n2 c2, Ending.returned (Value.tuple #[.slice (some ⟨b, o, none⟩) n c, .int .i64 11]) = Ending.returned (.tuple #[.slice a2 n2 c2, .int .i64 q]) ∧ LenC R n2 c2 ∧ Src w1 a2 (cellsP R) ∧ Below w.heap.size w w1) := HFH.out w1 B1.out
    clear HFH
    go_wp2_with fail
    exact bodyPost_ret (v := .tuple #[.slice (some ⟨b, o, none⟩) n c, .int .i64 11]) (by simp [results, Tryz.results99, go_sem]) rfl HG.out
  rw [if_neg hi] at HR1
  have hib : (f.toList == [105, 110, 98, 111, 120]) = false := by
    refine beq_eq_false_iff_ne.2 fun e => hi ?_
    refine bs_inj ?_
    rw [← ByteArray.toList_eq, e]
  by_cases e2 : k2 = 0
  case pos =>
    subst e2
    rw [if_pos rfl] at HR1
    have HFH : Hid (∀ W, Below w.heap.size w W → ∃ a2 n2 c2, Ending.returned (Value.tuple #[.slice (some ⟨b, o, none⟩) n c, .int .i64 9]) = Ending.returned (.tuple #[.slice a2 n2 c2, .int .i64 q]) ∧ LenC R n2 c2 ∧ Src W a2 (cellsP R) ∧ Below w.heap.size w W) := fun W hW => HBAD.out W 9 hW HR1
    clear hL h hg HR HR1 hk1 hk2 HBAD hst hsu hsf hstf hus hfs n0 hi
    go_enter Tryz.func99, Tryz.ntmps99
    go_wp2_with fail
    refine CK.mono ?_
    rintro e w1 ⟨rfl, hb1⟩
    have B1 : Hid (Below w.heap.size w w1) := hb1
    clear hb1 CK
    have CK3 := CK2 w1 B1.out
    clear CK2
    go_wp2_with fail
    refine CK3.mono ?_
    rintro e w2 ⟨rfl, hb2⟩
    have B2 : Hid (Below w.heap.size w w2) := B1.out.trans (hb2.mono B1.out.size)
    clear hb2 CK3
    have HG : Hid (∃ a2 n2 c2, Ending.returned (Value.tuple #[.slice (some ⟨b, o, none⟩) n c, .int .i64 9]) = Ending.returned (.tuple #[.slice a2 n2 c2, .int .i64 q]) ∧ LenC R n2 c2 ∧ Src w2 a2 (cellsP R) ∧ Below w.heap.size w w2) := HFH.out w2 B2.out
    clear HFH
    go_wp2_with fail
    exact bodyPost_ret (v := .tuple #[.slice (some ⟨b, o, none⟩) n c, .int .i64 9]) (by simp [results, Tryz.results99, go_sem]) rfl HG.out
  rw [if_neg e2] at HR1
  have hk2i : (k2 == 0) = false := by simpa using e2
  obtain ⟨S, hS, _, _⟩ := take_all hst hus
  obtain ⟨hw, g, hl⟩ := known_zero hst hus hfs hS hk1
  rw [rnF_is hS hl] at HR1
  have hfit := store_fit hst hS g (lookF_mem hl).1
  have CT := fun W (hW : Below w.heap.size w W) => l07AtS (some ⟨b, o, none⟩) n c L hL hg u f (by omega) (by omega) g.mails (fit_ms hfit) (fol_mails hst hus hfs hS hw hl) g.val g.next (look_meta hst hS hl) W (h.below hW)
  have hml60 : g.mails.length ≤ 60 := by
    have h2 := (store_sub hst hS g (lookF_mem hl).1).length_le
    rw [List.length_map] at h2
    omega
  have CE := fun W (hW : Below w.heap.size w W) => l07EmptyS (some ⟨b, o, none⟩) n c L hL hg u f (by omega) (by omega) W (h.below hW)
  have CF := fun W => l07FolderS u f W (by omega) (by omega)
  have hel : (emptyR L u f).length ≤ n := by rw [← hL]; exact List.length_filter_le _ _
  obtain ⟨hgw, h1N⟩ := drop_good (u := u) (f := f) hst
  have hnn := next_drop (u := u) (f := f) hst
  have hn0 : 0 ≤ nextM (rnN L u f) := by rw [hnn]; exact n0
  obtain ⟨R1, q1, hR1⟩ : ∃ R1 q1, freshR (rnN L u f) L u tf g.next = (R1, q1) := ⟨_, _, rfl⟩
  rw [hR1] at HR1
  obtain ⟨m, hm⟩ : ∃ m, (rnN L u f).length = m := ⟨_, rfl⟩
  have hm64 : m ≤ 64 := by rw [← hm]; exact hgw.1
  have h1m : 1 ≤ m := by rw [← hm]; exact h1N
  have CD := fun (a2 : Option Addr) (n2 c2 : Nat) (W : World) (j1 : (emptyR L u f).length = n2) (j2 : Src W a2 (cellsP (emptyR L u f))) => l01DropO a2 n2 c2 (emptyR L u f) (folderK u f) W j1 (by omega) j2 m hm h1m
  have CR := fun (g2 cap : Nat) (W : World) (hW : Below w.heap.size w W) (j1 : m ≤ cap) (j2 : cap ≤ maxLen) (j3 : Src W (some ⟨g2, 0, none⟩) (cellsP (rnN L u f))) => l07FreshX g2 0 m cap (rnN L u f) hm hm64 j1 j2 hgw (some ⟨b, o, none⟩) n c L hL u tf g.next W j3 (h.below hW) (by omega) (by omega) hn0 hfit.2.2.1 hfit.2.2.2.1 R1 q1 hR1
  have HRU : Hid (q1 = 0 → R1.length ≤ 60 ∧ UpL R1) := fun e => by
    subst e
    exact fresh_ok hgw.2.2 hR1
  obtain ⟨ER, hER⟩ : ∃ t, emptyR L u f = t := ⟨_, rfl⟩
  have CD2 : Hid (∀ (a2 : Option Addr) (n2 c2 : Nat) (W : World), ER.length = n2 → Src W a2 (cellsP ER) → Calls Tryz.prog 96 #[.slice a2 n2 c2, .string (folderK u f)] W fun e w' => ∃ g cap, e = .returned (.slice (some ⟨g, 0, none⟩) m cap) ∧ m ≤ cap ∧ cap ≤ maxLen ∧ Src w' (some ⟨g, 0, none⟩) (cellsP (rnN L u f)) ∧ Below W.heap.size W w') := fun a2 n2 c2 W j1 j2 => CD a2 n2 c2 W (by rw [hER]; exact j1) (by rw [hER]; exact j2)
  simp only [hER] at CE
  obtain ⟨NN, hNN⟩ : ∃ t, rnN L u f = t := ⟨_, rfl⟩
  rw [hNN] at CD2
  simp only [hNN] at CR
  obtain ⟨KF, hKF⟩ : ∃ t, folderK u f = t := ⟨_, rfl⟩
  rw [hKF] at CD2
  simp only [hKF] at CF
  obtain ⟨gv, hgv⟩ : ∃ t, g.val = t := ⟨_, rfl⟩
  obtain ⟨gn, hgn⟩ : ∃ t, g.next = t := ⟨_, rfl⟩
  obtain ⟨Ms, hMs⟩ : ∃ t, g.mails = t := ⟨_, rfl⟩
  have HFM : Hid (FitMs Ms) := by rw [← hMs]; exact fit_ms hfit
  obtain ⟨ml, hml⟩ : ∃ t, Ms.length = t := ⟨_, rfl⟩
  simp only [hgv, hgn, hMs, hml] at CT
  simp only [hgn] at CR
  rw [hMs] at HR1 hml60
  rw [hml] at hml60
  obtain ⟨X, hX⟩ : ∃ t, Ms.map (mailP u tf) = t := ⟨_, rfl⟩
  rw [hX] at HR1
  have HX : Hid (Ms.map (mailP u tf) = X) := hX
  have HML : Hid (Ms.length = ml) := hml
  have HRT : Hid (rnT L X (R1, q1) = (R, q)) := HR1
  clear hL h hg HR HR1 hk1 hk2 hst hsu hsf hstf hus hfs n0 hi e2 hS hl hw hfit hgw hnn hn0 hR1 hm CD hER hNN hKF hgv hgn hMs hml hX hel h1N
  go_enter Tryz.func99, Tryz.ntmps99
  go_wp2_with fail
  refine CK.mono ?_
  rintro e w1 ⟨rfl, hb1⟩
  have B1 : Hid (Below w.heap.size w w1) := hb1
  clear hb1 CK
  have CK3 := CK2 w1 B1.out
  clear CK2
  go_wp2_with fail
  refine CK3.mono ?_
  rintro e w2 ⟨rfl, hb2⟩
  have B2 : Hid (Below w.heap.size w w2) := B1.out.trans (hb2.mono B1.out.size)
  clear hb2 CK3
  have CT2 := CT w2 B2.out
  clear CT
  go_wp2_with fail
  refine CT2.mono ?_
  rintro e w3 ⟨am, cm, rfl, ho3, hb3⟩
  have B3 : Hid (Below w.heap.size w w3) := B2.out.trans (hb3.mono B2.out.size)
  have hs3 : Src w3 am (cellsMl Ms) := by
    obtain ⟨a9, c9, e9, hs9, _⟩ := own_src ho3
    cases e9
    exact hs9
  obtain ⟨w4, hw4⟩ : ∃ W, w3.alloc (.cells #[.string f, .int .i64 gv, .int .i64 gn, .slice am ml cm] 28) = W := ⟨_, rfl⟩
  have A4 : Below w3.heap.size w3 w4 := by rw [← hw4]; exact (Below.refl _ _).alloc (Nat.le_refl _) _
  have B4 : Hid (Below w.heap.size w w4) := B3.out.trans (A4.mono B3.out.size)
  have X4 : Hid (Box w4 w3.heap.size [.string f, .int .i64 gv, .int .i64 gn, .slice am ml cm]) := by show Box _ _ _; rw [← hw4]; exact Box.new rfl
  have S4 : Hid (Src w4 am (cellsMl Ms)) := hs3.below A4
  have CE4 := CE w4 B4.out
  obtain ⟨x42, _⟩ := X4.out 2 _ rfl
  clear ho3 hb3 hs3 CT2 CE A4
  go_wp2_with fail
  refine CE4.mono ?_
  rintro e w5 ⟨a5, n5, c5, rfl, j1, j2, hb5⟩
  have B5 : Hid (Below w.heap.size w w5) := B4.out.trans (hb5.mono B4.out.size)
  have X5 : Hid (Box w5 w3.heap.size [.string f, .int .i64 gv, .int .i64 gn, .slice am ml cm]) := Box.below X4.out hb5
  have S5 : Hid (Src w5 am (cellsMl Ms)) := S4.out.below hb5
  have CD5 := CD2.out a5 n5 c5 w5 j1 j2
  clear CE4 hb5 j1 j2 CD2 hw4 x42
  go_wp2_with fail
  refine (CF _).mono ?_
  rintro e w6 ⟨rfl, hw6⟩
  obtain rfl := hw6
  clear CF
  go_wp2_with fail
  refine CD5.mono ?_
  rintro e w7 ⟨g7, cap7, rfl, j1, j2, j3, hb7⟩
  have B7 : Hid (Below w.heap.size w w7) := B5.out.trans (hb7.mono B5.out.size)
  have X7 : Hid (Box w7 w3.heap.size [.string f, .int .i64 gv, .int .i64 gn, .slice am ml cm]) := Box.below X5.out hb7
  have S7 : Hid (Src w7 am (cellsMl Ms)) := S5.out.below hb7
  have CR7 := CR g7 cap7 w7 B7.out j1 j2 j3
  obtain ⟨x72, _⟩ := X7.out 2 _ rfl
  clear CD5 hb7 j1 j2 j3 CR
  go_wp2_with fail
  refine CR7.mono ?_
  rintro e w8 ⟨a8, n8, c8, rfl, j1, j2, hb8, j3⟩
  have B8 : Hid (Below w.heap.size w w8) := B7.out.trans (hb8.mono B7.out.size)
  have X8 : Hid (Box w8 w3.heap.size [.string f, .int .i64 gv, .int .i64 gn, .slice am ml cm]) := Box.below X7.out hb8
  have S8 : Hid (Src w8 am (cellsMl Ms)) := S7.out.below hb8
  have HJ : Hid (R1.length = n8 ∧ Src w8 a8 (cellsP R1) ∧ FreshEnd q1 a8 n8 c8 n c) := ⟨j1, j2, j3⟩
  clear CR7 hb8 j1 j2 j3 x72
  by_cases eq1 : q1 = 0
  case neg =>
    have HRT9 := HRT.out
    unfold rnT at HRT9
    rw [if_pos eq1] at HRT9
    have HFH : Hid (∀ W, Below w.heap.size w W → ∃ a2 n2 c2, Ending.returned (Value.tuple #[.slice (some ⟨b, o, none⟩) n c, .int .i64 q1]) = Ending.returned (.tuple #[.slice a2 n2 c2, .int .i64 q]) ∧ LenC R n2 c2 ∧ Src W a2 (cellsP R) ∧ Below w.heap.size w W) := fun W hW => HBAD.out W q1 hW HRT9
    have hqi : (q1 != 0) = true := by simpa using eq1
    clear HRT9 HRT HBAD
    have HG : Hid (∃ a2 n2 c2, Ending.returned (Value.tuple #[.slice (some ⟨b, o, none⟩) n c, .int .i64 q1]) = Ending.returned (.tuple #[.slice a2 n2 c2, .int .i64 q]) ∧ LenC R n2 c2 ∧ Src w8 a2 (cellsP R) ∧ Below w.heap.size w w8) := HFH.out w8 B8.out
    clear HFH
    go_wp2_with fail
    exact bodyPost_ret (v := .tuple #[.slice (some ⟨b, o, none⟩) n c, .int .i64 q1]) (by simp [results, Tryz.results99, go_sem]) rfl HG.out
  subst eq1
  obtain ⟨⟨g8, rfl⟩, hnc, hc8⟩ := HJ.out.2.2.1 rfl
  obtain ⟨h60, hup⟩ := HRU.out rfl
  have HQ : Hid (insAll X R1 = R ∧ 0 = q) := by
    have h9 := HRT.out
    unfold rnT at h9
    rw [if_neg (by simp)] at h9
    cases h9
    exact ⟨rfl, rfl⟩
  have HUP : Hid (UpL R1) := hup
  have H8 : Hid (R1.length = n8 ∧ Src w8 (some ⟨g8, 0, none⟩) (cellsP R1)) := ⟨HJ.out.1, HJ.out.2.1⟩
  have hn8 : n8 ≤ 60 := by rw [← HJ.out.1]; exact h60
  clear HJ HRT HRU HBAD h60 hup
  go_wp2_with fail
  go_loopw [12, 14] (fun v iv wr => ∃ (j n' g' c' : Nat), j ≤ ml ∧ v = .slice (some ⟨g', 0, none⟩) n' c' ∧ iv = .int .i64 (j : Int) ∧ n' ≤ c' ∧ c' ≤ maxLen ∧ Hid ((insAll (X.take j) R1).length = n') ∧ Hid (Src wr (some ⟨g', 0, none⟩) (cellsP (insAll (X.take j) R1))) ∧ Hid (Below w.heap.size w wr) ∧ Hid (Below w8.heap.size w8 wr)) (fun _ i _ => ml - (RowKit.intOf i).toNat)
  case atStart => exact ⟨0, n8, g8, c8, by omega, rfl, rfl, hnc, hc8, H8.out.1, H8.out.2, B8.out, Below.refl _ _⟩
  case round =>
    obtain ⟨j, n', g', c', hj, rfl, rfl, hnc', hc', hlen, hsr, hbr, hb8r⟩ := hrel
    have X9 : Hid (Box wr w3.heap.size [.string f, .int .i64 gv, .int .i64 gn, .slice am ml cm]) := Box.below X8.out hb8r.out
    obtain ⟨x93, _⟩ := X9.out 3 _ rfl
    by_cases hlt : j < ml
    · have hlti : (j : Int) < (ml : Int) := by omega
      have hjM : j < Ms.length := by rw [HML.out]; exact hlt
      obtain ⟨bm, om, x0, x1, x2, rfl, m0, m1, m2, hx⟩ := srcMl (S8.out.below hb8r.out) hjM
      obtain ⟨y0, y1, y2, y3, y4⟩ := HFM.out (Ms.getD j ml0) (mem_getD' Ms ml0 j hjM)
      rw [hx.out] at y0 y1 y2 y3 y4
      dsimp only at y0 y1 y2 y3 y4
      obtain ⟨un, hun⟩ : ∃ un : Nat, (un : Int) = x0 := ⟨x0.toNat, by omega⟩
      subst hun
      have hu9 : un < 1000 := by omega
      have CM := fun W => l07MailS u tf un hu9 (by omega) (by omega) W
      have CG := fun W => digitsI x1 y2 (by omega) W
      have hxj : X.getD j p0 = (mailK u tf (un : Int), mailV ((un : Int), x1, x2)) := by
        rw [← HX.out, map_getD Ms j hjM, hx.out]
        rfl
      have hst9 := insAll_step X R1 j (by rw [← HX.out, List.length_map]; exact hjM)
      rw [hxj] at hst9
      have hil := insAll_len (X.take j) HUP.out
      have htl := List.length_take_le j X
      have hn9 : n' ≤ 200 := by
        rw [← hlen.out]
        have := H8.out.1
        omega
      have CP := fun W (hW : Below wr.heap.size wr W) => l01PutM g' 0 n' c' (insAll (X.take j) R1) (mailK u tf (un : Int)) (mailV ((un : Int), x1, x2)) W hlen.out (by omega) hnc' hc' (insAll_up _ HUP.out) (hsr.out.below hW)
      rw [← hst9] at CP
      have HMV : Hid (bs (itoa x1) ++ x2 = mailV ((un : Int), x1, x2)) := rfl
      have hzi := itoa_small x1 y2 (by omega)
      obtain ⟨MK, hMK⟩ : ∃ t, mailK u tf (un : Int) = t := ⟨_, rfl⟩
      obtain ⟨TI, hTI⟩ : ∃ t, bs (itoa x1) = t := ⟨_, rfl⟩
      obtain ⟨MV, hMV⟩ : ∃ t, mailV ((un : Int), x1, x2) = t := ⟨_, rfl⟩
      simp only [hMK] at CM CP
      simp only [hTI] at CG HMV hzi
      simp only [hMV] at CP HMV
      obtain ⟨I9, hI9⟩ : ∃ t, insAll (X.take (j + 1)) R1 = t := ⟨_, rfl⟩
      simp only [hI9] at CP
      have HI9 : Hid (insAll (X.take (j + 1)) R1 = I9) := hI9
      obtain ⟨n9, hn99⟩ : ∃ t, I9.length = t := ⟨_, rfl⟩
      simp only [hn99] at CP
      have HN9 : Hid (I9.length = n9) := hn99
      have hsz : TI.size + x2.size ≤ 2000 := by omega
      clear hst9 hxj hil htl hMK hTI hMV hI9 hn99 hx hlen hsr
      go_upto_region 16 with fail
      refine wp_region_noPanic ?_
      refine wp_region_held_drew (S := fun w' => w'.cell? ⟨w3.heap.size, 3, none⟩ = some (.slice (some ⟨bm, om, none⟩) ml cm) ∧ w'.cell? ⟨bm, om + j * 3, none⟩ = some (.int .i64 (un : Int)) ∧ w'.cell? ⟨bm, om + j * 3 + 1, none⟩ = some (.int .i64 x1) ∧ w'.cell? ⟨bm, om + j * 3 + 2, none⟩ = some (.string x2)) (by kernel_rfl) ⟨x93, m0, m1, m2⟩ (fun hHeld => ?_)
      refine tkA (i := 0) (v := .slice (some ⟨g', 0, none⟩) n' c') ?_ hHeld ?_
      · intro w9 hSw
        obtain ⟨z0, z1, z2, z3⟩ := hSw
        go_simp
      simp only [Act.put, List.setIfInBounds_toArray, List.set_cons_zero, List.set_cons_succ]
      refine tkA (i := 1) (v := .string u) ?_ hHeld ?_
      · intro w9 hSw
        obtain ⟨z0, z1, z2, z3⟩ := hSw
        go_simp
      simp only [Act.put, List.setIfInBounds_toArray, List.set_cons_zero, List.set_cons_succ]
      refine tkA (i := 2) (v := .string tf) ?_ hHeld ?_
      · intro w9 hSw
        obtain ⟨z0, z1, z2, z3⟩ := hSw
        go_simp
      simp only [Act.put, List.setIfInBounds_toArray, List.set_cons_zero, List.set_cons_succ]
      refine tkA (i := 3) (v := .pointer (some ⟨w3.heap.size, 3, none⟩)) ?_ hHeld ?_
      · intro w9 hSw
        obtain ⟨z0, z1, z2, z3⟩ := hSw
        go_simp
      simp only [Act.put, List.setIfInBounds_toArray, List.set_cons_zero, List.set_cons_succ]
      refine tkA (i := 4) (v := .slice (some ⟨bm, om, none⟩) ml cm) ?_ hHeld ?_
      · intro w9 hSw
        obtain ⟨z0, z1, z2, z3⟩ := hSw
        go_simp
      simp only [Act.put, List.setIfInBounds_toArray, List.set_cons_zero, List.set_cons_succ]
      refine tkA (i := 5) (v := .int .i64 (j : Int)) ?_ hHeld ?_
      · intro w9 hSw
        obtain ⟨z0, z1, z2, z3⟩ := hSw
        go_simp
      simp only [Act.put, List.setIfInBounds_toArray, List.set_cons_zero, List.set_cons_succ]
      refine tkA (i := 6) (v := .pointer (some ⟨bm, om + j * 3, none⟩)) ?_ hHeld ?_
      · intro w9 hSw
        obtain ⟨z0, z1, z2, z3⟩ := hSw
        go_simp
      simp only [Act.put, List.setIfInBounds_toArray, List.set_cons_zero, List.set_cons_succ]
      refine tkA (i := 7) (v := .pointer (some ⟨bm, om + j * 3, none⟩)) ?_ hHeld ?_
      · intro w9 hSw
        obtain ⟨z0, z1, z2, z3⟩ := hSw
        go_simp
      simp only [Act.put, List.setIfInBounds_toArray, List.set_cons_zero, List.set_cons_succ]
      refine tkA (i := 8) (v := .int .i64 (un : Int)) ?_ hHeld ?_
      · intro w9 hSw
        obtain ⟨z0, z1, z2, z3⟩ := hSw
        go_simp
      simp only [Act.put, List.setIfInBounds_toArray, List.set_cons_zero, List.set_cons_succ]
      refine tkA (i := 10) (v := .pointer (some ⟨w3.heap.size, 3, none⟩)) ?_ hHeld ?_
      · intro w9 hSw
        obtain ⟨z0, z1, z2, z3⟩ := hSw
        go_simp
      simp only [Act.put, List.setIfInBounds_toArray, List.set_cons_zero, List.set_cons_succ]
      refine tkA (i := 11) (v := .slice (some ⟨bm, om, none⟩) ml cm) ?_ hHeld ?_
      · intro w9 hSw
        obtain ⟨z0, z1, z2, z3⟩ := hSw
        go_simp
      simp only [Act.put, List.setIfInBounds_toArray, List.set_cons_zero, List.set_cons_succ]
      refine tkA (i := 12) (v := .int .i64 (j : Int)) ?_ hHeld ?_
      · intro w9 hSw
        obtain ⟨z0, z1, z2, z3⟩ := hSw
        go_simp
      simp only [Act.put, List.setIfInBounds_toArray, List.set_cons_zero, List.set_cons_succ]
      refine tkA (i := 13) (v := .pointer (some ⟨bm, om + j * 3, none⟩)) ?_ hHeld ?_
      · intro w9 hSw
        obtain ⟨z0, z1, z2, z3⟩ := hSw
        go_simp
      simp only [Act.put, List.setIfInBounds_toArray, List.set_cons_zero, List.set_cons_succ]
      refine tkA (i := 14) (v := .pointer (some ⟨bm, om + j * 3 + 1, none⟩)) ?_ hHeld ?_
      · intro w9 hSw
        obtain ⟨z0, z1, z2, z3⟩ := hSw
        go_simp
      simp only [Act.put, List.setIfInBounds_toArray, List.set_cons_zero, List.set_cons_succ]
      refine tkA (i := 15) (v := .int .i64 x1) ?_ hHeld ?_
      · intro w9 hSw
        obtain ⟨z0, z1, z2, z3⟩ := hSw
        go_simp
      simp only [Act.put, List.setIfInBounds_toArray, List.set_cons_zero, List.set_cons_succ]
      refine tkA (i := 17) (v := .pointer (some ⟨w3.heap.size, 3, none⟩)) ?_ hHeld ?_
      · intro w9 hSw
        obtain ⟨z0, z1, z2, z3⟩ := hSw
        go_simp
      simp only [Act.put, List.setIfInBounds_toArray, List.set_cons_zero, List.set_cons_succ]
      refine tkA (i := 18) (v := .slice (some ⟨bm, om, none⟩) ml cm) ?_ hHeld ?_
      · intro w9 hSw
        obtain ⟨z0, z1, z2, z3⟩ := hSw
        go_simp
      simp only [Act.put, List.setIfInBounds_toArray, List.set_cons_zero, List.set_cons_succ]
      refine tkA (i := 19) (v := .int .i64 (j : Int)) ?_ hHeld ?_
      · intro w9 hSw
        obtain ⟨z0, z1, z2, z3⟩ := hSw
        go_simp
      simp only [Act.put, List.setIfInBounds_toArray, List.set_cons_zero, List.set_cons_succ]
      refine tkA (i := 20) (v := .pointer (some ⟨bm, om + j * 3, none⟩)) ?_ hHeld ?_
      · intro w9 hSw
        obtain ⟨z0, z1, z2, z3⟩ := hSw
        go_simp
      simp only [Act.put, List.setIfInBounds_toArray, List.set_cons_zero, List.set_cons_succ]
      refine tkA (i := 21) (v := .pointer (some ⟨bm, om + j * 3 + 2, none⟩)) ?_ hHeld ?_
      · intro w9 hSw
        obtain ⟨z0, z1, z2, z3⟩ := hSw
        go_simp
      simp only [Act.put, List.setIfInBounds_toArray, List.set_cons_zero, List.set_cons_succ]
      refine tkA (i := 22) (v := .string x2) ?_ hHeld ?_
      · intro w9 hSw
        obtain ⟨z0, z1, z2, z3⟩ := hSw
        go_simp
      simp only [Act.put, List.setIfInBounds_toArray, List.set_cons_zero, List.set_cons_succ]
      refine wpAnyH_ready (rs := [9]) (by kernel_rfl) (by simp) ?_
      refine AllReadyH.cons rfl (fun K hK => ?_) AllReadyH.nil
      go_simp
      refine (CM _).mono ?_
      rintro e wm ⟨rfl, hbm⟩
      have BM : Hid (Below wr.heap.size wr wm) := (Below.refl _ _).drew.trans hbm
      clear hbm
      dsimp only
      refine hK _ _ ⟨cell_later BM.out x93, cell_later BM.out m0, cell_later BM.out m1, cell_later BM.out m2⟩ (fun hHeld => ?_)
      clear hK K
      refine wpAnyH_ready (rs := [16]) (by kernel_rfl) (by simp) ?_
      refine AllReadyH.cons rfl (fun K hK => ?_) AllReadyH.nil
      go_simp
      refine (CG _).mono ?_
      rintro e wd ⟨rfl, hbd⟩
      have BD : Hid (Below wr.heap.size wr wd) := BM.out.trans (hbd.mono BM.out.size)
      clear hbd
      dsimp only
      refine hK _ _ ⟨cell_later BD.out x93, cell_later BD.out m0, cell_later BD.out m1, cell_later BD.out m2⟩ (fun hHeld => ?_)
      clear hK K
      refine tkA (i := 23) (v := .string MV) ?_ hHeld ?_
      · intro w9 hSw
        obtain ⟨z0, z1, z2, z3⟩ := hSw
        have hmv := HMV.out
        go_simp
        omega
      simp only [Act.put, List.setIfInBounds_toArray, List.set_cons_zero, List.set_cons_succ]
      refine wpAnyH_ready (rs := [24]) (by kernel_rfl) (by simp) ?_
      refine AllReadyH.cons rfl (fun K hK => ?_) AllReadyH.nil
      go_simp
      have CPD := CP wd BD.out
      refine CPD.mono ?_
      rintro e wp ⟨gp, cp, rfl, j1, j2, j3, hbp⟩
      have BP : Hid (Below wr.heap.size wr wp) := BD.out.trans (hbp.mono BD.out.size)
      have HPF : Hid (n9 ≤ cp ∧ cp ≤ maxLen ∧ Src wp (some ⟨gp, 0, none⟩) (cellsP I9)) := ⟨j1, j2, j3⟩
      clear hbp j1 j2 j3 CPD
      dsimp only
      refine hK _ _ ⟨cell_later BP.out x93, cell_later BP.out m0, cell_later BP.out m1, cell_later BP.out m2⟩ (fun hHeld => ?_)
      clear hK K
      refine wpAnyH_ready (rs := [25]) (by kernel_rfl) (by simp) ?_
      refine AllReadyH.cons rfl (fun K hK => ?_) AllReadyH.nil
      go_simp
      refine hK _ _ ⟨cell_later BP.out x93, cell_later BP.out m0, cell_later BP.out m1, cell_later BP.out m2⟩ (fun hHeld => ?_)
      clear hK K
      refine wpAnyH_done (by kernel_rfl) ?_ _
      refine NoPanic.normal ?_
      clear hHeld
      have HF : Hid (Below w.heap.size w wp ∧ Below w8.heap.size w8 wp) := ⟨hbr.out.trans (BP.out.mono hbr.out.size), hb8r.out.trans (BP.out.mono hb8r.out.size)⟩
      clear BP BD BM
      go_wp2_with fail
      exact ⟨⟨j + 1, n9, gp, cp, by omega, rfl, by go_num, HPF.out.1, HPF.out.2.1, by rw [HI9.out]; exact HN9.out, by rw [HI9.out]; exact HPF.out.2.2, HF.out.1, HF.out.2⟩, by simp [RowKit.intOf]; omega⟩
    · obtain rfl : j = ml := by omega
      have hlti : ¬ (j : Int) < (j : Int) := by omega
      have HF : Hid (LenC R n' c' ∧ Src wr (some ⟨g', 0, none⟩) (cellsP R) ∧ Below w.heap.size w wr) := by
        have e9 : X.take j = X := List.take_of_length_le (by rw [← HX.out, List.length_map, HML.out]; exact Nat.le_refl _)
        have h9 := HQ.out.1
        rw [← e9] at h9
        rw [← h9]
        exact ⟨⟨hlen.out, hnc', hc'⟩, hsr.out, hbr.out⟩
      have HQ0 : Hid (0 = q) := HQ.out.2
      clear hlen hsr
      go_wp2_with fail
      exact bodyPost_ret (v := .tuple #[.slice (some ⟨g', 0, none⟩) n' c', .int .i64 0]) (by simp [results, Tryz.results99, go_sem]) rfl ⟨_, _, _, by rw [HQ0.out], HF.out⟩
theorem Drawn.desk {k : Nat} {L : List PM} {u : ByteArray} (h : Drawn k L) (hu : u = annT ∨ u = bobT) : shortB u = true ∧ ∃ S, takeAll (nextM L) u S0 L = some S ∧ S.word.toList ≠ [] ∧ FitS (nextM L) u S ∧ (S.fs.map (·.name)).Nodup ∧ 1 ≤ nextM L := by
  have hsu : shortB u = true := by rcases hu with rfl | rfl <;> kernel_rfl
  have hus := word_slash hsu
  obtain ⟨S, hS, _, _⟩ := take_all h.st hus
  have hw : S.word.toList ≠ [] := fun e => by
    have h1 := (word_iff h.st hus hS).1.1 e
    have h2 := (h.us u hus).2 hu
    rw [h1] at h2
    cases h2
  obtain ⟨_, nx0, hnm, n1, _⟩ := store_facts h.st
  rw [hnm] at n1
  exact ⟨hsu, S, hS, hw, store_fits h.st hus hS hw, names_of hS, n1⟩
theorem op_drawn {k : Nat} {N : List PM} {u : ByteArray} {S S' : SM} {q nx' : Int} {A : List PM × Int} (h : Drawn k N) (hS : takeAll (nextM N) u S0 N = some S) (hw : S.word.toList ≠ []) (hO : OpFits N u q nx' S' A) (hT : q = 0 → StepS FoldN (nextM N) nx' u S S') : Drawn (k + 1) A.1 := by
  by_cases e : q = 0
  · obtain ⟨_, j1, _, Y, j2, j3, _, j5⟩ := hO.2 e
    rw [j5]
    unfold fitsR
    split
    · exact h.more
    · rename_i h9
      exact drawn_step (Y := Y) h hS hw (hT e) j1 j2 j3 (by omega)
  · rw [hO.1 e]
    exact h.more
theorem step_mono {k : Nat} {N Y : List PM} {u : ByteArray} {nx' : Int} {S S' : SM} (h : Drawn k N) (hS : takeAll (nextM N) u S0 N = some S) (hT : StepS FoldN (nextM N) nx' u S S') (h9 : nx' ≤ 10000) (up : UpL Y) (pm : (deskP nx' u S').Perm Y) : nextM N ≤ nextM Y := by
  obtain ⟨hgN, nx0, hnm, n1, n2, _⟩ := store_facts h.st
  rw [hnm] at n1
  have hl := lies_left h.st hS hT.aside hT.nd hT.fit up pm
  have hnY : nextM Y = nx' := lies_next hl (by have := hT.n0; omega) h9
  have := hT.n0
  omega
theorem op_mono {k : Nat} {N : List PM} {u : ByteArray} {S S' : SM} {q nx' : Int} {A : List PM × Int} (h : Drawn k N) (hS : takeAll (nextM N) u S0 N = some S) (hw : S.word.toList ≠ []) (hO : OpFits N u q nx' S' A) (hT : q = 0 → StepS FoldN (nextM N) nx' u S S') : nextM N ≤ nextM A.1 := by
  by_cases e : q = 0
  · obtain ⟨_, j1, _, Y, j2, j3, _, j5⟩ := hO.2 e
    rw [j5]
    unfold fitsR
    split
    · exact Int.le_refl _
    · exact step_mono h hS (hT e) j1 j2 j3
  · rw [hO.1 e]
    exact Int.le_refl _
theorem mk_drawn {k : Nat} {L : List PM} {u f : ByteArray} (h : Drawn k L) (hu : u = annT ∨ u = bobT) (hp : FoldN f) : Drawn (k + 1) (mkR L u f).1 := by
  obtain ⟨hsu, S, hS, hw, hF, hnd, n1⟩ := h.desk hu
  obtain ⟨q, nx', S', hQ⟩ : ∃ q nx' S', mkM (nextM L) S f = (q, nx', S') := ⟨_, _, _, rfl⟩
  exact op_drawn h hS hw (mk_fits h.st hsu (fold_short hp) hS hQ) (fun e => by subst e; exact step_mk n1 hF hnd (fold_short hp) hp hQ)
theorem drop_drawn {k : Nat} {L : List PM} {u f : ByteArray} (h : Drawn k L) (hu : u = annT ∨ u = bobT) (hsf : shortB f = true) : Drawn (k + 1) (dropR L u f).1 := by
  obtain ⟨hsu, S, hS, hw, hF, hnd, n1⟩ := h.desk hu
  obtain ⟨q, nx', S', hQ⟩ : ∃ q nx' S', dropM (nextM L) S f = (q, nx', S') := ⟨_, _, _, rfl⟩
  exact op_drawn h hS hw (drop_fits h.st hsu hsf hS hQ) (fun e => by subst e; exact step_drop hF hnd hQ)
theorem rn_drawn {k : Nat} {L : List PM} {u f tf : ByteArray} (h : Drawn k L) (hu : u = annT ∨ u = bobT) (hsf : shortB f = true) (hp : FoldN tf) : Drawn (k + 1) (rnR L u f tf).1 := by
  obtain ⟨hsu, S, hS, hw, hF, hnd, n1⟩ := h.desk hu
  obtain ⟨q, nx', S', hQ⟩ : ∃ q nx' S', rnM (nextM L) S f tf = (q, nx', S') := ⟨_, _, _, rfl⟩
  exact op_drawn h hS hw (rn_fits h.st hsu hsf (fold_short hp) hS hQ) (fun e => by subst e; exact step_rn n1 hF hnd (fold_short hp) hp hQ)
theorem sf_is (S : SM) (f : ByteArray) (un fl : Int) : ∃ q S', SfIs S f un fl q S' := by
  by_cases e : lackM S.word S.fs [f] = 0
  · obtain ⟨g, hg⟩ := lack_zero e
    by_cases hm : ∀ m ∈ g.mails, m.1 ≠ un
    · exact ⟨5, S, .inr ⟨e, g, hg, .inl ⟨hm, rfl, rfl⟩⟩⟩
    · have : ∃ m ∈ g.mails, m.1 = un := Classical.byContradiction fun h9 => hm fun m h1 h2 => h9 ⟨m, h1, h2⟩
      obtain ⟨m, h1, h2⟩ := this
      obtain ⟨j, hj, h3⟩ := List.getElem_of_mem h1
      have h4 : g.mails.getD j ml0 = m := by rw [List.getD_eq_getElem?_getD, List.getElem?_eq_getElem hj]; exact h3
      exact ⟨0, _, .inr ⟨e, g, hg, .inr ⟨j, hj, by rw [h4]; exact h2, rfl, rfl⟩⟩⟩
  · exact ⟨_, S, .inl ⟨e, rfl, rfl⟩⟩
theorem fl_drawn {k : Nat} {L : List PM} {u f : ByteArray} {un fl : Int} (h : Drawn k L) (hu : u = annT ∨ u = bobT) (hsf : shortB f = true) (f0 : 0 ≤ fl) (f1 : fl ≤ 3) : Drawn (k + 1) (flR L u f un fl).1 := by
  obtain ⟨hsu, S, hS, hw, hF, hnd, n1⟩ := h.desk hu
  obtain ⟨q, S', hQ⟩ := sf_is S f un fl
  exact op_drawn h hS hw (sf_fits h.st hsu hsf f0 f1 hS hQ) (fun e => by subst e; exact step_sf hF hnd f0 f1 hQ)
theorem ex_drawn {k : Nat} {L : List PM} {u f : ByteArray} (h : Drawn k L) (hu : u = annT ∨ u = bobT) (hsf : shortB f = true) : Drawn (k + 1) (exR L u f).1 := by
  obtain ⟨hsu, S, hS, hw, hF, hnd, n1⟩ := h.desk hu
  unfold exR
  split
  · exact h.more
  · rename_i h9
    obtain ⟨_, g, hl⟩ := known_zero h.st (word_slash hsu) (word_slash hsf) hS (Classical.not_not.1 h9)
    obtain ⟨k1, k2, k3, _, _⟩ := ex_fits h.st (word_slash hsu) (word_slash hsf) hS hw hl
    obtain ⟨_, nx0, hnm, _, n2, _⟩ := store_facts h.st
    rw [hnm] at n2
    exact drawn_step h hS hw (step_ex hF hnd hl) n2 k1 k2 k3
theorem app_drawn {k : Nat} {L : List PM} {u f t : ByteArray} {fl : Int} (h : Drawn k L) (hu : u = annT ∨ u = bobT) (hsf : shortB f = true) (f0 : 0 ≤ fl) (f1 : fl ≤ 3) (ht : t.size ≤ 85) : Drawn (k + 1) (appR L u f t fl).1 := by
  obtain ⟨hsu, S, hS, hw, hF, hnd, n1⟩ := h.desk hu
  by_cases h9 : knownR L u f = 0
  · rw [appR_T h9]
    obtain ⟨_, g, hl⟩ := known_zero h.st (word_slash hsu) (word_slash hsf) hS h9
    obtain ⟨q, S', hQ⟩ : ∃ q S', apM S g fl t = (q, S') := ⟨_, _, rfl⟩
    have hO := app_fits h.st hsu hsf (by omega) f0 f1 hS hw hl hQ
    by_cases e : q = 0
    · obtain ⟨_, Y, j2, j3, _, j5⟩ := hO.2 e
      rw [j5]
      split
      · exact h.more
      · rename_i h60
        subst e
        obtain ⟨_, nx0, hnm, _, n2, _⟩ := store_facts h.st
        rw [hnm] at n2
        exact drawn_step (Y := Y) h hS hw (step_app hF hnd f0 f1 ht hl hQ) n2 j2 j3 (by omega)
    · rw [hO.1 e]
      exact h.more
  · unfold appR
    rw [if_pos h9]
    exact h.more
theorem known_user {L : List PM} {u f : ByteArray} (h : storeB L = true) (hk : knownR L u f = 0) : ∃ q ∈ L, q.1 = userK u := by
  unfold knownR at hk
  split at hk
  · cases hk
  · rename_i h9
    cases hv : getM L (userK u) with
    | none => rw [hv] at h9; exact absurd rfl h9
    | some v => exact ⟨_, (getM_mem (store_facts h).1.2.2).1 hv, rfl⟩
theorem cp_val {L : List PM} {u f : ByteArray} {un : Int} (hst : storeB L = true) (hsu : shortB u = true) (hsf : shortB f = true) (hk : knownR L u f = 0) : ∀ v, 1 ≤ un → un ≤ 999 → getM L (mailK u f un) = some v → 1 ≤ v.size ∧ v.size ≤ 86 ∧ 48 ≤ hdV v ∧ hdV v ≤ 51 := fun v v1 v2 hv => by
  have hp := (getM_mem (store_facts hst).1.2.2).1 hv
  have hp2 : (mailK u f ((un.toNat : Nat) : Int), v) ∈ L := by rw [show ((un.toNat : Nat) : Int) = un by omega]; exact hp
  obtain ⟨m1, m2, m3, m4, _⟩ := mail_val hst (word_slash hsu) (word_slash hsf) (known_user hst hk) (by omega) hp2
  exact ⟨m1, m2, m3, m4⟩
theorem cp_drawn {k : Nat} {L : List PM} {u f tf : ByteArray} {un : Int} (h : Drawn k L) (hu : u = annT ∨ u = bobT) (hsf : shortB f = true) (hst : shortB tf = true) : Drawn (k + 1) (cpR L u f un tf).1 := by
  have hsu := (h.desk hu).1
  unfold cpR
  split
  · exact h.more
  rename_i h1
  split
  · exact h.more
  unfold cpT
  split
  · exact h.more
  rename_i h3
  rw [Bool.not_eq_false, Bool.and_eq_true, decide_eq_true_eq, decide_eq_true_eq] at h3
  cases hv : getM L (mailK u f un) with
  | none => exact h.more
  | some v =>
    obtain ⟨m1, m2, m3, m4⟩ := cp_val h.st hsu hsf (Classical.not_not.1 h1) v h3.1 h3.2 hv
    exact app_drawn h hu hst (by omega) (by omega) (by rw [ByteArray.size_extract]; omega)
theorem mk_mono {k : Nat} {L : List PM} {u f : ByteArray} (h : Drawn k L) (hu : u = annT ∨ u = bobT) (hp : FoldN f) : nextM L ≤ nextM (mkR L u f).1 := by
  obtain ⟨hsu, S, hS, hw, hF, hnd, n1⟩ := h.desk hu
  obtain ⟨q, nx', S', hQ⟩ : ∃ q nx' S', mkM (nextM L) S f = (q, nx', S') := ⟨_, _, _, rfl⟩
  exact op_mono h hS hw (mk_fits h.st hsu (fold_short hp) hS hQ) (fun e => by subst e; exact step_mk n1 hF hnd (fold_short hp) hp hQ)
theorem drop_mono {k : Nat} {L : List PM} {u f : ByteArray} (h : Drawn k L) (hu : u = annT ∨ u = bobT) (hsf : shortB f = true) : nextM L ≤ nextM (dropR L u f).1 := by
  obtain ⟨hsu, S, hS, hw, hF, hnd, n1⟩ := h.desk hu
  obtain ⟨q, nx', S', hQ⟩ : ∃ q nx' S', dropM (nextM L) S f = (q, nx', S') := ⟨_, _, _, rfl⟩
  exact op_mono h hS hw (drop_fits h.st hsu hsf hS hQ) (fun e => by subst e; exact step_drop hF hnd hQ)
theorem rn_mono {k : Nat} {L : List PM} {u f tf : ByteArray} (h : Drawn k L) (hu : u = annT ∨ u = bobT) (hsf : shortB f = true) (hp : FoldN tf) : nextM L ≤ nextM (rnR L u f tf).1 := by
  obtain ⟨hsu, S, hS, hw, hF, hnd, n1⟩ := h.desk hu
  obtain ⟨q, nx', S', hQ⟩ : ∃ q nx' S', rnM (nextM L) S f tf = (q, nx', S') := ⟨_, _, _, rfl⟩
  exact op_mono h hS hw (rn_fits h.st hsu hsf (fold_short hp) hS hQ) (fun e => by subst e; exact step_rn n1 hF hnd (fold_short hp) hp hQ)
theorem fl_mono {k : Nat} {L : List PM} {u f : ByteArray} {un fl : Int} (h : Drawn k L) (hu : u = annT ∨ u = bobT) (hsf : shortB f = true) (f0 : 0 ≤ fl) (f1 : fl ≤ 3) : nextM L ≤ nextM (flR L u f un fl).1 := by
  obtain ⟨hsu, S, hS, hw, hF, hnd, n1⟩ := h.desk hu
  obtain ⟨q, S', hQ⟩ := sf_is S f un fl
  exact op_mono h hS hw (sf_fits h.st hsu hsf f0 f1 hS hQ) (fun e => by subst e; exact step_sf hF hnd f0 f1 hQ)
theorem ex_mono {k : Nat} {L : List PM} {u f : ByteArray} (h : Drawn k L) (hu : u = annT ∨ u = bobT) (hsf : shortB f = true) : nextM L ≤ nextM (exR L u f).1 := by
  obtain ⟨hsu, S, hS, hw, hF, hnd, n1⟩ := h.desk hu
  unfold exR
  split
  · exact Int.le_refl _
  · rename_i h9
    obtain ⟨_, g, hl⟩ := known_zero h.st (word_slash hsu) (word_slash hsf) hS (Classical.not_not.1 h9)
    obtain ⟨k1, k2, k3, _, _⟩ := ex_fits h.st (word_slash hsu) (word_slash hsf) hS hw hl
    obtain ⟨_, nx0, hnm, _, n2, _⟩ := store_facts h.st
    rw [hnm] at n2
    exact step_mono h hS (step_ex hF hnd hl) n2 k1 k2
theorem app_mono {k : Nat} {L : List PM} {u f t : ByteArray} {fl : Int} (h : Drawn k L) (hu : u = annT ∨ u = bobT) (hsf : shortB f = true) (f0 : 0 ≤ fl) (f1 : fl ≤ 3) (ht : t.size ≤ 85) : nextM L ≤ nextM (appR L u f t fl).1 := by
  obtain ⟨hsu, S, hS, hw, hF, hnd, n1⟩ := h.desk hu
  by_cases h9 : knownR L u f = 0
  · rw [appR_T h9]
    obtain ⟨_, g, hl⟩ := known_zero h.st (word_slash hsu) (word_slash hsf) hS h9
    obtain ⟨q, S', hQ⟩ : ∃ q S', apM S g fl t = (q, S') := ⟨_, _, rfl⟩
    have hO := app_fits h.st hsu hsf (by omega) f0 f1 hS hw hl hQ
    by_cases e : q = 0
    · obtain ⟨_, Y, j2, j3, _, j5⟩ := hO.2 e
      rw [j5]
      split
      · exact Int.le_refl _
      · rename_i h60
        subst e
        obtain ⟨_, nx0, hnm, _, n2, _⟩ := store_facts h.st
        rw [hnm] at n2
        exact step_mono h hS (step_app hF hnd f0 f1 ht hl hQ) n2 j2 j3
    · rw [hO.1 e]
      exact Int.le_refl _
  · unfold appR
    rw [if_pos h9]
    exact Int.le_refl _
theorem cp_mono {k : Nat} {L : List PM} {u f tf : ByteArray} {un : Int} (h : Drawn k L) (hu : u = annT ∨ u = bobT) (hsf : shortB f = true) (hst : shortB tf = true) : nextM L ≤ nextM (cpR L u f un tf).1 := by
  have hsu := (h.desk hu).1
  unfold cpR
  split
  · exact Int.le_refl _
  rename_i h1
  split
  · exact Int.le_refl _
  unfold cpT
  split
  · exact Int.le_refl _
  rename_i h3
  rw [Bool.not_eq_false, Bool.and_eq_true, decide_eq_true_eq, decide_eq_true_eq] at h3
  cases hv : getM L (mailK u f un) with
  | none => exact Int.le_refl _
  | some v =>
    obtain ⟨m1, m2, m3, m4⟩ := cp_val h.st hsu hsf (Classical.not_not.1 h1) v h3.1 h3.2 hv
    exact app_mono h hu hst (by omega) (by omega) (by rw [ByteArray.size_extract]; omega)
/-- What an operation of the draw leaves. -/
def WorkD (k : Nat) (L : List PM) (W W' : World) (v : Value) : Prop := ∃ a2 n2 c2 L', v = .slice a2 n2 c2 ∧ LenC L' n2 c2 ∧ Src W' a2 (cellsP L') ∧ (Drawn (k + 1) L' ∧ nextM L ≤ nextM L') ∧ Below W.heap.size W W'
theorem mkD (b o n c k : Nat) (L : List PM) (h : Drawn k L) (hL : LenC L n c) (u f : ByteArray) (hu : u = annT ∨ u = bobT) (hp : FoldN f) (W : World) (hs : Src W (some ⟨b, o, none⟩) (cellsP L)) :
    Calls Tryz.prog 97 #[.slice (some ⟨b, o, none⟩) n c, .string u, .string f] W fun e W' => ∃ v q, e = .returned (.tuple #[v, .int .i64 q]) ∧ WorkD k L W W' v := by
  obtain ⟨hsu, S, hS, hw, hF, hnd, n1⟩ := h.desk hu
  obtain ⟨R, q, hR⟩ : ∃ R q, mkR L u f = (R, q) := ⟨_, _, rfl⟩
  have hd := And.intro (mk_drawn h hu hp) (mk_mono h hu hp)
  rw [hR] at hd
  refine (l07MakeFolderC b o n c L hL.1 hL.2.1 hL.2.2 (store_facts h.st).1 u f (short_size' hsu) (short_size' (fold_short hp)) (by omega) W hs R q hR).mono ?_
  rintro e W' ⟨a2, n2, c2, rfl, h1, h2, h3⟩
  exact ⟨_, _, rfl, a2, n2, c2, R, rfl, h1, h2, hd, h3⟩
theorem dropD (b o n c k : Nat) (L : List PM) (h : Drawn k L) (hL : LenC L n c) (u f : ByteArray) (hu : u = annT ∨ u = bobT) (hsf : shortB f = true) (W : World) (hs : Src W (some ⟨b, o, none⟩) (cellsP L)) :
    Calls Tryz.prog 98 #[.slice (some ⟨b, o, none⟩) n c, .string u, .string f] W fun e W' => ∃ v q, e = .returned (.tuple #[v, .int .i64 q]) ∧ WorkD k L W W' v := by
  obtain ⟨hsu, S, hS, hw, hF, hnd, n1⟩ := h.desk hu
  obtain ⟨R, q, hR⟩ : ∃ R q, dropR L u f = (R, q) := ⟨_, _, rfl⟩
  have hd := And.intro (drop_drawn h hu hsf) (drop_mono h hu hsf)
  rw [hR] at hd
  refine (l07DropFolderC b o n c L hL.1 hL.2.1 hL.2.2 (store_facts h.st).1 u f (short_size' hsu) (short_size' hsf) (by omega) W hs R q hR).mono ?_
  rintro e W' ⟨a2, n2, c2, rfl, h1, h2, h3⟩
  exact ⟨_, _, rfl, a2, n2, c2, R, rfl, h1, h2, hd, h3⟩
theorem rnD (b o n c k : Nat) (L : List PM) (h : Drawn k L) (hL : LenC L n c) (u f tf : ByteArray) (hu : u = annT ∨ u = bobT) (hsf : shortB f = true) (hp : FoldN tf) (W : World) (hs : Src W (some ⟨b, o, none⟩) (cellsP L)) :
    Calls Tryz.prog 99 #[.slice (some ⟨b, o, none⟩) n c, .string u, .string f, .string tf] W fun e W' => ∃ v q, e = .returned (.tuple #[v, .int .i64 q]) ∧ WorkD k L W W' v := by
  obtain ⟨hsu, S, hS, hw, hF, hnd, n1⟩ := h.desk hu
  obtain ⟨R, q, hR⟩ : ∃ R q, rnR L u f tf = (R, q) := ⟨_, _, rfl⟩
  have hd := And.intro (rn_drawn h hu hsf hp) (rn_mono h hu hsf hp)
  rw [hR] at hd
  refine (l07RenameC b o n c L hL.1 hL.2.1 hL.2.2 (store_facts h.st).1 h.st u f tf hsu hsf (fold_short hp) (by omega) W hs R q hR).mono ?_
  rintro e W' ⟨a2, n2, c2, rfl, h1, h2, h3⟩
  exact ⟨_, _, rfl, a2, n2, c2, R, rfl, h1, h2, hd, h3⟩
theorem flD (b o n c k : Nat) (L : List PM) (h : Drawn k L) (hL : LenC L n c) (u f : ByteArray) (un fl : Int) (hu : u = annT ∨ u = bobT) (hsf : shortB f = true) (f0 : 0 ≤ fl) (f1 : fl ≤ 3) (W : World) (hs : Src W (some ⟨b, o, none⟩) (cellsP L)) :
    Calls Tryz.prog 50 #[.slice (some ⟨b, o, none⟩) n c, .string u, .string f, .int .i64 un, .int .i64 fl] W fun e W' => ∃ v q, e = .returned (.tuple #[v, .int .i64 q]) ∧ WorkD k L W W' v := by
  obtain ⟨hsu, S, hS, hw, hF, hnd, n1⟩ := h.desk hu
  obtain ⟨R, q, hR⟩ : ∃ R q, flR L u f un fl = (R, q) := ⟨_, _, rfl⟩
  have hd := And.intro (fl_drawn (un := un) h hu hsf f0 f1) (fl_mono (un := un) h hu hsf f0 f1)
  rw [hR] at hd
  refine (l07FlagsC b o n c L hL.1 hL.2.1 hL.2.2 (store_facts h.st).1 u f un fl (short_size' hsu) (short_size' hsf) f0 f1 (fun hk v v1 v2 hv => ⟨(cp_val h.st hsu hsf hk v v1 v2 hv).1, (cp_val h.st hsu hsf hk v v1 v2 hv).2.1⟩) W hs R q hR).mono ?_
  rintro e W' ⟨a2, n2, c2, rfl, h1, h2, h3⟩
  exact ⟨_, _, rfl, a2, n2, c2, R, rfl, h1, h2, hd, h3⟩
theorem exD (b o n c k : Nat) (L : List PM) (h : Drawn k L) (hL : LenC L n c) (u f : ByteArray) (hu : u = annT ∨ u = bobT) (hsf : shortB f = true) (W : World) (hs : Src W (some ⟨b, o, none⟩) (cellsP L)) :
    Calls Tryz.prog 52 #[.slice (some ⟨b, o, none⟩) n c, .string u, .string f] W fun e W' => ∃ v x q, e = .returned (.tuple #[v, x, .int .i64 q]) ∧ WorkD k L W W' v := by
  obtain ⟨hsu, S, hS, hw, hF, hnd, n1⟩ := h.desk hu
  obtain ⟨R, G, q, hR⟩ : ∃ R G q, exR L u f = (R, G, q) := ⟨_, _, _, rfl⟩
  have hd := And.intro (ex_drawn h hu hsf) (ex_mono h hu hsf)
  rw [hR] at hd
  refine (l07ExpungeC b o n c L hL.1 (store_facts h.st).1 h.st u f hsu hsf W hs R G q hR).mono ?_
  rintro e W' ⟨a2, n2, c2, v, rfl, h1, h2, _, h3⟩
  exact ⟨_, _, _, rfl, a2, n2, c2, R, rfl, ⟨h1.1, h1.2 hL.2⟩, h2, hd, h3⟩
theorem appD (b o n c k : Nat) (L : List PM) (h : Drawn k L) (hL : LenC L n c) (u f t : ByteArray) (fl : Int) (hu : u = annT ∨ u = bobT) (hsf : shortB f = true) (f0 : 0 ≤ fl) (f1 : fl ≤ 3) (ht : t.size ≤ 85) (W : World) (hs : Src W (some ⟨b, o, none⟩) (cellsP L)) :
    Calls Tryz.prog 101 #[.slice (some ⟨b, o, none⟩) n c, .string u, .string f, .string t, .int .i64 fl] W fun e W' => ∃ v x q, e = .returned (.tuple #[v, x, .int .i64 q]) ∧ WorkD k L W W' v := by
  obtain ⟨hsu, S, hS, hw, hF, hnd, n1⟩ := h.desk hu
  obtain ⟨R, q1, q2, hR⟩ : ∃ R q1 q2, appR L u f t fl = (R, q1, q2) := ⟨_, _, _, rfl⟩
  have hd := And.intro (app_drawn h hu hsf f0 f1 ht) (app_mono h hu hsf f0 f1 ht)
  rw [hR] at hd
  refine (l07AppendC b o n c L hL.1 hL.2.1 hL.2.2 (store_facts h.st).1 u f t fl (short_size' hsu) (short_size' hsf) ht f0 f1 W hs R q1 q2 hR).mono ?_
  rintro e W' ⟨a2, n2, c2, rfl, h1, h2, h3⟩
  exact ⟨_, _, _, rfl, a2, n2, c2, R, rfl, h1, h2, hd, h3⟩
theorem cpD (b o n c k : Nat) (L : List PM) (h : Drawn k L) (hL : LenC L n c) (u f : ByteArray) (un : Int) (tf : ByteArray) (hu : u = annT ∨ u = bobT) (hsf : shortB f = true) (hst : shortB tf = true) (W : World) (hs : Src W (some ⟨b, o, none⟩) (cellsP L)) :
    Calls Tryz.prog 100 #[.slice (some ⟨b, o, none⟩) n c, .string u, .string f, .int .i64 un, .string tf] W fun e W' => ∃ v x q, e = .returned (.tuple #[v, x, .int .i64 q]) ∧ WorkD k L W W' v := by
  obtain ⟨hsu, S, hS, hw, hF, hnd, n1⟩ := h.desk hu
  obtain ⟨R, q1, q2, hR⟩ : ∃ R q1 q2, cpR L u f un tf = (R, q1, q2) := ⟨_, _, _, rfl⟩
  have hd := And.intro (cp_drawn (un := un) h hu hsf hst) (cp_mono (un := un) h hu hsf hst)
  rw [hR] at hd
  refine (l07CopyC b o n c L hL.1 hL.2.1 hL.2.2 (store_facts h.st).1 u f tf un (short_size' hsu) (short_size' hsf) (short_size' hst) (fun hk => cp_val h.st hsu hsf hk) W hs R q1 q2 hR).mono ?_
  rintro e W' ⟨a2, n2, c2, rfl, h1, h2, h3⟩
  exact ⟨_, _, _, rfl, a2, n2, c2, R, rfl, h1, h2, hd, h3⟩
end Go.Proofs.YthgbclipknfmjaaGreatDoor
