/-
  Cpm Lof Fom Sfl in one. By an AI agent.
-/
import Derived.Test.YthgbclipknfmjaaGreatDoorFr21
namespace Go.Proofs.YthgbclipknfmjaaGreatDoor
open Go.ChangeShapes Go.WideShapes Go.ChangeAt Go.RowKit Go.Deep Go.Lib
set_option linter.unusedVariables false
set_option linter.unusedSimpArgs false
set_option maxRecDepth 100000

theorem hasU {L : List PM} {u : ByteArray} {S : SM} (h : storeB L = true) (hus : (47 : UInt8) ∉ u.data.toList) (hS : takeAll (nextM L) u S0 L = some S) (hw : S.word.toList ≠ []) : ∃ q ∈ L, q.1 = userK u := by
  cases hv : getM L (userK u) with
  | none => exact absurd ((word_iff h hus hS).1.2 hv) hw
  | some v => exact ⟨_, (getM_mem (store_facts h).1.2.2).1 hv, rfl⟩
theorem mail_val {L : List PM} {u f : ByteArray} {n : Nat} {v : ByteArray} (h : storeB L = true) (hus : (47 : UInt8) ∉ u.data.toList) (hfs : (47 : UInt8) ∉ f.data.toList) (hU : ∃ q ∈ L, q.1 = userK u) (hn : n < 1000) (hm : (mailK u f (n : Int), v) ∈ L) : 1 ≤ v.size ∧ v.size ≤ 86 ∧ 48 ≤ hdV v ∧ hdV v ≤ 51 ∧ 1 ≤ n := by
  obtain ⟨hg, nx0, hnm, n1, n2, _, hlay, k⟩ := store_facts h
  have hkd : (mailK u f (n : Int)).data.toList = 109 :: 47 :: (u.data.toList ++ 47 :: (f.data.toList ++ 47 :: d3 n)) := by simp [bs]
  have hsp : splitL 47 (mailK u f (n : Int)).data.toList = [109] :: u.data.toList :: f.data.toList :: splitL 47 (d3 n) := by
    rw [hkd]
    have e : (109 : UInt8) :: 47 :: (u.data.toList ++ 47 :: (f.data.toList ++ 47 :: d3 n)) = [109] ++ 47 :: (u.data.toList ++ 47 :: (f.data.toList ++ 47 :: d3 n)) := rfl
    rw [e, splitL_seg 47 [109] _ (by decide), splitL_seg 47 _ _ hus, splitL_seg 47 _ _ hfs]
  have h1 := (lay_iff (nx := nx0) (by omega) hg.2.2 hus).1 (hlay u hU)
  rcases k _ hm with k | ⟨u', k1, _⟩
  · exact absurd k (mailK_not _ _ _)
  · match hq : splitL 47 (d3 n) with
    | [] => exact absurd hq (splitL_ne 47 _)
    | [d] =>
      have hd : d3 n = d := (split_one hq).1
      have how : ownerM (mailK u f (n : Int), v) = some u := by
        unfold ownerM
        rw [hsp, hq]
        show (if ([109] : List UInt8) = [109] then some (bs u.data.toList) else none) = some u
        rw [if_pos rfl, data_bs]
      have h2 := h1.1 _ hm how
      rw [hsp, hq] at h2
      obtain ⟨w, f2, _, _, h3⟩ := h2
      obtain ⟨n9, e1, _, e3, e4, e5, e6, e7, _⟩ := mailO_iff.1 h3
      rw [← hd, (d3_is n hn).2] at e1
      cases e1
      exact ⟨e3, e4, e5, e6, by omega⟩
    | _ :: _ :: _ =>
      unfold ownerM at k1
      rw [hsp, hq] at k1
      cases k1
theorem mail_pair {L : List PM} {u f : ByteArray} {S : SM} {g : FM} {m : MMl} (h : storeB L = true) (hus : (47 : UInt8) ∉ u.data.toList) (hS : takeAll (nextM L) u S0 L = some S) (hl : lookF f S.fs = some g) (hm : m ∈ g.mails) : (mailK u f m.1, mailV m) ∈ L := by
  obtain ⟨h1, h2⟩ := lookF_mem hl
  refine (take_desk h hus hS).mem_iff.1 ?_
  unfold deskX
  refine List.mem_append_right _ (List.mem_append_right _ (List.mem_flatMap.2 ⟨g, h1, ?_⟩))
  unfold fPairs
  refine List.mem_cons_of_mem _ (List.mem_map.2 ⟨m, hm, ?_⟩)
  rw [h2]
  rfl
theorem mailV_parts {m : MMl} (h0 : 0 ≤ m.2.1) (h1 : m.2.1 ≤ 3) : (mailV m).extract 1 (mailV m).size = m.2.2 ∧ hdV (mailV m) - 48 = m.2.1 := by
  have hit : ∃ c : UInt8, itoa m.2.1 = [c] ∧ (c.toNat : Int) = 48 + m.2.1 := by
    refine ⟨UInt8.ofNat (48 + m.2.1.toNat), ?_, ?_⟩
    · unfold itoa
      rw [if_neg (by omega)]
      unfold decDigits
      rw [dif_pos (by omega)]
    · have h2 : (UInt8.ofNat (48 + m.2.1.toNat)).toNat = 48 + m.2.1.toNat := by simp [UInt8.toNat_ofNat']; omega
      rw [h2]
      omega
  obtain ⟨c, hc, hcn⟩ := hit
  have hd : (mailV m).data.toList = c :: m.2.2.data.toList := by
    unfold mailV
    rw [ByteArray.data_append, Array.toList_append, hc]
    simp [bs]
  constructor
  · apply bs_inj
    rw [ByteArray.data_extract, Array.toList_extract, hd]
    have h9 : (mailV m).size = (c :: m.2.2.data.toList).length := by rw [← hd]; simp
    rw [h9]
    simp [List.extract]
    exact List.take_of_length_le (by simp)
  · unfold hdV
    rw [hd]
    show (c.toNat : Int) - 48 = m.2.1
    omega
def cpT (L : List PM) (u f : ByteArray) (un : Int) (tf : ByteArray) : List PM × Int × Int :=
  if (decide (1 ≤ un) && decide (un ≤ 999)) = false then (L, 0, 5) else match getM L (mailK u f un) with
    | none => (L, 0, 5)
    | some v => appR L u tf (v.extract 1 v.size) (hdV v - 48)
def cpR (L : List PM) (u f : ByteArray) (un : Int) (tf : ByteArray) : List PM × Int × Int :=
  if knownR L u f ≠ 0 then (L, 0, knownR L u f) else if knownR L u tf ≠ 0 then (L, 0, knownR L u tf) else cpT L u f un tf
theorem cp_miss {L : List PM} {u f tf : ByteArray} {S : SM} {g : FM} {un : Int} (h : storeB L = true) (hus : (47 : UInt8) ∉ u.data.toList) (hfs : (47 : UInt8) ∉ f.data.toList) (hS : takeAll (nextM L) u S0 L = some S) (hl : lookF f S.fs = some g) (hm : ∀ m ∈ g.mails, m.1 ≠ un) : cpT L u f un tf = (L, 0, 5) := by
  unfold cpT
  by_cases hr : (decide (1 ≤ un) && decide (un ≤ 999)) = false
  · rw [if_pos hr]
  · rw [if_neg hr]
    cases hv : getM L (mailK u f un) with
    | none => rfl
    | some v =>
      exfalso
      have hr2 : 1 ≤ un ∧ un ≤ 999 := by
        by_cases e : 1 ≤ un ∧ un ≤ 999
        · exact e
        · exact absurd (by
            by_cases e1 : 1 ≤ un
            · have e2 : ¬ un ≤ 999 := fun h9 => e ⟨e1, h9⟩
              rw [decide_eq_false e2]; simp
            · rw [decide_eq_false e1]; rfl) hr
      have hp := (getM_mem (store_facts h).1.2.2).1 hv
      have hp2 : (mailK u f ((un.toNat : Nat) : Int), v) ∈ L := by rw [show ((un.toNat : Nat) : Int) = un by omega]; exact hp
      obtain ⟨m, m1, m2, _⟩ := mail_there h hus hfs hS hl (by omega) hp2
      exact hm m m1 (by omega)
set_option maxHeartbeats 4000000 in
theorem l07CopyC (b o n c : Nat) (L : List PM) (hL : L.length = n) (hc : n ≤ c) (hc9 : c ≤ maxLen) (hg : GoodL L) (u f tf : ByteArray) (un : Int) (hus : u.size ≤ 8) (hfs : f.size ≤ 8) (hts : tf.size ≤ 8) (hval : knownR L u f = 0 → ∀ v, 1 ≤ un → un ≤ 999 → getM L (mailK u f un) = some v → 1 ≤ v.size ∧ v.size ≤ 86 ∧ 48 ≤ hdV v ∧ hdV v ≤ 51) (w : World) (h : Src w (some ⟨b, o, none⟩) (cellsP L)) (R : List PM) (q1 q2 : Int) (HR : Hid (cpR L u f un tf = (R, q1, q2))) :
    Calls Tryz.prog 100 #[.slice (some ⟨b, o, none⟩) n c, .string u, .string f, .int .i64 un, .string tf] w fun e w' => ∃ a2 n2 c2, e = .returned (.tuple #[.slice a2 n2 c2, .int .i64 q1, .int .i64 q2]) ∧ LenC R n2 c2 ∧ Src w' a2 (cellsP R) ∧ Below w.heap.size w w' := by
  have hn60 := hg.1
  rw [hL] at hn60
  have HLN : Hid (LenC L n c ∧ Src w (some ⟨b, o, none⟩) (cellsP L)) := ⟨⟨hL, hc, hc9⟩, h⟩
  have HBAD : Hid (∀ (W : World) (z1 z2 : Int), Below w.heap.size w W → (L, z1, z2) = (R, q1, q2) → ∃ a2 n2 c2, Ending.returned (Value.tuple #[.slice (some ⟨b, o, none⟩) n c, .int .i64 z1, .int .i64 z2]) = Ending.returned (.tuple #[.slice a2 n2 c2, .int .i64 q1, .int .i64 q2]) ∧ LenC R n2 c2 ∧ Src W a2 (cellsP R) ∧ Below w.heap.size w W) := fun W z1 z2 hW he => by
    cases he
    exact ⟨_, _, _, rfl, HLN.out.1, HLN.out.2.below hW, hW⟩
  have CK := l07KnownS (some ⟨b, o, none⟩) n c L hL hg u f (by omega) (by omega) w h _ rfl
  have CK2 := fun W (hW : Below w.heap.size w W) => l07KnownS (some ⟨b, o, none⟩) n c L hL hg u tf (by omega) (by omega) W (h.below hW) _ rfl
  have HR1 := HR.out
  unfold cpR at HR1
  obtain ⟨k1, hk1⟩ : ∃ z, knownR L u f = z := ⟨_, rfl⟩
  obtain ⟨k2, hk2⟩ : ∃ z, knownR L u tf = z := ⟨_, rfl⟩
  rw [hk1] at CK HR1 hval
  simp only [hk2] at CK2
  rw [hk2] at HR1
  by_cases e1 : k1 = 0
  case neg =>
    rw [if_pos e1] at HR1
    have HF := fun W hW => HBAD.out W 0 k1 hW HR1
    have HFH : Hid (∀ W, Below w.heap.size w W → ∃ a2 n2 c2, Ending.returned (Value.tuple #[.slice (some ⟨b, o, none⟩) n c, .int .i64 0, .int .i64 k1]) = Ending.returned (.tuple #[.slice a2 n2 c2, .int .i64 q1, .int .i64 q2]) ∧ LenC R n2 c2 ∧ Src W a2 (cellsP R) ∧ Below w.heap.size w W) := HF
    have hki : (k1 != 0) = true := by simpa using e1
    clear hL h hg HR HR1 hk1 hk2 CK2 HF HBAD hval
    go_enter Tryz.func100, Tryz.ntmps100
    go_wp2_with fail
    refine CK.mono ?_
    rintro e w1 ⟨rfl, hb1⟩
    have HG : Hid (∃ a2 n2 c2, Ending.returned (Value.tuple #[.slice (some ⟨b, o, none⟩) n c, .int .i64 0, .int .i64 k1]) = Ending.returned (.tuple #[.slice a2 n2 c2, .int .i64 q1, .int .i64 q2]) ∧ LenC R n2 c2 ∧ Src w1 a2 (cellsP R) ∧ Below w.heap.size w w1) := HFH.out w1 hb1
    clear hb1 CK HFH
    go_wp2_with fail
    exact bodyPost_ret (v := .tuple #[.slice (some ⟨b, o, none⟩) n c, .int .i64 0, .int .i64 k1]) (by simp [results, Tryz.results100, go_sem]) rfl HG.out
  subst e1
  rw [if_neg (by decide)] at HR1
  by_cases e2 : k2 = 0
  case neg =>
    rw [if_pos e2] at HR1
    have HFH : Hid (∀ W, Below w.heap.size w W → ∃ a2 n2 c2, Ending.returned (Value.tuple #[.slice (some ⟨b, o, none⟩) n c, .int .i64 0, .int .i64 k2]) = Ending.returned (.tuple #[.slice a2 n2 c2, .int .i64 q1, .int .i64 q2]) ∧ LenC R n2 c2 ∧ Src W a2 (cellsP R) ∧ Below w.heap.size w W) := fun W hW => HBAD.out W 0 k2 hW HR1
    have hki : (k2 != 0) = true := by simpa using e2
    clear hL h hg HR HR1 hk1 hk2 HBAD hval
    go_enter Tryz.func100, Tryz.ntmps100
    go_wp2_with fail
    refine CK.mono ?_
    rintro e w1 ⟨rfl, hb1⟩
    have B1 : Hid (Below w.heap.size w w1) := hb1
    have CK3 := CK2 w1 hb1
    clear hb1 CK CK2
    go_wp2_with fail
    refine CK3.mono ?_
    rintro e w2 ⟨rfl, hb2⟩
    have HG : Hid (∃ a2 n2 c2, Ending.returned (Value.tuple #[.slice (some ⟨b, o, none⟩) n c, .int .i64 0, .int .i64 k2]) = Ending.returned (.tuple #[.slice a2 n2 c2, .int .i64 q1, .int .i64 q2]) ∧ LenC R n2 c2 ∧ Src w2 a2 (cellsP R) ∧ Below w.heap.size w w2) := HFH.out w2 (B1.out.trans (hb2.mono B1.out.size))
    clear hb2 CK3 HFH
    go_wp2_with fail
    exact bodyPost_ret (v := .tuple #[.slice (some ⟨b, o, none⟩) n c, .int .i64 0, .int .i64 k2]) (by simp [results, Tryz.results100, go_sem]) rfl HG.out
  subst e2
  rw [if_neg (by decide)] at HR1
  unfold cpT at HR1
  cases hrg : (decide (1 ≤ un) && decide (un ≤ 999)) with
  | false =>
    rw [if_pos hrg] at HR1
    have HFH : Hid (∀ W, Below w.heap.size w W → ∃ a2 n2 c2, Ending.returned (Value.tuple #[.slice (some ⟨b, o, none⟩) n c, .int .i64 0, .int .i64 5]) = Ending.returned (.tuple #[.slice a2 n2 c2, .int .i64 q1, .int .i64 q2]) ∧ LenC R n2 c2 ∧ Src W a2 (cellsP R) ∧ Below w.heap.size w W) := fun W hW => HBAD.out W 0 5 hW HR1
    have CI := fun W => l01InS un 1 999 false W hrg
    clear hL h hg HR HR1 hk1 hk2 HBAD hval hrg
    go_enter Tryz.func100, Tryz.ntmps100
    go_wp2_with fail
    refine CK.mono ?_
    rintro e w1 ⟨rfl, hb1⟩
    have B1 : Hid (Below w.heap.size w w1) := hb1
    have CK3 := CK2 w1 hb1
    clear hb1 CK CK2
    go_wp2_with fail
    refine CK3.mono ?_
    rintro e w2 ⟨rfl, hb2⟩
    have HG : Hid (∃ a2 n2 c2, Ending.returned (Value.tuple #[.slice (some ⟨b, o, none⟩) n c, .int .i64 0, .int .i64 5]) = Ending.returned (.tuple #[.slice a2 n2 c2, .int .i64 q1, .int .i64 q2]) ∧ LenC R n2 c2 ∧ Src w2 a2 (cellsP R) ∧ Below w.heap.size w w2) := HFH.out w2 (B1.out.trans (hb2.mono B1.out.size))
    clear hb2 CK3 HFH
    go_wp2_with fail
    refine (CI _).mono ?_
    rintro e w3 ⟨rfl, hw3⟩
    obtain rfl := hw3
    go_wp2_with fail
    exact bodyPost_ret (v := .tuple #[.slice (some ⟨b, o, none⟩) n c, .int .i64 0, .int .i64 5]) (by simp [results, Tryz.results100, go_sem]) rfl HG.out
  | true =>
    rw [if_neg (by rw [hrg]; decide)] at HR1
    have hr2 : 1 ≤ un ∧ un ≤ 999 := by
      rw [Bool.and_eq_true, decide_eq_true_eq, decide_eq_true_eq] at hrg
      exact hrg
    have CI := fun W => l01InS un 1 999 true W hrg
    obtain ⟨nn, rfl⟩ : ∃ nn : Nat, un = (nn : Int) := ⟨un.toNat, by omega⟩
    have CML := fun W => l07MailS u f nn (by omega) (by omega) (by omega) W
    have CG := fun W (hW : Below w.heap.size w W) => l01GetM (some ⟨b, o, none⟩) n c L (mailK u f (nn : Int)) W hL hg (h.below hW)
    have hval2 := fun v => hval rfl v hr2.1 hr2.2
    clear hrg hr2 hval
    cases hv : getM L (mailK u f (nn : Int)) with
    | none =>
      rw [hv] at HR1
      simp only [hv] at CG
      have HFH : Hid (∀ W, Below w.heap.size w W → ∃ a2 n2 c2, Ending.returned (Value.tuple #[.slice (some ⟨b, o, none⟩) n c, .int .i64 0, .int .i64 5]) = Ending.returned (.tuple #[.slice a2 n2 c2, .int .i64 q1, .int .i64 q2]) ∧ LenC R n2 c2 ∧ Src W a2 (cellsP R) ∧ Below w.heap.size w W) := fun W hW => HBAD.out W 0 5 hW HR1
      obtain ⟨MK, hMK⟩ : ∃ x, mailK u f (nn : Int) = x := ⟨_, rfl⟩
      simp only [hMK] at CML CG
      clear hL h hg HR HR1 hk1 hk2 HBAD hval2 hv hMK
      go_enter Tryz.func100, Tryz.ntmps100
      go_wp2_with fail
      refine CK.mono ?_
      rintro e w1 ⟨rfl, hb1⟩
      have B1 : Hid (Below w.heap.size w w1) := hb1
      have CK3 := CK2 w1 hb1
      clear hb1 CK CK2
      go_wp2_with fail
      refine CK3.mono ?_
      rintro e w2 ⟨rfl, hb2⟩
      have B2 : Hid (Below w.heap.size w w2) := B1.out.trans (hb2.mono B1.out.size)
      clear hb2 CK3
      go_wp2_with fail
      refine (CI _).mono ?_
      rintro e w3 ⟨rfl, hw3⟩
      obtain rfl := hw3
      clear CI
      go_wp2_with fail
      refine (CML _).mono ?_
      rintro e w4 ⟨rfl, hb4⟩
      have B4 : Hid (Below w.heap.size w w4) := B2.out.trans (hb4.mono B2.out.size)
      have CG4 := CG w4 B4.out
      have HG : Hid (∃ a2 n2 c2, Ending.returned (Value.tuple #[.slice (some ⟨b, o, none⟩) n c, .int .i64 0, .int .i64 5]) = Ending.returned (.tuple #[.slice a2 n2 c2, .int .i64 q1, .int .i64 q2]) ∧ LenC R n2 c2 ∧ Src w4 a2 (cellsP R) ∧ Below w.heap.size w w4) := HFH.out w4 B4.out
      clear hb4 CML CG HFH
      go_wp2_with fail
      refine CG4.mono ?_
      rintro e w5 ⟨rfl, hw5⟩
      obtain rfl := hw5
      clear CG4
      go_wp2_with fail
      exact bodyPost_ret (v := .tuple #[.slice (some ⟨b, o, none⟩) n c, .int .i64 0, .int .i64 5]) (by simp [results, Tryz.results100, go_sem]) rfl HG.out
    | some v =>
      rw [hv] at HR1
      simp only [hv] at CG
      obtain ⟨z1, z2, z3, z4⟩ := hval2 v hv
      have hts2 : (v.extract 1 v.size).size ≤ 85 := by
        rw [ByteArray.size_extract]
        omega
      have CP := fun W (hW : Below w.heap.size w W) => l07AppendC b o n c L hL hc hc9 hg u tf (v.extract 1 v.size) (hdV v - 48) hus hts hts2 (by omega) (by omega) W (h.below hW) R q1 q2 HR1
      have hv0 : 0 < v.size := by omega
      have hcut : ∀ W : World, (Instr.slice 9 (.string v) (some (.int .i64 1)) none none).run Tryz.prog W = .ok (.string (v.extract 1 v.size)) W := fun W => by
        have := run_slice_string_l (P := Tryz.prog) (w := W) (t := 9) (s := v) Tryz.underlying9 .i64 1 (by omega) (by omega)
        exact this
      have hhd : (v[0].toNat : Int) = hdV v := by
        unfold hdV
        have e9 : v.data.toList.headD 0 = v[0] := by
          cases hvl : v.data.toList with
          | nil =>
            have h9 : v.data.toList.length = v.size := by simp
            rw [hvl] at h9
            simp at h9
            omega
          | cons c0 r0 =>
            have h9 : v[0] = v.data.toList[0]'(by rw [hvl]; simp) := rfl
            rw [h9]
            simp [hvl]
        rw [e9]
      obtain ⟨tx, htx⟩ : ∃ x, v.extract 1 v.size = x := ⟨_, rfl⟩
      simp only [htx] at CP hcut
      obtain ⟨hh, hhh⟩ : ∃ x : Int, hdV v = x := ⟨_, rfl⟩
      rw [hhh] at hhd z3 z4
      simp only [hhh] at CP
      have w8 : IntKind.u8.wrap (hh - 48) = hh - 48 := by
        simp [IntKind.wrap, IntKind.bits, IntKind.signed]
        omega
      have w64 : IntKind.i64.wrap (hh - 48) = hh - 48 := wrapI _ (by omega) (by omega)
      obtain ⟨MK, hMK⟩ : ∃ x, mailK u f (nn : Int) = x := ⟨_, rfl⟩
      simp only [hMK] at CML CG
      clear hL h hg HR HR1 hk1 hk2 HBAD hval2 hv hMK htx hhh hts2
      go_enter Tryz.func100, Tryz.ntmps100
      go_wp2_with fail
      refine CK.mono ?_
      rintro e w1 ⟨rfl, hb1⟩
      have B1 : Hid (Below w.heap.size w w1) := hb1
      have CK3 := CK2 w1 hb1
      clear hb1 CK CK2
      go_wp2_with fail
      refine CK3.mono ?_
      rintro e w2 ⟨rfl, hb2⟩
      have B2 : Hid (Below w.heap.size w w2) := B1.out.trans (hb2.mono B1.out.size)
      clear hb2 CK3
      go_wp2_with fail
      refine (CI _).mono ?_
      rintro e w3 ⟨rfl, hw3⟩
      obtain rfl := hw3
      clear CI
      go_wp2_with fail
      refine (CML _).mono ?_
      rintro e w4 ⟨rfl, hb4⟩
      have B4 : Hid (Below w.heap.size w w4) := B2.out.trans (hb4.mono B2.out.size)
      have CG4 := CG w4 B4.out
      clear hb4 CML CG
      go_wp2_with fail
      refine CG4.mono ?_
      rintro e w5 ⟨rfl, hw5⟩
      obtain rfl := hw5
      clear CG4
      have CP5 := CP w5.drew B4.out.drew
      clear CP
      go_upto_region 12 with fail
      refine wp_region_noPanic ?_
      refine wp_region_held_drew (S := fun w' => True) (by kernel_rfl) trivial (fun hHeld => ?_)
      refine tkA (i := 0) (v := .slice (some ⟨b, o, none⟩) n c) ?_ hHeld ?_
      · intro w9 hSw
        go_simp
      simp only [Act.put, List.setIfInBounds_toArray, List.set_cons_zero, List.set_cons_succ]
      refine tkA (i := 1) (v := .string u) ?_ hHeld ?_
      · intro w9 hSw
        go_simp
      simp only [Act.put, List.setIfInBounds_toArray, List.set_cons_zero, List.set_cons_succ]
      refine tkA (i := 2) (v := .string tf) ?_ hHeld ?_
      · intro w9 hSw
        go_simp
      simp only [Act.put, List.setIfInBounds_toArray, List.set_cons_zero, List.set_cons_succ]
      refine tkA (i := 3) (v := .string v) ?_ hHeld ?_
      · intro w9 hSw
        go_simp
      simp only [Act.put, List.setIfInBounds_toArray, List.set_cons_zero, List.set_cons_succ]
      refine tkA (i := 4) (v := .string tx) ?_ hHeld ?_
      · intro w9 hSw
        have h9 := hcut w9
        go_simp
      simp only [Act.put, List.setIfInBounds_toArray, List.set_cons_zero, List.set_cons_succ]
      refine tkA (i := 5) (v := .string v) ?_ hHeld ?_
      · intro w9 hSw
        go_simp
      simp only [Act.put, List.setIfInBounds_toArray, List.set_cons_zero, List.set_cons_succ]
      refine tkA (i := 6) (v := .int .u8 hh) ?_ hHeld ?_
      · intro w9 hSw
        go_simp
      simp only [Act.put, List.setIfInBounds_toArray, List.set_cons_zero, List.set_cons_succ]
      refine tkA (i := 7) (v := .int .u8 (hh - 48)) ?_ hHeld ?_
      · intro w9 hSw
        go_simp
      simp only [Act.put, List.setIfInBounds_toArray, List.set_cons_zero, List.set_cons_succ]
      refine tkA (i := 8) (v := .int .i64 (hh - 48)) ?_ hHeld ?_
      · intro w9 hSw
        go_simp
      simp only [Act.put, List.setIfInBounds_toArray, List.set_cons_zero, List.set_cons_succ]
      refine wpAnyH_ready (rs := [9]) (by kernel_rfl) (by simp) ?_
      refine AllReadyH.cons rfl (fun K hK => ?_) AllReadyH.nil
      go_simp
      refine CP5.mono ?_
      rintro e w6 ⟨a6, n6, c6, rfl, y1, y2, hb6⟩
      dsimp only
      have HF : Hid (LenC R n6 c6 ∧ Src w6 a6 (cellsP R) ∧ Below w.heap.size w w6) := ⟨y1, y2, B4.out.drew.trans (Below.mono hb6 B4.out.size)⟩
      clear y1 y2 hb6
      refine hK _ _ trivial (fun hHeld => ?_)
      clear hK K
      refine tkA (i := 10) (v := .slice a6 n6 c6) ?_ hHeld ?_
      · intro w9 hSw
        go_simp
      simp only [Act.put, List.setIfInBounds_toArray, List.set_cons_zero, List.set_cons_succ]
      refine tkA (i := 11) (v := .int .i64 q1) ?_ hHeld ?_
      · intro w9 hSw
        go_simp
      simp only [Act.put, List.setIfInBounds_toArray, List.set_cons_zero, List.set_cons_succ]
      refine tkA (i := 12) (v := .int .i64 q2) ?_ hHeld ?_
      · intro w9 hSw
        go_simp
      simp only [Act.put, List.setIfInBounds_toArray, List.set_cons_zero, List.set_cons_succ]
      refine wpAnyH_ready (rs := [13]) (by kernel_rfl) (by simp) ?_
      refine AllReadyH.cons rfl (fun K hK => ?_) AllReadyH.nil
      go_simp
      refine hK _ _ trivial (fun hHeld => ?_)
      clear hK K
      refine wpAnyH_ready (rs := [14]) (by kernel_rfl) (by simp) ?_
      refine AllReadyH.cons rfl (fun K hK => ?_) AllReadyH.nil
      go_simp
      refine hK _ _ trivial (fun hHeld => ?_)
      clear hK K
      refine wpAnyH_ready (rs := [15]) (by kernel_rfl) (by simp) ?_
      refine AllReadyH.cons rfl (fun K hK => ?_) AllReadyH.nil
      go_simp
      refine hK _ _ trivial (fun hHeld => ?_)
      clear hK K
      refine wpAnyH_done (by kernel_rfl) ?_ _
      refine NoPanic.normal ?_
      clear hHeld
      go_wp2_with fail
      exact bodyPost_ret (v := .tuple #[.slice a6 n6 c6, .int .i64 q1, .int .i64 q2]) (by simp [results, Tryz.results100, go_sem]) rfl ⟨_, _, _, rfl, HF.out⟩
/-- Mails whose pairs can be read back. -/
def FitMs (Ms : List MMl) : Prop := ∀ m ∈ Ms, 0 ≤ m.1 ∧ m.1 < 1000 ∧ 0 ≤ m.2.1 ∧ m.2.1 ≤ 3 ∧ m.2.2.size ≤ 1000
/-- Of three digits the first i, as a number. -/
def partD (x y z : Int) : Nat → Int
  | 0 => 0
  | 1 => x
  | 2 => x * 10 + y
  | _ => (x * 10 + y) * 10 + z
def digD (x y z : Int) : Nat → Int
  | 0 => x
  | 1 => y
  | _ => z
theorem part_step (x y z : Int) (i : Nat) (h : i < 3) : partD x y z (i + 1) = partD x y z i * 10 + digD x y z i := by
  match i, h with
  | 0, _ => simp [partD, digD]
  | 1, _ => rfl
  | 2, _ => rfl
theorem key_digit {K : ByteArray} {p : List UInt8} {x y z : Nat} (hx : x < 10) (hy : y < 10) (hz : z < 10) (h : K.data.toList = p ++ [UInt8.ofNat (48 + x), UInt8.ofNat (48 + y), UInt8.ofNat (48 + z)]) (i : Nat) (hi : i < 3) : K.size = p.length + 3 ∧ ∃ hb : p.length + i < K.size, ((K[p.length + i]'hb).toNat : Int) = 48 + digD (x : Int) (y : Int) (z : Int) i := by
  have hs : K.size = p.length + 3 := by
    rw [size_of, h]
    simp
  refine ⟨hs, by omega, ?_⟩
  have hd : ∀ d : Nat, d < 10 → ((UInt8.ofNat (48 + d)).toNat : Int) = 48 + (d : Int) := fun d h9 => by
    have h1 : (UInt8.ofNat (48 + d)).toNat = 48 + d := by simp [UInt8.toNat_ofNat']; omega
    rw [h1]
    omega
  have hb : p.length + i < K.data.toList.length := by rw [h]; simp; omega
  have e : K[p.length + i]'(by omega) = K.data.toList[p.length + i]'hb := rfl
  rw [e]
  have e2 : K.data.toList[p.length + i]'hb = [UInt8.ofNat (48 + x), UInt8.ofNat (48 + y), UInt8.ofNat (48 + z)][i]'(by simpa using hi) := by
    simp only [h]
    rw [List.getElem_append_right (by omega)]
    simp
  rw [e2]
  match i, hi with
  | 0, _ => exact hd x hx
  | 1, _ => exact hd y hy
  | 2, _ => exact hd z hz
set_option maxHeartbeats 8000000 in
theorem l07OfS (a : Option Addr) (n c : Nat) (L : List PM) (hL : L.length = n) (hg : GoodL L) (u f : ByteArray) (hus : u.size ≤ 1000) (hfs : f.size ≤ 1000) (Ms : List MMl) (hM : FitMs Ms) (hU : (L.filter fun x => beginsB x.1 (preK u f)) = Ms.map (mailP u f)) (w : World) (h : Src w a (cellsP L)) :
    Calls Tryz.prog 95 #[.slice a n c, .string u, .string f] w fun e w' => ∃ v, e = .returned v ∧ w'.ownsRow w.heap.size 37 3 v Ms.length (cellsMl Ms) ∧ Below w.heap.size w w' := by
  have hn60 := hg.1
  rw [hL] at hn60
  have CM := fun W => l07MailsS u f W hus hfs
  have hpz := preK_size u f
  have CU := fun W (hW : Below w.heap.size w W) => l01Under a n c (fK L) (fV L) (preK u f) W (by omega) (by omega) (fun i hi => by
    have hi2 : i < L.length := by omega
    obtain ⟨e1, e2⟩ := at_fst hi2
    rw [e1, e2]
    have := hg.2.1 _ (List.getElem_mem hi2)
    omega) (sp_src (h.below hW) hL)
  have eU : under (fK L) (fV L) (preK u f) n = Ms.map (mailP u f) := by
    rw [under_is L (preK u f) n (by omega), List.take_of_length_le (by omega), hU]
  simp only [eU] at CU
  have hul : (Ms.map (mailP u f)).length ≤ L.length := by rw [← hU]; exact List.length_filter_le _ _
  rw [List.length_map, hL] at hul
  obtain ⟨m, hm⟩ : ∃ t, Ms.length = t := ⟨_, rfl⟩
  rw [hm] at hul
  have hm60 : m ≤ 60 := by omega
  have HUM : Hid (Ms.length = m) := hm
  have HFM : Hid (FitMs Ms) := hM
  have hpl : (preK u f).data.toList.length = (preK u f).size := by rw [size_of]
  have HPD : Hid (∀ x ∈ Ms, ∃ p q r : Nat, p < 10 ∧ q < 10 ∧ r < 10 ∧ x.1 = ((p * 100 + q * 10 + r : Nat) : Int) ∧ (mailK u f x.1).data.toList = (preK u f).data.toList ++ [UInt8.ofNat (48 + p), UInt8.ofNat (48 + q), UInt8.ofNat (48 + r)]) := fun x hx => by
    obtain ⟨e1, e2, _⟩ := hM x hx
    obtain ⟨p, q, r, hp, hq, hr, he⟩ := split3 x.1.toNat (by omega)
    refine ⟨p, q, r, hp, hq, hr, by omega, ?_⟩
    rw [preK_data]
    have hd3 : d3 x.1.toNat = [UInt8.ofNat (48 + p), UInt8.ofNat (48 + q), UInt8.ofNat (48 + r)] := by
      rw [he]
      unfold d3
      rw [dec4 p q r hp hq hr]
      rfl
    show (bs (109 :: 47 :: (u.data.toList ++ 47 :: (f.data.toList ++ 47 :: d3 x.1.toNat)))).data.toList = _
    rw [hd3]
    simp [bs]
  obtain ⟨pl, hpl2⟩ : ∃ t, (preK u f).size = t := ⟨_, rfl⟩
  rw [hpl2] at hpl hpz
  obtain ⟨KP, hKP⟩ : ∃ t, preK u f = t := ⟨_, rfl⟩
  simp only [hKP] at CM CU HPD hpl
  rw [hKP] at hpl2
  have hs60 : pl ≤ 2100 := by omega
  clear hL hg h eU hU hm hKP hul hpz hM
  go_enter Tryz.func95, Tryz.ntmps95
  go_wp2_with fail
  refine (CM _).mono ?_
  rintro e w1 ⟨rfl, hw1⟩
  obtain rfl := hw1
  clear CM
  have A1 : Hid (Below w.heap.size w (w.alloc (.cells #[] 37))) := (Below.refl _ _).alloc (Nat.le_refl _) _
  have OE : Hid ((w.alloc (.cells #[] 37)).ownsRow w.heap.size 37 3 (.slice (some ⟨w.heap.size, 0, none⟩) 0 0) 0 (cellsMl (Ms.take 0))) := own_empty rfl (Nat.le_refl _)
  have CU1 := CU (w.alloc (.cells #[] 37)) A1.out
  clear CU
  go_wp2_with fail
  refine CU1.mono ?_
  rintro e w2 ⟨v2, rfl, ho2, hb2⟩
  have ho3 : w2.ownsRow (w.alloc (.cells #[] 37)).heap.size 68 2 v2 (Ms.map (mailP u f)).length (cellsP (Ms.map (mailP u f))) := ho2
  rw [List.length_map, HUM.out] at ho3
  obtain ⟨au, cu, rfl, hsu, hsb⟩ := own_src ho3
  have B2 : Hid (Below w.heap.size w w2) := A1.out.trans (hb2.mono A1.out.size)
  have HO2 : Hid (w2.ownsRow w.heap.size 37 3 (.slice (some ⟨w.heap.size, 0, none⟩) 0 0) 0 (cellsMl (Ms.take 0))) := own_below OE.out hb2
  have HUR : Hid (w2.ownsRow w.heap.size 68 2 (.slice au m cu) m (cellsP (Ms.map (mailP u f)))) := own_mono ho3 (by have h9 := A1.out.size; omega)
  clear CU1 ho2 ho3 hb2 hsu hsb OE
  go_wp2_with fail
  go_loopw [7, 10] (fun v iv wr => ∃ (j : Nat) (a' : Option Addr) (c' : Nat), j ≤ m ∧ v = .slice a' j c' ∧ iv = .int .i64 (j : Int) ∧ Hid (wr.ownsRow w.heap.size 37 3 (.slice a' j c') j (cellsMl (Ms.take j))) ∧ Hid (wr.ownsRow w.heap.size 68 2 (.slice au m cu) m (cellsP (Ms.map (mailP u f)))) ∧ Hid (Below w.heap.size w wr)) (fun _ i _ => m - (RowKit.intOf i).toNat)
  case atStart => exact ⟨0, _, _, Nat.zero_le _, rfl, rfl, HO2.out, HUR.out, B2.out⟩
  case round =>
    obtain ⟨j, a', c', hj, rfl, rfl, ho, hur, hbr⟩ := hrel
    by_cases hlt : j < m
    · have hltj : (j : Int) < (m : Int) := by omega
      have hjl : j < Ms.length := by rw [HUM.out]; exact hlt
      obtain ⟨gq, capq, hau, _, hsq⟩ := own_someP hur.out (by omega)
      cases hau
      have hjl2 : j < (Ms.map (mailP u f)).length := by rw [List.length_map]; exact hjl
      obtain ⟨bq, oq, x, y, hae, d0, d1, hxy⟩ := srcP hsq hjl2
      cases hae
      rw [Nat.zero_add] at d0 d1
      obtain ⟨mm, hmm⟩ : ∃ t, Ms.getD j ml0 = t := ⟨_, rfl⟩
      have hmem : mm ∈ Ms := by rw [← hmm]; exact mem_getD' Ms ml0 j hjl
      have hxy2 : mailP u f mm = (x, y) := by
        rw [← hxy.out, ← hmm, List.getD_eq_getElem?_getD, List.getD_eq_getElem?_getD, List.getElem?_map, List.getElem?_eq_getElem hjl]
        rfl
      obtain ⟨hmx, hmy⟩ : mailK u f mm.1 = x ∧ mailV mm = y := by
        have h9 : (mailK u f mm.1, mailV mm) = (x, y) := hxy2
        exact ⟨congrArg Prod.fst h9, congrArg Prod.snd h9⟩
      obtain ⟨p1, p2, p3, hp1, hp2, hp3, hpn, hpk⟩ := HPD.out mm hmem
      rw [hmx] at hpk
      obtain ⟨q1, q2, q3, q4, q5⟩ := HFM.out mm hmem
      obtain ⟨t1, t2⟩ := mailV_parts q3 q4
      have hysz : 1 ≤ y.size := by
        rw [← hmy]
        have h9 : (mailV mm).size = (bs (itoa mm.2.1)).size + mm.2.2.size := by unfold mailV; rw [ByteArray.size_append]
        have h8 : 1 ≤ (bs (itoa mm.2.1)).size := by
          rw [size_of]
          show 1 ≤ (itoa mm.2.1).length
          unfold itoa
          rw [if_neg (by omega)]
          unfold decDigits
          rw [dif_pos (by omega)]
          simp
        omega
      rw [hmy] at t1 t2
      have hkd := fun (i : Nat) (hi : i < 3) => key_digit hp1 hp2 hp3 hpk i hi
      simp only [hpl] at hkd
      have hxs : x.size = pl + 3 := (hkd 0 (by omega)).1
      obtain ⟨X, hX⟩ : ∃ t : Int, (p1 : Int) = t := ⟨_, rfl⟩
      obtain ⟨Y, hY⟩ : ∃ t : Int, (p2 : Int) = t := ⟨_, rfl⟩
      obtain ⟨Z, hZ⟩ : ∃ t : Int, (p3 : Int) = t := ⟨_, rfl⟩
      simp only [hX, hY, hZ] at hkd
      have hDG : ∀ i, 0 ≤ digD X Y Z i ∧ digD X Y Z i ≤ 9 := fun i => by
        unfold digD
        split <;> omega
      have hPD : ∀ i, 0 ≤ partD X Y Z i ∧ partD X Y Z i ≤ 1000 := fun i => by
        unfold partD
        split <;> omega
      have hP3 : partD X Y Z 3 = mm.1 := by
        show (X * 10 + Y) * 10 + Z = mm.1
        omega
      have HTK : Hid (cellsMl (Ms.take (j + 1)) = cellsMl (Ms.take j) ++ cellsMl [(mm.1, mm.2.1, mm.2.2)]) := by
        show _ = _
        rw [← cellsMl_append, List.take_add_one, List.getElem?_eq_getElem hjl]
        have h9 : Ms[j] = mm := by rw [← hmm, List.getD_eq_getElem?_getD, List.getElem?_eq_getElem hjl]; rfl
        rw [h9]
        rfl
      obtain ⟨hh, hhh⟩ : ∃ z : Int, hdV y = z := ⟨_, rfl⟩
      have hhd : (y[0].toNat : Int) = hdV y := by
        unfold hdV
        have e9 : y.data.toList.headD 0 = y[0] := by
          cases hvl : y.data.toList with
          | nil =>
            have h9 : y.data.toList.length = y.size := by simp
            rw [hvl] at h9
            simp at h9
            omega
          | cons c0 r0 =>
            have h9 : y[0] = y.data.toList[0]'(by rw [hvl]; simp) := rfl
            rw [h9]
            simp [hvl]
        rw [e9]
      rw [hhh] at hhd t2
      obtain ⟨fl, tx, hfl, htx⟩ : ∃ fl tx, mm.2.1 = fl ∧ mm.2.2 = tx := ⟨_, _, rfl, rfl⟩
      obtain ⟨mu, hmu⟩ : ∃ t, mm.1 = t := ⟨_, rfl⟩
      rw [hfl] at t2 q3 q4 HTK
      rw [htx] at t1 HTK q5
      rw [hmu] at hP3 HTK q1 q2
      have w8 : IntKind.u8.wrap fl = fl := by
        simp [IntKind.wrap, IntKind.bits, IntKind.signed]
        omega
      have w64 : IntKind.i64.wrap fl = fl := wrapI _ (by omega) (by omega)
      have hcut : ∀ W : World, (Instr.slice 9 (.string y) (some (.int .i64 1)) none none).run Tryz.prog W = .ok (.string tx) W := fun W => by
        rw [← t1]
        have := run_slice_string_l (P := Tryz.prog) (w := W) (t := 9) (s := y) Tryz.underlying9 .i64 1 (by omega) (by omega)
        exact this
      clear hsq hjl2 hxy hmm hmem hxy2 hmx hmy hpn hpk hX hY hZ hfl htx hmu hhh t1 hp1 hp2 hp3 HPD
      go_wp2_with fail
      go_loopw [11, 12] (fun nv kv wq => ∃ i : Nat, i ≤ 3 ∧ nv = .int .i64 (partD X Y Z i) ∧ kv = .int .i64 ((pl + i : Nat) : Int) ∧ wq = wr) (fun _ k _ => pl + 3 - (RowKit.intOf k).toNat)
      case atStart => exact ⟨0, by omega, rfl, rfl, rfl⟩
      case round =>
        obtain ⟨i, hi, rfl, rfl, rfl⟩ := hrel
        by_cases hi3 : i < 3
        · obtain ⟨_, hb1, hb2⟩ := hkd i hi3
          have hstep := part_step X Y Z i hi3
          have hD := hDG i
          have hP := hPD i
          have hP2 := hPD (i + 1)
          have hlk : ((pl + i : Nat) : Int) < (x.size : Int) := by omega
          obtain ⟨dg, hdg⟩ : ∃ t, digD X Y Z i = t := ⟨_, rfl⟩
          obtain ⟨pd, hpd⟩ : ∃ t, partD X Y Z i = t := ⟨_, rfl⟩
          rw [hdg] at hb2 hstep hD
          rw [hpd] at hstep hP ⊢
          have wd8 : IntKind.u8.wrap dg = dg := by
            simp [IntKind.wrap, IntKind.bits, IntKind.signed]
            omega
          have hsub : (48 + dg - 48 : Int) = dg := by omega
          go_wp2_with fail
          exact ⟨⟨i + 1, by omega, by rw [hstep], by rw [show ((pl + (i + 1) : Nat) : Int) = (pl : Int) + (i : Int) + 1 by omega], trivial⟩, by simp [RowKit.intOf]; omega⟩
        · obtain rfl : i = 3 := by omega
          have hlk : ¬ ((pl + 3 : Nat) : Int) < (x.size : Int) := by omega
          rw [hP3]
          have HUA : Hid (wr.ownsRow w.heap.size 68 2 (.slice (some ⟨gq, 0, none⟩) m cu) m (cellsP (Ms.map (mailP u f)))) := hur.out
          have hy0 : (0 : Int) < (y.size : Int) := by omega
          have hy1 : ¬ y = ByteArray.empty := fun h9 => by
            rw [h9] at hysz
            exact absurd hysz (by decide)
          have hy2 : 0 < y.size := by omega
          clear hur hkd hDG hPD hP3
          go_upto_region 12 with fail
          refine wp_region_noPanic ?_
          refine wp_region_held_drew (S := fun w' => w'.cell? ⟨gq, j * 2 + 1, none⟩ = some (.string y)) (by kernel_rfl) d1 (fun hHeld => ?_)
          refine tkA (i := 0) (v := .slice a' j c') ?_ hHeld ?_
          · intro w9 hSw
            go_simp
          simp only [Act.put, List.setIfInBounds_toArray, List.set_cons_zero, List.set_cons_succ]
          refine tkA (i := 1) (v := .int .i64 mu) ?_ hHeld ?_
          · intro w9 hSw
            go_simp
          simp only [Act.put, List.setIfInBounds_toArray, List.set_cons_zero, List.set_cons_succ]
          refine tkA (i := 2) (v := .slice (some ⟨gq, 0, none⟩) m cu) ?_ hHeld ?_
          · intro w9 hSw
            go_simp
          simp only [Act.put, List.setIfInBounds_toArray, List.set_cons_zero, List.set_cons_succ]
          refine tkA (i := 3) (v := .int .i64 (j : Int)) ?_ hHeld ?_
          · intro w9 hSw
            go_simp
          simp only [Act.put, List.setIfInBounds_toArray, List.set_cons_zero, List.set_cons_succ]
          refine tkA (i := 4) (v := .pointer (some ⟨gq, j * 2, none⟩)) ?_ hHeld ?_
          · intro w9 hSw
            go_simp
          simp only [Act.put, List.setIfInBounds_toArray, List.set_cons_zero, List.set_cons_succ]
          refine tkA (i := 5) (v := .pointer (some ⟨gq, j * 2 + 1, none⟩)) ?_ hHeld ?_
          · intro w9 hSw
            go_simp
          simp only [Act.put, List.setIfInBounds_toArray, List.set_cons_zero, List.set_cons_succ]
          refine tkA (i := 6) (v := .string y) ?_ hHeld ?_
          · intro w9 hSw
            go_simp
          simp only [Act.put, List.setIfInBounds_toArray, List.set_cons_zero, List.set_cons_succ]
          refine tkA (i := 7) (v := .int .u8 hh) ?_ hHeld ?_
          · intro w9 hSw
            go_simp
          simp only [Act.put, List.setIfInBounds_toArray, List.set_cons_zero, List.set_cons_succ]
          refine tkA (i := 8) (v := .int .u8 fl) ?_ hHeld ?_
          · intro w9 hSw
            go_simp
          simp only [Act.put, List.setIfInBounds_toArray, List.set_cons_zero, List.set_cons_succ]
          refine tkA (i := 9) (v := .int .i64 fl) ?_ hHeld ?_
          · intro w9 hSw
            go_simp
          simp only [Act.put, List.setIfInBounds_toArray, List.set_cons_zero, List.set_cons_succ]
          refine tkA (i := 10) (v := .slice (some ⟨gq, 0, none⟩) m cu) ?_ hHeld ?_
          · intro w9 hSw
            go_simp
          simp only [Act.put, List.setIfInBounds_toArray, List.set_cons_zero, List.set_cons_succ]
          refine tkA (i := 11) (v := .int .i64 (j : Int)) ?_ hHeld ?_
          · intro w9 hSw
            go_simp
          simp only [Act.put, List.setIfInBounds_toArray, List.set_cons_zero, List.set_cons_succ]
          refine tkA (i := 12) (v := .pointer (some ⟨gq, j * 2, none⟩)) ?_ hHeld ?_
          · intro w9 hSw
            go_simp
          simp only [Act.put, List.setIfInBounds_toArray, List.set_cons_zero, List.set_cons_succ]
          refine tkA (i := 13) (v := .pointer (some ⟨gq, j * 2 + 1, none⟩)) ?_ hHeld ?_
          · intro w9 hSw
            go_simp
          simp only [Act.put, List.setIfInBounds_toArray, List.set_cons_zero, List.set_cons_succ]
          refine tkA (i := 14) (v := .string y) ?_ hHeld ?_
          · intro w9 hSw
            go_simp
          simp only [Act.put, List.setIfInBounds_toArray, List.set_cons_zero, List.set_cons_succ]
          refine tkA (i := 15) (v := .string tx) ?_ hHeld ?_
          · intro w9 hSw
            have h9 := hcut w9
            go_simp
          simp only [Act.put, List.setIfInBounds_toArray, List.set_cons_zero, List.set_cons_succ]
          refine tkA (i := 16) (v := .agg #[.int .i64 mu, .int .i64 fl, .string tx]) ?_ hHeld ?_
          · intro w9 hSw
            go_simp
          simp only [Act.put, List.setIfInBounds_toArray, List.set_cons_zero, List.set_cons_succ]
          refine wpAnyH_ready (rs := [17]) (by kernel_rfl) (by simp) ?_
          refine AllReadyH.cons rfl (fun K hK => ?_) AllReadyH.nil
          go_simp
          have A1 : Hid (Below wr.heap.size wr (wr.alloc (.cells #[.int .i64 mu, .int .i64 fl, .string tx] 37)).drew) := (((Below.refl _ _).alloc (Nat.le_refl _) _)).drew
          have d1' := cell_later A1.out d1
          refine hK _ _ d1' (fun hHeld => ?_)
          clear hK K
          refine wpAnyH_ready (rs := [18]) (by kernel_rfl) (by simp) ?_
          refine AllReadyH.cons rfl (fun K hK => ?_) AllReadyH.nil
          refine step_append_src rfl (.tmp 50) (.tmp 67) 26 rfl w.heap.size 37 (.agg #[.int .i64 0, .int .i64 0, .string ⟨#[]⟩]) 3 32 Tryz.underlying26 infoMl rfl (by decide) (by decide) (.slice a' j c') j (cellsMl (Ms.take j)) (by rfl) (own_below ho.out A1.out) ⟨wr.heap.size, 0, none⟩ 1 1 (cellsMl [(mu, fl, tx)]) (by rfl) (by rfl) (src_oneMl rfl) (cellsMl_one _) (by omega) (by omega) (by have h9 := A1.out.size; have h7 := hbr.out.size; omega) ?_
          intro v6 w6 hown6 hgrow6 hloc6
          obtain ⟨a6, c6, rfl, _, _⟩ := own_src hown6
          have UD : (wr.alloc (.cells #[.int .i64 mu, .int .i64 fl, .string tx] 37)).drew.ownsRow w.heap.size 68 2 (.slice (some ⟨gq, 0, none⟩) m cu) m (cellsP (Ms.map (mailP u f))) := own_below HUA.out A1.out
          have U6 : Hid (w6.ownsRow w.heap.size 68 2 (.slice (some ⟨gq, 0, none⟩) m cu) m (cellsP (Ms.map (mailP u f)))) := own_grown (w := (wr.alloc (.cells #[.int .i64 mu, .int .i64 fl, .string tx] 37)).drew) UD hgrow6 (fun g h9 h7 => own_ne UD (own_below ho.out A1.out) (by decide) g h9 h7)
          have O6 : Hid (w6.ownsRow w.heap.size 37 3 (.slice a6 (j + 1) c6) (j + 1) (cellsMl (Ms.take (j + 1)))) := by
            show w6.ownsRow _ _ _ _ _ _
            rw [HTK.out]
            exact hown6
          have B6 : Hid (Below w.heap.size w w6) := (hbr.out.trans (A1.out.mono hbr.out.size)).grown hgrow6 (by have h9 := A1.out.size; have h7 := hbr.out.size; show w.heap.size ≤ (wr.alloc (.cells #[.int .i64 mu, .int .i64 fl, .string tx] 37)).drew.heap.size; omega) (fun g h9 => (ho.out.lt g h9).1)
          have d6 : w6.cell? ⟨gq, j * 2 + 1, none⟩ = some (.string y) := by
            have h9 := World.cell?_of_block (a := ⟨gq, j * 2 + 1, none⟩) (hgrow6.block gq (by have h8 := (UD.lt gq rfl).2; exact h8) (fun h7 => own_ne UD (own_below ho.out A1.out) (by decide) gq rfl h7.symm))
            rw [h9]
            exact d1'
          clear hown6 hgrow6 hloc6 UD
          refine hK _ _ d6 (fun hHeld => ?_)
          clear hK K
          refine wpAnyH_ready (rs := [19]) (by kernel_rfl) (by simp) ?_
          refine AllReadyH.cons rfl (fun K hK => ?_) AllReadyH.nil
          go_simp
          refine hK _ _ d6 (fun hHeld => ?_)
          clear hK K
          refine wpAnyH_done (by kernel_rfl) ?_ _
          refine NoPanic.normal ?_
          clear hHeld
          go_wp2_with fail
          exact ⟨⟨j + 1, a6, c6, by omega, rfl, by go_num, O6.out, U6.out, B6.out⟩, by simp [RowKit.intOf]; omega⟩
    · obtain rfl : j = m := by omega
      have hltj : ¬ (j : Int) < (j : Int) := by omega
      have HFO : Hid (wr.ownsRow w.heap.size 37 3 (.slice a' j c') Ms.length (cellsMl Ms)) := by
        have h9 := ho.out
        rw [List.take_of_length_le (by rw [HUM.out]; exact Nat.le_refl _)] at h9
        rw [HUM.out]
        exact h9
      clear ho hur
      go_wp2_with fail
      go_ret
      exact ⟨_, rfl, HFO.out, hbr.out⟩
/-- A folder's mails lie in the list in their order. -/
def SubF (u : ByteArray) (P : List PM) (g : FM) : Prop := (g.mails.map (mailP u g.name)).Sublist P
theorem sub_take {nx : Int} {u : ByteArray} {P : List PM} {S S' : SM} {q : PM} (hnx : nx ≤ 10000) (hS : ∀ g ∈ S.fs, SubF u P g) (h : takeM nx u S q = some S') : ∀ g ∈ S'.fs, SubF u (P ++ [q]) g := by
  have hold : ∀ g ∈ S.fs, SubF u (P ++ [q]) g := fun g hg => (hS g hg).trans (List.sublist_append_left P [q])
  have hput : ∀ {o : Option FM}, putM S o = some S' → (∀ g, o = some g → SubF u (P ++ [q]) g) → ∀ g ∈ S'.fs, SubF u (P ++ [q]) g := fun {o} h9 hg => by
    unfold putM at h9
    obtain ⟨g, rfl, rfl⟩ := Option.map_eq_some_iff.1 h9
    intro f hf
    rcases putF_mem hf with hf | rfl
    · exact hold f hf
    · exact hg _ rfl
  have haside : asideM S q = some S' → ∀ g ∈ S'.fs, SubF u (P ++ [q]) g := fun h9 => by cases h9; exact hold
  unfold takeM takeP at h
  split at h
  · split at h
    · unfold userM at h
      obtain ⟨_, rfl⟩ := ite_some h
      exact hold
    · exact haside h
  · rename_i a b c hG
    split at h
    · rename_i hc
      refine hput h fun g hg => ?_
      have hgf := (folder_meta hnx).1 hg
      have hgm : g.mails = [] := by rw [hgf.2.2.2]
      unfold SubF
      rw [hgm]
      exact List.nil_sublist _
    · exact haside h
  · rename_i a b c d hG
    split at h
    · rename_i hc
      refine hput h fun g hg => ?_
      unfold mailM at hg
      obtain ⟨f', hl, hg2⟩ := Option.bind_eq_some_iff.1 hg
      obtain ⟨un, m1, m2, m3, m4, m5, m6, m7, m8, hgm⟩ := mailO_some hg2
      have hfn := (lookF_mem hl).2
      have hG2 : splitL 47 q.1.data.toList = [[109], b, c, d] := by rw [hG, hc.2]
      obtain ⟨hk, hnb, hnc⟩ := key_mail hG2
      have hub : u.data.toList = b := by rw [← hc.1]; simp [bs]
      have hpp : fPairs u g = fPairs u f' ++ [q] := by
        rw [hgm]
        refine mail_pairs m1 m2 m3 m5 m6 ?_
        rw [hk, hub, hfn]
        simp [bs]
      have hgn : g.name = f'.name := by rw [hgm]; rfl
      have e : g.mails.map (mailP u g.name) = f'.mails.map (mailP u f'.name) ++ [q] := by
        unfold fPairs at hpp
        rw [List.cons_append] at hpp
        exact (List.cons.inj hpp).2
      unfold SubF
      rw [e]
      exact (hS f' (lookF_mem hl).1).append_right [q]
    · exact haside h
  · exact haside h
theorem sub_all {nx : Int} {u : ByteArray} (hnx : nx ≤ 10000) : ∀ {R P : List PM} {S S' : SM}, (∀ g ∈ S.fs, SubF u P g) → takeAll nx u S R = some S' → ∀ g ∈ S'.fs, SubF u (P ++ R) g
  | [], P, S, S', hS, h => by cases h; rw [List.append_nil]; exact hS
  | q :: R, P, S, S', hS, h => by
    unfold takeAll at h
    obtain ⟨S1, h1, h2⟩ := Option.bind_eq_some_iff.1 h
    have h3 := sub_all hnx (P := P ++ [q]) (sub_take hnx hS h1) h2
    rw [List.append_assoc] at h3
    exact h3
theorem store_sub {L : List PM} {u : ByteArray} {S : SM} (h : storeB L = true) (hS : takeAll (nextM L) u S0 L = some S) : ∀ g ∈ S.fs, SubF u L g := by
  obtain ⟨hg, nx0, hnm, n1, n2, _, _, _⟩ := store_facts h
  exact sub_all (P := []) (by omega) (fun f hf => by cases hf) hS
theorem pass_not {u f : ByteArray} {p : PM} (h : passB u f p = true) : beginsB p.1 (preK u f) = false := by
  unfold passB at h
  rw [Bool.and_eq_true] at h
  simpa using h.2
theorem fol_mails {L : List PM} {u f : ByteArray} {S : SM} {g : FM} (h : storeB L = true) (hus : (47 : UInt8) ∉ u.data.toList) (hfs : (47 : UInt8) ∉ f.data.toList) (hS : takeAll (nextM L) u S0 L = some S) (hw : S.word.toList ≠ []) (hl : lookF f S.fs = some g) : (L.filter fun x => beginsB x.1 (preK u f)) = g.mails.map (mailP u f) := by
  obtain ⟨hg, nx0, hnm, n1, n2, _, _, _⟩ := store_facts h
  obtain ⟨hgm, hgn⟩ := lookF_mem hl
  have hnd := names_all (S := S0) List.nodup_nil hS
  have hsub := store_sub h hS g hgm
  unfold SubF at hsub
  rw [hgn] at hsub
  refine up_perm (hg.2.2.sublist List.filter_sublist) (hg.2.2.sublist hsub) ?_
  refine ((desk_list h hus hS hw).filter _).trans ?_
  have e1 : beginsB vK (preK u f) = false := by
    cases hb : beginsB vK (preK u f) with
    | false => rfl
    | true =>
      obtain ⟨r, hr⟩ := begins_pre.1 hb
      simp at hr
  have e2 : beginsB (userK u) (preK u f) = false := by
    cases hb : beginsB (userK u) (preK u f) with
    | false => rfl
    | true =>
      obtain ⟨r, hr⟩ := begins_pre.1 hb
      simp [ByteArray.data_append] at hr
  rw [List.filter_cons_of_neg (by simp [e1]), List.filter_cons_of_neg (by simp [e2]), List.filter_append]
  have e3 : ((notK vK S.aside).filter fun x => beginsB x.1 (preK u f)) = [] := by
    rw [List.filter_eq_nil_iff]
    intro p hp
    rw [pass_not (aside_pass h hus hfs hS hp)]
    simp
  rw [e3, List.nil_append]
  refine ((flat_perm (drop_perm hl)).filter _).trans ?_
  have hrest := rest_pass (u := u) (f := f) (fs := dropF f S.fs) hus hfs fun x hx => ⟨drop_names hnd x hx, word_slash (name_short h hus hS ((dropF_sub f S.fs).subset hx))⟩
  rw [List.filter_eq_self] at hrest
  have e4 : ((flatF u (dropF f S.fs)).filter fun x => beginsB x.1 (preK u f)) = [] := by
    rw [List.filter_eq_nil_iff]
    intro p hp
    rw [pass_not (hrest p hp)]
    simp
  rw [flat_cons, List.filter_append, e4, List.append_nil]
  unfold fPairs
  have e5 : beginsB (folderK u g.name) (preK u f) = false := by
    cases hb : beginsB (folderK u g.name) (preK u f) with
    | false => rfl
    | true =>
      obtain ⟨r, hr⟩ := begins_pre.1 hb
      rw [folderK_data] at hr
      simp at hr
  rw [List.filter_cons_of_neg (by simp [e5]), hgn]
  have e6 : ((g.mails.map (mailP u f)).filter fun x => beginsB x.1 (preK u f)) = g.mails.map (mailP u f) := by
    rw [List.filter_eq_self]
    intro p hp
    obtain ⟨m, _, rfl⟩ := List.mem_map.1 hp
    exact begins_pre.2 ⟨d3 m.1.toNat, by simp [mailP, bs]⟩
  rw [e6]
def setM (S : SM) (g : FM) (Ms : List MMl) : SM := ⟨S.aside, S.word, putF ⟨g.name, g.val, g.next, Ms⟩ S.fs⟩
/-- What the flags' setting does. -/
def SfIs (S : SM) (f : ByteArray) (un fl q : Int) (S' : SM) : Prop :=
  (lackM S.word S.fs [f] ≠ 0 ∧ q = lackM S.word S.fs [f] ∧ S' = S) ∨ (lackM S.word S.fs [f] = 0 ∧ ∃ g, lookF f S.fs = some g ∧ (((∀ m ∈ g.mails, m.1 ≠ un) ∧ q = 5 ∧ S' = S) ∨ ∃ j, j < g.mails.length ∧ (g.mails.getD j ml0).1 = un ∧ q = 0 ∧ S' = setM S g (g.mails.set j ((g.mails.getD j ml0).1, fl, (g.mails.getD j ml0).2.2))))
theorem lack_zero {S : SM} {f : ByteArray} (h : lackM S.word S.fs [f] = 0) : ∃ g, lookF f S.fs = some g := by
  unfold lackM at h
  split at h
  · cases h
  · split at h
    · cases h
    · rename_i hb
      refine Option.isSome_iff_exists.1 ?_
      cases h9 : (lookF f S.fs).isSome with
      | true => rfl
      | false => exact absurd (by show ((lookF f S.fs).isSome && true) = false; rw [h9]; rfl) hb
end Go.Proofs.YthgbclipknfmjaaGreatDoor
