/-
  Rus Ltr Ltu Lsq Byargs Shq Shr in one. By an AI agent.
-/
import Derived.Test.YthgbclipknfmjaaGreatDoorFu21
import Derived.Test.YthgbclipknfmjaaGreatDoorFu18
import Derived.Test.YthgbclipknfmjaaGreatDoorFu20
import Derived.Test.YthgbclipknfmjaaGreatDoorFu15
import Derived.Test.YthgbclipknfmjaaGreatDoorFu23
import Derived.Test.YthgbclipknfmjaaGreatDoorFu22
import Derived.Test.YthgbclipknfmjaaGreatDoorFu04
import Derived.Lib.SmallJoins
import Derived.SliceStrings
import Derived.ChangeSlices
import Derived.Deep.SlicePairs
import Derived.Deep.Slices
import Derived.Handed
import Derived.HandedShaped
import Derived.LaidLaws
import Derived.LaidMore
import Derived.Lib.LaidTab
import Derived.FnData
namespace Go.Proofs.YthgbclipknfmjaaGreatDoor
open Go.ChangeShapes Go.WideShapes Go.ChangeAt Go.RowKit Go.Deep Go.Lib
set_option linter.unusedVariables false
set_option linter.unusedSimpArgs false
set_option maxRecDepth 100000

theorem emL_take {u : ByteArray} {L N : List PM} {ns : List ByteArray} {j : Nat} {t : ByteArray} (h : j < ns.length) (ht : ns.getD j e0 = t) : emL u L N (ns.take (j + 1)) = stepL u (metaM L u t).isSome (emL u L N (ns.take j)) t := by
  have e : ns[j] = t := by
    rw [List.getD_eq_getElem?_getD, List.getElem?_eq_getElem h] at ht
    exact ht
  unfold emL
  rw [List.take_add_one, List.getElem?_eq_getElem h, e, List.foldl_append]
  rfl
theorem lies_v {N : List PM} {nx : Int} {u : ByteArray} {S : SM} (h : Lies N nx u S) : (vK, bs (itoa nx)) ∈ N := h.pm.mem_iff.2 List.mem_cons_self
theorem lies_u {N : List PM} {nx : Int} {u : ByteArray} {S : SM} (h : Lies N nx u S) : (getM N (userK u)).isSome = true := by
  have h1 : (userK u, S.word) ∈ N := h.pm.mem_iff.2 (List.mem_cons_of_mem _ List.mem_cons_self)
  rw [(getM_mem h.up).2 h1]
  rfl
theorem rsR_is {N L : List PM} {nx : Int} {u : ByteArray} {S : SM} {g : FM} (h : Lies N nx u S) (ho : oldF L u g.name = some g) : rsR N L u g.name = rsG N u g.name g := by
  unfold rsR
  rw [lies_u h, if_neg (by decide), ho]
  rfl
theorem rs_next {N L Y : List PM} {nx : Int} {u : ByteArray} {S : SM} {g : FM} (h : Lies N nx u S) (n0 : 0 ≤ nx) (n1 : nx ≤ 10000) (hg : GoodL N) (hL : GoodL L) (hus : (47 : UInt8) ∉ u.data.toList) (hu8 : u.size ≤ 8) (hf8 : g.name.size ≤ 8) (hgg : GoodG u g) (hsub : ∀ x ∈ g.mails.map (mailP u g.name), x ∈ L) (hr : rsG N u g.name g = (Y, 0)) : ∃ nx' S', Lies Y nx' u S' ∧ 0 ≤ nx' ∧ nx' ≤ 10000 ∧ GoodL Y := by
  obtain ⟨g1, g2, g3⟩ := hgg
  obtain ⟨q1, nx1, S1, hm⟩ : ∃ q1 nx1 S1, rsM nx u S g = (q1, nx1, S1) := ⟨_, _, _, rfl⟩
  have hf := rs_fits h n0 n1 hus g2 rfl g3 hm
  by_cases e : q1 = 0
  · subst e
    obtain ⟨r1, r2, r3, r4⟩ := hf.2 rfl
    obtain ⟨m1, m2, m3⟩ := rsM_ok hm
    rw [hr] at r3 r4
    refine ⟨nx1, S1, r4, by omega, by omega, rs_good hg hL ?_ hu8 hf8 g1.2.2.1 g1.2.2.2.1 hsub r4.up r3 hr⟩
    rw [empty_next h n0 n1 hus g2]
    exact n0
  · have h2 := hf.1 e
    rw [hr] at h2
    cases h2
    exact absurd rfl e
set_option maxHeartbeats 8000000 in
theorem l08RestoreUserS (b o n c : Nat) (N : List PM) (hN : N.length = n) (hc : n ≤ c) (hc9 : c ≤ maxLen) (hst1 : storeB N = true) (b2 : Option Addr) (n2 c2 : Nat) (L : List PM) (hL : L.length = n2) (hst : storeB L = true) (u : ByteArray) (hsu : shortB u = true) (w : World) (h : Src w (some ⟨b, o, none⟩) (cellsP N)) (h2 : Src w b2 (cellsP L)) (R : List PM) (q : Int) (HR : Hid (ruR N L u = (R, q))) :
    Calls Tryz.prog 69 #[.slice (some ⟨b, o, none⟩) n c, .slice b2 n2 c2, .string u] w fun e w' => ∃ a3 n3 c3, e = .returned (.tuple #[.slice a3 n3 c3, .int .i64 q]) ∧ R.length = n3 ∧ Src w' a3 (cellsP R) ∧ Below w.heap.size w w' := by
  obtain ⟨hg, nx0, hnm, n1, n2', _⟩ := store_facts hst1
  rw [hnm] at n1 n2'
  have hn60 := hg.1
  rw [hN] at hn60
  have hus := word_slash hsu
  have zu := short_size' hsu
  obtain ⟨hgl, _⟩ := store_facts hst
  have hl60 := hgl.1
  rw [hL] at hl60
  have HLN : Hid (N.length = n ∧ Src w (some ⟨b, o, none⟩) (cellsP N)) := ⟨hN, h⟩
  have HBAD : Hid (∀ (W : World) (z : Int), Below w.heap.size w W → (N, z) = (R, q) → ∃ a3 n3 c3, Ending.returned (Value.tuple #[.slice (some ⟨b, o, none⟩) n c, .int .i64 z]) = Ending.returned (.tuple #[.slice a3 n3 c3, .int .i64 q]) ∧ R.length = n3 ∧ Src W a3 (cellsP R) ∧ Below w.heap.size w W) := fun W z hW he => by
    cases he
    exact ⟨_, _, _, rfl, HLN.out.1, HLN.out.2.below hW, hW⟩
  have CU := fun W => l07UserS u W (by omega)
  have CG := fun W (hW : Below w.heap.size w W) => l01GetM (some ⟨b, o, none⟩) n c N (userK u) W hN hg (h.below hW)
  have CG2 := fun W (hW : Below w.heap.size w W) => l01GetM b2 n2 c2 L (userK u) W hL hgl (h2.below hW)
  obtain ⟨tv, htv⟩ : ∃ t, (getM N (userK u)).getD e0 = t := ⟨_, rfl⟩
  obtain ⟨tb, htb⟩ : ∃ t, (getM N (userK u)).isSome = t := ⟨_, rfl⟩
  obtain ⟨tv2, htv2⟩ : ∃ t, (getM L (userK u)).getD e0 = t := ⟨_, rfl⟩
  obtain ⟨tb2, htb2⟩ : ∃ t, (getM L (userK u)).isSome = t := ⟨_, rfl⟩
  simp only [htv, htb] at CG
  simp only [htv2, htb2] at CG2
  obtain ⟨S, hS, _, _⟩ := take_all hst1 hus
  obtain ⟨T, hT, _, _⟩ := take_all hst hus
  have hws := word_some' hst1 hus hS
  obtain ⟨KU, hKU⟩ : ∃ t, userK u = t := ⟨_, rfl⟩
  simp only [hKU] at CU CG CG2
  have HR1 := HR.out
  unfold ruR ruT at HR1
  rw [htb, htb2] at HR1
  cases tb with
  | false =>
    rw [if_pos rfl] at HR1
    have HFH : Hid (∀ W, Below w.heap.size w W → ∃ a3 n3 c3, Ending.returned (Value.tuple #[.slice (some ⟨b, o, none⟩) n c, .int .i64 15]) = Ending.returned (.tuple #[.slice a3 n3 c3, .int .i64 q]) ∧ R.length = n3 ∧ Src W a3 (cellsP R) ∧ Below w.heap.size w W) := fun W hW => HBAD.out W 15 hW HR1
    clear hN hL h h2 hg HR HR1 HBAD hst hst1 hsu hus htv htb hKU hgl htv2 htb2 CG2 hS hT hws
    go_enter Tryz.func69, Tryz.ntmps69
    go_wp2_with fail
    refine (CU _).mono ?_
    rintro e w1 ⟨rfl, hw1⟩
    obtain rfl := hw1
    clear CU
    go_wp2_with fail
    refine (CG _ (Below.refl _ _)).mono ?_
    rintro e w2 ⟨rfl, hw2⟩
    obtain rfl := hw2
    have HG := HFH.out w2 (Below.refl _ _)
    have HGH : Hid (∃ a3 n3 c3, Ending.returned (Value.tuple #[.slice (some ⟨b, o, none⟩) n c, .int .i64 15]) = Ending.returned (.tuple #[.slice a3 n3 c3, .int .i64 q]) ∧ R.length = n3 ∧ Src w2 a3 (cellsP R) ∧ Below w2.heap.size w2 w2) := HG
    clear CG HFH HG
    go_wp2_with fail
    exact bodyPost_ret (v := .tuple #[.slice (some ⟨b, o, none⟩) n c, .int .i64 15]) (by simp [results, Tryz.results69, go_sem]) rfl HGH.out
  | true =>
  rw [if_neg (by decide)] at HR1
  have hw : S.word.toList ≠ [] := by
    rw [htb] at hws
    exact of_decide_eq_true hws.symm
  cases tb2 with
  | false =>
    rw [if_pos rfl] at HR1
    have HFH : Hid (∀ W, Below w.heap.size w W → ∃ a3 n3 c3, Ending.returned (Value.tuple #[.slice (some ⟨b, o, none⟩) n c, .int .i64 5]) = Ending.returned (.tuple #[.slice a3 n3 c3, .int .i64 q]) ∧ R.length = n3 ∧ Src W a3 (cellsP R) ∧ Below w.heap.size w W) := fun W hW => HBAD.out W 5 hW HR1
    clear hN hL h h2 hg HR HR1 HBAD hst hst1 hsu hus htv htb hKU hgl htv2 htb2 hS hT hws hw
    go_enter Tryz.func69, Tryz.ntmps69
    go_wp2_with fail
    refine (CU _).mono ?_
    rintro e w1 ⟨rfl, hw1⟩
    obtain rfl := hw1
    go_wp2_with fail
    refine (CG _ (Below.refl _ _)).mono ?_
    rintro e w2 ⟨rfl, hw2⟩
    obtain rfl := hw2
    clear CG
    go_wp2_with fail
    refine (CU _).mono ?_
    rintro e w3 ⟨rfl, hw3⟩
    obtain rfl := hw3
    clear CU
    go_wp2_with fail
    refine (CG2 _ (Below.refl _ _)).mono ?_
    rintro e w4 ⟨rfl, hw4⟩
    obtain rfl := hw4
    have HGH : Hid (∃ a3 n3 c3, Ending.returned (Value.tuple #[.slice (some ⟨b, o, none⟩) n c, .int .i64 5]) = Ending.returned (.tuple #[.slice a3 n3 c3, .int .i64 q]) ∧ R.length = n3 ∧ Src w4 a3 (cellsP R) ∧ Below w4.heap.size w4 w4) := HFH.out w4 (Below.refl _ _)
    clear CG2 HFH
    go_wp2_with fail
    exact bodyPost_ret (v := .tuple #[.slice (some ⟨b, o, none⟩) n c, .int .i64 5]) (by simp [results, Tryz.results69, go_sem]) rfl HGH.out
  | true =>
  rw [if_neg (by decide)] at HR1
  have CLS := fun W (hW : Below w.heap.size w W) => l07ListS (some ⟨b, o, none⟩) n c N u W hN hg (by omega) (h.below hW)
  have CLT := fun W (hW : Below w.heap.size w W) => l07ListS b2 n2 c2 L u W hL hgl (by omega) (h2.below hW)
  obtain ⟨ns, hns⟩ : ∃ t, listS N u = t := ⟨_, rfl⟩
  obtain ⟨m, hm⟩ : ∃ t, ns.length = t := ⟨_, rfl⟩
  obtain ⟨m2, hm2⟩ : ∃ t, (gsO L u).length = t := ⟨_, rfl⟩
  have hgn := gs_names hst hus
  have hgl1 : (listS L u).length = m2 := by rw [← (gs_len hst hus).1]; exact hm2
  have hm6 : m ≤ 60 := by rw [← hm, ← hns]; exact (gs_len hst1 hus).2
  have hm26 : m2 ≤ 60 := by rw [← hgl1]; exact (gs_len hst hus).2
  simp only [hns, hm] at CLS
  simp only [hgl1] at CLT
  rw [hns] at HR1
  have hnok : ∀ x ∈ ns, shortB x = true ∧ (lookF x S.fs).isSome = true := fun x hx => by
    rw [← hns] at hx
    obtain ⟨g, hg9, _⟩ := name_look hst1 hus hS hx
    exact ⟨name_is hst1 hus hS hx, by rw [hg9]; rfl⟩
  have hnd : ns.Nodup := by rw [← hns]; exact list_nodup hst1
  have HLJ : Hid (∀ j, Lies (emL u L N (ns.take j)) (nextM N) u ⟨S.aside, S.word, emE T.fs S.fs (ns.take j)⟩ ∧ GoodL (emL u L N (ns.take j))) := fun j => by
    have hl := lies_em (ns := ns.take j) (T := T.fs) (L := L) hus (fun n hn => (look_iff hst hus hT hn).1) (lies_of hst1 hus hS hw) (hnd.sublist (List.take_sublist j ns)) fun n hn => ⟨word_slash (hnok n (List.take_subset j ns hn)).1, (hnok n (List.take_subset j ns hn)).2⟩
    exact ⟨hl, em_good hg hl.up⟩
  have HNS : Hid (ns.length = m ∧ ∀ x ∈ ns, x.size ≤ 8) := ⟨hm, fun x hx => short_size' (hnok x hx).1⟩
  have HUS : Hid ((47 : UInt8) ∉ u.data.toList ∧ shortB u = true ∧ storeB L = true ∧ L.length = n2 ∧ GoodL L) := ⟨hus, hsu, hst, hL, hgl⟩
  have HS2 : Hid (Src w b2 (cellsP L)) := h2
  have HGS : Hid ((gsO L u).map (·.name) = listS L u ∧ (gsO L u).length = m2 ∧ ∀ g ∈ gsO L u, GoodG u g ∧ oldF L u g.name = some g ∧ shortB g.name = true ∧ ∀ x ∈ g.mails.map (mailP u g.name), x ∈ L) := ⟨hgn, hm2, fun g hg9 => by
    obtain ⟨k1, k2⟩ := gs_look hst hus hT g hg9
    exact ⟨gs_good hst hus hT g hg9, by rw [old_look hT]; exact k1, name_is hst hus hT k2, fun x hx => (store_sub hst hT g (lookF_mem k1).1).subset hx⟩⟩
  have HRU : Hid (rsU N u (emL u L N ns) (gsO L u) = (R, q)) := HR1
  have HNX : Hid (0 ≤ nextM N ∧ nextM N ≤ 10000) := ⟨by omega, n2'⟩
  have HN0 : Hid (emL u L N (ns.take 0) = N) := by
    show _ = _
    rw [List.take_zero]
    rfl
  obtain ⟨LU, hLU⟩ : ∃ t, listS L u = t := ⟨_, rfl⟩
  obtain ⟨GS, hGS⟩ : ∃ t, gsO L u = t := ⟨_, rfl⟩
  simp only [hLU] at CLT
  rw [hLU, hGS] at HGS
  rw [hGS] at HRU
  clear hN hL h h2 hg HR HR1 hst hst1 hsu hus htv htb hKU hgl htv2 htb2 hS hT hws hw hns hm hm2 hgn hgl1 hnok hnd hnm n1 n2' hLU hGS
  go_enter Tryz.func69, Tryz.ntmps69
  go_wp2_with fail
  refine (CU _).mono ?_
  rintro e w1 ⟨rfl, hw1⟩
  obtain rfl := hw1
  go_wp2_with fail
  refine (CG _ (Below.refl _ _)).mono ?_
  rintro e w2 ⟨rfl, hw2⟩
  obtain rfl := hw2
  clear CG
  go_wp2_with fail
  refine (CU _).mono ?_
  rintro e w3 ⟨rfl, hw3⟩
  obtain rfl := hw3
  clear CU
  go_wp2_with fail
  refine (CG2 _ (Below.refl _ _)).mono ?_
  rintro e w4 ⟨rfl, hw4⟩
  obtain rfl := hw4
  clear CG2
  have CLS4 := CLS w4 (Below.refl _ _)
  clear CLS
  go_wp2_with fail
  refine CLS4.mono ?_
  rintro e w5 ⟨v5, rfl, ho5, hb5⟩
  obtain ⟨ab, cb, rfl, hs5, _⟩ := own_src ho5
  have B5 : Hid (Below w4.heap.size w4 w5) := hb5
  have S5 : Hid (Src w5 ab (cellsS ns)) := hs5
  have SN5 : Hid ((emL u L N (ns.take 0)).length = n ∧ Src w5 (some ⟨b, o, none⟩) (cellsP (emL u L N (ns.take 0)))) := by
    show _ ∧ _
    rw [HN0.out]
    exact ⟨HLN.out.1, HLN.out.2.below hb5⟩
  clear CLS4 ho5 hs5 hb5 HN0
  go_wp2_with fail
  go_loopw [12, 14] (fun lv iv wr => ∃ (j n' b' o' c' : Nat), j ≤ m ∧ lv = .slice (some ⟨b', o', none⟩) n' c' ∧ n' ≤ c' ∧ c' ≤ maxLen ∧ iv = .int .i64 (j : Int) ∧ Hid ((emL u L N (ns.take j)).length = n' ∧ Src wr (some ⟨b', o', none⟩) (cellsP (emL u L N (ns.take j)))) ∧ Hid (Below w5.heap.size w5 wr)) (fun _ i _ => m - (RowKit.intOf i).toNat)
  case atStart => exact ⟨0, n, b, o, c, by omega, rfl, hc, hc9, rfl, SN5.out, Below.refl _ _⟩
  case round =>
    obtain ⟨j, n', b', o', c', hj, rfl, hnc, hcm, rfl, hsn, hbr⟩ := hrel
    by_cases hlt : j < m
    · have hltj : (j : Int) < (m : Int) := by omega
      have hjn : j < ns.length := by rw [HNS.out.1]; exact hlt
      obtain ⟨bb, oo, t, rfl, c1, hy⟩ := srcS (S5.out.below hbr.out) hjn
      have htm : t ∈ ns := by rw [← hy.out]; exact mem_getD ns e0 j hjn
      have htz := HNS.out.2 t htm
      obtain ⟨hlj, hgj⟩ := HLJ.out j
      obtain ⟨EJ, hEJ⟩ : ∃ x, emL u L N (ns.take j) = x := ⟨_, rfl⟩
      have hstep := emL_take (u := u) (L := L) (N := N) hjn hy.out
      rw [hEJ] at hlj hgj hsn hstep
      have hn6 : n' ≤ 60 := by rw [← hsn.out.1]; exact hgj.1
      have hv := lies_v hlj
      have CE := l07EmptyX b' o' n' c' hnc hcm EJ hsn.out.1 hgj u t (by omega) (by omega) wr hsn.out.2 ⟨_, hv, pass_not (pass_v u t _)⟩
      have CM := fun W (hW : Below wr.heap.size wr W) => l07MetaS b2 n2 c2 L u t W HUS.out.2.2.2.1 HUS.out.2.2.2.2 (by omega) (by omega) (HS2.out.below (B5.out.trans ((hbr.out.trans (hW.mono hbr.out.size)).mono B5.out.size)))
      obtain ⟨tm, htm2⟩ : ∃ x, (metaM L u t).isSome = x := ⟨_, rfl⟩
      rw [htm2] at hstep
      simp only [htm2] at CM
      obtain ⟨ER, hER⟩ : ∃ x, emptyR EJ u t = x := ⟨_, rfl⟩
      have hvE : (vK, bs (itoa (nextM N))) ∈ ER := by
        rw [← hER]
        exact List.mem_filter.2 ⟨hv, by rw [pass_not (pass_v u t _)]; rfl⟩
      have hvD : 1 ≤ (notK (folderK u t) ER).length := List.length_pos_of_mem (a := (vK, bs (itoa (nextM N)))) (List.mem_filter.2 ⟨hvE, decide_eq_true (folder_not u t).symm⟩)
      have heL : ER.length ≤ 60 := by rw [← hER]; exact Nat.le_trans (List.length_filter_le _ _) hgj.1
      have HST : Hid (emL u L N (ns.take (j + 1)) = if tm = true then ER else notK (folderK u t) ER) := by
        show _ = _
        rw [hstep]
        unfold stepL
        rw [hER]
      simp only [hER] at CE
      have CF := fun W => l07FolderS u t W (by omega) (by omega)
      obtain ⟨KF, hKF⟩ : ∃ x, folderK u t = x := ⟨_, rfl⟩
      rw [hKF] at HST hvD
      simp only [hKF] at CF
      have HVD : Hid (1 ≤ (notK KF ER).length ∧ ER.length ≤ 60) := ⟨hvD, heL⟩
      clear htm hlj hgj hEJ hstep hsn hv htm2 hER hvE hvD heL hKF
      go_wp2_with fail
      refine CE.mono ?_
      rintro e w6 ⟨b6, o6, n6, c6, rfl, j1, j2, j0, j3, hb6⟩
      have B6 : Hid (Below w5.heap.size w5 w6) := hbr.out.trans (hb6.mono hbr.out.size)
      obtain ⟨b7, o7, t7, e7, c7, hy7⟩ := srcS (S5.out.below B6.out) hjn
      obtain rfl : t = t7 := by rw [← hy.out, ← hy7.out]
      cases e7
      have HS6 : Hid (ER.length = n6 ∧ Src w6 (some ⟨b6, o6, none⟩) (cellsP ER)) := ⟨j0, j3⟩
      have CM6 := CM w6 hb6
      have BR6 : Hid (Below wr.heap.size wr w6) := hb6
      clear CE CM j0 j3 hb6
      go_wp2_with fail
      refine CM6.mono ?_
      rintro e w7 ⟨x7, y7, rfl, _, hb7⟩
      have B7 : Hid (Below w5.heap.size w5 w7) := B6.out.trans (hb7.mono B6.out.size)
      have HS7 : Hid (ER.length = n6 ∧ Src w7 (some ⟨b6, o6, none⟩) (cellsP ER)) := ⟨HS6.out.1, HS6.out.2.below hb7⟩
      clear CM6 hb7 HS6 BR6
      cases tm with
      | true =>
        have HS8 : Hid ((emL u L N (ns.take (j + 1))).length = n6 ∧ Src w7 (some ⟨b6, o6, none⟩) (cellsP (emL u L N (ns.take (j + 1))))) := by
          show _ ∧ _
          rw [HST.out, if_pos rfl]
          exact HS7.out
        clear HST HS7
        go_wp2_with fail
        exact ⟨⟨j + 1, n6, b6, o6, c6, by omega, rfl, j1, j2, by go_num, HS8.out, B7.out⟩, by simp [RowKit.intOf]; omega⟩
      | false =>
        obtain ⟨b8, o8, t8, e8, c8, hy8⟩ := srcS (S5.out.below B7.out) hjn
        obtain rfl : t = t8 := by rw [← hy.out, ← hy8.out]
        cases e8
        obtain ⟨mm, hmm⟩ : ∃ x, (notK KF ER).length = x := ⟨_, rfl⟩
        have hm1 : 1 ≤ mm := by rw [← hmm]; exact HVD.out.1
        have CD := l01DropO (some ⟨b6, o6, none⟩) n6 c6 ER KF w7 HS7.out.1 (by have := HVD.out.2; rw [HS7.out.1] at this; omega) HS7.out.2 mm hmm hm1
        have HMM : Hid ((notK KF ER).length = mm) := hmm
        clear hmm
        go_wp2_with fail
        refine (CF _).mono ?_
        rintro e w8 ⟨rfl, hw8⟩
        obtain rfl := hw8
        clear CF
        go_wp2_with fail
        refine CD.mono ?_
        rintro e w9 ⟨g9, cap9, rfl, k1, k2, k3, hb9⟩
        have B9 : Hid (Below w5.heap.size w5 w9) := B7.out.trans (hb9.mono B7.out.size)
        have HS9 : Hid ((emL u L N (ns.take (j + 1))).length = mm ∧ Src w9 (some ⟨g9, 0, none⟩) (cellsP (emL u L N (ns.take (j + 1))))) := by
          show _ ∧ _
          rw [HST.out, if_neg (by decide)]
          exact ⟨HMM.out, k3⟩
        clear CD k3 hb9 HST HS7
        go_wp2_with fail
        exact ⟨⟨j + 1, mm, g9, 0, cap9, by omega, rfl, k1, k2, by go_num, HS9.out, B9.out⟩, by simp [RowKit.intOf]; omega⟩
    · obtain rfl : j = m := by omega
      have hltj : ¬ (j : Int) < (j : Int) := by omega
      have htk : ns.take j = ns := List.take_of_length_le (by rw [HNS.out.1]; exact Nat.le_refl _)
      obtain ⟨hlj, hgj⟩ := HLJ.out j
      rw [htk] at hsn hlj hgj
      have BR : Hid (Below w4.heap.size w4 wr) := B5.out.trans (hbr.out.mono B5.out.size)
      have HI0 : Hid (∃ nx S9, Lies (emL u L N ns) nx u S9 ∧ 0 ≤ nx ∧ nx ≤ 10000 ∧ GoodL (emL u L N ns)) := ⟨nextM N, _, hlj, HNX.out.1, HNX.out.2, hgj⟩
      have CL9 := CLT wr BR.out
      clear htk hlj hgj CLT HLJ hbr
      go_wp2_with fail
      refine CL9.mono ?_
      rintro e w6 ⟨v6, rfl, ho6, hb6⟩
      obtain ⟨ad, cd, rfl, hs6, _⟩ := own_src ho6
      have B6 : Hid (Below w4.heap.size w4 w6) := BR.out.trans (hb6.mono BR.out.size)
      have S6 : Hid (Src w6 ad (cellsS LU)) := hs6
      have SN6 : Hid ((emL u L N ns).length = n' ∧ Src w6 (some ⟨b', o', none⟩) (cellsP (emL u L N ns))) := ⟨hsn.out.1, hsn.out.2.below hb6⟩
      clear CL9 ho6 hs6 hb6 hsn BR B5 S5 SN5
      go_wp2_with fail
      go_loopw [12, 19] (fun lv iv wr => ∃ (k n9 b9 o9 c9 : Nat) (NK : List PM), k ≤ m2 ∧ lv = .slice (some ⟨b9, o9, none⟩) n9 c9 ∧ n9 ≤ c9 ∧ c9 ≤ maxLen ∧ iv = .int .i64 (k : Int) ∧ Hid (NK.length = n9 ∧ Src wr (some ⟨b9, o9, none⟩) (cellsP NK)) ∧ Hid (∃ nx S9, Lies NK nx u S9 ∧ 0 ≤ nx ∧ nx ≤ 10000 ∧ GoodL NK) ∧ Hid (rsU N u NK (GS.drop k) = (R, q)) ∧ Hid (Below w6.heap.size w6 wr)) (fun _ i _ => m2 - (RowKit.intOf i).toNat)
      case atStart => exact ⟨0, n', b', o', c', _, by omega, rfl, hnc, hcm, rfl, SN6.out, HI0.out, HRU.out, Below.refl _ _⟩
      case round =>
        obtain ⟨k, n9, b9, o9, c9, NK, hk, rfl, hnc9, hcm9, rfl, hsn, hli, hru, hbr⟩ := hrel
        by_cases hlt : k < m2
        · have hltk : (k : Int) < (m2 : Int) := by omega
          have hkg : k < GS.length := by rw [HGS.out.2.1]; exact hlt
          have hkn : k < LU.length := by rw [← HGS.out.1, List.length_map]; exact hkg
          obtain ⟨bb, oo, t, rfl, c1, hy⟩ := srcS (S6.out.below hbr.out) hkn
          obtain ⟨g, hge⟩ : ∃ g, GS[k] = g := ⟨_, rfl⟩
          have hgm : g ∈ GS := by rw [← hge]; exact List.getElem_mem hkg
          have hgt : g.name = t := by
            have h9 := hy.out
            rw [← HGS.out.1, List.getD_eq_getElem?_getD, List.getElem?_eq_getElem (by rw [List.length_map]; exact hkg), List.getElem_map, hge] at h9
            exact h9
          obtain ⟨hgg, hgo, hgs, hsub⟩ := HGS.out.2.2 g hgm
          have hdr : GS.drop k = g :: GS.drop (k + 1) := by rw [List.drop_eq_getElem_cons hkg, hge]
          obtain ⟨nx, S9, l1, l2, l3, l4⟩ := hli.out
          obtain ⟨R1, q1, hR1⟩ : ∃ R1 q1, rsG NK u g.name g = (R1, q1) := ⟨_, _, rfl⟩
          have hrr : rsR NK L u g.name = (R1, q1) := by rw [rsR_is l1 hgo]; exact hR1
          rw [hgt] at hrr
          have hsl : (47 : UInt8) ∉ t.data.toList := by rw [← hgt]; exact hgg.2.1
          have hst9 : shortB t = true := by rw [← hgt]; exact hgs
          have CR := l08RestoreS b9 o9 n9 c9 NK hsn.out.1 hnc9 hcm9 l4 b2 n2 c2 L HUS.out.2.2.2.1 HUS.out.2.2.1 u t HUS.out.2.1 hst9 (by rw [lies_next l1 l2 l3]; exact l2) ⟨_, lies_v l1, pass_not (pass_v u t _)⟩ (by rw [lies_next l1 l2 l3, empty_next l1 l2 l3 HUS.out.1 hsl]) wr hsn.out.2 (HS2.out.below (B6.out.trans (hbr.out.mono B6.out.size))) R1 q1 hrr
          have HNX9 : Hid (q1 = 0 → ∃ nx S9, Lies R1 nx u S9 ∧ 0 ≤ nx ∧ nx ≤ 10000 ∧ GoodL R1) := fun e => by
            subst e
            exact rs_next l1 l2 l3 l4 HUS.out.2.2.2.2 HUS.out.1 zu (short_size' hgs) hgg hsub hR1
          have HRS : Hid (rsG NK u g.name g = (R1, q1) ∧ rsU N u NK (g :: GS.drop (k + 1)) = (R, q)) := ⟨hR1, by rw [← hdr]; exact hru.out⟩
          clear hgm hgt hgg hgo hgs hsub hdr l1 l2 l3 l4 hR1 hrr hsl hst9 hge hsn hli hru
          go_wp2_with fail
          refine CR.mono ?_
          rintro e w7 ⟨a7, n7, c7, rfl, k1, k2, hb7, k3⟩
          have B7 : Hid (Below w6.heap.size w6 w7) := hbr.out.trans (hb7.mono hbr.out.size)
          have HS7 : Hid (R1.length = n7 ∧ Src w7 a7 (cellsP R1)) := ⟨k1, k2⟩
          clear CR k1 k2 hb7
          by_cases hq1 : q1 = 0
          · subst hq1
            obtain ⟨⟨g7, rfl⟩, k4, k5⟩ := k3 rfl
            have HRU7 : Hid (rsU N u R1 (GS.drop (k + 1)) = (R, q)) := by
              have h9 := HRS.out.2
              rw [rsU_ok HRS.out.1] at h9
              exact h9
            have HLI7 : Hid (∃ nx S9, Lies R1 nx u S9 ∧ 0 ≤ nx ∧ nx ≤ 10000 ∧ GoodL R1) := HNX9.out rfl
            clear k3 HRS HNX9
            go_wp2_with fail
            exact ⟨⟨k + 1, n7, g7, 0, c7, R1, by omega, rfl, k4, k5, by go_num, HS7.out, HLI7.out, HRU7.out, B7.out⟩, by simp [RowKit.intOf]; omega⟩
          · have hq1i : (q1 != 0) = true := by simpa using hq1
            have h9 := HRS.out.2
            rw [rsU_bad (by rw [HRS.out.1]) hq1] at h9
            have HGH : Hid (∃ a3 n3 c3, Ending.returned (Value.tuple #[.slice (some ⟨b, o, none⟩) n c, .int .i64 q1]) = Ending.returned (.tuple #[.slice a3 n3 c3, .int .i64 q]) ∧ R.length = n3 ∧ Src w7 a3 (cellsP R) ∧ Below w4.heap.size w4 w7) := HBAD.out w7 q1 (B6.out.trans (B7.out.mono B6.out.size)) h9
            clear k3 HRS HNX9 h9 HBAD
            go_wp2_with fail
            exact bodyPost_ret (v := .tuple #[.slice (some ⟨b, o, none⟩) n c, .int .i64 q1]) (by simp [results, Tryz.results69, go_sem]) rfl HGH.out
        · obtain rfl : k = m2 := by omega
          have hltk : ¬ (k : Int) < (k : Int) := by omega
          have h9 := hru.out
          rw [List.drop_of_length_le (by rw [HGS.out.2.1]; exact Nat.le_refl _)] at h9
          have HGH : Hid (∃ a3 n3 c3, Ending.returned (Value.tuple #[.slice (some ⟨b9, o9, none⟩) n9 c9, .int .i64 0]) = Ending.returned (.tuple #[.slice a3 n3 c3, .int .i64 q]) ∧ R.length = n3 ∧ Src wr a3 (cellsP R) ∧ Below w4.heap.size w4 wr) := by
            unfold rsU at h9
            cases h9
            exact ⟨_, _, _, rfl, hsn.out.1, hsn.out.2, B6.out.trans (hbr.out.mono B6.out.size)⟩
          clear hru hli hsn h9 HBAD hbr
          go_wp2_with fail
          exact bodyPost_ret (v := .tuple #[.slice (some ⟨b9, o9, none⟩) n9 c9, .int .i64 0]) (by simp [results, Tryz.results69, go_sem]) rfl (by
            obtain ⟨a3, n3, c3, h1, h2⟩ := HGH.out
            exact ⟨a3, n3, ⟨c3, h1⟩, h2⟩)
theorem rask_two {N L : List PM} {Ns : List ByteArray} (h : askM N Ns = 2) : raskM N L Ns = 2 := by
  unfold raskM
  split
  · rfl
  · rw [h, if_pos (by decide)]
theorem rask_ask {N L : List PM} {Ns : List ByteArray} {k : Int} (hl : ¬ 4096 < L.length) (h : askM N Ns = k) : raskM N L Ns = if k ≠ 0 then k else if storeB L = false then 1 else 0 := by
  unfold raskM
  rw [if_neg hl, h]
theorem ask_zero1 {L : List PM} {x : ByteArray} (h : askM L [x] = 0) : storeB L = true ∧ shortB x = true := by
  unfold askM at h
  split at h
  · cases h
  · split at h
    · cases h
    · rename_i h1
      split at h
      · cases h
      · rename_i h2
        refine ⟨by simpa using h1, ?_⟩
        simpa using h2
/-- What restoring a user asks of two desks. -/
structure RuH (N L : List PM) (nx : Int) (x : ByteArray) (S T : SM) : Prop where
  ls : S.fs.length ≤ 60
  lt : T.fs.length ≤ 60
  ns : ∀ R : List ByteArray, R.Perm (S.fs.map (·.name)) → ((R.map (·.data.toList)).mergeSort fun x y => decide (x ≤ y)) = (listS N x).map (·.data.toList)
  nd : (listS N x).Nodup
  nf : ∀ y ∈ listS N x, y.size ≤ 1000 ∧ (lookF y S.fs).isSome = true
  gs : ∀ R : List ByteArray, R.Perm (T.fs.map (·.name)) → ((R.map (·.data.toList)).mergeSort fun x y => decide (x ≤ y)) = ((gsO L x).map (·.name)).map (·.data.toList)
  gd : ((gsO L x).map (·.name)).Nodup
  gf : ∀ g ∈ gsO L x, GoodG x g ∧ lookF g.name T.fs = some g
  nm : (listS N x).length ≤ 60
  gm : (gsO L x).length ≤ 60
  li : S.word.toList ≠ [] → Lies (emL x L N (listS N x)) nx x ⟨S.aside, S.word, emE T.fs S.fs (listS N x)⟩
  le : (emL x L N (listS N x)).length ≤ 60
  fe : ∀ f ∈ emE T.fs S.fs (listS N x), FitF f
  op : ∀ S' q nx', ruM nx x S T (listS N x) (gsO L x) = (q, nx', S') → OpFits N x q nx' S' (ruR N L x)
theorem sort_is {L : List PM} {u : ByteArray} {S : SM} (h : storeB L = true) (hus : (47 : UInt8) ∉ u.data.toList) (hS : takeAll (nextM L) u S0 L = some S) : ∀ R : List ByteArray, R.Perm (S.fs.map (·.name)) → ((R.map (·.data.toList)).mergeSort fun x y => decide (x ≤ y)) = (listS L u).map (·.data.toList) := fun R hR => by
  obtain ⟨S', k1, _, hI⟩ := take_all h hus
  rw [hS] at k1
  cases k1
  exact sort_eq h hus hI (names_all (S := S0) List.nodup_nil hS) hR
theorem ru_facts {N L : List PM} {x : ByteArray} {S T : SM} (h : storeB N = true) (h2 : storeB L = true) (hus : (47 : UInt8) ∉ x.data.toList) (hS : takeAll (nextM N) x S0 N = some S) (hT : takeAll (nextM L) x S0 L = some T) : RuH N L (nextM N) x S T where
  ls := fs_lenU h hus hS
  lt := fs_lenU h2 hus hT
  ns := sort_is h hus hS
  nd := list_nodup h
  nf := fun y hy => by
    obtain ⟨g, hg, _⟩ := name_look h hus hS hy
    have h9 := short_size' (name_is h hus hS hy)
    exact ⟨by omega, by rw [hg]; rfl⟩
  gs := by
    rw [gs_names h2 hus]
    exact sort_is h2 hus hT
  gd := by
    rw [gs_names h2 hus]
    exact list_nodup h2
  gf := fun g hg => ⟨gs_good h2 hus hT g hg, (gs_look h2 hus hT g hg).1⟩
  nm := (gs_len h hus).2
  gm := by rw [(gs_len h2 hus).1]; exact (gs_len h2 hus).2
  li := em_lies h h2 hus hS hT
  le := Nat.le_trans (em_len x L (listS N x) N).1 (store_facts h).1.1
  fe := emE_all (P := FitF) (fun f hf => ⟨hf.1, hf.2.1, hf.2.2.1, hf.2.2.2.1, hf.2.2.2.2.1, fun m hm => by cases hm⟩) (store_fit h hS)
  op := fun S' q nx' hQ => ruo_fits h h2 hus hS hT hQ
set_option maxHeartbeats 4000000 in
theorem specRestoreUser (a : Option Addr) (n c : Nat) (N : List PM) (a2 : Option Addr) (n2 c2 : Nat) (L : List PM) (x : ByteArray) (w : World) (hN : N.length = n) (hn : n ≤ 1048576) (hc : n ≤ c) (hc9 : c ≤ maxLen) (hs : ∀ x ∈ N, x.1.size ≤ 1048576 ∧ x.2.size ≤ 1048576) (h : Src w a (cellsP N)) (hL : L.length = n2) (hn2 : n2 ≤ 1048576) (hs2 : ∀ x ∈ L, x.1.size ≤ 1048576 ∧ x.2.size ≤ 1048576) (h2 : Src w a2 (cellsP L)) (hx : x.size ≤ 1048576) (R : List PM) (Q : Int) (HQ : Hid (lawM2 (ruR N L x) (raskM N L [x]) = (R, Q))) :
    Calls Tryz.prog 26 #[.slice a n c, .slice a2 n2 c2, .string x] w fun e w' => ∃ v, e = .returned (.tuple #[v, .int .i64 Q]) ∧ w'.ownsRow w.heap.size 68 2 v R.length (cellsP R) ∧ Below w.heap.size w w' := by
  have HLN : Hid (N.length = n) := hN
  have HS : Hid (Src w a (cellsP N)) := h
  have HLL : Hid (L.length = n2) := hL
  have HS2 : Hid (Src w a2 (cellsP L)) := h2
  have AL : Hid (Below w.heap.size w (w.alloc (.cells #[.string x] 9))) := (Below.refl _ _).alloc (Nat.le_refl _) _
  obtain ⟨q, hq⟩ : ∃ q, raskM N L [x] = q := ⟨_, rfl⟩
  have HQQ : Hid (raskM N L [x] = q) := hq
  obtain ⟨k, hk⟩ : ∃ k, askM N [x] = k := ⟨_, rfl⟩
  have HKK : Hid (askM N [x] = k) := hk
  have HQ1 : Hid (lawM2 (ruR N L x) q = (R, Q)) := by show _ = _; rw [← hq]; exact HQ.out
  have CA := l07AskS a n c N (some ⟨w.heap.size, 0, none⟩) 1 1 [x] (w.alloc (.cells #[.string x] 9)) hN hn hs (HS.out.below AL.out) rfl (by omega) (fun s hs => by rw [List.mem_singleton.1 hs]; exact hx) (src_1S rfl) k hk
  obtain ⟨sb, hsb⟩ : ∃ t, storeB L = t := ⟨_, rfl⟩
  have HSB : Hid (storeB L = sb) := hsb
  have CM := fun W (hW : Below w.heap.size w W) => specMailStoreOK a2 n2 c2 L W hL hn2 hs2 (h2.below hW) sb hsb
  have EM : Hid ((w.alloc (.cells #[] 68)).ownsRow w.heap.size 68 2 (.slice (some ⟨w.heap.size, 0, none⟩) 0 0) ([] : List PM).length (cellsP []) ∧ Below w.heap.size w (w.alloc (.cells #[] 68))) := ⟨own_empty rfl (Nat.le_refl _), (Below.refl _ _).alloc (Nat.le_refl _) _⟩
  have HBAD : Hid (q ≠ 0 → [] = R ∧ q = Q) := fun h9 => by
    have h7 := HQ1.out
    unfold lawM2 at h7
    rw [if_neg h9] at h7
    cases h7
    exact ⟨rfl, rfl⟩
  have HTWO : Hid (askM N [x] = 2 → [] = R ∧ 2 = Q) := fun h9 => by
    have h7 := rask_two (L := L) h9
    rw [HQQ.out] at h7
    have h6 := HBAD.out (by rw [h7]; decide)
    rw [h7] at h6
    exact h6
  clear hN h hs hL h2 hs2 hq HQ hk hsb
  by_cases h1 : 4096 < n
  · have h1i : (4096 : Int) < (n : Int) := by omega
    obtain ⟨rfl, rfl⟩ := HTWO.out (by unfold askM; rw [if_pos (.inl (by rw [HLN.out]; exact h1))])
    go_enter Tryz.func26, Tryz.ntmps26
    go_wp2_with fail
    exact bodyPost_ret (v := .tuple #[.slice (some ⟨w.heap.size, 0, none⟩) 0 0, .int .i64 2]) (by simp [results, Tryz.results26, go_sem]) rfl ⟨_, rfl, EM.out⟩
  have h1i : ¬ (4096 : Int) < (n : Int) := by omega
  by_cases h2 : 65536 < x.size
  · have h2i : (65536 : Int) < (x.size : Int) := by omega
    obtain ⟨rfl, rfl⟩ := HTWO.out (by
      unfold askM
      rw [if_pos (.inr (by show (smallT x && _) = false; rw [show smallT x = false from decide_eq_false (by omega)]; rfl))])
    go_enter Tryz.func26, Tryz.ntmps26
    go_wp2_with fail
    exact bodyPost_ret (v := .tuple #[.slice (some ⟨w.heap.size, 0, none⟩) 0 0, .int .i64 2]) (by simp [results, Tryz.results26, go_sem]) rfl ⟨_, rfl, EM.out⟩
  have h2i : ¬ (65536 : Int) < (x.size : Int) := by omega
  by_cases h4 : 4096 < n2
  · have h4i : (4096 : Int) < (n2 : Int) := by omega
    have h9 : raskM N L [x] = 2 := by unfold raskM; rw [if_pos (by rw [HLL.out]; exact h4)]
    rw [HQQ.out] at h9
    subst h9
    obtain ⟨rfl, rfl⟩ := HBAD.out (by decide)
    go_enter Tryz.func26, Tryz.ntmps26
    go_wp2_with fail
    exact bodyPost_ret (v := .tuple #[.slice (some ⟨w.heap.size, 0, none⟩) 0 0, .int .i64 2]) (by simp [results, Tryz.results26, go_sem]) rfl ⟨_, rfl, EM.out⟩
  have h4i : ¬ (4096 : Int) < (n2 : Int) := by omega
  have hqk : q = if k ≠ 0 then k else if storeB L = false then 1 else 0 := by rw [← HQQ.out]; exact rask_ask (by rw [HLL.out]; exact h4) HKK.out
  by_cases hk0 : k = 0
  case neg =>
    rw [if_pos hk0] at hqk
    subst hqk
    obtain ⟨rfl, rfl⟩ := HBAD.out hk0
    have hqi : (q != 0) = true := by simpa using hk0
    clear CM
    go_enter Tryz.func26, Tryz.ntmps26
    go_wp2_with fail
    refine CA.mono ?_
    rintro e w3 ⟨rfl, hb3⟩
    have B3 : Hid (Below w.heap.size w w3) := AL.out.trans (hb3.mono AL.out.size)
    have EM3 : Hid ((w3.alloc (.cells #[] 68)).ownsRow w.heap.size 68 2 (.slice (some ⟨w3.heap.size, 0, none⟩) 0 0) ([] : List PM).length (cellsP []) ∧ Below w.heap.size w (w3.alloc (.cells #[] 68))) := ⟨own_empty rfl B3.out.size, B3.out.alloc B3.out.size _⟩
    clear hb3 CA
    go_wp2_with fail
    exact bodyPost_ret (v := .tuple #[.slice (some ⟨w3.heap.size, 0, none⟩) 0 0, .int .i64 q]) (by simp [results, Tryz.results26, go_sem]) rfl ⟨_, rfl, EM3.out⟩
  subst hk0
  rw [if_neg (by simp), HSB.out] at hqk
  cases sb with
  | false =>
    rw [if_pos rfl] at hqk
    subst hqk
    obtain ⟨rfl, rfl⟩ := HBAD.out (by decide)
    go_enter Tryz.func26, Tryz.ntmps26
    go_wp2_with fail
    refine CA.mono ?_
    rintro e w3 ⟨rfl, hb3⟩
    have B3 : Hid (Below w.heap.size w w3) := AL.out.trans (hb3.mono AL.out.size)
    have CM3 := CM w3 B3.out
    clear hb3 CA CM
    go_wp2_with fail
    refine CM3.mono ?_
    rintro e w4 ⟨rfl, hb4⟩
    have B4 : Hid (Below w.heap.size w w4) := B3.out.trans (hb4.mono B3.out.size)
    have EM4 : Hid ((w4.alloc (.cells #[] 68)).ownsRow w.heap.size 68 2 (.slice (some ⟨w4.heap.size, 0, none⟩) 0 0) ([] : List PM).length (cellsP []) ∧ Below w.heap.size w (w4.alloc (.cells #[] 68))) := ⟨own_empty rfl B4.out.size, B4.out.alloc B4.out.size _⟩
    clear hb4 CM3
    go_wp2_with fail
    exact bodyPost_ret (v := .tuple #[.slice (some ⟨w4.heap.size, 0, none⟩) 0 0, .int .i64 1]) (by simp [results, Tryz.results26, go_sem]) rfl ⟨_, rfl, EM4.out⟩
  | true =>
  rw [if_neg (by decide)] at hqk
  subst hqk
  obtain ⟨hst, hsx⟩ := ask_zero1 HKK.out
  obtain ⟨hgl, nx0, hnm, n1, _⟩ := store_facts hst
  obtain ⟨b, o, rfl⟩ := store_src hst HS.out
  have HQ2 : Hid (ruR N L x = (R, Q)) := by have h9 := HQ1.out; unfold lawM2 at h9; rw [if_pos rfl] at h9; exact h9
  have CI := fun W (hW : Below w.heap.size w W) => l08RestoreUserS b o n c N HLN.out hc hc9 hst a2 n2 c2 L HLL.out HSB.out x hsx W (HS.out.below hW) (HS2.out.below hW) R Q HQ2.out
  have hln : R.length ≤ 4000 := by
    have h9 := ruR_len hst HSB.out (word_slash hsx)
    rw [HQ2.out] at h9
    exact h9
  clear hst hsx hgl HQ1 HBAD hnm n1 HTWO
  go_enter Tryz.func26, Tryz.ntmps26
  go_wp2_with fail
  refine CA.mono ?_
  rintro e w3 ⟨rfl, hb3⟩
  have B3 : Hid (Below w.heap.size w w3) := AL.out.trans (hb3.mono AL.out.size)
  have CM3 := CM w3 B3.out
  clear hb3 CA CM
  go_wp2_with fail
  refine CM3.mono ?_
  rintro e w4 ⟨rfl, hb4⟩
  have B4 : Hid (Below w.heap.size w w4) := B3.out.trans (hb4.mono B3.out.size)
  have CI4 := CI w4 B4.out
  clear hb4 CM3 CI
  go_wp2_with fail
  refine CI4.mono ?_
  rintro e w5 ⟨a5, n5, c5, rfl, k1, k2, hb5⟩
  have B5 : Hid (Below w.heap.size w w5) := B4.out.trans (hb5.mono B4.out.size)
  have CO := l07OwnS a5 n5 c5 R w5 k1 (by omega) k2
  have HN5 : Hid (R.length = n5) := k1
  clear hb5 CI4 k1 k2
  go_wp2_with fail
  refine CO.mono ?_
  rintro e w6 ⟨v6, rfl, ho6, hb6⟩
  obtain ⟨a6, c6, rfl, _, _⟩ := own_src ho6
  have HF : Hid (w6.ownsRow w.heap.size 68 2 (.slice a6 n5 c6) R.length (cellsP R) ∧ Below w.heap.size w w6) := ⟨by rw [HN5.out]; exact own_mono ho6 B5.out.size, B5.out.trans (hb6.mono B5.out.size)⟩
  clear ho6 hb6 CO
  go_wp2_with fail
  exact bodyPost_ret (v := .tuple #[.slice a6 n5 c6, .int .i64 Q]) (by simp [results, Tryz.results26, go_sem]) rfl ⟨_, rfl, HF.out⟩
set_option maxHeartbeats 4000000 in
theorem implRestoreUser (a : Option Addr) (n c : Nat) (N : List PM) (a2 : Option Addr) (n2 c2 : Nat) (L : List PM) (x : ByteArray) (w : World) (hN : N.length = n) (hn : n ≤ 1048576) (hs : ∀ x ∈ N, x.1.size ≤ 1048576 ∧ x.2.size ≤ 1048576) (h : Src w a (cellsP N)) (hL : L.length = n2) (hn2 : n2 ≤ 1048576) (hs2 : ∀ x ∈ L, x.1.size ≤ 1048576 ∧ x.2.size ≤ 1048576) (h2 : Src w a2 (cellsP L)) (hx : x.size ≤ 1048576) (hG : Gl w) (h8 : 8 ≤ w.heap.size) (R : List PM) (Q : Int) (HQ : Hid (lawM2 (ruR N L x) (raskM N L [x]) = (R, Q))) :
    Calls Tryz.prog 25 #[.slice a n c, .slice a2 n2 c2, .string x] w fun e w' => ∃ v, e = .returned (.tuple #[v, .int .i64 Q]) ∧ w'.ownsRow w.heap.size 68 2 v R.length (cellsP R) ∧ Below w.heap.size w w' := by
  have HLN : Hid (N.length = n) := hN
  have HS : Hid (Src w a (cellsP N)) := h
  have HLL : Hid (L.length = n2) := hL
  have HS2 : Hid (Src w a2 (cellsP L)) := h2
  have HG : Hid (Gl w) := hG
  have AL : Hid (Below w.heap.size w (w.alloc (.cells #[.string x] 9))) := (Below.refl _ _).alloc (Nat.le_refl _) _
  obtain ⟨q, hq⟩ : ∃ q, raskM N L [x] = q := ⟨_, rfl⟩
  have HQQ : Hid (raskM N L [x] = q) := hq
  have HQ1 : Hid (lawM2 (ruR N L x) q = (R, Q)) := by show _ = _; rw [← hq]; exact HQ.out
  have CA := restoreFaultI a n c N a2 n2 c2 L (some ⟨w.heap.size, 0, none⟩) 1 1 [x] (w.alloc (.cells #[.string x] 9)) hN hn hs (HS.out.below AL.out) hL hn2 hs2 (HS2.out.below AL.out) rfl (by omega) (fun s hs => by rw [List.mem_singleton.1 hs]; exact hx) (src_1S rfl) (hG.below h8 AL.out) (by have := AL.out.size; omega) q hq
  clear hN h hs hL h2 hs2 hq HQ hG
  by_cases hq0 : q = 0
  · subst hq0
    obtain ⟨hask, hst2⟩ := rask_zero HQQ.out
    obtain ⟨hst, hsx⟩ := ask_zero1 hask
    have hus := word_slash hsx
    have hu8 := short_size hsx
    obtain ⟨hgl, nx0, hnm, n1, n2', _⟩ := store_facts hst
    have hn60 := hgl.1
    rw [HLN.out] at hn60
    have hm60 := (store_facts hst2).1.1
    rw [HLL.out] at hm60
    have HQ2 : Hid (ruR N L x = (R, Q)) := by have h9 := HQ1.out; unfold lawM2 at h9; rw [if_pos rfl] at h9; exact h9
    have CD := fun W (hW : Below w.heap.size w W) => deskWithI a n c N x W HLN.out (HS.out.below hW) (HG.out.below h8 hW) (by have := hW.size; omega) hst hus (by omega)
    have CD2 := fun W (hW : Below w.heap.size w W) => deskWithI a2 n2 c2 L x W HLL.out (HS2.out.below hW) (HG.out.below h8 hW) (by have := hW.size; omega) hst2 hus (by omega)
    rw [hnm] at n1 n2'
    have HFI : Hid (∀ S T, takeAll (nextM N) x S0 N = some S → takeAll (nextM L) x S0 L = some T → RuH N L (nextM N) x S T) := fun S T k1 k2 => ru_facts hst hst2 hus k1 k2
    have HUS : Hid ((47 : UInt8) ∉ x.data.toList) := hus
    obtain ⟨nx, hnx⟩ : ∃ t, nextM N = t := ⟨_, rfl⟩
    obtain ⟨ny, hny⟩ : ∃ t, nextM L = t := ⟨_, rfl⟩
    simp only [hnx] at CD n1 n2'
    simp only [hny] at CD2
    rw [hnx, hny] at HFI
    clear hst hst2 hsx HQ1 hgl hnm hnx hny hus hask
    go_enter Tryz.func25, Tryz.ntmps25
    go_wp2_with fail
    refine CA.mono ?_
    rintro e w3 ⟨rfl, hb3⟩
    have B3 : Hid (Below w.heap.size w w3) := AL.out.trans (hb3.mono AL.out.size)
    clear hb3 CA
    go_wp2_with fail
    refine (CD _ B3.out).mono ?_
    rintro e w4 ⟨M, S, rfl, hS, hSt, hM, hb4⟩
    have B4 : Hid (Below w.heap.size w w4) := B3.out.trans (hb4.mono B3.out.size)
    have hM2 : w.heap.size ≤ M := by have h9 := B3.out.size; omega
    have HS4 : Hid (takeAll nx x S0 N = some S ∧ StAt w4 M a n c nx x S n) := ⟨hS, hSt⟩
    clear hb4 hS hSt CD hM
    go_wp2_with fail
    refine (CD2 _ B4.out).mono ?_
    rintro e w5 ⟨O, T, rfl, hT, hTt, hO, hb5⟩
    have B5 : Hid (Below w.heap.size w w5) := B4.out.trans (hb5.mono B4.out.size)
    obtain ⟨va, X, hD, hV, hN, hf, hk⟩ := HS4.out.2
    obtain ⟨vb, Z, hE, hW, hNt, hft, hkt⟩ := hTt
    have kk := HFI.out S T HS4.out.1 hT
    have hM4 : M + 1 < w4.heap.size := World.block_lt_of_cell? _ _ (hD.1 0 _ rfl).1
    obtain ⟨q1, nx1, S1, hop⟩ : ∃ q1 nx1 S1, ruM nx x S T (listS N x) (gsO L x) = (q1, nx1, S1) := ⟨_, _, _, rfl⟩
    have HOF : Hid (OpFits N x q1 nx1 S1 (ruR N L x)) := kk.op S1 q1 nx1 hop
    have COP := restoreUserI w5 M a n c nx x S 60 va X (hD.later hb5) hV hN (fun f hf9 => by have := hf f hf9; omega) (by omega) (by omega) (by rw [hV.len]; exact kk.ls) O a2 n2 c2 ny T vb Z hE hW hNt (fun f hf9 => by have := hft f hf9; omega) (by omega) (by rw [hW.len]; exact kk.lt) (by omega) (fun z hz y9 hy9 => Nat.lt_of_lt_of_le (own_lt (hD.2.2.2.1 z hz) hy9) hO) HUS.out (by omega) (by omega) n2' (HG.out.below h8 B5.out) (by omega) (listS N x) kk.ns kk.nd kk.nf _ rfl kk.nm (gsO L x) kk.gs kk.gd kk.gf _ rfl kk.gm (emL x L N (listS N x)) kk.li kk.le kk.fe q1 nx1 S1 hop
    clear hb5 hT CD2 hO hop HFI hD hV hN hf hk hE hW hNt hft hkt kk HS4
    go_wp2_with fail
    refine COP.mono ?_
    rintro e w6 ⟨rfl, hst6, hb6⟩
    have B6 : Hid (Below w.heap.size w w6) := B5.out.trans (hb6.mono hM2)
    have HST6 : Hid (StAt w6 M a n c nx1 x S1 60) := hst6
    clear COP hb6 hst6
    by_cases hq1 : q1 = 0
    · subst hq1
      obtain ⟨k1, k2, k3, Y, k4, k5, k6, k7⟩ := HOF.out.2 rfl
      rw [HQ2.out] at k7
      have CE := doneOk w6 M a n c nx1 x S1 60 HST6.out (by omega) k1 k2 k3 (by omega) (HG.out.below h8 B6.out) (by omega) Y k4 k5 _ rfl k6 N HLN.out hn60 (HS.out.below B6.out) R Q (by show _ = _; rw [k7]; rfl)
      clear k1 k2 k3 k4 k5 k6 k7 HOF
      go_wp2_with fail
      refine CE.mono ?_
      rintro e w7 ⟨v7, rfl, ho7, hb7⟩
      obtain ⟨a7, c7, rfl, _, _⟩ := own_src ho7
      have HF : Hid (w7.ownsRow w.heap.size 68 2 (.slice a7 R.length c7) R.length (cellsP R) ∧ Below w.heap.size w w7) := ⟨own_mono ho7 B6.out.size, B6.out.trans (hb7.mono B6.out.size)⟩
      clear CE ho7 hb7
      go_wp2_with fail
      exact bodyPost_ret (v := .tuple #[.slice a7 R.length c7, .int .i64 Q]) (by simp [results, Tryz.results25, go_sem]) rfl ⟨_, rfl, HF.out⟩
    · have k7 := HOF.out.1 hq1
      rw [HQ2.out] at k7
      obtain ⟨hk1, hk2⟩ : R = N ∧ Q = q1 := by cases k7; exact ⟨rfl, rfl⟩
      have e0c : w6.cell? ⟨M + 1, 0, none⟩ = some (.slice a n c) := by
        obtain ⟨_, _, hD, _⟩ := HST6.out
        exact (hD.1 0 _ rfl).1
      have CE := doneBad q1 hq1 w6 M a n c N HLN.out hn60 e0c (HS.out.below B6.out)
      have HK : Hid (R = N ∧ q1 = Q) := ⟨hk1, hk2.symm⟩
      clear k7 HOF hk1 hk2 e0c
      go_wp2_with fail
      refine CE.mono ?_
      rintro e w7 ⟨v7, rfl, ho7, hb7⟩
      obtain ⟨a7, c7, rfl, _, _⟩ := own_src ho7
      have HF : Hid (w7.ownsRow w.heap.size 68 2 (.slice a7 n c7) R.length (cellsP R) ∧ Below w.heap.size w w7) := ⟨by rw [HK.out.1, HLN.out]; exact own_mono ho7 B6.out.size, B6.out.trans (hb7.mono B6.out.size)⟩
      have HK2 : Hid (q1 = Q) := HK.out.2
      clear CE ho7 hb7
      go_wp2_with fail
      exact bodyPost_ret (v := .tuple #[.slice a7 n c7, .int .i64 q1]) (by simp [results, Tryz.results25, go_sem]) rfl ⟨_, by rw [HK2.out], HF.out⟩
  · obtain ⟨rfl, rfl⟩ : [] = R ∧ q = Q := by
      have h9 := HQ1.out
      unfold lawM2 at h9
      rw [if_neg hq0] at h9
      cases h9
      exact ⟨rfl, rfl⟩
    have hqi : (q != 0) = true := by simpa using hq0
    go_enter Tryz.func25, Tryz.ntmps25
    go_wp2_with fail
    refine CA.mono ?_
    rintro e w3 ⟨rfl, hb3⟩
    have B3 : Hid (Below w.heap.size w w3) := AL.out.trans (hb3.mono AL.out.size)
    clear hb3 CA
    go_wp2_with fail
    exact bodyPost_ret (v := .tuple #[.slice none 0 0, .int .i64 q]) (by simp [results, Tryz.results25, go_sem]) rfl ⟨_, rfl, World.ownsRow_nil _ _ _ _, B3.out⟩
theorem fs_len {L : List PM} {u : ByteArray} (hst : storeB L = true) (hus : (47 : UInt8) ∉ u.data.toList) {S : SM} (hI : Inv (nextM L) u L S) (hn : (S.fs.map (·.name)).Nodup) : S.fs.length ≤ 60 := by
  have hg := (store_facts hst).1
  have hup := listS_up (u := u) hg.2.2
  have hnd : (listS L u).Nodup := hup.imp fun {a b} h e => by rw [e] at h; exact ltK_irrefl _ h
  have hp := ((List.perm_ext_iff_of_nodup hn hnd).2 (folders_mem hst hus hI)).length_eq
  rw [List.length_map] at hp
  have h1 : (listS L u).length ≤ L.length := by unfold listS; rw [List.length_map]; exact List.length_filter_le _ _
  have h2 := hg.1
  omega
set_option maxHeartbeats 2000000 in
theorem implListFolders (a : Option Addr) (n c : Nat) (L : List PM) (u : ByteArray) (w : World) (hL : L.length = n) (hn : n ≤ 1048576) (hs : ∀ x ∈ L, x.1.size ≤ 1048576 ∧ x.2.size ≤ 1048576) (h : Src w a (cellsP L)) (hu : u.size ≤ 1048576) (hG : Gl w) (h8 : 8 ≤ w.heap.size) (T : List ByteArray) (Q : Int) (HQ : Hid (flM L u = (T, Q))) :
    Calls Tryz.prog 23 #[.slice a n c, .string u] w fun e w' => ∃ v, e = .returned (.tuple #[v, .int .i64 Q]) ∧ w'.ownsRow w.heap.size 9 1 v T.length (cellsS T) ∧ Below w.heap.size w w' := by
  have HLN : Hid (L.length = n) := hL
  have HS : Hid (Src w a (cellsP L)) := h
  have HG : Hid (Gl w) := hG
  have AL : Hid (Below w.heap.size w (w.alloc (.cells #[.string u] 9))) := (Below.refl _ _).alloc (Nat.le_refl _) _
  obtain ⟨q, hq⟩ : ∃ q, askM L [u] = q := ⟨_, rfl⟩
  have HQQ : Hid (askM L [u] = q) := hq
  have HQ1 : Hid ((if q = 0 then listG L u (getM L (userK u)).isSome else ([], q)) = (T, Q)) := by show _ = _; rw [← HQ.out]; unfold flM; rw [hq]
  have CA := mailFaultI a n c L (some ⟨w.heap.size, 0, none⟩) 1 1 [u] (w.alloc (.cells #[.string u] 9)) hL hn hs (HS.out.below AL.out) rfl (by omega) (fun s hs => by rw [List.mem_singleton.1 hs]; exact hu) (src_1S rfl) (hG.below h8 AL.out) (by have := AL.out.size; omega) q hq
  clear hL h hs hq HQ hG
  by_cases hq0 : q = 0
  · subst hq0
    obtain ⟨hst, hsh⟩ := ask_zero HQQ.out
    have hus := word_slash hsh
    have hu8 := short_size hsh
    have HQ2 : Hid (listG L u (getM L (userK u)).isSome = (T, Q)) := by have h9 := HQ1.out; rw [if_pos rfl] at h9; exact h9
    have HW : Hid (∀ S, takeAll (nextM L) u S0 L = some S → (S.fs.map (·.name)).Nodup → (∀ R : List ByteArray, R.Perm (S.fs.map (·.name)) → ((R.map (·.data.toList)).mergeSort fun x y => decide (x ≤ y)) = T.map (·.data.toList)) ∧ lackM S.word S.fs [] = Q ∧ S.fs.length ≤ 60) := fun S hS hnd => by
      obtain ⟨S', k1, k2, k3⟩ := take_all hst hus
      rw [hS] at k1
      cases k1
      have h9 := HQ2.out
      have hfl := fs_len hst hus k3 hnd
      unfold lackM
      rw [k2]
      cases hv : getM L (userK u) with
      | none =>
        rw [hv] at h9
        cases h9
        have h0 : (e0 : ByteArray).toList = [] := by rw [ByteArray.toList_eq]
        refine ⟨fun R hR => ?_, if_pos h0, hfl⟩
        rw [sort_eq hst hus k3 hnd hR, none_left hst hus hv]
      | some v =>
        rw [hv] at h9
        cases h9
        exact ⟨fun R hR => sort_eq hst hus k3 hnd hR, if_neg (word_some hst hus hv), hfl⟩
    have CD := fun W (hW : Below w.heap.size w W) => deskWithI a n c L u W HLN.out (HS.out.below hW) (HG.out.below h8 hW) (by have := hW.size; omega) hst hus (by omega)
    clear hst hsh HQ1
    go_enter Tryz.func23, Tryz.ntmps23
    go_wp2_with fail
    refine CA.mono ?_
    rintro e w3 ⟨rfl, hb3⟩
    have B3 : Hid (Below w.heap.size w w3) := AL.out.trans (hb3.mono AL.out.size)
    clear hb3 CA
    go_wp2_with fail
    refine (CD _ B3.out).mono ?_
    rintro e w4 ⟨M, S, rfl, hS, hSt, hM, hb4⟩
    have B4 : Hid (Below w.heap.size w w4) := B3.out.trans (hb4.mono B3.out.size)
    obtain ⟨k1, k2, k60⟩ := HW.out S hS (by obtain ⟨_, _, _, _, h9, _⟩ := hSt; exact h9)
    have CL := fun W (hW : Below w4.heap.size w4 W) => lacksI W M a n c _ u S n (hSt.later hW) (by omega) none 0 0 [] rfl (by omega) (fun s hs => by cases hs) (.inl rfl) Q k2
    obtain ⟨va, X, hD, hV, hSr⟩ := hSt
    have CN := namesI w4 M _ hD (by have h9 := congrArg List.length hV; rw [List.length_map, List.length_map] at h9; show X.length ≤ 60; omega)
    rw [leftN_view hV] at CN
    have HK : Hid (∀ R : List ByteArray, R.Perm (S.fs.map (·.name)) → ((R.map (·.data.toList)).mergeSort fun x y => decide (x ≤ y)) = T.map (·.data.toList)) := k1
    clear hb4 hS hD hV hSr k1 k2 k60 CD hM
    go_wp2_with fail
    refine CN.mono ?_
    rintro e w5 ⟨v5, rfl, ⟨R, hR, hown5⟩, hb5⟩
    have HO5 : Hid (w5.ownsRow w.heap.size 9 1 v5 T.length (cellsS T)) := by
      have h9 := HK.out R hR
      rw [h9] at hown5
      have h7 : R.length = T.length := by
        have h5 := congrArg List.length h9
        rw [List.length_mergeSort, List.length_map, List.length_map] at h5
        exact h5
      have h6 : (T.map (·.data.toList)).map encStr = cellsS T := by
        unfold cellsS
        rw [List.map_map]
        exact List.map_congr_left fun x _ => rfl
      rw [h7, h6] at hown5
      exact own_mono hown5 B4.out.size
    have B5 : Hid (Below w.heap.size w w5) := B4.out.trans (hb5.mono B4.out.size)
    have CL5 := CL w5 hb5
    clear hb5 hown5 hR CN CL
    go_wp2_with fail
    refine CL5.mono ?_
    rintro e w6 ⟨rfl, hb6⟩
    have HO6 : Hid (w6.ownsRow w.heap.size 9 1 v5 T.length (cellsS T)) := own_below HO5.out hb6
    have B6 : Hid (Below w.heap.size w w6) := B5.out.trans (hb6.mono B5.out.size)
    clear hb6 CL5
    go_wp2_with fail
    exact bodyPost_ret (v := .tuple #[v5, .int .i64 Q]) (by simp [results, Tryz.results23, go_sem]) rfl ⟨_, rfl, HO6.out, B6.out⟩
  · obtain ⟨rfl, rfl⟩ : ([] : List ByteArray) = T ∧ q = Q := by
      have h9 := HQ1.out
      rw [if_neg hq0] at h9
      cases h9
      exact ⟨rfl, rfl⟩
    have hqi : (q != 0) = true := by simpa using hq0
    go_enter Tryz.func23, Tryz.ntmps23
    go_wp2_with fail
    refine CA.mono ?_
    rintro e w3 ⟨rfl, hb3⟩
    have B3 : Hid (Below w.heap.size w w3) := AL.out.trans (hb3.mono AL.out.size)
    clear hb3 CA
    go_wp2_with fail
    exact bodyPost_ret (v := .tuple #[.slice none 0 0, .int .i64 q]) (by simp [results, Tryz.results23, go_sem]) rfl ⟨_, rfl, World.ownsRow_nil _ _ _ _, B3.out⟩
end Go.Proofs.YthgbclipknfmjaaGreatDoor
namespace Go.Proofs.YthgbclipknfmjaaGreatDoor
open Go.ChangeShapes Go.WideShapes Go.ChangeAt Go.RowKit Go.Deep
set_option linter.unusedVariables false
theorem src_of_row {W : World} {x : Addr} {zs : List Value} {n : Nat} (hn : n ≤ zs.length) (hc : ∀ i, i < zs.length → W.cell? (x.add i) = some (zs.getD i undef)) : Src W (some x) (zs.take n) := by
  by_cases h0 : n = 0
  · subst h0; exact .inl (by simp)
  obtain ⟨b, o, spot⟩ := x
  have h1 := hc 0 (by omega)
  have hspot : spot = none := by simpa [Addr.add] using World.cell?_spot h1
  subst hspot
  refine .inr ⟨b, o, rfl, fun j hj => ?_⟩
  have hj2 : j < n := by simp at hj; omega
  have h2 := hc j (by omega)
  have e1 : (zs.take n).getD j undef = zs.getD j undef := by
    rw [List.getD_eq_getElem?_getD, List.getElem?_take, if_pos hj2, ← List.getD_eq_getElem?_getD]
  rw [e1, ← h2]
  congr 1
  unfold Addr.add
  split
  · rename_i h0; subst h0; rfl
  · rfl
section
variable {H : Type} {enc : TypeId × Value → H} {W : World} {v : Value} {fuel : Nat} {x : DataW H × List MemPlace}
theorem bytes_arg (h : DataW.trod enc Tryz.prog W 0 (fun _ => true) true fuel 22 [v] = some x) :
    ∃ (L : List Nat) (a : Option Addr) (c : Nat), v = .slice a L.length c ∧ Src W a (cellsB L) ∧ L.length ≤ maxLen ∧ ∀ s ∈ L, s < 256 := by
  rcases open_ints Tryz.underlying22 Tryz.underlying5 (by kernel_rfl) h with ⟨hcs, _⟩ | ⟨ad, len, cap, zs, hcs, _, hl, hm, hz, _, hcell, hwz⟩
  · simp only [List.cons.injEq, and_true] at hcs
    exact ⟨[], none, 0, hcs, .inl rfl, by simp, fun s hs => by cases hs⟩
  · simp only [List.cons.injEq, and_true] at hcs
    rw [if_pos rfl] at hz
    have hbd : ∀ n ∈ zs, 0 ≤ n ∧ n < 256 := fun n hn => by have := bounds_u8 (hwz n hn); omega
    let f : Int → Nat := fun z => z.toNat
    have hcb : cellsB (zs.map f) = zs.map (Value.int .u8) := by
      unfold cellsB
      rw [List.map_map]
      refine List.map_congr_left fun n hn => ?_
      show Value.int .u8 ((n.toNat : Nat) : Int) = _
      rw [Int.toNat_of_nonneg (hbd n hn).1]
    have hlen : ((zs.map f).take len).length = len := by simp; omega
    refine ⟨(zs.map f).take len, some ad, cap, by rw [hlen]; exact hcs, ?_, by rw [hlen]; omega, fun s hs => ?_⟩
    · have := src_of_row (W := W) (x := ad) (zs := cellsB (zs.map f)) (n := len) (by rw [cellsB_length]; simp; omega) (fun i hi => by
        rw [cellsB_length, List.length_map] at hi
        rw [hcell i hi, hcb, getD_some (u := Value.int .u8 (zs.getD i 0))]
        simp [hi])
      rw [show cellsB ((zs.map f).take len) = (cellsB (zs.map f)).take len from by simp [cellsB, List.map_take]]
      exact this
    · have h1 := List.mem_of_mem_take hs
      rw [List.mem_map] at h1
      obtain ⟨n, hn, rfl⟩ := h1
      have := hbd n hn
      show n.toNat < 256
      omega
end
set_option maxRecDepth 100000
section
variable {H : Type} {enc : TypeId × Value → H} {W : World} {v : Value} {d : DataW H} {p : List MemPlace} {base : Nat}
theorem bytes_in (hv : Value.okWide Tryz.prog W .any base 22 v) (h : DataW.Trod enc Tryz.prog W 0 (fun _ => true) true 22 v d p) :
    ∃ (A : Option Addr) (C : Nat) (L : List Nat), v = .slice A L.length C ∧ Src W A (cellsB L) ∧ L.length ≤ maxLen ∧ ∀ s ∈ L, s < 256 := by
  obtain ⟨a, len, cap, rfl⟩ := okWide_slice Tryz.underlying22 hv
  obtain ⟨fuel, hf⟩ := h
  obtain ⟨L, b, c, e, sl, ml⟩ := bytes_arg (show DataW.trod _ _ _ _ _ _ _ _ [.slice a len cap] = _ by simpa [Value.cells] using hf)
  exact ⟨b, c, L, e, sl, ml⟩
end
end Go.Proofs.YthgbclipknfmjaaGreatDoor
namespace Go.Proofs.YthgbclipknfmjaaGreatDoor
open Go.RowKit
set_option linter.unusedVariables false

theorem lift_shaped {H : Type} {enc : TypeId × Value → H} {a : Assume} {C : Checked} {os : Os} {f : FuncId} {fn : Func} {s : ChangeSpec} {X : World → Array Value → Prop}
    (hX : ∀ (w w' : World) (args : Array Value), w.heap = w'.heap → X w args → X w' args)
    (own : ownKnob C.prog.godebug = none) (started : os.Started) (noInit : C.prog.inits.idxOf? f = none) (hfn : C.prog.funcs[f]? = some fn)
    (wit : ∃ (w : World) (tape : Tape) (i : Input), w.os = os ∧ (w.forCall tape i).Shaped C.prog ∧ i.vars = [] ∧ Input.okWide C.prog (w.forCall tape i) .any w.heap.size f i ∧
      ((s.pre enc C.prog fn [] false (w.forCall tape i).memory i.args ∧ X (w.forCall tape i).memory i.args) ∧ sizedMet enc C.prog fn (OpenSpec.ofChange s) false (w.forCall tape i).memory i.args) ∧ a.holds C.prog (lone (Frame.enter C.prog f i.args .normal) [] (w.forCall tape i)))
    (con : ∀ (W : World) (base : Nat) (args : Array Value) (ds gs : List (DataW H)) (before : List MemPlace),
      (∀ (j : Nat) t v, fn.params[j]? = some t → args[j]? = some v → Value.okWide C.prog W .any base t v) →
      DataW.Whole enc C.prog fn.params.toList s.vars false W args.toList ds gs before → W.ShapedOpen C.prog → X W args →
      Calls C.prog f args W fun e W' => ∃ v, e = .returned v ∧ s.post enc C.prog fn false true false false W args v W') :
    ReturnsInHanded a C os f .any (fun w args => (s.pre enc C.prog fn [] false w args ∧ X w args) ∧ sizedMet enc C.prog fn (OpenSpec.ofChange s) false w args) (s.post enc C.prog fn false true false false) := by
  refine returnsInHanded_of_calls own started noInit wit ?_
  intro w tape i _ shape _ good hpre _
  obtain ⟨_, _, _, g, hg, _, _, _, _, vals⟩ := good
  obtain rfl : g = fn := Option.some.inj (hg.symm.trans hfn)
  obtain ⟨⟨⟨ds, gs, before, whole, _⟩, hXw⟩, _⟩ := hpre
  exact (con (w.forCall tape i) w.heap.size i.args ds gs before vals (DataW.Whole.of_heap (w' := w.forCall tape i) (by rfl) whole) shape (hX _ (w.forCall tape i) _ (by rfl) hXw)).mono fun e W' ⟨v, he, hp⟩ => by
    subst he
    exact ChangeSpec.post_blind hp
theorem tab_cells {W : World} {n : String} {cs : Array Value} {g : Nat} (hg : Tryz.prog.globalNamed n = some g) (h : W.var? Tryz.prog n = some cs) : g < W.heap.size := by
  simp only [World.var?, hg, Option.bind_some] at h
  cases hh : W.heap[g]? with
  | none => rw [hh] at h; cases h
  | some o => exact (Array.getElem?_eq_some_iff.1 hh).1
theorem err_cell {W : World} {n : String} {g : Nat} {t : TypeId} {ms : Array (String × TypeId)} {cs : Array Value} {fuel : Nat} {name : String} {d : DataW Unit} {p : List MemPlace} (hg : Tryz.prog.globalNamed n = some g) (ht : Tryz.prog.underlying t = some (.interface ms)) (hv : W.var? Tryz.prog n = some cs) (hd : DataW.trod (fun _ => ()) Tryz.prog W 0 (fun _ => true) false fuel t cs.toList = some (.iface name d, p)) :
    ∃ ev, W.cell? ⟨g, 0, none⟩ = some ev ∧ (ev = .nilIface ∨ ∃ te pe, ev = .iface te pe) := by
  obtain ⟨f1, u, v, h1, _, _⟩ := iface_of_trod ht hd
  refine ⟨.iface u v, ?_, .inr ⟨u, v, rfl⟩⟩
  rw [World.var?_cell hg hv 0, ← Array.getElem?_toList, h1]
  rfl
theorem gl_of {W : World} (hS : W.ShapedOpen Tryz.prog) (h : laidMetH Tryz.prog Rows.fnExactValidityRisesRow.laid W) : Gl W ∧ 8 ≤ W.heap.size := by
  rw [MakeChecks.laidMetH_plain _ _ _ (by kernel_rfl)] at h
  obtain ⟨ps, h0, _⟩ := h
  obtain ⟨g0, t0, cs0, f0, p0, q0, hg0, ht0, hv0, hd0, h1, _⟩ := h0
  obtain ⟨g1, t1, cs1, f1, p1, q1, hg1, ht1, hv1, hd1, h2, _⟩ := h1
  obtain ⟨g2, t2, cs2, f2, p2, q2, hg2, ht2, hv2, hd2, h3, _⟩ := h2
  obtain ⟨g3, t3, cs3, f3, p3, q3, hg3, ht3, hv3, hd3, h4, _⟩ := h3
  obtain ⟨g4, t4, cs4, f4, p4, q4, hg4, ht4, hv4, hd4, h5, _⟩ := h4
  obtain ⟨g5, t5, cs5, f5, p5, q5, hg5, ht5, hv5, hd5, h6, _⟩ := h5
  have e1 : Tryz.prog.globalNamed "unicode/utf8.acceptRanges" = some 7 := by kernel_rfl
  have e2 : Tryz.prog.globalNamed "internal/strconv.uint64pow10" = some 1 := by kernel_rfl
  have e4 : Tryz.prog.globalNamed "strconv.ErrRange" = some 3 := by kernel_rfl
  have e5 : Tryz.prog.globalNamed "strconv.ErrSyntax" = some 2 := by kernel_rfl
  obtain rfl := Option.some.inj (e2.symm.trans hg2)
  obtain rfl := Option.some.inj (e4.symm.trans hg4)
  obtain rfl := Option.some.inj (e5.symm.trans hg5)
  have k2 : (Tryz.prog.globals[1]?).map (·.type) = some t2 := ht2
  have k4 : (Tryz.prog.globals[3]?).map (·.type) = some t4 := ht4
  have k5 : (Tryz.prog.globals[2]?).map (·.type) = some t5 := ht5
  refine ⟨⟨?_, ?_, Tryz.laysM146.s1_3 W hS, ?_⟩, ?_⟩
  · obtain rfl := Option.some.inj ((show (Tryz.prog.globals[2]?).map (·.type) = some 173 by kernel_rfl).symm.trans k5)
    exact err_cell e5 Tryz.underlying173 hv5 hd5
  · obtain rfl := Option.some.inj ((show (Tryz.prog.globals[3]?).map (·.type) = some 173 by kernel_rfl).symm.trans k4)
    exact err_cell e4 Tryz.underlying173 hv4 hd4
  · obtain rfl := Option.some.inj ((show (Tryz.prog.globals[1]?).map (·.type) = some 197 by kernel_rfl).symm.trans k2)
    unfold Lib.TabIs
    have e : (Rows.laid_internal_strconv_uint64pow10 : DataW Unit) = Lib.tabData .u64 Lib.pow10Tab := by rfl
    have hd2' : DataW.trod (fun _ => ()) Tryz.prog W 0 (fun _ => true) false f2 197 cs2.toList = some (Lib.tabData .u64 Lib.pow10Tab, p2) := by rw [← e]; exact hd2
    rw [hv2, ← Lib.cells_of_tab Tryz.underlying197 Tryz.underlying171 (by kernel_rfl) (by kernel_rfl) hd2']
  · exact tab_cells e1 hv3
end Go.Proofs.YthgbclipknfmjaaGreatDoor
namespace Go.Proofs.YthgbclipknfmjaaGreatDoor
theorem gl_row {W : World} {l : List (String × DataW Unit)} (e : l = Rows.fnExactValidityRisesRow.laid) (hS : W.ShapedOpen Tryz.prog) (h : laidMetH Tryz.prog l W) : Gl W ∧ 8 ≤ W.heap.size := gl_of hS (by rw [← e]; exact h)
end Go.Proofs.YthgbclipknfmjaaGreatDoor
