
/-
  The walk of the law FnFolders. By an AI agent.
-/
import Derived.Test.YtddnecljdecamaaGreatDoorQ39
import Derived.Test.YtddnecljdecamaaGreatDoorQ37
import Derived.Test.YtddnecljdecamaaGreatDoorQ36
import Derived.Test.YtddnecljdecamaaGreatDoorQ27
import Derived.Test.YtddnecljdecamaaGreatDoorQ38
namespace Go.Proofs.YtddnecljdecamaaGreatDoor
open Go.ChangeShapes Go.WideShapes Go.ChangeAt Go.RowKit Go.Deep Go.Lib
set_option linter.unusedVariables false
set_option linter.unusedSimpArgs false
set_option maxRecDepth 100000

theorem store_small {L : List PM} (h : storeB L = true) : L.length ≤ 60 ∧ ∀ x ∈ L, x.1.size ≤ 1048576 ∧ x.2.size ≤ 1048576 := by
  have hg := (store_facts h).1
  exact ⟨hg.1, fun x hx => by have := hg.2.1 x hx; omega⟩
/-- A list that lies somewhere. -/
def At (w : World) (a : Option Addr) (L : List PM) (n c : Nat) : Prop := L.length = n ∧ n ≤ c ∧ c ≤ maxLen ∧ Src w a (cellsP L)
theorem At.below {w w' : World} {a : Option Addr} {L : List PM} {n c : Nat} (h : At w a L n c) (hb : Below w.heap.size w w') : At w' a L n c := ⟨h.1, h.2.1, h.2.2.1, h.2.2.2.below hb⟩
theorem At.own {w : World} {v : Value} {L : List PM} {base : Nat} (h : w.ownsRow base 68 2 v L.length (cellsP L)) : ∃ a n c, v = .slice a n c ∧ At w a L n c := by
  obtain ⟨a, c, rfl, hs, _⟩ := own_src h
  exact ⟨a, _, c, rfl, rfl, (own_capx h).1, (own_capx h).2, hs⟩
theorem At.le {w : World} {a : Option Addr} {L : List PM} {n c : Nat} (h : At w a L n c) (hs : storeB L = true) : n ≤ 60 := by
  have h1 := (store_small hs).1
  rw [h.1] at h1
  exact h1
theorem own_ml {w : World} {base n c : Nat} {a : Option Addr} {Ms : List MMl} (h : w.ownsRow base 36 3 (.slice a n c) n (cellsMl Ms)) : Src w a (cellsMl Ms) := by
  obtain ⟨a9, c9, e9, hs9, _⟩ := own_src h
  cases e9
  exact hs9
theorem fa_len {L : List PM} {u f : ByteArray} {va nx q : Int} {Ms : List MMl} {nm : ByteArray} (h : storeB L = true) (hfa : faM L u f = ((nm, va, nx, Ms), q)) : Ms.length ≤ 60 := by
  unfold faM at hfa
  split at hfa
  · split at hfa
    · rename_i hk hq
      obtain ⟨hst, hsu, hsf⟩ := ask_zero2 hk
      obtain ⟨S, hS, _, _⟩ := take_all hst (word_slash hsu)
      obtain ⟨hw, g, hl⟩ := known_zero hst (word_slash hsu) (word_slash hsf) hS hq
      rw [hS] at hfa
      have h1 : ((faG (lookF f S.fs), (0 : Int)) : (ByteArray × Int × Int × List MMl) × Int) = ((nm, va, nx, Ms), q) := hfa
      rw [hl] at h1
      have h2 : (g.name, g.val, g.next, g.mails) = (nm, va, nx, Ms) := congrArg Prod.fst h1
      injection h2 with _ h2
      injection h2 with _ h2
      injection h2 with _ h2
      have h3 := (store_sub hst hS g (lookF_mem hl).1).length_le
      rw [List.length_map, h2] at h3
      have h4 := (store_facts hst).1.1
      omega
    · have h2 := congrArg (fun x : (ByteArray × Int × Int × List MMl) × Int => x.1.2.2.2) hfa
      have h3 : [] = Ms := h2
      rw [← h3]
      simp
  · have h2 := congrArg (fun x : (ByteArray × Int × Int × List MMl) × Int => x.1.2.2.2) hfa
    have h3 : [] = Ms := h2
    rw [← h3]
    simp
theorem pass_known {k : Nat} {L : List PM} {u : ByteArray} (h : Drawn k L) (hu : u = annT ∨ u = bobT) : ∃ T, passM L u = (T, 0) := by
  obtain ⟨hsu, _⟩ := h.desk hu
  have h1 := (h.us u (word_slash hsu)).2 hu
  obtain ⟨v, hv⟩ := Option.isSome_iff_exists.1 h1
  refine ⟨v, ?_⟩
  unfold passM
  rw [ask_ok h.st (by simp [hsu]), if_pos rfl, hv]
  rfl
def cntF (l : List ByteArray) : Nat := (l.filter fun x => decide (x = freshT)).length
theorem cnt_zero : ∀ {l : List ByteArray}, freshT ∉ l → cntF l = 0
  | [], _ => rfl
  | x :: l, h => by
    unfold cntF
    rw [List.filter_cons_of_neg (by simp; intro e; exact h (by rw [e]; exact List.mem_cons_self))]
    exact cnt_zero fun h9 => h (List.mem_cons_of_mem _ h9)
theorem cnt_one : ∀ {l : List ByteArray}, l.Nodup → freshT ∈ l → cntF l = 1
  | [], _, h => by cases h
  | x :: l, hn, h => by
    obtain ⟨h1, h2⟩ := List.nodup_cons.1 hn
    unfold cntF
    by_cases e : x = freshT
    · rw [List.filter_cons_of_pos (by simp [e])]
      have := cnt_zero (l := l) (by rw [← e]; exact h1)
      unfold cntF at this
      rw [List.length_cons, this]
    · rw [List.filter_cons_of_neg (by simp [e])]
      exact cnt_one h2 (by
        rcases List.mem_cons.1 h with h9 | h9
        · exact absurd h9.symm e
        · exact h9)
theorem cnt_step {l : List ByteArray} {j : Nat} (hj : j < l.length) : cntF (l.take (j + 1)) = cntF (l.take j) + if l.getD j e0 = freshT then 1 else 0 := by
  have e : l.take (j + 1) = l.take j ++ [l.getD j e0] := by
    rw [List.take_add_one, List.getD_eq_getElem?_getD, List.getElem?_eq_getElem hj]
    rfl
  rw [e]
  unfold cntF
  rw [List.filter_append, List.length_append]
  congr 1
  by_cases h : l.getD j e0 = freshT
  · rw [if_pos h, List.filter_cons_of_pos (by show decide (l.getD j e0 = freshT) = true; exact decide_eq_true h)]
    rfl
  · rw [if_neg h, List.filter_cons_of_neg (by show ¬ decide (l.getD j e0 = freshT) = true; rw [decide_eq_false h]; decide)]
    rfl
theorem cnt_le (l : List ByteArray) : cntF l ≤ l.length := List.length_filter_le _ _
set_option maxHeartbeats 16000000 in
theorem foldersWalk (a : Option Addr) (c : Nat) (C : List Nat) (ma : Option Addr) (mc : Nat) (M : List Nat) (w : World) (h : Src w a (cellsB C)) (hC9 : C.length ≤ maxLen) (hlt : ∀ x ∈ C, x < 256) (hm : Src w ma (cellsB M)) (hM9 : M.length ≤ maxLen) (hmt : ∀ x ∈ M, x < 256) (hG : Gl w) (h8 : 8 ≤ w.heap.size) :
    Calls Tryz.prog 4 #[.slice a C.length c, .slice ma M.length mc] w fun e w' => e = .returned (.bool true) ∧ Below w.heap.size w w' := by
  unfold maxLen at hC9 hM9
  obtain ⟨n, hn⟩ : ∃ n, C.length = n := ⟨_, rfl⟩
  obtain ⟨m, hm9⟩ : ∃ m, M.length = m := ⟨_, rfl⟩
  have HN : Hid (C.length = n ∧ (∀ x ∈ C, x < 256) ∧ Src w a (cellsB C)) := ⟨hn, hlt, h⟩
  have HM : Hid (M.length = m ∧ (∀ x ∈ M, x < 256) ∧ Src w ma (cellsB M)) := ⟨hm9, hmt, hm⟩
  have HG : Hid (Gl w) := hG
  rw [hn] at hC9
  rw [hm9] at hM9
  rw [hn, hm9]
  clear hlt h hn hG hmt hm hm9
  by_cases t1 : (1048576 : Int) < (n : Int)
  · go_enter Tryz.func4, Tryz.ntmps4
    go_wp2_with fail
    go_ret
    exact ⟨rfl, Below.refl _ _⟩
  by_cases t2 : (1048576 : Int) < (m : Int)
  · go_enter Tryz.func4, Tryz.ntmps4
    go_wp2_with fail
    go_ret
    exact ⟨rfl, Below.refl _ _⟩
  have n20 : n ≤ 1048576 := by omega
  have m20 : m ≤ 1048576 := by omega
  go_enter Tryz.func4, Tryz.ntmps4
  go_wp2_with fail
  refine (specMailsOf a n c C w HN.out.1 n20 HN.out.2.1 HN.out.2.2).mono ?_
  rintro e w1 ⟨v, L, rfl, ⟨k, hk, hD⟩, ho1, hb1⟩
  obtain ⟨a1, l1, c1, rfl, hA1⟩ := At.own ho1
  have A1 : Hid (At w1 a1 L l1 c1) := hA1
  have B1 : Hid (Below w.heap.size w w1) := hb1
  have HD : Hid (Drawn k L ∧ k ≤ 900) := ⟨hD, by omega⟩
  clear hb1 ho1 hA1 hD hk
  go_wp2_with fail
  refine (specUserOf ma m mc M w1 HM.out.1 m20 HM.out.2.1 (HM.out.2.2.below B1.out)).mono ?_
  rintro e w2 ⟨u, rfl, hu, hb2⟩
  have A2 : Hid (At w2 a1 L l1 c1) := A1.out.below hb2
  have B2 : Hid (Below w.heap.size w w2) := B1.out.trans (hb2.mono B1.out.size)
  have HU : Hid (u = annT ∨ u = bobT) := hu
  clear hb2 hu A1
  have hu8 := short_size' (HD.out.1.desk HU.out).1
  have HZ : Hid (L.length ≤ 60 ∧ ∀ x ∈ L, x.1.size ≤ 1048576 ∧ x.2.size ≤ 1048576) := store_small HD.out.1.st
  have hl60 : l1 ≤ 60 := A2.out.le HD.out.1.st
  obtain ⟨R, q, hR⟩ : ∃ R q, mkR L u freshT = (R, q) := ⟨_, _, rfl⟩
  obtain ⟨hbox, hcase⟩ := folder_made HD.out.2 HD.out.1 HU.out hR
  have HI : Hid (lawM2 (dropR L u inboxT) (askM L [u, inboxT]) = (L, 11)) := hbox
  have HA : Hid ((q = 7 ∧ R = L) ∨ (q = 0 ∧ Made L R u)) := hcase
  have HQ : Hid (lawM2 (mkR L u freshT) (askM L [u, freshT]) = (R, q)) := by show _ = _; rw [law2 HD.out.1.st (HD.out.1.desk HU.out).1 fresh_short, hR]
  have HRS : Hid (storeB R = true) := by
    rcases hcase with ⟨_, rfl⟩ | ⟨_, hA⟩
    · exact HD.out.1.st
    · exact hA.st
  obtain ⟨T, hT⟩ := pass_known HD.out.1 HU.out
  have HT : Hid (passM L u = (T, 0)) := hT
  have HZR : Hid (R.length ≤ 60 ∧ ∀ x ∈ R, x.1.size ≤ 1048576 ∧ x.2.size ≤ 1048576) := store_small HRS.out
  clear hR hbox hcase hT
  go_wp2_with fail
  refine (implMakeFolder a1 l1 c1 L u freshT w2 A2.out.1 (by omega) HZ.out.2 A2.out.2.2.2 (by omega) (by decide) (HG.out.below h8 B2.out) (by have := B2.out.size; omega) R q HQ).mono ?_
  rintro e w3 ⟨v3, rfl, ho3, hb3⟩
  obtain ⟨a3, l3, c3, rfl, hA3⟩ := At.own ho3
  have A3 : Hid (At w3 a1 L l1 c1 ∧ At w3 a3 R l3 c3) := ⟨A2.out.below hb3, hA3⟩
  have B3 : Hid (Below w.heap.size w w3) := B2.out.trans (hb3.mono B2.out.size)
  have hl3 : l3 ≤ 60 := hA3.le HRS.out
  clear hb3 ho3 hA3 A2
  go_wp2_with fail
  refine (specMakeFolder a1 l1 c1 L u freshT w3 A3.out.1.1 (by omega) A3.out.1.2.1 A3.out.1.2.2.1 HZ.out.2 A3.out.1.2.2.2 (by omega) (by decide) R q HQ).mono ?_
  rintro e w4 ⟨v4, rfl, ho4, hb4⟩
  obtain ⟨a4, l4, c4, rfl, hA4⟩ := At.own ho4
  obtain rfl : l4 = l3 := by rw [← hA4.1, ← A3.out.2.1]
  have A4 : Hid (At w4 a1 L l1 c1 ∧ At w4 a3 R l4 c3 ∧ At w4 a4 R l4 c4) := ⟨A3.out.1.below hb4, A3.out.2.below hb4, hA4⟩
  have B4 : Hid (Below w.heap.size w w4) := B3.out.trans (hb4.mono B3.out.size)
  have CS := samePairsM a3 a4 l4 c3 c4 R w4 A4.out.2.1.1 (by omega) A4.out.2.1.2.2.2 A4.out.2.2.2.2.2
  clear hb4 ho4 hA4 A3 HQ
  rcases HA.out with ⟨rfl, _⟩ | ⟨rfl, hMd⟩
  · clear HA
    go_wp2_with fail
    refine CS.mono ?_
    rintro e w5 ⟨rfl, hb5⟩
    have B5 : Hid (Below w.heap.size w w5) := B4.out.trans (hb5.mono B4.out.size)
    clear hb5 CS
    go_wp2_with fail
    go_ret
    exact ⟨rfl, B5.out⟩
  have MD : Hid (Made L R u) := hMd
  clear HA hMd
  go_wp2_with fail
  refine CS.mono ?_
  rintro e w5 ⟨rfl, hb5⟩
  have A5 : Hid (At w5 a1 L l1 c1 ∧ At w5 a3 R l4 c3) := ⟨A4.out.1.below hb5, A4.out.2.1.below hb5⟩
  have B5 : Hid (Below w.heap.size w w5) := B4.out.trans (hb5.mono B4.out.size)
  clear hb5 CS A4
  go_wp2_with fail
  refine (implFolderAt a3 l4 c3 R u freshT w5 A5.out.2.1 (by omega) HZR.out.2 A5.out.2.2.2.2 (by omega) (by decide) (HG.out.below h8 B5.out) (by have := B5.out.size; omega)).mono ?_
  rintro e w6 ⟨nm, va, nx, a6, n6, c6, Ms, q6, rfl, hfa, hMs, _, hb6⟩
  rw [MD.out.fa] at hfa
  injection hfa with hfa hq6
  injection hfa with e1 hfa
  injection hfa with e2 hfa
  injection hfa with e3 e4
  subst e4 hq6 e3 e1
  have HVA : Hid (nextM L = va) := e2
  obtain rfl : 0 = n6 := hMs
  obtain ⟨w7, hw7⟩ : ∃ W, w6.alloc (.cells #[.string freshT, .int .i64 va, .int .i64 1, .slice a6 0 c6] 28) = W := ⟨_, rfl⟩
  have hb7 : Below w6.heap.size w6 w7 := by rw [← hw7]; exact (Below.refl _ _).alloc (Nat.le_refl _) _
  have X7 : Hid (Box w7 w6.heap.size [.string freshT, .int .i64 va, .int .i64 1, .slice a6 0 c6]) := by show Box _ _ _; rw [← hw7]; exact Box.new rfl
  have A7 : Hid (At w7 a1 L l1 c1 ∧ At w7 a3 R l4 c3) := ⟨(A5.out.1.below hb6).below hb7, (A5.out.2.below hb6).below hb7⟩
  have B7 : Hid (Below w.heap.size w w7) := (B5.out.trans (hb6.mono B5.out.size)).trans (hb7.mono (B5.out.trans (hb6.mono B5.out.size)).size)
  obtain ⟨ns, hns⟩ : ∃ ns, listS R u = ns := ⟨_, rfl⟩
  have HNS : Hid (flM R u = (ns, 0) ∧ ns.Nodup ∧ freshT ∈ ns) := by
    obtain ⟨z1, z2, z3, z4⟩ := MD.out.nms
    rw [hns] at z1 z2 z4
    exact ⟨z1, z2, z4⟩
  have HEA : Hid (∀ nm ∈ ns, nm.size ≤ 8 ∧ ∃ va' nx Ms, faM R u nm = ((nm, va', nx, Ms), 0) ∧ (nm ≠ freshT → va' < va)) := by
    show ∀ nm ∈ ns, _
    rw [← hns, ← HVA.out]
    exact MD.out.each
  obtain ⟨nn, hnn⟩ : ∃ nn, ns.length = nn := ⟨_, rfl⟩
  have hnn60 : nn ≤ 60 := by rw [← hnn, ← hns]; exact MD.out.nms.2.2.1
  have HNN : Hid (ns.length = nn) := hnn
  have CL := implListFolders a3 l4 c3 R u w7 A7.out.2.1 (by omega) HZR.out.2 A7.out.2.2.2.2 (by omega) (HG.out.below h8 B7.out) (by have := B7.out.size; omega) ns 0 HNS.out.1
  rw [hnn] at CL
  clear hb6 hb7 A5 e2 hns hnn
  go_wp2_with fail
  refine CL.mono ?_
  rintro e w8 ⟨v8, rfl, ho8, hb8⟩
  obtain ⟨a8, c8, rfl, hs8, _⟩ := own_src ho8
  have N8 : Hid (Src w8 a8 (cellsS ns)) := hs8
  have A8 : Hid (At w8 a1 L l1 c1 ∧ At w8 a3 R l4 c3) := ⟨A7.out.1.below hb8, A7.out.2.below hb8⟩
  have X8 : Hid (Box w8 w6.heap.size [.string freshT, .int .i64 va, .int .i64 1, .slice a6 0 c6]) := Box.below X7.out hb8
  have B8 : Hid (Below w.heap.size w w8) := B7.out.trans (hb8.mono B7.out.size)
  obtain ⟨G, K, vb, hGst, hKst, hd1, hd2, hd3, hd4, hd5⟩ := MD.out.gone
  have HGK : Hid (storeB G = true ∧ storeB K = true ∧ lawM2 (dropR R u freshT) (askM R [u, freshT]) = (G, 0) ∧ lawM2 (dropR G u freshT) (askM G [u, freshT]) = (G, 16) ∧ lawM2 (mkR G u freshT) (askM G [u, freshT]) = (K, 0) ∧ faM K u freshT = ((freshT, vb, 1, []), 0)) := ⟨hGst, hKst, hd1, hd2, hd3, hd4⟩
  have hvb : va < vb := by rw [← HVA.out]; exact hd5
  have HZG : Hid (G.length ≤ 60 ∧ ∀ x ∈ G, x.1.size ≤ 1048576 ∧ x.2.size ≤ 1048576) := store_small hGst
  have HZK : Hid (K.length ≤ 60 ∧ ∀ x ∈ K, x.1.size ≤ 1048576 ∧ x.2.size ≤ 1048576) := store_small hKst
  have CT := implMakeFolder a3 l4 c3 R u freshT w8 A8.out.2.1 (by omega) HZR.out.2 A8.out.2.2.2.2 (by omega) (by decide) (HG.out.below h8 B8.out) (by have := B8.out.size; omega) R 9 MD.out.tw
  clear hb8 ho8 hs8 CL A7 X7 hw7 hGst hKst hd1 hd2 hd3 hd4 hd5
  go_wp2_with fail
  refine CT.mono ?_
  rintro e w9 ⟨v9, rfl, _, hb9⟩
  have N9 : Hid (Src w9 a8 (cellsS ns)) := N8.out.below hb9
  have A9 : Hid (At w9 a1 L l1 c1 ∧ At w9 a3 R l4 c3) := ⟨A8.out.1.below hb9, A8.out.2.below hb9⟩
  have X9 : Hid (Box w9 w6.heap.size [.string freshT, .int .i64 va, .int .i64 1, .slice a6 0 c6]) := Box.below X8.out hb9
  have B9 : Hid (Below w.heap.size w w9) := B8.out.trans (hb9.mono B8.out.size)
  have CD := implDropFolder a3 l4 c3 R u freshT w9 A9.out.2.1 (by omega) HZR.out.2 A9.out.2.2.2.2 (by omega) (by decide) (HG.out.below h8 B9.out) (by have := B9.out.size; omega) G 0 HGK.out.2.2.1
  clear hb9 CT A8 X8 N8
  go_wp2_with fail
  refine CD.mono ?_
  rintro e w10 ⟨v10, rfl, ho10, hb10⟩
  obtain ⟨a10, l10, c10, rfl, hA10⟩ := At.own ho10
  have hl10 : l10 ≤ 60 := hA10.le HGK.out.1
  have N10 : Hid (Src w10 a8 (cellsS ns)) := N9.out.below hb10
  have A10 : Hid (At w10 a1 L l1 c1 ∧ At w10 a3 R l4 c3 ∧ At w10 a10 G l10 c10) := ⟨A9.out.1.below hb10, A9.out.2.below hb10, hA10⟩
  have X10 : Hid (Box w10 w6.heap.size [.string freshT, .int .i64 va, .int .i64 1, .slice a6 0 c6]) := Box.below X9.out hb10
  have B10 : Hid (Below w.heap.size w w10) := B9.out.trans (hb10.mono B9.out.size)
  have CE := implDropFolder a10 l10 c10 G u freshT w10 A10.out.2.2.1 (by omega) HZG.out.2 A10.out.2.2.2.2.2 (by omega) (by decide) (HG.out.below h8 B10.out) (by have := B10.out.size; omega) G 16 HGK.out.2.2.2.1
  clear hb10 ho10 hA10 CD A9 X9 N9
  go_wp2_with fail
  refine CE.mono ?_
  rintro e w11 ⟨v11, rfl, _, hb11⟩
  have N11 : Hid (Src w11 a8 (cellsS ns)) := N10.out.below hb11
  have A11 : Hid (At w11 a1 L l1 c1 ∧ At w11 a3 R l4 c3 ∧ At w11 a10 G l10 c10) := ⟨A10.out.1.below hb11, A10.out.2.1.below hb11, A10.out.2.2.below hb11⟩
  have X11 : Hid (Box w11 w6.heap.size [.string freshT, .int .i64 va, .int .i64 1, .slice a6 0 c6]) := Box.below X10.out hb11
  have B11 : Hid (Below w.heap.size w w11) := B10.out.trans (hb11.mono B10.out.size)
  have CF := implDropFolder a1 l1 c1 L u inboxT w11 A11.out.1.1 (by omega) HZ.out.2 A11.out.1.2.2.2 (by omega) (by decide) (HG.out.below h8 B11.out) (by have := B11.out.size; omega) L 11 HI.out
  clear hb11 CE A10 X10 N10
  go_wp2_with fail
  refine CF.mono ?_
  rintro e w12 ⟨v12, rfl, _, hb12⟩
  have N12 : Hid (Src w12 a8 (cellsS ns)) := N11.out.below hb12
  have A12 : Hid (At w12 a1 L l1 c1 ∧ At w12 a3 R l4 c3 ∧ At w12 a10 G l10 c10) := ⟨A11.out.1.below hb12, A11.out.2.1.below hb12, A11.out.2.2.below hb12⟩
  have X12 : Hid (Box w12 w6.heap.size [.string freshT, .int .i64 va, .int .i64 1, .slice a6 0 c6]) := Box.below X11.out hb12
  have B12 : Hid (Below w.heap.size w w12) := B11.out.trans (hb12.mono B11.out.size)
  have CP := implUserPass a1 l1 c1 L u w12 A12.out.1.1 (by omega) HZ.out.2 A12.out.1.2.2.2 (by omega) (HG.out.below h8 B12.out) (by have := B12.out.size; omega) T 0 HT.out
  clear hb12 CF A11 X11 N11
  go_wp2_with fail
  refine CP.mono ?_
  rintro e w13 ⟨rfl, hb13⟩
  have N13 : Hid (Src w13 a8 (cellsS ns)) := N12.out.below hb13
  have A13 : Hid (At w13 a1 L l1 c1 ∧ At w13 a3 R l4 c3 ∧ At w13 a10 G l10 c10) := ⟨A12.out.1.below hb13, A12.out.2.1.below hb13, A12.out.2.2.below hb13⟩
  have X13 : Hid (Box w13 w6.heap.size [.string freshT, .int .i64 va, .int .i64 1, .slice a6 0 c6]) := Box.below X12.out hb13
  have B13 : Hid (Below w.heap.size w w13) := B12.out.trans (hb13.mono B12.out.size)
  have CO := specUserPass a1 l1 c1 L u w13 A13.out.1.1 (by omega) HZ.out.2 A13.out.1.2.2.2 (by omega) T 0 HT.out
  clear hb13 CP A12 X12 N12
  go_wp2_with fail
  refine CO.mono ?_
  rintro e w14 ⟨rfl, hb14⟩
  have N14 : Hid (Src w14 a8 (cellsS ns)) := N13.out.below hb14
  have A14 : Hid (At w14 a3 R l4 c3 ∧ At w14 a10 G l10 c10) := ⟨A13.out.2.1.below hb14, A13.out.2.2.below hb14⟩
  have X14 : Hid (Box w14 w6.heap.size [.string freshT, .int .i64 va, .int .i64 1, .slice a6 0 c6]) := Box.below X13.out hb14
  have B14 : Hid (Below w.heap.size w w14) := B13.out.trans (hb14.mono B13.out.size)
  have CK := implMakeFolder a10 l10 c10 G u freshT w14 A14.out.2.1 (by omega) HZG.out.2 A14.out.2.2.2.2 (by omega) (by decide) (HG.out.below h8 B14.out) (by have := B14.out.size; omega) K 0 HGK.out.2.2.2.2.1
  clear hb14 CO A13 X13 N13
  go_wp2_with fail
  refine CK.mono ?_
  rintro e w15 ⟨v15, rfl, ho15, hb15⟩
  obtain ⟨a15, l15, c15, rfl, hA15⟩ := At.own ho15
  have hl15 : l15 ≤ 60 := hA15.le HGK.out.2.1
  have N15 : Hid (Src w15 a8 (cellsS ns)) := N14.out.below hb15
  have A15 : Hid (At w15 a3 R l4 c3 ∧ At w15 a10 G l10 c10 ∧ At w15 a15 K l15 c15) := ⟨A14.out.1.below hb15, A14.out.2.below hb15, hA15⟩
  have X15 : Hid (Box w15 w6.heap.size [.string freshT, .int .i64 va, .int .i64 1, .slice a6 0 c6]) := Box.below X14.out hb15
  have B15 : Hid (Below w.heap.size w w15) := B14.out.trans (hb15.mono B14.out.size)
  have CA := implFolderAt a15 l15 c15 K u freshT w15 A15.out.2.2.1 (by omega) HZK.out.2 A15.out.2.2.2.2.2 (by omega) (by decide) (HG.out.below h8 B15.out) (by have := B15.out.size; omega)
  clear hb15 ho15 hA15 CK A14 X14 N14
  go_wp2_with fail
  refine CA.mono ?_
  rintro e w16 ⟨nm, vz, nx, a16, n16, c16, Ms, q16, rfl, hfa, hMs, _, hb16⟩
  rw [HGK.out.2.2.2.2.2] at hfa
  injection hfa with hfa hq6
  injection hfa with e1 hfa
  injection hfa with e2 hfa
  injection hfa with e3 e4
  subst e4 hq6 e3 e1 e2
  obtain rfl : 0 = n16 := hMs
  obtain ⟨w17, hw17⟩ : ∃ W, w16.alloc (.cells #[.string freshT, .int .i64 vb, .int .i64 1, .slice a16 0 c16] 28) = W := ⟨_, rfl⟩
  have hb17 : Below w16.heap.size w16 w17 := by rw [← hw17]; exact (Below.refl _ _).alloc (Nat.le_refl _) _
  have Y17 : Hid (Box w17 w16.heap.size [.string freshT, .int .i64 vb, .int .i64 1, .slice a16 0 c16]) := by show Box _ _ _; rw [← hw17]; exact Box.new rfl
  have N17 : Hid (Src w17 a8 (cellsS ns)) := (N15.out.below hb16).below hb17
  have A17 : Hid (At w17 a3 R l4 c3 ∧ At w17 a10 G l10 c10) := ⟨(A15.out.1.below hb16).below hb17, (A15.out.2.1.below hb16).below hb17⟩
  have X17 : Hid (Box w17 w6.heap.size [.string freshT, .int .i64 va, .int .i64 1, .slice a6 0 c6]) := Box.below (Box.below X15.out hb16) hb17
  have B17 : Hid (Below w.heap.size w w17) := (B15.out.trans (hb16.mono B15.out.size)).trans (hb17.mono (B15.out.trans (hb16.mono B15.out.size)).size)
  obtain ⟨p1, _⟩ := X17.out 1 _ rfl
  obtain ⟨p2, _⟩ := X17.out 2 _ rfl
  obtain ⟨p3, _⟩ := X17.out 3 _ rfl
  obtain ⟨r1, _⟩ := Y17.out 1 _ rfl
  clear hb16 hb17 CA A15 X15 N15
  go_wp2_with fail
  go_loopw [31, 32] (fun fv iv wr => ∃ j : Nat, j ≤ nn ∧ fv = .int .i64 (cntF (ns.take j) : Int) ∧ iv = .int .i64 (j : Int) ∧ Hid (Below w17.heap.size w17 wr)) (fun _ i _ => nn - (RowKit.intOf i).toNat)
  case atStart => exact ⟨0, by omega, rfl, rfl, Below.refl _ _⟩
  case round =>
    obtain ⟨j, hj, rfl, rfl, hbr⟩ := hrel
    have B18 : Hid (Below w.heap.size w wr) := B17.out.trans (hbr.out.mono B17.out.size)
    have hcl := cnt_le (ns.take j)
    have hcl2 := List.length_take_le j ns
    by_cases hlt : j < nn
    · have hlti : (j : Int) < (nn : Int) := by omega
      have hj0 : (0 : Int) ≤ (j : Int) := by omega
      obtain ⟨b8, o8, y, rfl, k0, hy⟩ := srcS (N17.out.below hbr.out) (i := j) (by rw [HNN.out]; exact hlt)
      have hym : y ∈ ns := by
        rw [← hy.out, List.getD_eq_getElem?_getD, List.getElem?_eq_getElem (by rw [HNN.out]; exact hlt)]
        exact List.getElem_mem _
      obtain ⟨hy8, va', nx', Ms', hfa', hlt'⟩ := HEA.out y hym
      have hst9 := cnt_step (l := ns) (j := j) (by rw [HNN.out]; exact hlt)
      rw [hy.out] at hst9
      have HS9 : Hid (cntF (ns.take (j + 1)) = cntF (ns.take j) + if y = freshT then 1 else 0) := hst9
      obtain ⟨cn, hcn⟩ : ∃ cn, cntF (ns.take j) = cn := ⟨_, rfl⟩
      rw [hcn] at HS9 hcl
      rw [hcn]
      have CA := implFolderAt a3 l4 c3 R u y wr (A17.out.1.below hbr.out).1 (by omega) HZR.out.2 (A17.out.1.below hbr.out).2.2.2 (by omega) (by omega) (HG.out.below h8 B18.out) (by have := B18.out.size; omega)
      have HFA : Hid (faM R u y = ((y, va', nx', Ms'), 0) ∧ (y ≠ freshT → va' < va)) := ⟨hfa', hlt'⟩
      have hcn60 : cn ≤ 60 := by omega
      clear hst9 hcn hy hfa' hlt' hym p1 p2 p3 r1 hcl hcl2
      go_wp2_with fail
      refine CA.mono ?_
      rintro e w18 ⟨nm, vz, nx, a18, n18, c18, Mz, q18, rfl, hfa, _, _, hb18⟩
      rw [HFA.out.1] at hfa
      injection hfa with hfa hq6
      injection hfa with e1 hfa
      injection hfa with e2 hfa
      injection hfa with e3 e4
      subst hq6 e1 e2
      obtain ⟨w19, hw19⟩ : ∃ W, w18.alloc (.cells #[.string y, .int .i64 va', .int .i64 nx, .slice a18 n18 c18] 28) = W := ⟨_, rfl⟩
      have hb19 : Below w18.heap.size w18 w19 := by rw [← hw19]; exact (Below.refl _ _).alloc (Nat.le_refl _) _
      have Z19 : Hid (Box w19 w18.heap.size [.string y, .int .i64 va', .int .i64 nx, .slice a18 n18 c18]) := by show Box _ _ _; rw [← hw19]; exact Box.new rfl
      have BR : Hid (Below w17.heap.size w17 w19) := (hbr.out.trans (hb18.mono hbr.out.size)).trans (hb19.mono (hbr.out.trans (hb18.mono hbr.out.size)).size)
      have X19 : Hid (Box w19 w6.heap.size [.string freshT, .int .i64 va, .int .i64 1, .slice a6 0 c6]) := Box.below X17.out BR.out
      have k9 : w19.cell? ⟨b8, o8 + j, none⟩ = some (.string y) := cell_later hb19 (cell_later hb18 k0)
      obtain ⟨s1, _⟩ := Z19.out 1 _ rfl
      obtain ⟨p19, _⟩ := X19.out 1 _ rfl
      clear hb18 hb19 CA k0 e3 e4
      by_cases hyf : y = freshT
      · have hyb : (y.toList == [102, 114, 101, 115, 104]) = true := by rw [hyf, ByteArray.toList_eq]; rfl
        have HS8 : Hid (cntF (ns.take (j + 1)) = cn + 1) := by have h9 := HS9.out; rw [if_pos hyf] at h9; exact h9
        clear HS9 HFA
        subst hyf
        go_wp2_with fail
        exact ⟨⟨j + 1, by omega, by rw [HS8.out]; go_num, by go_num, BR.out⟩, by simp [RowKit.intOf]; omega⟩
      · have hyb : (y.toList == [102, 114, 101, 115, 104]) = false := by
          refine beq_eq_false_iff_ne.2 fun e => hyf ?_
          refine bs_inj ?_
          rw [← ByteArray.toList_eq, e]
          rfl
        have HS8 : Hid (cntF (ns.take (j + 1)) = cn) := by have h9 := HS9.out; rw [if_neg hyf] at h9; exact h9
        have hva : ¬ va ≤ va' := by have := HFA.out.2 hyf; omega
        have hva2 : va' < va := by omega
        clear HS9 HFA
        go_wp2_with fail
        exact ⟨⟨j + 1, by omega, by rw [HS8.out], by go_num, BR.out⟩, by simp [RowKit.intOf]; omega⟩
    · obtain rfl : j = nn := by omega
      have hlti : ¬ (j : Int) < (j : Int) := by omega
      have h1 : cntF (ns.take j) = 1 := by
        rw [List.take_of_length_le (by rw [HNN.out]; exact Nat.le_refl _)]
        exact cnt_one HNS.out.2.1 HNS.out.2.2
      rw [h1]
      have CM := implMailStoreOK a10 l10 c10 G wr (A17.out.2.below hbr.out).1 (by omega) HZG.out.2 (A17.out.2.below hbr.out).2.2.2 (HG.out.below h8 B18.out) (by have := B18.out.size; omega) true (by show implB G = true; rw [impl_store, HGK.out.1])
      clear p1 p2 p3 r1 hcl hcl2 h1
      go_wp2_with fail
      refine CM.mono ?_
      rintro e w18 ⟨rfl, hb18⟩
      have B19 : Hid (Below w.heap.size w w18) := B18.out.trans (hb18.mono B18.out.size)
      clear hb18 CM
      go_wp2_with fail
      go_ret
      exact ⟨rfl, B19.out⟩
end Go.Proofs.YtddnecljdecamaaGreatDoor
