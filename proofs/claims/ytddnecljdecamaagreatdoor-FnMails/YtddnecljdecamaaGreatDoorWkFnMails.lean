
/-
  The walk of the law FnMails. By an AI agent.
-/
import Derived.Test.YtddnecljdecamaaGreatDoorQ37
import Derived.Test.YtddnecljdecamaaGreatDoorQ36
import Derived.Test.YtddnecljdecamaaGreatDoorQ27
namespace Go.Proofs.YtddnecljdecamaaGreatDoor
open Go.ChangeShapes Go.WideShapes Go.ChangeAt Go.RowKit Go.Deep Go.Lib
set_option linter.unusedVariables false
set_option linter.unusedSimpArgs false
set_option maxRecDepth 100000

theorem store_small {L : List PM} (h : storeB L = true) : L.length ≤ 60 ∧ ∀ x ∈ L, x.1.size ≤ 1048576 ∧ x.2.size ≤ 1048576 := by
  have hg := (store_facts h).1
  exact ⟨hg.1, fun x hx => by have := hg.2.1 x hx; omega⟩
/-- A list that lies somewhere. -/
def At (w : World) (a : Option Addr) (L : List PM) (n c : Nat) : Prop := L.length = n ∧ n ≤ c ∧ c ≤ maxLen ∧ Src w a (cellsP L)
theorem At.below {w w' : World} {a : Option Addr} {L : List PM} {n c : Nat} (h : At w a L n c) (hb : Below w.heap.size w w') : At w' a L n c := ⟨h.1, h.2.1, h.2.2.1, h.2.2.2.below hb⟩
theorem At.own {w : World} {v : Value} {L : List PM} {base : Nat} (h : w.ownsRow base 68 2 v L.length (cellsP L)) : ∃ a n c, v = .slice a n c ∧ At w a L n c := by
  obtain ⟨a, c, rfl, hs, _⟩ := own_src h
  exact ⟨a, _, c, rfl, rfl, (own_capx h).1, (own_capx h).2, hs⟩
theorem At.le {w : World} {a : Option Addr} {L : List PM} {n c : Nat} (h : At w a L n c) (hs : storeB L = true) : n ≤ 60 := by
  have h1 := (store_small hs).1
  rw [h.1] at h1
  exact h1
theorem own_ml {w : World} {base n c : Nat} {a : Option Addr} {Ms : List MMl} (h : w.ownsRow base 36 3 (.slice a n c) n (cellsMl Ms)) : Src w a (cellsMl Ms) := by
  obtain ⟨a9, c9, e9, hs9, _⟩ := own_src h
  cases e9
  exact hs9
theorem fa_len {L : List PM} {u f : ByteArray} {va nx q : Int} {Ms : List MMl} {nm : ByteArray} (h : storeB L = true) (hfa : faM L u f = ((nm, va, nx, Ms), q)) : Ms.length ≤ 60 := by
  unfold faM at hfa
  split at hfa
  · split at hfa
    · rename_i hk hq
      obtain ⟨hst, hsu, hsf⟩ := ask_zero2 hk
      obtain ⟨S, hS, _, _⟩ := take_all hst (word_slash hsu)
      obtain ⟨hw, g, hl⟩ := known_zero hst (word_slash hsu) (word_slash hsf) hS hq
      rw [hS] at hfa
      have h1 : ((faG (lookF f S.fs), (0 : Int)) : (ByteArray × Int × Int × List MMl) × Int) = ((nm, va, nx, Ms), q) := hfa
      rw [hl] at h1
      have h2 : (g.name, g.val, g.next, g.mails) = (nm, va, nx, Ms) := congrArg Prod.fst h1
      injection h2 with _ h2
      injection h2 with _ h2
      injection h2 with _ h2
      have h3 := (store_sub hst hS g (lookF_mem hl).1).length_le
      rw [List.length_map, h2] at h3
      have h4 := (store_facts hst).1.1
      omega
    · have h2 := congrArg (fun x : (ByteArray × Int × Int × List MMl) × Int => x.1.2.2.2) hfa
      have h3 : [] = Ms := h2
      rw [← h3]
      simp
  · have h2 := congrArg (fun x : (ByteArray × Int × Int × List MMl) × Int => x.1.2.2.2) hfa
    have h3 : [] = Ms := h2
    rw [← h3]
    simp
set_option maxHeartbeats 16000000 in
theorem mailsWalk (a : Option Addr) (c : Nat) (C : List Nat) (ma : Option Addr) (mc : Nat) (M : List Nat) (w : World) (h : Src w a (cellsB C)) (hC9 : C.length ≤ maxLen) (hlt : ∀ x ∈ C, x < 256) (hm : Src w ma (cellsB M)) (hM9 : M.length ≤ maxLen) (hmt : ∀ x ∈ M, x < 256) (hG : Gl w) (h8 : 8 ≤ w.heap.size) :
    Calls Tryz.prog 3 #[.slice a C.length c, .slice ma M.length mc] w fun e w' => e = .returned (.bool true) ∧ Below w.heap.size w w' := by
  unfold maxLen at hC9 hM9
  obtain ⟨n, hn⟩ : ∃ n, C.length = n := ⟨_, rfl⟩
  obtain ⟨m, hm9⟩ : ∃ m, M.length = m := ⟨_, rfl⟩
  have HN : Hid (C.length = n ∧ (∀ x ∈ C, x < 256) ∧ Src w a (cellsB C)) := ⟨hn, hlt, h⟩
  have HM : Hid (M.length = m ∧ (∀ x ∈ M, x < 256) ∧ Src w ma (cellsB M)) := ⟨hm9, hmt, hm⟩
  have HG : Hid (Gl w) := hG
  rw [hn] at hC9
  rw [hm9] at hM9
  rw [hn, hm9]
  clear hlt h hn hG hmt hm hm9
  by_cases t1 : (1048576 : Int) < (n : Int)
  · go_enter Tryz.func3, Tryz.ntmps3
    go_wp2_with fail
    go_ret
    exact ⟨rfl, Below.refl _ _⟩
  by_cases t2 : (1048576 : Int) < (m : Int)
  · go_enter Tryz.func3, Tryz.ntmps3
    go_wp2_with fail
    go_ret
    exact ⟨rfl, Below.refl _ _⟩
  have n20 : n ≤ 1048576 := by omega
  have m20 : m ≤ 1048576 := by omega
  go_enter Tryz.func3, Tryz.ntmps3
  go_wp2_with fail
  refine (specMailsOf a n c C w HN.out.1 n20 HN.out.2.1 HN.out.2.2).mono ?_
  rintro e w1 ⟨v, L, rfl, ⟨k, hk, hD⟩, ho1, hb1⟩
  obtain ⟨a1, l1, c1, rfl, hA1⟩ := At.own ho1
  have A1 : Hid (At w1 a1 L l1 c1) := hA1
  have B1 : Hid (Below w.heap.size w w1) := hb1
  have HD : Hid (Drawn k L ∧ k ≤ 900) := ⟨hD, by omega⟩
  clear hb1 ho1 hA1 hD hk
  go_wp2_with fail
  refine (specUserOf ma m mc M w1 HM.out.1 m20 HM.out.2.1 (HM.out.2.2.below B1.out)).mono ?_
  rintro e w2 ⟨u, rfl, hu, hb2⟩
  have A2 : Hid (At w2 a1 L l1 c1) := A1.out.below hb2
  have B2 : Hid (Below w.heap.size w w2) := B1.out.trans (hb2.mono B1.out.size)
  have HU : Hid (u = annT ∨ u = bobT) := hu
  clear hb2 hu A1
  go_wp2_with fail
  refine (specFolderOf ma m mc M w2 HM.out.1 m20 HM.out.2.1 (HM.out.2.2.below B2.out)).mono ?_
  rintro e w3 ⟨f, rfl, hf, hb3⟩
  have A3 : Hid (At w3 a1 L l1 c1) := A2.out.below hb3
  have B3 : Hid (Below w.heap.size w w3) := B2.out.trans (hb3.mono B2.out.size)
  have HF : Hid (shortB f = true) := hf
  clear hb3 hf A2
  go_wp2_with fail
  refine (specTextOf ma m mc M w3 HM.out.1 m20 HM.out.2.1 (HM.out.2.2.below B3.out)).mono ?_
  rintro e w4 ⟨t, rfl, ht, hb4⟩
  have A4 : Hid (At w4 a1 L l1 c1) := A3.out.below hb4
  have B4 : Hid (Below w.heap.size w w4) := B3.out.trans (hb4.mono B3.out.size)
  have HT : Hid (t.size ≤ 85) := ht
  have HZ : Hid (L.length ≤ 60 ∧ ∀ x ∈ L, x.1.size ≤ 1048576 ∧ x.2.size ≤ 1048576) := store_small HD.out.1.st
  have hl60 : l1 ≤ 60 := A4.out.le HD.out.1.st
  have hu8 := short_size' (HD.out.1.desk HU.out).1
  have hf8 := short_size' HF.out
  clear hb4 A3
  go_wp2_with fail
  refine (implFolderAt a1 l1 c1 L u f w4 A4.out.1 (by omega) HZ.out.2 A4.out.2.2.2 (by omega) (by omega) (HG.out.below h8 B4.out) (by have := B4.out.size; omega)).mono ?_
  rintro e w5 ⟨nm, va, nx, a5, n5, c5, Ms, q5, rfl, hfa, hMs, ho5, hb5⟩
  have FA : Hid (faM L u f = ((nm, va, nx, Ms), q5)) := hfa
  have A5 : Hid (At w5 a1 L l1 c1) := A4.out.below hb5
  have B5 : Hid (Below w.heap.size w w5) := B4.out.trans (hb5.mono B4.out.size)
  have M5 : Hid (Ms.length = n5 ∧ Src w5 a5 (cellsMl Ms)) := ⟨hMs, own_ml ho5⟩
  have hn5 : n5 ≤ 60 := by rw [← hMs]; exact fa_len HD.out.1.st hfa
  obtain ⟨w6, hw6⟩ : ∃ W, w5.alloc (.cells #[.string nm, .int .i64 va, .int .i64 nx, .slice a5 n5 c5] 28) = W := ⟨_, rfl⟩
  have hb6 : Below w5.heap.size w5 w6 := by rw [← hw6]; exact (Below.refl _ _).alloc (Nat.le_refl _) _
  have X6 : Hid (Box w6 w5.heap.size [.string nm, .int .i64 va, .int .i64 nx, .slice a5 n5 c5]) := by show Box _ _ _; rw [← hw6]; exact Box.new rfl
  have A6 : Hid (At w6 a1 L l1 c1) := A5.out.below hb6
  have B6 : Hid (Below w.heap.size w w6) := B5.out.trans (hb6.mono B5.out.size)
  have M6 : Hid (Ms.length = n5 ∧ Src w6 a5 (cellsMl Ms)) := ⟨M5.out.1, M5.out.2.below hb6⟩
  obtain ⟨R, uid, cd, hR⟩ : ∃ R uid cd, appR L u f t 1 = (R, uid, cd) := ⟨_, _, _, rfl⟩
  have HI : Hid (AppIs L R u f t 1 uid cd) := app_is HD.out.2 HD.out.1 HU.out HF.out (by omega) (by omega) HT.out hR
  have HQ : Hid (amR L u f t 1 = (R, uid, cd)) := by show _ = _; rw [am_ask HD.out.1 HU.out HF.out (by omega) (by omega) HT.out, hR]
  have ht85 : t.size ≤ 85 := ht
  have CI := implAppendMail a1 l1 c1 L u f t 1 w6 A6.out.1 (by omega) HZ.out.2 A6.out.2.2.2 (by omega) (by omega) (by omega) (HG.out.below h8 B6.out) (by have := B6.out.size; omega) R uid cd HQ
  clear hb5 hb6 A4 A5 M5 ho5 hMs hfa ht hR
  go_wp2_with fail
  refine CI.mono ?_
  rintro e w7 ⟨v7, rfl, ho7, hb7⟩
  obtain ⟨a7, l7, c7, rfl, hA7⟩ := At.own ho7
  have A7 : Hid (At w7 a1 L l1 c1 ∧ At w7 a7 R l7 c7) := ⟨A6.out.below hb7, hA7⟩
  have B7 : Hid (Below w.heap.size w w7) := B6.out.trans (hb7.mono B6.out.size)
  have M7 : Hid (Ms.length = n5 ∧ Src w7 a5 (cellsMl Ms)) := ⟨M6.out.1, M6.out.2.below hb7⟩
  have X7 : Hid (Box w7 w5.heap.size [.string nm, .int .i64 va, .int .i64 nx, .slice a5 n5 c5]) := Box.below X6.out hb7
  have HZR : Hid (R.length ≤ 60 ∧ ∀ x ∈ R, x.1.size ≤ 1048576 ∧ x.2.size ≤ 1048576) := store_small HI.out.1
  have hl7 : l7 ≤ 60 := A7.out.2.le HI.out.1
  have CJ := specAppendMail a1 l1 c1 L u f t 1 w7 A7.out.1.1 (by omega) A7.out.1.2.1 A7.out.1.2.2.1 HZ.out.2 A7.out.1.2.2.2 (by omega) (by omega) (by omega) R uid cd HQ
  clear hb7 ho7 hA7 A6 M6 X6 CI hw6
  go_wp2_with fail
  refine CJ.mono ?_
  rintro e w8 ⟨v8, rfl, ho8, hb8⟩
  obtain ⟨a8, l8, c8, rfl, hA8⟩ := At.own ho8
  obtain rfl : l8 = l7 := by rw [← hA8.1, ← A7.out.2.1]
  have A8 : Hid (At w8 a1 L l1 c1 ∧ At w8 a7 R l8 c7 ∧ At w8 a8 R l8 c8) := ⟨A7.out.1.below hb8, A7.out.2.below hb8, hA8⟩
  have B8 : Hid (Below w.heap.size w w8) := B7.out.trans (hb8.mono B7.out.size)
  have M8 : Hid (Ms.length = n5 ∧ Src w8 a5 (cellsMl Ms)) := ⟨M7.out.1, M7.out.2.below hb8⟩
  have X8 : Hid (Box w8 w5.heap.size [.string nm, .int .i64 va, .int .i64 nx, .slice a5 n5 c5]) := Box.below X7.out hb8
  have CS := samePairsM a7 a8 l8 c7 c8 R w8 A8.out.2.1.1 (by omega) A8.out.2.1.2.2.2 A8.out.2.2.2.2.2
  clear hb8 ho8 hA8 A7 M7 X7 CJ HQ
  go_wp2_with fail
  refine CS.mono ?_
  rintro e w9 ⟨rfl, hb9⟩
  have A9 : Hid (At w9 a1 L l1 c1 ∧ At w9 a7 R l8 c7) := ⟨A8.out.1.below hb9, A8.out.2.1.below hb9⟩
  have B9 : Hid (Below w.heap.size w w9) := B8.out.trans (hb9.mono B8.out.size)
  have M9 : Hid (Ms.length = n5 ∧ Src w9 a5 (cellsMl Ms)) := ⟨M8.out.1, M8.out.2.below hb9⟩
  have X9 : Hid (Box w9 w5.heap.size [.string nm, .int .i64 va, .int .i64 nx, .slice a5 n5 c5]) := Box.below X8.out hb9
  have CM := implMailStoreOK a7 l8 c7 R w9 A9.out.2.1 (by omega) HZR.out.2 A9.out.2.2.2.2 (HG.out.below h8 B9.out) (by have := B9.out.size; omega) true (by show implB R = true; rw [impl_store, HI.out.1])
  clear hb9 A8 M8 X8 CS
  go_wp2_with fail
  refine CM.mono ?_
  rintro e w10 ⟨rfl, hb10⟩
  have A10 : Hid (At w10 a1 L l1 c1 ∧ At w10 a7 R l8 c7) := ⟨A9.out.1.below hb10, A9.out.2.below hb10⟩
  have B10 : Hid (Below w.heap.size w w10) := B9.out.trans (hb10.mono B9.out.size)
  have M10 : Hid (Ms.length = n5 ∧ Src w10 a5 (cellsMl Ms)) := ⟨M9.out.1, M9.out.2.below hb10⟩
  have X10 : Hid (Box w10 w5.heap.size [.string nm, .int .i64 va, .int .i64 nx, .slice a5 n5 c5]) := Box.below X9.out hb10
  clear hb10 A9 M9 X9 CM
  rcases HI.out.2 with ⟨hc0, hRL, hc⟩ | ⟨hc0, hgood⟩
  · have hci : (cd != 0) = true := by simpa using hc0
    have HC : Hid (cd = q5 ∨ cd = 12 ∨ cd = 7) := by rw [FA.out] at hc; exact hc
    have hl : l8 = l1 := by rw [← A10.out.2.1, ← A10.out.1.1, hRL]
    have A10' : Hid (At w10 a1 R l8 c1) := by show At _ _ _ _ _; rw [hRL, hl]; exact A10.out.1
    have CS := samePairsM a7 a1 l8 c7 c1 R w10 A10.out.2.1 (by omega) A10.out.2.2.2.2 A10'.out.2.2.2
    subst hl
    clear hRL hc HI
    go_wp2_with fail
    refine CS.mono ?_
    rintro e w11 ⟨rfl, hb11⟩
    have B11 : Hid (Below w.heap.size w w11) := B10.out.trans (hb11.mono B10.out.size)
    clear hb11 CS A10 A10' M10 X10
    by_cases e1 : cd = q5
    · have e1i : (cd == q5) = true := by simpa using e1
      go_wp2_with fail
      go_ret
      exact ⟨rfl, B11.out⟩
    · have e1i : (cd == q5) = false := by simpa using e1
      have hc2 : cd = 12 ∨ cd = 7 := HC.out.resolve_left e1
      clear HC hc0 hci
      rcases hc2 with rfl | rfl
      · go_wp2_with fail
        go_ret
        exact ⟨rfl, B11.out⟩
      · go_wp2_with fail
        go_ret
        exact ⟨rfl, B11.out⟩
  · subst hc0
    obtain ⟨va', nx', Ms', hfa, rfl, hx1, hx2, hfa2, hlen⟩ := hgood
    rw [FA.out] at hfa
    injection hfa with hfa hq
    injection hfa with e1 hfa
    injection hfa with e2 hfa
    injection hfa with e3 e4
    subst e1 e2 e3 e4 hq
    have FA2 : Hid (faM R u nm = ((nm, va, nx + 1, Ms ++ [(nx, 1, t)]), 0)) := hfa2
    obtain rfl : l8 = l1 + 1 := by rw [← A10.out.2.1, ← A10.out.1.1, hlen]
    have CF := implFolderAt a7 (l1 + 1) c7 R u nm w10 A10.out.2.1 (by omega) HZR.out.2 A10.out.2.2.2.2 (by omega) (by omega) (HG.out.below h8 B10.out) (by have := B10.out.size; omega)
    clear hfa2 HI hlen FA
    go_wp2_with fail
    refine CF.mono ?_
    rintro e w11 ⟨nm2, va2, nx2, a11, n11, c11, Ms2, q11, rfl, hfa, hMs, ho11, hb11⟩
    rw [FA2.out] at hfa
    injection hfa with hfa hq
    injection hfa with e1 hfa
    injection hfa with e2 hfa
    injection hfa with e3 e4
    subst e1 e2 e3 e4 hq
    obtain rfl : n11 = n5 + 1 := by rw [← hMs, ← M10.out.1, List.length_append]; rfl
    have M11 : Hid (Ms.length = n5 ∧ Src w11 a5 (cellsMl Ms) ∧ Src w11 a11 (cellsMl (Ms ++ [(nx, 1, t)]))) := ⟨M10.out.1, M10.out.2.below hb11, own_ml ho11⟩
    have B11 : Hid (Below w.heap.size w w11) := B10.out.trans (hb11.mono B10.out.size)
    have X11 : Hid (Box w11 w5.heap.size [.string nm, .int .i64 va, .int .i64 nx, .slice a5 n5 c5]) := Box.below X10.out hb11
    obtain ⟨w12, hw12⟩ : ∃ W, w11.alloc (.cells #[.string nm, .int .i64 va, .int .i64 (nx + 1), .slice a11 (n5 + 1) c11] 28) = W := ⟨_, rfl⟩
    have hb12 : Below w11.heap.size w11 w12 := by rw [← hw12]; exact (Below.refl _ _).alloc (Nat.le_refl _) _
    have Y12 : Hid (Box w12 w11.heap.size [.string nm, .int .i64 va, .int .i64 (nx + 1), .slice a11 (n5 + 1) c11]) := by show Box _ _ _; rw [← hw12]; exact Box.new rfl
    have X12 : Hid (Box w12 w5.heap.size [.string nm, .int .i64 va, .int .i64 nx, .slice a5 n5 c5]) := Box.below X11.out hb12
    have B12 : Hid (Below w.heap.size w w12) := B11.out.trans (hb12.mono B11.out.size)
    have M12 : Hid (Ms.length = n5 ∧ Src w12 a5 (cellsMl Ms) ∧ Src w12 a11 (cellsMl (Ms ++ [(nx, 1, t)]))) := ⟨M11.out.1, M11.out.2.1.below hb12, M11.out.2.2.below hb12⟩
    obtain ⟨b9, o9, x0, x1, x2, rfl, m0, m1, m2, hx⟩ := srcMl M12.out.2.2 (i := n5) (by rw [List.length_append, M12.out.1]; simp)
    have hx9 : (nx, (1 : Int), t) = (x0, x1, x2) := by
      have h9 := hx.out
      rw [List.getD_eq_getElem?_getD, List.getElem?_append_right (by rw [M12.out.1]; exact Nat.le_refl _), M12.out.1] at h9
      simpa using h9
    injection hx9 with z0 hx9
    injection hx9 with z1 z2
    subst z0 z1 z2
    obtain ⟨p1, _⟩ := X12.out 1 _ rfl
    obtain ⟨p2, _⟩ := X12.out 2 _ rfl
    obtain ⟨p3, _⟩ := X12.out 3 _ rfl
    obtain ⟨r1, _⟩ := Y12.out 1 _ rfl
    obtain ⟨r2, _⟩ := Y12.out 2 _ rfl
    obtain ⟨r3, _⟩ := Y12.out 3 _ rfl
    clear hb11 hb12 CF A10 M10 M11 X10 X11 hMs ho11 hx
    go_wp2_with fail
    go_loopw [19] (fun iv wr => ∃ j : Nat, j ≤ n5 ∧ iv = .int .i64 (j : Int) ∧ Hid (Below w12.heap.size w12 wr)) (fun i _ => n5 - (RowKit.intOf i).toNat)
    case atStart => exact ⟨0, by omega, rfl, Below.refl _ _⟩
    case round =>
      obtain ⟨j, hj, rfl, hbr⟩ := hrel
      have X13 : Hid (Box wr w5.heap.size [.string nm, .int .i64 va, .int .i64 nx, .slice a5 n5 c5]) := Box.below X12.out hbr.out
      have Y13 : Hid (Box wr w11.heap.size [.string nm, .int .i64 va, .int .i64 (nx + 1), .slice (some ⟨b9, o9, none⟩) (n5 + 1) c11]) := Box.below Y12.out hbr.out
      obtain ⟨p33, _⟩ := X13.out 3 _ rfl
      obtain ⟨r33, _⟩ := Y13.out 3 _ rfl
      have B13 : Hid (Below w.heap.size w wr) := B12.out.trans (hbr.out.mono B12.out.size)
      by_cases hlt : j < n5
      · have hlti : (j : Int) < (n5 : Int) := by omega
        have hlt2 : (j : Int) < (n5 : Int) + 1 := by omega
        have hj0 : (0 : Int) ≤ (j : Int) := by omega
        obtain ⟨b8, o8, y0, y1, y2, rfl, k0, k1, k2, hy⟩ := srcMl (M12.out.2.1.below hbr.out) (i := j) (by rw [M12.out.1]; exact hlt)
        obtain ⟨b7, o7, z0, z1, z2, ez, q0, q1, q2, hz⟩ := srcMl (M12.out.2.2.below hbr.out) (i := j) (by rw [List.length_append, M12.out.1]; simp; omega)
        cases ez
        have hz9 : (y0, y1, y2) = (z0, z1, z2) := by
          rw [← hy.out, ← hz.out, List.getD_eq_getElem?_getD, List.getD_eq_getElem?_getD, List.getElem?_append_left (by rw [M12.out.1]; exact hlt)]
        injection hz9 with e0 hz9
        injection hz9 with e1 e2
        subst e0 e1 e2
        clear hy hz m0 m1 m2 p1 p2 p3 r1 r2 r3
        go_wp2_with fail
        go_region
        all_goals go_wp2_with fail
        all_goals exact ⟨⟨j + 1, by omega, by go_num, Below.drewN' hbr.out _⟩, by simp [RowKit.intOf]; omega⟩
      · obtain rfl : j = n5 := by omega
        have hlti : ¬ (j : Int) < (j : Int) := by omega
        clear m0 m1 m2 p1 p2 p3 r1 r2 r3
        go_wp2_with fail
        go_ret
        exact ⟨rfl, B13.out⟩
end Go.Proofs.YtddnecljdecamaaGreatDoor
