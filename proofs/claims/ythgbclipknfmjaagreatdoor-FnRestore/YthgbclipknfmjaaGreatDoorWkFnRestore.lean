
/-
  The walk of the law FnRestore. By an AI agent.
-/
import Derived.Test.YthgbclipknfmjaaGreatDoorFr33
import Derived.Test.YthgbclipknfmjaaGreatDoorFr34
import Derived.Test.YthgbclipknfmjaaGreatDoorFr35
import Derived.Test.YthgbclipknfmjaaGreatDoorFr29
import Derived.BigQuiet
import Derived.Deep.QuietTactic
namespace Go.Proofs.YthgbclipknfmjaaGreatDoor
open Go.ChangeShapes Go.WideShapes Go.ChangeAt Go.RowKit Go.Deep Go.Lib
set_option linter.unusedVariables false
set_option linter.unusedSimpArgs false
set_option maxRecDepth 100000

theorem own_byte (w : World) (x : Nat) : (w.alloc (.cells #[.int .u8 ((x : Nat) : Int)] 5)).ownsRow w.heap.size 5 1 (.slice (some ⟨w.heap.size, 0, none⟩) 1 1) 1 (cellsB [x]) := ⟨rfl, .inr ⟨w.heap.size, 1, _, rfl, Nat.le_refl _, heap_alloc_new w _, Nat.le_refl _, by unfold maxLen; omega, rfl, by simp [cellsB]⟩⟩
theorem store_small {L : List PM} (h : storeB L = true) : L.length ≤ 60 ∧ ∀ x ∈ L, x.1.size ≤ 1048576 ∧ x.2.size ≤ 1048576 := by
  have hg := (store_facts h).1
  exact ⟨hg.1, fun x hx => by have := hg.2.1 x hx; omega⟩
/-- A list that lies somewhere. -/
def At (w : World) (a : Option Addr) (L : List PM) (n c : Nat) : Prop := L.length = n ∧ n ≤ c ∧ c ≤ maxLen ∧ Src w a (cellsP L)
theorem At.below {w w' : World} {a : Option Addr} {L : List PM} {n c : Nat} (h : At w a L n c) (hb : Below w.heap.size w w') : At w' a L n c := ⟨h.1, h.2.1, h.2.2.1, h.2.2.2.below hb⟩
theorem At.own {w : World} {v : Value} {L : List PM} {base : Nat} (h : w.ownsRow base 68 2 v L.length (cellsP L)) : ∃ a n c, v = .slice a n c ∧ At w a L n c := by
  obtain ⟨a, c, rfl, hs, _⟩ := own_src h
  exact ⟨a, _, c, rfl, rfl, (own_capx h).1, (own_capx h).2, hs⟩
theorem At.le {w : World} {a : Option Addr} {L : List PM} {n c : Nat} (h : At w a L n c) (hs : storeB L = true) : n ≤ 60 := by
  have h1 := (store_small hs).1
  rw [h.1] at h1
  exact h1
theorem own_ml {w : World} {base n c : Nat} {a : Option Addr} {Ms : List MMl} (h : w.ownsRow base 37 3 (.slice a n c) n (cellsMl Ms)) : Src w a (cellsMl Ms) := by
  obtain ⟨a9, c9, e9, hs9, _⟩ := own_src h
  cases e9
  exact hs9
theorem fa_len {L : List PM} {u f : ByteArray} {va nx q : Int} {Ms : List MMl} {nm : ByteArray} (h : storeB L = true) (hfa : faM L u f = ((nm, va, nx, Ms), q)) : Ms.length ≤ 60 := by
  unfold faM at hfa
  split at hfa
  · split at hfa
    · rename_i hk hq
      obtain ⟨hst, hsu, hsf⟩ := ask_zero2 hk
      obtain ⟨S, hS, _, _⟩ := take_all hst (word_slash hsu)
      obtain ⟨hw, g, hl⟩ := known_zero hst (word_slash hsu) (word_slash hsf) hS hq
      rw [hS] at hfa
      have h1 : ((faG (lookF f S.fs), (0 : Int)) : (ByteArray × Int × Int × List MMl) × Int) = ((nm, va, nx, Ms), q) := hfa
      rw [hl] at h1
      have h2 : (g.name, g.val, g.next, g.mails) = (nm, va, nx, Ms) := congrArg Prod.fst h1
      injection h2 with _ h2
      injection h2 with _ h2
      injection h2 with _ h2
      have h3 := (store_sub hst hS g (lookF_mem hl).1).length_le
      rw [List.length_map, h2] at h3
      have h4 := (store_facts hst).1.1
      omega
    · have h2 := congrArg (fun x : (ByteArray × Int × Int × List MMl) × Int => x.1.2.2.2) hfa
      have h3 : [] = Ms := h2
      rw [← h3]
      simp
  · have h2 := congrArg (fun x : (ByteArray × Int × Int × List MMl) × Int => x.1.2.2.2) hfa
    have h3 : [] = Ms := h2
    rw [← h3]
    simp
theorem str_neR {x y : ByteArray} (h : y ≠ x) : (y.toList == x.toList) = false := beq_eq_false_iff_ne.2 fun e => h (by
  rw [ByteArray.toList_eq, ByteArray.toList_eq] at e
  exact bs_inj e)
theorem name_shortR {k : Nat} {N : List PM} {v s : ByteArray} (h : Drawn k N) (hv : v = annT ∨ v = bobT) (hm : s ∈ listS N v) : s.size ≤ 8 := by
  obtain ⟨hsv, S, hS, hw, _⟩ := h.desk hv
  obtain ⟨g, _, _, hs⟩ := name_there h.st (word_slash hsv) hS hw hm
  exact short_size' hs
theorem fa_call (a : Option Addr) (n c : Nat) (L : List PM) (x y : ByteArray) (w : World) (hL : L.length = n) (hn : n ≤ 1048576) (hs : ∀ x ∈ L, x.1.size ≤ 1048576 ∧ x.2.size ≤ 1048576) (h : Src w a (cellsP L)) (hx : x.size ≤ 1048576) (hy : y.size ≤ 1048576) (hG : Gl w) (h8 : 8 ≤ w.heap.size) (va nb : Int) (Ns : List MMl) (hf : faM L x y = ((y, va, nb, Ns), 0)) :
    Calls Tryz.prog 10 #[.slice a n c, .string x, .string y] w fun e w' => ∃ a' n' c', e = .returned (.tuple #[.agg #[.string y, .int .i64 va, .int .i64 nb, .slice a' n' c'], .int .i64 0]) ∧ Ns.length = n' ∧ w'.ownsRow w.heap.size 37 3 (.slice a' n' c') n' (cellsMl Ns) ∧ Below w.heap.size w w' := by
  refine (implFolderAt a n c L x y w hL hn hs h hx hy hG h8).mono ?_
  rintro e w' ⟨nm, va2, nx2, a', n', c', R, q, rfl, hfa, hR, ho, hb⟩
  have he := hfa.symm.trans hf
  injection he with he hq
  injection he with e1 he
  injection he with e2 he
  injection he with e3 e4
  subst e1 e2 e3 e4 hq
  exact ⟨a', n', c', rfl, hR, ho, hb⟩
set_option maxHeartbeats 16000000 in
theorem restoreWalk (a : Option Addr) (c : Nat) (C : List Nat) (ma : Option Addr) (mc : Nat) (M : List Nat) (w : World) (h : Src w a (cellsB C)) (hC9 : C.length ≤ maxLen) (hlt : ∀ x ∈ C, x < 256) (hm : Src w ma (cellsB M)) (hM9 : M.length ≤ maxLen) (hmt : ∀ x ∈ M, x < 256) (hG : Gl w) (h8 : 8 ≤ w.heap.size) :
    Calls Tryz.prog 4 #[.slice a C.length c, .slice ma M.length mc] w fun e w' => e = .returned (.bool true) ∧ Below w.heap.size w w' := by
  unfold maxLen at hC9 hM9
  obtain ⟨n, hn⟩ : ∃ n, C.length = n := ⟨_, rfl⟩
  obtain ⟨m, hm9⟩ : ∃ m, M.length = m := ⟨_, rfl⟩
  have HN0 : Hid (C.length = n ∧ (∀ x ∈ C, x < 256) ∧ Src w a (cellsB C)) := ⟨hn, hlt, h⟩
  have HM : Hid (M.length = m ∧ (∀ x ∈ M, x < 256) ∧ Src w ma (cellsB M)) := ⟨hm9, hmt, hm⟩
  have HG : Hid (Gl w) := hG
  rw [hn] at hC9
  rw [hm9] at hM9
  rw [hn, hm9]
  clear hlt h hn hG hmt hm hm9
  by_cases t1 : (1048576 : Int) < (n : Int)
  · go_enter Tryz.func4, Tryz.ntmps4
    go_wp2_with fail
    go_ret
    exact ⟨rfl, Below.refl _ _⟩
  by_cases t2 : (1048576 : Int) < (m : Int)
  · go_enter Tryz.func4, Tryz.ntmps4
    go_wp2_with fail
    go_ret
    exact ⟨rfl, Below.refl _ _⟩
  have n20 : n ≤ 1048576 := by omega
  have m20 : m ≤ 1048576 := by omega
  go_enter Tryz.func4, Tryz.ntmps4
  go_wp2_with fail
  refine (specMailsOf a n c C w HN0.out.1 n20 HN0.out.2.1 HN0.out.2.2).mono ?_
  rintro e w1 ⟨v, L, rfl, ⟨k, hk, hD⟩, ho1, hb1⟩
  obtain ⟨a1, l1, c1, rfl, hA1⟩ := At.own ho1
  have A1 : Hid (At w1 a1 L l1 c1) := hA1
  have B1 : Hid (Below w.heap.size w w1) := hb1
  have HD : Hid (Drawn k L ∧ k ≤ 22) := ⟨hD, hk⟩
  clear hb1 ho1 hA1 hD hk
  have HZ : Hid (L.length ≤ 60 ∧ ∀ x ∈ L, x.1.size ≤ 1048576 ∧ x.2.size ≤ 1048576) := store_small HD.out.1.st
  have hl60 : l1 ≤ 60 := A1.out.le HD.out.1.st
  obtain ⟨b1, o1, hab⟩ := src_some A1.out.2.2.2 HD.out.1.ne
  subst hab
  go_wp2_with fail
  go_loopw [6, 7] (fun nv iv wr => ∃ (j b o ln cn : Nat) (N : List PM), j ≤ 8 ∧ iv = .int .i64 (j : Int) ∧ nv = .slice (some ⟨b, o, none⟩) ln cn ∧ Hid (LenC N ln cn ∧ Src wr (some ⟨b, o, none⟩) (cellsP N) ∧ Drawn (k + j) N ∧ nextM L ≤ nextM N) ∧ Hid (Below w1.heap.size w1 wr)) (fun _ iv _ => 8 - (RowKit.intOf iv).toNat)
  case atStart => exact ⟨0, b1, o1, l1, c1, L, by omega, rfl, rfl, ⟨⟨A1.out.1, A1.out.2.1, A1.out.2.2.1⟩, A1.out.2.2.2, HD.out.1, Int.le_refl _⟩, Below.refl _ _⟩
  case round =>
    obtain ⟨j, b, o, ln, cn, N, hj, rfl, rfl, HN1, hbr⟩ := hrel
    have Br : Hid (Below w.heap.size w wr) := B1.out.trans (hbr.out.mono B1.out.size)
    by_cases hlt : j < 8
    case pos => as_aux_lemma =>
      have hlti : (j : Int) < 8 := by omega
      have hw8 : IntKind.u8.wrap (j : Int) = (j : Int) := by rw [IntKind.wrap_u8]; omega
      have HSM : Hid (Src (wr.alloc (.cells #[.int .u8 ((j : Nat) : Int)] 5)) ma (cellsB M)) := HM.out.2.2.below (Br.out.alloc Br.out.size _)
      have HML : Hid ((cellsB M).length = m * 1) := by show _ = _; rw [cellsB_length, HM.out.1, Nat.mul_one]
      go_wp2_with (at_builtin; refine wpList_append_src _ rfl _ _ 22 rfl wr.heap.size 5 (.int .u8 0) 1 1 Tryz.underlying22 infoB rfl (by decide) (by decide) (.slice (some ⟨wr.heap.size, 0, none⟩) 1 1) 1 (cellsB [j]) rfl (own_byte wr j) ma m mc (cellsB M) rfl HML.out HSM.out (cellsB_one _) (by omega) (by simp) ?_)
      intro v2 w2 hown2 hgrow2
      obtain ⟨a2, c2, rfl, hs2, _⟩ := own_src hown2
      have L2 : Below wr.heap.size wr w2 := ((Below.refl _ _).alloc (Nat.le_refl _) _).grown hgrow2 (by simp) (fun g e => ((own_byte wr j).lt g e).1)
      have B2 : Hid (Below w.heap.size w w2) := Br.out.trans (L2.mono Br.out.size)
      have L2w : Hid (Below w1.heap.size w1 w2) := hbr.out.trans (L2.mono hbr.out.size)
      have S2 : Hid (Src w2 a2 (cellsB (j :: M))) := hs2
      have CW := specMailWork a2 (1 + m) c2 (j :: M) (k + j) b o ln cn N w2 (by rw [List.length_cons, HM.out.1]; omega) (by omega) (fun x hx => by
        rcases List.mem_cons.1 hx with h9 | h9
        · omega
        · exact HM.out.2.1 x h9) S2.out HN1.out.2.2.1 HN1.out.1 (HN1.out.2.1.below L2)
      clear hown2 hgrow2 hs2 L2 HSM HML
      go_wp2_with fail
      refine CW.mono ?_
      rintro e w3 ⟨a3, n3, c3, N3, rfl, h31, h32, ⟨h33, h34⟩, hb3⟩
      obtain ⟨b3, o3, rfl⟩ := src_some h32 h33.ne
      have HN3 : Hid (LenC N3 n3 c3 ∧ Src w3 (some ⟨b3, o3, none⟩) (cellsP N3) ∧ Drawn (k + (j + 1)) N3 ∧ nextM L ≤ nextM N3) := ⟨h31, h32, h33, Int.le_trans HN1.out.2.2.2 h34⟩
      have L3 : Hid (Below w1.heap.size w1 w3) := L2w.out.trans (hb3.mono L2w.out.size)
      clear h31 h32 h33 h34 hb3 CW
      go_wp2_with fail
      exact ⟨⟨j + 1, b3, o3, n3, c3, N3, by omega, by go_num, rfl, HN3.out, L3.out⟩, by simp [RowKit.intOf]; omega⟩
    case neg => as_aux_lemma =>
      obtain rfl : j = 8 := by omega
      have hlti : ¬ ((8 : Nat) : Int) < 8 := by omega
      obtain ⟨hN1, hN2, hN3, hN4⟩ := HN1.out
      have AN : Hid (At wr (some ⟨b, o, none⟩) N ln cn) := ⟨hN1.1, hN1.2.1, hN1.2.2, hN2⟩
      have HN : Hid (Drawn (k + 8) N ∧ nextM L ≤ nextM N) := ⟨hN3, hN4⟩
      have HZN : Hid (N.length ≤ 60 ∧ ∀ x ∈ N, x.1.size ≤ 1048576 ∧ x.2.size ≤ 1048576) := store_small HN.out.1.st
      have hln : ln ≤ 60 := AN.out.le HN.out.1.st
      have A2 : Hid (At wr (some ⟨b1, o1, none⟩) L l1 c1) := A1.out.below hbr.out
      clear hN1 hN2 hN3 hN4 HN1 A1
      go_wp2_with fail
      refine (specUserOf ma m mc M wr HM.out.1 m20 HM.out.2.1 (HM.out.2.2.below Br.out)).mono ?_
      rintro e w2 ⟨u, rfl, hu, hb2⟩
      have B2 : Hid (Below w.heap.size w w2) := Br.out.trans (hb2.mono Br.out.size)
      have A3 : Hid (At w2 (some ⟨b1, o1, none⟩) L l1 c1 ∧ At w2 (some ⟨b, o, none⟩) N ln cn) := ⟨A2.out.below hb2, AN.out.below hb2⟩
      have HU : Hid (u = annT ∨ u = bobT) := hu
      have hu8 := short_size' (HD.out.1.desk hu).1
      clear hb2 hu A2 AN Br hbr
      go_wp2_with fail
      refine (specFolderOf a n c C w2 HN0.out.1 n20 HN0.out.2.1 (HN0.out.2.2.below B2.out)).mono ?_
      rintro e w3 ⟨f, rfl, hsf, hb3⟩
      have B3 : Hid (Below w.heap.size w w3) := B2.out.trans (hb3.mono B2.out.size)
      have A4 : Hid (At w3 (some ⟨b1, o1, none⟩) L l1 c1 ∧ At w3 (some ⟨b, o, none⟩) N ln cn) := ⟨A3.out.1.below hb3, A3.out.2.below hb3⟩
      have HF : Hid (shortB f = true) := hsf
      have hf8 := short_size' hsf
      clear hb3 hsf A3 B2
      go_wp2_with fail
      refine (implFolderAt (some ⟨b1, o1, none⟩) l1 c1 L u f w3 A4.out.1.1 (by omega) HZ.out.2 A4.out.1.2.2.2 (by omega) (by omega) (HG.out.below h8 B3.out) (by have := B3.out.size; omega)).mono ?_
      rintro e w4 ⟨nm, va, nx, a3, n3, c3, Ms, q, rfl, hfa, hMs, ho3, hb3⟩
      have HFA : Hid (faM L u f = ((nm, va, nx, Ms), q)) := hfa
      obtain ⟨w5, hw5⟩ : ∃ W, w4.alloc (.cells #[.string nm, .int .i64 va, .int .i64 nx, .slice a3 n3 c3] 28) = W := ⟨_, rfl⟩
      obtain ⟨P5, hP5⟩ : ∃ z, w4.heap.size = z := ⟨_, rfl⟩
      have hb4 : Below w4.heap.size w4 w5 := by rw [← hw5]; exact (Below.refl _ _).alloc (Nat.le_refl _) _
      have L5 : Below w3.heap.size w3 w5 := hb3.trans (hb4.mono hb3.size)
      have X5 : Hid (Box w5 P5 [.string nm, .int .i64 va, .int .i64 nx, .slice a3 n3 c3]) := by show Box _ _ _; rw [← hw5]; exact Box.new hP5.symm
      have A5 : Hid (At w5 (some ⟨b1, o1, none⟩) L l1 c1 ∧ At w5 (some ⟨b, o, none⟩) N ln cn) := ⟨A4.out.1.below L5, A4.out.2.below L5⟩
      have B5 : Hid (Below w.heap.size w w5) := B3.out.trans (L5.mono B3.out.size)
      have M5 : Hid (Ms.length = n3 ∧ Src w5 a3 (cellsMl Ms)) := ⟨hMs, (own_ml ho3).below hb4⟩
      obtain ⟨R, q2, hR⟩ : ∃ R q2, lawM2 (rsR N L u f) (raskM N L [u, f]) = (R, q2) := ⟨_, _, rfl⟩
      have HR : Hid (lawM2 (rsR N L u f) (raskM N L [u, f]) = (R, q2)) := hR
      have HRI : Hid (RstIs N L R u f q2) := rst_is (by have := HD.out.2; omega) HN.out.1 HD.out.1 HN.out.2 HU.out HF.out hR
      have HZR : Hid (R.length ≤ 60 ∧ ∀ x ∈ R, x.1.size ≤ 1048576 ∧ x.2.size ≤ 1048576) := store_small HRI.out.1
      clear hb3 hb4 hfa hMs ho3 A4 L5 hR B3
      go_wp2_with fail
      clear hw5 hP5
      refine (implRestoreFolder (some ⟨b, o, none⟩) ln cn N (some ⟨b1, o1, none⟩) l1 c1 L u f w5 A5.out.2.1 (by omega) HZN.out.2 A5.out.2.2.2.2 A5.out.1.1 (by omega) HZ.out.2 A5.out.1.2.2.2 (by omega) (by omega) (HG.out.below h8 B5.out) (by have := B5.out.size; omega) R q2 HR).mono ?_
      rintro e w6 ⟨v6, rfl, ho6, hb6⟩
      obtain ⟨a6, l6, c6, rfl, hA6⟩ := At.own ho6
      have B6 : Hid (Below w.heap.size w w6) := B5.out.trans (hb6.mono B5.out.size)
      have X6 : Hid (Box w6 P5 [.string nm, .int .i64 va, .int .i64 nx, .slice a3 n3 c3]) := Box.below X5.out hb6
      have A6 : Hid (At w6 (some ⟨b1, o1, none⟩) L l1 c1 ∧ At w6 (some ⟨b, o, none⟩) N ln cn ∧ At w6 a6 R l6 c6 ∧ Src w6 a3 (cellsMl Ms)) := ⟨A5.out.1.below hb6, A5.out.2.below hb6, hA6, M5.out.2.below hb6⟩
      have hl6 : l6 ≤ 60 := A6.out.2.2.1.le HRI.out.1
      clear ho6 hA6 hb6 A5 X5 B5
      go_wp2_with fail
      refine (specRestoreFolder (some ⟨b, o, none⟩) ln cn N (some ⟨b1, o1, none⟩) l1 c1 L u f w6 A6.out.2.1.1 (by omega) A6.out.2.1.2.1 A6.out.2.1.2.2.1 HZN.out.2 A6.out.2.1.2.2.2 A6.out.1.1 (by omega) HZ.out.2 A6.out.1.2.2.2 (by omega) (by omega) R q2 HR).mono ?_
      rintro e w7 ⟨v7, rfl, ho7, hb7⟩
      obtain ⟨a7, l7, c7, rfl, hA7⟩ := At.own ho7
      obtain rfl : l7 = l6 := by rw [← hA7.1, ← A6.out.2.2.1.1]
      have B7 : Hid (Below w.heap.size w w7) := B6.out.trans (hb7.mono B6.out.size)
      have X7 : Hid (Box w7 P5 [.string nm, .int .i64 va, .int .i64 nx, .slice a3 n3 c3]) := Box.below X6.out hb7
      have A7 : Hid (At w7 (some ⟨b, o, none⟩) N ln cn ∧ At w7 a6 R l7 c6 ∧ Src w7 a3 (cellsMl Ms)) := ⟨A6.out.2.1.below hb7, A6.out.2.2.1.below hb7, A6.out.2.2.2.below hb7⟩
      have CSP := samePairsM a6 a7 l7 c6 c7 R w7 A7.out.2.1.1 (by omega) A7.out.2.1.2.2.2 hA7.2.2.2
      have hqq : (q2 != q2) = false := by simp
      clear ho7 hA7 hb7 A6 X6 B6 HR
      go_wp2_with fail
      refine CSP.mono ?_
      rintro e w8 ⟨rfl, hb8⟩
      have B8 : Hid (Below w.heap.size w w8) := B7.out.trans (hb8.mono B7.out.size)
      have X8 : Hid (Box w8 P5 [.string nm, .int .i64 va, .int .i64 nx, .slice a3 n3 c3]) := Box.below X7.out hb8
      have A8 : Hid (At w8 (some ⟨b, o, none⟩) N ln cn ∧ At w8 a6 R l7 c6 ∧ Src w8 a3 (cellsMl Ms)) := ⟨A7.out.1.below hb8, A7.out.2.1.below hb8, A7.out.2.2.below hb8⟩
      have CMO := implMailStoreOK a6 l7 c6 R w8 A8.out.2.1.1 (by omega) HZR.out.2 A8.out.2.1.2.2.2 (HG.out.below h8 B8.out) (by have := B8.out.size; omega) true ((impl_store R).trans HRI.out.1)
      clear hb8 CSP A7 X7 B7
      go_wp2_with fail
      refine CMO.mono ?_
      rintro e w9 ⟨rfl, hb9⟩
      have B9 : Hid (Below w.heap.size w w9) := B8.out.trans (hb9.mono B8.out.size)
      have X9 : Hid (Box w9 P5 [.string nm, .int .i64 va, .int .i64 nx, .slice a3 n3 c3]) := Box.below X8.out hb9
      have A9 : Hid (At w9 (some ⟨b, o, none⟩) N ln cn ∧ At w9 a6 R l7 c6 ∧ Src w9 a3 (cellsMl Ms)) := ⟨A8.out.1.below hb9, A8.out.2.1.below hb9, A8.out.2.2.below hb9⟩
      clear hb9 CMO A8 X8 B8
      rcases HRI.out.2 with ⟨hq2, hRN, hq⟩ | ⟨hq2, vo, vn, nx2, Ms2, hf1, hf2, hvv, hvN, hM6, hrise, hoth⟩
      case inl => as_aux_lemma =>
        subst hRN
        have hqb : (q2 != 0) = true := by simpa using hq2
        obtain rfl : ln = l7 := by rw [← A9.out.1.1, ← A9.out.2.1.1]
        have CS9 := samePairsM a6 (some ⟨b, o, none⟩) ln c6 cn R w9 A9.out.2.1.1 (by omega) A9.out.2.1.2.2.2 A9.out.1.2.2.2
        have HQ3 : Hid (q2 = q ∨ q2 = 12 ∨ q2 = 7) := by
          have h9 := HFA.out
          rcases hq with h8 | h8 | h8
          · exact .inl (by rw [h8, h9])
          · exact .inr (.inl h8)
          · exact .inr (.inr h8)
        clear hq
        go_wp2_with fail
        refine CS9.mono ?_
        rintro e w10 ⟨rfl, hb10⟩
        have B10 : Hid (Below w.heap.size w w10) := B9.out.trans (hb10.mono B9.out.size)
        clear hb10 CS9
        by_cases h1 : q2 = q
        · have h1b : (q2 == q) = true := by simpa using h1
          go_wp2_with fail
          go_ret
          exact ⟨rfl, B10.out⟩
        · have h1b : (q2 == q) = false := by simpa using h1
          by_cases h2 : q2 = 12
          · subst h2
            go_wp2_with fail
            go_ret
            exact ⟨rfl, B10.out⟩
          · have h2b : (q2 == 12) = false := by simpa using h2
            obtain rfl : q2 = 7 := by
              rcases HQ3.out with h9 | h9 | h9
              · exact absurd h9 h1
              · exact absurd h9 h2
              · exact h9
            go_wp2_with fail
            go_ret
            exact ⟨rfl, B10.out⟩
      case inr => as_aux_lemma =>
        subst hq2
        have he := HFA.out.symm.trans hf1
        injection he with he hq0
        injection he with e1 he
        injection he with e2 he
        injection he with e3 e4
        subst hq0 e1 e2 e3 e4
        have HO : Hid (faM R u nm = ((nm, vn, nx, Ms), 0) ∧ va < vn ∧ (∀ nm' va' nb Ns, faM N u nm = ((nm', va', nb, Ns), 0) → va' < vn) ∧ RiseP N R) := ⟨hf2, hvv, hvN, hrise⟩
        have HQ : Hid (∀ v n, (v = annT ∨ v = bobT) → n ∈ listS N v → ¬ (v = u ∧ n = nm) → ∃ va nb Ns, Ns.length ≤ 60 ∧ faM N v n = ((n, va, nb, Ns), 0) ∧ faM R v n = ((n, va, nb, Ns), 0)) := hoth
        have HM3 : Hid (Ms.length = n3) := M5.out.1
        have hn36 : n3 ≤ 6 := by rw [← HM3.out]; exact hM6
        have hvle : ¬ vn ≤ va := by omega
        clear hf1 hf2 hvv hvN hM6 hrise hoth HFA M5 HRI
        go_wp2_with fail
        refine (implFolderAt a6 l7 c6 R u nm w9 A9.out.2.1.1 (by omega) HZR.out.2 A9.out.2.1.2.2.2 (by omega) (by omega) (HG.out.below h8 B9.out) (by have := B9.out.size; omega)).mono ?_
        rintro e w10 ⟨nm6, va6, nx6, a10, n10, c10, Ks, q6, rfl, hfa6, hKs, ho10, hb10⟩
        have he := hfa6.symm.trans HO.out.1
        injection he with he hq0
        injection he with e1 he
        injection he with e2 he
        injection he with e3 e4
        subst hq0 e1 e2 e3 e4
        obtain rfl : n10 = n3 := by rw [← hKs, ← HM3.out]
        obtain ⟨w11, hw11⟩ : ∃ W, w10.alloc (.cells #[.string nm6, .int .i64 va6, .int .i64 nx6, .slice a10 n10 c10] 28) = W := ⟨_, rfl⟩
        obtain ⟨P11, hP11⟩ : ∃ z, w10.heap.size = z := ⟨_, rfl⟩
        have hb11 : Below w10.heap.size w10 w11 := by rw [← hw11]; exact (Below.refl _ _).alloc (Nat.le_refl _) _
        have L11 : Hid (Below w9.heap.size w9 w11) := hb10.trans (hb11.mono hb10.size)
        have Y11 : Hid (Box w11 P11 [.string nm6, .int .i64 va6, .int .i64 nx6, .slice a10 n10 c10]) := by show Box _ _ _; rw [← hw11]; exact Box.new hP11.symm
        have K11 : Hid (Src w11 a10 (cellsMl Ks)) := (own_ml ho10).below hb11
        clear hfa6 hKs ho10 hb10 hb11
        have B11 : Hid (Below w.heap.size w w11) := B9.out.trans (L11.out.mono B9.out.size)
        have CF2 := implFolderAt (some ⟨b, o, none⟩) ln cn N u nm6 w11 A9.out.1.1 (by omega) HZN.out.2 ((A9.out.1.below L11.out).2.2.2) (by omega) (by omega) (HG.out.below h8 B11.out) (by have := B11.out.size; omega)
        go_wp2_with fail
        clear hw11 hP11
        refine CF2.mono ?_
        rintro e w12 ⟨nm8, va8, nx8, a12, n12, c12, K8, q8, rfl, hfa8, _, _, hb12⟩
        have HFN : Hid (q8 = 0 → va8 < va6) := fun h9 => by subst h9; exact HO.out.2.2.1 _ _ _ _ hfa8
        obtain ⟨w13, hw13⟩ : ∃ W, w12.alloc (.cells #[.string nm8, .int .i64 va8, .int .i64 nx8, .slice a12 n12 c12] 28) = W := ⟨_, rfl⟩
        obtain ⟨P13, hP13⟩ : ∃ z, w12.heap.size = z := ⟨_, rfl⟩
        have hb13 : Below w12.heap.size w12 w13 := by rw [← hw13]; exact (Below.refl _ _).alloc (Nat.le_refl _) _
        have L13a : Below w11.heap.size w11 w13 := hb12.trans (hb13.mono hb12.size)
        have L13 : Hid (Below w9.heap.size w9 w13) := L11.out.trans (L13a.mono L11.out.size)
        have Z13 : Hid (Box w13 P13 [.string nm8, .int .i64 va8, .int .i64 nx8, .slice a12 n12 c12]) := by show Box _ _ _; rw [← hw13]; exact Box.new hP13.symm
        have Y13 : Hid (Box w13 P11 [.string nm6, .int .i64 va6, .int .i64 nx6, .slice a10 n10 c10]) := Box.below Y11.out L13a
        have K13 : Hid (Src w13 a10 (cellsMl Ks)) := K11.out.below L13a
        have CR := specRises (some ⟨b, o, none⟩) ln cn N a6 l7 c6 R w13 A9.out.1.1 A9.out.2.1.1 HO.out.2.2.2 ((A9.out.1.below L13.out).2.2.2) ((A9.out.2.1.below L13.out).2.2.2)
        clear hfa8 hb12 hb13 L13a CF2 Y11 K11 L11
        go_wp2_with fail
        clear hw13 hP13
        refine CR.mono ?_
        rintro e w14 ⟨rfl, hb14⟩
        have L14 : Hid (Below w9.heap.size w9 w14) := L13.out.trans (hb14.mono L13.out.size)
        have X14 : Hid (Box w14 P5 [.string nm6, .int .i64 va, .int .i64 nx6, .slice a3 n10 c3]) := Box.below X9.out L14.out
        have Y14 : Hid (Box w14 P11 [.string nm6, .int .i64 va6, .int .i64 nx6, .slice a10 n10 c10]) := Box.below Y13.out hb14
        have Z14 : Hid (Box w14 P13 [.string nm8, .int .i64 va8, .int .i64 nx8, .slice a12 n12 c12]) := Box.below Z13.out hb14
        have K14 : Hid (Src w14 a10 (cellsMl Ks) ∧ Src w14 a3 (cellsMl Ks)) := ⟨K13.out.below hb14, A9.out.2.2.below L14.out⟩
        have A14 : Hid (At w14 (some ⟨b, o, none⟩) N ln cn ∧ At w14 a6 R l7 c6) := ⟨A9.out.1.below L14.out, A9.out.2.1.below L14.out⟩
        have B14 : Hid (Below w.heap.size w w14) := B9.out.trans (L14.out.mono B9.out.size)
        obtain ⟨x1, _⟩ := X14.out 1 _ rfl
        obtain ⟨x2, _⟩ := X14.out 2 _ rfl
        obtain ⟨x3, _⟩ := X14.out 3 _ rfl
        obtain ⟨y1, _⟩ := Y14.out 1 _ rfl
        obtain ⟨y2, _⟩ := Y14.out 2 _ rfl
        obtain ⟨y3, _⟩ := Y14.out 3 _ rfl
        obtain ⟨z1, _⟩ := Z14.out 1 _ rfl
        have hnn : (nx6 != nx6) = false := by simp
        have hne : ((n10 : Int) != (n10 : Int)) = false := by simp
        clear hb14 CR L13 Z13 Y13 K13 A9 X9 B9 L14 B11
        by_cases h8q : q8 = 0
        case' pos =>
          subst h8q
          have hv8 : ¬ va6 ≤ va8 := by have := HFN.out rfl; omega
        case' neg =>
          have hq8 : (q8 == 0) = false := by simpa using h8q
        all_goals as_aux_lemma =>
          go_wp2_with fail
          clear x1 x2 x3 y1 y2 y3 z1 hnn hne
          go_loopw [22] (fun iv wr => ∃ i : Nat, i ≤ n10 ∧ iv = .int .i64 (i : Int) ∧ Hid (Below w14.heap.size w14 wr)) (fun iv _ => n10 - (RowKit.intOf iv).toNat)
          case atStart => exact ⟨0, by omega, rfl, Below.refl _ _⟩
          case round =>
            obtain ⟨i, hi, rfl, hbi⟩ := hrel
            obtain ⟨x3, _⟩ := (Box.below X14.out hbi.out) 3 _ rfl
            obtain ⟨y3, _⟩ := (Box.below Y14.out hbi.out) 3 _ rfl
            by_cases hlti : i < n10
            case pos => as_aux_lemma =>
              have hii : (i : Int) < (n10 : Int) := by omega
              have hi0 : (0 : Int) ≤ (i : Int) := by omega
              obtain ⟨b6, o6, u0, u1, u2, rfl, k0, k1, k2, hy1⟩ := srcMl (K14.out.1.below hbi.out) (i := i) (by rw [HM3.out]; exact hlti)
              obtain ⟨b7, o7, t0, t1, t2, rfl, m0, m1, m2, hy2⟩ := srcMl (K14.out.2.below hbi.out) (i := i) (by rw [HM3.out]; exact hlti)
              obtain ⟨rfl, rfl, rfl⟩ : u0 = t0 ∧ u1 = t1 ∧ u2 = t2 := by have := hy1.out.symm.trans hy2.out; simpa using this
              clear hy1 hy2
              go_wp2_with fail
              go_quiet (fail)
              have L2 : Hid (Below w14.heap.size w14 (wr.drewN nq)) := Below.drewN' hbi.out _
              go_wp2_with fail
              exact ⟨⟨i + 1, by omega, by go_num, L2.out⟩, by simp [RowKit.intOf]; omega⟩
            case neg => as_aux_lemma =>
              obtain rfl : i = n10 := by omega
              have hii : ¬ (i : Int) < (i : Int) := by omega
              have Bi : Hid (Below w.heap.size w wr) := B14.out.trans (hbi.out.mono B14.out.size)
              have Ai : Hid (At wr (some ⟨b, o, none⟩) N ln cn ∧ At wr a6 R l7 c6) := ⟨A14.out.1.below hbi.out, A14.out.2.below hbi.out⟩
              obtain ⟨w15, hw15⟩ : ∃ W, wr.alloc (.cells #[.string ⟨#[97, 110, 110]⟩, .string ⟨#[98, 111, 98]⟩] 9) = W := ⟨_, rfl⟩
              obtain ⟨PU, hPU⟩ : ∃ z, wr.heap.size = z := ⟨_, rfl⟩
              have hb15 : Below wr.heap.size wr w15 := by rw [← hw15]; exact (Below.refl _ _).alloc (Nat.le_refl _) _
              have U15 : Hid (Box w15 PU [.string annT, .string bobT]) := by show Box _ _ _; rw [← hw15]; exact Box.new hPU.symm
              have B15 : Hid (Below w.heap.size w w15) := Bi.out.trans (hb15.mono Bi.out.size)
              have A15 : Hid (At w15 (some ⟨b, o, none⟩) N ln cn ∧ At w15 a6 R l7 c6) := ⟨Ai.out.1.below hb15, Ai.out.2.below hb15⟩
              clear X14 Y14 Z14 K14 A14 Ai Bi hb15 hbi
              go_wp2_with fail
              clear hw15 hPU x3 y3
              go_loopw [24] (fun iv wx => ∃ i2 : Nat, i2 ≤ 2 ∧ iv = .int .i64 (i2 : Int) ∧ Hid (Below w15.heap.size w15 wx)) (fun iv _ => 2 - (RowKit.intOf iv).toNat)
              case atStart => exact ⟨0, by omega, rfl, Below.refl _ _⟩
              case round =>
                obtain ⟨i2, hi2, rfl, hbx⟩ := hrel
                have Bx : Hid (Below w.heap.size w wr) := B15.out.trans (hbx.out.mono B15.out.size)
                by_cases hlt2 : i2 < 2
                case neg => as_aux_lemma =>
                  obtain rfl : i2 = 2 := by omega
                  have hii2 : ¬ ((2 : Nat) : Int) < 2 := by omega
                  go_wp2_with fail
                  go_ret
                  exact ⟨rfl, Bx.out⟩
                case pos => as_aux_lemma =>
                  have hii2 : (i2 : Int) < 2 := by omega
                  have hi20 : (0 : Int) ≤ (i2 : Int) := by omega
                  obtain ⟨v, hv, HUC⟩ : ∃ v, (v = annT ∨ v = bobT) ∧ Hid (∀ W, Box W PU [.string annT, .string bobT] → W.cell? ⟨PU, i2, none⟩ = some (.string v)) := by
                    have h9 : i2 = 0 ∨ i2 = 1 := by omega
                    rcases h9 with rfl | rfl
                    · exact ⟨annT, .inl rfl, fun W hW => (hW 0 _ rfl).1⟩
                    · exact ⟨bobT, .inr rfl, fun W hW => (hW 1 _ rfl).1⟩
                  have HV : Hid (v = annT ∨ v = bobT) := hv
                  have Ux : Hid (Box wr PU [.string annT, .string bobT]) := Box.below U15.out hbx.out
                  have uc := HUC.out wr Ux.out
                  obtain ⟨hsv, S, hS, hwS, hFS, hndS, n1S⟩ := HN.out.1.desk hv
                  have hv8 := short_size' hsv
                  obtain ⟨hfl, _, hl60n, _⟩ := names_told ⟨HN.out.1.st, hS, hwS, hFS, hndS, n1S⟩
                  have Ax : Hid (At wr (some ⟨b, o, none⟩) N ln cn ∧ At wr a6 R l7 c6) := ⟨A15.out.1.below hbx.out, A15.out.2.below hbx.out⟩
                  have CLF := implListFolders (some ⟨b, o, none⟩) ln cn N v wr Ax.out.1.1 (by omega) HZN.out.2 Ax.out.1.2.2.2 (by omega) (HG.out.below h8 Bx.out) (by have := Bx.out.size; omega) _ _ hfl
                  clear hv hS hwS hFS hndS n1S hfl
                  go_wp2_with fail
                  refine CLF.mono ?_
                  rintro e w16 ⟨v16, rfl, ho16, hb16⟩
                  obtain ⟨T, hT⟩ : ∃ T, listS N v = T := ⟨_, rfl⟩
                  obtain ⟨tn, htn⟩ : ∃ tn, T.length = tn := ⟨_, rfl⟩
                  have HT : Hid (listS N v = T ∧ T.length = tn) := ⟨hT, htn⟩
                  rw [hT, htn] at ho16 hl60n
                  obtain ⟨a16, c16, rfl, hs16, _⟩ := own_src ho16
                  have L16 : Hid (Below w15.heap.size w15 w16) := hbx.out.trans (hb16.mono hbx.out.size)
                  have B16 : Hid (Below w.heap.size w w16) := Bx.out.trans (hb16.mono Bx.out.size)
                  have S16 : Hid (Src w16 a16 (cellsS T)) := hs16
                  have U16 : Hid (Box w16 PU [.string annT, .string bobT]) := Box.below Ux.out hb16
                  have A16 : Hid (At w16 (some ⟨b, o, none⟩) N ln cn ∧ At w16 a6 R l7 c6) := ⟨Ax.out.1.below hb16, Ax.out.2.below hb16⟩
                  clear hT htn ho16 hs16 hb16 CLF Ax Ux uc
                  go_wp2_with fail
                  go_loopw [27] (fun kv wy => ∃ i3 : Nat, i3 ≤ tn ∧ kv = .int .i64 (i3 : Int) ∧ Hid (Below w16.heap.size w16 wy)) (fun kv _ => tn - (RowKit.intOf kv).toNat)
                  case atStart => exact ⟨0, by omega, rfl, Below.refl _ _⟩
                  case round =>
                    obtain ⟨i3, hi3, rfl, hby⟩ := hrel
                    have L17 : Hid (Below w15.heap.size w15 wr) := L16.out.trans (hby.out.mono L16.out.size)
                    by_cases hlt3 : i3 < tn
                    case neg => as_aux_lemma =>
                      have hii3 : ¬ (i3 : Int) < (tn : Int) := by omega
                      go_wp2_with fail
                      exact ⟨⟨i2 + 1, by omega, by go_num, L17.out⟩, by simp [RowKit.intOf]; omega⟩
                    case pos => as_aux_lemma =>
                      have hii3 : (i3 : Int) < (tn : Int) := by omega
                      have hi30 : (0 : Int) ≤ (i3 : Int) := by omega
                      obtain ⟨b8, o8, s, rfl, sc, hsy⟩ := srcS (S16.out.below hby.out) (i := i3) (by rw [HT.out.2]; exact hlt3)
                      have hmem : s ∈ listS N v := by
                        rw [HT.out.1, ← hsy.out, List.getD_eq_getElem?_getD, List.getElem?_eq_getElem (by rw [HT.out.2]; exact hlt3)]
                        exact List.getElem_mem _
                      have Uy : Hid (Box wr PU [.string annT, .string bobT]) := Box.below U16.out hby.out
                      have uc := HUC.out wr Uy.out
                      have By : Hid (Below w.heap.size w wr) := B16.out.trans (hby.out.mono B16.out.size)
                      by_cases hno : v = u ∧ s = nm6
                      case pos => as_aux_lemma =>
                        obtain ⟨hvu, hsn⟩ := hno
                        have hvb : (v.toList == u.toList) = true := by rw [hvu]; simp
                        have hsb : (s.toList == nm6.toList) = true := by rw [hsn]; simp
                        clear hvu hsn hmem
                        go_wp2_with fail
                        exact ⟨⟨i3 + 1, by omega, by go_num, hby.out⟩, by simp [RowKit.intOf]; omega⟩
                      case neg => as_aux_lemma =>
                        obtain ⟨va9, nb9, Ns, hns, hf9, hr9⟩ := HQ.out v s HV.out hmem hno
                        have hs8 : s.size ≤ 8 := name_shortR HN.out.1 HV.out hmem
                        have AY : Hid (At wr (some ⟨b, o, none⟩) N ln cn ∧ At wr a6 R l7 c6) := ⟨A16.out.1.below hby.out, A16.out.2.below hby.out⟩
                        have CXN := fun (W : World) (hW : Below wr.heap.size wr W) => fa_call (some ⟨b, o, none⟩) ln cn N v s W AY.out.1.1 (by omega) HZN.out.2 ((AY.out.1.2.2.2).below hW) (by omega) (by omega) (HG.out.below h8 (By.out.trans (hW.mono By.out.size))) (by have := By.out.size; have := hW.size; omega) va9 nb9 Ns hf9
                        have CXR0 := fun (W : World) (hW : Below wr.heap.size wr W) => fa_call a6 l7 c6 R v s W AY.out.2.1 (by omega) HZR.out.2 ((AY.out.2.2.2.2).below hW) (by omega) (by omega) (HG.out.below h8 (By.out.trans (hW.mono By.out.size))) (by have := By.out.size; have := hW.size; omega) va9 nb9 Ns hr9
                        have hcase : (v.toList == u.toList) = false ∨ ((v.toList == u.toList) = true ∧ (s.toList == nm6.toList) = false) := by
                          by_cases h9 : v = u
                          · exact .inr ⟨by rw [h9]; simp, str_neR fun h7 => hno ⟨h9, h7⟩⟩
                          · exact .inl (str_neR h9)
                        clear hno hmem hsy hf9 hr9 A16
                        rcases hcase with hvb | ⟨hvb, hsb⟩
                        all_goals
                          go_wp2_with fail
                          go_cut [28, 29] from 215 to 272 (fun c28 c29 wx => ∃ (p : Nat) (a5 : Option Addr) (n5 c5 : Nat), c28 = .pointer (some ⟨p, 0, none⟩) ∧ c29 = .int .i64 0 ∧ Hid (Box wx p [.string s, .int .i64 va9, .int .i64 nb9, .slice a5 n5 c5]) ∧ Hid (Ns.length = n5 ∧ Src wx a5 (cellsMl Ns)) ∧ Hid (Below wr.heap.size wr wx))
                          case first =>
                            have ucA : (wr.alloc (.cells #[.string ⟨#[]⟩, .int .i64 0, .int .i64 0, .slice none 0 0] 28)).cell? ⟨PU, i2, none⟩ = some (.string v) := cell_later (w := wr) ((Below.refl _ _).alloc (Nat.le_refl _) _) uc
                            have scA : (wr.alloc (.cells #[.string ⟨#[]⟩, .int .i64 0, .int .i64 0, .slice none 0 0] 28)).cell? ⟨b8, o8 + i3, none⟩ = some (.string s) := cell_later (w := wr) ((Below.refl _ _).alloc (Nat.le_refl _) _) sc
                            refine wp_region_noPanic ?_
                            refine wp_region_held_drew (S := fun w' => w'.cell? ⟨PU, i2, none⟩ = some (.string v) ∧ w'.cell? ⟨b8, o8 + i3, none⟩ = some (.string s)) (by kernel_rfl) ⟨uc, sc⟩ (fun hHeld => ?_)
                            refine tkA (i := 0) (v := .slice (some ⟨b, o, none⟩) ln cn) ?_ hHeld ?_
                            · intro w9 hSw
                              obtain ⟨s1, s2⟩ := hSw
                              simp only [List.getElem_toArray, List.getElem_cons_succ, List.getElem_cons_zero]
                              go_simp
                            simp only [Act.put, List.getElem_toArray, List.getElem_cons_succ, List.getElem_cons_zero, List.setIfInBounds_toArray, List.set_cons_zero, List.set_cons_succ]
                            refine tkA (i := 1) (v := .slice (some ⟨PU, 0, none⟩) 2 2) ?_ hHeld ?_
                            · intro w9 hSw
                              obtain ⟨s1, s2⟩ := hSw
                              simp only [List.getElem_toArray, List.getElem_cons_succ, List.getElem_cons_zero]
                              go_simp
                            simp only [Act.put, List.getElem_toArray, List.getElem_cons_succ, List.getElem_cons_zero, List.setIfInBounds_toArray, List.set_cons_zero, List.set_cons_succ]
                            refine tkA (i := 2) (v := .int .i64 (i2 : Int)) ?_ hHeld ?_
                            · intro w9 hSw
                              obtain ⟨s1, s2⟩ := hSw
                              simp only [List.getElem_toArray, List.getElem_cons_succ, List.getElem_cons_zero]
                              go_simp
                            simp only [Act.put, List.getElem_toArray, List.getElem_cons_succ, List.getElem_cons_zero, List.setIfInBounds_toArray, List.set_cons_zero, List.set_cons_succ]
                            refine tkA (i := 3) (v := .pointer (some ⟨PU, i2, none⟩)) ?_ hHeld ?_
                            · intro w9 hSw
                              obtain ⟨s1, s2⟩ := hSw
                              simp only [List.getElem_toArray, List.getElem_cons_succ, List.getElem_cons_zero]
                              go_simp
                            simp only [Act.put, List.getElem_toArray, List.getElem_cons_succ, List.getElem_cons_zero, List.setIfInBounds_toArray, List.set_cons_zero, List.set_cons_succ]
                            refine tkA (i := 4) (v := .string v) ?_ hHeld ?_
                            · intro w9 hSw
                              obtain ⟨s1, s2⟩ := hSw
                              simp only [List.getElem_toArray, List.getElem_cons_succ, List.getElem_cons_zero]
                              go_simp
                            simp only [Act.put, List.getElem_toArray, List.getElem_cons_succ, List.getElem_cons_zero, List.setIfInBounds_toArray, List.set_cons_zero, List.set_cons_succ]
                            refine tkA (i := 5) (v := .slice (some ⟨b8, o8, none⟩) tn c16) ?_ hHeld ?_
                            · intro w9 hSw
                              obtain ⟨s1, s2⟩ := hSw
                              simp only [List.getElem_toArray, List.getElem_cons_succ, List.getElem_cons_zero]
                              go_simp
                            simp only [Act.put, List.getElem_toArray, List.getElem_cons_succ, List.getElem_cons_zero, List.setIfInBounds_toArray, List.set_cons_zero, List.set_cons_succ]
                            refine tkA (i := 6) (v := .int .i64 (i3 : Int)) ?_ hHeld ?_
                            · intro w9 hSw
                              obtain ⟨s1, s2⟩ := hSw
                              simp only [List.getElem_toArray, List.getElem_cons_succ, List.getElem_cons_zero]
                              go_simp
                            simp only [Act.put, List.getElem_toArray, List.getElem_cons_succ, List.getElem_cons_zero, List.setIfInBounds_toArray, List.set_cons_zero, List.set_cons_succ]
                            refine tkA (i := 7) (v := .pointer (some ⟨b8, o8 + i3, none⟩)) ?_ hHeld ?_
                            · intro w9 hSw
                              obtain ⟨s1, s2⟩ := hSw
                              simp only [List.getElem_toArray, List.getElem_cons_succ, List.getElem_cons_zero]
                              go_simp
                            simp only [Act.put, List.getElem_toArray, List.getElem_cons_succ, List.getElem_cons_zero, List.setIfInBounds_toArray, List.set_cons_zero, List.set_cons_succ]
                            refine tkA (i := 8) (v := .string s) ?_ hHeld ?_
                            · intro w9 hSw
                              obtain ⟨s1, s2⟩ := hSw
                              simp only [List.getElem_toArray, List.getElem_cons_succ, List.getElem_cons_zero]
                              go_simp
                            simp only [Act.put, List.getElem_toArray, List.getElem_cons_succ, List.getElem_cons_zero, List.setIfInBounds_toArray, List.set_cons_zero, List.set_cons_succ]
                            refine wpAnyH_ready (rs := [9, 13]) (by kernel_rfl) (by simp) ?_
                            refine AllReadyH.cons rfl (fun K hK => ?_) (AllReadyH.cons rfl (fun K hK => ?_) AllReadyH.nil)
                            · go_simp
                              refine (CXN wr.drew (Below.refl _ _).drew).mono ?_
                              rintro e w5 ⟨a5, n5, c5, rfl, hl5, hs5, hb5⟩
                              dsimp only
                              have HB5 : Hid (Below wr.heap.size wr w5) := (Below.refl _ _).drew.trans hb5
                              have K5 : Hid (Ns.length = n5 ∧ Src w5 a5 (cellsMl Ns)) := ⟨hl5, own_ml hs5⟩
                              have uc5 : w5.cell? ⟨PU, i2, none⟩ = some (.string v) := cell_later (w := wr.drew) hb5 uc
                              have sc5 : w5.cell? ⟨b8, o8 + i3, none⟩ = some (.string s) := cell_later (w := wr.drew) hb5 sc
                              clear hl5 hs5 hb5
                              refine hK _ _ ⟨uc5, sc5⟩ (fun hHeld => ?_)
                              clear hK K
                              refine tkA (i := 10) (v := .tuple #[.agg #[.string s, .int .i64 va9, .int .i64 nb9, .slice a5 n5 c5], .int .i64 0]) ?_ hHeld ?_
                              · intro w9 hSw
                                obtain ⟨s1, s2⟩ := hSw
                                simp only [List.getElem_toArray, List.getElem_cons_succ, List.getElem_cons_zero]
                                go_simp
                              simp only [Act.put, List.getElem_toArray, List.getElem_cons_succ, List.getElem_cons_zero, List.setIfInBounds_toArray, List.set_cons_zero, List.set_cons_succ]
                              refine tkA (i := 11) (v := .agg #[.string s, .int .i64 va9, .int .i64 nb9, .slice a5 n5 c5]) ?_ hHeld ?_
                              · intro w9 hSw
                                obtain ⟨s1, s2⟩ := hSw
                                simp only [List.getElem_toArray, List.getElem_cons_succ, List.getElem_cons_zero]
                                go_simp
                              simp only [Act.put, List.getElem_toArray, List.getElem_cons_succ, List.getElem_cons_zero, List.setIfInBounds_toArray, List.set_cons_zero, List.set_cons_succ]
                              refine tkA (i := 12) (v := .int .i64 0) ?_ hHeld ?_
                              · intro w9 hSw
                                obtain ⟨s1, s2⟩ := hSw
                                simp only [List.getElem_toArray, List.getElem_cons_succ, List.getElem_cons_zero]
                                go_simp
                              simp only [Act.put, List.getElem_toArray, List.getElem_cons_succ, List.getElem_cons_zero, List.setIfInBounds_toArray, List.set_cons_zero, List.set_cons_succ]
                              refine wpAnyH_ready (rs := [13]) (by kernel_rfl) (by simp) ?_
                              refine AllReadyH.cons rfl (fun K hK => ?_) AllReadyH.nil
                              go_simp
                              obtain ⟨w6, hw6⟩ : ∃ W, w5.alloc (.cells #[.string ⟨#[]⟩, .int .i64 0, .int .i64 0, .slice none 0 0] 28) = W := ⟨_, rfl⟩
                              have hbA : Below w5.heap.size w5 w6 := by rw [← hw6]; exact (Below.refl _ _).alloc (Nat.le_refl _) _
                              have XB : Hid (Box w6 w5.heap.size [.string ⟨#[]⟩, .int .i64 0, .int .i64 0, .slice none 0 0]) := by show Box _ _ _; rw [← hw6]; exact Box.new rfl
                              have HB : Hid (Below wr.heap.size wr w6) := HB5.out.trans (hbA.mono HB5.out.size)
                              have K6 : Hid (Src w6 a5 (cellsMl Ns)) := K5.out.2.below hbA
                              rw [hw6]
                              clear hw6
                              refine hK _ _ ⟨cell_later (w := wr) HB.out uc, cell_later (w := wr) HB.out sc⟩ (fun hHeld => ?_)
                              clear hK K
                              have KX : ∀ W, Below w5.heap.size w5 W → Src W a5 (cellsMl Ns) := fun W hW => K5.out.2.below hW
                              have HX : Below w5.heap.size w5 w6 := hbA
                              obtain ⟨f0, f0'⟩ := XB.out 0 _ rfl
                              obtain ⟨f1, f1'⟩ := XB.out 1 _ rfl
                              obtain ⟨f2, f2'⟩ := XB.out 2 _ rfl
                              obtain ⟨f3, f3'⟩ := XB.out 3 _ rfl
                              refine wpAnyH_ready (rs := [14]) (by kernel_rfl) (by simp) ?_
                              refine AllReadyH.cons rfl (fun K hK => ?_) AllReadyH.nil
                              go_simp
                              have HF3 : Below wr.heap.size wr (((((w6).setCell ⟨w5.heap.size, 0, none⟩ (.string s)).setCell ⟨w5.heap.size, 1, none⟩ (.int .i64 va9)).setCell ⟨w5.heap.size, 2, none⟩ (.int .i64 nb9)).setCell ⟨w5.heap.size, 3, none⟩ (.slice a5 n5 c5)) := (((HB.out.setCell HB5.out.size _).setCell HB5.out.size _).setCell HB5.out.size _).setCell HB5.out.size _
                              have BF3 : Box (((((w6).setCell ⟨w5.heap.size, 0, none⟩ (.string s)).setCell ⟨w5.heap.size, 1, none⟩ (.int .i64 va9)).setCell ⟨w5.heap.size, 2, none⟩ (.int .i64 nb9)).setCell ⟨w5.heap.size, 3, none⟩ (.slice a5 n5 c5)) (w5.heap.size) [.string s, .int .i64 va9, .int .i64 nb9, .slice a5 n5 c5] := (((XB.out.set 0 (.string s)).set 1 (.int .i64 va9)).set 2 (.int .i64 nb9)).set 3 (.slice a5 n5 c5)
                              have KF3 : Src (((((w6).setCell ⟨w5.heap.size, 0, none⟩ (.string s)).setCell ⟨w5.heap.size, 1, none⟩ (.int .i64 va9)).setCell ⟨w5.heap.size, 2, none⟩ (.int .i64 nb9)).setCell ⟨w5.heap.size, 3, none⟩ (.slice a5 n5 c5)) a5 (cellsMl Ns) := KX _ ((((HX.setCell (Nat.le_refl _) _).setCell (Nat.le_refl _) _).setCell (Nat.le_refl _) _).setCell (Nat.le_refl _) _)
                              refine hK _ _ ⟨cell_later (w := wr) HF3 uc, cell_later (w := wr) HF3 sc⟩ (fun hHeld => ?_)
                              clear hK K
                              refine wpAnyH_ready (rs := [15]) (by kernel_rfl) (by simp) ?_
                              refine AllReadyH.cons rfl (fun K hK => ?_) AllReadyH.nil
                              go_simp
                              refine hK _ _ ⟨cell_later (w := wr) HF3 uc, cell_later (w := wr) HF3 sc⟩ (fun hHeld => ?_)
                              clear hK K
                              refine wpAnyH_done (by kernel_rfl) ?_ _
                              refine NoPanic.normal ?_
                              clear hHeld
                              go_wp2_with fail
                              go_meet
                              exact ⟨_, a5, n5, c5, rfl, rfl, BF3, ⟨K5.out.1, KF3⟩, HF3⟩
                            · go_simp
                              refine hK _ _ ⟨ucA, scA⟩ (fun hHeld => ?_)
                              clear hK K
                              have ZA : Below wr.heap.size wr (wr.alloc (.cells #[.string ⟨#[]⟩, .int .i64 0, .int .i64 0, .slice none 0 0] 28)).drew := ((Below.refl _ _).alloc (Nat.le_refl _) _).drew
                              have CX2 := CXN _ ZA
                              refine wpAnyH_ready (rs := [9]) (by kernel_rfl) (by simp) ?_
                              refine AllReadyH.cons rfl (fun K hK => ?_) AllReadyH.nil
                              go_simp
                              refine CX2.mono ?_
                              rintro e w5 ⟨a5, n5, c5, rfl, hl5, hs5, hb5⟩
                              dsimp only
                              have HB : Hid (Below wr.heap.size wr w5) := ZA.trans (hb5.mono ZA.size)
                              have uc5 : w5.cell? ⟨PU, i2, none⟩ = some (.string v) := cell_later (w := (wr.alloc (.cells #[.string ⟨#[]⟩, .int .i64 0, .int .i64 0, .slice none 0 0] 28)).drew) hb5 ucA
                              have sc5 : w5.cell? ⟨b8, o8 + i3, none⟩ = some (.string s) := cell_later (w := (wr.alloc (.cells #[.string ⟨#[]⟩, .int .i64 0, .int .i64 0, .slice none 0 0] 28)).drew) hb5 scA
                              have XB : Hid (Box w5 wr.heap.size [.string ⟨#[]⟩, .int .i64 0, .int .i64 0, .slice none 0 0]) := Box.below (w := (wr.alloc (.cells #[.string ⟨#[]⟩, .int .i64 0, .int .i64 0, .slice none 0 0] 28)).drew) (Box.new rfl) hb5
                              have K5 : Hid (Ns.length = n5 ∧ w5.ownsRow (wr.heap.size + 1) 37 3 (.slice a5 n5 c5) n5 (cellsMl Ns)) := ⟨hl5, by have h9 := hs5; simpa using h9⟩
                              clear hl5 hs5 hb5
                              refine hK _ _ ⟨uc5, sc5⟩ (fun hHeld => ?_)
                              clear hK K
                              refine tkA (i := 10) (v := .tuple #[.agg #[.string s, .int .i64 va9, .int .i64 nb9, .slice a5 n5 c5], .int .i64 0]) ?_ hHeld ?_
                              · intro w9 hSw
                                obtain ⟨s1, s2⟩ := hSw
                                simp only [List.getElem_toArray, List.getElem_cons_succ, List.getElem_cons_zero]
                                go_simp
                              simp only [Act.put, List.getElem_toArray, List.getElem_cons_succ, List.getElem_cons_zero, List.setIfInBounds_toArray, List.set_cons_zero, List.set_cons_succ]
                              refine tkA (i := 11) (v := .agg #[.string s, .int .i64 va9, .int .i64 nb9, .slice a5 n5 c5]) ?_ hHeld ?_
                              · intro w9 hSw
                                obtain ⟨s1, s2⟩ := hSw
                                simp only [List.getElem_toArray, List.getElem_cons_succ, List.getElem_cons_zero]
                                go_simp
                              simp only [Act.put, List.getElem_toArray, List.getElem_cons_succ, List.getElem_cons_zero, List.setIfInBounds_toArray, List.set_cons_zero, List.set_cons_succ]
                              refine tkA (i := 12) (v := .int .i64 0) ?_ hHeld ?_
                              · intro w9 hSw
                                obtain ⟨s1, s2⟩ := hSw
                                simp only [List.getElem_toArray, List.getElem_cons_succ, List.getElem_cons_zero]
                                go_simp
                              simp only [Act.put, List.getElem_toArray, List.getElem_cons_succ, List.getElem_cons_zero, List.setIfInBounds_toArray, List.set_cons_zero, List.set_cons_succ]
                              obtain ⟨f0, f0'⟩ := XB.out 0 _ rfl
                              obtain ⟨f1, f1'⟩ := XB.out 1 _ rfl
                              obtain ⟨f2, f2'⟩ := XB.out 2 _ rfl
                              obtain ⟨f3, f3'⟩ := XB.out 3 _ rfl
                              refine wpAnyH_ready (rs := [14]) (by kernel_rfl) (by simp) ?_
                              refine AllReadyH.cons rfl (fun K hK => ?_) AllReadyH.nil
                              go_simp
                              have HF3 : Below wr.heap.size wr (((((w5).setCell ⟨wr.heap.size, 0, none⟩ (.string s)).setCell ⟨wr.heap.size, 1, none⟩ (.int .i64 va9)).setCell ⟨wr.heap.size, 2, none⟩ (.int .i64 nb9)).setCell ⟨wr.heap.size, 3, none⟩ (.slice a5 n5 c5)) := (((HB.out.setCell (Nat.le_refl _) _).setCell (Nat.le_refl _) _).setCell (Nat.le_refl _) _).setCell (Nat.le_refl _) _
                              have BF3 : Box (((((w5).setCell ⟨wr.heap.size, 0, none⟩ (.string s)).setCell ⟨wr.heap.size, 1, none⟩ (.int .i64 va9)).setCell ⟨wr.heap.size, 2, none⟩ (.int .i64 nb9)).setCell ⟨wr.heap.size, 3, none⟩ (.slice a5 n5 c5)) (wr.heap.size) [.string s, .int .i64 va9, .int .i64 nb9, .slice a5 n5 c5] := (((XB.out.set 0 (.string s)).set 1 (.int .i64 va9)).set 2 (.int .i64 nb9)).set 3 (.slice a5 n5 c5)
                              have KF3 : Src (((((w5).setCell ⟨wr.heap.size, 0, none⟩ (.string s)).setCell ⟨wr.heap.size, 1, none⟩ (.int .i64 va9)).setCell ⟨wr.heap.size, 2, none⟩ (.int .i64 nb9)).setCell ⟨wr.heap.size, 3, none⟩ (.slice a5 n5 c5)) a5 (cellsMl Ns) := own_ml (own_w4 K5.out.2 (Nat.lt_succ_self _) _ _ _ _)
                              refine hK _ _ ⟨cell_later (w := wr) HF3 uc, cell_later (w := wr) HF3 sc⟩ (fun hHeld => ?_)
                              clear hK K
                              refine wpAnyH_ready (rs := [15]) (by kernel_rfl) (by simp) ?_
                              refine AllReadyH.cons rfl (fun K hK => ?_) AllReadyH.nil
                              go_simp
                              refine hK _ _ ⟨cell_later (w := wr) HF3 uc, cell_later (w := wr) HF3 sc⟩ (fun hHeld => ?_)
                              clear hK K
                              refine wpAnyH_done (by kernel_rfl) ?_ _
                              refine NoPanic.normal ?_
                              clear hHeld
                              go_wp2_with fail
                              go_meet
                              exact ⟨_, a5, n5, c5, rfl, rfl, BF3, ⟨K5.out.1, KF3⟩, HF3⟩
                          case rest =>
                            obtain ⟨p, a5, n5, c5, rfl, rfl, BP, KP, HP⟩ := hcut
                            have CXR := fun (W : World) (hW : Below wc.heap.size wc W) => CXR0 W (HP.out.trans (hW.mono HP.out.size))
                            have uc0 := uc
                            have sc0 := sc
                            have uc : wc.cell? ⟨PU, i2, none⟩ = some (.string v) := cell_later (w := wr) HP.out uc0
                            have sc : wc.cell? ⟨b8, o8 + i3, none⟩ = some (.string s) := cell_later (w := wr) HP.out sc0
                            clear uc0 sc0 CXN CXR0
                            go_wp2_with fail
                            go_cut [30, 31] from 215 to 272 (fun c30 c31 wx => ∃ (p : Nat) (a5 : Option Addr) (n5 c5 : Nat), c30 = .pointer (some ⟨p, 0, none⟩) ∧ c31 = .int .i64 0 ∧ Hid (Box wx p [.string s, .int .i64 va9, .int .i64 nb9, .slice a5 n5 c5]) ∧ Hid (Ns.length = n5 ∧ Src wx a5 (cellsMl Ns)) ∧ Hid (Below wc.heap.size wc wx))
                            case first =>
                              have ucA : (wc.alloc (.cells #[.string ⟨#[]⟩, .int .i64 0, .int .i64 0, .slice none 0 0] 28)).cell? ⟨PU, i2, none⟩ = some (.string v) := cell_later (w := wc) ((Below.refl _ _).alloc (Nat.le_refl _) _) uc
                              have scA : (wc.alloc (.cells #[.string ⟨#[]⟩, .int .i64 0, .int .i64 0, .slice none 0 0] 28)).cell? ⟨b8, o8 + i3, none⟩ = some (.string s) := cell_later (w := wc) ((Below.refl _ _).alloc (Nat.le_refl _) _) sc
                              refine wp_region_noPanic ?_
                              refine wp_region_held_drew (S := fun w' => w'.cell? ⟨PU, i2, none⟩ = some (.string v) ∧ w'.cell? ⟨b8, o8 + i3, none⟩ = some (.string s)) (by kernel_rfl) ⟨uc, sc⟩ (fun hHeld => ?_)
                              refine tkA (i := 0) (v := .slice a6 l7 c6) ?_ hHeld ?_
                              · intro w9 hSw
                                obtain ⟨s1, s2⟩ := hSw
                                simp only [List.getElem_toArray, List.getElem_cons_succ, List.getElem_cons_zero]
                                go_simp
                              simp only [Act.put, List.getElem_toArray, List.getElem_cons_succ, List.getElem_cons_zero, List.setIfInBounds_toArray, List.set_cons_zero, List.set_cons_succ]
                              refine tkA (i := 1) (v := .slice (some ⟨PU, 0, none⟩) 2 2) ?_ hHeld ?_
                              · intro w9 hSw
                                obtain ⟨s1, s2⟩ := hSw
                                simp only [List.getElem_toArray, List.getElem_cons_succ, List.getElem_cons_zero]
                                go_simp
                              simp only [Act.put, List.getElem_toArray, List.getElem_cons_succ, List.getElem_cons_zero, List.setIfInBounds_toArray, List.set_cons_zero, List.set_cons_succ]
                              refine tkA (i := 2) (v := .int .i64 (i2 : Int)) ?_ hHeld ?_
                              · intro w9 hSw
                                obtain ⟨s1, s2⟩ := hSw
                                simp only [List.getElem_toArray, List.getElem_cons_succ, List.getElem_cons_zero]
                                go_simp
                              simp only [Act.put, List.getElem_toArray, List.getElem_cons_succ, List.getElem_cons_zero, List.setIfInBounds_toArray, List.set_cons_zero, List.set_cons_succ]
                              refine tkA (i := 3) (v := .pointer (some ⟨PU, i2, none⟩)) ?_ hHeld ?_
                              · intro w9 hSw
                                obtain ⟨s1, s2⟩ := hSw
                                simp only [List.getElem_toArray, List.getElem_cons_succ, List.getElem_cons_zero]
                                go_simp
                              simp only [Act.put, List.getElem_toArray, List.getElem_cons_succ, List.getElem_cons_zero, List.setIfInBounds_toArray, List.set_cons_zero, List.set_cons_succ]
                              refine tkA (i := 4) (v := .string v) ?_ hHeld ?_
                              · intro w9 hSw
                                obtain ⟨s1, s2⟩ := hSw
                                simp only [List.getElem_toArray, List.getElem_cons_succ, List.getElem_cons_zero]
                                go_simp
                              simp only [Act.put, List.getElem_toArray, List.getElem_cons_succ, List.getElem_cons_zero, List.setIfInBounds_toArray, List.set_cons_zero, List.set_cons_succ]
                              refine tkA (i := 5) (v := .slice (some ⟨b8, o8, none⟩) tn c16) ?_ hHeld ?_
                              · intro w9 hSw
                                obtain ⟨s1, s2⟩ := hSw
                                simp only [List.getElem_toArray, List.getElem_cons_succ, List.getElem_cons_zero]
                                go_simp
                              simp only [Act.put, List.getElem_toArray, List.getElem_cons_succ, List.getElem_cons_zero, List.setIfInBounds_toArray, List.set_cons_zero, List.set_cons_succ]
                              refine tkA (i := 6) (v := .int .i64 (i3 : Int)) ?_ hHeld ?_
                              · intro w9 hSw
                                obtain ⟨s1, s2⟩ := hSw
                                simp only [List.getElem_toArray, List.getElem_cons_succ, List.getElem_cons_zero]
                                go_simp
                              simp only [Act.put, List.getElem_toArray, List.getElem_cons_succ, List.getElem_cons_zero, List.setIfInBounds_toArray, List.set_cons_zero, List.set_cons_succ]
                              refine tkA (i := 7) (v := .pointer (some ⟨b8, o8 + i3, none⟩)) ?_ hHeld ?_
                              · intro w9 hSw
                                obtain ⟨s1, s2⟩ := hSw
                                simp only [List.getElem_toArray, List.getElem_cons_succ, List.getElem_cons_zero]
                                go_simp
                              simp only [Act.put, List.getElem_toArray, List.getElem_cons_succ, List.getElem_cons_zero, List.setIfInBounds_toArray, List.set_cons_zero, List.set_cons_succ]
                              refine tkA (i := 8) (v := .string s) ?_ hHeld ?_
                              · intro w9 hSw
                                obtain ⟨s1, s2⟩ := hSw
                                simp only [List.getElem_toArray, List.getElem_cons_succ, List.getElem_cons_zero]
                                go_simp
                              simp only [Act.put, List.getElem_toArray, List.getElem_cons_succ, List.getElem_cons_zero, List.setIfInBounds_toArray, List.set_cons_zero, List.set_cons_succ]
                              refine wpAnyH_ready (rs := [9, 13]) (by kernel_rfl) (by simp) ?_
                              refine AllReadyH.cons rfl (fun K hK => ?_) (AllReadyH.cons rfl (fun K hK => ?_) AllReadyH.nil)
                              · go_simp
                                refine (CXR wc.drew (Below.refl _ _).drew).mono ?_
                                rintro e w5 ⟨a5, n5, c5, rfl, hl5, hs5, hb5⟩
                                dsimp only
                                have HB5 : Hid (Below wc.heap.size wc w5) := (Below.refl _ _).drew.trans hb5
                                have K5 : Hid (Ns.length = n5 ∧ Src w5 a5 (cellsMl Ns)) := ⟨hl5, own_ml hs5⟩
                                have uc5 : w5.cell? ⟨PU, i2, none⟩ = some (.string v) := cell_later (w := wc.drew) hb5 uc
                                have sc5 : w5.cell? ⟨b8, o8 + i3, none⟩ = some (.string s) := cell_later (w := wc.drew) hb5 sc
                                clear hl5 hs5 hb5
                                refine hK _ _ ⟨uc5, sc5⟩ (fun hHeld => ?_)
                                clear hK K
                                refine tkA (i := 10) (v := .tuple #[.agg #[.string s, .int .i64 va9, .int .i64 nb9, .slice a5 n5 c5], .int .i64 0]) ?_ hHeld ?_
                                · intro w9 hSw
                                  obtain ⟨s1, s2⟩ := hSw
                                  simp only [List.getElem_toArray, List.getElem_cons_succ, List.getElem_cons_zero]
                                  go_simp
                                simp only [Act.put, List.getElem_toArray, List.getElem_cons_succ, List.getElem_cons_zero, List.setIfInBounds_toArray, List.set_cons_zero, List.set_cons_succ]
                                refine tkA (i := 11) (v := .agg #[.string s, .int .i64 va9, .int .i64 nb9, .slice a5 n5 c5]) ?_ hHeld ?_
                                · intro w9 hSw
                                  obtain ⟨s1, s2⟩ := hSw
                                  simp only [List.getElem_toArray, List.getElem_cons_succ, List.getElem_cons_zero]
                                  go_simp
                                simp only [Act.put, List.getElem_toArray, List.getElem_cons_succ, List.getElem_cons_zero, List.setIfInBounds_toArray, List.set_cons_zero, List.set_cons_succ]
                                refine tkA (i := 12) (v := .int .i64 0) ?_ hHeld ?_
                                · intro w9 hSw
                                  obtain ⟨s1, s2⟩ := hSw
                                  simp only [List.getElem_toArray, List.getElem_cons_succ, List.getElem_cons_zero]
                                  go_simp
                                simp only [Act.put, List.getElem_toArray, List.getElem_cons_succ, List.getElem_cons_zero, List.setIfInBounds_toArray, List.set_cons_zero, List.set_cons_succ]
                                refine wpAnyH_ready (rs := [13]) (by kernel_rfl) (by simp) ?_
                                refine AllReadyH.cons rfl (fun K hK => ?_) AllReadyH.nil
                                go_simp
                                obtain ⟨w6, hw6⟩ : ∃ W, w5.alloc (.cells #[.string ⟨#[]⟩, .int .i64 0, .int .i64 0, .slice none 0 0] 28) = W := ⟨_, rfl⟩
                                have hbA : Below w5.heap.size w5 w6 := by rw [← hw6]; exact (Below.refl _ _).alloc (Nat.le_refl _) _
                                have XB : Hid (Box w6 w5.heap.size [.string ⟨#[]⟩, .int .i64 0, .int .i64 0, .slice none 0 0]) := by show Box _ _ _; rw [← hw6]; exact Box.new rfl
                                have HB : Hid (Below wc.heap.size wc w6) := HB5.out.trans (hbA.mono HB5.out.size)
                                have K6 : Hid (Src w6 a5 (cellsMl Ns)) := K5.out.2.below hbA
                                rw [hw6]
                                clear hw6
                                refine hK _ _ ⟨cell_later (w := wc) HB.out uc, cell_later (w := wc) HB.out sc⟩ (fun hHeld => ?_)
                                clear hK K
                                have KX : ∀ W, Below w5.heap.size w5 W → Src W a5 (cellsMl Ns) := fun W hW => K5.out.2.below hW
                                have HX : Below w5.heap.size w5 w6 := hbA
                                obtain ⟨f0, f0'⟩ := XB.out 0 _ rfl
                                obtain ⟨f1, f1'⟩ := XB.out 1 _ rfl
                                obtain ⟨f2, f2'⟩ := XB.out 2 _ rfl
                                obtain ⟨f3, f3'⟩ := XB.out 3 _ rfl
                                refine wpAnyH_ready (rs := [14]) (by kernel_rfl) (by simp) ?_
                                refine AllReadyH.cons rfl (fun K hK => ?_) AllReadyH.nil
                                go_simp
                                have HF3 : Below wc.heap.size wc (((((w6).setCell ⟨w5.heap.size, 0, none⟩ (.string s)).setCell ⟨w5.heap.size, 1, none⟩ (.int .i64 va9)).setCell ⟨w5.heap.size, 2, none⟩ (.int .i64 nb9)).setCell ⟨w5.heap.size, 3, none⟩ (.slice a5 n5 c5)) := (((HB.out.setCell HB5.out.size _).setCell HB5.out.size _).setCell HB5.out.size _).setCell HB5.out.size _
                                have BF3 : Box (((((w6).setCell ⟨w5.heap.size, 0, none⟩ (.string s)).setCell ⟨w5.heap.size, 1, none⟩ (.int .i64 va9)).setCell ⟨w5.heap.size, 2, none⟩ (.int .i64 nb9)).setCell ⟨w5.heap.size, 3, none⟩ (.slice a5 n5 c5)) (w5.heap.size) [.string s, .int .i64 va9, .int .i64 nb9, .slice a5 n5 c5] := (((XB.out.set 0 (.string s)).set 1 (.int .i64 va9)).set 2 (.int .i64 nb9)).set 3 (.slice a5 n5 c5)
                                have KF3 : Src (((((w6).setCell ⟨w5.heap.size, 0, none⟩ (.string s)).setCell ⟨w5.heap.size, 1, none⟩ (.int .i64 va9)).setCell ⟨w5.heap.size, 2, none⟩ (.int .i64 nb9)).setCell ⟨w5.heap.size, 3, none⟩ (.slice a5 n5 c5)) a5 (cellsMl Ns) := KX _ ((((HX.setCell (Nat.le_refl _) _).setCell (Nat.le_refl _) _).setCell (Nat.le_refl _) _).setCell (Nat.le_refl _) _)
                                refine hK _ _ ⟨cell_later (w := wc) HF3 uc, cell_later (w := wc) HF3 sc⟩ (fun hHeld => ?_)
                                clear hK K
                                refine wpAnyH_ready (rs := [15]) (by kernel_rfl) (by simp) ?_
                                refine AllReadyH.cons rfl (fun K hK => ?_) AllReadyH.nil
                                go_simp
                                refine hK _ _ ⟨cell_later (w := wc) HF3 uc, cell_later (w := wc) HF3 sc⟩ (fun hHeld => ?_)
                                clear hK K
                                refine wpAnyH_done (by kernel_rfl) ?_ _
                                refine NoPanic.normal ?_
                                clear hHeld
                                go_wp2_with fail
                                go_meet
                                exact ⟨_, a5, n5, c5, rfl, rfl, BF3, ⟨K5.out.1, KF3⟩, HF3⟩
                              · go_simp
                                refine hK _ _ ⟨ucA, scA⟩ (fun hHeld => ?_)
                                clear hK K
                                have ZA : Below wc.heap.size wc (wc.alloc (.cells #[.string ⟨#[]⟩, .int .i64 0, .int .i64 0, .slice none 0 0] 28)).drew := ((Below.refl _ _).alloc (Nat.le_refl _) _).drew
                                have CX2 := CXR _ ZA
                                refine wpAnyH_ready (rs := [9]) (by kernel_rfl) (by simp) ?_
                                refine AllReadyH.cons rfl (fun K hK => ?_) AllReadyH.nil
                                go_simp
                                refine CX2.mono ?_
                                rintro e w5 ⟨a5, n5, c5, rfl, hl5, hs5, hb5⟩
                                dsimp only
                                have HB : Hid (Below wc.heap.size wc w5) := ZA.trans (hb5.mono ZA.size)
                                have uc5 : w5.cell? ⟨PU, i2, none⟩ = some (.string v) := cell_later (w := (wc.alloc (.cells #[.string ⟨#[]⟩, .int .i64 0, .int .i64 0, .slice none 0 0] 28)).drew) hb5 ucA
                                have sc5 : w5.cell? ⟨b8, o8 + i3, none⟩ = some (.string s) := cell_later (w := (wc.alloc (.cells #[.string ⟨#[]⟩, .int .i64 0, .int .i64 0, .slice none 0 0] 28)).drew) hb5 scA
                                have XB : Hid (Box w5 wc.heap.size [.string ⟨#[]⟩, .int .i64 0, .int .i64 0, .slice none 0 0]) := Box.below (w := (wc.alloc (.cells #[.string ⟨#[]⟩, .int .i64 0, .int .i64 0, .slice none 0 0] 28)).drew) (Box.new rfl) hb5
                                have K5 : Hid (Ns.length = n5 ∧ w5.ownsRow (wc.heap.size + 1) 37 3 (.slice a5 n5 c5) n5 (cellsMl Ns)) := ⟨hl5, by have h9 := hs5; simpa using h9⟩
                                clear hl5 hs5 hb5
                                refine hK _ _ ⟨uc5, sc5⟩ (fun hHeld => ?_)
                                clear hK K
                                refine tkA (i := 10) (v := .tuple #[.agg #[.string s, .int .i64 va9, .int .i64 nb9, .slice a5 n5 c5], .int .i64 0]) ?_ hHeld ?_
                                · intro w9 hSw
                                  obtain ⟨s1, s2⟩ := hSw
                                  simp only [List.getElem_toArray, List.getElem_cons_succ, List.getElem_cons_zero]
                                  go_simp
                                simp only [Act.put, List.getElem_toArray, List.getElem_cons_succ, List.getElem_cons_zero, List.setIfInBounds_toArray, List.set_cons_zero, List.set_cons_succ]
                                refine tkA (i := 11) (v := .agg #[.string s, .int .i64 va9, .int .i64 nb9, .slice a5 n5 c5]) ?_ hHeld ?_
                                · intro w9 hSw
                                  obtain ⟨s1, s2⟩ := hSw
                                  simp only [List.getElem_toArray, List.getElem_cons_succ, List.getElem_cons_zero]
                                  go_simp
                                simp only [Act.put, List.getElem_toArray, List.getElem_cons_succ, List.getElem_cons_zero, List.setIfInBounds_toArray, List.set_cons_zero, List.set_cons_succ]
                                refine tkA (i := 12) (v := .int .i64 0) ?_ hHeld ?_
                                · intro w9 hSw
                                  obtain ⟨s1, s2⟩ := hSw
                                  simp only [List.getElem_toArray, List.getElem_cons_succ, List.getElem_cons_zero]
                                  go_simp
                                simp only [Act.put, List.getElem_toArray, List.getElem_cons_succ, List.getElem_cons_zero, List.setIfInBounds_toArray, List.set_cons_zero, List.set_cons_succ]
                                obtain ⟨f0, f0'⟩ := XB.out 0 _ rfl
                                obtain ⟨f1, f1'⟩ := XB.out 1 _ rfl
                                obtain ⟨f2, f2'⟩ := XB.out 2 _ rfl
                                obtain ⟨f3, f3'⟩ := XB.out 3 _ rfl
                                refine wpAnyH_ready (rs := [14]) (by kernel_rfl) (by simp) ?_
                                refine AllReadyH.cons rfl (fun K hK => ?_) AllReadyH.nil
                                go_simp
                                have HF3 : Below wc.heap.size wc (((((w5).setCell ⟨wc.heap.size, 0, none⟩ (.string s)).setCell ⟨wc.heap.size, 1, none⟩ (.int .i64 va9)).setCell ⟨wc.heap.size, 2, none⟩ (.int .i64 nb9)).setCell ⟨wc.heap.size, 3, none⟩ (.slice a5 n5 c5)) := (((HB.out.setCell (Nat.le_refl _) _).setCell (Nat.le_refl _) _).setCell (Nat.le_refl _) _).setCell (Nat.le_refl _) _
                                have BF3 : Box (((((w5).setCell ⟨wc.heap.size, 0, none⟩ (.string s)).setCell ⟨wc.heap.size, 1, none⟩ (.int .i64 va9)).setCell ⟨wc.heap.size, 2, none⟩ (.int .i64 nb9)).setCell ⟨wc.heap.size, 3, none⟩ (.slice a5 n5 c5)) (wc.heap.size) [.string s, .int .i64 va9, .int .i64 nb9, .slice a5 n5 c5] := (((XB.out.set 0 (.string s)).set 1 (.int .i64 va9)).set 2 (.int .i64 nb9)).set 3 (.slice a5 n5 c5)
                                have KF3 : Src (((((w5).setCell ⟨wc.heap.size, 0, none⟩ (.string s)).setCell ⟨wc.heap.size, 1, none⟩ (.int .i64 va9)).setCell ⟨wc.heap.size, 2, none⟩ (.int .i64 nb9)).setCell ⟨wc.heap.size, 3, none⟩ (.slice a5 n5 c5)) a5 (cellsMl Ns) := own_ml (own_w4 K5.out.2 (Nat.lt_succ_self _) _ _ _ _)
                                refine hK _ _ ⟨cell_later (w := wc) HF3 uc, cell_later (w := wc) HF3 sc⟩ (fun hHeld => ?_)
                                clear hK K
                                refine wpAnyH_ready (rs := [15]) (by kernel_rfl) (by simp) ?_
                                refine AllReadyH.cons rfl (fun K hK => ?_) AllReadyH.nil
                                go_simp
                                refine hK _ _ ⟨cell_later (w := wc) HF3 uc, cell_later (w := wc) HF3 sc⟩ (fun hHeld => ?_)
                                clear hK K
                                refine wpAnyH_done (by kernel_rfl) ?_ _
                                refine NoPanic.normal ?_
                                clear hHeld
                                go_wp2_with fail
                                go_meet
                                exact ⟨_, a5, n5, c5, rfl, rfl, BF3, ⟨K5.out.1, KF3⟩, HF3⟩
                            case rest =>
                              obtain ⟨p2, a7, n7, c7, rfl, rfl, BP2, KP2, HP2⟩ := hcut
                              obtain rfl : n7 = n5 := by rw [← KP2.out.1, ← KP.out.1]
                              have BP3 := Box.below BP.out HP2.out
                              have L18 : Hid (Below w16.heap.size w16 wc) := (hby.out.trans (HP.out.mono hby.out.size)).trans (HP2.out.mono (hby.out.trans (HP.out.mono hby.out.size)).size)
                              obtain ⟨p0, _⟩ := BP3 0 _ rfl
                              obtain ⟨p1, _⟩ := BP3 1 _ rfl
                              obtain ⟨p2', _⟩ := BP3 2 _ rfl
                              obtain ⟨p3, _⟩ := BP3 3 _ rfl
                              obtain ⟨r0, _⟩ := BP2.out 0 _ rfl
                              obtain ⟨r1, _⟩ := BP2.out 1 _ rfl
                              obtain ⟨r2, _⟩ := BP2.out 2 _ rfl
                              obtain ⟨r3, _⟩ := BP2.out 3 _ rfl
                              have hn9 : n7 ≤ 1048576 := by rw [← KP2.out.1]; omega
                              have CSF := sameFolderM s va9 nb9 a5 a7 n7 c5 c7 Ns wc KP2.out.1 hn9 (KP.out.2.below HP2.out) KP2.out.2
                              clear BP3 CXR uc sc hvb hn9
                              go_wp2_with fail
                              refine CSF.mono ?_
                              rintro e w20 ⟨rfl, hb20⟩
                              have L20 : Hid (Below w16.heap.size w16 w20) := L18.out.trans (hb20.mono L18.out.size)
                              clear hb20 CSF
                              go_wp2_with fail
                              exact ⟨⟨i3 + 1, by omega, by go_num, L20.out⟩, by simp [RowKit.intOf]; omega⟩

end Go.Proofs.YthgbclipknfmjaaGreatDoor
