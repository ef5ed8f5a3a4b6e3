
/- The walk. By an AI agent. -/
import Derived.Test.YthgbclipknfmjaaGreatDoorFu24
import Derived.BigQuiet
import Derived.Deep.QuietTactic
namespace Go.Proofs.YthgbclipknfmjaaGreatDoor
open Go.ChangeShapes Go.WideShapes Go.ChangeAt Go.RowKit Go.Deep Go.Lib
set_option linter.unusedVariables false
set_option linter.unusedSimpArgs false
set_option maxRecDepth 100000

theorem own_byte (w : World) (x : Nat) : (w.alloc (.cells #[.int .u8 ((x : Nat) : Int)] 5)).ownsRow w.heap.size 5 1 (.slice (some ⟨w.heap.size, 0, none⟩) 1 1) 1 (cellsB [x]) := ⟨rfl, .inr ⟨w.heap.size, 1, _, rfl, Nat.le_refl _, heap_alloc_new w _, Nat.le_refl _, by unfold maxLen; omega, rfl, by simp [cellsB]⟩⟩
theorem store_small {L : List PM} (h : storeB L = true) : L.length ≤ 60 ∧ ∀ x ∈ L, x.1.size ≤ 1048576 ∧ x.2.size ≤ 1048576 := by
  have hg := (store_facts h).1
  exact ⟨hg.1, fun x hx => by have := hg.2.1 x hx; omega⟩
/-- A list that lies somewhere. -/
def At (w : World) (a : Option Addr) (L : List PM) (n c : Nat) : Prop := L.length = n ∧ n ≤ c ∧ c ≤ maxLen ∧ Src w a (cellsP L)
theorem At.below {w w' : World} {a : Option Addr} {L : List PM} {n c : Nat} (h : At w a L n c) (hb : Below w.heap.size w w') : At w' a L n c := ⟨h.1, h.2.1, h.2.2.1, h.2.2.2.below hb⟩
theorem At.own {w : World} {v : Value} {L : List PM} {base : Nat} (h : w.ownsRow base 68 2 v L.length (cellsP L)) : ∃ a n c, v = .slice a n c ∧ At w a L n c := by
  obtain ⟨a, c, rfl, hs, _⟩ := own_src h
  exact ⟨a, _, c, rfl, rfl, (own_capx h).1, (own_capx h).2, hs⟩
theorem At.le {w : World} {a : Option Addr} {L : List PM} {n c : Nat} (h : At w a L n c) (hs : storeB L = true) : n ≤ 60 := by
  have h1 := (store_small hs).1
  rw [h.1] at h1
  exact h1
theorem own_ml {w : World} {base n c : Nat} {a : Option Addr} {Ms : List MMl} (h : w.ownsRow base 37 3 (.slice a n c) n (cellsMl Ms)) : Src w a (cellsMl Ms) := by
  obtain ⟨a9, c9, e9, hs9, _⟩ := own_src h
  cases e9
  exact hs9
theorem fa_len {L : List PM} {u f : ByteArray} {va nx q : Int} {Ms : List MMl} {nm : ByteArray} (h : storeB L = true) (hfa : faM L u f = ((nm, va, nx, Ms), q)) : Ms.length ≤ 60 := by
  unfold faM at hfa
  split at hfa
  · split at hfa
    · rename_i hk hq
      obtain ⟨hst, hsu, hsf⟩ := ask_zero2 hk
      obtain ⟨S, hS, _, _⟩ := take_all hst (word_slash hsu)
      obtain ⟨hw, g, hl⟩ := known_zero hst (word_slash hsu) (word_slash hsf) hS hq
      rw [hS] at hfa
      have h1 : ((faG (lookF f S.fs), (0 : Int)) : (ByteArray × Int × Int × List MMl) × Int) = ((nm, va, nx, Ms), q) := hfa
      rw [hl] at h1
      have h2 : (g.name, g.val, g.next, g.mails) = (nm, va, nx, Ms) := congrArg Prod.fst h1
      injection h2 with _ h2
      injection h2 with _ h2
      injection h2 with _ h2
      have h3 := (store_sub hst hS g (lookF_mem hl).1).length_le
      rw [List.length_map, h2] at h3
      have h4 := (store_facts hst).1.1
      omega
    · have h2 := congrArg (fun x : (ByteArray × Int × Int × List MMl) × Int => x.1.2.2.2) hfa
      have h3 : [] = Ms := h2
      rw [← h3]
      simp
  · have h2 := congrArg (fun x : (ByteArray × Int × Int × List MMl) × Int => x.1.2.2.2) hfa
    have h3 : [] = Ms := h2
    rw [← h3]
    simp
theorem str_neR {x y : ByteArray} (h : y ≠ x) : (y.toList == x.toList) = false := beq_eq_false_iff_ne.2 fun e => h (by
  rw [ByteArray.toList_eq, ByteArray.toList_eq] at e
  exact bs_inj e)
theorem fa_call (a : Option Addr) (n c : Nat) (L : List PM) (x y : ByteArray) (w : World) (hL : L.length = n) (hn : n ≤ 1048576) (hs : ∀ x ∈ L, x.1.size ≤ 1048576 ∧ x.2.size ≤ 1048576) (h : Src w a (cellsP L)) (hx : x.size ≤ 1048576) (hy : y.size ≤ 1048576) (hG : Gl w) (h8 : 8 ≤ w.heap.size) (va nb : Int) (Ns : List MMl) (hf : faM L x y = ((y, va, nb, Ns), 0)) :
    Calls Tryz.prog 10 #[.slice a n c, .string x, .string y] w fun e w' => ∃ a' n' c', e = .returned (.tuple #[.agg #[.string y, .int .i64 va, .int .i64 nb, .slice a' n' c'], .int .i64 0]) ∧ Ns.length = n' ∧ w'.ownsRow w.heap.size 37 3 (.slice a' n' c') n' (cellsMl Ns) ∧ Below w.heap.size w w' := by
  refine (implFolderAt a n c L x y w hL hn hs h hx hy hG h8).mono ?_
  rintro e w' ⟨nm, va2, nx2, a', n', c', R, q, rfl, hfa, hR, ho, hb⟩
  have he := hfa.symm.trans hf
  injection he with he hq
  injection he with e1 he
  injection he with e2 he
  injection he with e3 e4
  subst e1 e2 e3 e4 hq
  exact ⟨a', n', c', rfl, hR, ho, hb⟩
set_option maxHeartbeats 16000000 in
theorem restoreUserWalk (a : Option Addr) (c : Nat) (C : List Nat) (ma : Option Addr) (mc : Nat) (M : List Nat) (w : World) (h : Src w a (cellsB C)) (hC9 : C.length ≤ maxLen) (hlt : ∀ x ∈ C, x < 256) (hm : Src w ma (cellsB M)) (hM9 : M.length ≤ maxLen) (hmt : ∀ x ∈ M, x < 256) (hG : Gl w) (h8 : 8 ≤ w.heap.size) :
    Calls Tryz.prog 5 #[.slice a C.length c, .slice ma M.length mc] w fun e w' => e = .returned (.bool true) ∧ Below w.heap.size w w' := by
  unfold maxLen at hC9 hM9
  obtain ⟨n, hn⟩ : ∃ n, C.length = n := ⟨_, rfl⟩
  obtain ⟨m, hm9⟩ : ∃ m, M.length = m := ⟨_, rfl⟩
  have HN0 : Hid (C.length = n ∧ (∀ x ∈ C, x < 256) ∧ Src w a (cellsB C)) := ⟨hn, hlt, h⟩
  have HM : Hid (M.length = m ∧ (∀ x ∈ M, x < 256) ∧ Src w ma (cellsB M)) := ⟨hm9, hmt, hm⟩
  have HG : Hid (Gl w) := hG
  rw [hn] at hC9
  rw [hm9] at hM9
  rw [hn, hm9]
  clear hlt h hn hG hmt hm hm9
  by_cases t1 : (1048576 : Int) < (n : Int)
  · go_enter Tryz.func5, Tryz.ntmps5
    go_wp2_with fail
    go_ret
    exact ⟨rfl, Below.refl _ _⟩
  by_cases t2 : (1048576 : Int) < (m : Int)
  · go_enter Tryz.func5, Tryz.ntmps5
    go_wp2_with fail
    go_ret
    exact ⟨rfl, Below.refl _ _⟩
  have n20 : n ≤ 1048576 := by omega
  have m20 : m ≤ 1048576 := by omega
  go_enter Tryz.func5, Tryz.ntmps5
  go_wp2_with fail
  refine (specMailsOf a n c C w HN0.out.1 n20 HN0.out.2.1 HN0.out.2.2).mono ?_
  rintro e w1 ⟨v, L, rfl, ⟨k, hk, hD⟩, ho1, hb1⟩
  obtain ⟨a1, l1, c1, rfl, hA1⟩ := At.own ho1
  have A1 : Hid (At w1 a1 L l1 c1) := hA1
  have B1 : Hid (Below w.heap.size w w1) := hb1
  have HD : Hid (Drawn k L ∧ k ≤ 22) := ⟨hD, hk⟩
  clear hb1 ho1 hA1 hD hk
  have HZ : Hid (L.length ≤ 60 ∧ ∀ x ∈ L, x.1.size ≤ 1048576 ∧ x.2.size ≤ 1048576) := store_small HD.out.1.st
  have hl60 : l1 ≤ 60 := A1.out.le HD.out.1.st
  obtain ⟨b1, o1, hab⟩ := src_some A1.out.2.2.2 HD.out.1.ne
  subst hab
  go_wp2_with fail
  go_loopw [6, 7] (fun nv iv wr => ∃ (j b o ln cn : Nat) (N : List PM), j ≤ 8 ∧ iv = .int .i64 (j : Int) ∧ nv = .slice (some ⟨b, o, none⟩) ln cn ∧ Hid (LenC N ln cn ∧ Src wr (some ⟨b, o, none⟩) (cellsP N) ∧ Drawn (k + j) N ∧ nextM L ≤ nextM N) ∧ Hid (Below w1.heap.size w1 wr)) (fun _ iv _ => 8 - (RowKit.intOf iv).toNat)
  case atStart => exact ⟨0, b1, o1, l1, c1, L, by omega, rfl, rfl, ⟨⟨A1.out.1, A1.out.2.1, A1.out.2.2.1⟩, A1.out.2.2.2, HD.out.1, Int.le_refl _⟩, Below.refl _ _⟩
  case round =>
    obtain ⟨j, b, o, ln, cn, N, hj, rfl, rfl, HN1, hbr⟩ := hrel
    have Br : Hid (Below w.heap.size w wr) := B1.out.trans (hbr.out.mono B1.out.size)
    by_cases hlt : j < 8
    case pos => as_aux_lemma =>
      have hlti : (j : Int) < 8 := by omega
      have hw8 : IntKind.u8.wrap (j : Int) = (j : Int) := by rw [IntKind.wrap_u8]; omega
      have HSM : Hid (Src (wr.alloc (.cells #[.int .u8 ((j : Nat) : Int)] 5)) ma (cellsB M)) := HM.out.2.2.below (Br.out.alloc Br.out.size _)
      have HML : Hid ((cellsB M).length = m * 1) := by show _ = _; rw [cellsB_length, HM.out.1, Nat.mul_one]
      go_wp2_with (at_builtin; refine wpList_append_src _ rfl _ _ 22 rfl wr.heap.size 5 (.int .u8 0) 1 1 Tryz.underlying22 infoB rfl (by decide) (by decide) (.slice (some ⟨wr.heap.size, 0, none⟩) 1 1) 1 (cellsB [j]) rfl (own_byte wr j) ma m mc (cellsB M) rfl HML.out HSM.out (cellsB_one _) (by omega) (by simp) ?_)
      intro v2 w2 hown2 hgrow2
      obtain ⟨a2, c2, rfl, hs2, _⟩ := own_src hown2
      have L2 : Below wr.heap.size wr w2 := ((Below.refl _ _).alloc (Nat.le_refl _) _).grown hgrow2 (by simp) (fun g e => ((own_byte wr j).lt g e).1)
      have B2 : Hid (Below w.heap.size w w2) := Br.out.trans (L2.mono Br.out.size)
      have L2w : Hid (Below w1.heap.size w1 w2) := hbr.out.trans (L2.mono hbr.out.size)
      have S2 : Hid (Src w2 a2 (cellsB (j :: M))) := hs2
      have CW := specMailWork a2 (1 + m) c2 (j :: M) (k + j) b o ln cn N w2 (by rw [List.length_cons, HM.out.1]; omega) (by omega) (fun x hx => by
        rcases List.mem_cons.1 hx with h9 | h9
        · omega
        · exact HM.out.2.1 x h9) S2.out HN1.out.2.2.1 HN1.out.1 (HN1.out.2.1.below L2)
      clear hown2 hgrow2 hs2 L2 HSM HML
      go_wp2_with fail
      refine CW.mono ?_
      rintro e w3 ⟨a3, n3, c3, N3, rfl, h31, h32, ⟨h33, h34⟩, hb3⟩
      obtain ⟨b3, o3, rfl⟩ := src_some h32 h33.ne
      have HN3 : Hid (LenC N3 n3 c3 ∧ Src w3 (some ⟨b3, o3, none⟩) (cellsP N3) ∧ Drawn (k + (j + 1)) N3 ∧ nextM L ≤ nextM N3) := ⟨h31, h32, h33, Int.le_trans HN1.out.2.2.2 h34⟩
      have L3 : Hid (Below w1.heap.size w1 w3) := L2w.out.trans (hb3.mono L2w.out.size)
      clear h31 h32 h33 h34 hb3 CW
      go_wp2_with fail
      exact ⟨⟨j + 1, b3, o3, n3, c3, N3, by omega, by go_num, rfl, HN3.out, L3.out⟩, by simp [RowKit.intOf]; omega⟩
    case neg => as_aux_lemma =>
      obtain rfl : j = 8 := by omega
      have hlti : ¬ ((8 : Nat) : Int) < 8 := by omega
      obtain ⟨hN1, hN2, hN3, hN4⟩ := HN1.out
      have AN : Hid (At wr (some ⟨b, o, none⟩) N ln cn) := ⟨hN1.1, hN1.2.1, hN1.2.2, hN2⟩
      have HN : Hid (Drawn (k + 8) N ∧ nextM L ≤ nextM N) := ⟨hN3, hN4⟩
      have HZN : Hid (N.length ≤ 60 ∧ ∀ x ∈ N, x.1.size ≤ 1048576 ∧ x.2.size ≤ 1048576) := store_small HN.out.1.st
      have hln : ln ≤ 60 := AN.out.le HN.out.1.st
      have A2 : Hid (At wr (some ⟨b1, o1, none⟩) L l1 c1) := A1.out.below hbr.out
      clear hN1 hN2 hN3 hN4 HN1 A1
      go_wp2_with fail
      refine (specUserOf ma m mc M wr HM.out.1 m20 HM.out.2.1 (HM.out.2.2.below Br.out)).mono ?_
      rintro e w2 ⟨u, rfl, hu, hb2⟩
      have B2 : Hid (Below w.heap.size w w2) := Br.out.trans (hb2.mono Br.out.size)
      have A3 : Hid (At w2 (some ⟨b1, o1, none⟩) L l1 c1 ∧ At w2 (some ⟨b, o, none⟩) N ln cn) := ⟨A2.out.below hb2, AN.out.below hb2⟩
      have HU : Hid (u = annT ∨ u = bobT) := hu
      have hu8 := short_size' (HD.out.1.desk hu).1
      clear hb2 hu A2 AN Br hbr
      obtain ⟨R, q2, hR⟩ : ∃ R q2, lawM2 (ruR N L u) (raskM N L [u]) = (R, q2) := ⟨_, _, rfl⟩
      have HR : Hid (lawM2 (ruR N L u) (raskM N L [u]) = (R, q2)) := hR
      have HRI : Hid (RsuIs N L R u q2) := rsu_is (by have := HD.out.2; omega) HN.out.1 HD.out.1 HN.out.2 HU.out hR
      have HZR : Hid (R.length ≤ 60 ∧ ∀ x ∈ R, x.1.size ≤ 1048576 ∧ x.2.size ≤ 1048576) := store_small HRI.out.1
      clear hR
      go_wp2_with fail
      refine (implRestoreUser (some ⟨b, o, none⟩) ln cn N (some ⟨b1, o1, none⟩) l1 c1 L u w2 A3.out.2.1 (by omega) HZN.out.2 A3.out.2.2.2.2 A3.out.1.1 (by omega) HZ.out.2 A3.out.1.2.2.2 (by omega) (HG.out.below h8 B2.out) (by have := B2.out.size; omega) R q2 HR).mono ?_
      rintro e w6 ⟨v6, rfl, ho6, hb6⟩
      obtain ⟨a6, l6, c6, rfl, hA6⟩ := At.own ho6
      have B6 : Hid (Below w.heap.size w w6) := B2.out.trans (hb6.mono B2.out.size)
      have A6 : Hid (At w6 (some ⟨b1, o1, none⟩) L l1 c1 ∧ At w6 (some ⟨b, o, none⟩) N ln cn ∧ At w6 a6 R l6 c6) := ⟨A3.out.1.below hb6, A3.out.2.below hb6, hA6⟩
      have hl6 : l6 ≤ 60 := A6.out.2.2.le HRI.out.1
      clear ho6 hA6 hb6 A3 B2
      go_wp2_with fail
      refine (specRestoreUser (some ⟨b, o, none⟩) ln cn N (some ⟨b1, o1, none⟩) l1 c1 L u w6 A6.out.2.1.1 (by omega) A6.out.2.1.2.1 A6.out.2.1.2.2.1 HZN.out.2 A6.out.2.1.2.2.2 A6.out.1.1 (by omega) HZ.out.2 A6.out.1.2.2.2 (by omega) R q2 HR).mono ?_
      rintro e w7 ⟨v7, rfl, ho7, hb7⟩
      obtain ⟨a7, l7, c7, rfl, hA7⟩ := At.own ho7
      obtain rfl : l7 = l6 := by rw [← hA7.1, ← A6.out.2.2.1]
      have B7 : Hid (Below w.heap.size w w7) := B6.out.trans (hb7.mono B6.out.size)
      have A7 : Hid (At w7 (some ⟨b1, o1, none⟩) L l1 c1 ∧ At w7 (some ⟨b, o, none⟩) N ln cn ∧ At w7 a6 R l7 c6) := ⟨A6.out.1.below hb7, A6.out.2.1.below hb7, A6.out.2.2.below hb7⟩
      have CSP := samePairsM a6 a7 l7 c6 c7 R w7 A7.out.2.2.1 (by omega) A7.out.2.2.2.2.2 hA7.2.2.2
      have hqq : (q2 != q2) = false := by simp
      clear ho7 hA7 hb7 A6 B6 HR
      go_wp2_with fail
      refine CSP.mono ?_
      rintro e w8 ⟨rfl, hb8⟩
      have B8 : Hid (Below w.heap.size w w8) := B7.out.trans (hb8.mono B7.out.size)
      have A8 : Hid (At w8 (some ⟨b1, o1, none⟩) L l1 c1 ∧ At w8 (some ⟨b, o, none⟩) N ln cn ∧ At w8 a6 R l7 c6) := ⟨A7.out.1.below hb8, A7.out.2.1.below hb8, A7.out.2.2.below hb8⟩
      have CMO := implMailStoreOK a6 l7 c6 R w8 A8.out.2.2.1 (by omega) HZR.out.2 A8.out.2.2.2.2.2 (HG.out.below h8 B8.out) (by have := B8.out.size; omega) true ((impl_store R).trans HRI.out.1)
      clear hb8 CSP A7 B7
      go_wp2_with fail
      refine CMO.mono ?_
      rintro e w9 ⟨rfl, hb9⟩
      have B9 : Hid (Below w.heap.size w w9) := B8.out.trans (hb9.mono B8.out.size)
      have A9 : Hid (At w9 (some ⟨b1, o1, none⟩) L l1 c1 ∧ At w9 (some ⟨b, o, none⟩) N ln cn ∧ At w9 a6 R l7 c6) := ⟨A8.out.1.below hb9, A8.out.2.1.below hb9, A8.out.2.2.below hb9⟩
      clear hb9 CMO A8 B8
      rcases HRI.out.2 with ⟨hq2, hRN⟩ | ⟨hq2, hfR, hfL, hl60n, hall⟩
      case inl => as_aux_lemma =>
        subst hRN hq2
        obtain rfl : ln = l7 := by rw [← A9.out.2.1.1, ← A9.out.2.2.1]
        have CS9 := samePairsM a6 (some ⟨b, o, none⟩) ln c6 cn R w9 A9.out.2.2.1 (by omega) A9.out.2.2.2.2.2 A9.out.2.1.2.2.2
        go_wp2_with fail
        refine CS9.mono ?_
        rintro e w10 ⟨rfl, hb10⟩
        have B10 : Hid (Below w.heap.size w w10) := B9.out.trans (hb10.mono B9.out.size)
        clear hb10 CS9
        go_wp2_with fail
        go_ret
        exact ⟨rfl, B10.out⟩
      case inr => as_aux_lemma =>
        subst hq2
        obtain ⟨T, hT⟩ : ∃ T, listS L u = T := ⟨_, rfl⟩
        obtain ⟨tn, htn⟩ : ∃ tn, T.length = tn := ⟨_, rfl⟩
        rw [hT] at hfR hfL hall hl60n
        rw [htn] at hl60n
        have HT : Hid (T.length = tn) := htn
        have HALL : Hid (∀ n ∈ T, n.size ≤ 8 ∧ ∃ vo vn nx Ms, Ms.length ≤ 6 ∧ vo < vn ∧ faM L u n = ((n, vo, nx, Ms), 0) ∧ faM R u n = ((n, vn, nx, Ms), 0)) := hall
        have HFL : Hid (flM L u = (T, 0)) := hfL
        have CLR := implListFolders a6 l7 c6 R u w9 A9.out.2.2.1 (by omega) HZR.out.2 A9.out.2.2.2.2.2 (by omega) (HG.out.below h8 B9.out) (by have := B9.out.size; omega) T 0 hfR
        clear hfR hfL hall hT htn HRI
        go_wp2_with fail
        refine CLR.mono ?_
        rintro e w10 ⟨v10, rfl, ho10, hb10⟩
        rw [HT.out] at ho10
        obtain ⟨a10, c10, rfl, hs10, _⟩ := own_src ho10
        have B10 : Hid (Below w.heap.size w w10) := B9.out.trans (hb10.mono B9.out.size)
        have A10 : Hid (At w10 (some ⟨b1, o1, none⟩) L l1 c1 ∧ At w10 a6 R l7 c6 ∧ Src w10 a10 (cellsS T)) := ⟨A9.out.1.below hb10, A9.out.2.2.below hb10, hs10⟩
        have CLL := implListFolders (some ⟨b1, o1, none⟩) l1 c1 L u w10 A10.out.1.1 (by omega) HZ.out.2 A10.out.1.2.2.2 (by omega) (HG.out.below h8 B10.out) (by have := B10.out.size; omega) T 0 HFL.out
        clear ho10 hs10 hb10 CLR A9 B9
        go_wp2_with fail
        refine CLL.mono ?_
        rintro e w11 ⟨v11, rfl, ho11, hb11⟩
        rw [HT.out] at ho11
        obtain ⟨a11, c11, rfl, hs11, _⟩ := own_src ho11
        have B11 : Hid (Below w.heap.size w w11) := B10.out.trans (hb11.mono B10.out.size)
        have A11 : Hid (At w11 (some ⟨b1, o1, none⟩) L l1 c1 ∧ At w11 a6 R l7 c6 ∧ Src w11 a11 (cellsS T)) := ⟨A10.out.1.below hb11, A10.out.2.1.below hb11, hs11⟩
        have CST := sameTexts a10 a11 tn c10 c11 T w11 HT.out (by omega) (A10.out.2.2.below hb11) hs11
        clear ho11 hs11 hb11 CLL A10 B10
        go_wp2_with fail
        refine CST.mono ?_
        rintro e w12 ⟨rfl, hb12⟩
        have B12 : Hid (Below w.heap.size w w12) := B11.out.trans (hb12.mono B11.out.size)
        have A12 : Hid (At w12 (some ⟨b1, o1, none⟩) L l1 c1 ∧ At w12 a6 R l7 c6 ∧ Src w12 a11 (cellsS T)) := ⟨A11.out.1.below hb12, A11.out.2.1.below hb12, A11.out.2.2.below hb12⟩
        clear hb12 CST A11 B11
        go_wp2_with fail
        go_loopw [17] (fun iv wr => ∃ i : Nat, i ≤ tn ∧ iv = .int .i64 (i : Int) ∧ Hid (Below w12.heap.size w12 wr)) (fun iv _ => tn - (RowKit.intOf iv).toNat)
        case atStart => exact ⟨0, by omega, rfl, Below.refl _ _⟩
        case round =>
          obtain ⟨i, hi, rfl, hbi⟩ := hrel
          have Bi : Hid (Below w.heap.size w wr) := B12.out.trans (hbi.out.mono B12.out.size)
          by_cases hlti : i < tn
          case neg => as_aux_lemma =>
            have hii : ¬ (i : Int) < (tn : Int) := by omega
            go_wp2_with fail
            go_ret
            exact ⟨rfl, Bi.out⟩
          case pos => as_aux_lemma =>
            have hii : (i : Int) < (tn : Int) := by omega
            have hi0 : (0 : Int) ≤ (i : Int) := by omega
            obtain ⟨b8, o8, s, rfl, sc, hsy⟩ := srcS (A12.out.2.2.below hbi.out) (i := i) (by rw [HT.out]; exact hlti)
            have hmem : s ∈ T := by
              rw [← hsy.out, List.getD_eq_getElem?_getD, List.getElem?_eq_getElem (by rw [HT.out]; exact hlti)]
              exact List.getElem_mem _
            obtain ⟨hs8, vo, vn, nx, Ms, hm6, hvv, hf1, hf2⟩ := HALL.out s hmem
            have Ai : Hid (At wr (some ⟨b1, o1, none⟩) L l1 c1 ∧ At wr a6 R l7 c6) := ⟨A12.out.1.below hbi.out, A12.out.2.1.below hbi.out⟩
            have CX1 := fa_call (some ⟨b1, o1, none⟩) l1 c1 L u s wr Ai.out.1.1 (by omega) HZ.out.2 Ai.out.1.2.2.2 (by omega) (by omega) (HG.out.below h8 Bi.out) (by have := Bi.out.size; omega) vo nx Ms hf1
            have CX2 := fun (W : World) (hW : Below wr.heap.size wr W) => fa_call a6 l7 c6 R u s W Ai.out.2.1 (by omega) HZR.out.2 (Ai.out.2.2.2.2.below hW) (by omega) (by omega) (HG.out.below h8 (Bi.out.trans (hW.mono Bi.out.size))) (by have := Bi.out.size; have := hW.size; omega) vn nx Ms hf2
            have hvle : ¬ vn ≤ vo := by omega
            have HM6 : Hid (Ms.length ≤ 6) := hm6
            clear hsy hmem hf1 hf2 hm6 hvv
            go_wp2_with fail
            refine CX1.mono ?_
            rintro e w13 ⟨a13, n13, c13, rfl, hl13, ho13, hb13⟩
            obtain ⟨w14, hw14⟩ : ∃ W, w13.alloc (.cells #[.string s, .int .i64 vo, .int .i64 nx, .slice a13 n13 c13] 28) = W := ⟨_, rfl⟩
            obtain ⟨P14, hP14⟩ : ∃ z, w13.heap.size = z := ⟨_, rfl⟩
            have hb14 : Below w13.heap.size w13 w14 := by rw [← hw14]; exact (Below.refl _ _).alloc (Nat.le_refl _) _
            have L14 : Hid (Below wr.heap.size wr w14) := hb13.trans (hb14.mono hb13.size)
            have X14 : Hid (Box w14 P14 [.string s, .int .i64 vo, .int .i64 nx, .slice a13 n13 c13]) := by show Box _ _ _; rw [← hw14]; exact Box.new hP14.symm
            have K14 : Hid (Ms.length = n13 ∧ Src w14 a13 (cellsMl Ms)) := ⟨hl13, (own_ml ho13).below hb14⟩
            have sc14 : w14.cell? ⟨b8, o8 + i, none⟩ = some (.string s) := cell_later (w := wr) L14.out sc
            have CX3 := CX2 w14 L14.out
            clear hl13 ho13 hb13 hb14 CX1 CX2
            go_wp2_with fail
            clear hw14 hP14
            refine CX3.mono ?_
            rintro e w15 ⟨a15, n15, c15, rfl, hl15, ho15, hb15⟩
            obtain rfl : n15 = n13 := by rw [← hl15, ← K14.out.1]
            obtain ⟨w16, hw16⟩ : ∃ W, w15.alloc (.cells #[.string s, .int .i64 vn, .int .i64 nx, .slice a15 n15 c15] 28) = W := ⟨_, rfl⟩
            obtain ⟨P16, hP16⟩ : ∃ z, w15.heap.size = z := ⟨_, rfl⟩
            have hb16 : Below w15.heap.size w15 w16 := by rw [← hw16]; exact (Below.refl _ _).alloc (Nat.le_refl _) _
            have hb146 : Below w14.heap.size w14 w16 := hb15.trans (hb16.mono hb15.size)
            have L16 : Hid (Below wr.heap.size wr w16) := L14.out.trans (hb146.mono L14.out.size)
            have X16 : Hid (Box w16 P14 [.string s, .int .i64 vo, .int .i64 nx, .slice a13 n15 c13]) := Box.below X14.out hb146
            have Y16 : Hid (Box w16 P16 [.string s, .int .i64 vn, .int .i64 nx, .slice a15 n15 c15]) := by show Box _ _ _; rw [← hw16]; exact Box.new hP16.symm
            have K16 : Hid (Ms.length = n15 ∧ Src w16 a13 (cellsMl Ms) ∧ Src w16 a15 (cellsMl Ms)) := ⟨hl15, K14.out.2.below hb146, (own_ml ho15).below hb16⟩
            have hn15 : n15 ≤ 6 := by rw [← K16.out.1]; exact HM6.out
            have hnn : (nx != nx) = false := by simp
            have hne : ((n15 : Int) != (n15 : Int)) = false := by simp
            obtain ⟨x1, _⟩ := X16.out 1 _ rfl
            obtain ⟨x2, _⟩ := X16.out 2 _ rfl
            obtain ⟨x3, _⟩ := X16.out 3 _ rfl
            obtain ⟨y1, _⟩ := Y16.out 1 _ rfl
            obtain ⟨y2, _⟩ := Y16.out 2 _ rfl
            obtain ⟨y3, _⟩ := Y16.out 3 _ rfl
            have L12 : Hid (Below w12.heap.size w12 w16) := hbi.out.trans (L16.out.mono hbi.out.size)
            clear hl15 ho15 hb15 hb16 hb146 CX3 X14 K14 L14 sc sc14 L16
            go_wp2_with fail
            clear hw16 hP16 x1 x2 x3 y1 y2 y3 hnn hne
            go_loopw [22] (fun kv wy => ∃ j : Nat, j ≤ n15 ∧ kv = .int .i64 (j : Int) ∧ Hid (Below w16.heap.size w16 wy)) (fun kv _ => n15 - (RowKit.intOf kv).toNat)
            case atStart => exact ⟨0, by omega, rfl, Below.refl _ _⟩
            case round =>
              obtain ⟨j, hj, rfl, hbj⟩ := hrel
              obtain ⟨x3, _⟩ := (Box.below X16.out hbj.out) 3 _ rfl
              obtain ⟨y3, _⟩ := (Box.below Y16.out hbj.out) 3 _ rfl
              by_cases hltj : j < n15
              case neg => as_aux_lemma =>
                have hjj : ¬ (j : Int) < (n15 : Int) := by omega
                have L20 : Hid (Below w12.heap.size w12 wr) := L12.out.trans (hbj.out.mono L12.out.size)
                go_wp2_with fail
                exact ⟨⟨i + 1, by omega, by go_num, L20.out⟩, by simp [RowKit.intOf]; omega⟩
              case pos => as_aux_lemma =>
                have hjj : (j : Int) < (n15 : Int) := by omega
                have hj0 : (0 : Int) ≤ (j : Int) := by omega
                obtain ⟨b6, o6, u0, u1, u2, rfl, k0, k1, k2, hy1⟩ := srcMl (K16.out.2.1.below hbj.out) (i := j) (by rw [K16.out.1]; exact hltj)
                obtain ⟨b7, o7, t0, t1, t2, rfl, m0, m1, m2, hy2⟩ := srcMl (K16.out.2.2.below hbj.out) (i := j) (by rw [K16.out.1]; exact hltj)
                obtain ⟨rfl, rfl, rfl⟩ : u0 = t0 ∧ u1 = t1 ∧ u2 = t2 := by have := hy1.out.symm.trans hy2.out; simpa using this
                clear hy1 hy2
                go_wp2_with fail
                go_quiet (fail)
                have L2 : Hid (Below w16.heap.size w16 (wr.drewN nq)) := Below.drewN' hbj.out _
                go_wp2_with fail
                exact ⟨⟨j + 1, by omega, by go_num, L2.out⟩, by simp [RowKit.intOf]; omega⟩
end Go.Proofs.YthgbclipknfmjaaGreatDoor
