
/-
  The walk of the law FnCopies. By an AI agent.
-/
import Derived.Test.YtddnecljdecamaaGreatDoorQ41
import Derived.Test.YtddnecljdecamaaGreatDoorQ37
import Derived.Test.YtddnecljdecamaaGreatDoorQ36
import Derived.Test.YtddnecljdecamaaGreatDoorQ40
namespace Go.Proofs.YtddnecljdecamaaGreatDoor
open Go.ChangeShapes Go.WideShapes Go.ChangeAt Go.RowKit Go.Deep Go.Lib
set_option linter.unusedVariables false
set_option linter.unusedSimpArgs false
set_option maxRecDepth 100000

theorem store_small {L : List PM} (h : storeB L = true) : L.length ≤ 60 ∧ ∀ x ∈ L, x.1.size ≤ 1048576 ∧ x.2.size ≤ 1048576 := by
  have hg := (store_facts h).1
  exact ⟨hg.1, fun x hx => by have := hg.2.1 x hx; omega⟩
/-- A list that lies somewhere. -/
def At (w : World) (a : Option Addr) (L : List PM) (n c : Nat) : Prop := L.length = n ∧ n ≤ c ∧ c ≤ maxLen ∧ Src w a (cellsP L)
theorem At.below {w w' : World} {a : Option Addr} {L : List PM} {n c : Nat} (h : At w a L n c) (hb : Below w.heap.size w w') : At w' a L n c := ⟨h.1, h.2.1, h.2.2.1, h.2.2.2.below hb⟩
theorem At.own {w : World} {v : Value} {L : List PM} {base : Nat} (h : w.ownsRow base 68 2 v L.length (cellsP L)) : ∃ a n c, v = .slice a n c ∧ At w a L n c := by
  obtain ⟨a, c, rfl, hs, _⟩ := own_src h
  exact ⟨a, _, c, rfl, rfl, (own_capx h).1, (own_capx h).2, hs⟩
theorem At.le {w : World} {a : Option Addr} {L : List PM} {n c : Nat} (h : At w a L n c) (hs : storeB L = true) : n ≤ 60 := by
  have h1 := (store_small hs).1
  rw [h.1] at h1
  exact h1
theorem own_ml {w : World} {base n c : Nat} {a : Option Addr} {Ms : List MMl} (h : w.ownsRow base 36 3 (.slice a n c) n (cellsMl Ms)) : Src w a (cellsMl Ms) := by
  obtain ⟨a9, c9, e9, hs9, _⟩ := own_src h
  cases e9
  exact hs9
theorem fa_len {L : List PM} {u f : ByteArray} {va nx q : Int} {Ms : List MMl} {nm : ByteArray} (h : storeB L = true) (hfa : faM L u f = ((nm, va, nx, Ms), q)) : Ms.length ≤ 60 := by
  unfold faM at hfa
  split at hfa
  · split at hfa
    · rename_i hk hq
      obtain ⟨hst, hsu, hsf⟩ := ask_zero2 hk
      obtain ⟨S, hS, _, _⟩ := take_all hst (word_slash hsu)
      obtain ⟨hw, g, hl⟩ := known_zero hst (word_slash hsu) (word_slash hsf) hS hq
      rw [hS] at hfa
      have h1 : ((faG (lookF f S.fs), (0 : Int)) : (ByteArray × Int × Int × List MMl) × Int) = ((nm, va, nx, Ms), q) := hfa
      rw [hl] at h1
      have h2 : (g.name, g.val, g.next, g.mails) = (nm, va, nx, Ms) := congrArg Prod.fst h1
      injection h2 with _ h2
      injection h2 with _ h2
      injection h2 with _ h2
      have h3 := (store_sub hst hS g (lookF_mem hl).1).length_le
      rw [List.length_map, h2] at h3
      have h4 := (store_facts hst).1.1
      omega
    · have h2 := congrArg (fun x : (ByteArray × Int × Int × List MMl) × Int => x.1.2.2.2) hfa
      have h3 : [] = Ms := h2
      rw [← h3]
      simp
  · have h2 := congrArg (fun x : (ByteArray × Int × Int × List MMl) × Int => x.1.2.2.2) hfa
    have h3 : [] = Ms := h2
    rw [← h3]
    simp
set_option maxHeartbeats 16000000 in
theorem copiesWalk (a : Option Addr) (c : Nat) (C : List Nat) (ma : Option Addr) (mc : Nat) (M : List Nat) (w : World) (h : Src w a (cellsB C)) (hC9 : C.length ≤ maxLen) (hlt : ∀ x ∈ C, x < 256) (hm : Src w ma (cellsB M)) (hM9 : M.length ≤ maxLen) (hmt : ∀ x ∈ M, x < 256) (hG : Gl w) (h8 : 8 ≤ w.heap.size) :
    Calls Tryz.prog 6 #[.slice a C.length c, .slice ma M.length mc] w fun e w' => e = .returned (.bool true) ∧ Below w.heap.size w w' := by
  unfold maxLen at hC9 hM9
  obtain ⟨n, hn⟩ : ∃ n, C.length = n := ⟨_, rfl⟩
  obtain ⟨m, hm9⟩ : ∃ m, M.length = m := ⟨_, rfl⟩
  have HN : Hid (C.length = n ∧ (∀ x ∈ C, x < 256) ∧ Src w a (cellsB C)) := ⟨hn, hlt, h⟩
  have HM : Hid (M.length = m ∧ (∀ x ∈ M, x < 256) ∧ Src w ma (cellsB M)) := ⟨hm9, hmt, hm⟩
  have HG : Hid (Gl w) := hG
  rw [hn] at hC9
  rw [hm9] at hM9
  rw [hn, hm9]
  clear hlt h hn hG hmt hm hm9
  by_cases t1 : (1048576 : Int) < (n : Int)
  · go_enter Tryz.func6, Tryz.ntmps6
    go_wp2_with fail
    go_ret
    exact ⟨rfl, Below.refl _ _⟩
  by_cases t2 : (1048576 : Int) < (m : Int)
  · go_enter Tryz.func6, Tryz.ntmps6
    go_wp2_with fail
    go_ret
    exact ⟨rfl, Below.refl _ _⟩
  have n20 : n ≤ 1048576 := by omega
  have m20 : m ≤ 1048576 := by omega
  go_enter Tryz.func6, Tryz.ntmps6
  go_wp2_with fail
  refine (specMailsOf a n c C w HN.out.1 n20 HN.out.2.1 HN.out.2.2).mono ?_
  rintro e w1 ⟨v, L, rfl, ⟨k, hk, hD⟩, ho1, hb1⟩
  obtain ⟨a1, l1, c1, rfl, hA1⟩ := At.own ho1
  have A1 : Hid (At w1 a1 L l1 c1) := hA1
  have B1 : Hid (Below w.heap.size w w1) := hb1
  have HD : Hid (Drawn k L ∧ k ≤ 900) := ⟨hD, by omega⟩
  clear hb1 ho1 hA1 hD hk
  go_wp2_with fail
  refine (specUserOf ma m mc M w1 HM.out.1 m20 HM.out.2.1 (HM.out.2.2.below B1.out)).mono ?_
  rintro e w2 ⟨u, rfl, hu, hb2⟩
  have A2 : Hid (At w2 a1 L l1 c1) := A1.out.below hb2
  have B2 : Hid (Below w.heap.size w w2) := B1.out.trans (hb2.mono B1.out.size)
  have HU : Hid (u = annT ∨ u = bobT) := hu
  clear hb2 hu A1
  have hu8 := short_size' (HD.out.1.desk HU.out).1
  have HZ : Hid (L.length ≤ 60 ∧ ∀ x ∈ L, x.1.size ≤ 1048576 ∧ x.2.size ≤ 1048576) := store_small HD.out.1.st
  have hl60 : l1 ≤ 60 := A2.out.le HD.out.1.st
  obtain ⟨va, nx, Ms, hfa0, hms6, hcp⟩ := inbox_told HD.out.1 HU.out
  have HFI : Hid (faM L u inboxT = ((inboxT, va, nx, Ms), 0) ∧ Ms.length ≤ 6 ∧ ∀ m ∈ Ms, ∀ R uid c, k ≤ 900 → cmR L u inboxT m.1 inboxT = (R, uid, c) → AppIs L R u inboxT m.2.2 m.2.1 uid c) := ⟨hfa0, hms6, hcp⟩
  obtain ⟨RR, qq, hRR⟩ : ∃ RR qq, lawM2 (rnR L u workT otherT) (askM L [u, workT, otherT]) = (RR, qq) := ⟨_, _, rfl⟩
  have HRN : Hid (lawM2 (rnR L u workT otherT) (askM L [u, workT, otherT]) = (RR, qq) ∧ RenIs L RR u qq) := ⟨hRR, ren_is HD.out.2 HD.out.1 HU.out hRR⟩
  have HZRR : Hid (RR.length ≤ 60 ∧ ∀ x ∈ RR, x.1.size ≤ 1048576 ∧ x.2.size ≤ 1048576) := store_small HRN.out.2.1
  clear hfa0 hms6 hcp hRR
  go_wp2_with fail
  refine (implFolderAt a1 l1 c1 L u inboxT w2 A2.out.1 (by omega) HZ.out.2 A2.out.2.2.2 (by omega) (by decide) (HG.out.below h8 B2.out) (by have := B2.out.size; omega)).mono ?_
  rintro e w3 ⟨nm, va3, nx3, a3, n3, c3, Ms3, q3, rfl, hfa, hMs, ho3, hb3⟩
  rw [HFI.out.1] at hfa
  injection hfa with hfa hq6
  injection hfa with e1 hfa
  injection hfa with e2 hfa
  injection hfa with e3 e4
  subst e1 e2 e3 e4 hq6
  obtain ⟨w4, hw4⟩ : ∃ W, w3.alloc (.cells #[.string inboxT, .int .i64 va, .int .i64 nx, .slice a3 n3 c3] 28) = W := ⟨_, rfl⟩
  have hb4 : Below w3.heap.size w3 w4 := by rw [← hw4]; exact (Below.refl _ _).alloc (Nat.le_refl _) _
  have X4 : Hid (Box w4 w3.heap.size [.string inboxT, .int .i64 va, .int .i64 nx, .slice a3 n3 c3]) := by show Box _ _ _; rw [← hw4]; exact Box.new rfl
  have A4 : Hid (At w4 a1 L l1 c1) := (A2.out.below hb3).below hb4
  have B4 : Hid (Below w.heap.size w w4) := (B2.out.trans (hb3.mono B2.out.size)).trans (hb4.mono (B2.out.trans (hb3.mono B2.out.size)).size)
  have M4 : Hid (Ms.length = n3 ∧ Src w4 a3 (cellsMl Ms)) := ⟨hMs, (own_ml ho3).below hb4⟩
  have hn36 : n3 ≤ 6 := by rw [← hMs]; exact HFI.out.2.1
  obtain ⟨x43, _⟩ := X4.out 3 _ rfl
  clear hb3 hb4 A2 hMs ho3
  go_upto_if 54 with fail
  go_cut [8] from 9 to 155 (fun c9 wx => c9 = .int .i64 0 ∧ Hid (Below w4.heap.size w4 wx))
  case first => as_aux_lemma =>
    by_cases h0 : n3 = 0
    · subst h0
      go_wp2_with fail
      go_meet
      exact ⟨rfl, Below.refl _ _⟩
    · have hpos : (0 : Int) < (n3 : Int) := by omega
      obtain ⟨b5, o5, _, _, _, rfl, _, _, _, _⟩ := srcMl M4.out.2 (i := 0) (by rw [M4.out.1]; omega)
      have CAT : Calls Tryz.prog 25 #[.slice ma m mc, .int .i64 0, .int .i64 (n3 : Int)] w4.drew fun e w' => ∃ x : Nat, e = .returned (.int .i64 (x : Int)) ∧ x < n3 ∧ Below w4.drew.heap.size w4.drew w' := lawAt ma m mc M 0 n3 w4.drew HM.out.1 m20 (by omega) (by omega) (by omega) HM.out.2.1 (HM.out.2.2.below B4.out.drew)
      go_wp2_with fail
      go_upto_region 9 with fail
      go_cut [9] from 54 to 64 (fun c9 wx => ∃ p y0 y1 y2, c9 = .pointer (some ⟨p, 0, none⟩) ∧ (y0, y1, y2) ∈ Ms ∧ Hid (Box wx p [.int .i64 y0, .int .i64 y1, .string y2]) ∧ Hid (Below w4.heap.size w4 wx))
      case first =>
        have SA : Src (w4.alloc (.cells #[.int .i64 0, .int .i64 0, .string ⟨#[]⟩] 36)) (some ⟨b5, o5, none⟩) (cellsMl Ms) := Src.below (w := w4) M4.out.2 ((Below.refl _ _).alloc (Nat.le_refl _) _)
        have xA : (w4.alloc (.cells #[.int .i64 0, .int .i64 0, .string ⟨#[]⟩] 36)).cell? ⟨w3.heap.size, 3, none⟩ = some (.slice (some ⟨b5, o5, none⟩) n3 c3) := cell_later (w := w4) ((Below.refl _ _).alloc (Nat.le_refl _) _) x43
        refine wp_region_noPanic ?_
        refine wp_region_held_drew (S := fun w' => w'.cell? ⟨w3.heap.size, 3, none⟩ = some (.slice (some ⟨b5, o5, none⟩) n3 c3) ∧ Src w' (some ⟨b5, o5, none⟩) (cellsMl Ms)) (by kernel_rfl) ⟨x43, M4.out.2⟩ (fun hHeld => ?_)
        refine tkA (i := 0) (v := .pointer (some ⟨w3.heap.size, 3, none⟩)) ?_ hHeld ?_
        · intro w9 hSw
          obtain ⟨s1, s2⟩ := hSw
          go_simp
        simp only [Act.put, List.setIfInBounds_toArray, List.set_cons_zero, List.set_cons_succ]
        refine tkA (i := 1) (v := .slice (some ⟨b5, o5, none⟩) n3 c3) ?_ hHeld ?_
        · intro w9 hSw
          obtain ⟨s1, s2⟩ := hSw
          go_simp
        simp only [Act.put, List.setIfInBounds_toArray, List.set_cons_zero, List.set_cons_succ]
        refine tkA (i := 2) (v := .slice ma m mc) ?_ hHeld ?_
        · intro w9 hSw
          obtain ⟨s1, s2⟩ := hSw
          go_simp
        simp only [Act.put, List.setIfInBounds_toArray, List.set_cons_zero, List.set_cons_succ]
        refine tkA (i := 3) (v := .pointer (some ⟨w3.heap.size, 3, none⟩)) ?_ hHeld ?_
        · intro w9 hSw
          obtain ⟨s1, s2⟩ := hSw
          go_simp
        simp only [Act.put, List.setIfInBounds_toArray, List.set_cons_zero, List.set_cons_succ]
        refine tkA (i := 4) (v := .slice (some ⟨b5, o5, none⟩) n3 c3) ?_ hHeld ?_
        · intro w9 hSw
          obtain ⟨s1, s2⟩ := hSw
          go_simp
        simp only [Act.put, List.setIfInBounds_toArray, List.set_cons_zero, List.set_cons_succ]
        refine tkA (i := 5) (v := .int .i64 n3) ?_ hHeld ?_
        · intro w9 hSw
          obtain ⟨s1, s2⟩ := hSw
          go_simp
        simp only [Act.put, List.setIfInBounds_toArray, List.set_cons_zero, List.set_cons_succ]
        refine wpAnyH_ready (rs := [6, 9]) (by kernel_rfl) (by simp) ?_
        refine AllReadyH.cons rfl (fun K hK => ?_) (AllReadyH.cons rfl (fun K hK => ?_) AllReadyH.nil)
        · go_simp
          refine CAT.mono ?_
          rintro e w5 ⟨x, rfl, hx, hb5⟩
          dsimp only
          have HB5 : Hid (Below w4.heap.size w4 w5) := (Below.refl _ _).drew.trans hb5
          have M5 : Hid (Src w5 (some ⟨b5, o5, none⟩) (cellsMl Ms)) := Src.below (w := w4.drew) M4.out.2 hb5
          have x53 : w5.cell? ⟨w3.heap.size, 3, none⟩ = some (.slice (some ⟨b5, o5, none⟩) n3 c3) := cell_later (w := w4.drew) hb5 x43
          obtain ⟨b6, o6, y0, y1, y2, e6, k0, k1, k2, hy⟩ := srcMl M5.out (i := x) (by rw [M4.out.1]; exact hx)
          cases e6
          have hmem : (y0, y1, y2) ∈ Ms := by
            rw [← hy.out, List.getD_eq_getElem?_getD, List.getElem?_eq_getElem (by rw [M4.out.1]; exact hx)]
            exact List.getElem_mem _
          have hxi : (x : Int) < (n3 : Int) := by omega
          have hx0 : (0 : Int) ≤ (x : Int) := by omega
          clear k0 k1 k2
          refine hK _ _ ⟨x53, M5.out⟩ (fun hHeld => ?_)
          clear hK K
          refine tkA (i := 7) (v := .pointer (some ⟨b5, o5 + x * 3, none⟩)) ?_ hHeld ?_
          · intro w9 hSw
            obtain ⟨s1, s2⟩ := hSw
            go_simp
          simp only [Act.put, List.setIfInBounds_toArray, List.set_cons_zero, List.set_cons_succ]
          refine tkA (i := 8) (v := .agg #[.int .i64 y0, .int .i64 y1, .string y2]) ?_ hHeld ?_
          · intro w9 hSw
            obtain ⟨s1, s2⟩ := hSw
            obtain ⟨_, _, z0, z1, z2, e9, q0, q1, q2, hz⟩ := srcMl s2 (i := x) (by rw [M4.out.1]; exact hx)
            cases e9
            have hz9 : (y0, y1, y2) = (z0, z1, z2) := by rw [← hy.out, ← hz.out]
            injection hz9 with r0 hz9
            injection hz9 with r1 r2
            subst r0 r1 r2
            go_simp
          simp only [Act.put, List.setIfInBounds_toArray, List.set_cons_zero, List.set_cons_succ]
          refine wpAnyH_ready (rs := [9]) (by kernel_rfl) (by simp) ?_
          refine AllReadyH.cons rfl (fun K hK => ?_) AllReadyH.nil
          go_simp
          obtain ⟨w6, hw6⟩ : ∃ W, w5.alloc (.cells #[.int .i64 0, .int .i64 0, .string ⟨#[]⟩] 36) = W := ⟨_, rfl⟩
          have hbA : Below w5.heap.size w5 w6 := by rw [← hw6]; exact (Below.refl _ _).alloc (Nat.le_refl _) _
          have X6 : Hid (Box w6 w5.heap.size [.int .i64 0, .int .i64 0, .string ⟨#[]⟩]) := by show Box _ _ _; rw [← hw6]; exact Box.new rfl
          have H6 : Hid (Below w4.heap.size w4 w6) := HB5.out.trans (hbA.mono HB5.out.size)
          rw [hw6]
          clear hw6
          refine hK _ _ ⟨cell_later (w := w4) H6.out x43, Src.below (w := w4) M4.out.2 H6.out⟩ (fun hHeld => ?_)
          clear hK K
          obtain ⟨f0, f0'⟩ := X6.out 0 _ rfl
          obtain ⟨f1, f1'⟩ := X6.out 1 _ rfl
          obtain ⟨f2, f2'⟩ := X6.out 2 _ rfl
          refine wpAnyH_ready (rs := [10]) (by kernel_rfl) (by simp) ?_
          refine AllReadyH.cons rfl (fun K hK => ?_) AllReadyH.nil
          go_simp
          have HF3 : Below w4.heap.size w4 ((((w6).setCell ⟨w5.heap.size, 0, none⟩ (.int .i64 y0)).setCell ⟨w5.heap.size, 1, none⟩ (.int .i64 y1)).setCell ⟨w5.heap.size, 2, none⟩ (.string y2)) := ((H6.out.setCell HB5.out.size _).setCell HB5.out.size _).setCell HB5.out.size _
          have BF3 : Box ((((w6).setCell ⟨w5.heap.size, 0, none⟩ (.int .i64 y0)).setCell ⟨w5.heap.size, 1, none⟩ (.int .i64 y1)).setCell ⟨w5.heap.size, 2, none⟩ (.string y2)) (w5.heap.size) [.int .i64 y0, .int .i64 y1, .string y2] := ((X6.out.set 0 (.int .i64 y0)).set 1 (.int .i64 y1)).set 2 (.string y2)
          refine hK _ _ ⟨cell_later (w := w4) HF3 x43, Src.below (w := w4) M4.out.2 HF3⟩ (fun hHeld => ?_)
          clear hK K
          refine wpAnyH_done (by kernel_rfl) ?_ _
          refine NoPanic.normal ?_
          clear hHeld
          go_wp2_with fail
          go_meet
          exact ⟨_, y0, y1, y2, rfl, hmem, BF3, HF3⟩
        · go_simp
          refine hK _ _ ⟨xA, SA⟩ (fun hHeld => ?_)
          clear hK K
          have ZA : Below w4.heap.size w4 (w4.alloc (.cells #[.int .i64 0, .int .i64 0, .string ⟨#[]⟩] 36)).drew := ((Below.refl _ _).alloc (Nat.le_refl _) _).drew
          have CAT2 : Calls Tryz.prog 25 #[.slice ma m mc, .int .i64 0, .int .i64 (n3 : Int)] (w4.alloc (.cells #[.int .i64 0, .int .i64 0, .string ⟨#[]⟩] 36)).drew fun e w' => ∃ x : Nat, e = .returned (.int .i64 (x : Int)) ∧ x < n3 ∧ Below (w4.alloc (.cells #[.int .i64 0, .int .i64 0, .string ⟨#[]⟩] 36)).drew.heap.size (w4.alloc (.cells #[.int .i64 0, .int .i64 0, .string ⟨#[]⟩] 36)).drew w' := lawAt ma m mc M 0 n3 _ HM.out.1 m20 (by omega) (by omega) (by omega) HM.out.2.1 (HM.out.2.2.below (B4.out.trans (ZA.mono B4.out.size)))
          refine wpAnyH_ready (rs := [6]) (by kernel_rfl) (by simp) ?_
          refine AllReadyH.cons rfl (fun K hK => ?_) AllReadyH.nil
          go_simp
          refine CAT2.mono ?_
          rintro e w5 ⟨x, rfl, hx, hb5⟩
          dsimp only
          have HB5 : Hid (Below w4.heap.size w4 w5) := ZA.trans (hb5.mono ZA.size)
          have M5 : Hid (Src w5 (some ⟨b5, o5, none⟩) (cellsMl Ms)) := Src.below (w := (w4.alloc (.cells #[.int .i64 0, .int .i64 0, .string ⟨#[]⟩] 36)).drew) SA hb5
          have x53 : w5.cell? ⟨w3.heap.size, 3, none⟩ = some (.slice (some ⟨b5, o5, none⟩) n3 c3) := cell_later (w := (w4.alloc (.cells #[.int .i64 0, .int .i64 0, .string ⟨#[]⟩] 36)).drew) hb5 xA
          obtain ⟨b6, o6, y0, y1, y2, e6, k0, k1, k2, hy⟩ := srcMl M5.out (i := x) (by rw [M4.out.1]; exact hx)
          cases e6
          have hmem : (y0, y1, y2) ∈ Ms := by
            rw [← hy.out, List.getD_eq_getElem?_getD, List.getElem?_eq_getElem (by rw [M4.out.1]; exact hx)]
            exact List.getElem_mem _
          have hxi : (x : Int) < (n3 : Int) := by omega
          have hx0 : (0 : Int) ≤ (x : Int) := by omega
          clear k0 k1 k2
          have X5 : Hid (Box w5 w4.heap.size [.int .i64 0, .int .i64 0, .string ⟨#[]⟩]) := Box.below (w := (w4.alloc (.cells #[.int .i64 0, .int .i64 0, .string ⟨#[]⟩] 36)).drew) (Box.new rfl) hb5
          refine hK _ _ ⟨x53, M5.out⟩ (fun hHeld => ?_)
          clear hK K
          refine tkA (i := 7) (v := .pointer (some ⟨b5, o5 + x * 3, none⟩)) ?_ hHeld ?_
          · intro w9 hSw
            obtain ⟨s1, s2⟩ := hSw
            go_simp
          simp only [Act.put, List.setIfInBounds_toArray, List.set_cons_zero, List.set_cons_succ]
          refine tkA (i := 8) (v := .agg #[.int .i64 y0, .int .i64 y1, .string y2]) ?_ hHeld ?_
          · intro w9 hSw
            obtain ⟨s1, s2⟩ := hSw
            obtain ⟨_, _, z0, z1, z2, e9, q0, q1, q2, hz⟩ := srcMl s2 (i := x) (by rw [M4.out.1]; exact hx)
            cases e9
            have hz9 : (y0, y1, y2) = (z0, z1, z2) := by rw [← hy.out, ← hz.out]
            injection hz9 with r0 hz9
            injection hz9 with r1 r2
            subst r0 r1 r2
            go_simp
          simp only [Act.put, List.setIfInBounds_toArray, List.set_cons_zero, List.set_cons_succ]
          obtain ⟨f0, f0'⟩ := X5.out 0 _ rfl
          obtain ⟨f1, f1'⟩ := X5.out 1 _ rfl
          obtain ⟨f2, f2'⟩ := X5.out 2 _ rfl
          refine wpAnyH_ready (rs := [10]) (by kernel_rfl) (by simp) ?_
          refine AllReadyH.cons rfl (fun K hK => ?_) AllReadyH.nil
          go_simp
          have HF3 : Below w4.heap.size w4 ((((w5).setCell ⟨w4.heap.size, 0, none⟩ (.int .i64 y0)).setCell ⟨w4.heap.size, 1, none⟩ (.int .i64 y1)).setCell ⟨w4.heap.size, 2, none⟩ (.string y2)) := ((HB5.out.setCell (Nat.le_refl _) _).setCell (Nat.le_refl _) _).setCell (Nat.le_refl _) _
          have BF3 : Box ((((w5).setCell ⟨w4.heap.size, 0, none⟩ (.int .i64 y0)).setCell ⟨w4.heap.size, 1, none⟩ (.int .i64 y1)).setCell ⟨w4.heap.size, 2, none⟩ (.string y2)) (w4.heap.size) [.int .i64 y0, .int .i64 y1, .string y2] := ((X5.out.set 0 (.int .i64 y0)).set 1 (.int .i64 y1)).set 2 (.string y2)
          refine hK _ _ ⟨cell_later (w := w4) HF3 x43, Src.below (w := w4) M4.out.2 HF3⟩ (fun hHeld => ?_)
          clear hK K
          refine wpAnyH_done (by kernel_rfl) ?_ _
          refine NoPanic.normal ?_
          clear hHeld
          go_wp2_with fail
          go_meet
          exact ⟨_, y0, y1, y2, rfl, hmem, BF3, HF3⟩
      case rest =>
        obtain ⟨p, y0, y1, y2, rfl, hmem, Z6, H46⟩ := hcut
        have X6 : Hid (Box wc w3.heap.size [.string inboxT, .int .i64 va, .int .i64 nx, .slice (some ⟨b5, o5, none⟩) n3 c3]) := Box.below X4.out H46.out
        have A6 : Hid (At wc a1 L l1 c1) := A4.out.below H46.out
        have B6 : Hid (Below w.heap.size w wc) := B4.out.trans (H46.out.mono B4.out.size)
        obtain ⟨R, uid, cd, hR⟩ : ∃ R uid cd, cmR L u inboxT y0 inboxT = (R, uid, cd) := ⟨_, _, _, rfl⟩
        have HI : Hid (AppIs L R u inboxT y2 y1 uid cd) := HFI.out.2.2 _ hmem R uid cd HD.out.2 hR
        have HZR : Hid (R.length ≤ 60 ∧ ∀ x ∈ R, x.1.size ≤ 1048576 ∧ x.2.size ≤ 1048576) := store_small HI.out.1
        obtain ⟨z60, _⟩ := Z6.out 0 _ rfl
        have CI := implCopyMail a1 l1 c1 L u inboxT y0 inboxT wc A6.out.1 (by omega) HZ.out.2 A6.out.2.2.2 (by omega) (by decide) (by decide) (HG.out.below h8 B6.out) (by have := B6.out.size; omega) R uid cd hR
        have HRC : Hid (cmR L u inboxT y0 inboxT = (R, uid, cd)) := hR
        clear CAT x43 hmem hR
        go_wp2_with fail
        refine CI.mono ?_
        rintro e w7 ⟨v7, rfl, ho7, hb7⟩
        obtain ⟨a7, l7, c7, rfl, hA7⟩ := At.own ho7
        have A7 : Hid (At w7 a1 L l1 c1 ∧ At w7 a7 R l7 c7) := ⟨A6.out.below hb7, hA7⟩
        have hl7 : l7 ≤ 60 := hA7.le HI.out.1
        have H47 : Hid (Below w4.heap.size w4 w7) := H46.out.trans (hb7.mono H46.out.size)
        have Z7 : Hid (Box w7 p [.int .i64 y0, .int .i64 y1, .string y2]) := Box.below Z6.out hb7
        obtain ⟨z70, _⟩ := Z7.out 0 _ rfl
        have CJ := specCopyMail a1 l1 c1 L u inboxT y0 inboxT w7 A7.out.1.1 (by omega) A7.out.1.2.1 A7.out.1.2.2.1 HZ.out.2 A7.out.1.2.2.2 (by omega) (by decide) (by decide) R uid cd HRC.out
        clear CI hb7 ho7 hA7 A6 Z6 X6 z60 HRC
        go_wp2_with fail
        refine CJ.mono ?_
        rintro e w8 ⟨v8, rfl, ho8, hb8⟩
        obtain ⟨a8, l8, c8, rfl, hA8⟩ := At.own ho8
        obtain rfl : l8 = l7 := by rw [← hA8.1, ← A7.out.2.1]
        have A8 : Hid (At w8 a1 L l1 c1 ∧ At w8 a7 R l8 c7 ∧ At w8 a8 R l8 c8) := ⟨A7.out.1.below hb8, A7.out.2.below hb8, hA8⟩
        have H48 : Hid (Below w4.heap.size w4 w8) := H47.out.trans (hb8.mono H47.out.size)
        have Z8 : Hid (Box w8 p [.int .i64 y0, .int .i64 y1, .string y2]) := Box.below Z7.out hb8
        have CS := samePairsM a7 a8 l8 c7 c8 R w8 A8.out.2.1.1 (by omega) A8.out.2.1.2.2.2 A8.out.2.2.2.2.2
        clear CJ hb8 ho8 hA8 A7 Z7 z70
        have hcd : cd = 0 ∨ cd = 12 ∨ cd = 7 := by
          rcases HI.out.2 with ⟨hc0, _, hc⟩ | ⟨hc0, _⟩
          · rw [HFI.out.1] at hc
            exact hc
          · exact .inl hc0
        rcases hcd with rfl | rfl | rfl
        · obtain ⟨va', nx', Ms', hfa, _, hx1, hx2, hfa2, _⟩ := HI.out.2.resolve_left (fun h9 => h9.1 rfl) |>.2
          rw [HFI.out.1] at hfa
          injection hfa with hfa hq
          injection hfa with e1 hfa
          injection hfa with e2 hfa
          injection hfa with e3 e4
          subst e2 e3 e4
          have FA2 : Hid (faM R u inboxT = ((inboxT, va, nx + 1, Ms ++ [(nx, y1, y2)]), 0)) := hfa2
          clear hfa2 HI
          go_wp2_with fail
          refine CS.mono ?_
          rintro e w9 ⟨rfl, hb9⟩
          have H49 : Hid (Below w4.heap.size w4 w9) := H48.out.trans (hb9.mono H48.out.size)
          have B9 : Hid (Below w.heap.size w w9) := B4.out.trans (H49.out.mono B4.out.size)
          have A9 : Hid (At w9 a7 R l8 c7) := A8.out.2.1.below hb9
          have Z9 : Hid (Box w9 p [.int .i64 y0, .int .i64 y1, .string y2]) := Box.below Z8.out hb9
          have CF := implFolderAt a7 l8 c7 R u inboxT w9 A9.out.1 (by omega) HZR.out.2 A9.out.2.2.2 (by omega) (by decide) (HG.out.below h8 B9.out) (by have := B9.out.size; omega)
          clear CS hb9 A8 Z8
          go_wp2_with fail
          refine CF.mono ?_
          rintro e w11 ⟨nm2, va2, nx2, a11, n11, c11, Ms2, q11, rfl, hfa, hMs, ho11, hb11⟩
          rw [FA2.out] at hfa
          injection hfa with hfa hq
          injection hfa with e1 hfa
          injection hfa with e2 hfa
          injection hfa with e3 e4
          subst e1 e2 e3 e4 hq
          obtain rfl : n11 = n3 + 1 := by rw [← hMs, ← M4.out.1, List.length_append]; rfl
          obtain ⟨w12, hw12⟩ : ∃ W, w11.alloc (.cells #[.string inboxT, .int .i64 va, .int .i64 (nx + 1), .slice a11 (n3 + 1) c11] 28) = W := ⟨_, rfl⟩
          have hb12 : Below w11.heap.size w11 w12 := by rw [← hw12]; exact (Below.refl _ _).alloc (Nat.le_refl _) _
          have Y12 : Hid (Box w12 w11.heap.size [.string inboxT, .int .i64 va, .int .i64 (nx + 1), .slice a11 (n3 + 1) c11]) := by show Box _ _ _; rw [← hw12]; exact Box.new rfl
          have H412 : Hid (Below w4.heap.size w4 w12) := (H49.out.trans (hb11.mono H49.out.size)).trans (hb12.mono (H49.out.trans (hb11.mono H49.out.size)).size)
          have X12 : Hid (Box w12 w3.heap.size [.string inboxT, .int .i64 va, .int .i64 nx, .slice (some ⟨b5, o5, none⟩) n3 c3]) := Box.below X4.out H412.out
          have Z12 : Hid (Box w12 p [.int .i64 y0, .int .i64 y1, .string y2]) := Box.below (Box.below Z9.out hb11) hb12
          obtain ⟨b9, o9, x0, x1, x2, rfl, m0, m1, m2, hx⟩ := srcMl ((own_ml ho11).below hb12) (i := n3) (by rw [List.length_append, M4.out.1]; simp)
          have hx9 : (nx, y1, y2) = (x0, x1, x2) := by
            have h9 := hx.out
            rw [List.getD_eq_getElem?_getD, List.getElem?_append_right (by rw [M4.out.1]; exact Nat.le_refl _), M4.out.1] at h9
            simpa using h9
          injection hx9 with s0 hx9
          injection hx9 with s1 s2
          subst s0 s1 s2
          obtain ⟨p3, _⟩ := X12.out 3 _ rfl
          obtain ⟨r3, _⟩ := Y12.out 3 _ rfl
          obtain ⟨z1, _⟩ := Z12.out 1 _ rfl
          obtain ⟨z2, _⟩ := Z12.out 2 _ rfl
          clear hb11 hb12 CF A9 Z9 hMs ho11 hx m0
          go_wp2_with fail
          go_region
          all_goals go_wp2_with fail
          all_goals go_meet
          all_goals exact ⟨rfl, Below.drewN' H412.out _⟩
        all_goals
          have hRL : R = L := by
            rcases HI.out.2 with ⟨_, h9, _⟩ | ⟨h9, _⟩
            · exact h9
            · cases h9
          have FA2 : Hid (faM R u inboxT = ((inboxT, va, nx, Ms), 0)) := by rw [hRL]; exact HFI.out.1
          clear HI hRL
          go_wp2_with fail
          refine CS.mono ?_
          rintro e w9 ⟨rfl, hb9⟩
          have H49 : Hid (Below w4.heap.size w4 w9) := H48.out.trans (hb9.mono H48.out.size)
          have B9 : Hid (Below w.heap.size w w9) := B4.out.trans (H49.out.mono B4.out.size)
          have A9 : Hid (At w9 a7 R l8 c7) := A8.out.2.1.below hb9
          have CF := implFolderAt a7 l8 c7 R u inboxT w9 A9.out.1 (by omega) HZR.out.2 A9.out.2.2.2 (by omega) (by decide) (HG.out.below h8 B9.out) (by have := B9.out.size; omega)
          clear CS hb9 A8
          go_wp2_with fail
          refine CF.mono ?_
          rintro e w11 ⟨nm2, va2, nx2, a11, n11, c11, Ms2, q11, rfl, hfa, hMs, ho11, hb11⟩
          rw [FA2.out] at hfa
          injection hfa with hfa hq
          subst hq
          have H411 : Hid (Below w4.heap.size w4 w11) := H49.out.trans (hb11.mono H49.out.size)
          obtain ⟨w12, hw12⟩ : ∃ W, w11.alloc (.cells #[.string nm2, .int .i64 va2, .int .i64 nx2, .slice a11 n11 c11] 28) = W := ⟨_, rfl⟩
          have H412 : Hid (Below w4.heap.size w4 w12) := H411.out.trans (by rw [← hw12]; exact (Below.refl _ _).alloc H411.out.size _)
          clear hb11 CF A9 hMs ho11 hfa
          go_wp2_with fail
          go_region
          all_goals go_wp2_with fail
          all_goals go_meet
          all_goals exact ⟨rfl, Below.drewN' H412.out _⟩
  case rest => as_aux_lemma =>
    obtain ⟨rfl, hbc⟩ := hcut
    have Bc : Hid (Below w.heap.size w wc) := B4.out.trans (hbc.out.mono B4.out.size)
    have Ac : Hid (At wc a1 L l1 c1) := A4.out.below hbc.out
    clear hbc x43 M4 X4
    have F1 := implFolderAt a1 l1 c1 L u workT wc Ac.out.1 (by omega) HZ.out.2 Ac.out.2.2.2 (by omega) (by decide) (HG.out.below h8 Bc.out) (by have := Bc.out.size; omega)
    go_wp2_with fail
    refine F1.mono ?_
    rintro e wh1 ⟨nmw, vw, nw, aw, mw, cw, Mw, qw, rfl, hfaw, hMw, how, hbw⟩
    obtain ⟨wh2, hhb2⟩ : ∃ W, wh1.alloc (.cells #[.string nmw, .int .i64 vw, .int .i64 nw, .slice aw mw cw] 28) = W := ⟨_, rfl⟩
    have hb2 : Below wh1.heap.size wh1 wh2 := by rw [← hhb2]; exact (Below.refl _ _).alloc (Nat.le_refl _) _
    have P2 : Hid (Box wh2 wh1.heap.size [.string nmw, .int .i64 vw, .int .i64 nw, .slice aw mw cw]) := by show Box _ _ _; rw [← hhb2]; exact Box.new rfl
    have D2 : Hid (At wh2 a1 L l1 c1) := (Ac.out.below hbw).below hb2
    have E2 : Hid (Below w.heap.size w wh2) := (Bc.out.trans (hbw.mono Bc.out.size)).trans (hb2.mono (Bc.out.trans (hbw.mono Bc.out.size)).size)
    have N2 : Hid (Mw.length = mw ∧ Src wh2 aw (cellsMl Mw)) := ⟨hMw, (own_ml how).below hb2⟩
    have HFW : Hid (faM L u workT = ((nmw, vw, nw, Mw), qw)) := hfaw
    have F2 := implRenameFolder a1 l1 c1 L u workT otherT wh2 D2.out.1 (by omega) HZ.out.2 D2.out.2.2.2 (by omega) (by decide) (by decide) (HG.out.below h8 E2.out) (by have := E2.out.size; omega) RR qq HRN.out.1
    clear F1 hbw hb2 hMw how hfaw Ac Bc
    go_wp2_with fail
    refine F2.mono ?_
    rintro e wh3 ⟨v3, rfl, ho3, hb3⟩
    obtain ⟨ar, lr, cr, rfl, hAr⟩ := At.own ho3
    have D3 : Hid (At wh3 a1 L l1 c1 ∧ At wh3 ar RR lr cr) := ⟨D2.out.below hb3, hAr⟩
    have hlr : lr ≤ 60 := hAr.le HRN.out.2.1
    have E3 : Hid (Below w.heap.size w wh3) := E2.out.trans (hb3.mono E2.out.size)
    have N3 : Hid (Mw.length = mw ∧ Src wh3 aw (cellsMl Mw)) := ⟨N2.out.1, N2.out.2.below hb3⟩
    have P3 : Hid (Box wh3 wh1.heap.size [.string nmw, .int .i64 vw, .int .i64 nw, .slice aw mw cw]) := Box.below P2.out hb3
    have F3 := specRenameFolder a1 l1 c1 L u workT otherT wh3 D3.out.1.1 (by omega) D3.out.1.2.1 D3.out.1.2.2.1 HZ.out.2 D3.out.1.2.2.2 (by omega) (by decide) (by decide) RR qq HRN.out.1
    clear F2 hb3 ho3 hAr D2 N2 P2 hhb2
    go_wp2_with fail
    refine F3.mono ?_
    rintro e wh4 ⟨v4, rfl, ho4, hb4⟩
    obtain ⟨aq, ls, cs, rfl, hAs⟩ := At.own ho4
    obtain rfl : ls = lr := by rw [← hAs.1, ← D3.out.2.1]
    have D4 : Hid (At wh4 a1 L l1 c1 ∧ At wh4 ar RR ls cr ∧ At wh4 aq RR ls cs) := ⟨D3.out.1.below hb4, D3.out.2.below hb4, hAs⟩
    have E4 : Hid (Below w.heap.size w wh4) := E3.out.trans (hb4.mono E3.out.size)
    have N4 : Hid (Mw.length = mw ∧ Src wh4 aw (cellsMl Mw)) := ⟨N3.out.1, N3.out.2.below hb4⟩
    have P4 : Hid (Box wh4 wh1.heap.size [.string nmw, .int .i64 vw, .int .i64 nw, .slice aw mw cw]) := Box.below P3.out hb4
    have F4 := samePairsM ar aq ls cr cs RR wh4 D4.out.2.1.1 (by omega) D4.out.2.1.2.2.2 D4.out.2.2.2.2.2
    clear F3 hb4 ho4 hAs D3 N3 P3
    go_wp2_with fail
    refine F4.mono ?_
    rintro e wh5 ⟨rfl, hb5⟩
    have D5 : Hid (At wh5 a1 L l1 c1 ∧ At wh5 ar RR ls cr) := ⟨D4.out.1.below hb5, D4.out.2.1.below hb5⟩
    have E5 : Hid (Below w.heap.size w wh5) := E4.out.trans (hb5.mono E4.out.size)
    have N5 : Hid (Mw.length = mw ∧ Src wh5 aw (cellsMl Mw)) := ⟨N4.out.1, N4.out.2.below hb5⟩
    have P5 : Hid (Box wh5 wh1.heap.size [.string nmw, .int .i64 vw, .int .i64 nw, .slice aw mw cw]) := Box.below P4.out hb5
    have F5 := implMailStoreOK ar ls cr RR wh5 D5.out.2.1 (by omega) HZRR.out.2 D5.out.2.2.2.2 (HG.out.below h8 E5.out) (by have := E5.out.size; omega) true (by show implB RR = true; rw [impl_store, HRN.out.2.1])
    clear F4 hb5 D4 N4 P4
    go_wp2_with fail
    refine F5.mono ?_
    rintro e wh6 ⟨rfl, hb6⟩
    have D6 : Hid (At wh6 a1 L l1 c1 ∧ At wh6 ar RR ls cr) := ⟨D5.out.1.below hb6, D5.out.2.below hb6⟩
    have E6 : Hid (Below w.heap.size w wh6) := E5.out.trans (hb6.mono E5.out.size)
    have N6 : Hid (Mw.length = mw ∧ Src wh6 aw (cellsMl Mw)) := ⟨N5.out.1, N5.out.2.below hb6⟩
    have P6 : Hid (Box wh6 wh1.heap.size [.string nmw, .int .i64 vw, .int .i64 nw, .slice aw mw cw]) := Box.below P5.out hb6
    clear F5 hb6 D5 N5 P5
    rcases HRN.out.2.2 with ⟨rfl, hf16⟩ | ⟨rfl, va', vb', nx', Mx, r1, r2, r3, r4, r5, r6⟩
    · have hqw : qw = 16 := by rw [HFW.out] at hf16; exact hf16
      subst hqw
      clear hf16 HRN HFW
      go_wp2_with fail
      go_ret
      exact ⟨rfl, E6.out⟩
    · rw [HFW.out] at r1
      injection r1 with r1 z5
      injection r1 with z1 r1
      injection r1 with z2 r1
      injection r1 with z3 z4
      subst z1 z2 z3 z4 z5
      have HO : Hid (faM RR u otherT = ((otherT, vb', nw, Mw), 0) ∧ faM RR u workT = (z4, 16) ∧ RiseP L RR) := ⟨r2, r3, r5⟩
      have F6 := implFolderAt ar ls cr RR u otherT wh6 D6.out.2.1 (by omega) HZRR.out.2 D6.out.2.2.2.2 (by omega) (by decide) (HG.out.below h8 E6.out) (by have := E6.out.size; omega)
      clear HRN HFW r2 r3 r5
      go_wp2_with fail
      refine F6.mono ?_
      rintro e wh7 ⟨nmo, vo, no, ao, mo, co, Mo, qo, rfl, hfao, hMo, hoo, hbo⟩
      rw [HO.out.1] at hfao
      injection hfao with hfao z5
      injection hfao with z1 hfao
      injection hfao with z2 hfao
      injection hfao with z3 z4
      subst z1 z2 z3 z4 z5
      obtain rfl : mo = mw := by rw [← hMo, N6.out.1]
      obtain ⟨wh8, hhb8⟩ : ∃ W, wh7.alloc (.cells #[.string otherT, .int .i64 vb', .int .i64 nw, .slice ao mo co] 28) = W := ⟨_, rfl⟩
      have hb8 : Below wh7.heap.size wh7 wh8 := by rw [← hhb8]; exact (Below.refl _ _).alloc (Nat.le_refl _) _
      have Q8 : Hid (Box wh8 wh7.heap.size [.string otherT, .int .i64 vb', .int .i64 nw, .slice ao mo co]) := by show Box _ _ _; rw [← hhb8]; exact Box.new rfl
      have D8 : Hid (At wh8 a1 L l1 c1 ∧ At wh8 ar RR ls cr) := ⟨(D6.out.1.below hbo).below hb8, (D6.out.2.below hbo).below hb8⟩
      have E8 : Hid (Below w.heap.size w wh8) := (E6.out.trans (hbo.mono E6.out.size)).trans (hb8.mono (E6.out.trans (hbo.mono E6.out.size)).size)
      have N8 : Hid (Mw.length = mo ∧ Src wh8 aw (cellsMl Mw) ∧ Src wh8 ao (cellsMl Mw)) := ⟨hMo, (N6.out.2.below hbo).below hb8, (own_ml hoo).below hb8⟩
      have P8 : Hid (Box wh8 wh1.heap.size [.string workT, .int .i64 vw, .int .i64 nw, .slice aw mo cw]) := Box.below (Box.below P6.out hbo) hb8
      have F7 := implFolderAt ar ls cr RR u workT wh8 D8.out.2.1 (by omega) HZRR.out.2 D8.out.2.2.2.2 (by omega) (by decide) (HG.out.below h8 E8.out) (by have := E8.out.size; omega)
      clear F6 hbo hb8 D6 N6 P6 hMo hoo
      go_wp2_with fail
      refine F7.mono ?_
      rintro e wh9 ⟨nmz, vz, nz, az, mz, cz, Mz, qz, rfl, hfaz, hMz, hoz, hbz⟩
      rw [HO.out.2.1] at hfaz
      injection hfaz with _ z5
      subst z5
      obtain ⟨wh10, hhb10⟩ : ∃ W, wh9.alloc (.cells #[.string nmz, .int .i64 vz, .int .i64 nz, .slice az mz cz] 28) = W := ⟨_, rfl⟩
      have hb10 : Below wh9.heap.size wh9 wh10 := by rw [← hhb10]; exact (Below.refl _ _).alloc (Nat.le_refl _) _
      have Q10 : Hid (Box wh10 wh7.heap.size [.string otherT, .int .i64 vb', .int .i64 nw, .slice ao mo co]) := Box.below (Box.below Q8.out hbz) hb10
      have P10 : Hid (Box wh10 wh1.heap.size [.string workT, .int .i64 vw, .int .i64 nw, .slice aw mo cw]) := Box.below (Box.below P8.out hbz) hb10
      have D10 : Hid (At wh10 a1 L l1 c1 ∧ At wh10 ar RR ls cr) := ⟨(D8.out.1.below hbz).below hb10, (D8.out.2.below hbz).below hb10⟩
      have E10 : Hid (Below w.heap.size w wh10) := (E8.out.trans (hbz.mono E8.out.size)).trans (hb10.mono (E8.out.trans (hbz.mono E8.out.size)).size)
      have N10 : Hid (Mw.length = mo ∧ Src wh10 aw (cellsMl Mw) ∧ Src wh10 ao (cellsMl Mw)) := ⟨N8.out.1, (N8.out.2.1.below hbz).below hb10, (N8.out.2.2.below hbz).below hb10⟩
      have F8 := specRises a1 l1 c1 L ar ls cr RR wh10 D10.out.1.1 D10.out.2.1 HO.out.2.2 D10.out.1.2.2.2 D10.out.2.2.2.2
      clear F7 hbz hb10 D8 N8 P8 Q8 hMz hoz hhb8 HO
      go_wp2_with fail
      refine F8.mono ?_
      rintro e wh11 ⟨rfl, hb11⟩
      have Q11 : Hid (Box wh11 wh7.heap.size [.string otherT, .int .i64 vb', .int .i64 nw, .slice ao mo co]) := Box.below Q10.out hb11
      have P11 : Hid (Box wh11 wh1.heap.size [.string workT, .int .i64 vw, .int .i64 nw, .slice aw mo cw]) := Box.below P10.out hb11
      have E11 : Hid (Below w.heap.size w wh11) := E10.out.trans (hb11.mono E10.out.size)
      have N11 : Hid (Mw.length = mo ∧ Src wh11 aw (cellsMl Mw) ∧ Src wh11 ao (cellsMl Mw)) := ⟨N10.out.1, N10.out.2.1.below hb11, N10.out.2.2.below hb11⟩
      obtain ⟨q1, _⟩ := Q11.out 1 _ rfl
      obtain ⟨q2, _⟩ := Q11.out 2 _ rfl
      obtain ⟨q3, _⟩ := Q11.out 3 _ rfl
      obtain ⟨p1, _⟩ := P11.out 1 _ rfl
      obtain ⟨p2, _⟩ := P11.out 2 _ rfl
      obtain ⟨p3, _⟩ := P11.out 3 _ rfl
      have hvn : ¬ vb' ≤ vw := by omega
      have hmo6 : mo ≤ 6 := by rw [← N11.out.1]; exact r6
      clear F8 hb11 D10 N10 P10 Q10 hhb10
      go_wp2_with fail
      go_loopw [30] (fun iv wr => ∃ j : Nat, j ≤ mo ∧ iv = .int .i64 (j : Int) ∧ Hid (Below wh11.heap.size wh11 wr)) (fun i _ => mo - (RowKit.intOf i).toNat)
      case atStart => exact ⟨0, by omega, rfl, Below.refl _ _⟩
      case round =>
        obtain ⟨j, hj, rfl, hbr⟩ := hrel
        have E12 : Hid (Below w.heap.size w wr) := E11.out.trans (hbr.out.mono E11.out.size)
        have Q12 : Hid (Box wr wh7.heap.size [.string otherT, .int .i64 vb', .int .i64 nw, .slice ao mo co]) := Box.below Q11.out hbr.out
        have P12 : Hid (Box wr wh1.heap.size [.string workT, .int .i64 vw, .int .i64 nw, .slice aw mo cw]) := Box.below P11.out hbr.out
        obtain ⟨q33, _⟩ := Q12.out 3 _ rfl
        obtain ⟨p33, _⟩ := P12.out 3 _ rfl
        clear q1 q2 q3 p1 p2 p3
        by_cases hlt : j < mo
        · have hlti : (j : Int) < (mo : Int) := by omega
          have hj0 : (0 : Int) ≤ (j : Int) := by omega
          obtain ⟨ba, oa, y0, y1, y2, rfl, k0, k1, k2, hy⟩ := srcMl (N11.out.2.1.below hbr.out) (i := j) (by rw [N11.out.1]; exact hlt)
          obtain ⟨bb, ob, t0, t1x, t2x, rfl, g0, g1, g2, hz⟩ := srcMl (N11.out.2.2.below hbr.out) (i := j) (by rw [N11.out.1]; exact hlt)
          have hz9 : (y0, y1, y2) = (t0, t1x, t2x) := by rw [← hy.out, ← hz.out]
          injection hz9 with s0 hz9
          injection hz9 with s1 s2
          subst s0 s1 s2
          clear hy hz
          go_wp2_with fail
          go_region
          all_goals go_wp2_with fail
          all_goals exact ⟨⟨j + 1, by omega, by go_num, Below.drewN' hbr.out _⟩, by simp [RowKit.intOf]; omega⟩
        · obtain rfl : j = mo := by omega
          have hlti : ¬ (j : Int) < (j : Int) := by omega
          go_wp2_with fail
          go_ret
          exact ⟨rfl, E12.out⟩
end Go.Proofs.YtddnecljdecamaaGreatDoor
