
/-
  The walk of the law FnFlags. By an AI agent.
-/
import Derived.Test.YthgbclipknfmjaaGreatDoorFl30
import Derived.Test.YthgbclipknfmjaaGreatDoorFl31
import Derived.BigQuiet
import Derived.Deep.QuietTactic
namespace Go.Proofs.YthgbclipknfmjaaGreatDoor
open Go.ChangeShapes Go.WideShapes Go.ChangeAt Go.RowKit Go.Deep Go.Lib
set_option linter.unusedVariables false
set_option linter.unusedSimpArgs false
set_option maxRecDepth 100000

theorem store_small {L : List PM} (h : storeB L = true) : L.length ≤ 60 ∧ ∀ x ∈ L, x.1.size ≤ 1048576 ∧ x.2.size ≤ 1048576 := by
  have hg := (store_facts h).1
  exact ⟨hg.1, fun x hx => by have := hg.2.1 x hx; omega⟩
/-- A list that lies somewhere. -/
def At (w : World) (a : Option Addr) (L : List PM) (n c : Nat) : Prop := L.length = n ∧ n ≤ c ∧ c ≤ maxLen ∧ Src w a (cellsP L)
theorem At.below {w w' : World} {a : Option Addr} {L : List PM} {n c : Nat} (h : At w a L n c) (hb : Below w.heap.size w w') : At w' a L n c := ⟨h.1, h.2.1, h.2.2.1, h.2.2.2.below hb⟩
theorem At.own {w : World} {v : Value} {L : List PM} {base : Nat} (h : w.ownsRow base 68 2 v L.length (cellsP L)) : ∃ a n c, v = .slice a n c ∧ At w a L n c := by
  obtain ⟨a, c, rfl, hs, _⟩ := own_src h
  exact ⟨a, _, c, rfl, rfl, (own_capx h).1, (own_capx h).2, hs⟩
theorem At.le {w : World} {a : Option Addr} {L : List PM} {n c : Nat} (h : At w a L n c) (hs : storeB L = true) : n ≤ 60 := by
  have h1 := (store_small hs).1
  rw [h.1] at h1
  exact h1
theorem own_ml {w : World} {base n c : Nat} {a : Option Addr} {Ms : List MMl} (h : w.ownsRow base 37 3 (.slice a n c) n (cellsMl Ms)) : Src w a (cellsMl Ms) := by
  obtain ⟨a9, c9, e9, hs9, _⟩ := own_src h
  cases e9
  exact hs9
set_option maxHeartbeats 16000000 in
theorem flagsWalk (a : Option Addr) (c : Nat) (C : List Nat) (ma : Option Addr) (mc : Nat) (M : List Nat) (w : World) (h : Src w a (cellsB C)) (hC9 : C.length ≤ maxLen) (hlt : ∀ x ∈ C, x < 256) (hm : Src w ma (cellsB M)) (hM9 : M.length ≤ maxLen) (hmt : ∀ x ∈ M, x < 256) (hG : Gl w) (h8 : 8 ≤ w.heap.size) :
    Calls Tryz.prog 3 #[.slice a C.length c, .slice ma M.length mc] w fun e w' => e = .returned (.bool true) ∧ Below w.heap.size w w' := by
  unfold maxLen at hC9 hM9
  obtain ⟨n, hn⟩ : ∃ n, C.length = n := ⟨_, rfl⟩
  obtain ⟨m, hm9⟩ : ∃ m, M.length = m := ⟨_, rfl⟩
  have HN : Hid (C.length = n ∧ (∀ x ∈ C, x < 256) ∧ Src w a (cellsB C)) := ⟨hn, hlt, h⟩
  have HM : Hid (M.length = m ∧ (∀ x ∈ M, x < 256) ∧ Src w ma (cellsB M)) := ⟨hm9, hmt, hm⟩
  have HG : Hid (Gl w) := hG
  rw [hn] at hC9
  rw [hm9] at hM9
  rw [hn, hm9]
  clear hlt h hn hG hmt hm hm9
  by_cases t1 : (1048576 : Int) < (n : Int)
  · go_enter Tryz.func3, Tryz.ntmps3
    go_wp2_with fail
    go_ret
    exact ⟨rfl, Below.refl _ _⟩
  by_cases t2 : (1048576 : Int) < (m : Int)
  · go_enter Tryz.func3, Tryz.ntmps3
    go_wp2_with fail
    go_ret
    exact ⟨rfl, Below.refl _ _⟩
  have n20 : n ≤ 1048576 := by omega
  have m20 : m ≤ 1048576 := by omega
  go_enter Tryz.func3, Tryz.ntmps3
  go_wp2_with fail
  refine (specMailsOf a n c C w HN.out.1 n20 HN.out.2.1 HN.out.2.2).mono ?_
  rintro e w1 ⟨v, L, rfl, ⟨k, hk, hD⟩, ho1, hb1⟩
  obtain ⟨a1, l1, c1, rfl, hA1⟩ := At.own ho1
  have A1 : Hid (At w1 a1 L l1 c1) := hA1
  have B1 : Hid (Below w.heap.size w w1) := hb1
  have HD : Hid (Drawn k L ∧ k ≤ 22) := ⟨hD, hk⟩
  clear hb1 ho1 hA1 hD hk
  go_wp2_with fail
  refine (specUserOf ma m mc M w1 HM.out.1 m20 HM.out.2.1 (HM.out.2.2.below B1.out)).mono ?_
  rintro e w2 ⟨u, rfl, hu, hb2⟩
  have A2 : Hid (At w2 a1 L l1 c1) := A1.out.below hb2
  have B2 : Hid (Below w.heap.size w w2) := B1.out.trans (hb2.mono B1.out.size)
  have HU : Hid (u = annT ∨ u = bobT) := hu
  clear hb2 hu A1
  have hu8 := short_size' (HD.out.1.desk HU.out).1
  have HZ : Hid (L.length ≤ 60 ∧ ∀ x ∈ L, x.1.size ≤ 1048576 ∧ x.2.size ≤ 1048576) := store_small HD.out.1.st
  have hl60 : l1 ≤ 60 := A2.out.le HD.out.1.st
  go_wp2_with fail
  refine (specFolderOf ma m mc M w2 HM.out.1 m20 HM.out.2.1 (HM.out.2.2.below B2.out)).mono ?_
  rintro e w3 ⟨f, rfl, hsf, hb3⟩
  have A3 : Hid (At w3 a1 L l1 c1) := A2.out.below hb3
  have B3 : Hid (Below w.heap.size w w3) := B2.out.trans (hb3.mono B2.out.size)
  have HF : Hid (shortB f = true) := hsf
  have hf8 := short_size' hsf
  clear hb3 hsf A2
  go_wp2_with fail
  refine (implFolderAt a1 l1 c1 L u f w3 A3.out.1 (by omega) HZ.out.2 A3.out.2.2.2 (by omega) (by omega) (HG.out.below h8 B3.out) (by have := B3.out.size; omega)).mono ?_
  rintro e w4 ⟨nm, va, nx, a3, n3, c3, Ms, q, rfl, hfa, hMs, ho3, hb3⟩
  have HFA : Hid (faM L u f = ((nm, va, nx, Ms), q)) := hfa
  obtain ⟨w5, hw5⟩ : ∃ W, w4.alloc (.cells #[.string nm, .int .i64 va, .int .i64 nx, .slice a3 n3 c3] 28) = W := ⟨_, rfl⟩
  have hb4 : Below w4.heap.size w4 w5 := by rw [← hw5]; exact (Below.refl _ _).alloc (Nat.le_refl _) _
  have X5 : Hid (Box w5 w4.heap.size [.string nm, .int .i64 va, .int .i64 nx, .slice a3 n3 c3]) := by show Box _ _ _; rw [← hw5]; exact Box.new rfl
  have A5 : Hid (At w5 a1 L l1 c1) := (A3.out.below hb3).below hb4
  have B5 : Hid (Below w.heap.size w w5) := (B3.out.trans (hb3.mono B3.out.size)).trans (hb4.mono (B3.out.trans (hb3.mono B3.out.size)).size)
  have M5 : Hid (Ms.length = n3 ∧ Src w5 a3 (cellsMl Ms)) := ⟨hMs, (own_ml ho3).below hb4⟩
  clear hb3 hb4 hfa hMs ho3 A3
  by_cases hq : q = 0
  case neg => as_aux_lemma =>
    obtain ⟨h16, hx⟩ := ex_gone HD.out.1 HU.out HF.out HFA.out hq
    subst h16
    clear hq HFA
    go_wp2_with fail
    refine (implExpungeFolder a1 l1 c1 L u f w5 A5.out.1 (by omega) HZ.out.2 A5.out.2.2.2 (by omega) (by omega) (HG.out.below h8 B5.out) (by have := B5.out.size; omega) _ _ _ hx).mono ?_
    rintro e w6 ⟨v1, v2, rfl, _, _, hb6⟩
    have B6 : Hid (Below w.heap.size w w6) := B5.out.trans (hb6.mono B5.out.size)
    clear hb6 hx
    go_wp2_with fail
    go_ret
    exact ⟨rfl, B6.out⟩
  case pos => as_aux_lemma =>
    obtain ⟨hnm, hn6⟩ := fa_named HD.out.1 HU.out HF.out HFA.out hq
    subst hnm hq
    have hn3 : n3 ≤ 6 := by rw [← M5.out.1]; exact hn6
    clear hn6
    obtain ⟨A, hA⟩ : ∃ A : Nat → Int, (fun i => ((atM M i 4 : Nat) : Int)) = A := ⟨_, rfl⟩
    have HA : Hid (∀ i, A i = ((atM M i 4 : Nat) : Int)) := fun i => by rw [← hA]
    clear hA
    obtain ⟨x53, _⟩ := X5.out 3 _ rfl
    go_wp2_with fail
    go_loopw [13, 14] (fun nv iv wr => ∃ (j : Nat) (N : List PM) (an : Option Addr) (ln cn : Nat), j ≤ n3 ∧ iv = .int .i64 (j : Int) ∧ nv = .slice an ln cn ∧ ln ≤ 60 ∧ Hid (At wr an N ln cn) ∧ Hid (Drawn (k + j) N ∧ faM N u nm = ((nm, va, nx, flN A j Ms), 0)) ∧ Hid (Below w5.heap.size w5 wr)) (fun nv iv _ => n3 - (RowKit.intOf iv).toNat)
    case atStart => exact ⟨0, L, a1, l1, c1, by omega, rfl, rfl, hl60, A5.out, ⟨HD.out.1, HFA.out⟩, Below.refl _ _⟩
    case round =>
      obtain ⟨j, N, an, ln, cn, hj, rfl, rfl, hln, AN, HN, hbr⟩ := hrel
      have Br : Hid (Below w.heap.size w wr) := B5.out.trans (hbr.out.mono B5.out.size)
      have Xr : Hid (Box wr w4.heap.size [.string nm, .int .i64 va, .int .i64 nx, .slice a3 n3 c3]) := Box.below X5.out hbr.out
      have HZN : Hid (N.length ≤ 60 ∧ ∀ x ∈ N, x.1.size ≤ 1048576 ∧ x.2.size ≤ 1048576) := store_small HN.out.1.st
      obtain ⟨xr3, _⟩ := Xr.out 3 _ rfl
      clear x53 hw5
      by_cases hlt : j < n3
      case pos => as_aux_lemma =>
        have hlti : (j : Int) < (n3 : Int) := by omega
        have hj0 : (0 : Int) ≤ (j : Int) := by omega
        obtain ⟨b6, o6, y0, y1, y2, rfl, k0, k1, k2, hy⟩ := srcMl (M5.out.2.below hbr.out) (i := j) (by rw [M5.out.1]; exact hlt)
        obtain ⟨x, hx⟩ : ∃ x, atM M j 4 = x := ⟨_, rfl⟩
        have hx4 : x < 4 := by rw [← hx]; exact atM_lt (by omega)
        have CAT := fun (W : World) (hW : Below w.heap.size w W) => lawAtX ma m mc M j 4 W HM.out.1 m20 (by omega) (by omega) (by omega) HM.out.2.1 (HM.out.2.2.below hW)
        rw [hx] at CAT
        obtain ⟨R, q, hR⟩ : ∃ R q, sfR N u nm y0 (x : Int) = (R, q) := ⟨_, _, rfl⟩
        have hstep : q = 0 ∧ Drawn (k + (j + 1)) R ∧ faM R u nm = ((nm, va, nx, flN A (j + 1) Ms), 0) := by
          obtain ⟨e1, e2⟩ := flN_next (A := A) (Ms := Ms) (i := j) (by rw [M5.out.1]; exact hlt)
          have e3 : (Ms.getD j ml0).1 = y0 := by rw [hy.out]
          have hk9 := HD.out.2
          have h9 := sf_set (i := j) (fl := (x : Int)) (R := R) (q := q) (by omega) HN.out.1 HU.out HF.out HN.out.2 (by rw [flN_len, M5.out.1]; exact hlt) (by omega) (by omega) (by rw [e1, e3]; exact hR)
          refine ⟨h9.1, h9.2.1, ?_⟩
          have h10 := h9.2.2
          have e4 : A j = (x : Int) := by rw [HA.out, hx]
          rw [← e4, e2] at h10
          exact h10
        obtain ⟨rfl, hdr, hfr⟩ := hstep
        have HR : Hid (sfR N u nm y0 (x : Int) = (R, 0)) := hR
        have HNR : Hid (Drawn (k + (j + 1)) R ∧ faM R u nm = ((nm, va, nx, flN A (j + 1) Ms), 0)) := ⟨hdr, hfr⟩
        clear hR hdr hfr hx hy k1 k2 HA HFA
        go_upto_region 14 with fail
        refine wp_region_noPanic ?_
        refine wp_region_held_drew (S := fun w' => w'.cell? ⟨w4.heap.size, 3, none⟩ = some (.slice (some ⟨b6, o6, none⟩) n3 c3) ∧ w'.cell? ⟨b6, o6 + j * 3, none⟩ = some (.int .i64 y0)) (by kernel_rfl) ⟨xr3, k0⟩ (fun hHeld => ?_)
        refine tkA (i := 0) (v := .slice an ln cn) ?_ hHeld ?_
        · intro w9 hSw
          obtain ⟨s1, s2⟩ := hSw
          simp only [List.getElem_toArray, List.getElem_cons_succ, List.getElem_cons_zero]
          go_simp
        simp only [Act.put, List.getElem_toArray, List.getElem_cons_succ, List.getElem_cons_zero, List.setIfInBounds_toArray, List.set_cons_zero, List.set_cons_succ]
        refine tkA (i := 1) (v := .string u) ?_ hHeld ?_
        · intro w9 hSw
          obtain ⟨s1, s2⟩ := hSw
          simp only [List.getElem_toArray, List.getElem_cons_succ, List.getElem_cons_zero]
          go_simp
        simp only [Act.put, List.getElem_toArray, List.getElem_cons_succ, List.getElem_cons_zero, List.setIfInBounds_toArray, List.set_cons_zero, List.set_cons_succ]
        refine tkA (i := 2) (v := .string nm) ?_ hHeld ?_
        · intro w9 hSw
          obtain ⟨s1, s2⟩ := hSw
          simp only [List.getElem_toArray, List.getElem_cons_succ, List.getElem_cons_zero]
          go_simp
        simp only [Act.put, List.getElem_toArray, List.getElem_cons_succ, List.getElem_cons_zero, List.setIfInBounds_toArray, List.set_cons_zero, List.set_cons_succ]
        refine tkA (i := 3) (v := .pointer (some ⟨w4.heap.size, 3, none⟩)) ?_ hHeld ?_
        · intro w9 hSw
          obtain ⟨s1, s2⟩ := hSw
          simp only [List.getElem_toArray, List.getElem_cons_succ, List.getElem_cons_zero]
          go_simp
        simp only [Act.put, List.getElem_toArray, List.getElem_cons_succ, List.getElem_cons_zero, List.setIfInBounds_toArray, List.set_cons_zero, List.set_cons_succ]
        refine tkA (i := 4) (v := .slice (some ⟨b6, o6, none⟩) n3 c3) ?_ hHeld ?_
        · intro w9 hSw
          obtain ⟨s1, s2⟩ := hSw
          simp only [List.getElem_toArray, List.getElem_cons_succ, List.getElem_cons_zero]
          go_simp
        simp only [Act.put, List.getElem_toArray, List.getElem_cons_succ, List.getElem_cons_zero, List.setIfInBounds_toArray, List.set_cons_zero, List.set_cons_succ]
        refine tkA (i := 5) (v := .int .i64 (j : Int)) ?_ hHeld ?_
        · intro w9 hSw
          obtain ⟨s1, s2⟩ := hSw
          simp only [List.getElem_toArray, List.getElem_cons_succ, List.getElem_cons_zero]
          go_simp
        simp only [Act.put, List.getElem_toArray, List.getElem_cons_succ, List.getElem_cons_zero, List.setIfInBounds_toArray, List.set_cons_zero, List.set_cons_succ]
        refine tkA (i := 6) (v := .pointer (some ⟨b6, o6 + j * 3, none⟩)) ?_ hHeld ?_
        · intro w9 hSw
          obtain ⟨s1, s2⟩ := hSw
          simp only [List.getElem_toArray, List.getElem_cons_succ, List.getElem_cons_zero]
          go_simp
        simp only [Act.put, List.getElem_toArray, List.getElem_cons_succ, List.getElem_cons_zero, List.setIfInBounds_toArray, List.set_cons_zero, List.set_cons_succ]
        refine tkA (i := 7) (v := .pointer (some ⟨b6, o6 + j * 3, none⟩)) ?_ hHeld ?_
        · intro w9 hSw
          obtain ⟨s1, s2⟩ := hSw
          simp only [List.getElem_toArray, List.getElem_cons_succ, List.getElem_cons_zero]
          go_simp
        simp only [Act.put, List.getElem_toArray, List.getElem_cons_succ, List.getElem_cons_zero, List.setIfInBounds_toArray, List.set_cons_zero, List.set_cons_succ]
        refine tkA (i := 8) (v := .int .i64 y0) ?_ hHeld ?_
        · intro w9 hSw
          obtain ⟨s1, s2⟩ := hSw
          simp only [List.getElem_toArray, List.getElem_cons_succ, List.getElem_cons_zero]
          go_simp
        simp only [Act.put, List.getElem_toArray, List.getElem_cons_succ, List.getElem_cons_zero, List.setIfInBounds_toArray, List.set_cons_zero, List.set_cons_succ]
        refine tkA (i := 9) (v := .slice ma m mc) ?_ hHeld ?_
        · intro w9 hSw
          obtain ⟨s1, s2⟩ := hSw
          simp only [List.getElem_toArray, List.getElem_cons_succ, List.getElem_cons_zero]
          go_simp
        simp only [Act.put, List.getElem_toArray, List.getElem_cons_succ, List.getElem_cons_zero, List.setIfInBounds_toArray, List.set_cons_zero, List.set_cons_succ]
        refine tkA (i := 10) (v := .int .i64 (j : Int)) ?_ hHeld ?_
        · intro w9 hSw
          obtain ⟨s1, s2⟩ := hSw
          simp only [List.getElem_toArray, List.getElem_cons_succ, List.getElem_cons_zero]
          go_simp
        simp only [Act.put, List.getElem_toArray, List.getElem_cons_succ, List.getElem_cons_zero, List.setIfInBounds_toArray, List.set_cons_zero, List.set_cons_succ]
        refine wpAnyH_ready (rs := [11]) (by kernel_rfl) (by simp) ?_
        refine AllReadyH.cons rfl (fun K hK => ?_) AllReadyH.nil
        go_simp
        refine (CAT wr.drew Br.out.drew).mono ?_
        rintro e wa ⟨rfl, hba⟩
        dsimp only
        have xr3a : wa.cell? ⟨w4.heap.size, 3, none⟩ = some (.slice (some ⟨b6, o6, none⟩) n3 c3) := cell_later (w := wr.drew) hba xr3
        have k0a : wa.cell? ⟨b6, o6 + j * 3, none⟩ = some (.int .i64 y0) := cell_later (w := wr.drew) hba k0
        have Dwa : Hid (Below wr.heap.size wr wa) := (Below.refl _ _).drew.trans hba
        clear hba
        refine hK _ _ ⟨xr3a, k0a⟩ (fun hHeld => ?_)
        clear hK K
        refine wpAnyH_ready (rs := [12]) (by kernel_rfl) (by simp) ?_
        refine AllReadyH.cons rfl (fun K hK => ?_) AllReadyH.nil
        go_simp
        have Ba : Hid (Below w.heap.size w wa) := Br.out.trans (Dwa.out.mono Br.out.size)
        have Aa : Hid (At wa an N ln cn) := AN.out.below Dwa.out
        refine (implSetFlags an ln cn N u nm y0 (x : Int) wa Aa.out.1 (by omega) HZN.out.2 Aa.out.2.2.2 (by omega) (by omega) (HG.out.below h8 Ba.out) (by have := Ba.out.size; omega) R 0 HR).mono ?_
        rintro e wb ⟨v, rfl, ho, hb⟩
        dsimp only
        obtain ⟨ar, lr, cr, rfl, hAr⟩ := At.own ho
        have HAr : Hid (At wb ar R lr cr) := hAr
        clear ho hAr
        have xr3b : wb.cell? ⟨w4.heap.size, 3, none⟩ = some (.slice (some ⟨b6, o6, none⟩) n3 c3) := cell_later (w := wa) hb xr3a
        have k0b : wb.cell? ⟨b6, o6 + j * 3, none⟩ = some (.int .i64 y0) := cell_later (w := wa) hb k0a
        have Dwb : Hid (Below wr.heap.size wr wb) := Dwa.out.trans (hb.mono Dwa.out.size)
        clear hb xr3a k0a
        refine hK _ _ ⟨xr3b, k0b⟩ (fun hHeld => ?_)
        clear hK K
        refine tkA (i := 13) (v := .tuple #[.slice ar lr cr, .int .i64 0]) ?_ hHeld ?_
        · intro w9 hSw
          obtain ⟨s1, s2⟩ := hSw
          simp only [List.getElem_toArray, List.getElem_cons_succ, List.getElem_cons_zero]
          go_simp
        simp only [Act.put, List.getElem_toArray, List.getElem_cons_succ, List.getElem_cons_zero, List.setIfInBounds_toArray, List.set_cons_zero, List.set_cons_succ]
        refine tkA (i := 14) (v := .slice ar lr cr) ?_ hHeld ?_
        · intro w9 hSw
          obtain ⟨s1, s2⟩ := hSw
          simp only [List.getElem_toArray, List.getElem_cons_succ, List.getElem_cons_zero]
          go_simp
        simp only [Act.put, List.getElem_toArray, List.getElem_cons_succ, List.getElem_cons_zero, List.setIfInBounds_toArray, List.set_cons_zero, List.set_cons_succ]
        refine tkA (i := 15) (v := .int .i64 0) ?_ hHeld ?_
        · intro w9 hSw
          obtain ⟨s1, s2⟩ := hSw
          simp only [List.getElem_toArray, List.getElem_cons_succ, List.getElem_cons_zero]
          go_simp
        simp only [Act.put, List.getElem_toArray, List.getElem_cons_succ, List.getElem_cons_zero, List.setIfInBounds_toArray, List.set_cons_zero, List.set_cons_succ]
        refine wpAnyH_ready (rs := [16]) (by kernel_rfl) (by simp) ?_
        refine AllReadyH.cons rfl (fun K hK => ?_) AllReadyH.nil
        go_simp
        refine hK _ _ ⟨xr3b, k0b⟩ (fun hHeld => ?_)
        clear hK K
        refine wpAnyH_ready (rs := [17]) (by kernel_rfl) (by simp) ?_
        refine AllReadyH.cons rfl (fun K hK => ?_) AllReadyH.nil
        go_simp
        refine hK _ _ ⟨xr3b, k0b⟩ (fun hHeld => ?_)
        clear hK K
        refine wpAnyH_done (by kernel_rfl) ?_ _
        refine NoPanic.normal ?_
        clear hHeld
        have Bb : Hid (Below w.heap.size w wb) := Br.out.trans (Dwb.out.mono Br.out.size)
        have Ab : Hid (At wb an N ln cn) := AN.out.below Dwb.out
        have hlr : lr ≤ 60 := HAr.out.le HNR.out.1.st
        clear Ba Aa Dwa k0 xr3
        go_upto_region 15 with fail
        refine wp_region_noPanic ?_
        refine wp_region_held_drew (S := fun w' => w'.cell? ⟨w4.heap.size, 3, none⟩ = some (.slice (some ⟨b6, o6, none⟩) n3 c3) ∧ w'.cell? ⟨b6, o6 + j * 3, none⟩ = some (.int .i64 y0)) (by kernel_rfl) ⟨xr3b, k0b⟩ (fun hHeld => ?_)
        refine tkA (i := 0) (v := .slice an ln cn) ?_ hHeld ?_
        · intro w9 hSw
          obtain ⟨s1, s2⟩ := hSw
          simp only [List.getElem_toArray, List.getElem_cons_succ, List.getElem_cons_zero]
          go_simp
        simp only [Act.put, List.getElem_toArray, List.getElem_cons_succ, List.getElem_cons_zero, List.setIfInBounds_toArray, List.set_cons_zero, List.set_cons_succ]
        refine tkA (i := 1) (v := .string u) ?_ hHeld ?_
        · intro w9 hSw
          obtain ⟨s1, s2⟩ := hSw
          simp only [List.getElem_toArray, List.getElem_cons_succ, List.getElem_cons_zero]
          go_simp
        simp only [Act.put, List.getElem_toArray, List.getElem_cons_succ, List.getElem_cons_zero, List.setIfInBounds_toArray, List.set_cons_zero, List.set_cons_succ]
        refine tkA (i := 2) (v := .string nm) ?_ hHeld ?_
        · intro w9 hSw
          obtain ⟨s1, s2⟩ := hSw
          simp only [List.getElem_toArray, List.getElem_cons_succ, List.getElem_cons_zero]
          go_simp
        simp only [Act.put, List.getElem_toArray, List.getElem_cons_succ, List.getElem_cons_zero, List.setIfInBounds_toArray, List.set_cons_zero, List.set_cons_succ]
        refine tkA (i := 3) (v := .pointer (some ⟨w4.heap.size, 3, none⟩)) ?_ hHeld ?_
        · intro w9 hSw
          obtain ⟨s1, s2⟩ := hSw
          simp only [List.getElem_toArray, List.getElem_cons_succ, List.getElem_cons_zero]
          go_simp
        simp only [Act.put, List.getElem_toArray, List.getElem_cons_succ, List.getElem_cons_zero, List.setIfInBounds_toArray, List.set_cons_zero, List.set_cons_succ]
        refine tkA (i := 4) (v := .slice (some ⟨b6, o6, none⟩) n3 c3) ?_ hHeld ?_
        · intro w9 hSw
          obtain ⟨s1, s2⟩ := hSw
          simp only [List.getElem_toArray, List.getElem_cons_succ, List.getElem_cons_zero]
          go_simp
        simp only [Act.put, List.getElem_toArray, List.getElem_cons_succ, List.getElem_cons_zero, List.setIfInBounds_toArray, List.set_cons_zero, List.set_cons_succ]
        refine tkA (i := 5) (v := .int .i64 (j : Int)) ?_ hHeld ?_
        · intro w9 hSw
          obtain ⟨s1, s2⟩ := hSw
          simp only [List.getElem_toArray, List.getElem_cons_succ, List.getElem_cons_zero]
          go_simp
        simp only [Act.put, List.getElem_toArray, List.getElem_cons_succ, List.getElem_cons_zero, List.setIfInBounds_toArray, List.set_cons_zero, List.set_cons_succ]
        refine tkA (i := 6) (v := .pointer (some ⟨b6, o6 + j * 3, none⟩)) ?_ hHeld ?_
        · intro w9 hSw
          obtain ⟨s1, s2⟩ := hSw
          simp only [List.getElem_toArray, List.getElem_cons_succ, List.getElem_cons_zero]
          go_simp
        simp only [Act.put, List.getElem_toArray, List.getElem_cons_succ, List.getElem_cons_zero, List.setIfInBounds_toArray, List.set_cons_zero, List.set_cons_succ]
        refine tkA (i := 7) (v := .pointer (some ⟨b6, o6 + j * 3, none⟩)) ?_ hHeld ?_
        · intro w9 hSw
          obtain ⟨s1, s2⟩ := hSw
          simp only [List.getElem_toArray, List.getElem_cons_succ, List.getElem_cons_zero]
          go_simp
        simp only [Act.put, List.getElem_toArray, List.getElem_cons_succ, List.getElem_cons_zero, List.setIfInBounds_toArray, List.set_cons_zero, List.set_cons_succ]
        refine tkA (i := 8) (v := .int .i64 y0) ?_ hHeld ?_
        · intro w9 hSw
          obtain ⟨s1, s2⟩ := hSw
          simp only [List.getElem_toArray, List.getElem_cons_succ, List.getElem_cons_zero]
          go_simp
        simp only [Act.put, List.getElem_toArray, List.getElem_cons_succ, List.getElem_cons_zero, List.setIfInBounds_toArray, List.set_cons_zero, List.set_cons_succ]
        refine tkA (i := 9) (v := .slice ma m mc) ?_ hHeld ?_
        · intro w9 hSw
          obtain ⟨s1, s2⟩ := hSw
          simp only [List.getElem_toArray, List.getElem_cons_succ, List.getElem_cons_zero]
          go_simp
        simp only [Act.put, List.getElem_toArray, List.getElem_cons_succ, List.getElem_cons_zero, List.setIfInBounds_toArray, List.set_cons_zero, List.set_cons_succ]
        refine tkA (i := 10) (v := .int .i64 (j : Int)) ?_ hHeld ?_
        · intro w9 hSw
          obtain ⟨s1, s2⟩ := hSw
          simp only [List.getElem_toArray, List.getElem_cons_succ, List.getElem_cons_zero]
          go_simp
        simp only [Act.put, List.getElem_toArray, List.getElem_cons_succ, List.getElem_cons_zero, List.setIfInBounds_toArray, List.set_cons_zero, List.set_cons_succ]
        refine wpAnyH_ready (rs := [11]) (by kernel_rfl) (by simp) ?_
        refine AllReadyH.cons rfl (fun K hK => ?_) AllReadyH.nil
        go_simp
        refine (CAT wb.drew Bb.out.drew).mono ?_
        rintro e wc ⟨rfl, hba⟩
        dsimp only
        have xr3ba : wc.cell? ⟨w4.heap.size, 3, none⟩ = some (.slice (some ⟨b6, o6, none⟩) n3 c3) := cell_later (w := wb.drew) hba xr3b
        have k0ba : wc.cell? ⟨b6, o6 + j * 3, none⟩ = some (.int .i64 y0) := cell_later (w := wb.drew) hba k0b
        have Dwc : Hid (Below wb.heap.size wb wc) := (Below.refl _ _).drew.trans hba
        clear hba
        refine hK _ _ ⟨xr3ba, k0ba⟩ (fun hHeld => ?_)
        clear hK K
        refine wpAnyH_ready (rs := [12]) (by kernel_rfl) (by simp) ?_
        refine AllReadyH.cons rfl (fun K hK => ?_) AllReadyH.nil
        go_simp
        have Bc : Hid (Below w.heap.size w wc) := Bb.out.trans (Dwc.out.mono Bb.out.size)
        have Ac : Hid (At wc an N ln cn) := Ab.out.below Dwc.out
        refine (specSetFlags an ln cn N u nm y0 (x : Int) wc Ac.out.1 (by omega) Ac.out.2.1 Ac.out.2.2.1 HZN.out.2 Ac.out.2.2.2 (by omega) (by omega) R 0 HR).mono ?_
        rintro e wd ⟨v, rfl, ho, hb⟩
        dsimp only
        obtain ⟨aq, lq, cq, rfl, hAq⟩ := At.own ho
        have HAq : Hid (At wd aq R lq cq) := hAq
        clear ho hAq
        have xr3bb : wd.cell? ⟨w4.heap.size, 3, none⟩ = some (.slice (some ⟨b6, o6, none⟩) n3 c3) := cell_later (w := wc) hb xr3ba
        have k0bb : wd.cell? ⟨b6, o6 + j * 3, none⟩ = some (.int .i64 y0) := cell_later (w := wc) hb k0ba
        have Dwd : Hid (Below wb.heap.size wb wd) := Dwc.out.trans (hb.mono Dwc.out.size)
        clear hb xr3ba k0ba
        refine hK _ _ ⟨xr3bb, k0bb⟩ (fun hHeld => ?_)
        clear hK K
        refine tkA (i := 13) (v := .tuple #[.slice aq lq cq, .int .i64 0]) ?_ hHeld ?_
        · intro w9 hSw
          obtain ⟨s1, s2⟩ := hSw
          simp only [List.getElem_toArray, List.getElem_cons_succ, List.getElem_cons_zero]
          go_simp
        simp only [Act.put, List.getElem_toArray, List.getElem_cons_succ, List.getElem_cons_zero, List.setIfInBounds_toArray, List.set_cons_zero, List.set_cons_succ]
        refine tkA (i := 14) (v := .slice aq lq cq) ?_ hHeld ?_
        · intro w9 hSw
          obtain ⟨s1, s2⟩ := hSw
          simp only [List.getElem_toArray, List.getElem_cons_succ, List.getElem_cons_zero]
          go_simp
        simp only [Act.put, List.getElem_toArray, List.getElem_cons_succ, List.getElem_cons_zero, List.setIfInBounds_toArray, List.set_cons_zero, List.set_cons_succ]
        refine tkA (i := 15) (v := .int .i64 0) ?_ hHeld ?_
        · intro w9 hSw
          obtain ⟨s1, s2⟩ := hSw
          simp only [List.getElem_toArray, List.getElem_cons_succ, List.getElem_cons_zero]
          go_simp
        simp only [Act.put, List.getElem_toArray, List.getElem_cons_succ, List.getElem_cons_zero, List.setIfInBounds_toArray, List.set_cons_zero, List.set_cons_succ]
        refine wpAnyH_ready (rs := [16]) (by kernel_rfl) (by simp) ?_
        refine AllReadyH.cons rfl (fun K hK => ?_) AllReadyH.nil
        go_simp
        refine hK _ _ ⟨xr3bb, k0bb⟩ (fun hHeld => ?_)
        clear hK K
        refine wpAnyH_ready (rs := [17]) (by kernel_rfl) (by simp) ?_
        refine AllReadyH.cons rfl (fun K hK => ?_) AllReadyH.nil
        go_simp
        refine hK _ _ ⟨xr3bb, k0bb⟩ (fun hHeld => ?_)
        clear hK K
        refine wpAnyH_done (by kernel_rfl) ?_ _
        refine NoPanic.normal ?_
        clear hHeld
        have Bd : Hid (Below w.heap.size w wd) := Bb.out.trans (Dwd.out.mono Bb.out.size)
        have HArd : Hid (At wd ar R lr cr) := HAr.out.below Dwd.out
        obtain rfl : lq = lr := by rw [← HAq.out.1, ← HArd.out.1]
        have CS := samePairsM ar aq lq cr cq R wd HArd.out.1 (by omega) HArd.out.2.2.2 HAq.out.2.2.2
        clear CAT Bc Ac Dwc
        go_wp2_with fail
        refine CS.mono ?_
        rintro e we ⟨rfl, hbe⟩
        have HAre : Hid (At we ar R lq cr) := HArd.out.below hbe
        have Hwe : Hid (Below w5.heap.size w5 we) := ((hbr.out.trans (Dwb.out.mono hbr.out.size)).trans (Dwd.out.mono (hbr.out.trans (Dwb.out.mono hbr.out.size)).size)).trans (hbe.mono ((hbr.out.trans (Dwb.out.mono hbr.out.size)).trans (Dwd.out.mono (hbr.out.trans (Dwb.out.mono hbr.out.size)).size)).size)
        clear CS hbe
        go_wp2_with fail
        exact ⟨⟨j + 1, R, ar, lq, cr, by omega, by go_num, rfl, by omega, HAre.out, HNR.out, Hwe.out⟩, by simp [RowKit.intOf]; omega⟩
      case neg => as_aux_lemma =>
        obtain rfl : j = n3 := by omega
        have hlti : ¬ (j : Int) < (j : Int) := by omega
        obtain ⟨F, hF⟩ : ∃ F, flN A j Ms = F := ⟨_, rfl⟩
        have HFF : Hid (flN A j Ms = F) := hF
        obtain ⟨R, hR, hsR, hfR⟩ := ex_told (k := k + j) (by have := HD.out.2; omega) HN.out.1 HU.out HF.out HN.out.2
        rw [hF] at hR hfR
        have HR : Hid (eR N u nm = (R, goI F, 0) ∧ storeB R = true ∧ faM R u nm = ((nm, va, nx, keepM F), 0)) := ⟨hR, hsR, hfR⟩
        have HFL : Hid (F.length = j) := by show _ = _; rw [← hF, flN_len, M5.out.1]
        obtain ⟨gl, hgl⟩ : ∃ g, (goI F).length = g := ⟨_, rfl⟩
        have HGL : Hid ((goI F).length = gl) := hgl
        clear hR hsR hfR hF hgl
        go_wp2_with fail
        refine (implExpungeFolder an ln cn N u nm wr AN.out.1 (by omega) HZN.out.2 AN.out.2.2.2 (by omega) (by omega) (HG.out.below h8 Br.out) (by have := Br.out.size; omega) _ _ _ HR.out.1).mono ?_
        rintro e w6 ⟨v1, v2, rfl, ho6, hg6, hb6⟩
        rw [HGL.out] at hg6
        obtain ⟨a6, l6, c6, rfl, hA6⟩ := At.own ho6
        obtain ⟨e6, f6, rfl, hg6s, _⟩ := own_src hg6
        have L6 : Hid (Below w5.heap.size w5 w6) := hbr.out.trans (hb6.mono hbr.out.size)
        have B6 : Hid (Below w.heap.size w w6) := B5.out.trans (L6.out.mono B5.out.size)
        have AN6 : Hid (At w6 an N ln cn) := AN.out.below hb6
        have AR6 : Hid (At w6 a6 R l6 c6 ∧ Src w6 e6 (cellsI (goI F))) := ⟨hA6, hg6s⟩
        clear hb6 ho6 hg6 hA6 hg6s xr3 AN Br Xr hbr
        go_wp2_with fail
        refine (specExpungeFolder an ln cn N u nm w6 AN6.out.1 (by omega) HZN.out.2 AN6.out.2.2.2 (by omega) (by omega) _ _ _ HR.out.1).mono ?_
        rintro e w7 ⟨v3, v4, rfl, ho7, hg7, hb7⟩
        rw [HGL.out] at hg7
        obtain ⟨a7, l7, c7, rfl, hA7⟩ := At.own ho7
        obtain ⟨e7, f7, rfl, hg7s, _⟩ := own_src hg7
        obtain rfl : l7 = l6 := by rw [← hA7.1, ← AR6.out.1.1]
        have L7 : Hid (Below w5.heap.size w5 w7) := L6.out.trans (hb7.mono L6.out.size)
        have B7 : Hid (Below w.heap.size w w7) := B5.out.trans (L7.out.mono B5.out.size)
        have AR7 : Hid ((At w7 a6 R l7 c6 ∧ Src w7 e6 (cellsI (goI F))) ∧ At w7 a7 R l7 c7 ∧ Src w7 e7 (cellsI (goI F))) := ⟨⟨AR6.out.1.below hb7, AR6.out.2.below hb7⟩, hA7, hg7s⟩
        have HZR : Hid (R.length ≤ 60 ∧ ∀ x ∈ R, x.1.size ≤ 1048576 ∧ x.2.size ≤ 1048576) := store_small HR.out.2.1
        have hl7 : l7 ≤ 60 := AR7.out.1.1.le HR.out.2.1
        clear hb7 ho7 hg7 hA7 hg7s AN6 AR6 L6 B6
        go_wp2_with fail
        refine (implFolderAt a6 l7 c6 R u nm w7 AR7.out.1.1.1 (by omega) HZR.out.2 AR7.out.1.1.2.2.2 (by omega) (by omega) (HG.out.below h8 B7.out) (by have := B7.out.size; omega)).mono ?_
        rintro e w8 ⟨nm2, va2, nx2, a8, n8, c8, Ks, q2, rfl, hfa8, hKs, ho8, hb8⟩
        have hfe := hfa8.symm.trans HR.out.2.2
        injection hfe with hfe hq2
        injection hfe with hf1 hfe
        injection hfe with hf2 hfe
        injection hfe with hf3 hf4
        subst hf1 hf2 hf3 hq2
        have HKS : Hid (keepM F = Ks ∧ Ks.length = n8) := ⟨hf4.symm, hKs⟩
        have hn8 : n8 ≤ 60 := by
          rw [← hKs, hf4]
          have h9 : (keepM F).length ≤ F.length := List.length_filter_le _ _
          have := HFL.out
          omega
        obtain ⟨w9, hw9⟩ : ∃ W, w8.alloc (.cells #[.string nm2, .int .i64 va2, .int .i64 nx2, .slice a8 n8 c8] 28) = W := ⟨_, rfl⟩
        have hb9 : Below w8.heap.size w8 w9 := by rw [← hw9]; exact (Below.refl _ _).alloc (Nat.le_refl _) _
        have L9 : Hid (Below w5.heap.size w5 w9) := (L7.out.trans (hb8.mono L7.out.size)).trans (hb9.mono (L7.out.trans (hb8.mono L7.out.size)).size)
        have L97 : Hid (Below w7.heap.size w7 w9) := hb8.trans (hb9.mono hb8.size)
        have B9 : Hid (Below w.heap.size w w9) := B5.out.trans (L9.out.mono B5.out.size)
        have Y9 : Hid (Box w9 w8.heap.size [.string nm2, .int .i64 va2, .int .i64 nx2, .slice a8 n8 c8]) := by show Box _ _ _; rw [← hw9]; exact Box.new rfl
        have K9 : Hid (Src w9 a8 (cellsMl Ks)) := (own_ml ho8).below hb9
        have AR9 : Hid ((At w9 a6 R l7 c6 ∧ Src w9 e6 (cellsI (goI F))) ∧ At w9 a7 R l7 c7 ∧ Src w9 e7 (cellsI (goI F))) := ⟨⟨AR7.out.1.1.below L97.out, AR7.out.1.2.below L97.out⟩, AR7.out.2.1.below L97.out, AR7.out.2.2.below L97.out⟩
        have CSP := samePairsM a6 a7 l7 c6 c7 R w9 AR9.out.1.1.1 (by omega) AR9.out.1.1.2.2.2 AR9.out.2.1.2.2.2
        clear hfa8 hKs ho8 hb8 hb9 hf4 AR7 L97 L7 B7
        go_wp2_with fail
        clear hw9
        refine CSP.mono ?_
        rintro e w10 ⟨rfl, hb10⟩
        have L10 : Hid (Below w5.heap.size w5 w10) := L9.out.trans (hb10.mono L9.out.size)
        have L109 : Hid (Below w9.heap.size w9 w10) := hb10
        have hgl9 : gl ≤ 1048576 := by
          rw [← HGL.out]
          have := keep_all (F := F)
          have := HFL.out
          omega
        have CSI := sameInts e6 e7 gl f6 f7 (goI F) w10 HGL.out hgl9 (AR9.out.1.2.below hb10) (AR9.out.2.2.below hb10)
        clear hb10 CSP
        go_wp2_with fail
        refine CSI.mono ?_
        rintro e w11 ⟨rfl, hb11⟩
        have L11 : Hid (Below w5.heap.size w5 w11) := L10.out.trans (hb11.mono L10.out.size)
        have L119 : Hid (Below w9.heap.size w9 w11) := L109.out.trans (hb11.mono L109.out.size)
        have B11 : Hid (Below w.heap.size w w11) := B5.out.trans (L11.out.mono B5.out.size)
        have Y11 : Hid (Box w11 w8.heap.size [.string nm2, .int .i64 va2, .int .i64 nx2, .slice a8 n8 c8]) := Box.below Y9.out L119.out
        have X11 : Hid (Box w11 w4.heap.size [.string nm2, .int .i64 va2, .int .i64 nx2, .slice a3 j c3]) := Box.below X5.out L11.out
        obtain ⟨y1, _⟩ := Y11.out 1 _ rfl
        obtain ⟨y2, _⟩ := Y11.out 2 _ rfl
        obtain ⟨x1, _⟩ := X11.out 1 _ rfl
        obtain ⟨x2, _⟩ := X11.out 2 _ rfl
        have hnn : (nx2 != nx2) = false := by simp
        have hvv : (va2 != va2) = false := by simp
        clear hb11 CSI L10 L109 AR9
        go_wp2_with fail
        have M11 : Hid (Ms.length = j ∧ Src w11 a3 (cellsMl Ms)) := ⟨M5.out.1, M5.out.2.below L11.out⟩
        have K11 : Hid (Src w11 a8 (cellsMl Ks)) := K9.out.below L119.out
        clear y1 y2 x1 x2 hnn hvv L119 Y9 K9 B9 L9
        go_loopw [27, 28] (fun pv iv wr => ∃ i p : Nat, i ≤ j ∧ iv = .int .i64 (i : Int) ∧ pv = .int .i64 (p : Int) ∧ p ≤ 60 ∧ Hid ((keepM (F.take i)).length = p) ∧ Hid (Below w11.heap.size w11 wr)) (fun pv iv _ => j - (RowKit.intOf iv).toNat)
        case atStart => exact ⟨0, 0, by omega, rfl, rfl, by omega, rfl, Below.refl _ _⟩
        case round =>
          obtain ⟨i, p, hi, rfl, rfl, hp60, HP, hbq⟩ := hrel
          have Bq : Hid (Below w.heap.size w wr) := B11.out.trans (hbq.out.mono B11.out.size)
          have Xq : Hid (Box wr w4.heap.size [.string nm2, .int .i64 va2, .int .i64 nx2, .slice a3 j c3]) := Box.below X11.out hbq.out
          have Yq : Hid (Box wr w8.heap.size [.string nm2, .int .i64 va2, .int .i64 nx2, .slice a8 n8 c8]) := Box.below Y11.out hbq.out
          obtain ⟨x3, _⟩ := Xq.out 3 _ rfl
          obtain ⟨y3, _⟩ := Yq.out 3 _ rfl
          by_cases hlt2 : i < j
          case pos => as_aux_lemma =>
            have hlti2 : (i : Int) < (j : Int) := by omega
            have hi0 : (0 : Int) ≤ (i : Int) := by omega
            obtain ⟨b6, o6, z0, z1, z2, rfl, k0, k1, k2, hy⟩ := srcMl (M11.out.2.below hbq.out) (i := i) (by rw [M11.out.1]; exact hlt2)
            obtain ⟨x, hx⟩ : ∃ x, atM M i 4 = x := ⟨_, rfl⟩
            have hx4 : x < 4 := by rw [← hx]; exact atM_lt (by omega)
            have CAQ := fun (W : World) (hW : Below w.heap.size w W) => lawAtQ ma m mc M i 4 W HM.out.1 m20 (by omega) (by omega) (by omega) HM.out.2.1 (HM.out.2.2.below hW)
            rw [hx] at CAQ
            have HFI : Hid (F.getD i ml0 = (z0, ((x : Nat) : Int), z2)) := by
              show _ = _
              rw [← HFF.out, flN_at j i (by rw [M11.out.1]; exact hlt2), if_pos hlt2, hy.out, HA.out, hx]
            obtain ⟨ks1, ks2⟩ := keep_step (F := F) (i := i) (by rw [HFL.out]; exact hlt2)
            rw [HFI.out, HP.out] at ks1 ks2
            have HKS1 : Hid (delB (z0, ((x : Nat) : Int), z2) = true → (keepM (F.take (i + 1))).length = p) := ks1
            have HKS2 : Hid (delB (z0, ((x : Nat) : Int), z2) = false → (keepM (F.take (i + 1))).length = p + 1 ∧ p < n8 ∧ Ks.getD p ml0 = (z0, ((x : Nat) : Int), z2)) := fun h9 => by
              have := ks2 h9
              rw [HKS.out.1, HKS.out.2] at this
              exact this
            have CA1 := CAQ wr Bq.out
            clear ks1 ks2 hx hy
            by_cases h2 : 2 ≤ x
            · have hK := HKS1.out (by unfold delB; exact decide_eq_true (by show (2 : Int) ≤ (x : Int); omega))
              have HK : Hid ((keepM (F.take (i + 1))).length = p) := hK
              clear hK HKS1 HKS2 HFI
              have hx23 : x = 2 ∨ x = 3 := by omega
              clear k0 k1 k2 y3 CAQ
              rcases hx23 with rfl | rfl
              all_goals
                go_wp2_with fail
                refine CA1.mono ?_
                rintro e wq ⟨rfl, dq, hwq⟩
                have hbr2 : Below w11.heap.size w11 wq := by rw [hwq]; exact Below.drewN' hbq.out _
                have HB2 : Hid (Below w11.heap.size w11 wq) := hbr2
                clear hwq hbr2 CA1
                go_wp2_with fail
                exact ⟨⟨i + 1, p, by omega, by go_num, rfl, hp60, HK.out, HB2.out⟩, by simp [RowKit.intOf]; omega⟩
            · have hK := HKS2.out (by unfold delB; exact decide_eq_false (by show ¬ (2 : Int) ≤ (x : Int); omega))
              obtain ⟨hK1, hK2, hK3⟩ := hK
              have HK : Hid ((keepM (F.take (i + 1))).length = p + 1) := hK1
              have hp8 : (p : Int) < (n8 : Int) := by omega
              have hp0 : (0 : Int) ≤ (p : Int) := by omega
              have hp9 : ¬ (n8 : Int) ≤ (p : Int) := by omega
              have hpd : decide (n8 ≤ p) = false := decide_eq_false (by omega)
              obtain ⟨b7, o7, u0, u1, u2, rfl, m0, m1, m2, hu9⟩ := srcMl (K11.out.below hbq.out) (i := p) (by rw [HKS.out.2]; exact hK2)
              have he := hu9.out.symm.trans hK3
              simp only [Prod.mk.injEq] at he
              obtain ⟨rfl, rfl, rfl⟩ := he
              have hx01 : x = 0 ∨ x = 1 := by omega
              clear hK1 hK2 hK3 hu9 HKS1 HKS2 HFI
              rcases hx01 with rfl | rfl
              all_goals
                go_wp2_with fail
                refine CA1.mono ?_
                rintro e wq ⟨rfl, dq, hwq⟩
                have hbr2 : Below wr.heap.size wr wq := by rw [hwq]; exact Below.drewN' (Below.refl _ _) _
                have HB2 : Hid (Below w11.heap.size w11 wq) := hbq.out.trans (hbr2.mono hbq.out.size)
                have HB3 : Hid (Below w.heap.size w wq) := Bq.out.trans (hbr2.mono Bq.out.size)
                have Xp : Hid (Box wq w4.heap.size [.string nm2, .int .i64 va2, .int .i64 nx2, .slice (some ⟨b6, o6, none⟩) j c3]) := Box.below Xq.out hbr2
                have Yp : Hid (Box wq w8.heap.size [.string nm2, .int .i64 va2, .int .i64 nx2, .slice (some ⟨b7, o7, none⟩) n8 c8]) := Box.below Yq.out hbr2
                obtain ⟨xp3, _⟩ := Xp.out 3 _ rfl
                obtain ⟨yp3, _⟩ := Yp.out 3 _ rfl
                have kk0 := cell_later hbr2 k0
                have kk2 := cell_later hbr2 k2
                have mm0 := cell_later hbr2 m0
                have mm1 := cell_later hbr2 m1
                have mm2 := cell_later hbr2 m2
                clear hwq hbr2 CA1 k0 k1 k2 m0 m1 m2 x3 y3
                go_wp2_with fail
                go_quiet (first | (go_at_call 13; refine Calls.quiet_of (CAQ _ ?_); exact Below.drewN' HB3.out _))
                have HB4 : Hid (Below w11.heap.size w11 (wq.drewN nq)) := Below.drewN' HB2.out _
                go_wp2_with fail
                exact ⟨⟨i + 1, p + 1, by omega, by go_num, by go_num, by omega, HK.out, HB4.out⟩, by simp [RowKit.intOf]; omega⟩
          case neg => as_aux_lemma =>
            obtain rfl : i = j := by omega
            have hlti2 : ¬ (i : Int) < (i : Int) := by omega
            have HP2 : Hid (p = n8) := by
              show _ = _
              rw [← HP.out, List.take_of_length_le (by rw [HFL.out]; exact Nat.le_refl _), HKS.out.1, HKS.out.2]
            obtain rfl := HP2.out
            have HTOT : Hid (gl + p = i) := by
              show _ = _
              have h9 := keep_all (F := F)
              rw [HGL.out, HKS.out.1, HKS.out.2, HFL.out] at h9
              exact h9
            have hgp : (gl : Int) + (p : Int) = (i : Int) := by have := HTOT.out; omega
            have hx2 := (Xq.out 2 _ rfl).1
            have hsn := sf_none (fl := 0) HD.out.1 HU.out HF.out HFA.out (by omega) (by omega)
            have CSF := implSetFlags a1 l1 c1 L u nm2 nx2 0 wr A5.out.1 (by omega) HZ.out.2 (((A5.out.below L11.out).below hbq.out).2.2.2) (by omega) (by omega) (HG.out.below h8 Bq.out) (by have := Bq.out.size; omega) L 5 hsn
            clear hsn HP
            go_wp2_with fail
            refine CSF.mono ?_
            rintro e wz ⟨vz, rfl, _, hbz⟩
            have Bz : Hid (Below w.heap.size w wz) := Bq.out.trans (hbz.mono Bq.out.size)
            have Xz : Hid (Box wz w4.heap.size [.string nm2, .int .i64 va2, .int .i64 nx2, .slice a3 i c3]) := Box.below Xq.out hbz
            have Yz : Hid (Box wz w8.heap.size [.string nm2, .int .i64 va2, .int .i64 nx2, .slice a8 p c8]) := Box.below Yq.out hbz
            obtain ⟨xz3, _⟩ := Xz.out 3 _ rfl
            obtain ⟨yz3, _⟩ := Yz.out 3 _ rfl
            clear hbz CSF x3 y3 hx2
            go_wp2_with fail
            go_ret
            exact ⟨rfl, Bz.out⟩
end Go.Proofs.YthgbclipknfmjaaGreatDoor
