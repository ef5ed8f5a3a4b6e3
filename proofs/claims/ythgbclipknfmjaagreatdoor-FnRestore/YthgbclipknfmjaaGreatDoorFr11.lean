/-
  Mta in one. By an AI agent.
-/
import Derived.Test.YthgbclipknfmjaaGreatDoorFr06
namespace Go.Proofs.YthgbclipknfmjaaGreatDoor
open Go.ChangeShapes Go.WideShapes Go.ChangeAt Go.RowKit Go.Deep Go.Lib
set_option linter.unusedVariables false
set_option maxRecDepth 100000

def MetaPost (R : Option (Int × Int)) (x y : Int) : Prop := ∀ p, R = some p → x = p.1 ∧ y = p.2
theorem MetaPost.none (x y : Int) : MetaPost none x y := fun p h => by cases h
theorem ret_meta {x y : Int} {k l : Bool} (h : k = l) : Ending.returned (.tuple #[.int .i64 x, .int .i64 y, .bool k]) = .returned (.tuple #[.int .i64 x, .int .i64 y, .bool l]) := by rw [h]
theorem metaV_two {v : ByteArray} {a b : List UInt8} (h : splitL 32 v.data.toList = [a, b]) : metaV v = metaN (numB a) (numB b) := by unfold metaV; rw [h]; rfl
theorem metaV_not {v : ByteArray} (h : (splitL 32 v.data.toList).length ≠ 2) : metaV v = none := by
  unfold metaV
  match hs : splitL 32 v.data.toList, h with
  | [], _ => rfl
  | [_], _ => rfl
  | [_, _], h => exact absurd rfl h
  | _ :: _ :: _ :: _, _ => rfl

set_option maxHeartbeats 4000000 in
theorem l07MetaS (a : Option Addr) (n c : Nat) (L : List PM) (u f : ByteArray) (w : World) (hL : L.length = n) (hg : GoodL L) (hu : u.size ≤ 1048576) (hf : f.size ≤ 1048576) (h : Src w a (cellsP L)) :
    Calls Tryz.prog 66 #[.slice a n c, .string u, .string f] w fun e w' => ∃ x y, e = .returned (.tuple #[.int .i64 x, .int .i64 y, .bool (metaM L u f).isSome]) ∧ MetaPost (metaM L u f) x y ∧ Below w.heap.size w w' := by
  have CG := l01GetM a n c L (folderK u f) w hL hg h
  have SZ := getM_size hg (folderK u f)
  obtain ⟨R, hR⟩ : ∃ R, metaM L u f = R := ⟨_, rfl⟩
  have HR : Hid ((getM L (folderK u f)).bind metaV = R) := hR
  rw [hR]
  clear hR h hg hL
  cases hm : getM L (folderK u f) with
  | none =>
    rw [hm] at CG
    have H0 : Hid (R = none) := by show _ = _; rw [← HR.out, hm]; rfl
    have CC := l00CutS e0 32 w (by decide)
    obtain ⟨G, hG⟩ : ∃ G, splitL 32 e0.data.toList = G := ⟨_, rfl⟩
    rw [hG] at CC
    clear HR hm SZ hG
    go_enter Tryz.func66, Tryz.ntmps66
    go_wp2_with fail
    refine (l07FolderS u f _ hu hf).mono ?_
    rintro e w0 ⟨rfl, rfl⟩
    go_wp2_with fail
    refine CG.mono ?_
    rintro e w1 ⟨rfl, rfl⟩
    go_wp2_with fail
    refine CC.mono ?_
    rintro e w2 ⟨vv, rfl, hown, hb2⟩
    obtain ⟨aa, cc, rfl, hsrc, _⟩ := own_src hown
    have B2 : Hid (Below w1.heap.size w1 w2) := hb2
    have HS : Hid (Src w2 aa (cellsS (G.map bs))) := hsrc
    clear hown hb2 hsrc
    go_wp2_with fail
    go_ret3
    exact ⟨0, 0, ret_meta (by rw [H0.out]; rfl), by rw [H0.out]; exact MetaPost.none _ _, B2.out⟩
  | some v =>
    rw [hm] at CG SZ
    have SZ2 : v.size ≤ 90 := SZ
    have H0 : Hid (metaV v = R) := by show _ = _; rw [← HR.out, hm]; rfl
    have CC := l00CutS v 32 w (by omega)
    obtain ⟨G, hG⟩ : ∃ G, splitL 32 v.data.toList = G := ⟨_, rfl⟩
    have HG : Hid (splitL 32 v.data.toList = G) := hG
    rw [hG] at CC
    clear HR hm SZ
    by_cases h2 : G.length = 2
    · match G, h2 with
      | [ga, gb], _ =>
        have H1 : Hid (R = metaN (numB ga) (numB gb)) := by show _ = _; rw [← H0.out, metaV_two hG]
        have ZA : ga.length ≤ 90 ∧ gb.length ≤ 90 := by
          have h9 := split_sizes 32 v.data.toList
          rw [hG] at h9
          have h8 : v.data.toList.length = v.size := bytes_len v
          exact ⟨by have := h9 ga (by simp); omega, by have := h9 gb (by simp); omega⟩
        have CNA : ∀ W, Calls Tryz.prog 117 #[.string (bs ga)] W fun e w' => e = .returned (.tuple #[.int .i64 ((numB ga).getD 0), .bool (numB ga).isSome]) ∧ w' = W := fun W => l00NumberS (bs ga) W (by have : (bs ga).size = ga.length := rfl; unfold maxLen; omega)
        have CNB : ∀ W, Calls Tryz.prog 117 #[.string (bs gb)] W fun e w' => e = .returned (.tuple #[.int .i64 ((numB gb).getD 0), .bool (numB gb).isSome]) ∧ w' = W := fun W => l00NumberS (bs gb) W (by have : (bs gb).size = gb.length := rfl; unfold maxLen; omega)
        obtain ⟨ta, hta⟩ : ∃ t, bs ga = t := ⟨_, rfl⟩
        obtain ⟨tb, htb⟩ : ∃ t, bs gb = t := ⟨_, rfl⟩
        have HTA : Hid (bs ga = ta ∧ bs gb = tb) := ⟨hta, htb⟩
        rw [hta] at CNA
        rw [htb] at CNB
        obtain ⟨na, hna⟩ : ∃ x, numB ga = x := ⟨_, rfl⟩
        obtain ⟨nb, hnb⟩ : ∃ x, numB gb = x := ⟨_, rfl⟩
        have H3 : Hid (R = metaN na nb) := by show _ = _; rw [H1.out, hna, hnb]
        rw [hna] at CNA
        rw [hnb] at CNB
        clear H0 HG hG H1 ZA hta htb hna hnb
        cases na with
        | none =>
          have H4 : Hid (R = none) := H3
          clear H3
          go_enter Tryz.func66, Tryz.ntmps66
          go_wp2_with fail
          refine (l07FolderS u f _ hu hf).mono ?_
          rintro e w0 ⟨rfl, rfl⟩
          go_wp2_with fail
          refine CG.mono ?_
          rintro e w1 ⟨rfl, rfl⟩
          go_wp2_with fail
          refine CC.mono ?_
          rintro e w2 ⟨vv, rfl, hown, hb2⟩
          obtain ⟨aa, cc, rfl, hsrc, _⟩ := own_src hown
          have B2 : Hid (Below w1.heap.size w1 w2) := hb2
          have HS : Hid (Src w2 aa (cellsS ([ga, gb].map bs))) := hsrc
          clear hown hb2 hsrc
          obtain ⟨bq, oq, t0, rfl, c0, hy0⟩ := srcS HS.out (i := 0) (by simp)
          obtain ⟨bq2, oq2, t1, eq2, c1, hy1⟩ := srcS HS.out (i := 1) (by simp)
          cases eq2
          obtain rfl : ta = t0 := by rw [← HTA.out.1]; exact hy0.out
          obtain rfl : tb = t1 := by rw [← HTA.out.2]; exact hy1.out
          rw [Nat.add_zero] at c0
          clear hy0 hy1 HTA HS
          simp only [List.length_cons, List.length_nil, Nat.zero_add]
          go_wp2_with fail
          refine (CNA _).mono ?_
          rintro e w9 ⟨rfl, rfl⟩
          go_wp2_with fail
          refine (CNB _).mono ?_
          rintro e w9 ⟨rfl, rfl⟩
          go_wp2_with fail
          go_ret3
          exact ⟨_, _, ret_meta (by rw [H4.out]; rfl), by rw [H4.out]; exact MetaPost.none _ _, B2.out⟩
        | some x =>
          cases nb with
          | none =>
            have H4 : Hid (R = none) := H3
            clear H3
            go_enter Tryz.func66, Tryz.ntmps66
            go_wp2_with fail
            refine (l07FolderS u f _ hu hf).mono ?_
            rintro e w0 ⟨rfl, rfl⟩
            go_wp2_with fail
            refine CG.mono ?_
            rintro e w1 ⟨rfl, rfl⟩
            go_wp2_with fail
            refine CC.mono ?_
            rintro e w2 ⟨vv, rfl, hown, hb2⟩
            obtain ⟨aa, cc, rfl, hsrc, _⟩ := own_src hown
            have B2 : Hid (Below w1.heap.size w1 w2) := hb2
            have HS : Hid (Src w2 aa (cellsS ([ga, gb].map bs))) := hsrc
            clear hown hb2 hsrc
            obtain ⟨bq, oq, t0, rfl, c0, hy0⟩ := srcS HS.out (i := 0) (by simp)
            obtain ⟨bq2, oq2, t1, eq2, c1, hy1⟩ := srcS HS.out (i := 1) (by simp)
            cases eq2
            obtain rfl : ta = t0 := by rw [← HTA.out.1]; exact hy0.out
            obtain rfl : tb = t1 := by rw [← HTA.out.2]; exact hy1.out
            rw [Nat.add_zero] at c0
            clear hy0 hy1 HTA HS
            simp only [List.length_cons, List.length_nil, Nat.zero_add]
            go_wp2_with fail
            refine (CNA _).mono ?_
            rintro e w9 ⟨rfl, rfl⟩
            go_wp2_with fail
            refine (CNB _).mono ?_
            rintro e w9 ⟨rfl, rfl⟩
            go_wp2_with fail
            go_ret3
            exact ⟨_, _, ret_meta (by rw [H4.out]; rfl), by rw [H4.out]; exact MetaPost.none _ _, B2.out⟩
          | some y =>
            have H5 : Hid (R = if 1 ≤ x ∧ x ≤ 9999 ∧ 1 ≤ y ∧ y ≤ 999 then some (x, y) else none) := H3
            have QA := fun W => l01In x 1 9999 W
            have QB := fun W => l01In y 1 999 W
            by_cases hx : 1 ≤ x ∧ x ≤ 9999
            · rw [show (decide (1 ≤ x) && decide (x ≤ 9999)) = true from by simp [hx]] at QA
              by_cases hy : 1 ≤ y ∧ y ≤ 999
              · rw [show (decide (1 ≤ y) && decide (y ≤ 999)) = true from by simp [hy]] at QB
                have H4 : Hid (R = some (x, y)) := by show _ = _; rw [H5.out, if_pos ⟨hx.1, hx.2, hy.1, hy.2⟩]
                clear H3 H5 hx hy
                go_enter Tryz.func66, Tryz.ntmps66
                go_wp2_with fail
                refine (l07FolderS u f _ hu hf).mono ?_
                rintro e w0 ⟨rfl, rfl⟩
                go_wp2_with fail
                refine CG.mono ?_
                rintro e w1 ⟨rfl, rfl⟩
                go_wp2_with fail
                refine CC.mono ?_
                rintro e w2 ⟨vv, rfl, hown, hb2⟩
                obtain ⟨aa, cc, rfl, hsrc, _⟩ := own_src hown
                have B2 : Hid (Below w1.heap.size w1 w2) := hb2
                have HS : Hid (Src w2 aa (cellsS ([ga, gb].map bs))) := hsrc
                clear hown hb2 hsrc
                obtain ⟨bq, oq, t0, rfl, c0, hy0⟩ := srcS HS.out (i := 0) (by simp)
                obtain ⟨bq2, oq2, t1, eq2, c1, hy1⟩ := srcS HS.out (i := 1) (by simp)
                cases eq2
                obtain rfl : ta = t0 := by rw [← HTA.out.1]; exact hy0.out
                obtain rfl : tb = t1 := by rw [← HTA.out.2]; exact hy1.out
                rw [Nat.add_zero] at c0
                clear hy0 hy1 HTA HS
                simp only [List.length_cons, List.length_nil, Nat.zero_add]
                go_wp2_with fail
                refine (CNA _).mono ?_
                rintro e w9 ⟨rfl, rfl⟩
                go_wp2_with fail
                refine (CNB _).mono ?_
                rintro e w9 ⟨rfl, rfl⟩
                go_wp2_with fail
                refine (QA _).mono ?_
                rintro e w8 ⟨rfl, rfl⟩
                go_wp2_with fail
                refine (QB _).mono ?_
                rintro e w7 ⟨rfl, rfl⟩
                go_wp2_with fail
                go_ret3
                exact ⟨x, y, ret_meta (by rw [H4.out]; rfl), by rw [H4.out]; exact fun p h9 => by cases h9; exact ⟨rfl, rfl⟩, B2.out⟩
              · rw [show (decide (1 ≤ y) && decide (y ≤ 999)) = false from by rw [Bool.eq_false_iff]; simp; omega] at QB
                have H4 : Hid (R = none) := by show _ = _; rw [H5.out, if_neg (by omega)]
                clear H3 H5 hx hy
                go_enter Tryz.func66, Tryz.ntmps66
                go_wp2_with fail
                refine (l07FolderS u f _ hu hf).mono ?_
                rintro e w0 ⟨rfl, rfl⟩
                go_wp2_with fail
                refine CG.mono ?_
                rintro e w1 ⟨rfl, rfl⟩
                go_wp2_with fail
                refine CC.mono ?_
                rintro e w2 ⟨vv, rfl, hown, hb2⟩
                obtain ⟨aa, cc, rfl, hsrc, _⟩ := own_src hown
                have B2 : Hid (Below w1.heap.size w1 w2) := hb2
                have HS : Hid (Src w2 aa (cellsS ([ga, gb].map bs))) := hsrc
                clear hown hb2 hsrc
                obtain ⟨bq, oq, t0, rfl, c0, hy0⟩ := srcS HS.out (i := 0) (by simp)
                obtain ⟨bq2, oq2, t1, eq2, c1, hy1⟩ := srcS HS.out (i := 1) (by simp)
                cases eq2
                obtain rfl : ta = t0 := by rw [← HTA.out.1]; exact hy0.out
                obtain rfl : tb = t1 := by rw [← HTA.out.2]; exact hy1.out
                rw [Nat.add_zero] at c0
                clear hy0 hy1 HTA HS
                simp only [List.length_cons, List.length_nil, Nat.zero_add]
                go_wp2_with fail
                refine (CNA _).mono ?_
                rintro e w9 ⟨rfl, rfl⟩
                go_wp2_with fail
                refine (CNB _).mono ?_
                rintro e w9 ⟨rfl, rfl⟩
                go_wp2_with fail
                refine (QA _).mono ?_
                rintro e w8 ⟨rfl, rfl⟩
                go_wp2_with fail
                refine (QB _).mono ?_
                rintro e w7 ⟨rfl, rfl⟩
                go_wp2_with fail
                go_ret3
                exact ⟨_, _, ret_meta (by rw [H4.out]; rfl), by rw [H4.out]; exact MetaPost.none _ _, B2.out⟩
            · rw [show (decide (1 ≤ x) && decide (x ≤ 9999)) = false from by rw [Bool.eq_false_iff]; simp; omega] at QA
              have H4 : Hid (R = none) := by show _ = _; rw [H5.out, if_neg (by omega)]
              clear H3 H5 hx
              go_enter Tryz.func66, Tryz.ntmps66
              go_wp2_with fail
              refine (l07FolderS u f _ hu hf).mono ?_
              rintro e w0 ⟨rfl, rfl⟩
              go_wp2_with fail
              refine CG.mono ?_
              rintro e w1 ⟨rfl, rfl⟩
              go_wp2_with fail
              refine CC.mono ?_
              rintro e w2 ⟨vv, rfl, hown, hb2⟩
              obtain ⟨aa, cc, rfl, hsrc, _⟩ := own_src hown
              have B2 : Hid (Below w1.heap.size w1 w2) := hb2
              have HS : Hid (Src w2 aa (cellsS ([ga, gb].map bs))) := hsrc
              clear hown hb2 hsrc
              obtain ⟨bq, oq, t0, rfl, c0, hy0⟩ := srcS HS.out (i := 0) (by simp)
              obtain ⟨bq2, oq2, t1, eq2, c1, hy1⟩ := srcS HS.out (i := 1) (by simp)
              cases eq2
              obtain rfl : ta = t0 := by rw [← HTA.out.1]; exact hy0.out
              obtain rfl : tb = t1 := by rw [← HTA.out.2]; exact hy1.out
              rw [Nat.add_zero] at c0
              clear hy0 hy1 HTA HS
              simp only [List.length_cons, List.length_nil, Nat.zero_add]
              go_wp2_with fail
              refine (CNA _).mono ?_
              rintro e w9 ⟨rfl, rfl⟩
              go_wp2_with fail
              refine (CNB _).mono ?_
              rintro e w9 ⟨rfl, rfl⟩
              go_wp2_with fail
              refine (QA _).mono ?_
              rintro e w8 ⟨rfl, rfl⟩
              go_wp2_with fail
              go_ret3
              exact ⟨_, _, ret_meta (by rw [H4.out]; rfl), by rw [H4.out]; exact MetaPost.none _ _, B2.out⟩
    · have H4 : Hid (R = none) := by show _ = _; rw [← H0.out, metaV_not (by rw [hG]; exact h2)]
      have h2i : ((G.length : Int) != 2) = true := by simp; omega
      clear H0 HG hG
      go_enter Tryz.func66, Tryz.ntmps66
      go_wp2_with fail
      refine (l07FolderS u f _ hu hf).mono ?_
      rintro e w0 ⟨rfl, rfl⟩
      go_wp2_with fail
      refine CG.mono ?_
      rintro e w1 ⟨rfl, rfl⟩
      go_wp2_with fail
      refine CC.mono ?_
      rintro e w2 ⟨vv, rfl, hown, hb2⟩
      obtain ⟨aa, cc, rfl, hsrc, _⟩ := own_src hown
      have B2 : Hid (Below w1.heap.size w1 w2) := hb2
      have HS : Hid (Src w2 aa (cellsS (G.map bs))) := hsrc
      clear hown hb2 hsrc
      go_wp2_with fail
      go_ret3
      exact ⟨0, 0, ret_meta (by rw [H4.out]; rfl), by rw [H4.out]; exact MetaPost.none _ _, B2.out⟩

theorem under_len (L : List PM) (k : ByteArray) : ∀ n, n ≤ L.length → (under (fK L) (fV L) k n).length = ((L.take n).filter fun x => beginsB x.1 k).length := by
  intro n
  induction n with
  | zero => intro _; rfl
  | succ n ih =>
    intro hn
    have h1 := ih (by omega)
    have hlt : n < L.length := by omega
    rw [List.take_add_one, List.getElem?_eq_getElem hlt, List.filter_append]
    cases hb : beginsB (fK L n) k with
    | true =>
      rw [under_hit _ _ _ _ hb, List.length_append, h1]
      rw [(at_fst hlt).1] at hb
      simp [hb]
    | false =>
      rw [under_miss _ _ _ _ hb, h1]
      rw [(at_fst hlt).1] at hb
      simp [hb]
abbrev mailsK (u : ByteArray) : ByteArray := (⟨#[109, 47]⟩ ++ u) ++ ⟨#[47]⟩
def countM (L : List PM) (u : ByteArray) : Nat := (L.filter fun x => beginsB x.1 (mailsK u)).length
set_option maxHeartbeats 1000000 in
theorem l07CountS (a : Option Addr) (n c : Nat) (L : List PM) (u : ByteArray) (w : World) (hL : L.length = n) (hg : GoodL L) (hu : u.size ≤ 1000) (h : Src w a (cellsP L)) :
    Calls Tryz.prog 109 #[.slice a n c, .string u] w fun e w' => e = .returned (.int .i64 (countM L u : Int)) ∧ Below w.heap.size w w' := by
  have hz : (mailsK u).size ≤ 1048576 := by unfold mailsK; rw [ByteArray.size_append, ByteArray.size_append]; show 2 + u.size + 1 ≤ _; omega
  have CU := l01Under a n c (fK L) (fV L) (mailsK u) w (by have := hg.1; omega) hz (fun i hi => by
    have hi2 : i < L.length := by omega
    have := hg.2.1 _ (List.getElem_mem hi2)
    rw [(at_fst hi2).1, (at_fst hi2).2]
    omega) (sp_src h hL)
  have HC : Hid ((under (fK L) (fV L) (mailsK u) n).length = countM L u) := by
    show _ = _
    rw [under_len L (mailsK u) n (by omega), ← hL, List.take_of_length_le (Nat.le_refl _)]
    rfl
  clear h hg hL hz
  go_enter Tryz.func109, Tryz.ntmps109
  go_wp2_with fail
  refine CU.mono ?_
  rintro e w1 ⟨v, rfl, own, hb⟩
  obtain ⟨aa, cc, rfl, _, _⟩ := own.open
  rw [HC.out]
  clear own
  go_wp2_with fail
  go_ret
  exact ⟨rfl, hb⟩
end Go.Proofs.YthgbclipknfmjaaGreatDoor
