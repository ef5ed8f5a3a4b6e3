/-
  Texts of the store, brought together: Heaps4, Noki. By an AI agent.
-/
import Derived.Test.YtnnimocaanofjaaGreatDoorSq06
namespace Go.Proofs.YtnnimocaanofjaaGreatDoor
open Go.ChangeShapes Go.WideShapes Go.ChangeAt Go.RowKit Go.Deep
set_option linter.unusedVariables false
set_option linter.unusedSimpArgs false
set_option maxRecDepth 100000
def sumN (H : List NM) : Nat := (H.map wtN).sum
theorem sumN_take (H : List NM) (k : Nat) (h : k < H.length) : sumN (H.take (k + 1)) = sumN (H.take k) + wtN (H.getD k nm0) := by
  unfold sumN
  rw [List.take_succ_eq_append_getElem h, List.map_append, List.sum_append]
  rw [List.getD_eq_getElem?_getD, List.getElem?_eq_getElem h]
  simp
set_option maxHeartbeats 1000000 in
theorem szNodeS (a : Option Addr) (n c : Nat) (H : List NM) (l : Int) (w : World) (hL : H.length = n) (hn : n ≤ maxLen) (hs : ∀ D ∈ H, maxN D) (h0 : 0 ≤ l) (h1 : l ≤ 1048576) (h : ReadsHL w a H) :
    Calls Tryz.prog 76 #[.slice a n c, .int .i64 l] w fun e w' => ∃ r : Int, e = .returned (.int .i64 r) ∧ r ≤ l ∧ (0 ≤ r → r + wtH H ≤ l ∧ smallH H) ∧ Below w.heap.size w w' := by
  unfold maxLen at hn
  by_cases hbig : l < n
  · clear h hs hL
    go_enter Tryz.func76, Tryz.ntmps76
    go_wp2_with fail
    go_ret
    exact ⟨-1, rfl, by omega, fun h => absurd h (by omega), Below.refl _ _⟩
  have HS : Hid (∀ i, i < n → maxN (H.getD i nm0)) := fun i hi => hs _ (getD_memH H i (by omega))
  have HH : Hid (ReadsHL w a H) := h
  have HL : Hid (H.length = n) := hL
  clear hs h hL
  go_enter Tryz.func76, Tryz.ntmps76
  go_wp2_with fail
  go_loopw [1, 5] (fun v i wr => ∃ (k : Nat) (x : Int), k ≤ n ∧ i = .int .i64 k ∧ v = .int .i64 x ∧ 0 ≤ x ∧ x ≤ l ∧ Hid (x + n + sumN (H.take k) ≤ l) ∧ Hid (∀ i, i < k → smallN (H.getD i nm0)) ∧ Hid (Below w.heap.size w wr)) (fun _ i _ => n - (intOf i).toNat)
  case atStart => exact ⟨0, _, by omega, rfl, rfl, by omega, by omega, by show l - n + n + ((sumN (H.take 0) : Nat) : Int) ≤ l; simp [sumN], fun i hi => absurd hi (by omega), Below.refl _ _⟩
  case round =>
    obtain ⟨k, x, hk, rfl, rfl, hx0, hx1, hsum, hall, hb⟩ := hrel
    by_cases hlt : k < n
    · obtain ⟨bk, o, D, a1, c1, a2, c2, a3, c3, rfl, r0, r1, r2, r3, hD, hR⟩ := srcN (HH.out.below hb.out) (i := k) (by rw [HL.out]; exact hlt)
      have HM : Hid (maxN D) := by show maxN D; rw [← hD.out]; exact HS.out k hlt
      have HST : Hid (sumN (H.take (k + 1)) = sumN (H.take k) + wtN D) := by show _ = _; rw [sumN_take H k (by rw [HL.out]; exact hlt), hD.out]
      go_wp2_with fail
      refine (szNode _ D x _ hx0 (by omega) HM.out hR.out).mono ?_
      rintro e w1 ⟨r, rfl, hr1, hr2, hb1⟩
      have HB1 : Hid (Below w.heap.size w w1) := hb.out.trans (hb1.mono hb.out.size)
      clear hb1 r0 r1 r2 r3
      by_cases hneg : r < 0
      · clear hr2
        go_wp2_with fail
        go_ret
        exact ⟨-1, rfl, by omega, fun h => absurd h (by omega), HB1.out⟩
      · have hr3 := hr2 (by omega)
        have hall2 : Hid (∀ i, i < k + 1 → smallN (H.getD i nm0)) := fun i hi => by
          by_cases e : i = k
          · rw [e, hD.out]; exact hr3.2
          · exact hall.out i (by omega)
        have hsum2 : Hid (r + n + sumN (H.take (k + 1)) ≤ l) := by
          show r + n + ((sumN (H.take (k + 1)) : Nat) : Int) ≤ l
          have h9 := hsum.out
          have h8 := hr3.1
          rw [HST.out]
          omega
        clear hr2 hr3
        go_wp2_with fail
        exact ⟨⟨k + 1, _, by omega, by go_num, rfl, by omega, by omega, hsum2, hall2, HB1.out⟩, by simp [intOf]; omega⟩
    · have hkn : k = n := by omega
      have hfin : Hid (x + wtH H ≤ l ∧ smallH H) := by
        have h9 := hsum.out
        rw [List.take_of_length_le (by rw [HL.out]; omega)] at h9
        have h8 : wtH H = n + sumN H := by unfold wtH sumN; rw [HL.out]
        refine ⟨by rw [h8]; omega, by rw [h8]; omega, fun y hy => ?_⟩
        obtain ⟨i, hi, rfl⟩ := List.getElem_of_mem hy
        have := hall.out i (by rw [hkn, ← HL.out]; exact hi)
        rw [List.getD_eq_getElem?_getD, List.getElem?_eq_getElem hi] at this
        exact this
      clear hkn
      go_wp2_with fail
      go_ret
      exact ⟨x, rfl, hx1, fun _ => hfin.out, hb.out⟩
set_option maxHeartbeats 1000000 in
theorem szHeap (v : Value) (H : List NM) (l : Int) (w : World) (h0 : 0 ≤ l) (h1 : l ≤ 1048576) (hn : H.length ≤ maxLen) (hs : ∀ D ∈ H, maxN D) (h : ReadsH w v H) :
    Calls Tryz.prog 31 #[v, .int .i64 l] w fun e w' => ∃ r : Int, e = .returned (.int .i64 r) ∧ r ≤ l ∧ (0 ≤ r → r + wtH H ≤ l ∧ smallH H) ∧ Below w.heap.size w w' := by
  obtain ⟨a, c, rfl, hr⟩ := h
  have HR : Hid (ReadsHL w a H) := hr
  have HS : Hid (H.length ≤ maxLen ∧ ∀ D ∈ H, maxN D) := ⟨hn, hs⟩
  obtain ⟨n, hn9⟩ : ∃ n, H.length = n := ⟨_, rfl⟩
  have HN : Hid (H.length = n) := hn9
  rw [hn9]
  clear hr hn hs hn9
  go_enter Tryz.func31, Tryz.ntmps31
  go_wp2_with fail
  refine (szNodeS a n c H l _ HN.out (by rw [← HN.out]; exact HS.out.1) HS.out.2 h0 h1 (HR.out.below ((Below.refl _ _).alloc (Nat.le_refl _) _))).mono ?_
  rintro e w1 ⟨r, rfl, hr1, hr2, hb1⟩
  have B1 : Hid (Below w.heap.size w w1) := Below.new hb1
  have R2 : Hid (0 ≤ r → r + wtH H ≤ l ∧ smallH H) := hr2
  clear hb1 hr2
  by_cases hneg : r < 0
  · go_wp2_with fail
    go_ret
    exact ⟨-1, rfl, by omega, fun h => absurd h (by omega), B1.out⟩
  · go_wp2_with fail
    go_ret
    exact ⟨r, rfl, hr1, R2.out, B1.out⟩
theorem set4 (X Y : List Value) (u0 u1 u2 u3 x0 x1 x2 x3 : Value) (m : Nat) (h : X.length = m) : ((((X ++ u0 :: u1 :: u2 :: u3 :: Y).set m x0).set (m + 1) x1).set (m + 2) x2).set (m + 3) x3 = X ++ x0 :: x1 :: x2 :: x3 :: Y := by
  subst h
  induction X with
  | nil => rfl
  | cons z X ih => 
    simp only [List.cons_append, List.length_cons, List.set_cons_succ, Nat.succ_add, Nat.add_right_comm _ 1] at ih ⊢
    rw [ih]
theorem drop4 (zs : List Value) (k n : Nat) (hz : zs.length = n * 4) (hk : k < n) : ∃ u0 u1 u2 u3, zs.drop (k * 4) = u0 :: u1 :: u2 :: u3 :: zs.drop ((k + 1) * 4) := by
  refine ⟨zs[k * 4], zs[k * 4 + 1], zs[k * 4 + 2], zs[k * 4 + 3], ?_⟩
  rw [List.drop_eq_getElem_cons (by omega), List.drop_eq_getElem_cons (by omega), List.drop_eq_getElem_cons (by omega), List.drop_eq_getElem_cons (by omega), show (k + 1) * 4 = k * 4 + 1 + 1 + 1 + 1 by omega]
theorem off_other {w : World} {B i j : Nat} {u x : Value} (h : w.cell? ⟨B, i, none⟩ = some u) (hne : i ≠ j) : (w.setCell ⟨B, j, none⟩ x).cell? ⟨B, i, none⟩ = some u := by
  rw [World.cell?_setCell_other _ _ _ _ (fun e => hne (congrArg Addr.off e).symm)]
  exact h
set_option maxHeartbeats 2000000 in
theorem toNodeS (a : Option Addr) (n c : Nat) (H : List NM) (w : World) (hL : H.length = n) (hn : n ≤ 1048576) (hs : ∀ D ∈ H, smallN D) (h : ReadsHL w a H) :
    Calls Tryz.prog 89 #[.slice a n c] w fun e w' => ∃ v, e = .returned v ∧ OwnsHL w' w.heap.size w'.heap.size v n H ∧ Below w.heap.size w w' := by
  have hmk := run_make_N n hn
  have HH : Hid (ReadsHL w a H) := h
  have HL : Hid (H.length = n) := hL
  have HS : Hid (∀ D ∈ H, smallN D) := hs
  clear h hL hs
  go_enter Tryz.func89, Tryz.ntmps89
  go_wp2_with fail
  clear hmk
  obtain ⟨zs, hz, ho⟩ := rows_made w #[.bool false, .slice none 0 0, .slice none 0 0, .slice none 0 0] n 4 137 rfl (by omega) (by unfold maxLen; omega)
  have HZ : Hid (zs.length = n * 4) := hz
  have HO : Hid (World.ownsRow (w.alloc (.cells (madeCells #[.bool false, .slice none 0 0, .slice none 0 0, .slice none 0 0] (n * 4)) 137)) w.heap.size 137 4 (.slice (some ⟨w.heap.size, 0, none⟩) n n) n zs) := ho
  clear hz ho
  go_loopw [4] (fun i wr => ∃ (k : Nat) (V : List NV), k ≤ n ∧ i = .int .i64 k ∧ Hid (V.length = k) ∧ Hid (Below w.heap.size w wr) ∧ Hid (OwnsVs wr w.heap.size wr.heap.size V (H.take k)) ∧ Hid (wr.ownsRow w.heap.size 137 4 (.slice (some ⟨w.heap.size, 0, none⟩) n n) n (cellsN V ++ zs.drop (k * 4)))) (fun i _ => n - (intOf i).toNat)
  case atStart => exact ⟨0, [], by omega, rfl, rfl, (Below.refl _ _).alloc (Nat.le_refl _) _, by show OwnsVs _ _ _ [] []; exact (by simp : w.heap.size ≤ (w.alloc _).heap.size), by show World.ownsRow _ _ _ _ _ _ (cellsN [] ++ zs.drop 0); exact HO.out⟩
  case round =>
    obtain ⟨k, V, hk, rfl, hV, hb, hvs, ho⟩ := hrel
    by_cases hlt : k < n
    · obtain ⟨bk, o, D, a1, c1, a2, c2, a3, c3, rfl, r0, r1, r2, r3, hD, hR⟩ := srcN (HH.out.below hb.out) (i := k) (by rw [HL.out]; exact hlt)
      have SD : Hid (smallN D) := by show smallN D; rw [← hD.out]; exact HS.out _ (getD_memH H k (by rw [HL.out]; exact hlt))
      have HT : Hid (H.take (k + 1) = H.take k ++ [D]) := by
        show _ = _
        rw [List.take_succ_eq_append_getElem (by rw [HL.out]; exact hlt), ← hD.out, List.getD_eq_getElem?_getD, List.getElem?_eq_getElem (by rw [HL.out]; exact hlt)]
        rfl
      go_wp2_with fail
      refine (toNode _ D _ SD.out hR.out).mono ?_
      rintro e w1 ⟨v1, rfl, own1, hb1⟩
      obtain ⟨b1, d1, b2, d2, b3, d3, rfl⟩ := own1.lit
      have HB : Hid (Below w.heap.size w w1) := hb.out.trans (hb1.mono hb.out.size)
      have HV1 : Hid (OwnsVs w1 w.heap.size w1.heap.size (V ++ [⟨D.A, .slice b1 D.P.length d1, .slice b2 D.L.length d2, .slice b3 D.K.length d3⟩]) (H.take (k + 1))) := by
        show OwnsVs _ _ _ _ _
        rw [HT.out]
        exact OwnsVs.snoc own1 hb1.size (hvs.out.below hb1)
      obtain ⟨u0, u1, u2, u3, hdr⟩ := drop4 zs k n HZ.out hlt
      have HO1 : Hid (w1.ownsRow w.heap.size 137 4 (.slice (some ⟨w.heap.size, 0, none⟩) n n) n (cellsN V ++ u0 :: u1 :: u2 :: u3 :: zs.drop ((k + 1) * 4))) := by
        have := own_below ho.out hb1
        rw [hdr] at this
        exact this
      have HCL : Hid ((cellsN V).length = k * 4) := by show _ = _; rw [cellsN_length, hV.out]
      clear hb hb1 ho r0 r1 r2 r3 hvs own1 hdr
      obtain ⟨A, hA⟩ : ∃ A, D.A = A := ⟨_, rfl⟩
      obtain ⟨n1, hn1⟩ : ∃ n, D.P.length = n := ⟨_, rfl⟩
      obtain ⟨n2, hn2⟩ : ∃ n, D.L.length = n := ⟨_, rfl⟩
      obtain ⟨n3, hn3⟩ : ∃ n, D.K.length = n := ⟨_, rfl⟩
      rw [hA, hn1, hn2, hn3] at HV1 ⊢
      clear hA hn1 hn2 hn3
      obtain ⟨x0, f0⟩ := own_at HO1.out (mid0 _ _ u0 u1 u2 u3 _ HCL.out)
      obtain ⟨x1, f1⟩ := own_at HO1.out (mid1 _ _ u0 u1 u2 u3 _ HCL.out)
      obtain ⟨x2, f2⟩ := own_at HO1.out (mid2 _ _ u0 u1 u2 u3 _ HCL.out)
      obtain ⟨x3, f3⟩ := own_at HO1.out (mid3 _ _ u0 u1 u2 u3 _ HCL.out)
      have y1 := off_other (x := .bool A) x1 (j := k * 4) (by omega)
      have y2 := off_other (x := .slice b1 n1 d1) (off_other (x := .bool A) x2 (j := k * 4) (by omega)) (j := k * 4 + 1) (by omega)
      have y3 := off_other (x := .slice b2 n2 d2) (off_other (x := .slice b1 n1 d1) (off_other (x := .bool A) x3 (j := k * 4) (by omega)) (j := k * 4 + 1) (by omega)) (j := k * 4 + 2) (by omega)
      have HF : Hid (OwnsVs ((((w1.setCell ⟨w.heap.size, k * 4, none⟩ (.bool A)).setCell ⟨w.heap.size, k * 4 + 1, none⟩ (.slice b1 n1 d1)).setCell ⟨w.heap.size, k * 4 + 2, none⟩ (.slice b2 n2 d2)).setCell ⟨w.heap.size, k * 4 + 3, none⟩ (.slice b3 n3 d3)) w.heap.size w1.heap.size (V ++ [⟨A, .slice b1 n1 d1, .slice b2 n2 d2, .slice b3 n3 d3⟩]) (H.take (k + 1)) ∧ World.ownsRow ((((w1.setCell ⟨w.heap.size, k * 4, none⟩ (.bool A)).setCell ⟨w.heap.size, k * 4 + 1, none⟩ (.slice b1 n1 d1)).setCell ⟨w.heap.size, k * 4 + 2, none⟩ (.slice b2 n2 d2)).setCell ⟨w.heap.size, k * 4 + 3, none⟩ (.slice b3 n3 d3)) w.heap.size 137 4 (.slice (some ⟨w.heap.size, 0, none⟩) n n) n (cellsN (V ++ [⟨A, .slice b1 n1 d1, .slice b2 n2 d2, .slice b3 n3 d3⟩]) ++ zs.drop ((k + 1) * 4))) := by
        have hln : (cellsN V ++ u0 :: u1 :: u2 :: u3 :: zs.drop ((k + 1) * 4)).length = n * 4 := by
          rw [List.length_append, HCL.out]; simp [HZ.out]; omega
        have s0 := own_set HO1.out (k * 4) (by rw [hln]; omega) (.bool A)
        have s1 := own_set s0 (k * 4 + 1) (by rw [List.length_set, hln]; omega) (.slice b1 n1 d1)
        have s2 := own_set s1 (k * 4 + 2) (by rw [List.length_set, List.length_set, hln]; omega) (.slice b2 n2 d2)
        have s3 := own_set s2 (k * 4 + 3) (by rw [List.length_set, List.length_set, List.length_set, hln]; omega) (.slice b3 n3 d3)
        rw [set4 _ _ _ _ _ _ _ _ _ _ _ HCL.out] at s3
        refine ⟨OwnsVs.setKind (Lib.ownsRow_kind s2 _ rfl) _ (OwnsVs.setKind (Lib.ownsRow_kind s1 _ rfl) _ (OwnsVs.setKind (Lib.ownsRow_kind s0 _ rfl) _ (OwnsVs.setKind (Lib.ownsRow_kind HO1.out _ rfl) _ HV1.out))), ?_⟩
        rw [cellsN_append, List.append_assoc]
        exact s3
      clear HV1 HO1
      go_wp2_with fail
      refine ⟨⟨k + 1, V ++ [NV.mk A (.slice b1 n1 d1) (.slice b2 n2 d2) (.slice b3 n3 d3)], by omega, by go_num, by show _ = _; rw [List.length_append, hV.out]; rfl, (((HB.out.setCell (Nat.le_refl _) _).setCell (Nat.le_refl _) _).setCell (Nat.le_refl _) _).setCell (Nat.le_refl _) _, ?_, HF.out.2⟩, by simp [intOf]; omega⟩
      have := HF.out.1
      show OwnsVs _ _ _ _ _
      simp only [World.size_setCell]
      exact this
    · have hkn : k = n := by omega
      have HF : Hid (OwnsHL wr w.heap.size wr.heap.size (.slice (some ⟨w.heap.size, 0, none⟩) n n) n H) := by
        have h1 := hvs.out
        rw [List.take_of_length_le (by rw [HL.out]; omega)] at h1
        have h2 := ho.out
        rw [List.drop_eq_nil_of_le (by rw [HZ.out]; omega), List.append_nil] at h2
        exact ⟨V, h2, fun j e => (h2.lt j e).2, h1⟩
      clear hkn
      go_wp2_with fail
      go_ret
      exact ⟨_, rfl, HF.out, hb.out⟩
theorem Turned.set {lo hi : Nat} (w : World) (p : Addr) (h1 : lo ≤ p.block) (h2 : p.block < hi) (u : Value) : Turned lo hi w (w.setCell p u) := by
  refine ⟨(Below.setCell (B := lo) (p := p) (Below.refl _ _) h1 u).os, (Below.setCell (B := lo) (p := p) (Below.refl _ _) h1 u).tape, (Below.setCell (B := lo) (p := p) (Below.refl _ _) h1 u).output, by rw [World.size_setCell]; exact Nat.le_refl _, fun k hk hd => ?_⟩
  exact Below.heap_setCell _ _ _ _ (by omega)
set_option maxHeartbeats 1000000 in
theorem toHeap (v : Value) (H : List NM) (w : World) (hs : smallH H) (h : ReadsH w v H) :
    Calls Tryz.prog 39 #[v] w fun e w' => ∃ v', e = .returned v' ∧ OwnsH w' w.heap.size w'.heap.size v' H ∧ Below w.heap.size w w' := by
  obtain ⟨a, c, rfl, hr⟩ := h
  have HR : Hid (ReadsHL w a H) := hr
  have HS : Hid (H.length ≤ 1048576 ∧ ∀ D ∈ H, smallN D) := ⟨by have := hs.1; unfold wtH at this; omega, hs.2⟩
  obtain ⟨n, hn9⟩ : ∃ n, H.length = n := ⟨_, rfl⟩
  have HN : Hid (H.length = n) := hn9
  rw [hn9]
  clear hr hs hn9
  go_enter Tryz.func39, Tryz.ntmps39
  go_wp2_with fail
  refine (toNodeS a n c H _ HN.out (by rw [← HN.out]; exact HS.out.1) HS.out.2 (HR.out.below ((((Below.refl _ _).alloc (Nat.le_refl _) _).alloc (by simp) _).alloc (by simp; omega) _))).mono ?_
  rintro e w1 ⟨v1, rfl, o1, hb1⟩
  obtain ⟨b1, d1, rfl, _⟩ := o1.lit
  have B1 : Hid (Below w.heap.size w w1) := ((((Below.refl _ _).alloc (Nat.le_refl _) _).alloc (by simp) _).alloc (by simp; omega) _).trans (hb1.mono (by simp; omega))
  have HRs : Hid (Box w1 (w.heap.size + 1) [.slice none 0 0]) := Box.below ((Box.new (by simp)).old _) hb1
  have HO : Hid (Box w1 (w.heap.size + 1 + 1) [.slice none 0 0]) := Box.below (Box.new (by simp)) hb1
  have O1 : Hid (OwnsHL w1 (w.heap.size + 1 + 1 + 1) w1.heap.size (.slice b1 n d1) n H) := o1.mono (by simp) (Nat.le_refl _)
  clear o1 hb1
  obtain ⟨q1, q1f⟩ := HO.out 0 _ rfl
  obtain ⟨q2, q2f⟩ := HRs.out 0 _ rfl
  have W2 := (HRs.out.other ⟨w.heap.size + 1 + 1, 0, none⟩ (by dsimp only; omega) (.slice b1 n d1)).set 0 (.slice b1 n d1)
  obtain ⟨r0, _⟩ := W2 0 _ rfl
  clear W2
  go_wp2_with fail
  refine bodyPost_ret (v := .agg #[.slice b1 n d1]) (by simp [results, Tryz.results39, go_sem, r0]) rfl ⟨_, rfl, ?_, ?_⟩
  · refine ⟨.slice b1 n d1, rfl, ?_⟩
    rw [HN.out]
    have h1 := O1.out.turned (Turned.set w1 ⟨w.heap.size + 1 + 1, 0, none⟩ (lo := w.heap.size + 1) (hi := w.heap.size + 1 + 1 + 1) (by dsimp only; omega) (by dsimp only; omega) (.slice b1 n d1)) (.inr (Nat.le_refl _))
    have h2 := h1.turned (Turned.set _ ⟨w.heap.size + 1, 0, none⟩ (lo := w.heap.size + 1) (hi := w.heap.size + 1 + 1 + 1) (by dsimp only; omega) (by dsimp only; omega) (.slice b1 n d1)) (.inr (Nat.le_refl _))
    refine h2.mono (by omega) ?_
    rw [World.size_setCell, World.size_setCell]
    exact Nat.le_refl _
  · exact Below.setCell (Below.setCell B1.out (by dsimp only; omega) _) (by dsimp only; omega) _
set_option maxHeartbeats 1000000 in
theorem leafOK (v : Value) (D : NM) (w : World) (hs : smallN D) (h : ReadsN w v D) :
    Calls Tryz.prog 180 #[v] w fun e w' => e = .returned (.bool (leafB D)) ∧ Below w.heap.size w w' := by
  obtain ⟨a1, c1, a2, c2, a3, c3, rfl, s1, s2, s3⟩ := h
  obtain ⟨bb, hbb⟩ : ∃ bb, leafB D = bb := ⟨_, rfl⟩
  rw [hbb]
  obtain ⟨pb, hpb⟩ : ∃ pb, pairsB (fK D.P) (fV D.P) D.P.length = pb := ⟨_, rfl⟩
  have S1 : Hid (Src w a1 (cellsP D.P)) := s1
  obtain ⟨n1, hn1⟩ : ∃ n, D.P.length = n := ⟨_, rfl⟩
  obtain ⟨n2, hn2⟩ : ∃ n, D.L.length = n := ⟨_, rfl⟩
  obtain ⟨n3, hn3⟩ : ∃ n, D.K.length = n := ⟨_, rfl⟩
  obtain ⟨A, hA⟩ : ∃ A, D.A = A := ⟨_, rfl⟩
  have N1 : Hid (D.P.length = n1) := hn1
  have HF : Hid (bb = (decide (A = true ∧ n2 = 0 ∧ n3 = 0 ∧ 1 ≤ n1 ∧ n1 ≤ 3) && pb)) := by
    show bb = _
    rw [← hbb, ← hpb, ← hn1, ← hn2, ← hn3, ← hA]; rfl
  have HS : Hid (n1 ≤ 1048576 ∧ n2 ≤ 1048576 ∧ n3 ≤ 1048576) := by
    have h1 := hs.1
    unfold wtN at h1
    exact ⟨by omega, by omega, by omega⟩
  have HP : Hid (∀ x ∈ D.P, x.1.size ≤ 1048576 ∧ x.2.size ≤ 1048576) := hs.2.1
  have PB : Hid (pairsB (fK D.P) (fV D.P) n1 = pb) := by show _ = pb; rw [← hn1]; exact hpb
  rw [hn1, hn2, hn3, hA]
  clear s1 s2 s3 hn1 hn2 hn3 hA hbb hpb hs
  cases A with
  | false =>
    have F : Hid (bb = false) := by show bb = false; rw [HF.out]; simp
    clear HF
    go_enter Tryz.func180, Tryz.ntmps180
    go_wp2_with fail
    go_ret
    exact ⟨ret_bool F.out.symm, (Below.refl _ _).alloc (Nat.le_refl _) _⟩
  | true =>
    by_cases t2 : (0 : Int) < (n2 : Int)
    · have F : Hid (bb = false) := by show bb = false; rw [HF.out, decide_eq_false (by omega)]; rfl
      clear HF
      go_enter Tryz.func180, Tryz.ntmps180
      go_wp2_with fail
      go_ret
      exact ⟨ret_bool F.out.symm, (Below.refl _ _).alloc (Nat.le_refl _) _⟩
    by_cases t3 : (0 : Int) < (n3 : Int)
    · have F : Hid (bb = false) := by show bb = false; rw [HF.out, decide_eq_false (by omega)]; rfl
      have e2 : n2 = 0 := by omega
      subst e2
      clear HF t2
      go_enter Tryz.func180, Tryz.ntmps180
      go_wp2_with fail
      go_ret
      exact ⟨ret_bool F.out.symm, (Below.refl _ _).alloc (Nat.le_refl _) _⟩
    have e2 : n2 = 0 := by omega
    have e3 : n3 = 0 := by omega
    subst e2 e3
    clear t2 t3
    by_cases t4 : (1 : Int) ≤ (n1 : Int)
    case neg =>
      have F : Hid (bb = false) := by show bb = false; rw [HF.out, decide_eq_false (by omega)]; rfl
      have e1 : n1 = 0 := by omega
      subst e1
      clear HF t4
      go_enter Tryz.func180, Tryz.ntmps180
      go_wp2_with fail
      go_ret
      exact ⟨ret_bool F.out.symm, (Below.refl _ _).alloc (Nat.le_refl _) _⟩
    by_cases t5 : (n1 : Int) ≤ 3
    case neg =>
      have F : Hid (bb = false) := by show bb = false; rw [HF.out, decide_eq_false (by omega)]; rfl
      have t6 : decide ((n1 : Int) ≤ 3) = false := decide_eq_false t5
      clear HF t5
      go_enter Tryz.func180, Tryz.ntmps180
      go_wp2_with fail
      go_ret
      exact ⟨ret_bool F.out.symm, (Below.refl _ _).alloc (Nat.le_refl _) _⟩
    have F : Hid (bb = pb) := by show bb = pb; rw [HF.out, decide_eq_true ⟨rfl, rfl, rfl, by omega, by omega⟩]; simp
    clear HF
    go_enter Tryz.func180, Tryz.ntmps180
    go_wp2_with fail
    refine (implPairsOK a1 n1 c1 (fK D.P) (fV D.P) _ HS.out.1 (fun i hi => HP.out _ (mem_getD D.P p0 i (by rw [N1.out]; exact hi))) (sp_src (S1.out.below ((Below.refl _ _).alloc (Nat.le_refl _) _)) N1.out)).mono ?_
    rw [PB.out]
    rintro e w1 ⟨rfl, hb1⟩
    have B1 : Hid (Below w.heap.size w w1) := Below.new hb1
    clear hb1
    go_wp2_with fail
    go_ret
    exact ⟨ret_bool F.out.symm, B1.out⟩
set_option maxHeartbeats 2000000 in
theorem innerOK (v : Value) (D : NM) (w : World) (hs : smallN D) (h : ReadsN w v D) :
    Calls Tryz.prog 181 #[v] w fun e w' => e = .returned (.bool (innerB D)) ∧ Below w.heap.size w w' := by
  obtain ⟨a1, c1, a2, c2, a3, c3, rfl, s1, s2, s3⟩ := h
  obtain ⟨bb, hbb⟩ : ∃ bb, innerB D = bb := ⟨_, rfl⟩
  rw [hbb]
  obtain ⟨pb, hpb⟩ : ∃ pb, kidsB D.K D.L = pb := ⟨_, rfl⟩
  have S2 : Hid (Src w a2 (cellsS D.L)) := s2
  have S3 : Hid (Src w a3 (cellsI D.K)) := s3
  obtain ⟨n1, hn1⟩ : ∃ n, D.P.length = n := ⟨_, rfl⟩
  obtain ⟨n2, hn2⟩ : ∃ n, D.L.length = n := ⟨_, rfl⟩
  obtain ⟨n3, hn3⟩ : ∃ n, D.K.length = n := ⟨_, rfl⟩
  obtain ⟨A, hA⟩ : ∃ A, D.A = A := ⟨_, rfl⟩
  have N2 : Hid (D.L.length = n2) := hn2
  have N3 : Hid (D.K.length = n3) := hn3
  have HF : Hid (bb = (decide (A = false ∧ n1 = 0 ∧ n2 = n3 ∧ 1 ≤ n3 ∧ n3 ≤ 4) && pb)) := by
    show bb = _
    rw [← hbb, ← hpb, ← hn1, ← hn2, ← hn3, ← hA]; rfl
  have HS : Hid (n1 ≤ 1048576 ∧ n2 ≤ 1048576 ∧ n3 ≤ 1048576) := by
    have h1 := hs.1
    unfold wtN at h1
    exact ⟨by omega, by omega, by omega⟩
  have HL : Hid (∀ x ∈ D.L, x.size ≤ 1048576) := hs.2.2
  have PB : Hid (kidsB D.K D.L = pb) := hpb
  rw [hn1, hn2, hn3, hA]
  clear s1 s2 s3 hn1 hn2 hn3 hA hbb hpb hs
  cases A with
  | true =>
    have F : Hid (bb = false) := by show bb = false; rw [HF.out]; simp
    clear HF
    go_enter Tryz.func181, Tryz.ntmps181
    go_wp2_with fail
    go_ret
    exact ⟨ret_bool F.out.symm, (Below.refl _ _).alloc (Nat.le_refl _) _⟩
  | false =>
    by_cases t1 : (0 : Int) < (n1 : Int)
    · have F : Hid (bb = false) := by show bb = false; rw [HF.out, decide_eq_false (by omega)]; rfl
      clear HF
      go_enter Tryz.func181, Tryz.ntmps181
      go_wp2_with fail
      go_ret
      exact ⟨ret_bool F.out.symm, (Below.refl _ _).alloc (Nat.le_refl _) _⟩
    have e1 : n1 = 0 := by omega
    subst e1
    clear t1
    by_cases t2 : n2 = n3
    case neg =>
      have F : Hid (bb = false) := by show bb = false; rw [HF.out, decide_eq_false (by omega)]; rfl
      have t3 : ((n2 : Int) != (n3 : Int)) = true := by simp; omega
      clear HF t2
      go_enter Tryz.func181, Tryz.ntmps181
      go_wp2_with fail
      go_ret
      exact ⟨ret_bool F.out.symm, (Below.refl _ _).alloc (Nat.le_refl _) _⟩
    subst t2
    have t3 : ((n2 : Int) != (n2 : Int)) = false := by simp
    by_cases t4 : (n2 : Int) < 1
    · have F : Hid (bb = false) := by show bb = false; rw [HF.out, decide_eq_false (by omega)]; rfl
      clear HF
      go_enter Tryz.func181, Tryz.ntmps181
      go_wp2_with fail
      go_ret
      exact ⟨ret_bool F.out.symm, (Below.refl _ _).alloc (Nat.le_refl _) _⟩
    by_cases t5 : (4 : Int) < (n2 : Int)
    · have F : Hid (bb = false) := by show bb = false; rw [HF.out, decide_eq_false (by omega)]; rfl
      clear HF
      go_enter Tryz.func181, Tryz.ntmps181
      go_wp2_with fail
      go_ret
      exact ⟨ret_bool F.out.symm, (Below.refl _ _).alloc (Nat.le_refl _) _⟩
    have FP : Hid (bb = pb) := by show bb = pb; rw [HF.out, decide_eq_true ⟨rfl, rfl, rfl, by omega, by omega⟩]; simp
    clear HF
    go_enter Tryz.func181, Tryz.ntmps181
    go_wp2_with fail
    go_loopw [35] (fun i wr => ∃ k : Nat, k ≤ n2 ∧ i = .int .i64 k ∧ Hid (∀ j, j < k → kidB D.K D.L j = true) ∧ Hid (Below w.heap.size w wr) ∧ Hid (Box wr w.heap.size [.bool false, .slice a1 0 c1, .slice a2 n2 c2, .slice a3 n2 c3])) (fun i _ => n2 - (intOf i).toNat)
    case atStart => exact ⟨0, by omega, rfl, fun j hj => absurd hj (by omega), (Below.refl _ _).alloc (Nat.le_refl _) _, Box.new rfl⟩
    case round =>
      obtain ⟨k, hk, rfl, hg, hb, hx⟩ := hrel
      by_cases hlt : k < n2
      · obtain ⟨b2, o2, y, rfl, q2, hy⟩ := srcS (S2.out.below hb.out) (i := k) (by rw [N2.out]; exact hlt)
        obtain ⟨b3, o3, q, rfl, q3, hq⟩ := srcI (S3.out.below hb.out) (i := k) (by rw [N3.out]; exact hlt)
        have SY : Hid (y.size ≤ maxLen) := by
          have h1 := HL.out _ (mem_getD D.L e0 k (by rw [N2.out]; exact hlt))
          rw [hy.out] at h1
          show y.size ≤ maxLen
          unfold maxLen; omega
        obtain ⟨x2, _⟩ := hx.out 2 _ rfl
        obtain ⟨x3, _⟩ := hx.out 3 _ rfl
        have hki : (k : Int) < (n2 : Int) := by omega
        cases hp : pageB q with
        | false =>
          have F : Hid (bb = false) := by
            show bb = false
            rw [FP.out, ← PB.out]
            exact kids_bad (k := k) (by rw [N3.out]; exact hlt) (by unfold kidB; rw [hq.out, hp]; rfl)
          have HP : Hid (pageB q = false) := hp
          clear hp
          go_wp2_with (go_at_call 162; refine (isPageIs false _ _ HP.out).mono ?_; rintro e w1 ⟨rfl, rfl⟩)
          go_ret
          exact ⟨ret_bool F.out.symm, hb.out⟩
        | true =>
          have HP : Hid (pageB q = true) := hp
          cases hk1 : keyB y with
          | false =>
            have F : Hid (bb = false) := by
              show bb = false
              rw [FP.out, ← PB.out]
              exact kids_bad (k := k) (by rw [N3.out]; exact hlt) (by unfold kidB; rw [hq.out, hp, hy.out, hk1]; rfl)
            have HK : Hid (keyB y = false) := hk1
            clear hp hk1
            go_wp2_with (first | (go_at_call 164; refine (keyFitsIs false _ _ HK.out SY.out).mono ?_; rintro e w1 ⟨rfl, rfl⟩) | (go_at_call 162; refine (isPageIs true _ _ HP.out).mono ?_; rintro e w1 ⟨rfl, rfl⟩))
            go_ret
            exact ⟨ret_bool F.out.symm, hb.out⟩
          | true =>
            have HK : Hid (keyB y = true) := hk1
            by_cases hz : k = 0
            · have hgood : Hid (kidB D.K D.L k = true) := by show kidB D.K D.L k = true; unfold kidB upB; rw [hq.out, hp, hy.out, hk1, decide_eq_true hz]; rfl
              have hkz : decide (0 < k) = false := by simp; omega
              clear hp hk1 hz
              go_wp2_with (first | (go_at_call 164; refine (keyFitsIs true _ _ HK.out SY.out).mono ?_; rintro e w1 ⟨rfl, rfl⟩) | (go_at_call 162; refine (isPageIs true _ _ HP.out).mono ?_; rintro e w1 ⟨rfl, rfl⟩))
              exact ⟨⟨k + 1, by omega, by go_num, fun j hj => by
                by_cases e : j = k
                · rw [e]; exact hgood.out
                · exact hg.out j (by omega), hb.out, hx.out⟩, by simp [intOf]; omega⟩
            · obtain ⟨b4, o4, y4, e4, q4, hy4⟩ := srcS (S2.out.below hb.out) (i := k - 1) (by rw [N2.out]; omega)
              cases e4
              have hkp : 0 < k := by omega
              have hkm : (0 : Int) ≤ (k : Int) - 1 := by omega
              have hkm2 : (k : Int) - 1 < (n2 : Int) := by omega
              by_cases hl : Op.bytesLess y4.toList y.toList = true
              · have hgood : Hid (kidB D.K D.L k = true) := by show kidB D.K D.L k = true; unfold kidB upB; rw [hq.out, hp, hy.out, hk1, hy4.out, hl, decide_eq_false hz]; rfl
                clear hp hk1 hz
                go_wp2_with (first | (go_at_call 164; refine (keyFitsIs true _ _ HK.out SY.out).mono ?_; rintro e w1 ⟨rfl, rfl⟩) | (go_at_call 162; refine (isPageIs true _ _ HP.out).mono ?_; rintro e w1 ⟨rfl, rfl⟩))
                exact ⟨⟨k + 1, by omega, by go_num, fun j hj => by
                  by_cases e : j = k
                  · rw [e]; exact hgood.out
                  · exact hg.out j (by omega), hb.out, hx.out⟩, by simp [intOf]; omega⟩
              · have hl' : Op.bytesLess y4.toList y.toList = false := by simpa using hl
                have F : Hid (bb = false) := by
                  show bb = false
                  rw [FP.out, ← PB.out]
                  exact kids_bad (k := k) (by rw [N3.out]; exact hlt) (by unfold kidB upB; rw [hq.out, hp, hy.out, hk1, hy4.out, hl', decide_eq_false hz]; rfl)
                clear hp hk1 hz hl
                go_wp2_with (first | (go_at_call 164; refine (keyFitsIs true _ _ HK.out SY.out).mono ?_; rintro e w1 ⟨rfl, rfl⟩) | (go_at_call 162; refine (isPageIs true _ _ HP.out).mono ?_; rintro e w1 ⟨rfl, rfl⟩))
                go_ret
                exact ⟨ret_bool F.out.symm, hb.out⟩
      · have hkn : k = n2 := by omega
        have F : Hid (bb = true) := by
          show bb = true
          rw [FP.out, ← PB.out]
          exact kids_good (fun j hj => hg.out j (by rw [hkn]; rw [N3.out] at hj; exact hj))
        clear hkn
        go_wp2_with fail
        go_ret
        exact ⟨ret_bool F.out.symm, hb.out⟩
set_option maxHeartbeats 1000000 in
theorem implNodeOK (v : Value) (D : NM) (w : World) (hs : smallN D) (h : ReadsN w v D) :
    Calls Tryz.prog 161 #[v] w fun e w' => e = .returned (.bool (okB D)) ∧ Below w.heap.size w w' := by
  obtain ⟨bb, hbb⟩ : ∃ bb, okB D = bb := ⟨_, rfl⟩
  rw [hbb]
  obtain ⟨b1, h1⟩ : ∃ b, freeB D = b := ⟨_, rfl⟩
  obtain ⟨b2, h2⟩ : ∃ b, leafB D = b := ⟨_, rfl⟩
  obtain ⟨b3, h3⟩ : ∃ b, innerB D = b := ⟨_, rfl⟩
  have HF : Hid (bb = (b1 || b2 || b3)) := by show bb = _; rw [← hbb, ← h1, ← h2, ← h3]; rfl
  have H1 : Hid (freeB D = b1) := h1
  have H2 : Hid (leafB D = b2) := h2
  have H3 : Hid (innerB D = b3) := h3
  have HS : Hid (smallN D) := hs
  clear hbb h1 h2 h3 hs
  obtain ⟨a1, c1, a2, c2, a3, c3, rfl, s1, s2, s3⟩ := h
  have HR : Hid (ReadsN w (.agg #[.bool D.A, .slice a1 D.P.length c1, .slice a2 D.L.length c2, .slice a3 D.K.length c3]) D) := ⟨a1, c1, a2, c2, a3, c3, rfl, s1, s2, s3⟩
  clear s1 s2 s3
  go_enter Tryz.func161, Tryz.ntmps161
  go_wp2_with fail
  refine (nodeFree _ D _ (HR.out.below ((Below.refl _ _).alloc (Nat.le_refl _) _))).mono ?_
  rw [H1.out]
  rintro e w1 ⟨rfl, hb1⟩
  have B1 : Hid (Below w.heap.size w w1) := Below.new hb1
  have X1 : Hid (Box w1 w.heap.size [.bool D.A, .slice a1 D.P.length c1, .slice a2 D.L.length c2, .slice a3 D.K.length c3]) := Box.below (Box.new rfl) hb1
  clear hb1
  cases b1 with
  | true =>
    have F : Hid (bb = true) := by show bb = true; rw [HF.out]; rfl
    go_wp2_with fail
    go_ret
    exact ⟨ret_bool F.out.symm, B1.out⟩
  | false =>
    obtain ⟨p0, _⟩ := X1.out 0 _ rfl
    obtain ⟨p1, _⟩ := X1.out 1 _ rfl
    obtain ⟨p2, _⟩ := X1.out 2 _ rfl
    obtain ⟨p3, _⟩ := X1.out 3 _ rfl
    go_wp2_with fail
    refine (leafOK _ D _ HS.out (HR.out.below B1.out)).mono ?_
    rw [H2.out]
    rintro e w2 ⟨rfl, hb2⟩
    have B2 : Hid (Below w.heap.size w w2) := B1.out.trans (hb2.mono B1.out.size)
    have X2 : Hid (Box w2 w.heap.size [.bool D.A, .slice a1 D.P.length c1, .slice a2 D.L.length c2, .slice a3 D.K.length c3]) := X1.out.below hb2
    clear hb2 p0 p1 p2 p3 X1 B1
    cases b2 with
    | true =>
      have F : Hid (bb = true) := by show bb = true; rw [HF.out]; rfl
      go_wp2_with fail
      go_ret
      exact ⟨ret_bool F.out.symm, B2.out⟩
    | false =>
      have F : Hid (bb = b3) := by show bb = b3; rw [HF.out]; rfl
      obtain ⟨p0, _⟩ := X2.out 0 _ rfl
      obtain ⟨p1, _⟩ := X2.out 1 _ rfl
      obtain ⟨p2, _⟩ := X2.out 2 _ rfl
      obtain ⟨p3, _⟩ := X2.out 3 _ rfl
      go_wp2_with fail
      refine (innerOK _ D _ HS.out (HR.out.below B2.out)).mono ?_
      rw [H3.out]
      rintro e w3 ⟨rfl, hb3⟩
      have B3 : Hid (Below w.heap.size w w3) := B2.out.trans (hb3.mono B2.out.size)
      clear hb3 p0 p1 p2 p3 X2 B2
      go_wp2_with fail
      go_ret
      exact ⟨ret_bool F.out.symm, B3.out⟩
end Go.Proofs.YtnnimocaanofjaaGreatDoor
