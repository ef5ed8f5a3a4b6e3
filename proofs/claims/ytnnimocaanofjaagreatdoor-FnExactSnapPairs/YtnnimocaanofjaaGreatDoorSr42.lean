/-
  Texts of the store, brought together: Spr. By an AI agent.
-/
import Derived.Test.YtnnimocaanofjaaGreatDoorSr38
namespace Go.Proofs.YtnnimocaanofjaaGreatDoor
set_option linter.unusedSectionVars false
variable [DecidableEq NM]
open Go.ChangeShapes Go.WideShapes Go.ChangeAt Go.RowKit Go.Deep
set_option linter.unusedVariables false
set_option linter.unusedSimpArgs false
set_option maxRecDepth 100000
theorem store_true {D : DM} {U : UM} {H : List NM} (h : storeB D U H = true) : ∃ A, diskK D ∧ okU U = true ∧ allF (pagesM (D.S.drop 2)) (rootsU U) st0.R = some A ∧ keepH A (pagesM (D.S.drop 2)) = H ∧ allF H (rootsU U) st0.R = some A ∧ A.length = 50 ∧ openM D = (0, some (U, A)) := by
  by_cases hd : diskK D
  · cases hX : newestM (supAt D 0) (supAt D 1) with
    | none => rw [store_none hd hX] at h; cases h
    | some X =>
      have hXU : X = U := by
        by_cases e : X = U
        · exact e
        · rw [store_other hd hX e] at h; cases h
      subst hXU
      have hok := new_ok hd hX
      rw [store_same hd hX] at h
      cases hA : allF (pagesM (D.S.drop 2)) (rootsU X) st0.R with
      | none => rw [hA] at h; cases h
      | some A =>
        rw [hA] at h
        have hk : keepH A (pagesM (D.S.drop 2)) = H := of_decide_eq_true h
        have hag := allG_pages hd
        have hA2 : allF (allG (pageAt D)) (rootsU X) st0.R = some A := by rw [hag]; exact hA
        have h9 := (load_yes (roots_ok hok) hA2 (Nat.le_refl _)).2
        rw [hag, hk] at h9
        have hl := (all_facts _ _ _ hA st0_len).1
        refine ⟨A, hd, hok, rfl, hk, h9, hl, ?_⟩
        unfold openM
        rw [if_neg (by rintro (h1 | h1 | h1); exact h1 hd.1; exact h1 hd.2.1; have := hd.2.2; omega), new_of hd, hX]
        simp only
        rw [hA]
  · rw [store_closed hd] at h; cases h
theorem store_tree {D : DM} {U : UM} {H : List NM} (h : storeB D U H = true) : ∃ s, treeF H U.R = some s := by
  obtain ⟨A, _, _, _, _, h9, _⟩ := store_true h
  obtain ⟨s, hs, _⟩ := all_cons (L := U.S.map fun x => x.2.1) h9
  exact ⟨s, hs⟩
def spA (D : DM) (U : UM) (H : List NM) : List PM × Int := if storeB D U H = true then pairsA H U.R else ([], 1)
set_option maxHeartbeats 4000000 in
theorem implStorePairs (a1 a2 a3 sa ha : Option Addr) (n1 c1 n2 c2 n3 c3 k sc m hc : Nat) (AA : Bool) (G' R' : Int) (D : DM) (U : UM) (H : List NM) (w : World) (hH : HasHalf w) (hsm : smallH H) (h : StoreIn w a1 a2 a3 sa ha n1 c1 n2 c2 n3 c3 k sc m hc AA G' R' D U H) :
    Calls Tryz.prog 22 #[.agg #[.slice a1 n1 c1, .slice a2 n2 c2, .bool AA, .slice a3 n3 c3, .int .i64 G', .int .i64 R', .slice sa k sc, .slice ha m hc]] w fun e w' => ∃ u R q, e = .returned (.tuple #[u, .int .i64 q]) ∧ spA D U H = (R, q) ∧ w'.ownsRow w.heap.size 109 2 u R.length (cellsP R) ∧ R.length ≤ 150 ∧ Below w.heap.size w w' := by
  have HI : Hid (StoreIn w a1 a2 a3 sa ha n1 c1 n2 c2 n3 c3 k sc m hc AA G' R' D U H ∧ HasHalf w ∧ smallH H) := ⟨h, hH, hsm⟩
  clear h hH hsm
  have A0 : Hid (∀ o, Below w.heap.size w (w.alloc o)) := fun o => (Below.refl _ _).alloc (Nat.le_refl _) _
  have h9 := HI.out.1.below (A0.out (.cells #[.slice a1 n1 c1, .slice a2 n2 c2, .bool AA, .slice a3 n3 c3, .int .i64 G', .int .i64 R', .slice sa k sc, .slice ha m hc] 47))
  have HJ : Hid (StoreIn (w.alloc (.cells #[.slice a1 n1 c1, .slice a2 n2 c2, .bool AA, .slice a3 n3 c3, .int .i64 G', .int .i64 R', .slice sa k sc, .slice ha m hc] 47)) a1 a2 a3 sa ha n1 c1 n2 c2 n3 c3 k sc m hc AA G' R' D U H) := h9
  clear h9
  go_enter Tryz.func22, Tryz.ntmps22
  go_wp2_with fail
  refine (volumeOfI a1 a2 a3 sa ha n1 c1 n2 c2 n3 c3 k sc m hc AA G' R' D U H _ HJ.out.small HJ.out.lens HJ.out.cap HJ.out.disk HJ.out.secs (HI.out.2.1.below (A0.out _)) HJ.out.sup HJ.out.snaps HJ.out.nodes HJ.out.nlens HJ.out.heap).mono ?_
  rintro e w1 ⟨p, b, rfl, hb0, hb1, hopen⟩
  have B1 : Hid (Below w.heap.size w w1) := Below.new hb1
  clear hb1
  cases b with
  | false =>
    have F : Hid (spA D U H = ([], 1)) := by show _ = _; unfold spA; rw [if_neg (by rw [hb0]; decide)]
    clear hopen hb0
    dsimp only
    go_wp2_with fail
    go_ret2
    exact ⟨_, _, _, rfl, F.out, World.ownsRow_nil _ _ _ _, by simp, B1.out⟩
  | true =>
    obtain ⟨B, X, A, rfl, ho, hat⟩ := hopen rfl
    obtain ⟨A', _, _, _, hk', _, _, ho'⟩ := store_true hb0
    rw [ho] at ho'
    simp only [Prod.mk.injEq, Option.some.injEq, true_and] at ho'
    obtain ⟨rfl, rfl⟩ := ho'
    have F : Hid (spA D X H = pairsA H X.R) := by show _ = _; unfold spA; rw [if_pos hb0]
    obtain ⟨g, r, na, nk, nc, u, t1, t2, t3, t4, t5⟩ := hat
    obtain ⟨ua, ud, rfl, _⟩ := t3.lit
    rw [hk'] at t3
    have hR : r = X.R := by
      obtain ⟨_, _, e9, _⟩ := t2.reads
      simp only [Value.agg.injEq, Array.mk.injEq, List.cons.injEq, Value.int.injEq, true_and] at e9
      exact e9.2.1
    have hl50 : H.length = 50 := by rw [← hk']; exact keep_len _ _
    have RH : Hid (ReadsH w1 (.agg #[.slice ua 50 ud]) H) := ⟨ua, ud, by rw [hl50], t3.reads⟩
    have PB : Hid (pairsA H r = pairsA H X.R) := by rw [hR]; exact rfl
    obtain ⟨y1, _⟩ := t1 1 _ rfl
    obtain ⟨y7, _⟩ := t1 7 _ rfl
    clear t1 t2 t3 t4 t5 hR hl50 hk' ho hopen hb0
    dsimp only
    go_wp2_with fail
    go_region_with (go_at_call 65; refine (implTreePairs _ H r _ HI.out.2.2 (RH.out.below (Below.refl _ _).drew)).mono ?_; rintro e w2 ⟨u2, R2, q2, rfl, hp2, o2, l2, hb2⟩; obtain ⟨g2, d2, rfl, _, _⟩ := own_src o2; have O2 : Hid (w2.ownsRow w.heap.size 109 2 (.slice g2 R2.length d2) R2.length (cellsP R2) ∧ R2.length ≤ 150 ∧ pairsA H r = (R2, q2)) := ⟨own_mono o2 (by have := B1.out.size; exact this), l2, hp2⟩; have B2 : Hid (Below w.heap.size w w2) := B1.out.drew.trans (hb2.mono B1.out.size); clear o2 l2 hp2 hb2)
    all_goals
      go_wp2_with fail
      go_ret2
      exact ⟨_, _, _, rfl, F.out.trans (PB.out.symm.trans O2.out.2.2), O2.out.1, O2.out.2.1, B2.out⟩
set_option maxHeartbeats 4000000 in
theorem l04PairsS (a1 a2 a3 sa ha : Option Addr) (n1 c1 n2 c2 n3 c3 k sc m hc : Nat) (AA : Bool) (G' R' : Int) (D : DM) (U : UM) (H : List NM) (w : World) (hsm : smallH H) (s : St) (ht : treeF H U.R = some s) (h : StoreIn w a1 a2 a3 sa ha n1 c1 n2 c2 n3 c3 k sc m hc AA G' R' D U H) :
    Calls Tryz.prog 64 #[.agg #[.slice a1 n1 c1, .slice a2 n2 c2, .bool AA, .slice a3 n3 c3, .int .i64 G', .int .i64 R', .slice sa k sc, .slice ha m hc]] w fun e w' => ∃ u, e = .returned u ∧ w'.ownsRow w.heap.size 109 2 u s.P.length (cellsP s.P) ∧ s.P.length ≤ 150 ∧ Below w.heap.size w w' := by
  have HI : Hid (StoreIn w a1 a2 a3 sa ha n1 c1 n2 c2 n3 c3 k sc m hc AA G' R' D U H ∧ smallH H ∧ treeF H R' = some s) := ⟨h, hsm, by rw [← h.sup.2.1]; exact ht⟩
  clear h hsm ht
  have A0 : Hid (∀ o, Below w.heap.size w (w.alloc o)) := fun o => (Below.refl _ _).alloc (Nat.le_refl _) _
  go_enter Tryz.func64, Tryz.ntmps64
  go_wp2_with fail
  refine (l03Walk _ H R' _ HI.out.2.1 (HI.out.1.heapH.below (A0.out _))).mono ?_
  rintro e w1 ⟨hb1, (⟨hn, v1, v2, rfl⟩ | ⟨s1, v1, v2, hs, rfl, row, _, good, _⟩)⟩
  · rw [HI.out.2.2] at hn; cases hn
  · rw [HI.out.2.2] at hs
    cases hs
    have B1 : Hid (Below w.heap.size w w1) := Below.new hb1
    have O1 : Hid (w1.ownsRow w.heap.size 109 2 v1 s.P.length (cellsP s.P) ∧ s.P.length ≤ 150) := ⟨own_mono row (by simp), good_le good⟩
    clear hb1 row good
    dsimp only
    go_wp2_with fail
    go_ret
    exact ⟨_, rfl, O1.out.1, O1.out.2, B1.out⟩
set_option maxHeartbeats 4000000 in
theorem specStorePairs (a1 a2 a3 sa ha : Option Addr) (n1 c1 n2 c2 n3 c3 k sc m hc : Nat) (AA : Bool) (G' R' : Int) (D : DM) (U : UM) (H : List NM) (w : World) (hsm : smallH H) (h : StoreIn w a1 a2 a3 sa ha n1 c1 n2 c2 n3 c3 k sc m hc AA G' R' D U H) :
    Calls Tryz.prog 21 #[.agg #[.slice a1 n1 c1, .slice a2 n2 c2, .bool AA, .slice a3 n3 c3, .int .i64 G', .int .i64 R', .slice sa k sc, .slice ha m hc]] w fun e w' => ∃ u R q, e = .returned (.tuple #[u, .int .i64 q]) ∧ spA D U H = (R, q) ∧ w'.ownsRow w.heap.size 109 2 u R.length (cellsP R) ∧ R.length ≤ 150 ∧ Below w.heap.size w w' := by
  have HI : Hid (StoreIn w a1 a2 a3 sa ha n1 c1 n2 c2 n3 c3 k sc m hc AA G' R' D U H ∧ smallH H) := ⟨h, hsm⟩
  clear h hsm
  have A0 : Hid (∀ o, Below w.heap.size w (w.alloc o)) := fun o => (Below.refl _ _).alloc (Nat.le_refl _) _
  go_enter Tryz.func21, Tryz.ntmps21
  go_wp2_with fail
  refine (specStoreOK a1 a2 a3 sa ha n1 c1 n2 c2 n3 c3 k sc m hc AA G' R' D U H _ (HI.out.1.below (A0.out _))).mono ?_
  obtain ⟨b, hb⟩ : ∃ b, storeB D U H = b := ⟨_, rfl⟩
  rw [hb]
  rintro e w1 ⟨rfl, hb1⟩
  have B1 : Hid (Below w.heap.size w w1) := Below.new hb1
  have X1 : Hid (Box w1 w.heap.size [.slice a1 n1 c1, .slice a2 n2 c2, .bool AA, .slice a3 n3 c3, .int .i64 G', .int .i64 R', .slice sa k sc, .slice ha m hc]) := Box.below (Box.new rfl) hb1
  clear hb1
  cases b with
  | false =>
    have F : Hid (spA D U H = ([], 1)) := by show _ = _; unfold spA; rw [if_neg (by rw [hb]; decide)]
    clear hb
    go_wp2_with fail
    go_ret2
    exact ⟨_, _, _, rfl, F.out, own_empty rfl B1.out.size, by simp, B1.out.alloc B1.out.size _⟩
  | true =>
    obtain ⟨s, hs⟩ := store_tree hb
    have F : Hid (spA D U H = (s.P, 0)) := by show _ = _; unfold spA pairsA; rw [if_pos hb, hs]
    have HT : Hid (treeF H U.R = some s) := hs
    clear hb hs
    obtain ⟨y0, _⟩ := X1.out 0 _ rfl
    obtain ⟨y1, _⟩ := X1.out 1 _ rfl
    obtain ⟨y2, _⟩ := X1.out 2 _ rfl
    obtain ⟨y3, _⟩ := X1.out 3 _ rfl
    obtain ⟨y4, _⟩ := X1.out 4 _ rfl
    obtain ⟨y5, _⟩ := X1.out 5 _ rfl
    obtain ⟨y6, _⟩ := X1.out 6 _ rfl
    obtain ⟨y7, _⟩ := X1.out 7 _ rfl
    go_wp2_with fail
    refine (l04PairsS a1 a2 a3 sa ha n1 c1 n2 c2 n3 c3 k sc m hc AA G' R' D U H _ HI.out.2 s HT.out (HI.out.1.below B1.out)).mono ?_
    rintro e w2 ⟨u2, rfl, o2, l2, hb2⟩
    obtain ⟨g2, d2, rfl, _, _⟩ := own_src o2
    have O2 : Hid (w2.ownsRow w.heap.size 109 2 (.slice g2 s.P.length d2) s.P.length (cellsP s.P) ∧ s.P.length ≤ 150) := ⟨own_mono o2 B1.out.size, l2⟩
    have B2 : Hid (Below w.heap.size w w2) := B1.out.trans (hb2.mono B1.out.size)
    clear o2 l2 hb2 y0 y1 y2 y3 y4 y5 y6 y7
    go_wp2_with fail
    go_ret2
    exact ⟨_, _, _, rfl, F.out, O2.out.1, O2.out.2, B2.out⟩
end Go.Proofs.YtnnimocaanofjaaGreatDoor
