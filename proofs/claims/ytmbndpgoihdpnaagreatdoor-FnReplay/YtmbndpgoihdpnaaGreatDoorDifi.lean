
/-
  The difference of two lists of pairs: the program's DiffPairs. By an AI agent.
-/
import Derived.Test.YtmbndpgoihdpnaaGreatDoorDlen
import Derived.Test.YtmbndpgoihdpnaaGreatDoorKys
import Derived.Test.YtmbndpgoihdpnaaGreatDoorListsd
namespace Go.Proofs.YtmbndpgoihdpnaaGreatDoor
open Go.ChangeShapes Go.WideShapes Go.ChangeAt Go.RowKit Go.Deep
set_option linter.unusedVariables false
set_option maxRecDepth 100000

theorem diffA_small {a b : List PM} {R : List DF} {q : Int} (h : diffA a b = (R, q)) : R.length ≤ 1048576 := by
  unfold diffA at h
  split at h
  · cases h; simp
  · split at h
    · cases h; simp
    · cases h
      have := diffM_len a b
      omega
theorem src_oneDf {w : World} {x0 x1 x2 : ByteArray} {x3 x4 : Bool} {B t : Nat} (hB : B = w.heap.size) : Src (w.alloc (.cells #[.string x0, .string x1, .string x2, .bool x3, .bool x4] t)) (some ⟨B, 0, none⟩) (cellsDf [(x0, x1, x2, x3, x4)]) := by
  have hb : Box (w.alloc (.cells #[.string x0, .string x1, .string x2, .bool x3, .bool x4] t)) B [.string x0, .string x1, .string x2, .bool x3, .bool x4] := Box.new hB
  refine .inr ⟨B, 0, rfl, fun j hj => ?_⟩
  have hj2 : j < 5 := hj
  rw [Nat.zero_add]
  match j, hj2 with
  | 0, _ => exact (hb 0 _ rfl).1
  | 1, _ => exact (hb 1 _ rfl).1
  | 2, _ => exact (hb 2 _ rfl).1
  | 3, _ => exact (hb 3 _ rfl).1
  | 4, _ => exact (hb 4 _ rfl).1
theorem keys_take_in {a b : List PM} {K : List ByteArray} {k : Nat} {x : ByteArray} (h : K[k]? = some x) : (K.take (k + 1)).filterMap (diffAt a b) = (K.take k).filterMap (diffAt a b) ++ (diffAt a b x).toList := by
  rw [List.take_add_one, h, List.filterMap_append]
  cases hd : diffAt a b x <;> simp [hd]

set_option maxHeartbeats 2000000 in
theorem implDiffPairs (a1 a2 : Option Addr) (n1 n2 c1 c2 : Nat) (L1 L2 : List PM) (w : World) (hL1 : L1.length = n1) (hL2 : L2.length = n2) (hn1 : n1 ≤ 1048576) (hn2 : n2 ≤ 1048576) (hs1 : ∀ x ∈ L1, x.1.size ≤ 1048576 ∧ x.2.size ≤ 1048576) (hs2 : ∀ x ∈ L2, x.1.size ≤ 1048576 ∧ x.2.size ≤ 1048576) (h1 : Src w a1 (cellsP L1)) (h2 : Src w a2 (cellsP L2)) :
    Calls Tryz.prog 58 #[.slice a1 n1 c1, .slice a2 n2 c2] w fun e w' => ∃ u R q, e = .returned (.tuple #[u, .int .i64 q]) ∧ diffA L1 L2 = (R, q) ∧ w'.ownsRow w.heap.size 108 5 u R.length (cellsDf R) ∧ Below w.heap.size w w' := by
  have HL : Hid (L1.length = n1 ∧ L2.length = n2) := ⟨hL1, hL2⟩
  have S1 : Hid (Src w a1 (cellsP L1)) := h1
  have S2 : Hid (Src w a2 (cellsP L2)) := h2
  have P1 : Hid (Sp w a1 n1 (fstL L1) (sndL L1)) := sp_of h1 hL1
  have P2 : Hid (Sp w a2 n2 (fstL L2) (sndL L2)) := sp_of h2 hL2
  have Q1 : Hid (∀ i, i < n1 → (fstL L1 i).size ≤ 1048576 ∧ (sndL L1 i).size ≤ 1048576) := by rw [← hL1]; exact sizes_of hs1
  have Q2 : Hid (∀ i, i < n2 → (fstL L2 i).size ≤ 1048576 ∧ (sndL L2 i).size ≤ 1048576) := by rw [← hL2]; exact sizes_of hs2
  clear hL1 hL2 h1 h2 hs1 hs2
  by_cases t1 : 4096 < n1
  · have F : Hid (diffA L1 L2 = ([], 2)) := by show _ = _; unfold diffA; rw [if_pos (.inl (by rw [HL.out.1]; exact t1))]
    go_enter Tryz.func58, Tryz.ntmps58
    go_wp2_with fail
    go_ret2
    exact ⟨_, _, _, rfl, F.out, World.ownsRow_nil _ _ _ _, Below.refl _ _⟩
  by_cases t2 : 4096 < n2
  · have F : Hid (diffA L1 L2 = ([], 2)) := by show _ = _; unfold diffA; rw [if_pos (.inr (by rw [HL.out.2]; exact t2))]
    go_enter Tryz.func58, Tryz.ntmps58
    go_wp2_with fail
    go_ret2
    exact ⟨_, _, _, rfl, F.out, World.ownsRow_nil _ _ _ _, Below.refl _ _⟩
  have N2 : Hid (¬ (4096 < L1.length ∨ 4096 < L2.length)) := by show ¬ _; rw [HL.out.1, HL.out.2]; omega
  obtain ⟨k1, hk1⟩ : ∃ b, okP L1 = b := ⟨_, rfl⟩
  obtain ⟨k2, hk2⟩ : ∃ b, okP L2 = b := ⟨_, rfl⟩
  have KP : Hid (okP L1 = k1 ∧ okP L2 = k2 ∧ pairsB (fstL L1) (sndL L1) n1 = k1 ∧ pairsB (fstL L2) (sndL L2) n2 = k2) := ⟨hk1, hk2, by rw [← HL.out.1]; exact hk1, by rw [← HL.out.2]; exact hk2⟩
  clear hk1 hk2
  cases k1 with
  | false =>
    have F : Hid (diffA L1 L2 = ([], 1)) := by show _ = _; unfold diffA; rw [if_neg N2.out, if_pos (.inl KP.out.1)]
    go_enter Tryz.func58, Tryz.ntmps58
    go_wp2_with fail
    refine (implPairsOK a1 n1 c1 _ _ _ hn1 Q1.out P1.out).mono ?_
    rw [KP.out.2.2.1]
    rintro e w1 ⟨rfl, hb1⟩
    have B1 : Hid (Below w.heap.size w w1) := hb1
    clear hb1
    go_wp2_with fail
    go_ret2
    exact ⟨_, _, _, rfl, F.out, World.ownsRow_nil _ _ _ _, B1.out⟩
  | true =>
  cases k2 with
  | false =>
    have F : Hid (diffA L1 L2 = ([], 1)) := by show _ = _; unfold diffA; rw [if_neg N2.out, if_pos (.inr KP.out.2.1)]
    go_enter Tryz.func58, Tryz.ntmps58
    go_wp2_with fail
    refine (implPairsOK a1 n1 c1 _ _ _ hn1 Q1.out P1.out).mono ?_
    rw [KP.out.2.2.1]
    rintro e w1 ⟨rfl, hb1⟩
    have B1 : Hid (Below w.heap.size w w1) := hb1
    clear hb1
    go_wp2_with fail
    refine (implPairsOK a2 n2 c2 _ _ _ hn2 Q2.out (P2.out.below B1.out)).mono ?_
    rw [KP.out.2.2.2]
    rintro e w2 ⟨rfl, hb2⟩
    have B2 : Hid (Below w.heap.size w w2) := B1.out.trans (hb2.mono B1.out.size)
    clear hb2
    go_wp2_with fail
    go_ret2
    exact ⟨_, _, _, rfl, F.out, World.ownsRow_nil _ _ _ _, B2.out⟩
  | true =>
  obtain ⟨u1, l1, _⟩ := okP_up KP.out.1
  obtain ⟨u2, l2, _⟩ := okP_up KP.out.2.1
  rw [HL.out.1] at l1
  rw [HL.out.2] at l2
  have UP : Hid (UpL L1 ∧ UpL L2) := ⟨u1, u2⟩
  have F : Hid (diffA L1 L2 = (diffM L1 L2, 0)) := by
    show _ = _
    unfold diffA
    rw [if_neg N2.out, if_neg]
    rintro (h | h)
    · rw [KP.out.1] at h; cases h
    · rw [KP.out.2.1] at h; cases h
  clear u1 u2
  go_enter Tryz.func58, Tryz.ntmps58
  go_wp2_with fail
  refine (implPairsOK a1 n1 c1 _ _ _ hn1 Q1.out P1.out).mono ?_
  rw [KP.out.2.2.1]
  rintro e w1 ⟨rfl, hb1⟩
  have B1 : Hid (Below w.heap.size w w1) := hb1
  clear hb1
  go_wp2_with fail
  refine (implPairsOK a2 n2 c2 _ _ _ hn2 Q2.out (P2.out.below B1.out)).mono ?_
  rw [KP.out.2.2.2]
  rintro e w2 ⟨rfl, hb2⟩
  have B2 : Hid (Below w.heap.size w w2) := B1.out.trans (hb2.mono B1.out.size)
  clear hb2
  go_wp2_with fail
  refine (keysOf a1 a2 n1 n2 c1 c2 L1 L2 _ HL.out.1 HL.out.2 l1 l2 (S1.out.below B2.out) (S2.out.below B2.out)).mono ?_
  rintro e w3 ⟨ka, m, kc, rfl, hkm, hks, hb3⟩
  obtain ⟨K, hK⟩ : ∃ K, keysM L1 L2 = K := ⟨_, rfl⟩
  rw [hK] at hkm hks
  have KM : Hid (keysM L1 L2 = K ∧ K.length = m) := ⟨hK, hkm⟩
  have hm9 : m ≤ 120 := by rw [← hkm, ← hK]; have := keysM_len L1 L2; rw [HL.out.1, HL.out.2] at this; omega
  have B3 : Hid (Below w.heap.size w w3) := B2.out.trans (hb3.mono B2.out.size)
  have KS : Hid (Src w3 ka (cellsS K)) := hks
  clear hkm hks hb3 hK
  go_wp2_with fail
  go_loopw [6, 31] (fun lv iv wr => ∃ (k : Nat) (u : Value) (D : List DF), k ≤ m ∧ iv = .int .i64 (k : Int) ∧ u = lv ∧ Hid (D = (K.take k).filterMap (diffAt L1 L2)) ∧ Hid (Below w3.heap.size w3 wr) ∧ Hid (wr.ownsRow w3.heap.size 108 5 u D.length (cellsDf D))) (fun _ i _ => m - (intOf i).toNat)
  case atStart => exact ⟨0, _, [], by omega, rfl, rfl, by show [] = _; simp, Below.refl _ _, World.ownsRow_nil _ _ _ _⟩
  case round =>
    obtain ⟨k, u, D, hk, rfl, hu, hD, hb, ho⟩ := hrel
    subst hu
    have BT : Hid (Below w.heap.size w wr) := B3.out.trans (hb.out.mono B3.out.size)
    by_cases hlt : k < m
    · have hki : (k : Int) < (m : Int) := by omega
      obtain ⟨kb, ko, x, rfl, xc, hx⟩ := srcS (KS.out.below hb.out) (i := k) (by rw [KM.out.2]; exact hlt)
      have HX : Hid (K[k]? = some x) := by
        show _ = _
        have h9 := hx.out
        rw [List.getD_eq_getElem?_getD, List.getElem?_eq_getElem (by rw [KM.out.2]; exact hlt)] at h9
        rw [List.getElem?_eq_getElem (by rw [KM.out.2]; exact hlt)]
        exact congrArg some h9
      have NX : Hid ((K.take (k + 1)).filterMap (diffAt L1 L2) = D ++ (diffAt L1 L2 x).toList) := by show _ = _; rw [keys_take_in HX.out, hD.out]
      obtain ⟨v1, t1', hh1⟩ : ∃ v t, heldM L1 x = (v, t) := ⟨_, _, rfl⟩
      obtain ⟨v2, t2', hh2⟩ : ∃ v t, heldM L2 x = (v, t) := ⟨_, _, rfl⟩
      have HH : Hid (heldM L1 x = (v1, t1') ∧ heldM L2 x = (v2, t2')) := ⟨hh1, hh2⟩
      clear hh1 hh2
      go_wp2_with fail
      refine (heldAt a1 n1 c1 L1 x _ HL.out.1 (by omega) UP.out.1 (S1.out.below BT.out)).mono ?_
      rw [HH.out.1]
      rintro e w4 ⟨rfl, hb4⟩
      have B4 : Hid (Below w.heap.size w w4) := BT.out.trans (hb4.mono BT.out.size)
      have C4 : Hid (Below w3.heap.size w3 w4) := hb.out.trans (hb4.mono hb.out.size)
      have O4 : Hid (w4.ownsRow w3.heap.size 108 5 u D.length (cellsDf D)) := own_below ho.out hb4
      clear hb4
      go_wp2_with fail
      refine (heldAt a2 n2 c2 L2 x _ HL.out.2 (by omega) UP.out.2 (S2.out.below B4.out)).mono ?_
      rw [HH.out.2]
      rintro e w5 ⟨rfl, hb5⟩
      have C5 : Hid (Below w3.heap.size w3 w5) := C4.out.trans (hb5.mono C4.out.size)
      have O5 : Hid (w5.ownsRow w3.heap.size 108 5 u D.length (cellsDf D)) := own_below O4.out hb5
      clear hb5 xc
      by_cases heq : v1 = v2 ∧ t1' = t2'
      · obtain ⟨rfl, rfl⟩ := heq
        have NE : Hid (D = (K.take (k + 1)).filterMap (diffAt L1 L2)) := by
          show _ = _
          rw [NX.out]
          unfold diffAt
          rw [HH.out.1, HH.out.2, if_pos rfl]
          simp
        have B6 : Hid (Below w3.heap.size w3 ((w5.alloc (.cells #[.string v1, .bool t1'] 139)).alloc (.cells #[.string v1, .bool t1'] 139))) := (C5.out.alloc C5.out.size _).alloc (le_alloc C5.out.size _) _
        have O6 : Hid (((w5.alloc (.cells #[.string v1, .bool t1'] 139)).alloc (.cells #[.string v1, .bool t1'] 139)).ownsRow w3.heap.size 108 5 u D.length (cellsDf D)) := (O5.out.alloc _).alloc _
        go_wp2_with fail
        exact ⟨⟨k + 1, _, D, by omega, by go_num, rfl, NE.out, B6.out, O6.out⟩, by simp [intOf]; omega⟩
      · have NE : Hid (D ++ [(x, v1, v2, t1', t2')] = (K.take (k + 1)).filterMap (diffAt L1 L2)) := by
          show _ = _
          rw [NX.out]
          unfold diffAt
          rw [HH.out.1, HH.out.2, if_neg (fun e => heq (by simpa using e))]
          rfl
        obtain ⟨d, hd⟩ : ∃ d, D.length = d := ⟨_, rfl⟩
        have HD9 : Hid (D.length = d) := hd
        have hd9 : d ≤ 120 := by
          rw [← hd, hD.out]
          refine Nat.le_trans (List.length_filterMap_le _ _) ?_
          rw [List.length_take]
          omega
        have RA : Hid ((((w5.alloc (.cells #[.string v1, .bool t1'] 139)).alloc (.cells #[.string v2, .bool t2'] 139)).alloc (.cells #[.string x, .string v1, .string v2, .bool t1', .bool t2'] 108)).ownsRow w3.heap.size 108 5 u d (cellsDf D)) := by rw [← hd]; exact ((O5.out.alloc _).alloc _).alloc _
        have BA : Hid (Below w3.heap.size w3 (((w5.alloc (.cells #[.string v1, .bool t1'] 139)).alloc (.cells #[.string v2, .bool t2'] 139)).alloc (.cells #[.string x, .string v1, .string v2, .bool t1', .bool t2'] 108))) := ((C5.out.alloc C5.out.size _).alloc (le_alloc C5.out.size _) _).alloc (le_alloc (le_alloc C5.out.size _) _) _
        have hlt3 : Hid (∀ g, Value.ownBlock u = some g → w3.heap.size ≤ g) := fun g e => (O5.out.lt g e).1
        clear hd ho O4 O5
        by_cases hv : v1 = v2
        · have ht : t1' ≠ t2' := fun e => heq ⟨hv, e⟩
          have ht2 : (t1' == t2') = false := by simpa using ht
          have hv1 : (v1.toList == v2.toList) = true := by rw [hv]; simp
          clear heq hv ht
          go_wp2_with (at_builtin; refine wpList_append_src _ rfl _ _ 32 rfl w3.heap.size 108 (.agg #[.string ⟨#[]⟩, .string ⟨#[]⟩, .string ⟨#[]⟩, .bool false, .bool false]) 5 56 Tryz.underlying32 infoDf rfl (by decide) (by decide) _ d (cellsDf D) rfl RA.out (some ⟨w5.heap.size + 1 + 1, 0, none⟩) 1 1 (cellsDf [(x, v1, v2, t1', t2')]) rfl rfl (src_oneDf (by simp)) (cellsDf_one _) (by omega) BA.out.size ?_)
          intro v6 w6 hown6 hgrow6
          have O6 : Hid (w6.ownsRow w3.heap.size 108 5 v6 (D ++ [(x, v1, v2, t1', t2')]).length (cellsDf (D ++ [(x, v1, v2, t1', t2')]))) := by rw [cellsDf_append, List.length_append, HD9.out]; exact hown6
          have B6 : Hid (Below w3.heap.size w3 w6) := BA.out.grown hgrow6 BA.out.size (fun g e => (hlt3.out g e))
          clear hown6 hgrow6
          go_wp2_with fail
          exact ⟨⟨k + 1, _, D ++ [(x, v1, v2, t1', t2')], by omega, by go_num, rfl, NE.out, B6.out, O6.out⟩, by simp [intOf]; omega⟩
        · have hv2 : (v1.toList == v2.toList) = false := by
            cases e : (v1.toList == v2.toList) with
            | false => rfl
            | true => exact absurd (toList_inj (by simpa using e)) hv
          clear heq hv
          go_wp2_with (at_builtin; refine wpList_append_src _ rfl _ _ 32 rfl w3.heap.size 108 (.agg #[.string ⟨#[]⟩, .string ⟨#[]⟩, .string ⟨#[]⟩, .bool false, .bool false]) 5 56 Tryz.underlying32 infoDf rfl (by decide) (by decide) _ d (cellsDf D) rfl RA.out (some ⟨w5.heap.size + 1 + 1, 0, none⟩) 1 1 (cellsDf [(x, v1, v2, t1', t2')]) rfl rfl (src_oneDf (by simp)) (cellsDf_one _) (by omega) BA.out.size ?_)
          intro v6 w6 hown6 hgrow6
          have O6 : Hid (w6.ownsRow w3.heap.size 108 5 v6 (D ++ [(x, v1, v2, t1', t2')]).length (cellsDf (D ++ [(x, v1, v2, t1', t2')]))) := by rw [cellsDf_append, List.length_append, HD9.out]; exact hown6
          have B6 : Hid (Below w3.heap.size w3 w6) := BA.out.grown hgrow6 BA.out.size (fun g e => (hlt3.out g e))
          clear hown6 hgrow6
          go_wp2_with fail
          exact ⟨⟨k + 1, _, D ++ [(x, v1, v2, t1', t2')], by omega, by go_num, rfl, NE.out, B6.out, O6.out⟩, by simp [intOf]; omega⟩
    · have hkm : k = m := by omega
      have FD : Hid (D = diffM L1 L2) := by
        show _ = _
        rw [hD.out, List.take_of_length_le (by rw [KM.out.2]; omega), ← KM.out.1]
        exact keysM_diff L1 L2 UP.out.1 UP.out.2
      have FO : Hid (wr.ownsRow w.heap.size 108 5 u (diffM L1 L2).length (cellsDf (diffM L1 L2))) := by rw [← FD.out]; exact own_mono ho.out B3.out.size
      clear hkm
      go_wp2_with fail
      go_ret2
      exact ⟨_, _, _, rfl, F.out, FO.out, BT.out⟩
end Go.Proofs.YtmbndpgoihdpnaaGreatDoor
