
/-
  The difference of two lists of pairs: the specification's. By an AI agent.
-/
import Derived.Test.YtkimjnjpfjeldaaDoorDif
import Derived.Deep.RegionHeld3
namespace Go.Proofs.YtkimjnjpfjeldaaDoor
open Go.ChangeShapes Go.WideShapes Go.ChangeAt Go.RowKit Go.Deep
set_option linter.unusedVariables false
set_option linter.unusedSimpArgs false
set_option maxRecDepth 100000

theorem drop_at {L : List PM} {i : Nat} {x : PM} (h : L[i]? = some x) : L.drop i = x :: L.drop (i + 1) := by
  obtain ⟨hi, rfl⟩ := List.getElem?_eq_some_iff.1 h
  exact List.drop_eq_getElem_cons hi
theorem at_some {L : List PM} {i : Nat} {x y : ByteArray} (hi : i < L.length) (h : L.getD i p0 = (x, y)) : L[i]? = some (x, y) := by
  rw [List.getD_eq_getElem?_getD, List.getElem?_eq_getElem hi] at h
  rw [List.getElem?_eq_getElem hi]
  exact congrArg some h

set_option maxHeartbeats 4000000 in
theorem l05Diff (a1 a2 : Option Addr) (n1 n2 c1 c2 : Nat) (L1 L2 : List PM) (w : World) (hL1 : L1.length = n1) (hL2 : L2.length = n2) (hn1 : n1 ≤ 60) (hn2 : n2 ≤ 60) (h1 : Src w a1 (cellsP L1)) (h2 : Src w a2 (cellsP L2)) :
    Calls Tryd.prog 29 #[.slice a1 n1 c1, .slice a2 n2 c2] w fun e w' => ∃ v, e = .returned v ∧ w'.ownsRow w.heap.size 61 5 v (diffM L1 L2).length (cellsDf (diffM L1 L2)) ∧ Below w.heap.size w w' := by
  have HL : Hid (L1.length = n1 ∧ L2.length = n2) := ⟨hL1, hL2⟩
  have S1 : Hid (Src w a1 (cellsP L1)) := h1
  have S2 : Hid (Src w a2 (cellsP L2)) := h2
  have MX : Hid ((diffM L1 L2).length ≤ 120) := by show _ ≤ _; have := diffM_len L1 L2; rw [hL1, hL2] at this; omega
  clear hL1 hL2 h1 h2
  go_enter Tryd.func29, Tryd.ntmps29
  go_wp2_with fail
  go_loopw [5, 6, 7] (fun lv iv kv wr => ∃ (i k : Nat) (u : Value) (D : List DF), i ≤ n1 ∧ k ≤ n2 ∧ iv = .int .i64 (i : Int) ∧ kv = .int .i64 (k : Int) ∧ u = lv ∧ Hid (D ++ diffM (L1.drop i) (L2.drop k) = diffM L1 L2) ∧ Hid (Below w.heap.size w wr) ∧ Hid (wr.ownsRow w.heap.size 61 5 u D.length (cellsDf D))) (fun _ i k _ => n1 + n2 - (intOf i).toNat - (intOf k).toNat)
  case atStart => exact ⟨0, 0, _, [], by omega, by omega, rfl, rfl, rfl, by simp [Hid], (Below.refl _ _).alloc (Nat.le_refl _) _, own_empty rfl (Nat.le_refl _)⟩
  case round =>
    obtain ⟨i, k, u, D, hi, hk, rfl, rfl, hu, hD, hb, ho⟩ := hrel
    subst hu
    have hil : (i : Int) ≤ (n1 : Int) := by omega
    have hkl : (k : Int) ≤ (n2 : Int) := by omega
    have HD9 : Hid (D.length ≤ 120) := by
      show _ ≤ _
      have h9 := congrArg List.length hD.out
      rw [List.length_append] at h9
      have := MX.out
      omega
    obtain ⟨d, hd⟩ : ∃ d, D.length = d := ⟨_, rfl⟩
    have HD : Hid (D.length = d) := hd
    have hd9 : d ≤ 120 := by rw [← hd]; exact HD9.out
    have RLT : Hid (∀ g, Value.ownBlock u = some g → w.heap.size ≤ g) := fun g e => (ho.out.lt g e).1
    rw [hd] at ho
    clear hd HD9
    by_cases hlt1 : i < n1
    · skip
      obtain ⟨b1, o1, x1, y1, rfl, pc1, pc2, hp1⟩ := srcP (S1.out.below hb.out) (i := i) (by rw [HL.out.1]; exact hlt1)
      have A1 : Hid (L1[i]? = some (x1, y1)) := at_some (by rw [HL.out.1]; exact hlt1) hp1.out
      have E1 : Hid (∀ w9, Below w.heap.size w w9 → w9.cell? ⟨b1, o1 + i * 2, none⟩ = some (.string x1) ∧ w9.cell? ⟨b1, o1 + i * 2 + 1, none⟩ = some (.string y1)) := fun w9 hb9 => by
        obtain ⟨b', o', x', y', e', c1', c2', h'⟩ := srcP (S1.out.below hb9) (i := i) (by rw [HL.out.1]; exact hlt1)
        cases e'
        have h9 := hp1.out.symm.trans h'.out
        simp only [Prod.mk.injEq] at h9
        rw [h9.1, h9.2]
        exact ⟨c1', c2'⟩
      have hi0 : (0 : Int) ≤ (i : Int) := by omega
      have hii : (i : Int) < (n1 : Int) := by omega
      by_cases hlt2 : k < n2
      · skip
        obtain ⟨b2, o2, x2, y2, rfl, qc1, qc2, hp2⟩ := srcP (S2.out.below hb.out) (i := k) (by rw [HL.out.2]; exact hlt2)
        have A2 : Hid (L2[k]? = some (x2, y2)) := at_some (by rw [HL.out.2]; exact hlt2) hp2.out
        have E2 : Hid (∀ w9, Below w.heap.size w w9 → w9.cell? ⟨b2, o2 + k * 2, none⟩ = some (.string x2) ∧ w9.cell? ⟨b2, o2 + k * 2 + 1, none⟩ = some (.string y2)) := fun w9 hb9 => by
          obtain ⟨b', o', x', y', e', c1', c2', h'⟩ := srcP (S2.out.below hb9) (i := k) (by rw [HL.out.2]; exact hlt2)
          cases e'
          have h9 := hp2.out.symm.trans h'.out
          simp only [Prod.mk.injEq] at h9
          rw [h9.1, h9.2]
          exact ⟨c1', c2'⟩
        have hk0 : (0 : Int) ≤ (k : Int) := by omega
        have hkk : (k : Int) < (n2 : Int) := by omega
        have hkne : ((k : Int) == (n2 : Int)) = false := by simp; omega
        have hine : ((i : Int) == (n1 : Int)) = false := by simp; omega
        have FW : Hid (∀ N W2, wr.drewN N = W2 → Below w.heap.size w W2 ∧ W2.ownsRow w.heap.size 61 5 u d (cellsDf D)) := fun N W2 e => by subst e; exact ⟨Below.drewN' hb.out _, ho.out⟩
        have F7 : Hid (∀ N W2, wr.drewN N = W2 → W2.cell? ⟨b1, o1 + i * 2, none⟩ = some (.string x1) ∧ W2.cell? ⟨b2, o2 + k * 2, none⟩ = some (.string x2) ∧ W2.cell? ⟨b1, o1 + i * 2 + 1, none⟩ = some (.string y1) ∧ W2.cell? ⟨b2, o2 + k * 2 + 1, none⟩ = some (.string y2)) := fun N W2 e => by subst e; exact ⟨pc1, qc1, pc2, qc2⟩
        cases hl : Op.bytesLess x1.toList x2.toList with
        | true =>
          have NE : Hid (D ++ [(x1, y1, (⟨#[]⟩ : ByteArray), true, false)] ++ diffM (L1.drop (i + 1)) (L2.drop k) = diffM L1 L2) := by
            show _ = _
            rw [← hD.out, drop_at A1.out, drop_at A2.out, diffM, if_pos hl, ← drop_at A2.out, List.append_assoc]
            rfl
          clear F7
          go_wp2_with fail
          go_quiet (fail)
          go_wp2_with fail
          clear pc1 pc2 qc1 qc2
          generalize hW : World.drewN wr _ = W2
          obtain ⟨g1, g2⟩ := FW.out _ _ hW
          have BB : Hid (Below w.heap.size w W2) := g1
          have OB : Hid (W2.ownsRow w.heap.size 61 5 u d (cellsDf D)) := g2
          clear hW g1 g2
          have BA : Hid (Below w.heap.size w (W2.alloc (.cells #[.string x1, .string y1, .string ⟨#[]⟩, .bool true, .bool false] 61)).drew) := (BB.out.alloc BB.out.size _).drew
          obtain ⟨e0, e1⟩ := E1.out _ BB.out
          refine wp_region_noPanic ?_
          refine wp_region_held_drew (S := (fun w' => w'.cell? ⟨b1, o1 + i * 2, none⟩ = some (.string x1) ∧ w'.cell? ⟨b1, o1 + i * 2 + 1, none⟩ = some (.string y1))) (by kernel_rfl) ⟨e0, e1⟩ (fun hHeld => ?_)
          refine wpAnyH_take (i := 0) (v := u) rfl (by kernel_rfl) (by kernel_rfl) (by kernel_rfl) (fun _ _ _ h => h) (Or.inl ⟨by rfl, ?_⟩) hHeld ?_
          · intro w9 hSw
            obtain ⟨s0, s1⟩ := hSw
            go_simp
          refine wpAnyH_take (i := 1) (v := .slice (some ⟨b1, o1, none⟩) n1 c1) rfl (by kernel_rfl) (by kernel_rfl) (by kernel_rfl) (fun _ _ _ h => h) (Or.inl ⟨by rfl, ?_⟩) hHeld ?_
          · intro w9 hSw
            obtain ⟨s0, s1⟩ := hSw
            go_simp
          refine wpAnyH_take (i := 2) (v := .int .i64 (i : Int)) rfl (by kernel_rfl) (by kernel_rfl) (by kernel_rfl) (fun _ _ _ h => h) (Or.inl ⟨by rfl, ?_⟩) hHeld ?_
          · intro w9 hSw
            obtain ⟨s0, s1⟩ := hSw
            go_simp
          refine wpAnyH_take (i := 3) (v := .pointer (some ⟨b1, o1 + i * 2, none⟩)) rfl (by kernel_rfl) (by kernel_rfl) (by kernel_rfl) (fun _ _ _ h => h) (Or.inl ⟨by rfl, ?_⟩) hHeld ?_
          · intro w9 hSw
            obtain ⟨s0, s1⟩ := hSw
            go_simp
          refine wpAnyH_take (i := 4) (v := .pointer (some ⟨b1, o1 + i * 2, none⟩)) rfl (by kernel_rfl) (by kernel_rfl) (by kernel_rfl) (fun _ _ _ h => h) (Or.inl ⟨by rfl, ?_⟩) hHeld ?_
          · intro w9 hSw
            obtain ⟨s0, s1⟩ := hSw
            go_simp
          simp only [Act.put, List.setIfInBounds_toArray, List.set_cons_zero, List.set_cons_succ]
          refine wpAnyH_take (i := 5) (v := .string x1) rfl (by kernel_rfl) (by kernel_rfl) (by kernel_rfl) (fun _ _ _ h => h) (Or.inl ⟨by rfl, ?_⟩) hHeld ?_
          · intro w9 hSw
            obtain ⟨s0, s1⟩ := hSw
            go_simp
          refine wpAnyH_take (i := 6) (v := .slice (some ⟨b1, o1, none⟩) n1 c1) rfl (by kernel_rfl) (by kernel_rfl) (by kernel_rfl) (fun _ _ _ h => h) (Or.inl ⟨by rfl, ?_⟩) hHeld ?_
          · intro w9 hSw
            obtain ⟨s0, s1⟩ := hSw
            go_simp
          refine wpAnyH_take (i := 7) (v := .int .i64 (i : Int)) rfl (by kernel_rfl) (by kernel_rfl) (by kernel_rfl) (fun _ _ _ h => h) (Or.inl ⟨by rfl, ?_⟩) hHeld ?_
          · intro w9 hSw
            obtain ⟨s0, s1⟩ := hSw
            go_simp
          refine wpAnyH_take (i := 8) (v := .pointer (some ⟨b1, o1 + i * 2, none⟩)) rfl (by kernel_rfl) (by kernel_rfl) (by kernel_rfl) (fun _ _ _ h => h) (Or.inl ⟨by rfl, ?_⟩) hHeld ?_
          · intro w9 hSw
            obtain ⟨s0, s1⟩ := hSw
            go_simp
          refine wpAnyH_take (i := 9) (v := .pointer (some ⟨b1, o1 + i * 2 + 1, none⟩)) rfl (by kernel_rfl) (by kernel_rfl) (by kernel_rfl) (fun _ _ _ h => h) (Or.inl ⟨by rfl, ?_⟩) hHeld ?_
          · intro w9 hSw
            obtain ⟨s0, s1⟩ := hSw
            go_simp
          simp only [Act.put, List.setIfInBounds_toArray, List.set_cons_zero, List.set_cons_succ]
          refine wpAnyH_take (i := 10) (v := .string y1) rfl (by kernel_rfl) (by kernel_rfl) (by kernel_rfl) (fun _ _ _ h => h) (Or.inl ⟨by rfl, ?_⟩) hHeld ?_
          · intro w9 hSw
            obtain ⟨s0, s1⟩ := hSw
            go_simp
          refine wpAnyH_take (i := 11) (v := .agg #[.string x1, .string y1, .string ⟨#[]⟩, .bool true, .bool false]) rfl (by kernel_rfl) (by kernel_rfl) (by kernel_rfl) (fun _ _ _ h => h) (Or.inl ⟨by rfl, ?_⟩) hHeld ?_
          · intro w9 hSw
            obtain ⟨s0, s1⟩ := hSw
            go_simp
          simp only [Act.put, List.setIfInBounds_toArray, List.set_cons_zero, List.set_cons_succ]
          refine wpAnyH_ready (rs := [12]) (by kernel_rfl) (by simp) ?_
          refine AllReadyH.cons rfl (fun K hK => ?_) AllReadyH.nil
          go_simp
          clear e0 e1
          obtain ⟨e0, e1⟩ := E1.out _ BA.out
          refine hK.out _ _ ⟨e0, e1⟩ (fun hHeld => ?_)
          clear hK K
          refine wpAnyH_ready (rs := [13]) (by kernel_rfl) (by simp) ?_
          refine AllReadyH.cons rfl (fun K hK => ?_) AllReadyH.nil
          refine step_append_src rfl (.tmp 77) (.tmp 89) 24 rfl w.heap.size 61 (.agg #[.string ⟨#[]⟩, .string ⟨#[]⟩, .string ⟨#[]⟩, .bool false, .bool false]) 5 56 Tryd.underlying24 infoDf rfl (by decide) (by decide) u d (cellsDf D) (by simp [Act.eval]) (show World.ownsRow (W2.alloc (.cells #[.string x1, .string y1, .string ⟨#[]⟩, .bool true, .bool false] 61)).drew _ _ _ _ _ _ from OB.out.alloc _) ⟨W2.heap.size, 0, none⟩ 1 1 (cellsDf [(x1, y1, (⟨#[]⟩ : ByteArray), true, false)]) (by simp [Act.eval]) rfl (show Src (W2.alloc (.cells #[.string x1, .string y1, .string ⟨#[]⟩, .bool true, .bool false] 61)) _ _ from src_oneDf rfl) (cellsDf_one _) (by omega) (by decide) BA.out.size ?_
          intro v6 w6 hown6 hgrow6 _
          have O6 : Hid (w6.ownsRow w.heap.size 61 5 v6 (D ++ [(x1, y1, (⟨#[]⟩ : ByteArray), true, false)]).length (cellsDf (D ++ [(x1, y1, (⟨#[]⟩ : ByteArray), true, false)]))) := by rw [cellsDf_append, List.length_append, HD.out]; exact hown6
          have B6 : Hid (Below w.heap.size w w6) := BA.out.grown hgrow6 BA.out.size (fun g e => RLT.out g e)
          clear hown6 hgrow6
          clear e0 e1
          obtain ⟨e0, e1⟩ := E1.out _ B6.out
          refine hK.out _ _ ⟨e0, e1⟩ (fun hHeld => ?_)
          clear hK K
          refine wpAnyH_ready (rs := [14]) (by kernel_rfl) (by simp) ?_
          refine AllReadyH.cons rfl (fun K hK => ?_) AllReadyH.nil
          go_simp
          refine hK.out _ _ ⟨e0, e1⟩ (fun hHeld => ?_)
          clear hK K
          refine wpAnyH_done (by kernel_rfl) ?_ _
          refine NoPanic.normal ?_
          clear e0 e1
          go_wp2_with fail
          exact ⟨⟨i + 1, k, _, D ++ [(x1, y1, (⟨#[]⟩ : ByteArray), true, false)], by omega, by omega, by go_num, rfl, rfl, NE.out, B6.out, O6.out⟩, by simp [intOf]; omega⟩
        | false =>
          cases hl2 : Op.bytesLess x2.toList x1.toList with
          | true =>
            have NE : Hid (D ++ [(x2, (⟨#[]⟩ : ByteArray), y2, false, true)] ++ diffM (L1.drop i) (L2.drop (k + 1)) = diffM L1 L2) := by
              show _ = _
              rw [← hD.out, drop_at A1.out, drop_at A2.out, diffM, if_neg (by rw [hl]; decide), if_pos hl2, ← drop_at A1.out, List.append_assoc]
              rfl
            go_wp2_with fail
            go_quiet (fail)
            go_wp2_with fail
            generalize hW : World.drewN wr _ = W1
            obtain ⟨g1, g2⟩ := FW.out _ _ hW
            obtain ⟨g3, g4, _, _⟩ := F7.out _ _ hW
            have FW' : Hid (∀ N W2, W1.drewN N = W2 → Below w.heap.size w W2 ∧ W2.ownsRow w.heap.size 61 5 u d (cellsDf D)) := fun N W2 e => by subst e; exact ⟨Below.drewN' g1 _, g2⟩
            clear hW g1 g2 pc1 pc2 qc1 qc2 F7 FW
            go_quiet (fail)
            go_wp2_with fail
            clear g3 g4
            generalize hW : World.drewN W1 _ = W2
            obtain ⟨g1, g2⟩ := FW'.out _ _ hW
            have BB : Hid (Below w.heap.size w W2) := g1
            have OB : Hid (W2.ownsRow w.heap.size 61 5 u d (cellsDf D)) := g2
            clear hW g1 g2
            have BA : Hid (Below w.heap.size w (W2.alloc (.cells #[.string x2, .string ⟨#[]⟩, .string y2, .bool false, .bool true] 61)).drew) := (BB.out.alloc BB.out.size _).drew
            obtain ⟨e2, e3⟩ := E2.out _ BB.out
            refine wp_region_noPanic ?_
            refine wp_region_held_drew (S := (fun w' => w'.cell? ⟨b2, o2 + k * 2, none⟩ = some (.string x2) ∧ w'.cell? ⟨b2, o2 + k * 2 + 1, none⟩ = some (.string y2))) (by kernel_rfl) ⟨e2, e3⟩ (fun hHeld => ?_)
            refine wpAnyH_take (i := 0) (v := u) rfl (by kernel_rfl) (by kernel_rfl) (by kernel_rfl) (fun _ _ _ h => h) (Or.inl ⟨by rfl, ?_⟩) hHeld ?_
            · intro w9 hSw
              obtain ⟨s0, s1⟩ := hSw
              go_simp
            refine wpAnyH_take (i := 1) (v := .slice (some ⟨b2, o2, none⟩) n2 c2) rfl (by kernel_rfl) (by kernel_rfl) (by kernel_rfl) (fun _ _ _ h => h) (Or.inl ⟨by rfl, ?_⟩) hHeld ?_
            · intro w9 hSw
              obtain ⟨s0, s1⟩ := hSw
              go_simp
            refine wpAnyH_take (i := 2) (v := .int .i64 (k : Int)) rfl (by kernel_rfl) (by kernel_rfl) (by kernel_rfl) (fun _ _ _ h => h) (Or.inl ⟨by rfl, ?_⟩) hHeld ?_
            · intro w9 hSw
              obtain ⟨s0, s1⟩ := hSw
              go_simp
            refine wpAnyH_take (i := 3) (v := .pointer (some ⟨b2, o2 + k * 2, none⟩)) rfl (by kernel_rfl) (by kernel_rfl) (by kernel_rfl) (fun _ _ _ h => h) (Or.inl ⟨by rfl, ?_⟩) hHeld ?_
            · intro w9 hSw
              obtain ⟨s0, s1⟩ := hSw
              go_simp
            refine wpAnyH_take (i := 4) (v := .pointer (some ⟨b2, o2 + k * 2, none⟩)) rfl (by kernel_rfl) (by kernel_rfl) (by kernel_rfl) (fun _ _ _ h => h) (Or.inl ⟨by rfl, ?_⟩) hHeld ?_
            · intro w9 hSw
              obtain ⟨s0, s1⟩ := hSw
              go_simp
            simp only [Act.put, List.setIfInBounds_toArray, List.set_cons_zero, List.set_cons_succ]
            refine wpAnyH_take (i := 5) (v := .string x2) rfl (by kernel_rfl) (by kernel_rfl) (by kernel_rfl) (fun _ _ _ h => h) (Or.inl ⟨by rfl, ?_⟩) hHeld ?_
            · intro w9 hSw
              obtain ⟨s0, s1⟩ := hSw
              go_simp
            refine wpAnyH_take (i := 6) (v := .slice (some ⟨b2, o2, none⟩) n2 c2) rfl (by kernel_rfl) (by kernel_rfl) (by kernel_rfl) (fun _ _ _ h => h) (Or.inl ⟨by rfl, ?_⟩) hHeld ?_
            · intro w9 hSw
              obtain ⟨s0, s1⟩ := hSw
              go_simp
            refine wpAnyH_take (i := 7) (v := .int .i64 (k : Int)) rfl (by kernel_rfl) (by kernel_rfl) (by kernel_rfl) (fun _ _ _ h => h) (Or.inl ⟨by rfl, ?_⟩) hHeld ?_
            · intro w9 hSw
              obtain ⟨s0, s1⟩ := hSw
              go_simp
            refine wpAnyH_take (i := 8) (v := .pointer (some ⟨b2, o2 + k * 2, none⟩)) rfl (by kernel_rfl) (by kernel_rfl) (by kernel_rfl) (fun _ _ _ h => h) (Or.inl ⟨by rfl, ?_⟩) hHeld ?_
            · intro w9 hSw
              obtain ⟨s0, s1⟩ := hSw
              go_simp
            refine wpAnyH_take (i := 9) (v := .pointer (some ⟨b2, o2 + k * 2 + 1, none⟩)) rfl (by kernel_rfl) (by kernel_rfl) (by kernel_rfl) (fun _ _ _ h => h) (Or.inl ⟨by rfl, ?_⟩) hHeld ?_
            · intro w9 hSw
              obtain ⟨s0, s1⟩ := hSw
              go_simp
            simp only [Act.put, List.setIfInBounds_toArray, List.set_cons_zero, List.set_cons_succ]
            refine wpAnyH_take (i := 10) (v := .string y2) rfl (by kernel_rfl) (by kernel_rfl) (by kernel_rfl) (fun _ _ _ h => h) (Or.inl ⟨by rfl, ?_⟩) hHeld ?_
            · intro w9 hSw
              obtain ⟨s0, s1⟩ := hSw
              go_simp
            refine wpAnyH_take (i := 11) (v := .agg #[.string x2, .string ⟨#[]⟩, .string y2, .bool false, .bool true]) rfl (by kernel_rfl) (by kernel_rfl) (by kernel_rfl) (fun _ _ _ h => h) (Or.inl ⟨by rfl, ?_⟩) hHeld ?_
            · intro w9 hSw
              obtain ⟨s0, s1⟩ := hSw
              go_simp
            simp only [Act.put, List.setIfInBounds_toArray, List.set_cons_zero, List.set_cons_succ]
            refine wpAnyH_ready (rs := [12]) (by kernel_rfl) (by simp) ?_
            refine AllReadyH.cons rfl (fun K hK => ?_) AllReadyH.nil
            go_simp
            clear e2 e3
            obtain ⟨e2, e3⟩ := E2.out _ BA.out
            refine hK.out _ _ ⟨e2, e3⟩ (fun hHeld => ?_)
            clear hK K
            refine wpAnyH_ready (rs := [13]) (by kernel_rfl) (by simp) ?_
            refine AllReadyH.cons rfl (fun K hK => ?_) AllReadyH.nil
            refine step_append_src rfl (.tmp 111) (.tmp 123) 24 rfl w.heap.size 61 (.agg #[.string ⟨#[]⟩, .string ⟨#[]⟩, .string ⟨#[]⟩, .bool false, .bool false]) 5 56 Tryd.underlying24 infoDf rfl (by decide) (by decide) u d (cellsDf D) (by simp [Act.eval]) (show World.ownsRow (W2.alloc (.cells #[.string x2, .string ⟨#[]⟩, .string y2, .bool false, .bool true] 61)).drew _ _ _ _ _ _ from OB.out.alloc _) ⟨W2.heap.size, 0, none⟩ 1 1 (cellsDf [(x2, (⟨#[]⟩ : ByteArray), y2, false, true)]) (by simp [Act.eval]) rfl (show Src (W2.alloc (.cells #[.string x2, .string ⟨#[]⟩, .string y2, .bool false, .bool true] 61)) _ _ from src_oneDf rfl) (cellsDf_one _) (by omega) (by decide) BA.out.size ?_
            intro v6 w6 hown6 hgrow6 _
            have O6 : Hid (w6.ownsRow w.heap.size 61 5 v6 (D ++ [(x2, (⟨#[]⟩ : ByteArray), y2, false, true)]).length (cellsDf (D ++ [(x2, (⟨#[]⟩ : ByteArray), y2, false, true)]))) := by rw [cellsDf_append, List.length_append, HD.out]; exact hown6
            have B6 : Hid (Below w.heap.size w w6) := BA.out.grown hgrow6 BA.out.size (fun g e => RLT.out g e)
            clear hown6 hgrow6
            clear e2 e3
            obtain ⟨e2, e3⟩ := E2.out _ B6.out
            refine hK.out _ _ ⟨e2, e3⟩ (fun hHeld => ?_)
            clear hK K
            refine wpAnyH_ready (rs := [14]) (by kernel_rfl) (by simp) ?_
            refine AllReadyH.cons rfl (fun K hK => ?_) AllReadyH.nil
            go_simp
            refine hK.out _ _ ⟨e2, e3⟩ (fun hHeld => ?_)
            clear hK K
            refine wpAnyH_done (by kernel_rfl) ?_ _
            refine NoPanic.normal ?_
            clear e2 e3
            go_wp2_with fail
            exact ⟨⟨i, k + 1, _, D ++ [(x2, (⟨#[]⟩ : ByteArray), y2, false, true)], by omega, by omega, rfl, by go_num, rfl, NE.out, B6.out, O6.out⟩, by simp [intOf]; omega⟩
          | false =>
            have hxy : x1 = x2 := by
              apply Decidable.byContradiction
              intro hne
              rcases ltK_total hne with e | e
              · unfold ltK at e; rw [hl] at e; cases e
              · unfold ltK at e; rw [hl2] at e; cases e
            have HXY : Hid (x1 = x2) := hxy
            clear hxy
            by_cases hy : y1 = y2
            · have hy2 : (y1.toList == y2.toList) = true := by rw [hy]; simp
              have NE : Hid (D ++ diffM (L1.drop (i + 1)) (L2.drop (k + 1)) = diffM L1 L2) := by
                show _ = _
                rw [← hD.out, drop_at A1.out, drop_at A2.out, diffM, if_neg (by rw [hl]; decide), if_neg (by rw [hl2]; decide), if_pos hy]
                rfl
              clear hy
              go_wp2_with fail
              go_quiet (fail)
              go_wp2_with fail
              generalize hW : World.drewN wr _ = W1
              obtain ⟨g1, g2⟩ := FW.out _ _ hW
              obtain ⟨g3, g4, g5, g6⟩ := F7.out _ _ hW
              have FW' : Hid (∀ N W2, W1.drewN N = W2 → Below w.heap.size w W2 ∧ W2.ownsRow w.heap.size 61 5 u d (cellsDf D) ∧ W2.cell? ⟨b1, o1 + i * 2 + 1, none⟩ = some (.string y1) ∧ W2.cell? ⟨b2, o2 + k * 2 + 1, none⟩ = some (.string y2)) := fun N W2 e => by subst e; exact ⟨Below.drewN' g1 _, g2, g5, g6⟩
              clear hW g1 g2 pc1 pc2 qc1 qc2 F7 FW g5 g6
              go_quiet (fail)
              go_wp2_with fail
              clear g3 g4
              generalize hW : World.drewN W1 _ = W3
              obtain ⟨g1, g2, g5, g6⟩ := FW'.out _ _ hW
              have FX : Hid (∀ N W2, W3.drewN N = W2 → Below w.heap.size w W2 ∧ W2.ownsRow w.heap.size 61 5 u d (cellsDf D)) := fun N W2 e => by subst e; exact ⟨Below.drewN' g1 _, g2⟩
              clear hW g1 g2 FW'
              go_quiet (fail)
              go_wp2_with fail
              clear g5 g6
              generalize hW : World.drewN W3 _ = W2
              obtain ⟨g1, g2⟩ := FX.out _ _ hW
              have BB : Hid (Below w.heap.size w W2) := g1
              have OB : Hid (W2.ownsRow w.heap.size 61 5 u d (cellsDf D)) := g2
              clear hW g1 g2
              exact ⟨⟨i + 1, k + 1, _, D, by omega, by omega, by go_num, by go_num, rfl, NE.out, BB.out, by rw [HD.out]; exact OB.out⟩, by simp [intOf]; omega⟩
            · have hy2 : (y1.toList == y2.toList) = false := by
                cases e : (y1.toList == y2.toList) with
                | false => rfl
                | true => exact absurd (toList_inj (by simpa using e)) hy
              have NE : Hid (D ++ [(x1, y1, y2, true, true)] ++ diffM (L1.drop (i + 1)) (L2.drop (k + 1)) = diffM L1 L2) := by
                show _ = _
                rw [← hD.out, drop_at A1.out, drop_at A2.out, diffM, if_neg (by rw [hl]; decide), if_neg (by rw [hl2]; decide), if_neg hy, List.append_assoc]
              clear hy
              go_wp2_with fail
              go_quiet (fail)
              go_wp2_with fail
              generalize hW : World.drewN wr _ = W1
              obtain ⟨g1, g2⟩ := FW.out _ _ hW
              obtain ⟨g3, g4, g5, g6⟩ := F7.out _ _ hW
              have FW' : Hid (∀ N W2, W1.drewN N = W2 → Below w.heap.size w W2 ∧ W2.ownsRow w.heap.size 61 5 u d (cellsDf D) ∧ W2.cell? ⟨b1, o1 + i * 2 + 1, none⟩ = some (.string y1) ∧ W2.cell? ⟨b2, o2 + k * 2 + 1, none⟩ = some (.string y2)) := fun N W2 e => by subst e; exact ⟨Below.drewN' g1 _, g2, g5, g6⟩
              clear hW g1 g2 pc1 pc2 qc1 qc2 F7 FW g5 g6
              go_quiet (fail)
              go_wp2_with fail
              clear g3 g4
              generalize hW : World.drewN W1 _ = W3
              obtain ⟨g1, g2, g5, g6⟩ := FW'.out _ _ hW
              have FX : Hid (∀ N W2, W3.drewN N = W2 → Below w.heap.size w W2 ∧ W2.ownsRow w.heap.size 61 5 u d (cellsDf D)) := fun N W2 e => by subst e; exact ⟨Below.drewN' g1 _, g2⟩
              clear hW g1 g2 FW'
              go_quiet (fail)
              go_wp2_with fail
              clear g5 g6
              generalize hW : World.drewN W3 _ = W2
              obtain ⟨g1, g2⟩ := FX.out _ _ hW
              have BB : Hid (Below w.heap.size w W2) := g1
              have OB : Hid (W2.ownsRow w.heap.size 61 5 u d (cellsDf D)) := g2
              clear hW g1 g2
              have BA : Hid (Below w.heap.size w (W2.alloc (.cells #[.string x1, .string y1, .string y2, .bool true, .bool true] 61)).drew) := (BB.out.alloc BB.out.size _).drew
              obtain ⟨e0, e1⟩ := E1.out _ BB.out
              obtain ⟨e2, e3⟩ := E2.out _ BB.out
              refine wp_region_noPanic ?_
              refine wp_region_held_drew (S := (fun w' => w'.cell? ⟨b1, o1 + i * 2, none⟩ = some (.string x1) ∧ w'.cell? ⟨b1, o1 + i * 2 + 1, none⟩ = some (.string y1) ∧ w'.cell? ⟨b2, o2 + k * 2, none⟩ = some (.string x2) ∧ w'.cell? ⟨b2, o2 + k * 2 + 1, none⟩ = some (.string y2))) (by kernel_rfl) ⟨e0, e1, e2, e3⟩ (fun hHeld => ?_)
              refine wpAnyH_take (i := 0) (v := u) rfl (by kernel_rfl) (by kernel_rfl) (by kernel_rfl) (fun _ _ _ h => h) (Or.inl ⟨by rfl, ?_⟩) hHeld ?_
              · intro w9 hSw
                obtain ⟨s0, s1, s2, s3⟩ := hSw
                go_simp
              refine wpAnyH_take (i := 1) (v := .slice (some ⟨b1, o1, none⟩) n1 c1) rfl (by kernel_rfl) (by kernel_rfl) (by kernel_rfl) (fun _ _ _ h => h) (Or.inl ⟨by rfl, ?_⟩) hHeld ?_
              · intro w9 hSw
                obtain ⟨s0, s1, s2, s3⟩ := hSw
                go_simp
              refine wpAnyH_take (i := 2) (v := .int .i64 (i : Int)) rfl (by kernel_rfl) (by kernel_rfl) (by kernel_rfl) (fun _ _ _ h => h) (Or.inl ⟨by rfl, ?_⟩) hHeld ?_
              · intro w9 hSw
                obtain ⟨s0, s1, s2, s3⟩ := hSw
                go_simp
              refine wpAnyH_take (i := 3) (v := .pointer (some ⟨b1, o1 + i * 2, none⟩)) rfl (by kernel_rfl) (by kernel_rfl) (by kernel_rfl) (fun _ _ _ h => h) (Or.inl ⟨by rfl, ?_⟩) hHeld ?_
              · intro w9 hSw
                obtain ⟨s0, s1, s2, s3⟩ := hSw
                go_simp
              refine wpAnyH_take (i := 4) (v := .pointer (some ⟨b1, o1 + i * 2, none⟩)) rfl (by kernel_rfl) (by kernel_rfl) (by kernel_rfl) (fun _ _ _ h => h) (Or.inl ⟨by rfl, ?_⟩) hHeld ?_
              · intro w9 hSw
                obtain ⟨s0, s1, s2, s3⟩ := hSw
                go_simp
              simp only [Act.put, List.setIfInBounds_toArray, List.set_cons_zero, List.set_cons_succ]
              refine wpAnyH_take (i := 5) (v := .string x1) rfl (by kernel_rfl) (by kernel_rfl) (by kernel_rfl) (fun _ _ _ h => h) (Or.inl ⟨by rfl, ?_⟩) hHeld ?_
              · intro w9 hSw
                obtain ⟨s0, s1, s2, s3⟩ := hSw
                go_simp
              refine wpAnyH_take (i := 6) (v := .slice (some ⟨b1, o1, none⟩) n1 c1) rfl (by kernel_rfl) (by kernel_rfl) (by kernel_rfl) (fun _ _ _ h => h) (Or.inl ⟨by rfl, ?_⟩) hHeld ?_
              · intro w9 hSw
                obtain ⟨s0, s1, s2, s3⟩ := hSw
                go_simp
              refine wpAnyH_take (i := 7) (v := .int .i64 (i : Int)) rfl (by kernel_rfl) (by kernel_rfl) (by kernel_rfl) (fun _ _ _ h => h) (Or.inl ⟨by rfl, ?_⟩) hHeld ?_
              · intro w9 hSw
                obtain ⟨s0, s1, s2, s3⟩ := hSw
                go_simp
              refine wpAnyH_take (i := 8) (v := .pointer (some ⟨b1, o1 + i * 2, none⟩)) rfl (by kernel_rfl) (by kernel_rfl) (by kernel_rfl) (fun _ _ _ h => h) (Or.inl ⟨by rfl, ?_⟩) hHeld ?_
              · intro w9 hSw
                obtain ⟨s0, s1, s2, s3⟩ := hSw
                go_simp
              refine wpAnyH_take (i := 9) (v := .pointer (some ⟨b1, o1 + i * 2 + 1, none⟩)) rfl (by kernel_rfl) (by kernel_rfl) (by kernel_rfl) (fun _ _ _ h => h) (Or.inl ⟨by rfl, ?_⟩) hHeld ?_
              · intro w9 hSw
                obtain ⟨s0, s1, s2, s3⟩ := hSw
                go_simp
              simp only [Act.put, List.setIfInBounds_toArray, List.set_cons_zero, List.set_cons_succ]
              refine wpAnyH_take (i := 10) (v := .string y1) rfl (by kernel_rfl) (by kernel_rfl) (by kernel_rfl) (fun _ _ _ h => h) (Or.inl ⟨by rfl, ?_⟩) hHeld ?_
              · intro w9 hSw
                obtain ⟨s0, s1, s2, s3⟩ := hSw
                go_simp
              refine wpAnyH_take (i := 11) (v := .slice (some ⟨b2, o2, none⟩) n2 c2) rfl (by kernel_rfl) (by kernel_rfl) (by kernel_rfl) (fun _ _ _ h => h) (Or.inl ⟨by rfl, ?_⟩) hHeld ?_
              · intro w9 hSw
                obtain ⟨s0, s1, s2, s3⟩ := hSw
                go_simp
              refine wpAnyH_take (i := 12) (v := .int .i64 (k : Int)) rfl (by kernel_rfl) (by kernel_rfl) (by kernel_rfl) (fun _ _ _ h => h) (Or.inl ⟨by rfl, ?_⟩) hHeld ?_
              · intro w9 hSw
                obtain ⟨s0, s1, s2, s3⟩ := hSw
                go_simp
              refine wpAnyH_take (i := 13) (v := .pointer (some ⟨b2, o2 + k * 2, none⟩)) rfl (by kernel_rfl) (by kernel_rfl) (by kernel_rfl) (fun _ _ _ h => h) (Or.inl ⟨by rfl, ?_⟩) hHeld ?_
              · intro w9 hSw
                obtain ⟨s0, s1, s2, s3⟩ := hSw
                go_simp
              refine wpAnyH_take (i := 14) (v := .pointer (some ⟨b2, o2 + k * 2 + 1, none⟩)) rfl (by kernel_rfl) (by kernel_rfl) (by kernel_rfl) (fun _ _ _ h => h) (Or.inl ⟨by rfl, ?_⟩) hHeld ?_
              · intro w9 hSw
                obtain ⟨s0, s1, s2, s3⟩ := hSw
                go_simp
              simp only [Act.put, List.setIfInBounds_toArray, List.set_cons_zero, List.set_cons_succ]
              refine wpAnyH_take (i := 15) (v := .string y2) rfl (by kernel_rfl) (by kernel_rfl) (by kernel_rfl) (fun _ _ _ h => h) (Or.inl ⟨by rfl, ?_⟩) hHeld ?_
              · intro w9 hSw
                obtain ⟨s0, s1, s2, s3⟩ := hSw
                go_simp
              refine wpAnyH_take (i := 16) (v := .agg #[.string x1, .string y1, .string y2, .bool true, .bool true]) rfl (by kernel_rfl) (by kernel_rfl) (by kernel_rfl) (fun _ _ _ h => h) (Or.inl ⟨by rfl, ?_⟩) hHeld ?_
              · intro w9 hSw
                obtain ⟨s0, s1, s2, s3⟩ := hSw
                go_simp
              simp only [Act.put, List.setIfInBounds_toArray, List.set_cons_zero, List.set_cons_succ]
              refine wpAnyH_ready (rs := [17]) (by kernel_rfl) (by simp) ?_
              refine AllReadyH.cons rfl (fun K hK => ?_) AllReadyH.nil
              go_simp
              clear e0 e1 e2 e3
              obtain ⟨e0, e1⟩ := E1.out _ BA.out
              obtain ⟨e2, e3⟩ := E2.out _ BA.out
              refine hK.out _ _ ⟨e0, e1, e2, e3⟩ (fun hHeld => ?_)
              clear hK K
              refine wpAnyH_ready (rs := [18]) (by kernel_rfl) (by simp) ?_
              refine AllReadyH.cons rfl (fun K hK => ?_) AllReadyH.nil
              refine step_append_src rfl (.tmp 30) (.tmp 47) 24 rfl w.heap.size 61 (.agg #[.string ⟨#[]⟩, .string ⟨#[]⟩, .string ⟨#[]⟩, .bool false, .bool false]) 5 56 Tryd.underlying24 infoDf rfl (by decide) (by decide) u d (cellsDf D) (by simp [Act.eval]) (show World.ownsRow (W2.alloc (.cells #[.string x1, .string y1, .string y2, .bool true, .bool true] 61)).drew _ _ _ _ _ _ from OB.out.alloc _) ⟨W2.heap.size, 0, none⟩ 1 1 (cellsDf [(x1, y1, y2, true, true)]) (by simp [Act.eval]) rfl (show Src (W2.alloc (.cells #[.string x1, .string y1, .string y2, .bool true, .bool true] 61)) _ _ from src_oneDf rfl) (cellsDf_one _) (by omega) (by decide) BA.out.size ?_
              intro v6 w6 hown6 hgrow6 _
              have O6 : Hid (w6.ownsRow w.heap.size 61 5 v6 (D ++ [(x1, y1, y2, true, true)]).length (cellsDf (D ++ [(x1, y1, y2, true, true)]))) := by rw [cellsDf_append, List.length_append, HD.out]; exact hown6
              have B6 : Hid (Below w.heap.size w w6) := BA.out.grown hgrow6 BA.out.size (fun g e => RLT.out g e)
              clear hown6 hgrow6
              clear e0 e1 e2 e3
              obtain ⟨e0, e1⟩ := E1.out _ B6.out
              obtain ⟨e2, e3⟩ := E2.out _ B6.out
              refine hK.out _ _ ⟨e0, e1, e2, e3⟩ (fun hHeld => ?_)
              clear hK K
              refine wpAnyH_ready (rs := [19]) (by kernel_rfl) (by simp) ?_
              refine AllReadyH.cons rfl (fun K hK => ?_) AllReadyH.nil
              go_simp
              refine hK.out _ _ ⟨e0, e1, e2, e3⟩ (fun hHeld => ?_)
              clear hK K
              refine wpAnyH_done (by kernel_rfl) ?_ _
              refine NoPanic.normal ?_
              clear e0 e1 e2 e3
              go_wp2_with fail
              exact ⟨⟨i + 1, k + 1, _, D ++ [(x1, y1, y2, true, true)], by omega, by omega, by go_num, by go_num, rfl, NE.out, B6.out, O6.out⟩, by simp [intOf]; omega⟩
      · have hkne : ((k : Int) == (n2 : Int)) = true := by simp; omega
        have hkn : k = n2 := by omega
        have FW : Hid (∀ N W2, wr.drewN N = W2 → Below w.heap.size w W2 ∧ W2.ownsRow w.heap.size 61 5 u d (cellsDf D)) := fun N W2 e => by subst e; exact ⟨Below.drewN' hb.out _, ho.out⟩
        have NE : Hid (D ++ [(x1, y1, (⟨#[]⟩ : ByteArray), true, false)] ++ diffM (L1.drop (i + 1)) (L2.drop k) = diffM L1 L2) := by
          show _ = _
          have e9 : L2.drop k = [] := List.drop_of_length_le (by rw [HL.out.2]; omega)
          rw [← hD.out, e9, drop_at A1.out, diffM, List.append_assoc]
          rfl
        clear hkn
        go_wp2_with fail
        go_quiet (fail)
        go_wp2_with fail
        clear pc1 pc2
        generalize hW : World.drewN wr _ = W2
        obtain ⟨g1, g2⟩ := FW.out _ _ hW
        have BB : Hid (Below w.heap.size w W2) := g1
        have OB : Hid (W2.ownsRow w.heap.size 61 5 u d (cellsDf D)) := g2
        clear hW g1 g2
        have BA : Hid (Below w.heap.size w (W2.alloc (.cells #[.string x1, .string y1, .string ⟨#[]⟩, .bool true, .bool false] 61)).drew) := (BB.out.alloc BB.out.size _).drew
        obtain ⟨e0, e1⟩ := E1.out _ BB.out
        refine wp_region_noPanic ?_
        refine wp_region_held_drew (S := (fun w' => w'.cell? ⟨b1, o1 + i * 2, none⟩ = some (.string x1) ∧ w'.cell? ⟨b1, o1 + i * 2 + 1, none⟩ = some (.string y1))) (by kernel_rfl) ⟨e0, e1⟩ (fun hHeld => ?_)
        refine wpAnyH_take (i := 0) (v := u) rfl (by kernel_rfl) (by kernel_rfl) (by kernel_rfl) (fun _ _ _ h => h) (Or.inl ⟨by rfl, ?_⟩) hHeld ?_
        · intro w9 hSw
          obtain ⟨s0, s1⟩ := hSw
          go_simp
        refine wpAnyH_take (i := 1) (v := .slice (some ⟨b1, o1, none⟩) n1 c1) rfl (by kernel_rfl) (by kernel_rfl) (by kernel_rfl) (fun _ _ _ h => h) (Or.inl ⟨by rfl, ?_⟩) hHeld ?_
        · intro w9 hSw
          obtain ⟨s0, s1⟩ := hSw
          go_simp
        refine wpAnyH_take (i := 2) (v := .int .i64 (i : Int)) rfl (by kernel_rfl) (by kernel_rfl) (by kernel_rfl) (fun _ _ _ h => h) (Or.inl ⟨by rfl, ?_⟩) hHeld ?_
        · intro w9 hSw
          obtain ⟨s0, s1⟩ := hSw
          go_simp
        refine wpAnyH_take (i := 3) (v := .pointer (some ⟨b1, o1 + i * 2, none⟩)) rfl (by kernel_rfl) (by kernel_rfl) (by kernel_rfl) (fun _ _ _ h => h) (Or.inl ⟨by rfl, ?_⟩) hHeld ?_
        · intro w9 hSw
          obtain ⟨s0, s1⟩ := hSw
          go_simp
        refine wpAnyH_take (i := 4) (v := .pointer (some ⟨b1, o1 + i * 2, none⟩)) rfl (by kernel_rfl) (by kernel_rfl) (by kernel_rfl) (fun _ _ _ h => h) (Or.inl ⟨by rfl, ?_⟩) hHeld ?_
        · intro w9 hSw
          obtain ⟨s0, s1⟩ := hSw
          go_simp
        simp only [Act.put, List.setIfInBounds_toArray, List.set_cons_zero, List.set_cons_succ]
        refine wpAnyH_take (i := 5) (v := .string x1) rfl (by kernel_rfl) (by kernel_rfl) (by kernel_rfl) (fun _ _ _ h => h) (Or.inl ⟨by rfl, ?_⟩) hHeld ?_
        · intro w9 hSw
          obtain ⟨s0, s1⟩ := hSw
          go_simp
        refine wpAnyH_take (i := 6) (v := .slice (some ⟨b1, o1, none⟩) n1 c1) rfl (by kernel_rfl) (by kernel_rfl) (by kernel_rfl) (fun _ _ _ h => h) (Or.inl ⟨by rfl, ?_⟩) hHeld ?_
        · intro w9 hSw
          obtain ⟨s0, s1⟩ := hSw
          go_simp
        refine wpAnyH_take (i := 7) (v := .int .i64 (i : Int)) rfl (by kernel_rfl) (by kernel_rfl) (by kernel_rfl) (fun _ _ _ h => h) (Or.inl ⟨by rfl, ?_⟩) hHeld ?_
        · intro w9 hSw
          obtain ⟨s0, s1⟩ := hSw
          go_simp
        refine wpAnyH_take (i := 8) (v := .pointer (some ⟨b1, o1 + i * 2, none⟩)) rfl (by kernel_rfl) (by kernel_rfl) (by kernel_rfl) (fun _ _ _ h => h) (Or.inl ⟨by rfl, ?_⟩) hHeld ?_
        · intro w9 hSw
          obtain ⟨s0, s1⟩ := hSw
          go_simp
        refine wpAnyH_take (i := 9) (v := .pointer (some ⟨b1, o1 + i * 2 + 1, none⟩)) rfl (by kernel_rfl) (by kernel_rfl) (by kernel_rfl) (fun _ _ _ h => h) (Or.inl ⟨by rfl, ?_⟩) hHeld ?_
        · intro w9 hSw
          obtain ⟨s0, s1⟩ := hSw
          go_simp
        simp only [Act.put, List.setIfInBounds_toArray, List.set_cons_zero, List.set_cons_succ]
        refine wpAnyH_take (i := 10) (v := .string y1) rfl (by kernel_rfl) (by kernel_rfl) (by kernel_rfl) (fun _ _ _ h => h) (Or.inl ⟨by rfl, ?_⟩) hHeld ?_
        · intro w9 hSw
          obtain ⟨s0, s1⟩ := hSw
          go_simp
        refine wpAnyH_take (i := 11) (v := .agg #[.string x1, .string y1, .string ⟨#[]⟩, .bool true, .bool false]) rfl (by kernel_rfl) (by kernel_rfl) (by kernel_rfl) (fun _ _ _ h => h) (Or.inl ⟨by rfl, ?_⟩) hHeld ?_
        · intro w9 hSw
          obtain ⟨s0, s1⟩ := hSw
          go_simp
        simp only [Act.put, List.setIfInBounds_toArray, List.set_cons_zero, List.set_cons_succ]
        refine wpAnyH_ready (rs := [12]) (by kernel_rfl) (by simp) ?_
        refine AllReadyH.cons rfl (fun K hK => ?_) AllReadyH.nil
        go_simp
        clear e0 e1
        obtain ⟨e0, e1⟩ := E1.out _ BA.out
        refine hK.out _ _ ⟨e0, e1⟩ (fun hHeld => ?_)
        clear hK K
        refine wpAnyH_ready (rs := [13]) (by kernel_rfl) (by simp) ?_
        refine AllReadyH.cons rfl (fun K hK => ?_) AllReadyH.nil
        refine step_append_src rfl (.tmp 77) (.tmp 89) 24 rfl w.heap.size 61 (.agg #[.string ⟨#[]⟩, .string ⟨#[]⟩, .string ⟨#[]⟩, .bool false, .bool false]) 5 56 Tryd.underlying24 infoDf rfl (by decide) (by decide) u d (cellsDf D) (by simp [Act.eval]) (show World.ownsRow (W2.alloc (.cells #[.string x1, .string y1, .string ⟨#[]⟩, .bool true, .bool false] 61)).drew _ _ _ _ _ _ from OB.out.alloc _) ⟨W2.heap.size, 0, none⟩ 1 1 (cellsDf [(x1, y1, (⟨#[]⟩ : ByteArray), true, false)]) (by simp [Act.eval]) rfl (show Src (W2.alloc (.cells #[.string x1, .string y1, .string ⟨#[]⟩, .bool true, .bool false] 61)) _ _ from src_oneDf rfl) (cellsDf_one _) (by omega) (by decide) BA.out.size ?_
        intro v6 w6 hown6 hgrow6 _
        have O6 : Hid (w6.ownsRow w.heap.size 61 5 v6 (D ++ [(x1, y1, (⟨#[]⟩ : ByteArray), true, false)]).length (cellsDf (D ++ [(x1, y1, (⟨#[]⟩ : ByteArray), true, false)]))) := by rw [cellsDf_append, List.length_append, HD.out]; exact hown6
        have B6 : Hid (Below w.heap.size w w6) := BA.out.grown hgrow6 BA.out.size (fun g e => RLT.out g e)
        clear hown6 hgrow6
        clear e0 e1
        obtain ⟨e0, e1⟩ := E1.out _ B6.out
        refine hK.out _ _ ⟨e0, e1⟩ (fun hHeld => ?_)
        clear hK K
        refine wpAnyH_ready (rs := [14]) (by kernel_rfl) (by simp) ?_
        refine AllReadyH.cons rfl (fun K hK => ?_) AllReadyH.nil
        go_simp
        refine hK.out _ _ ⟨e0, e1⟩ (fun hHeld => ?_)
        clear hK K
        refine wpAnyH_done (by kernel_rfl) ?_ _
        refine NoPanic.normal ?_
        clear e0 e1
        go_wp2_with fail
        exact ⟨⟨i + 1, k, _, D ++ [(x1, y1, (⟨#[]⟩ : ByteArray), true, false)], by omega, by omega, by go_num, rfl, rfl, NE.out, B6.out, O6.out⟩, by simp [intOf]; omega⟩
    · have hni : ¬ (i : Int) < (n1 : Int) := by omega
      have hine : ((i : Int) == (n1 : Int)) = true := by simp; omega
      have hin : i = n1 := by omega
      have e8 : Hid (L1.drop i = []) := List.drop_of_length_le (by rw [HL.out.1]; omega)
      by_cases hlt2 : k < n2
      · skip
        obtain ⟨b2, o2, x2, y2, rfl, qc1, qc2, hp2⟩ := srcP (S2.out.below hb.out) (i := k) (by rw [HL.out.2]; exact hlt2)
        have A2 : Hid (L2[k]? = some (x2, y2)) := at_some (by rw [HL.out.2]; exact hlt2) hp2.out
        have E2 : Hid (∀ w9, Below w.heap.size w w9 → w9.cell? ⟨b2, o2 + k * 2, none⟩ = some (.string x2) ∧ w9.cell? ⟨b2, o2 + k * 2 + 1, none⟩ = some (.string y2)) := fun w9 hb9 => by
          obtain ⟨b', o', x', y', e', c1', c2', h'⟩ := srcP (S2.out.below hb9) (i := k) (by rw [HL.out.2]; exact hlt2)
          cases e'
          have h9 := hp2.out.symm.trans h'.out
          simp only [Prod.mk.injEq] at h9
          rw [h9.1, h9.2]
          exact ⟨c1', c2'⟩
        have hk0 : (0 : Int) ≤ (k : Int) := by omega
        have hkk : (k : Int) < (n2 : Int) := by omega
        have hkne : ((k : Int) == (n2 : Int)) = false := by simp; omega
        have FW : Hid (∀ N W2, wr.drewN N = W2 → Below w.heap.size w W2 ∧ W2.ownsRow w.heap.size 61 5 u d (cellsDf D)) := fun N W2 e => by subst e; exact ⟨Below.drewN' hb.out _, ho.out⟩
        have NE : Hid (D ++ [(x2, (⟨#[]⟩ : ByteArray), y2, false, true)] ++ diffM (L1.drop i) (L2.drop (k + 1)) = diffM L1 L2) := by
          show _ = _
          rw [← hD.out, e8.out, drop_at A2.out, diffM, List.append_assoc]
          rfl
        clear hin
        go_wp2_with fail
        go_quiet (fail)
        go_wp2_with fail
        generalize hW : World.drewN wr _ = W1
        obtain ⟨g1, g2⟩ := FW.out _ _ hW
        have FW' : Hid (∀ N W2, W1.drewN N = W2 → Below w.heap.size w W2 ∧ W2.ownsRow w.heap.size 61 5 u d (cellsDf D)) := fun N W2 e => by subst e; exact ⟨Below.drewN' g1 _, g2⟩
        clear hW g1 g2 qc1 qc2 FW
        go_quiet (fail)
        go_wp2_with fail
        generalize hW : World.drewN W1 _ = W2
        obtain ⟨g1, g2⟩ := FW'.out _ _ hW
        have BB : Hid (Below w.heap.size w W2) := g1
        have OB : Hid (W2.ownsRow w.heap.size 61 5 u d (cellsDf D)) := g2
        clear hW g1 g2
        have BA : Hid (Below w.heap.size w (W2.alloc (.cells #[.string x2, .string ⟨#[]⟩, .string y2, .bool false, .bool true] 61)).drew) := (BB.out.alloc BB.out.size _).drew
        obtain ⟨e2, e3⟩ := E2.out _ BB.out
        refine wp_region_noPanic ?_
        refine wp_region_held_drew (S := (fun w' => w'.cell? ⟨b2, o2 + k * 2, none⟩ = some (.string x2) ∧ w'.cell? ⟨b2, o2 + k * 2 + 1, none⟩ = some (.string y2))) (by kernel_rfl) ⟨e2, e3⟩ (fun hHeld => ?_)
        refine wpAnyH_take (i := 0) (v := u) rfl (by kernel_rfl) (by kernel_rfl) (by kernel_rfl) (fun _ _ _ h => h) (Or.inl ⟨by rfl, ?_⟩) hHeld ?_
        · intro w9 hSw
          obtain ⟨s0, s1⟩ := hSw
          go_simp
        refine wpAnyH_take (i := 1) (v := .slice (some ⟨b2, o2, none⟩) n2 c2) rfl (by kernel_rfl) (by kernel_rfl) (by kernel_rfl) (fun _ _ _ h => h) (Or.inl ⟨by rfl, ?_⟩) hHeld ?_
        · intro w9 hSw
          obtain ⟨s0, s1⟩ := hSw
          go_simp
        refine wpAnyH_take (i := 2) (v := .int .i64 (k : Int)) rfl (by kernel_rfl) (by kernel_rfl) (by kernel_rfl) (fun _ _ _ h => h) (Or.inl ⟨by rfl, ?_⟩) hHeld ?_
        · intro w9 hSw
          obtain ⟨s0, s1⟩ := hSw
          go_simp
        refine wpAnyH_take (i := 3) (v := .pointer (some ⟨b2, o2 + k * 2, none⟩)) rfl (by kernel_rfl) (by kernel_rfl) (by kernel_rfl) (fun _ _ _ h => h) (Or.inl ⟨by rfl, ?_⟩) hHeld ?_
        · intro w9 hSw
          obtain ⟨s0, s1⟩ := hSw
          go_simp
        refine wpAnyH_take (i := 4) (v := .pointer (some ⟨b2, o2 + k * 2, none⟩)) rfl (by kernel_rfl) (by kernel_rfl) (by kernel_rfl) (fun _ _ _ h => h) (Or.inl ⟨by rfl, ?_⟩) hHeld ?_
        · intro w9 hSw
          obtain ⟨s0, s1⟩ := hSw
          go_simp
        simp only [Act.put, List.setIfInBounds_toArray, List.set_cons_zero, List.set_cons_succ]
        refine wpAnyH_take (i := 5) (v := .string x2) rfl (by kernel_rfl) (by kernel_rfl) (by kernel_rfl) (fun _ _ _ h => h) (Or.inl ⟨by rfl, ?_⟩) hHeld ?_
        · intro w9 hSw
          obtain ⟨s0, s1⟩ := hSw
          go_simp
        refine wpAnyH_take (i := 6) (v := .slice (some ⟨b2, o2, none⟩) n2 c2) rfl (by kernel_rfl) (by kernel_rfl) (by kernel_rfl) (fun _ _ _ h => h) (Or.inl ⟨by rfl, ?_⟩) hHeld ?_
        · intro w9 hSw
          obtain ⟨s0, s1⟩ := hSw
          go_simp
        refine wpAnyH_take (i := 7) (v := .int .i64 (k : Int)) rfl (by kernel_rfl) (by kernel_rfl) (by kernel_rfl) (fun _ _ _ h => h) (Or.inl ⟨by rfl, ?_⟩) hHeld ?_
        · intro w9 hSw
          obtain ⟨s0, s1⟩ := hSw
          go_simp
        refine wpAnyH_take (i := 8) (v := .pointer (some ⟨b2, o2 + k * 2, none⟩)) rfl (by kernel_rfl) (by kernel_rfl) (by kernel_rfl) (fun _ _ _ h => h) (Or.inl ⟨by rfl, ?_⟩) hHeld ?_
        · intro w9 hSw
          obtain ⟨s0, s1⟩ := hSw
          go_simp
        refine wpAnyH_take (i := 9) (v := .pointer (some ⟨b2, o2 + k * 2 + 1, none⟩)) rfl (by kernel_rfl) (by kernel_rfl) (by kernel_rfl) (fun _ _ _ h => h) (Or.inl ⟨by rfl, ?_⟩) hHeld ?_
        · intro w9 hSw
          obtain ⟨s0, s1⟩ := hSw
          go_simp
        simp only [Act.put, List.setIfInBounds_toArray, List.set_cons_zero, List.set_cons_succ]
        refine wpAnyH_take (i := 10) (v := .string y2) rfl (by kernel_rfl) (by kernel_rfl) (by kernel_rfl) (fun _ _ _ h => h) (Or.inl ⟨by rfl, ?_⟩) hHeld ?_
        · intro w9 hSw
          obtain ⟨s0, s1⟩ := hSw
          go_simp
        refine wpAnyH_take (i := 11) (v := .agg #[.string x2, .string ⟨#[]⟩, .string y2, .bool false, .bool true]) rfl (by kernel_rfl) (by kernel_rfl) (by kernel_rfl) (fun _ _ _ h => h) (Or.inl ⟨by rfl, ?_⟩) hHeld ?_
        · intro w9 hSw
          obtain ⟨s0, s1⟩ := hSw
          go_simp
        simp only [Act.put, List.setIfInBounds_toArray, List.set_cons_zero, List.set_cons_succ]
        refine wpAnyH_ready (rs := [12]) (by kernel_rfl) (by simp) ?_
        refine AllReadyH.cons rfl (fun K hK => ?_) AllReadyH.nil
        go_simp
        clear e2 e3
        obtain ⟨e2, e3⟩ := E2.out _ BA.out
        refine hK.out _ _ ⟨e2, e3⟩ (fun hHeld => ?_)
        clear hK K
        refine wpAnyH_ready (rs := [13]) (by kernel_rfl) (by simp) ?_
        refine AllReadyH.cons rfl (fun K hK => ?_) AllReadyH.nil
        refine step_append_src rfl (.tmp 111) (.tmp 123) 24 rfl w.heap.size 61 (.agg #[.string ⟨#[]⟩, .string ⟨#[]⟩, .string ⟨#[]⟩, .bool false, .bool false]) 5 56 Tryd.underlying24 infoDf rfl (by decide) (by decide) u d (cellsDf D) (by simp [Act.eval]) (show World.ownsRow (W2.alloc (.cells #[.string x2, .string ⟨#[]⟩, .string y2, .bool false, .bool true] 61)).drew _ _ _ _ _ _ from OB.out.alloc _) ⟨W2.heap.size, 0, none⟩ 1 1 (cellsDf [(x2, (⟨#[]⟩ : ByteArray), y2, false, true)]) (by simp [Act.eval]) rfl (show Src (W2.alloc (.cells #[.string x2, .string ⟨#[]⟩, .string y2, .bool false, .bool true] 61)) _ _ from src_oneDf rfl) (cellsDf_one _) (by omega) (by decide) BA.out.size ?_
        intro v6 w6 hown6 hgrow6 _
        have O6 : Hid (w6.ownsRow w.heap.size 61 5 v6 (D ++ [(x2, (⟨#[]⟩ : ByteArray), y2, false, true)]).length (cellsDf (D ++ [(x2, (⟨#[]⟩ : ByteArray), y2, false, true)]))) := by rw [cellsDf_append, List.length_append, HD.out]; exact hown6
        have B6 : Hid (Below w.heap.size w w6) := BA.out.grown hgrow6 BA.out.size (fun g e => RLT.out g e)
        clear hown6 hgrow6
        clear e2 e3
        obtain ⟨e2, e3⟩ := E2.out _ B6.out
        refine hK.out _ _ ⟨e2, e3⟩ (fun hHeld => ?_)
        clear hK K
        refine wpAnyH_ready (rs := [14]) (by kernel_rfl) (by simp) ?_
        refine AllReadyH.cons rfl (fun K hK => ?_) AllReadyH.nil
        go_simp
        refine hK.out _ _ ⟨e2, e3⟩ (fun hHeld => ?_)
        clear hK K
        refine wpAnyH_done (by kernel_rfl) ?_ _
        refine NoPanic.normal ?_
        clear e2 e3
        go_wp2_with fail
        exact ⟨⟨i, k + 1, _, D ++ [(x2, (⟨#[]⟩ : ByteArray), y2, false, true)], by omega, by omega, rfl, by go_num, rfl, NE.out, B6.out, O6.out⟩, by simp [intOf]; omega⟩
      · have hnk : ¬ (k : Int) < (n2 : Int) := by omega
        have FD : Hid (D = diffM L1 L2) := by
          show _ = _
          have e9 : L2.drop k = [] := List.drop_of_length_le (by rw [HL.out.2]; omega)
          rw [← hD.out, e8.out, e9, diffM, List.append_nil]
        have FO : Hid (wr.ownsRow w.heap.size 61 5 u (diffM L1 L2).length (cellsDf (diffM L1 L2))) := by rw [← FD.out, HD.out]; exact ho.out
        clear hin
        go_wp2_with fail
        go_ret
        exact ⟨_, rfl, FO.out, hb.out⟩
end Go.Proofs.YtkimjnjpfjeldaaDoor
