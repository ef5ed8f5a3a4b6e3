/-
  Texts of the store, brought together: Rnu, Rpg. By an AI agent.
-/
import Derived.Test.YtnnimocaanofjaaGreatDoorSq28
namespace Go.Proofs.YtnnimocaanofjaaGreatDoor
open Go.ChangeShapes Go.WideShapes Go.ChangeAt Go.RowKit Go.Deep
set_option linter.unusedVariables false
set_option linter.unusedSimpArgs false
set_option maxRecDepth 100000
open List (setIfInBounds_toArray set_cons_zero set_cons_succ)
theorem readN_R {B : List Nat} (h1 : ¬ 65536 < B.length) (h2 : sealedB B = true) : readN B = match nodeR B with | none => (nm0, 3) | some D => (D, 0) := by
  unfold readN nodeR
  rw [if_neg h1, if_neg (by rw [h2]; decide), if_pos h2]
  cases nodeA (bodyB B) with
  | none => rfl
  | some D =>
    by_cases h : freeB D = true ∨ okB D = false
    · simp [h]
    · simp [h]
def pagesM (S : List ByteArray) : List NM := S.map fun x => (readN (bytesOf x)).1
theorem pages_take (S : List ByteArray) (k : Nat) (h : k < S.length) : (pagesM S).take (k + 1) = (pagesM S).take k ++ [(readN (bytesOf (S.getD k e0))).1] := by
  unfold pagesM
  rw [List.take_succ_eq_append_getElem (by simpa using h), List.getD_eq_getElem?_getD, List.getElem?_eq_getElem h]
  simp
theorem own_form {w : World} {base e s n : Nat} {v : Value} {xs : List Value} (h : w.ownsRow base e s v n xs) (hn : 0 < n) : ∃ g cap, v = .slice (some ⟨g, 0, none⟩) n cap ∧ base ≤ g ∧ g < w.heap.size := by
  have hlt := h.lt
  obtain ⟨_, ⟨_, h0⟩ | ⟨g, cap, cur, rfl, hb, _⟩⟩ := h
  · omega
  · exact ⟨g, cap, rfl, hb, (hlt g rfl).2⟩
set_option maxHeartbeats 4000000 in
theorem readPagesI (a : Option Addr) (c : Nat) (S : List ByteArray) (w : World) (hS : S.length = 50) (hz : ∀ x ∈ S, x.size ≤ 420) (h : Src w a (cellsS S)) (hH : HasHalf w) :
    Calls Tryz.prog 102 #[.slice a 50 c] w fun e w' => ∃ v, e = .returned v ∧ OwnsH w' w.heap.size w'.heap.size v (pagesM S) ∧ Below w.heap.size w w' := by
  have SS : Hid (Src w a (cellsS S)) := h
  have HN : Hid (S.length = 50 ∧ (∀ x ∈ S, x.size ≤ 420)) := ⟨hS, hz⟩
  have HT : Hid (HasHalf w) := hH
  clear hS hz h hH
  go_enter Tryz.func102, Tryz.ntmps102
  go_wp2_with fail
  have A0 : Hid (Below w.heap.size w (w.alloc (.cells #[.slice none 0 0] 45))) := (Below.refl _ _).alloc (Nat.le_refl _) _
  refine (implNewHeap _).mono ?_
  rintro e w1 ⟨v1, rfl, own1, hb1⟩
  obtain ⟨u1, rfl, V0, row1, lt1, _⟩ := own1
  have row2 : w1.ownsRow (w.heap.size + 1) 137 4 u1 50 (cellsN V0) := by have h9 := row1; simp at h9; exact h9
  obtain ⟨g, cap, rfl, hg1, hg2⟩ := own_form row2 (by omega)
  have R1 : Hid (Box w1 w.heap.size [.slice none 0 0]) := Box.below (Box.new rfl) hb1
  have B1 : Hid (Below w.heap.size w w1) := Below.new hb1
  have ZL : Hid ((cellsN V0).length = 50 * 4) := row2.1
  have O1 : Hid (w1.ownsRow (w.heap.size + 1) 137 4 (.slice (some ⟨g, 0, none⟩) 50 cap) 50 (cellsN V0)) := row2
  have HG : Hid (w.heap.size + 1 ≤ g ∧ g < w1.heap.size) := ⟨hg1, hg2⟩
  clear row1 row2 lt1 hb1 hg1 hg2 A0
  go_wp2_with fail
  obtain ⟨zs, hzs⟩ : ∃ zs, cellsN V0 = zs := ⟨_, rfl⟩
  rw [hzs] at ZL O1
  clear hzs
  obtain ⟨hb0, hhb⟩ : ∃ x, w1.heap.size = x := ⟨_, rfl⟩
  have HB0 : Hid (w1.heap.size = hb0) := hhb
  have X1 : Hid (Box (w1.alloc (.cells #[(.slice (some ⟨g, 0, none⟩) 50 cap)] 45)) hb0 [(.slice (some ⟨g, 0, none⟩) 50 cap)]) := Box.new hhb.symm
  have GB : Hid (w.heap.size + 1 ≤ g ∧ g < hb0) := by have h9 := HG.out; rw [hhb] at h9; exact h9
  rw [hhb]
  have BA : Hid (Below w.heap.size w (w1.alloc (.cells #[(.slice (some ⟨g, 0, none⟩) 50 cap)] 45))) := B1.out.alloc B1.out.size _
  have OA : Hid ((w1.alloc (.cells #[(.slice (some ⟨g, 0, none⟩) 50 cap)] 45)).ownsRow (w.heap.size + 1) 137 4 (.slice (some ⟨g, 0, none⟩) 50 cap) 50 (cellsN [] ++ zs.drop (0 * 4))) := O1.out.alloc _
  have RA : Hid (Box (w1.alloc (.cells #[(.slice (some ⟨g, 0, none⟩) 50 cap)] 45)) w.heap.size [.slice none 0 0]) := R1.out.old _
  have VA : Hid (OwnsVs (w1.alloc (.cells #[(.slice (some ⟨g, 0, none⟩) 50 cap)] 45)) (w.heap.size + 1) (w1.alloc (.cells #[(.slice (some ⟨g, 0, none⟩) 50 cap)] 45)).heap.size [] ((pagesM S).take 0)) := by
    show OwnsVs _ _ _ [] []
    have := HG.out
    exact (by simp; omega : w.heap.size + 1 ≤ (w1.alloc _).heap.size)
  clear hhb HG O1 R1 B1
  go_loopw [9] (fun i wr => ∃ (k : Nat) (V : List NV), k ≤ 50 ∧ i = .int .i64 k ∧ Hid (V.length = k) ∧ Hid (Below w.heap.size w wr) ∧ Hid (Box wr w.heap.size [.slice none 0 0]) ∧ Hid (Box wr hb0 [(.slice (some ⟨g, 0, none⟩) 50 cap)]) ∧ Hid (OwnsVs wr (w.heap.size + 1) wr.heap.size V ((pagesM S).take k)) ∧ Hid (wr.ownsRow (w.heap.size + 1) 137 4 (.slice (some ⟨g, 0, none⟩) 50 cap) 50 (cellsN V ++ zs.drop (k * 4)))) (fun i _ => 50 - (intOf i).toNat)
  case atStart => exact ⟨0, [], by omega, rfl, rfl, BA, RA, X1, VA, OA⟩
  case round =>
    clear BA RA X1 VA OA HB0
    obtain ⟨k, V, hk, rfl, hV, hb, hr, hx, hvs, ho⟩ := hrel
    by_cases hlt : k < 50
    · obtain ⟨b9, o9, x, rfl, q0, hxs⟩ := srcS (SS.out.below hb.out) (i := k) (by rw [HN.out.1]; exact hlt)
      have hk0 : (0 : Int) ≤ (k : Int) := by omega
      have hki : (k : Int) < (50 : Int) := by omega
      have XZ : Hid (x.size ≤ 420) := by
        show x.size ≤ 420
        rw [← hxs.out]
        exact HN.out.2 _ (getD_mem _ _ _ (by rw [HN.out.1]; exact hlt))
      have HTK : Hid ((pagesM S).take (k + 1) = (pagesM S).take k ++ [(readN (bytesOf x)).1]) := by
        have h9 := pages_take S k (by rw [HN.out.1]; exact hlt)
        rw [hxs.out] at h9
        exact h9
      go_wp2_with fail
      clear q0 hxs
      obtain ⟨e0, _⟩ := hx.out 0 _ rfl
      refine wp_region_noPanic ?_
      refine wp_region_held_drew (S := (fun w' => w'.cell? ⟨hb0, 0, none⟩ = some (.slice (some ⟨g, 0, none⟩) 50 cap))) (by kernel_rfl) e0 (fun hHeld => ?_)
      replace hb : Hid (Below w.heap.size w wr.drew) := hb.out.drew
      replace hr : Hid (Box wr.drew w.heap.size [.slice none 0 0]) := hr.out
      replace hx : Hid (Box wr.drew hb0 [(.slice (some ⟨g, 0, none⟩) 50 cap)]) := hx.out
      replace hvs : Hid (OwnsVs wr.drew (w.heap.size + 1) wr.drew.heap.size V ((pagesM S).take k)) := hvs.out.below (Below.refl _ _).drew
      replace ho : Hid (wr.drew.ownsRow (w.heap.size + 1) 137 4 (.slice (some ⟨g, 0, none⟩) 50 cap) 50 (cellsN V ++ zs.drop (k * 4))) := ho.out
      clear e0
      generalize wr.drew = wq at hb hr hx hvs ho hHeld ⊢
      obtain ⟨xl, hxl⟩ : ∃ l, x.size = l := ⟨_, rfl⟩
      have XL : Hid (x.size = xl) := hxl
      have xl420 : xl ≤ 420 := by rw [← hxl]; exact XZ.out
      obtain ⟨cp, w2, hcv, hb2, hs2, hc1, hc2⟩ := conv_textC x wq (by have h9 := XZ.out; omega)
      rw [hxl] at hcv hc1
      have S2 : Hid (Src w2 (some ⟨wq.heap.size, 0, none⟩) (cellsB (bytesOf x)) ∧ xl ≤ cp ∧ cp ≤ maxLen) := ⟨hs2, hc1, hc2⟩
      have H2 : Hid (Below wq.heap.size wq w2) := hb2
      clear hb2 hs2 hc1 hc2 hxl
      refine wpAnyH_take (i := 0) (v := .pointer (some ⟨hb0, 0, none⟩)) rfl (by kernel_rfl) (by kernel_rfl) (by kernel_rfl) (fun _ _ _ h => h) (Or.inl ⟨by rfl, ?_⟩) hHeld ?_
      · intro w9 hSw
        have s0 := hSw
        go_simp
      refine wpAnyH_take (i := 1) (v := (.slice (some ⟨g, 0, none⟩) 50 cap)) rfl (by kernel_rfl) (by kernel_rfl) (by kernel_rfl) (fun _ _ _ h => h) (Or.inl ⟨by rfl, ?_⟩) hHeld ?_
      · intro w9 hSw
        have s0 := hSw
        go_simp
      refine wpAnyH_take (i := 2) (v := .int .i64 (k : Int)) rfl (by kernel_rfl) (by kernel_rfl) (by kernel_rfl) (fun _ _ _ h => h) (Or.inl ⟨by rfl, ?_⟩) hHeld ?_
      · intro w9 hSw
        have s0 := hSw
        go_simp
      refine wpAnyH_take (i := 3) (v := .string x) rfl (by kernel_rfl) (by kernel_rfl) (by kernel_rfl) (fun _ _ _ h => h) (Or.inl ⟨by rfl, ?_⟩) hHeld ?_
      · intro w9 hSw
        have s0 := hSw
        go_simp
      simp only [Act.put, setIfInBounds_toArray, set_cons_zero, set_cons_succ]
      refine wpAnyH_ready (rs := [4]) (by kernel_rfl) (by simp) ?_
      refine AllReadyH.cons rfl (fun K hK => ?_) AllReadyH.nil
      go_simp
      have e2 := (hx.out.below H2.out 0 _ rfl).1
      refine hK.out _ _ e2 (fun hHeld => ?_)
      clear hK K
      clear hcv
      refine wpAnyH_ready (rs := [5]) (by kernel_rfl) (by simp) ?_
      refine AllReadyH.cons rfl (fun K hK => ?_) AllReadyH.nil
      go_simp
      refine (implReadNode wq.heap.size 0 xl cp (bytesOf x) _ (by rw [bytesOf_length, XL.out]) (by omega) S2.out.2.1 S2.out.2.2 (bytesOf_lt x) S2.out.1 (HT.out.below (hb.out.trans (H2.out.mono hb.out.size)))).mono ?_
      rintro e w3 ⟨u3, D, q3, rfl, hq, own3, hb3⟩
      dsimp only
      have H3 : Hid (Below wq.heap.size wq w3) := H2.out.trans (hb3.mono H2.out.size)
      have B3 : Hid (Below w.heap.size w w3) := hb.out.trans (H3.out.mono hb.out.size)
      obtain ⟨b1, d1, b2, d2, b3, d3, rfl⟩ := own3.lit
      have HDM : Hid ((readN (bytesOf x)).1 = D) := by show _ = _; rw [hq]
      have X3 : Hid (Box w3 hb0 [(.slice (some ⟨g, 0, none⟩) 50 cap)]) := hx.out.below H3.out
      have R3 : Hid (Box w3 w.heap.size [.slice none 0 0]) := hr.out.below H3.out
      obtain ⟨A, hA⟩ : ∃ A, D.A = A := ⟨_, rfl⟩
      obtain ⟨n1, hn1⟩ : ∃ n, D.P.length = n := ⟨_, rfl⟩
      obtain ⟨n2, hn2⟩ : ∃ n, D.L.length = n := ⟨_, rfl⟩
      obtain ⟨n3, hn3⟩ : ∃ n, D.K.length = n := ⟨_, rfl⟩
      rw [hA, hn1, hn2, hn3] at own3 ⊢
      clear hA hn1 hn2 hn3 hq
      have HV1 : Hid (OwnsVs w3 (w.heap.size + 1) w3.heap.size (V ++ [⟨A, .slice b1 n1 d1, .slice b2 n2 d2, .slice b3 n3 d3⟩]) ((pagesM S).take (k + 1))) := by
        show OwnsVs _ _ _ _ _
        rw [HTK.out, HDM.out]
        exact OwnsVs.snoc (own3.mono H2.out.size (Nat.le_refl _)) H3.out.size (hvs.out.below H3.out)
      obtain ⟨u0, u1, u2, u3, hdr⟩ := drop4 zs k 50 ZL.out hlt
      have HO1 : Hid (w3.ownsRow (w.heap.size + 1) 137 4 (.slice (some ⟨g, 0, none⟩) 50 cap) 50 (cellsN V ++ u0 :: u1 :: u2 :: u3 :: zs.drop ((k + 1) * 4))) := by
        have h9 := own_below ho.out H3.out
        rw [hdr] at h9
        exact h9
      have HCL : Hid ((cellsN V).length = k * 4) := by show _ = _; rw [cellsN_length, hV.out]
      have e3 := (X3.out 0 _ rfl).1
      clear hb hr hx hvs ho own3 hb3 H2 H3 S2 e2 hdr
      refine hK.out _ _ e3 (fun hHeld => ?_)
      clear hK K
      refine wpAnyH_take (i := 6) (v := .tuple #[.agg #[.bool A, .slice b1 n1 d1, .slice b2 n2 d2, .slice b3 n3 d3], .int .i64 q3]) rfl (by kernel_rfl) (by kernel_rfl) (by kernel_rfl) (fun _ _ _ h => h) (Or.inl ⟨by rfl, ?_⟩) hHeld ?_
      · intro w9 hSw
        have s0 := hSw
        go_simp
      refine wpAnyH_take (i := 7) (v := .agg #[.bool A, .slice b1 n1 d1, .slice b2 n2 d2, .slice b3 n3 d3]) rfl (by kernel_rfl) (by kernel_rfl) (by kernel_rfl) (fun _ _ _ h => h) (Or.inl ⟨by rfl, ?_⟩) hHeld ?_
      · intro w9 hSw
        have s0 := hSw
        go_simp
      refine wpAnyH_take (i := 8) (v := .int .i64 q3) rfl (by kernel_rfl) (by kernel_rfl) (by kernel_rfl) (fun _ _ _ h => h) (Or.inl ⟨by rfl, ?_⟩) hHeld ?_
      · intro w9 hSw
        have s0 := hSw
        go_simp
      refine wpAnyH_take (i := 9) (v := .pointer (some ⟨g, k * 4, none⟩)) rfl (by kernel_rfl) (by kernel_rfl) (by kernel_rfl) (fun _ _ _ h => h) (Or.inl ⟨by rfl, ?_⟩) hHeld ?_
      · intro w9 hSw
        have s0 := hSw
        go_simp
      simp only [Act.put, setIfInBounds_toArray, set_cons_zero, set_cons_succ]
      obtain ⟨x0, f0⟩ := own_at HO1.out (mid0 _ _ _ _ _ _ _ HCL.out)
      obtain ⟨x1, f1⟩ := own_at HO1.out (mid1 _ _ _ _ _ _ _ HCL.out)
      obtain ⟨x2, f2⟩ := own_at HO1.out (mid2 _ _ _ _ _ _ _ HCL.out)
      obtain ⟨x3, f3⟩ := own_at HO1.out (mid3 _ _ _ _ _ _ _ HCL.out)
      have y1 := off_other (x := .bool A) x1 (j := k * 4) (by omega)
      have y2 := off_other (x := .slice b1 n1 d1) (off_other (x := .bool A) x2 (j := k * 4) (by omega)) (j := k * 4 + 1) (by omega)
      have y3 := off_other (x := .slice b2 n2 d2) (off_other (x := .slice b1 n1 d1) (off_other (x := .bool A) x3 (j := k * 4) (by omega)) (j := k * 4 + 1) (by omega)) (j := k * 4 + 2) (by omega)
      have HF : Hid (OwnsVs ((((w3.setCell ⟨g, k * 4, none⟩ (.bool A)).setCell ⟨g, k * 4 + 1, none⟩ (.slice b1 n1 d1)).setCell ⟨g, k * 4 + 2, none⟩ (.slice b2 n2 d2)).setCell ⟨g, k * 4 + 3, none⟩ (.slice b3 n3 d3)) (w.heap.size + 1) w3.heap.size (V ++ [⟨A, .slice b1 n1 d1, .slice b2 n2 d2, .slice b3 n3 d3⟩]) ((pagesM S).take (k + 1)) ∧ World.ownsRow ((((w3.setCell ⟨g, k * 4, none⟩ (.bool A)).setCell ⟨g, k * 4 + 1, none⟩ (.slice b1 n1 d1)).setCell ⟨g, k * 4 + 2, none⟩ (.slice b2 n2 d2)).setCell ⟨g, k * 4 + 3, none⟩ (.slice b3 n3 d3)) (w.heap.size + 1) 137 4 (.slice (some ⟨g, 0, none⟩) 50 cap) 50 (cellsN (V ++ [⟨A, .slice b1 n1 d1, .slice b2 n2 d2, .slice b3 n3 d3⟩]) ++ zs.drop ((k + 1) * 4))) := by
        have hln : (cellsN V ++ u0 :: u1 :: u2 :: u3 :: zs.drop ((k + 1) * 4)).length = 50 * 4 := HO1.out.1
        have s0 := own_set HO1.out (k * 4) (by rw [hln]; omega) (.bool A)
        have s1 := own_set s0 (k * 4 + 1) (by rw [List.length_set, hln]; omega) (.slice b1 n1 d1)
        have s2 := own_set s1 (k * 4 + 2) (by rw [List.length_set, List.length_set, hln]; omega) (.slice b2 n2 d2)
        have s3 := own_set s2 (k * 4 + 3) (by rw [List.length_set, List.length_set, List.length_set, hln]; omega) (.slice b3 n3 d3)
        rw [set4 _ _ _ _ _ _ _ _ _ _ _ HCL.out] at s3
        refine ⟨OwnsVs.setKind (Lib.ownsRow_kind s2 _ rfl) _ (OwnsVs.setKind (Lib.ownsRow_kind s1 _ rfl) _ (OwnsVs.setKind (Lib.ownsRow_kind s0 _ rfl) _ (OwnsVs.setKind (Lib.ownsRow_kind HO1.out _ rfl) _ HV1.out))), ?_⟩
        rw [cellsN_append, List.append_assoc]
        exact s3
      have NE : g ≠ hb0 := by have := GB.out; omega
      have NE2 : g ≠ w.heap.size := by have := GB.out; omega
      have HX2 : Hid (Box ((((w3.setCell ⟨g, k * 4, none⟩ (.bool A)).setCell ⟨g, k * 4 + 1, none⟩ (.slice b1 n1 d1)).setCell ⟨g, k * 4 + 2, none⟩ (.slice b2 n2 d2)).setCell ⟨g, k * 4 + 3, none⟩ (.slice b3 n3 d3)) hb0 [(.slice (some ⟨g, 0, none⟩) 50 cap)]) := (((X3.out.other _ (fun e => NE e.symm) _).other _ (fun e => NE e.symm) _).other _ (fun e => NE e.symm) _).other _ (fun e => NE e.symm) _
      have HR2 : Hid (Box ((((w3.setCell ⟨g, k * 4, none⟩ (.bool A)).setCell ⟨g, k * 4 + 1, none⟩ (.slice b1 n1 d1)).setCell ⟨g, k * 4 + 2, none⟩ (.slice b2 n2 d2)).setCell ⟨g, k * 4 + 3, none⟩ (.slice b3 n3 d3)) w.heap.size [.slice none 0 0]) := (((R3.out.other _ (fun e => NE2 e.symm) _).other _ (fun e => NE2 e.symm) _).other _ (fun e => NE2 e.symm) _).other _ (fun e => NE2 e.symm) _
      have gl : w.heap.size ≤ g := by have := GB.out; omega
      have HB2 : Hid (Below w.heap.size w ((((w3.setCell ⟨g, k * 4, none⟩ (.bool A)).setCell ⟨g, k * 4 + 1, none⟩ (.slice b1 n1 d1)).setCell ⟨g, k * 4 + 2, none⟩ (.slice b2 n2 d2)).setCell ⟨g, k * 4 + 3, none⟩ (.slice b3 n3 d3))) := (((B3.out.setCell gl _).setCell gl _).setCell gl _).setCell gl _
      have e4 := (HX2.out 0 _ rfl).1
      clear HV1 HO1 X3 B3 R3 e3
      refine wpAnyH_ready (rs := [10]) (by kernel_rfl) (by simp) ?_
      refine AllReadyH.cons rfl (fun K hK => ?_) AllReadyH.nil
      go_simp
      refine hK.out _ _ e4 (fun hHeld => ?_)
      clear hK K
      refine wpAnyH_done (by kernel_rfl) ?_ _
      refine NoPanic.normal ?_
      clear e4 x0 x1 x2 x3 y1 y2 y3 f0 f1 f2 f3
      go_wp2_with fail
      refine ⟨⟨k + 1, (V ++ [⟨A, .slice b1 n1 d1, .slice b2 n2 d2, .slice b3 n3 d3⟩]), by omega, by go_num, by show _ = _; rw [List.length_append, hV.out]; rfl, HB2, HR2, HX2, ?_, ?_⟩, by simp [intOf]; omega⟩
      · have := HF.out.1
        show OwnsVs _ _ _ _ _
        simp only [World.size_setCell]
        exact this
      · exact HF.out.2
    · have hki : ¬ (k : Int) < (50 : Int) := by omega
      have hkn : k = 50 := by omega
      have HF : Hid (OwnsHL wr (w.heap.size + 1) wr.heap.size (.slice (some ⟨g, 0, none⟩) 50 cap) 50 (pagesM S)) := by
        have h1 := hvs.out
        rw [List.take_of_length_le (by unfold pagesM; rw [List.length_map, HN.out.1]; omega)] at h1
        have h2 := ho.out
        rw [List.drop_eq_nil_of_le (by rw [ZL.out]; omega), List.append_nil] at h2
        exact ⟨V, h2, fun j e => (h2.lt j e).2, h1⟩
      obtain ⟨p0, _⟩ := hx.out 0 _ rfl
      obtain ⟨q0, q0f⟩ := hr.out 0 _ rfl
      have r0 := ((hr.out.set 0 (.slice (some ⟨g, 0, none⟩) 50 cap)) 0 _ rfl).1
      have OF : Hid (OwnsH (wr.setCell ⟨w.heap.size, 0, none⟩ (.slice (some ⟨g, 0, none⟩) 50 cap)) w.heap.size (wr.setCell ⟨w.heap.size, 0, none⟩ (.slice (some ⟨g, 0, none⟩) 50 cap)).heap.size (.agg #[(.slice (some ⟨g, 0, none⟩) 50 cap)]) (pagesM S)) := by
        refine ⟨_, rfl, ?_⟩
        have h9 := HF.out.turned (Turned.set wr ⟨w.heap.size, 0, none⟩ (lo := w.heap.size) (hi := w.heap.size + 1) (by dsimp only; omega) (by dsimp only; omega) (.slice (some ⟨g, 0, none⟩) 50 cap)) (.inr (Nat.le_refl _))
        have h8 : (pagesM S).length = 50 := by unfold pagesM; rw [List.length_map, HN.out.1]
        rw [h8]
        exact h9.mono (by omega) (by simp)
      have BF : Hid (Below w.heap.size w (wr.setCell ⟨w.heap.size, 0, none⟩ (.slice (some ⟨g, 0, none⟩) 50 cap))) := hb.out.setCell (Nat.le_refl _) _
      clear hkn HF
      go_wp2_with fail
      exact bodyPost_ret (v := .agg #[(.slice (some ⟨g, 0, none⟩) 50 cap)]) (by simp [results, Tryz.results102, go_sem, r0]) rfl ⟨_, rfl, OF.out, BF.out⟩
end Go.Proofs.YtnnimocaanofjaaGreatDoor
