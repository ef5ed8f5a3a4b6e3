/-
  Texts of the store, brought together: Sus. By an AI agent.
-/
import Derived.Test.YtnnimocaanofjaaGreatDoorSq20
namespace Go.Proofs.YtnnimocaanofjaaGreatDoor
open Go.ChangeShapes Go.WideShapes Go.ChangeAt Go.RowKit Go.Deep
set_option linter.unusedVariables false
set_option linter.unusedSimpArgs false
set_option maxRecDepth 100000
set_option maxHeartbeats 2000000 in
theorem l04Bytes (v : Value) (D : UM) (w : World) (hok : okU D = true) (h : ReadsU w v D) :
    Calls Tryz.prog 35 #[v] w fun e w' => ∃ u, e = .returned u ∧ w'.ownsRow w.heap.size 5 1 u (sealB (superL D)).length (cellsB (sealB (superL D))) ∧ (sealB (superL D)).length ≤ 1048576 ∧ Below w.heap.size w w' := by
  obtain ⟨a, c, rfl, s1⟩ := h
  have S1 : Hid (Src w a (cellsSn D.S)) := s1
  obtain ⟨n, hn⟩ : ∃ n, D.S.length = n := ⟨_, rfl⟩
  obtain ⟨G, hG⟩ : ∃ G, D.G = G := ⟨_, rfl⟩
  obtain ⟨R0, hR⟩ : ∃ R, D.R = R := ⟨_, rfl⟩
  have ND : Hid (D.S.length = n ∧ D.G = G ∧ D.R = R0) := ⟨hn, hG, hR⟩
  have HOK : Hid (okU D = true) := hok
  have FA : Hid (0 ≤ G ∧ G ≤ 200 ∧ -1 ≤ R0 ∧ R0 ≤ 49 ∧ n ≤ 4 ∧ ∀ i, i < n → (D.S.getD i sn0).1.size ≤ 8 ∧ -1 ≤ (D.S.getD i sn0).2.1 ∧ (D.S.getD i sn0).2.1 ≤ 49 ∧ 0 ≤ (D.S.getD i sn0).2.2 ∧ (D.S.getD i sn0).2.2 ≤ 60000) := by
    have := okU_facts HOK.out
    rw [ND.out.1, ND.out.2.1, ND.out.2.2] at this
    exact this
  rw [hn, hG, hR]
  clear s1 hn hG hR hok
  obtain ⟨fg1, fg2, fr1, fr2, fn4, _⟩ := FA.out
  have C3 : Hid ((#[.int .u8 115, .int .u8 G, .int .u8 (R0 + 1)] : Array Value).toList = cellsB [115, G.toNat % 256, (R0 + 1).toNat % 256]) := by
    show [Value.int .u8 115, .int .u8 G, .int .u8 (R0 + 1)] = [Value.int .u8 ((115 : Nat) : Int), .int .u8 ((G.toNat % 256 : Nat) : Int), .int .u8 (((R0 + 1).toNat % 256 : Nat) : Int)]
    rw [show ((G.toNat % 256 : Nat) : Int) = G from by omega, show (((R0 + 1).toNat % 256 : Nat) : Int) = R0 + 1 from by omega]
    rfl
  have W3 : Hid (World.ownsRow ((w.alloc (.cells #[.int .i64 G, .int .i64 R0, .slice a n c] 42)).alloc (.cells #[.int .u8 115, .int .u8 G, .int .u8 (R0 + 1)] 5)) (w.heap.size + 1) 5 1 (.slice (some ⟨w.heap.size + 1, 0, none⟩) 3 3) 3 (cellsB [115, G.toNat % 256, (R0 + 1).toNat % 256])) := by
    have := own_new (w := w.alloc (.cells #[.int .i64 G, .int .i64 R0, .slice a n c] 42)) (base := w.heap.size + 1) (t := 5) (n := 3) (by simp) C3.out rfl (by omega) rfl
    rw [World.size_alloc] at this
    exact this
  go_enter Tryz.func35, Tryz.ntmps35
  go_wp2_with fail
  have L0 : Hid (World.ownsRow (((w.alloc (.cells #[.int .i64 G, .int .i64 R0, .slice a n c] 42)).alloc (.cells #[.int .u8 115, .int .u8 G, .int .u8 (R0 + 1)] 5)).alloc (.cells #[] 9)) (w.heap.size + 2) 9 1 (.slice (some ⟨w.heap.size + 1 + 1, 0, none⟩) 0 0) 0 []) := own_empty (by simp) (by simp)
  go_loopw [4, 5] (fun lv iv wr => ∃ (k : Nat) (u : Value), u = lv ∧ k ≤ n ∧ iv = .int .i64 k ∧ Hid (Below w.heap.size w wr) ∧ Hid (Box wr w.heap.size [.int .i64 G, .int .i64 R0, .slice a n c]) ∧ Hid (wr.ownsRow (w.heap.size + 1) 5 1 (.slice (some ⟨w.heap.size + 1, 0, none⟩) 3 3) 3 (cellsB [115, G.toNat % 256, (R0 + 1).toNat % 256])) ∧ Hid (wr.ownsRow (w.heap.size + 2) 9 1 u k (cellsS ((D.S.map snapF).take k)))) (fun _ i _ => n - (intOf i).toNat)
  case atStart => exact ⟨0, _, rfl, by omega, rfl, (((Below.refl _ _).alloc (Nat.le_refl _) _).alloc (by simp) _).alloc (by simp; omega) _, ((Box.new rfl).old _).old _, own_below W3.out ((Below.refl _ _).alloc (Nat.le_refl _) _), L0.out⟩
  case round =>
    clear L0 W3
    obtain ⟨k, u, hu, hk, rfl, hb, hx, hh, ho⟩ := hrel
    subst hu
    obtain ⟨p2, _⟩ := hx.out 2 _ rfl
    by_cases hlt : k < n
    · have hki : (k : Int) < (n : Int) := by omega
      have hk0 : (0 : Int) ≤ (k : Int) := by omega
      obtain ⟨b, o, x, y, z, rfl, q1, q2, q3, hy⟩ := srcSn (S1.out.below hb.out) (i := k) (by rw [ND.out.1]; exact hlt)
      have FK : x.size ≤ 8 ∧ -1 ≤ y ∧ y ≤ 49 ∧ 0 ≤ z ∧ z ≤ 60000 := by
        have h9 := FA.out.2.2.2.2.2 k hlt
        rw [hy.out] at h9
        exact h9
      obtain ⟨f1, f2, f3, f4, f5⟩ := FK
      obtain ⟨zt, hzt⟩ : ∃ zt : Nat, z = (zt : Int) := ⟨z.toNat, by omega⟩
      subst hzt
      have ZT : Hid (zt ≤ 60000 ∧ ((zt : Int)).toNat = zt) := ⟨by omega, by omega⟩
      obtain ⟨ss, hss⟩ : ∃ ss, strB (snapH (x, y, (zt : Int))) = ss := ⟨_, rfl⟩
      have hs3 : ss.size = 3 := by rw [← hss, strB_size]; rfl
      have HSS : Hid (∀ g2 cap2 (w2 : World), Src w2 (some ⟨g2, 0, none⟩) (cellsB [(y + 1).toNat % 256] ++ cellsB (numB zt)) → (convert 74 9 (.slice (some ⟨g2, 0, none⟩) (1 + 2) cap2)).run Tryz.prog w2 = .ok (.string ss) w2) := fun g2 cap2 w2 h9 => by
        have e9 : cellsB [(y + 1).toNat % 256] ++ cellsB (numB zt) = cellsB (snapH (x, y, (zt : Int))) := by
          rw [← cellsB_append]
          unfold snapH numB
          rw [ZT.out.2]
          rfl
        rw [e9] at h9
        have h8 := conv_sub (c := cap2) h9 (s := 3) (Nat.le_refl _)
        rw [← hss]
        exact h8
      have SF : Hid (snapF (x, y, (zt : Int)) = ss ++ x) := by show _ = _; unfold snapF; rw [hss]
      have NX : Hid ((D.S.map snapF).take (k + 1) = (D.S.map snapF).take k ++ [ss ++ x]) := by
        show _ = _
        rw [List.take_succ_eq_append_getElem (by rw [List.length_map, ND.out.1]; exact hlt), List.getElem_map, ← SF.out, ← hy.out, List.getD_eq_getElem?_getD, List.getElem?_eq_getElem (by rw [ND.out.1]; exact hlt)]
        rfl
      clear hss
      have ZW : Hid (w.heap.size + 2 ≤ wr.heap.size) := by have h9 := (hh.out.lt (w.heap.size + 1) rfl).2; show _ ≤ _; omega
      have hlt3 : Hid (∀ g, Value.ownBlock u = some g → w.heap.size + 2 ≤ g ∧ g < wr.heap.size) := fun g e => ho.out.lt g e
      have C1 : Hid ((#[.int .u8 (y + 1)] : Array Value).toList = cellsB [(y + 1).toNat % 256]) := by
        show [Value.int .u8 (y + 1)] = [Value.int .u8 (((y + 1).toNat % 256 : Nat) : Int)]
        rw [show (((y + 1).toNat % 256 : Nat) : Int) = y + 1 from by omega]
      have hw2 : IntKind.i64.wrap (y + 1) = y + 1 := by rw [IntKind.wrap_i64]; omega
      have hw3 : IntKind.u8.wrap (y + 1) = y + 1 := by rw [IntKind.wrap_u8]; omega
      have HBX : Hid (Below wr.heap.size wr (wr.alloc (.cells #[.string x, .int .i64 y, .int .i64 (zt : Int)] 122)).drew) := ((Below.refl _ _).alloc (Nat.le_refl _) _).drew
      have HBA : Hid (Below wr.heap.size wr ((wr.alloc (.cells #[.string x, .int .i64 y, .int .i64 (zt : Int)] 122)).alloc (.cells #[.int .u8 (y + 1)] 5)).drew) := (((Below.refl _ _).alloc (Nat.le_refl _) _).alloc (by simp) _).drew
      have CX : Hid (Box (wr.alloc (.cells #[.string x, .int .i64 y, .int .i64 (zt : Int)] 122)).drew wr.heap.size [.string x, .int .i64 y, .int .i64 (zt : Int)]) := (Box.new rfl).drew
      have CA : Hid (Box ((wr.alloc (.cells #[.string x, .int .i64 y, .int .i64 (zt : Int)] 122)).alloc (.cells #[.int .u8 (y + 1)] 5)).drew wr.heap.size [.string x, .int .i64 y, .int .i64 (zt : Int)]) := ((Box.new rfl).old _).drew
      have OA : Hid (World.ownsRow ((wr.alloc (.cells #[.string x, .int .i64 y, .int .i64 (zt : Int)] 122)).alloc (.cells #[.int .u8 (y + 1)] 5)).drew (wr.heap.size + 1) 5 1 (.slice (some ⟨wr.heap.size + 1, 0, none⟩) 1 1) 1 (cellsB [(y + 1).toNat % 256])) := by
        have h9 := own_new (w := (wr.alloc (.cells #[.string x, .int .i64 y, .int .i64 (zt : Int)] 122))) (base := wr.heap.size + 1) (t := 5) (n := 1) (by simp) C1.out rfl (by omega) rfl
        have h8 : ((wr.alloc (.cells #[.string x, .int .i64 y, .int .i64 (zt : Int)] 122))).heap.size = wr.heap.size + 1 := by simp
        rw [h8] at h9
        exact h9
      obtain ⟨e0, _⟩ := CX.out 0 _ rfl; obtain ⟨e1, _⟩ := CX.out 1 _ rfl; obtain ⟨e2, _⟩ := CX.out 2 _ rfl
      go_wp2_with fail
      clear q1 q2 q3 p2
      refine wp_region_noPanic ?_
      refine wp_region_held_drew (S := (fun w' => w'.cell? ⟨wr.heap.size, 0, none⟩ = some (.string x) ∧ w'.cell? ⟨wr.heap.size, 1, none⟩ = some (.int .i64 y) ∧ w'.cell? ⟨wr.heap.size, 2, none⟩ = some (.int .i64 (zt : Int)))) (by kernel_rfl) ⟨e0, e1, e2⟩ (fun hHeld => ?_)
      refine wpAnyH_take (i := 0) (v := u) rfl (by kernel_rfl) (by kernel_rfl) (by kernel_rfl) (fun _ _ _ h => h) (Or.inl ⟨by rfl, ?_⟩) hHeld ?_
      · intro w9 hSw
        obtain ⟨s0, s1, s2⟩ := hSw
        go_simp
      refine wpAnyH_take (i := 1) (v := .pointer (some ⟨wr.heap.size, 1, none⟩)) rfl (by kernel_rfl) (by kernel_rfl) (by kernel_rfl) (fun _ _ _ h => h) (Or.inl ⟨by rfl, ?_⟩) hHeld ?_
      · intro w9 hSw
        obtain ⟨s0, s1, s2⟩ := hSw
        go_simp
      refine wpAnyH_take (i := 2) (v := .int .i64 y) rfl (by kernel_rfl) (by kernel_rfl) (by kernel_rfl) (fun _ _ _ h => h) (Or.inl ⟨by rfl, ?_⟩) hHeld ?_
      · intro w9 hSw
        obtain ⟨s0, s1, s2⟩ := hSw
        go_simp
      refine wpAnyH_take (i := 3) (v := .int .i64 (y + 1)) rfl (by kernel_rfl) (by kernel_rfl) (by kernel_rfl) (fun _ _ _ h => h) (Or.inl ⟨by rfl, ?_⟩) hHeld ?_
      · intro w9 hSw
        obtain ⟨s0, s1, s2⟩ := hSw
        go_simp
      refine wpAnyH_take (i := 4) (v := .int .u8 (y + 1)) rfl (by kernel_rfl) (by kernel_rfl) (by kernel_rfl) (fun _ _ _ h => h) (Or.inl ⟨by rfl, ?_⟩) hHeld ?_
      · intro w9 hSw
        obtain ⟨s0, s1, s2⟩ := hSw
        go_simp
      refine wpAnyH_take (i := 6) (v := .pointer (some ⟨wr.heap.size, 2, none⟩)) rfl (by kernel_rfl) (by kernel_rfl) (by kernel_rfl) (fun _ _ _ h => h) (Or.inl ⟨by rfl, ?_⟩) hHeld ?_
      · intro w9 hSw
        obtain ⟨s0, s1, s2⟩ := hSw
        go_simp
      refine wpAnyH_take (i := 7) (v := .int .i64 (zt : Int)) rfl (by kernel_rfl) (by kernel_rfl) (by kernel_rfl) (fun _ _ _ h => h) (Or.inl ⟨by rfl, ?_⟩) hHeld ?_
      · intro w9 hSw
        obtain ⟨s0, s1, s2⟩ := hSw
        go_simp
      refine wpAnyH_take (i := 11) (v := .pointer (some ⟨wr.heap.size, 0, none⟩)) rfl (by kernel_rfl) (by kernel_rfl) (by kernel_rfl) (fun _ _ _ h => h) (Or.inl ⟨by rfl, ?_⟩) hHeld ?_
      · intro w9 hSw
        obtain ⟨s0, s1, s2⟩ := hSw
        go_simp
      refine wpAnyH_take (i := 12) (v := .string x) rfl (by kernel_rfl) (by kernel_rfl) (by kernel_rfl) (fun _ _ _ h => h) (Or.inl ⟨by rfl, ?_⟩) hHeld ?_
      · intro w9 hSw
        obtain ⟨s0, s1, s2⟩ := hSw
        go_simp
      refine wpAnyH_ready (rs := [5, 8]) (by kernel_rfl) (by simp) ?_
      refine AllReadyH.cons rfl (fun K hK => ?_) (AllReadyH.cons rfl (fun K hK => ?_) AllReadyH.nil)
      · go_simp
        clear e0 e1 e2
        obtain ⟨e0, _⟩ := CA.out 0 _ rfl
        obtain ⟨e1, _⟩ := CA.out 1 _ rfl
        obtain ⟨e2, _⟩ := CA.out 2 _ rfl
        refine hK.out _ _ ⟨e0, e1, e2⟩ (fun hHeld => ?_)
        clear hK K
        refine wpAnyH_ready (rs := [8]) (by kernel_rfl) (by simp) ?_
        refine AllReadyH.cons rfl (fun K hK => ?_) AllReadyH.nil
        go_simp
        refine (l01Number2 zt _ (by omega)).mono ?_
        rintro e w1 ⟨v1, rfl, hv1, hb1⟩
        dsimp only
        obtain ⟨ao, c1, rfl, s1, _⟩ := own_src hv1
        obtain ⟨b1, o1, rfl⟩ := src_some s1
        have S9 : Hid (Src w1 (some ⟨b1, o1, none⟩) (cellsB (numB zt))) := s1
        have B1 : Hid (Below wr.heap.size wr w1) := HBA.out.trans (hb1.mono HBA.out.size)
        have BX1 : Hid (Box w1 wr.heap.size [.string x, .int .i64 y, .int .i64 (zt : Int)]) := CA.out.below hb1
        have O33 : Hid (w1.ownsRow (wr.heap.size + 1) 5 1 (.slice (some ⟨wr.heap.size + 1, 0, none⟩) 1 1) 1 (cellsB [(y + 1).toNat % 256])) := own_below OA.out hb1
        clear hv1 hb1 s1 e0 e1 e2
        obtain ⟨e0, _⟩ := BX1.out 0 _ rfl
        obtain ⟨e1, _⟩ := BX1.out 1 _ rfl
        obtain ⟨e2, _⟩ := BX1.out 2 _ rfl
        refine hK.out _ _ ⟨e0, e1, e2⟩ (fun hHeld => ?_)
        clear hK K
        refine wpAnyH_ready (rs := [9]) (by kernel_rfl) (by simp) ?_
        refine AllReadyH.cons rfl (fun K hK => ?_) AllReadyH.nil
        refine step_append_src rfl (.tmp 33) (.tmp 36) 74 rfl (wr.heap.size + 1) 5 (.int .u8 0) 1 1 Tryz.underlying74 infoB rfl (by decide) (by decide) (.slice (some ⟨wr.heap.size + 1, 0, none⟩) 1 1) 1 (cellsB [(y + 1).toNat % 256]) (by simp [Act.eval]) O33.out ⟨b1, o1, none⟩ 2 c1 (cellsB (numB zt)) (by simp [Act.eval]) rfl S9.out (cellsB_one _) (by omega) (by omega) (by have h9 := (O33.out.lt (wr.heap.size + 1) rfl).2; omega) ?_
        intro v2 w2 hown2 hgrow2 _
        have BW : Hid (Below wr.heap.size wr w2) := B1.out.grown hgrow2 B1.out.size (fun g e => by have h9 := (O33.out.lt g e).1; omega)
        have BX2 : Hid (Box w2 wr.heap.size [.string x, .int .i64 y, .int .i64 (zt : Int)]) := Box.grown BX1.out hgrow2 (fun e => by have h9 := (O33.out.lt _ e).1; omega)
        have B2 : Hid (Below w.heap.size w w2) := hb.out.trans (BW.out.mono hb.out.size)
        have Z2 : Hid (w.heap.size + 2 ≤ w2.heap.size) := (by have h8 := BW.out.size; have h9 := ZW.out; show _ ≤ _; omega)
        have O2 : Hid (w2.ownsRow (w.heap.size + 2) 9 1 u k (cellsS ((D.S.map snapF).take k))) := own_below ho.out BW.out
        have X2 : Hid (Box w2 w.heap.size [.int .i64 G, .int .i64 R0, .slice (some ⟨b, o, none⟩) n c]) := hx.out.below BW.out
        have Y2 : Hid (w2.ownsRow (w.heap.size + 1) 5 1 (.slice (some ⟨w.heap.size + 1, 0, none⟩) 3 3) 3 (cellsB [115, G.toNat % 256, (R0 + 1).toNat % 256])) := own_below hh.out BW.out
        obtain ⟨g2, cap2, rfl, hcap2, s2⟩ := own_some hown2 (by omega)
        have hcv : (convert 74 9 (.slice (some ⟨g2, 0, none⟩) 3 cap2)).run Tryz.prog w2 = .ok (.string ss) w2 := HSS.out g2 cap2 w2 s2
        clear hown2 hgrow2 s2 e0 e1 e2
        obtain ⟨e0, _⟩ := BX2.out 0 _ rfl
        obtain ⟨e1, _⟩ := BX2.out 1 _ rfl
        obtain ⟨e2, _⟩ := BX2.out 2 _ rfl
        refine hK.out _ _ ⟨e0, e1, e2⟩ (fun hHeld => ?_)
        clear hK K
        refine wpAnyH_ready (rs := [10]) (by kernel_rfl) (by simp) ?_
        refine AllReadyH.cons rfl (fun K hK => ?_) AllReadyH.nil
        go_simp
        refine hK.out _ _ ⟨e0, e1, e2⟩ (fun hHeld => ?_)
        clear hK K
        clear hcv
        have hcat : ¬ 9223372036854775807 < 3 + x.size := by omega
        refine wpAnyH_ready (rs := [13]) (by kernel_rfl) (by simp) ?_
        refine AllReadyH.cons rfl (fun K hK => ?_) AllReadyH.nil
        go_simp
        refine hK.out _ _ ⟨e0, e1, e2⟩ (fun hHeld => ?_)
        clear hK K
        have BB : Hid (Below w2.heap.size w2 (w2.alloc (.cells #[.string (ss ++ x)] 9))) := (Below.refl _ _).alloc (Nat.le_refl _) _
        have BX4 : Hid (Box (w2.alloc (.cells #[.string (ss ++ x)] 9)) wr.heap.size [.string x, .int .i64 y, .int .i64 (zt : Int)]) := BX2.out.below BB.out
        refine wpAnyH_ready (rs := [14]) (by kernel_rfl) (by simp) ?_
        refine AllReadyH.cons rfl (fun K hK => ?_) AllReadyH.nil
        go_simp
        clear e0 e1 e2
        obtain ⟨e0, _⟩ := BX4.out 0 _ rfl
        obtain ⟨e1, _⟩ := BX4.out 1 _ rfl
        obtain ⟨e2, _⟩ := BX4.out 2 _ rfl
        refine hK.out _ _ ⟨e0, e1, e2⟩ (fun hHeld => ?_)
        clear hK K
        refine wpAnyH_ready (rs := [15]) (by kernel_rfl) (by simp) ?_
        refine AllReadyH.cons rfl (fun K hK => ?_) AllReadyH.nil
        refine step_append_src rfl (.tmp 28) (.tmp 42) 22 rfl (w.heap.size + 2) 9 (.string ⟨#[]⟩) 1 16 Tryz.underlying22 infoS rfl (by decide) (by decide) u k (cellsS ((D.S.map snapF).take k)) (by simp [Act.eval]) (O2.out.alloc _) ⟨w2.heap.size, 0, none⟩ 1 1 (cellsS [ss ++ x]) (by simp [Act.eval]) rfl (src_oneS rfl) (cellsS_one _) (by omega) (by omega) (by have h9 := Z2.out; simp; omega) ?_
        intro v3 w3 hown3 hgrow3 _
        have O3 : Hid (w3.ownsRow (w.heap.size + 2) 9 1 v3 (k + 1) (cellsS ((D.S.map snapF).take (k + 1)))) := own_congr hown3 (by rw [NX.out, cellsS_append])
        have B3 : Hid (Below w.heap.size w w3) := (B2.out.alloc B2.out.size _).grown hgrow3 (le_alloc B2.out.size _) (fun g e => by have h9 := (hlt3.out g e).1; omega)
        have X3 : Hid (Box w3 w.heap.size [.int .i64 G, .int .i64 R0, .slice (some ⟨b, o, none⟩) n c]) := Box.grown (X2.out.below BB.out) hgrow3 (fun e => by have h9 := (hlt3.out _ e).1; omega)
        have Y3 : Hid (w3.ownsRow (w.heap.size + 1) 5 1 (.slice (some ⟨w.heap.size + 1, 0, none⟩) 3 3) 3 (cellsB [115, G.toNat % 256, (R0 + 1).toNat % 256])) := own_grown (own_below Y2.out BB.out) hgrow3 (fun g e e2 => by have h9 := (hlt3.out g e2).1; have e4 : some (w.heap.size + 1) = some g := e; injection e4 with e3; omega)
        have BX3 : Hid (Box w3 wr.heap.size [.string x, .int .i64 y, .int .i64 (zt : Int)]) := Box.grown BX4.out hgrow3 (fun e => by have h9 := (hlt3.out _ e).2; omega)
        clear hown3 hgrow3 e0 e1 e2
        obtain ⟨e0, _⟩ := BX3.out 0 _ rfl
        obtain ⟨e1, _⟩ := BX3.out 1 _ rfl
        obtain ⟨e2, _⟩ := BX3.out 2 _ rfl
        refine hK.out _ _ ⟨e0, e1, e2⟩ (fun hHeld => ?_)
        clear hK K
        refine wpAnyH_ready (rs := [16]) (by kernel_rfl) (by simp) ?_
        refine AllReadyH.cons rfl (fun K hK => ?_) AllReadyH.nil
        go_simp
        refine hK.out _ _ ⟨e0, e1, e2⟩ (fun hHeld => ?_)
        clear hK K
        refine wpAnyH_done (by kernel_rfl) ?_ _
        refine NoPanic.normal ?_
        go_wp2_with fail
        exact ⟨⟨k + 1, _, rfl, by omega, by go_num, B3.out, X3.out, Y3.out, O3.out⟩, by simp [intOf]; omega⟩
      · go_simp
        refine (l01Number2 zt _ (by omega)).mono ?_
        rintro e w1 ⟨v1, rfl, hv1, hb1⟩
        dsimp only
        obtain ⟨ao, c1, rfl, s1, _⟩ := own_src hv1
        obtain ⟨b1, o1, rfl⟩ := src_some s1
        have S9 : Hid (Src w1 (some ⟨b1, o1, none⟩) (cellsB (numB zt))) := s1
        have B1 : Hid (Below wr.heap.size wr w1) := HBX.out.trans (hb1.mono HBX.out.size)
        have BX1 : Hid (Box w1 wr.heap.size [.string x, .int .i64 y, .int .i64 (zt : Int)]) := CX.out.below hb1
        clear hv1 hb1 s1 e0 e1 e2
        obtain ⟨e0, _⟩ := BX1.out 0 _ rfl
        obtain ⟨e1, _⟩ := BX1.out 1 _ rfl
        obtain ⟨e2, _⟩ := BX1.out 2 _ rfl
        refine hK.out _ _ ⟨e0, e1, e2⟩ (fun hHeld => ?_)
        clear hK K
        have BX5 : Hid (Box (w1.alloc (.cells #[.int .u8 (y + 1)] 5)) wr.heap.size [.string x, .int .i64 y, .int .i64 (zt : Int)]) := BX1.out.old _
        have Z1 : Hid (wr.heap.size + 1 ≤ w1.heap.size) := World.block_lt_of_cell? _ _ e0
        refine wpAnyH_ready (rs := [5]) (by kernel_rfl) (by simp) ?_
        refine AllReadyH.cons rfl (fun K hK => ?_) AllReadyH.nil
        go_simp
        clear e0 e1 e2
        obtain ⟨e0, _⟩ := BX5.out 0 _ rfl
        obtain ⟨e1, _⟩ := BX5.out 1 _ rfl
        obtain ⟨e2, _⟩ := BX5.out 2 _ rfl
        refine hK.out _ _ ⟨e0, e1, e2⟩ (fun hHeld => ?_)
        clear hK K
        refine wpAnyH_ready (rs := [9]) (by kernel_rfl) (by simp) ?_
        refine AllReadyH.cons rfl (fun K hK => ?_) AllReadyH.nil
        refine step_append_src rfl (.tmp 33) (.tmp 36) 74 rfl (wr.heap.size + 1) 5 (.int .u8 0) 1 1 Tryz.underlying74 infoB rfl (by decide) (by decide) (.slice (some ⟨w1.heap.size, 0, none⟩) 1 1) 1 (cellsB [(y + 1).toNat % 256]) (by simp [Act.eval]) (own_new (n := 1) Z1.out C1.out rfl (by omega) rfl) ⟨b1, o1, none⟩ 2 c1 (cellsB (numB zt)) (by simp [Act.eval]) rfl (S9.out.below ((Below.refl _ _).alloc (Nat.le_refl _) _)) (cellsB_one _) (by omega) (by omega) (by have h9 := Z1.out; simp; omega) ?_
        intro v2 w2 hown2 hgrow2 _
        have BW : Hid (Below wr.heap.size wr w2) := (B1.out.alloc B1.out.size _).grown hgrow2 (le_alloc B1.out.size _) (fun g e => by cases e; exact B1.out.size)
        have BX2 : Hid (Box w2 wr.heap.size [.string x, .int .i64 y, .int .i64 (zt : Int)]) := Box.grown BX5.out hgrow2 (fun e => by have h9 := Z1.out; have e2 : some w1.heap.size = some wr.heap.size := e; injection e2 with e3; omega)
        have B2 : Hid (Below w.heap.size w w2) := hb.out.trans (BW.out.mono hb.out.size)
        have Z2 : Hid (w.heap.size + 2 ≤ w2.heap.size) := (by have h8 := BW.out.size; have h9 := ZW.out; show _ ≤ _; omega)
        have O2 : Hid (w2.ownsRow (w.heap.size + 2) 9 1 u k (cellsS ((D.S.map snapF).take k))) := own_below ho.out BW.out
        have X2 : Hid (Box w2 w.heap.size [.int .i64 G, .int .i64 R0, .slice (some ⟨b, o, none⟩) n c]) := hx.out.below BW.out
        have Y2 : Hid (w2.ownsRow (w.heap.size + 1) 5 1 (.slice (some ⟨w.heap.size + 1, 0, none⟩) 3 3) 3 (cellsB [115, G.toNat % 256, (R0 + 1).toNat % 256])) := own_below hh.out BW.out
        obtain ⟨g2, cap2, rfl, hcap2, s2⟩ := own_some hown2 (by omega)
        have hcv : (convert 74 9 (.slice (some ⟨g2, 0, none⟩) 3 cap2)).run Tryz.prog w2 = .ok (.string ss) w2 := HSS.out g2 cap2 w2 s2
        clear hown2 hgrow2 s2 e0 e1 e2
        obtain ⟨e0, _⟩ := BX2.out 0 _ rfl
        obtain ⟨e1, _⟩ := BX2.out 1 _ rfl
        obtain ⟨e2, _⟩ := BX2.out 2 _ rfl
        refine hK.out _ _ ⟨e0, e1, e2⟩ (fun hHeld => ?_)
        clear hK K
        refine wpAnyH_ready (rs := [10]) (by kernel_rfl) (by simp) ?_
        refine AllReadyH.cons rfl (fun K hK => ?_) AllReadyH.nil
        go_simp
        refine hK.out _ _ ⟨e0, e1, e2⟩ (fun hHeld => ?_)
        clear hK K
        clear hcv
        have hcat : ¬ 9223372036854775807 < 3 + x.size := by omega
        refine wpAnyH_ready (rs := [13]) (by kernel_rfl) (by simp) ?_
        refine AllReadyH.cons rfl (fun K hK => ?_) AllReadyH.nil
        go_simp
        refine hK.out _ _ ⟨e0, e1, e2⟩ (fun hHeld => ?_)
        clear hK K
        have BB : Hid (Below w2.heap.size w2 (w2.alloc (.cells #[.string (ss ++ x)] 9))) := (Below.refl _ _).alloc (Nat.le_refl _) _
        have BX4 : Hid (Box (w2.alloc (.cells #[.string (ss ++ x)] 9)) wr.heap.size [.string x, .int .i64 y, .int .i64 (zt : Int)]) := BX2.out.below BB.out
        refine wpAnyH_ready (rs := [14]) (by kernel_rfl) (by simp) ?_
        refine AllReadyH.cons rfl (fun K hK => ?_) AllReadyH.nil
        go_simp
        clear e0 e1 e2
        obtain ⟨e0, _⟩ := BX4.out 0 _ rfl
        obtain ⟨e1, _⟩ := BX4.out 1 _ rfl
        obtain ⟨e2, _⟩ := BX4.out 2 _ rfl
        refine hK.out _ _ ⟨e0, e1, e2⟩ (fun hHeld => ?_)
        clear hK K
        refine wpAnyH_ready (rs := [15]) (by kernel_rfl) (by simp) ?_
        refine AllReadyH.cons rfl (fun K hK => ?_) AllReadyH.nil
        refine step_append_src rfl (.tmp 28) (.tmp 42) 22 rfl (w.heap.size + 2) 9 (.string ⟨#[]⟩) 1 16 Tryz.underlying22 infoS rfl (by decide) (by decide) u k (cellsS ((D.S.map snapF).take k)) (by simp [Act.eval]) (O2.out.alloc _) ⟨w2.heap.size, 0, none⟩ 1 1 (cellsS [ss ++ x]) (by simp [Act.eval]) rfl (src_oneS rfl) (cellsS_one _) (by omega) (by omega) (by have h9 := Z2.out; simp; omega) ?_
        intro v3 w3 hown3 hgrow3 _
        have O3 : Hid (w3.ownsRow (w.heap.size + 2) 9 1 v3 (k + 1) (cellsS ((D.S.map snapF).take (k + 1)))) := own_congr hown3 (by rw [NX.out, cellsS_append])
        have B3 : Hid (Below w.heap.size w w3) := (B2.out.alloc B2.out.size _).grown hgrow3 (le_alloc B2.out.size _) (fun g e => by have h9 := (hlt3.out g e).1; omega)
        have X3 : Hid (Box w3 w.heap.size [.int .i64 G, .int .i64 R0, .slice (some ⟨b, o, none⟩) n c]) := Box.grown (X2.out.below BB.out) hgrow3 (fun e => by have h9 := (hlt3.out _ e).1; omega)
        have Y3 : Hid (w3.ownsRow (w.heap.size + 1) 5 1 (.slice (some ⟨w.heap.size + 1, 0, none⟩) 3 3) 3 (cellsB [115, G.toNat % 256, (R0 + 1).toNat % 256])) := own_grown (own_below Y2.out BB.out) hgrow3 (fun g e e2 => by have h9 := (hlt3.out g e2).1; have e4 : some (w.heap.size + 1) = some g := e; injection e4 with e3; omega)
        have BX3 : Hid (Box w3 wr.heap.size [.string x, .int .i64 y, .int .i64 (zt : Int)]) := Box.grown BX4.out hgrow3 (fun e => by have h9 := (hlt3.out _ e).2; omega)
        clear hown3 hgrow3 e0 e1 e2
        obtain ⟨e0, _⟩ := BX3.out 0 _ rfl
        obtain ⟨e1, _⟩ := BX3.out 1 _ rfl
        obtain ⟨e2, _⟩ := BX3.out 2 _ rfl
        refine hK.out _ _ ⟨e0, e1, e2⟩ (fun hHeld => ?_)
        clear hK K
        refine wpAnyH_ready (rs := [16]) (by kernel_rfl) (by simp) ?_
        refine AllReadyH.cons rfl (fun K hK => ?_) AllReadyH.nil
        go_simp
        refine hK.out _ _ ⟨e0, e1, e2⟩ (fun hHeld => ?_)
        clear hK K
        refine wpAnyH_done (by kernel_rfl) ?_ _
        refine NoPanic.normal ?_
        go_wp2_with fail
        exact ⟨⟨k + 1, _, rfl, by omega, by go_num, B3.out, X3.out, Y3.out, O3.out⟩, by simp [intOf]; omega⟩
    · have hkn : k = n := by omega
      have FO : Hid (wr.ownsRow (w.heap.size + 2) 9 1 u n (cellsS (D.S.map snapF))) := by
        have h9 := ho.out
        rw [hkn, List.take_of_length_le (by rw [List.length_map, ND.out.1]; exact Nat.le_refl _)] at h9
        exact h9
      obtain ⟨la, lc, rfl, ls, _⟩ := own_src FO.out
      have LS : Hid (Src wr la (cellsS (D.S.map snapF)) ∧ (D.S.map snapF).length = n ∧ n ≤ 4 ∧ ∀ y ∈ D.S.map snapF, y.size ≤ 300) := ⟨ls, by rw [List.length_map, ND.out.1], FA.out.2.2.2.2.1, snapF_all HOK.out⟩
      clear hkn ho ls
      go_wp2_with fail
      refine (l01Fields la n lc (D.S.map snapF) _ LS.out.2.1 (by have := LS.out.2.2.1; omega) LS.out.2.2.2 LS.out.1).mono ?_
      rintro e w3 ⟨v3, rfl, o3, hb3⟩
      obtain ⟨fa, fc, rfl, fs, _⟩ := own_src o3
      obtain ⟨F0, hF0⟩ : ∃ F0, fieldsB (D.S.map snapF) = F0 := ⟨_, rfl⟩
      obtain ⟨m, hm⟩ : ∃ m, F0.length = m := ⟨_, rfl⟩
      have HF0 : Hid (fieldsB (D.S.map snapF) = F0 ∧ F0.length = m ∧ m ≤ 1209 ∧ (∀ x ∈ F0, x < 256)) := ⟨hF0, hm, by rw [← hm, ← hF0]; have := fieldsB_le _ LS.out.2.2.2; have := LS.out.2.1; have := LS.out.2.2.1; omega, by rw [← hF0]; exact fieldsB_lt _⟩
      have B3 : Hid (Below w.heap.size w w3) := hb.out.trans (hb3.mono hb.out.size)
      have Y3 : Hid (w3.ownsRow (w.heap.size + 1) 5 1 (.slice (some ⟨w.heap.size + 1, 0, none⟩) 3 3) 3 (cellsB [115, G.toNat % 256, (R0 + 1).toNat % 256])) := own_below hh.out hb3
      rw [hF0] at fs ⊢
      have FS : Hid (Src w3 fa (cellsB F0)) := fs
      rw [hm]
      clear hb3 o3 fs hF0 hm hb hx hh p2
      have hm9 : m ≤ 1209 := HF0.out.2.2.1
      have Z3 : Hid (w.heap.size + 1 ≤ w3.heap.size) := by have h9 := (Y3.out.lt (w.heap.size + 1) rfl).2; show _ ≤ _; omega
      have SL : Hid (superL D = [115, G.toNat % 256, (R0 + 1).toNat % 256] ++ F0) := by show _ = _; unfold superL; rw [HF0.out.1, ND.out.2.1, ND.out.2.2]; rfl
      go_wp2_with (at_builtin; refine wpList_append_src _ rfl _ _ 74 rfl (w.heap.size + 1) 5 (.int .u8 0) 1 1 Tryz.underlying74 infoB rfl (by decide) (by decide) _ 3 (cellsB [115, G.toNat % 256, (R0 + 1).toNat % 256]) rfl Y3.out fa m fc (cellsB F0) rfl (by rw [cellsB_length, HF0.out.2.1]; omega) FS.out (cellsB_one _) (by omega) Z3.out ?_)
      intro v4 w4 hown4 hgrow4
      have O4 : Hid (w4.ownsRow (w.heap.size + 1) 5 1 v4 (3 + m) (cellsB (superL D))) := by rw [SL.out, cellsB_append]; exact hown4
      have B4 : Hid (Below w.heap.size w w4) := B3.out.grown hgrow4 B3.out.size (fun g e => by have e2 : some (w.heap.size + 1) = some g := e; injection e2 with e3; omega)
      have Z4 : Hid (w.heap.size + 1 ≤ w4.heap.size) := by have h8 := Z3.out; have h9 := hgrow4.size; show _ ≤ _; omega
      have S4 : Hid ((superL D).length = 3 + m ∧ ∀ x ∈ superL D, x < 256) := by
        refine ⟨by rw [SL.out, List.length_append, HF0.out.2.1]; rfl, fun x hx => ?_⟩
        rw [SL.out, List.mem_append] at hx
        rcases hx with hx | hx
        · simp at hx; omega
        · exact HF0.out.2.2.2 x hx
      clear hown4 hgrow4 FS Y3
      go_wp2_with fail
      refine (l03Sealed v4 (3 + m) (w.heap.size + 1) (superL D) _ S4.out.1 (by omega) S4.out.2 Z4.out O4.out).mono ?_
      rintro e w5 ⟨v5, rfl, o5, hb5⟩
      have B5 : Hid (Below w.heap.size w w5) := B4.out.trans (hb5.mono (by omega))
      have O5 : Hid (w5.ownsRow w.heap.size 5 1 v5 (sealB (superL D)).length (cellsB (sealB (superL D))) ∧ (sealB (superL D)).length ≤ 1048576) := by
        have e5 : (sealB (superL D)).length = 3 + m + 4 := by unfold sealB; rw [List.length_append, S4.out.1]; rfl
        rw [e5]
        exact ⟨own_mono o5 (by omega), by omega⟩
      clear hb5 o5
      go_wp2_with fail
      go_ret
      exact ⟨_, rfl, O5.out.1, O5.out.2, B5.out⟩
end Go.Proofs.YtnnimocaanofjaaGreatDoor
