
/-
  What a right superblock is: the specification's SuperOK. By an AI agent.
-/
import Derived.Test.YtnejklppbjkekaaDoorSok
namespace Go.Proofs.YtnejklppbjkekaaDoor
open Go.ChangeShapes Go.WideShapes Go.ChangeAt Go.RowKit Go.Deep
set_option linter.unusedVariables false
set_option maxRecDepth 100000


set_option maxHeartbeats 4000000 in
theorem specSuperOK (v : Value) (D : UM) (w : World) (hs : smallU D) (h : ReadsU w v D) :
    Calls Tryd.prog 68 #[v] w fun e w' => e = .returned (.bool (okU D)) ∧ Below w.heap.size w w' := by
  obtain ⟨a, c, rfl, s1⟩ := h
  obtain ⟨bb, hbb⟩ : ∃ bb, okU D = bb := ⟨_, rfl⟩
  rw [hbb]
  obtain ⟨pb, hpb⟩ : ∃ pb, snapsB D.S = pb := ⟨_, rfl⟩
  obtain ⟨n, hn⟩ : ∃ n, D.S.length = n := ⟨_, rfl⟩
  obtain ⟨G, hG⟩ : ∃ G, D.G = G := ⟨_, rfl⟩
  obtain ⟨R, hR⟩ : ∃ R, D.R = R := ⟨_, rfl⟩
  have S1 : Hid (Src w a (cellsSn D.S)) := s1
  have N1 : Hid (D.S.length = n) := hn
  have HF : Hid (bb = (decide (0 ≤ G ∧ G ≤ 200) && rootB R && decide (n ≤ 4) && pb)) := by
    show bb = _
    rw [← hbb, ← hpb, ← hn, ← hG, ← hR]; rfl
  have HL : Hid (∀ x ∈ D.S, x.1.size ≤ 1048576) := hs.2
  have PB : Hid (snapsB D.S = pb) := hpb
  have NB : Hid (n ≤ 1048576) := by rw [← hn]; exact hs.1
  rw [hn, hG, hR]
  clear s1 hn hG hR hbb hpb hs
  have rin : ∀ r : Int, (decide (-1 ≤ r) && decide (r ≤ 49)) = rootB r := fun r => by rw [Bool.eq_iff_iff]; simp [rootB]
  have tin : ∀ r : Int, (decide (0 ≤ r) && decide (r ≤ 60000)) = tickB r := fun r => by rw [Bool.eq_iff_iff]; simp [tickB]
  have RIN : Hid (∀ r : Int, (decide (-1 ≤ r) && decide (r ≤ 49)) = rootB r) := rin
  have TIN : Hid (∀ r : Int, (decide (0 ≤ r) && decide (r ≤ 60000)) = tickB r) := tin
  clear rin tin
  by_cases t1 : 0 ≤ G ∧ G ≤ 200
  case neg =>
    have F : Hid (bb = false) := by show bb = false; rw [HF.out, decide_eq_false t1]; rfl
    have HG : Hid ((decide (0 ≤ G) && decide (G ≤ 200)) = false) := by show _ = false; simp; omega
    clear HF t1
    go_enter Tryd.func68, Tryd.ntmps68
    go_wp2_with (go_at_call_of 116 (Value.int IntKind.i64 200); refine (l01InIs false _ _ _ _ HG.out).mono ?_; rintro e w9 ⟨rfl, rfl⟩)
    go_ret
    exact ⟨ret_bool F.out.symm, (Below.refl _ _).alloc (Nat.le_refl _) _⟩
  have HG : Hid ((decide (0 ≤ G) && decide (G ≤ 200)) = true) := by show _ = true; simp; omega
  cases hr : rootB R with
  | false =>
    have F : Hid (bb = false) := by show bb = false; rw [HF.out, hr]; simp
    have HR : Hid ((decide (-1 ≤ R) && decide (R ≤ 49)) = false) := by show _ = false; rw [RIN.out]; exact hr
    clear HF hr t1
    go_enter Tryd.func68, Tryd.ntmps68
    go_wp2_with (first | (go_at_call_of 116 (Value.int IntKind.i64 49); refine (l01InIs false _ _ _ _ HR.out).mono ?_; rintro e w9 ⟨rfl, rfl⟩) | (go_at_call_of 116 (Value.int IntKind.i64 200); refine (l01InIs true _ _ _ _ HG.out).mono ?_; rintro e w9 ⟨rfl, rfl⟩))
    go_ret
    exact ⟨ret_bool F.out.symm, (Below.refl _ _).alloc (Nat.le_refl _) _⟩
  | true =>
  have HR : Hid ((decide (-1 ≤ R) && decide (R ≤ 49)) = true) := by show _ = true; rw [RIN.out]; exact hr
  by_cases t3 : (4 : Int) < (n : Int)
  · have F : Hid (bb = false) := by show bb = false; rw [HF.out, decide_eq_false (p := n ≤ 4) (by omega)]; simp
    clear HF hr t1
    go_enter Tryd.func68, Tryd.ntmps68
    go_wp2_with (first | (go_at_call_of 116 (Value.int IntKind.i64 49); refine (l01InIs true _ _ _ _ HR.out).mono ?_; rintro e w9 ⟨rfl, rfl⟩) | (go_at_call_of 116 (Value.int IntKind.i64 200); refine (l01InIs true _ _ _ _ HG.out).mono ?_; rintro e w9 ⟨rfl, rfl⟩))
    go_ret
    exact ⟨ret_bool F.out.symm, (Below.refl _ _).alloc (Nat.le_refl _) _⟩
  have FP : Hid (bb = pb) := by show bb = pb; rw [HF.out, hr, decide_eq_true (p := n ≤ 4) (by omega), decide_eq_true t1]; simp
  clear HF hr t1
  go_enter Tryd.func68, Tryd.ntmps68
  go_wp2_with (first | (go_at_call_of 116 (Value.int IntKind.i64 49); refine (l01InIs true _ _ _ _ HR.out).mono ?_; rintro e w9 ⟨rfl, rfl⟩) | (go_at_call_of 116 (Value.int IntKind.i64 200); refine (l01InIs true _ _ _ _ HG.out).mono ?_; rintro e w9 ⟨rfl, rfl⟩))
  go_loopw [3] (fun i wr => ∃ k : Nat, k ≤ n ∧ i = .int .i64 k ∧ Hid (∀ j, j < k → snapB D.S j = true) ∧ Hid (Below w.heap.size w wr) ∧ Hid (Box wr w.heap.size [.int .i64 G, .int .i64 R, .slice a n c])) (fun i _ => n - (intOf i).toNat)
  case atStart => exact ⟨0, by omega, rfl, fun j hj => absurd hj (by omega), (Below.refl _ _).alloc (Nat.le_refl _) _, Box.new rfl⟩
  case round =>
    obtain ⟨k, hk, rfl, hg, hb, hx⟩ := hrel
    obtain ⟨g2, _⟩ := hx.out 2 _ rfl
    by_cases hlt : k < n
    · obtain ⟨b, o, x, y, z, rfl, q1, q2, q3, hy⟩ := srcSn (S1.out.below hb.out) (i := k) (by rw [N1.out]; exact hlt)
      have hki : (k : Int) < (n : Int) := by omega
      have hk0 : (0 : Int) ≤ (k : Int) := by omega
      have SX : Hid (x.size ≤ maxLen) := by
        have h1 := HL.out _ (mem_getD D.S sn0 k (by rw [N1.out]; exact hlt))
        rw [hy.out] at h1
        show x.size ≤ maxLen
        unfold maxLen; exact Nat.le_trans h1 (by omega)
      have HB1 : Hid (Below w.heap.size w (wr.alloc (.cells #[.string x, .int .i64 y, .int .i64 z] 95))) := hb.out.alloc hb.out.size _
      have HX1 : Hid (Box (wr.alloc (.cells #[.string x, .int .i64 y, .int .i64 z] 95)) w.heap.size [.int .i64 G, .int .i64 R, .slice (some ⟨b, o, none⟩) n c]) := hx.out.old _
      have hgd : Hid (snapB D.S k = (shortB x && rootB y && tickB z && upN D.S k)) := by show _ = _; unfold snapB; rw [hy.out]
      cases h1 : shortB x with
      | false =>
        have F : Hid (bb = false) := by
          show bb = false
          rw [FP.out, ← PB.out]
          exact snaps_bad (k := k) (by rw [N1.out]; exact hlt) (by rw [hgd.out, h1]; rfl)
        have H1 : Hid (shortB x = false) := h1
        clear h1
        go_wp2_with fail
        go_quiet ((go_at_call 126; exact Calls.quiet_of_same (l04NameIs false x _ H1.out SX.out)))
        go_wp2_with fail
        go_ret
        exact ⟨ret_bool F.out.symm, Below.drewN' HB1.out _⟩
      | true =>
      have H1 : Hid (shortB x = true) := h1
      cases h2 : rootB y with
      | false =>
        have F : Hid (bb = false) := by
          show bb = false
          rw [FP.out, ← PB.out]
          exact snaps_bad (k := k) (by rw [N1.out]; exact hlt) (by rw [hgd.out, h1, h2]; rfl)
        have H2 : Hid ((decide (-1 ≤ y) && decide (y ≤ 49)) = false) := by show _ = false; rw [RIN.out]; exact h2
        clear h1 h2
        go_wp2_with fail
        go_quiet (first | (go_at_call 126; exact Calls.quiet_of_same (l04NameIs true x _ H1.out SX.out)) | (go_at_call_of 116 (Value.int IntKind.i64 49); exact Calls.quiet_of_same (l01InIs false y (-1) 49 _ H2.out)))
        go_wp2_with fail
        go_ret
        exact ⟨ret_bool F.out.symm, Below.drewN' HB1.out _⟩
      | true =>
      have H2 : Hid ((decide (-1 ≤ y) && decide (y ≤ 49)) = true) := by show _ = true; rw [RIN.out]; exact h2
      cases h3 : tickB z with
      | false =>
        have F : Hid (bb = false) := by
          show bb = false
          rw [FP.out, ← PB.out]
          exact snaps_bad (k := k) (by rw [N1.out]; exact hlt) (by rw [hgd.out, h1, h2, h3]; rfl)
        have H3 : Hid ((decide (0 ≤ z) && decide (z ≤ 60000)) = false) := by show _ = false; rw [TIN.out]; exact h3
        clear h1 h2 h3
        go_wp2_with fail
        go_quiet (first | (go_at_call 126; exact Calls.quiet_of_same (l04NameIs true x _ H1.out SX.out)) | (go_at_call_of 116 (Value.int IntKind.i64 49); exact Calls.quiet_of_same (l01InIs true y (-1) 49 _ H2.out)) | (go_at_call_of 116 (Value.int IntKind.i64 60000); exact Calls.quiet_of_same (l01InIs false z 0 60000 _ H3.out)))
        go_wp2_with fail
        go_ret
        exact ⟨ret_bool F.out.symm, Below.drewN' HB1.out _⟩
      | true =>
      have H3 : Hid ((decide (0 ≤ z) && decide (z ≤ 60000)) = true) := by show _ = true; rw [TIN.out]; exact h3
      have hgd2 : Hid (snapB D.S k = upN D.S k) := by show _ = _; rw [hgd.out, h1, h2, h3]; rfl
      clear h1 h2 h3
      by_cases hz : k = 0
      · have hgood : Hid (snapB D.S k = true) := by show snapB D.S k = true; rw [hgd2.out]; unfold upN; rw [decide_eq_true hz]; rfl
        have hkz : decide (0 < k) = false := by simp; omega
        clear hz
        go_wp2_with fail
        go_quiet (first | (go_at_call 126; exact Calls.quiet_of_same (l04NameIs true x _ H1.out SX.out)) | (go_at_call_of 116 (Value.int IntKind.i64 49); exact Calls.quiet_of_same (l01InIs true y (-1) 49 _ H2.out)) | (go_at_call_of 116 (Value.int IntKind.i64 60000); exact Calls.quiet_of_same (l01InIs true z 0 60000 _ H3.out)))
        go_wp2_with fail
        exact ⟨⟨k + 1, by omega, by go_num, fun j hj => by
          by_cases e : j = k
          · rw [e]; exact hgood.out
          · exact hg.out j (by omega), Below.drewN' HB1.out _, HX1.out⟩, by simp [intOf]; omega⟩
      · obtain ⟨b4, o4, x4, y4, z4, e4, d1, d2, d3, hy4⟩ := srcSn (S1.out.below HB1.out) (i := k - 1) (by rw [N1.out]; omega)
        cases e4
        obtain ⟨g3, _⟩ := HX1.out 2 _ rfl
        have hkp : 0 < k := by omega
        have hkp2 : (0 : Int) < (k : Int) := by omega
        have hkm : (0 : Int) ≤ (k : Int) - 1 := by omega
        have hkm2 : (k : Int) - 1 < (n : Int) := by omega
        by_cases hl : Op.bytesLess x4.toList x.toList = true
        · have hgood : Hid (snapB D.S k = true) := by show snapB D.S k = true; rw [hgd2.out]; unfold upN; rw [hy.out, hy4.out, hl]; simp
          clear hz
          go_wp2_with fail
          go_quiet (first | (go_at_call 126; exact Calls.quiet_of_same (l04NameIs true x _ H1.out SX.out)) | (go_at_call_of 116 (Value.int IntKind.i64 49); exact Calls.quiet_of_same (l01InIs true y (-1) 49 _ H2.out)) | (go_at_call_of 116 (Value.int IntKind.i64 60000); exact Calls.quiet_of_same (l01InIs true z 0 60000 _ H3.out)))
          go_wp2_with fail
          exact ⟨⟨k + 1, by omega, by go_num, fun j hj => by
            by_cases e : j = k
            · rw [e]; exact hgood.out
            · exact hg.out j (by omega), Below.drewN' HB1.out _, HX1.out⟩, by simp [intOf]; omega⟩
        · have hl' : Op.bytesLess x4.toList x.toList = false := by simpa using hl
          have F : Hid (bb = false) := by
            show bb = false
            rw [FP.out, ← PB.out]
            exact snaps_bad (k := k) (by rw [N1.out]; exact hlt) (by rw [hgd2.out]; unfold upN; rw [hy.out, hy4.out, hl', decide_eq_false hz]; rfl)
          clear hl hz
          go_wp2_with fail
          go_quiet (first | (go_at_call 126; exact Calls.quiet_of_same (l04NameIs true x _ H1.out SX.out)) | (go_at_call_of 116 (Value.int IntKind.i64 49); exact Calls.quiet_of_same (l01InIs true y (-1) 49 _ H2.out)) | (go_at_call_of 116 (Value.int IntKind.i64 60000); exact Calls.quiet_of_same (l01InIs true z 0 60000 _ H3.out)))
          go_wp2_with fail
          go_ret
          exact ⟨ret_bool F.out.symm, Below.drewN' HB1.out _⟩
    · have hkn : k = n := by omega
      have F : Hid (bb = true) := by
        show bb = true
        rw [FP.out, ← PB.out]
        exact snaps_good fun j hj => hg.out j (by rw [N1.out] at hj; omega)
      clear hkn
      go_wp2_with fail
      go_ret
      exact ⟨ret_bool F.out.symm, hb.out⟩
end Go.Proofs.YtnejklppbjkekaaDoor
