
/-
  The link of a backup, by the specification. By an AI agent.
-/
import Derived.Test.YtmbndpgoihdpnaaDoorBks
namespace Go.Proofs.YtmbndpgoihdpnaaDoor
open Go.ChangeShapes Go.WideShapes Go.ChangeAt Go.RowKit Go.Deep
set_option linter.unusedVariables false
set_option linter.unusedSimpArgs false
set_option maxRecDepth 100000

set_option maxHeartbeats 8000000 in
theorem specLink (F T : ByteArray) (cx sx : Nat) (a : Option Addr) (n c : Nat) (M : List MDf) (w : World) (hF : F.size ≤ 8) (hT : T.size ≤ 8) (hc : cx < 4294967296) (hx : sx < 4294967296) (hM : M.length = n) (hn : n ≤ 120) (hs : ∀ p ∈ M, p.1.size ≤ 90 ∧ p.2.1.size ≤ 90 ∧ p.2.2.1.size ≤ 90) (h : Src w a (cellsDf M)) :
    Calls Tryd.prog 58 #[.agg #[.string F, .string T, .int .i64 (cx : Int), .slice a n c, .int .i64 (sx : Int)]] w fun e w' => e = .returned (.int .i64 ((sumL (numQ cx ++ fieldsB [F, T] ++ partsB M ++ numQ sx) : Nat) : Int)) ∧ Below w.heap.size w w' := by
  have HS : Hid (∀ p ∈ M, p.1.size ≤ 90 ∧ p.2.1.size ≤ 90 ∧ p.2.2.1.size ≤ 90) := hs
  have HH : Hid (Src w a (cellsDf M)) := h
  have HM : Hid (M.length = n) := hM
  obtain ⟨hd, hhd⟩ : ∃ x, numQ cx ++ fieldsB [F, T] = x := ⟨_, rfl⟩
  have HD : Hid (numQ cx ++ fieldsB [F, T] = hd) := hhd
  obtain ⟨pt, hpt⟩ : ∃ x, partsB M = x := ⟨_, rfl⟩
  have PT : Hid (partsB M = pt) := hpt
  obtain ⟨l1, hl1⟩ : ∃ l, hd.length = l := ⟨_, rfl⟩
  have L1 : Hid (hd.length = l1) := hl1
  obtain ⟨l2, hl2⟩ : ∃ l, pt.length = l := ⟨_, rfl⟩
  have L2 : Hid (pt.length = l2) := hl2
  have hl1b : l1 ≤ 25 ∧ 0 < l1 := by
    rw [← hl1, ← hhd, List.length_append, two_len]
    have h4 : (numQ cx).length = 4 := rfl
    omega
  have hl2b : l2 ≤ 33360 := by
    rw [← hl2, ← hpt]
    have h9 := partsB_len M n hs
    rw [List.take_of_length_le (by omega)] at h9
    omega
  have LT1 : Hid (∀ x ∈ hd, x < 256) := fun x hx9 => by
    rw [← hhd, List.mem_append] at hx9
    rcases hx9 with h9 | h9
    · exact numQ_lt _ x h9
    · exact fieldsB_ltP _ x h9
  have LT2 : Hid (∀ x ∈ pt, x < 256) := fun x hx9 => by rw [← hpt] at hx9; exact partsB_lt M x hx9
  have FL : Hid (∀ z ∈ [F, T], z.size ≤ 300) := fun z hz => by
    simp at hz
    rcases hz with rfl | rfl <;> omega
  obtain ⟨q, hq⟩ : ∃ q, (fieldsB [F, T]).length = q := ⟨_, rfl⟩
  have FQ : Hid ((fieldsB [F, T]).length = q) := hq
  have hq2 : q ≤ 21 ∧ 0 < q := by rw [← hq, two_len]; omega
  clear hq
  obtain ⟨tot, htot⟩ : ∃ x, hd ++ pt ++ numQ sx = x := ⟨_, rfl⟩
  have PL : Hid (hd.length = l1) := L1.out
  have TT : Hid (hd ++ pt ++ numQ sx = tot ∧ tot.length = l1 + l2 + 4) := ⟨htot, by rw [← htot, List.length_append, List.length_append, L1.out, L2.out]; rfl⟩
  have LQ : Hid (hd.length = 4 + q) := by show _ = _; rw [← HD.out, List.length_append, FQ.out]; rfl
  have LT : Hid (∀ x ∈ tot, x < 256) := fun x hx9 => by
    rw [← htot, List.mem_append, List.mem_append] at hx9
    rcases hx9 with (h9 | h9) | h9
    · exact LT1.out x h9
    · exact LT2.out x h9
    · exact numQ_lt _ x h9
  rw [hhd, hpt, htot]
  clear hs h hM hhd hpt hl1 hl2 htot
  go_enter Tryd.func58, Tryd.ntmps58
  go_wp2_with fail
  have B78 : Hid (Below w.heap.size w (w.alloc (.cells #[.string F, .string T, .int .i64 (cx : Int), .slice a n c, .int .i64 (sx : Int)] 37))) := (Below.refl _ _).alloc (Nat.le_refl _) _
  have X79 : Hid (Box ((w.alloc (.cells #[.string F, .string T, .int .i64 (cx : Int), .slice a n c, .int .i64 (sx : Int)] 37)).drew) w.heap.size [.string F, .string T, .int .i64 (cx : Int), .slice a n c, .int .i64 (sx : Int)]) := Box.new (w := w) rfl
  obtain ⟨e0, _⟩ := X79.out 0 _ rfl
  obtain ⟨e1, _⟩ := X79.out 1 _ rfl
  obtain ⟨e2, _⟩ := X79.out 2 _ rfl
  refine wp_region_noPanic ?_
  refine wp_region_held_drew (S := (fun w' => w'.cell? ⟨w.heap.size, 0, none⟩ = some (.string F) ∧ w'.cell? ⟨w.heap.size, 1, none⟩ = some (.string T) ∧ w'.cell? ⟨w.heap.size, 2, none⟩ = some (.int .i64 (cx : Int)))) (by kernel_rfl) ⟨e0, e1, e2⟩ (fun hHeld => ?_)
  refine wpAnyH_take (i := 0) (v := .pointer (some ⟨w.heap.size, 2, none⟩)) rfl (by kernel_rfl) (by kernel_rfl) (by kernel_rfl) (fun _ _ _ h => h) (Or.inl ⟨by kernel_rfl, ?_⟩) hHeld ?_
  · intro w9 hSw
    obtain ⟨s0, s1, s2⟩ := hSw
    go_simp
  simp only [Act.put, List.setIfInBounds_toArray, List.set_cons_zero, List.set_cons_succ]
  refine wpAnyH_take (i := 1) (v := .int .i64 (cx : Int)) rfl (by kernel_rfl) (by kernel_rfl) (by kernel_rfl) (fun _ _ _ h => h) (Or.inl ⟨by kernel_rfl, ?_⟩) hHeld ?_
  · intro w9 hSw
    obtain ⟨s0, s1, s2⟩ := hSw
    go_simp
  simp only [Act.put, List.setIfInBounds_toArray, List.set_cons_zero, List.set_cons_succ]
  refine wpAnyH_take (i := 3) (v := .pointer (some ⟨w.heap.size, 0, none⟩)) rfl (by kernel_rfl) (by kernel_rfl) (by kernel_rfl) (fun _ _ _ h => h) (Or.inl ⟨by kernel_rfl, ?_⟩) hHeld ?_
  · intro w9 hSw
    obtain ⟨s0, s1, s2⟩ := hSw
    go_simp
  simp only [Act.put, List.setIfInBounds_toArray, List.set_cons_zero, List.set_cons_succ]
  refine wpAnyH_take (i := 4) (v := .string F) rfl (by kernel_rfl) (by kernel_rfl) (by kernel_rfl) (fun _ _ _ h => h) (Or.inl ⟨by kernel_rfl, ?_⟩) hHeld ?_
  · intro w9 hSw
    obtain ⟨s0, s1, s2⟩ := hSw
    go_simp
  simp only [Act.put, List.setIfInBounds_toArray, List.set_cons_zero, List.set_cons_succ]
  refine wpAnyH_take (i := 5) (v := .pointer (some ⟨w.heap.size, 1, none⟩)) rfl (by kernel_rfl) (by kernel_rfl) (by kernel_rfl) (fun _ _ _ h => h) (Or.inl ⟨by kernel_rfl, ?_⟩) hHeld ?_
  · intro w9 hSw
    obtain ⟨s0, s1, s2⟩ := hSw
    go_simp
  simp only [Act.put, List.setIfInBounds_toArray, List.set_cons_zero, List.set_cons_succ]
  refine wpAnyH_take (i := 6) (v := .string T) rfl (by kernel_rfl) (by kernel_rfl) (by kernel_rfl) (fun _ _ _ h => h) (Or.inl ⟨by kernel_rfl, ?_⟩) hHeld ?_
  · intro w9 hSw
    obtain ⟨s0, s1, s2⟩ := hSw
    go_simp
  simp only [Act.put, List.setIfInBounds_toArray, List.set_cons_zero, List.set_cons_succ]
  refine wpAnyH_ready (rs := [2, 7]) (by kernel_rfl) (by simp) ?_
  refine AllReadyH.cons rfl (fun K hK => ?_) (AllReadyH.cons rfl (fun K hK => ?_) AllReadyH.nil)
  · skip
    go_simp
    refine (l01Number4 cx ((w.alloc (.cells #[.string F, .string T, .int .i64 (cx : Int), .slice a n c, .int .i64 (sx : Int)] 37)).drew) hc).mono ?_
    rintro e wa80 ⟨va80, rfl, o80, hb80⟩
    obtain ⟨g80, c80, rfl, _, _⟩ := own_src o80
    dsimp only
    have B81 : Hid (Below w.heap.size w (wa80)) := (B78.out.drew).trans (hb80.mono (B78.out.drew).size)
    have X82 : Hid (Box (wa80) w.heap.size [.string F, .string T, .int .i64 (cx : Int), .slice a n c, .int .i64 (sx : Int)]) := Box.below (w := (w.alloc (.cells #[.string F, .string T, .int .i64 (cx : Int), .slice a n c, .int .i64 (sx : Int)] 37)).drew) X79.out hb80
    have N83 : Hid (World.ownsRow (wa80) (w.heap.size + 1) 5 1 (.slice g80 4 c80) 4 (cellsB (numQ cx))) := own_mono o80 (show w.heap.size + 1 ≤ _ from World.block_lt_of_cell? _ _ (X79.out 0 _ rfl).1)
    clear o80 hb80
    clear e0 e1 e2
    obtain ⟨e0, _⟩ := X82.out 0 _ rfl
    obtain ⟨e1, _⟩ := X82.out 1 _ rfl
    obtain ⟨e2, _⟩ := X82.out 2 _ rfl
    refine hK _ _ ⟨e0, e1, e2⟩ (fun hHeld => ?_)
    clear hK K
    refine wpAnyH_ready (rs := [7]) (by kernel_rfl) (by simp) ?_
    refine AllReadyH.cons rfl (fun K hK => ?_) AllReadyH.nil
    go_simp
    have B84 : Hid (Below w.heap.size w (((wa80).alloc (.cells #[.string F, .string T] 9)))) := B81.out.alloc B81.out.size _
    have X85 : Hid (Box (((wa80).alloc (.cells #[.string F, .string T] 9))) w.heap.size [.string F, .string T, .int .i64 (cx : Int), .slice a n c, .int .i64 (sx : Int)]) := Box.old (w := wa80) X82.out _
    have N86 : Hid (World.ownsRow (((wa80).alloc (.cells #[.string F, .string T] 9))) (w.heap.size + 1) 5 1 (.slice g80 4 c80) 4 (cellsB (numQ cx))) := World.ownsRow.alloc (w := wa80) N83.out _
    have Q87 : Hid (Src (((wa80).alloc (.cells #[.string F, .string T] 9))) (some ⟨wa80.heap.size, 0, none⟩) (cellsS [F, T])) := src_2S (w := wa80) (by simp)
    clear e0 e1 e2
    obtain ⟨e0, _⟩ := X85.out 0 _ rfl
    obtain ⟨e1, _⟩ := X85.out 1 _ rfl
    obtain ⟨e2, _⟩ := X85.out 2 _ rfl
    refine hK _ _ ⟨e0, e1, e2⟩ (fun hHeld => ?_)
    clear hK K
    refine wpAnyH_ready (rs := [8]) (by kernel_rfl) (by simp) ?_
    refine AllReadyH.cons rfl (fun K hK => ?_) AllReadyH.nil
    go_simp
    refine (l01Fields (some ⟨wa80.heap.size, 0, none⟩) 2 2 [F, T] (((wa80).alloc (.cells #[.string F, .string T] 9))) rfl (by omega) FL.out Q87.out).mono ?_
    rintro e wa88 ⟨va88, rfl, o88, hb88⟩
    dsimp only
    rw [FQ.out] at o88
    obtain ⟨g88, c88, rfl, _, s88⟩ := own_some o88 (by omega)
    have B89 : Hid (Below w.heap.size w (wa88)) := (B84.out).trans (hb88.mono (B84.out).size)
    have X90 : Hid (Box (wa88) w.heap.size [.string F, .string T, .int .i64 (cx : Int), .slice a n c, .int .i64 (sx : Int)]) := Box.below (w := ((wa80).alloc (.cells #[.string F, .string T] 9))) X85.out hb88
    have N91 : Hid (World.ownsRow (wa88) (w.heap.size + 1) 5 1 (.slice g80 4 c80) 4 (cellsB (numQ cx))) := own_below (w := ((wa80).alloc (.cells #[.string F, .string T] 9))) N86.out hb88
    have Q92 : Hid (Src (wa88) (some ⟨wa80.heap.size, 0, none⟩) (cellsS [F, T])) := Src.below (w := ((wa80).alloc (.cells #[.string F, .string T] 9))) Q87.out hb88
    have P93 : Hid (Src (wa88) (some ⟨g88, 0, none⟩) (cellsB (fieldsB [F, T]))) := s88
    clear o88 hb88 s88
    clear e0 e1 e2
    obtain ⟨e0, _⟩ := X90.out 0 _ rfl
    obtain ⟨e1, _⟩ := X90.out 1 _ rfl
    obtain ⟨e2, _⟩ := X90.out 2 _ rfl
    refine hK _ _ ⟨e0, e1, e2⟩ (fun hHeld => ?_)
    clear hK K
    refine wpAnyH_ready (rs := [9]) (by kernel_rfl) (by simp) ?_
    refine AllReadyH.cons rfl (fun K hK => ?_) AllReadyH.nil
    refine step_append_src rfl (.tmp 7) (.tmp 13) 34 rfl (w.heap.size + 1) 5 (.int .u8 0) 1 1 Tryd.underlying34 infoB rfl (by decide) (by decide) (.slice g80 4 c80) 4 (cellsB (numQ cx)) (by rfl) N91.out ⟨g88, 0, none⟩ q c88 (cellsB (fieldsB [F, T])) (by rfl) (by rw [cellsB_length, FQ.out]; omega) P93.out (cellsB_one _) (by omega) (by omega) (show w.heap.size + 1 ≤ _ from World.block_lt_of_cell? _ _ (X90.out 0 _ rfl).1) ?_
    intro va94 wa94 hown94 hgrow94 _
    have B95 : Hid (Below w.heap.size w (wa94)) := (B89.out).grown hgrow94 (B89.out).size (fun g e => by have h9 := (N91.out.lt g e).1; omega)
    have X96 : Hid (Box (wa94) w.heap.size [.string F, .string T, .int .i64 (cx : Int), .slice a n c, .int .i64 (sx : Int)]) := Box.grown X90.out hgrow94 (fun e => by have h9 := (N91.out.lt _ e).1; omega)
    have R97 : Hid (World.ownsRow (wa94) (w.heap.size + 1) 5 1 (va94) (4 + q) (cellsB (numQ cx ++ fieldsB [F, T]))) := by rw [cellsB_append]; exact hown94
    clear hown94 hgrow94
    clear e0 e1 e2
    obtain ⟨e0, _⟩ := X96.out 0 _ rfl
    obtain ⟨e1, _⟩ := X96.out 1 _ rfl
    obtain ⟨e2, _⟩ := X96.out 2 _ rfl
    refine hK _ _ ⟨e0, e1, e2⟩ (fun hHeld => ?_)
    clear hK K
    refine wpAnyH_ready (rs := [10]) (by kernel_rfl) (by simp) ?_
    refine AllReadyH.cons rfl (fun K hK => ?_) AllReadyH.nil
    go_simp
    clear e0 e1 e2
    obtain ⟨e0, _⟩ := X96.out 0 _ rfl
    obtain ⟨e1, _⟩ := X96.out 1 _ rfl
    obtain ⟨e2, _⟩ := X96.out 2 _ rfl
    refine hK _ _ ⟨e0, e1, e2⟩ (fun hHeld => ?_)
    clear hK K
    refine wpAnyH_done (by kernel_rfl) ?_ _
    refine NoPanic.normal ?_
    clear e0 e1 e2
    clear hHeld
    have R0 : Hid ((wa94).ownsRow (w.heap.size + 1) 5 1 va94 hd.length (cellsB hd)) := by rw [LQ.out, ← HD.out]; exact R97.out
    go_wp2_with fail
    go_loopw [3, 4] (fun v i wr => ∃ (k : Nat), k ≤ n ∧ i = .int .i64 k ∧ Hid (Below w.heap.size w wr) ∧ Hid (Box wr w.heap.size [.string F, .string T, .int .i64 (cx : Int), .slice a n c, .int .i64 (sx : Int)]) ∧ Hid (wr.ownsRow (w.heap.size + 1) 5 1 v (hd ++ partsB (M.take k)).length (cellsB (hd ++ partsB (M.take k))))) (fun _ i _ => n - (intOf i).toNat)
    case atStart => exact ⟨0, by omega, rfl, B95.out, X96.out, by show World.ownsRow _ _ _ _ _ _ _; simpa [partsB] using R0.out⟩
    case round =>
      clear R0
      obtain ⟨k, hk, rfl, hb, hX, ho⟩ := hrel
      obtain ⟨va, vc, rfl, _, _⟩ := own_src ho.out
      obtain ⟨m, hm⟩ : ∃ m, (hd ++ partsB (M.take k)).length = m := ⟨_, rfl⟩
      have hm2 : m ≤ 33500 := by
        have h9 := partsB_len M k HS.out
        rw [← hm, List.length_append, PL.out]
        omega
      have HO : Hid (wr.ownsRow (w.heap.size + 1) 5 1 (.slice va m vc) m (cellsB (hd ++ partsB (M.take k)))) := by rw [← hm]; exact ho.out
      rw [hm]
      have MM : Hid ((hd ++ partsB (M.take k)).length = m) := hm
      have ZB : Hid (w.heap.size + 1 ≤ wr.heap.size) := World.block_lt_of_cell? _ _ (hX.out 0 _ rfl).1
      have hlt3 : Hid (∀ g, Value.ownBlock (.slice va m vc) = some g → w.heap.size + 1 ≤ g) := fun g e => (HO.out.lt g e).1
      clear ho hm
      obtain ⟨b3, _⟩ := hX.out 3 _ rfl
      by_cases hlt : k < n
      · obtain ⟨b, o, x0, x1, x2, x3, x4, rfl, q0, q1, q2, q3, q4, hy⟩ := srcDf (HH.out.below hb.out) (i := k) (by rw [HM.out]; exact hlt)
        have hki : (k : Int) < (n : Int) := by omega
        have hk0 : (0 : Int) ≤ (k : Int) := by omega
        have XY : Hid (x0.size ≤ 90 ∧ x1.size ≤ 90 ∧ x2.size ≤ 90) := by
          have h1 := HS.out _ (mem_getDK M df0 k (by rw [HM.out]; exact hlt))
          rw [hy.out] at h1
          exact h1
        have SN : Hid (partsB (M.take (k + 1)) = partsB (M.take k) ++ partB (x0, x1, x2, x3, x4)) := partsB_snoc (by rw [HM.out]; exact hlt) hy.out
        obtain ⟨q, hq⟩ : ∃ q, (partB (x0, x1, x2, x3, x4)).length = q := ⟨_, rfl⟩
        have Q : Hid ((partB (x0, x1, x2, x3, x4)).length = q) := hq
        have hq2 : q ≤ 278 ∧ 0 < q := by rw [← hq, partB_len]; have h9 := XY.out; dsimp only; omega
        clear hq
        go_wp2_with fail
        go_at_call 57
        refine (l06Diff x0 x1 x2 x3 x4 _ XY.out.1 XY.out.2.1 XY.out.2.2).mono ?_
        rintro e w2 ⟨v2, rfl, o2, hb2⟩
        rw [Q.out] at o2
        obtain ⟨g2, c2, rfl, _, s2⟩ := own_some o2 (by omega)
        have S2 : Hid (Src w2 (some ⟨g2, 0, none⟩) (cellsB (partB (x0, x1, x2, x3, x4)))) := s2
        have B2 : Hid (Below w.heap.size w w2) := hb.out.trans (hb2.mono hb.out.size)
        have X2 : Hid (Box w2 w.heap.size [.string F, .string T, .int .i64 (cx : Int), .slice (some ⟨b, o, none⟩) n c, .int .i64 (sx : Int)]) := hX.out.below hb2
        have O2 : Hid (w2.ownsRow (w.heap.size + 1) 5 1 (.slice va m vc) m (cellsB (hd ++ partsB (M.take k)))) := own_below HO.out hb2
        have Z2 : Hid (w.heap.size + 1 ≤ w2.heap.size) := World.block_lt_of_cell? _ _ (X2.out 0 _ rfl).1
        clear hb2 o2 s2 q0 q1 q2 q3 q4 b3
        go_wp2_with (at_builtin; refine wpList_append_src _ rfl _ _ 34 rfl (w.heap.size + 1) 5 (.int .u8 0) 1 1 Tryd.underlying34 infoB rfl (by decide) (by decide) _ m (cellsB (hd ++ partsB (M.take k))) rfl O2.out (some ⟨g2, 0, none⟩) q c2 (cellsB (partB (x0, x1, x2, x3, x4))) rfl (by rw [cellsB_length, Q.out]; omega) S2.out (cellsB_one _) (by omega) Z2.out ?_)
        intro v3 w3 hown3 hgrow3
        have X3 : Hid (Box w3 w.heap.size [.string F, .string T, .int .i64 (cx : Int), .slice (some ⟨b, o, none⟩) n c, .int .i64 (sx : Int)]) := Box.grown X2.out hgrow3 (fun e => by have h9 := hlt3.out _ e; omega)
        have B3 : Hid (Below w.heap.size w w3) := B2.out.grown hgrow3 B2.out.size (fun g e => by have h9 := hlt3.out g e; omega)
        have O3 : Hid (w3.ownsRow (w.heap.size + 1) 5 1 v3 (hd ++ partsB (M.take (k + 1))).length (cellsB (hd ++ partsB (M.take (k + 1))))) := by
          rw [SN.out, ← List.append_assoc, cellsB_append, List.length_append, MM.out, Q.out]
          exact hown3
        clear hown3 hgrow3
        go_wp2_with fail
        exact ⟨⟨k + 1, by omega, by go_num, B3.out, X3.out, O3.out⟩, by simp [intOf]; omega⟩
      · have hkn : ¬ (k : Int) < (n : Int) := by omega
        have EK : Hid (partsB (M.take k) = pt) := by show _ = _; rw [List.take_of_length_le (by rw [HM.out]; omega)]; exact PT.out
        rw [EK.out] at HO MM
        obtain ⟨b4, _⟩ := hX.out 4 _ rfl
        go_wp2_with fail
        go_at_call 55
        refine (l01Number4 sx _ hx).mono ?_
        rintro e w5 ⟨v5, rfl, o5, hb5⟩
        obtain ⟨g5, c5, rfl, _, s5⟩ := own_some o5 (by omega)
        have S5 : Hid (Src w5 (some ⟨g5, 0, none⟩) (cellsB (numQ sx))) := s5
        have B5 : Hid (Below w.heap.size w w5) := hb.out.trans (hb5.mono hb.out.size)
        have O5 : Hid (w5.ownsRow (w.heap.size + 1) 5 1 (.slice va m vc) m (cellsB (hd ++ pt))) := own_below HO.out hb5
        have Z5 : Hid (w.heap.size + 1 ≤ w5.heap.size) := Nat.le_trans ZB.out hb5.size
        clear hb5 o5 s5 b3 b4
        go_wp2_with (at_builtin; refine wpList_append_src _ rfl _ _ 34 rfl (w.heap.size + 1) 5 (.int .u8 0) 1 1 Tryd.underlying34 infoB rfl (by decide) (by decide) _ m (cellsB (hd ++ pt)) rfl O5.out (some ⟨g5, 0, none⟩) 4 c5 (cellsB (numQ sx)) rfl rfl S5.out (cellsB_one _) (by omega) Z5.out ?_)
        intro v6 w6 hown6 hgrow6
        obtain ⟨g6, c6, rfl, s6, _⟩ := own_src hown6
        have B6 : Hid (Below w.heap.size w w6) := B5.out.grown hgrow6 B5.out.size (fun g e => by have h9 := hlt3.out g e; omega)
        have S6 : Hid (Src w6 g6 (cellsB tot)) := by show Src w6 g6 (cellsB tot); rw [← TT.out.1, cellsB_append]; exact s6
        have E6 : Hid (tot.length = m + 4) := by show _ = _; rw [TT.out.2, ← MM.out, List.length_append, L1.out, L2.out]
        clear hown6 hgrow6 s6
        go_wp2_with fail
        go_at_call 84
        refine (l01CheckL g6 (m + 4) c6 tot _ E6.out (by omega) LT.out S6.out).mono ?_
        rintro e w7 ⟨rfl, hb7⟩
        have B7 : Hid (Below w.heap.size w w7) := B6.out.trans (hb7.mono B6.out.size)
        clear hb7
        go_wp2_with fail
        go_ret
        exact ⟨rfl, B7.out⟩
  · skip
    go_simp
    have B98 : Hid (Below w.heap.size w (((w.alloc (.cells #[.string F, .string T, .int .i64 (cx : Int), .slice a n c, .int .i64 (sx : Int)] 37)).alloc (.cells #[.string F, .string T] 9)))) := B78.out.alloc B78.out.size _
    have X99 : Hid (Box ((((w.alloc (.cells #[.string F, .string T, .int .i64 (cx : Int), .slice a n c, .int .i64 (sx : Int)] 37)).alloc (.cells #[.string F, .string T] 9))).drew) w.heap.size [.string F, .string T, .int .i64 (cx : Int), .slice a n c, .int .i64 (sx : Int)]) := Box.old (w := w.alloc (.cells #[.string F, .string T, .int .i64 (cx : Int), .slice a n c, .int .i64 (sx : Int)] 37)) X79.out _
    have Q100 : Hid (Src ((((w.alloc (.cells #[.string F, .string T, .int .i64 (cx : Int), .slice a n c, .int .i64 (sx : Int)] 37)).alloc (.cells #[.string F, .string T] 9))).drew) (some ⟨w.heap.size + 1, 0, none⟩) (cellsS [F, T])) := src_2S (w := w.alloc (.cells #[.string F, .string T, .int .i64 (cx : Int), .slice a n c, .int .i64 (sx : Int)] 37)) (by simp)
    clear e0 e1 e2
    obtain ⟨e0, _⟩ := X99.out 0 _ rfl
    obtain ⟨e1, _⟩ := X99.out 1 _ rfl
    obtain ⟨e2, _⟩ := X99.out 2 _ rfl
    refine hK _ _ ⟨e0, e1, e2⟩ (fun hHeld => ?_)
    clear hK K
    refine wpAnyH_ready (rs := [2]) (by kernel_rfl) (by simp) ?_
    refine AllReadyH.cons rfl (fun K hK => ?_) AllReadyH.nil
    go_simp
    refine (l01Number4 cx ((((w.alloc (.cells #[.string F, .string T, .int .i64 (cx : Int), .slice a n c, .int .i64 (sx : Int)] 37)).alloc (.cells #[.string F, .string T] 9))).drew) hc).mono ?_
    rintro e wa101 ⟨va101, rfl, o101, hb101⟩
    obtain ⟨g101, c101, rfl, _, _⟩ := own_src o101
    dsimp only
    have B102 : Hid (Below w.heap.size w (wa101)) := (B98.out.drew).trans (hb101.mono (B98.out.drew).size)
    have X103 : Hid (Box (wa101) w.heap.size [.string F, .string T, .int .i64 (cx : Int), .slice a n c, .int .i64 (sx : Int)]) := Box.below (w := (((w.alloc (.cells #[.string F, .string T, .int .i64 (cx : Int), .slice a n c, .int .i64 (sx : Int)] 37)).alloc (.cells #[.string F, .string T] 9))).drew) X99.out hb101
    have Q104 : Hid (Src (wa101) (some ⟨w.heap.size + 1, 0, none⟩) (cellsS [F, T])) := Src.below (w := (((w.alloc (.cells #[.string F, .string T, .int .i64 (cx : Int), .slice a n c, .int .i64 (sx : Int)] 37)).alloc (.cells #[.string F, .string T] 9))).drew) Q100.out hb101
    have N105 : Hid (World.ownsRow (wa101) (w.heap.size + 1) 5 1 (.slice g101 4 c101) 4 (cellsB (numQ cx))) := own_mono o101 (show w.heap.size + 1 ≤ _ from World.block_lt_of_cell? _ _ (X99.out 0 _ rfl).1)
    clear o101 hb101
    clear e0 e1 e2
    obtain ⟨e0, _⟩ := X103.out 0 _ rfl
    obtain ⟨e1, _⟩ := X103.out 1 _ rfl
    obtain ⟨e2, _⟩ := X103.out 2 _ rfl
    refine hK _ _ ⟨e0, e1, e2⟩ (fun hHeld => ?_)
    clear hK K
    refine wpAnyH_ready (rs := [8]) (by kernel_rfl) (by simp) ?_
    refine AllReadyH.cons rfl (fun K hK => ?_) AllReadyH.nil
    go_simp
    refine (l01Fields (some ⟨w.heap.size + 1, 0, none⟩) 2 2 [F, T] (wa101) rfl (by omega) FL.out Q104.out).mono ?_
    rintro e wa106 ⟨va106, rfl, o106, hb106⟩
    dsimp only
    rw [FQ.out] at o106
    obtain ⟨g106, c106, rfl, _, s106⟩ := own_some o106 (by omega)
    have B107 : Hid (Below w.heap.size w (wa106)) := (B102.out).trans (hb106.mono (B102.out).size)
    have X108 : Hid (Box (wa106) w.heap.size [.string F, .string T, .int .i64 (cx : Int), .slice a n c, .int .i64 (sx : Int)]) := Box.below (w := wa101) X103.out hb106
    have Q109 : Hid (Src (wa106) (some ⟨w.heap.size + 1, 0, none⟩) (cellsS [F, T])) := Src.below (w := wa101) Q104.out hb106
    have N110 : Hid (World.ownsRow (wa106) (w.heap.size + 1) 5 1 (.slice g101 4 c101) 4 (cellsB (numQ cx))) := own_below (w := wa101) N105.out hb106
    have P111 : Hid (Src (wa106) (some ⟨g106, 0, none⟩) (cellsB (fieldsB [F, T]))) := s106
    clear o106 hb106 s106
    clear e0 e1 e2
    obtain ⟨e0, _⟩ := X108.out 0 _ rfl
    obtain ⟨e1, _⟩ := X108.out 1 _ rfl
    obtain ⟨e2, _⟩ := X108.out 2 _ rfl
    refine hK _ _ ⟨e0, e1, e2⟩ (fun hHeld => ?_)
    clear hK K
    refine wpAnyH_ready (rs := [9]) (by kernel_rfl) (by simp) ?_
    refine AllReadyH.cons rfl (fun K hK => ?_) AllReadyH.nil
    refine step_append_src rfl (.tmp 7) (.tmp 13) 34 rfl (w.heap.size + 1) 5 (.int .u8 0) 1 1 Tryd.underlying34 infoB rfl (by decide) (by decide) (.slice g101 4 c101) 4 (cellsB (numQ cx)) (by rfl) N110.out ⟨g106, 0, none⟩ q c106 (cellsB (fieldsB [F, T])) (by rfl) (by rw [cellsB_length, FQ.out]; omega) P111.out (cellsB_one _) (by omega) (by omega) (show w.heap.size + 1 ≤ _ from World.block_lt_of_cell? _ _ (X108.out 0 _ rfl).1) ?_
    intro va112 wa112 hown112 hgrow112 _
    have B113 : Hid (Below w.heap.size w (wa112)) := (B107.out).grown hgrow112 (B107.out).size (fun g e => by have h9 := (N110.out.lt g e).1; omega)
    have X114 : Hid (Box (wa112) w.heap.size [.string F, .string T, .int .i64 (cx : Int), .slice a n c, .int .i64 (sx : Int)]) := Box.grown X108.out hgrow112 (fun e => by have h9 := (N110.out.lt _ e).1; omega)
    have R115 : Hid (World.ownsRow (wa112) (w.heap.size + 1) 5 1 (va112) (4 + q) (cellsB (numQ cx ++ fieldsB [F, T]))) := by rw [cellsB_append]; exact hown112
    clear hown112 hgrow112
    clear e0 e1 e2
    obtain ⟨e0, _⟩ := X114.out 0 _ rfl
    obtain ⟨e1, _⟩ := X114.out 1 _ rfl
    obtain ⟨e2, _⟩ := X114.out 2 _ rfl
    refine hK _ _ ⟨e0, e1, e2⟩ (fun hHeld => ?_)
    clear hK K
    refine wpAnyH_ready (rs := [10]) (by kernel_rfl) (by simp) ?_
    refine AllReadyH.cons rfl (fun K hK => ?_) AllReadyH.nil
    go_simp
    clear e0 e1 e2
    obtain ⟨e0, _⟩ := X114.out 0 _ rfl
    obtain ⟨e1, _⟩ := X114.out 1 _ rfl
    obtain ⟨e2, _⟩ := X114.out 2 _ rfl
    refine hK _ _ ⟨e0, e1, e2⟩ (fun hHeld => ?_)
    clear hK K
    refine wpAnyH_done (by kernel_rfl) ?_ _
    refine NoPanic.normal ?_
    clear e0 e1 e2
    clear hHeld
    have R0 : Hid ((wa112).ownsRow (w.heap.size + 1) 5 1 va112 hd.length (cellsB hd)) := by rw [LQ.out, ← HD.out]; exact R115.out
    go_wp2_with fail
    go_loopw [3, 4] (fun v i wr => ∃ (k : Nat), k ≤ n ∧ i = .int .i64 k ∧ Hid (Below w.heap.size w wr) ∧ Hid (Box wr w.heap.size [.string F, .string T, .int .i64 (cx : Int), .slice a n c, .int .i64 (sx : Int)]) ∧ Hid (wr.ownsRow (w.heap.size + 1) 5 1 v (hd ++ partsB (M.take k)).length (cellsB (hd ++ partsB (M.take k))))) (fun _ i _ => n - (intOf i).toNat)
    case atStart => exact ⟨0, by omega, rfl, B113.out, X114.out, by show World.ownsRow _ _ _ _ _ _ _; simpa [partsB] using R0.out⟩
    case round =>
      clear R0
      obtain ⟨k, hk, rfl, hb, hX, ho⟩ := hrel
      obtain ⟨va, vc, rfl, _, _⟩ := own_src ho.out
      obtain ⟨m, hm⟩ : ∃ m, (hd ++ partsB (M.take k)).length = m := ⟨_, rfl⟩
      have hm2 : m ≤ 33500 := by
        have h9 := partsB_len M k HS.out
        rw [← hm, List.length_append, PL.out]
        omega
      have HO : Hid (wr.ownsRow (w.heap.size + 1) 5 1 (.slice va m vc) m (cellsB (hd ++ partsB (M.take k)))) := by rw [← hm]; exact ho.out
      rw [hm]
      have MM : Hid ((hd ++ partsB (M.take k)).length = m) := hm
      have ZB : Hid (w.heap.size + 1 ≤ wr.heap.size) := World.block_lt_of_cell? _ _ (hX.out 0 _ rfl).1
      have hlt3 : Hid (∀ g, Value.ownBlock (.slice va m vc) = some g → w.heap.size + 1 ≤ g) := fun g e => (HO.out.lt g e).1
      clear ho hm
      obtain ⟨b3, _⟩ := hX.out 3 _ rfl
      by_cases hlt : k < n
      · obtain ⟨b, o, x0, x1, x2, x3, x4, rfl, q0, q1, q2, q3, q4, hy⟩ := srcDf (HH.out.below hb.out) (i := k) (by rw [HM.out]; exact hlt)
        have hki : (k : Int) < (n : Int) := by omega
        have hk0 : (0 : Int) ≤ (k : Int) := by omega
        have XY : Hid (x0.size ≤ 90 ∧ x1.size ≤ 90 ∧ x2.size ≤ 90) := by
          have h1 := HS.out _ (mem_getDK M df0 k (by rw [HM.out]; exact hlt))
          rw [hy.out] at h1
          exact h1
        have SN : Hid (partsB (M.take (k + 1)) = partsB (M.take k) ++ partB (x0, x1, x2, x3, x4)) := partsB_snoc (by rw [HM.out]; exact hlt) hy.out
        obtain ⟨q, hq⟩ : ∃ q, (partB (x0, x1, x2, x3, x4)).length = q := ⟨_, rfl⟩
        have Q : Hid ((partB (x0, x1, x2, x3, x4)).length = q) := hq
        have hq2 : q ≤ 278 ∧ 0 < q := by rw [← hq, partB_len]; have h9 := XY.out; dsimp only; omega
        clear hq
        go_wp2_with fail
        go_at_call 57
        refine (l06Diff x0 x1 x2 x3 x4 _ XY.out.1 XY.out.2.1 XY.out.2.2).mono ?_
        rintro e w2 ⟨v2, rfl, o2, hb2⟩
        rw [Q.out] at o2
        obtain ⟨g2, c2, rfl, _, s2⟩ := own_some o2 (by omega)
        have S2 : Hid (Src w2 (some ⟨g2, 0, none⟩) (cellsB (partB (x0, x1, x2, x3, x4)))) := s2
        have B2 : Hid (Below w.heap.size w w2) := hb.out.trans (hb2.mono hb.out.size)
        have X2 : Hid (Box w2 w.heap.size [.string F, .string T, .int .i64 (cx : Int), .slice (some ⟨b, o, none⟩) n c, .int .i64 (sx : Int)]) := hX.out.below hb2
        have O2 : Hid (w2.ownsRow (w.heap.size + 1) 5 1 (.slice va m vc) m (cellsB (hd ++ partsB (M.take k)))) := own_below HO.out hb2
        have Z2 : Hid (w.heap.size + 1 ≤ w2.heap.size) := World.block_lt_of_cell? _ _ (X2.out 0 _ rfl).1
        clear hb2 o2 s2 q0 q1 q2 q3 q4 b3
        go_wp2_with (at_builtin; refine wpList_append_src _ rfl _ _ 34 rfl (w.heap.size + 1) 5 (.int .u8 0) 1 1 Tryd.underlying34 infoB rfl (by decide) (by decide) _ m (cellsB (hd ++ partsB (M.take k))) rfl O2.out (some ⟨g2, 0, none⟩) q c2 (cellsB (partB (x0, x1, x2, x3, x4))) rfl (by rw [cellsB_length, Q.out]; omega) S2.out (cellsB_one _) (by omega) Z2.out ?_)
        intro v3 w3 hown3 hgrow3
        have X3 : Hid (Box w3 w.heap.size [.string F, .string T, .int .i64 (cx : Int), .slice (some ⟨b, o, none⟩) n c, .int .i64 (sx : Int)]) := Box.grown X2.out hgrow3 (fun e => by have h9 := hlt3.out _ e; omega)
        have B3 : Hid (Below w.heap.size w w3) := B2.out.grown hgrow3 B2.out.size (fun g e => by have h9 := hlt3.out g e; omega)
        have O3 : Hid (w3.ownsRow (w.heap.size + 1) 5 1 v3 (hd ++ partsB (M.take (k + 1))).length (cellsB (hd ++ partsB (M.take (k + 1))))) := by
          rw [SN.out, ← List.append_assoc, cellsB_append, List.length_append, MM.out, Q.out]
          exact hown3
        clear hown3 hgrow3
        go_wp2_with fail
        exact ⟨⟨k + 1, by omega, by go_num, B3.out, X3.out, O3.out⟩, by simp [intOf]; omega⟩
      · have hkn : ¬ (k : Int) < (n : Int) := by omega
        have EK : Hid (partsB (M.take k) = pt) := by show _ = _; rw [List.take_of_length_le (by rw [HM.out]; omega)]; exact PT.out
        rw [EK.out] at HO MM
        obtain ⟨b4, _⟩ := hX.out 4 _ rfl
        go_wp2_with fail
        go_at_call 55
        refine (l01Number4 sx _ hx).mono ?_
        rintro e w5 ⟨v5, rfl, o5, hb5⟩
        obtain ⟨g5, c5, rfl, _, s5⟩ := own_some o5 (by omega)
        have S5 : Hid (Src w5 (some ⟨g5, 0, none⟩) (cellsB (numQ sx))) := s5
        have B5 : Hid (Below w.heap.size w w5) := hb.out.trans (hb5.mono hb.out.size)
        have O5 : Hid (w5.ownsRow (w.heap.size + 1) 5 1 (.slice va m vc) m (cellsB (hd ++ pt))) := own_below HO.out hb5
        have Z5 : Hid (w.heap.size + 1 ≤ w5.heap.size) := Nat.le_trans ZB.out hb5.size
        clear hb5 o5 s5 b3 b4
        go_wp2_with (at_builtin; refine wpList_append_src _ rfl _ _ 34 rfl (w.heap.size + 1) 5 (.int .u8 0) 1 1 Tryd.underlying34 infoB rfl (by decide) (by decide) _ m (cellsB (hd ++ pt)) rfl O5.out (some ⟨g5, 0, none⟩) 4 c5 (cellsB (numQ sx)) rfl rfl S5.out (cellsB_one _) (by omega) Z5.out ?_)
        intro v6 w6 hown6 hgrow6
        obtain ⟨g6, c6, rfl, s6, _⟩ := own_src hown6
        have B6 : Hid (Below w.heap.size w w6) := B5.out.grown hgrow6 B5.out.size (fun g e => by have h9 := hlt3.out g e; omega)
        have S6 : Hid (Src w6 g6 (cellsB tot)) := by show Src w6 g6 (cellsB tot); rw [← TT.out.1, cellsB_append]; exact s6
        have E6 : Hid (tot.length = m + 4) := by show _ = _; rw [TT.out.2, ← MM.out, List.length_append, L1.out, L2.out]
        clear hown6 hgrow6 s6
        go_wp2_with fail
        go_at_call 84
        refine (l01CheckL g6 (m + 4) c6 tot _ E6.out (by omega) LT.out S6.out).mono ?_
        rintro e w7 ⟨rfl, hb7⟩
        have B7 : Hid (Below w.heap.size w w7) := B6.out.trans (hb7.mono B6.out.size)
        clear hb7
        go_wp2_with fail
        go_ret
        exact ⟨rfl, B7.out⟩
end Go.Proofs.YtmbndpgoihdpnaaDoor
