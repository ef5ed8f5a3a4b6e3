
/-
  The head of a backup's bytes and its link, by the program and by the specification. By an AI agent.
-/
import Derived.Test.YtmbndpgoihdpnaaDoorCct
import Derived.Deep.RegionHeld3
namespace Go.Proofs.YtmbndpgoihdpnaaDoor
open Go.ChangeShapes Go.WideShapes Go.ChangeAt Go.RowKit Go.Deep
set_option linter.unusedVariables false
set_option linter.unusedSimpArgs false
set_option maxRecDepth 100000

theorem numberBytesV (x : Nat) (w : World) (hx : x < 4294967296) :
    Calls Tryd.prog 46 #[.int .i64 (x : Int)] w fun e w' => ∃ v, e = .returned v ∧ w'.ownsRow w.heap.size 5 1 v 4 (cellsB (numQ x)) ∧ Below w.heap.size w w' :=
  (numberBytes x w hx).mono fun e w' ⟨h1, h2, h3⟩ => ⟨_, h1, h2, h3⟩
set_option maxHeartbeats 2000000 in
theorem backupHead (F T : ByteArray) (cx : Nat) (S : Int) (a : Option Addr) (n c : Nat) (w : World) (hF : F.size ≤ 8) (hT : T.size ≤ 8) (hc : cx < 4294967296) :
    Calls Tryd.prog 44 #[.agg #[.string F, .string T, .int .i64 (cx : Int), .slice a n c, .int .i64 S]] w fun e w' => ∃ v, e = .returned v ∧ w'.ownsRow (w.heap.size + 1) 5 1 v (numQ cx ++ fieldsB [F, T]).length (cellsB (numQ cx ++ fieldsB [F, T])) ∧ Below w.heap.size w w' := by
  have FL : Hid (∀ z ∈ [F, T], z.size ≤ 300) := fun z hz => by
    simp at hz
    rcases hz with rfl | rfl <;> omega
  obtain ⟨q, hq⟩ : ∃ q, (fieldsB [F, T]).length = q := ⟨_, rfl⟩
  have FQ : Hid ((fieldsB [F, T]).length = q) := hq
  have hq2 : q ≤ 21 ∧ 0 < q := by rw [← hq, two_len]; omega
  clear hq
  obtain ⟨hd, hhd⟩ : ∃ x, numQ cx ++ fieldsB [F, T] = x := ⟨_, rfl⟩
  have LQ : Hid (hd.length = 4 + q ∧ numQ cx ++ fieldsB [F, T] = hd) := ⟨by rw [← hhd, List.length_append, FQ.out]; rfl, hhd⟩
  rw [hhd]
  clear hhd
  go_enter Tryd.func44, Tryd.ntmps44
  go_wp2_with fail
  have B1 : Hid (Below w.heap.size w (w.alloc (.cells #[.string F, .string T, .int .i64 (cx : Int), .slice a n c, .int .i64 S] 37))) := (Below.refl _ _).alloc (Nat.le_refl _) _
  have X2 : Hid (Box ((w.alloc (.cells #[.string F, .string T, .int .i64 (cx : Int), .slice a n c, .int .i64 S] 37)).drew) w.heap.size [.string F, .string T, .int .i64 (cx : Int), .slice a n c, .int .i64 S]) := Box.new (w := w) rfl
  obtain ⟨e0, _⟩ := X2.out 0 _ rfl
  obtain ⟨e1, _⟩ := X2.out 1 _ rfl
  obtain ⟨e2, _⟩ := X2.out 2 _ rfl
  refine wp_region_noPanic ?_
  refine wp_region_held_drew (S := (fun w' => w'.cell? ⟨w.heap.size, 0, none⟩ = some (.string F) ∧ w'.cell? ⟨w.heap.size, 1, none⟩ = some (.string T) ∧ w'.cell? ⟨w.heap.size, 2, none⟩ = some (.int .i64 (cx : Int)))) (by kernel_rfl) ⟨e0, e1, e2⟩ (fun hHeld => ?_)
  refine wpAnyH_take (i := 0) (v := .pointer (some ⟨w.heap.size, 2, none⟩)) rfl (by kernel_rfl) (by kernel_rfl) (by kernel_rfl) (fun _ _ _ h => h) (Or.inl ⟨by kernel_rfl, ?_⟩) hHeld ?_
  · intro w9 hSw
    obtain ⟨s0, s1, s2⟩ := hSw
    go_simp
  simp only [Act.put, List.setIfInBounds_toArray, List.set_cons_zero, List.set_cons_succ]
  refine wpAnyH_take (i := 1) (v := .int .i64 (cx : Int)) rfl (by kernel_rfl) (by kernel_rfl) (by kernel_rfl) (fun _ _ _ h => h) (Or.inl ⟨by kernel_rfl, ?_⟩) hHeld ?_
  · intro w9 hSw
    obtain ⟨s0, s1, s2⟩ := hSw
    go_simp
  simp only [Act.put, List.setIfInBounds_toArray, List.set_cons_zero, List.set_cons_succ]
  refine wpAnyH_take (i := 3) (v := .pointer (some ⟨w.heap.size, 0, none⟩)) rfl (by kernel_rfl) (by kernel_rfl) (by kernel_rfl) (fun _ _ _ h => h) (Or.inl ⟨by kernel_rfl, ?_⟩) hHeld ?_
  · intro w9 hSw
    obtain ⟨s0, s1, s2⟩ := hSw
    go_simp
  simp only [Act.put, List.setIfInBounds_toArray, List.set_cons_zero, List.set_cons_succ]
  refine wpAnyH_take (i := 4) (v := .string F) rfl (by kernel_rfl) (by kernel_rfl) (by kernel_rfl) (fun _ _ _ h => h) (Or.inl ⟨by kernel_rfl, ?_⟩) hHeld ?_
  · intro w9 hSw
    obtain ⟨s0, s1, s2⟩ := hSw
    go_simp
  simp only [Act.put, List.setIfInBounds_toArray, List.set_cons_zero, List.set_cons_succ]
  refine wpAnyH_take (i := 5) (v := .pointer (some ⟨w.heap.size, 1, none⟩)) rfl (by kernel_rfl) (by kernel_rfl) (by kernel_rfl) (fun _ _ _ h => h) (Or.inl ⟨by kernel_rfl, ?_⟩) hHeld ?_
  · intro w9 hSw
    obtain ⟨s0, s1, s2⟩ := hSw
    go_simp
  simp only [Act.put, List.setIfInBounds_toArray, List.set_cons_zero, List.set_cons_succ]
  refine wpAnyH_take (i := 6) (v := .string T) rfl (by kernel_rfl) (by kernel_rfl) (by kernel_rfl) (fun _ _ _ h => h) (Or.inl ⟨by kernel_rfl, ?_⟩) hHeld ?_
  · intro w9 hSw
    obtain ⟨s0, s1, s2⟩ := hSw
    go_simp
  simp only [Act.put, List.setIfInBounds_toArray, List.set_cons_zero, List.set_cons_succ]
  refine wpAnyH_ready (rs := [2, 7]) (by kernel_rfl) (by simp) ?_
  refine AllReadyH.cons rfl (fun K hK => ?_) (AllReadyH.cons rfl (fun K hK => ?_) AllReadyH.nil)
  · skip
    go_simp
    refine (numberBytesV cx ((w.alloc (.cells #[.string F, .string T, .int .i64 (cx : Int), .slice a n c, .int .i64 S] 37)).drew) hc).mono ?_
    rintro e wa3 ⟨va3, rfl, o3, hb3⟩
    obtain ⟨g3, c3, rfl, _, _⟩ := own_src o3
    dsimp only
    have B4 : Hid (Below w.heap.size w (wa3)) := (B1.out.drew).trans (hb3.mono (B1.out.drew).size)
    have X5 : Hid (Box (wa3) w.heap.size [.string F, .string T, .int .i64 (cx : Int), .slice a n c, .int .i64 S]) := Box.below (w := (w.alloc (.cells #[.string F, .string T, .int .i64 (cx : Int), .slice a n c, .int .i64 S] 37)).drew) X2.out hb3
    have N6 : Hid (World.ownsRow (wa3) (w.heap.size + 1) 5 1 (.slice g3 4 c3) 4 (cellsB (numQ cx))) := own_mono o3 (show w.heap.size + 1 ≤ _ from World.block_lt_of_cell? _ _ (X2.out 0 _ rfl).1)
    clear o3 hb3
    clear e0 e1 e2
    obtain ⟨e0, _⟩ := X5.out 0 _ rfl
    obtain ⟨e1, _⟩ := X5.out 1 _ rfl
    obtain ⟨e2, _⟩ := X5.out 2 _ rfl
    refine hK _ _ ⟨e0, e1, e2⟩ (fun hHeld => ?_)
    clear hK K
    refine wpAnyH_ready (rs := [7]) (by kernel_rfl) (by simp) ?_
    refine AllReadyH.cons rfl (fun K hK => ?_) AllReadyH.nil
    go_simp
    have B7 : Hid (Below w.heap.size w (((wa3).alloc (.cells #[.string F, .string T] 9)))) := B4.out.alloc B4.out.size _
    have X8 : Hid (Box (((wa3).alloc (.cells #[.string F, .string T] 9))) w.heap.size [.string F, .string T, .int .i64 (cx : Int), .slice a n c, .int .i64 S]) := Box.old (w := wa3) X5.out _
    have N9 : Hid (World.ownsRow (((wa3).alloc (.cells #[.string F, .string T] 9))) (w.heap.size + 1) 5 1 (.slice g3 4 c3) 4 (cellsB (numQ cx))) := World.ownsRow.alloc (w := wa3) N6.out _
    have Q10 : Hid (Src (((wa3).alloc (.cells #[.string F, .string T] 9))) (some ⟨wa3.heap.size, 0, none⟩) (cellsS [F, T])) := src_2S (w := wa3) (by simp)
    clear e0 e1 e2
    obtain ⟨e0, _⟩ := X8.out 0 _ rfl
    obtain ⟨e1, _⟩ := X8.out 1 _ rfl
    obtain ⟨e2, _⟩ := X8.out 2 _ rfl
    refine hK _ _ ⟨e0, e1, e2⟩ (fun hHeld => ?_)
    clear hK K
    refine wpAnyH_ready (rs := [8]) (by kernel_rfl) (by simp) ?_
    refine AllReadyH.cons rfl (fun K hK => ?_) AllReadyH.nil
    go_simp
    refine (fieldsOf (some ⟨wa3.heap.size, 0, none⟩) 2 2 [F, T] (((wa3).alloc (.cells #[.string F, .string T] 9))) rfl (by omega) FL.out Q10.out).mono ?_
    rintro e wa11 ⟨va11, rfl, o11, hb11⟩
    dsimp only
    rw [FQ.out] at o11
    obtain ⟨g11, c11, rfl, _, s11⟩ := own_some o11 (by omega)
    have B12 : Hid (Below w.heap.size w (wa11)) := (B7.out).trans (hb11.mono (B7.out).size)
    have X13 : Hid (Box (wa11) w.heap.size [.string F, .string T, .int .i64 (cx : Int), .slice a n c, .int .i64 S]) := Box.below (w := ((wa3).alloc (.cells #[.string F, .string T] 9))) X8.out hb11
    have N14 : Hid (World.ownsRow (wa11) (w.heap.size + 1) 5 1 (.slice g3 4 c3) 4 (cellsB (numQ cx))) := own_below (w := ((wa3).alloc (.cells #[.string F, .string T] 9))) N9.out hb11
    have Q15 : Hid (Src (wa11) (some ⟨wa3.heap.size, 0, none⟩) (cellsS [F, T])) := Src.below (w := ((wa3).alloc (.cells #[.string F, .string T] 9))) Q10.out hb11
    have P16 : Hid (Src (wa11) (some ⟨g11, 0, none⟩) (cellsB (fieldsB [F, T]))) := s11
    clear o11 hb11 s11
    clear e0 e1 e2
    obtain ⟨e0, _⟩ := X13.out 0 _ rfl
    obtain ⟨e1, _⟩ := X13.out 1 _ rfl
    obtain ⟨e2, _⟩ := X13.out 2 _ rfl
    refine hK _ _ ⟨e0, e1, e2⟩ (fun hHeld => ?_)
    clear hK K
    refine wpAnyH_ready (rs := [9]) (by kernel_rfl) (by simp) ?_
    refine AllReadyH.cons rfl (fun K hK => ?_) AllReadyH.nil
    refine step_append_src rfl (.tmp 5) (.tmp 11) 34 rfl (w.heap.size + 1) 5 (.int .u8 0) 1 1 Tryd.underlying34 infoB rfl (by decide) (by decide) (.slice g3 4 c3) 4 (cellsB (numQ cx)) (by rfl) N14.out ⟨g11, 0, none⟩ q c11 (cellsB (fieldsB [F, T])) (by rfl) (by rw [cellsB_length, FQ.out]; omega) P16.out (cellsB_one _) (by omega) (by omega) (show w.heap.size + 1 ≤ _ from World.block_lt_of_cell? _ _ (X13.out 0 _ rfl).1) ?_
    intro va17 wa17 hown17 hgrow17 _
    have B18 : Hid (Below w.heap.size w (wa17)) := (B12.out).grown hgrow17 (B12.out).size (fun g e => by have h9 := (N14.out.lt g e).1; omega)
    have X19 : Hid (Box (wa17) w.heap.size [.string F, .string T, .int .i64 (cx : Int), .slice a n c, .int .i64 S]) := Box.grown X13.out hgrow17 (fun e => by have h9 := (N14.out.lt _ e).1; omega)
    have R20 : Hid (World.ownsRow (wa17) (w.heap.size + 1) 5 1 (va17) (4 + q) (cellsB (numQ cx ++ fieldsB [F, T]))) := by rw [cellsB_append]; exact hown17
    clear hown17 hgrow17
    clear e0 e1 e2
    obtain ⟨e0, _⟩ := X19.out 0 _ rfl
    obtain ⟨e1, _⟩ := X19.out 1 _ rfl
    obtain ⟨e2, _⟩ := X19.out 2 _ rfl
    refine hK _ _ ⟨e0, e1, e2⟩ (fun hHeld => ?_)
    clear hK K
    refine wpAnyH_ready (rs := [10]) (by kernel_rfl) (by simp) ?_
    refine AllReadyH.cons rfl (fun K hK => ?_) AllReadyH.nil
    go_simp
    clear e0 e1 e2
    obtain ⟨e0, _⟩ := X19.out 0 _ rfl
    obtain ⟨e1, _⟩ := X19.out 1 _ rfl
    obtain ⟨e2, _⟩ := X19.out 2 _ rfl
    refine hK _ _ ⟨e0, e1, e2⟩ (fun hHeld => ?_)
    clear hK K
    refine wpAnyH_done (by kernel_rfl) ?_ _
    refine NoPanic.normal ?_
    clear e0 e1 e2
    clear hHeld
    have FIN : Hid ((wa17).ownsRow (w.heap.size + 1) 5 1 va17 hd.length (cellsB hd)) := by rw [LQ.out.1, ← LQ.out.2]; exact R20.out
    go_wp2_with fail
    go_ret
    exact ⟨va17, rfl, FIN.out, B18.out⟩
  · skip
    go_simp
    have B21 : Hid (Below w.heap.size w (((w.alloc (.cells #[.string F, .string T, .int .i64 (cx : Int), .slice a n c, .int .i64 S] 37)).alloc (.cells #[.string F, .string T] 9)))) := B1.out.alloc B1.out.size _
    have X22 : Hid (Box ((((w.alloc (.cells #[.string F, .string T, .int .i64 (cx : Int), .slice a n c, .int .i64 S] 37)).alloc (.cells #[.string F, .string T] 9))).drew) w.heap.size [.string F, .string T, .int .i64 (cx : Int), .slice a n c, .int .i64 S]) := Box.old (w := w.alloc (.cells #[.string F, .string T, .int .i64 (cx : Int), .slice a n c, .int .i64 S] 37)) X2.out _
    have Q23 : Hid (Src ((((w.alloc (.cells #[.string F, .string T, .int .i64 (cx : Int), .slice a n c, .int .i64 S] 37)).alloc (.cells #[.string F, .string T] 9))).drew) (some ⟨w.heap.size + 1, 0, none⟩) (cellsS [F, T])) := src_2S (w := w.alloc (.cells #[.string F, .string T, .int .i64 (cx : Int), .slice a n c, .int .i64 S] 37)) (by simp)
    clear e0 e1 e2
    obtain ⟨e0, _⟩ := X22.out 0 _ rfl
    obtain ⟨e1, _⟩ := X22.out 1 _ rfl
    obtain ⟨e2, _⟩ := X22.out 2 _ rfl
    refine hK _ _ ⟨e0, e1, e2⟩ (fun hHeld => ?_)
    clear hK K
    refine wpAnyH_ready (rs := [2]) (by kernel_rfl) (by simp) ?_
    refine AllReadyH.cons rfl (fun K hK => ?_) AllReadyH.nil
    go_simp
    refine (numberBytesV cx ((((w.alloc (.cells #[.string F, .string T, .int .i64 (cx : Int), .slice a n c, .int .i64 S] 37)).alloc (.cells #[.string F, .string T] 9))).drew) hc).mono ?_
    rintro e wa24 ⟨va24, rfl, o24, hb24⟩
    obtain ⟨g24, c24, rfl, _, _⟩ := own_src o24
    dsimp only
    have B25 : Hid (Below w.heap.size w (wa24)) := (B21.out.drew).trans (hb24.mono (B21.out.drew).size)
    have X26 : Hid (Box (wa24) w.heap.size [.string F, .string T, .int .i64 (cx : Int), .slice a n c, .int .i64 S]) := Box.below (w := (((w.alloc (.cells #[.string F, .string T, .int .i64 (cx : Int), .slice a n c, .int .i64 S] 37)).alloc (.cells #[.string F, .string T] 9))).drew) X22.out hb24
    have Q27 : Hid (Src (wa24) (some ⟨w.heap.size + 1, 0, none⟩) (cellsS [F, T])) := Src.below (w := (((w.alloc (.cells #[.string F, .string T, .int .i64 (cx : Int), .slice a n c, .int .i64 S] 37)).alloc (.cells #[.string F, .string T] 9))).drew) Q23.out hb24
    have N28 : Hid (World.ownsRow (wa24) (w.heap.size + 1) 5 1 (.slice g24 4 c24) 4 (cellsB (numQ cx))) := own_mono o24 (show w.heap.size + 1 ≤ _ from World.block_lt_of_cell? _ _ (X22.out 0 _ rfl).1)
    clear o24 hb24
    clear e0 e1 e2
    obtain ⟨e0, _⟩ := X26.out 0 _ rfl
    obtain ⟨e1, _⟩ := X26.out 1 _ rfl
    obtain ⟨e2, _⟩ := X26.out 2 _ rfl
    refine hK _ _ ⟨e0, e1, e2⟩ (fun hHeld => ?_)
    clear hK K
    refine wpAnyH_ready (rs := [8]) (by kernel_rfl) (by simp) ?_
    refine AllReadyH.cons rfl (fun K hK => ?_) AllReadyH.nil
    go_simp
    refine (fieldsOf (some ⟨w.heap.size + 1, 0, none⟩) 2 2 [F, T] (wa24) rfl (by omega) FL.out Q27.out).mono ?_
    rintro e wa29 ⟨va29, rfl, o29, hb29⟩
    dsimp only
    rw [FQ.out] at o29
    obtain ⟨g29, c29, rfl, _, s29⟩ := own_some o29 (by omega)
    have B30 : Hid (Below w.heap.size w (wa29)) := (B25.out).trans (hb29.mono (B25.out).size)
    have X31 : Hid (Box (wa29) w.heap.size [.string F, .string T, .int .i64 (cx : Int), .slice a n c, .int .i64 S]) := Box.below (w := wa24) X26.out hb29
    have Q32 : Hid (Src (wa29) (some ⟨w.heap.size + 1, 0, none⟩) (cellsS [F, T])) := Src.below (w := wa24) Q27.out hb29
    have N33 : Hid (World.ownsRow (wa29) (w.heap.size + 1) 5 1 (.slice g24 4 c24) 4 (cellsB (numQ cx))) := own_below (w := wa24) N28.out hb29
    have P34 : Hid (Src (wa29) (some ⟨g29, 0, none⟩) (cellsB (fieldsB [F, T]))) := s29
    clear o29 hb29 s29
    clear e0 e1 e2
    obtain ⟨e0, _⟩ := X31.out 0 _ rfl
    obtain ⟨e1, _⟩ := X31.out 1 _ rfl
    obtain ⟨e2, _⟩ := X31.out 2 _ rfl
    refine hK _ _ ⟨e0, e1, e2⟩ (fun hHeld => ?_)
    clear hK K
    refine wpAnyH_ready (rs := [9]) (by kernel_rfl) (by simp) ?_
    refine AllReadyH.cons rfl (fun K hK => ?_) AllReadyH.nil
    refine step_append_src rfl (.tmp 5) (.tmp 11) 34 rfl (w.heap.size + 1) 5 (.int .u8 0) 1 1 Tryd.underlying34 infoB rfl (by decide) (by decide) (.slice g24 4 c24) 4 (cellsB (numQ cx)) (by rfl) N33.out ⟨g29, 0, none⟩ q c29 (cellsB (fieldsB [F, T])) (by rfl) (by rw [cellsB_length, FQ.out]; omega) P34.out (cellsB_one _) (by omega) (by omega) (show w.heap.size + 1 ≤ _ from World.block_lt_of_cell? _ _ (X31.out 0 _ rfl).1) ?_
    intro va35 wa35 hown35 hgrow35 _
    have B36 : Hid (Below w.heap.size w (wa35)) := (B30.out).grown hgrow35 (B30.out).size (fun g e => by have h9 := (N33.out.lt g e).1; omega)
    have X37 : Hid (Box (wa35) w.heap.size [.string F, .string T, .int .i64 (cx : Int), .slice a n c, .int .i64 S]) := Box.grown X31.out hgrow35 (fun e => by have h9 := (N33.out.lt _ e).1; omega)
    have R38 : Hid (World.ownsRow (wa35) (w.heap.size + 1) 5 1 (va35) (4 + q) (cellsB (numQ cx ++ fieldsB [F, T]))) := by rw [cellsB_append]; exact hown35
    clear hown35 hgrow35
    clear e0 e1 e2
    obtain ⟨e0, _⟩ := X37.out 0 _ rfl
    obtain ⟨e1, _⟩ := X37.out 1 _ rfl
    obtain ⟨e2, _⟩ := X37.out 2 _ rfl
    refine hK _ _ ⟨e0, e1, e2⟩ (fun hHeld => ?_)
    clear hK K
    refine wpAnyH_ready (rs := [10]) (by kernel_rfl) (by simp) ?_
    refine AllReadyH.cons rfl (fun K hK => ?_) AllReadyH.nil
    go_simp
    clear e0 e1 e2
    obtain ⟨e0, _⟩ := X37.out 0 _ rfl
    obtain ⟨e1, _⟩ := X37.out 1 _ rfl
    obtain ⟨e2, _⟩ := X37.out 2 _ rfl
    refine hK _ _ ⟨e0, e1, e2⟩ (fun hHeld => ?_)
    clear hK K
    refine wpAnyH_done (by kernel_rfl) ?_ _
    refine NoPanic.normal ?_
    clear e0 e1 e2
    clear hHeld
    have FIN : Hid ((wa35).ownsRow (w.heap.size + 1) 5 1 va35 hd.length (cellsB hd)) := by rw [LQ.out.1, ← LQ.out.2]; exact R38.out
    go_wp2_with fail
    go_ret
    exact ⟨va35, rfl, FIN.out, B36.out⟩
end Go.Proofs.YtmbndpgoihdpnaaDoor
