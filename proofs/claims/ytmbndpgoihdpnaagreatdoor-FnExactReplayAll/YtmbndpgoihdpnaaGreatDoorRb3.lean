/-
  Bks Bkt in one. By an AI agent.
-/
import Derived.Test.YtmbndpgoihdpnaaGreatDoorRa2
namespace Go.Proofs.YtmbndpgoihdpnaaGreatDoor
open Go.ChangeShapes Go.WideShapes Go.ChangeAt Go.RowKit Go.Deep
set_option linter.unusedVariables false
set_option linter.unusedSimpArgs false
set_option maxRecDepth 100000

theorem bitIs (b : Bool) (w : World) : Calls Tryz.prog 111 #[.bool b] w fun e w' => e = .returned (.int .i64 (if b = true then 1 else 0)) ∧ Below w.heap.size w w' := by
  cases b
  · go_enter Tryz.func111, Tryz.ntmps111
    go_wp2_with fail
    go_ret
    exact ⟨rfl, Below.refl _ _⟩
  · go_enter Tryz.func111, Tryz.ntmps111
    go_wp2_with fail
    go_ret
    exact ⟨rfl, Below.refl _ _⟩
theorem ownB_at {w : World} {base g n : Nat} (zs : List Nat) (hg : g = w.heap.size) (hb : base ≤ w.heap.size) (hn : zs.length = n) {cs : Array Value} (hc : cs.toList = cellsB zs) (hm : n ≤ 65536) : (w.alloc (.cells cs 5)).ownsRow base 5 1 (.slice (some ⟨g, 0, none⟩) n n) n (cellsB zs) := by
  subst hg
  exact own_new hb hc hn hm rfl
set_option maxHeartbeats 8000000 in
theorem l06Diff (x0 x1 x2 : ByteArray) (x3 x4 : Bool) (w : World) (h0 : x0.size ≤ 90) (h1 : x1.size ≤ 90) (h2 : x2.size ≤ 90) :
    Calls Tryz.prog 82 #[.agg #[.string x0, .string x1, .string x2, .bool x3, .bool x4]] w fun e w' => ∃ v, e = .returned v ∧ w'.ownsRow (w.heap.size + 1) 5 1 v (partB (x0, x1, x2, x3, x4)).length (cellsB (partB (x0, x1, x2, x3, x4))) ∧ Below w.heap.size w w' := by
  have FL : Hid (∀ z ∈ [x0, x1, x2], z.size ≤ 300) := fun z hz => by
    simp at hz
    rcases hz with rfl | rfl | rfl <;> omega
  obtain ⟨q, hq⟩ : ∃ q, (fieldsB [x0, x1, x2]).length = q := ⟨_, rfl⟩
  have FQ : Hid ((fieldsB [x0, x1, x2]).length = q) := hq
  have hq2 : q ≤ 277 ∧ 0 < q := by rw [← hq, three_len]; omega
  have LQ : Hid (∀ b3 b4, partB (x0, x1, x2, b3, b4) = kindN (x0, x1, x2, b3, b4) :: fieldsB [x0, x1, x2]) := fun _ _ => rfl
  clear hq h0 h1 h2
  cases x3 <;> cases x4
  · skip
    go_enter Tryz.func82, Tryz.ntmps82
    go_wp2_with fail
    have B1 : Hid (Below w.heap.size w (w.alloc (.cells #[.string x0, .string x1, .string x2, .bool false, .bool false] 108))) := (Below.refl _ _).alloc (Nat.le_refl _) _
    have X2 : Hid (Box ((w.alloc (.cells #[.string x0, .string x1, .string x2, .bool false, .bool false] 108)).drew) w.heap.size [.string x0, .string x1, .string x2, .bool false, .bool false]) := Box.new (w := w) rfl
    obtain ⟨e0, _⟩ := X2.out 0 _ rfl
    obtain ⟨e1, _⟩ := X2.out 1 _ rfl
    obtain ⟨e2, _⟩ := X2.out 2 _ rfl
    obtain ⟨e3, _⟩ := X2.out 3 _ rfl
    obtain ⟨e4, _⟩ := X2.out 4 _ rfl
    refine wp_region_noPanic ?_
    refine wp_region_held_drew (S := (fun w' => w'.cell? ⟨w.heap.size, 0, none⟩ = some (.string x0) ∧ w'.cell? ⟨w.heap.size, 1, none⟩ = some (.string x1) ∧ w'.cell? ⟨w.heap.size, 2, none⟩ = some (.string x2) ∧ w'.cell? ⟨w.heap.size, 3, none⟩ = some (.bool false) ∧ w'.cell? ⟨w.heap.size, 4, none⟩ = some (.bool false))) (by kernel_rfl) ⟨e0, e1, e2, e3, e4⟩ (fun hHeld => ?_)
    refine wpAnyH_take (i := 0) (v := .pointer (some ⟨w.heap.size, 3, none⟩)) rfl (by kernel_rfl) (by kernel_rfl) (by kernel_rfl) (fun _ _ _ h => h) (Or.inl ⟨by kernel_rfl, ?_⟩) hHeld ?_
    · intro w9 hSw
      obtain ⟨s0, s1, s2, s3, s4⟩ := hSw
      go_simp
    simp only [Act.put, List.setIfInBounds_toArray, List.set_cons_zero, List.set_cons_succ]
    refine wpAnyH_take (i := 1) (v := .bool false) rfl (by kernel_rfl) (by kernel_rfl) (by kernel_rfl) (fun _ _ _ h => h) (Or.inl ⟨by kernel_rfl, ?_⟩) hHeld ?_
    · intro w9 hSw
      obtain ⟨s0, s1, s2, s3, s4⟩ := hSw
      go_simp
    simp only [Act.put, List.setIfInBounds_toArray, List.set_cons_zero, List.set_cons_succ]
    refine wpAnyH_take (i := 3) (v := .pointer (some ⟨w.heap.size, 4, none⟩)) rfl (by kernel_rfl) (by kernel_rfl) (by kernel_rfl) (fun _ _ _ h => h) (Or.inl ⟨by kernel_rfl, ?_⟩) hHeld ?_
    · intro w9 hSw
      obtain ⟨s0, s1, s2, s3, s4⟩ := hSw
      go_simp
    simp only [Act.put, List.setIfInBounds_toArray, List.set_cons_zero, List.set_cons_succ]
    refine wpAnyH_take (i := 4) (v := .bool false) rfl (by kernel_rfl) (by kernel_rfl) (by kernel_rfl) (fun _ _ _ h => h) (Or.inl ⟨by kernel_rfl, ?_⟩) hHeld ?_
    · intro w9 hSw
      obtain ⟨s0, s1, s2, s3, s4⟩ := hSw
      go_simp
    simp only [Act.put, List.setIfInBounds_toArray, List.set_cons_zero, List.set_cons_succ]
    refine wpAnyH_take (i := 10) (v := .pointer (some ⟨w.heap.size, 0, none⟩)) rfl (by kernel_rfl) (by kernel_rfl) (by kernel_rfl) (fun _ _ _ h => h) (Or.inl ⟨by kernel_rfl, ?_⟩) hHeld ?_
    · intro w9 hSw
      obtain ⟨s0, s1, s2, s3, s4⟩ := hSw
      go_simp
    simp only [Act.put, List.setIfInBounds_toArray, List.set_cons_zero, List.set_cons_succ]
    refine wpAnyH_take (i := 11) (v := .string x0) rfl (by kernel_rfl) (by kernel_rfl) (by kernel_rfl) (fun _ _ _ h => h) (Or.inl ⟨by kernel_rfl, ?_⟩) hHeld ?_
    · intro w9 hSw
      obtain ⟨s0, s1, s2, s3, s4⟩ := hSw
      go_simp
    simp only [Act.put, List.setIfInBounds_toArray, List.set_cons_zero, List.set_cons_succ]
    refine wpAnyH_take (i := 12) (v := .pointer (some ⟨w.heap.size, 1, none⟩)) rfl (by kernel_rfl) (by kernel_rfl) (by kernel_rfl) (fun _ _ _ h => h) (Or.inl ⟨by kernel_rfl, ?_⟩) hHeld ?_
    · intro w9 hSw
      obtain ⟨s0, s1, s2, s3, s4⟩ := hSw
      go_simp
    simp only [Act.put, List.setIfInBounds_toArray, List.set_cons_zero, List.set_cons_succ]
    refine wpAnyH_take (i := 13) (v := .string x1) rfl (by kernel_rfl) (by kernel_rfl) (by kernel_rfl) (fun _ _ _ h => h) (Or.inl ⟨by kernel_rfl, ?_⟩) hHeld ?_
    · intro w9 hSw
      obtain ⟨s0, s1, s2, s3, s4⟩ := hSw
      go_simp
    simp only [Act.put, List.setIfInBounds_toArray, List.set_cons_zero, List.set_cons_succ]
    refine wpAnyH_take (i := 14) (v := .pointer (some ⟨w.heap.size, 2, none⟩)) rfl (by kernel_rfl) (by kernel_rfl) (by kernel_rfl) (fun _ _ _ h => h) (Or.inl ⟨by kernel_rfl, ?_⟩) hHeld ?_
    · intro w9 hSw
      obtain ⟨s0, s1, s2, s3, s4⟩ := hSw
      go_simp
    simp only [Act.put, List.setIfInBounds_toArray, List.set_cons_zero, List.set_cons_succ]
    refine wpAnyH_take (i := 15) (v := .string x2) rfl (by kernel_rfl) (by kernel_rfl) (by kernel_rfl) (fun _ _ _ h => h) (Or.inl ⟨by kernel_rfl, ?_⟩) hHeld ?_
    · intro w9 hSw
      obtain ⟨s0, s1, s2, s3, s4⟩ := hSw
      go_simp
    simp only [Act.put, List.setIfInBounds_toArray, List.set_cons_zero, List.set_cons_succ]
    refine wpAnyH_ready (rs := [2, 16]) (by kernel_rfl) (by simp) ?_
    refine AllReadyH.cons rfl (fun K hK => ?_) (AllReadyH.cons rfl (fun K hK => ?_) AllReadyH.nil)
    · skip
      go_simp
      refine (bitIs false ((w.alloc (.cells #[.string x0, .string x1, .string x2, .bool false, .bool false] 108)).drew)).mono ?_
      rintro e wa3 ⟨rfl, hb3⟩
      dsimp only
      have B4 : Hid (Below w.heap.size w (wa3)) := (B1.out.drew).trans (hb3.mono (B1.out.drew).size)
      have X5 : Hid (Box (wa3) w.heap.size [.string x0, .string x1, .string x2, .bool false, .bool false]) := Box.below (w := (w.alloc (.cells #[.string x0, .string x1, .string x2, .bool false, .bool false] 108)).drew) X2.out hb3
      clear hb3
      clear e0 e1 e2 e3 e4
      obtain ⟨e0, _⟩ := X5.out 0 _ rfl
      obtain ⟨e1, _⟩ := X5.out 1 _ rfl
      obtain ⟨e2, _⟩ := X5.out 2 _ rfl
      obtain ⟨e3, _⟩ := X5.out 3 _ rfl
      obtain ⟨e4, _⟩ := X5.out 4 _ rfl
      refine hK _ _ ⟨e0, e1, e2, e3, e4⟩ (fun hHeld => ?_)
      clear hK K
      refine wpAnyH_ready (rs := [5, 16]) (by kernel_rfl) (by simp) ?_
      refine AllReadyH.cons rfl (fun K hK => ?_) (AllReadyH.cons rfl (fun K hK => ?_) AllReadyH.nil)
      · skip
        go_simp
        refine (bitIs false (wa3)).mono ?_
        rintro e wa6 ⟨rfl, hb6⟩
        dsimp only
        have B7 : Hid (Below w.heap.size w (wa6)) := (B4.out).trans (hb6.mono (B4.out).size)
        have X8 : Hid (Box (wa6) w.heap.size [.string x0, .string x1, .string x2, .bool false, .bool false]) := Box.below (w := wa3) X5.out hb6
        clear hb6
        clear e0 e1 e2 e3 e4
        obtain ⟨e0, _⟩ := X8.out 0 _ rfl
        obtain ⟨e1, _⟩ := X8.out 1 _ rfl
        obtain ⟨e2, _⟩ := X8.out 2 _ rfl
        obtain ⟨e3, _⟩ := X8.out 3 _ rfl
        obtain ⟨e4, _⟩ := X8.out 4 _ rfl
        refine hK _ _ ⟨e0, e1, e2, e3, e4⟩ (fun hHeld => ?_)
        clear hK K
        refine wpAnyH_take (i := 6) (v := .int .i64 0) rfl (by kernel_rfl) (by kernel_rfl) (by kernel_rfl) (fun _ _ _ h => h) (Or.inl ⟨by kernel_rfl, ?_⟩) hHeld ?_
        · intro w9 hSw
          obtain ⟨s0, s1, s2, s3, s4⟩ := hSw
          go_simp
          first | rfl | decide
        simp only [Act.put, List.setIfInBounds_toArray, List.set_cons_zero, List.set_cons_succ]
        refine wpAnyH_take (i := 7) (v := .int .i64 0) rfl (by kernel_rfl) (by kernel_rfl) (by kernel_rfl) (fun _ _ _ h => h) (Or.inl ⟨by kernel_rfl, ?_⟩) hHeld ?_
        · intro w9 hSw
          obtain ⟨s0, s1, s2, s3, s4⟩ := hSw
          go_simp
          first | rfl | decide
        simp only [Act.put, List.setIfInBounds_toArray, List.set_cons_zero, List.set_cons_succ]
        refine wpAnyH_take (i := 8) (v := .int .u8 0) rfl (by kernel_rfl) (by kernel_rfl) (by kernel_rfl) (fun _ _ _ h => h) (Or.inl ⟨by kernel_rfl, ?_⟩) hHeld ?_
        · intro w9 hSw
          obtain ⟨s0, s1, s2, s3, s4⟩ := hSw
          go_simp
          first | rfl | decide
        simp only [Act.put, List.setIfInBounds_toArray, List.set_cons_zero, List.set_cons_succ]
        refine wpAnyH_ready (rs := [9, 16]) (by kernel_rfl) (by simp) ?_
        refine AllReadyH.cons rfl (fun K hK => ?_) (AllReadyH.cons rfl (fun K hK => ?_) AllReadyH.nil)
        · skip
          go_simp
          have B9 : Hid (Below w.heap.size w (((wa6).alloc (.cells #[.int .u8 0] 5)))) := B7.out.alloc B7.out.size _
          have X10 : Hid (Box (((wa6).alloc (.cells #[.int .u8 0] 5))) w.heap.size [.string x0, .string x1, .string x2, .bool false, .bool false]) := Box.old (w := wa6) X8.out _
          have N11 : Hid (World.ownsRow (((wa6).alloc (.cells #[.int .u8 0] 5))) (w.heap.size + 1) 5 1 (.slice (some ⟨wa6.heap.size, 0, none⟩) 1 1) 1 (cellsB [0])) := ownB_at (w := wa6) [0] (by simp) (show w.heap.size + 1 ≤ _ from World.block_lt_of_cell? _ _ (X8.out 0 _ rfl).1) rfl rfl (by decide)
          clear e0 e1 e2 e3 e4
          obtain ⟨e0, _⟩ := X10.out 0 _ rfl
          obtain ⟨e1, _⟩ := X10.out 1 _ rfl
          obtain ⟨e2, _⟩ := X10.out 2 _ rfl
          obtain ⟨e3, _⟩ := X10.out 3 _ rfl
          obtain ⟨e4, _⟩ := X10.out 4 _ rfl
          refine hK _ _ ⟨e0, e1, e2, e3, e4⟩ (fun hHeld => ?_)
          clear hK K
          refine wpAnyH_ready (rs := [16]) (by kernel_rfl) (by simp) ?_
          refine AllReadyH.cons rfl (fun K hK => ?_) AllReadyH.nil
          go_simp
          have B12 : Hid (Below w.heap.size w (((((wa6).alloc (.cells #[.int .u8 0] 5))).alloc (.cells #[.string x0, .string x1, .string x2] 9)))) := B9.out.alloc B9.out.size _
          have X13 : Hid (Box (((((wa6).alloc (.cells #[.int .u8 0] 5))).alloc (.cells #[.string x0, .string x1, .string x2] 9))) w.heap.size [.string x0, .string x1, .string x2, .bool false, .bool false]) := Box.old (w := ((wa6).alloc (.cells #[.int .u8 0] 5))) X10.out _
          have N14 : Hid (World.ownsRow (((((wa6).alloc (.cells #[.int .u8 0] 5))).alloc (.cells #[.string x0, .string x1, .string x2] 9))) (w.heap.size + 1) 5 1 (.slice (some ⟨wa6.heap.size, 0, none⟩) 1 1) 1 (cellsB [0])) := World.ownsRow.alloc (w := ((wa6).alloc (.cells #[.int .u8 0] 5))) N11.out _
          have Q15 : Hid (Src (((((wa6).alloc (.cells #[.int .u8 0] 5))).alloc (.cells #[.string x0, .string x1, .string x2] 9))) (some ⟨wa6.heap.size + 1, 0, none⟩) (cellsS [x0, x1, x2])) := src_3S (w := ((wa6).alloc (.cells #[.int .u8 0] 5))) (by simp)
          clear e0 e1 e2 e3 e4
          obtain ⟨e0, _⟩ := X13.out 0 _ rfl
          obtain ⟨e1, _⟩ := X13.out 1 _ rfl
          obtain ⟨e2, _⟩ := X13.out 2 _ rfl
          obtain ⟨e3, _⟩ := X13.out 3 _ rfl
          obtain ⟨e4, _⟩ := X13.out 4 _ rfl
          refine hK _ _ ⟨e0, e1, e2, e3, e4⟩ (fun hHeld => ?_)
          clear hK K
          refine wpAnyH_ready (rs := [17]) (by kernel_rfl) (by simp) ?_
          refine AllReadyH.cons rfl (fun K hK => ?_) AllReadyH.nil
          go_simp
          refine (l01Fields (some ⟨wa6.heap.size + 1, 0, none⟩) 3 3 [x0, x1, x2] (((((wa6).alloc (.cells #[.int .u8 0] 5))).alloc (.cells #[.string x0, .string x1, .string x2] 9))) rfl (by omega) FL.out Q15.out).mono ?_
          rintro e wa16 ⟨va16, rfl, o16, hb16⟩
          dsimp only
          rw [FQ.out] at o16
          obtain ⟨g16, c16, rfl, _, s16⟩ := own_some o16 (by omega)
          have B17 : Hid (Below w.heap.size w (wa16)) := (B12.out).trans (hb16.mono (B12.out).size)
          have X18 : Hid (Box (wa16) w.heap.size [.string x0, .string x1, .string x2, .bool false, .bool false]) := Box.below (w := ((((wa6).alloc (.cells #[.int .u8 0] 5))).alloc (.cells #[.string x0, .string x1, .string x2] 9))) X13.out hb16
          have N19 : Hid (World.ownsRow (wa16) (w.heap.size + 1) 5 1 (.slice (some ⟨wa6.heap.size, 0, none⟩) 1 1) 1 (cellsB [0])) := own_below (w := ((((wa6).alloc (.cells #[.int .u8 0] 5))).alloc (.cells #[.string x0, .string x1, .string x2] 9))) N14.out hb16
          have Q20 : Hid (Src (wa16) (some ⟨wa6.heap.size + 1, 0, none⟩) (cellsS [x0, x1, x2])) := Src.below (w := ((((wa6).alloc (.cells #[.int .u8 0] 5))).alloc (.cells #[.string x0, .string x1, .string x2] 9))) Q15.out hb16
          have P21 : Hid (Src (wa16) (some ⟨g16, 0, none⟩) (cellsB (fieldsB [x0, x1, x2]))) := s16
          clear o16 hb16 s16
          clear e0 e1 e2 e3 e4
          obtain ⟨e0, _⟩ := X18.out 0 _ rfl
          obtain ⟨e1, _⟩ := X18.out 1 _ rfl
          obtain ⟨e2, _⟩ := X18.out 2 _ rfl
          obtain ⟨e3, _⟩ := X18.out 3 _ rfl
          obtain ⟨e4, _⟩ := X18.out 4 _ rfl
          refine hK _ _ ⟨e0, e1, e2, e3, e4⟩ (fun hHeld => ?_)
          clear hK K
          refine wpAnyH_ready (rs := [18]) (by kernel_rfl) (by simp) ?_
          refine AllReadyH.cons rfl (fun K hK => ?_) AllReadyH.nil
          refine step_append_src rfl (.tmp 12) (.tmp 20) 55 rfl (w.heap.size + 1) 5 (.int .u8 0) 1 1 Tryz.underlying55 infoB rfl (by decide) (by decide) (.slice (some ⟨wa6.heap.size, 0, none⟩) 1 1) 1 (cellsB [0]) (by rfl) N19.out ⟨g16, 0, none⟩ q c16 (cellsB (fieldsB [x0, x1, x2])) (by rfl) (by rw [cellsB_length, FQ.out]; omega) P21.out (cellsB_one _) (by omega) (by omega) (show w.heap.size + 1 ≤ _ from World.block_lt_of_cell? _ _ (X18.out 0 _ rfl).1) ?_
          intro va22 wa22 hown22 hgrow22 _
          have B23 : Hid (Below w.heap.size w (wa22)) := (B17.out).grown hgrow22 (B17.out).size (fun g e => by have h9 := (N19.out.lt g e).1; omega)
          have X24 : Hid (Box (wa22) w.heap.size [.string x0, .string x1, .string x2, .bool false, .bool false]) := Box.grown X18.out hgrow22 (fun e => by have h9 := (N19.out.lt _ e).1; omega)
          have R25 : Hid (World.ownsRow (wa22) (w.heap.size + 1) 5 1 (va22) (1 + q) (cellsB ([0] ++ fieldsB [x0, x1, x2]))) := by rw [cellsB_append]; exact hown22
          clear hown22 hgrow22
          clear e0 e1 e2 e3 e4
          obtain ⟨e0, _⟩ := X24.out 0 _ rfl
          obtain ⟨e1, _⟩ := X24.out 1 _ rfl
          obtain ⟨e2, _⟩ := X24.out 2 _ rfl
          obtain ⟨e3, _⟩ := X24.out 3 _ rfl
          obtain ⟨e4, _⟩ := X24.out 4 _ rfl
          refine hK _ _ ⟨e0, e1, e2, e3, e4⟩ (fun hHeld => ?_)
          clear hK K
          refine wpAnyH_ready (rs := [19]) (by kernel_rfl) (by simp) ?_
          refine AllReadyH.cons rfl (fun K hK => ?_) AllReadyH.nil
          go_simp
          clear e0 e1 e2 e3 e4
          obtain ⟨e0, _⟩ := X24.out 0 _ rfl
          obtain ⟨e1, _⟩ := X24.out 1 _ rfl
          obtain ⟨e2, _⟩ := X24.out 2 _ rfl
          obtain ⟨e3, _⟩ := X24.out 3 _ rfl
          obtain ⟨e4, _⟩ := X24.out 4 _ rfl
          refine hK _ _ ⟨e0, e1, e2, e3, e4⟩ (fun hHeld => ?_)
          clear hK K
          refine wpAnyH_done (by kernel_rfl) ?_ _
          refine NoPanic.normal ?_
          clear e0 e1 e2 e3 e4
          clear hHeld
          have FIN : Hid ((wa22).ownsRow (w.heap.size + 1) 5 1 va22 (partB (x0, x1, x2, false, false)).length (cellsB (partB (x0, x1, x2, false, false)))) := by
            rw [LQ.out false false, show kindN (x0, x1, x2, false, false) = 0 from rfl]
            have h9 : (0 :: fieldsB [x0, x1, x2]).length = 1 + q := by rw [List.length_cons, FQ.out]; omega
            rw [h9]
            exact R25.out
          go_wp2_with fail
          go_ret
          exact ⟨va22, rfl, FIN.out, B23.out⟩
        · skip
          go_simp
          have B26 : Hid (Below w.heap.size w (((wa6).alloc (.cells #[.string x0, .string x1, .string x2] 9)))) := B7.out.alloc B7.out.size _
          have X27 : Hid (Box (((wa6).alloc (.cells #[.string x0, .string x1, .string x2] 9))) w.heap.size [.string x0, .string x1, .string x2, .bool false, .bool false]) := Box.old (w := wa6) X8.out _
          have Q28 : Hid (Src (((wa6).alloc (.cells #[.string x0, .string x1, .string x2] 9))) (some ⟨wa6.heap.size, 0, none⟩) (cellsS [x0, x1, x2])) := src_3S (w := wa6) (by simp)
          clear e0 e1 e2 e3 e4
          obtain ⟨e0, _⟩ := X27.out 0 _ rfl
          obtain ⟨e1, _⟩ := X27.out 1 _ rfl
          obtain ⟨e2, _⟩ := X27.out 2 _ rfl
          obtain ⟨e3, _⟩ := X27.out 3 _ rfl
          obtain ⟨e4, _⟩ := X27.out 4 _ rfl
          refine hK _ _ ⟨e0, e1, e2, e3, e4⟩ (fun hHeld => ?_)
          clear hK K
          refine wpAnyH_ready (rs := [9, 17]) (by kernel_rfl) (by simp) ?_
          refine AllReadyH.cons rfl (fun K hK => ?_) (AllReadyH.cons rfl (fun K hK => ?_) AllReadyH.nil)
          · skip
            go_simp
            have B29 : Hid (Below w.heap.size w (((((wa6).alloc (.cells #[.string x0, .string x1, .string x2] 9))).alloc (.cells #[.int .u8 0] 5)))) := B26.out.alloc B26.out.size _
            have X30 : Hid (Box (((((wa6).alloc (.cells #[.string x0, .string x1, .string x2] 9))).alloc (.cells #[.int .u8 0] 5))) w.heap.size [.string x0, .string x1, .string x2, .bool false, .bool false]) := Box.old (w := ((wa6).alloc (.cells #[.string x0, .string x1, .string x2] 9))) X27.out _
            have Q31 : Hid (Src (((((wa6).alloc (.cells #[.string x0, .string x1, .string x2] 9))).alloc (.cells #[.int .u8 0] 5))) (some ⟨wa6.heap.size, 0, none⟩) (cellsS [x0, x1, x2])) := Src.below (w := ((wa6).alloc (.cells #[.string x0, .string x1, .string x2] 9))) Q28.out (((Below.refl _ (((wa6).alloc (.cells #[.string x0, .string x1, .string x2] 9)))).alloc (Nat.le_refl _) (.cells #[.int .u8 0] 5)))
            have N32 : Hid (World.ownsRow (((((wa6).alloc (.cells #[.string x0, .string x1, .string x2] 9))).alloc (.cells #[.int .u8 0] 5))) (w.heap.size + 1) 5 1 (.slice (some ⟨wa6.heap.size + 1, 0, none⟩) 1 1) 1 (cellsB [0])) := ownB_at (w := ((wa6).alloc (.cells #[.string x0, .string x1, .string x2] 9))) [0] (by simp) (show w.heap.size + 1 ≤ _ from World.block_lt_of_cell? _ _ (X27.out 0 _ rfl).1) rfl rfl (by decide)
            clear e0 e1 e2 e3 e4
            obtain ⟨e0, _⟩ := X30.out 0 _ rfl
            obtain ⟨e1, _⟩ := X30.out 1 _ rfl
            obtain ⟨e2, _⟩ := X30.out 2 _ rfl
            obtain ⟨e3, _⟩ := X30.out 3 _ rfl
            obtain ⟨e4, _⟩ := X30.out 4 _ rfl
            refine hK _ _ ⟨e0, e1, e2, e3, e4⟩ (fun hHeld => ?_)
            clear hK K
            refine wpAnyH_ready (rs := [17]) (by kernel_rfl) (by simp) ?_
            refine AllReadyH.cons rfl (fun K hK => ?_) AllReadyH.nil
            go_simp
            refine (l01Fields (some ⟨wa6.heap.size, 0, none⟩) 3 3 [x0, x1, x2] (((((wa6).alloc (.cells #[.string x0, .string x1, .string x2] 9))).alloc (.cells #[.int .u8 0] 5))) rfl (by omega) FL.out Q31.out).mono ?_
            rintro e wa33 ⟨va33, rfl, o33, hb33⟩
            dsimp only
            rw [FQ.out] at o33
            obtain ⟨g33, c33, rfl, _, s33⟩ := own_some o33 (by omega)
            have B34 : Hid (Below w.heap.size w (wa33)) := (B29.out).trans (hb33.mono (B29.out).size)
            have X35 : Hid (Box (wa33) w.heap.size [.string x0, .string x1, .string x2, .bool false, .bool false]) := Box.below (w := ((((wa6).alloc (.cells #[.string x0, .string x1, .string x2] 9))).alloc (.cells #[.int .u8 0] 5))) X30.out hb33
            have Q36 : Hid (Src (wa33) (some ⟨wa6.heap.size, 0, none⟩) (cellsS [x0, x1, x2])) := Src.below (w := ((((wa6).alloc (.cells #[.string x0, .string x1, .string x2] 9))).alloc (.cells #[.int .u8 0] 5))) Q31.out hb33
            have N37 : Hid (World.ownsRow (wa33) (w.heap.size + 1) 5 1 (.slice (some ⟨wa6.heap.size + 1, 0, none⟩) 1 1) 1 (cellsB [0])) := own_below (w := ((((wa6).alloc (.cells #[.string x0, .string x1, .string x2] 9))).alloc (.cells #[.int .u8 0] 5))) N32.out hb33
            have P38 : Hid (Src (wa33) (some ⟨g33, 0, none⟩) (cellsB (fieldsB [x0, x1, x2]))) := s33
            clear o33 hb33 s33
            clear e0 e1 e2 e3 e4
            obtain ⟨e0, _⟩ := X35.out 0 _ rfl
            obtain ⟨e1, _⟩ := X35.out 1 _ rfl
            obtain ⟨e2, _⟩ := X35.out 2 _ rfl
            obtain ⟨e3, _⟩ := X35.out 3 _ rfl
            obtain ⟨e4, _⟩ := X35.out 4 _ rfl
            refine hK _ _ ⟨e0, e1, e2, e3, e4⟩ (fun hHeld => ?_)
            clear hK K
            refine wpAnyH_ready (rs := [18]) (by kernel_rfl) (by simp) ?_
            refine AllReadyH.cons rfl (fun K hK => ?_) AllReadyH.nil
            refine step_append_src rfl (.tmp 12) (.tmp 20) 55 rfl (w.heap.size + 1) 5 (.int .u8 0) 1 1 Tryz.underlying55 infoB rfl (by decide) (by decide) (.slice (some ⟨wa6.heap.size + 1, 0, none⟩) 1 1) 1 (cellsB [0]) (by rfl) N37.out ⟨g33, 0, none⟩ q c33 (cellsB (fieldsB [x0, x1, x2])) (by rfl) (by rw [cellsB_length, FQ.out]; omega) P38.out (cellsB_one _) (by omega) (by omega) (show w.heap.size + 1 ≤ _ from World.block_lt_of_cell? _ _ (X35.out 0 _ rfl).1) ?_
            intro va39 wa39 hown39 hgrow39 _
            have B40 : Hid (Below w.heap.size w (wa39)) := (B34.out).grown hgrow39 (B34.out).size (fun g e => by have h9 := (N37.out.lt g e).1; omega)
            have X41 : Hid (Box (wa39) w.heap.size [.string x0, .string x1, .string x2, .bool false, .bool false]) := Box.grown X35.out hgrow39 (fun e => by have h9 := (N37.out.lt _ e).1; omega)
            have R42 : Hid (World.ownsRow (wa39) (w.heap.size + 1) 5 1 (va39) (1 + q) (cellsB ([0] ++ fieldsB [x0, x1, x2]))) := by rw [cellsB_append]; exact hown39
            clear hown39 hgrow39
            clear e0 e1 e2 e3 e4
            obtain ⟨e0, _⟩ := X41.out 0 _ rfl
            obtain ⟨e1, _⟩ := X41.out 1 _ rfl
            obtain ⟨e2, _⟩ := X41.out 2 _ rfl
            obtain ⟨e3, _⟩ := X41.out 3 _ rfl
            obtain ⟨e4, _⟩ := X41.out 4 _ rfl
            refine hK _ _ ⟨e0, e1, e2, e3, e4⟩ (fun hHeld => ?_)
            clear hK K
            refine wpAnyH_ready (rs := [19]) (by kernel_rfl) (by simp) ?_
            refine AllReadyH.cons rfl (fun K hK => ?_) AllReadyH.nil
            go_simp
            clear e0 e1 e2 e3 e4
            obtain ⟨e0, _⟩ := X41.out 0 _ rfl
            obtain ⟨e1, _⟩ := X41.out 1 _ rfl
            obtain ⟨e2, _⟩ := X41.out 2 _ rfl
            obtain ⟨e3, _⟩ := X41.out 3 _ rfl
            obtain ⟨e4, _⟩ := X41.out 4 _ rfl
            refine hK _ _ ⟨e0, e1, e2, e3, e4⟩ (fun hHeld => ?_)
            clear hK K
            refine wpAnyH_done (by kernel_rfl) ?_ _
            refine NoPanic.normal ?_
            clear e0 e1 e2 e3 e4
            clear hHeld
            have FIN : Hid ((wa39).ownsRow (w.heap.size + 1) 5 1 va39 (partB (x0, x1, x2, false, false)).length (cellsB (partB (x0, x1, x2, false, false)))) := by
              rw [LQ.out false false, show kindN (x0, x1, x2, false, false) = 0 from rfl]
              have h9 : (0 :: fieldsB [x0, x1, x2]).length = 1 + q := by rw [List.length_cons, FQ.out]; omega
              rw [h9]
              exact R42.out
            go_wp2_with fail
            go_ret
            exact ⟨va39, rfl, FIN.out, B40.out⟩
          · skip
            go_simp
            refine (l01Fields (some ⟨wa6.heap.size, 0, none⟩) 3 3 [x0, x1, x2] (((wa6).alloc (.cells #[.string x0, .string x1, .string x2] 9))) rfl (by omega) FL.out Q28.out).mono ?_
            rintro e wa43 ⟨va43, rfl, o43, hb43⟩
            dsimp only
            rw [FQ.out] at o43
            obtain ⟨g43, c43, rfl, _, s43⟩ := own_some o43 (by omega)
            have B44 : Hid (Below w.heap.size w (wa43)) := (B26.out).trans (hb43.mono (B26.out).size)
            have X45 : Hid (Box (wa43) w.heap.size [.string x0, .string x1, .string x2, .bool false, .bool false]) := Box.below (w := ((wa6).alloc (.cells #[.string x0, .string x1, .string x2] 9))) X27.out hb43
            have Q46 : Hid (Src (wa43) (some ⟨wa6.heap.size, 0, none⟩) (cellsS [x0, x1, x2])) := Src.below (w := ((wa6).alloc (.cells #[.string x0, .string x1, .string x2] 9))) Q28.out hb43
            have P47 : Hid (Src (wa43) (some ⟨g43, 0, none⟩) (cellsB (fieldsB [x0, x1, x2]))) := s43
            clear o43 hb43 s43
            clear e0 e1 e2 e3 e4
            obtain ⟨e0, _⟩ := X45.out 0 _ rfl
            obtain ⟨e1, _⟩ := X45.out 1 _ rfl
            obtain ⟨e2, _⟩ := X45.out 2 _ rfl
            obtain ⟨e3, _⟩ := X45.out 3 _ rfl
            obtain ⟨e4, _⟩ := X45.out 4 _ rfl
            refine hK _ _ ⟨e0, e1, e2, e3, e4⟩ (fun hHeld => ?_)
            clear hK K
            refine wpAnyH_ready (rs := [9]) (by kernel_rfl) (by simp) ?_
            refine AllReadyH.cons rfl (fun K hK => ?_) AllReadyH.nil
            go_simp
            have B48 : Hid (Below w.heap.size w (((wa43).alloc (.cells #[.int .u8 0] 5)))) := B44.out.alloc B44.out.size _
            have X49 : Hid (Box (((wa43).alloc (.cells #[.int .u8 0] 5))) w.heap.size [.string x0, .string x1, .string x2, .bool false, .bool false]) := Box.old (w := wa43) X45.out _
            have Q50 : Hid (Src (((wa43).alloc (.cells #[.int .u8 0] 5))) (some ⟨wa6.heap.size, 0, none⟩) (cellsS [x0, x1, x2])) := Src.below (w := wa43) Q46.out (((Below.refl _ (wa43)).alloc (Nat.le_refl _) (.cells #[.int .u8 0] 5)))
            have P51 : Hid (Src (((wa43).alloc (.cells #[.int .u8 0] 5))) (some ⟨g43, 0, none⟩) (cellsB (fieldsB [x0, x1, x2]))) := Src.below (w := wa43) P47.out (((Below.refl _ (wa43)).alloc (Nat.le_refl _) (.cells #[.int .u8 0] 5)))
            have N52 : Hid (World.ownsRow (((wa43).alloc (.cells #[.int .u8 0] 5))) (w.heap.size + 1) 5 1 (.slice (some ⟨wa43.heap.size, 0, none⟩) 1 1) 1 (cellsB [0])) := ownB_at (w := wa43) [0] (by simp) (show w.heap.size + 1 ≤ _ from World.block_lt_of_cell? _ _ (X45.out 0 _ rfl).1) rfl rfl (by decide)
            clear e0 e1 e2 e3 e4
            obtain ⟨e0, _⟩ := X49.out 0 _ rfl
            obtain ⟨e1, _⟩ := X49.out 1 _ rfl
            obtain ⟨e2, _⟩ := X49.out 2 _ rfl
            obtain ⟨e3, _⟩ := X49.out 3 _ rfl
            obtain ⟨e4, _⟩ := X49.out 4 _ rfl
            refine hK _ _ ⟨e0, e1, e2, e3, e4⟩ (fun hHeld => ?_)
            clear hK K
            refine wpAnyH_ready (rs := [18]) (by kernel_rfl) (by simp) ?_
            refine AllReadyH.cons rfl (fun K hK => ?_) AllReadyH.nil
            refine step_append_src rfl (.tmp 12) (.tmp 20) 55 rfl (w.heap.size + 1) 5 (.int .u8 0) 1 1 Tryz.underlying55 infoB rfl (by decide) (by decide) (.slice (some ⟨wa43.heap.size, 0, none⟩) 1 1) 1 (cellsB [0]) (by rfl) N52.out ⟨g43, 0, none⟩ q c43 (cellsB (fieldsB [x0, x1, x2])) (by rfl) (by rw [cellsB_length, FQ.out]; omega) P51.out (cellsB_one _) (by omega) (by omega) (show w.heap.size + 1 ≤ _ from World.block_lt_of_cell? _ _ (X49.out 0 _ rfl).1) ?_
            intro va53 wa53 hown53 hgrow53 _
            have B54 : Hid (Below w.heap.size w (wa53)) := (B48.out).grown hgrow53 (B48.out).size (fun g e => by have h9 := (N52.out.lt g e).1; omega)
            have X55 : Hid (Box (wa53) w.heap.size [.string x0, .string x1, .string x2, .bool false, .bool false]) := Box.grown X49.out hgrow53 (fun e => by have h9 := (N52.out.lt _ e).1; omega)
            have R56 : Hid (World.ownsRow (wa53) (w.heap.size + 1) 5 1 (va53) (1 + q) (cellsB ([0] ++ fieldsB [x0, x1, x2]))) := by rw [cellsB_append]; exact hown53
            clear hown53 hgrow53
            clear e0 e1 e2 e3 e4
            obtain ⟨e0, _⟩ := X55.out 0 _ rfl
            obtain ⟨e1, _⟩ := X55.out 1 _ rfl
            obtain ⟨e2, _⟩ := X55.out 2 _ rfl
            obtain ⟨e3, _⟩ := X55.out 3 _ rfl
            obtain ⟨e4, _⟩ := X55.out 4 _ rfl
            refine hK _ _ ⟨e0, e1, e2, e3, e4⟩ (fun hHeld => ?_)
            clear hK K
            refine wpAnyH_ready (rs := [19]) (by kernel_rfl) (by simp) ?_
            refine AllReadyH.cons rfl (fun K hK => ?_) AllReadyH.nil
            go_simp
            clear e0 e1 e2 e3 e4
            obtain ⟨e0, _⟩ := X55.out 0 _ rfl
            obtain ⟨e1, _⟩ := X55.out 1 _ rfl
            obtain ⟨e2, _⟩ := X55.out 2 _ rfl
            obtain ⟨e3, _⟩ := X55.out 3 _ rfl
            obtain ⟨e4, _⟩ := X55.out 4 _ rfl
            refine hK _ _ ⟨e0, e1, e2, e3, e4⟩ (fun hHeld => ?_)
            clear hK K
            refine wpAnyH_done (by kernel_rfl) ?_ _
            refine NoPanic.normal ?_
            clear e0 e1 e2 e3 e4
            clear hHeld
            have FIN : Hid ((wa53).ownsRow (w.heap.size + 1) 5 1 va53 (partB (x0, x1, x2, false, false)).length (cellsB (partB (x0, x1, x2, false, false)))) := by
              rw [LQ.out false false, show kindN (x0, x1, x2, false, false) = 0 from rfl]
              have h9 : (0 :: fieldsB [x0, x1, x2]).length = 1 + q := by rw [List.length_cons, FQ.out]; omega
              rw [h9]
              exact R56.out
            go_wp2_with fail
            go_ret
            exact ⟨va53, rfl, FIN.out, B54.out⟩
      · skip
        go_simp
        have B57 : Hid (Below w.heap.size w (((wa3).alloc (.cells #[.string x0, .string x1, .string x2] 9)))) := B4.out.alloc B4.out.size _
        have X58 : Hid (Box (((wa3).alloc (.cells #[.string x0, .string x1, .string x2] 9))) w.heap.size [.string x0, .string x1, .string x2, .bool false, .bool false]) := Box.old (w := wa3) X5.out _
        have Q59 : Hid (Src (((wa3).alloc (.cells #[.string x0, .string x1, .string x2] 9))) (some ⟨wa3.heap.size, 0, none⟩) (cellsS [x0, x1, x2])) := src_3S (w := wa3) (by simp)
        clear e0 e1 e2 e3 e4
        obtain ⟨e0, _⟩ := X58.out 0 _ rfl
        obtain ⟨e1, _⟩ := X58.out 1 _ rfl
        obtain ⟨e2, _⟩ := X58.out 2 _ rfl
        obtain ⟨e3, _⟩ := X58.out 3 _ rfl
        obtain ⟨e4, _⟩ := X58.out 4 _ rfl
        refine hK _ _ ⟨e0, e1, e2, e3, e4⟩ (fun hHeld => ?_)
        clear hK K
        refine wpAnyH_ready (rs := [5]) (by kernel_rfl) (by simp) ?_
        refine AllReadyH.cons rfl (fun K hK => ?_) AllReadyH.nil
        go_simp
        refine (bitIs false (((wa3).alloc (.cells #[.string x0, .string x1, .string x2] 9)))).mono ?_
        rintro e wa60 ⟨rfl, hb60⟩
        dsimp only
        have B61 : Hid (Below w.heap.size w (wa60)) := (B57.out).trans (hb60.mono (B57.out).size)
        have X62 : Hid (Box (wa60) w.heap.size [.string x0, .string x1, .string x2, .bool false, .bool false]) := Box.below (w := ((wa3).alloc (.cells #[.string x0, .string x1, .string x2] 9))) X58.out hb60
        have Q63 : Hid (Src (wa60) (some ⟨wa3.heap.size, 0, none⟩) (cellsS [x0, x1, x2])) := Src.below (w := ((wa3).alloc (.cells #[.string x0, .string x1, .string x2] 9))) Q59.out hb60
        clear hb60
        clear e0 e1 e2 e3 e4
        obtain ⟨e0, _⟩ := X62.out 0 _ rfl
        obtain ⟨e1, _⟩ := X62.out 1 _ rfl
        obtain ⟨e2, _⟩ := X62.out 2 _ rfl
        obtain ⟨e3, _⟩ := X62.out 3 _ rfl
        obtain ⟨e4, _⟩ := X62.out 4 _ rfl
        refine hK _ _ ⟨e0, e1, e2, e3, e4⟩ (fun hHeld => ?_)
        clear hK K
        refine wpAnyH_take (i := 6) (v := .int .i64 0) rfl (by kernel_rfl) (by kernel_rfl) (by kernel_rfl) (fun _ _ _ h => h) (Or.inl ⟨by kernel_rfl, ?_⟩) hHeld ?_
        · intro w9 hSw
          obtain ⟨s0, s1, s2, s3, s4⟩ := hSw
          go_simp
          first | rfl | decide
        simp only [Act.put, List.setIfInBounds_toArray, List.set_cons_zero, List.set_cons_succ]
        refine wpAnyH_take (i := 7) (v := .int .i64 0) rfl (by kernel_rfl) (by kernel_rfl) (by kernel_rfl) (fun _ _ _ h => h) (Or.inl ⟨by kernel_rfl, ?_⟩) hHeld ?_
        · intro w9 hSw
          obtain ⟨s0, s1, s2, s3, s4⟩ := hSw
          go_simp
          first | rfl | decide
        simp only [Act.put, List.setIfInBounds_toArray, List.set_cons_zero, List.set_cons_succ]
        refine wpAnyH_take (i := 8) (v := .int .u8 0) rfl (by kernel_rfl) (by kernel_rfl) (by kernel_rfl) (fun _ _ _ h => h) (Or.inl ⟨by kernel_rfl, ?_⟩) hHeld ?_
        · intro w9 hSw
          obtain ⟨s0, s1, s2, s3, s4⟩ := hSw
          go_simp
          first | rfl | decide
        simp only [Act.put, List.setIfInBounds_toArray, List.set_cons_zero, List.set_cons_succ]
        refine wpAnyH_ready (rs := [9, 17]) (by kernel_rfl) (by simp) ?_
        refine AllReadyH.cons rfl (fun K hK => ?_) (AllReadyH.cons rfl (fun K hK => ?_) AllReadyH.nil)
        · skip
          go_simp
          have B64 : Hid (Below w.heap.size w (((wa60).alloc (.cells #[.int .u8 0] 5)))) := B61.out.alloc B61.out.size _
          have X65 : Hid (Box (((wa60).alloc (.cells #[.int .u8 0] 5))) w.heap.size [.string x0, .string x1, .string x2, .bool false, .bool false]) := Box.old (w := wa60) X62.out _
          have Q66 : Hid (Src (((wa60).alloc (.cells #[.int .u8 0] 5))) (some ⟨wa3.heap.size, 0, none⟩) (cellsS [x0, x1, x2])) := Src.below (w := wa60) Q63.out (((Below.refl _ (wa60)).alloc (Nat.le_refl _) (.cells #[.int .u8 0] 5)))
          have N67 : Hid (World.ownsRow (((wa60).alloc (.cells #[.int .u8 0] 5))) (w.heap.size + 1) 5 1 (.slice (some ⟨wa60.heap.size, 0, none⟩) 1 1) 1 (cellsB [0])) := ownB_at (w := wa60) [0] (by simp) (show w.heap.size + 1 ≤ _ from World.block_lt_of_cell? _ _ (X62.out 0 _ rfl).1) rfl rfl (by decide)
          clear e0 e1 e2 e3 e4
          obtain ⟨e0, _⟩ := X65.out 0 _ rfl
          obtain ⟨e1, _⟩ := X65.out 1 _ rfl
          obtain ⟨e2, _⟩ := X65.out 2 _ rfl
          obtain ⟨e3, _⟩ := X65.out 3 _ rfl
          obtain ⟨e4, _⟩ := X65.out 4 _ rfl
          refine hK _ _ ⟨e0, e1, e2, e3, e4⟩ (fun hHeld => ?_)
          clear hK K
          refine wpAnyH_ready (rs := [17]) (by kernel_rfl) (by simp) ?_
          refine AllReadyH.cons rfl (fun K hK => ?_) AllReadyH.nil
          go_simp
          refine (l01Fields (some ⟨wa3.heap.size, 0, none⟩) 3 3 [x0, x1, x2] (((wa60).alloc (.cells #[.int .u8 0] 5))) rfl (by omega) FL.out Q66.out).mono ?_
          rintro e wa68 ⟨va68, rfl, o68, hb68⟩
          dsimp only
          rw [FQ.out] at o68
          obtain ⟨g68, c68, rfl, _, s68⟩ := own_some o68 (by omega)
          have B69 : Hid (Below w.heap.size w (wa68)) := (B64.out).trans (hb68.mono (B64.out).size)
          have X70 : Hid (Box (wa68) w.heap.size [.string x0, .string x1, .string x2, .bool false, .bool false]) := Box.below (w := ((wa60).alloc (.cells #[.int .u8 0] 5))) X65.out hb68
          have Q71 : Hid (Src (wa68) (some ⟨wa3.heap.size, 0, none⟩) (cellsS [x0, x1, x2])) := Src.below (w := ((wa60).alloc (.cells #[.int .u8 0] 5))) Q66.out hb68
          have N72 : Hid (World.ownsRow (wa68) (w.heap.size + 1) 5 1 (.slice (some ⟨wa60.heap.size, 0, none⟩) 1 1) 1 (cellsB [0])) := own_below (w := ((wa60).alloc (.cells #[.int .u8 0] 5))) N67.out hb68
          have P73 : Hid (Src (wa68) (some ⟨g68, 0, none⟩) (cellsB (fieldsB [x0, x1, x2]))) := s68
          clear o68 hb68 s68
          clear e0 e1 e2 e3 e4
          obtain ⟨e0, _⟩ := X70.out 0 _ rfl
          obtain ⟨e1, _⟩ := X70.out 1 _ rfl
          obtain ⟨e2, _⟩ := X70.out 2 _ rfl
          obtain ⟨e3, _⟩ := X70.out 3 _ rfl
          obtain ⟨e4, _⟩ := X70.out 4 _ rfl
          refine hK _ _ ⟨e0, e1, e2, e3, e4⟩ (fun hHeld => ?_)
          clear hK K
          refine wpAnyH_ready (rs := [18]) (by kernel_rfl) (by simp) ?_
          refine AllReadyH.cons rfl (fun K hK => ?_) AllReadyH.nil
          refine step_append_src rfl (.tmp 12) (.tmp 20) 55 rfl (w.heap.size + 1) 5 (.int .u8 0) 1 1 Tryz.underlying55 infoB rfl (by decide) (by decide) (.slice (some ⟨wa60.heap.size, 0, none⟩) 1 1) 1 (cellsB [0]) (by rfl) N72.out ⟨g68, 0, none⟩ q c68 (cellsB (fieldsB [x0, x1, x2])) (by rfl) (by rw [cellsB_length, FQ.out]; omega) P73.out (cellsB_one _) (by omega) (by omega) (show w.heap.size + 1 ≤ _ from World.block_lt_of_cell? _ _ (X70.out 0 _ rfl).1) ?_
          intro va74 wa74 hown74 hgrow74 _
          have B75 : Hid (Below w.heap.size w (wa74)) := (B69.out).grown hgrow74 (B69.out).size (fun g e => by have h9 := (N72.out.lt g e).1; omega)
          have X76 : Hid (Box (wa74) w.heap.size [.string x0, .string x1, .string x2, .bool false, .bool false]) := Box.grown X70.out hgrow74 (fun e => by have h9 := (N72.out.lt _ e).1; omega)
          have R77 : Hid (World.ownsRow (wa74) (w.heap.size + 1) 5 1 (va74) (1 + q) (cellsB ([0] ++ fieldsB [x0, x1, x2]))) := by rw [cellsB_append]; exact hown74
          clear hown74 hgrow74
          clear e0 e1 e2 e3 e4
          obtain ⟨e0, _⟩ := X76.out 0 _ rfl
          obtain ⟨e1, _⟩ := X76.out 1 _ rfl
          obtain ⟨e2, _⟩ := X76.out 2 _ rfl
          obtain ⟨e3, _⟩ := X76.out 3 _ rfl
          obtain ⟨e4, _⟩ := X76.out 4 _ rfl
          refine hK _ _ ⟨e0, e1, e2, e3, e4⟩ (fun hHeld => ?_)
          clear hK K
          refine wpAnyH_ready (rs := [19]) (by kernel_rfl) (by simp) ?_
          refine AllReadyH.cons rfl (fun K hK => ?_) AllReadyH.nil
          go_simp
          clear e0 e1 e2 e3 e4
          obtain ⟨e0, _⟩ := X76.out 0 _ rfl
          obtain ⟨e1, _⟩ := X76.out 1 _ rfl
          obtain ⟨e2, _⟩ := X76.out 2 _ rfl
          obtain ⟨e3, _⟩ := X76.out 3 _ rfl
          obtain ⟨e4, _⟩ := X76.out 4 _ rfl
          refine hK _ _ ⟨e0, e1, e2, e3, e4⟩ (fun hHeld => ?_)
          clear hK K
          refine wpAnyH_done (by kernel_rfl) ?_ _
          refine NoPanic.normal ?_
          clear e0 e1 e2 e3 e4
          clear hHeld
          have FIN : Hid ((wa74).ownsRow (w.heap.size + 1) 5 1 va74 (partB (x0, x1, x2, false, false)).length (cellsB (partB (x0, x1, x2, false, false)))) := by
            rw [LQ.out false false, show kindN (x0, x1, x2, false, false) = 0 from rfl]
            have h9 : (0 :: fieldsB [x0, x1, x2]).length = 1 + q := by rw [List.length_cons, FQ.out]; omega
            rw [h9]
            exact R77.out
          go_wp2_with fail
          go_ret
          exact ⟨va74, rfl, FIN.out, B75.out⟩
        · skip
          go_simp
          refine (l01Fields (some ⟨wa3.heap.size, 0, none⟩) 3 3 [x0, x1, x2] (wa60) rfl (by omega) FL.out Q63.out).mono ?_
          rintro e wa78 ⟨va78, rfl, o78, hb78⟩
          dsimp only
          rw [FQ.out] at o78
          obtain ⟨g78, c78, rfl, _, s78⟩ := own_some o78 (by omega)
          have B79 : Hid (Below w.heap.size w (wa78)) := (B61.out).trans (hb78.mono (B61.out).size)
          have X80 : Hid (Box (wa78) w.heap.size [.string x0, .string x1, .string x2, .bool false, .bool false]) := Box.below (w := wa60) X62.out hb78
          have Q81 : Hid (Src (wa78) (some ⟨wa3.heap.size, 0, none⟩) (cellsS [x0, x1, x2])) := Src.below (w := wa60) Q63.out hb78
          have P82 : Hid (Src (wa78) (some ⟨g78, 0, none⟩) (cellsB (fieldsB [x0, x1, x2]))) := s78
          clear o78 hb78 s78
          clear e0 e1 e2 e3 e4
          obtain ⟨e0, _⟩ := X80.out 0 _ rfl
          obtain ⟨e1, _⟩ := X80.out 1 _ rfl
          obtain ⟨e2, _⟩ := X80.out 2 _ rfl
          obtain ⟨e3, _⟩ := X80.out 3 _ rfl
          obtain ⟨e4, _⟩ := X80.out 4 _ rfl
          refine hK _ _ ⟨e0, e1, e2, e3, e4⟩ (fun hHeld => ?_)
          clear hK K
          refine wpAnyH_ready (rs := [9]) (by kernel_rfl) (by simp) ?_
          refine AllReadyH.cons rfl (fun K hK => ?_) AllReadyH.nil
          go_simp
          have B83 : Hid (Below w.heap.size w (((wa78).alloc (.cells #[.int .u8 0] 5)))) := B79.out.alloc B79.out.size _
          have X84 : Hid (Box (((wa78).alloc (.cells #[.int .u8 0] 5))) w.heap.size [.string x0, .string x1, .string x2, .bool false, .bool false]) := Box.old (w := wa78) X80.out _
          have Q85 : Hid (Src (((wa78).alloc (.cells #[.int .u8 0] 5))) (some ⟨wa3.heap.size, 0, none⟩) (cellsS [x0, x1, x2])) := Src.below (w := wa78) Q81.out (((Below.refl _ (wa78)).alloc (Nat.le_refl _) (.cells #[.int .u8 0] 5)))
          have P86 : Hid (Src (((wa78).alloc (.cells #[.int .u8 0] 5))) (some ⟨g78, 0, none⟩) (cellsB (fieldsB [x0, x1, x2]))) := Src.below (w := wa78) P82.out (((Below.refl _ (wa78)).alloc (Nat.le_refl _) (.cells #[.int .u8 0] 5)))
          have N87 : Hid (World.ownsRow (((wa78).alloc (.cells #[.int .u8 0] 5))) (w.heap.size + 1) 5 1 (.slice (some ⟨wa78.heap.size, 0, none⟩) 1 1) 1 (cellsB [0])) := ownB_at (w := wa78) [0] (by simp) (show w.heap.size + 1 ≤ _ from World.block_lt_of_cell? _ _ (X80.out 0 _ rfl).1) rfl rfl (by decide)
          clear e0 e1 e2 e3 e4
          obtain ⟨e0, _⟩ := X84.out 0 _ rfl
          obtain ⟨e1, _⟩ := X84.out 1 _ rfl
          obtain ⟨e2, _⟩ := X84.out 2 _ rfl
          obtain ⟨e3, _⟩ := X84.out 3 _ rfl
          obtain ⟨e4, _⟩ := X84.out 4 _ rfl
          refine hK _ _ ⟨e0, e1, e2, e3, e4⟩ (fun hHeld => ?_)
          clear hK K
          refine wpAnyH_ready (rs := [18]) (by kernel_rfl) (by simp) ?_
          refine AllReadyH.cons rfl (fun K hK => ?_) AllReadyH.nil
          refine step_append_src rfl (.tmp 12) (.tmp 20) 55 rfl (w.heap.size + 1) 5 (.int .u8 0) 1 1 Tryz.underlying55 infoB rfl (by decide) (by decide) (.slice (some ⟨wa78.heap.size, 0, none⟩) 1 1) 1 (cellsB [0]) (by rfl) N87.out ⟨g78, 0, none⟩ q c78 (cellsB (fieldsB [x0, x1, x2])) (by rfl) (by rw [cellsB_length, FQ.out]; omega) P86.out (cellsB_one _) (by omega) (by omega) (show w.heap.size + 1 ≤ _ from World.block_lt_of_cell? _ _ (X84.out 0 _ rfl).1) ?_
          intro va88 wa88 hown88 hgrow88 _
          have B89 : Hid (Below w.heap.size w (wa88)) := (B83.out).grown hgrow88 (B83.out).size (fun g e => by have h9 := (N87.out.lt g e).1; omega)
          have X90 : Hid (Box (wa88) w.heap.size [.string x0, .string x1, .string x2, .bool false, .bool false]) := Box.grown X84.out hgrow88 (fun e => by have h9 := (N87.out.lt _ e).1; omega)
          have R91 : Hid (World.ownsRow (wa88) (w.heap.size + 1) 5 1 (va88) (1 + q) (cellsB ([0] ++ fieldsB [x0, x1, x2]))) := by rw [cellsB_append]; exact hown88
          clear hown88 hgrow88
          clear e0 e1 e2 e3 e4
          obtain ⟨e0, _⟩ := X90.out 0 _ rfl
          obtain ⟨e1, _⟩ := X90.out 1 _ rfl
          obtain ⟨e2, _⟩ := X90.out 2 _ rfl
          obtain ⟨e3, _⟩ := X90.out 3 _ rfl
          obtain ⟨e4, _⟩ := X90.out 4 _ rfl
          refine hK _ _ ⟨e0, e1, e2, e3, e4⟩ (fun hHeld => ?_)
          clear hK K
          refine wpAnyH_ready (rs := [19]) (by kernel_rfl) (by simp) ?_
          refine AllReadyH.cons rfl (fun K hK => ?_) AllReadyH.nil
          go_simp
          clear e0 e1 e2 e3 e4
          obtain ⟨e0, _⟩ := X90.out 0 _ rfl
          obtain ⟨e1, _⟩ := X90.out 1 _ rfl
          obtain ⟨e2, _⟩ := X90.out 2 _ rfl
          obtain ⟨e3, _⟩ := X90.out 3 _ rfl
          obtain ⟨e4, _⟩ := X90.out 4 _ rfl
          refine hK _ _ ⟨e0, e1, e2, e3, e4⟩ (fun hHeld => ?_)
          clear hK K
          refine wpAnyH_done (by kernel_rfl) ?_ _
          refine NoPanic.normal ?_
          clear e0 e1 e2 e3 e4
          clear hHeld
          have FIN : Hid ((wa88).ownsRow (w.heap.size + 1) 5 1 va88 (partB (x0, x1, x2, false, false)).length (cellsB (partB (x0, x1, x2, false, false)))) := by
            rw [LQ.out false false, show kindN (x0, x1, x2, false, false) = 0 from rfl]
            have h9 : (0 :: fieldsB [x0, x1, x2]).length = 1 + q := by rw [List.length_cons, FQ.out]; omega
            rw [h9]
            exact R91.out
          go_wp2_with fail
          go_ret
          exact ⟨va88, rfl, FIN.out, B89.out⟩
    · skip
      go_simp
      have B92 : Hid (Below w.heap.size w (((w.alloc (.cells #[.string x0, .string x1, .string x2, .bool false, .bool false] 108)).alloc (.cells #[.string x0, .string x1, .string x2] 9)))) := B1.out.alloc B1.out.size _
      have X93 : Hid (Box ((((w.alloc (.cells #[.string x0, .string x1, .string x2, .bool false, .bool false] 108)).alloc (.cells #[.string x0, .string x1, .string x2] 9))).drew) w.heap.size [.string x0, .string x1, .string x2, .bool false, .bool false]) := Box.old (w := w.alloc (.cells #[.string x0, .string x1, .string x2, .bool false, .bool false] 108)) X2.out _
      have Q94 : Hid (Src ((((w.alloc (.cells #[.string x0, .string x1, .string x2, .bool false, .bool false] 108)).alloc (.cells #[.string x0, .string x1, .string x2] 9))).drew) (some ⟨w.heap.size + 1, 0, none⟩) (cellsS [x0, x1, x2])) := src_3S (w := w.alloc (.cells #[.string x0, .string x1, .string x2, .bool false, .bool false] 108)) (by simp)
      clear e0 e1 e2 e3 e4
      obtain ⟨e0, _⟩ := X93.out 0 _ rfl
      obtain ⟨e1, _⟩ := X93.out 1 _ rfl
      obtain ⟨e2, _⟩ := X93.out 2 _ rfl
      obtain ⟨e3, _⟩ := X93.out 3 _ rfl
      obtain ⟨e4, _⟩ := X93.out 4 _ rfl
      refine hK _ _ ⟨e0, e1, e2, e3, e4⟩ (fun hHeld => ?_)
      clear hK K
      refine wpAnyH_ready (rs := [2]) (by kernel_rfl) (by simp) ?_
      refine AllReadyH.cons rfl (fun K hK => ?_) AllReadyH.nil
      go_simp
      refine (bitIs false ((((w.alloc (.cells #[.string x0, .string x1, .string x2, .bool false, .bool false] 108)).alloc (.cells #[.string x0, .string x1, .string x2] 9))).drew)).mono ?_
      rintro e wa95 ⟨rfl, hb95⟩
      dsimp only
      have B96 : Hid (Below w.heap.size w (wa95)) := (B92.out.drew).trans (hb95.mono (B92.out.drew).size)
      have X97 : Hid (Box (wa95) w.heap.size [.string x0, .string x1, .string x2, .bool false, .bool false]) := Box.below (w := (((w.alloc (.cells #[.string x0, .string x1, .string x2, .bool false, .bool false] 108)).alloc (.cells #[.string x0, .string x1, .string x2] 9))).drew) X93.out hb95
      have Q98 : Hid (Src (wa95) (some ⟨w.heap.size + 1, 0, none⟩) (cellsS [x0, x1, x2])) := Src.below (w := (((w.alloc (.cells #[.string x0, .string x1, .string x2, .bool false, .bool false] 108)).alloc (.cells #[.string x0, .string x1, .string x2] 9))).drew) Q94.out hb95
      clear hb95
      clear e0 e1 e2 e3 e4
      obtain ⟨e0, _⟩ := X97.out 0 _ rfl
      obtain ⟨e1, _⟩ := X97.out 1 _ rfl
      obtain ⟨e2, _⟩ := X97.out 2 _ rfl
      obtain ⟨e3, _⟩ := X97.out 3 _ rfl
      obtain ⟨e4, _⟩ := X97.out 4 _ rfl
      refine hK _ _ ⟨e0, e1, e2, e3, e4⟩ (fun hHeld => ?_)
      clear hK K
      refine wpAnyH_ready (rs := [5]) (by kernel_rfl) (by simp) ?_
      refine AllReadyH.cons rfl (fun K hK => ?_) AllReadyH.nil
      go_simp
      refine (bitIs false (wa95)).mono ?_
      rintro e wa99 ⟨rfl, hb99⟩
      dsimp only
      have B100 : Hid (Below w.heap.size w (wa99)) := (B96.out).trans (hb99.mono (B96.out).size)
      have X101 : Hid (Box (wa99) w.heap.size [.string x0, .string x1, .string x2, .bool false, .bool false]) := Box.below (w := wa95) X97.out hb99
      have Q102 : Hid (Src (wa99) (some ⟨w.heap.size + 1, 0, none⟩) (cellsS [x0, x1, x2])) := Src.below (w := wa95) Q98.out hb99
      clear hb99
      clear e0 e1 e2 e3 e4
      obtain ⟨e0, _⟩ := X101.out 0 _ rfl
      obtain ⟨e1, _⟩ := X101.out 1 _ rfl
      obtain ⟨e2, _⟩ := X101.out 2 _ rfl
      obtain ⟨e3, _⟩ := X101.out 3 _ rfl
      obtain ⟨e4, _⟩ := X101.out 4 _ rfl
      refine hK _ _ ⟨e0, e1, e2, e3, e4⟩ (fun hHeld => ?_)
      clear hK K
      refine wpAnyH_take (i := 6) (v := .int .i64 0) rfl (by kernel_rfl) (by kernel_rfl) (by kernel_rfl) (fun _ _ _ h => h) (Or.inl ⟨by kernel_rfl, ?_⟩) hHeld ?_
      · intro w9 hSw
        obtain ⟨s0, s1, s2, s3, s4⟩ := hSw
        go_simp
        first | rfl | decide
      simp only [Act.put, List.setIfInBounds_toArray, List.set_cons_zero, List.set_cons_succ]
      refine wpAnyH_take (i := 7) (v := .int .i64 0) rfl (by kernel_rfl) (by kernel_rfl) (by kernel_rfl) (fun _ _ _ h => h) (Or.inl ⟨by kernel_rfl, ?_⟩) hHeld ?_
      · intro w9 hSw
        obtain ⟨s0, s1, s2, s3, s4⟩ := hSw
        go_simp
        first | rfl | decide
      simp only [Act.put, List.setIfInBounds_toArray, List.set_cons_zero, List.set_cons_succ]
      refine wpAnyH_take (i := 8) (v := .int .u8 0) rfl (by kernel_rfl) (by kernel_rfl) (by kernel_rfl) (fun _ _ _ h => h) (Or.inl ⟨by kernel_rfl, ?_⟩) hHeld ?_
      · intro w9 hSw
        obtain ⟨s0, s1, s2, s3, s4⟩ := hSw
        go_simp
        first | rfl | decide
      simp only [Act.put, List.setIfInBounds_toArray, List.set_cons_zero, List.set_cons_succ]
      refine wpAnyH_ready (rs := [9, 17]) (by kernel_rfl) (by simp) ?_
      refine AllReadyH.cons rfl (fun K hK => ?_) (AllReadyH.cons rfl (fun K hK => ?_) AllReadyH.nil)
      · skip
        go_simp
        have B103 : Hid (Below w.heap.size w (((wa99).alloc (.cells #[.int .u8 0] 5)))) := B100.out.alloc B100.out.size _
        have X104 : Hid (Box (((wa99).alloc (.cells #[.int .u8 0] 5))) w.heap.size [.string x0, .string x1, .string x2, .bool false, .bool false]) := Box.old (w := wa99) X101.out _
        have Q105 : Hid (Src (((wa99).alloc (.cells #[.int .u8 0] 5))) (some ⟨w.heap.size + 1, 0, none⟩) (cellsS [x0, x1, x2])) := Src.below (w := wa99) Q102.out (((Below.refl _ (wa99)).alloc (Nat.le_refl _) (.cells #[.int .u8 0] 5)))
        have N106 : Hid (World.ownsRow (((wa99).alloc (.cells #[.int .u8 0] 5))) (w.heap.size + 1) 5 1 (.slice (some ⟨wa99.heap.size, 0, none⟩) 1 1) 1 (cellsB [0])) := ownB_at (w := wa99) [0] (by simp) (show w.heap.size + 1 ≤ _ from World.block_lt_of_cell? _ _ (X101.out 0 _ rfl).1) rfl rfl (by decide)
        clear e0 e1 e2 e3 e4
        obtain ⟨e0, _⟩ := X104.out 0 _ rfl
        obtain ⟨e1, _⟩ := X104.out 1 _ rfl
        obtain ⟨e2, _⟩ := X104.out 2 _ rfl
        obtain ⟨e3, _⟩ := X104.out 3 _ rfl
        obtain ⟨e4, _⟩ := X104.out 4 _ rfl
        refine hK _ _ ⟨e0, e1, e2, e3, e4⟩ (fun hHeld => ?_)
        clear hK K
        refine wpAnyH_ready (rs := [17]) (by kernel_rfl) (by simp) ?_
        refine AllReadyH.cons rfl (fun K hK => ?_) AllReadyH.nil
        go_simp
        refine (l01Fields (some ⟨w.heap.size + 1, 0, none⟩) 3 3 [x0, x1, x2] (((wa99).alloc (.cells #[.int .u8 0] 5))) rfl (by omega) FL.out Q105.out).mono ?_
        rintro e wa107 ⟨va107, rfl, o107, hb107⟩
        dsimp only
        rw [FQ.out] at o107
        obtain ⟨g107, c107, rfl, _, s107⟩ := own_some o107 (by omega)
        have B108 : Hid (Below w.heap.size w (wa107)) := (B103.out).trans (hb107.mono (B103.out).size)
        have X109 : Hid (Box (wa107) w.heap.size [.string x0, .string x1, .string x2, .bool false, .bool false]) := Box.below (w := ((wa99).alloc (.cells #[.int .u8 0] 5))) X104.out hb107
        have Q110 : Hid (Src (wa107) (some ⟨w.heap.size + 1, 0, none⟩) (cellsS [x0, x1, x2])) := Src.below (w := ((wa99).alloc (.cells #[.int .u8 0] 5))) Q105.out hb107
        have N111 : Hid (World.ownsRow (wa107) (w.heap.size + 1) 5 1 (.slice (some ⟨wa99.heap.size, 0, none⟩) 1 1) 1 (cellsB [0])) := own_below (w := ((wa99).alloc (.cells #[.int .u8 0] 5))) N106.out hb107
        have P112 : Hid (Src (wa107) (some ⟨g107, 0, none⟩) (cellsB (fieldsB [x0, x1, x2]))) := s107
        clear o107 hb107 s107
        clear e0 e1 e2 e3 e4
        obtain ⟨e0, _⟩ := X109.out 0 _ rfl
        obtain ⟨e1, _⟩ := X109.out 1 _ rfl
        obtain ⟨e2, _⟩ := X109.out 2 _ rfl
        obtain ⟨e3, _⟩ := X109.out 3 _ rfl
        obtain ⟨e4, _⟩ := X109.out 4 _ rfl
        refine hK _ _ ⟨e0, e1, e2, e3, e4⟩ (fun hHeld => ?_)
        clear hK K
        refine wpAnyH_ready (rs := [18]) (by kernel_rfl) (by simp) ?_
        refine AllReadyH.cons rfl (fun K hK => ?_) AllReadyH.nil
        refine step_append_src rfl (.tmp 12) (.tmp 20) 55 rfl (w.heap.size + 1) 5 (.int .u8 0) 1 1 Tryz.underlying55 infoB rfl (by decide) (by decide) (.slice (some ⟨wa99.heap.size, 0, none⟩) 1 1) 1 (cellsB [0]) (by rfl) N111.out ⟨g107, 0, none⟩ q c107 (cellsB (fieldsB [x0, x1, x2])) (by rfl) (by rw [cellsB_length, FQ.out]; omega) P112.out (cellsB_one _) (by omega) (by omega) (show w.heap.size + 1 ≤ _ from World.block_lt_of_cell? _ _ (X109.out 0 _ rfl).1) ?_
        intro va113 wa113 hown113 hgrow113 _
        have B114 : Hid (Below w.heap.size w (wa113)) := (B108.out).grown hgrow113 (B108.out).size (fun g e => by have h9 := (N111.out.lt g e).1; omega)
        have X115 : Hid (Box (wa113) w.heap.size [.string x0, .string x1, .string x2, .bool false, .bool false]) := Box.grown X109.out hgrow113 (fun e => by have h9 := (N111.out.lt _ e).1; omega)
        have R116 : Hid (World.ownsRow (wa113) (w.heap.size + 1) 5 1 (va113) (1 + q) (cellsB ([0] ++ fieldsB [x0, x1, x2]))) := by rw [cellsB_append]; exact hown113
        clear hown113 hgrow113
        clear e0 e1 e2 e3 e4
        obtain ⟨e0, _⟩ := X115.out 0 _ rfl
        obtain ⟨e1, _⟩ := X115.out 1 _ rfl
        obtain ⟨e2, _⟩ := X115.out 2 _ rfl
        obtain ⟨e3, _⟩ := X115.out 3 _ rfl
        obtain ⟨e4, _⟩ := X115.out 4 _ rfl
        refine hK _ _ ⟨e0, e1, e2, e3, e4⟩ (fun hHeld => ?_)
        clear hK K
        refine wpAnyH_ready (rs := [19]) (by kernel_rfl) (by simp) ?_
        refine AllReadyH.cons rfl (fun K hK => ?_) AllReadyH.nil
        go_simp
        clear e0 e1 e2 e3 e4
        obtain ⟨e0, _⟩ := X115.out 0 _ rfl
        obtain ⟨e1, _⟩ := X115.out 1 _ rfl
        obtain ⟨e2, _⟩ := X115.out 2 _ rfl
        obtain ⟨e3, _⟩ := X115.out 3 _ rfl
        obtain ⟨e4, _⟩ := X115.out 4 _ rfl
        refine hK _ _ ⟨e0, e1, e2, e3, e4⟩ (fun hHeld => ?_)
        clear hK K
        refine wpAnyH_done (by kernel_rfl) ?_ _
        refine NoPanic.normal ?_
        clear e0 e1 e2 e3 e4
        clear hHeld
        have FIN : Hid ((wa113).ownsRow (w.heap.size + 1) 5 1 va113 (partB (x0, x1, x2, false, false)).length (cellsB (partB (x0, x1, x2, false, false)))) := by
          rw [LQ.out false false, show kindN (x0, x1, x2, false, false) = 0 from rfl]
          have h9 : (0 :: fieldsB [x0, x1, x2]).length = 1 + q := by rw [List.length_cons, FQ.out]; omega
          rw [h9]
          exact R116.out
        go_wp2_with fail
        go_ret
        exact ⟨va113, rfl, FIN.out, B114.out⟩
      · skip
        go_simp
        refine (l01Fields (some ⟨w.heap.size + 1, 0, none⟩) 3 3 [x0, x1, x2] (wa99) rfl (by omega) FL.out Q102.out).mono ?_
        rintro e wa117 ⟨va117, rfl, o117, hb117⟩
        dsimp only
        rw [FQ.out] at o117
        obtain ⟨g117, c117, rfl, _, s117⟩ := own_some o117 (by omega)
        have B118 : Hid (Below w.heap.size w (wa117)) := (B100.out).trans (hb117.mono (B100.out).size)
        have X119 : Hid (Box (wa117) w.heap.size [.string x0, .string x1, .string x2, .bool false, .bool false]) := Box.below (w := wa99) X101.out hb117
        have Q120 : Hid (Src (wa117) (some ⟨w.heap.size + 1, 0, none⟩) (cellsS [x0, x1, x2])) := Src.below (w := wa99) Q102.out hb117
        have P121 : Hid (Src (wa117) (some ⟨g117, 0, none⟩) (cellsB (fieldsB [x0, x1, x2]))) := s117
        clear o117 hb117 s117
        clear e0 e1 e2 e3 e4
        obtain ⟨e0, _⟩ := X119.out 0 _ rfl
        obtain ⟨e1, _⟩ := X119.out 1 _ rfl
        obtain ⟨e2, _⟩ := X119.out 2 _ rfl
        obtain ⟨e3, _⟩ := X119.out 3 _ rfl
        obtain ⟨e4, _⟩ := X119.out 4 _ rfl
        refine hK _ _ ⟨e0, e1, e2, e3, e4⟩ (fun hHeld => ?_)
        clear hK K
        refine wpAnyH_ready (rs := [9]) (by kernel_rfl) (by simp) ?_
        refine AllReadyH.cons rfl (fun K hK => ?_) AllReadyH.nil
        go_simp
        have B122 : Hid (Below w.heap.size w (((wa117).alloc (.cells #[.int .u8 0] 5)))) := B118.out.alloc B118.out.size _
        have X123 : Hid (Box (((wa117).alloc (.cells #[.int .u8 0] 5))) w.heap.size [.string x0, .string x1, .string x2, .bool false, .bool false]) := Box.old (w := wa117) X119.out _
        have Q124 : Hid (Src (((wa117).alloc (.cells #[.int .u8 0] 5))) (some ⟨w.heap.size + 1, 0, none⟩) (cellsS [x0, x1, x2])) := Src.below (w := wa117) Q120.out (((Below.refl _ (wa117)).alloc (Nat.le_refl _) (.cells #[.int .u8 0] 5)))
        have P125 : Hid (Src (((wa117).alloc (.cells #[.int .u8 0] 5))) (some ⟨g117, 0, none⟩) (cellsB (fieldsB [x0, x1, x2]))) := Src.below (w := wa117) P121.out (((Below.refl _ (wa117)).alloc (Nat.le_refl _) (.cells #[.int .u8 0] 5)))
        have N126 : Hid (World.ownsRow (((wa117).alloc (.cells #[.int .u8 0] 5))) (w.heap.size + 1) 5 1 (.slice (some ⟨wa117.heap.size, 0, none⟩) 1 1) 1 (cellsB [0])) := ownB_at (w := wa117) [0] (by simp) (show w.heap.size + 1 ≤ _ from World.block_lt_of_cell? _ _ (X119.out 0 _ rfl).1) rfl rfl (by decide)
        clear e0 e1 e2 e3 e4
        obtain ⟨e0, _⟩ := X123.out 0 _ rfl
        obtain ⟨e1, _⟩ := X123.out 1 _ rfl
        obtain ⟨e2, _⟩ := X123.out 2 _ rfl
        obtain ⟨e3, _⟩ := X123.out 3 _ rfl
        obtain ⟨e4, _⟩ := X123.out 4 _ rfl
        refine hK _ _ ⟨e0, e1, e2, e3, e4⟩ (fun hHeld => ?_)
        clear hK K
        refine wpAnyH_ready (rs := [18]) (by kernel_rfl) (by simp) ?_
        refine AllReadyH.cons rfl (fun K hK => ?_) AllReadyH.nil
        refine step_append_src rfl (.tmp 12) (.tmp 20) 55 rfl (w.heap.size + 1) 5 (.int .u8 0) 1 1 Tryz.underlying55 infoB rfl (by decide) (by decide) (.slice (some ⟨wa117.heap.size, 0, none⟩) 1 1) 1 (cellsB [0]) (by rfl) N126.out ⟨g117, 0, none⟩ q c117 (cellsB (fieldsB [x0, x1, x2])) (by rfl) (by rw [cellsB_length, FQ.out]; omega) P125.out (cellsB_one _) (by omega) (by omega) (show w.heap.size + 1 ≤ _ from World.block_lt_of_cell? _ _ (X123.out 0 _ rfl).1) ?_
        intro va127 wa127 hown127 hgrow127 _
        have B128 : Hid (Below w.heap.size w (wa127)) := (B122.out).grown hgrow127 (B122.out).size (fun g e => by have h9 := (N126.out.lt g e).1; omega)
        have X129 : Hid (Box (wa127) w.heap.size [.string x0, .string x1, .string x2, .bool false, .bool false]) := Box.grown X123.out hgrow127 (fun e => by have h9 := (N126.out.lt _ e).1; omega)
        have R130 : Hid (World.ownsRow (wa127) (w.heap.size + 1) 5 1 (va127) (1 + q) (cellsB ([0] ++ fieldsB [x0, x1, x2]))) := by rw [cellsB_append]; exact hown127
        clear hown127 hgrow127
        clear e0 e1 e2 e3 e4
        obtain ⟨e0, _⟩ := X129.out 0 _ rfl
        obtain ⟨e1, _⟩ := X129.out 1 _ rfl
        obtain ⟨e2, _⟩ := X129.out 2 _ rfl
        obtain ⟨e3, _⟩ := X129.out 3 _ rfl
        obtain ⟨e4, _⟩ := X129.out 4 _ rfl
        refine hK _ _ ⟨e0, e1, e2, e3, e4⟩ (fun hHeld => ?_)
        clear hK K
        refine wpAnyH_ready (rs := [19]) (by kernel_rfl) (by simp) ?_
        refine AllReadyH.cons rfl (fun K hK => ?_) AllReadyH.nil
        go_simp
        clear e0 e1 e2 e3 e4
        obtain ⟨e0, _⟩ := X129.out 0 _ rfl
        obtain ⟨e1, _⟩ := X129.out 1 _ rfl
        obtain ⟨e2, _⟩ := X129.out 2 _ rfl
        obtain ⟨e3, _⟩ := X129.out 3 _ rfl
        obtain ⟨e4, _⟩ := X129.out 4 _ rfl
        refine hK _ _ ⟨e0, e1, e2, e3, e4⟩ (fun hHeld => ?_)
        clear hK K
        refine wpAnyH_done (by kernel_rfl) ?_ _
        refine NoPanic.normal ?_
        clear e0 e1 e2 e3 e4
        clear hHeld
        have FIN : Hid ((wa127).ownsRow (w.heap.size + 1) 5 1 va127 (partB (x0, x1, x2, false, false)).length (cellsB (partB (x0, x1, x2, false, false)))) := by
          rw [LQ.out false false, show kindN (x0, x1, x2, false, false) = 0 from rfl]
          have h9 : (0 :: fieldsB [x0, x1, x2]).length = 1 + q := by rw [List.length_cons, FQ.out]; omega
          rw [h9]
          exact R130.out
        go_wp2_with fail
        go_ret
        exact ⟨va127, rfl, FIN.out, B128.out⟩
  · skip
    go_enter Tryz.func82, Tryz.ntmps82
    go_wp2_with fail
    have B131 : Hid (Below w.heap.size w (w.alloc (.cells #[.string x0, .string x1, .string x2, .bool false, .bool true] 108))) := (Below.refl _ _).alloc (Nat.le_refl _) _
    have X132 : Hid (Box ((w.alloc (.cells #[.string x0, .string x1, .string x2, .bool false, .bool true] 108)).drew) w.heap.size [.string x0, .string x1, .string x2, .bool false, .bool true]) := Box.new (w := w) rfl
    obtain ⟨e0, _⟩ := X132.out 0 _ rfl
    obtain ⟨e1, _⟩ := X132.out 1 _ rfl
    obtain ⟨e2, _⟩ := X132.out 2 _ rfl
    obtain ⟨e3, _⟩ := X132.out 3 _ rfl
    obtain ⟨e4, _⟩ := X132.out 4 _ rfl
    refine wp_region_noPanic ?_
    refine wp_region_held_drew (S := (fun w' => w'.cell? ⟨w.heap.size, 0, none⟩ = some (.string x0) ∧ w'.cell? ⟨w.heap.size, 1, none⟩ = some (.string x1) ∧ w'.cell? ⟨w.heap.size, 2, none⟩ = some (.string x2) ∧ w'.cell? ⟨w.heap.size, 3, none⟩ = some (.bool false) ∧ w'.cell? ⟨w.heap.size, 4, none⟩ = some (.bool true))) (by kernel_rfl) ⟨e0, e1, e2, e3, e4⟩ (fun hHeld => ?_)
    refine wpAnyH_take (i := 0) (v := .pointer (some ⟨w.heap.size, 3, none⟩)) rfl (by kernel_rfl) (by kernel_rfl) (by kernel_rfl) (fun _ _ _ h => h) (Or.inl ⟨by kernel_rfl, ?_⟩) hHeld ?_
    · intro w9 hSw
      obtain ⟨s0, s1, s2, s3, s4⟩ := hSw
      go_simp
    simp only [Act.put, List.setIfInBounds_toArray, List.set_cons_zero, List.set_cons_succ]
    refine wpAnyH_take (i := 1) (v := .bool false) rfl (by kernel_rfl) (by kernel_rfl) (by kernel_rfl) (fun _ _ _ h => h) (Or.inl ⟨by kernel_rfl, ?_⟩) hHeld ?_
    · intro w9 hSw
      obtain ⟨s0, s1, s2, s3, s4⟩ := hSw
      go_simp
    simp only [Act.put, List.setIfInBounds_toArray, List.set_cons_zero, List.set_cons_succ]
    refine wpAnyH_take (i := 3) (v := .pointer (some ⟨w.heap.size, 4, none⟩)) rfl (by kernel_rfl) (by kernel_rfl) (by kernel_rfl) (fun _ _ _ h => h) (Or.inl ⟨by kernel_rfl, ?_⟩) hHeld ?_
    · intro w9 hSw
      obtain ⟨s0, s1, s2, s3, s4⟩ := hSw
      go_simp
    simp only [Act.put, List.setIfInBounds_toArray, List.set_cons_zero, List.set_cons_succ]
    refine wpAnyH_take (i := 4) (v := .bool true) rfl (by kernel_rfl) (by kernel_rfl) (by kernel_rfl) (fun _ _ _ h => h) (Or.inl ⟨by kernel_rfl, ?_⟩) hHeld ?_
    · intro w9 hSw
      obtain ⟨s0, s1, s2, s3, s4⟩ := hSw
      go_simp
    simp only [Act.put, List.setIfInBounds_toArray, List.set_cons_zero, List.set_cons_succ]
    refine wpAnyH_take (i := 10) (v := .pointer (some ⟨w.heap.size, 0, none⟩)) rfl (by kernel_rfl) (by kernel_rfl) (by kernel_rfl) (fun _ _ _ h => h) (Or.inl ⟨by kernel_rfl, ?_⟩) hHeld ?_
    · intro w9 hSw
      obtain ⟨s0, s1, s2, s3, s4⟩ := hSw
      go_simp
    simp only [Act.put, List.setIfInBounds_toArray, List.set_cons_zero, List.set_cons_succ]
    refine wpAnyH_take (i := 11) (v := .string x0) rfl (by kernel_rfl) (by kernel_rfl) (by kernel_rfl) (fun _ _ _ h => h) (Or.inl ⟨by kernel_rfl, ?_⟩) hHeld ?_
    · intro w9 hSw
      obtain ⟨s0, s1, s2, s3, s4⟩ := hSw
      go_simp
    simp only [Act.put, List.setIfInBounds_toArray, List.set_cons_zero, List.set_cons_succ]
    refine wpAnyH_take (i := 12) (v := .pointer (some ⟨w.heap.size, 1, none⟩)) rfl (by kernel_rfl) (by kernel_rfl) (by kernel_rfl) (fun _ _ _ h => h) (Or.inl ⟨by kernel_rfl, ?_⟩) hHeld ?_
    · intro w9 hSw
      obtain ⟨s0, s1, s2, s3, s4⟩ := hSw
      go_simp
    simp only [Act.put, List.setIfInBounds_toArray, List.set_cons_zero, List.set_cons_succ]
    refine wpAnyH_take (i := 13) (v := .string x1) rfl (by kernel_rfl) (by kernel_rfl) (by kernel_rfl) (fun _ _ _ h => h) (Or.inl ⟨by kernel_rfl, ?_⟩) hHeld ?_
    · intro w9 hSw
      obtain ⟨s0, s1, s2, s3, s4⟩ := hSw
      go_simp
    simp only [Act.put, List.setIfInBounds_toArray, List.set_cons_zero, List.set_cons_succ]
    refine wpAnyH_take (i := 14) (v := .pointer (some ⟨w.heap.size, 2, none⟩)) rfl (by kernel_rfl) (by kernel_rfl) (by kernel_rfl) (fun _ _ _ h => h) (Or.inl ⟨by kernel_rfl, ?_⟩) hHeld ?_
    · intro w9 hSw
      obtain ⟨s0, s1, s2, s3, s4⟩ := hSw
      go_simp
    simp only [Act.put, List.setIfInBounds_toArray, List.set_cons_zero, List.set_cons_succ]
    refine wpAnyH_take (i := 15) (v := .string x2) rfl (by kernel_rfl) (by kernel_rfl) (by kernel_rfl) (fun _ _ _ h => h) (Or.inl ⟨by kernel_rfl, ?_⟩) hHeld ?_
    · intro w9 hSw
      obtain ⟨s0, s1, s2, s3, s4⟩ := hSw
      go_simp
    simp only [Act.put, List.setIfInBounds_toArray, List.set_cons_zero, List.set_cons_succ]
    refine wpAnyH_ready (rs := [2, 16]) (by kernel_rfl) (by simp) ?_
    refine AllReadyH.cons rfl (fun K hK => ?_) (AllReadyH.cons rfl (fun K hK => ?_) AllReadyH.nil)
    · skip
      go_simp
      refine (bitIs false ((w.alloc (.cells #[.string x0, .string x1, .string x2, .bool false, .bool true] 108)).drew)).mono ?_
      rintro e wa133 ⟨rfl, hb133⟩
      dsimp only
      have B134 : Hid (Below w.heap.size w (wa133)) := (B131.out.drew).trans (hb133.mono (B131.out.drew).size)
      have X135 : Hid (Box (wa133) w.heap.size [.string x0, .string x1, .string x2, .bool false, .bool true]) := Box.below (w := (w.alloc (.cells #[.string x0, .string x1, .string x2, .bool false, .bool true] 108)).drew) X132.out hb133
      clear hb133
      clear e0 e1 e2 e3 e4
      obtain ⟨e0, _⟩ := X135.out 0 _ rfl
      obtain ⟨e1, _⟩ := X135.out 1 _ rfl
      obtain ⟨e2, _⟩ := X135.out 2 _ rfl
      obtain ⟨e3, _⟩ := X135.out 3 _ rfl
      obtain ⟨e4, _⟩ := X135.out 4 _ rfl
      refine hK _ _ ⟨e0, e1, e2, e3, e4⟩ (fun hHeld => ?_)
      clear hK K
      refine wpAnyH_ready (rs := [5, 16]) (by kernel_rfl) (by simp) ?_
      refine AllReadyH.cons rfl (fun K hK => ?_) (AllReadyH.cons rfl (fun K hK => ?_) AllReadyH.nil)
      · skip
        go_simp
        refine (bitIs true (wa133)).mono ?_
        rintro e wa136 ⟨rfl, hb136⟩
        dsimp only
        have B137 : Hid (Below w.heap.size w (wa136)) := (B134.out).trans (hb136.mono (B134.out).size)
        have X138 : Hid (Box (wa136) w.heap.size [.string x0, .string x1, .string x2, .bool false, .bool true]) := Box.below (w := wa133) X135.out hb136
        clear hb136
        clear e0 e1 e2 e3 e4
        obtain ⟨e0, _⟩ := X138.out 0 _ rfl
        obtain ⟨e1, _⟩ := X138.out 1 _ rfl
        obtain ⟨e2, _⟩ := X138.out 2 _ rfl
        obtain ⟨e3, _⟩ := X138.out 3 _ rfl
        obtain ⟨e4, _⟩ := X138.out 4 _ rfl
        refine hK _ _ ⟨e0, e1, e2, e3, e4⟩ (fun hHeld => ?_)
        clear hK K
        refine wpAnyH_take (i := 6) (v := .int .i64 2) rfl (by kernel_rfl) (by kernel_rfl) (by kernel_rfl) (fun _ _ _ h => h) (Or.inl ⟨by kernel_rfl, ?_⟩) hHeld ?_
        · intro w9 hSw
          obtain ⟨s0, s1, s2, s3, s4⟩ := hSw
          go_simp
          first | rfl | decide
        simp only [Act.put, List.setIfInBounds_toArray, List.set_cons_zero, List.set_cons_succ]
        refine wpAnyH_take (i := 7) (v := .int .i64 2) rfl (by kernel_rfl) (by kernel_rfl) (by kernel_rfl) (fun _ _ _ h => h) (Or.inl ⟨by kernel_rfl, ?_⟩) hHeld ?_
        · intro w9 hSw
          obtain ⟨s0, s1, s2, s3, s4⟩ := hSw
          go_simp
          first | rfl | decide
        simp only [Act.put, List.setIfInBounds_toArray, List.set_cons_zero, List.set_cons_succ]
        refine wpAnyH_take (i := 8) (v := .int .u8 2) rfl (by kernel_rfl) (by kernel_rfl) (by kernel_rfl) (fun _ _ _ h => h) (Or.inl ⟨by kernel_rfl, ?_⟩) hHeld ?_
        · intro w9 hSw
          obtain ⟨s0, s1, s2, s3, s4⟩ := hSw
          go_simp
          first | rfl | decide
        simp only [Act.put, List.setIfInBounds_toArray, List.set_cons_zero, List.set_cons_succ]
        refine wpAnyH_ready (rs := [9, 16]) (by kernel_rfl) (by simp) ?_
        refine AllReadyH.cons rfl (fun K hK => ?_) (AllReadyH.cons rfl (fun K hK => ?_) AllReadyH.nil)
        · skip
          go_simp
          have B139 : Hid (Below w.heap.size w (((wa136).alloc (.cells #[.int .u8 2] 5)))) := B137.out.alloc B137.out.size _
          have X140 : Hid (Box (((wa136).alloc (.cells #[.int .u8 2] 5))) w.heap.size [.string x0, .string x1, .string x2, .bool false, .bool true]) := Box.old (w := wa136) X138.out _
          have N141 : Hid (World.ownsRow (((wa136).alloc (.cells #[.int .u8 2] 5))) (w.heap.size + 1) 5 1 (.slice (some ⟨wa136.heap.size, 0, none⟩) 1 1) 1 (cellsB [2])) := ownB_at (w := wa136) [2] (by simp) (show w.heap.size + 1 ≤ _ from World.block_lt_of_cell? _ _ (X138.out 0 _ rfl).1) rfl rfl (by decide)
          clear e0 e1 e2 e3 e4
          obtain ⟨e0, _⟩ := X140.out 0 _ rfl
          obtain ⟨e1, _⟩ := X140.out 1 _ rfl
          obtain ⟨e2, _⟩ := X140.out 2 _ rfl
          obtain ⟨e3, _⟩ := X140.out 3 _ rfl
          obtain ⟨e4, _⟩ := X140.out 4 _ rfl
          refine hK _ _ ⟨e0, e1, e2, e3, e4⟩ (fun hHeld => ?_)
          clear hK K
          refine wpAnyH_ready (rs := [16]) (by kernel_rfl) (by simp) ?_
          refine AllReadyH.cons rfl (fun K hK => ?_) AllReadyH.nil
          go_simp
          have B142 : Hid (Below w.heap.size w (((((wa136).alloc (.cells #[.int .u8 2] 5))).alloc (.cells #[.string x0, .string x1, .string x2] 9)))) := B139.out.alloc B139.out.size _
          have X143 : Hid (Box (((((wa136).alloc (.cells #[.int .u8 2] 5))).alloc (.cells #[.string x0, .string x1, .string x2] 9))) w.heap.size [.string x0, .string x1, .string x2, .bool false, .bool true]) := Box.old (w := ((wa136).alloc (.cells #[.int .u8 2] 5))) X140.out _
          have N144 : Hid (World.ownsRow (((((wa136).alloc (.cells #[.int .u8 2] 5))).alloc (.cells #[.string x0, .string x1, .string x2] 9))) (w.heap.size + 1) 5 1 (.slice (some ⟨wa136.heap.size, 0, none⟩) 1 1) 1 (cellsB [2])) := World.ownsRow.alloc (w := ((wa136).alloc (.cells #[.int .u8 2] 5))) N141.out _
          have Q145 : Hid (Src (((((wa136).alloc (.cells #[.int .u8 2] 5))).alloc (.cells #[.string x0, .string x1, .string x2] 9))) (some ⟨wa136.heap.size + 1, 0, none⟩) (cellsS [x0, x1, x2])) := src_3S (w := ((wa136).alloc (.cells #[.int .u8 2] 5))) (by simp)
          clear e0 e1 e2 e3 e4
          obtain ⟨e0, _⟩ := X143.out 0 _ rfl
          obtain ⟨e1, _⟩ := X143.out 1 _ rfl
          obtain ⟨e2, _⟩ := X143.out 2 _ rfl
          obtain ⟨e3, _⟩ := X143.out 3 _ rfl
          obtain ⟨e4, _⟩ := X143.out 4 _ rfl
          refine hK _ _ ⟨e0, e1, e2, e3, e4⟩ (fun hHeld => ?_)
          clear hK K
          refine wpAnyH_ready (rs := [17]) (by kernel_rfl) (by simp) ?_
          refine AllReadyH.cons rfl (fun K hK => ?_) AllReadyH.nil
          go_simp
          refine (l01Fields (some ⟨wa136.heap.size + 1, 0, none⟩) 3 3 [x0, x1, x2] (((((wa136).alloc (.cells #[.int .u8 2] 5))).alloc (.cells #[.string x0, .string x1, .string x2] 9))) rfl (by omega) FL.out Q145.out).mono ?_
          rintro e wa146 ⟨va146, rfl, o146, hb146⟩
          dsimp only
          rw [FQ.out] at o146
          obtain ⟨g146, c146, rfl, _, s146⟩ := own_some o146 (by omega)
          have B147 : Hid (Below w.heap.size w (wa146)) := (B142.out).trans (hb146.mono (B142.out).size)
          have X148 : Hid (Box (wa146) w.heap.size [.string x0, .string x1, .string x2, .bool false, .bool true]) := Box.below (w := ((((wa136).alloc (.cells #[.int .u8 2] 5))).alloc (.cells #[.string x0, .string x1, .string x2] 9))) X143.out hb146
          have N149 : Hid (World.ownsRow (wa146) (w.heap.size + 1) 5 1 (.slice (some ⟨wa136.heap.size, 0, none⟩) 1 1) 1 (cellsB [2])) := own_below (w := ((((wa136).alloc (.cells #[.int .u8 2] 5))).alloc (.cells #[.string x0, .string x1, .string x2] 9))) N144.out hb146
          have Q150 : Hid (Src (wa146) (some ⟨wa136.heap.size + 1, 0, none⟩) (cellsS [x0, x1, x2])) := Src.below (w := ((((wa136).alloc (.cells #[.int .u8 2] 5))).alloc (.cells #[.string x0, .string x1, .string x2] 9))) Q145.out hb146
          have P151 : Hid (Src (wa146) (some ⟨g146, 0, none⟩) (cellsB (fieldsB [x0, x1, x2]))) := s146
          clear o146 hb146 s146
          clear e0 e1 e2 e3 e4
          obtain ⟨e0, _⟩ := X148.out 0 _ rfl
          obtain ⟨e1, _⟩ := X148.out 1 _ rfl
          obtain ⟨e2, _⟩ := X148.out 2 _ rfl
          obtain ⟨e3, _⟩ := X148.out 3 _ rfl
          obtain ⟨e4, _⟩ := X148.out 4 _ rfl
          refine hK _ _ ⟨e0, e1, e2, e3, e4⟩ (fun hHeld => ?_)
          clear hK K
          refine wpAnyH_ready (rs := [18]) (by kernel_rfl) (by simp) ?_
          refine AllReadyH.cons rfl (fun K hK => ?_) AllReadyH.nil
          refine step_append_src rfl (.tmp 12) (.tmp 20) 55 rfl (w.heap.size + 1) 5 (.int .u8 0) 1 1 Tryz.underlying55 infoB rfl (by decide) (by decide) (.slice (some ⟨wa136.heap.size, 0, none⟩) 1 1) 1 (cellsB [2]) (by rfl) N149.out ⟨g146, 0, none⟩ q c146 (cellsB (fieldsB [x0, x1, x2])) (by rfl) (by rw [cellsB_length, FQ.out]; omega) P151.out (cellsB_one _) (by omega) (by omega) (show w.heap.size + 1 ≤ _ from World.block_lt_of_cell? _ _ (X148.out 0 _ rfl).1) ?_
          intro va152 wa152 hown152 hgrow152 _
          have B153 : Hid (Below w.heap.size w (wa152)) := (B147.out).grown hgrow152 (B147.out).size (fun g e => by have h9 := (N149.out.lt g e).1; omega)
          have X154 : Hid (Box (wa152) w.heap.size [.string x0, .string x1, .string x2, .bool false, .bool true]) := Box.grown X148.out hgrow152 (fun e => by have h9 := (N149.out.lt _ e).1; omega)
          have R155 : Hid (World.ownsRow (wa152) (w.heap.size + 1) 5 1 (va152) (1 + q) (cellsB ([2] ++ fieldsB [x0, x1, x2]))) := by rw [cellsB_append]; exact hown152
          clear hown152 hgrow152
          clear e0 e1 e2 e3 e4
          obtain ⟨e0, _⟩ := X154.out 0 _ rfl
          obtain ⟨e1, _⟩ := X154.out 1 _ rfl
          obtain ⟨e2, _⟩ := X154.out 2 _ rfl
          obtain ⟨e3, _⟩ := X154.out 3 _ rfl
          obtain ⟨e4, _⟩ := X154.out 4 _ rfl
          refine hK _ _ ⟨e0, e1, e2, e3, e4⟩ (fun hHeld => ?_)
          clear hK K
          refine wpAnyH_ready (rs := [19]) (by kernel_rfl) (by simp) ?_
          refine AllReadyH.cons rfl (fun K hK => ?_) AllReadyH.nil
          go_simp
          clear e0 e1 e2 e3 e4
          obtain ⟨e0, _⟩ := X154.out 0 _ rfl
          obtain ⟨e1, _⟩ := X154.out 1 _ rfl
          obtain ⟨e2, _⟩ := X154.out 2 _ rfl
          obtain ⟨e3, _⟩ := X154.out 3 _ rfl
          obtain ⟨e4, _⟩ := X154.out 4 _ rfl
          refine hK _ _ ⟨e0, e1, e2, e3, e4⟩ (fun hHeld => ?_)
          clear hK K
          refine wpAnyH_done (by kernel_rfl) ?_ _
          refine NoPanic.normal ?_
          clear e0 e1 e2 e3 e4
          clear hHeld
          have FIN : Hid ((wa152).ownsRow (w.heap.size + 1) 5 1 va152 (partB (x0, x1, x2, false, true)).length (cellsB (partB (x0, x1, x2, false, true)))) := by
            rw [LQ.out false true, show kindN (x0, x1, x2, false, true) = 2 from rfl]
            have h9 : (2 :: fieldsB [x0, x1, x2]).length = 1 + q := by rw [List.length_cons, FQ.out]; omega
            rw [h9]
            exact R155.out
          go_wp2_with fail
          go_ret
          exact ⟨va152, rfl, FIN.out, B153.out⟩
        · skip
          go_simp
          have B156 : Hid (Below w.heap.size w (((wa136).alloc (.cells #[.string x0, .string x1, .string x2] 9)))) := B137.out.alloc B137.out.size _
          have X157 : Hid (Box (((wa136).alloc (.cells #[.string x0, .string x1, .string x2] 9))) w.heap.size [.string x0, .string x1, .string x2, .bool false, .bool true]) := Box.old (w := wa136) X138.out _
          have Q158 : Hid (Src (((wa136).alloc (.cells #[.string x0, .string x1, .string x2] 9))) (some ⟨wa136.heap.size, 0, none⟩) (cellsS [x0, x1, x2])) := src_3S (w := wa136) (by simp)
          clear e0 e1 e2 e3 e4
          obtain ⟨e0, _⟩ := X157.out 0 _ rfl
          obtain ⟨e1, _⟩ := X157.out 1 _ rfl
          obtain ⟨e2, _⟩ := X157.out 2 _ rfl
          obtain ⟨e3, _⟩ := X157.out 3 _ rfl
          obtain ⟨e4, _⟩ := X157.out 4 _ rfl
          refine hK _ _ ⟨e0, e1, e2, e3, e4⟩ (fun hHeld => ?_)
          clear hK K
          refine wpAnyH_ready (rs := [9, 17]) (by kernel_rfl) (by simp) ?_
          refine AllReadyH.cons rfl (fun K hK => ?_) (AllReadyH.cons rfl (fun K hK => ?_) AllReadyH.nil)
          · skip
            go_simp
            have B159 : Hid (Below w.heap.size w (((((wa136).alloc (.cells #[.string x0, .string x1, .string x2] 9))).alloc (.cells #[.int .u8 2] 5)))) := B156.out.alloc B156.out.size _
            have X160 : Hid (Box (((((wa136).alloc (.cells #[.string x0, .string x1, .string x2] 9))).alloc (.cells #[.int .u8 2] 5))) w.heap.size [.string x0, .string x1, .string x2, .bool false, .bool true]) := Box.old (w := ((wa136).alloc (.cells #[.string x0, .string x1, .string x2] 9))) X157.out _
            have Q161 : Hid (Src (((((wa136).alloc (.cells #[.string x0, .string x1, .string x2] 9))).alloc (.cells #[.int .u8 2] 5))) (some ⟨wa136.heap.size, 0, none⟩) (cellsS [x0, x1, x2])) := Src.below (w := ((wa136).alloc (.cells #[.string x0, .string x1, .string x2] 9))) Q158.out (((Below.refl _ (((wa136).alloc (.cells #[.string x0, .string x1, .string x2] 9)))).alloc (Nat.le_refl _) (.cells #[.int .u8 2] 5)))
            have N162 : Hid (World.ownsRow (((((wa136).alloc (.cells #[.string x0, .string x1, .string x2] 9))).alloc (.cells #[.int .u8 2] 5))) (w.heap.size + 1) 5 1 (.slice (some ⟨wa136.heap.size + 1, 0, none⟩) 1 1) 1 (cellsB [2])) := ownB_at (w := ((wa136).alloc (.cells #[.string x0, .string x1, .string x2] 9))) [2] (by simp) (show w.heap.size + 1 ≤ _ from World.block_lt_of_cell? _ _ (X157.out 0 _ rfl).1) rfl rfl (by decide)
            clear e0 e1 e2 e3 e4
            obtain ⟨e0, _⟩ := X160.out 0 _ rfl
            obtain ⟨e1, _⟩ := X160.out 1 _ rfl
            obtain ⟨e2, _⟩ := X160.out 2 _ rfl
            obtain ⟨e3, _⟩ := X160.out 3 _ rfl
            obtain ⟨e4, _⟩ := X160.out 4 _ rfl
            refine hK _ _ ⟨e0, e1, e2, e3, e4⟩ (fun hHeld => ?_)
            clear hK K
            refine wpAnyH_ready (rs := [17]) (by kernel_rfl) (by simp) ?_
            refine AllReadyH.cons rfl (fun K hK => ?_) AllReadyH.nil
            go_simp
            refine (l01Fields (some ⟨wa136.heap.size, 0, none⟩) 3 3 [x0, x1, x2] (((((wa136).alloc (.cells #[.string x0, .string x1, .string x2] 9))).alloc (.cells #[.int .u8 2] 5))) rfl (by omega) FL.out Q161.out).mono ?_
            rintro e wa163 ⟨va163, rfl, o163, hb163⟩
            dsimp only
            rw [FQ.out] at o163
            obtain ⟨g163, c163, rfl, _, s163⟩ := own_some o163 (by omega)
            have B164 : Hid (Below w.heap.size w (wa163)) := (B159.out).trans (hb163.mono (B159.out).size)
            have X165 : Hid (Box (wa163) w.heap.size [.string x0, .string x1, .string x2, .bool false, .bool true]) := Box.below (w := ((((wa136).alloc (.cells #[.string x0, .string x1, .string x2] 9))).alloc (.cells #[.int .u8 2] 5))) X160.out hb163
            have Q166 : Hid (Src (wa163) (some ⟨wa136.heap.size, 0, none⟩) (cellsS [x0, x1, x2])) := Src.below (w := ((((wa136).alloc (.cells #[.string x0, .string x1, .string x2] 9))).alloc (.cells #[.int .u8 2] 5))) Q161.out hb163
            have N167 : Hid (World.ownsRow (wa163) (w.heap.size + 1) 5 1 (.slice (some ⟨wa136.heap.size + 1, 0, none⟩) 1 1) 1 (cellsB [2])) := own_below (w := ((((wa136).alloc (.cells #[.string x0, .string x1, .string x2] 9))).alloc (.cells #[.int .u8 2] 5))) N162.out hb163
            have P168 : Hid (Src (wa163) (some ⟨g163, 0, none⟩) (cellsB (fieldsB [x0, x1, x2]))) := s163
            clear o163 hb163 s163
            clear e0 e1 e2 e3 e4
            obtain ⟨e0, _⟩ := X165.out 0 _ rfl
            obtain ⟨e1, _⟩ := X165.out 1 _ rfl
            obtain ⟨e2, _⟩ := X165.out 2 _ rfl
            obtain ⟨e3, _⟩ := X165.out 3 _ rfl
            obtain ⟨e4, _⟩ := X165.out 4 _ rfl
            refine hK _ _ ⟨e0, e1, e2, e3, e4⟩ (fun hHeld => ?_)
            clear hK K
            refine wpAnyH_ready (rs := [18]) (by kernel_rfl) (by simp) ?_
            refine AllReadyH.cons rfl (fun K hK => ?_) AllReadyH.nil
            refine step_append_src rfl (.tmp 12) (.tmp 20) 55 rfl (w.heap.size + 1) 5 (.int .u8 0) 1 1 Tryz.underlying55 infoB rfl (by decide) (by decide) (.slice (some ⟨wa136.heap.size + 1, 0, none⟩) 1 1) 1 (cellsB [2]) (by rfl) N167.out ⟨g163, 0, none⟩ q c163 (cellsB (fieldsB [x0, x1, x2])) (by rfl) (by rw [cellsB_length, FQ.out]; omega) P168.out (cellsB_one _) (by omega) (by omega) (show w.heap.size + 1 ≤ _ from World.block_lt_of_cell? _ _ (X165.out 0 _ rfl).1) ?_
            intro va169 wa169 hown169 hgrow169 _
            have B170 : Hid (Below w.heap.size w (wa169)) := (B164.out).grown hgrow169 (B164.out).size (fun g e => by have h9 := (N167.out.lt g e).1; omega)
            have X171 : Hid (Box (wa169) w.heap.size [.string x0, .string x1, .string x2, .bool false, .bool true]) := Box.grown X165.out hgrow169 (fun e => by have h9 := (N167.out.lt _ e).1; omega)
            have R172 : Hid (World.ownsRow (wa169) (w.heap.size + 1) 5 1 (va169) (1 + q) (cellsB ([2] ++ fieldsB [x0, x1, x2]))) := by rw [cellsB_append]; exact hown169
            clear hown169 hgrow169
            clear e0 e1 e2 e3 e4
            obtain ⟨e0, _⟩ := X171.out 0 _ rfl
            obtain ⟨e1, _⟩ := X171.out 1 _ rfl
            obtain ⟨e2, _⟩ := X171.out 2 _ rfl
            obtain ⟨e3, _⟩ := X171.out 3 _ rfl
            obtain ⟨e4, _⟩ := X171.out 4 _ rfl
            refine hK _ _ ⟨e0, e1, e2, e3, e4⟩ (fun hHeld => ?_)
            clear hK K
            refine wpAnyH_ready (rs := [19]) (by kernel_rfl) (by simp) ?_
            refine AllReadyH.cons rfl (fun K hK => ?_) AllReadyH.nil
            go_simp
            clear e0 e1 e2 e3 e4
            obtain ⟨e0, _⟩ := X171.out 0 _ rfl
            obtain ⟨e1, _⟩ := X171.out 1 _ rfl
            obtain ⟨e2, _⟩ := X171.out 2 _ rfl
            obtain ⟨e3, _⟩ := X171.out 3 _ rfl
            obtain ⟨e4, _⟩ := X171.out 4 _ rfl
            refine hK _ _ ⟨e0, e1, e2, e3, e4⟩ (fun hHeld => ?_)
            clear hK K
            refine wpAnyH_done (by kernel_rfl) ?_ _
            refine NoPanic.normal ?_
            clear e0 e1 e2 e3 e4
            clear hHeld
            have FIN : Hid ((wa169).ownsRow (w.heap.size + 1) 5 1 va169 (partB (x0, x1, x2, false, true)).length (cellsB (partB (x0, x1, x2, false, true)))) := by
              rw [LQ.out false true, show kindN (x0, x1, x2, false, true) = 2 from rfl]
              have h9 : (2 :: fieldsB [x0, x1, x2]).length = 1 + q := by rw [List.length_cons, FQ.out]; omega
              rw [h9]
              exact R172.out
            go_wp2_with fail
            go_ret
            exact ⟨va169, rfl, FIN.out, B170.out⟩
          · skip
            go_simp
            refine (l01Fields (some ⟨wa136.heap.size, 0, none⟩) 3 3 [x0, x1, x2] (((wa136).alloc (.cells #[.string x0, .string x1, .string x2] 9))) rfl (by omega) FL.out Q158.out).mono ?_
            rintro e wa173 ⟨va173, rfl, o173, hb173⟩
            dsimp only
            rw [FQ.out] at o173
            obtain ⟨g173, c173, rfl, _, s173⟩ := own_some o173 (by omega)
            have B174 : Hid (Below w.heap.size w (wa173)) := (B156.out).trans (hb173.mono (B156.out).size)
            have X175 : Hid (Box (wa173) w.heap.size [.string x0, .string x1, .string x2, .bool false, .bool true]) := Box.below (w := ((wa136).alloc (.cells #[.string x0, .string x1, .string x2] 9))) X157.out hb173
            have Q176 : Hid (Src (wa173) (some ⟨wa136.heap.size, 0, none⟩) (cellsS [x0, x1, x2])) := Src.below (w := ((wa136).alloc (.cells #[.string x0, .string x1, .string x2] 9))) Q158.out hb173
            have P177 : Hid (Src (wa173) (some ⟨g173, 0, none⟩) (cellsB (fieldsB [x0, x1, x2]))) := s173
            clear o173 hb173 s173
            clear e0 e1 e2 e3 e4
            obtain ⟨e0, _⟩ := X175.out 0 _ rfl
            obtain ⟨e1, _⟩ := X175.out 1 _ rfl
            obtain ⟨e2, _⟩ := X175.out 2 _ rfl
            obtain ⟨e3, _⟩ := X175.out 3 _ rfl
            obtain ⟨e4, _⟩ := X175.out 4 _ rfl
            refine hK _ _ ⟨e0, e1, e2, e3, e4⟩ (fun hHeld => ?_)
            clear hK K
            refine wpAnyH_ready (rs := [9]) (by kernel_rfl) (by simp) ?_
            refine AllReadyH.cons rfl (fun K hK => ?_) AllReadyH.nil
            go_simp
            have B178 : Hid (Below w.heap.size w (((wa173).alloc (.cells #[.int .u8 2] 5)))) := B174.out.alloc B174.out.size _
            have X179 : Hid (Box (((wa173).alloc (.cells #[.int .u8 2] 5))) w.heap.size [.string x0, .string x1, .string x2, .bool false, .bool true]) := Box.old (w := wa173) X175.out _
            have Q180 : Hid (Src (((wa173).alloc (.cells #[.int .u8 2] 5))) (some ⟨wa136.heap.size, 0, none⟩) (cellsS [x0, x1, x2])) := Src.below (w := wa173) Q176.out (((Below.refl _ (wa173)).alloc (Nat.le_refl _) (.cells #[.int .u8 2] 5)))
            have P181 : Hid (Src (((wa173).alloc (.cells #[.int .u8 2] 5))) (some ⟨g173, 0, none⟩) (cellsB (fieldsB [x0, x1, x2]))) := Src.below (w := wa173) P177.out (((Below.refl _ (wa173)).alloc (Nat.le_refl _) (.cells #[.int .u8 2] 5)))
            have N182 : Hid (World.ownsRow (((wa173).alloc (.cells #[.int .u8 2] 5))) (w.heap.size + 1) 5 1 (.slice (some ⟨wa173.heap.size, 0, none⟩) 1 1) 1 (cellsB [2])) := ownB_at (w := wa173) [2] (by simp) (show w.heap.size + 1 ≤ _ from World.block_lt_of_cell? _ _ (X175.out 0 _ rfl).1) rfl rfl (by decide)
            clear e0 e1 e2 e3 e4
            obtain ⟨e0, _⟩ := X179.out 0 _ rfl
            obtain ⟨e1, _⟩ := X179.out 1 _ rfl
            obtain ⟨e2, _⟩ := X179.out 2 _ rfl
            obtain ⟨e3, _⟩ := X179.out 3 _ rfl
            obtain ⟨e4, _⟩ := X179.out 4 _ rfl
            refine hK _ _ ⟨e0, e1, e2, e3, e4⟩ (fun hHeld => ?_)
            clear hK K
            refine wpAnyH_ready (rs := [18]) (by kernel_rfl) (by simp) ?_
            refine AllReadyH.cons rfl (fun K hK => ?_) AllReadyH.nil
            refine step_append_src rfl (.tmp 12) (.tmp 20) 55 rfl (w.heap.size + 1) 5 (.int .u8 0) 1 1 Tryz.underlying55 infoB rfl (by decide) (by decide) (.slice (some ⟨wa173.heap.size, 0, none⟩) 1 1) 1 (cellsB [2]) (by rfl) N182.out ⟨g173, 0, none⟩ q c173 (cellsB (fieldsB [x0, x1, x2])) (by rfl) (by rw [cellsB_length, FQ.out]; omega) P181.out (cellsB_one _) (by omega) (by omega) (show w.heap.size + 1 ≤ _ from World.block_lt_of_cell? _ _ (X179.out 0 _ rfl).1) ?_
            intro va183 wa183 hown183 hgrow183 _
            have B184 : Hid (Below w.heap.size w (wa183)) := (B178.out).grown hgrow183 (B178.out).size (fun g e => by have h9 := (N182.out.lt g e).1; omega)
            have X185 : Hid (Box (wa183) w.heap.size [.string x0, .string x1, .string x2, .bool false, .bool true]) := Box.grown X179.out hgrow183 (fun e => by have h9 := (N182.out.lt _ e).1; omega)
            have R186 : Hid (World.ownsRow (wa183) (w.heap.size + 1) 5 1 (va183) (1 + q) (cellsB ([2] ++ fieldsB [x0, x1, x2]))) := by rw [cellsB_append]; exact hown183
            clear hown183 hgrow183
            clear e0 e1 e2 e3 e4
            obtain ⟨e0, _⟩ := X185.out 0 _ rfl
            obtain ⟨e1, _⟩ := X185.out 1 _ rfl
            obtain ⟨e2, _⟩ := X185.out 2 _ rfl
            obtain ⟨e3, _⟩ := X185.out 3 _ rfl
            obtain ⟨e4, _⟩ := X185.out 4 _ rfl
            refine hK _ _ ⟨e0, e1, e2, e3, e4⟩ (fun hHeld => ?_)
            clear hK K
            refine wpAnyH_ready (rs := [19]) (by kernel_rfl) (by simp) ?_
            refine AllReadyH.cons rfl (fun K hK => ?_) AllReadyH.nil
            go_simp
            clear e0 e1 e2 e3 e4
            obtain ⟨e0, _⟩ := X185.out 0 _ rfl
            obtain ⟨e1, _⟩ := X185.out 1 _ rfl
            obtain ⟨e2, _⟩ := X185.out 2 _ rfl
            obtain ⟨e3, _⟩ := X185.out 3 _ rfl
            obtain ⟨e4, _⟩ := X185.out 4 _ rfl
            refine hK _ _ ⟨e0, e1, e2, e3, e4⟩ (fun hHeld => ?_)
            clear hK K
            refine wpAnyH_done (by kernel_rfl) ?_ _
            refine NoPanic.normal ?_
            clear e0 e1 e2 e3 e4
            clear hHeld
            have FIN : Hid ((wa183).ownsRow (w.heap.size + 1) 5 1 va183 (partB (x0, x1, x2, false, true)).length (cellsB (partB (x0, x1, x2, false, true)))) := by
              rw [LQ.out false true, show kindN (x0, x1, x2, false, true) = 2 from rfl]
              have h9 : (2 :: fieldsB [x0, x1, x2]).length = 1 + q := by rw [List.length_cons, FQ.out]; omega
              rw [h9]
              exact R186.out
            go_wp2_with fail
            go_ret
            exact ⟨va183, rfl, FIN.out, B184.out⟩
      · skip
        go_simp
        have B187 : Hid (Below w.heap.size w (((wa133).alloc (.cells #[.string x0, .string x1, .string x2] 9)))) := B134.out.alloc B134.out.size _
        have X188 : Hid (Box (((wa133).alloc (.cells #[.string x0, .string x1, .string x2] 9))) w.heap.size [.string x0, .string x1, .string x2, .bool false, .bool true]) := Box.old (w := wa133) X135.out _
        have Q189 : Hid (Src (((wa133).alloc (.cells #[.string x0, .string x1, .string x2] 9))) (some ⟨wa133.heap.size, 0, none⟩) (cellsS [x0, x1, x2])) := src_3S (w := wa133) (by simp)
        clear e0 e1 e2 e3 e4
        obtain ⟨e0, _⟩ := X188.out 0 _ rfl
        obtain ⟨e1, _⟩ := X188.out 1 _ rfl
        obtain ⟨e2, _⟩ := X188.out 2 _ rfl
        obtain ⟨e3, _⟩ := X188.out 3 _ rfl
        obtain ⟨e4, _⟩ := X188.out 4 _ rfl
        refine hK _ _ ⟨e0, e1, e2, e3, e4⟩ (fun hHeld => ?_)
        clear hK K
        refine wpAnyH_ready (rs := [5]) (by kernel_rfl) (by simp) ?_
        refine AllReadyH.cons rfl (fun K hK => ?_) AllReadyH.nil
        go_simp
        refine (bitIs true (((wa133).alloc (.cells #[.string x0, .string x1, .string x2] 9)))).mono ?_
        rintro e wa190 ⟨rfl, hb190⟩
        dsimp only
        have B191 : Hid (Below w.heap.size w (wa190)) := (B187.out).trans (hb190.mono (B187.out).size)
        have X192 : Hid (Box (wa190) w.heap.size [.string x0, .string x1, .string x2, .bool false, .bool true]) := Box.below (w := ((wa133).alloc (.cells #[.string x0, .string x1, .string x2] 9))) X188.out hb190
        have Q193 : Hid (Src (wa190) (some ⟨wa133.heap.size, 0, none⟩) (cellsS [x0, x1, x2])) := Src.below (w := ((wa133).alloc (.cells #[.string x0, .string x1, .string x2] 9))) Q189.out hb190
        clear hb190
        clear e0 e1 e2 e3 e4
        obtain ⟨e0, _⟩ := X192.out 0 _ rfl
        obtain ⟨e1, _⟩ := X192.out 1 _ rfl
        obtain ⟨e2, _⟩ := X192.out 2 _ rfl
        obtain ⟨e3, _⟩ := X192.out 3 _ rfl
        obtain ⟨e4, _⟩ := X192.out 4 _ rfl
        refine hK _ _ ⟨e0, e1, e2, e3, e4⟩ (fun hHeld => ?_)
        clear hK K
        refine wpAnyH_take (i := 6) (v := .int .i64 2) rfl (by kernel_rfl) (by kernel_rfl) (by kernel_rfl) (fun _ _ _ h => h) (Or.inl ⟨by kernel_rfl, ?_⟩) hHeld ?_
        · intro w9 hSw
          obtain ⟨s0, s1, s2, s3, s4⟩ := hSw
          go_simp
          first | rfl | decide
        simp only [Act.put, List.setIfInBounds_toArray, List.set_cons_zero, List.set_cons_succ]
        refine wpAnyH_take (i := 7) (v := .int .i64 2) rfl (by kernel_rfl) (by kernel_rfl) (by kernel_rfl) (fun _ _ _ h => h) (Or.inl ⟨by kernel_rfl, ?_⟩) hHeld ?_
        · intro w9 hSw
          obtain ⟨s0, s1, s2, s3, s4⟩ := hSw
          go_simp
          first | rfl | decide
        simp only [Act.put, List.setIfInBounds_toArray, List.set_cons_zero, List.set_cons_succ]
        refine wpAnyH_take (i := 8) (v := .int .u8 2) rfl (by kernel_rfl) (by kernel_rfl) (by kernel_rfl) (fun _ _ _ h => h) (Or.inl ⟨by kernel_rfl, ?_⟩) hHeld ?_
        · intro w9 hSw
          obtain ⟨s0, s1, s2, s3, s4⟩ := hSw
          go_simp
          first | rfl | decide
        simp only [Act.put, List.setIfInBounds_toArray, List.set_cons_zero, List.set_cons_succ]
        refine wpAnyH_ready (rs := [9, 17]) (by kernel_rfl) (by simp) ?_
        refine AllReadyH.cons rfl (fun K hK => ?_) (AllReadyH.cons rfl (fun K hK => ?_) AllReadyH.nil)
        · skip
          go_simp
          have B194 : Hid (Below w.heap.size w (((wa190).alloc (.cells #[.int .u8 2] 5)))) := B191.out.alloc B191.out.size _
          have X195 : Hid (Box (((wa190).alloc (.cells #[.int .u8 2] 5))) w.heap.size [.string x0, .string x1, .string x2, .bool false, .bool true]) := Box.old (w := wa190) X192.out _
          have Q196 : Hid (Src (((wa190).alloc (.cells #[.int .u8 2] 5))) (some ⟨wa133.heap.size, 0, none⟩) (cellsS [x0, x1, x2])) := Src.below (w := wa190) Q193.out (((Below.refl _ (wa190)).alloc (Nat.le_refl _) (.cells #[.int .u8 2] 5)))
          have N197 : Hid (World.ownsRow (((wa190).alloc (.cells #[.int .u8 2] 5))) (w.heap.size + 1) 5 1 (.slice (some ⟨wa190.heap.size, 0, none⟩) 1 1) 1 (cellsB [2])) := ownB_at (w := wa190) [2] (by simp) (show w.heap.size + 1 ≤ _ from World.block_lt_of_cell? _ _ (X192.out 0 _ rfl).1) rfl rfl (by decide)
          clear e0 e1 e2 e3 e4
          obtain ⟨e0, _⟩ := X195.out 0 _ rfl
          obtain ⟨e1, _⟩ := X195.out 1 _ rfl
          obtain ⟨e2, _⟩ := X195.out 2 _ rfl
          obtain ⟨e3, _⟩ := X195.out 3 _ rfl
          obtain ⟨e4, _⟩ := X195.out 4 _ rfl
          refine hK _ _ ⟨e0, e1, e2, e3, e4⟩ (fun hHeld => ?_)
          clear hK K
          refine wpAnyH_ready (rs := [17]) (by kernel_rfl) (by simp) ?_
          refine AllReadyH.cons rfl (fun K hK => ?_) AllReadyH.nil
          go_simp
          refine (l01Fields (some ⟨wa133.heap.size, 0, none⟩) 3 3 [x0, x1, x2] (((wa190).alloc (.cells #[.int .u8 2] 5))) rfl (by omega) FL.out Q196.out).mono ?_
          rintro e wa198 ⟨va198, rfl, o198, hb198⟩
          dsimp only
          rw [FQ.out] at o198
          obtain ⟨g198, c198, rfl, _, s198⟩ := own_some o198 (by omega)
          have B199 : Hid (Below w.heap.size w (wa198)) := (B194.out).trans (hb198.mono (B194.out).size)
          have X200 : Hid (Box (wa198) w.heap.size [.string x0, .string x1, .string x2, .bool false, .bool true]) := Box.below (w := ((wa190).alloc (.cells #[.int .u8 2] 5))) X195.out hb198
          have Q201 : Hid (Src (wa198) (some ⟨wa133.heap.size, 0, none⟩) (cellsS [x0, x1, x2])) := Src.below (w := ((wa190).alloc (.cells #[.int .u8 2] 5))) Q196.out hb198
          have N202 : Hid (World.ownsRow (wa198) (w.heap.size + 1) 5 1 (.slice (some ⟨wa190.heap.size, 0, none⟩) 1 1) 1 (cellsB [2])) := own_below (w := ((wa190).alloc (.cells #[.int .u8 2] 5))) N197.out hb198
          have P203 : Hid (Src (wa198) (some ⟨g198, 0, none⟩) (cellsB (fieldsB [x0, x1, x2]))) := s198
          clear o198 hb198 s198
          clear e0 e1 e2 e3 e4
          obtain ⟨e0, _⟩ := X200.out 0 _ rfl
          obtain ⟨e1, _⟩ := X200.out 1 _ rfl
          obtain ⟨e2, _⟩ := X200.out 2 _ rfl
          obtain ⟨e3, _⟩ := X200.out 3 _ rfl
          obtain ⟨e4, _⟩ := X200.out 4 _ rfl
          refine hK _ _ ⟨e0, e1, e2, e3, e4⟩ (fun hHeld => ?_)
          clear hK K
          refine wpAnyH_ready (rs := [18]) (by kernel_rfl) (by simp) ?_
          refine AllReadyH.cons rfl (fun K hK => ?_) AllReadyH.nil
          refine step_append_src rfl (.tmp 12) (.tmp 20) 55 rfl (w.heap.size + 1) 5 (.int .u8 0) 1 1 Tryz.underlying55 infoB rfl (by decide) (by decide) (.slice (some ⟨wa190.heap.size, 0, none⟩) 1 1) 1 (cellsB [2]) (by rfl) N202.out ⟨g198, 0, none⟩ q c198 (cellsB (fieldsB [x0, x1, x2])) (by rfl) (by rw [cellsB_length, FQ.out]; omega) P203.out (cellsB_one _) (by omega) (by omega) (show w.heap.size + 1 ≤ _ from World.block_lt_of_cell? _ _ (X200.out 0 _ rfl).1) ?_
          intro va204 wa204 hown204 hgrow204 _
          have B205 : Hid (Below w.heap.size w (wa204)) := (B199.out).grown hgrow204 (B199.out).size (fun g e => by have h9 := (N202.out.lt g e).1; omega)
          have X206 : Hid (Box (wa204) w.heap.size [.string x0, .string x1, .string x2, .bool false, .bool true]) := Box.grown X200.out hgrow204 (fun e => by have h9 := (N202.out.lt _ e).1; omega)
          have R207 : Hid (World.ownsRow (wa204) (w.heap.size + 1) 5 1 (va204) (1 + q) (cellsB ([2] ++ fieldsB [x0, x1, x2]))) := by rw [cellsB_append]; exact hown204
          clear hown204 hgrow204
          clear e0 e1 e2 e3 e4
          obtain ⟨e0, _⟩ := X206.out 0 _ rfl
          obtain ⟨e1, _⟩ := X206.out 1 _ rfl
          obtain ⟨e2, _⟩ := X206.out 2 _ rfl
          obtain ⟨e3, _⟩ := X206.out 3 _ rfl
          obtain ⟨e4, _⟩ := X206.out 4 _ rfl
          refine hK _ _ ⟨e0, e1, e2, e3, e4⟩ (fun hHeld => ?_)
          clear hK K
          refine wpAnyH_ready (rs := [19]) (by kernel_rfl) (by simp) ?_
          refine AllReadyH.cons rfl (fun K hK => ?_) AllReadyH.nil
          go_simp
          clear e0 e1 e2 e3 e4
          obtain ⟨e0, _⟩ := X206.out 0 _ rfl
          obtain ⟨e1, _⟩ := X206.out 1 _ rfl
          obtain ⟨e2, _⟩ := X206.out 2 _ rfl
          obtain ⟨e3, _⟩ := X206.out 3 _ rfl
          obtain ⟨e4, _⟩ := X206.out 4 _ rfl
          refine hK _ _ ⟨e0, e1, e2, e3, e4⟩ (fun hHeld => ?_)
          clear hK K
          refine wpAnyH_done (by kernel_rfl) ?_ _
          refine NoPanic.normal ?_
          clear e0 e1 e2 e3 e4
          clear hHeld
          have FIN : Hid ((wa204).ownsRow (w.heap.size + 1) 5 1 va204 (partB (x0, x1, x2, false, true)).length (cellsB (partB (x0, x1, x2, false, true)))) := by
            rw [LQ.out false true, show kindN (x0, x1, x2, false, true) = 2 from rfl]
            have h9 : (2 :: fieldsB [x0, x1, x2]).length = 1 + q := by rw [List.length_cons, FQ.out]; omega
            rw [h9]
            exact R207.out
          go_wp2_with fail
          go_ret
          exact ⟨va204, rfl, FIN.out, B205.out⟩
        · skip
          go_simp
          refine (l01Fields (some ⟨wa133.heap.size, 0, none⟩) 3 3 [x0, x1, x2] (wa190) rfl (by omega) FL.out Q193.out).mono ?_
          rintro e wa208 ⟨va208, rfl, o208, hb208⟩
          dsimp only
          rw [FQ.out] at o208
          obtain ⟨g208, c208, rfl, _, s208⟩ := own_some o208 (by omega)
          have B209 : Hid (Below w.heap.size w (wa208)) := (B191.out).trans (hb208.mono (B191.out).size)
          have X210 : Hid (Box (wa208) w.heap.size [.string x0, .string x1, .string x2, .bool false, .bool true]) := Box.below (w := wa190) X192.out hb208
          have Q211 : Hid (Src (wa208) (some ⟨wa133.heap.size, 0, none⟩) (cellsS [x0, x1, x2])) := Src.below (w := wa190) Q193.out hb208
          have P212 : Hid (Src (wa208) (some ⟨g208, 0, none⟩) (cellsB (fieldsB [x0, x1, x2]))) := s208
          clear o208 hb208 s208
          clear e0 e1 e2 e3 e4
          obtain ⟨e0, _⟩ := X210.out 0 _ rfl
          obtain ⟨e1, _⟩ := X210.out 1 _ rfl
          obtain ⟨e2, _⟩ := X210.out 2 _ rfl
          obtain ⟨e3, _⟩ := X210.out 3 _ rfl
          obtain ⟨e4, _⟩ := X210.out 4 _ rfl
          refine hK _ _ ⟨e0, e1, e2, e3, e4⟩ (fun hHeld => ?_)
          clear hK K
          refine wpAnyH_ready (rs := [9]) (by kernel_rfl) (by simp) ?_
          refine AllReadyH.cons rfl (fun K hK => ?_) AllReadyH.nil
          go_simp
          have B213 : Hid (Below w.heap.size w (((wa208).alloc (.cells #[.int .u8 2] 5)))) := B209.out.alloc B209.out.size _
          have X214 : Hid (Box (((wa208).alloc (.cells #[.int .u8 2] 5))) w.heap.size [.string x0, .string x1, .string x2, .bool false, .bool true]) := Box.old (w := wa208) X210.out _
          have Q215 : Hid (Src (((wa208).alloc (.cells #[.int .u8 2] 5))) (some ⟨wa133.heap.size, 0, none⟩) (cellsS [x0, x1, x2])) := Src.below (w := wa208) Q211.out (((Below.refl _ (wa208)).alloc (Nat.le_refl _) (.cells #[.int .u8 2] 5)))
          have P216 : Hid (Src (((wa208).alloc (.cells #[.int .u8 2] 5))) (some ⟨g208, 0, none⟩) (cellsB (fieldsB [x0, x1, x2]))) := Src.below (w := wa208) P212.out (((Below.refl _ (wa208)).alloc (Nat.le_refl _) (.cells #[.int .u8 2] 5)))
          have N217 : Hid (World.ownsRow (((wa208).alloc (.cells #[.int .u8 2] 5))) (w.heap.size + 1) 5 1 (.slice (some ⟨wa208.heap.size, 0, none⟩) 1 1) 1 (cellsB [2])) := ownB_at (w := wa208) [2] (by simp) (show w.heap.size + 1 ≤ _ from World.block_lt_of_cell? _ _ (X210.out 0 _ rfl).1) rfl rfl (by decide)
          clear e0 e1 e2 e3 e4
          obtain ⟨e0, _⟩ := X214.out 0 _ rfl
          obtain ⟨e1, _⟩ := X214.out 1 _ rfl
          obtain ⟨e2, _⟩ := X214.out 2 _ rfl
          obtain ⟨e3, _⟩ := X214.out 3 _ rfl
          obtain ⟨e4, _⟩ := X214.out 4 _ rfl
          refine hK _ _ ⟨e0, e1, e2, e3, e4⟩ (fun hHeld => ?_)
          clear hK K
          refine wpAnyH_ready (rs := [18]) (by kernel_rfl) (by simp) ?_
          refine AllReadyH.cons rfl (fun K hK => ?_) AllReadyH.nil
          refine step_append_src rfl (.tmp 12) (.tmp 20) 55 rfl (w.heap.size + 1) 5 (.int .u8 0) 1 1 Tryz.underlying55 infoB rfl (by decide) (by decide) (.slice (some ⟨wa208.heap.size, 0, none⟩) 1 1) 1 (cellsB [2]) (by rfl) N217.out ⟨g208, 0, none⟩ q c208 (cellsB (fieldsB [x0, x1, x2])) (by rfl) (by rw [cellsB_length, FQ.out]; omega) P216.out (cellsB_one _) (by omega) (by omega) (show w.heap.size + 1 ≤ _ from World.block_lt_of_cell? _ _ (X214.out 0 _ rfl).1) ?_
          intro va218 wa218 hown218 hgrow218 _
          have B219 : Hid (Below w.heap.size w (wa218)) := (B213.out).grown hgrow218 (B213.out).size (fun g e => by have h9 := (N217.out.lt g e).1; omega)
          have X220 : Hid (Box (wa218) w.heap.size [.string x0, .string x1, .string x2, .bool false, .bool true]) := Box.grown X214.out hgrow218 (fun e => by have h9 := (N217.out.lt _ e).1; omega)
          have R221 : Hid (World.ownsRow (wa218) (w.heap.size + 1) 5 1 (va218) (1 + q) (cellsB ([2] ++ fieldsB [x0, x1, x2]))) := by rw [cellsB_append]; exact hown218
          clear hown218 hgrow218
          clear e0 e1 e2 e3 e4
          obtain ⟨e0, _⟩ := X220.out 0 _ rfl
          obtain ⟨e1, _⟩ := X220.out 1 _ rfl
          obtain ⟨e2, _⟩ := X220.out 2 _ rfl
          obtain ⟨e3, _⟩ := X220.out 3 _ rfl
          obtain ⟨e4, _⟩ := X220.out 4 _ rfl
          refine hK _ _ ⟨e0, e1, e2, e3, e4⟩ (fun hHeld => ?_)
          clear hK K
          refine wpAnyH_ready (rs := [19]) (by kernel_rfl) (by simp) ?_
          refine AllReadyH.cons rfl (fun K hK => ?_) AllReadyH.nil
          go_simp
          clear e0 e1 e2 e3 e4
          obtain ⟨e0, _⟩ := X220.out 0 _ rfl
          obtain ⟨e1, _⟩ := X220.out 1 _ rfl
          obtain ⟨e2, _⟩ := X220.out 2 _ rfl
          obtain ⟨e3, _⟩ := X220.out 3 _ rfl
          obtain ⟨e4, _⟩ := X220.out 4 _ rfl
          refine hK _ _ ⟨e0, e1, e2, e3, e4⟩ (fun hHeld => ?_)
          clear hK K
          refine wpAnyH_done (by kernel_rfl) ?_ _
          refine NoPanic.normal ?_
          clear e0 e1 e2 e3 e4
          clear hHeld
          have FIN : Hid ((wa218).ownsRow (w.heap.size + 1) 5 1 va218 (partB (x0, x1, x2, false, true)).length (cellsB (partB (x0, x1, x2, false, true)))) := by
            rw [LQ.out false true, show kindN (x0, x1, x2, false, true) = 2 from rfl]
            have h9 : (2 :: fieldsB [x0, x1, x2]).length = 1 + q := by rw [List.length_cons, FQ.out]; omega
            rw [h9]
            exact R221.out
          go_wp2_with fail
          go_ret
          exact ⟨va218, rfl, FIN.out, B219.out⟩
    · skip
      go_simp
      have B222 : Hid (Below w.heap.size w (((w.alloc (.cells #[.string x0, .string x1, .string x2, .bool false, .bool true] 108)).alloc (.cells #[.string x0, .string x1, .string x2] 9)))) := B131.out.alloc B131.out.size _
      have X223 : Hid (Box ((((w.alloc (.cells #[.string x0, .string x1, .string x2, .bool false, .bool true] 108)).alloc (.cells #[.string x0, .string x1, .string x2] 9))).drew) w.heap.size [.string x0, .string x1, .string x2, .bool false, .bool true]) := Box.old (w := w.alloc (.cells #[.string x0, .string x1, .string x2, .bool false, .bool true] 108)) X132.out _
      have Q224 : Hid (Src ((((w.alloc (.cells #[.string x0, .string x1, .string x2, .bool false, .bool true] 108)).alloc (.cells #[.string x0, .string x1, .string x2] 9))).drew) (some ⟨w.heap.size + 1, 0, none⟩) (cellsS [x0, x1, x2])) := src_3S (w := w.alloc (.cells #[.string x0, .string x1, .string x2, .bool false, .bool true] 108)) (by simp)
      clear e0 e1 e2 e3 e4
      obtain ⟨e0, _⟩ := X223.out 0 _ rfl
      obtain ⟨e1, _⟩ := X223.out 1 _ rfl
      obtain ⟨e2, _⟩ := X223.out 2 _ rfl
      obtain ⟨e3, _⟩ := X223.out 3 _ rfl
      obtain ⟨e4, _⟩ := X223.out 4 _ rfl
      refine hK _ _ ⟨e0, e1, e2, e3, e4⟩ (fun hHeld => ?_)
      clear hK K
      refine wpAnyH_ready (rs := [2]) (by kernel_rfl) (by simp) ?_
      refine AllReadyH.cons rfl (fun K hK => ?_) AllReadyH.nil
      go_simp
      refine (bitIs false ((((w.alloc (.cells #[.string x0, .string x1, .string x2, .bool false, .bool true] 108)).alloc (.cells #[.string x0, .string x1, .string x2] 9))).drew)).mono ?_
      rintro e wa225 ⟨rfl, hb225⟩
      dsimp only
      have B226 : Hid (Below w.heap.size w (wa225)) := (B222.out.drew).trans (hb225.mono (B222.out.drew).size)
      have X227 : Hid (Box (wa225) w.heap.size [.string x0, .string x1, .string x2, .bool false, .bool true]) := Box.below (w := (((w.alloc (.cells #[.string x0, .string x1, .string x2, .bool false, .bool true] 108)).alloc (.cells #[.string x0, .string x1, .string x2] 9))).drew) X223.out hb225
      have Q228 : Hid (Src (wa225) (some ⟨w.heap.size + 1, 0, none⟩) (cellsS [x0, x1, x2])) := Src.below (w := (((w.alloc (.cells #[.string x0, .string x1, .string x2, .bool false, .bool true] 108)).alloc (.cells #[.string x0, .string x1, .string x2] 9))).drew) Q224.out hb225
      clear hb225
      clear e0 e1 e2 e3 e4
      obtain ⟨e0, _⟩ := X227.out 0 _ rfl
      obtain ⟨e1, _⟩ := X227.out 1 _ rfl
      obtain ⟨e2, _⟩ := X227.out 2 _ rfl
      obtain ⟨e3, _⟩ := X227.out 3 _ rfl
      obtain ⟨e4, _⟩ := X227.out 4 _ rfl
      refine hK _ _ ⟨e0, e1, e2, e3, e4⟩ (fun hHeld => ?_)
      clear hK K
      refine wpAnyH_ready (rs := [5]) (by kernel_rfl) (by simp) ?_
      refine AllReadyH.cons rfl (fun K hK => ?_) AllReadyH.nil
      go_simp
      refine (bitIs true (wa225)).mono ?_
      rintro e wa229 ⟨rfl, hb229⟩
      dsimp only
      have B230 : Hid (Below w.heap.size w (wa229)) := (B226.out).trans (hb229.mono (B226.out).size)
      have X231 : Hid (Box (wa229) w.heap.size [.string x0, .string x1, .string x2, .bool false, .bool true]) := Box.below (w := wa225) X227.out hb229
      have Q232 : Hid (Src (wa229) (some ⟨w.heap.size + 1, 0, none⟩) (cellsS [x0, x1, x2])) := Src.below (w := wa225) Q228.out hb229
      clear hb229
      clear e0 e1 e2 e3 e4
      obtain ⟨e0, _⟩ := X231.out 0 _ rfl
      obtain ⟨e1, _⟩ := X231.out 1 _ rfl
      obtain ⟨e2, _⟩ := X231.out 2 _ rfl
      obtain ⟨e3, _⟩ := X231.out 3 _ rfl
      obtain ⟨e4, _⟩ := X231.out 4 _ rfl
      refine hK _ _ ⟨e0, e1, e2, e3, e4⟩ (fun hHeld => ?_)
      clear hK K
      refine wpAnyH_take (i := 6) (v := .int .i64 2) rfl (by kernel_rfl) (by kernel_rfl) (by kernel_rfl) (fun _ _ _ h => h) (Or.inl ⟨by kernel_rfl, ?_⟩) hHeld ?_
      · intro w9 hSw
        obtain ⟨s0, s1, s2, s3, s4⟩ := hSw
        go_simp
        first | rfl | decide
      simp only [Act.put, List.setIfInBounds_toArray, List.set_cons_zero, List.set_cons_succ]
      refine wpAnyH_take (i := 7) (v := .int .i64 2) rfl (by kernel_rfl) (by kernel_rfl) (by kernel_rfl) (fun _ _ _ h => h) (Or.inl ⟨by kernel_rfl, ?_⟩) hHeld ?_
      · intro w9 hSw
        obtain ⟨s0, s1, s2, s3, s4⟩ := hSw
        go_simp
        first | rfl | decide
      simp only [Act.put, List.setIfInBounds_toArray, List.set_cons_zero, List.set_cons_succ]
      refine wpAnyH_take (i := 8) (v := .int .u8 2) rfl (by kernel_rfl) (by kernel_rfl) (by kernel_rfl) (fun _ _ _ h => h) (Or.inl ⟨by kernel_rfl, ?_⟩) hHeld ?_
      · intro w9 hSw
        obtain ⟨s0, s1, s2, s3, s4⟩ := hSw
        go_simp
        first | rfl | decide
      simp only [Act.put, List.setIfInBounds_toArray, List.set_cons_zero, List.set_cons_succ]
      refine wpAnyH_ready (rs := [9, 17]) (by kernel_rfl) (by simp) ?_
      refine AllReadyH.cons rfl (fun K hK => ?_) (AllReadyH.cons rfl (fun K hK => ?_) AllReadyH.nil)
      · skip
        go_simp
        have B233 : Hid (Below w.heap.size w (((wa229).alloc (.cells #[.int .u8 2] 5)))) := B230.out.alloc B230.out.size _
        have X234 : Hid (Box (((wa229).alloc (.cells #[.int .u8 2] 5))) w.heap.size [.string x0, .string x1, .string x2, .bool false, .bool true]) := Box.old (w := wa229) X231.out _
        have Q235 : Hid (Src (((wa229).alloc (.cells #[.int .u8 2] 5))) (some ⟨w.heap.size + 1, 0, none⟩) (cellsS [x0, x1, x2])) := Src.below (w := wa229) Q232.out (((Below.refl _ (wa229)).alloc (Nat.le_refl _) (.cells #[.int .u8 2] 5)))
        have N236 : Hid (World.ownsRow (((wa229).alloc (.cells #[.int .u8 2] 5))) (w.heap.size + 1) 5 1 (.slice (some ⟨wa229.heap.size, 0, none⟩) 1 1) 1 (cellsB [2])) := ownB_at (w := wa229) [2] (by simp) (show w.heap.size + 1 ≤ _ from World.block_lt_of_cell? _ _ (X231.out 0 _ rfl).1) rfl rfl (by decide)
        clear e0 e1 e2 e3 e4
        obtain ⟨e0, _⟩ := X234.out 0 _ rfl
        obtain ⟨e1, _⟩ := X234.out 1 _ rfl
        obtain ⟨e2, _⟩ := X234.out 2 _ rfl
        obtain ⟨e3, _⟩ := X234.out 3 _ rfl
        obtain ⟨e4, _⟩ := X234.out 4 _ rfl
        refine hK _ _ ⟨e0, e1, e2, e3, e4⟩ (fun hHeld => ?_)
        clear hK K
        refine wpAnyH_ready (rs := [17]) (by kernel_rfl) (by simp) ?_
        refine AllReadyH.cons rfl (fun K hK => ?_) AllReadyH.nil
        go_simp
        refine (l01Fields (some ⟨w.heap.size + 1, 0, none⟩) 3 3 [x0, x1, x2] (((wa229).alloc (.cells #[.int .u8 2] 5))) rfl (by omega) FL.out Q235.out).mono ?_
        rintro e wa237 ⟨va237, rfl, o237, hb237⟩
        dsimp only
        rw [FQ.out] at o237
        obtain ⟨g237, c237, rfl, _, s237⟩ := own_some o237 (by omega)
        have B238 : Hid (Below w.heap.size w (wa237)) := (B233.out).trans (hb237.mono (B233.out).size)
        have X239 : Hid (Box (wa237) w.heap.size [.string x0, .string x1, .string x2, .bool false, .bool true]) := Box.below (w := ((wa229).alloc (.cells #[.int .u8 2] 5))) X234.out hb237
        have Q240 : Hid (Src (wa237) (some ⟨w.heap.size + 1, 0, none⟩) (cellsS [x0, x1, x2])) := Src.below (w := ((wa229).alloc (.cells #[.int .u8 2] 5))) Q235.out hb237
        have N241 : Hid (World.ownsRow (wa237) (w.heap.size + 1) 5 1 (.slice (some ⟨wa229.heap.size, 0, none⟩) 1 1) 1 (cellsB [2])) := own_below (w := ((wa229).alloc (.cells #[.int .u8 2] 5))) N236.out hb237
        have P242 : Hid (Src (wa237) (some ⟨g237, 0, none⟩) (cellsB (fieldsB [x0, x1, x2]))) := s237
        clear o237 hb237 s237
        clear e0 e1 e2 e3 e4
        obtain ⟨e0, _⟩ := X239.out 0 _ rfl
        obtain ⟨e1, _⟩ := X239.out 1 _ rfl
        obtain ⟨e2, _⟩ := X239.out 2 _ rfl
        obtain ⟨e3, _⟩ := X239.out 3 _ rfl
        obtain ⟨e4, _⟩ := X239.out 4 _ rfl
        refine hK _ _ ⟨e0, e1, e2, e3, e4⟩ (fun hHeld => ?_)
        clear hK K
        refine wpAnyH_ready (rs := [18]) (by kernel_rfl) (by simp) ?_
        refine AllReadyH.cons rfl (fun K hK => ?_) AllReadyH.nil
        refine step_append_src rfl (.tmp 12) (.tmp 20) 55 rfl (w.heap.size + 1) 5 (.int .u8 0) 1 1 Tryz.underlying55 infoB rfl (by decide) (by decide) (.slice (some ⟨wa229.heap.size, 0, none⟩) 1 1) 1 (cellsB [2]) (by rfl) N241.out ⟨g237, 0, none⟩ q c237 (cellsB (fieldsB [x0, x1, x2])) (by rfl) (by rw [cellsB_length, FQ.out]; omega) P242.out (cellsB_one _) (by omega) (by omega) (show w.heap.size + 1 ≤ _ from World.block_lt_of_cell? _ _ (X239.out 0 _ rfl).1) ?_
        intro va243 wa243 hown243 hgrow243 _
        have B244 : Hid (Below w.heap.size w (wa243)) := (B238.out).grown hgrow243 (B238.out).size (fun g e => by have h9 := (N241.out.lt g e).1; omega)
        have X245 : Hid (Box (wa243) w.heap.size [.string x0, .string x1, .string x2, .bool false, .bool true]) := Box.grown X239.out hgrow243 (fun e => by have h9 := (N241.out.lt _ e).1; omega)
        have R246 : Hid (World.ownsRow (wa243) (w.heap.size + 1) 5 1 (va243) (1 + q) (cellsB ([2] ++ fieldsB [x0, x1, x2]))) := by rw [cellsB_append]; exact hown243
        clear hown243 hgrow243
        clear e0 e1 e2 e3 e4
        obtain ⟨e0, _⟩ := X245.out 0 _ rfl
        obtain ⟨e1, _⟩ := X245.out 1 _ rfl
        obtain ⟨e2, _⟩ := X245.out 2 _ rfl
        obtain ⟨e3, _⟩ := X245.out 3 _ rfl
        obtain ⟨e4, _⟩ := X245.out 4 _ rfl
        refine hK _ _ ⟨e0, e1, e2, e3, e4⟩ (fun hHeld => ?_)
        clear hK K
        refine wpAnyH_ready (rs := [19]) (by kernel_rfl) (by simp) ?_
        refine AllReadyH.cons rfl (fun K hK => ?_) AllReadyH.nil
        go_simp
        clear e0 e1 e2 e3 e4
        obtain ⟨e0, _⟩ := X245.out 0 _ rfl
        obtain ⟨e1, _⟩ := X245.out 1 _ rfl
        obtain ⟨e2, _⟩ := X245.out 2 _ rfl
        obtain ⟨e3, _⟩ := X245.out 3 _ rfl
        obtain ⟨e4, _⟩ := X245.out 4 _ rfl
        refine hK _ _ ⟨e0, e1, e2, e3, e4⟩ (fun hHeld => ?_)
        clear hK K
        refine wpAnyH_done (by kernel_rfl) ?_ _
        refine NoPanic.normal ?_
        clear e0 e1 e2 e3 e4
        clear hHeld
        have FIN : Hid ((wa243).ownsRow (w.heap.size + 1) 5 1 va243 (partB (x0, x1, x2, false, true)).length (cellsB (partB (x0, x1, x2, false, true)))) := by
          rw [LQ.out false true, show kindN (x0, x1, x2, false, true) = 2 from rfl]
          have h9 : (2 :: fieldsB [x0, x1, x2]).length = 1 + q := by rw [List.length_cons, FQ.out]; omega
          rw [h9]
          exact R246.out
        go_wp2_with fail
        go_ret
        exact ⟨va243, rfl, FIN.out, B244.out⟩
      · skip
        go_simp
        refine (l01Fields (some ⟨w.heap.size + 1, 0, none⟩) 3 3 [x0, x1, x2] (wa229) rfl (by omega) FL.out Q232.out).mono ?_
        rintro e wa247 ⟨va247, rfl, o247, hb247⟩
        dsimp only
        rw [FQ.out] at o247
        obtain ⟨g247, c247, rfl, _, s247⟩ := own_some o247 (by omega)
        have B248 : Hid (Below w.heap.size w (wa247)) := (B230.out).trans (hb247.mono (B230.out).size)
        have X249 : Hid (Box (wa247) w.heap.size [.string x0, .string x1, .string x2, .bool false, .bool true]) := Box.below (w := wa229) X231.out hb247
        have Q250 : Hid (Src (wa247) (some ⟨w.heap.size + 1, 0, none⟩) (cellsS [x0, x1, x2])) := Src.below (w := wa229) Q232.out hb247
        have P251 : Hid (Src (wa247) (some ⟨g247, 0, none⟩) (cellsB (fieldsB [x0, x1, x2]))) := s247
        clear o247 hb247 s247
        clear e0 e1 e2 e3 e4
        obtain ⟨e0, _⟩ := X249.out 0 _ rfl
        obtain ⟨e1, _⟩ := X249.out 1 _ rfl
        obtain ⟨e2, _⟩ := X249.out 2 _ rfl
        obtain ⟨e3, _⟩ := X249.out 3 _ rfl
        obtain ⟨e4, _⟩ := X249.out 4 _ rfl
        refine hK _ _ ⟨e0, e1, e2, e3, e4⟩ (fun hHeld => ?_)
        clear hK K
        refine wpAnyH_ready (rs := [9]) (by kernel_rfl) (by simp) ?_
        refine AllReadyH.cons rfl (fun K hK => ?_) AllReadyH.nil
        go_simp
        have B252 : Hid (Below w.heap.size w (((wa247).alloc (.cells #[.int .u8 2] 5)))) := B248.out.alloc B248.out.size _
        have X253 : Hid (Box (((wa247).alloc (.cells #[.int .u8 2] 5))) w.heap.size [.string x0, .string x1, .string x2, .bool false, .bool true]) := Box.old (w := wa247) X249.out _
        have Q254 : Hid (Src (((wa247).alloc (.cells #[.int .u8 2] 5))) (some ⟨w.heap.size + 1, 0, none⟩) (cellsS [x0, x1, x2])) := Src.below (w := wa247) Q250.out (((Below.refl _ (wa247)).alloc (Nat.le_refl _) (.cells #[.int .u8 2] 5)))
        have P255 : Hid (Src (((wa247).alloc (.cells #[.int .u8 2] 5))) (some ⟨g247, 0, none⟩) (cellsB (fieldsB [x0, x1, x2]))) := Src.below (w := wa247) P251.out (((Below.refl _ (wa247)).alloc (Nat.le_refl _) (.cells #[.int .u8 2] 5)))
        have N256 : Hid (World.ownsRow (((wa247).alloc (.cells #[.int .u8 2] 5))) (w.heap.size + 1) 5 1 (.slice (some ⟨wa247.heap.size, 0, none⟩) 1 1) 1 (cellsB [2])) := ownB_at (w := wa247) [2] (by simp) (show w.heap.size + 1 ≤ _ from World.block_lt_of_cell? _ _ (X249.out 0 _ rfl).1) rfl rfl (by decide)
        clear e0 e1 e2 e3 e4
        obtain ⟨e0, _⟩ := X253.out 0 _ rfl
        obtain ⟨e1, _⟩ := X253.out 1 _ rfl
        obtain ⟨e2, _⟩ := X253.out 2 _ rfl
        obtain ⟨e3, _⟩ := X253.out 3 _ rfl
        obtain ⟨e4, _⟩ := X253.out 4 _ rfl
        refine hK _ _ ⟨e0, e1, e2, e3, e4⟩ (fun hHeld => ?_)
        clear hK K
        refine wpAnyH_ready (rs := [18]) (by kernel_rfl) (by simp) ?_
        refine AllReadyH.cons rfl (fun K hK => ?_) AllReadyH.nil
        refine step_append_src rfl (.tmp 12) (.tmp 20) 55 rfl (w.heap.size + 1) 5 (.int .u8 0) 1 1 Tryz.underlying55 infoB rfl (by decide) (by decide) (.slice (some ⟨wa247.heap.size, 0, none⟩) 1 1) 1 (cellsB [2]) (by rfl) N256.out ⟨g247, 0, none⟩ q c247 (cellsB (fieldsB [x0, x1, x2])) (by rfl) (by rw [cellsB_length, FQ.out]; omega) P255.out (cellsB_one _) (by omega) (by omega) (show w.heap.size + 1 ≤ _ from World.block_lt_of_cell? _ _ (X253.out 0 _ rfl).1) ?_
        intro va257 wa257 hown257 hgrow257 _
        have B258 : Hid (Below w.heap.size w (wa257)) := (B252.out).grown hgrow257 (B252.out).size (fun g e => by have h9 := (N256.out.lt g e).1; omega)
        have X259 : Hid (Box (wa257) w.heap.size [.string x0, .string x1, .string x2, .bool false, .bool true]) := Box.grown X253.out hgrow257 (fun e => by have h9 := (N256.out.lt _ e).1; omega)
        have R260 : Hid (World.ownsRow (wa257) (w.heap.size + 1) 5 1 (va257) (1 + q) (cellsB ([2] ++ fieldsB [x0, x1, x2]))) := by rw [cellsB_append]; exact hown257
        clear hown257 hgrow257
        clear e0 e1 e2 e3 e4
        obtain ⟨e0, _⟩ := X259.out 0 _ rfl
        obtain ⟨e1, _⟩ := X259.out 1 _ rfl
        obtain ⟨e2, _⟩ := X259.out 2 _ rfl
        obtain ⟨e3, _⟩ := X259.out 3 _ rfl
        obtain ⟨e4, _⟩ := X259.out 4 _ rfl
        refine hK _ _ ⟨e0, e1, e2, e3, e4⟩ (fun hHeld => ?_)
        clear hK K
        refine wpAnyH_ready (rs := [19]) (by kernel_rfl) (by simp) ?_
        refine AllReadyH.cons rfl (fun K hK => ?_) AllReadyH.nil
        go_simp
        clear e0 e1 e2 e3 e4
        obtain ⟨e0, _⟩ := X259.out 0 _ rfl
        obtain ⟨e1, _⟩ := X259.out 1 _ rfl
        obtain ⟨e2, _⟩ := X259.out 2 _ rfl
        obtain ⟨e3, _⟩ := X259.out 3 _ rfl
        obtain ⟨e4, _⟩ := X259.out 4 _ rfl
        refine hK _ _ ⟨e0, e1, e2, e3, e4⟩ (fun hHeld => ?_)
        clear hK K
        refine wpAnyH_done (by kernel_rfl) ?_ _
        refine NoPanic.normal ?_
        clear e0 e1 e2 e3 e4
        clear hHeld
        have FIN : Hid ((wa257).ownsRow (w.heap.size + 1) 5 1 va257 (partB (x0, x1, x2, false, true)).length (cellsB (partB (x0, x1, x2, false, true)))) := by
          rw [LQ.out false true, show kindN (x0, x1, x2, false, true) = 2 from rfl]
          have h9 : (2 :: fieldsB [x0, x1, x2]).length = 1 + q := by rw [List.length_cons, FQ.out]; omega
          rw [h9]
          exact R260.out
        go_wp2_with fail
        go_ret
        exact ⟨va257, rfl, FIN.out, B258.out⟩
  · skip
    go_enter Tryz.func82, Tryz.ntmps82
    go_wp2_with fail
    have B261 : Hid (Below w.heap.size w (w.alloc (.cells #[.string x0, .string x1, .string x2, .bool true, .bool false] 108))) := (Below.refl _ _).alloc (Nat.le_refl _) _
    have X262 : Hid (Box ((w.alloc (.cells #[.string x0, .string x1, .string x2, .bool true, .bool false] 108)).drew) w.heap.size [.string x0, .string x1, .string x2, .bool true, .bool false]) := Box.new (w := w) rfl
    obtain ⟨e0, _⟩ := X262.out 0 _ rfl
    obtain ⟨e1, _⟩ := X262.out 1 _ rfl
    obtain ⟨e2, _⟩ := X262.out 2 _ rfl
    obtain ⟨e3, _⟩ := X262.out 3 _ rfl
    obtain ⟨e4, _⟩ := X262.out 4 _ rfl
    refine wp_region_noPanic ?_
    refine wp_region_held_drew (S := (fun w' => w'.cell? ⟨w.heap.size, 0, none⟩ = some (.string x0) ∧ w'.cell? ⟨w.heap.size, 1, none⟩ = some (.string x1) ∧ w'.cell? ⟨w.heap.size, 2, none⟩ = some (.string x2) ∧ w'.cell? ⟨w.heap.size, 3, none⟩ = some (.bool true) ∧ w'.cell? ⟨w.heap.size, 4, none⟩ = some (.bool false))) (by kernel_rfl) ⟨e0, e1, e2, e3, e4⟩ (fun hHeld => ?_)
    refine wpAnyH_take (i := 0) (v := .pointer (some ⟨w.heap.size, 3, none⟩)) rfl (by kernel_rfl) (by kernel_rfl) (by kernel_rfl) (fun _ _ _ h => h) (Or.inl ⟨by kernel_rfl, ?_⟩) hHeld ?_
    · intro w9 hSw
      obtain ⟨s0, s1, s2, s3, s4⟩ := hSw
      go_simp
    simp only [Act.put, List.setIfInBounds_toArray, List.set_cons_zero, List.set_cons_succ]
    refine wpAnyH_take (i := 1) (v := .bool true) rfl (by kernel_rfl) (by kernel_rfl) (by kernel_rfl) (fun _ _ _ h => h) (Or.inl ⟨by kernel_rfl, ?_⟩) hHeld ?_
    · intro w9 hSw
      obtain ⟨s0, s1, s2, s3, s4⟩ := hSw
      go_simp
    simp only [Act.put, List.setIfInBounds_toArray, List.set_cons_zero, List.set_cons_succ]
    refine wpAnyH_take (i := 3) (v := .pointer (some ⟨w.heap.size, 4, none⟩)) rfl (by kernel_rfl) (by kernel_rfl) (by kernel_rfl) (fun _ _ _ h => h) (Or.inl ⟨by kernel_rfl, ?_⟩) hHeld ?_
    · intro w9 hSw
      obtain ⟨s0, s1, s2, s3, s4⟩ := hSw
      go_simp
    simp only [Act.put, List.setIfInBounds_toArray, List.set_cons_zero, List.set_cons_succ]
    refine wpAnyH_take (i := 4) (v := .bool false) rfl (by kernel_rfl) (by kernel_rfl) (by kernel_rfl) (fun _ _ _ h => h) (Or.inl ⟨by kernel_rfl, ?_⟩) hHeld ?_
    · intro w9 hSw
      obtain ⟨s0, s1, s2, s3, s4⟩ := hSw
      go_simp
    simp only [Act.put, List.setIfInBounds_toArray, List.set_cons_zero, List.set_cons_succ]
    refine wpAnyH_take (i := 10) (v := .pointer (some ⟨w.heap.size, 0, none⟩)) rfl (by kernel_rfl) (by kernel_rfl) (by kernel_rfl) (fun _ _ _ h => h) (Or.inl ⟨by kernel_rfl, ?_⟩) hHeld ?_
    · intro w9 hSw
      obtain ⟨s0, s1, s2, s3, s4⟩ := hSw
      go_simp
    simp only [Act.put, List.setIfInBounds_toArray, List.set_cons_zero, List.set_cons_succ]
    refine wpAnyH_take (i := 11) (v := .string x0) rfl (by kernel_rfl) (by kernel_rfl) (by kernel_rfl) (fun _ _ _ h => h) (Or.inl ⟨by kernel_rfl, ?_⟩) hHeld ?_
    · intro w9 hSw
      obtain ⟨s0, s1, s2, s3, s4⟩ := hSw
      go_simp
    simp only [Act.put, List.setIfInBounds_toArray, List.set_cons_zero, List.set_cons_succ]
    refine wpAnyH_take (i := 12) (v := .pointer (some ⟨w.heap.size, 1, none⟩)) rfl (by kernel_rfl) (by kernel_rfl) (by kernel_rfl) (fun _ _ _ h => h) (Or.inl ⟨by kernel_rfl, ?_⟩) hHeld ?_
    · intro w9 hSw
      obtain ⟨s0, s1, s2, s3, s4⟩ := hSw
      go_simp
    simp only [Act.put, List.setIfInBounds_toArray, List.set_cons_zero, List.set_cons_succ]
    refine wpAnyH_take (i := 13) (v := .string x1) rfl (by kernel_rfl) (by kernel_rfl) (by kernel_rfl) (fun _ _ _ h => h) (Or.inl ⟨by kernel_rfl, ?_⟩) hHeld ?_
    · intro w9 hSw
      obtain ⟨s0, s1, s2, s3, s4⟩ := hSw
      go_simp
    simp only [Act.put, List.setIfInBounds_toArray, List.set_cons_zero, List.set_cons_succ]
    refine wpAnyH_take (i := 14) (v := .pointer (some ⟨w.heap.size, 2, none⟩)) rfl (by kernel_rfl) (by kernel_rfl) (by kernel_rfl) (fun _ _ _ h => h) (Or.inl ⟨by kernel_rfl, ?_⟩) hHeld ?_
    · intro w9 hSw
      obtain ⟨s0, s1, s2, s3, s4⟩ := hSw
      go_simp
    simp only [Act.put, List.setIfInBounds_toArray, List.set_cons_zero, List.set_cons_succ]
    refine wpAnyH_take (i := 15) (v := .string x2) rfl (by kernel_rfl) (by kernel_rfl) (by kernel_rfl) (fun _ _ _ h => h) (Or.inl ⟨by kernel_rfl, ?_⟩) hHeld ?_
    · intro w9 hSw
      obtain ⟨s0, s1, s2, s3, s4⟩ := hSw
      go_simp
    simp only [Act.put, List.setIfInBounds_toArray, List.set_cons_zero, List.set_cons_succ]
    refine wpAnyH_ready (rs := [2, 16]) (by kernel_rfl) (by simp) ?_
    refine AllReadyH.cons rfl (fun K hK => ?_) (AllReadyH.cons rfl (fun K hK => ?_) AllReadyH.nil)
    · skip
      go_simp
      refine (bitIs true ((w.alloc (.cells #[.string x0, .string x1, .string x2, .bool true, .bool false] 108)).drew)).mono ?_
      rintro e wa263 ⟨rfl, hb263⟩
      dsimp only
      have B264 : Hid (Below w.heap.size w (wa263)) := (B261.out.drew).trans (hb263.mono (B261.out.drew).size)
      have X265 : Hid (Box (wa263) w.heap.size [.string x0, .string x1, .string x2, .bool true, .bool false]) := Box.below (w := (w.alloc (.cells #[.string x0, .string x1, .string x2, .bool true, .bool false] 108)).drew) X262.out hb263
      clear hb263
      clear e0 e1 e2 e3 e4
      obtain ⟨e0, _⟩ := X265.out 0 _ rfl
      obtain ⟨e1, _⟩ := X265.out 1 _ rfl
      obtain ⟨e2, _⟩ := X265.out 2 _ rfl
      obtain ⟨e3, _⟩ := X265.out 3 _ rfl
      obtain ⟨e4, _⟩ := X265.out 4 _ rfl
      refine hK _ _ ⟨e0, e1, e2, e3, e4⟩ (fun hHeld => ?_)
      clear hK K
      refine wpAnyH_ready (rs := [5, 16]) (by kernel_rfl) (by simp) ?_
      refine AllReadyH.cons rfl (fun K hK => ?_) (AllReadyH.cons rfl (fun K hK => ?_) AllReadyH.nil)
      · skip
        go_simp
        refine (bitIs false (wa263)).mono ?_
        rintro e wa266 ⟨rfl, hb266⟩
        dsimp only
        have B267 : Hid (Below w.heap.size w (wa266)) := (B264.out).trans (hb266.mono (B264.out).size)
        have X268 : Hid (Box (wa266) w.heap.size [.string x0, .string x1, .string x2, .bool true, .bool false]) := Box.below (w := wa263) X265.out hb266
        clear hb266
        clear e0 e1 e2 e3 e4
        obtain ⟨e0, _⟩ := X268.out 0 _ rfl
        obtain ⟨e1, _⟩ := X268.out 1 _ rfl
        obtain ⟨e2, _⟩ := X268.out 2 _ rfl
        obtain ⟨e3, _⟩ := X268.out 3 _ rfl
        obtain ⟨e4, _⟩ := X268.out 4 _ rfl
        refine hK _ _ ⟨e0, e1, e2, e3, e4⟩ (fun hHeld => ?_)
        clear hK K
        refine wpAnyH_take (i := 6) (v := .int .i64 0) rfl (by kernel_rfl) (by kernel_rfl) (by kernel_rfl) (fun _ _ _ h => h) (Or.inl ⟨by kernel_rfl, ?_⟩) hHeld ?_
        · intro w9 hSw
          obtain ⟨s0, s1, s2, s3, s4⟩ := hSw
          go_simp
          first | rfl | decide
        simp only [Act.put, List.setIfInBounds_toArray, List.set_cons_zero, List.set_cons_succ]
        refine wpAnyH_take (i := 7) (v := .int .i64 1) rfl (by kernel_rfl) (by kernel_rfl) (by kernel_rfl) (fun _ _ _ h => h) (Or.inl ⟨by kernel_rfl, ?_⟩) hHeld ?_
        · intro w9 hSw
          obtain ⟨s0, s1, s2, s3, s4⟩ := hSw
          go_simp
          first | rfl | decide
        simp only [Act.put, List.setIfInBounds_toArray, List.set_cons_zero, List.set_cons_succ]
        refine wpAnyH_take (i := 8) (v := .int .u8 1) rfl (by kernel_rfl) (by kernel_rfl) (by kernel_rfl) (fun _ _ _ h => h) (Or.inl ⟨by kernel_rfl, ?_⟩) hHeld ?_
        · intro w9 hSw
          obtain ⟨s0, s1, s2, s3, s4⟩ := hSw
          go_simp
          first | rfl | decide
        simp only [Act.put, List.setIfInBounds_toArray, List.set_cons_zero, List.set_cons_succ]
        refine wpAnyH_ready (rs := [9, 16]) (by kernel_rfl) (by simp) ?_
        refine AllReadyH.cons rfl (fun K hK => ?_) (AllReadyH.cons rfl (fun K hK => ?_) AllReadyH.nil)
        · skip
          go_simp
          have B269 : Hid (Below w.heap.size w (((wa266).alloc (.cells #[.int .u8 1] 5)))) := B267.out.alloc B267.out.size _
          have X270 : Hid (Box (((wa266).alloc (.cells #[.int .u8 1] 5))) w.heap.size [.string x0, .string x1, .string x2, .bool true, .bool false]) := Box.old (w := wa266) X268.out _
          have N271 : Hid (World.ownsRow (((wa266).alloc (.cells #[.int .u8 1] 5))) (w.heap.size + 1) 5 1 (.slice (some ⟨wa266.heap.size, 0, none⟩) 1 1) 1 (cellsB [1])) := ownB_at (w := wa266) [1] (by simp) (show w.heap.size + 1 ≤ _ from World.block_lt_of_cell? _ _ (X268.out 0 _ rfl).1) rfl rfl (by decide)
          clear e0 e1 e2 e3 e4
          obtain ⟨e0, _⟩ := X270.out 0 _ rfl
          obtain ⟨e1, _⟩ := X270.out 1 _ rfl
          obtain ⟨e2, _⟩ := X270.out 2 _ rfl
          obtain ⟨e3, _⟩ := X270.out 3 _ rfl
          obtain ⟨e4, _⟩ := X270.out 4 _ rfl
          refine hK _ _ ⟨e0, e1, e2, e3, e4⟩ (fun hHeld => ?_)
          clear hK K
          refine wpAnyH_ready (rs := [16]) (by kernel_rfl) (by simp) ?_
          refine AllReadyH.cons rfl (fun K hK => ?_) AllReadyH.nil
          go_simp
          have B272 : Hid (Below w.heap.size w (((((wa266).alloc (.cells #[.int .u8 1] 5))).alloc (.cells #[.string x0, .string x1, .string x2] 9)))) := B269.out.alloc B269.out.size _
          have X273 : Hid (Box (((((wa266).alloc (.cells #[.int .u8 1] 5))).alloc (.cells #[.string x0, .string x1, .string x2] 9))) w.heap.size [.string x0, .string x1, .string x2, .bool true, .bool false]) := Box.old (w := ((wa266).alloc (.cells #[.int .u8 1] 5))) X270.out _
          have N274 : Hid (World.ownsRow (((((wa266).alloc (.cells #[.int .u8 1] 5))).alloc (.cells #[.string x0, .string x1, .string x2] 9))) (w.heap.size + 1) 5 1 (.slice (some ⟨wa266.heap.size, 0, none⟩) 1 1) 1 (cellsB [1])) := World.ownsRow.alloc (w := ((wa266).alloc (.cells #[.int .u8 1] 5))) N271.out _
          have Q275 : Hid (Src (((((wa266).alloc (.cells #[.int .u8 1] 5))).alloc (.cells #[.string x0, .string x1, .string x2] 9))) (some ⟨wa266.heap.size + 1, 0, none⟩) (cellsS [x0, x1, x2])) := src_3S (w := ((wa266).alloc (.cells #[.int .u8 1] 5))) (by simp)
          clear e0 e1 e2 e3 e4
          obtain ⟨e0, _⟩ := X273.out 0 _ rfl
          obtain ⟨e1, _⟩ := X273.out 1 _ rfl
          obtain ⟨e2, _⟩ := X273.out 2 _ rfl
          obtain ⟨e3, _⟩ := X273.out 3 _ rfl
          obtain ⟨e4, _⟩ := X273.out 4 _ rfl
          refine hK _ _ ⟨e0, e1, e2, e3, e4⟩ (fun hHeld => ?_)
          clear hK K
          refine wpAnyH_ready (rs := [17]) (by kernel_rfl) (by simp) ?_
          refine AllReadyH.cons rfl (fun K hK => ?_) AllReadyH.nil
          go_simp
          refine (l01Fields (some ⟨wa266.heap.size + 1, 0, none⟩) 3 3 [x0, x1, x2] (((((wa266).alloc (.cells #[.int .u8 1] 5))).alloc (.cells #[.string x0, .string x1, .string x2] 9))) rfl (by omega) FL.out Q275.out).mono ?_
          rintro e wa276 ⟨va276, rfl, o276, hb276⟩
          dsimp only
          rw [FQ.out] at o276
          obtain ⟨g276, c276, rfl, _, s276⟩ := own_some o276 (by omega)
          have B277 : Hid (Below w.heap.size w (wa276)) := (B272.out).trans (hb276.mono (B272.out).size)
          have X278 : Hid (Box (wa276) w.heap.size [.string x0, .string x1, .string x2, .bool true, .bool false]) := Box.below (w := ((((wa266).alloc (.cells #[.int .u8 1] 5))).alloc (.cells #[.string x0, .string x1, .string x2] 9))) X273.out hb276
          have N279 : Hid (World.ownsRow (wa276) (w.heap.size + 1) 5 1 (.slice (some ⟨wa266.heap.size, 0, none⟩) 1 1) 1 (cellsB [1])) := own_below (w := ((((wa266).alloc (.cells #[.int .u8 1] 5))).alloc (.cells #[.string x0, .string x1, .string x2] 9))) N274.out hb276
          have Q280 : Hid (Src (wa276) (some ⟨wa266.heap.size + 1, 0, none⟩) (cellsS [x0, x1, x2])) := Src.below (w := ((((wa266).alloc (.cells #[.int .u8 1] 5))).alloc (.cells #[.string x0, .string x1, .string x2] 9))) Q275.out hb276
          have P281 : Hid (Src (wa276) (some ⟨g276, 0, none⟩) (cellsB (fieldsB [x0, x1, x2]))) := s276
          clear o276 hb276 s276
          clear e0 e1 e2 e3 e4
          obtain ⟨e0, _⟩ := X278.out 0 _ rfl
          obtain ⟨e1, _⟩ := X278.out 1 _ rfl
          obtain ⟨e2, _⟩ := X278.out 2 _ rfl
          obtain ⟨e3, _⟩ := X278.out 3 _ rfl
          obtain ⟨e4, _⟩ := X278.out 4 _ rfl
          refine hK _ _ ⟨e0, e1, e2, e3, e4⟩ (fun hHeld => ?_)
          clear hK K
          refine wpAnyH_ready (rs := [18]) (by kernel_rfl) (by simp) ?_
          refine AllReadyH.cons rfl (fun K hK => ?_) AllReadyH.nil
          refine step_append_src rfl (.tmp 12) (.tmp 20) 55 rfl (w.heap.size + 1) 5 (.int .u8 0) 1 1 Tryz.underlying55 infoB rfl (by decide) (by decide) (.slice (some ⟨wa266.heap.size, 0, none⟩) 1 1) 1 (cellsB [1]) (by rfl) N279.out ⟨g276, 0, none⟩ q c276 (cellsB (fieldsB [x0, x1, x2])) (by rfl) (by rw [cellsB_length, FQ.out]; omega) P281.out (cellsB_one _) (by omega) (by omega) (show w.heap.size + 1 ≤ _ from World.block_lt_of_cell? _ _ (X278.out 0 _ rfl).1) ?_
          intro va282 wa282 hown282 hgrow282 _
          have B283 : Hid (Below w.heap.size w (wa282)) := (B277.out).grown hgrow282 (B277.out).size (fun g e => by have h9 := (N279.out.lt g e).1; omega)
          have X284 : Hid (Box (wa282) w.heap.size [.string x0, .string x1, .string x2, .bool true, .bool false]) := Box.grown X278.out hgrow282 (fun e => by have h9 := (N279.out.lt _ e).1; omega)
          have R285 : Hid (World.ownsRow (wa282) (w.heap.size + 1) 5 1 (va282) (1 + q) (cellsB ([1] ++ fieldsB [x0, x1, x2]))) := by rw [cellsB_append]; exact hown282
          clear hown282 hgrow282
          clear e0 e1 e2 e3 e4
          obtain ⟨e0, _⟩ := X284.out 0 _ rfl
          obtain ⟨e1, _⟩ := X284.out 1 _ rfl
          obtain ⟨e2, _⟩ := X284.out 2 _ rfl
          obtain ⟨e3, _⟩ := X284.out 3 _ rfl
          obtain ⟨e4, _⟩ := X284.out 4 _ rfl
          refine hK _ _ ⟨e0, e1, e2, e3, e4⟩ (fun hHeld => ?_)
          clear hK K
          refine wpAnyH_ready (rs := [19]) (by kernel_rfl) (by simp) ?_
          refine AllReadyH.cons rfl (fun K hK => ?_) AllReadyH.nil
          go_simp
          clear e0 e1 e2 e3 e4
          obtain ⟨e0, _⟩ := X284.out 0 _ rfl
          obtain ⟨e1, _⟩ := X284.out 1 _ rfl
          obtain ⟨e2, _⟩ := X284.out 2 _ rfl
          obtain ⟨e3, _⟩ := X284.out 3 _ rfl
          obtain ⟨e4, _⟩ := X284.out 4 _ rfl
          refine hK _ _ ⟨e0, e1, e2, e3, e4⟩ (fun hHeld => ?_)
          clear hK K
          refine wpAnyH_done (by kernel_rfl) ?_ _
          refine NoPanic.normal ?_
          clear e0 e1 e2 e3 e4
          clear hHeld
          have FIN : Hid ((wa282).ownsRow (w.heap.size + 1) 5 1 va282 (partB (x0, x1, x2, true, false)).length (cellsB (partB (x0, x1, x2, true, false)))) := by
            rw [LQ.out true false, show kindN (x0, x1, x2, true, false) = 1 from rfl]
            have h9 : (1 :: fieldsB [x0, x1, x2]).length = 1 + q := by rw [List.length_cons, FQ.out]; omega
            rw [h9]
            exact R285.out
          go_wp2_with fail
          go_ret
          exact ⟨va282, rfl, FIN.out, B283.out⟩
        · skip
          go_simp
          have B286 : Hid (Below w.heap.size w (((wa266).alloc (.cells #[.string x0, .string x1, .string x2] 9)))) := B267.out.alloc B267.out.size _
          have X287 : Hid (Box (((wa266).alloc (.cells #[.string x0, .string x1, .string x2] 9))) w.heap.size [.string x0, .string x1, .string x2, .bool true, .bool false]) := Box.old (w := wa266) X268.out _
          have Q288 : Hid (Src (((wa266).alloc (.cells #[.string x0, .string x1, .string x2] 9))) (some ⟨wa266.heap.size, 0, none⟩) (cellsS [x0, x1, x2])) := src_3S (w := wa266) (by simp)
          clear e0 e1 e2 e3 e4
          obtain ⟨e0, _⟩ := X287.out 0 _ rfl
          obtain ⟨e1, _⟩ := X287.out 1 _ rfl
          obtain ⟨e2, _⟩ := X287.out 2 _ rfl
          obtain ⟨e3, _⟩ := X287.out 3 _ rfl
          obtain ⟨e4, _⟩ := X287.out 4 _ rfl
          refine hK _ _ ⟨e0, e1, e2, e3, e4⟩ (fun hHeld => ?_)
          clear hK K
          refine wpAnyH_ready (rs := [9, 17]) (by kernel_rfl) (by simp) ?_
          refine AllReadyH.cons rfl (fun K hK => ?_) (AllReadyH.cons rfl (fun K hK => ?_) AllReadyH.nil)
          · skip
            go_simp
            have B289 : Hid (Below w.heap.size w (((((wa266).alloc (.cells #[.string x0, .string x1, .string x2] 9))).alloc (.cells #[.int .u8 1] 5)))) := B286.out.alloc B286.out.size _
            have X290 : Hid (Box (((((wa266).alloc (.cells #[.string x0, .string x1, .string x2] 9))).alloc (.cells #[.int .u8 1] 5))) w.heap.size [.string x0, .string x1, .string x2, .bool true, .bool false]) := Box.old (w := ((wa266).alloc (.cells #[.string x0, .string x1, .string x2] 9))) X287.out _
            have Q291 : Hid (Src (((((wa266).alloc (.cells #[.string x0, .string x1, .string x2] 9))).alloc (.cells #[.int .u8 1] 5))) (some ⟨wa266.heap.size, 0, none⟩) (cellsS [x0, x1, x2])) := Src.below (w := ((wa266).alloc (.cells #[.string x0, .string x1, .string x2] 9))) Q288.out (((Below.refl _ (((wa266).alloc (.cells #[.string x0, .string x1, .string x2] 9)))).alloc (Nat.le_refl _) (.cells #[.int .u8 1] 5)))
            have N292 : Hid (World.ownsRow (((((wa266).alloc (.cells #[.string x0, .string x1, .string x2] 9))).alloc (.cells #[.int .u8 1] 5))) (w.heap.size + 1) 5 1 (.slice (some ⟨wa266.heap.size + 1, 0, none⟩) 1 1) 1 (cellsB [1])) := ownB_at (w := ((wa266).alloc (.cells #[.string x0, .string x1, .string x2] 9))) [1] (by simp) (show w.heap.size + 1 ≤ _ from World.block_lt_of_cell? _ _ (X287.out 0 _ rfl).1) rfl rfl (by decide)
            clear e0 e1 e2 e3 e4
            obtain ⟨e0, _⟩ := X290.out 0 _ rfl
            obtain ⟨e1, _⟩ := X290.out 1 _ rfl
            obtain ⟨e2, _⟩ := X290.out 2 _ rfl
            obtain ⟨e3, _⟩ := X290.out 3 _ rfl
            obtain ⟨e4, _⟩ := X290.out 4 _ rfl
            refine hK _ _ ⟨e0, e1, e2, e3, e4⟩ (fun hHeld => ?_)
            clear hK K
            refine wpAnyH_ready (rs := [17]) (by kernel_rfl) (by simp) ?_
            refine AllReadyH.cons rfl (fun K hK => ?_) AllReadyH.nil
            go_simp
            refine (l01Fields (some ⟨wa266.heap.size, 0, none⟩) 3 3 [x0, x1, x2] (((((wa266).alloc (.cells #[.string x0, .string x1, .string x2] 9))).alloc (.cells #[.int .u8 1] 5))) rfl (by omega) FL.out Q291.out).mono ?_
            rintro e wa293 ⟨va293, rfl, o293, hb293⟩
            dsimp only
            rw [FQ.out] at o293
            obtain ⟨g293, c293, rfl, _, s293⟩ := own_some o293 (by omega)
            have B294 : Hid (Below w.heap.size w (wa293)) := (B289.out).trans (hb293.mono (B289.out).size)
            have X295 : Hid (Box (wa293) w.heap.size [.string x0, .string x1, .string x2, .bool true, .bool false]) := Box.below (w := ((((wa266).alloc (.cells #[.string x0, .string x1, .string x2] 9))).alloc (.cells #[.int .u8 1] 5))) X290.out hb293
            have Q296 : Hid (Src (wa293) (some ⟨wa266.heap.size, 0, none⟩) (cellsS [x0, x1, x2])) := Src.below (w := ((((wa266).alloc (.cells #[.string x0, .string x1, .string x2] 9))).alloc (.cells #[.int .u8 1] 5))) Q291.out hb293
            have N297 : Hid (World.ownsRow (wa293) (w.heap.size + 1) 5 1 (.slice (some ⟨wa266.heap.size + 1, 0, none⟩) 1 1) 1 (cellsB [1])) := own_below (w := ((((wa266).alloc (.cells #[.string x0, .string x1, .string x2] 9))).alloc (.cells #[.int .u8 1] 5))) N292.out hb293
            have P298 : Hid (Src (wa293) (some ⟨g293, 0, none⟩) (cellsB (fieldsB [x0, x1, x2]))) := s293
            clear o293 hb293 s293
            clear e0 e1 e2 e3 e4
            obtain ⟨e0, _⟩ := X295.out 0 _ rfl
            obtain ⟨e1, _⟩ := X295.out 1 _ rfl
            obtain ⟨e2, _⟩ := X295.out 2 _ rfl
            obtain ⟨e3, _⟩ := X295.out 3 _ rfl
            obtain ⟨e4, _⟩ := X295.out 4 _ rfl
            refine hK _ _ ⟨e0, e1, e2, e3, e4⟩ (fun hHeld => ?_)
            clear hK K
            refine wpAnyH_ready (rs := [18]) (by kernel_rfl) (by simp) ?_
            refine AllReadyH.cons rfl (fun K hK => ?_) AllReadyH.nil
            refine step_append_src rfl (.tmp 12) (.tmp 20) 55 rfl (w.heap.size + 1) 5 (.int .u8 0) 1 1 Tryz.underlying55 infoB rfl (by decide) (by decide) (.slice (some ⟨wa266.heap.size + 1, 0, none⟩) 1 1) 1 (cellsB [1]) (by rfl) N297.out ⟨g293, 0, none⟩ q c293 (cellsB (fieldsB [x0, x1, x2])) (by rfl) (by rw [cellsB_length, FQ.out]; omega) P298.out (cellsB_one _) (by omega) (by omega) (show w.heap.size + 1 ≤ _ from World.block_lt_of_cell? _ _ (X295.out 0 _ rfl).1) ?_
            intro va299 wa299 hown299 hgrow299 _
            have B300 : Hid (Below w.heap.size w (wa299)) := (B294.out).grown hgrow299 (B294.out).size (fun g e => by have h9 := (N297.out.lt g e).1; omega)
            have X301 : Hid (Box (wa299) w.heap.size [.string x0, .string x1, .string x2, .bool true, .bool false]) := Box.grown X295.out hgrow299 (fun e => by have h9 := (N297.out.lt _ e).1; omega)
            have R302 : Hid (World.ownsRow (wa299) (w.heap.size + 1) 5 1 (va299) (1 + q) (cellsB ([1] ++ fieldsB [x0, x1, x2]))) := by rw [cellsB_append]; exact hown299
            clear hown299 hgrow299
            clear e0 e1 e2 e3 e4
            obtain ⟨e0, _⟩ := X301.out 0 _ rfl
            obtain ⟨e1, _⟩ := X301.out 1 _ rfl
            obtain ⟨e2, _⟩ := X301.out 2 _ rfl
            obtain ⟨e3, _⟩ := X301.out 3 _ rfl
            obtain ⟨e4, _⟩ := X301.out 4 _ rfl
            refine hK _ _ ⟨e0, e1, e2, e3, e4⟩ (fun hHeld => ?_)
            clear hK K
            refine wpAnyH_ready (rs := [19]) (by kernel_rfl) (by simp) ?_
            refine AllReadyH.cons rfl (fun K hK => ?_) AllReadyH.nil
            go_simp
            clear e0 e1 e2 e3 e4
            obtain ⟨e0, _⟩ := X301.out 0 _ rfl
            obtain ⟨e1, _⟩ := X301.out 1 _ rfl
            obtain ⟨e2, _⟩ := X301.out 2 _ rfl
            obtain ⟨e3, _⟩ := X301.out 3 _ rfl
            obtain ⟨e4, _⟩ := X301.out 4 _ rfl
            refine hK _ _ ⟨e0, e1, e2, e3, e4⟩ (fun hHeld => ?_)
            clear hK K
            refine wpAnyH_done (by kernel_rfl) ?_ _
            refine NoPanic.normal ?_
            clear e0 e1 e2 e3 e4
            clear hHeld
            have FIN : Hid ((wa299).ownsRow (w.heap.size + 1) 5 1 va299 (partB (x0, x1, x2, true, false)).length (cellsB (partB (x0, x1, x2, true, false)))) := by
              rw [LQ.out true false, show kindN (x0, x1, x2, true, false) = 1 from rfl]
              have h9 : (1 :: fieldsB [x0, x1, x2]).length = 1 + q := by rw [List.length_cons, FQ.out]; omega
              rw [h9]
              exact R302.out
            go_wp2_with fail
            go_ret
            exact ⟨va299, rfl, FIN.out, B300.out⟩
          · skip
            go_simp
            refine (l01Fields (some ⟨wa266.heap.size, 0, none⟩) 3 3 [x0, x1, x2] (((wa266).alloc (.cells #[.string x0, .string x1, .string x2] 9))) rfl (by omega) FL.out Q288.out).mono ?_
            rintro e wa303 ⟨va303, rfl, o303, hb303⟩
            dsimp only
            rw [FQ.out] at o303
            obtain ⟨g303, c303, rfl, _, s303⟩ := own_some o303 (by omega)
            have B304 : Hid (Below w.heap.size w (wa303)) := (B286.out).trans (hb303.mono (B286.out).size)
            have X305 : Hid (Box (wa303) w.heap.size [.string x0, .string x1, .string x2, .bool true, .bool false]) := Box.below (w := ((wa266).alloc (.cells #[.string x0, .string x1, .string x2] 9))) X287.out hb303
            have Q306 : Hid (Src (wa303) (some ⟨wa266.heap.size, 0, none⟩) (cellsS [x0, x1, x2])) := Src.below (w := ((wa266).alloc (.cells #[.string x0, .string x1, .string x2] 9))) Q288.out hb303
            have P307 : Hid (Src (wa303) (some ⟨g303, 0, none⟩) (cellsB (fieldsB [x0, x1, x2]))) := s303
            clear o303 hb303 s303
            clear e0 e1 e2 e3 e4
            obtain ⟨e0, _⟩ := X305.out 0 _ rfl
            obtain ⟨e1, _⟩ := X305.out 1 _ rfl
            obtain ⟨e2, _⟩ := X305.out 2 _ rfl
            obtain ⟨e3, _⟩ := X305.out 3 _ rfl
            obtain ⟨e4, _⟩ := X305.out 4 _ rfl
            refine hK _ _ ⟨e0, e1, e2, e3, e4⟩ (fun hHeld => ?_)
            clear hK K
            refine wpAnyH_ready (rs := [9]) (by kernel_rfl) (by simp) ?_
            refine AllReadyH.cons rfl (fun K hK => ?_) AllReadyH.nil
            go_simp
            have B308 : Hid (Below w.heap.size w (((wa303).alloc (.cells #[.int .u8 1] 5)))) := B304.out.alloc B304.out.size _
            have X309 : Hid (Box (((wa303).alloc (.cells #[.int .u8 1] 5))) w.heap.size [.string x0, .string x1, .string x2, .bool true, .bool false]) := Box.old (w := wa303) X305.out _
            have Q310 : Hid (Src (((wa303).alloc (.cells #[.int .u8 1] 5))) (some ⟨wa266.heap.size, 0, none⟩) (cellsS [x0, x1, x2])) := Src.below (w := wa303) Q306.out (((Below.refl _ (wa303)).alloc (Nat.le_refl _) (.cells #[.int .u8 1] 5)))
            have P311 : Hid (Src (((wa303).alloc (.cells #[.int .u8 1] 5))) (some ⟨g303, 0, none⟩) (cellsB (fieldsB [x0, x1, x2]))) := Src.below (w := wa303) P307.out (((Below.refl _ (wa303)).alloc (Nat.le_refl _) (.cells #[.int .u8 1] 5)))
            have N312 : Hid (World.ownsRow (((wa303).alloc (.cells #[.int .u8 1] 5))) (w.heap.size + 1) 5 1 (.slice (some ⟨wa303.heap.size, 0, none⟩) 1 1) 1 (cellsB [1])) := ownB_at (w := wa303) [1] (by simp) (show w.heap.size + 1 ≤ _ from World.block_lt_of_cell? _ _ (X305.out 0 _ rfl).1) rfl rfl (by decide)
            clear e0 e1 e2 e3 e4
            obtain ⟨e0, _⟩ := X309.out 0 _ rfl
            obtain ⟨e1, _⟩ := X309.out 1 _ rfl
            obtain ⟨e2, _⟩ := X309.out 2 _ rfl
            obtain ⟨e3, _⟩ := X309.out 3 _ rfl
            obtain ⟨e4, _⟩ := X309.out 4 _ rfl
            refine hK _ _ ⟨e0, e1, e2, e3, e4⟩ (fun hHeld => ?_)
            clear hK K
            refine wpAnyH_ready (rs := [18]) (by kernel_rfl) (by simp) ?_
            refine AllReadyH.cons rfl (fun K hK => ?_) AllReadyH.nil
            refine step_append_src rfl (.tmp 12) (.tmp 20) 55 rfl (w.heap.size + 1) 5 (.int .u8 0) 1 1 Tryz.underlying55 infoB rfl (by decide) (by decide) (.slice (some ⟨wa303.heap.size, 0, none⟩) 1 1) 1 (cellsB [1]) (by rfl) N312.out ⟨g303, 0, none⟩ q c303 (cellsB (fieldsB [x0, x1, x2])) (by rfl) (by rw [cellsB_length, FQ.out]; omega) P311.out (cellsB_one _) (by omega) (by omega) (show w.heap.size + 1 ≤ _ from World.block_lt_of_cell? _ _ (X309.out 0 _ rfl).1) ?_
            intro va313 wa313 hown313 hgrow313 _
            have B314 : Hid (Below w.heap.size w (wa313)) := (B308.out).grown hgrow313 (B308.out).size (fun g e => by have h9 := (N312.out.lt g e).1; omega)
            have X315 : Hid (Box (wa313) w.heap.size [.string x0, .string x1, .string x2, .bool true, .bool false]) := Box.grown X309.out hgrow313 (fun e => by have h9 := (N312.out.lt _ e).1; omega)
            have R316 : Hid (World.ownsRow (wa313) (w.heap.size + 1) 5 1 (va313) (1 + q) (cellsB ([1] ++ fieldsB [x0, x1, x2]))) := by rw [cellsB_append]; exact hown313
            clear hown313 hgrow313
            clear e0 e1 e2 e3 e4
            obtain ⟨e0, _⟩ := X315.out 0 _ rfl
            obtain ⟨e1, _⟩ := X315.out 1 _ rfl
            obtain ⟨e2, _⟩ := X315.out 2 _ rfl
            obtain ⟨e3, _⟩ := X315.out 3 _ rfl
            obtain ⟨e4, _⟩ := X315.out 4 _ rfl
            refine hK _ _ ⟨e0, e1, e2, e3, e4⟩ (fun hHeld => ?_)
            clear hK K
            refine wpAnyH_ready (rs := [19]) (by kernel_rfl) (by simp) ?_
            refine AllReadyH.cons rfl (fun K hK => ?_) AllReadyH.nil
            go_simp
            clear e0 e1 e2 e3 e4
            obtain ⟨e0, _⟩ := X315.out 0 _ rfl
            obtain ⟨e1, _⟩ := X315.out 1 _ rfl
            obtain ⟨e2, _⟩ := X315.out 2 _ rfl
            obtain ⟨e3, _⟩ := X315.out 3 _ rfl
            obtain ⟨e4, _⟩ := X315.out 4 _ rfl
            refine hK _ _ ⟨e0, e1, e2, e3, e4⟩ (fun hHeld => ?_)
            clear hK K
            refine wpAnyH_done (by kernel_rfl) ?_ _
            refine NoPanic.normal ?_
            clear e0 e1 e2 e3 e4
            clear hHeld
            have FIN : Hid ((wa313).ownsRow (w.heap.size + 1) 5 1 va313 (partB (x0, x1, x2, true, false)).length (cellsB (partB (x0, x1, x2, true, false)))) := by
              rw [LQ.out true false, show kindN (x0, x1, x2, true, false) = 1 from rfl]
              have h9 : (1 :: fieldsB [x0, x1, x2]).length = 1 + q := by rw [List.length_cons, FQ.out]; omega
              rw [h9]
              exact R316.out
            go_wp2_with fail
            go_ret
            exact ⟨va313, rfl, FIN.out, B314.out⟩
      · skip
        go_simp
        have B317 : Hid (Below w.heap.size w (((wa263).alloc (.cells #[.string x0, .string x1, .string x2] 9)))) := B264.out.alloc B264.out.size _
        have X318 : Hid (Box (((wa263).alloc (.cells #[.string x0, .string x1, .string x2] 9))) w.heap.size [.string x0, .string x1, .string x2, .bool true, .bool false]) := Box.old (w := wa263) X265.out _
        have Q319 : Hid (Src (((wa263).alloc (.cells #[.string x0, .string x1, .string x2] 9))) (some ⟨wa263.heap.size, 0, none⟩) (cellsS [x0, x1, x2])) := src_3S (w := wa263) (by simp)
        clear e0 e1 e2 e3 e4
        obtain ⟨e0, _⟩ := X318.out 0 _ rfl
        obtain ⟨e1, _⟩ := X318.out 1 _ rfl
        obtain ⟨e2, _⟩ := X318.out 2 _ rfl
        obtain ⟨e3, _⟩ := X318.out 3 _ rfl
        obtain ⟨e4, _⟩ := X318.out 4 _ rfl
        refine hK _ _ ⟨e0, e1, e2, e3, e4⟩ (fun hHeld => ?_)
        clear hK K
        refine wpAnyH_ready (rs := [5]) (by kernel_rfl) (by simp) ?_
        refine AllReadyH.cons rfl (fun K hK => ?_) AllReadyH.nil
        go_simp
        refine (bitIs false (((wa263).alloc (.cells #[.string x0, .string x1, .string x2] 9)))).mono ?_
        rintro e wa320 ⟨rfl, hb320⟩
        dsimp only
        have B321 : Hid (Below w.heap.size w (wa320)) := (B317.out).trans (hb320.mono (B317.out).size)
        have X322 : Hid (Box (wa320) w.heap.size [.string x0, .string x1, .string x2, .bool true, .bool false]) := Box.below (w := ((wa263).alloc (.cells #[.string x0, .string x1, .string x2] 9))) X318.out hb320
        have Q323 : Hid (Src (wa320) (some ⟨wa263.heap.size, 0, none⟩) (cellsS [x0, x1, x2])) := Src.below (w := ((wa263).alloc (.cells #[.string x0, .string x1, .string x2] 9))) Q319.out hb320
        clear hb320
        clear e0 e1 e2 e3 e4
        obtain ⟨e0, _⟩ := X322.out 0 _ rfl
        obtain ⟨e1, _⟩ := X322.out 1 _ rfl
        obtain ⟨e2, _⟩ := X322.out 2 _ rfl
        obtain ⟨e3, _⟩ := X322.out 3 _ rfl
        obtain ⟨e4, _⟩ := X322.out 4 _ rfl
        refine hK _ _ ⟨e0, e1, e2, e3, e4⟩ (fun hHeld => ?_)
        clear hK K
        refine wpAnyH_take (i := 6) (v := .int .i64 0) rfl (by kernel_rfl) (by kernel_rfl) (by kernel_rfl) (fun _ _ _ h => h) (Or.inl ⟨by kernel_rfl, ?_⟩) hHeld ?_
        · intro w9 hSw
          obtain ⟨s0, s1, s2, s3, s4⟩ := hSw
          go_simp
          first | rfl | decide
        simp only [Act.put, List.setIfInBounds_toArray, List.set_cons_zero, List.set_cons_succ]
        refine wpAnyH_take (i := 7) (v := .int .i64 1) rfl (by kernel_rfl) (by kernel_rfl) (by kernel_rfl) (fun _ _ _ h => h) (Or.inl ⟨by kernel_rfl, ?_⟩) hHeld ?_
        · intro w9 hSw
          obtain ⟨s0, s1, s2, s3, s4⟩ := hSw
          go_simp
          first | rfl | decide
        simp only [Act.put, List.setIfInBounds_toArray, List.set_cons_zero, List.set_cons_succ]
        refine wpAnyH_take (i := 8) (v := .int .u8 1) rfl (by kernel_rfl) (by kernel_rfl) (by kernel_rfl) (fun _ _ _ h => h) (Or.inl ⟨by kernel_rfl, ?_⟩) hHeld ?_
        · intro w9 hSw
          obtain ⟨s0, s1, s2, s3, s4⟩ := hSw
          go_simp
          first | rfl | decide
        simp only [Act.put, List.setIfInBounds_toArray, List.set_cons_zero, List.set_cons_succ]
        refine wpAnyH_ready (rs := [9, 17]) (by kernel_rfl) (by simp) ?_
        refine AllReadyH.cons rfl (fun K hK => ?_) (AllReadyH.cons rfl (fun K hK => ?_) AllReadyH.nil)
        · skip
          go_simp
          have B324 : Hid (Below w.heap.size w (((wa320).alloc (.cells #[.int .u8 1] 5)))) := B321.out.alloc B321.out.size _
          have X325 : Hid (Box (((wa320).alloc (.cells #[.int .u8 1] 5))) w.heap.size [.string x0, .string x1, .string x2, .bool true, .bool false]) := Box.old (w := wa320) X322.out _
          have Q326 : Hid (Src (((wa320).alloc (.cells #[.int .u8 1] 5))) (some ⟨wa263.heap.size, 0, none⟩) (cellsS [x0, x1, x2])) := Src.below (w := wa320) Q323.out (((Below.refl _ (wa320)).alloc (Nat.le_refl _) (.cells #[.int .u8 1] 5)))
          have N327 : Hid (World.ownsRow (((wa320).alloc (.cells #[.int .u8 1] 5))) (w.heap.size + 1) 5 1 (.slice (some ⟨wa320.heap.size, 0, none⟩) 1 1) 1 (cellsB [1])) := ownB_at (w := wa320) [1] (by simp) (show w.heap.size + 1 ≤ _ from World.block_lt_of_cell? _ _ (X322.out 0 _ rfl).1) rfl rfl (by decide)
          clear e0 e1 e2 e3 e4
          obtain ⟨e0, _⟩ := X325.out 0 _ rfl
          obtain ⟨e1, _⟩ := X325.out 1 _ rfl
          obtain ⟨e2, _⟩ := X325.out 2 _ rfl
          obtain ⟨e3, _⟩ := X325.out 3 _ rfl
          obtain ⟨e4, _⟩ := X325.out 4 _ rfl
          refine hK _ _ ⟨e0, e1, e2, e3, e4⟩ (fun hHeld => ?_)
          clear hK K
          refine wpAnyH_ready (rs := [17]) (by kernel_rfl) (by simp) ?_
          refine AllReadyH.cons rfl (fun K hK => ?_) AllReadyH.nil
          go_simp
          refine (l01Fields (some ⟨wa263.heap.size, 0, none⟩) 3 3 [x0, x1, x2] (((wa320).alloc (.cells #[.int .u8 1] 5))) rfl (by omega) FL.out Q326.out).mono ?_
          rintro e wa328 ⟨va328, rfl, o328, hb328⟩
          dsimp only
          rw [FQ.out] at o328
          obtain ⟨g328, c328, rfl, _, s328⟩ := own_some o328 (by omega)
          have B329 : Hid (Below w.heap.size w (wa328)) := (B324.out).trans (hb328.mono (B324.out).size)
          have X330 : Hid (Box (wa328) w.heap.size [.string x0, .string x1, .string x2, .bool true, .bool false]) := Box.below (w := ((wa320).alloc (.cells #[.int .u8 1] 5))) X325.out hb328
          have Q331 : Hid (Src (wa328) (some ⟨wa263.heap.size, 0, none⟩) (cellsS [x0, x1, x2])) := Src.below (w := ((wa320).alloc (.cells #[.int .u8 1] 5))) Q326.out hb328
          have N332 : Hid (World.ownsRow (wa328) (w.heap.size + 1) 5 1 (.slice (some ⟨wa320.heap.size, 0, none⟩) 1 1) 1 (cellsB [1])) := own_below (w := ((wa320).alloc (.cells #[.int .u8 1] 5))) N327.out hb328
          have P333 : Hid (Src (wa328) (some ⟨g328, 0, none⟩) (cellsB (fieldsB [x0, x1, x2]))) := s328
          clear o328 hb328 s328
          clear e0 e1 e2 e3 e4
          obtain ⟨e0, _⟩ := X330.out 0 _ rfl
          obtain ⟨e1, _⟩ := X330.out 1 _ rfl
          obtain ⟨e2, _⟩ := X330.out 2 _ rfl
          obtain ⟨e3, _⟩ := X330.out 3 _ rfl
          obtain ⟨e4, _⟩ := X330.out 4 _ rfl
          refine hK _ _ ⟨e0, e1, e2, e3, e4⟩ (fun hHeld => ?_)
          clear hK K
          refine wpAnyH_ready (rs := [18]) (by kernel_rfl) (by simp) ?_
          refine AllReadyH.cons rfl (fun K hK => ?_) AllReadyH.nil
          refine step_append_src rfl (.tmp 12) (.tmp 20) 55 rfl (w.heap.size + 1) 5 (.int .u8 0) 1 1 Tryz.underlying55 infoB rfl (by decide) (by decide) (.slice (some ⟨wa320.heap.size, 0, none⟩) 1 1) 1 (cellsB [1]) (by rfl) N332.out ⟨g328, 0, none⟩ q c328 (cellsB (fieldsB [x0, x1, x2])) (by rfl) (by rw [cellsB_length, FQ.out]; omega) P333.out (cellsB_one _) (by omega) (by omega) (show w.heap.size + 1 ≤ _ from World.block_lt_of_cell? _ _ (X330.out 0 _ rfl).1) ?_
          intro va334 wa334 hown334 hgrow334 _
          have B335 : Hid (Below w.heap.size w (wa334)) := (B329.out).grown hgrow334 (B329.out).size (fun g e => by have h9 := (N332.out.lt g e).1; omega)
          have X336 : Hid (Box (wa334) w.heap.size [.string x0, .string x1, .string x2, .bool true, .bool false]) := Box.grown X330.out hgrow334 (fun e => by have h9 := (N332.out.lt _ e).1; omega)
          have R337 : Hid (World.ownsRow (wa334) (w.heap.size + 1) 5 1 (va334) (1 + q) (cellsB ([1] ++ fieldsB [x0, x1, x2]))) := by rw [cellsB_append]; exact hown334
          clear hown334 hgrow334
          clear e0 e1 e2 e3 e4
          obtain ⟨e0, _⟩ := X336.out 0 _ rfl
          obtain ⟨e1, _⟩ := X336.out 1 _ rfl
          obtain ⟨e2, _⟩ := X336.out 2 _ rfl
          obtain ⟨e3, _⟩ := X336.out 3 _ rfl
          obtain ⟨e4, _⟩ := X336.out 4 _ rfl
          refine hK _ _ ⟨e0, e1, e2, e3, e4⟩ (fun hHeld => ?_)
          clear hK K
          refine wpAnyH_ready (rs := [19]) (by kernel_rfl) (by simp) ?_
          refine AllReadyH.cons rfl (fun K hK => ?_) AllReadyH.nil
          go_simp
          clear e0 e1 e2 e3 e4
          obtain ⟨e0, _⟩ := X336.out 0 _ rfl
          obtain ⟨e1, _⟩ := X336.out 1 _ rfl
          obtain ⟨e2, _⟩ := X336.out 2 _ rfl
          obtain ⟨e3, _⟩ := X336.out 3 _ rfl
          obtain ⟨e4, _⟩ := X336.out 4 _ rfl
          refine hK _ _ ⟨e0, e1, e2, e3, e4⟩ (fun hHeld => ?_)
          clear hK K
          refine wpAnyH_done (by kernel_rfl) ?_ _
          refine NoPanic.normal ?_
          clear e0 e1 e2 e3 e4
          clear hHeld
          have FIN : Hid ((wa334).ownsRow (w.heap.size + 1) 5 1 va334 (partB (x0, x1, x2, true, false)).length (cellsB (partB (x0, x1, x2, true, false)))) := by
            rw [LQ.out true false, show kindN (x0, x1, x2, true, false) = 1 from rfl]
            have h9 : (1 :: fieldsB [x0, x1, x2]).length = 1 + q := by rw [List.length_cons, FQ.out]; omega
            rw [h9]
            exact R337.out
          go_wp2_with fail
          go_ret
          exact ⟨va334, rfl, FIN.out, B335.out⟩
        · skip
          go_simp
          refine (l01Fields (some ⟨wa263.heap.size, 0, none⟩) 3 3 [x0, x1, x2] (wa320) rfl (by omega) FL.out Q323.out).mono ?_
          rintro e wa338 ⟨va338, rfl, o338, hb338⟩
          dsimp only
          rw [FQ.out] at o338
          obtain ⟨g338, c338, rfl, _, s338⟩ := own_some o338 (by omega)
          have B339 : Hid (Below w.heap.size w (wa338)) := (B321.out).trans (hb338.mono (B321.out).size)
          have X340 : Hid (Box (wa338) w.heap.size [.string x0, .string x1, .string x2, .bool true, .bool false]) := Box.below (w := wa320) X322.out hb338
          have Q341 : Hid (Src (wa338) (some ⟨wa263.heap.size, 0, none⟩) (cellsS [x0, x1, x2])) := Src.below (w := wa320) Q323.out hb338
          have P342 : Hid (Src (wa338) (some ⟨g338, 0, none⟩) (cellsB (fieldsB [x0, x1, x2]))) := s338
          clear o338 hb338 s338
          clear e0 e1 e2 e3 e4
          obtain ⟨e0, _⟩ := X340.out 0 _ rfl
          obtain ⟨e1, _⟩ := X340.out 1 _ rfl
          obtain ⟨e2, _⟩ := X340.out 2 _ rfl
          obtain ⟨e3, _⟩ := X340.out 3 _ rfl
          obtain ⟨e4, _⟩ := X340.out 4 _ rfl
          refine hK _ _ ⟨e0, e1, e2, e3, e4⟩ (fun hHeld => ?_)
          clear hK K
          refine wpAnyH_ready (rs := [9]) (by kernel_rfl) (by simp) ?_
          refine AllReadyH.cons rfl (fun K hK => ?_) AllReadyH.nil
          go_simp
          have B343 : Hid (Below w.heap.size w (((wa338).alloc (.cells #[.int .u8 1] 5)))) := B339.out.alloc B339.out.size _
          have X344 : Hid (Box (((wa338).alloc (.cells #[.int .u8 1] 5))) w.heap.size [.string x0, .string x1, .string x2, .bool true, .bool false]) := Box.old (w := wa338) X340.out _
          have Q345 : Hid (Src (((wa338).alloc (.cells #[.int .u8 1] 5))) (some ⟨wa263.heap.size, 0, none⟩) (cellsS [x0, x1, x2])) := Src.below (w := wa338) Q341.out (((Below.refl _ (wa338)).alloc (Nat.le_refl _) (.cells #[.int .u8 1] 5)))
          have P346 : Hid (Src (((wa338).alloc (.cells #[.int .u8 1] 5))) (some ⟨g338, 0, none⟩) (cellsB (fieldsB [x0, x1, x2]))) := Src.below (w := wa338) P342.out (((Below.refl _ (wa338)).alloc (Nat.le_refl _) (.cells #[.int .u8 1] 5)))
          have N347 : Hid (World.ownsRow (((wa338).alloc (.cells #[.int .u8 1] 5))) (w.heap.size + 1) 5 1 (.slice (some ⟨wa338.heap.size, 0, none⟩) 1 1) 1 (cellsB [1])) := ownB_at (w := wa338) [1] (by simp) (show w.heap.size + 1 ≤ _ from World.block_lt_of_cell? _ _ (X340.out 0 _ rfl).1) rfl rfl (by decide)
          clear e0 e1 e2 e3 e4
          obtain ⟨e0, _⟩ := X344.out 0 _ rfl
          obtain ⟨e1, _⟩ := X344.out 1 _ rfl
          obtain ⟨e2, _⟩ := X344.out 2 _ rfl
          obtain ⟨e3, _⟩ := X344.out 3 _ rfl
          obtain ⟨e4, _⟩ := X344.out 4 _ rfl
          refine hK _ _ ⟨e0, e1, e2, e3, e4⟩ (fun hHeld => ?_)
          clear hK K
          refine wpAnyH_ready (rs := [18]) (by kernel_rfl) (by simp) ?_
          refine AllReadyH.cons rfl (fun K hK => ?_) AllReadyH.nil
          refine step_append_src rfl (.tmp 12) (.tmp 20) 55 rfl (w.heap.size + 1) 5 (.int .u8 0) 1 1 Tryz.underlying55 infoB rfl (by decide) (by decide) (.slice (some ⟨wa338.heap.size, 0, none⟩) 1 1) 1 (cellsB [1]) (by rfl) N347.out ⟨g338, 0, none⟩ q c338 (cellsB (fieldsB [x0, x1, x2])) (by rfl) (by rw [cellsB_length, FQ.out]; omega) P346.out (cellsB_one _) (by omega) (by omega) (show w.heap.size + 1 ≤ _ from World.block_lt_of_cell? _ _ (X344.out 0 _ rfl).1) ?_
          intro va348 wa348 hown348 hgrow348 _
          have B349 : Hid (Below w.heap.size w (wa348)) := (B343.out).grown hgrow348 (B343.out).size (fun g e => by have h9 := (N347.out.lt g e).1; omega)
          have X350 : Hid (Box (wa348) w.heap.size [.string x0, .string x1, .string x2, .bool true, .bool false]) := Box.grown X344.out hgrow348 (fun e => by have h9 := (N347.out.lt _ e).1; omega)
          have R351 : Hid (World.ownsRow (wa348) (w.heap.size + 1) 5 1 (va348) (1 + q) (cellsB ([1] ++ fieldsB [x0, x1, x2]))) := by rw [cellsB_append]; exact hown348
          clear hown348 hgrow348
          clear e0 e1 e2 e3 e4
          obtain ⟨e0, _⟩ := X350.out 0 _ rfl
          obtain ⟨e1, _⟩ := X350.out 1 _ rfl
          obtain ⟨e2, _⟩ := X350.out 2 _ rfl
          obtain ⟨e3, _⟩ := X350.out 3 _ rfl
          obtain ⟨e4, _⟩ := X350.out 4 _ rfl
          refine hK _ _ ⟨e0, e1, e2, e3, e4⟩ (fun hHeld => ?_)
          clear hK K
          refine wpAnyH_ready (rs := [19]) (by kernel_rfl) (by simp) ?_
          refine AllReadyH.cons rfl (fun K hK => ?_) AllReadyH.nil
          go_simp
          clear e0 e1 e2 e3 e4
          obtain ⟨e0, _⟩ := X350.out 0 _ rfl
          obtain ⟨e1, _⟩ := X350.out 1 _ rfl
          obtain ⟨e2, _⟩ := X350.out 2 _ rfl
          obtain ⟨e3, _⟩ := X350.out 3 _ rfl
          obtain ⟨e4, _⟩ := X350.out 4 _ rfl
          refine hK _ _ ⟨e0, e1, e2, e3, e4⟩ (fun hHeld => ?_)
          clear hK K
          refine wpAnyH_done (by kernel_rfl) ?_ _
          refine NoPanic.normal ?_
          clear e0 e1 e2 e3 e4
          clear hHeld
          have FIN : Hid ((wa348).ownsRow (w.heap.size + 1) 5 1 va348 (partB (x0, x1, x2, true, false)).length (cellsB (partB (x0, x1, x2, true, false)))) := by
            rw [LQ.out true false, show kindN (x0, x1, x2, true, false) = 1 from rfl]
            have h9 : (1 :: fieldsB [x0, x1, x2]).length = 1 + q := by rw [List.length_cons, FQ.out]; omega
            rw [h9]
            exact R351.out
          go_wp2_with fail
          go_ret
          exact ⟨va348, rfl, FIN.out, B349.out⟩
    · skip
      go_simp
      have B352 : Hid (Below w.heap.size w (((w.alloc (.cells #[.string x0, .string x1, .string x2, .bool true, .bool false] 108)).alloc (.cells #[.string x0, .string x1, .string x2] 9)))) := B261.out.alloc B261.out.size _
      have X353 : Hid (Box ((((w.alloc (.cells #[.string x0, .string x1, .string x2, .bool true, .bool false] 108)).alloc (.cells #[.string x0, .string x1, .string x2] 9))).drew) w.heap.size [.string x0, .string x1, .string x2, .bool true, .bool false]) := Box.old (w := w.alloc (.cells #[.string x0, .string x1, .string x2, .bool true, .bool false] 108)) X262.out _
      have Q354 : Hid (Src ((((w.alloc (.cells #[.string x0, .string x1, .string x2, .bool true, .bool false] 108)).alloc (.cells #[.string x0, .string x1, .string x2] 9))).drew) (some ⟨w.heap.size + 1, 0, none⟩) (cellsS [x0, x1, x2])) := src_3S (w := w.alloc (.cells #[.string x0, .string x1, .string x2, .bool true, .bool false] 108)) (by simp)
      clear e0 e1 e2 e3 e4
      obtain ⟨e0, _⟩ := X353.out 0 _ rfl
      obtain ⟨e1, _⟩ := X353.out 1 _ rfl
      obtain ⟨e2, _⟩ := X353.out 2 _ rfl
      obtain ⟨e3, _⟩ := X353.out 3 _ rfl
      obtain ⟨e4, _⟩ := X353.out 4 _ rfl
      refine hK _ _ ⟨e0, e1, e2, e3, e4⟩ (fun hHeld => ?_)
      clear hK K
      refine wpAnyH_ready (rs := [2]) (by kernel_rfl) (by simp) ?_
      refine AllReadyH.cons rfl (fun K hK => ?_) AllReadyH.nil
      go_simp
      refine (bitIs true ((((w.alloc (.cells #[.string x0, .string x1, .string x2, .bool true, .bool false] 108)).alloc (.cells #[.string x0, .string x1, .string x2] 9))).drew)).mono ?_
      rintro e wa355 ⟨rfl, hb355⟩
      dsimp only
      have B356 : Hid (Below w.heap.size w (wa355)) := (B352.out.drew).trans (hb355.mono (B352.out.drew).size)
      have X357 : Hid (Box (wa355) w.heap.size [.string x0, .string x1, .string x2, .bool true, .bool false]) := Box.below (w := (((w.alloc (.cells #[.string x0, .string x1, .string x2, .bool true, .bool false] 108)).alloc (.cells #[.string x0, .string x1, .string x2] 9))).drew) X353.out hb355
      have Q358 : Hid (Src (wa355) (some ⟨w.heap.size + 1, 0, none⟩) (cellsS [x0, x1, x2])) := Src.below (w := (((w.alloc (.cells #[.string x0, .string x1, .string x2, .bool true, .bool false] 108)).alloc (.cells #[.string x0, .string x1, .string x2] 9))).drew) Q354.out hb355
      clear hb355
      clear e0 e1 e2 e3 e4
      obtain ⟨e0, _⟩ := X357.out 0 _ rfl
      obtain ⟨e1, _⟩ := X357.out 1 _ rfl
      obtain ⟨e2, _⟩ := X357.out 2 _ rfl
      obtain ⟨e3, _⟩ := X357.out 3 _ rfl
      obtain ⟨e4, _⟩ := X357.out 4 _ rfl
      refine hK _ _ ⟨e0, e1, e2, e3, e4⟩ (fun hHeld => ?_)
      clear hK K
      refine wpAnyH_ready (rs := [5]) (by kernel_rfl) (by simp) ?_
      refine AllReadyH.cons rfl (fun K hK => ?_) AllReadyH.nil
      go_simp
      refine (bitIs false (wa355)).mono ?_
      rintro e wa359 ⟨rfl, hb359⟩
      dsimp only
      have B360 : Hid (Below w.heap.size w (wa359)) := (B356.out).trans (hb359.mono (B356.out).size)
      have X361 : Hid (Box (wa359) w.heap.size [.string x0, .string x1, .string x2, .bool true, .bool false]) := Box.below (w := wa355) X357.out hb359
      have Q362 : Hid (Src (wa359) (some ⟨w.heap.size + 1, 0, none⟩) (cellsS [x0, x1, x2])) := Src.below (w := wa355) Q358.out hb359
      clear hb359
      clear e0 e1 e2 e3 e4
      obtain ⟨e0, _⟩ := X361.out 0 _ rfl
      obtain ⟨e1, _⟩ := X361.out 1 _ rfl
      obtain ⟨e2, _⟩ := X361.out 2 _ rfl
      obtain ⟨e3, _⟩ := X361.out 3 _ rfl
      obtain ⟨e4, _⟩ := X361.out 4 _ rfl
      refine hK _ _ ⟨e0, e1, e2, e3, e4⟩ (fun hHeld => ?_)
      clear hK K
      refine wpAnyH_take (i := 6) (v := .int .i64 0) rfl (by kernel_rfl) (by kernel_rfl) (by kernel_rfl) (fun _ _ _ h => h) (Or.inl ⟨by kernel_rfl, ?_⟩) hHeld ?_
      · intro w9 hSw
        obtain ⟨s0, s1, s2, s3, s4⟩ := hSw
        go_simp
        first | rfl | decide
      simp only [Act.put, List.setIfInBounds_toArray, List.set_cons_zero, List.set_cons_succ]
      refine wpAnyH_take (i := 7) (v := .int .i64 1) rfl (by kernel_rfl) (by kernel_rfl) (by kernel_rfl) (fun _ _ _ h => h) (Or.inl ⟨by kernel_rfl, ?_⟩) hHeld ?_
      · intro w9 hSw
        obtain ⟨s0, s1, s2, s3, s4⟩ := hSw
        go_simp
        first | rfl | decide
      simp only [Act.put, List.setIfInBounds_toArray, List.set_cons_zero, List.set_cons_succ]
      refine wpAnyH_take (i := 8) (v := .int .u8 1) rfl (by kernel_rfl) (by kernel_rfl) (by kernel_rfl) (fun _ _ _ h => h) (Or.inl ⟨by kernel_rfl, ?_⟩) hHeld ?_
      · intro w9 hSw
        obtain ⟨s0, s1, s2, s3, s4⟩ := hSw
        go_simp
        first | rfl | decide
      simp only [Act.put, List.setIfInBounds_toArray, List.set_cons_zero, List.set_cons_succ]
      refine wpAnyH_ready (rs := [9, 17]) (by kernel_rfl) (by simp) ?_
      refine AllReadyH.cons rfl (fun K hK => ?_) (AllReadyH.cons rfl (fun K hK => ?_) AllReadyH.nil)
      · skip
        go_simp
        have B363 : Hid (Below w.heap.size w (((wa359).alloc (.cells #[.int .u8 1] 5)))) := B360.out.alloc B360.out.size _
        have X364 : Hid (Box (((wa359).alloc (.cells #[.int .u8 1] 5))) w.heap.size [.string x0, .string x1, .string x2, .bool true, .bool false]) := Box.old (w := wa359) X361.out _
        have Q365 : Hid (Src (((wa359).alloc (.cells #[.int .u8 1] 5))) (some ⟨w.heap.size + 1, 0, none⟩) (cellsS [x0, x1, x2])) := Src.below (w := wa359) Q362.out (((Below.refl _ (wa359)).alloc (Nat.le_refl _) (.cells #[.int .u8 1] 5)))
        have N366 : Hid (World.ownsRow (((wa359).alloc (.cells #[.int .u8 1] 5))) (w.heap.size + 1) 5 1 (.slice (some ⟨wa359.heap.size, 0, none⟩) 1 1) 1 (cellsB [1])) := ownB_at (w := wa359) [1] (by simp) (show w.heap.size + 1 ≤ _ from World.block_lt_of_cell? _ _ (X361.out 0 _ rfl).1) rfl rfl (by decide)
        clear e0 e1 e2 e3 e4
        obtain ⟨e0, _⟩ := X364.out 0 _ rfl
        obtain ⟨e1, _⟩ := X364.out 1 _ rfl
        obtain ⟨e2, _⟩ := X364.out 2 _ rfl
        obtain ⟨e3, _⟩ := X364.out 3 _ rfl
        obtain ⟨e4, _⟩ := X364.out 4 _ rfl
        refine hK _ _ ⟨e0, e1, e2, e3, e4⟩ (fun hHeld => ?_)
        clear hK K
        refine wpAnyH_ready (rs := [17]) (by kernel_rfl) (by simp) ?_
        refine AllReadyH.cons rfl (fun K hK => ?_) AllReadyH.nil
        go_simp
        refine (l01Fields (some ⟨w.heap.size + 1, 0, none⟩) 3 3 [x0, x1, x2] (((wa359).alloc (.cells #[.int .u8 1] 5))) rfl (by omega) FL.out Q365.out).mono ?_
        rintro e wa367 ⟨va367, rfl, o367, hb367⟩
        dsimp only
        rw [FQ.out] at o367
        obtain ⟨g367, c367, rfl, _, s367⟩ := own_some o367 (by omega)
        have B368 : Hid (Below w.heap.size w (wa367)) := (B363.out).trans (hb367.mono (B363.out).size)
        have X369 : Hid (Box (wa367) w.heap.size [.string x0, .string x1, .string x2, .bool true, .bool false]) := Box.below (w := ((wa359).alloc (.cells #[.int .u8 1] 5))) X364.out hb367
        have Q370 : Hid (Src (wa367) (some ⟨w.heap.size + 1, 0, none⟩) (cellsS [x0, x1, x2])) := Src.below (w := ((wa359).alloc (.cells #[.int .u8 1] 5))) Q365.out hb367
        have N371 : Hid (World.ownsRow (wa367) (w.heap.size + 1) 5 1 (.slice (some ⟨wa359.heap.size, 0, none⟩) 1 1) 1 (cellsB [1])) := own_below (w := ((wa359).alloc (.cells #[.int .u8 1] 5))) N366.out hb367
        have P372 : Hid (Src (wa367) (some ⟨g367, 0, none⟩) (cellsB (fieldsB [x0, x1, x2]))) := s367
        clear o367 hb367 s367
        clear e0 e1 e2 e3 e4
        obtain ⟨e0, _⟩ := X369.out 0 _ rfl
        obtain ⟨e1, _⟩ := X369.out 1 _ rfl
        obtain ⟨e2, _⟩ := X369.out 2 _ rfl
        obtain ⟨e3, _⟩ := X369.out 3 _ rfl
        obtain ⟨e4, _⟩ := X369.out 4 _ rfl
        refine hK _ _ ⟨e0, e1, e2, e3, e4⟩ (fun hHeld => ?_)
        clear hK K
        refine wpAnyH_ready (rs := [18]) (by kernel_rfl) (by simp) ?_
        refine AllReadyH.cons rfl (fun K hK => ?_) AllReadyH.nil
        refine step_append_src rfl (.tmp 12) (.tmp 20) 55 rfl (w.heap.size + 1) 5 (.int .u8 0) 1 1 Tryz.underlying55 infoB rfl (by decide) (by decide) (.slice (some ⟨wa359.heap.size, 0, none⟩) 1 1) 1 (cellsB [1]) (by rfl) N371.out ⟨g367, 0, none⟩ q c367 (cellsB (fieldsB [x0, x1, x2])) (by rfl) (by rw [cellsB_length, FQ.out]; omega) P372.out (cellsB_one _) (by omega) (by omega) (show w.heap.size + 1 ≤ _ from World.block_lt_of_cell? _ _ (X369.out 0 _ rfl).1) ?_
        intro va373 wa373 hown373 hgrow373 _
        have B374 : Hid (Below w.heap.size w (wa373)) := (B368.out).grown hgrow373 (B368.out).size (fun g e => by have h9 := (N371.out.lt g e).1; omega)
        have X375 : Hid (Box (wa373) w.heap.size [.string x0, .string x1, .string x2, .bool true, .bool false]) := Box.grown X369.out hgrow373 (fun e => by have h9 := (N371.out.lt _ e).1; omega)
        have R376 : Hid (World.ownsRow (wa373) (w.heap.size + 1) 5 1 (va373) (1 + q) (cellsB ([1] ++ fieldsB [x0, x1, x2]))) := by rw [cellsB_append]; exact hown373
        clear hown373 hgrow373
        clear e0 e1 e2 e3 e4
        obtain ⟨e0, _⟩ := X375.out 0 _ rfl
        obtain ⟨e1, _⟩ := X375.out 1 _ rfl
        obtain ⟨e2, _⟩ := X375.out 2 _ rfl
        obtain ⟨e3, _⟩ := X375.out 3 _ rfl
        obtain ⟨e4, _⟩ := X375.out 4 _ rfl
        refine hK _ _ ⟨e0, e1, e2, e3, e4⟩ (fun hHeld => ?_)
        clear hK K
        refine wpAnyH_ready (rs := [19]) (by kernel_rfl) (by simp) ?_
        refine AllReadyH.cons rfl (fun K hK => ?_) AllReadyH.nil
        go_simp
        clear e0 e1 e2 e3 e4
        obtain ⟨e0, _⟩ := X375.out 0 _ rfl
        obtain ⟨e1, _⟩ := X375.out 1 _ rfl
        obtain ⟨e2, _⟩ := X375.out 2 _ rfl
        obtain ⟨e3, _⟩ := X375.out 3 _ rfl
        obtain ⟨e4, _⟩ := X375.out 4 _ rfl
        refine hK _ _ ⟨e0, e1, e2, e3, e4⟩ (fun hHeld => ?_)
        clear hK K
        refine wpAnyH_done (by kernel_rfl) ?_ _
        refine NoPanic.normal ?_
        clear e0 e1 e2 e3 e4
        clear hHeld
        have FIN : Hid ((wa373).ownsRow (w.heap.size + 1) 5 1 va373 (partB (x0, x1, x2, true, false)).length (cellsB (partB (x0, x1, x2, true, false)))) := by
          rw [LQ.out true false, show kindN (x0, x1, x2, true, false) = 1 from rfl]
          have h9 : (1 :: fieldsB [x0, x1, x2]).length = 1 + q := by rw [List.length_cons, FQ.out]; omega
          rw [h9]
          exact R376.out
        go_wp2_with fail
        go_ret
        exact ⟨va373, rfl, FIN.out, B374.out⟩
      · skip
        go_simp
        refine (l01Fields (some ⟨w.heap.size + 1, 0, none⟩) 3 3 [x0, x1, x2] (wa359) rfl (by omega) FL.out Q362.out).mono ?_
        rintro e wa377 ⟨va377, rfl, o377, hb377⟩
        dsimp only
        rw [FQ.out] at o377
        obtain ⟨g377, c377, rfl, _, s377⟩ := own_some o377 (by omega)
        have B378 : Hid (Below w.heap.size w (wa377)) := (B360.out).trans (hb377.mono (B360.out).size)
        have X379 : Hid (Box (wa377) w.heap.size [.string x0, .string x1, .string x2, .bool true, .bool false]) := Box.below (w := wa359) X361.out hb377
        have Q380 : Hid (Src (wa377) (some ⟨w.heap.size + 1, 0, none⟩) (cellsS [x0, x1, x2])) := Src.below (w := wa359) Q362.out hb377
        have P381 : Hid (Src (wa377) (some ⟨g377, 0, none⟩) (cellsB (fieldsB [x0, x1, x2]))) := s377
        clear o377 hb377 s377
        clear e0 e1 e2 e3 e4
        obtain ⟨e0, _⟩ := X379.out 0 _ rfl
        obtain ⟨e1, _⟩ := X379.out 1 _ rfl
        obtain ⟨e2, _⟩ := X379.out 2 _ rfl
        obtain ⟨e3, _⟩ := X379.out 3 _ rfl
        obtain ⟨e4, _⟩ := X379.out 4 _ rfl
        refine hK _ _ ⟨e0, e1, e2, e3, e4⟩ (fun hHeld => ?_)
        clear hK K
        refine wpAnyH_ready (rs := [9]) (by kernel_rfl) (by simp) ?_
        refine AllReadyH.cons rfl (fun K hK => ?_) AllReadyH.nil
        go_simp
        have B382 : Hid (Below w.heap.size w (((wa377).alloc (.cells #[.int .u8 1] 5)))) := B378.out.alloc B378.out.size _
        have X383 : Hid (Box (((wa377).alloc (.cells #[.int .u8 1] 5))) w.heap.size [.string x0, .string x1, .string x2, .bool true, .bool false]) := Box.old (w := wa377) X379.out _
        have Q384 : Hid (Src (((wa377).alloc (.cells #[.int .u8 1] 5))) (some ⟨w.heap.size + 1, 0, none⟩) (cellsS [x0, x1, x2])) := Src.below (w := wa377) Q380.out (((Below.refl _ (wa377)).alloc (Nat.le_refl _) (.cells #[.int .u8 1] 5)))
        have P385 : Hid (Src (((wa377).alloc (.cells #[.int .u8 1] 5))) (some ⟨g377, 0, none⟩) (cellsB (fieldsB [x0, x1, x2]))) := Src.below (w := wa377) P381.out (((Below.refl _ (wa377)).alloc (Nat.le_refl _) (.cells #[.int .u8 1] 5)))
        have N386 : Hid (World.ownsRow (((wa377).alloc (.cells #[.int .u8 1] 5))) (w.heap.size + 1) 5 1 (.slice (some ⟨wa377.heap.size, 0, none⟩) 1 1) 1 (cellsB [1])) := ownB_at (w := wa377) [1] (by simp) (show w.heap.size + 1 ≤ _ from World.block_lt_of_cell? _ _ (X379.out 0 _ rfl).1) rfl rfl (by decide)
        clear e0 e1 e2 e3 e4
        obtain ⟨e0, _⟩ := X383.out 0 _ rfl
        obtain ⟨e1, _⟩ := X383.out 1 _ rfl
        obtain ⟨e2, _⟩ := X383.out 2 _ rfl
        obtain ⟨e3, _⟩ := X383.out 3 _ rfl
        obtain ⟨e4, _⟩ := X383.out 4 _ rfl
        refine hK _ _ ⟨e0, e1, e2, e3, e4⟩ (fun hHeld => ?_)
        clear hK K
        refine wpAnyH_ready (rs := [18]) (by kernel_rfl) (by simp) ?_
        refine AllReadyH.cons rfl (fun K hK => ?_) AllReadyH.nil
        refine step_append_src rfl (.tmp 12) (.tmp 20) 55 rfl (w.heap.size + 1) 5 (.int .u8 0) 1 1 Tryz.underlying55 infoB rfl (by decide) (by decide) (.slice (some ⟨wa377.heap.size, 0, none⟩) 1 1) 1 (cellsB [1]) (by rfl) N386.out ⟨g377, 0, none⟩ q c377 (cellsB (fieldsB [x0, x1, x2])) (by rfl) (by rw [cellsB_length, FQ.out]; omega) P385.out (cellsB_one _) (by omega) (by omega) (show w.heap.size + 1 ≤ _ from World.block_lt_of_cell? _ _ (X383.out 0 _ rfl).1) ?_
        intro va387 wa387 hown387 hgrow387 _
        have B388 : Hid (Below w.heap.size w (wa387)) := (B382.out).grown hgrow387 (B382.out).size (fun g e => by have h9 := (N386.out.lt g e).1; omega)
        have X389 : Hid (Box (wa387) w.heap.size [.string x0, .string x1, .string x2, .bool true, .bool false]) := Box.grown X383.out hgrow387 (fun e => by have h9 := (N386.out.lt _ e).1; omega)
        have R390 : Hid (World.ownsRow (wa387) (w.heap.size + 1) 5 1 (va387) (1 + q) (cellsB ([1] ++ fieldsB [x0, x1, x2]))) := by rw [cellsB_append]; exact hown387
        clear hown387 hgrow387
        clear e0 e1 e2 e3 e4
        obtain ⟨e0, _⟩ := X389.out 0 _ rfl
        obtain ⟨e1, _⟩ := X389.out 1 _ rfl
        obtain ⟨e2, _⟩ := X389.out 2 _ rfl
        obtain ⟨e3, _⟩ := X389.out 3 _ rfl
        obtain ⟨e4, _⟩ := X389.out 4 _ rfl
        refine hK _ _ ⟨e0, e1, e2, e3, e4⟩ (fun hHeld => ?_)
        clear hK K
        refine wpAnyH_ready (rs := [19]) (by kernel_rfl) (by simp) ?_
        refine AllReadyH.cons rfl (fun K hK => ?_) AllReadyH.nil
        go_simp
        clear e0 e1 e2 e3 e4
        obtain ⟨e0, _⟩ := X389.out 0 _ rfl
        obtain ⟨e1, _⟩ := X389.out 1 _ rfl
        obtain ⟨e2, _⟩ := X389.out 2 _ rfl
        obtain ⟨e3, _⟩ := X389.out 3 _ rfl
        obtain ⟨e4, _⟩ := X389.out 4 _ rfl
        refine hK _ _ ⟨e0, e1, e2, e3, e4⟩ (fun hHeld => ?_)
        clear hK K
        refine wpAnyH_done (by kernel_rfl) ?_ _
        refine NoPanic.normal ?_
        clear e0 e1 e2 e3 e4
        clear hHeld
        have FIN : Hid ((wa387).ownsRow (w.heap.size + 1) 5 1 va387 (partB (x0, x1, x2, true, false)).length (cellsB (partB (x0, x1, x2, true, false)))) := by
          rw [LQ.out true false, show kindN (x0, x1, x2, true, false) = 1 from rfl]
          have h9 : (1 :: fieldsB [x0, x1, x2]).length = 1 + q := by rw [List.length_cons, FQ.out]; omega
          rw [h9]
          exact R390.out
        go_wp2_with fail
        go_ret
        exact ⟨va387, rfl, FIN.out, B388.out⟩
  · skip
    go_enter Tryz.func82, Tryz.ntmps82
    go_wp2_with fail
    have B391 : Hid (Below w.heap.size w (w.alloc (.cells #[.string x0, .string x1, .string x2, .bool true, .bool true] 108))) := (Below.refl _ _).alloc (Nat.le_refl _) _
    have X392 : Hid (Box ((w.alloc (.cells #[.string x0, .string x1, .string x2, .bool true, .bool true] 108)).drew) w.heap.size [.string x0, .string x1, .string x2, .bool true, .bool true]) := Box.new (w := w) rfl
    obtain ⟨e0, _⟩ := X392.out 0 _ rfl
    obtain ⟨e1, _⟩ := X392.out 1 _ rfl
    obtain ⟨e2, _⟩ := X392.out 2 _ rfl
    obtain ⟨e3, _⟩ := X392.out 3 _ rfl
    obtain ⟨e4, _⟩ := X392.out 4 _ rfl
    refine wp_region_noPanic ?_
    refine wp_region_held_drew (S := (fun w' => w'.cell? ⟨w.heap.size, 0, none⟩ = some (.string x0) ∧ w'.cell? ⟨w.heap.size, 1, none⟩ = some (.string x1) ∧ w'.cell? ⟨w.heap.size, 2, none⟩ = some (.string x2) ∧ w'.cell? ⟨w.heap.size, 3, none⟩ = some (.bool true) ∧ w'.cell? ⟨w.heap.size, 4, none⟩ = some (.bool true))) (by kernel_rfl) ⟨e0, e1, e2, e3, e4⟩ (fun hHeld => ?_)
    refine wpAnyH_take (i := 0) (v := .pointer (some ⟨w.heap.size, 3, none⟩)) rfl (by kernel_rfl) (by kernel_rfl) (by kernel_rfl) (fun _ _ _ h => h) (Or.inl ⟨by kernel_rfl, ?_⟩) hHeld ?_
    · intro w9 hSw
      obtain ⟨s0, s1, s2, s3, s4⟩ := hSw
      go_simp
    simp only [Act.put, List.setIfInBounds_toArray, List.set_cons_zero, List.set_cons_succ]
    refine wpAnyH_take (i := 1) (v := .bool true) rfl (by kernel_rfl) (by kernel_rfl) (by kernel_rfl) (fun _ _ _ h => h) (Or.inl ⟨by kernel_rfl, ?_⟩) hHeld ?_
    · intro w9 hSw
      obtain ⟨s0, s1, s2, s3, s4⟩ := hSw
      go_simp
    simp only [Act.put, List.setIfInBounds_toArray, List.set_cons_zero, List.set_cons_succ]
    refine wpAnyH_take (i := 3) (v := .pointer (some ⟨w.heap.size, 4, none⟩)) rfl (by kernel_rfl) (by kernel_rfl) (by kernel_rfl) (fun _ _ _ h => h) (Or.inl ⟨by kernel_rfl, ?_⟩) hHeld ?_
    · intro w9 hSw
      obtain ⟨s0, s1, s2, s3, s4⟩ := hSw
      go_simp
    simp only [Act.put, List.setIfInBounds_toArray, List.set_cons_zero, List.set_cons_succ]
    refine wpAnyH_take (i := 4) (v := .bool true) rfl (by kernel_rfl) (by kernel_rfl) (by kernel_rfl) (fun _ _ _ h => h) (Or.inl ⟨by kernel_rfl, ?_⟩) hHeld ?_
    · intro w9 hSw
      obtain ⟨s0, s1, s2, s3, s4⟩ := hSw
      go_simp
    simp only [Act.put, List.setIfInBounds_toArray, List.set_cons_zero, List.set_cons_succ]
    refine wpAnyH_take (i := 10) (v := .pointer (some ⟨w.heap.size, 0, none⟩)) rfl (by kernel_rfl) (by kernel_rfl) (by kernel_rfl) (fun _ _ _ h => h) (Or.inl ⟨by kernel_rfl, ?_⟩) hHeld ?_
    · intro w9 hSw
      obtain ⟨s0, s1, s2, s3, s4⟩ := hSw
      go_simp
    simp only [Act.put, List.setIfInBounds_toArray, List.set_cons_zero, List.set_cons_succ]
    refine wpAnyH_take (i := 11) (v := .string x0) rfl (by kernel_rfl) (by kernel_rfl) (by kernel_rfl) (fun _ _ _ h => h) (Or.inl ⟨by kernel_rfl, ?_⟩) hHeld ?_
    · intro w9 hSw
      obtain ⟨s0, s1, s2, s3, s4⟩ := hSw
      go_simp
    simp only [Act.put, List.setIfInBounds_toArray, List.set_cons_zero, List.set_cons_succ]
    refine wpAnyH_take (i := 12) (v := .pointer (some ⟨w.heap.size, 1, none⟩)) rfl (by kernel_rfl) (by kernel_rfl) (by kernel_rfl) (fun _ _ _ h => h) (Or.inl ⟨by kernel_rfl, ?_⟩) hHeld ?_
    · intro w9 hSw
      obtain ⟨s0, s1, s2, s3, s4⟩ := hSw
      go_simp
    simp only [Act.put, List.setIfInBounds_toArray, List.set_cons_zero, List.set_cons_succ]
    refine wpAnyH_take (i := 13) (v := .string x1) rfl (by kernel_rfl) (by kernel_rfl) (by kernel_rfl) (fun _ _ _ h => h) (Or.inl ⟨by kernel_rfl, ?_⟩) hHeld ?_
    · intro w9 hSw
      obtain ⟨s0, s1, s2, s3, s4⟩ := hSw
      go_simp
    simp only [Act.put, List.setIfInBounds_toArray, List.set_cons_zero, List.set_cons_succ]
    refine wpAnyH_take (i := 14) (v := .pointer (some ⟨w.heap.size, 2, none⟩)) rfl (by kernel_rfl) (by kernel_rfl) (by kernel_rfl) (fun _ _ _ h => h) (Or.inl ⟨by kernel_rfl, ?_⟩) hHeld ?_
    · intro w9 hSw
      obtain ⟨s0, s1, s2, s3, s4⟩ := hSw
      go_simp
    simp only [Act.put, List.setIfInBounds_toArray, List.set_cons_zero, List.set_cons_succ]
    refine wpAnyH_take (i := 15) (v := .string x2) rfl (by kernel_rfl) (by kernel_rfl) (by kernel_rfl) (fun _ _ _ h => h) (Or.inl ⟨by kernel_rfl, ?_⟩) hHeld ?_
    · intro w9 hSw
      obtain ⟨s0, s1, s2, s3, s4⟩ := hSw
      go_simp
    simp only [Act.put, List.setIfInBounds_toArray, List.set_cons_zero, List.set_cons_succ]
    refine wpAnyH_ready (rs := [2, 16]) (by kernel_rfl) (by simp) ?_
    refine AllReadyH.cons rfl (fun K hK => ?_) (AllReadyH.cons rfl (fun K hK => ?_) AllReadyH.nil)
    · skip
      go_simp
      refine (bitIs true ((w.alloc (.cells #[.string x0, .string x1, .string x2, .bool true, .bool true] 108)).drew)).mono ?_
      rintro e wa393 ⟨rfl, hb393⟩
      dsimp only
      have B394 : Hid (Below w.heap.size w (wa393)) := (B391.out.drew).trans (hb393.mono (B391.out.drew).size)
      have X395 : Hid (Box (wa393) w.heap.size [.string x0, .string x1, .string x2, .bool true, .bool true]) := Box.below (w := (w.alloc (.cells #[.string x0, .string x1, .string x2, .bool true, .bool true] 108)).drew) X392.out hb393
      clear hb393
      clear e0 e1 e2 e3 e4
      obtain ⟨e0, _⟩ := X395.out 0 _ rfl
      obtain ⟨e1, _⟩ := X395.out 1 _ rfl
      obtain ⟨e2, _⟩ := X395.out 2 _ rfl
      obtain ⟨e3, _⟩ := X395.out 3 _ rfl
      obtain ⟨e4, _⟩ := X395.out 4 _ rfl
      refine hK _ _ ⟨e0, e1, e2, e3, e4⟩ (fun hHeld => ?_)
      clear hK K
      refine wpAnyH_ready (rs := [5, 16]) (by kernel_rfl) (by simp) ?_
      refine AllReadyH.cons rfl (fun K hK => ?_) (AllReadyH.cons rfl (fun K hK => ?_) AllReadyH.nil)
      · skip
        go_simp
        refine (bitIs true (wa393)).mono ?_
        rintro e wa396 ⟨rfl, hb396⟩
        dsimp only
        have B397 : Hid (Below w.heap.size w (wa396)) := (B394.out).trans (hb396.mono (B394.out).size)
        have X398 : Hid (Box (wa396) w.heap.size [.string x0, .string x1, .string x2, .bool true, .bool true]) := Box.below (w := wa393) X395.out hb396
        clear hb396
        clear e0 e1 e2 e3 e4
        obtain ⟨e0, _⟩ := X398.out 0 _ rfl
        obtain ⟨e1, _⟩ := X398.out 1 _ rfl
        obtain ⟨e2, _⟩ := X398.out 2 _ rfl
        obtain ⟨e3, _⟩ := X398.out 3 _ rfl
        obtain ⟨e4, _⟩ := X398.out 4 _ rfl
        refine hK _ _ ⟨e0, e1, e2, e3, e4⟩ (fun hHeld => ?_)
        clear hK K
        refine wpAnyH_take (i := 6) (v := .int .i64 2) rfl (by kernel_rfl) (by kernel_rfl) (by kernel_rfl) (fun _ _ _ h => h) (Or.inl ⟨by kernel_rfl, ?_⟩) hHeld ?_
        · intro w9 hSw
          obtain ⟨s0, s1, s2, s3, s4⟩ := hSw
          go_simp
          first | rfl | decide
        simp only [Act.put, List.setIfInBounds_toArray, List.set_cons_zero, List.set_cons_succ]
        refine wpAnyH_take (i := 7) (v := .int .i64 3) rfl (by kernel_rfl) (by kernel_rfl) (by kernel_rfl) (fun _ _ _ h => h) (Or.inl ⟨by kernel_rfl, ?_⟩) hHeld ?_
        · intro w9 hSw
          obtain ⟨s0, s1, s2, s3, s4⟩ := hSw
          go_simp
          first | rfl | decide
        simp only [Act.put, List.setIfInBounds_toArray, List.set_cons_zero, List.set_cons_succ]
        refine wpAnyH_take (i := 8) (v := .int .u8 3) rfl (by kernel_rfl) (by kernel_rfl) (by kernel_rfl) (fun _ _ _ h => h) (Or.inl ⟨by kernel_rfl, ?_⟩) hHeld ?_
        · intro w9 hSw
          obtain ⟨s0, s1, s2, s3, s4⟩ := hSw
          go_simp
          first | rfl | decide
        simp only [Act.put, List.setIfInBounds_toArray, List.set_cons_zero, List.set_cons_succ]
        refine wpAnyH_ready (rs := [9, 16]) (by kernel_rfl) (by simp) ?_
        refine AllReadyH.cons rfl (fun K hK => ?_) (AllReadyH.cons rfl (fun K hK => ?_) AllReadyH.nil)
        · skip
          go_simp
          have B399 : Hid (Below w.heap.size w (((wa396).alloc (.cells #[.int .u8 3] 5)))) := B397.out.alloc B397.out.size _
          have X400 : Hid (Box (((wa396).alloc (.cells #[.int .u8 3] 5))) w.heap.size [.string x0, .string x1, .string x2, .bool true, .bool true]) := Box.old (w := wa396) X398.out _
          have N401 : Hid (World.ownsRow (((wa396).alloc (.cells #[.int .u8 3] 5))) (w.heap.size + 1) 5 1 (.slice (some ⟨wa396.heap.size, 0, none⟩) 1 1) 1 (cellsB [3])) := ownB_at (w := wa396) [3] (by simp) (show w.heap.size + 1 ≤ _ from World.block_lt_of_cell? _ _ (X398.out 0 _ rfl).1) rfl rfl (by decide)
          clear e0 e1 e2 e3 e4
          obtain ⟨e0, _⟩ := X400.out 0 _ rfl
          obtain ⟨e1, _⟩ := X400.out 1 _ rfl
          obtain ⟨e2, _⟩ := X400.out 2 _ rfl
          obtain ⟨e3, _⟩ := X400.out 3 _ rfl
          obtain ⟨e4, _⟩ := X400.out 4 _ rfl
          refine hK _ _ ⟨e0, e1, e2, e3, e4⟩ (fun hHeld => ?_)
          clear hK K
          refine wpAnyH_ready (rs := [16]) (by kernel_rfl) (by simp) ?_
          refine AllReadyH.cons rfl (fun K hK => ?_) AllReadyH.nil
          go_simp
          have B402 : Hid (Below w.heap.size w (((((wa396).alloc (.cells #[.int .u8 3] 5))).alloc (.cells #[.string x0, .string x1, .string x2] 9)))) := B399.out.alloc B399.out.size _
          have X403 : Hid (Box (((((wa396).alloc (.cells #[.int .u8 3] 5))).alloc (.cells #[.string x0, .string x1, .string x2] 9))) w.heap.size [.string x0, .string x1, .string x2, .bool true, .bool true]) := Box.old (w := ((wa396).alloc (.cells #[.int .u8 3] 5))) X400.out _
          have N404 : Hid (World.ownsRow (((((wa396).alloc (.cells #[.int .u8 3] 5))).alloc (.cells #[.string x0, .string x1, .string x2] 9))) (w.heap.size + 1) 5 1 (.slice (some ⟨wa396.heap.size, 0, none⟩) 1 1) 1 (cellsB [3])) := World.ownsRow.alloc (w := ((wa396).alloc (.cells #[.int .u8 3] 5))) N401.out _
          have Q405 : Hid (Src (((((wa396).alloc (.cells #[.int .u8 3] 5))).alloc (.cells #[.string x0, .string x1, .string x2] 9))) (some ⟨wa396.heap.size + 1, 0, none⟩) (cellsS [x0, x1, x2])) := src_3S (w := ((wa396).alloc (.cells #[.int .u8 3] 5))) (by simp)
          clear e0 e1 e2 e3 e4
          obtain ⟨e0, _⟩ := X403.out 0 _ rfl
          obtain ⟨e1, _⟩ := X403.out 1 _ rfl
          obtain ⟨e2, _⟩ := X403.out 2 _ rfl
          obtain ⟨e3, _⟩ := X403.out 3 _ rfl
          obtain ⟨e4, _⟩ := X403.out 4 _ rfl
          refine hK _ _ ⟨e0, e1, e2, e3, e4⟩ (fun hHeld => ?_)
          clear hK K
          refine wpAnyH_ready (rs := [17]) (by kernel_rfl) (by simp) ?_
          refine AllReadyH.cons rfl (fun K hK => ?_) AllReadyH.nil
          go_simp
          refine (l01Fields (some ⟨wa396.heap.size + 1, 0, none⟩) 3 3 [x0, x1, x2] (((((wa396).alloc (.cells #[.int .u8 3] 5))).alloc (.cells #[.string x0, .string x1, .string x2] 9))) rfl (by omega) FL.out Q405.out).mono ?_
          rintro e wa406 ⟨va406, rfl, o406, hb406⟩
          dsimp only
          rw [FQ.out] at o406
          obtain ⟨g406, c406, rfl, _, s406⟩ := own_some o406 (by omega)
          have B407 : Hid (Below w.heap.size w (wa406)) := (B402.out).trans (hb406.mono (B402.out).size)
          have X408 : Hid (Box (wa406) w.heap.size [.string x0, .string x1, .string x2, .bool true, .bool true]) := Box.below (w := ((((wa396).alloc (.cells #[.int .u8 3] 5))).alloc (.cells #[.string x0, .string x1, .string x2] 9))) X403.out hb406
          have N409 : Hid (World.ownsRow (wa406) (w.heap.size + 1) 5 1 (.slice (some ⟨wa396.heap.size, 0, none⟩) 1 1) 1 (cellsB [3])) := own_below (w := ((((wa396).alloc (.cells #[.int .u8 3] 5))).alloc (.cells #[.string x0, .string x1, .string x2] 9))) N404.out hb406
          have Q410 : Hid (Src (wa406) (some ⟨wa396.heap.size + 1, 0, none⟩) (cellsS [x0, x1, x2])) := Src.below (w := ((((wa396).alloc (.cells #[.int .u8 3] 5))).alloc (.cells #[.string x0, .string x1, .string x2] 9))) Q405.out hb406
          have P411 : Hid (Src (wa406) (some ⟨g406, 0, none⟩) (cellsB (fieldsB [x0, x1, x2]))) := s406
          clear o406 hb406 s406
          clear e0 e1 e2 e3 e4
          obtain ⟨e0, _⟩ := X408.out 0 _ rfl
          obtain ⟨e1, _⟩ := X408.out 1 _ rfl
          obtain ⟨e2, _⟩ := X408.out 2 _ rfl
          obtain ⟨e3, _⟩ := X408.out 3 _ rfl
          obtain ⟨e4, _⟩ := X408.out 4 _ rfl
          refine hK _ _ ⟨e0, e1, e2, e3, e4⟩ (fun hHeld => ?_)
          clear hK K
          refine wpAnyH_ready (rs := [18]) (by kernel_rfl) (by simp) ?_
          refine AllReadyH.cons rfl (fun K hK => ?_) AllReadyH.nil
          refine step_append_src rfl (.tmp 12) (.tmp 20) 55 rfl (w.heap.size + 1) 5 (.int .u8 0) 1 1 Tryz.underlying55 infoB rfl (by decide) (by decide) (.slice (some ⟨wa396.heap.size, 0, none⟩) 1 1) 1 (cellsB [3]) (by rfl) N409.out ⟨g406, 0, none⟩ q c406 (cellsB (fieldsB [x0, x1, x2])) (by rfl) (by rw [cellsB_length, FQ.out]; omega) P411.out (cellsB_one _) (by omega) (by omega) (show w.heap.size + 1 ≤ _ from World.block_lt_of_cell? _ _ (X408.out 0 _ rfl).1) ?_
          intro va412 wa412 hown412 hgrow412 _
          have B413 : Hid (Below w.heap.size w (wa412)) := (B407.out).grown hgrow412 (B407.out).size (fun g e => by have h9 := (N409.out.lt g e).1; omega)
          have X414 : Hid (Box (wa412) w.heap.size [.string x0, .string x1, .string x2, .bool true, .bool true]) := Box.grown X408.out hgrow412 (fun e => by have h9 := (N409.out.lt _ e).1; omega)
          have R415 : Hid (World.ownsRow (wa412) (w.heap.size + 1) 5 1 (va412) (1 + q) (cellsB ([3] ++ fieldsB [x0, x1, x2]))) := by rw [cellsB_append]; exact hown412
          clear hown412 hgrow412
          clear e0 e1 e2 e3 e4
          obtain ⟨e0, _⟩ := X414.out 0 _ rfl
          obtain ⟨e1, _⟩ := X414.out 1 _ rfl
          obtain ⟨e2, _⟩ := X414.out 2 _ rfl
          obtain ⟨e3, _⟩ := X414.out 3 _ rfl
          obtain ⟨e4, _⟩ := X414.out 4 _ rfl
          refine hK _ _ ⟨e0, e1, e2, e3, e4⟩ (fun hHeld => ?_)
          clear hK K
          refine wpAnyH_ready (rs := [19]) (by kernel_rfl) (by simp) ?_
          refine AllReadyH.cons rfl (fun K hK => ?_) AllReadyH.nil
          go_simp
          clear e0 e1 e2 e3 e4
          obtain ⟨e0, _⟩ := X414.out 0 _ rfl
          obtain ⟨e1, _⟩ := X414.out 1 _ rfl
          obtain ⟨e2, _⟩ := X414.out 2 _ rfl
          obtain ⟨e3, _⟩ := X414.out 3 _ rfl
          obtain ⟨e4, _⟩ := X414.out 4 _ rfl
          refine hK _ _ ⟨e0, e1, e2, e3, e4⟩ (fun hHeld => ?_)
          clear hK K
          refine wpAnyH_done (by kernel_rfl) ?_ _
          refine NoPanic.normal ?_
          clear e0 e1 e2 e3 e4
          clear hHeld
          have FIN : Hid ((wa412).ownsRow (w.heap.size + 1) 5 1 va412 (partB (x0, x1, x2, true, true)).length (cellsB (partB (x0, x1, x2, true, true)))) := by
            rw [LQ.out true true, show kindN (x0, x1, x2, true, true) = 3 from rfl]
            have h9 : (3 :: fieldsB [x0, x1, x2]).length = 1 + q := by rw [List.length_cons, FQ.out]; omega
            rw [h9]
            exact R415.out
          go_wp2_with fail
          go_ret
          exact ⟨va412, rfl, FIN.out, B413.out⟩
        · skip
          go_simp
          have B416 : Hid (Below w.heap.size w (((wa396).alloc (.cells #[.string x0, .string x1, .string x2] 9)))) := B397.out.alloc B397.out.size _
          have X417 : Hid (Box (((wa396).alloc (.cells #[.string x0, .string x1, .string x2] 9))) w.heap.size [.string x0, .string x1, .string x2, .bool true, .bool true]) := Box.old (w := wa396) X398.out _
          have Q418 : Hid (Src (((wa396).alloc (.cells #[.string x0, .string x1, .string x2] 9))) (some ⟨wa396.heap.size, 0, none⟩) (cellsS [x0, x1, x2])) := src_3S (w := wa396) (by simp)
          clear e0 e1 e2 e3 e4
          obtain ⟨e0, _⟩ := X417.out 0 _ rfl
          obtain ⟨e1, _⟩ := X417.out 1 _ rfl
          obtain ⟨e2, _⟩ := X417.out 2 _ rfl
          obtain ⟨e3, _⟩ := X417.out 3 _ rfl
          obtain ⟨e4, _⟩ := X417.out 4 _ rfl
          refine hK _ _ ⟨e0, e1, e2, e3, e4⟩ (fun hHeld => ?_)
          clear hK K
          refine wpAnyH_ready (rs := [9, 17]) (by kernel_rfl) (by simp) ?_
          refine AllReadyH.cons rfl (fun K hK => ?_) (AllReadyH.cons rfl (fun K hK => ?_) AllReadyH.nil)
          · skip
            go_simp
            have B419 : Hid (Below w.heap.size w (((((wa396).alloc (.cells #[.string x0, .string x1, .string x2] 9))).alloc (.cells #[.int .u8 3] 5)))) := B416.out.alloc B416.out.size _
            have X420 : Hid (Box (((((wa396).alloc (.cells #[.string x0, .string x1, .string x2] 9))).alloc (.cells #[.int .u8 3] 5))) w.heap.size [.string x0, .string x1, .string x2, .bool true, .bool true]) := Box.old (w := ((wa396).alloc (.cells #[.string x0, .string x1, .string x2] 9))) X417.out _
            have Q421 : Hid (Src (((((wa396).alloc (.cells #[.string x0, .string x1, .string x2] 9))).alloc (.cells #[.int .u8 3] 5))) (some ⟨wa396.heap.size, 0, none⟩) (cellsS [x0, x1, x2])) := Src.below (w := ((wa396).alloc (.cells #[.string x0, .string x1, .string x2] 9))) Q418.out (((Below.refl _ (((wa396).alloc (.cells #[.string x0, .string x1, .string x2] 9)))).alloc (Nat.le_refl _) (.cells #[.int .u8 3] 5)))
            have N422 : Hid (World.ownsRow (((((wa396).alloc (.cells #[.string x0, .string x1, .string x2] 9))).alloc (.cells #[.int .u8 3] 5))) (w.heap.size + 1) 5 1 (.slice (some ⟨wa396.heap.size + 1, 0, none⟩) 1 1) 1 (cellsB [3])) := ownB_at (w := ((wa396).alloc (.cells #[.string x0, .string x1, .string x2] 9))) [3] (by simp) (show w.heap.size + 1 ≤ _ from World.block_lt_of_cell? _ _ (X417.out 0 _ rfl).1) rfl rfl (by decide)
            clear e0 e1 e2 e3 e4
            obtain ⟨e0, _⟩ := X420.out 0 _ rfl
            obtain ⟨e1, _⟩ := X420.out 1 _ rfl
            obtain ⟨e2, _⟩ := X420.out 2 _ rfl
            obtain ⟨e3, _⟩ := X420.out 3 _ rfl
            obtain ⟨e4, _⟩ := X420.out 4 _ rfl
            refine hK _ _ ⟨e0, e1, e2, e3, e4⟩ (fun hHeld => ?_)
            clear hK K
            refine wpAnyH_ready (rs := [17]) (by kernel_rfl) (by simp) ?_
            refine AllReadyH.cons rfl (fun K hK => ?_) AllReadyH.nil
            go_simp
            refine (l01Fields (some ⟨wa396.heap.size, 0, none⟩) 3 3 [x0, x1, x2] (((((wa396).alloc (.cells #[.string x0, .string x1, .string x2] 9))).alloc (.cells #[.int .u8 3] 5))) rfl (by omega) FL.out Q421.out).mono ?_
            rintro e wa423 ⟨va423, rfl, o423, hb423⟩
            dsimp only
            rw [FQ.out] at o423
            obtain ⟨g423, c423, rfl, _, s423⟩ := own_some o423 (by omega)
            have B424 : Hid (Below w.heap.size w (wa423)) := (B419.out).trans (hb423.mono (B419.out).size)
            have X425 : Hid (Box (wa423) w.heap.size [.string x0, .string x1, .string x2, .bool true, .bool true]) := Box.below (w := ((((wa396).alloc (.cells #[.string x0, .string x1, .string x2] 9))).alloc (.cells #[.int .u8 3] 5))) X420.out hb423
            have Q426 : Hid (Src (wa423) (some ⟨wa396.heap.size, 0, none⟩) (cellsS [x0, x1, x2])) := Src.below (w := ((((wa396).alloc (.cells #[.string x0, .string x1, .string x2] 9))).alloc (.cells #[.int .u8 3] 5))) Q421.out hb423
            have N427 : Hid (World.ownsRow (wa423) (w.heap.size + 1) 5 1 (.slice (some ⟨wa396.heap.size + 1, 0, none⟩) 1 1) 1 (cellsB [3])) := own_below (w := ((((wa396).alloc (.cells #[.string x0, .string x1, .string x2] 9))).alloc (.cells #[.int .u8 3] 5))) N422.out hb423
            have P428 : Hid (Src (wa423) (some ⟨g423, 0, none⟩) (cellsB (fieldsB [x0, x1, x2]))) := s423
            clear o423 hb423 s423
            clear e0 e1 e2 e3 e4
            obtain ⟨e0, _⟩ := X425.out 0 _ rfl
            obtain ⟨e1, _⟩ := X425.out 1 _ rfl
            obtain ⟨e2, _⟩ := X425.out 2 _ rfl
            obtain ⟨e3, _⟩ := X425.out 3 _ rfl
            obtain ⟨e4, _⟩ := X425.out 4 _ rfl
            refine hK _ _ ⟨e0, e1, e2, e3, e4⟩ (fun hHeld => ?_)
            clear hK K
            refine wpAnyH_ready (rs := [18]) (by kernel_rfl) (by simp) ?_
            refine AllReadyH.cons rfl (fun K hK => ?_) AllReadyH.nil
            refine step_append_src rfl (.tmp 12) (.tmp 20) 55 rfl (w.heap.size + 1) 5 (.int .u8 0) 1 1 Tryz.underlying55 infoB rfl (by decide) (by decide) (.slice (some ⟨wa396.heap.size + 1, 0, none⟩) 1 1) 1 (cellsB [3]) (by rfl) N427.out ⟨g423, 0, none⟩ q c423 (cellsB (fieldsB [x0, x1, x2])) (by rfl) (by rw [cellsB_length, FQ.out]; omega) P428.out (cellsB_one _) (by omega) (by omega) (show w.heap.size + 1 ≤ _ from World.block_lt_of_cell? _ _ (X425.out 0 _ rfl).1) ?_
            intro va429 wa429 hown429 hgrow429 _
            have B430 : Hid (Below w.heap.size w (wa429)) := (B424.out).grown hgrow429 (B424.out).size (fun g e => by have h9 := (N427.out.lt g e).1; omega)
            have X431 : Hid (Box (wa429) w.heap.size [.string x0, .string x1, .string x2, .bool true, .bool true]) := Box.grown X425.out hgrow429 (fun e => by have h9 := (N427.out.lt _ e).1; omega)
            have R432 : Hid (World.ownsRow (wa429) (w.heap.size + 1) 5 1 (va429) (1 + q) (cellsB ([3] ++ fieldsB [x0, x1, x2]))) := by rw [cellsB_append]; exact hown429
            clear hown429 hgrow429
            clear e0 e1 e2 e3 e4
            obtain ⟨e0, _⟩ := X431.out 0 _ rfl
            obtain ⟨e1, _⟩ := X431.out 1 _ rfl
            obtain ⟨e2, _⟩ := X431.out 2 _ rfl
            obtain ⟨e3, _⟩ := X431.out 3 _ rfl
            obtain ⟨e4, _⟩ := X431.out 4 _ rfl
            refine hK _ _ ⟨e0, e1, e2, e3, e4⟩ (fun hHeld => ?_)
            clear hK K
            refine wpAnyH_ready (rs := [19]) (by kernel_rfl) (by simp) ?_
            refine AllReadyH.cons rfl (fun K hK => ?_) AllReadyH.nil
            go_simp
            clear e0 e1 e2 e3 e4
            obtain ⟨e0, _⟩ := X431.out 0 _ rfl
            obtain ⟨e1, _⟩ := X431.out 1 _ rfl
            obtain ⟨e2, _⟩ := X431.out 2 _ rfl
            obtain ⟨e3, _⟩ := X431.out 3 _ rfl
            obtain ⟨e4, _⟩ := X431.out 4 _ rfl
            refine hK _ _ ⟨e0, e1, e2, e3, e4⟩ (fun hHeld => ?_)
            clear hK K
            refine wpAnyH_done (by kernel_rfl) ?_ _
            refine NoPanic.normal ?_
            clear e0 e1 e2 e3 e4
            clear hHeld
            have FIN : Hid ((wa429).ownsRow (w.heap.size + 1) 5 1 va429 (partB (x0, x1, x2, true, true)).length (cellsB (partB (x0, x1, x2, true, true)))) := by
              rw [LQ.out true true, show kindN (x0, x1, x2, true, true) = 3 from rfl]
              have h9 : (3 :: fieldsB [x0, x1, x2]).length = 1 + q := by rw [List.length_cons, FQ.out]; omega
              rw [h9]
              exact R432.out
            go_wp2_with fail
            go_ret
            exact ⟨va429, rfl, FIN.out, B430.out⟩
          · skip
            go_simp
            refine (l01Fields (some ⟨wa396.heap.size, 0, none⟩) 3 3 [x0, x1, x2] (((wa396).alloc (.cells #[.string x0, .string x1, .string x2] 9))) rfl (by omega) FL.out Q418.out).mono ?_
            rintro e wa433 ⟨va433, rfl, o433, hb433⟩
            dsimp only
            rw [FQ.out] at o433
            obtain ⟨g433, c433, rfl, _, s433⟩ := own_some o433 (by omega)
            have B434 : Hid (Below w.heap.size w (wa433)) := (B416.out).trans (hb433.mono (B416.out).size)
            have X435 : Hid (Box (wa433) w.heap.size [.string x0, .string x1, .string x2, .bool true, .bool true]) := Box.below (w := ((wa396).alloc (.cells #[.string x0, .string x1, .string x2] 9))) X417.out hb433
            have Q436 : Hid (Src (wa433) (some ⟨wa396.heap.size, 0, none⟩) (cellsS [x0, x1, x2])) := Src.below (w := ((wa396).alloc (.cells #[.string x0, .string x1, .string x2] 9))) Q418.out hb433
            have P437 : Hid (Src (wa433) (some ⟨g433, 0, none⟩) (cellsB (fieldsB [x0, x1, x2]))) := s433
            clear o433 hb433 s433
            clear e0 e1 e2 e3 e4
            obtain ⟨e0, _⟩ := X435.out 0 _ rfl
            obtain ⟨e1, _⟩ := X435.out 1 _ rfl
            obtain ⟨e2, _⟩ := X435.out 2 _ rfl
            obtain ⟨e3, _⟩ := X435.out 3 _ rfl
            obtain ⟨e4, _⟩ := X435.out 4 _ rfl
            refine hK _ _ ⟨e0, e1, e2, e3, e4⟩ (fun hHeld => ?_)
            clear hK K
            refine wpAnyH_ready (rs := [9]) (by kernel_rfl) (by simp) ?_
            refine AllReadyH.cons rfl (fun K hK => ?_) AllReadyH.nil
            go_simp
            have B438 : Hid (Below w.heap.size w (((wa433).alloc (.cells #[.int .u8 3] 5)))) := B434.out.alloc B434.out.size _
            have X439 : Hid (Box (((wa433).alloc (.cells #[.int .u8 3] 5))) w.heap.size [.string x0, .string x1, .string x2, .bool true, .bool true]) := Box.old (w := wa433) X435.out _
            have Q440 : Hid (Src (((wa433).alloc (.cells #[.int .u8 3] 5))) (some ⟨wa396.heap.size, 0, none⟩) (cellsS [x0, x1, x2])) := Src.below (w := wa433) Q436.out (((Below.refl _ (wa433)).alloc (Nat.le_refl _) (.cells #[.int .u8 3] 5)))
            have P441 : Hid (Src (((wa433).alloc (.cells #[.int .u8 3] 5))) (some ⟨g433, 0, none⟩) (cellsB (fieldsB [x0, x1, x2]))) := Src.below (w := wa433) P437.out (((Below.refl _ (wa433)).alloc (Nat.le_refl _) (.cells #[.int .u8 3] 5)))
            have N442 : Hid (World.ownsRow (((wa433).alloc (.cells #[.int .u8 3] 5))) (w.heap.size + 1) 5 1 (.slice (some ⟨wa433.heap.size, 0, none⟩) 1 1) 1 (cellsB [3])) := ownB_at (w := wa433) [3] (by simp) (show w.heap.size + 1 ≤ _ from World.block_lt_of_cell? _ _ (X435.out 0 _ rfl).1) rfl rfl (by decide)
            clear e0 e1 e2 e3 e4
            obtain ⟨e0, _⟩ := X439.out 0 _ rfl
            obtain ⟨e1, _⟩ := X439.out 1 _ rfl
            obtain ⟨e2, _⟩ := X439.out 2 _ rfl
            obtain ⟨e3, _⟩ := X439.out 3 _ rfl
            obtain ⟨e4, _⟩ := X439.out 4 _ rfl
            refine hK _ _ ⟨e0, e1, e2, e3, e4⟩ (fun hHeld => ?_)
            clear hK K
            refine wpAnyH_ready (rs := [18]) (by kernel_rfl) (by simp) ?_
            refine AllReadyH.cons rfl (fun K hK => ?_) AllReadyH.nil
            refine step_append_src rfl (.tmp 12) (.tmp 20) 55 rfl (w.heap.size + 1) 5 (.int .u8 0) 1 1 Tryz.underlying55 infoB rfl (by decide) (by decide) (.slice (some ⟨wa433.heap.size, 0, none⟩) 1 1) 1 (cellsB [3]) (by rfl) N442.out ⟨g433, 0, none⟩ q c433 (cellsB (fieldsB [x0, x1, x2])) (by rfl) (by rw [cellsB_length, FQ.out]; omega) P441.out (cellsB_one _) (by omega) (by omega) (show w.heap.size + 1 ≤ _ from World.block_lt_of_cell? _ _ (X439.out 0 _ rfl).1) ?_
            intro va443 wa443 hown443 hgrow443 _
            have B444 : Hid (Below w.heap.size w (wa443)) := (B438.out).grown hgrow443 (B438.out).size (fun g e => by have h9 := (N442.out.lt g e).1; omega)
            have X445 : Hid (Box (wa443) w.heap.size [.string x0, .string x1, .string x2, .bool true, .bool true]) := Box.grown X439.out hgrow443 (fun e => by have h9 := (N442.out.lt _ e).1; omega)
            have R446 : Hid (World.ownsRow (wa443) (w.heap.size + 1) 5 1 (va443) (1 + q) (cellsB ([3] ++ fieldsB [x0, x1, x2]))) := by rw [cellsB_append]; exact hown443
            clear hown443 hgrow443
            clear e0 e1 e2 e3 e4
            obtain ⟨e0, _⟩ := X445.out 0 _ rfl
            obtain ⟨e1, _⟩ := X445.out 1 _ rfl
            obtain ⟨e2, _⟩ := X445.out 2 _ rfl
            obtain ⟨e3, _⟩ := X445.out 3 _ rfl
            obtain ⟨e4, _⟩ := X445.out 4 _ rfl
            refine hK _ _ ⟨e0, e1, e2, e3, e4⟩ (fun hHeld => ?_)
            clear hK K
            refine wpAnyH_ready (rs := [19]) (by kernel_rfl) (by simp) ?_
            refine AllReadyH.cons rfl (fun K hK => ?_) AllReadyH.nil
            go_simp
            clear e0 e1 e2 e3 e4
            obtain ⟨e0, _⟩ := X445.out 0 _ rfl
            obtain ⟨e1, _⟩ := X445.out 1 _ rfl
            obtain ⟨e2, _⟩ := X445.out 2 _ rfl
            obtain ⟨e3, _⟩ := X445.out 3 _ rfl
            obtain ⟨e4, _⟩ := X445.out 4 _ rfl
            refine hK _ _ ⟨e0, e1, e2, e3, e4⟩ (fun hHeld => ?_)
            clear hK K
            refine wpAnyH_done (by kernel_rfl) ?_ _
            refine NoPanic.normal ?_
            clear e0 e1 e2 e3 e4
            clear hHeld
            have FIN : Hid ((wa443).ownsRow (w.heap.size + 1) 5 1 va443 (partB (x0, x1, x2, true, true)).length (cellsB (partB (x0, x1, x2, true, true)))) := by
              rw [LQ.out true true, show kindN (x0, x1, x2, true, true) = 3 from rfl]
              have h9 : (3 :: fieldsB [x0, x1, x2]).length = 1 + q := by rw [List.length_cons, FQ.out]; omega
              rw [h9]
              exact R446.out
            go_wp2_with fail
            go_ret
            exact ⟨va443, rfl, FIN.out, B444.out⟩
      · skip
        go_simp
        have B447 : Hid (Below w.heap.size w (((wa393).alloc (.cells #[.string x0, .string x1, .string x2] 9)))) := B394.out.alloc B394.out.size _
        have X448 : Hid (Box (((wa393).alloc (.cells #[.string x0, .string x1, .string x2] 9))) w.heap.size [.string x0, .string x1, .string x2, .bool true, .bool true]) := Box.old (w := wa393) X395.out _
        have Q449 : Hid (Src (((wa393).alloc (.cells #[.string x0, .string x1, .string x2] 9))) (some ⟨wa393.heap.size, 0, none⟩) (cellsS [x0, x1, x2])) := src_3S (w := wa393) (by simp)
        clear e0 e1 e2 e3 e4
        obtain ⟨e0, _⟩ := X448.out 0 _ rfl
        obtain ⟨e1, _⟩ := X448.out 1 _ rfl
        obtain ⟨e2, _⟩ := X448.out 2 _ rfl
        obtain ⟨e3, _⟩ := X448.out 3 _ rfl
        obtain ⟨e4, _⟩ := X448.out 4 _ rfl
        refine hK _ _ ⟨e0, e1, e2, e3, e4⟩ (fun hHeld => ?_)
        clear hK K
        refine wpAnyH_ready (rs := [5]) (by kernel_rfl) (by simp) ?_
        refine AllReadyH.cons rfl (fun K hK => ?_) AllReadyH.nil
        go_simp
        refine (bitIs true (((wa393).alloc (.cells #[.string x0, .string x1, .string x2] 9)))).mono ?_
        rintro e wa450 ⟨rfl, hb450⟩
        dsimp only
        have B451 : Hid (Below w.heap.size w (wa450)) := (B447.out).trans (hb450.mono (B447.out).size)
        have X452 : Hid (Box (wa450) w.heap.size [.string x0, .string x1, .string x2, .bool true, .bool true]) := Box.below (w := ((wa393).alloc (.cells #[.string x0, .string x1, .string x2] 9))) X448.out hb450
        have Q453 : Hid (Src (wa450) (some ⟨wa393.heap.size, 0, none⟩) (cellsS [x0, x1, x2])) := Src.below (w := ((wa393).alloc (.cells #[.string x0, .string x1, .string x2] 9))) Q449.out hb450
        clear hb450
        clear e0 e1 e2 e3 e4
        obtain ⟨e0, _⟩ := X452.out 0 _ rfl
        obtain ⟨e1, _⟩ := X452.out 1 _ rfl
        obtain ⟨e2, _⟩ := X452.out 2 _ rfl
        obtain ⟨e3, _⟩ := X452.out 3 _ rfl
        obtain ⟨e4, _⟩ := X452.out 4 _ rfl
        refine hK _ _ ⟨e0, e1, e2, e3, e4⟩ (fun hHeld => ?_)
        clear hK K
        refine wpAnyH_take (i := 6) (v := .int .i64 2) rfl (by kernel_rfl) (by kernel_rfl) (by kernel_rfl) (fun _ _ _ h => h) (Or.inl ⟨by kernel_rfl, ?_⟩) hHeld ?_
        · intro w9 hSw
          obtain ⟨s0, s1, s2, s3, s4⟩ := hSw
          go_simp
          first | rfl | decide
        simp only [Act.put, List.setIfInBounds_toArray, List.set_cons_zero, List.set_cons_succ]
        refine wpAnyH_take (i := 7) (v := .int .i64 3) rfl (by kernel_rfl) (by kernel_rfl) (by kernel_rfl) (fun _ _ _ h => h) (Or.inl ⟨by kernel_rfl, ?_⟩) hHeld ?_
        · intro w9 hSw
          obtain ⟨s0, s1, s2, s3, s4⟩ := hSw
          go_simp
          first | rfl | decide
        simp only [Act.put, List.setIfInBounds_toArray, List.set_cons_zero, List.set_cons_succ]
        refine wpAnyH_take (i := 8) (v := .int .u8 3) rfl (by kernel_rfl) (by kernel_rfl) (by kernel_rfl) (fun _ _ _ h => h) (Or.inl ⟨by kernel_rfl, ?_⟩) hHeld ?_
        · intro w9 hSw
          obtain ⟨s0, s1, s2, s3, s4⟩ := hSw
          go_simp
          first | rfl | decide
        simp only [Act.put, List.setIfInBounds_toArray, List.set_cons_zero, List.set_cons_succ]
        refine wpAnyH_ready (rs := [9, 17]) (by kernel_rfl) (by simp) ?_
        refine AllReadyH.cons rfl (fun K hK => ?_) (AllReadyH.cons rfl (fun K hK => ?_) AllReadyH.nil)
        · skip
          go_simp
          have B454 : Hid (Below w.heap.size w (((wa450).alloc (.cells #[.int .u8 3] 5)))) := B451.out.alloc B451.out.size _
          have X455 : Hid (Box (((wa450).alloc (.cells #[.int .u8 3] 5))) w.heap.size [.string x0, .string x1, .string x2, .bool true, .bool true]) := Box.old (w := wa450) X452.out _
          have Q456 : Hid (Src (((wa450).alloc (.cells #[.int .u8 3] 5))) (some ⟨wa393.heap.size, 0, none⟩) (cellsS [x0, x1, x2])) := Src.below (w := wa450) Q453.out (((Below.refl _ (wa450)).alloc (Nat.le_refl _) (.cells #[.int .u8 3] 5)))
          have N457 : Hid (World.ownsRow (((wa450).alloc (.cells #[.int .u8 3] 5))) (w.heap.size + 1) 5 1 (.slice (some ⟨wa450.heap.size, 0, none⟩) 1 1) 1 (cellsB [3])) := ownB_at (w := wa450) [3] (by simp) (show w.heap.size + 1 ≤ _ from World.block_lt_of_cell? _ _ (X452.out 0 _ rfl).1) rfl rfl (by decide)
          clear e0 e1 e2 e3 e4
          obtain ⟨e0, _⟩ := X455.out 0 _ rfl
          obtain ⟨e1, _⟩ := X455.out 1 _ rfl
          obtain ⟨e2, _⟩ := X455.out 2 _ rfl
          obtain ⟨e3, _⟩ := X455.out 3 _ rfl
          obtain ⟨e4, _⟩ := X455.out 4 _ rfl
          refine hK _ _ ⟨e0, e1, e2, e3, e4⟩ (fun hHeld => ?_)
          clear hK K
          refine wpAnyH_ready (rs := [17]) (by kernel_rfl) (by simp) ?_
          refine AllReadyH.cons rfl (fun K hK => ?_) AllReadyH.nil
          go_simp
          refine (l01Fields (some ⟨wa393.heap.size, 0, none⟩) 3 3 [x0, x1, x2] (((wa450).alloc (.cells #[.int .u8 3] 5))) rfl (by omega) FL.out Q456.out).mono ?_
          rintro e wa458 ⟨va458, rfl, o458, hb458⟩
          dsimp only
          rw [FQ.out] at o458
          obtain ⟨g458, c458, rfl, _, s458⟩ := own_some o458 (by omega)
          have B459 : Hid (Below w.heap.size w (wa458)) := (B454.out).trans (hb458.mono (B454.out).size)
          have X460 : Hid (Box (wa458) w.heap.size [.string x0, .string x1, .string x2, .bool true, .bool true]) := Box.below (w := ((wa450).alloc (.cells #[.int .u8 3] 5))) X455.out hb458
          have Q461 : Hid (Src (wa458) (some ⟨wa393.heap.size, 0, none⟩) (cellsS [x0, x1, x2])) := Src.below (w := ((wa450).alloc (.cells #[.int .u8 3] 5))) Q456.out hb458
          have N462 : Hid (World.ownsRow (wa458) (w.heap.size + 1) 5 1 (.slice (some ⟨wa450.heap.size, 0, none⟩) 1 1) 1 (cellsB [3])) := own_below (w := ((wa450).alloc (.cells #[.int .u8 3] 5))) N457.out hb458
          have P463 : Hid (Src (wa458) (some ⟨g458, 0, none⟩) (cellsB (fieldsB [x0, x1, x2]))) := s458
          clear o458 hb458 s458
          clear e0 e1 e2 e3 e4
          obtain ⟨e0, _⟩ := X460.out 0 _ rfl
          obtain ⟨e1, _⟩ := X460.out 1 _ rfl
          obtain ⟨e2, _⟩ := X460.out 2 _ rfl
          obtain ⟨e3, _⟩ := X460.out 3 _ rfl
          obtain ⟨e4, _⟩ := X460.out 4 _ rfl
          refine hK _ _ ⟨e0, e1, e2, e3, e4⟩ (fun hHeld => ?_)
          clear hK K
          refine wpAnyH_ready (rs := [18]) (by kernel_rfl) (by simp) ?_
          refine AllReadyH.cons rfl (fun K hK => ?_) AllReadyH.nil
          refine step_append_src rfl (.tmp 12) (.tmp 20) 55 rfl (w.heap.size + 1) 5 (.int .u8 0) 1 1 Tryz.underlying55 infoB rfl (by decide) (by decide) (.slice (some ⟨wa450.heap.size, 0, none⟩) 1 1) 1 (cellsB [3]) (by rfl) N462.out ⟨g458, 0, none⟩ q c458 (cellsB (fieldsB [x0, x1, x2])) (by rfl) (by rw [cellsB_length, FQ.out]; omega) P463.out (cellsB_one _) (by omega) (by omega) (show w.heap.size + 1 ≤ _ from World.block_lt_of_cell? _ _ (X460.out 0 _ rfl).1) ?_
          intro va464 wa464 hown464 hgrow464 _
          have B465 : Hid (Below w.heap.size w (wa464)) := (B459.out).grown hgrow464 (B459.out).size (fun g e => by have h9 := (N462.out.lt g e).1; omega)
          have X466 : Hid (Box (wa464) w.heap.size [.string x0, .string x1, .string x2, .bool true, .bool true]) := Box.grown X460.out hgrow464 (fun e => by have h9 := (N462.out.lt _ e).1; omega)
          have R467 : Hid (World.ownsRow (wa464) (w.heap.size + 1) 5 1 (va464) (1 + q) (cellsB ([3] ++ fieldsB [x0, x1, x2]))) := by rw [cellsB_append]; exact hown464
          clear hown464 hgrow464
          clear e0 e1 e2 e3 e4
          obtain ⟨e0, _⟩ := X466.out 0 _ rfl
          obtain ⟨e1, _⟩ := X466.out 1 _ rfl
          obtain ⟨e2, _⟩ := X466.out 2 _ rfl
          obtain ⟨e3, _⟩ := X466.out 3 _ rfl
          obtain ⟨e4, _⟩ := X466.out 4 _ rfl
          refine hK _ _ ⟨e0, e1, e2, e3, e4⟩ (fun hHeld => ?_)
          clear hK K
          refine wpAnyH_ready (rs := [19]) (by kernel_rfl) (by simp) ?_
          refine AllReadyH.cons rfl (fun K hK => ?_) AllReadyH.nil
          go_simp
          clear e0 e1 e2 e3 e4
          obtain ⟨e0, _⟩ := X466.out 0 _ rfl
          obtain ⟨e1, _⟩ := X466.out 1 _ rfl
          obtain ⟨e2, _⟩ := X466.out 2 _ rfl
          obtain ⟨e3, _⟩ := X466.out 3 _ rfl
          obtain ⟨e4, _⟩ := X466.out 4 _ rfl
          refine hK _ _ ⟨e0, e1, e2, e3, e4⟩ (fun hHeld => ?_)
          clear hK K
          refine wpAnyH_done (by kernel_rfl) ?_ _
          refine NoPanic.normal ?_
          clear e0 e1 e2 e3 e4
          clear hHeld
          have FIN : Hid ((wa464).ownsRow (w.heap.size + 1) 5 1 va464 (partB (x0, x1, x2, true, true)).length (cellsB (partB (x0, x1, x2, true, true)))) := by
            rw [LQ.out true true, show kindN (x0, x1, x2, true, true) = 3 from rfl]
            have h9 : (3 :: fieldsB [x0, x1, x2]).length = 1 + q := by rw [List.length_cons, FQ.out]; omega
            rw [h9]
            exact R467.out
          go_wp2_with fail
          go_ret
          exact ⟨va464, rfl, FIN.out, B465.out⟩
        · skip
          go_simp
          refine (l01Fields (some ⟨wa393.heap.size, 0, none⟩) 3 3 [x0, x1, x2] (wa450) rfl (by omega) FL.out Q453.out).mono ?_
          rintro e wa468 ⟨va468, rfl, o468, hb468⟩
          dsimp only
          rw [FQ.out] at o468
          obtain ⟨g468, c468, rfl, _, s468⟩ := own_some o468 (by omega)
          have B469 : Hid (Below w.heap.size w (wa468)) := (B451.out).trans (hb468.mono (B451.out).size)
          have X470 : Hid (Box (wa468) w.heap.size [.string x0, .string x1, .string x2, .bool true, .bool true]) := Box.below (w := wa450) X452.out hb468
          have Q471 : Hid (Src (wa468) (some ⟨wa393.heap.size, 0, none⟩) (cellsS [x0, x1, x2])) := Src.below (w := wa450) Q453.out hb468
          have P472 : Hid (Src (wa468) (some ⟨g468, 0, none⟩) (cellsB (fieldsB [x0, x1, x2]))) := s468
          clear o468 hb468 s468
          clear e0 e1 e2 e3 e4
          obtain ⟨e0, _⟩ := X470.out 0 _ rfl
          obtain ⟨e1, _⟩ := X470.out 1 _ rfl
          obtain ⟨e2, _⟩ := X470.out 2 _ rfl
          obtain ⟨e3, _⟩ := X470.out 3 _ rfl
          obtain ⟨e4, _⟩ := X470.out 4 _ rfl
          refine hK _ _ ⟨e0, e1, e2, e3, e4⟩ (fun hHeld => ?_)
          clear hK K
          refine wpAnyH_ready (rs := [9]) (by kernel_rfl) (by simp) ?_
          refine AllReadyH.cons rfl (fun K hK => ?_) AllReadyH.nil
          go_simp
          have B473 : Hid (Below w.heap.size w (((wa468).alloc (.cells #[.int .u8 3] 5)))) := B469.out.alloc B469.out.size _
          have X474 : Hid (Box (((wa468).alloc (.cells #[.int .u8 3] 5))) w.heap.size [.string x0, .string x1, .string x2, .bool true, .bool true]) := Box.old (w := wa468) X470.out _
          have Q475 : Hid (Src (((wa468).alloc (.cells #[.int .u8 3] 5))) (some ⟨wa393.heap.size, 0, none⟩) (cellsS [x0, x1, x2])) := Src.below (w := wa468) Q471.out (((Below.refl _ (wa468)).alloc (Nat.le_refl _) (.cells #[.int .u8 3] 5)))
          have P476 : Hid (Src (((wa468).alloc (.cells #[.int .u8 3] 5))) (some ⟨g468, 0, none⟩) (cellsB (fieldsB [x0, x1, x2]))) := Src.below (w := wa468) P472.out (((Below.refl _ (wa468)).alloc (Nat.le_refl _) (.cells #[.int .u8 3] 5)))
          have N477 : Hid (World.ownsRow (((wa468).alloc (.cells #[.int .u8 3] 5))) (w.heap.size + 1) 5 1 (.slice (some ⟨wa468.heap.size, 0, none⟩) 1 1) 1 (cellsB [3])) := ownB_at (w := wa468) [3] (by simp) (show w.heap.size + 1 ≤ _ from World.block_lt_of_cell? _ _ (X470.out 0 _ rfl).1) rfl rfl (by decide)
          clear e0 e1 e2 e3 e4
          obtain ⟨e0, _⟩ := X474.out 0 _ rfl
          obtain ⟨e1, _⟩ := X474.out 1 _ rfl
          obtain ⟨e2, _⟩ := X474.out 2 _ rfl
          obtain ⟨e3, _⟩ := X474.out 3 _ rfl
          obtain ⟨e4, _⟩ := X474.out 4 _ rfl
          refine hK _ _ ⟨e0, e1, e2, e3, e4⟩ (fun hHeld => ?_)
          clear hK K
          refine wpAnyH_ready (rs := [18]) (by kernel_rfl) (by simp) ?_
          refine AllReadyH.cons rfl (fun K hK => ?_) AllReadyH.nil
          refine step_append_src rfl (.tmp 12) (.tmp 20) 55 rfl (w.heap.size + 1) 5 (.int .u8 0) 1 1 Tryz.underlying55 infoB rfl (by decide) (by decide) (.slice (some ⟨wa468.heap.size, 0, none⟩) 1 1) 1 (cellsB [3]) (by rfl) N477.out ⟨g468, 0, none⟩ q c468 (cellsB (fieldsB [x0, x1, x2])) (by rfl) (by rw [cellsB_length, FQ.out]; omega) P476.out (cellsB_one _) (by omega) (by omega) (show w.heap.size + 1 ≤ _ from World.block_lt_of_cell? _ _ (X474.out 0 _ rfl).1) ?_
          intro va478 wa478 hown478 hgrow478 _
          have B479 : Hid (Below w.heap.size w (wa478)) := (B473.out).grown hgrow478 (B473.out).size (fun g e => by have h9 := (N477.out.lt g e).1; omega)
          have X480 : Hid (Box (wa478) w.heap.size [.string x0, .string x1, .string x2, .bool true, .bool true]) := Box.grown X474.out hgrow478 (fun e => by have h9 := (N477.out.lt _ e).1; omega)
          have R481 : Hid (World.ownsRow (wa478) (w.heap.size + 1) 5 1 (va478) (1 + q) (cellsB ([3] ++ fieldsB [x0, x1, x2]))) := by rw [cellsB_append]; exact hown478
          clear hown478 hgrow478
          clear e0 e1 e2 e3 e4
          obtain ⟨e0, _⟩ := X480.out 0 _ rfl
          obtain ⟨e1, _⟩ := X480.out 1 _ rfl
          obtain ⟨e2, _⟩ := X480.out 2 _ rfl
          obtain ⟨e3, _⟩ := X480.out 3 _ rfl
          obtain ⟨e4, _⟩ := X480.out 4 _ rfl
          refine hK _ _ ⟨e0, e1, e2, e3, e4⟩ (fun hHeld => ?_)
          clear hK K
          refine wpAnyH_ready (rs := [19]) (by kernel_rfl) (by simp) ?_
          refine AllReadyH.cons rfl (fun K hK => ?_) AllReadyH.nil
          go_simp
          clear e0 e1 e2 e3 e4
          obtain ⟨e0, _⟩ := X480.out 0 _ rfl
          obtain ⟨e1, _⟩ := X480.out 1 _ rfl
          obtain ⟨e2, _⟩ := X480.out 2 _ rfl
          obtain ⟨e3, _⟩ := X480.out 3 _ rfl
          obtain ⟨e4, _⟩ := X480.out 4 _ rfl
          refine hK _ _ ⟨e0, e1, e2, e3, e4⟩ (fun hHeld => ?_)
          clear hK K
          refine wpAnyH_done (by kernel_rfl) ?_ _
          refine NoPanic.normal ?_
          clear e0 e1 e2 e3 e4
          clear hHeld
          have FIN : Hid ((wa478).ownsRow (w.heap.size + 1) 5 1 va478 (partB (x0, x1, x2, true, true)).length (cellsB (partB (x0, x1, x2, true, true)))) := by
            rw [LQ.out true true, show kindN (x0, x1, x2, true, true) = 3 from rfl]
            have h9 : (3 :: fieldsB [x0, x1, x2]).length = 1 + q := by rw [List.length_cons, FQ.out]; omega
            rw [h9]
            exact R481.out
          go_wp2_with fail
          go_ret
          exact ⟨va478, rfl, FIN.out, B479.out⟩
    · skip
      go_simp
      have B482 : Hid (Below w.heap.size w (((w.alloc (.cells #[.string x0, .string x1, .string x2, .bool true, .bool true] 108)).alloc (.cells #[.string x0, .string x1, .string x2] 9)))) := B391.out.alloc B391.out.size _
      have X483 : Hid (Box ((((w.alloc (.cells #[.string x0, .string x1, .string x2, .bool true, .bool true] 108)).alloc (.cells #[.string x0, .string x1, .string x2] 9))).drew) w.heap.size [.string x0, .string x1, .string x2, .bool true, .bool true]) := Box.old (w := w.alloc (.cells #[.string x0, .string x1, .string x2, .bool true, .bool true] 108)) X392.out _
      have Q484 : Hid (Src ((((w.alloc (.cells #[.string x0, .string x1, .string x2, .bool true, .bool true] 108)).alloc (.cells #[.string x0, .string x1, .string x2] 9))).drew) (some ⟨w.heap.size + 1, 0, none⟩) (cellsS [x0, x1, x2])) := src_3S (w := w.alloc (.cells #[.string x0, .string x1, .string x2, .bool true, .bool true] 108)) (by simp)
      clear e0 e1 e2 e3 e4
      obtain ⟨e0, _⟩ := X483.out 0 _ rfl
      obtain ⟨e1, _⟩ := X483.out 1 _ rfl
      obtain ⟨e2, _⟩ := X483.out 2 _ rfl
      obtain ⟨e3, _⟩ := X483.out 3 _ rfl
      obtain ⟨e4, _⟩ := X483.out 4 _ rfl
      refine hK _ _ ⟨e0, e1, e2, e3, e4⟩ (fun hHeld => ?_)
      clear hK K
      refine wpAnyH_ready (rs := [2]) (by kernel_rfl) (by simp) ?_
      refine AllReadyH.cons rfl (fun K hK => ?_) AllReadyH.nil
      go_simp
      refine (bitIs true ((((w.alloc (.cells #[.string x0, .string x1, .string x2, .bool true, .bool true] 108)).alloc (.cells #[.string x0, .string x1, .string x2] 9))).drew)).mono ?_
      rintro e wa485 ⟨rfl, hb485⟩
      dsimp only
      have B486 : Hid (Below w.heap.size w (wa485)) := (B482.out.drew).trans (hb485.mono (B482.out.drew).size)
      have X487 : Hid (Box (wa485) w.heap.size [.string x0, .string x1, .string x2, .bool true, .bool true]) := Box.below (w := (((w.alloc (.cells #[.string x0, .string x1, .string x2, .bool true, .bool true] 108)).alloc (.cells #[.string x0, .string x1, .string x2] 9))).drew) X483.out hb485
      have Q488 : Hid (Src (wa485) (some ⟨w.heap.size + 1, 0, none⟩) (cellsS [x0, x1, x2])) := Src.below (w := (((w.alloc (.cells #[.string x0, .string x1, .string x2, .bool true, .bool true] 108)).alloc (.cells #[.string x0, .string x1, .string x2] 9))).drew) Q484.out hb485
      clear hb485
      clear e0 e1 e2 e3 e4
      obtain ⟨e0, _⟩ := X487.out 0 _ rfl
      obtain ⟨e1, _⟩ := X487.out 1 _ rfl
      obtain ⟨e2, _⟩ := X487.out 2 _ rfl
      obtain ⟨e3, _⟩ := X487.out 3 _ rfl
      obtain ⟨e4, _⟩ := X487.out 4 _ rfl
      refine hK _ _ ⟨e0, e1, e2, e3, e4⟩ (fun hHeld => ?_)
      clear hK K
      refine wpAnyH_ready (rs := [5]) (by kernel_rfl) (by simp) ?_
      refine AllReadyH.cons rfl (fun K hK => ?_) AllReadyH.nil
      go_simp
      refine (bitIs true (wa485)).mono ?_
      rintro e wa489 ⟨rfl, hb489⟩
      dsimp only
      have B490 : Hid (Below w.heap.size w (wa489)) := (B486.out).trans (hb489.mono (B486.out).size)
      have X491 : Hid (Box (wa489) w.heap.size [.string x0, .string x1, .string x2, .bool true, .bool true]) := Box.below (w := wa485) X487.out hb489
      have Q492 : Hid (Src (wa489) (some ⟨w.heap.size + 1, 0, none⟩) (cellsS [x0, x1, x2])) := Src.below (w := wa485) Q488.out hb489
      clear hb489
      clear e0 e1 e2 e3 e4
      obtain ⟨e0, _⟩ := X491.out 0 _ rfl
      obtain ⟨e1, _⟩ := X491.out 1 _ rfl
      obtain ⟨e2, _⟩ := X491.out 2 _ rfl
      obtain ⟨e3, _⟩ := X491.out 3 _ rfl
      obtain ⟨e4, _⟩ := X491.out 4 _ rfl
      refine hK _ _ ⟨e0, e1, e2, e3, e4⟩ (fun hHeld => ?_)
      clear hK K
      refine wpAnyH_take (i := 6) (v := .int .i64 2) rfl (by kernel_rfl) (by kernel_rfl) (by kernel_rfl) (fun _ _ _ h => h) (Or.inl ⟨by kernel_rfl, ?_⟩) hHeld ?_
      · intro w9 hSw
        obtain ⟨s0, s1, s2, s3, s4⟩ := hSw
        go_simp
        first | rfl | decide
      simp only [Act.put, List.setIfInBounds_toArray, List.set_cons_zero, List.set_cons_succ]
      refine wpAnyH_take (i := 7) (v := .int .i64 3) rfl (by kernel_rfl) (by kernel_rfl) (by kernel_rfl) (fun _ _ _ h => h) (Or.inl ⟨by kernel_rfl, ?_⟩) hHeld ?_
      · intro w9 hSw
        obtain ⟨s0, s1, s2, s3, s4⟩ := hSw
        go_simp
        first | rfl | decide
      simp only [Act.put, List.setIfInBounds_toArray, List.set_cons_zero, List.set_cons_succ]
      refine wpAnyH_take (i := 8) (v := .int .u8 3) rfl (by kernel_rfl) (by kernel_rfl) (by kernel_rfl) (fun _ _ _ h => h) (Or.inl ⟨by kernel_rfl, ?_⟩) hHeld ?_
      · intro w9 hSw
        obtain ⟨s0, s1, s2, s3, s4⟩ := hSw
        go_simp
        first | rfl | decide
      simp only [Act.put, List.setIfInBounds_toArray, List.set_cons_zero, List.set_cons_succ]
      refine wpAnyH_ready (rs := [9, 17]) (by kernel_rfl) (by simp) ?_
      refine AllReadyH.cons rfl (fun K hK => ?_) (AllReadyH.cons rfl (fun K hK => ?_) AllReadyH.nil)
      · skip
        go_simp
        have B493 : Hid (Below w.heap.size w (((wa489).alloc (.cells #[.int .u8 3] 5)))) := B490.out.alloc B490.out.size _
        have X494 : Hid (Box (((wa489).alloc (.cells #[.int .u8 3] 5))) w.heap.size [.string x0, .string x1, .string x2, .bool true, .bool true]) := Box.old (w := wa489) X491.out _
        have Q495 : Hid (Src (((wa489).alloc (.cells #[.int .u8 3] 5))) (some ⟨w.heap.size + 1, 0, none⟩) (cellsS [x0, x1, x2])) := Src.below (w := wa489) Q492.out (((Below.refl _ (wa489)).alloc (Nat.le_refl _) (.cells #[.int .u8 3] 5)))
        have N496 : Hid (World.ownsRow (((wa489).alloc (.cells #[.int .u8 3] 5))) (w.heap.size + 1) 5 1 (.slice (some ⟨wa489.heap.size, 0, none⟩) 1 1) 1 (cellsB [3])) := ownB_at (w := wa489) [3] (by simp) (show w.heap.size + 1 ≤ _ from World.block_lt_of_cell? _ _ (X491.out 0 _ rfl).1) rfl rfl (by decide)
        clear e0 e1 e2 e3 e4
        obtain ⟨e0, _⟩ := X494.out 0 _ rfl
        obtain ⟨e1, _⟩ := X494.out 1 _ rfl
        obtain ⟨e2, _⟩ := X494.out 2 _ rfl
        obtain ⟨e3, _⟩ := X494.out 3 _ rfl
        obtain ⟨e4, _⟩ := X494.out 4 _ rfl
        refine hK _ _ ⟨e0, e1, e2, e3, e4⟩ (fun hHeld => ?_)
        clear hK K
        refine wpAnyH_ready (rs := [17]) (by kernel_rfl) (by simp) ?_
        refine AllReadyH.cons rfl (fun K hK => ?_) AllReadyH.nil
        go_simp
        refine (l01Fields (some ⟨w.heap.size + 1, 0, none⟩) 3 3 [x0, x1, x2] (((wa489).alloc (.cells #[.int .u8 3] 5))) rfl (by omega) FL.out Q495.out).mono ?_
        rintro e wa497 ⟨va497, rfl, o497, hb497⟩
        dsimp only
        rw [FQ.out] at o497
        obtain ⟨g497, c497, rfl, _, s497⟩ := own_some o497 (by omega)
        have B498 : Hid (Below w.heap.size w (wa497)) := (B493.out).trans (hb497.mono (B493.out).size)
        have X499 : Hid (Box (wa497) w.heap.size [.string x0, .string x1, .string x2, .bool true, .bool true]) := Box.below (w := ((wa489).alloc (.cells #[.int .u8 3] 5))) X494.out hb497
        have Q500 : Hid (Src (wa497) (some ⟨w.heap.size + 1, 0, none⟩) (cellsS [x0, x1, x2])) := Src.below (w := ((wa489).alloc (.cells #[.int .u8 3] 5))) Q495.out hb497
        have N501 : Hid (World.ownsRow (wa497) (w.heap.size + 1) 5 1 (.slice (some ⟨wa489.heap.size, 0, none⟩) 1 1) 1 (cellsB [3])) := own_below (w := ((wa489).alloc (.cells #[.int .u8 3] 5))) N496.out hb497
        have P502 : Hid (Src (wa497) (some ⟨g497, 0, none⟩) (cellsB (fieldsB [x0, x1, x2]))) := s497
        clear o497 hb497 s497
        clear e0 e1 e2 e3 e4
        obtain ⟨e0, _⟩ := X499.out 0 _ rfl
        obtain ⟨e1, _⟩ := X499.out 1 _ rfl
        obtain ⟨e2, _⟩ := X499.out 2 _ rfl
        obtain ⟨e3, _⟩ := X499.out 3 _ rfl
        obtain ⟨e4, _⟩ := X499.out 4 _ rfl
        refine hK _ _ ⟨e0, e1, e2, e3, e4⟩ (fun hHeld => ?_)
        clear hK K
        refine wpAnyH_ready (rs := [18]) (by kernel_rfl) (by simp) ?_
        refine AllReadyH.cons rfl (fun K hK => ?_) AllReadyH.nil
        refine step_append_src rfl (.tmp 12) (.tmp 20) 55 rfl (w.heap.size + 1) 5 (.int .u8 0) 1 1 Tryz.underlying55 infoB rfl (by decide) (by decide) (.slice (some ⟨wa489.heap.size, 0, none⟩) 1 1) 1 (cellsB [3]) (by rfl) N501.out ⟨g497, 0, none⟩ q c497 (cellsB (fieldsB [x0, x1, x2])) (by rfl) (by rw [cellsB_length, FQ.out]; omega) P502.out (cellsB_one _) (by omega) (by omega) (show w.heap.size + 1 ≤ _ from World.block_lt_of_cell? _ _ (X499.out 0 _ rfl).1) ?_
        intro va503 wa503 hown503 hgrow503 _
        have B504 : Hid (Below w.heap.size w (wa503)) := (B498.out).grown hgrow503 (B498.out).size (fun g e => by have h9 := (N501.out.lt g e).1; omega)
        have X505 : Hid (Box (wa503) w.heap.size [.string x0, .string x1, .string x2, .bool true, .bool true]) := Box.grown X499.out hgrow503 (fun e => by have h9 := (N501.out.lt _ e).1; omega)
        have R506 : Hid (World.ownsRow (wa503) (w.heap.size + 1) 5 1 (va503) (1 + q) (cellsB ([3] ++ fieldsB [x0, x1, x2]))) := by rw [cellsB_append]; exact hown503
        clear hown503 hgrow503
        clear e0 e1 e2 e3 e4
        obtain ⟨e0, _⟩ := X505.out 0 _ rfl
        obtain ⟨e1, _⟩ := X505.out 1 _ rfl
        obtain ⟨e2, _⟩ := X505.out 2 _ rfl
        obtain ⟨e3, _⟩ := X505.out 3 _ rfl
        obtain ⟨e4, _⟩ := X505.out 4 _ rfl
        refine hK _ _ ⟨e0, e1, e2, e3, e4⟩ (fun hHeld => ?_)
        clear hK K
        refine wpAnyH_ready (rs := [19]) (by kernel_rfl) (by simp) ?_
        refine AllReadyH.cons rfl (fun K hK => ?_) AllReadyH.nil
        go_simp
        clear e0 e1 e2 e3 e4
        obtain ⟨e0, _⟩ := X505.out 0 _ rfl
        obtain ⟨e1, _⟩ := X505.out 1 _ rfl
        obtain ⟨e2, _⟩ := X505.out 2 _ rfl
        obtain ⟨e3, _⟩ := X505.out 3 _ rfl
        obtain ⟨e4, _⟩ := X505.out 4 _ rfl
        refine hK _ _ ⟨e0, e1, e2, e3, e4⟩ (fun hHeld => ?_)
        clear hK K
        refine wpAnyH_done (by kernel_rfl) ?_ _
        refine NoPanic.normal ?_
        clear e0 e1 e2 e3 e4
        clear hHeld
        have FIN : Hid ((wa503).ownsRow (w.heap.size + 1) 5 1 va503 (partB (x0, x1, x2, true, true)).length (cellsB (partB (x0, x1, x2, true, true)))) := by
          rw [LQ.out true true, show kindN (x0, x1, x2, true, true) = 3 from rfl]
          have h9 : (3 :: fieldsB [x0, x1, x2]).length = 1 + q := by rw [List.length_cons, FQ.out]; omega
          rw [h9]
          exact R506.out
        go_wp2_with fail
        go_ret
        exact ⟨va503, rfl, FIN.out, B504.out⟩
      · skip
        go_simp
        refine (l01Fields (some ⟨w.heap.size + 1, 0, none⟩) 3 3 [x0, x1, x2] (wa489) rfl (by omega) FL.out Q492.out).mono ?_
        rintro e wa507 ⟨va507, rfl, o507, hb507⟩
        dsimp only
        rw [FQ.out] at o507
        obtain ⟨g507, c507, rfl, _, s507⟩ := own_some o507 (by omega)
        have B508 : Hid (Below w.heap.size w (wa507)) := (B490.out).trans (hb507.mono (B490.out).size)
        have X509 : Hid (Box (wa507) w.heap.size [.string x0, .string x1, .string x2, .bool true, .bool true]) := Box.below (w := wa489) X491.out hb507
        have Q510 : Hid (Src (wa507) (some ⟨w.heap.size + 1, 0, none⟩) (cellsS [x0, x1, x2])) := Src.below (w := wa489) Q492.out hb507
        have P511 : Hid (Src (wa507) (some ⟨g507, 0, none⟩) (cellsB (fieldsB [x0, x1, x2]))) := s507
        clear o507 hb507 s507
        clear e0 e1 e2 e3 e4
        obtain ⟨e0, _⟩ := X509.out 0 _ rfl
        obtain ⟨e1, _⟩ := X509.out 1 _ rfl
        obtain ⟨e2, _⟩ := X509.out 2 _ rfl
        obtain ⟨e3, _⟩ := X509.out 3 _ rfl
        obtain ⟨e4, _⟩ := X509.out 4 _ rfl
        refine hK _ _ ⟨e0, e1, e2, e3, e4⟩ (fun hHeld => ?_)
        clear hK K
        refine wpAnyH_ready (rs := [9]) (by kernel_rfl) (by simp) ?_
        refine AllReadyH.cons rfl (fun K hK => ?_) AllReadyH.nil
        go_simp
        have B512 : Hid (Below w.heap.size w (((wa507).alloc (.cells #[.int .u8 3] 5)))) := B508.out.alloc B508.out.size _
        have X513 : Hid (Box (((wa507).alloc (.cells #[.int .u8 3] 5))) w.heap.size [.string x0, .string x1, .string x2, .bool true, .bool true]) := Box.old (w := wa507) X509.out _
        have Q514 : Hid (Src (((wa507).alloc (.cells #[.int .u8 3] 5))) (some ⟨w.heap.size + 1, 0, none⟩) (cellsS [x0, x1, x2])) := Src.below (w := wa507) Q510.out (((Below.refl _ (wa507)).alloc (Nat.le_refl _) (.cells #[.int .u8 3] 5)))
        have P515 : Hid (Src (((wa507).alloc (.cells #[.int .u8 3] 5))) (some ⟨g507, 0, none⟩) (cellsB (fieldsB [x0, x1, x2]))) := Src.below (w := wa507) P511.out (((Below.refl _ (wa507)).alloc (Nat.le_refl _) (.cells #[.int .u8 3] 5)))
        have N516 : Hid (World.ownsRow (((wa507).alloc (.cells #[.int .u8 3] 5))) (w.heap.size + 1) 5 1 (.slice (some ⟨wa507.heap.size, 0, none⟩) 1 1) 1 (cellsB [3])) := ownB_at (w := wa507) [3] (by simp) (show w.heap.size + 1 ≤ _ from World.block_lt_of_cell? _ _ (X509.out 0 _ rfl).1) rfl rfl (by decide)
        clear e0 e1 e2 e3 e4
        obtain ⟨e0, _⟩ := X513.out 0 _ rfl
        obtain ⟨e1, _⟩ := X513.out 1 _ rfl
        obtain ⟨e2, _⟩ := X513.out 2 _ rfl
        obtain ⟨e3, _⟩ := X513.out 3 _ rfl
        obtain ⟨e4, _⟩ := X513.out 4 _ rfl
        refine hK _ _ ⟨e0, e1, e2, e3, e4⟩ (fun hHeld => ?_)
        clear hK K
        refine wpAnyH_ready (rs := [18]) (by kernel_rfl) (by simp) ?_
        refine AllReadyH.cons rfl (fun K hK => ?_) AllReadyH.nil
        refine step_append_src rfl (.tmp 12) (.tmp 20) 55 rfl (w.heap.size + 1) 5 (.int .u8 0) 1 1 Tryz.underlying55 infoB rfl (by decide) (by decide) (.slice (some ⟨wa507.heap.size, 0, none⟩) 1 1) 1 (cellsB [3]) (by rfl) N516.out ⟨g507, 0, none⟩ q c507 (cellsB (fieldsB [x0, x1, x2])) (by rfl) (by rw [cellsB_length, FQ.out]; omega) P515.out (cellsB_one _) (by omega) (by omega) (show w.heap.size + 1 ≤ _ from World.block_lt_of_cell? _ _ (X513.out 0 _ rfl).1) ?_
        intro va517 wa517 hown517 hgrow517 _
        have B518 : Hid (Below w.heap.size w (wa517)) := (B512.out).grown hgrow517 (B512.out).size (fun g e => by have h9 := (N516.out.lt g e).1; omega)
        have X519 : Hid (Box (wa517) w.heap.size [.string x0, .string x1, .string x2, .bool true, .bool true]) := Box.grown X513.out hgrow517 (fun e => by have h9 := (N516.out.lt _ e).1; omega)
        have R520 : Hid (World.ownsRow (wa517) (w.heap.size + 1) 5 1 (va517) (1 + q) (cellsB ([3] ++ fieldsB [x0, x1, x2]))) := by rw [cellsB_append]; exact hown517
        clear hown517 hgrow517
        clear e0 e1 e2 e3 e4
        obtain ⟨e0, _⟩ := X519.out 0 _ rfl
        obtain ⟨e1, _⟩ := X519.out 1 _ rfl
        obtain ⟨e2, _⟩ := X519.out 2 _ rfl
        obtain ⟨e3, _⟩ := X519.out 3 _ rfl
        obtain ⟨e4, _⟩ := X519.out 4 _ rfl
        refine hK _ _ ⟨e0, e1, e2, e3, e4⟩ (fun hHeld => ?_)
        clear hK K
        refine wpAnyH_ready (rs := [19]) (by kernel_rfl) (by simp) ?_
        refine AllReadyH.cons rfl (fun K hK => ?_) AllReadyH.nil
        go_simp
        clear e0 e1 e2 e3 e4
        obtain ⟨e0, _⟩ := X519.out 0 _ rfl
        obtain ⟨e1, _⟩ := X519.out 1 _ rfl
        obtain ⟨e2, _⟩ := X519.out 2 _ rfl
        obtain ⟨e3, _⟩ := X519.out 3 _ rfl
        obtain ⟨e4, _⟩ := X519.out 4 _ rfl
        refine hK _ _ ⟨e0, e1, e2, e3, e4⟩ (fun hHeld => ?_)
        clear hK K
        refine wpAnyH_done (by kernel_rfl) ?_ _
        refine NoPanic.normal ?_
        clear e0 e1 e2 e3 e4
        clear hHeld
        have FIN : Hid ((wa517).ownsRow (w.heap.size + 1) 5 1 va517 (partB (x0, x1, x2, true, true)).length (cellsB (partB (x0, x1, x2, true, true)))) := by
          rw [LQ.out true true, show kindN (x0, x1, x2, true, true) = 3 from rfl]
          have h9 : (3 :: fieldsB [x0, x1, x2]).length = 1 + q := by rw [List.length_cons, FQ.out]; omega
          rw [h9]
          exact R520.out
        go_wp2_with fail
        go_ret
        exact ⟨va517, rfl, FIN.out, B518.out⟩
set_option maxHeartbeats 8000000 in
theorem specLink (F T : ByteArray) (cx sx : Nat) (a : Option Addr) (n c : Nat) (M : List MDf) (w : World) (hF : F.size ≤ 8) (hT : T.size ≤ 8) (hc : cx < 4294967296) (hx : sx < 4294967296) (hM : M.length = n) (hn : n ≤ 120) (hs : ∀ p ∈ M, p.1.size ≤ 90 ∧ p.2.1.size ≤ 90 ∧ p.2.2.1.size ≤ 90) (h : Src w a (cellsDf M)) :
    Calls Tryz.prog 51 #[.agg #[.string F, .string T, .int .i64 (cx : Int), .slice a n c, .int .i64 (sx : Int)]] w fun e w' => e = .returned (.int .i64 ((sumL (numQ cx ++ fieldsB [F, T] ++ partsB M ++ numQ sx) : Nat) : Int)) ∧ Below w.heap.size w w' := by
  have HS : Hid (∀ p ∈ M, p.1.size ≤ 90 ∧ p.2.1.size ≤ 90 ∧ p.2.2.1.size ≤ 90) := hs
  have HH : Hid (Src w a (cellsDf M)) := h
  have HM : Hid (M.length = n) := hM
  obtain ⟨hd, hhd⟩ : ∃ x, numQ cx ++ fieldsB [F, T] = x := ⟨_, rfl⟩
  have HD : Hid (numQ cx ++ fieldsB [F, T] = hd) := hhd
  obtain ⟨pt, hpt⟩ : ∃ x, partsB M = x := ⟨_, rfl⟩
  have PT : Hid (partsB M = pt) := hpt
  obtain ⟨l1, hl1⟩ : ∃ l, hd.length = l := ⟨_, rfl⟩
  have L1 : Hid (hd.length = l1) := hl1
  obtain ⟨l2, hl2⟩ : ∃ l, pt.length = l := ⟨_, rfl⟩
  have L2 : Hid (pt.length = l2) := hl2
  have hl1b : l1 ≤ 25 ∧ 0 < l1 := by
    rw [← hl1, ← hhd, List.length_append, two_len]
    have h4 : (numQ cx).length = 4 := rfl
    omega
  have hl2b : l2 ≤ 33360 := by
    rw [← hl2, ← hpt]
    have h9 := partsB_len M n hs
    rw [List.take_of_length_le (by omega)] at h9
    omega
  have LT1 : Hid (∀ x ∈ hd, x < 256) := fun x hx9 => by
    rw [← hhd, List.mem_append] at hx9
    rcases hx9 with h9 | h9
    · exact numQ_lt _ x h9
    · exact fieldsB_ltP _ x h9
  have LT2 : Hid (∀ x ∈ pt, x < 256) := fun x hx9 => by rw [← hpt] at hx9; exact partsB_lt M x hx9
  have FL : Hid (∀ z ∈ [F, T], z.size ≤ 300) := fun z hz => by
    simp at hz
    rcases hz with rfl | rfl <;> omega
  obtain ⟨q, hq⟩ : ∃ q, (fieldsB [F, T]).length = q := ⟨_, rfl⟩
  have FQ : Hid ((fieldsB [F, T]).length = q) := hq
  have hq2 : q ≤ 21 ∧ 0 < q := by rw [← hq, two_len]; omega
  clear hq
  obtain ⟨tot, htot⟩ : ∃ x, hd ++ pt ++ numQ sx = x := ⟨_, rfl⟩
  have PL : Hid (hd.length = l1) := L1.out
  have TT : Hid (hd ++ pt ++ numQ sx = tot ∧ tot.length = l1 + l2 + 4) := ⟨htot, by rw [← htot, List.length_append, List.length_append, L1.out, L2.out]; rfl⟩
  have LQ : Hid (hd.length = 4 + q) := by show _ = _; rw [← HD.out, List.length_append, FQ.out]; rfl
  have LT : Hid (∀ x ∈ tot, x < 256) := fun x hx9 => by
    rw [← htot, List.mem_append, List.mem_append] at hx9
    rcases hx9 with (h9 | h9) | h9
    · exact LT1.out x h9
    · exact LT2.out x h9
    · exact numQ_lt _ x h9
  rw [hhd, hpt, htot]
  clear hs h hM hhd hpt hl1 hl2 htot
  go_enter Tryz.func51, Tryz.ntmps51
  go_wp2_with fail
  have B78 : Hid (Below w.heap.size w (w.alloc (.cells #[.string F, .string T, .int .i64 (cx : Int), .slice a n c, .int .i64 (sx : Int)] 34))) := (Below.refl _ _).alloc (Nat.le_refl _) _
  have X79 : Hid (Box ((w.alloc (.cells #[.string F, .string T, .int .i64 (cx : Int), .slice a n c, .int .i64 (sx : Int)] 34)).drew) w.heap.size [.string F, .string T, .int .i64 (cx : Int), .slice a n c, .int .i64 (sx : Int)]) := Box.new (w := w) rfl
  obtain ⟨e0, _⟩ := X79.out 0 _ rfl
  obtain ⟨e1, _⟩ := X79.out 1 _ rfl
  obtain ⟨e2, _⟩ := X79.out 2 _ rfl
  refine wp_region_noPanic ?_
  refine wp_region_held_drew (S := (fun w' => w'.cell? ⟨w.heap.size, 0, none⟩ = some (.string F) ∧ w'.cell? ⟨w.heap.size, 1, none⟩ = some (.string T) ∧ w'.cell? ⟨w.heap.size, 2, none⟩ = some (.int .i64 (cx : Int)))) (by kernel_rfl) ⟨e0, e1, e2⟩ (fun hHeld => ?_)
  refine wpAnyH_take (i := 0) (v := .pointer (some ⟨w.heap.size, 2, none⟩)) rfl (by kernel_rfl) (by kernel_rfl) (by kernel_rfl) (fun _ _ _ h => h) (Or.inl ⟨by kernel_rfl, ?_⟩) hHeld ?_
  · intro w9 hSw
    obtain ⟨s0, s1, s2⟩ := hSw
    go_simp
  simp only [Act.put, List.setIfInBounds_toArray, List.set_cons_zero, List.set_cons_succ]
  refine wpAnyH_take (i := 1) (v := .int .i64 (cx : Int)) rfl (by kernel_rfl) (by kernel_rfl) (by kernel_rfl) (fun _ _ _ h => h) (Or.inl ⟨by kernel_rfl, ?_⟩) hHeld ?_
  · intro w9 hSw
    obtain ⟨s0, s1, s2⟩ := hSw
    go_simp
  simp only [Act.put, List.setIfInBounds_toArray, List.set_cons_zero, List.set_cons_succ]
  refine wpAnyH_take (i := 3) (v := .pointer (some ⟨w.heap.size, 0, none⟩)) rfl (by kernel_rfl) (by kernel_rfl) (by kernel_rfl) (fun _ _ _ h => h) (Or.inl ⟨by kernel_rfl, ?_⟩) hHeld ?_
  · intro w9 hSw
    obtain ⟨s0, s1, s2⟩ := hSw
    go_simp
  simp only [Act.put, List.setIfInBounds_toArray, List.set_cons_zero, List.set_cons_succ]
  refine wpAnyH_take (i := 4) (v := .string F) rfl (by kernel_rfl) (by kernel_rfl) (by kernel_rfl) (fun _ _ _ h => h) (Or.inl ⟨by kernel_rfl, ?_⟩) hHeld ?_
  · intro w9 hSw
    obtain ⟨s0, s1, s2⟩ := hSw
    go_simp
  simp only [Act.put, List.setIfInBounds_toArray, List.set_cons_zero, List.set_cons_succ]
  refine wpAnyH_take (i := 5) (v := .pointer (some ⟨w.heap.size, 1, none⟩)) rfl (by kernel_rfl) (by kernel_rfl) (by kernel_rfl) (fun _ _ _ h => h) (Or.inl ⟨by kernel_rfl, ?_⟩) hHeld ?_
  · intro w9 hSw
    obtain ⟨s0, s1, s2⟩ := hSw
    go_simp
  simp only [Act.put, List.setIfInBounds_toArray, List.set_cons_zero, List.set_cons_succ]
  refine wpAnyH_take (i := 6) (v := .string T) rfl (by kernel_rfl) (by kernel_rfl) (by kernel_rfl) (fun _ _ _ h => h) (Or.inl ⟨by kernel_rfl, ?_⟩) hHeld ?_
  · intro w9 hSw
    obtain ⟨s0, s1, s2⟩ := hSw
    go_simp
  simp only [Act.put, List.setIfInBounds_toArray, List.set_cons_zero, List.set_cons_succ]
  refine wpAnyH_ready (rs := [2, 7]) (by kernel_rfl) (by simp) ?_
  refine AllReadyH.cons rfl (fun K hK => ?_) (AllReadyH.cons rfl (fun K hK => ?_) AllReadyH.nil)
  · skip
    go_simp
    refine (l01Number4 cx ((w.alloc (.cells #[.string F, .string T, .int .i64 (cx : Int), .slice a n c, .int .i64 (sx : Int)] 34)).drew) hc).mono ?_
    rintro e wa80 ⟨va80, rfl, o80, hb80⟩
    obtain ⟨g80, c80, rfl, _, _⟩ := own_src o80
    dsimp only
    have B81 : Hid (Below w.heap.size w (wa80)) := (B78.out.drew).trans (hb80.mono (B78.out.drew).size)
    have X82 : Hid (Box (wa80) w.heap.size [.string F, .string T, .int .i64 (cx : Int), .slice a n c, .int .i64 (sx : Int)]) := Box.below (w := (w.alloc (.cells #[.string F, .string T, .int .i64 (cx : Int), .slice a n c, .int .i64 (sx : Int)] 34)).drew) X79.out hb80
    have N83 : Hid (World.ownsRow (wa80) (w.heap.size + 1) 5 1 (.slice g80 4 c80) 4 (cellsB (numQ cx))) := own_mono o80 (show w.heap.size + 1 ≤ _ from World.block_lt_of_cell? _ _ (X79.out 0 _ rfl).1)
    clear o80 hb80
    clear e0 e1 e2
    obtain ⟨e0, _⟩ := X82.out 0 _ rfl
    obtain ⟨e1, _⟩ := X82.out 1 _ rfl
    obtain ⟨e2, _⟩ := X82.out 2 _ rfl
    refine hK _ _ ⟨e0, e1, e2⟩ (fun hHeld => ?_)
    clear hK K
    refine wpAnyH_ready (rs := [7]) (by kernel_rfl) (by simp) ?_
    refine AllReadyH.cons rfl (fun K hK => ?_) AllReadyH.nil
    go_simp
    have B84 : Hid (Below w.heap.size w (((wa80).alloc (.cells #[.string F, .string T] 9)))) := B81.out.alloc B81.out.size _
    have X85 : Hid (Box (((wa80).alloc (.cells #[.string F, .string T] 9))) w.heap.size [.string F, .string T, .int .i64 (cx : Int), .slice a n c, .int .i64 (sx : Int)]) := Box.old (w := wa80) X82.out _
    have N86 : Hid (World.ownsRow (((wa80).alloc (.cells #[.string F, .string T] 9))) (w.heap.size + 1) 5 1 (.slice g80 4 c80) 4 (cellsB (numQ cx))) := World.ownsRow.alloc (w := wa80) N83.out _
    have Q87 : Hid (Src (((wa80).alloc (.cells #[.string F, .string T] 9))) (some ⟨wa80.heap.size, 0, none⟩) (cellsS [F, T])) := src_2S (w := wa80) (by simp)
    clear e0 e1 e2
    obtain ⟨e0, _⟩ := X85.out 0 _ rfl
    obtain ⟨e1, _⟩ := X85.out 1 _ rfl
    obtain ⟨e2, _⟩ := X85.out 2 _ rfl
    refine hK _ _ ⟨e0, e1, e2⟩ (fun hHeld => ?_)
    clear hK K
    refine wpAnyH_ready (rs := [8]) (by kernel_rfl) (by simp) ?_
    refine AllReadyH.cons rfl (fun K hK => ?_) AllReadyH.nil
    go_simp
    refine (l01Fields (some ⟨wa80.heap.size, 0, none⟩) 2 2 [F, T] (((wa80).alloc (.cells #[.string F, .string T] 9))) rfl (by omega) FL.out Q87.out).mono ?_
    rintro e wa88 ⟨va88, rfl, o88, hb88⟩
    dsimp only
    rw [FQ.out] at o88
    obtain ⟨g88, c88, rfl, _, s88⟩ := own_some o88 (by omega)
    have B89 : Hid (Below w.heap.size w (wa88)) := (B84.out).trans (hb88.mono (B84.out).size)
    have X90 : Hid (Box (wa88) w.heap.size [.string F, .string T, .int .i64 (cx : Int), .slice a n c, .int .i64 (sx : Int)]) := Box.below (w := ((wa80).alloc (.cells #[.string F, .string T] 9))) X85.out hb88
    have N91 : Hid (World.ownsRow (wa88) (w.heap.size + 1) 5 1 (.slice g80 4 c80) 4 (cellsB (numQ cx))) := own_below (w := ((wa80).alloc (.cells #[.string F, .string T] 9))) N86.out hb88
    have Q92 : Hid (Src (wa88) (some ⟨wa80.heap.size, 0, none⟩) (cellsS [F, T])) := Src.below (w := ((wa80).alloc (.cells #[.string F, .string T] 9))) Q87.out hb88
    have P93 : Hid (Src (wa88) (some ⟨g88, 0, none⟩) (cellsB (fieldsB [F, T]))) := s88
    clear o88 hb88 s88
    clear e0 e1 e2
    obtain ⟨e0, _⟩ := X90.out 0 _ rfl
    obtain ⟨e1, _⟩ := X90.out 1 _ rfl
    obtain ⟨e2, _⟩ := X90.out 2 _ rfl
    refine hK _ _ ⟨e0, e1, e2⟩ (fun hHeld => ?_)
    clear hK K
    refine wpAnyH_ready (rs := [9]) (by kernel_rfl) (by simp) ?_
    refine AllReadyH.cons rfl (fun K hK => ?_) AllReadyH.nil
    refine step_append_src rfl (.tmp 7) (.tmp 13) 55 rfl (w.heap.size + 1) 5 (.int .u8 0) 1 1 Tryz.underlying55 infoB rfl (by decide) (by decide) (.slice g80 4 c80) 4 (cellsB (numQ cx)) (by rfl) N91.out ⟨g88, 0, none⟩ q c88 (cellsB (fieldsB [F, T])) (by rfl) (by rw [cellsB_length, FQ.out]; omega) P93.out (cellsB_one _) (by omega) (by omega) (show w.heap.size + 1 ≤ _ from World.block_lt_of_cell? _ _ (X90.out 0 _ rfl).1) ?_
    intro va94 wa94 hown94 hgrow94 _
    have B95 : Hid (Below w.heap.size w (wa94)) := (B89.out).grown hgrow94 (B89.out).size (fun g e => by have h9 := (N91.out.lt g e).1; omega)
    have X96 : Hid (Box (wa94) w.heap.size [.string F, .string T, .int .i64 (cx : Int), .slice a n c, .int .i64 (sx : Int)]) := Box.grown X90.out hgrow94 (fun e => by have h9 := (N91.out.lt _ e).1; omega)
    have R97 : Hid (World.ownsRow (wa94) (w.heap.size + 1) 5 1 (va94) (4 + q) (cellsB (numQ cx ++ fieldsB [F, T]))) := by rw [cellsB_append]; exact hown94
    clear hown94 hgrow94
    clear e0 e1 e2
    obtain ⟨e0, _⟩ := X96.out 0 _ rfl
    obtain ⟨e1, _⟩ := X96.out 1 _ rfl
    obtain ⟨e2, _⟩ := X96.out 2 _ rfl
    refine hK _ _ ⟨e0, e1, e2⟩ (fun hHeld => ?_)
    clear hK K
    refine wpAnyH_ready (rs := [10]) (by kernel_rfl) (by simp) ?_
    refine AllReadyH.cons rfl (fun K hK => ?_) AllReadyH.nil
    go_simp
    clear e0 e1 e2
    obtain ⟨e0, _⟩ := X96.out 0 _ rfl
    obtain ⟨e1, _⟩ := X96.out 1 _ rfl
    obtain ⟨e2, _⟩ := X96.out 2 _ rfl
    refine hK _ _ ⟨e0, e1, e2⟩ (fun hHeld => ?_)
    clear hK K
    refine wpAnyH_done (by kernel_rfl) ?_ _
    refine NoPanic.normal ?_
    clear e0 e1 e2
    clear hHeld
    have R0 : Hid ((wa94).ownsRow (w.heap.size + 1) 5 1 va94 hd.length (cellsB hd)) := by rw [LQ.out, ← HD.out]; exact R97.out
    go_wp2_with fail
    go_loopw [3, 4] (fun v i wr => ∃ (k : Nat), k ≤ n ∧ i = .int .i64 k ∧ Hid (Below w.heap.size w wr) ∧ Hid (Box wr w.heap.size [.string F, .string T, .int .i64 (cx : Int), .slice a n c, .int .i64 (sx : Int)]) ∧ Hid (wr.ownsRow (w.heap.size + 1) 5 1 v (hd ++ partsB (M.take k)).length (cellsB (hd ++ partsB (M.take k))))) (fun _ i _ => n - (intOf i).toNat)
    case atStart => exact ⟨0, by omega, rfl, B95.out, X96.out, by show World.ownsRow _ _ _ _ _ _ _; simpa [partsB] using R0.out⟩
    case round =>
      clear R0
      obtain ⟨k, hk, rfl, hb, hX, ho⟩ := hrel
      obtain ⟨va, vc, rfl, _, _⟩ := own_src ho.out
      obtain ⟨m, hm⟩ : ∃ m, (hd ++ partsB (M.take k)).length = m := ⟨_, rfl⟩
      have hm2 : m ≤ 33500 := by
        have h9 := partsB_len M k HS.out
        rw [← hm, List.length_append, PL.out]
        omega
      have HO : Hid (wr.ownsRow (w.heap.size + 1) 5 1 (.slice va m vc) m (cellsB (hd ++ partsB (M.take k)))) := by rw [← hm]; exact ho.out
      rw [hm]
      have MM : Hid ((hd ++ partsB (M.take k)).length = m) := hm
      have ZB : Hid (w.heap.size + 1 ≤ wr.heap.size) := World.block_lt_of_cell? _ _ (hX.out 0 _ rfl).1
      have hlt3 : Hid (∀ g, Value.ownBlock (.slice va m vc) = some g → w.heap.size + 1 ≤ g) := fun g e => (HO.out.lt g e).1
      clear ho hm
      obtain ⟨b3, _⟩ := hX.out 3 _ rfl
      by_cases hlt : k < n
      · obtain ⟨b, o, x0, x1, x2, x3, x4, rfl, q0, q1, q2, q3, q4, hy⟩ := srcDf (HH.out.below hb.out) (i := k) (by rw [HM.out]; exact hlt)
        have hki : (k : Int) < (n : Int) := by omega
        have hk0 : (0 : Int) ≤ (k : Int) := by omega
        have XY : Hid (x0.size ≤ 90 ∧ x1.size ≤ 90 ∧ x2.size ≤ 90) := by
          have h1 := HS.out _ (mem_getDK M df0 k (by rw [HM.out]; exact hlt))
          rw [hy.out] at h1
          exact h1
        have SN : Hid (partsB (M.take (k + 1)) = partsB (M.take k) ++ partB (x0, x1, x2, x3, x4)) := partsB_snoc (by rw [HM.out]; exact hlt) hy.out
        obtain ⟨q, hq⟩ : ∃ q, (partB (x0, x1, x2, x3, x4)).length = q := ⟨_, rfl⟩
        have Q : Hid ((partB (x0, x1, x2, x3, x4)).length = q) := hq
        have hq2 : q ≤ 278 ∧ 0 < q := by rw [← hq, partB_len]; have h9 := XY.out; dsimp only; omega
        clear hq
        go_wp2_with fail
        go_at_call 82
        refine (l06Diff x0 x1 x2 x3 x4 _ XY.out.1 XY.out.2.1 XY.out.2.2).mono ?_
        rintro e w2 ⟨v2, rfl, o2, hb2⟩
        rw [Q.out] at o2
        obtain ⟨g2, c2, rfl, _, s2⟩ := own_some o2 (by omega)
        have S2 : Hid (Src w2 (some ⟨g2, 0, none⟩) (cellsB (partB (x0, x1, x2, x3, x4)))) := s2
        have B2 : Hid (Below w.heap.size w w2) := hb.out.trans (hb2.mono hb.out.size)
        have X2 : Hid (Box w2 w.heap.size [.string F, .string T, .int .i64 (cx : Int), .slice (some ⟨b, o, none⟩) n c, .int .i64 (sx : Int)]) := hX.out.below hb2
        have O2 : Hid (w2.ownsRow (w.heap.size + 1) 5 1 (.slice va m vc) m (cellsB (hd ++ partsB (M.take k)))) := own_below HO.out hb2
        have Z2 : Hid (w.heap.size + 1 ≤ w2.heap.size) := World.block_lt_of_cell? _ _ (X2.out 0 _ rfl).1
        clear hb2 o2 s2 q0 q1 q2 q3 q4 b3
        go_wp2_with (at_builtin; refine wpList_append_src _ rfl _ _ 55 rfl (w.heap.size + 1) 5 (.int .u8 0) 1 1 Tryz.underlying55 infoB rfl (by decide) (by decide) _ m (cellsB (hd ++ partsB (M.take k))) rfl O2.out (some ⟨g2, 0, none⟩) q c2 (cellsB (partB (x0, x1, x2, x3, x4))) rfl (by rw [cellsB_length, Q.out]; omega) S2.out (cellsB_one _) (by omega) Z2.out ?_)
        intro v3 w3 hown3 hgrow3
        have X3 : Hid (Box w3 w.heap.size [.string F, .string T, .int .i64 (cx : Int), .slice (some ⟨b, o, none⟩) n c, .int .i64 (sx : Int)]) := Box.grown X2.out hgrow3 (fun e => by have h9 := hlt3.out _ e; omega)
        have B3 : Hid (Below w.heap.size w w3) := B2.out.grown hgrow3 B2.out.size (fun g e => by have h9 := hlt3.out g e; omega)
        have O3 : Hid (w3.ownsRow (w.heap.size + 1) 5 1 v3 (hd ++ partsB (M.take (k + 1))).length (cellsB (hd ++ partsB (M.take (k + 1))))) := by
          rw [SN.out, ← List.append_assoc, cellsB_append, List.length_append, MM.out, Q.out]
          exact hown3
        clear hown3 hgrow3
        go_wp2_with fail
        exact ⟨⟨k + 1, by omega, by go_num, B3.out, X3.out, O3.out⟩, by simp [intOf]; omega⟩
      · have hkn : ¬ (k : Int) < (n : Int) := by omega
        have EK : Hid (partsB (M.take k) = pt) := by show _ = _; rw [List.take_of_length_le (by rw [HM.out]; omega)]; exact PT.out
        rw [EK.out] at HO MM
        obtain ⟨b4, _⟩ := hX.out 4 _ rfl
        go_wp2_with fail
        go_at_call 80
        refine (l01Number4 sx _ hx).mono ?_
        rintro e w5 ⟨v5, rfl, o5, hb5⟩
        obtain ⟨g5, c5, rfl, _, s5⟩ := own_some o5 (by omega)
        have S5 : Hid (Src w5 (some ⟨g5, 0, none⟩) (cellsB (numQ sx))) := s5
        have B5 : Hid (Below w.heap.size w w5) := hb.out.trans (hb5.mono hb.out.size)
        have O5 : Hid (w5.ownsRow (w.heap.size + 1) 5 1 (.slice va m vc) m (cellsB (hd ++ pt))) := own_below HO.out hb5
        have Z5 : Hid (w.heap.size + 1 ≤ w5.heap.size) := Nat.le_trans ZB.out hb5.size
        clear hb5 o5 s5 b3 b4
        go_wp2_with (at_builtin; refine wpList_append_src _ rfl _ _ 55 rfl (w.heap.size + 1) 5 (.int .u8 0) 1 1 Tryz.underlying55 infoB rfl (by decide) (by decide) _ m (cellsB (hd ++ pt)) rfl O5.out (some ⟨g5, 0, none⟩) 4 c5 (cellsB (numQ sx)) rfl rfl S5.out (cellsB_one _) (by omega) Z5.out ?_)
        intro v6 w6 hown6 hgrow6
        obtain ⟨g6, c6, rfl, s6, _⟩ := own_src hown6
        have B6 : Hid (Below w.heap.size w w6) := B5.out.grown hgrow6 B5.out.size (fun g e => by have h9 := hlt3.out g e; omega)
        have S6 : Hid (Src w6 g6 (cellsB tot)) := by show Src w6 g6 (cellsB tot); rw [← TT.out.1, cellsB_append]; exact s6
        have E6 : Hid (tot.length = m + 4) := by show _ = _; rw [TT.out.2, ← MM.out, List.length_append, L1.out, L2.out]
        clear hown6 hgrow6 s6
        go_wp2_with fail
        go_at_call 83
        refine (l01CheckL g6 (m + 4) c6 tot _ E6.out (by omega) LT.out S6.out).mono ?_
        rintro e w7 ⟨rfl, hb7⟩
        have B7 : Hid (Below w.heap.size w w7) := B6.out.trans (hb7.mono B6.out.size)
        clear hb7
        go_wp2_with fail
        go_ret
        exact ⟨rfl, B7.out⟩
  · skip
    go_simp
    have B98 : Hid (Below w.heap.size w (((w.alloc (.cells #[.string F, .string T, .int .i64 (cx : Int), .slice a n c, .int .i64 (sx : Int)] 34)).alloc (.cells #[.string F, .string T] 9)))) := B78.out.alloc B78.out.size _
    have X99 : Hid (Box ((((w.alloc (.cells #[.string F, .string T, .int .i64 (cx : Int), .slice a n c, .int .i64 (sx : Int)] 34)).alloc (.cells #[.string F, .string T] 9))).drew) w.heap.size [.string F, .string T, .int .i64 (cx : Int), .slice a n c, .int .i64 (sx : Int)]) := Box.old (w := w.alloc (.cells #[.string F, .string T, .int .i64 (cx : Int), .slice a n c, .int .i64 (sx : Int)] 34)) X79.out _
    have Q100 : Hid (Src ((((w.alloc (.cells #[.string F, .string T, .int .i64 (cx : Int), .slice a n c, .int .i64 (sx : Int)] 34)).alloc (.cells #[.string F, .string T] 9))).drew) (some ⟨w.heap.size + 1, 0, none⟩) (cellsS [F, T])) := src_2S (w := w.alloc (.cells #[.string F, .string T, .int .i64 (cx : Int), .slice a n c, .int .i64 (sx : Int)] 34)) (by simp)
    clear e0 e1 e2
    obtain ⟨e0, _⟩ := X99.out 0 _ rfl
    obtain ⟨e1, _⟩ := X99.out 1 _ rfl
    obtain ⟨e2, _⟩ := X99.out 2 _ rfl
    refine hK _ _ ⟨e0, e1, e2⟩ (fun hHeld => ?_)
    clear hK K
    refine wpAnyH_ready (rs := [2]) (by kernel_rfl) (by simp) ?_
    refine AllReadyH.cons rfl (fun K hK => ?_) AllReadyH.nil
    go_simp
    refine (l01Number4 cx ((((w.alloc (.cells #[.string F, .string T, .int .i64 (cx : Int), .slice a n c, .int .i64 (sx : Int)] 34)).alloc (.cells #[.string F, .string T] 9))).drew) hc).mono ?_
    rintro e wa101 ⟨va101, rfl, o101, hb101⟩
    obtain ⟨g101, c101, rfl, _, _⟩ := own_src o101
    dsimp only
    have B102 : Hid (Below w.heap.size w (wa101)) := (B98.out.drew).trans (hb101.mono (B98.out.drew).size)
    have X103 : Hid (Box (wa101) w.heap.size [.string F, .string T, .int .i64 (cx : Int), .slice a n c, .int .i64 (sx : Int)]) := Box.below (w := (((w.alloc (.cells #[.string F, .string T, .int .i64 (cx : Int), .slice a n c, .int .i64 (sx : Int)] 34)).alloc (.cells #[.string F, .string T] 9))).drew) X99.out hb101
    have Q104 : Hid (Src (wa101) (some ⟨w.heap.size + 1, 0, none⟩) (cellsS [F, T])) := Src.below (w := (((w.alloc (.cells #[.string F, .string T, .int .i64 (cx : Int), .slice a n c, .int .i64 (sx : Int)] 34)).alloc (.cells #[.string F, .string T] 9))).drew) Q100.out hb101
    have N105 : Hid (World.ownsRow (wa101) (w.heap.size + 1) 5 1 (.slice g101 4 c101) 4 (cellsB (numQ cx))) := own_mono o101 (show w.heap.size + 1 ≤ _ from World.block_lt_of_cell? _ _ (X99.out 0 _ rfl).1)
    clear o101 hb101
    clear e0 e1 e2
    obtain ⟨e0, _⟩ := X103.out 0 _ rfl
    obtain ⟨e1, _⟩ := X103.out 1 _ rfl
    obtain ⟨e2, _⟩ := X103.out 2 _ rfl
    refine hK _ _ ⟨e0, e1, e2⟩ (fun hHeld => ?_)
    clear hK K
    refine wpAnyH_ready (rs := [8]) (by kernel_rfl) (by simp) ?_
    refine AllReadyH.cons rfl (fun K hK => ?_) AllReadyH.nil
    go_simp
    refine (l01Fields (some ⟨w.heap.size + 1, 0, none⟩) 2 2 [F, T] (wa101) rfl (by omega) FL.out Q104.out).mono ?_
    rintro e wa106 ⟨va106, rfl, o106, hb106⟩
    dsimp only
    rw [FQ.out] at o106
    obtain ⟨g106, c106, rfl, _, s106⟩ := own_some o106 (by omega)
    have B107 : Hid (Below w.heap.size w (wa106)) := (B102.out).trans (hb106.mono (B102.out).size)
    have X108 : Hid (Box (wa106) w.heap.size [.string F, .string T, .int .i64 (cx : Int), .slice a n c, .int .i64 (sx : Int)]) := Box.below (w := wa101) X103.out hb106
    have Q109 : Hid (Src (wa106) (some ⟨w.heap.size + 1, 0, none⟩) (cellsS [F, T])) := Src.below (w := wa101) Q104.out hb106
    have N110 : Hid (World.ownsRow (wa106) (w.heap.size + 1) 5 1 (.slice g101 4 c101) 4 (cellsB (numQ cx))) := own_below (w := wa101) N105.out hb106
    have P111 : Hid (Src (wa106) (some ⟨g106, 0, none⟩) (cellsB (fieldsB [F, T]))) := s106
    clear o106 hb106 s106
    clear e0 e1 e2
    obtain ⟨e0, _⟩ := X108.out 0 _ rfl
    obtain ⟨e1, _⟩ := X108.out 1 _ rfl
    obtain ⟨e2, _⟩ := X108.out 2 _ rfl
    refine hK _ _ ⟨e0, e1, e2⟩ (fun hHeld => ?_)
    clear hK K
    refine wpAnyH_ready (rs := [9]) (by kernel_rfl) (by simp) ?_
    refine AllReadyH.cons rfl (fun K hK => ?_) AllReadyH.nil
    refine step_append_src rfl (.tmp 7) (.tmp 13) 55 rfl (w.heap.size + 1) 5 (.int .u8 0) 1 1 Tryz.underlying55 infoB rfl (by decide) (by decide) (.slice g101 4 c101) 4 (cellsB (numQ cx)) (by rfl) N110.out ⟨g106, 0, none⟩ q c106 (cellsB (fieldsB [F, T])) (by rfl) (by rw [cellsB_length, FQ.out]; omega) P111.out (cellsB_one _) (by omega) (by omega) (show w.heap.size + 1 ≤ _ from World.block_lt_of_cell? _ _ (X108.out 0 _ rfl).1) ?_
    intro va112 wa112 hown112 hgrow112 _
    have B113 : Hid (Below w.heap.size w (wa112)) := (B107.out).grown hgrow112 (B107.out).size (fun g e => by have h9 := (N110.out.lt g e).1; omega)
    have X114 : Hid (Box (wa112) w.heap.size [.string F, .string T, .int .i64 (cx : Int), .slice a n c, .int .i64 (sx : Int)]) := Box.grown X108.out hgrow112 (fun e => by have h9 := (N110.out.lt _ e).1; omega)
    have R115 : Hid (World.ownsRow (wa112) (w.heap.size + 1) 5 1 (va112) (4 + q) (cellsB (numQ cx ++ fieldsB [F, T]))) := by rw [cellsB_append]; exact hown112
    clear hown112 hgrow112
    clear e0 e1 e2
    obtain ⟨e0, _⟩ := X114.out 0 _ rfl
    obtain ⟨e1, _⟩ := X114.out 1 _ rfl
    obtain ⟨e2, _⟩ := X114.out 2 _ rfl
    refine hK _ _ ⟨e0, e1, e2⟩ (fun hHeld => ?_)
    clear hK K
    refine wpAnyH_ready (rs := [10]) (by kernel_rfl) (by simp) ?_
    refine AllReadyH.cons rfl (fun K hK => ?_) AllReadyH.nil
    go_simp
    clear e0 e1 e2
    obtain ⟨e0, _⟩ := X114.out 0 _ rfl
    obtain ⟨e1, _⟩ := X114.out 1 _ rfl
    obtain ⟨e2, _⟩ := X114.out 2 _ rfl
    refine hK _ _ ⟨e0, e1, e2⟩ (fun hHeld => ?_)
    clear hK K
    refine wpAnyH_done (by kernel_rfl) ?_ _
    refine NoPanic.normal ?_
    clear e0 e1 e2
    clear hHeld
    have R0 : Hid ((wa112).ownsRow (w.heap.size + 1) 5 1 va112 hd.length (cellsB hd)) := by rw [LQ.out, ← HD.out]; exact R115.out
    go_wp2_with fail
    go_loopw [3, 4] (fun v i wr => ∃ (k : Nat), k ≤ n ∧ i = .int .i64 k ∧ Hid (Below w.heap.size w wr) ∧ Hid (Box wr w.heap.size [.string F, .string T, .int .i64 (cx : Int), .slice a n c, .int .i64 (sx : Int)]) ∧ Hid (wr.ownsRow (w.heap.size + 1) 5 1 v (hd ++ partsB (M.take k)).length (cellsB (hd ++ partsB (M.take k))))) (fun _ i _ => n - (intOf i).toNat)
    case atStart => exact ⟨0, by omega, rfl, B113.out, X114.out, by show World.ownsRow _ _ _ _ _ _ _; simpa [partsB] using R0.out⟩
    case round =>
      clear R0
      obtain ⟨k, hk, rfl, hb, hX, ho⟩ := hrel
      obtain ⟨va, vc, rfl, _, _⟩ := own_src ho.out
      obtain ⟨m, hm⟩ : ∃ m, (hd ++ partsB (M.take k)).length = m := ⟨_, rfl⟩
      have hm2 : m ≤ 33500 := by
        have h9 := partsB_len M k HS.out
        rw [← hm, List.length_append, PL.out]
        omega
      have HO : Hid (wr.ownsRow (w.heap.size + 1) 5 1 (.slice va m vc) m (cellsB (hd ++ partsB (M.take k)))) := by rw [← hm]; exact ho.out
      rw [hm]
      have MM : Hid ((hd ++ partsB (M.take k)).length = m) := hm
      have ZB : Hid (w.heap.size + 1 ≤ wr.heap.size) := World.block_lt_of_cell? _ _ (hX.out 0 _ rfl).1
      have hlt3 : Hid (∀ g, Value.ownBlock (.slice va m vc) = some g → w.heap.size + 1 ≤ g) := fun g e => (HO.out.lt g e).1
      clear ho hm
      obtain ⟨b3, _⟩ := hX.out 3 _ rfl
      by_cases hlt : k < n
      · obtain ⟨b, o, x0, x1, x2, x3, x4, rfl, q0, q1, q2, q3, q4, hy⟩ := srcDf (HH.out.below hb.out) (i := k) (by rw [HM.out]; exact hlt)
        have hki : (k : Int) < (n : Int) := by omega
        have hk0 : (0 : Int) ≤ (k : Int) := by omega
        have XY : Hid (x0.size ≤ 90 ∧ x1.size ≤ 90 ∧ x2.size ≤ 90) := by
          have h1 := HS.out _ (mem_getDK M df0 k (by rw [HM.out]; exact hlt))
          rw [hy.out] at h1
          exact h1
        have SN : Hid (partsB (M.take (k + 1)) = partsB (M.take k) ++ partB (x0, x1, x2, x3, x4)) := partsB_snoc (by rw [HM.out]; exact hlt) hy.out
        obtain ⟨q, hq⟩ : ∃ q, (partB (x0, x1, x2, x3, x4)).length = q := ⟨_, rfl⟩
        have Q : Hid ((partB (x0, x1, x2, x3, x4)).length = q) := hq
        have hq2 : q ≤ 278 ∧ 0 < q := by rw [← hq, partB_len]; have h9 := XY.out; dsimp only; omega
        clear hq
        go_wp2_with fail
        go_at_call 82
        refine (l06Diff x0 x1 x2 x3 x4 _ XY.out.1 XY.out.2.1 XY.out.2.2).mono ?_
        rintro e w2 ⟨v2, rfl, o2, hb2⟩
        rw [Q.out] at o2
        obtain ⟨g2, c2, rfl, _, s2⟩ := own_some o2 (by omega)
        have S2 : Hid (Src w2 (some ⟨g2, 0, none⟩) (cellsB (partB (x0, x1, x2, x3, x4)))) := s2
        have B2 : Hid (Below w.heap.size w w2) := hb.out.trans (hb2.mono hb.out.size)
        have X2 : Hid (Box w2 w.heap.size [.string F, .string T, .int .i64 (cx : Int), .slice (some ⟨b, o, none⟩) n c, .int .i64 (sx : Int)]) := hX.out.below hb2
        have O2 : Hid (w2.ownsRow (w.heap.size + 1) 5 1 (.slice va m vc) m (cellsB (hd ++ partsB (M.take k)))) := own_below HO.out hb2
        have Z2 : Hid (w.heap.size + 1 ≤ w2.heap.size) := World.block_lt_of_cell? _ _ (X2.out 0 _ rfl).1
        clear hb2 o2 s2 q0 q1 q2 q3 q4 b3
        go_wp2_with (at_builtin; refine wpList_append_src _ rfl _ _ 55 rfl (w.heap.size + 1) 5 (.int .u8 0) 1 1 Tryz.underlying55 infoB rfl (by decide) (by decide) _ m (cellsB (hd ++ partsB (M.take k))) rfl O2.out (some ⟨g2, 0, none⟩) q c2 (cellsB (partB (x0, x1, x2, x3, x4))) rfl (by rw [cellsB_length, Q.out]; omega) S2.out (cellsB_one _) (by omega) Z2.out ?_)
        intro v3 w3 hown3 hgrow3
        have X3 : Hid (Box w3 w.heap.size [.string F, .string T, .int .i64 (cx : Int), .slice (some ⟨b, o, none⟩) n c, .int .i64 (sx : Int)]) := Box.grown X2.out hgrow3 (fun e => by have h9 := hlt3.out _ e; omega)
        have B3 : Hid (Below w.heap.size w w3) := B2.out.grown hgrow3 B2.out.size (fun g e => by have h9 := hlt3.out g e; omega)
        have O3 : Hid (w3.ownsRow (w.heap.size + 1) 5 1 v3 (hd ++ partsB (M.take (k + 1))).length (cellsB (hd ++ partsB (M.take (k + 1))))) := by
          rw [SN.out, ← List.append_assoc, cellsB_append, List.length_append, MM.out, Q.out]
          exact hown3
        clear hown3 hgrow3
        go_wp2_with fail
        exact ⟨⟨k + 1, by omega, by go_num, B3.out, X3.out, O3.out⟩, by simp [intOf]; omega⟩
      · have hkn : ¬ (k : Int) < (n : Int) := by omega
        have EK : Hid (partsB (M.take k) = pt) := by show _ = _; rw [List.take_of_length_le (by rw [HM.out]; omega)]; exact PT.out
        rw [EK.out] at HO MM
        obtain ⟨b4, _⟩ := hX.out 4 _ rfl
        go_wp2_with fail
        go_at_call 80
        refine (l01Number4 sx _ hx).mono ?_
        rintro e w5 ⟨v5, rfl, o5, hb5⟩
        obtain ⟨g5, c5, rfl, _, s5⟩ := own_some o5 (by omega)
        have S5 : Hid (Src w5 (some ⟨g5, 0, none⟩) (cellsB (numQ sx))) := s5
        have B5 : Hid (Below w.heap.size w w5) := hb.out.trans (hb5.mono hb.out.size)
        have O5 : Hid (w5.ownsRow (w.heap.size + 1) 5 1 (.slice va m vc) m (cellsB (hd ++ pt))) := own_below HO.out hb5
        have Z5 : Hid (w.heap.size + 1 ≤ w5.heap.size) := Nat.le_trans ZB.out hb5.size
        clear hb5 o5 s5 b3 b4
        go_wp2_with (at_builtin; refine wpList_append_src _ rfl _ _ 55 rfl (w.heap.size + 1) 5 (.int .u8 0) 1 1 Tryz.underlying55 infoB rfl (by decide) (by decide) _ m (cellsB (hd ++ pt)) rfl O5.out (some ⟨g5, 0, none⟩) 4 c5 (cellsB (numQ sx)) rfl rfl S5.out (cellsB_one _) (by omega) Z5.out ?_)
        intro v6 w6 hown6 hgrow6
        obtain ⟨g6, c6, rfl, s6, _⟩ := own_src hown6
        have B6 : Hid (Below w.heap.size w w6) := B5.out.grown hgrow6 B5.out.size (fun g e => by have h9 := hlt3.out g e; omega)
        have S6 : Hid (Src w6 g6 (cellsB tot)) := by show Src w6 g6 (cellsB tot); rw [← TT.out.1, cellsB_append]; exact s6
        have E6 : Hid (tot.length = m + 4) := by show _ = _; rw [TT.out.2, ← MM.out, List.length_append, L1.out, L2.out]
        clear hown6 hgrow6 s6
        go_wp2_with fail
        go_at_call 83
        refine (l01CheckL g6 (m + 4) c6 tot _ E6.out (by omega) LT.out S6.out).mono ?_
        rintro e w7 ⟨rfl, hb7⟩
        have B7 : Hid (Below w.heap.size w w7) := B6.out.trans (hb7.mono B6.out.size)
        clear hb7
        go_wp2_with fail
        go_ret
        exact ⟨rfl, B7.out⟩
end Go.Proofs.YtmbndpgoihdpnaaGreatDoor
