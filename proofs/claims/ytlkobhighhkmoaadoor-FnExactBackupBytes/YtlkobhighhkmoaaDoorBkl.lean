
/-
  The link of a backup and its bytes, by the program. By an AI agent.
-/
import Derived.Test.YtlkobhighhkmoaaDoorBkh
namespace Go.Proofs.YtlkobhighhkmoaaDoor
open Go.ChangeShapes Go.WideShapes Go.ChangeAt Go.RowKit Go.Deep
set_option linter.unusedVariables false
set_option linter.unusedSimpArgs false
set_option maxRecDepth 100000

theorem src_vals {w : World} {xs : List Value} {B ty : Nat} (hB : B = w.heap.size) : Src (w.alloc (.cells xs.toArray ty)) (some ⟨B, 0, none⟩) xs := by
  have hb : Box (w.alloc (.cells xs.toArray ty)) B xs := Box.new hB
  refine .inr ⟨B, 0, rfl, fun j hj => ?_⟩
  rw [Nat.zero_add]
  refine (hb j _ ?_).1
  rw [List.getElem?_eq_getElem hj, List.getD_eq_getElem?_getD, List.getElem?_eq_getElem hj]
  rfl
set_option maxHeartbeats 4000000 in
theorem backupLink (F T : ByteArray) (cx sx : Nat) (a : Option Addr) (n c : Nat) (M : List MDf) (w : World) (hF : F.size ≤ 8) (hT : T.size ≤ 8) (hc : cx < 4294967296) (hx : sx < 4294967296) (hM : M.length = n) (hn : n ≤ 120) (hs : ∀ p ∈ M, p.1.size ≤ 90 ∧ p.2.1.size ≤ 90 ∧ p.2.2.1.size ≤ 90) (h : Src w a (cellsDf M)) (hH : HasHalf w) :
    Calls Tryd.prog 44 #[.agg #[.string F, .string T, .int .i64 (cx : Int), .slice a n c, .int .i64 (sx : Int)]] w fun e w' => e = .returned (.int .i64 ((sumL (numQ cx ++ fieldsB [F, T] ++ partsB M ++ numQ sx) : Nat) : Int)) ∧ Below w.heap.size w w' := by
  have HS : Hid (∀ p ∈ M, p.1.size ≤ 90 ∧ p.2.1.size ≤ 90 ∧ p.2.2.1.size ≤ 90) := hs
  have HH : Hid (Src w a (cellsDf M)) := h
  have HM : Hid (M.length = n) := hM
  have HT9 : Hid (HasHalf w) := hH
  obtain ⟨hd, hhd⟩ : ∃ x, numQ cx ++ fieldsB [F, T] = x := ⟨_, rfl⟩
  have HD : Hid (numQ cx ++ fieldsB [F, T] = hd) := hhd
  obtain ⟨pt, hpt⟩ : ∃ x, partsB M = x := ⟨_, rfl⟩
  have PT : Hid (partsB M = pt) := hpt
  obtain ⟨l1, hl1⟩ : ∃ l, hd.length = l := ⟨_, rfl⟩
  have L1 : Hid (hd.length = l1) := hl1
  obtain ⟨l2, hl2⟩ : ∃ l, pt.length = l := ⟨_, rfl⟩
  have L2 : Hid (pt.length = l2) := hl2
  have hl1b : l1 ≤ 25 ∧ 0 < l1 := by
    rw [← hl1, ← hhd, List.length_append, two_len]
    have h4 : (numQ cx).length = 4 := rfl
    omega
  have hl2b : l2 ≤ 33360 := by
    rw [← hl2, ← hpt]
    have h9 := partsB_len M n hs
    rw [List.take_of_length_le (by omega)] at h9
    omega
  have LT1 : Hid (∀ x ∈ hd, x < 256) := fun x hx9 => by
    rw [← hhd, List.mem_append] at hx9
    rcases hx9 with h9 | h9
    · exact numQ_lt _ x h9
    · exact fieldsB_ltP _ x h9
  have LT2 : Hid (∀ x ∈ pt, x < 256) := fun x hx9 => by rw [← hpt] at hx9; exact partsB_lt M x hx9
  rw [hhd, hpt]
  obtain ⟨tot, htot⟩ : ∃ x, hd ++ pt ++ numQ sx = x := ⟨_, rfl⟩
  obtain ⟨tl, htl⟩ : ∃ x, tot.length = x := ⟨_, rfl⟩
  have htl9 : tl ≤ 40000 ∧ 0 < tl := by
    have h9 : tl = l1 + l2 + 4 := by rw [← htl, ← htot, List.length_append, List.length_append, hl1, hl2]; rfl
    omega
  have CT : Hid (catB (fun i => [hd, pt, numQ sx].getD i []) 3 = tot ∧ tot.length = tl) := ⟨by rw [← htot]; simp [catB, List.range_succ], htl⟩
  have LT : Hid (∀ x ∈ tot, x < 256) := fun x hx9 => by
    rw [← htot, List.mem_append, List.mem_append] at hx9
    rcases hx9 with (h9 | h9) | h9
    · exact LT1.out x h9
    · exact LT2.out x h9
    · exact numQ_lt _ x h9
  rw [htot]
  obtain ⟨sm, hsm⟩ : ∃ s, sumL tot = s := ⟨_, rfl⟩
  have SM : Hid (sumL tot = sm) := hsm
  rw [hsm]
  clear hs h hM hH hhd hpt hl1 hl2 htot htl hsm
  go_enter Tryd.func44, Tryd.ntmps44
  go_wp2_with fail
  have B1 : Hid (Below w.heap.size w (w.alloc (.cells #[.string F, .string T, .int .i64 (cx : Int), .slice a n c, .int .i64 (sx : Int)] 48))) := (Below.refl _ _).alloc (Nat.le_refl _) _
  have X2 : Hid (Box ((w.alloc (.cells #[.string F, .string T, .int .i64 (cx : Int), .slice a n c, .int .i64 (sx : Int)] 48)).drew) w.heap.size [.string F, .string T, .int .i64 (cx : Int), .slice a n c, .int .i64 (sx : Int)]) := Box.new (w := w) rfl
  have T3 : Hid (HasHalf ((w.alloc (.cells #[.string F, .string T, .int .i64 (cx : Int), .slice a n c, .int .i64 (sx : Int)] 48)).drew)) := HasHalf.below (w := w) HT9.out (((Below.refl _ _).alloc (Nat.le_refl _) _).drew)
  obtain ⟨e0, _⟩ := X2.out 0 _ rfl
  obtain ⟨e1, _⟩ := X2.out 1 _ rfl
  obtain ⟨e2, _⟩ := X2.out 2 _ rfl
  obtain ⟨e3, _⟩ := X2.out 3 _ rfl
  obtain ⟨e4, _⟩ := X2.out 4 _ rfl
  refine wp_region_noPanic ?_
  refine wp_region_held_drew (S := (fun w' => w'.cell? ⟨w.heap.size, 0, none⟩ = some (.string F) ∧ w'.cell? ⟨w.heap.size, 1, none⟩ = some (.string T) ∧ w'.cell? ⟨w.heap.size, 2, none⟩ = some (.int .i64 (cx : Int)) ∧ w'.cell? ⟨w.heap.size, 3, none⟩ = some (.slice a n c) ∧ w'.cell? ⟨w.heap.size, 4, none⟩ = some (.int .i64 (sx : Int)))) (by kernel_rfl) ⟨e0, e1, e2, e3, e4⟩ (fun hHeld => ?_)
  refine wpAnyH_take (i := 0) (v := .agg #[.string F, .string T, .int .i64 (cx : Int), .slice a n c, .int .i64 (sx : Int)]) rfl (by kernel_rfl) (by kernel_rfl) (by kernel_rfl) (fun _ _ _ h => h) (Or.inl ⟨by kernel_rfl, ?_⟩) hHeld ?_
  · intro w9 hSw
    obtain ⟨s0, s1, s2, s3, s4⟩ := hSw
    go_simp
  simp only [Act.put, List.setIfInBounds_toArray, List.set_cons_zero, List.set_cons_succ]
  refine wpAnyH_take (i := 2) (v := .agg #[.string F, .string T, .int .i64 (cx : Int), .slice a n c, .int .i64 (sx : Int)]) rfl (by kernel_rfl) (by kernel_rfl) (by kernel_rfl) (fun _ _ _ h => h) (Or.inl ⟨by kernel_rfl, ?_⟩) hHeld ?_
  · intro w9 hSw
    obtain ⟨s0, s1, s2, s3, s4⟩ := hSw
    go_simp
  simp only [Act.put, List.setIfInBounds_toArray, List.set_cons_zero, List.set_cons_succ]
  refine wpAnyH_take (i := 4) (v := .pointer (some ⟨w.heap.size, 4, none⟩)) rfl (by kernel_rfl) (by kernel_rfl) (by kernel_rfl) (fun _ _ _ h => h) (Or.inl ⟨by kernel_rfl, ?_⟩) hHeld ?_
  · intro w9 hSw
    obtain ⟨s0, s1, s2, s3, s4⟩ := hSw
    go_simp
  simp only [Act.put, List.setIfInBounds_toArray, List.set_cons_zero, List.set_cons_succ]
  refine wpAnyH_take (i := 5) (v := .int .i64 (sx : Int)) rfl (by kernel_rfl) (by kernel_rfl) (by kernel_rfl) (fun _ _ _ h => h) (Or.inl ⟨by kernel_rfl, ?_⟩) hHeld ?_
  · intro w9 hSw
    obtain ⟨s0, s1, s2, s3, s4⟩ := hSw
    go_simp
  simp only [Act.put, List.setIfInBounds_toArray, List.set_cons_zero, List.set_cons_succ]
  refine wpAnyH_ready (rs := [1]) (by kernel_rfl) (by simp) ?_
  refine AllReadyH.cons rfl (fun K hK => ?_) AllReadyH.nil
  go_simp
  refine (backupHead F T cx (sx : Int) a n c ((w.alloc (.cells #[.string F, .string T, .int .i64 (cx : Int), .slice a n c, .int .i64 (sx : Int)] 48)).drew) hF hT hc).mono ?_
  rw [HD.out]
  rintro e wa4 ⟨va4, rfl, o4, hb4⟩
  rw [L1.out] at o4
  obtain ⟨g4, c4, rfl, s4, _⟩ := own_src o4
  dsimp only
  have B5 : Hid (Below w.heap.size w (wa4)) := (B1.out.drew).trans (hb4.mono (B1.out.drew).size)
  have X6 : Hid (Box (wa4) w.heap.size [.string F, .string T, .int .i64 (cx : Int), .slice a n c, .int .i64 (sx : Int)]) := Box.below (w := (w.alloc (.cells #[.string F, .string T, .int .i64 (cx : Int), .slice a n c, .int .i64 (sx : Int)] 48)).drew) X2.out hb4
  have T7 : Hid (HasHalf (wa4)) := HasHalf.below (w := (w.alloc (.cells #[.string F, .string T, .int .i64 (cx : Int), .slice a n c, .int .i64 (sx : Int)] 48)).drew) T3.out hb4
  have H8 : Hid (Src (wa4) g4 (cellsB hd)) := s4
  clear o4 hb4 s4
  clear e0 e1 e2 e3 e4
  obtain ⟨e0, _⟩ := X6.out 0 _ rfl
  obtain ⟨e1, _⟩ := X6.out 1 _ rfl
  obtain ⟨e2, _⟩ := X6.out 2 _ rfl
  obtain ⟨e3, _⟩ := X6.out 3 _ rfl
  obtain ⟨e4, _⟩ := X6.out 4 _ rfl
  refine hK _ _ ⟨e0, e1, e2, e3, e4⟩ (fun hHeld => ?_)
  clear hK K
  refine wpAnyH_ready (rs := [3]) (by kernel_rfl) (by simp) ?_
  refine AllReadyH.cons rfl (fun K hK => ?_) AllReadyH.nil
  go_simp
  refine (backupParts F T (cx : Int) (sx : Int) a n c M (wa4) HM.out hn HS.out (Src.below (w := w) HH.out (B5.out))).mono ?_
  rw [PT.out, L2.out]
  rintro e wa9 ⟨va9, rfl, o9, hb9⟩
  obtain ⟨g9, c9, rfl, s9, _⟩ := own_src o9
  dsimp only
  have B10 : Hid (Below w.heap.size w (wa9)) := (B5.out).trans (hb9.mono (B5.out).size)
  have X11 : Hid (Box (wa9) w.heap.size [.string F, .string T, .int .i64 (cx : Int), .slice a n c, .int .i64 (sx : Int)]) := Box.below (w := wa4) X6.out hb9
  have T12 : Hid (HasHalf (wa9)) := HasHalf.below (w := wa4) T7.out hb9
  have H13 : Hid (Src (wa9) g4 (cellsB hd)) := Src.below (w := wa4) H8.out hb9
  have P14 : Hid (Src (wa9) g9 (cellsB pt)) := s9
  clear o9 hb9 s9
  clear e0 e1 e2 e3 e4
  obtain ⟨e0, _⟩ := X11.out 0 _ rfl
  obtain ⟨e1, _⟩ := X11.out 1 _ rfl
  obtain ⟨e2, _⟩ := X11.out 2 _ rfl
  obtain ⟨e3, _⟩ := X11.out 3 _ rfl
  obtain ⟨e4, _⟩ := X11.out 4 _ rfl
  refine hK _ _ ⟨e0, e1, e2, e3, e4⟩ (fun hHeld => ?_)
  clear hK K
  refine wpAnyH_ready (rs := [6]) (by kernel_rfl) (by simp) ?_
  refine AllReadyH.cons rfl (fun K hK => ?_) AllReadyH.nil
  go_simp
  refine (numberBytesV sx (wa9) hx).mono ?_
  rintro e wa15 ⟨va15, rfl, o15, hb15⟩
  obtain ⟨g15, c15, rfl, s15, _⟩ := own_src o15
  dsimp only
  have B16 : Hid (Below w.heap.size w (wa15)) := (B10.out).trans (hb15.mono (B10.out).size)
  have X17 : Hid (Box (wa15) w.heap.size [.string F, .string T, .int .i64 (cx : Int), .slice a n c, .int .i64 (sx : Int)]) := Box.below (w := wa9) X11.out hb15
  have T18 : Hid (HasHalf (wa15)) := HasHalf.below (w := wa9) T12.out hb15
  have H19 : Hid (Src (wa15) g4 (cellsB hd)) := Src.below (w := wa9) H13.out hb15
  have P20 : Hid (Src (wa15) g9 (cellsB pt)) := Src.below (w := wa9) P14.out hb15
  have N21 : Hid (Src (wa15) g15 (cellsB (numQ sx))) := s15
  clear o15 hb15 s15
  clear e0 e1 e2 e3 e4
  obtain ⟨e0, _⟩ := X17.out 0 _ rfl
  obtain ⟨e1, _⟩ := X17.out 1 _ rfl
  obtain ⟨e2, _⟩ := X17.out 2 _ rfl
  obtain ⟨e3, _⟩ := X17.out 3 _ rfl
  obtain ⟨e4, _⟩ := X17.out 4 _ rfl
  refine hK _ _ ⟨e0, e1, e2, e3, e4⟩ (fun hHeld => ?_)
  clear hK K
  refine wpAnyH_ready (rs := [7]) (by kernel_rfl) (by simp) ?_
  refine AllReadyH.cons rfl (fun K hK => ?_) AllReadyH.nil
  go_simp
  have B22 : Hid (Below w.heap.size w (((wa15).alloc (.cells #[.slice g4 l1 c4, .slice g9 l2 c9, .slice g15 4 c15] 43)))) := B16.out.alloc B16.out.size _
  have X23 : Hid (Box (((wa15).alloc (.cells #[.slice g4 l1 c4, .slice g9 l2 c9, .slice g15 4 c15] 43))) w.heap.size [.string F, .string T, .int .i64 (cx : Int), .slice a n c, .int .i64 (sx : Int)]) := Box.old (w := wa15) X17.out _
  have T24 : Hid (HasHalf (((wa15).alloc (.cells #[.slice g4 l1 c4, .slice g9 l2 c9, .slice g15 4 c15] 43)))) := HasHalf.below (w := wa15) T18.out ((Below.refl _ (wa15)).alloc (Nat.le_refl _) (.cells #[.slice g4 l1 c4, .slice g9 l2 c9, .slice g15 4 c15] 43))
  have H25 : Hid (Src (((wa15).alloc (.cells #[.slice g4 l1 c4, .slice g9 l2 c9, .slice g15 4 c15] 43))) g4 (cellsB hd)) := Src.below (w := wa15) H19.out ((Below.refl _ (wa15)).alloc (Nat.le_refl _) (.cells #[.slice g4 l1 c4, .slice g9 l2 c9, .slice g15 4 c15] 43))
  have P26 : Hid (Src (((wa15).alloc (.cells #[.slice g4 l1 c4, .slice g9 l2 c9, .slice g15 4 c15] 43))) g9 (cellsB pt)) := Src.below (w := wa15) P20.out ((Below.refl _ (wa15)).alloc (Nat.le_refl _) (.cells #[.slice g4 l1 c4, .slice g9 l2 c9, .slice g15 4 c15] 43))
  have N27 : Hid (Src (((wa15).alloc (.cells #[.slice g4 l1 c4, .slice g9 l2 c9, .slice g15 4 c15] 43))) g15 (cellsB (numQ sx))) := Src.below (w := wa15) N21.out ((Below.refl _ (wa15)).alloc (Nat.le_refl _) (.cells #[.slice g4 l1 c4, .slice g9 l2 c9, .slice g15 4 c15] 43))
  have O28 : Hid (Src (((wa15).alloc (.cells #[.slice g4 l1 c4, .slice g9 l2 c9, .slice g15 4 c15] 43))) (some ⟨wa15.heap.size, 0, none⟩) [.slice g4 l1 c4, .slice g9 l2 c9, .slice g15 4 c15]) := src_vals (w := wa15) (xs := [.slice g4 l1 c4, .slice g9 l2 c9, .slice g15 4 c15]) (by simp)
  clear e0 e1 e2 e3 e4
  obtain ⟨e0, _⟩ := X23.out 0 _ rfl
  obtain ⟨e1, _⟩ := X23.out 1 _ rfl
  obtain ⟨e2, _⟩ := X23.out 2 _ rfl
  obtain ⟨e3, _⟩ := X23.out 3 _ rfl
  obtain ⟨e4, _⟩ := X23.out 4 _ rfl
  refine hK _ _ ⟨e0, e1, e2, e3, e4⟩ (fun hHeld => ?_)
  clear hK K
  refine wpAnyH_ready (rs := [8]) (by kernel_rfl) (by simp) ?_
  refine AllReadyH.cons rfl (fun K hK => ?_) AllReadyH.nil
  have HRC : Hid (∀ i, i < 3 → ∃ a c, ([.slice g4 l1 c4, .slice g9 l2 c9, .slice g15 4 c15] : List Value).getD i undef = .slice a ((fun i => [hd, pt, numQ sx].getD i []) i).length c ∧ Src (((wa15).alloc (.cells #[.slice g4 l1 c4, .slice g9 l2 c9, .slice g15 4 c15] 43))) a (cellsB ((fun i => [hd, pt, numQ sx].getD i []) i))) := fun i hi => by
    match i, hi with
    | 0, _ => exact ⟨g4, c4, by show Value.slice g4 l1 c4 = Value.slice g4 (hd).length c4; rw [L1.out], H25.out⟩
    | 1, _ => exact ⟨g9, c9, by show Value.slice g9 l2 c9 = Value.slice g9 (pt).length c9; rw [L2.out], P26.out⟩
    | 2, _ => exact ⟨g15, c15, rfl, N27.out⟩
  have CC : Hid (Calls Tryd.prog 40 #[.slice (some ⟨wa15.heap.size, 0, none⟩) 3 3] (((wa15).alloc (.cells #[.slice g4 l1 c4, .slice g9 l2 c9, .slice g15 4 c15] 43))) fun e w' => ∃ v, e = .returned v ∧ w'.ownsRow (((wa15).alloc (.cells #[.slice g4 l1 c4, .slice g9 l2 c9, .slice g15 4 c15] 43))).heap.size 5 1 v tl (cellsB tot) ∧ Below (((wa15).alloc (.cells #[.slice g4 l1 c4, .slice g9 l2 c9, .slice g15 4 c15] 43))).heap.size (((wa15).alloc (.cells #[.slice g4 l1 c4, .slice g9 l2 c9, .slice g15 4 c15] 43))) w') := by
    have h9 := slicesConcat (some ⟨wa15.heap.size, 0, none⟩) 3 3 [.slice g4 l1 c4, .slice g9 l2 c9, .slice g15 4 c15] (fun i => [hd, pt, numQ sx].getD i []) (((wa15).alloc (.cells #[.slice g4 l1 c4, .slice g9 l2 c9, .slice g15 4 c15] 43))) rfl (by omega) (by rw [CT.out.1, CT.out.2]; omega) (by rw [CT.out.1, CT.out.2]; omega) O28.out HRC.out
    rw [CT.out.1, CT.out.2] at h9
    exact h9
  clear HRC
  go_simp
  refine CC.out.mono ?_
  rintro e wa29 ⟨va29, rfl, o29, hb29⟩
  obtain ⟨g29, c29, rfl, s29, _⟩ := own_src o29
  clear CC
  dsimp only
  have B30 : Hid (Below w.heap.size w (wa29)) := (B22.out).trans (hb29.mono (B22.out).size)
  have X31 : Hid (Box (wa29) w.heap.size [.string F, .string T, .int .i64 (cx : Int), .slice a n c, .int .i64 (sx : Int)]) := Box.below (w := ((wa15).alloc (.cells #[.slice g4 l1 c4, .slice g9 l2 c9, .slice g15 4 c15] 43))) X23.out hb29
  have T32 : Hid (HasHalf (wa29)) := HasHalf.below (w := ((wa15).alloc (.cells #[.slice g4 l1 c4, .slice g9 l2 c9, .slice g15 4 c15] 43))) T24.out hb29
  have H33 : Hid (Src (wa29) g4 (cellsB hd)) := Src.below (w := ((wa15).alloc (.cells #[.slice g4 l1 c4, .slice g9 l2 c9, .slice g15 4 c15] 43))) H25.out hb29
  have P34 : Hid (Src (wa29) g9 (cellsB pt)) := Src.below (w := ((wa15).alloc (.cells #[.slice g4 l1 c4, .slice g9 l2 c9, .slice g15 4 c15] 43))) P26.out hb29
  have N35 : Hid (Src (wa29) g15 (cellsB (numQ sx))) := Src.below (w := ((wa15).alloc (.cells #[.slice g4 l1 c4, .slice g9 l2 c9, .slice g15 4 c15] 43))) N27.out hb29
  have O36 : Hid (Src (wa29) (some ⟨wa15.heap.size, 0, none⟩) [.slice g4 l1 c4, .slice g9 l2 c9, .slice g15 4 c15]) := Src.below (w := ((wa15).alloc (.cells #[.slice g4 l1 c4, .slice g9 l2 c9, .slice g15 4 c15] 43))) O28.out hb29
  have C37 : Hid (World.ownsRow (wa29) (w.heap.size + 1) 5 1 (.slice g29 tl c29) tl (cellsB tot)) := own_mono o29 (show w.heap.size + 1 ≤ _ from World.block_lt_of_cell? _ _ (X23.out 0 _ rfl).1)
  have Cs38 : Hid (Src (wa29) g29 (cellsB tot)) := s29
  clear o29 hb29 s29
  clear e0 e1 e2 e3 e4
  obtain ⟨e0, _⟩ := X31.out 0 _ rfl
  obtain ⟨e1, _⟩ := X31.out 1 _ rfl
  obtain ⟨e2, _⟩ := X31.out 2 _ rfl
  obtain ⟨e3, _⟩ := X31.out 3 _ rfl
  obtain ⟨e4, _⟩ := X31.out 4 _ rfl
  refine hK _ _ ⟨e0, e1, e2, e3, e4⟩ (fun hHeld => ?_)
  clear hK K
  refine wpAnyH_ready (rs := [9]) (by kernel_rfl) (by simp) ?_
  refine AllReadyH.cons rfl (fun K hK => ?_) AllReadyH.nil
  go_simp
  refine (check32L g29 tl c29 tot (wa29) CT.out.2 (by omega) LT.out Cs38.out T32.out).mono ?_
  rw [SM.out]
  rintro e wa39 ⟨rfl, hw39⟩
  obtain rfl := hw39.symm
  dsimp only
  clear e0 e1 e2 e3 e4
  obtain ⟨e0, _⟩ := X31.out 0 _ rfl
  obtain ⟨e1, _⟩ := X31.out 1 _ rfl
  obtain ⟨e2, _⟩ := X31.out 2 _ rfl
  obtain ⟨e3, _⟩ := X31.out 3 _ rfl
  obtain ⟨e4, _⟩ := X31.out 4 _ rfl
  refine hK _ _ ⟨e0, e1, e2, e3, e4⟩ (fun hHeld => ?_)
  clear hK K
  refine wpAnyH_ready (rs := [10]) (by kernel_rfl) (by simp) ?_
  refine AllReadyH.cons rfl (fun K hK => ?_) AllReadyH.nil
  go_simp
  clear e0 e1 e2 e3 e4
  obtain ⟨e0, _⟩ := X31.out 0 _ rfl
  obtain ⟨e1, _⟩ := X31.out 1 _ rfl
  obtain ⟨e2, _⟩ := X31.out 2 _ rfl
  obtain ⟨e3, _⟩ := X31.out 3 _ rfl
  obtain ⟨e4, _⟩ := X31.out 4 _ rfl
  refine hK _ _ ⟨e0, e1, e2, e3, e4⟩ (fun hHeld => ?_)
  clear hK K
  refine wpAnyH_done (by kernel_rfl) ?_ _
  refine NoPanic.normal ?_
  clear e0 e1 e2 e3 e4
  clear hHeld
  go_wp2_with fail
  go_ret
  exact ⟨rfl, B30.out⟩
end Go.Proofs.YtlkobhighhkmoaaDoor
