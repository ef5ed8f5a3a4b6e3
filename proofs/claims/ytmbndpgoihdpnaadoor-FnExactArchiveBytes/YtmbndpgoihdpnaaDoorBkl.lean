
/-
  The link of a backup and its bytes, by the program. By an AI agent.
-/
import Derived.Test.YtmbndpgoihdpnaaDoorBkh
namespace Go.Proofs.YtmbndpgoihdpnaaDoor
open Go.ChangeShapes Go.WideShapes Go.ChangeAt Go.RowKit Go.Deep
set_option linter.unusedVariables false
set_option linter.unusedSimpArgs false
set_option maxRecDepth 100000

theorem src_vals {w : World} {xs : List Value} {B ty : Nat} (hB : B = w.heap.size) : Src (w.alloc (.cells xs.toArray ty)) (some ⟨B, 0, none⟩) xs := by
  have hb : Box (w.alloc (.cells xs.toArray ty)) B xs := Box.new hB
  refine .inr ⟨B, 0, rfl, fun j hj => ?_⟩
  rw [Nat.zero_add]
  refine (hb j _ ?_).1
  rw [List.getElem?_eq_getElem hj, List.getD_eq_getElem?_getD, List.getElem?_eq_getElem hj]
  rfl
set_option maxHeartbeats 4000000 in
theorem backupLink (F T : ByteArray) (cx sx : Nat) (a : Option Addr) (n c : Nat) (M : List MDf) (w : World) (hF : F.size ≤ 8) (hT : T.size ≤ 8) (hc : cx < 4294967296) (hx : sx < 4294967296) (hM : M.length = n) (hn : n ≤ 120) (hs : ∀ p ∈ M, p.1.size ≤ 90 ∧ p.2.1.size ≤ 90 ∧ p.2.2.1.size ≤ 90) (h : Src w a (cellsDf M)) (hH : HasHalf w) :
    Calls Tryd.prog 47 #[.agg #[.string F, .string T, .int .i64 (cx : Int), .slice a n c, .int .i64 (sx : Int)]] w fun e w' => e = .returned (.int .i64 ((sumL (numQ cx ++ fieldsB [F, T] ++ partsB M ++ numQ sx) : Nat) : Int)) ∧ Below w.heap.size w w' := by
  have HS : Hid (∀ p ∈ M, p.1.size ≤ 90 ∧ p.2.1.size ≤ 90 ∧ p.2.2.1.size ≤ 90) := hs
  have HH : Hid (Src w a (cellsDf M)) := h
  have HM : Hid (M.length = n) := hM
  have HT9 : Hid (HasHalf w) := hH
  obtain ⟨hd, hhd⟩ : ∃ x, numQ cx ++ fieldsB [F, T] = x := ⟨_, rfl⟩
  have HD : Hid (numQ cx ++ fieldsB [F, T] = hd) := hhd
  obtain ⟨pt, hpt⟩ : ∃ x, partsB M = x := ⟨_, rfl⟩
  have PT : Hid (partsB M = pt) := hpt
  obtain ⟨l1, hl1⟩ : ∃ l, hd.length = l := ⟨_, rfl⟩
  have L1 : Hid (hd.length = l1) := hl1
  obtain ⟨l2, hl2⟩ : ∃ l, pt.length = l := ⟨_, rfl⟩
  have L2 : Hid (pt.length = l2) := hl2
  have hl1b : l1 ≤ 25 ∧ 0 < l1 := by
    rw [← hl1, ← hhd, List.length_append, two_len]
    have h4 : (numQ cx).length = 4 := rfl
    omega
  have hl2b : l2 ≤ 33360 := by
    rw [← hl2, ← hpt]
    have h9 := partsB_len M n hs
    rw [List.take_of_length_le (by omega)] at h9
    omega
  have LT1 : Hid (∀ x ∈ hd, x < 256) := fun x hx9 => by
    rw [← hhd, List.mem_append] at hx9
    rcases hx9 with h9 | h9
    · exact numQ_lt _ x h9
    · exact fieldsB_ltP _ x h9
  have LT2 : Hid (∀ x ∈ pt, x < 256) := fun x hx9 => by rw [← hpt] at hx9; exact partsB_lt M x hx9
  rw [hhd, hpt]
  obtain ⟨tot, htot⟩ : ∃ x, hd ++ pt ++ numQ sx = x := ⟨_, rfl⟩
  obtain ⟨tl, htl⟩ : ∃ x, tot.length = x := ⟨_, rfl⟩
  have htl9 : tl ≤ 40000 ∧ 0 < tl := by
    have h9 : tl = l1 + l2 + 4 := by rw [← htl, ← htot, List.length_append, List.length_append, hl1, hl2]; rfl
    omega
  have CT : Hid (catB (fun i => [hd, pt, numQ sx].getD i []) 3 = tot ∧ tot.length = tl) := ⟨by rw [← htot]; simp [catB, List.range_succ], htl⟩
  have LT : Hid (∀ x ∈ tot, x < 256) := fun x hx9 => by
    rw [← htot, List.mem_append, List.mem_append] at hx9
    rcases hx9 with (h9 | h9) | h9
    · exact LT1.out x h9
    · exact LT2.out x h9
    · exact numQ_lt _ x h9
  rw [htot]
  obtain ⟨sm, hsm⟩ : ∃ s, sumL tot = s := ⟨_, rfl⟩
  have SM : Hid (sumL tot = sm) := hsm
  rw [hsm]
  clear hs h hM hH hhd hpt hl1 hl2 htot htl hsm
  go_enter Tryd.func47, Tryd.ntmps47
  go_wp2_with fail
  have B39 : Hid (Below w.heap.size w (w.alloc (.cells #[.string F, .string T, .int .i64 (cx : Int), .slice a n c, .int .i64 (sx : Int)] 37))) := (Below.refl _ _).alloc (Nat.le_refl _) _
  have X40 : Hid (Box ((w.alloc (.cells #[.string F, .string T, .int .i64 (cx : Int), .slice a n c, .int .i64 (sx : Int)] 37)).drew) w.heap.size [.string F, .string T, .int .i64 (cx : Int), .slice a n c, .int .i64 (sx : Int)]) := Box.new (w := w) rfl
  have T41 : Hid (HasHalf ((w.alloc (.cells #[.string F, .string T, .int .i64 (cx : Int), .slice a n c, .int .i64 (sx : Int)] 37)).drew)) := HasHalf.below (w := w) HT9.out (((Below.refl _ _).alloc (Nat.le_refl _) _).drew)
  obtain ⟨e0, _⟩ := X40.out 0 _ rfl
  obtain ⟨e1, _⟩ := X40.out 1 _ rfl
  obtain ⟨e2, _⟩ := X40.out 2 _ rfl
  obtain ⟨e3, _⟩ := X40.out 3 _ rfl
  obtain ⟨e4, _⟩ := X40.out 4 _ rfl
  refine wp_region_noPanic ?_
  refine wp_region_held_drew (S := (fun w' => w'.cell? ⟨w.heap.size, 0, none⟩ = some (.string F) ∧ w'.cell? ⟨w.heap.size, 1, none⟩ = some (.string T) ∧ w'.cell? ⟨w.heap.size, 2, none⟩ = some (.int .i64 (cx : Int)) ∧ w'.cell? ⟨w.heap.size, 3, none⟩ = some (.slice a n c) ∧ w'.cell? ⟨w.heap.size, 4, none⟩ = some (.int .i64 (sx : Int)))) (by kernel_rfl) ⟨e0, e1, e2, e3, e4⟩ (fun hHeld => ?_)
  refine wpAnyH_take (i := 0) (v := .agg #[.string F, .string T, .int .i64 (cx : Int), .slice a n c, .int .i64 (sx : Int)]) rfl (by kernel_rfl) (by kernel_rfl) (by kernel_rfl) (fun _ _ _ h => h) (Or.inl ⟨by kernel_rfl, ?_⟩) hHeld ?_
  · intro w9 hSw
    obtain ⟨s0, s1, s2, s3, s4⟩ := hSw
    go_simp
  simp only [Act.put, List.setIfInBounds_toArray, List.set_cons_zero, List.set_cons_succ]
  refine wpAnyH_take (i := 2) (v := .agg #[.string F, .string T, .int .i64 (cx : Int), .slice a n c, .int .i64 (sx : Int)]) rfl (by kernel_rfl) (by kernel_rfl) (by kernel_rfl) (fun _ _ _ h => h) (Or.inl ⟨by kernel_rfl, ?_⟩) hHeld ?_
  · intro w9 hSw
    obtain ⟨s0, s1, s2, s3, s4⟩ := hSw
    go_simp
  simp only [Act.put, List.setIfInBounds_toArray, List.set_cons_zero, List.set_cons_succ]
  refine wpAnyH_take (i := 4) (v := .pointer (some ⟨w.heap.size, 4, none⟩)) rfl (by kernel_rfl) (by kernel_rfl) (by kernel_rfl) (fun _ _ _ h => h) (Or.inl ⟨by kernel_rfl, ?_⟩) hHeld ?_
  · intro w9 hSw
    obtain ⟨s0, s1, s2, s3, s4⟩ := hSw
    go_simp
  simp only [Act.put, List.setIfInBounds_toArray, List.set_cons_zero, List.set_cons_succ]
  refine wpAnyH_take (i := 5) (v := .int .i64 (sx : Int)) rfl (by kernel_rfl) (by kernel_rfl) (by kernel_rfl) (fun _ _ _ h => h) (Or.inl ⟨by kernel_rfl, ?_⟩) hHeld ?_
  · intro w9 hSw
    obtain ⟨s0, s1, s2, s3, s4⟩ := hSw
    go_simp
  simp only [Act.put, List.setIfInBounds_toArray, List.set_cons_zero, List.set_cons_succ]
  refine wpAnyH_ready (rs := [1]) (by kernel_rfl) (by simp) ?_
  refine AllReadyH.cons rfl (fun K hK => ?_) AllReadyH.nil
  go_simp
  refine (backupHead F T cx (sx : Int) a n c ((w.alloc (.cells #[.string F, .string T, .int .i64 (cx : Int), .slice a n c, .int .i64 (sx : Int)] 37)).drew) hF hT hc).mono ?_
  rw [HD.out]
  rintro e wa42 ⟨va42, rfl, o42, hb42⟩
  rw [L1.out] at o42
  obtain ⟨g42, c42, rfl, s42, _⟩ := own_src o42
  dsimp only
  have B43 : Hid (Below w.heap.size w (wa42)) := (B39.out.drew).trans (hb42.mono (B39.out.drew).size)
  have X44 : Hid (Box (wa42) w.heap.size [.string F, .string T, .int .i64 (cx : Int), .slice a n c, .int .i64 (sx : Int)]) := Box.below (w := (w.alloc (.cells #[.string F, .string T, .int .i64 (cx : Int), .slice a n c, .int .i64 (sx : Int)] 37)).drew) X40.out hb42
  have T45 : Hid (HasHalf (wa42)) := HasHalf.below (w := (w.alloc (.cells #[.string F, .string T, .int .i64 (cx : Int), .slice a n c, .int .i64 (sx : Int)] 37)).drew) T41.out hb42
  have H46 : Hid (Src (wa42) g42 (cellsB hd)) := s42
  clear o42 hb42 s42
  clear e0 e1 e2 e3 e4
  obtain ⟨e0, _⟩ := X44.out 0 _ rfl
  obtain ⟨e1, _⟩ := X44.out 1 _ rfl
  obtain ⟨e2, _⟩ := X44.out 2 _ rfl
  obtain ⟨e3, _⟩ := X44.out 3 _ rfl
  obtain ⟨e4, _⟩ := X44.out 4 _ rfl
  refine hK _ _ ⟨e0, e1, e2, e3, e4⟩ (fun hHeld => ?_)
  clear hK K
  refine wpAnyH_ready (rs := [3]) (by kernel_rfl) (by simp) ?_
  refine AllReadyH.cons rfl (fun K hK => ?_) AllReadyH.nil
  go_simp
  refine (backupParts F T (cx : Int) (sx : Int) a n c M (wa42) HM.out hn HS.out (Src.below (w := w) HH.out (B43.out))).mono ?_
  rw [PT.out, L2.out]
  rintro e wa47 ⟨va47, rfl, o47, hb47⟩
  obtain ⟨g47, c47, rfl, s47, _⟩ := own_src o47
  dsimp only
  have B48 : Hid (Below w.heap.size w (wa47)) := (B43.out).trans (hb47.mono (B43.out).size)
  have X49 : Hid (Box (wa47) w.heap.size [.string F, .string T, .int .i64 (cx : Int), .slice a n c, .int .i64 (sx : Int)]) := Box.below (w := wa42) X44.out hb47
  have T50 : Hid (HasHalf (wa47)) := HasHalf.below (w := wa42) T45.out hb47
  have H51 : Hid (Src (wa47) g42 (cellsB hd)) := Src.below (w := wa42) H46.out hb47
  have P52 : Hid (Src (wa47) g47 (cellsB pt)) := s47
  clear o47 hb47 s47
  clear e0 e1 e2 e3 e4
  obtain ⟨e0, _⟩ := X49.out 0 _ rfl
  obtain ⟨e1, _⟩ := X49.out 1 _ rfl
  obtain ⟨e2, _⟩ := X49.out 2 _ rfl
  obtain ⟨e3, _⟩ := X49.out 3 _ rfl
  obtain ⟨e4, _⟩ := X49.out 4 _ rfl
  refine hK _ _ ⟨e0, e1, e2, e3, e4⟩ (fun hHeld => ?_)
  clear hK K
  refine wpAnyH_ready (rs := [6]) (by kernel_rfl) (by simp) ?_
  refine AllReadyH.cons rfl (fun K hK => ?_) AllReadyH.nil
  go_simp
  refine (numberBytesV sx (wa47) hx).mono ?_
  rintro e wa53 ⟨va53, rfl, o53, hb53⟩
  obtain ⟨g53, c53, rfl, s53, _⟩ := own_src o53
  dsimp only
  have B54 : Hid (Below w.heap.size w (wa53)) := (B48.out).trans (hb53.mono (B48.out).size)
  have X55 : Hid (Box (wa53) w.heap.size [.string F, .string T, .int .i64 (cx : Int), .slice a n c, .int .i64 (sx : Int)]) := Box.below (w := wa47) X49.out hb53
  have T56 : Hid (HasHalf (wa53)) := HasHalf.below (w := wa47) T50.out hb53
  have H57 : Hid (Src (wa53) g42 (cellsB hd)) := Src.below (w := wa47) H51.out hb53
  have P58 : Hid (Src (wa53) g47 (cellsB pt)) := Src.below (w := wa47) P52.out hb53
  have N59 : Hid (Src (wa53) g53 (cellsB (numQ sx))) := s53
  clear o53 hb53 s53
  clear e0 e1 e2 e3 e4
  obtain ⟨e0, _⟩ := X55.out 0 _ rfl
  obtain ⟨e1, _⟩ := X55.out 1 _ rfl
  obtain ⟨e2, _⟩ := X55.out 2 _ rfl
  obtain ⟨e3, _⟩ := X55.out 3 _ rfl
  obtain ⟨e4, _⟩ := X55.out 4 _ rfl
  refine hK _ _ ⟨e0, e1, e2, e3, e4⟩ (fun hHeld => ?_)
  clear hK K
  refine wpAnyH_ready (rs := [7]) (by kernel_rfl) (by simp) ?_
  refine AllReadyH.cons rfl (fun K hK => ?_) AllReadyH.nil
  go_simp
  have B60 : Hid (Below w.heap.size w (((wa53).alloc (.cells #[.slice g42 l1 c42, .slice g47 l2 c47, .slice g53 4 c53] 34)))) := B54.out.alloc B54.out.size _
  have X61 : Hid (Box (((wa53).alloc (.cells #[.slice g42 l1 c42, .slice g47 l2 c47, .slice g53 4 c53] 34))) w.heap.size [.string F, .string T, .int .i64 (cx : Int), .slice a n c, .int .i64 (sx : Int)]) := Box.old (w := wa53) X55.out _
  have T62 : Hid (HasHalf (((wa53).alloc (.cells #[.slice g42 l1 c42, .slice g47 l2 c47, .slice g53 4 c53] 34)))) := HasHalf.below (w := wa53) T56.out (((Below.refl _ (wa53)).alloc (Nat.le_refl _) (.cells #[.slice g42 l1 c42, .slice g47 l2 c47, .slice g53 4 c53] 34)))
  have H63 : Hid (Src (((wa53).alloc (.cells #[.slice g42 l1 c42, .slice g47 l2 c47, .slice g53 4 c53] 34))) g42 (cellsB hd)) := Src.below (w := wa53) H57.out (((Below.refl _ (wa53)).alloc (Nat.le_refl _) (.cells #[.slice g42 l1 c42, .slice g47 l2 c47, .slice g53 4 c53] 34)))
  have P64 : Hid (Src (((wa53).alloc (.cells #[.slice g42 l1 c42, .slice g47 l2 c47, .slice g53 4 c53] 34))) g47 (cellsB pt)) := Src.below (w := wa53) P58.out (((Below.refl _ (wa53)).alloc (Nat.le_refl _) (.cells #[.slice g42 l1 c42, .slice g47 l2 c47, .slice g53 4 c53] 34)))
  have N65 : Hid (Src (((wa53).alloc (.cells #[.slice g42 l1 c42, .slice g47 l2 c47, .slice g53 4 c53] 34))) g53 (cellsB (numQ sx))) := Src.below (w := wa53) N59.out (((Below.refl _ (wa53)).alloc (Nat.le_refl _) (.cells #[.slice g42 l1 c42, .slice g47 l2 c47, .slice g53 4 c53] 34)))
  have O66 : Hid (Src (((wa53).alloc (.cells #[.slice g42 l1 c42, .slice g47 l2 c47, .slice g53 4 c53] 34))) (some ⟨wa53.heap.size, 0, none⟩) [.slice g42 l1 c42, .slice g47 l2 c47, .slice g53 4 c53]) := src_vals (w := wa53) (xs := [.slice g42 l1 c42, .slice g47 l2 c47, .slice g53 4 c53]) (by simp)
  clear e0 e1 e2 e3 e4
  obtain ⟨e0, _⟩ := X61.out 0 _ rfl
  obtain ⟨e1, _⟩ := X61.out 1 _ rfl
  obtain ⟨e2, _⟩ := X61.out 2 _ rfl
  obtain ⟨e3, _⟩ := X61.out 3 _ rfl
  obtain ⟨e4, _⟩ := X61.out 4 _ rfl
  refine hK _ _ ⟨e0, e1, e2, e3, e4⟩ (fun hHeld => ?_)
  clear hK K
  refine wpAnyH_ready (rs := [8]) (by kernel_rfl) (by simp) ?_
  refine AllReadyH.cons rfl (fun K hK => ?_) AllReadyH.nil
  have HRC : Hid (∀ i, i < 3 → ∃ a c, ([.slice g42 l1 c42, .slice g47 l2 c47, .slice g53 4 c53] : List Value).getD i undef = .slice a ((fun i => [hd, pt, numQ sx].getD i []) i).length c ∧ Src (((wa53).alloc (.cells #[.slice g42 l1 c42, .slice g47 l2 c47, .slice g53 4 c53] 34))) a (cellsB ((fun i => [hd, pt, numQ sx].getD i []) i))) := fun i hi => by
    match i, hi with
    | 0, _ => exact ⟨g42, c42, by show Value.slice g42 l1 c42 = Value.slice g42 (hd).length c42; rw [L1.out], H63.out⟩
    | 1, _ => exact ⟨g47, c47, by show Value.slice g47 l2 c47 = Value.slice g47 (pt).length c47; rw [L2.out], P64.out⟩
    | 2, _ => exact ⟨g53, c53, rfl, N65.out⟩
  have CC : Hid (Calls Tryd.prog 43 #[.slice (some ⟨wa53.heap.size, 0, none⟩) 3 3] (((wa53).alloc (.cells #[.slice g42 l1 c42, .slice g47 l2 c47, .slice g53 4 c53] 34))) fun e w' => ∃ v, e = .returned v ∧ w'.ownsRow (((wa53).alloc (.cells #[.slice g42 l1 c42, .slice g47 l2 c47, .slice g53 4 c53] 34))).heap.size 5 1 v tl (cellsB tot) ∧ Below (((wa53).alloc (.cells #[.slice g42 l1 c42, .slice g47 l2 c47, .slice g53 4 c53] 34))).heap.size (((wa53).alloc (.cells #[.slice g42 l1 c42, .slice g47 l2 c47, .slice g53 4 c53] 34))) w') := by
    have h9 := slicesConcat (some ⟨wa53.heap.size, 0, none⟩) 3 3 [.slice g42 l1 c42, .slice g47 l2 c47, .slice g53 4 c53] (fun i => [hd, pt, numQ sx].getD i []) (((wa53).alloc (.cells #[.slice g42 l1 c42, .slice g47 l2 c47, .slice g53 4 c53] 34))) rfl (by omega) (by rw [CT.out.1, CT.out.2]; omega) (by rw [CT.out.1, CT.out.2]; omega) O66.out HRC.out
    rw [CT.out.1, CT.out.2] at h9
    exact h9
  clear HRC
  go_simp
  refine CC.out.mono ?_
  rintro e wa67 ⟨va67, rfl, o67, hb67⟩
  obtain ⟨g67, c67, rfl, s67, _⟩ := own_src o67
  clear CC
  dsimp only
  have B68 : Hid (Below w.heap.size w (wa67)) := (B60.out).trans (hb67.mono (B60.out).size)
  have X69 : Hid (Box (wa67) w.heap.size [.string F, .string T, .int .i64 (cx : Int), .slice a n c, .int .i64 (sx : Int)]) := Box.below (w := ((wa53).alloc (.cells #[.slice g42 l1 c42, .slice g47 l2 c47, .slice g53 4 c53] 34))) X61.out hb67
  have T70 : Hid (HasHalf (wa67)) := HasHalf.below (w := ((wa53).alloc (.cells #[.slice g42 l1 c42, .slice g47 l2 c47, .slice g53 4 c53] 34))) T62.out hb67
  have H71 : Hid (Src (wa67) g42 (cellsB hd)) := Src.below (w := ((wa53).alloc (.cells #[.slice g42 l1 c42, .slice g47 l2 c47, .slice g53 4 c53] 34))) H63.out hb67
  have P72 : Hid (Src (wa67) g47 (cellsB pt)) := Src.below (w := ((wa53).alloc (.cells #[.slice g42 l1 c42, .slice g47 l2 c47, .slice g53 4 c53] 34))) P64.out hb67
  have N73 : Hid (Src (wa67) g53 (cellsB (numQ sx))) := Src.below (w := ((wa53).alloc (.cells #[.slice g42 l1 c42, .slice g47 l2 c47, .slice g53 4 c53] 34))) N65.out hb67
  have O74 : Hid (Src (wa67) (some ⟨wa53.heap.size, 0, none⟩) [.slice g42 l1 c42, .slice g47 l2 c47, .slice g53 4 c53]) := Src.below (w := ((wa53).alloc (.cells #[.slice g42 l1 c42, .slice g47 l2 c47, .slice g53 4 c53] 34))) O66.out hb67
  have C75 : Hid (World.ownsRow (wa67) (w.heap.size + 1) 5 1 (.slice g67 tl c67) tl (cellsB tot)) := own_mono o67 (show w.heap.size + 1 ≤ _ from World.block_lt_of_cell? _ _ (X61.out 0 _ rfl).1)
  have Cs76 : Hid (Src (wa67) g67 (cellsB tot)) := s67
  clear o67 hb67 s67
  clear e0 e1 e2 e3 e4
  obtain ⟨e0, _⟩ := X69.out 0 _ rfl
  obtain ⟨e1, _⟩ := X69.out 1 _ rfl
  obtain ⟨e2, _⟩ := X69.out 2 _ rfl
  obtain ⟨e3, _⟩ := X69.out 3 _ rfl
  obtain ⟨e4, _⟩ := X69.out 4 _ rfl
  refine hK _ _ ⟨e0, e1, e2, e3, e4⟩ (fun hHeld => ?_)
  clear hK K
  refine wpAnyH_ready (rs := [9]) (by kernel_rfl) (by simp) ?_
  refine AllReadyH.cons rfl (fun K hK => ?_) AllReadyH.nil
  go_simp
  refine (check32L g67 tl c67 tot (wa67) CT.out.2 (by omega) LT.out Cs76.out T70.out).mono ?_
  rw [SM.out]
  rintro e wa77 ⟨rfl, hw77⟩
  obtain rfl := hw77.symm
  dsimp only
  clear e0 e1 e2 e3 e4
  obtain ⟨e0, _⟩ := X69.out 0 _ rfl
  obtain ⟨e1, _⟩ := X69.out 1 _ rfl
  obtain ⟨e2, _⟩ := X69.out 2 _ rfl
  obtain ⟨e3, _⟩ := X69.out 3 _ rfl
  obtain ⟨e4, _⟩ := X69.out 4 _ rfl
  refine hK _ _ ⟨e0, e1, e2, e3, e4⟩ (fun hHeld => ?_)
  clear hK K
  refine wpAnyH_ready (rs := [10]) (by kernel_rfl) (by simp) ?_
  refine AllReadyH.cons rfl (fun K hK => ?_) AllReadyH.nil
  go_simp
  clear e0 e1 e2 e3 e4
  obtain ⟨e0, _⟩ := X69.out 0 _ rfl
  obtain ⟨e1, _⟩ := X69.out 1 _ rfl
  obtain ⟨e2, _⟩ := X69.out 2 _ rfl
  obtain ⟨e3, _⟩ := X69.out 3 _ rfl
  obtain ⟨e4, _⟩ := X69.out 4 _ rfl
  refine hK _ _ ⟨e0, e1, e2, e3, e4⟩ (fun hHeld => ?_)
  clear hK K
  refine wpAnyH_done (by kernel_rfl) ?_ _
  refine NoPanic.normal ?_
  clear e0 e1 e2 e3 e4
  clear hHeld
  go_wp2_with fail
  go_ret
  exact ⟨rfl, B68.out⟩
end Go.Proofs.YtmbndpgoihdpnaaDoor
