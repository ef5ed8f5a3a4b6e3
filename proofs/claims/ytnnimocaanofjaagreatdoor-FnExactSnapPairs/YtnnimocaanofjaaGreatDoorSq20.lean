/-
  Texts of the store, brought together: Uns, Soks. By an AI agent.
-/
import Derived.Test.YtnnimocaanofjaaGreatDoorSq18
import Derived.Lib.ConvBytes
namespace Go.Proofs.YtnnimocaanofjaaGreatDoor
open Go.ChangeShapes Go.WideShapes Go.ChangeAt Go.RowKit Go.Deep
set_option linter.unusedVariables false
set_option linter.unusedSimpArgs false
set_option maxRecDepth 100000
open List (setIfInBounds_toArray set_cons_zero set_cons_succ)
def bodyB (B : List Nat) : List Nat := B.take (B.length - 4)
def tailB (B : List Nat) : List Nat := B.drop (B.length - 4)
def sealedB (B : List Nat) : Bool := decide (4 ≤ B.length) && decide (sealB (bodyB B) = B)
theorem strB_inj {L M : List Nat} (hL : ∀ x ∈ L, x < 256) (hM : ∀ x ∈ M, x < 256) (h : strB L = strB M) : L = M := by
  rw [← bytes_strB L hL, ← bytes_strB M hM, h]
theorem numQ_numOf (s : Nat) (hs : s < 4294967296) : numOf (numQ s) = s := by
  simp [numOf, numQ]; omega
theorem numOf_inj {T : List Nat} (hT : T.length = 4) (h8 : ∀ x ∈ T, x < 256) : numQ (numOf T) = T := by
  match T, hT with
  | [a, b, c, d], _ =>
    have h1 := h8 a (by simp)
    have h2 := h8 b (by simp)
    have h3 := h8 c (by simp)
    have h4 := h8 d (by simp)
    simp [numOf, numQ]
    omega
theorem sealed_iff {B : List Nat} (h4 : 4 ≤ B.length) (h8 : ∀ x ∈ B, x < 256) : sealedB B = decide (sumL (bodyB B) = numOf (tailB B)) := by
  unfold sealedB
  rw [decide_eq_true h4, Bool.true_and]
  have e1 : bodyB B ++ tailB B = B := List.take_append_drop _ _
  have hT : (tailB B).length = 4 := by unfold tailB; rw [List.length_drop]; omega
  have hT8 : ∀ x ∈ tailB B, x < 256 := fun x hx => h8 x (List.mem_of_mem_drop hx)
  rw [Bool.eq_iff_iff, decide_eq_true_eq, decide_eq_true_eq]
  constructor
  · intro h
    have h1 : bodyB B ++ numQ (sumL (bodyB B)) = bodyB B ++ tailB B := by rw [e1]; exact h
    have h2 := List.append_cancel_left h1
    rw [← h2, numQ_numOf _ (sumL_lt _)]
  · intro h
    unfold sealB
    rw [h, numOf_inj hT hT8, e1]
theorem texts_is (x y : ByteArray) : (x.toList == y.toList) = decide (x = y) := by
  by_cases h : x = y
  · subst h; simp
  · rw [decide_eq_false h]
    cases e : (x.toList == y.toList) with
    | false => rfl
    | true =>
      have h1 := eq_of_beq e
      rw [Lib.toList_data, Lib.toList_data] at h1
      exact absurd (ba_ext h1) h
set_option maxHeartbeats 1000000 in
theorem bytesEqual (b1 o1 c b2 o2 d n m : Nat) (L M : List Nat) (w : World) (hL : L.length = n) (hM : M.length = m) (hL8 : ∀ x ∈ L, x < 256) (hM8 : ∀ x ∈ M, x < 256) (h1 : Src w (some ⟨b1, o1, none⟩) (cellsB L)) (h2 : Src w (some ⟨b2, o2, none⟩) (cellsB M)) :
    Calls Tryz.prog 171 #[.slice (some ⟨b1, o1, none⟩) n c, .slice (some ⟨b2, o2, none⟩) m d] w fun e w' => e = .returned (.bool (decide (L = M))) ∧ w = w' := by
  have k1 : (convert 74 9 (.slice (some ⟨b1, o1, none⟩) n c)).run Tryz.prog w = .ok (.string (strB L)) w := by
    have h9 := conv_sub (c := c) h1 (s := n) (by omega)
    rwa [List.take_of_length_le (by omega)] at h9
  have k2 : (convert 74 9 (.slice (some ⟨b2, o2, none⟩) m d)).run Tryz.prog w = .ok (.string (strB M)) w := by
    have h9 := conv_sub (c := d) h2 (s := m) (by omega)
    rwa [List.take_of_length_le (by omega)] at h9
  obtain ⟨s, hs⟩ : ∃ s, strB L = s := ⟨_, rfl⟩
  obtain ⟨t, ht⟩ : ∃ t, strB M = t := ⟨_, rfl⟩
  rw [hs] at k1
  rw [ht] at k2
  have EQ : Hid (decide (L = M) = decide (s = t)) := by
    show _ = _
    rw [← hs, ← ht, Bool.eq_iff_iff, decide_eq_true_eq, decide_eq_true_eq]
    exact ⟨fun h => by rw [h], fun h => strB_inj hL8 hM8 h⟩
  clear h1 h2 hs ht
  go_enter Tryz.func171, Tryz.ntmps171
  go_wp2_with fail
  go_ret
  exact ⟨ret_bool (by rw [EQ.out, texts_is]), rfl⟩
set_option maxHeartbeats 1000000 in
theorem unsealed (b o n c : Nat) (B : List Nat) (w : World) (hB : B.length = n) (hn : n ≤ 65536) (hc : n ≤ c) (h8 : ∀ x ∈ B, x < 256) (h : Src w (some ⟨b, o, none⟩) (cellsB B)) (hH : HasHalf w) :
    Calls Tryz.prog 155 #[.slice (some ⟨b, o, none⟩) n c] w fun e w' => (∃ u, e = .returned (.tuple #[u, .bool (sealedB B)]) ∧ (sealedB B = true → u = .slice (some ⟨b, o, none⟩) (n - 4) c)) ∧ Below w.heap.size w w' := by
  by_cases t1 : (n : Int) < 4
  · have F : Hid (sealedB B = false) := by show _ = false; unfold sealedB; rw [decide_eq_false (by omega)]; rfl
    rw [F.out]
    go_enter Tryz.func155, Tryz.ntmps155
    go_wp2_with fail
    go_ret2
    exact ⟨⟨_, rfl, fun h => by cases h⟩, Below.refl _ _⟩
  have hbl : Hid ((bodyB B).length = n - 4 ∧ (∀ x ∈ bodyB B, x < 256) ∧ Src w (some ⟨b, o, none⟩) (cellsB (bodyB B))) := by
    refine ⟨by unfold bodyB; rw [List.length_take]; omega, fun x hx => h8 x (List.mem_of_mem_take hx), ?_⟩
    rcases h with h | ⟨b', o', e, hcs⟩
    · have h2 := cellsB_length B
      rw [h] at h2
      simp only [List.length_nil] at h2
      omega
    · cases e
      refine .inr ⟨b, o, rfl, fun j hj => ?_⟩
      have hj2 : j < n - 4 := by rw [cellsB_length] at hj; unfold bodyB at hj; rw [List.length_take] at hj; omega
      rw [hcs j (by rw [cellsB_length]; omega), getD_some (cellsB_get B j (by omega)), getD_some (cellsB_get (bodyB B) j (by rw [cellsB_length] at hj; exact hj))]
      unfold bodyB
      rw [List.getD_eq_getElem?_getD, List.getD_eq_getElem?_getD, List.getElem?_take, if_pos (by omega)]
  have HS : Hid (Src w (some ⟨b, o, none⟩) (cellsB B)) := h
  have H8 : Hid (B.length = n ∧ ∀ x ∈ B, x < 256) := ⟨hB, h8⟩
  have HH : Hid (HasHalf w) := hH
  obtain ⟨k, hk⟩ : ∃ k, n - 4 = k := ⟨_, rfl⟩
  have hkn : (n : Int) - 4 = (k : Int) := by omega
  have hkc : k ≤ c := by omega
  have hk9 : k ≤ 65536 := by omega
  rw [hk] at hbl
  rw [hk]
  have HK : Hid (n = k + 4) := by show n = k + 4; omega
  obtain ⟨ok, hok⟩ : ∃ ok, sealedB B = ok := ⟨_, rfl⟩
  have HOK : Hid (decide (sealB (bodyB B) = B) = ok) := by show _ = ok; rw [← hok]; unfold sealedB; rw [decide_eq_true (p := 4 ≤ B.length) (by rw [hB]; omega), Bool.true_and]
  rw [hok]
  clear h h8 hH hB hk hok
  go_enter Tryz.func155, Tryz.ntmps155
  go_wp2_with fail
  refine (implSealed b o k c (bodyB B) _ hbl.out.1 hk9 hkc hbl.out.2.1 hbl.out.2.2 HH.out).mono ?_
  rintro e w1 ⟨v1, rfl, o1, hb1⟩
  obtain ⟨g, cap, rfl, hcap, s1⟩ := own_some o1 (by omega)
  have S1 : Hid (Src w1 (some ⟨g, 0, none⟩) (cellsB (sealB (bodyB B))) ∧ (sealB (bodyB B)).length = k + 4 ∧ ∀ x ∈ sealB (bodyB B), x < 256) := by
    refine ⟨s1, by unfold sealB; rw [List.length_append, hbl.out.1]; rfl, fun x hx => ?_⟩
    unfold sealB at hx
    rw [List.mem_append] at hx
    rcases hx with hx | hx
    · exact hbl.out.2.1 x hx
    · exact numQ_lt _ x hx
  have B1 : Hid (Below w.heap.size w w1) := hb1
  clear o1 hb1 s1
  go_wp2_with fail
  refine (bytesEqual g 0 cap b o c (k + 4) n (sealB (bodyB B)) B _ S1.out.2.1 H8.out.1 S1.out.2.2 H8.out.2 S1.out.1 (HS.out.below B1.out)).mono ?_
  rw [HOK.out]
  rintro e w2 ⟨rfl, rfl⟩
  go_wp2_with fail
  go_ret2
  exact ⟨⟨_, rfl, fun _ => rfl⟩, B1.out⟩
theorem conv_text (t : ByteArray) (w : World) : ∃ cap W, (convert 9 74 (.string t)).run Tryz.prog w = .ok (.slice (some ⟨w.heap.size, 0, none⟩) t.size cap) W ∧ Below w.heap.size w W ∧ Src W (some ⟨w.heap.size, 0, none⟩) (cellsB (bytesOf t)) := by
  refine ⟨_, _, Lib.run_convert_string_bytes w 9 74 5 t Tryz.underlying9 Tryz.underlying74 Tryz.underlying5, ⟨rfl, rfl, rfl, by rw [Lib.bytesWorld_size]; omega, fun j hj => Lib.bytesWorld_at_old w 5 t j hj⟩, .inr ⟨w.heap.size, 0, rfl, fun j hj => ?_⟩⟩
  rw [cellsB_length, bytesOf_length] at hj
  rw [Nat.zero_add, Lib.bytesWorld_cell w 5 t j hj, getD_some (cellsB_get (bytesOf t) j (by rw [bytesOf_length]; exact hj))]
  unfold bytesOf
  rw [List.getD_eq_getElem?_getD, List.getD_eq_getElem?_getD, List.getElem?_map]
  rw [List.getElem?_eq_getElem (by simpa using hj)]
  rfl
set_option maxHeartbeats 4000000 in
theorem l03Unseal (s : ByteArray) (w : World) (hs : s.size ≤ 65536) :
    Calls Tryz.prog 120 #[.string s] w fun e w' => (∃ t, e = .returned (.tuple #[.string t, .bool (sealedB (bytesOf s))]) ∧ (sealedB (bytesOf s) = true → t = strB (bodyB (bytesOf s)))) ∧ Below w.heap.size w w' := by
  obtain ⟨n, hn⟩ : ∃ n, s.size = n := ⟨_, rfl⟩
  have HN : Hid (s.size = n ∧ (bytesOf s).length = n) := ⟨hn, by rw [bytesOf_length]; exact hn⟩
  rw [hn] at hs
  by_cases t1 : n < 4
  · have F : Hid (sealedB (bytesOf s) = false) := by show _ = false; unfold sealedB; rw [decide_eq_false (by rw [HN.out.2]; omega)]; rfl
    rw [F.out]
    have hlt : decide ((n : Int) - 4 < 0) = true := by simp; omega
    have hlt2 : (n : Int) - 4 < 0 := by omega
    clear F
    go_enter Tryz.func120, Tryz.ntmps120
    go_wp2_with fail
    go_quiet (fail)
    go_wp2_with fail
    go_ret2
    exact ⟨⟨_, rfl, fun h => by cases h⟩, Below.drewN' (Below.refl _ _) _⟩
  obtain ⟨t, ht⟩ : ∃ t, s.extract 0 (n - 4) = t := ⟨_, rfl⟩
  obtain ⟨u, hu⟩ : ∃ u, s.extract (n - 4) n = u := ⟨_, rfl⟩
  have ET : Hid (t = strB (bodyB (bytesOf s)) ∧ bytesOf t = bodyB (bytesOf s) ∧ bytesOf u = tailB (bytesOf s) ∧ u.size = 4 ∧ t.size = n - 4) := by
    have hb : bodyB (bytesOf s) = ((bytesOf s).drop 0).take (n - 4 - 0) := by unfold bodyB; rw [HN.out.2]; simp
    have hd : tailB (bytesOf s) = ((bytesOf s).drop (n - 4)).take (n - (n - 4)) := by
      unfold tailB
      rw [HN.out.2, List.take_of_length_le]
      rw [List.length_drop, HN.out.2]; omega
    refine ⟨by rw [← ht, hb]; exact extract_sub s 0 (n - 4), by rw [← ht, hb]; exact bytes_extract s 0 (n - 4), by rw [← hu, hd]; exact bytes_extract s (n - 4) n, ?_, ?_⟩
    · rw [← bytesOf_length, ← hu, bytes_extract, List.length_take, List.length_drop, HN.out.2]; omega
    · rw [← bytesOf_length, ← ht, bytes_extract, List.length_take, List.length_drop, HN.out.2]; omega
  obtain ⟨k, hk⟩ : ∃ k, n - 4 = k := ⟨_, rfl⟩
  have hkn : (n : Int) - 4 = (k : Int) := by omega
  have hkc : k ≤ n := by omega
  have ht' : s.extract 0 k = t := by rw [← hk]; exact ht
  have hu' : s.extract k n = u := by rw [← hk]; exact hu
  have cut1 : ∀ W, (Instr.slice 9 (.string s) none (some (.int .i64 (k : Int))) none).run Tryz.prog W = .ok (.string t) W := fun W => by
    have h9 := run_slice_string_h (P := Tryz.prog) W 9 s Tryz.underlying9 .i64 (k : Int) (by omega) (by rw [hn]; omega)
    rwa [Int.toNat_natCast, ht'] at h9
  have cut2 : ∀ W, (Instr.slice 9 (.string s) (some (.int .i64 (k : Int))) none none).run Tryz.prog W = .ok (.string u) W := fun W => by
    have h9 := run_slice_string_l (P := Tryz.prog) W 9 s Tryz.underlying9 .i64 (k : Int) (by omega) (by rw [hn]; omega)
    rwa [Int.toNat_natCast, hn, hu'] at h9
  have hneg : ¬ (k : Int) < 0 := by omega
  clear ht hu ht' hu'
  obtain ⟨cap, w1, hcv, hb1, hs1⟩ := conv_text t w.drew
  rw [ET.out.2.2.2.2, hk] at hcv
  have B1 : Hid (Below w.heap.size w w1) := (Below.refl _ _).drew.trans hb1
  have S1 : Hid (Src w1 (some ⟨w.heap.size, 0, none⟩) (cellsB (bodyB (bytesOf s)))) := by rw [← ET.out.2.1]; exact hs1
  have hsz : w.drew.heap.size = w.heap.size := rfl
  rw [hsz] at hcv
  have BL : Hid ((bodyB (bytesOf s)).length = k ∧ (∀ x ∈ bodyB (bytesOf s), x < 256)) := ⟨by unfold bodyB; rw [List.length_take, HN.out.2]; omega, fun x hx => bytes_lt s x (List.mem_of_mem_take hx)⟩
  obtain ⟨sm, hsm⟩ : ∃ sm, sumL (bodyB (bytesOf s)) = sm := ⟨_, rfl⟩
  have HSM : Hid (sumL (bodyB (bytesOf s)) = sm) := hsm
  obtain ⟨tm, htm⟩ : ∃ tm, numOf (tailB (bytesOf s)) = tm := ⟨_, rfl⟩
  have HTM : Hid (numOf (bytesOf u) = tm) := by show _ = tm; rw [ET.out.2.2.1]; exact htm
  have OKS : Hid (sealedB (bytesOf s) = decide (sm = tm)) := by show _ = _; rw [sealed_iff (by rw [HN.out.2]; omega) (bytes_lt s), hsm, htm]
  have CHK : Hid (∀ w9, Src w9 (some ⟨w.heap.size, 0, none⟩) (cellsB (bodyB (bytesOf s))) → Calls Tryz.prog 123 #[.slice (some ⟨w.heap.size, 0, none⟩) k cap] w9 fun e w' => e = .returned (.int .i64 ((sm : Nat) : Int)) ∧ Below w9.heap.size w9 w') := fun w9 h9 => by
    have h8 := l01CheckL (some ⟨w.heap.size, 0, none⟩) k cap (bodyB (bytesOf s)) w9 BL.out.1 (by omega) BL.out.2 h9
    rw [hsm] at h8
    exact h8
  have LOF : Hid (∀ w9, Calls Tryz.prog 122 #[.string u] w9 fun e w' => e = .returned (.int .i64 ((tm : Nat) : Int)) ∧ w' = w9) := fun w9 => by
    have h8 := l01Of u w9 (by rw [ET.out.2.2.2.1]; omega)
    rw [HTM.out] at h8
    exact h8
  have hpick : ((sm : Int) != (tm : Int)) = !decide (sm = tm) := by
    by_cases h9 : sm = tm
    · simp [h9]
    · simp [h9]; omega
  clear hb1 hs1 hsm htm
  by_cases h9 : sm = tm
  · have hp2 : ((sm : Int) != (tm : Int)) = false := by rw [hpick, decide_eq_true h9]; rfl
    have F : Hid (sealedB (bytesOf s) = true) := by show _ = true; rw [OKS.out, decide_eq_true h9]
    rw [F.out]
    clear h9 hpick OKS
    go_enter Tryz.func120, Tryz.ntmps120
    go_wp2_with fail
    refine wp_region_any (by kernel_rfl) ?_
    change wpAny _ _ _ _ _ _ _ (World.drew _)
    refine reg_take 0 8 (.int .i64 (k : Int)) rfl rfl (by kernel_rfl) (by kernel_rfl) (by kernel_rfl) (fun _ _ _ _ _ h => h) (by rfl) (by intro w; go_simp) ?_
    refine reg_take 1 9 (.bool false) rfl rfl (by kernel_rfl) (by kernel_rfl) (by kernel_rfl) (fun _ _ _ _ _ h => h) (by rfl) (by intro w; go_simp) ?_
    refine reg_take 2 10 (.bool false) rfl rfl (by kernel_rfl) (by kernel_rfl) (by kernel_rfl) (fun _ _ _ _ _ h => h) (by rfl) (by intro w; go_simp) ?_
    simp only [Act.put, setIfInBounds_toArray, set_cons_zero, set_cons_succ]
    refine reg_take 3 11 (.string s) rfl rfl (by kernel_rfl) (by kernel_rfl) (by kernel_rfl) (fun _ _ _ _ _ h => h) (by rfl) (by intro w; go_simp) ?_
    refine reg_take 4 12 (.int .i64 (k : Int)) rfl rfl (by kernel_rfl) (by kernel_rfl) (by kernel_rfl) (fun _ _ _ _ _ h => h) (by rfl) (by intro w; go_simp) ?_
    refine reg_take 5 13 (.string t) rfl rfl (by kernel_rfl) (by kernel_rfl) (by kernel_rfl) (fun _ _ _ _ _ h => h) (by rfl) (by intro w; go_simp) ?_
    refine reg_take 8 16 (.string s) rfl rfl (by kernel_rfl) (by kernel_rfl) (by kernel_rfl) (fun _ _ _ _ _ h => h) (by rfl) (by intro w; go_simp) ?_
    refine reg_take 9 17 (.int .i64 (k : Int)) rfl rfl (by kernel_rfl) (by kernel_rfl) (by kernel_rfl) (fun _ _ _ _ _ h => h) (by rfl) (by intro w; go_simp) ?_
    refine reg_take 10 18 (.string u) rfl rfl (by kernel_rfl) (by kernel_rfl) (by kernel_rfl) (fun _ _ _ _ _ h => h) (by rfl) (by intro w; go_simp) ?_
    simp only [Act.put, setIfInBounds_toArray, set_cons_zero, set_cons_succ]
    refine wpAny_ready (rs := [6]) (by kernel_rfl) (by simp) ?_
    refine AllReady.cons rfl (fun K hK => ?_) AllReady.nil
    go_simp
    refine hK _ _ ?_
    clear hK K
    refine wpAny_ready (rs := [7]) (by kernel_rfl) (by simp) ?_
    refine AllReady.cons rfl (fun K hK => ?_) AllReady.nil
    go_simp
    refine (CHK.out _ S1.out).mono ?_
    rintro e w2 ⟨rfl, hb2⟩
    have B2 : Hid (Below w.heap.size w w2) := B1.out.trans (hb2.mono B1.out.size)
    clear hb2
    refine hK _ _ ?_
    clear hK K
    refine wpAny_ready (rs := [11]) (by kernel_rfl) (by simp) ?_
    refine AllReady.cons rfl (fun K hK => ?_) AllReady.nil
    go_simp
    refine (LOF.out _).mono ?_
    rintro e w3 ⟨rfl, hw3⟩
    obtain rfl := hw3
    refine hK _ _ ?_
    clear hK K
    refine reg_take 12 20 (.bool false) rfl rfl (by kernel_rfl) (by kernel_rfl) (by kernel_rfl) (fun _ _ _ _ _ h => h) (by rfl) (by intro w; go_simp) ?_
    refine reg_take 13 21 (.bool false) rfl rfl (by kernel_rfl) (by kernel_rfl) (by kernel_rfl) (fun _ _ _ _ _ h => h) (by rfl) (by intro w; go_simp) ?_
    simp only [Act.put, setIfInBounds_toArray, set_cons_zero, set_cons_succ]
    refine wpAny_done (by kernel_rfl) ?_ _
    go_wp2_with fail
    go_ret2
    exact ⟨⟨t, rfl, fun _ => ET.out.1⟩, B2.out⟩
  · have hp2 : ((sm : Int) != (tm : Int)) = true := by rw [hpick, decide_eq_false h9]; rfl
    have F : Hid (sealedB (bytesOf s) = false) := by show _ = false; rw [OKS.out, decide_eq_false h9]
    rw [F.out]
    clear h9 hpick OKS
    go_enter Tryz.func120, Tryz.ntmps120
    go_wp2_with fail
    refine wp_region_any (by kernel_rfl) ?_
    change wpAny _ _ _ _ _ _ _ (World.drew _)
    refine reg_take 0 8 (.int .i64 (k : Int)) rfl rfl (by kernel_rfl) (by kernel_rfl) (by kernel_rfl) (fun _ _ _ _ _ h => h) (by rfl) (by intro w; go_simp) ?_
    refine reg_take 1 9 (.bool false) rfl rfl (by kernel_rfl) (by kernel_rfl) (by kernel_rfl) (fun _ _ _ _ _ h => h) (by rfl) (by intro w; go_simp) ?_
    refine reg_take 2 10 (.bool false) rfl rfl (by kernel_rfl) (by kernel_rfl) (by kernel_rfl) (fun _ _ _ _ _ h => h) (by rfl) (by intro w; go_simp) ?_
    simp only [Act.put, setIfInBounds_toArray, set_cons_zero, set_cons_succ]
    refine reg_take 3 11 (.string s) rfl rfl (by kernel_rfl) (by kernel_rfl) (by kernel_rfl) (fun _ _ _ _ _ h => h) (by rfl) (by intro w; go_simp) ?_
    refine reg_take 4 12 (.int .i64 (k : Int)) rfl rfl (by kernel_rfl) (by kernel_rfl) (by kernel_rfl) (fun _ _ _ _ _ h => h) (by rfl) (by intro w; go_simp) ?_
    refine reg_take 5 13 (.string t) rfl rfl (by kernel_rfl) (by kernel_rfl) (by kernel_rfl) (fun _ _ _ _ _ h => h) (by rfl) (by intro w; go_simp) ?_
    refine reg_take 8 16 (.string s) rfl rfl (by kernel_rfl) (by kernel_rfl) (by kernel_rfl) (fun _ _ _ _ _ h => h) (by rfl) (by intro w; go_simp) ?_
    refine reg_take 9 17 (.int .i64 (k : Int)) rfl rfl (by kernel_rfl) (by kernel_rfl) (by kernel_rfl) (fun _ _ _ _ _ h => h) (by rfl) (by intro w; go_simp) ?_
    refine reg_take 10 18 (.string u) rfl rfl (by kernel_rfl) (by kernel_rfl) (by kernel_rfl) (fun _ _ _ _ _ h => h) (by rfl) (by intro w; go_simp) ?_
    simp only [Act.put, setIfInBounds_toArray, set_cons_zero, set_cons_succ]
    refine wpAny_ready (rs := [6]) (by kernel_rfl) (by simp) ?_
    refine AllReady.cons rfl (fun K hK => ?_) AllReady.nil
    go_simp
    refine hK _ _ ?_
    clear hK K
    refine wpAny_ready (rs := [7]) (by kernel_rfl) (by simp) ?_
    refine AllReady.cons rfl (fun K hK => ?_) AllReady.nil
    go_simp
    refine (CHK.out _ S1.out).mono ?_
    rintro e w2 ⟨rfl, hb2⟩
    have B2 : Hid (Below w.heap.size w w2) := B1.out.trans (hb2.mono B1.out.size)
    clear hb2
    refine hK _ _ ?_
    clear hK K
    refine wpAny_ready (rs := [11]) (by kernel_rfl) (by simp) ?_
    refine AllReady.cons rfl (fun K hK => ?_) AllReady.nil
    go_simp
    refine (LOF.out _).mono ?_
    rintro e w3 ⟨rfl, hw3⟩
    obtain rfl := hw3
    refine hK _ _ ?_
    clear hK K
    refine reg_take 12 20 (.bool true) rfl rfl (by kernel_rfl) (by kernel_rfl) (by kernel_rfl) (fun _ _ _ _ _ h => h) (by rfl) (by intro w; go_simp) ?_
    refine reg_take 13 21 (.bool true) rfl rfl (by kernel_rfl) (by kernel_rfl) (by kernel_rfl) (fun _ _ _ _ _ h => h) (by rfl) (by intro w; go_simp) ?_
    simp only [Act.put, setIfInBounds_toArray, set_cons_zero, set_cons_succ]
    refine wpAny_done (by kernel_rfl) ?_ _
    go_wp2_with fail
    go_ret2
    exact ⟨⟨_, rfl, fun h => by cases h⟩, B2.out⟩
set_option maxHeartbeats 4000000 in
theorem specSuperOK (v : Value) (D : UM) (w : World) (hs : smallU D) (h : ReadsU w v D) :
    Calls Tryz.prog 33 #[v] w fun e w' => e = .returned (.bool (okU D)) ∧ Below w.heap.size w w' := by
  obtain ⟨a, c, rfl, s1⟩ := h
  obtain ⟨bb, hbb⟩ : ∃ bb, okU D = bb := ⟨_, rfl⟩
  rw [hbb]
  obtain ⟨pb, hpb⟩ : ∃ pb, snapsB D.S = pb := ⟨_, rfl⟩
  obtain ⟨n, hn⟩ : ∃ n, D.S.length = n := ⟨_, rfl⟩
  obtain ⟨G, hG⟩ : ∃ G, D.G = G := ⟨_, rfl⟩
  obtain ⟨R, hR⟩ : ∃ R, D.R = R := ⟨_, rfl⟩
  have S1 : Hid (Src w a (cellsSn D.S)) := s1
  have N1 : Hid (D.S.length = n) := hn
  have HF : Hid (bb = (decide (0 ≤ G ∧ G ≤ 200) && rootB R && decide (n ≤ 4) && pb)) := by
    show bb = _
    rw [← hbb, ← hpb, ← hn, ← hG, ← hR]; rfl
  have HL : Hid (∀ x ∈ D.S, x.1.size ≤ 1048576) := hs.2
  have PB : Hid (snapsB D.S = pb) := hpb
  have NB : Hid (n ≤ 1048576) := by rw [← hn]; exact hs.1
  rw [hn, hG, hR]
  clear s1 hn hG hR hbb hpb hs
  have rin : ∀ r : Int, (decide (-1 ≤ r) && decide (r ≤ 49)) = rootB r := fun r => by rw [Bool.eq_iff_iff]; simp [rootB]
  have tin : ∀ r : Int, (decide (0 ≤ r) && decide (r ≤ 60000)) = tickB r := fun r => by rw [Bool.eq_iff_iff]; simp [tickB]
  have RIN : Hid (∀ r : Int, (decide (-1 ≤ r) && decide (r ≤ 49)) = rootB r) := rin
  have TIN : Hid (∀ r : Int, (decide (0 ≤ r) && decide (r ≤ 60000)) = tickB r) := tin
  clear rin tin
  by_cases t1 : 0 ≤ G ∧ G ≤ 200
  case neg =>
    have F : Hid (bb = false) := by show bb = false; rw [HF.out, decide_eq_false t1]; rfl
    have HG : Hid ((decide (0 ≤ G) && decide (G ≤ 200)) = false) := by show _ = false; simp; omega
    clear HF t1
    go_enter Tryz.func33, Tryz.ntmps33
    go_wp2_with (go_at_call_of 77 (Value.int IntKind.i64 200); refine (l01InIs false _ _ _ _ HG.out).mono ?_; rintro e w9 ⟨rfl, rfl⟩)
    go_ret
    exact ⟨ret_bool F.out.symm, (Below.refl _ _).alloc (Nat.le_refl _) _⟩
  have HG : Hid ((decide (0 ≤ G) && decide (G ≤ 200)) = true) := by show _ = true; simp; omega
  cases hr : rootB R with
  | false =>
    have F : Hid (bb = false) := by show bb = false; rw [HF.out, hr]; simp
    have HR : Hid ((decide (-1 ≤ R) && decide (R ≤ 49)) = false) := by show _ = false; rw [RIN.out]; exact hr
    clear HF hr t1
    go_enter Tryz.func33, Tryz.ntmps33
    go_wp2_with (first | (go_at_call_of 77 (Value.int IntKind.i64 49); refine (l01InIs false _ _ _ _ HR.out).mono ?_; rintro e w9 ⟨rfl, rfl⟩) | (go_at_call_of 77 (Value.int IntKind.i64 200); refine (l01InIs true _ _ _ _ HG.out).mono ?_; rintro e w9 ⟨rfl, rfl⟩))
    go_ret
    exact ⟨ret_bool F.out.symm, (Below.refl _ _).alloc (Nat.le_refl _) _⟩
  | true =>
  have HR : Hid ((decide (-1 ≤ R) && decide (R ≤ 49)) = true) := by show _ = true; rw [RIN.out]; exact hr
  by_cases t3 : (4 : Int) < (n : Int)
  · have F : Hid (bb = false) := by show bb = false; rw [HF.out, decide_eq_false (p := n ≤ 4) (by omega)]; simp
    clear HF hr t1
    go_enter Tryz.func33, Tryz.ntmps33
    go_wp2_with (first | (go_at_call_of 77 (Value.int IntKind.i64 49); refine (l01InIs true _ _ _ _ HR.out).mono ?_; rintro e w9 ⟨rfl, rfl⟩) | (go_at_call_of 77 (Value.int IntKind.i64 200); refine (l01InIs true _ _ _ _ HG.out).mono ?_; rintro e w9 ⟨rfl, rfl⟩))
    go_ret
    exact ⟨ret_bool F.out.symm, (Below.refl _ _).alloc (Nat.le_refl _) _⟩
  have FP : Hid (bb = pb) := by show bb = pb; rw [HF.out, hr, decide_eq_true (p := n ≤ 4) (by omega), decide_eq_true t1]; simp
  clear HF hr t1
  go_enter Tryz.func33, Tryz.ntmps33
  go_wp2_with (first | (go_at_call_of 77 (Value.int IntKind.i64 49); refine (l01InIs true _ _ _ _ HR.out).mono ?_; rintro e w9 ⟨rfl, rfl⟩) | (go_at_call_of 77 (Value.int IntKind.i64 200); refine (l01InIs true _ _ _ _ HG.out).mono ?_; rintro e w9 ⟨rfl, rfl⟩))
  go_loopw [3] (fun i wr => ∃ k : Nat, k ≤ n ∧ i = .int .i64 k ∧ Hid (∀ j, j < k → snapB D.S j = true) ∧ Hid (Below w.heap.size w wr) ∧ Hid (Box wr w.heap.size [.int .i64 G, .int .i64 R, .slice a n c])) (fun i _ => n - (intOf i).toNat)
  case atStart => exact ⟨0, by omega, rfl, fun j hj => absurd hj (by omega), (Below.refl _ _).alloc (Nat.le_refl _) _, Box.new rfl⟩
  case round =>
    obtain ⟨k, hk, rfl, hg, hb, hx⟩ := hrel
    obtain ⟨g2, _⟩ := hx.out 2 _ rfl
    by_cases hlt : k < n
    · obtain ⟨b, o, x, y, z, rfl, q1, q2, q3, hy⟩ := srcSn (S1.out.below hb.out) (i := k) (by rw [N1.out]; exact hlt)
      have hki : (k : Int) < (n : Int) := by omega
      have hk0 : (0 : Int) ≤ (k : Int) := by omega
      have SX : Hid (x.size ≤ maxLen) := by
        have h1 := HL.out _ (mem_getD D.S sn0 k (by rw [N1.out]; exact hlt))
        rw [hy.out] at h1
        show x.size ≤ maxLen
        unfold maxLen; exact Nat.le_trans h1 (by omega)
      have HB1 : Hid (Below w.heap.size w (wr.alloc (.cells #[.string x, .int .i64 y, .int .i64 z] 122))) := hb.out.alloc hb.out.size _
      have HX1 : Hid (Box (wr.alloc (.cells #[.string x, .int .i64 y, .int .i64 z] 122)) w.heap.size [.int .i64 G, .int .i64 R, .slice (some ⟨b, o, none⟩) n c]) := hx.out.old _
      have hgd : Hid (snapB D.S k = (shortB x && rootB y && tickB z && upN D.S k)) := by show _ = _; unfold snapB; rw [hy.out]
      cases h1 : shortB x with
      | false =>
        have F : Hid (bb = false) := by
          show bb = false
          rw [FP.out, ← PB.out]
          exact snaps_bad (k := k) (by rw [N1.out]; exact hlt) (by rw [hgd.out, h1]; rfl)
        have H1 : Hid (shortB x = false) := h1
        clear h1
        go_wp2_with fail
        go_quiet ((go_at_call 78; exact Calls.quiet_of_same (l04NameIs false x _ H1.out SX.out)))
        go_wp2_with fail
        go_ret
        exact ⟨ret_bool F.out.symm, Below.drewN' HB1.out _⟩
      | true =>
      have H1 : Hid (shortB x = true) := h1
      cases h2 : rootB y with
      | false =>
        have F : Hid (bb = false) := by
          show bb = false
          rw [FP.out, ← PB.out]
          exact snaps_bad (k := k) (by rw [N1.out]; exact hlt) (by rw [hgd.out, h1, h2]; rfl)
        have H2 : Hid ((decide (-1 ≤ y) && decide (y ≤ 49)) = false) := by show _ = false; rw [RIN.out]; exact h2
        clear h1 h2
        go_wp2_with fail
        go_quiet (first | (go_at_call 78; exact Calls.quiet_of_same (l04NameIs true x _ H1.out SX.out)) | (go_at_call_of 77 (Value.int IntKind.i64 49); exact Calls.quiet_of_same (l01InIs false y (-1) 49 _ H2.out)))
        go_wp2_with fail
        go_ret
        exact ⟨ret_bool F.out.symm, Below.drewN' HB1.out _⟩
      | true =>
      have H2 : Hid ((decide (-1 ≤ y) && decide (y ≤ 49)) = true) := by show _ = true; rw [RIN.out]; exact h2
      cases h3 : tickB z with
      | false =>
        have F : Hid (bb = false) := by
          show bb = false
          rw [FP.out, ← PB.out]
          exact snaps_bad (k := k) (by rw [N1.out]; exact hlt) (by rw [hgd.out, h1, h2, h3]; rfl)
        have H3 : Hid ((decide (0 ≤ z) && decide (z ≤ 60000)) = false) := by show _ = false; rw [TIN.out]; exact h3
        clear h1 h2 h3
        go_wp2_with fail
        go_quiet (first | (go_at_call 78; exact Calls.quiet_of_same (l04NameIs true x _ H1.out SX.out)) | (go_at_call_of 77 (Value.int IntKind.i64 49); exact Calls.quiet_of_same (l01InIs true y (-1) 49 _ H2.out)) | (go_at_call_of 77 (Value.int IntKind.i64 60000); exact Calls.quiet_of_same (l01InIs false z 0 60000 _ H3.out)))
        go_wp2_with fail
        go_ret
        exact ⟨ret_bool F.out.symm, Below.drewN' HB1.out _⟩
      | true =>
      have H3 : Hid ((decide (0 ≤ z) && decide (z ≤ 60000)) = true) := by show _ = true; rw [TIN.out]; exact h3
      have hgd2 : Hid (snapB D.S k = upN D.S k) := by show _ = _; rw [hgd.out, h1, h2, h3]; rfl
      clear h1 h2 h3
      by_cases hz : k = 0
      · have hgood : Hid (snapB D.S k = true) := by show snapB D.S k = true; rw [hgd2.out]; unfold upN; rw [decide_eq_true hz]; rfl
        have hkz : decide (0 < k) = false := by simp; omega
        clear hz
        go_wp2_with fail
        go_quiet (first | (go_at_call 78; exact Calls.quiet_of_same (l04NameIs true x _ H1.out SX.out)) | (go_at_call_of 77 (Value.int IntKind.i64 49); exact Calls.quiet_of_same (l01InIs true y (-1) 49 _ H2.out)) | (go_at_call_of 77 (Value.int IntKind.i64 60000); exact Calls.quiet_of_same (l01InIs true z 0 60000 _ H3.out)))
        go_wp2_with fail
        exact ⟨⟨k + 1, by omega, by go_num, fun j hj => by
          by_cases e : j = k
          · rw [e]; exact hgood.out
          · exact hg.out j (by omega), Below.drewN' HB1.out _, HX1.out⟩, by simp [intOf]; omega⟩
      · obtain ⟨b4, o4, x4, y4, z4, e4, d1, d2, d3, hy4⟩ := srcSn (S1.out.below HB1.out) (i := k - 1) (by rw [N1.out]; omega)
        cases e4
        obtain ⟨g3, _⟩ := HX1.out 2 _ rfl
        have hkp : 0 < k := by omega
        have hkp2 : (0 : Int) < (k : Int) := by omega
        have hkm : (0 : Int) ≤ (k : Int) - 1 := by omega
        have hkm2 : (k : Int) - 1 < (n : Int) := by omega
        by_cases hl : Op.bytesLess x4.toList x.toList = true
        · have hgood : Hid (snapB D.S k = true) := by show snapB D.S k = true; rw [hgd2.out]; unfold upN; rw [hy.out, hy4.out, hl]; simp
          clear hz
          go_wp2_with fail
          go_quiet (first | (go_at_call 78; exact Calls.quiet_of_same (l04NameIs true x _ H1.out SX.out)) | (go_at_call_of 77 (Value.int IntKind.i64 49); exact Calls.quiet_of_same (l01InIs true y (-1) 49 _ H2.out)) | (go_at_call_of 77 (Value.int IntKind.i64 60000); exact Calls.quiet_of_same (l01InIs true z 0 60000 _ H3.out)))
          go_wp2_with fail
          exact ⟨⟨k + 1, by omega, by go_num, fun j hj => by
            by_cases e : j = k
            · rw [e]; exact hgood.out
            · exact hg.out j (by omega), Below.drewN' HB1.out _, HX1.out⟩, by simp [intOf]; omega⟩
        · have hl' : Op.bytesLess x4.toList x.toList = false := by simpa using hl
          have F : Hid (bb = false) := by
            show bb = false
            rw [FP.out, ← PB.out]
            exact snaps_bad (k := k) (by rw [N1.out]; exact hlt) (by rw [hgd2.out]; unfold upN; rw [hy.out, hy4.out, hl', decide_eq_false hz]; rfl)
          clear hl hz
          go_wp2_with fail
          go_quiet (first | (go_at_call 78; exact Calls.quiet_of_same (l04NameIs true x _ H1.out SX.out)) | (go_at_call_of 77 (Value.int IntKind.i64 49); exact Calls.quiet_of_same (l01InIs true y (-1) 49 _ H2.out)) | (go_at_call_of 77 (Value.int IntKind.i64 60000); exact Calls.quiet_of_same (l01InIs true z 0 60000 _ H3.out)))
          go_wp2_with fail
          go_ret
          exact ⟨ret_bool F.out.symm, Below.drewN' HB1.out _⟩
    · have hkn : k = n := by omega
      have F : Hid (bb = true) := by
        show bb = true
        rw [FP.out, ← PB.out]
        exact snaps_good fun j hj => hg.out j (by rw [N1.out] at hj; omega)
      clear hkn
      go_wp2_with fail
      go_ret
      exact ⟨ret_bool F.out.symm, hb.out⟩
end Go.Proofs.YtnnimocaanofjaaGreatDoor
