
/-
  The sum of pairs: fieldsOf, sumOf and PairsSum of the program, l06Sum and PairsSum of the specification. By an AI agent.
-/
import Derived.Test.YtmbndpgoihdpnaaDoorSeal
import Derived.Test.YtmbndpgoihdpnaaDoorFlds3
import Derived.Test.YtmbndpgoihdpnaaDoorPairsOKi
import Derived.Deep.RegionHeld3
namespace Go.Proofs.YtmbndpgoihdpnaaDoor
open Go.ChangeShapes Go.WideShapes Go.ChangeAt Go.RowKit Go.Deep
set_option linter.unusedVariables false
set_option linter.unusedSimpArgs false
set_option maxRecDepth 100000

/-- The fields of pairs, one behind the other. -/
def fsP (L : List PM) : List Nat := L.flatMap fun p => fieldsB [p.1, p.2]
theorem fsP_snoc {L : List PM} {k : Nat} {x y : ByteArray} (hk : k < L.length) (h : L.getD k p0 = (x, y)) : fsP (L.take (k + 1)) = fsP (L.take k) ++ fieldsB [x, y] := by
  rw [List.getD_eq_getElem?_getD, List.getElem?_eq_getElem hk] at h
  have h2 : L[k] = (x, y) := h
  rw [List.take_succ_eq_append_getElem hk, h2]
  simp [fsP]
theorem two_len (x y : ByteArray) : (fieldsB [x, y]).length = 5 + x.size + y.size := by
  unfold fieldsB
  simp [fieldB_length]; omega
theorem fsP_len (L : List PM) (k : Nat) (hs : ∀ p ∈ L, p.1.size ≤ 90 ∧ p.2.size ≤ 90) : (fsP (L.take k)).length ≤ k * 185 := by
  induction k with
  | zero => simp [fsP]
  | succ k ih =>
    by_cases hk : k < L.length
    · rw [fsP_snoc (x := (L.getD k p0).1) (y := (L.getD k p0).2) hk rfl, List.length_append, two_len]
      have h9 := hs _ (mem_getD L p0 k hk)
      omega
    · rw [List.take_of_length_le (by omega)] at ih ⊢
      omega
theorem fieldsB_ltP (L : List ByteArray) : ∀ x ∈ fieldsB L, x < 256 := by
  intro x hx
  unfold fieldsB at hx
  rw [List.mem_cons] at hx
  rcases hx with rfl | hx
  · omega
  · rw [List.mem_flatMap] at hx
    obtain ⟨s, _, hs⟩ := hx
    unfold fieldB numB bytesOf at hs
    simp at hs
    rcases hs with rfl | rfl | ⟨b, _, rfl⟩
    · omega
    · omega
    · exact b.toNat_lt
theorem fsP_lt (L : List PM) : ∀ x ∈ fsP L, x < 256 := by
  intro x hx
  unfold fsP at hx
  rw [List.mem_flatMap] at hx
  obtain ⟨p, _, h⟩ := hx
  exact fieldsB_ltP _ x h
theorem src_2S {w : World} {s t : ByteArray} {B ty : Nat} (hB : B = w.heap.size) : Src (w.alloc (.cells #[.string s, .string t] ty)) (some ⟨B, 0, none⟩) (cellsS [s, t]) := by
  have hb : Box (w.alloc (.cells #[.string s, .string t] ty)) B [.string s, .string t] := Box.new hB
  refine .inr ⟨B, 0, rfl, fun j hj => ?_⟩
  have hj4 : j < 2 := hj
  rw [Nat.zero_add]
  match j, hj4 with
  | 0, _ => exact (hb 0 _ rfl).1
  | 1, _ => exact (hb 1 _ rfl).1
theorem pairsB_fit {M : List PM} (h : pairsB (fK M) (fV M) M.length = true) : M.length ≤ 60 ∧ ∀ p ∈ M, p.1.size ≤ 90 ∧ p.2.size ≤ 90 := by
  unfold pairsB at h
  rw [Bool.and_eq_true, decide_eq_true_eq, List.all_eq_true] at h
  refine ⟨h.1, fun p hp => ?_⟩
  obtain ⟨i, hi, rfl⟩ := List.getElem_of_mem hp
  have h2 := h.2 i (List.mem_range.2 hi)
  unfold goodB fitB keyB at h2
  simp only [Bool.and_eq_true, decide_eq_true_eq, fK, fV, List.getD_eq_getElem?_getD, List.getElem?_eq_getElem hi, Option.getD_some] at h2
  omega
/-- What PairsSum answers. -/
def psA (M : List PM) : Nat × Int := if 4096 < M.length then (0, 2) else if pairsB (fK M) (fV M) M.length = false then (0, 1) else (sumL (fsP M), 0)

theorem fieldsOf (a : Option Addr) (n c : Nat) (L : List ByteArray) (w : World) (hL : L.length = n) (hn : n ≤ 200) (hs : ∀ x ∈ L, x.size ≤ 300) (h : Src w a (cellsS L)) :
    Calls Tryd.prog 73 #[.slice a n c] w fun e w' => ∃ v, e = .returned v ∧ w'.ownsRow w.heap.size 5 1 v (fieldsB L).length (cellsB (fieldsB L)) ∧ Below w.heap.size w w' := by
  have E : Hid (fdsA L = (fieldsB L, 0)) := by
    show _ = _
    unfold fdsA
    rw [if_neg (by omega), if_neg (by omega), if_neg (by rintro ⟨x, hx, h9⟩; have := hs x hx; omega)]
  have HS : Hid (∀ x ∈ L, x.size ≤ 1048576) := fun x hx => by have := hs x hx; omega
  have HH : Hid (Src w a (cellsS L)) := h
  have HL : Hid (L.length = n) := hL
  clear hs h hL
  go_enter Tryd.func73, Tryd.ntmps73
  go_wp2_with fail
  refine (implFieldsBytes a n c L _ HL.out (by omega) HS.out HH.out).mono ?_
  rintro e w1 ⟨v, R, q, rfl, heq, own, hb⟩
  obtain ⟨rfl, rfl⟩ : fieldsB L = R ∧ 0 = q := by have h2 := E.out.symm.trans heq; simpa using h2
  obtain ⟨g, k, rfl, _, _⟩ := own_src own
  have O1 : Hid (w1.ownsRow w.heap.size 5 1 (.slice g (fieldsB L).length k) (fieldsB L).length (cellsB (fieldsB L))) := own
  have B1 : Hid (Below w.heap.size w w1) := hb
  obtain ⟨m, hm⟩ : ∃ m, (fieldsB L).length = m := ⟨_, rfl⟩
  rw [hm] at O1 ⊢
  have HM9 : Hid ((fieldsB L).length = m) := hm
  clear own hb heq hm
  go_wp2_with fail
  go_ret
  exact ⟨.slice g m k, rfl, by first | exact O1.out | (rw [HM9.out]; exact O1.out), B1.out⟩

set_option maxHeartbeats 1000000 in
theorem l06Sum (a : Option Addr) (n c : Nat) (M : List PM) (w : World) (hM : M.length = n) (hn : n ≤ 60) (hs : ∀ p ∈ M, p.1.size ≤ 90 ∧ p.2.size ≤ 90) (h : Src w a (cellsP M)) :
    Calls Tryd.prog 99 #[.slice a n c] w fun e w' => e = .returned (.int .i64 ((sumL (fsP M) : Nat) : Int)) ∧ Below w.heap.size w w' := by
  obtain ⟨s, hs9⟩ : ∃ s, sumL (fsP M) = s := ⟨_, rfl⟩
  have HSM : Hid (sumL (fsP M) = s) := hs9
  rw [hs9]
  have HS : Hid (∀ p ∈ M, p.1.size ≤ 90 ∧ p.2.size ≤ 90) := hs
  have HH : Hid (Src w a (cellsP M)) := h
  have HM : Hid (M.length = n) := hM
  clear hs h hM hs9
  go_enter Tryd.func99, Tryd.ntmps99
  go_wp2_with fail
  go_loopw [3, 4] (fun v i wr => ∃ (k : Nat), k ≤ n ∧ i = .int .i64 k ∧ Hid (Below w.heap.size w wr) ∧ Hid (wr.ownsRow w.heap.size 5 1 v (fsP (M.take k)).length (cellsB (fsP (M.take k))))) (fun _ i _ => n - (intOf i).toNat)
  case atStart => exact ⟨0, by omega, rfl, (Below.refl _ _).alloc (Nat.le_refl _) _, own_empty' rfl (Nat.le_refl _)⟩
  case round =>
    obtain ⟨k, hk, rfl, hb, ho⟩ := hrel
    obtain ⟨va, vc, rfl, _, _⟩ := own_src ho.out
    obtain ⟨m, hm⟩ : ∃ m, (fsP (M.take k)).length = m := ⟨_, rfl⟩
    have hm2 : m ≤ 11100 := by rw [← hm]; exact Nat.le_trans (fsP_len M k HS.out) (by omega)
    have HO : Hid (wr.ownsRow w.heap.size 5 1 (.slice va m vc) m (cellsB (fsP (M.take k)))) := by rw [← hm]; exact ho.out
    rw [hm]
    have MM : Hid ((fsP (M.take k)).length = m) := hm
    clear ho hm
    by_cases hlt : k < n
    · obtain ⟨b, o, x, y, rfl, q1, q2, hy⟩ := srcP (HH.out.below hb.out) (i := k) (by rw [HM.out]; exact hlt)
      have hki : (k : Int) < (n : Int) := by omega
      have hk0 : (0 : Int) ≤ (k : Int) := by omega
      have XY : Hid (x.size ≤ 90 ∧ y.size ≤ 90) := by
        have h1 := HS.out _ (mem_getD M p0 k (by rw [HM.out]; exact hlt))
        rw [hy.out] at h1
        exact h1
      have SN : Hid (fsP (M.take (k + 1)) = fsP (M.take k) ++ fieldsB [x, y]) := fsP_snoc (by rw [HM.out]; exact hlt) hy.out
      have FL : Hid (∀ z ∈ [x, y], z.size ≤ 300) := fun z hz => by
        have h9 := XY.out
        simp at hz
        rcases hz with rfl | rfl <;> omega
      obtain ⟨q, hq⟩ : ∃ q, (fieldsB [x, y]).length = q := ⟨_, rfl⟩
      have Q : Hid ((fieldsB [x, y]).length = q) := hq
      have hq2 : q ≤ 185 ∧ 0 < q := by rw [← hq, two_len]; have := XY.out; omega
      clear hq
      have e0 : wr.drew.cell? ⟨b, o + k * 2, none⟩ = some (.string x) := q1
      have e1 : wr.drew.cell? ⟨b, o + k * 2 + 1, none⟩ = some (.string y) := q2
      have E9 : Hid (∀ W : World, Below w.heap.size w W → W.cell? ⟨b, o + k * 2, none⟩ = some (.string x) ∧ W.cell? ⟨b, o + k * 2 + 1, none⟩ = some (.string y)) := fun W hW => by
        obtain ⟨b9, o9, x9, y9, e9, r1, r2, hy9⟩ := srcP (HH.out.below hW) (i := k) (by rw [HM.out]; exact hlt)
        cases e9
        have h9 := hy.out.symm.trans hy9.out
        simp at h9
        rw [h9.1, h9.2]
        exact ⟨r1, r2⟩
      have AA : Hid (Below w.heap.size w (wr.drew.alloc (.cells #[.string x, .string y] 9))) := hb.out.drew.alloc hb.out.size _
      have OA : Hid ((wr.drew.alloc (.cells #[.string x, .string y] 9)).ownsRow w.heap.size 5 1 (.slice va m vc) m (cellsB (fsP (M.take k)))) := World.ownsRow.alloc (show World.ownsRow wr.drew _ _ _ _ _ _ from HO.out) _
      clear q1 q2
      go_wp2_with fail
      refine wp_region_noPanic ?_
      refine wp_region_held_drew (S := (fun w' => w'.cell? ⟨b, o + k * 2, none⟩ = some (.string x) ∧ w'.cell? ⟨b, o + k * 2 + 1, none⟩ = some (.string y))) (by kernel_rfl) ⟨e0, e1⟩ (fun hHeld => ?_)
      refine wpAnyH_take (i := 0) (v := .slice va m vc) rfl (by kernel_rfl) (by kernel_rfl) (by kernel_rfl) (fun _ _ _ h => h) (Or.inl ⟨by kernel_rfl, ?_⟩) hHeld ?_
      · intro w9 hSw
        obtain ⟨s0, s1⟩ := hSw
        go_simp
      simp only [Act.put, List.setIfInBounds_toArray, List.set_cons_zero, List.set_cons_succ]
      refine wpAnyH_take (i := 1) (v := .slice (some ⟨b, o, none⟩) n c) rfl (by kernel_rfl) (by kernel_rfl) (by kernel_rfl) (fun _ _ _ h => h) (Or.inl ⟨by kernel_rfl, ?_⟩) hHeld ?_
      · intro w9 hSw
        obtain ⟨s0, s1⟩ := hSw
        go_simp
      simp only [Act.put, List.setIfInBounds_toArray, List.set_cons_zero, List.set_cons_succ]
      refine wpAnyH_take (i := 2) (v := .int .i64 (k : Int)) rfl (by kernel_rfl) (by kernel_rfl) (by kernel_rfl) (fun _ _ _ h => h) (Or.inl ⟨by kernel_rfl, ?_⟩) hHeld ?_
      · intro w9 hSw
        obtain ⟨s0, s1⟩ := hSw
        go_simp
      simp only [Act.put, List.setIfInBounds_toArray, List.set_cons_zero, List.set_cons_succ]
      refine wpAnyH_take (i := 3) (v := .pointer (some ⟨b, o + k * 2, none⟩)) rfl (by kernel_rfl) (by kernel_rfl) (by kernel_rfl) (fun _ _ _ h => h) (Or.inl ⟨by kernel_rfl, ?_⟩) hHeld ?_
      · intro w9 hSw
        obtain ⟨s0, s1⟩ := hSw
        go_simp
      simp only [Act.put, List.setIfInBounds_toArray, List.set_cons_zero, List.set_cons_succ]
      refine wpAnyH_take (i := 4) (v := .pointer (some ⟨b, o + k * 2, none⟩)) rfl (by kernel_rfl) (by kernel_rfl) (by kernel_rfl) (fun _ _ _ h => h) (Or.inl ⟨by kernel_rfl, ?_⟩) hHeld ?_
      · intro w9 hSw
        obtain ⟨s0, s1⟩ := hSw
        go_simp
      simp only [Act.put, List.setIfInBounds_toArray, List.set_cons_zero, List.set_cons_succ]
      refine wpAnyH_take (i := 5) (v := .string x) rfl (by kernel_rfl) (by kernel_rfl) (by kernel_rfl) (fun _ _ _ h => h) (Or.inl ⟨by kernel_rfl, ?_⟩) hHeld ?_
      · intro w9 hSw
        obtain ⟨s0, s1⟩ := hSw
        go_simp
      simp only [Act.put, List.setIfInBounds_toArray, List.set_cons_zero, List.set_cons_succ]
      refine wpAnyH_take (i := 6) (v := .slice (some ⟨b, o, none⟩) n c) rfl (by kernel_rfl) (by kernel_rfl) (by kernel_rfl) (fun _ _ _ h => h) (Or.inl ⟨by kernel_rfl, ?_⟩) hHeld ?_
      · intro w9 hSw
        obtain ⟨s0, s1⟩ := hSw
        go_simp
      simp only [Act.put, List.setIfInBounds_toArray, List.set_cons_zero, List.set_cons_succ]
      refine wpAnyH_take (i := 7) (v := .int .i64 (k : Int)) rfl (by kernel_rfl) (by kernel_rfl) (by kernel_rfl) (fun _ _ _ h => h) (Or.inl ⟨by kernel_rfl, ?_⟩) hHeld ?_
      · intro w9 hSw
        obtain ⟨s0, s1⟩ := hSw
        go_simp
      simp only [Act.put, List.setIfInBounds_toArray, List.set_cons_zero, List.set_cons_succ]
      refine wpAnyH_take (i := 8) (v := .pointer (some ⟨b, o + k * 2, none⟩)) rfl (by kernel_rfl) (by kernel_rfl) (by kernel_rfl) (fun _ _ _ h => h) (Or.inl ⟨by kernel_rfl, ?_⟩) hHeld ?_
      · intro w9 hSw
        obtain ⟨s0, s1⟩ := hSw
        go_simp
      simp only [Act.put, List.setIfInBounds_toArray, List.set_cons_zero, List.set_cons_succ]
      refine wpAnyH_take (i := 9) (v := .pointer (some ⟨b, o + k * 2 + 1, none⟩)) rfl (by kernel_rfl) (by kernel_rfl) (by kernel_rfl) (fun _ _ _ h => h) (Or.inl ⟨by kernel_rfl, ?_⟩) hHeld ?_
      · intro w9 hSw
        obtain ⟨s0, s1⟩ := hSw
        go_simp
      simp only [Act.put, List.setIfInBounds_toArray, List.set_cons_zero, List.set_cons_succ]
      refine wpAnyH_take (i := 10) (v := .string y) rfl (by kernel_rfl) (by kernel_rfl) (by kernel_rfl) (fun _ _ _ h => h) (Or.inl ⟨by kernel_rfl, ?_⟩) hHeld ?_
      · intro w9 hSw
        obtain ⟨s0, s1⟩ := hSw
        go_simp
      simp only [Act.put, List.setIfInBounds_toArray, List.set_cons_zero, List.set_cons_succ]
      refine wpAnyH_ready (rs := [11]) (by kernel_rfl) (by simp) ?_
      refine AllReadyH.cons rfl (fun K hK => ?_) AllReadyH.nil
      go_simp
      clear e0 e1
      obtain ⟨e0, e1⟩ := E9.out _ AA.out
      refine hK _ _ ⟨e0, e1⟩ (fun hHeld => ?_)
      clear hK K
      refine wpAnyH_ready (rs := [12]) (by kernel_rfl) (by simp) ?_
      refine AllReadyH.cons rfl (fun K hK => ?_) AllReadyH.nil
      go_simp
      refine (l01Fields (some ⟨wr.heap.size, 0, none⟩) 2 2 [x, y] (wr.alloc (.cells #[.string x, .string y] 9)).drew rfl (by omega) FL.out (show Src (wr.alloc (.cells #[.string x, .string y] 9)) _ _ from src_2S rfl)).mono ?_
      rintro e w2 ⟨v2, rfl, o2, hb2⟩
      dsimp only
      have B2 : Hid (Below w.heap.size w w2) := AA.out.trans (hb2.mono AA.out.size)
      have O2 : Hid (w2.ownsRow w.heap.size 5 1 (.slice va m vc) m (cellsB (fsP (M.take k)))) := own_below OA.out hb2
      rw [Q.out] at o2
      obtain ⟨g2, c2, rfl, _, s2⟩ := own_some o2 (by omega)
      have S2 : Hid (Src w2 (some ⟨g2, 0, none⟩) (cellsB (fieldsB [x, y]))) := s2
      have hlt3 : Hid (∀ g, Value.ownBlock (.slice va m vc) = some g → w.heap.size ≤ g) := fun g e => (O2.out.lt g e).1
      clear o2 hb2 s2 AA OA e0 e1
      obtain ⟨e0, e1⟩ := E9.out _ B2.out
      refine hK _ _ ⟨e0, e1⟩ (fun hHeld => ?_)
      clear hK K
      refine wpAnyH_ready (rs := [13]) (by kernel_rfl) (by simp) ?_
      refine AllReadyH.cons rfl (fun K hK => ?_) AllReadyH.nil
      refine step_append_src rfl (.tmp 12) (.tmp 24) 34 rfl w.heap.size 5 (.int .u8 0) 1 1 Tryd.underlying34 infoB rfl (by decide) (by decide) (.slice va m vc) m (cellsB (fsP (M.take k))) rfl O2.out ⟨g2, 0, none⟩ q c2 (cellsB (fieldsB [x, y])) rfl (by rw [cellsB_length, Q.out]; omega) S2.out (cellsB_one _) (by omega) (by omega) B2.out.size ?_
      intro v3 w3 hown3 hgrow3 _
      have O3 : Hid (w3.ownsRow w.heap.size 5 1 v3 (fsP (M.take (k + 1))).length (cellsB (fsP (M.take (k + 1))))) := by rw [SN.out, cellsB_append, List.length_append, MM.out, Q.out]; exact hown3
      have B3 : Hid (Below w.heap.size w w3) := B2.out.grown hgrow3 B2.out.size hlt3.out
      clear hown3 hgrow3 e0 e1
      obtain ⟨e0, e1⟩ := E9.out _ B3.out
      refine hK _ _ ⟨e0, e1⟩ (fun hHeld => ?_)
      clear hK K
      refine wpAnyH_ready (rs := [14]) (by kernel_rfl) (by simp) ?_
      refine AllReadyH.cons rfl (fun K hK => ?_) AllReadyH.nil
      go_simp
      refine hK _ _ ⟨e0, e1⟩ (fun hHeld => ?_)
      clear hK K
      refine wpAnyH_done (by kernel_rfl) ?_ _
      refine NoPanic.normal ?_
      clear e0 e1 hHeld
      go_wp2_with fail
      exact ⟨⟨k + 1, by omega, by go_num, B3.out, O3.out⟩, by simp [intOf]; omega⟩
    · have hkn : k = n := by omega
      have FE : Hid (fsP (M.take k) = fsP M) := by show _ = _; rw [hkn, ← HM.out, List.take_length]
      have FM : Hid ((fsP M).length = m) := by show _ = _; rw [← FE.out]; exact MM.out
      obtain ⟨a9, c9, e9, s9, _⟩ := own_src HO.out
      cases e9
      have S9 : Hid (Src wr va (cellsB (fsP M))) := by rw [← FE.out]; exact s9
      clear hkn s9
      go_wp2_with fail
      go_at_call 84
      refine (l01CheckL va m vc (fsP M) _ FM.out (by omega) (fsP_lt M) S9.out).mono ?_
      rw [HSM.out]
      rintro e w9 ⟨rfl, hb9⟩
      have B9 : Hid (Below w.heap.size w w9) := hb.out.trans (hb9.mono hb.out.size)
      clear hb9
      go_wp2_with fail
      go_ret
      exact ⟨rfl, B9.out⟩

end Go.Proofs.YtmbndpgoihdpnaaDoor
