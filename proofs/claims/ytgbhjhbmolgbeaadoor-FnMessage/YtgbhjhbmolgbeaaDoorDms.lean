
/-
  A drawn message. By an AI agent.
-/
import Derived.Test.YtgbhjhbmolgbeaaDoorDmp
namespace Go.Proofs.YtgbhjhbmolgbeaaDoor
open Go.ChangeShapes Go.WideShapes Go.ChangeAt Go.RowKit Go.Deep
set_option linter.unusedVariables false
set_option linter.unusedSimpArgs false
set_option maxRecDepth 100000
set_option maxHeartbeats 4000000 in
theorem drawMessage (P n cc K0 : Nat) (ca : Option Addr) (C : List Nat) (w : World) (hK0 : K0 ≤ 990000000) (h : DrawOK w P ca n cc K0 C) :
    Calls Tryd.prog 34 #[.pointer (some ⟨P, 0, none⟩)] w fun e w' => ∃ v D, e = .returned v ∧ drawnM D.F D.Y ∧ OwnsG w' w.heap.size w'.heap.size v D ∧ Turned P (P + 1) w w' := by
  have H : Hid (DrawOK w P ca n cc K0 C) := h
  have PL : Hid (P < w.heap.size) := h.lt
  have CB : Hid (0 < n → ∀ a, ca = some a → a.block < w.heap.size) := h.code
  clear h
  have A0 : Hid (Below w.heap.size w (((w.alloc (.cells #[.slice none 0 0, .string ⟨#[]⟩] 25)).alloc (.cells #[] 33)).alloc (.cells #[.string ⟨#[]⟩, .string ⟨#[98, 111, 100, 121]⟩, .string ⟨#[116, 119, 111, 10, 108, 105, 110, 101, 115]⟩, .string ⟨#[58]⟩] 9))) := (((Below.refl _ _).alloc (Nat.le_refl _) _).alloc (by simp) _).alloc (by simp; omega) _
  go_enter Tryd.func34, Tryd.ntmps34
  go_wp2_with fail
  refine (drawPick P n cc K0 ca C (w.heap.size + 1 + 1) 0 4 4 bdL _ rfl (by omega) (by omega) (by omega) (by have := PL.out; omega) (src_four (by simp)) (H.out.below A0.out)).mono ?_
  rintro e w1 ⟨Y, rfl, hY, ht, hd⟩
  have T1 : Hid (Turned P (P + 1) w w1) := (Turned.of_below A0.out).trans ht
  have D1 : Hid (DrawOK w1 P ca n cc (K0 + 3) C) := hd
  have R1 : Hid (Box w1 w.heap.size [.slice none 0 0, .string ⟨#[]⟩]) := Box.turned (Box.old (Box.old (Box.new rfl) _) _) ht (.inr (by have := PL.out; omega))
  have Z1 : Hid (w.heap.size + 3 ≤ w1.heap.size) := by have := ht.size; simp at this; show _ ≤ _; omega
  have O1 : Hid (w1.ownsRow (w.heap.size + 1) 33 2 (.slice (some ⟨w.heap.size + 1, 0, none⟩) 0 0) 0 (cellsFl [])) := ((OwnsR.mk ((own_empty (w := w.alloc (.cells #[.slice none 0 0, .string ⟨#[]⟩] 25)) (by simp) (by simp)).alloc (.cells #[.string ⟨#[]⟩, .string ⟨#[98, 111, 100, 121]⟩, .string ⟨#[116, 119, 111, 10, 108, 105, 110, 101, 115]⟩, .string ⟨#[58]⟩] 9)) (Nat.le_refl _)).turned ht (.inr (by have := PL.out; omega))).1
  have HY : Hid (Y ∈ bdL) := hY
  clear ht hd hY A0
  go_wp2_with fail
  have A1 : Hid (Below w1.heap.size w1 (w1.alloc (.cells #[.slice (some ⟨w.heap.size + 1, 0, none⟩) 0 0, .string Y] 25))) := (Below.refl _ _).alloc (Nat.le_refl _) _
  have F1 : Hid (FM w P n cc ca C w1.heap.size (w1.alloc (.cells #[.slice (some ⟨w.heap.size + 1, 0, none⟩) 0 0, .string Y] 25)) (K0 + 3) (some ⟨w.heap.size + 1, 0, none⟩) 0 0 [] Y) := ⟨T1.out.trans (Turned.of_below A1.out), D1.out.below A1.out, Box.new rfl, O1.out.alloc _, R1.out.old _, by have := Z1.out; omega, PL.out, fun g e => by
    have e2 : some (w.heap.size + 1) = some g := e
    injection e2 with e3
    have := Z1.out
    omega, CB.out⟩
  refine (F1.out.next 3 (by omega) (by omega) (by omega)).mono ?_
  rintro e w2 ⟨x, rfl, hx, hf⟩
  have F2 : Hid (FM w P n cc ca C w1.heap.size w2 (K0 + 3 + 3) (some ⟨w.heap.size + 1, 0, none⟩) 0 0 [] Y) := hf
  clear hf F1 A1 O1 R1 D1 T1
  go_wp2_with fail
  go_loopw [4] (fun iv wr => ∃ (j i : Nat) (ua : Option Addr) (uc : Nat) (S : List MFl), iv = .int .i64 (j : Int) ∧ i + j ≤ 2 ∧ Hid (S.length = i ∧ drawnF S) ∧ Hid (FM w P n cc ca C w1.heap.size wr (K0 + 6 + 6 * i) ua i uc S Y)) (fun i _ => (intOf i).toNat)
  case atStart => exact ⟨x, 0, _, _, [], rfl, by omega, ⟨rfl, fun f hf => by cases hf⟩, F2.out⟩
  case round =>
    obtain ⟨j, i, ua, uc, S, rfl, hij, hS, hF⟩ := hrel
    obtain ⟨B, hB⟩ : ∃ B, w1.heap.size = B := ⟨_, rfl⟩
    rw [hB] at hF ⊢
    by_cases hj : 0 < j
    · have hj0 : (0 : Int) < (j : Int) := by omega
      go_wp2_with fail
      refine wp_region_noPanic ?_
      refine wp_region_held_drew (S := (fun _ => True)) (by kernel_rfl) trivial (fun hHeld => ?_)
      have Fwq : Hid (FM w P n cc ca C B wr.drew (K0 + 6 + 6 * i) ua i uc S Y) := hF.out.drew
      generalize wr.drew = wq at Fwq ⊢
      clear hF
      refine wpAnyH_take (i := 0) (v := .pointer (some ⟨B, 0, none⟩)) rfl (by kernel_rfl) (by kernel_rfl) (by kernel_rfl) (fun _ _ _ h => h) (Or.inl ⟨by rfl, ?_⟩) hHeld ?_
      · intro w9 hSw
        go_simp
      refine wpAnyH_take (i := 2) (v := .pointer (some ⟨P, 0, none⟩)) rfl (by kernel_rfl) (by kernel_rfl) (by kernel_rfl) (fun _ _ _ h => h) (Or.inl ⟨by rfl, ?_⟩) hHeld ?_
      · intro w9 hSw
        go_simp
      refine wpAnyH_take (i := 5) (v := .pointer (some ⟨P, 0, none⟩)) rfl (by kernel_rfl) (by kernel_rfl) (by kernel_rfl) (fun _ _ _ h => h) (Or.inl ⟨by rfl, ?_⟩) hHeld ?_
      · intro w9 hSw
        go_simp
      simp only [Act.put, List.setIfInBounds_toArray, List.set_cons_zero, List.set_cons_succ]
      refine wpAnyH_ready (rs := [1, 3, 6]) (by kernel_rfl) (by simp) ?_
      refine AllReadyH.cons rfl (fun K hK => ?_) (AllReadyH.cons rfl (fun K hK => ?_) (AllReadyH.cons rfl (fun K hK => ?_) AllReadyH.nil))
      · skip
        obtain ⟨e0, _⟩ := Fwq.out.2.2.1 0 _ rfl
        go_simp
        clear e0
        refine hK.out _ _ trivial (fun hHeld => ?_)
        clear hK K
        refine wpAnyH_ready (rs := [3, 6]) (by kernel_rfl) (by simp) ?_
        refine AllReadyH.cons rfl (fun K hK => ?_) (AllReadyH.cons rfl (fun K hK => ?_) AllReadyH.nil)
        · skip
          go_simp
          refine hK.out _ _ trivial (fun hHeld => ?_)
          clear hK K
          have Fwa1 : Hid (FM w P n cc ca C B (wq.alloc (.cells #[.string ⟨#[83, 117, 98, 106, 101, 99, 116]⟩, .string ⟨#[70, 114, 111, 109]⟩, .string ⟨#[88, 45, 89]⟩, .string ⟨#[115, 117, 98, 106, 101, 99, 116]⟩] 9)) (K0 + 6 + 6 * i) ua i uc S Y) := Fwq.out.alloc _
          have N3 : Hid (Src (wq.alloc (.cells #[.string ⟨#[83, 117, 98, 106, 101, 99, 116]⟩, .string ⟨#[70, 114, 111, 109]⟩, .string ⟨#[88, 45, 89]⟩, .string ⟨#[115, 117, 98, 106, 101, 99, 116]⟩] 9)) (some ⟨wq.heap.size, 0, none⟩) (cellsS nmL) ∧ wq.heap.size ≠ P) := ⟨src_four rfl, Fwq.out.ne⟩
          have Ewa1 : Hid (Below wq.heap.size wq (wq.alloc (.cells #[.string ⟨#[83, 117, 98, 106, 101, 99, 116]⟩, .string ⟨#[70, 114, 111, 109]⟩, .string ⟨#[88, 45, 89]⟩, .string ⟨#[115, 117, 98, 106, 101, 99, 116]⟩] 9))) := (Below.refl _ _).alloc (Nat.le_refl _) _
          generalize (wq.alloc (.cells #[.string ⟨#[83, 117, 98, 106, 101, 99, 116]⟩, .string ⟨#[70, 114, 111, 109]⟩, .string ⟨#[88, 45, 89]⟩, .string ⟨#[115, 117, 98, 106, 101, 99, 116]⟩] 9)) = wa1 at Fwa1 N3 Ewa1 ⊢
          generalize hb3 : wq.heap.size = b3 at N3 ⊢
          refine wpAnyH_ready (rs := [4, 6]) (by kernel_rfl) (by simp) ?_
          refine AllReadyH.cons rfl (fun K hK => ?_) (AllReadyH.cons rfl (fun K hK => ?_) AllReadyH.nil)
          · skip
            go_simp
            refine (Fwa1.out.pick b3 nmL N3.out.2 rfl (by omega) N3.out.1).mono ?_
            rintro e wa2 ⟨s4, rfl, hs4, hf, hsrc⟩
            dsimp only
            have Fwa2 : Hid (FM w P n cc ca C B wa2 (K0 + 6 + 6 * i + 3) ua i uc S Y) := hf
            have S4 : Hid (s4 ∈ nmL) := hs4
            clear hf hsrc hs4
            refine hK.out _ _ trivial (fun hHeld => ?_)
            clear hK K
            refine wpAnyH_ready (rs := [6]) (by kernel_rfl) (by simp) ?_
            refine AllReadyH.cons rfl (fun K hK => ?_) AllReadyH.nil
            go_simp
            refine hK.out _ _ trivial (fun hHeld => ?_)
            clear hK K
            have Fwa3 : Hid (FM w P n cc ca C B (wa2.alloc (.cells #[.string ⟨#[]⟩, .string ⟨#[111, 110, 101]⟩, .string ⟨#[97, 58, 32, 98]⟩, .string ⟨#[116, 119, 111, 32, 119, 111, 114, 100, 115]⟩] 9)) (K0 + 6 + 6 * i + 3) ua i uc S Y) := Fwa2.out.alloc _
            have N6 : Hid (Src (wa2.alloc (.cells #[.string ⟨#[]⟩, .string ⟨#[111, 110, 101]⟩, .string ⟨#[97, 58, 32, 98]⟩, .string ⟨#[116, 119, 111, 32, 119, 111, 114, 100, 115]⟩] 9)) (some ⟨wa2.heap.size, 0, none⟩) (cellsS vlL) ∧ wa2.heap.size ≠ P) := ⟨src_four rfl, Fwa2.out.ne⟩
            have Ewa3 : Hid (Below wa2.heap.size wa2 (wa2.alloc (.cells #[.string ⟨#[]⟩, .string ⟨#[111, 110, 101]⟩, .string ⟨#[97, 58, 32, 98]⟩, .string ⟨#[116, 119, 111, 32, 119, 111, 114, 100, 115]⟩] 9))) := (Below.refl _ _).alloc (Nat.le_refl _) _
            generalize (wa2.alloc (.cells #[.string ⟨#[]⟩, .string ⟨#[111, 110, 101]⟩, .string ⟨#[97, 58, 32, 98]⟩, .string ⟨#[116, 119, 111, 32, 119, 111, 114, 100, 115]⟩] 9)) = wa3 at Fwa3 N6 Ewa3 ⊢
            generalize hb6 : wa2.heap.size = b6 at N6 ⊢
            refine wpAnyH_ready (rs := [7]) (by kernel_rfl) (by simp) ?_
            refine AllReadyH.cons rfl (fun K hK => ?_) AllReadyH.nil
            go_simp
            refine (Fwa3.out.pick b6 vlL N6.out.2 rfl (by omega) N6.out.1).mono ?_
            rintro e wa4 ⟨s7, rfl, hs7, hf, hsrc⟩
            dsimp only
            have Fwa4 : Hid (FM w P n cc ca C B wa4 (K0 + 6 + 6 * i + 3 + 3) ua i uc S Y) := hf
            have S7 : Hid (s7 ∈ vlL) := hs7
            clear hf hsrc hs7
            refine hK.out _ _ trivial (fun hHeld => ?_)
            clear hK K
            refine wpAnyH_take (i := 8) (v := .agg #[.string s4, .string s7]) rfl (by kernel_rfl) (by kernel_rfl) (by kernel_rfl) (fun _ _ _ h => h) (Or.inl ⟨by rfl, ?_⟩) hHeld ?_
            · intro w9 hSw
              go_simp
            simp only [Act.put, List.setIfInBounds_toArray, List.set_cons_zero, List.set_cons_succ]
            refine wpAnyH_ready (rs := [9]) (by kernel_rfl) (by simp) ?_
            refine AllReadyH.cons rfl (fun K hK => ?_) AllReadyH.nil
            go_simp
            refine hK.out _ _ trivial (fun hHeld => ?_)
            clear hK K
            have Fwa5 : Hid (FM w P n cc ca C B (wa4.alloc (.cells #[.string s4, .string s7] 33)) (K0 + 6 + 6 * i + 3 + 3) ua i uc S Y) := Fwa4.out.alloc _
            have N9 : Hid (Src (wa4.alloc (.cells #[.string s4, .string s7] 33)) (some ⟨wa4.heap.size, 0, none⟩) (cellsFl [(s4, s7)])) := src_oneF rfl
            generalize (wa4.alloc (.cells #[.string s4, .string s7] 33)) = wa5 at Fwa5 N9 ⊢
            generalize hb9 : wa4.heap.size = b9 at N9 ⊢
            refine wpAnyH_ready (rs := [10]) (by kernel_rfl) (by simp) ?_
            refine AllReadyH.cons rfl (fun K hK => ?_) AllReadyH.nil
            refine step_append_src rfl (.tmp 17) (.tmp 25) 23 rfl (w.heap.size + 1) 33 (.agg #[.string ⟨#[]⟩, .string ⟨#[]⟩]) 2 32 Tryd.underlying23 infoFl rfl (by decide) (by decide) (.slice ua i uc) i (cellsFl S) (by simp [Act.eval]) Fwa5.out.2.2.2.1 ⟨b9, 0, none⟩ 1 1 (cellsFl [(s4, s7)]) (by simp [Act.eval]) rfl N9.out (cellsFl_one _) (by omega) (by decide) (by have := Fwa5.out.lt; have := Fwa5.out.2.2.2.2.2.1; omega) ?_
            intro v' w' hown hgrow hnew
            obtain ⟨ub, ud, rfl, hbox, hf⟩ := Fwa5.out.grow v' (s4, s7) hown hgrow hnew
            have FF : Hid (FM w P n cc ca C B (w'.setCell ⟨B, 0, none⟩ (.slice ub (i + 1) ud)) (K0 + 6 + 6 * (i + 1)) ub (i + 1) ud (S ++ [(s4, s7)]) Y) := hf.up (by omega)
            have SF : Hid ((S ++ [(s4, s7)]).length = i + 1 ∧ drawnF (S ++ [(s4, s7)])) := ⟨by rw [List.length_append, hS.out.1]; rfl, drawnF_snoc hS.out.2 S4.out S7.out⟩
            obtain ⟨e0, ef⟩ := hbox 0 _ rfl
            clear hown hgrow hnew hbox hf
            refine hK.out _ _ trivial (fun hHeld => ?_)
            clear hK K
            refine wpAnyH_take (i := 11) (v := .pointer (some ⟨B, 0, none⟩)) rfl (by kernel_rfl) (by kernel_rfl) (by kernel_rfl) (fun _ _ _ h => h) (Or.inl ⟨by rfl, ?_⟩) hHeld ?_
            · intro w9 hSw
              go_simp
            simp only [Act.put, List.setIfInBounds_toArray, List.set_cons_zero, List.set_cons_succ]
            refine wpAnyH_ready (rs := [12]) (by kernel_rfl) (by simp) ?_
            refine AllReadyH.cons rfl (fun K hK => ?_) AllReadyH.nil
            go_simp
            clear e0 ef
            refine hK.out _ _ trivial (fun hHeld => ?_)
            clear hK K
            refine wpAnyH_done (by kernel_rfl) ?_ _
            refine NoPanic.normal ?_
            go_wp2_with fail
            exact ⟨⟨j - 1, i + 1, _, _, _, by go_num, by omega, SF, FF⟩, by simp [intOf]; omega⟩
          · skip
            go_simp
            refine hK.out _ _ trivial (fun hHeld => ?_)
            clear hK K
            have Fwa6 : Hid (FM w P n cc ca C B (wa1.alloc (.cells #[.string ⟨#[]⟩, .string ⟨#[111, 110, 101]⟩, .string ⟨#[97, 58, 32, 98]⟩, .string ⟨#[116, 119, 111, 32, 119, 111, 114, 100, 115]⟩] 9)) (K0 + 6 + 6 * i) ua i uc S Y) := Fwa1.out.alloc _
            have N6 : Hid (Src (wa1.alloc (.cells #[.string ⟨#[]⟩, .string ⟨#[111, 110, 101]⟩, .string ⟨#[97, 58, 32, 98]⟩, .string ⟨#[116, 119, 111, 32, 119, 111, 114, 100, 115]⟩] 9)) (some ⟨wa1.heap.size, 0, none⟩) (cellsS vlL) ∧ wa1.heap.size ≠ P) := ⟨src_four rfl, Fwa1.out.ne⟩
            have Ewa6 : Hid (Below wa1.heap.size wa1 (wa1.alloc (.cells #[.string ⟨#[]⟩, .string ⟨#[111, 110, 101]⟩, .string ⟨#[97, 58, 32, 98]⟩, .string ⟨#[116, 119, 111, 32, 119, 111, 114, 100, 115]⟩] 9))) := (Below.refl _ _).alloc (Nat.le_refl _) _
            generalize (wa1.alloc (.cells #[.string ⟨#[]⟩, .string ⟨#[111, 110, 101]⟩, .string ⟨#[97, 58, 32, 98]⟩, .string ⟨#[116, 119, 111, 32, 119, 111, 114, 100, 115]⟩] 9)) = wa6 at Fwa6 N6 Ewa6 ⊢
            generalize hb6 : wa1.heap.size = b6 at N6 ⊢
            replace N3 : Hid (Src wa6 (some ⟨b3, 0, none⟩) (cellsS nmL) ∧ b3 ≠ P) := ⟨N3.out.1.below Ewa6.out, N3.out.2⟩
            refine wpAnyH_ready (rs := [4]) (by kernel_rfl) (by simp) ?_
            refine AllReadyH.cons rfl (fun K hK => ?_) AllReadyH.nil
            go_simp
            refine (Fwa6.out.pick b3 nmL N3.out.2 rfl (by omega) N3.out.1).mono ?_
            rintro e wa7 ⟨s4, rfl, hs4, hf, hsrc⟩
            dsimp only
            have Fwa7 : Hid (FM w P n cc ca C B wa7 (K0 + 6 + 6 * i + 3) ua i uc S Y) := hf
            replace N6 : Hid (Src wa7 (some ⟨b6, 0, none⟩) (cellsS vlL) ∧ b6 ≠ P) := ⟨hsrc _ _ N6.out.2 N6.out.1, N6.out.2⟩
            have S4 : Hid (s4 ∈ nmL) := hs4
            clear hf hsrc hs4
            refine hK.out _ _ trivial (fun hHeld => ?_)
            clear hK K
            refine wpAnyH_ready (rs := [7]) (by kernel_rfl) (by simp) ?_
            refine AllReadyH.cons rfl (fun K hK => ?_) AllReadyH.nil
            go_simp
            refine (Fwa7.out.pick b6 vlL N6.out.2 rfl (by omega) N6.out.1).mono ?_
            rintro e wa8 ⟨s7, rfl, hs7, hf, hsrc⟩
            dsimp only
            have Fwa8 : Hid (FM w P n cc ca C B wa8 (K0 + 6 + 6 * i + 3 + 3) ua i uc S Y) := hf
            have S7 : Hid (s7 ∈ vlL) := hs7
            clear hf hsrc hs7
            refine hK.out _ _ trivial (fun hHeld => ?_)
            clear hK K
            refine wpAnyH_take (i := 8) (v := .agg #[.string s4, .string s7]) rfl (by kernel_rfl) (by kernel_rfl) (by kernel_rfl) (fun _ _ _ h => h) (Or.inl ⟨by rfl, ?_⟩) hHeld ?_
            · intro w9 hSw
              go_simp
            simp only [Act.put, List.setIfInBounds_toArray, List.set_cons_zero, List.set_cons_succ]
            refine wpAnyH_ready (rs := [9]) (by kernel_rfl) (by simp) ?_
            refine AllReadyH.cons rfl (fun K hK => ?_) AllReadyH.nil
            go_simp
            refine hK.out _ _ trivial (fun hHeld => ?_)
            clear hK K
            have Fwa9 : Hid (FM w P n cc ca C B (wa8.alloc (.cells #[.string s4, .string s7] 33)) (K0 + 6 + 6 * i + 3 + 3) ua i uc S Y) := Fwa8.out.alloc _
            have N9 : Hid (Src (wa8.alloc (.cells #[.string s4, .string s7] 33)) (some ⟨wa8.heap.size, 0, none⟩) (cellsFl [(s4, s7)])) := src_oneF rfl
            generalize (wa8.alloc (.cells #[.string s4, .string s7] 33)) = wa9 at Fwa9 N9 ⊢
            generalize hb9 : wa8.heap.size = b9 at N9 ⊢
            refine wpAnyH_ready (rs := [10]) (by kernel_rfl) (by simp) ?_
            refine AllReadyH.cons rfl (fun K hK => ?_) AllReadyH.nil
            refine step_append_src rfl (.tmp 17) (.tmp 25) 23 rfl (w.heap.size + 1) 33 (.agg #[.string ⟨#[]⟩, .string ⟨#[]⟩]) 2 32 Tryd.underlying23 infoFl rfl (by decide) (by decide) (.slice ua i uc) i (cellsFl S) (by simp [Act.eval]) Fwa9.out.2.2.2.1 ⟨b9, 0, none⟩ 1 1 (cellsFl [(s4, s7)]) (by simp [Act.eval]) rfl N9.out (cellsFl_one _) (by omega) (by decide) (by have := Fwa9.out.lt; have := Fwa9.out.2.2.2.2.2.1; omega) ?_
            intro v' w' hown hgrow hnew
            obtain ⟨ub, ud, rfl, hbox, hf⟩ := Fwa9.out.grow v' (s4, s7) hown hgrow hnew
            have FF : Hid (FM w P n cc ca C B (w'.setCell ⟨B, 0, none⟩ (.slice ub (i + 1) ud)) (K0 + 6 + 6 * (i + 1)) ub (i + 1) ud (S ++ [(s4, s7)]) Y) := hf.up (by omega)
            have SF : Hid ((S ++ [(s4, s7)]).length = i + 1 ∧ drawnF (S ++ [(s4, s7)])) := ⟨by rw [List.length_append, hS.out.1]; rfl, drawnF_snoc hS.out.2 S4.out S7.out⟩
            obtain ⟨e0, ef⟩ := hbox 0 _ rfl
            clear hown hgrow hnew hbox hf
            refine hK.out _ _ trivial (fun hHeld => ?_)
            clear hK K
            refine wpAnyH_take (i := 11) (v := .pointer (some ⟨B, 0, none⟩)) rfl (by kernel_rfl) (by kernel_rfl) (by kernel_rfl) (fun _ _ _ h => h) (Or.inl ⟨by rfl, ?_⟩) hHeld ?_
            · intro w9 hSw
              go_simp
            simp only [Act.put, List.setIfInBounds_toArray, List.set_cons_zero, List.set_cons_succ]
            refine wpAnyH_ready (rs := [12]) (by kernel_rfl) (by simp) ?_
            refine AllReadyH.cons rfl (fun K hK => ?_) AllReadyH.nil
            go_simp
            clear e0 ef
            refine hK.out _ _ trivial (fun hHeld => ?_)
            clear hK K
            refine wpAnyH_done (by kernel_rfl) ?_ _
            refine NoPanic.normal ?_
            go_wp2_with fail
            exact ⟨⟨j - 1, i + 1, _, _, _, by go_num, by omega, SF, FF⟩, by simp [intOf]; omega⟩
        · skip
          go_simp
          refine hK.out _ _ trivial (fun hHeld => ?_)
          clear hK K
          have Fwa10 : Hid (FM w P n cc ca C B (wq.alloc (.cells #[.string ⟨#[]⟩, .string ⟨#[111, 110, 101]⟩, .string ⟨#[97, 58, 32, 98]⟩, .string ⟨#[116, 119, 111, 32, 119, 111, 114, 100, 115]⟩] 9)) (K0 + 6 + 6 * i) ua i uc S Y) := Fwq.out.alloc _
          have N6 : Hid (Src (wq.alloc (.cells #[.string ⟨#[]⟩, .string ⟨#[111, 110, 101]⟩, .string ⟨#[97, 58, 32, 98]⟩, .string ⟨#[116, 119, 111, 32, 119, 111, 114, 100, 115]⟩] 9)) (some ⟨wq.heap.size, 0, none⟩) (cellsS vlL) ∧ wq.heap.size ≠ P) := ⟨src_four rfl, Fwq.out.ne⟩
          have Ewa10 : Hid (Below wq.heap.size wq (wq.alloc (.cells #[.string ⟨#[]⟩, .string ⟨#[111, 110, 101]⟩, .string ⟨#[97, 58, 32, 98]⟩, .string ⟨#[116, 119, 111, 32, 119, 111, 114, 100, 115]⟩] 9))) := (Below.refl _ _).alloc (Nat.le_refl _) _
          generalize (wq.alloc (.cells #[.string ⟨#[]⟩, .string ⟨#[111, 110, 101]⟩, .string ⟨#[97, 58, 32, 98]⟩, .string ⟨#[116, 119, 111, 32, 119, 111, 114, 100, 115]⟩] 9)) = wa10 at Fwa10 N6 Ewa10 ⊢
          generalize hb6 : wq.heap.size = b6 at N6 ⊢
          refine wpAnyH_ready (rs := [3]) (by kernel_rfl) (by simp) ?_
          refine AllReadyH.cons rfl (fun K hK => ?_) AllReadyH.nil
          go_simp
          refine hK.out _ _ trivial (fun hHeld => ?_)
          clear hK K
          have Fwa11 : Hid (FM w P n cc ca C B (wa10.alloc (.cells #[.string ⟨#[83, 117, 98, 106, 101, 99, 116]⟩, .string ⟨#[70, 114, 111, 109]⟩, .string ⟨#[88, 45, 89]⟩, .string ⟨#[115, 117, 98, 106, 101, 99, 116]⟩] 9)) (K0 + 6 + 6 * i) ua i uc S Y) := Fwa10.out.alloc _
          have N3 : Hid (Src (wa10.alloc (.cells #[.string ⟨#[83, 117, 98, 106, 101, 99, 116]⟩, .string ⟨#[70, 114, 111, 109]⟩, .string ⟨#[88, 45, 89]⟩, .string ⟨#[115, 117, 98, 106, 101, 99, 116]⟩] 9)) (some ⟨wa10.heap.size, 0, none⟩) (cellsS nmL) ∧ wa10.heap.size ≠ P) := ⟨src_four rfl, Fwa10.out.ne⟩
          have Ewa11 : Hid (Below wa10.heap.size wa10 (wa10.alloc (.cells #[.string ⟨#[83, 117, 98, 106, 101, 99, 116]⟩, .string ⟨#[70, 114, 111, 109]⟩, .string ⟨#[88, 45, 89]⟩, .string ⟨#[115, 117, 98, 106, 101, 99, 116]⟩] 9))) := (Below.refl _ _).alloc (Nat.le_refl _) _
          generalize (wa10.alloc (.cells #[.string ⟨#[83, 117, 98, 106, 101, 99, 116]⟩, .string ⟨#[70, 114, 111, 109]⟩, .string ⟨#[88, 45, 89]⟩, .string ⟨#[115, 117, 98, 106, 101, 99, 116]⟩] 9)) = wa11 at Fwa11 N3 Ewa11 ⊢
          generalize hb3 : wa10.heap.size = b3 at N3 ⊢
          replace N6 : Hid (Src wa11 (some ⟨b6, 0, none⟩) (cellsS vlL) ∧ b6 ≠ P) := ⟨N6.out.1.below Ewa11.out, N6.out.2⟩
          refine wpAnyH_ready (rs := [4]) (by kernel_rfl) (by simp) ?_
          refine AllReadyH.cons rfl (fun K hK => ?_) AllReadyH.nil
          go_simp
          refine (Fwa11.out.pick b3 nmL N3.out.2 rfl (by omega) N3.out.1).mono ?_
          rintro e wa12 ⟨s4, rfl, hs4, hf, hsrc⟩
          dsimp only
          have Fwa12 : Hid (FM w P n cc ca C B wa12 (K0 + 6 + 6 * i + 3) ua i uc S Y) := hf
          replace N6 : Hid (Src wa12 (some ⟨b6, 0, none⟩) (cellsS vlL) ∧ b6 ≠ P) := ⟨hsrc _ _ N6.out.2 N6.out.1, N6.out.2⟩
          have S4 : Hid (s4 ∈ nmL) := hs4
          clear hf hsrc hs4
          refine hK.out _ _ trivial (fun hHeld => ?_)
          clear hK K
          refine wpAnyH_ready (rs := [7]) (by kernel_rfl) (by simp) ?_
          refine AllReadyH.cons rfl (fun K hK => ?_) AllReadyH.nil
          go_simp
          refine (Fwa12.out.pick b6 vlL N6.out.2 rfl (by omega) N6.out.1).mono ?_
          rintro e wa13 ⟨s7, rfl, hs7, hf, hsrc⟩
          dsimp only
          have Fwa13 : Hid (FM w P n cc ca C B wa13 (K0 + 6 + 6 * i + 3 + 3) ua i uc S Y) := hf
          have S7 : Hid (s7 ∈ vlL) := hs7
          clear hf hsrc hs7
          refine hK.out _ _ trivial (fun hHeld => ?_)
          clear hK K
          refine wpAnyH_take (i := 8) (v := .agg #[.string s4, .string s7]) rfl (by kernel_rfl) (by kernel_rfl) (by kernel_rfl) (fun _ _ _ h => h) (Or.inl ⟨by rfl, ?_⟩) hHeld ?_
          · intro w9 hSw
            go_simp
          simp only [Act.put, List.setIfInBounds_toArray, List.set_cons_zero, List.set_cons_succ]
          refine wpAnyH_ready (rs := [9]) (by kernel_rfl) (by simp) ?_
          refine AllReadyH.cons rfl (fun K hK => ?_) AllReadyH.nil
          go_simp
          refine hK.out _ _ trivial (fun hHeld => ?_)
          clear hK K
          have Fwa14 : Hid (FM w P n cc ca C B (wa13.alloc (.cells #[.string s4, .string s7] 33)) (K0 + 6 + 6 * i + 3 + 3) ua i uc S Y) := Fwa13.out.alloc _
          have N9 : Hid (Src (wa13.alloc (.cells #[.string s4, .string s7] 33)) (some ⟨wa13.heap.size, 0, none⟩) (cellsFl [(s4, s7)])) := src_oneF rfl
          generalize (wa13.alloc (.cells #[.string s4, .string s7] 33)) = wa14 at Fwa14 N9 ⊢
          generalize hb9 : wa13.heap.size = b9 at N9 ⊢
          refine wpAnyH_ready (rs := [10]) (by kernel_rfl) (by simp) ?_
          refine AllReadyH.cons rfl (fun K hK => ?_) AllReadyH.nil
          refine step_append_src rfl (.tmp 17) (.tmp 25) 23 rfl (w.heap.size + 1) 33 (.agg #[.string ⟨#[]⟩, .string ⟨#[]⟩]) 2 32 Tryd.underlying23 infoFl rfl (by decide) (by decide) (.slice ua i uc) i (cellsFl S) (by simp [Act.eval]) Fwa14.out.2.2.2.1 ⟨b9, 0, none⟩ 1 1 (cellsFl [(s4, s7)]) (by simp [Act.eval]) rfl N9.out (cellsFl_one _) (by omega) (by decide) (by have := Fwa14.out.lt; have := Fwa14.out.2.2.2.2.2.1; omega) ?_
          intro v' w' hown hgrow hnew
          obtain ⟨ub, ud, rfl, hbox, hf⟩ := Fwa14.out.grow v' (s4, s7) hown hgrow hnew
          have FF : Hid (FM w P n cc ca C B (w'.setCell ⟨B, 0, none⟩ (.slice ub (i + 1) ud)) (K0 + 6 + 6 * (i + 1)) ub (i + 1) ud (S ++ [(s4, s7)]) Y) := hf.up (by omega)
          have SF : Hid ((S ++ [(s4, s7)]).length = i + 1 ∧ drawnF (S ++ [(s4, s7)])) := ⟨by rw [List.length_append, hS.out.1]; rfl, drawnF_snoc hS.out.2 S4.out S7.out⟩
          obtain ⟨e0, ef⟩ := hbox 0 _ rfl
          clear hown hgrow hnew hbox hf
          refine hK.out _ _ trivial (fun hHeld => ?_)
          clear hK K
          refine wpAnyH_take (i := 11) (v := .pointer (some ⟨B, 0, none⟩)) rfl (by kernel_rfl) (by kernel_rfl) (by kernel_rfl) (fun _ _ _ h => h) (Or.inl ⟨by rfl, ?_⟩) hHeld ?_
          · intro w9 hSw
            go_simp
          simp only [Act.put, List.setIfInBounds_toArray, List.set_cons_zero, List.set_cons_succ]
          refine wpAnyH_ready (rs := [12]) (by kernel_rfl) (by simp) ?_
          refine AllReadyH.cons rfl (fun K hK => ?_) AllReadyH.nil
          go_simp
          clear e0 ef
          refine hK.out _ _ trivial (fun hHeld => ?_)
          clear hK K
          refine wpAnyH_done (by kernel_rfl) ?_ _
          refine NoPanic.normal ?_
          go_wp2_with fail
          exact ⟨⟨j - 1, i + 1, _, _, _, by go_num, by omega, SF, FF⟩, by simp [intOf]; omega⟩
      · skip
        go_simp
        refine hK.out _ _ trivial (fun hHeld => ?_)
        clear hK K
        have Fwa15 : Hid (FM w P n cc ca C B (wq.alloc (.cells #[.string ⟨#[83, 117, 98, 106, 101, 99, 116]⟩, .string ⟨#[70, 114, 111, 109]⟩, .string ⟨#[88, 45, 89]⟩, .string ⟨#[115, 117, 98, 106, 101, 99, 116]⟩] 9)) (K0 + 6 + 6 * i) ua i uc S Y) := Fwq.out.alloc _
        have N3 : Hid (Src (wq.alloc (.cells #[.string ⟨#[83, 117, 98, 106, 101, 99, 116]⟩, .string ⟨#[70, 114, 111, 109]⟩, .string ⟨#[88, 45, 89]⟩, .string ⟨#[115, 117, 98, 106, 101, 99, 116]⟩] 9)) (some ⟨wq.heap.size, 0, none⟩) (cellsS nmL) ∧ wq.heap.size ≠ P) := ⟨src_four rfl, Fwq.out.ne⟩
        have Ewa15 : Hid (Below wq.heap.size wq (wq.alloc (.cells #[.string ⟨#[83, 117, 98, 106, 101, 99, 116]⟩, .string ⟨#[70, 114, 111, 109]⟩, .string ⟨#[88, 45, 89]⟩, .string ⟨#[115, 117, 98, 106, 101, 99, 116]⟩] 9))) := (Below.refl _ _).alloc (Nat.le_refl _) _
        generalize (wq.alloc (.cells #[.string ⟨#[83, 117, 98, 106, 101, 99, 116]⟩, .string ⟨#[70, 114, 111, 109]⟩, .string ⟨#[88, 45, 89]⟩, .string ⟨#[115, 117, 98, 106, 101, 99, 116]⟩] 9)) = wa15 at Fwa15 N3 Ewa15 ⊢
        generalize hb3 : wq.heap.size = b3 at N3 ⊢
        refine wpAnyH_ready (rs := [1, 4, 6]) (by kernel_rfl) (by simp) ?_
        refine AllReadyH.cons rfl (fun K hK => ?_) (AllReadyH.cons rfl (fun K hK => ?_) (AllReadyH.cons rfl (fun K hK => ?_) AllReadyH.nil))
        · skip
          obtain ⟨e0, _⟩ := Fwa15.out.2.2.1 0 _ rfl
          go_simp
          clear e0
          refine hK.out _ _ trivial (fun hHeld => ?_)
          clear hK K
          refine wpAnyH_ready (rs := [4, 6]) (by kernel_rfl) (by simp) ?_
          refine AllReadyH.cons rfl (fun K hK => ?_) (AllReadyH.cons rfl (fun K hK => ?_) AllReadyH.nil)
          · skip
            go_simp
            refine (Fwa15.out.pick b3 nmL N3.out.2 rfl (by omega) N3.out.1).mono ?_
            rintro e wa16 ⟨s4, rfl, hs4, hf, hsrc⟩
            dsimp only
            have Fwa16 : Hid (FM w P n cc ca C B wa16 (K0 + 6 + 6 * i + 3) ua i uc S Y) := hf
            have S4 : Hid (s4 ∈ nmL) := hs4
            clear hf hsrc hs4
            refine hK.out _ _ trivial (fun hHeld => ?_)
            clear hK K
            refine wpAnyH_ready (rs := [6]) (by kernel_rfl) (by simp) ?_
            refine AllReadyH.cons rfl (fun K hK => ?_) AllReadyH.nil
            go_simp
            refine hK.out _ _ trivial (fun hHeld => ?_)
            clear hK K
            have Fwa17 : Hid (FM w P n cc ca C B (wa16.alloc (.cells #[.string ⟨#[]⟩, .string ⟨#[111, 110, 101]⟩, .string ⟨#[97, 58, 32, 98]⟩, .string ⟨#[116, 119, 111, 32, 119, 111, 114, 100, 115]⟩] 9)) (K0 + 6 + 6 * i + 3) ua i uc S Y) := Fwa16.out.alloc _
            have N6 : Hid (Src (wa16.alloc (.cells #[.string ⟨#[]⟩, .string ⟨#[111, 110, 101]⟩, .string ⟨#[97, 58, 32, 98]⟩, .string ⟨#[116, 119, 111, 32, 119, 111, 114, 100, 115]⟩] 9)) (some ⟨wa16.heap.size, 0, none⟩) (cellsS vlL) ∧ wa16.heap.size ≠ P) := ⟨src_four rfl, Fwa16.out.ne⟩
            have Ewa17 : Hid (Below wa16.heap.size wa16 (wa16.alloc (.cells #[.string ⟨#[]⟩, .string ⟨#[111, 110, 101]⟩, .string ⟨#[97, 58, 32, 98]⟩, .string ⟨#[116, 119, 111, 32, 119, 111, 114, 100, 115]⟩] 9))) := (Below.refl _ _).alloc (Nat.le_refl _) _
            generalize (wa16.alloc (.cells #[.string ⟨#[]⟩, .string ⟨#[111, 110, 101]⟩, .string ⟨#[97, 58, 32, 98]⟩, .string ⟨#[116, 119, 111, 32, 119, 111, 114, 100, 115]⟩] 9)) = wa17 at Fwa17 N6 Ewa17 ⊢
            generalize hb6 : wa16.heap.size = b6 at N6 ⊢
            refine wpAnyH_ready (rs := [7]) (by kernel_rfl) (by simp) ?_
            refine AllReadyH.cons rfl (fun K hK => ?_) AllReadyH.nil
            go_simp
            refine (Fwa17.out.pick b6 vlL N6.out.2 rfl (by omega) N6.out.1).mono ?_
            rintro e wa18 ⟨s7, rfl, hs7, hf, hsrc⟩
            dsimp only
            have Fwa18 : Hid (FM w P n cc ca C B wa18 (K0 + 6 + 6 * i + 3 + 3) ua i uc S Y) := hf
            have S7 : Hid (s7 ∈ vlL) := hs7
            clear hf hsrc hs7
            refine hK.out _ _ trivial (fun hHeld => ?_)
            clear hK K
            refine wpAnyH_take (i := 8) (v := .agg #[.string s4, .string s7]) rfl (by kernel_rfl) (by kernel_rfl) (by kernel_rfl) (fun _ _ _ h => h) (Or.inl ⟨by rfl, ?_⟩) hHeld ?_
            · intro w9 hSw
              go_simp
            simp only [Act.put, List.setIfInBounds_toArray, List.set_cons_zero, List.set_cons_succ]
            refine wpAnyH_ready (rs := [9]) (by kernel_rfl) (by simp) ?_
            refine AllReadyH.cons rfl (fun K hK => ?_) AllReadyH.nil
            go_simp
            refine hK.out _ _ trivial (fun hHeld => ?_)
            clear hK K
            have Fwa19 : Hid (FM w P n cc ca C B (wa18.alloc (.cells #[.string s4, .string s7] 33)) (K0 + 6 + 6 * i + 3 + 3) ua i uc S Y) := Fwa18.out.alloc _
            have N9 : Hid (Src (wa18.alloc (.cells #[.string s4, .string s7] 33)) (some ⟨wa18.heap.size, 0, none⟩) (cellsFl [(s4, s7)])) := src_oneF rfl
            generalize (wa18.alloc (.cells #[.string s4, .string s7] 33)) = wa19 at Fwa19 N9 ⊢
            generalize hb9 : wa18.heap.size = b9 at N9 ⊢
            refine wpAnyH_ready (rs := [10]) (by kernel_rfl) (by simp) ?_
            refine AllReadyH.cons rfl (fun K hK => ?_) AllReadyH.nil
            refine step_append_src rfl (.tmp 17) (.tmp 25) 23 rfl (w.heap.size + 1) 33 (.agg #[.string ⟨#[]⟩, .string ⟨#[]⟩]) 2 32 Tryd.underlying23 infoFl rfl (by decide) (by decide) (.slice ua i uc) i (cellsFl S) (by simp [Act.eval]) Fwa19.out.2.2.2.1 ⟨b9, 0, none⟩ 1 1 (cellsFl [(s4, s7)]) (by simp [Act.eval]) rfl N9.out (cellsFl_one _) (by omega) (by decide) (by have := Fwa19.out.lt; have := Fwa19.out.2.2.2.2.2.1; omega) ?_
            intro v' w' hown hgrow hnew
            obtain ⟨ub, ud, rfl, hbox, hf⟩ := Fwa19.out.grow v' (s4, s7) hown hgrow hnew
            have FF : Hid (FM w P n cc ca C B (w'.setCell ⟨B, 0, none⟩ (.slice ub (i + 1) ud)) (K0 + 6 + 6 * (i + 1)) ub (i + 1) ud (S ++ [(s4, s7)]) Y) := hf.up (by omega)
            have SF : Hid ((S ++ [(s4, s7)]).length = i + 1 ∧ drawnF (S ++ [(s4, s7)])) := ⟨by rw [List.length_append, hS.out.1]; rfl, drawnF_snoc hS.out.2 S4.out S7.out⟩
            obtain ⟨e0, ef⟩ := hbox 0 _ rfl
            clear hown hgrow hnew hbox hf
            refine hK.out _ _ trivial (fun hHeld => ?_)
            clear hK K
            refine wpAnyH_take (i := 11) (v := .pointer (some ⟨B, 0, none⟩)) rfl (by kernel_rfl) (by kernel_rfl) (by kernel_rfl) (fun _ _ _ h => h) (Or.inl ⟨by rfl, ?_⟩) hHeld ?_
            · intro w9 hSw
              go_simp
            simp only [Act.put, List.setIfInBounds_toArray, List.set_cons_zero, List.set_cons_succ]
            refine wpAnyH_ready (rs := [12]) (by kernel_rfl) (by simp) ?_
            refine AllReadyH.cons rfl (fun K hK => ?_) AllReadyH.nil
            go_simp
            clear e0 ef
            refine hK.out _ _ trivial (fun hHeld => ?_)
            clear hK K
            refine wpAnyH_done (by kernel_rfl) ?_ _
            refine NoPanic.normal ?_
            go_wp2_with fail
            exact ⟨⟨j - 1, i + 1, _, _, _, by go_num, by omega, SF, FF⟩, by simp [intOf]; omega⟩
          · skip
            go_simp
            refine hK.out _ _ trivial (fun hHeld => ?_)
            clear hK K
            have Fwa20 : Hid (FM w P n cc ca C B (wa15.alloc (.cells #[.string ⟨#[]⟩, .string ⟨#[111, 110, 101]⟩, .string ⟨#[97, 58, 32, 98]⟩, .string ⟨#[116, 119, 111, 32, 119, 111, 114, 100, 115]⟩] 9)) (K0 + 6 + 6 * i) ua i uc S Y) := Fwa15.out.alloc _
            have N6 : Hid (Src (wa15.alloc (.cells #[.string ⟨#[]⟩, .string ⟨#[111, 110, 101]⟩, .string ⟨#[97, 58, 32, 98]⟩, .string ⟨#[116, 119, 111, 32, 119, 111, 114, 100, 115]⟩] 9)) (some ⟨wa15.heap.size, 0, none⟩) (cellsS vlL) ∧ wa15.heap.size ≠ P) := ⟨src_four rfl, Fwa15.out.ne⟩
            have Ewa20 : Hid (Below wa15.heap.size wa15 (wa15.alloc (.cells #[.string ⟨#[]⟩, .string ⟨#[111, 110, 101]⟩, .string ⟨#[97, 58, 32, 98]⟩, .string ⟨#[116, 119, 111, 32, 119, 111, 114, 100, 115]⟩] 9))) := (Below.refl _ _).alloc (Nat.le_refl _) _
            generalize (wa15.alloc (.cells #[.string ⟨#[]⟩, .string ⟨#[111, 110, 101]⟩, .string ⟨#[97, 58, 32, 98]⟩, .string ⟨#[116, 119, 111, 32, 119, 111, 114, 100, 115]⟩] 9)) = wa20 at Fwa20 N6 Ewa20 ⊢
            generalize hb6 : wa15.heap.size = b6 at N6 ⊢
            replace N3 : Hid (Src wa20 (some ⟨b3, 0, none⟩) (cellsS nmL) ∧ b3 ≠ P) := ⟨N3.out.1.below Ewa20.out, N3.out.2⟩
            refine wpAnyH_ready (rs := [4]) (by kernel_rfl) (by simp) ?_
            refine AllReadyH.cons rfl (fun K hK => ?_) AllReadyH.nil
            go_simp
            refine (Fwa20.out.pick b3 nmL N3.out.2 rfl (by omega) N3.out.1).mono ?_
            rintro e wa21 ⟨s4, rfl, hs4, hf, hsrc⟩
            dsimp only
            have Fwa21 : Hid (FM w P n cc ca C B wa21 (K0 + 6 + 6 * i + 3) ua i uc S Y) := hf
            replace N6 : Hid (Src wa21 (some ⟨b6, 0, none⟩) (cellsS vlL) ∧ b6 ≠ P) := ⟨hsrc _ _ N6.out.2 N6.out.1, N6.out.2⟩
            have S4 : Hid (s4 ∈ nmL) := hs4
            clear hf hsrc hs4
            refine hK.out _ _ trivial (fun hHeld => ?_)
            clear hK K
            refine wpAnyH_ready (rs := [7]) (by kernel_rfl) (by simp) ?_
            refine AllReadyH.cons rfl (fun K hK => ?_) AllReadyH.nil
            go_simp
            refine (Fwa21.out.pick b6 vlL N6.out.2 rfl (by omega) N6.out.1).mono ?_
            rintro e wa22 ⟨s7, rfl, hs7, hf, hsrc⟩
            dsimp only
            have Fwa22 : Hid (FM w P n cc ca C B wa22 (K0 + 6 + 6 * i + 3 + 3) ua i uc S Y) := hf
            have S7 : Hid (s7 ∈ vlL) := hs7
            clear hf hsrc hs7
            refine hK.out _ _ trivial (fun hHeld => ?_)
            clear hK K
            refine wpAnyH_take (i := 8) (v := .agg #[.string s4, .string s7]) rfl (by kernel_rfl) (by kernel_rfl) (by kernel_rfl) (fun _ _ _ h => h) (Or.inl ⟨by rfl, ?_⟩) hHeld ?_
            · intro w9 hSw
              go_simp
            simp only [Act.put, List.setIfInBounds_toArray, List.set_cons_zero, List.set_cons_succ]
            refine wpAnyH_ready (rs := [9]) (by kernel_rfl) (by simp) ?_
            refine AllReadyH.cons rfl (fun K hK => ?_) AllReadyH.nil
            go_simp
            refine hK.out _ _ trivial (fun hHeld => ?_)
            clear hK K
            have Fwa23 : Hid (FM w P n cc ca C B (wa22.alloc (.cells #[.string s4, .string s7] 33)) (K0 + 6 + 6 * i + 3 + 3) ua i uc S Y) := Fwa22.out.alloc _
            have N9 : Hid (Src (wa22.alloc (.cells #[.string s4, .string s7] 33)) (some ⟨wa22.heap.size, 0, none⟩) (cellsFl [(s4, s7)])) := src_oneF rfl
            generalize (wa22.alloc (.cells #[.string s4, .string s7] 33)) = wa23 at Fwa23 N9 ⊢
            generalize hb9 : wa22.heap.size = b9 at N9 ⊢
            refine wpAnyH_ready (rs := [10]) (by kernel_rfl) (by simp) ?_
            refine AllReadyH.cons rfl (fun K hK => ?_) AllReadyH.nil
            refine step_append_src rfl (.tmp 17) (.tmp 25) 23 rfl (w.heap.size + 1) 33 (.agg #[.string ⟨#[]⟩, .string ⟨#[]⟩]) 2 32 Tryd.underlying23 infoFl rfl (by decide) (by decide) (.slice ua i uc) i (cellsFl S) (by simp [Act.eval]) Fwa23.out.2.2.2.1 ⟨b9, 0, none⟩ 1 1 (cellsFl [(s4, s7)]) (by simp [Act.eval]) rfl N9.out (cellsFl_one _) (by omega) (by decide) (by have := Fwa23.out.lt; have := Fwa23.out.2.2.2.2.2.1; omega) ?_
            intro v' w' hown hgrow hnew
            obtain ⟨ub, ud, rfl, hbox, hf⟩ := Fwa23.out.grow v' (s4, s7) hown hgrow hnew
            have FF : Hid (FM w P n cc ca C B (w'.setCell ⟨B, 0, none⟩ (.slice ub (i + 1) ud)) (K0 + 6 + 6 * (i + 1)) ub (i + 1) ud (S ++ [(s4, s7)]) Y) := hf.up (by omega)
            have SF : Hid ((S ++ [(s4, s7)]).length = i + 1 ∧ drawnF (S ++ [(s4, s7)])) := ⟨by rw [List.length_append, hS.out.1]; rfl, drawnF_snoc hS.out.2 S4.out S7.out⟩
            obtain ⟨e0, ef⟩ := hbox 0 _ rfl
            clear hown hgrow hnew hbox hf
            refine hK.out _ _ trivial (fun hHeld => ?_)
            clear hK K
            refine wpAnyH_take (i := 11) (v := .pointer (some ⟨B, 0, none⟩)) rfl (by kernel_rfl) (by kernel_rfl) (by kernel_rfl) (fun _ _ _ h => h) (Or.inl ⟨by rfl, ?_⟩) hHeld ?_
            · intro w9 hSw
              go_simp
            simp only [Act.put, List.setIfInBounds_toArray, List.set_cons_zero, List.set_cons_succ]
            refine wpAnyH_ready (rs := [12]) (by kernel_rfl) (by simp) ?_
            refine AllReadyH.cons rfl (fun K hK => ?_) AllReadyH.nil
            go_simp
            clear e0 ef
            refine hK.out _ _ trivial (fun hHeld => ?_)
            clear hK K
            refine wpAnyH_done (by kernel_rfl) ?_ _
            refine NoPanic.normal ?_
            go_wp2_with fail
            exact ⟨⟨j - 1, i + 1, _, _, _, by go_num, by omega, SF, FF⟩, by simp [intOf]; omega⟩
        · skip
          go_simp
          refine (Fwa15.out.pick b3 nmL N3.out.2 rfl (by omega) N3.out.1).mono ?_
          rintro e wa24 ⟨s4, rfl, hs4, hf, hsrc⟩
          dsimp only
          have Fwa24 : Hid (FM w P n cc ca C B wa24 (K0 + 6 + 6 * i + 3) ua i uc S Y) := hf
          have S4 : Hid (s4 ∈ nmL) := hs4
          clear hf hsrc hs4
          refine hK.out _ _ trivial (fun hHeld => ?_)
          clear hK K
          refine wpAnyH_ready (rs := [1, 6]) (by kernel_rfl) (by simp) ?_
          refine AllReadyH.cons rfl (fun K hK => ?_) (AllReadyH.cons rfl (fun K hK => ?_) AllReadyH.nil)
          · skip
            obtain ⟨e0, _⟩ := Fwa24.out.2.2.1 0 _ rfl
            go_simp
            clear e0
            refine hK.out _ _ trivial (fun hHeld => ?_)
            clear hK K
            refine wpAnyH_ready (rs := [6]) (by kernel_rfl) (by simp) ?_
            refine AllReadyH.cons rfl (fun K hK => ?_) AllReadyH.nil
            go_simp
            refine hK.out _ _ trivial (fun hHeld => ?_)
            clear hK K
            have Fwa25 : Hid (FM w P n cc ca C B (wa24.alloc (.cells #[.string ⟨#[]⟩, .string ⟨#[111, 110, 101]⟩, .string ⟨#[97, 58, 32, 98]⟩, .string ⟨#[116, 119, 111, 32, 119, 111, 114, 100, 115]⟩] 9)) (K0 + 6 + 6 * i + 3) ua i uc S Y) := Fwa24.out.alloc _
            have N6 : Hid (Src (wa24.alloc (.cells #[.string ⟨#[]⟩, .string ⟨#[111, 110, 101]⟩, .string ⟨#[97, 58, 32, 98]⟩, .string ⟨#[116, 119, 111, 32, 119, 111, 114, 100, 115]⟩] 9)) (some ⟨wa24.heap.size, 0, none⟩) (cellsS vlL) ∧ wa24.heap.size ≠ P) := ⟨src_four rfl, Fwa24.out.ne⟩
            have Ewa25 : Hid (Below wa24.heap.size wa24 (wa24.alloc (.cells #[.string ⟨#[]⟩, .string ⟨#[111, 110, 101]⟩, .string ⟨#[97, 58, 32, 98]⟩, .string ⟨#[116, 119, 111, 32, 119, 111, 114, 100, 115]⟩] 9))) := (Below.refl _ _).alloc (Nat.le_refl _) _
            generalize (wa24.alloc (.cells #[.string ⟨#[]⟩, .string ⟨#[111, 110, 101]⟩, .string ⟨#[97, 58, 32, 98]⟩, .string ⟨#[116, 119, 111, 32, 119, 111, 114, 100, 115]⟩] 9)) = wa25 at Fwa25 N6 Ewa25 ⊢
            generalize hb6 : wa24.heap.size = b6 at N6 ⊢
            refine wpAnyH_ready (rs := [7]) (by kernel_rfl) (by simp) ?_
            refine AllReadyH.cons rfl (fun K hK => ?_) AllReadyH.nil
            go_simp
            refine (Fwa25.out.pick b6 vlL N6.out.2 rfl (by omega) N6.out.1).mono ?_
            rintro e wa26 ⟨s7, rfl, hs7, hf, hsrc⟩
            dsimp only
            have Fwa26 : Hid (FM w P n cc ca C B wa26 (K0 + 6 + 6 * i + 3 + 3) ua i uc S Y) := hf
            have S7 : Hid (s7 ∈ vlL) := hs7
            clear hf hsrc hs7
            refine hK.out _ _ trivial (fun hHeld => ?_)
            clear hK K
            refine wpAnyH_take (i := 8) (v := .agg #[.string s4, .string s7]) rfl (by kernel_rfl) (by kernel_rfl) (by kernel_rfl) (fun _ _ _ h => h) (Or.inl ⟨by rfl, ?_⟩) hHeld ?_
            · intro w9 hSw
              go_simp
            simp only [Act.put, List.setIfInBounds_toArray, List.set_cons_zero, List.set_cons_succ]
            refine wpAnyH_ready (rs := [9]) (by kernel_rfl) (by simp) ?_
            refine AllReadyH.cons rfl (fun K hK => ?_) AllReadyH.nil
            go_simp
            refine hK.out _ _ trivial (fun hHeld => ?_)
            clear hK K
            have Fwa27 : Hid (FM w P n cc ca C B (wa26.alloc (.cells #[.string s4, .string s7] 33)) (K0 + 6 + 6 * i + 3 + 3) ua i uc S Y) := Fwa26.out.alloc _
            have N9 : Hid (Src (wa26.alloc (.cells #[.string s4, .string s7] 33)) (some ⟨wa26.heap.size, 0, none⟩) (cellsFl [(s4, s7)])) := src_oneF rfl
            generalize (wa26.alloc (.cells #[.string s4, .string s7] 33)) = wa27 at Fwa27 N9 ⊢
            generalize hb9 : wa26.heap.size = b9 at N9 ⊢
            refine wpAnyH_ready (rs := [10]) (by kernel_rfl) (by simp) ?_
            refine AllReadyH.cons rfl (fun K hK => ?_) AllReadyH.nil
            refine step_append_src rfl (.tmp 17) (.tmp 25) 23 rfl (w.heap.size + 1) 33 (.agg #[.string ⟨#[]⟩, .string ⟨#[]⟩]) 2 32 Tryd.underlying23 infoFl rfl (by decide) (by decide) (.slice ua i uc) i (cellsFl S) (by simp [Act.eval]) Fwa27.out.2.2.2.1 ⟨b9, 0, none⟩ 1 1 (cellsFl [(s4, s7)]) (by simp [Act.eval]) rfl N9.out (cellsFl_one _) (by omega) (by decide) (by have := Fwa27.out.lt; have := Fwa27.out.2.2.2.2.2.1; omega) ?_
            intro v' w' hown hgrow hnew
            obtain ⟨ub, ud, rfl, hbox, hf⟩ := Fwa27.out.grow v' (s4, s7) hown hgrow hnew
            have FF : Hid (FM w P n cc ca C B (w'.setCell ⟨B, 0, none⟩ (.slice ub (i + 1) ud)) (K0 + 6 + 6 * (i + 1)) ub (i + 1) ud (S ++ [(s4, s7)]) Y) := hf.up (by omega)
            have SF : Hid ((S ++ [(s4, s7)]).length = i + 1 ∧ drawnF (S ++ [(s4, s7)])) := ⟨by rw [List.length_append, hS.out.1]; rfl, drawnF_snoc hS.out.2 S4.out S7.out⟩
            obtain ⟨e0, ef⟩ := hbox 0 _ rfl
            clear hown hgrow hnew hbox hf
            refine hK.out _ _ trivial (fun hHeld => ?_)
            clear hK K
            refine wpAnyH_take (i := 11) (v := .pointer (some ⟨B, 0, none⟩)) rfl (by kernel_rfl) (by kernel_rfl) (by kernel_rfl) (fun _ _ _ h => h) (Or.inl ⟨by rfl, ?_⟩) hHeld ?_
            · intro w9 hSw
              go_simp
            simp only [Act.put, List.setIfInBounds_toArray, List.set_cons_zero, List.set_cons_succ]
            refine wpAnyH_ready (rs := [12]) (by kernel_rfl) (by simp) ?_
            refine AllReadyH.cons rfl (fun K hK => ?_) AllReadyH.nil
            go_simp
            clear e0 ef
            refine hK.out _ _ trivial (fun hHeld => ?_)
            clear hK K
            refine wpAnyH_done (by kernel_rfl) ?_ _
            refine NoPanic.normal ?_
            go_wp2_with fail
            exact ⟨⟨j - 1, i + 1, _, _, _, by go_num, by omega, SF, FF⟩, by simp [intOf]; omega⟩
          · skip
            go_simp
            refine hK.out _ _ trivial (fun hHeld => ?_)
            clear hK K
            have Fwa28 : Hid (FM w P n cc ca C B (wa24.alloc (.cells #[.string ⟨#[]⟩, .string ⟨#[111, 110, 101]⟩, .string ⟨#[97, 58, 32, 98]⟩, .string ⟨#[116, 119, 111, 32, 119, 111, 114, 100, 115]⟩] 9)) (K0 + 6 + 6 * i + 3) ua i uc S Y) := Fwa24.out.alloc _
            have N6 : Hid (Src (wa24.alloc (.cells #[.string ⟨#[]⟩, .string ⟨#[111, 110, 101]⟩, .string ⟨#[97, 58, 32, 98]⟩, .string ⟨#[116, 119, 111, 32, 119, 111, 114, 100, 115]⟩] 9)) (some ⟨wa24.heap.size, 0, none⟩) (cellsS vlL) ∧ wa24.heap.size ≠ P) := ⟨src_four rfl, Fwa24.out.ne⟩
            have Ewa28 : Hid (Below wa24.heap.size wa24 (wa24.alloc (.cells #[.string ⟨#[]⟩, .string ⟨#[111, 110, 101]⟩, .string ⟨#[97, 58, 32, 98]⟩, .string ⟨#[116, 119, 111, 32, 119, 111, 114, 100, 115]⟩] 9))) := (Below.refl _ _).alloc (Nat.le_refl _) _
            generalize (wa24.alloc (.cells #[.string ⟨#[]⟩, .string ⟨#[111, 110, 101]⟩, .string ⟨#[97, 58, 32, 98]⟩, .string ⟨#[116, 119, 111, 32, 119, 111, 114, 100, 115]⟩] 9)) = wa28 at Fwa28 N6 Ewa28 ⊢
            generalize hb6 : wa24.heap.size = b6 at N6 ⊢
            refine wpAnyH_ready (rs := [1, 7]) (by kernel_rfl) (by simp) ?_
            refine AllReadyH.cons rfl (fun K hK => ?_) (AllReadyH.cons rfl (fun K hK => ?_) AllReadyH.nil)
            · skip
              obtain ⟨e0, _⟩ := Fwa28.out.2.2.1 0 _ rfl
              go_simp
              clear e0
              refine hK.out _ _ trivial (fun hHeld => ?_)
              clear hK K
              refine wpAnyH_ready (rs := [7]) (by kernel_rfl) (by simp) ?_
              refine AllReadyH.cons rfl (fun K hK => ?_) AllReadyH.nil
              go_simp
              refine (Fwa28.out.pick b6 vlL N6.out.2 rfl (by omega) N6.out.1).mono ?_
              rintro e wa29 ⟨s7, rfl, hs7, hf, hsrc⟩
              dsimp only
              have Fwa29 : Hid (FM w P n cc ca C B wa29 (K0 + 6 + 6 * i + 3 + 3) ua i uc S Y) := hf
              have S7 : Hid (s7 ∈ vlL) := hs7
              clear hf hsrc hs7
              refine hK.out _ _ trivial (fun hHeld => ?_)
              clear hK K
              refine wpAnyH_take (i := 8) (v := .agg #[.string s4, .string s7]) rfl (by kernel_rfl) (by kernel_rfl) (by kernel_rfl) (fun _ _ _ h => h) (Or.inl ⟨by rfl, ?_⟩) hHeld ?_
              · intro w9 hSw
                go_simp
              simp only [Act.put, List.setIfInBounds_toArray, List.set_cons_zero, List.set_cons_succ]
              refine wpAnyH_ready (rs := [9]) (by kernel_rfl) (by simp) ?_
              refine AllReadyH.cons rfl (fun K hK => ?_) AllReadyH.nil
              go_simp
              refine hK.out _ _ trivial (fun hHeld => ?_)
              clear hK K
              have Fwa30 : Hid (FM w P n cc ca C B (wa29.alloc (.cells #[.string s4, .string s7] 33)) (K0 + 6 + 6 * i + 3 + 3) ua i uc S Y) := Fwa29.out.alloc _
              have N9 : Hid (Src (wa29.alloc (.cells #[.string s4, .string s7] 33)) (some ⟨wa29.heap.size, 0, none⟩) (cellsFl [(s4, s7)])) := src_oneF rfl
              generalize (wa29.alloc (.cells #[.string s4, .string s7] 33)) = wa30 at Fwa30 N9 ⊢
              generalize hb9 : wa29.heap.size = b9 at N9 ⊢
              refine wpAnyH_ready (rs := [10]) (by kernel_rfl) (by simp) ?_
              refine AllReadyH.cons rfl (fun K hK => ?_) AllReadyH.nil
              refine step_append_src rfl (.tmp 17) (.tmp 25) 23 rfl (w.heap.size + 1) 33 (.agg #[.string ⟨#[]⟩, .string ⟨#[]⟩]) 2 32 Tryd.underlying23 infoFl rfl (by decide) (by decide) (.slice ua i uc) i (cellsFl S) (by simp [Act.eval]) Fwa30.out.2.2.2.1 ⟨b9, 0, none⟩ 1 1 (cellsFl [(s4, s7)]) (by simp [Act.eval]) rfl N9.out (cellsFl_one _) (by omega) (by decide) (by have := Fwa30.out.lt; have := Fwa30.out.2.2.2.2.2.1; omega) ?_
              intro v' w' hown hgrow hnew
              obtain ⟨ub, ud, rfl, hbox, hf⟩ := Fwa30.out.grow v' (s4, s7) hown hgrow hnew
              have FF : Hid (FM w P n cc ca C B (w'.setCell ⟨B, 0, none⟩ (.slice ub (i + 1) ud)) (K0 + 6 + 6 * (i + 1)) ub (i + 1) ud (S ++ [(s4, s7)]) Y) := hf.up (by omega)
              have SF : Hid ((S ++ [(s4, s7)]).length = i + 1 ∧ drawnF (S ++ [(s4, s7)])) := ⟨by rw [List.length_append, hS.out.1]; rfl, drawnF_snoc hS.out.2 S4.out S7.out⟩
              obtain ⟨e0, ef⟩ := hbox 0 _ rfl
              clear hown hgrow hnew hbox hf
              refine hK.out _ _ trivial (fun hHeld => ?_)
              clear hK K
              refine wpAnyH_take (i := 11) (v := .pointer (some ⟨B, 0, none⟩)) rfl (by kernel_rfl) (by kernel_rfl) (by kernel_rfl) (fun _ _ _ h => h) (Or.inl ⟨by rfl, ?_⟩) hHeld ?_
              · intro w9 hSw
                go_simp
              simp only [Act.put, List.setIfInBounds_toArray, List.set_cons_zero, List.set_cons_succ]
              refine wpAnyH_ready (rs := [12]) (by kernel_rfl) (by simp) ?_
              refine AllReadyH.cons rfl (fun K hK => ?_) AllReadyH.nil
              go_simp
              clear e0 ef
              refine hK.out _ _ trivial (fun hHeld => ?_)
              clear hK K
              refine wpAnyH_done (by kernel_rfl) ?_ _
              refine NoPanic.normal ?_
              go_wp2_with fail
              exact ⟨⟨j - 1, i + 1, _, _, _, by go_num, by omega, SF, FF⟩, by simp [intOf]; omega⟩
            · skip
              go_simp
              refine (Fwa28.out.pick b6 vlL N6.out.2 rfl (by omega) N6.out.1).mono ?_
              rintro e wa31 ⟨s7, rfl, hs7, hf, hsrc⟩
              dsimp only
              have Fwa31 : Hid (FM w P n cc ca C B wa31 (K0 + 6 + 6 * i + 3 + 3) ua i uc S Y) := hf
              have S7 : Hid (s7 ∈ vlL) := hs7
              clear hf hsrc hs7
              refine hK.out _ _ trivial (fun hHeld => ?_)
              clear hK K
              refine wpAnyH_take (i := 8) (v := .agg #[.string s4, .string s7]) rfl (by kernel_rfl) (by kernel_rfl) (by kernel_rfl) (fun _ _ _ h => h) (Or.inl ⟨by rfl, ?_⟩) hHeld ?_
              · intro w9 hSw
                go_simp
              simp only [Act.put, List.setIfInBounds_toArray, List.set_cons_zero, List.set_cons_succ]
              refine wpAnyH_ready (rs := [1, 9]) (by kernel_rfl) (by simp) ?_
              refine AllReadyH.cons rfl (fun K hK => ?_) (AllReadyH.cons rfl (fun K hK => ?_) AllReadyH.nil)
              · skip
                obtain ⟨e0, _⟩ := Fwa31.out.2.2.1 0 _ rfl
                go_simp
                clear e0
                refine hK.out _ _ trivial (fun hHeld => ?_)
                clear hK K
                refine wpAnyH_ready (rs := [9]) (by kernel_rfl) (by simp) ?_
                refine AllReadyH.cons rfl (fun K hK => ?_) AllReadyH.nil
                go_simp
                refine hK.out _ _ trivial (fun hHeld => ?_)
                clear hK K
                have Fwa32 : Hid (FM w P n cc ca C B (wa31.alloc (.cells #[.string s4, .string s7] 33)) (K0 + 6 + 6 * i + 3 + 3) ua i uc S Y) := Fwa31.out.alloc _
                have N9 : Hid (Src (wa31.alloc (.cells #[.string s4, .string s7] 33)) (some ⟨wa31.heap.size, 0, none⟩) (cellsFl [(s4, s7)])) := src_oneF rfl
                generalize (wa31.alloc (.cells #[.string s4, .string s7] 33)) = wa32 at Fwa32 N9 ⊢
                generalize hb9 : wa31.heap.size = b9 at N9 ⊢
                refine wpAnyH_ready (rs := [10]) (by kernel_rfl) (by simp) ?_
                refine AllReadyH.cons rfl (fun K hK => ?_) AllReadyH.nil
                refine step_append_src rfl (.tmp 17) (.tmp 25) 23 rfl (w.heap.size + 1) 33 (.agg #[.string ⟨#[]⟩, .string ⟨#[]⟩]) 2 32 Tryd.underlying23 infoFl rfl (by decide) (by decide) (.slice ua i uc) i (cellsFl S) (by simp [Act.eval]) Fwa32.out.2.2.2.1 ⟨b9, 0, none⟩ 1 1 (cellsFl [(s4, s7)]) (by simp [Act.eval]) rfl N9.out (cellsFl_one _) (by omega) (by decide) (by have := Fwa32.out.lt; have := Fwa32.out.2.2.2.2.2.1; omega) ?_
                intro v' w' hown hgrow hnew
                obtain ⟨ub, ud, rfl, hbox, hf⟩ := Fwa32.out.grow v' (s4, s7) hown hgrow hnew
                have FF : Hid (FM w P n cc ca C B (w'.setCell ⟨B, 0, none⟩ (.slice ub (i + 1) ud)) (K0 + 6 + 6 * (i + 1)) ub (i + 1) ud (S ++ [(s4, s7)]) Y) := hf.up (by omega)
                have SF : Hid ((S ++ [(s4, s7)]).length = i + 1 ∧ drawnF (S ++ [(s4, s7)])) := ⟨by rw [List.length_append, hS.out.1]; rfl, drawnF_snoc hS.out.2 S4.out S7.out⟩
                obtain ⟨e0, ef⟩ := hbox 0 _ rfl
                clear hown hgrow hnew hbox hf
                refine hK.out _ _ trivial (fun hHeld => ?_)
                clear hK K
                refine wpAnyH_take (i := 11) (v := .pointer (some ⟨B, 0, none⟩)) rfl (by kernel_rfl) (by kernel_rfl) (by kernel_rfl) (fun _ _ _ h => h) (Or.inl ⟨by rfl, ?_⟩) hHeld ?_
                · intro w9 hSw
                  go_simp
                simp only [Act.put, List.setIfInBounds_toArray, List.set_cons_zero, List.set_cons_succ]
                refine wpAnyH_ready (rs := [12]) (by kernel_rfl) (by simp) ?_
                refine AllReadyH.cons rfl (fun K hK => ?_) AllReadyH.nil
                go_simp
                clear e0 ef
                refine hK.out _ _ trivial (fun hHeld => ?_)
                clear hK K
                refine wpAnyH_done (by kernel_rfl) ?_ _
                refine NoPanic.normal ?_
                go_wp2_with fail
                exact ⟨⟨j - 1, i + 1, _, _, _, by go_num, by omega, SF, FF⟩, by simp [intOf]; omega⟩
              · skip
                go_simp
                refine hK.out _ _ trivial (fun hHeld => ?_)
                clear hK K
                have Fwa33 : Hid (FM w P n cc ca C B (wa31.alloc (.cells #[.string s4, .string s7] 33)) (K0 + 6 + 6 * i + 3 + 3) ua i uc S Y) := Fwa31.out.alloc _
                have N9 : Hid (Src (wa31.alloc (.cells #[.string s4, .string s7] 33)) (some ⟨wa31.heap.size, 0, none⟩) (cellsFl [(s4, s7)])) := src_oneF rfl
                generalize (wa31.alloc (.cells #[.string s4, .string s7] 33)) = wa33 at Fwa33 N9 ⊢
                generalize hb9 : wa31.heap.size = b9 at N9 ⊢
                refine wpAnyH_ready (rs := [1]) (by kernel_rfl) (by simp) ?_
                refine AllReadyH.cons rfl (fun K hK => ?_) AllReadyH.nil
                obtain ⟨e0, _⟩ := Fwa33.out.2.2.1 0 _ rfl
                go_simp
                clear e0
                refine hK.out _ _ trivial (fun hHeld => ?_)
                clear hK K
                refine wpAnyH_ready (rs := [10]) (by kernel_rfl) (by simp) ?_
                refine AllReadyH.cons rfl (fun K hK => ?_) AllReadyH.nil
                refine step_append_src rfl (.tmp 17) (.tmp 25) 23 rfl (w.heap.size + 1) 33 (.agg #[.string ⟨#[]⟩, .string ⟨#[]⟩]) 2 32 Tryd.underlying23 infoFl rfl (by decide) (by decide) (.slice ua i uc) i (cellsFl S) (by simp [Act.eval]) Fwa33.out.2.2.2.1 ⟨b9, 0, none⟩ 1 1 (cellsFl [(s4, s7)]) (by simp [Act.eval]) rfl N9.out (cellsFl_one _) (by omega) (by decide) (by have := Fwa33.out.lt; have := Fwa33.out.2.2.2.2.2.1; omega) ?_
                intro v' w' hown hgrow hnew
                obtain ⟨ub, ud, rfl, hbox, hf⟩ := Fwa33.out.grow v' (s4, s7) hown hgrow hnew
                have FF : Hid (FM w P n cc ca C B (w'.setCell ⟨B, 0, none⟩ (.slice ub (i + 1) ud)) (K0 + 6 + 6 * (i + 1)) ub (i + 1) ud (S ++ [(s4, s7)]) Y) := hf.up (by omega)
                have SF : Hid ((S ++ [(s4, s7)]).length = i + 1 ∧ drawnF (S ++ [(s4, s7)])) := ⟨by rw [List.length_append, hS.out.1]; rfl, drawnF_snoc hS.out.2 S4.out S7.out⟩
                obtain ⟨e0, ef⟩ := hbox 0 _ rfl
                clear hown hgrow hnew hbox hf
                refine hK.out _ _ trivial (fun hHeld => ?_)
                clear hK K
                refine wpAnyH_take (i := 11) (v := .pointer (some ⟨B, 0, none⟩)) rfl (by kernel_rfl) (by kernel_rfl) (by kernel_rfl) (fun _ _ _ h => h) (Or.inl ⟨by rfl, ?_⟩) hHeld ?_
                · intro w9 hSw
                  go_simp
                simp only [Act.put, List.setIfInBounds_toArray, List.set_cons_zero, List.set_cons_succ]
                refine wpAnyH_ready (rs := [12]) (by kernel_rfl) (by simp) ?_
                refine AllReadyH.cons rfl (fun K hK => ?_) AllReadyH.nil
                go_simp
                clear e0 ef
                refine hK.out _ _ trivial (fun hHeld => ?_)
                clear hK K
                refine wpAnyH_done (by kernel_rfl) ?_ _
                refine NoPanic.normal ?_
                go_wp2_with fail
                exact ⟨⟨j - 1, i + 1, _, _, _, by go_num, by omega, SF, FF⟩, by simp [intOf]; omega⟩
        · skip
          go_simp
          refine hK.out _ _ trivial (fun hHeld => ?_)
          clear hK K
          have Fwa34 : Hid (FM w P n cc ca C B (wa15.alloc (.cells #[.string ⟨#[]⟩, .string ⟨#[111, 110, 101]⟩, .string ⟨#[97, 58, 32, 98]⟩, .string ⟨#[116, 119, 111, 32, 119, 111, 114, 100, 115]⟩] 9)) (K0 + 6 + 6 * i) ua i uc S Y) := Fwa15.out.alloc _
          have N6 : Hid (Src (wa15.alloc (.cells #[.string ⟨#[]⟩, .string ⟨#[111, 110, 101]⟩, .string ⟨#[97, 58, 32, 98]⟩, .string ⟨#[116, 119, 111, 32, 119, 111, 114, 100, 115]⟩] 9)) (some ⟨wa15.heap.size, 0, none⟩) (cellsS vlL) ∧ wa15.heap.size ≠ P) := ⟨src_four rfl, Fwa15.out.ne⟩
          have Ewa34 : Hid (Below wa15.heap.size wa15 (wa15.alloc (.cells #[.string ⟨#[]⟩, .string ⟨#[111, 110, 101]⟩, .string ⟨#[97, 58, 32, 98]⟩, .string ⟨#[116, 119, 111, 32, 119, 111, 114, 100, 115]⟩] 9))) := (Below.refl _ _).alloc (Nat.le_refl _) _
          generalize (wa15.alloc (.cells #[.string ⟨#[]⟩, .string ⟨#[111, 110, 101]⟩, .string ⟨#[97, 58, 32, 98]⟩, .string ⟨#[116, 119, 111, 32, 119, 111, 114, 100, 115]⟩] 9)) = wa34 at Fwa34 N6 Ewa34 ⊢
          generalize hb6 : wa15.heap.size = b6 at N6 ⊢
          replace N3 : Hid (Src wa34 (some ⟨b3, 0, none⟩) (cellsS nmL) ∧ b3 ≠ P) := ⟨N3.out.1.below Ewa34.out, N3.out.2⟩
          refine wpAnyH_ready (rs := [1, 4]) (by kernel_rfl) (by simp) ?_
          refine AllReadyH.cons rfl (fun K hK => ?_) (AllReadyH.cons rfl (fun K hK => ?_) AllReadyH.nil)
          · skip
            obtain ⟨e0, _⟩ := Fwa34.out.2.2.1 0 _ rfl
            go_simp
            clear e0
            refine hK.out _ _ trivial (fun hHeld => ?_)
            clear hK K
            refine wpAnyH_ready (rs := [4]) (by kernel_rfl) (by simp) ?_
            refine AllReadyH.cons rfl (fun K hK => ?_) AllReadyH.nil
            go_simp
            refine (Fwa34.out.pick b3 nmL N3.out.2 rfl (by omega) N3.out.1).mono ?_
            rintro e wa35 ⟨s4, rfl, hs4, hf, hsrc⟩
            dsimp only
            have Fwa35 : Hid (FM w P n cc ca C B wa35 (K0 + 6 + 6 * i + 3) ua i uc S Y) := hf
            replace N6 : Hid (Src wa35 (some ⟨b6, 0, none⟩) (cellsS vlL) ∧ b6 ≠ P) := ⟨hsrc _ _ N6.out.2 N6.out.1, N6.out.2⟩
            have S4 : Hid (s4 ∈ nmL) := hs4
            clear hf hsrc hs4
            refine hK.out _ _ trivial (fun hHeld => ?_)
            clear hK K
            refine wpAnyH_ready (rs := [7]) (by kernel_rfl) (by simp) ?_
            refine AllReadyH.cons rfl (fun K hK => ?_) AllReadyH.nil
            go_simp
            refine (Fwa35.out.pick b6 vlL N6.out.2 rfl (by omega) N6.out.1).mono ?_
            rintro e wa36 ⟨s7, rfl, hs7, hf, hsrc⟩
            dsimp only
            have Fwa36 : Hid (FM w P n cc ca C B wa36 (K0 + 6 + 6 * i + 3 + 3) ua i uc S Y) := hf
            have S7 : Hid (s7 ∈ vlL) := hs7
            clear hf hsrc hs7
            refine hK.out _ _ trivial (fun hHeld => ?_)
            clear hK K
            refine wpAnyH_take (i := 8) (v := .agg #[.string s4, .string s7]) rfl (by kernel_rfl) (by kernel_rfl) (by kernel_rfl) (fun _ _ _ h => h) (Or.inl ⟨by rfl, ?_⟩) hHeld ?_
            · intro w9 hSw
              go_simp
            simp only [Act.put, List.setIfInBounds_toArray, List.set_cons_zero, List.set_cons_succ]
            refine wpAnyH_ready (rs := [9]) (by kernel_rfl) (by simp) ?_
            refine AllReadyH.cons rfl (fun K hK => ?_) AllReadyH.nil
            go_simp
            refine hK.out _ _ trivial (fun hHeld => ?_)
            clear hK K
            have Fwa37 : Hid (FM w P n cc ca C B (wa36.alloc (.cells #[.string s4, .string s7] 33)) (K0 + 6 + 6 * i + 3 + 3) ua i uc S Y) := Fwa36.out.alloc _
            have N9 : Hid (Src (wa36.alloc (.cells #[.string s4, .string s7] 33)) (some ⟨wa36.heap.size, 0, none⟩) (cellsFl [(s4, s7)])) := src_oneF rfl
            generalize (wa36.alloc (.cells #[.string s4, .string s7] 33)) = wa37 at Fwa37 N9 ⊢
            generalize hb9 : wa36.heap.size = b9 at N9 ⊢
            refine wpAnyH_ready (rs := [10]) (by kernel_rfl) (by simp) ?_
            refine AllReadyH.cons rfl (fun K hK => ?_) AllReadyH.nil
            refine step_append_src rfl (.tmp 17) (.tmp 25) 23 rfl (w.heap.size + 1) 33 (.agg #[.string ⟨#[]⟩, .string ⟨#[]⟩]) 2 32 Tryd.underlying23 infoFl rfl (by decide) (by decide) (.slice ua i uc) i (cellsFl S) (by simp [Act.eval]) Fwa37.out.2.2.2.1 ⟨b9, 0, none⟩ 1 1 (cellsFl [(s4, s7)]) (by simp [Act.eval]) rfl N9.out (cellsFl_one _) (by omega) (by decide) (by have := Fwa37.out.lt; have := Fwa37.out.2.2.2.2.2.1; omega) ?_
            intro v' w' hown hgrow hnew
            obtain ⟨ub, ud, rfl, hbox, hf⟩ := Fwa37.out.grow v' (s4, s7) hown hgrow hnew
            have FF : Hid (FM w P n cc ca C B (w'.setCell ⟨B, 0, none⟩ (.slice ub (i + 1) ud)) (K0 + 6 + 6 * (i + 1)) ub (i + 1) ud (S ++ [(s4, s7)]) Y) := hf.up (by omega)
            have SF : Hid ((S ++ [(s4, s7)]).length = i + 1 ∧ drawnF (S ++ [(s4, s7)])) := ⟨by rw [List.length_append, hS.out.1]; rfl, drawnF_snoc hS.out.2 S4.out S7.out⟩
            obtain ⟨e0, ef⟩ := hbox 0 _ rfl
            clear hown hgrow hnew hbox hf
            refine hK.out _ _ trivial (fun hHeld => ?_)
            clear hK K
            refine wpAnyH_take (i := 11) (v := .pointer (some ⟨B, 0, none⟩)) rfl (by kernel_rfl) (by kernel_rfl) (by kernel_rfl) (fun _ _ _ h => h) (Or.inl ⟨by rfl, ?_⟩) hHeld ?_
            · intro w9 hSw
              go_simp
            simp only [Act.put, List.setIfInBounds_toArray, List.set_cons_zero, List.set_cons_succ]
            refine wpAnyH_ready (rs := [12]) (by kernel_rfl) (by simp) ?_
            refine AllReadyH.cons rfl (fun K hK => ?_) AllReadyH.nil
            go_simp
            clear e0 ef
            refine hK.out _ _ trivial (fun hHeld => ?_)
            clear hK K
            refine wpAnyH_done (by kernel_rfl) ?_ _
            refine NoPanic.normal ?_
            go_wp2_with fail
            exact ⟨⟨j - 1, i + 1, _, _, _, by go_num, by omega, SF, FF⟩, by simp [intOf]; omega⟩
          · skip
            go_simp
            refine (Fwa34.out.pick b3 nmL N3.out.2 rfl (by omega) N3.out.1).mono ?_
            rintro e wa38 ⟨s4, rfl, hs4, hf, hsrc⟩
            dsimp only
            have Fwa38 : Hid (FM w P n cc ca C B wa38 (K0 + 6 + 6 * i + 3) ua i uc S Y) := hf
            replace N6 : Hid (Src wa38 (some ⟨b6, 0, none⟩) (cellsS vlL) ∧ b6 ≠ P) := ⟨hsrc _ _ N6.out.2 N6.out.1, N6.out.2⟩
            have S4 : Hid (s4 ∈ nmL) := hs4
            clear hf hsrc hs4
            refine hK.out _ _ trivial (fun hHeld => ?_)
            clear hK K
            refine wpAnyH_ready (rs := [1, 7]) (by kernel_rfl) (by simp) ?_
            refine AllReadyH.cons rfl (fun K hK => ?_) (AllReadyH.cons rfl (fun K hK => ?_) AllReadyH.nil)
            · skip
              obtain ⟨e0, _⟩ := Fwa38.out.2.2.1 0 _ rfl
              go_simp
              clear e0
              refine hK.out _ _ trivial (fun hHeld => ?_)
              clear hK K
              refine wpAnyH_ready (rs := [7]) (by kernel_rfl) (by simp) ?_
              refine AllReadyH.cons rfl (fun K hK => ?_) AllReadyH.nil
              go_simp
              refine (Fwa38.out.pick b6 vlL N6.out.2 rfl (by omega) N6.out.1).mono ?_
              rintro e wa39 ⟨s7, rfl, hs7, hf, hsrc⟩
              dsimp only
              have Fwa39 : Hid (FM w P n cc ca C B wa39 (K0 + 6 + 6 * i + 3 + 3) ua i uc S Y) := hf
              have S7 : Hid (s7 ∈ vlL) := hs7
              clear hf hsrc hs7
              refine hK.out _ _ trivial (fun hHeld => ?_)
              clear hK K
              refine wpAnyH_take (i := 8) (v := .agg #[.string s4, .string s7]) rfl (by kernel_rfl) (by kernel_rfl) (by kernel_rfl) (fun _ _ _ h => h) (Or.inl ⟨by rfl, ?_⟩) hHeld ?_
              · intro w9 hSw
                go_simp
              simp only [Act.put, List.setIfInBounds_toArray, List.set_cons_zero, List.set_cons_succ]
              refine wpAnyH_ready (rs := [9]) (by kernel_rfl) (by simp) ?_
              refine AllReadyH.cons rfl (fun K hK => ?_) AllReadyH.nil
              go_simp
              refine hK.out _ _ trivial (fun hHeld => ?_)
              clear hK K
              have Fwa40 : Hid (FM w P n cc ca C B (wa39.alloc (.cells #[.string s4, .string s7] 33)) (K0 + 6 + 6 * i + 3 + 3) ua i uc S Y) := Fwa39.out.alloc _
              have N9 : Hid (Src (wa39.alloc (.cells #[.string s4, .string s7] 33)) (some ⟨wa39.heap.size, 0, none⟩) (cellsFl [(s4, s7)])) := src_oneF rfl
              generalize (wa39.alloc (.cells #[.string s4, .string s7] 33)) = wa40 at Fwa40 N9 ⊢
              generalize hb9 : wa39.heap.size = b9 at N9 ⊢
              refine wpAnyH_ready (rs := [10]) (by kernel_rfl) (by simp) ?_
              refine AllReadyH.cons rfl (fun K hK => ?_) AllReadyH.nil
              refine step_append_src rfl (.tmp 17) (.tmp 25) 23 rfl (w.heap.size + 1) 33 (.agg #[.string ⟨#[]⟩, .string ⟨#[]⟩]) 2 32 Tryd.underlying23 infoFl rfl (by decide) (by decide) (.slice ua i uc) i (cellsFl S) (by simp [Act.eval]) Fwa40.out.2.2.2.1 ⟨b9, 0, none⟩ 1 1 (cellsFl [(s4, s7)]) (by simp [Act.eval]) rfl N9.out (cellsFl_one _) (by omega) (by decide) (by have := Fwa40.out.lt; have := Fwa40.out.2.2.2.2.2.1; omega) ?_
              intro v' w' hown hgrow hnew
              obtain ⟨ub, ud, rfl, hbox, hf⟩ := Fwa40.out.grow v' (s4, s7) hown hgrow hnew
              have FF : Hid (FM w P n cc ca C B (w'.setCell ⟨B, 0, none⟩ (.slice ub (i + 1) ud)) (K0 + 6 + 6 * (i + 1)) ub (i + 1) ud (S ++ [(s4, s7)]) Y) := hf.up (by omega)
              have SF : Hid ((S ++ [(s4, s7)]).length = i + 1 ∧ drawnF (S ++ [(s4, s7)])) := ⟨by rw [List.length_append, hS.out.1]; rfl, drawnF_snoc hS.out.2 S4.out S7.out⟩
              obtain ⟨e0, ef⟩ := hbox 0 _ rfl
              clear hown hgrow hnew hbox hf
              refine hK.out _ _ trivial (fun hHeld => ?_)
              clear hK K
              refine wpAnyH_take (i := 11) (v := .pointer (some ⟨B, 0, none⟩)) rfl (by kernel_rfl) (by kernel_rfl) (by kernel_rfl) (fun _ _ _ h => h) (Or.inl ⟨by rfl, ?_⟩) hHeld ?_
              · intro w9 hSw
                go_simp
              simp only [Act.put, List.setIfInBounds_toArray, List.set_cons_zero, List.set_cons_succ]
              refine wpAnyH_ready (rs := [12]) (by kernel_rfl) (by simp) ?_
              refine AllReadyH.cons rfl (fun K hK => ?_) AllReadyH.nil
              go_simp
              clear e0 ef
              refine hK.out _ _ trivial (fun hHeld => ?_)
              clear hK K
              refine wpAnyH_done (by kernel_rfl) ?_ _
              refine NoPanic.normal ?_
              go_wp2_with fail
              exact ⟨⟨j - 1, i + 1, _, _, _, by go_num, by omega, SF, FF⟩, by simp [intOf]; omega⟩
            · skip
              go_simp
              refine (Fwa38.out.pick b6 vlL N6.out.2 rfl (by omega) N6.out.1).mono ?_
              rintro e wa41 ⟨s7, rfl, hs7, hf, hsrc⟩
              dsimp only
              have Fwa41 : Hid (FM w P n cc ca C B wa41 (K0 + 6 + 6 * i + 3 + 3) ua i uc S Y) := hf
              have S7 : Hid (s7 ∈ vlL) := hs7
              clear hf hsrc hs7
              refine hK.out _ _ trivial (fun hHeld => ?_)
              clear hK K
              refine wpAnyH_take (i := 8) (v := .agg #[.string s4, .string s7]) rfl (by kernel_rfl) (by kernel_rfl) (by kernel_rfl) (fun _ _ _ h => h) (Or.inl ⟨by rfl, ?_⟩) hHeld ?_
              · intro w9 hSw
                go_simp
              simp only [Act.put, List.setIfInBounds_toArray, List.set_cons_zero, List.set_cons_succ]
              refine wpAnyH_ready (rs := [1, 9]) (by kernel_rfl) (by simp) ?_
              refine AllReadyH.cons rfl (fun K hK => ?_) (AllReadyH.cons rfl (fun K hK => ?_) AllReadyH.nil)
              · skip
                obtain ⟨e0, _⟩ := Fwa41.out.2.2.1 0 _ rfl
                go_simp
                clear e0
                refine hK.out _ _ trivial (fun hHeld => ?_)
                clear hK K
                refine wpAnyH_ready (rs := [9]) (by kernel_rfl) (by simp) ?_
                refine AllReadyH.cons rfl (fun K hK => ?_) AllReadyH.nil
                go_simp
                refine hK.out _ _ trivial (fun hHeld => ?_)
                clear hK K
                have Fwa42 : Hid (FM w P n cc ca C B (wa41.alloc (.cells #[.string s4, .string s7] 33)) (K0 + 6 + 6 * i + 3 + 3) ua i uc S Y) := Fwa41.out.alloc _
                have N9 : Hid (Src (wa41.alloc (.cells #[.string s4, .string s7] 33)) (some ⟨wa41.heap.size, 0, none⟩) (cellsFl [(s4, s7)])) := src_oneF rfl
                generalize (wa41.alloc (.cells #[.string s4, .string s7] 33)) = wa42 at Fwa42 N9 ⊢
                generalize hb9 : wa41.heap.size = b9 at N9 ⊢
                refine wpAnyH_ready (rs := [10]) (by kernel_rfl) (by simp) ?_
                refine AllReadyH.cons rfl (fun K hK => ?_) AllReadyH.nil
                refine step_append_src rfl (.tmp 17) (.tmp 25) 23 rfl (w.heap.size + 1) 33 (.agg #[.string ⟨#[]⟩, .string ⟨#[]⟩]) 2 32 Tryd.underlying23 infoFl rfl (by decide) (by decide) (.slice ua i uc) i (cellsFl S) (by simp [Act.eval]) Fwa42.out.2.2.2.1 ⟨b9, 0, none⟩ 1 1 (cellsFl [(s4, s7)]) (by simp [Act.eval]) rfl N9.out (cellsFl_one _) (by omega) (by decide) (by have := Fwa42.out.lt; have := Fwa42.out.2.2.2.2.2.1; omega) ?_
                intro v' w' hown hgrow hnew
                obtain ⟨ub, ud, rfl, hbox, hf⟩ := Fwa42.out.grow v' (s4, s7) hown hgrow hnew
                have FF : Hid (FM w P n cc ca C B (w'.setCell ⟨B, 0, none⟩ (.slice ub (i + 1) ud)) (K0 + 6 + 6 * (i + 1)) ub (i + 1) ud (S ++ [(s4, s7)]) Y) := hf.up (by omega)
                have SF : Hid ((S ++ [(s4, s7)]).length = i + 1 ∧ drawnF (S ++ [(s4, s7)])) := ⟨by rw [List.length_append, hS.out.1]; rfl, drawnF_snoc hS.out.2 S4.out S7.out⟩
                obtain ⟨e0, ef⟩ := hbox 0 _ rfl
                clear hown hgrow hnew hbox hf
                refine hK.out _ _ trivial (fun hHeld => ?_)
                clear hK K
                refine wpAnyH_take (i := 11) (v := .pointer (some ⟨B, 0, none⟩)) rfl (by kernel_rfl) (by kernel_rfl) (by kernel_rfl) (fun _ _ _ h => h) (Or.inl ⟨by rfl, ?_⟩) hHeld ?_
                · intro w9 hSw
                  go_simp
                simp only [Act.put, List.setIfInBounds_toArray, List.set_cons_zero, List.set_cons_succ]
                refine wpAnyH_ready (rs := [12]) (by kernel_rfl) (by simp) ?_
                refine AllReadyH.cons rfl (fun K hK => ?_) AllReadyH.nil
                go_simp
                clear e0 ef
                refine hK.out _ _ trivial (fun hHeld => ?_)
                clear hK K
                refine wpAnyH_done (by kernel_rfl) ?_ _
                refine NoPanic.normal ?_
                go_wp2_with fail
                exact ⟨⟨j - 1, i + 1, _, _, _, by go_num, by omega, SF, FF⟩, by simp [intOf]; omega⟩
              · skip
                go_simp
                refine hK.out _ _ trivial (fun hHeld => ?_)
                clear hK K
                have Fwa43 : Hid (FM w P n cc ca C B (wa41.alloc (.cells #[.string s4, .string s7] 33)) (K0 + 6 + 6 * i + 3 + 3) ua i uc S Y) := Fwa41.out.alloc _
                have N9 : Hid (Src (wa41.alloc (.cells #[.string s4, .string s7] 33)) (some ⟨wa41.heap.size, 0, none⟩) (cellsFl [(s4, s7)])) := src_oneF rfl
                generalize (wa41.alloc (.cells #[.string s4, .string s7] 33)) = wa43 at Fwa43 N9 ⊢
                generalize hb9 : wa41.heap.size = b9 at N9 ⊢
                refine wpAnyH_ready (rs := [1]) (by kernel_rfl) (by simp) ?_
                refine AllReadyH.cons rfl (fun K hK => ?_) AllReadyH.nil
                obtain ⟨e0, _⟩ := Fwa43.out.2.2.1 0 _ rfl
                go_simp
                clear e0
                refine hK.out _ _ trivial (fun hHeld => ?_)
                clear hK K
                refine wpAnyH_ready (rs := [10]) (by kernel_rfl) (by simp) ?_
                refine AllReadyH.cons rfl (fun K hK => ?_) AllReadyH.nil
                refine step_append_src rfl (.tmp 17) (.tmp 25) 23 rfl (w.heap.size + 1) 33 (.agg #[.string ⟨#[]⟩, .string ⟨#[]⟩]) 2 32 Tryd.underlying23 infoFl rfl (by decide) (by decide) (.slice ua i uc) i (cellsFl S) (by simp [Act.eval]) Fwa43.out.2.2.2.1 ⟨b9, 0, none⟩ 1 1 (cellsFl [(s4, s7)]) (by simp [Act.eval]) rfl N9.out (cellsFl_one _) (by omega) (by decide) (by have := Fwa43.out.lt; have := Fwa43.out.2.2.2.2.2.1; omega) ?_
                intro v' w' hown hgrow hnew
                obtain ⟨ub, ud, rfl, hbox, hf⟩ := Fwa43.out.grow v' (s4, s7) hown hgrow hnew
                have FF : Hid (FM w P n cc ca C B (w'.setCell ⟨B, 0, none⟩ (.slice ub (i + 1) ud)) (K0 + 6 + 6 * (i + 1)) ub (i + 1) ud (S ++ [(s4, s7)]) Y) := hf.up (by omega)
                have SF : Hid ((S ++ [(s4, s7)]).length = i + 1 ∧ drawnF (S ++ [(s4, s7)])) := ⟨by rw [List.length_append, hS.out.1]; rfl, drawnF_snoc hS.out.2 S4.out S7.out⟩
                obtain ⟨e0, ef⟩ := hbox 0 _ rfl
                clear hown hgrow hnew hbox hf
                refine hK.out _ _ trivial (fun hHeld => ?_)
                clear hK K
                refine wpAnyH_take (i := 11) (v := .pointer (some ⟨B, 0, none⟩)) rfl (by kernel_rfl) (by kernel_rfl) (by kernel_rfl) (fun _ _ _ h => h) (Or.inl ⟨by rfl, ?_⟩) hHeld ?_
                · intro w9 hSw
                  go_simp
                simp only [Act.put, List.setIfInBounds_toArray, List.set_cons_zero, List.set_cons_succ]
                refine wpAnyH_ready (rs := [12]) (by kernel_rfl) (by simp) ?_
                refine AllReadyH.cons rfl (fun K hK => ?_) AllReadyH.nil
                go_simp
                clear e0 ef
                refine hK.out _ _ trivial (fun hHeld => ?_)
                clear hK K
                refine wpAnyH_done (by kernel_rfl) ?_ _
                refine NoPanic.normal ?_
                go_wp2_with fail
                exact ⟨⟨j - 1, i + 1, _, _, _, by go_num, by omega, SF, FF⟩, by simp [intOf]; omega⟩
      · skip
        go_simp
        refine hK.out _ _ trivial (fun hHeld => ?_)
        clear hK K
        have Fwa44 : Hid (FM w P n cc ca C B (wq.alloc (.cells #[.string ⟨#[]⟩, .string ⟨#[111, 110, 101]⟩, .string ⟨#[97, 58, 32, 98]⟩, .string ⟨#[116, 119, 111, 32, 119, 111, 114, 100, 115]⟩] 9)) (K0 + 6 + 6 * i) ua i uc S Y) := Fwq.out.alloc _
        have N6 : Hid (Src (wq.alloc (.cells #[.string ⟨#[]⟩, .string ⟨#[111, 110, 101]⟩, .string ⟨#[97, 58, 32, 98]⟩, .string ⟨#[116, 119, 111, 32, 119, 111, 114, 100, 115]⟩] 9)) (some ⟨wq.heap.size, 0, none⟩) (cellsS vlL) ∧ wq.heap.size ≠ P) := ⟨src_four rfl, Fwq.out.ne⟩
        have Ewa44 : Hid (Below wq.heap.size wq (wq.alloc (.cells #[.string ⟨#[]⟩, .string ⟨#[111, 110, 101]⟩, .string ⟨#[97, 58, 32, 98]⟩, .string ⟨#[116, 119, 111, 32, 119, 111, 114, 100, 115]⟩] 9))) := (Below.refl _ _).alloc (Nat.le_refl _) _
        generalize (wq.alloc (.cells #[.string ⟨#[]⟩, .string ⟨#[111, 110, 101]⟩, .string ⟨#[97, 58, 32, 98]⟩, .string ⟨#[116, 119, 111, 32, 119, 111, 114, 100, 115]⟩] 9)) = wa44 at Fwa44 N6 Ewa44 ⊢
        generalize hb6 : wq.heap.size = b6 at N6 ⊢
        refine wpAnyH_ready (rs := [1, 3]) (by kernel_rfl) (by simp) ?_
        refine AllReadyH.cons rfl (fun K hK => ?_) (AllReadyH.cons rfl (fun K hK => ?_) AllReadyH.nil)
        · skip
          obtain ⟨e0, _⟩ := Fwa44.out.2.2.1 0 _ rfl
          go_simp
          clear e0
          refine hK.out _ _ trivial (fun hHeld => ?_)
          clear hK K
          refine wpAnyH_ready (rs := [3]) (by kernel_rfl) (by simp) ?_
          refine AllReadyH.cons rfl (fun K hK => ?_) AllReadyH.nil
          go_simp
          refine hK.out _ _ trivial (fun hHeld => ?_)
          clear hK K
          have Fwa45 : Hid (FM w P n cc ca C B (wa44.alloc (.cells #[.string ⟨#[83, 117, 98, 106, 101, 99, 116]⟩, .string ⟨#[70, 114, 111, 109]⟩, .string ⟨#[88, 45, 89]⟩, .string ⟨#[115, 117, 98, 106, 101, 99, 116]⟩] 9)) (K0 + 6 + 6 * i) ua i uc S Y) := Fwa44.out.alloc _
          have N3 : Hid (Src (wa44.alloc (.cells #[.string ⟨#[83, 117, 98, 106, 101, 99, 116]⟩, .string ⟨#[70, 114, 111, 109]⟩, .string ⟨#[88, 45, 89]⟩, .string ⟨#[115, 117, 98, 106, 101, 99, 116]⟩] 9)) (some ⟨wa44.heap.size, 0, none⟩) (cellsS nmL) ∧ wa44.heap.size ≠ P) := ⟨src_four rfl, Fwa44.out.ne⟩
          have Ewa45 : Hid (Below wa44.heap.size wa44 (wa44.alloc (.cells #[.string ⟨#[83, 117, 98, 106, 101, 99, 116]⟩, .string ⟨#[70, 114, 111, 109]⟩, .string ⟨#[88, 45, 89]⟩, .string ⟨#[115, 117, 98, 106, 101, 99, 116]⟩] 9))) := (Below.refl _ _).alloc (Nat.le_refl _) _
          generalize (wa44.alloc (.cells #[.string ⟨#[83, 117, 98, 106, 101, 99, 116]⟩, .string ⟨#[70, 114, 111, 109]⟩, .string ⟨#[88, 45, 89]⟩, .string ⟨#[115, 117, 98, 106, 101, 99, 116]⟩] 9)) = wa45 at Fwa45 N3 Ewa45 ⊢
          generalize hb3 : wa44.heap.size = b3 at N3 ⊢
          replace N6 : Hid (Src wa45 (some ⟨b6, 0, none⟩) (cellsS vlL) ∧ b6 ≠ P) := ⟨N6.out.1.below Ewa45.out, N6.out.2⟩
          refine wpAnyH_ready (rs := [4]) (by kernel_rfl) (by simp) ?_
          refine AllReadyH.cons rfl (fun K hK => ?_) AllReadyH.nil
          go_simp
          refine (Fwa45.out.pick b3 nmL N3.out.2 rfl (by omega) N3.out.1).mono ?_
          rintro e wa46 ⟨s4, rfl, hs4, hf, hsrc⟩
          dsimp only
          have Fwa46 : Hid (FM w P n cc ca C B wa46 (K0 + 6 + 6 * i + 3) ua i uc S Y) := hf
          replace N6 : Hid (Src wa46 (some ⟨b6, 0, none⟩) (cellsS vlL) ∧ b6 ≠ P) := ⟨hsrc _ _ N6.out.2 N6.out.1, N6.out.2⟩
          have S4 : Hid (s4 ∈ nmL) := hs4
          clear hf hsrc hs4
          refine hK.out _ _ trivial (fun hHeld => ?_)
          clear hK K
          refine wpAnyH_ready (rs := [7]) (by kernel_rfl) (by simp) ?_
          refine AllReadyH.cons rfl (fun K hK => ?_) AllReadyH.nil
          go_simp
          refine (Fwa46.out.pick b6 vlL N6.out.2 rfl (by omega) N6.out.1).mono ?_
          rintro e wa47 ⟨s7, rfl, hs7, hf, hsrc⟩
          dsimp only
          have Fwa47 : Hid (FM w P n cc ca C B wa47 (K0 + 6 + 6 * i + 3 + 3) ua i uc S Y) := hf
          have S7 : Hid (s7 ∈ vlL) := hs7
          clear hf hsrc hs7
          refine hK.out _ _ trivial (fun hHeld => ?_)
          clear hK K
          refine wpAnyH_take (i := 8) (v := .agg #[.string s4, .string s7]) rfl (by kernel_rfl) (by kernel_rfl) (by kernel_rfl) (fun _ _ _ h => h) (Or.inl ⟨by rfl, ?_⟩) hHeld ?_
          · intro w9 hSw
            go_simp
          simp only [Act.put, List.setIfInBounds_toArray, List.set_cons_zero, List.set_cons_succ]
          refine wpAnyH_ready (rs := [9]) (by kernel_rfl) (by simp) ?_
          refine AllReadyH.cons rfl (fun K hK => ?_) AllReadyH.nil
          go_simp
          refine hK.out _ _ trivial (fun hHeld => ?_)
          clear hK K
          have Fwa48 : Hid (FM w P n cc ca C B (wa47.alloc (.cells #[.string s4, .string s7] 33)) (K0 + 6 + 6 * i + 3 + 3) ua i uc S Y) := Fwa47.out.alloc _
          have N9 : Hid (Src (wa47.alloc (.cells #[.string s4, .string s7] 33)) (some ⟨wa47.heap.size, 0, none⟩) (cellsFl [(s4, s7)])) := src_oneF rfl
          generalize (wa47.alloc (.cells #[.string s4, .string s7] 33)) = wa48 at Fwa48 N9 ⊢
          generalize hb9 : wa47.heap.size = b9 at N9 ⊢
          refine wpAnyH_ready (rs := [10]) (by kernel_rfl) (by simp) ?_
          refine AllReadyH.cons rfl (fun K hK => ?_) AllReadyH.nil
          refine step_append_src rfl (.tmp 17) (.tmp 25) 23 rfl (w.heap.size + 1) 33 (.agg #[.string ⟨#[]⟩, .string ⟨#[]⟩]) 2 32 Tryd.underlying23 infoFl rfl (by decide) (by decide) (.slice ua i uc) i (cellsFl S) (by simp [Act.eval]) Fwa48.out.2.2.2.1 ⟨b9, 0, none⟩ 1 1 (cellsFl [(s4, s7)]) (by simp [Act.eval]) rfl N9.out (cellsFl_one _) (by omega) (by decide) (by have := Fwa48.out.lt; have := Fwa48.out.2.2.2.2.2.1; omega) ?_
          intro v' w' hown hgrow hnew
          obtain ⟨ub, ud, rfl, hbox, hf⟩ := Fwa48.out.grow v' (s4, s7) hown hgrow hnew
          have FF : Hid (FM w P n cc ca C B (w'.setCell ⟨B, 0, none⟩ (.slice ub (i + 1) ud)) (K0 + 6 + 6 * (i + 1)) ub (i + 1) ud (S ++ [(s4, s7)]) Y) := hf.up (by omega)
          have SF : Hid ((S ++ [(s4, s7)]).length = i + 1 ∧ drawnF (S ++ [(s4, s7)])) := ⟨by rw [List.length_append, hS.out.1]; rfl, drawnF_snoc hS.out.2 S4.out S7.out⟩
          obtain ⟨e0, ef⟩ := hbox 0 _ rfl
          clear hown hgrow hnew hbox hf
          refine hK.out _ _ trivial (fun hHeld => ?_)
          clear hK K
          refine wpAnyH_take (i := 11) (v := .pointer (some ⟨B, 0, none⟩)) rfl (by kernel_rfl) (by kernel_rfl) (by kernel_rfl) (fun _ _ _ h => h) (Or.inl ⟨by rfl, ?_⟩) hHeld ?_
          · intro w9 hSw
            go_simp
          simp only [Act.put, List.setIfInBounds_toArray, List.set_cons_zero, List.set_cons_succ]
          refine wpAnyH_ready (rs := [12]) (by kernel_rfl) (by simp) ?_
          refine AllReadyH.cons rfl (fun K hK => ?_) AllReadyH.nil
          go_simp
          clear e0 ef
          refine hK.out _ _ trivial (fun hHeld => ?_)
          clear hK K
          refine wpAnyH_done (by kernel_rfl) ?_ _
          refine NoPanic.normal ?_
          go_wp2_with fail
          exact ⟨⟨j - 1, i + 1, _, _, _, by go_num, by omega, SF, FF⟩, by simp [intOf]; omega⟩
        · skip
          go_simp
          refine hK.out _ _ trivial (fun hHeld => ?_)
          clear hK K
          have Fwa49 : Hid (FM w P n cc ca C B (wa44.alloc (.cells #[.string ⟨#[83, 117, 98, 106, 101, 99, 116]⟩, .string ⟨#[70, 114, 111, 109]⟩, .string ⟨#[88, 45, 89]⟩, .string ⟨#[115, 117, 98, 106, 101, 99, 116]⟩] 9)) (K0 + 6 + 6 * i) ua i uc S Y) := Fwa44.out.alloc _
          have N3 : Hid (Src (wa44.alloc (.cells #[.string ⟨#[83, 117, 98, 106, 101, 99, 116]⟩, .string ⟨#[70, 114, 111, 109]⟩, .string ⟨#[88, 45, 89]⟩, .string ⟨#[115, 117, 98, 106, 101, 99, 116]⟩] 9)) (some ⟨wa44.heap.size, 0, none⟩) (cellsS nmL) ∧ wa44.heap.size ≠ P) := ⟨src_four rfl, Fwa44.out.ne⟩
          have Ewa49 : Hid (Below wa44.heap.size wa44 (wa44.alloc (.cells #[.string ⟨#[83, 117, 98, 106, 101, 99, 116]⟩, .string ⟨#[70, 114, 111, 109]⟩, .string ⟨#[88, 45, 89]⟩, .string ⟨#[115, 117, 98, 106, 101, 99, 116]⟩] 9))) := (Below.refl _ _).alloc (Nat.le_refl _) _
          generalize (wa44.alloc (.cells #[.string ⟨#[83, 117, 98, 106, 101, 99, 116]⟩, .string ⟨#[70, 114, 111, 109]⟩, .string ⟨#[88, 45, 89]⟩, .string ⟨#[115, 117, 98, 106, 101, 99, 116]⟩] 9)) = wa49 at Fwa49 N3 Ewa49 ⊢
          generalize hb3 : wa44.heap.size = b3 at N3 ⊢
          replace N6 : Hid (Src wa49 (some ⟨b6, 0, none⟩) (cellsS vlL) ∧ b6 ≠ P) := ⟨N6.out.1.below Ewa49.out, N6.out.2⟩
          refine wpAnyH_ready (rs := [1, 4]) (by kernel_rfl) (by simp) ?_
          refine AllReadyH.cons rfl (fun K hK => ?_) (AllReadyH.cons rfl (fun K hK => ?_) AllReadyH.nil)
          · skip
            obtain ⟨e0, _⟩ := Fwa49.out.2.2.1 0 _ rfl
            go_simp
            clear e0
            refine hK.out _ _ trivial (fun hHeld => ?_)
            clear hK K
            refine wpAnyH_ready (rs := [4]) (by kernel_rfl) (by simp) ?_
            refine AllReadyH.cons rfl (fun K hK => ?_) AllReadyH.nil
            go_simp
            refine (Fwa49.out.pick b3 nmL N3.out.2 rfl (by omega) N3.out.1).mono ?_
            rintro e wa50 ⟨s4, rfl, hs4, hf, hsrc⟩
            dsimp only
            have Fwa50 : Hid (FM w P n cc ca C B wa50 (K0 + 6 + 6 * i + 3) ua i uc S Y) := hf
            replace N6 : Hid (Src wa50 (some ⟨b6, 0, none⟩) (cellsS vlL) ∧ b6 ≠ P) := ⟨hsrc _ _ N6.out.2 N6.out.1, N6.out.2⟩
            have S4 : Hid (s4 ∈ nmL) := hs4
            clear hf hsrc hs4
            refine hK.out _ _ trivial (fun hHeld => ?_)
            clear hK K
            refine wpAnyH_ready (rs := [7]) (by kernel_rfl) (by simp) ?_
            refine AllReadyH.cons rfl (fun K hK => ?_) AllReadyH.nil
            go_simp
            refine (Fwa50.out.pick b6 vlL N6.out.2 rfl (by omega) N6.out.1).mono ?_
            rintro e wa51 ⟨s7, rfl, hs7, hf, hsrc⟩
            dsimp only
            have Fwa51 : Hid (FM w P n cc ca C B wa51 (K0 + 6 + 6 * i + 3 + 3) ua i uc S Y) := hf
            have S7 : Hid (s7 ∈ vlL) := hs7
            clear hf hsrc hs7
            refine hK.out _ _ trivial (fun hHeld => ?_)
            clear hK K
            refine wpAnyH_take (i := 8) (v := .agg #[.string s4, .string s7]) rfl (by kernel_rfl) (by kernel_rfl) (by kernel_rfl) (fun _ _ _ h => h) (Or.inl ⟨by rfl, ?_⟩) hHeld ?_
            · intro w9 hSw
              go_simp
            simp only [Act.put, List.setIfInBounds_toArray, List.set_cons_zero, List.set_cons_succ]
            refine wpAnyH_ready (rs := [9]) (by kernel_rfl) (by simp) ?_
            refine AllReadyH.cons rfl (fun K hK => ?_) AllReadyH.nil
            go_simp
            refine hK.out _ _ trivial (fun hHeld => ?_)
            clear hK K
            have Fwa52 : Hid (FM w P n cc ca C B (wa51.alloc (.cells #[.string s4, .string s7] 33)) (K0 + 6 + 6 * i + 3 + 3) ua i uc S Y) := Fwa51.out.alloc _
            have N9 : Hid (Src (wa51.alloc (.cells #[.string s4, .string s7] 33)) (some ⟨wa51.heap.size, 0, none⟩) (cellsFl [(s4, s7)])) := src_oneF rfl
            generalize (wa51.alloc (.cells #[.string s4, .string s7] 33)) = wa52 at Fwa52 N9 ⊢
            generalize hb9 : wa51.heap.size = b9 at N9 ⊢
            refine wpAnyH_ready (rs := [10]) (by kernel_rfl) (by simp) ?_
            refine AllReadyH.cons rfl (fun K hK => ?_) AllReadyH.nil
            refine step_append_src rfl (.tmp 17) (.tmp 25) 23 rfl (w.heap.size + 1) 33 (.agg #[.string ⟨#[]⟩, .string ⟨#[]⟩]) 2 32 Tryd.underlying23 infoFl rfl (by decide) (by decide) (.slice ua i uc) i (cellsFl S) (by simp [Act.eval]) Fwa52.out.2.2.2.1 ⟨b9, 0, none⟩ 1 1 (cellsFl [(s4, s7)]) (by simp [Act.eval]) rfl N9.out (cellsFl_one _) (by omega) (by decide) (by have := Fwa52.out.lt; have := Fwa52.out.2.2.2.2.2.1; omega) ?_
            intro v' w' hown hgrow hnew
            obtain ⟨ub, ud, rfl, hbox, hf⟩ := Fwa52.out.grow v' (s4, s7) hown hgrow hnew
            have FF : Hid (FM w P n cc ca C B (w'.setCell ⟨B, 0, none⟩ (.slice ub (i + 1) ud)) (K0 + 6 + 6 * (i + 1)) ub (i + 1) ud (S ++ [(s4, s7)]) Y) := hf.up (by omega)
            have SF : Hid ((S ++ [(s4, s7)]).length = i + 1 ∧ drawnF (S ++ [(s4, s7)])) := ⟨by rw [List.length_append, hS.out.1]; rfl, drawnF_snoc hS.out.2 S4.out S7.out⟩
            obtain ⟨e0, ef⟩ := hbox 0 _ rfl
            clear hown hgrow hnew hbox hf
            refine hK.out _ _ trivial (fun hHeld => ?_)
            clear hK K
            refine wpAnyH_take (i := 11) (v := .pointer (some ⟨B, 0, none⟩)) rfl (by kernel_rfl) (by kernel_rfl) (by kernel_rfl) (fun _ _ _ h => h) (Or.inl ⟨by rfl, ?_⟩) hHeld ?_
            · intro w9 hSw
              go_simp
            simp only [Act.put, List.setIfInBounds_toArray, List.set_cons_zero, List.set_cons_succ]
            refine wpAnyH_ready (rs := [12]) (by kernel_rfl) (by simp) ?_
            refine AllReadyH.cons rfl (fun K hK => ?_) AllReadyH.nil
            go_simp
            clear e0 ef
            refine hK.out _ _ trivial (fun hHeld => ?_)
            clear hK K
            refine wpAnyH_done (by kernel_rfl) ?_ _
            refine NoPanic.normal ?_
            go_wp2_with fail
            exact ⟨⟨j - 1, i + 1, _, _, _, by go_num, by omega, SF, FF⟩, by simp [intOf]; omega⟩
          · skip
            go_simp
            refine (Fwa49.out.pick b3 nmL N3.out.2 rfl (by omega) N3.out.1).mono ?_
            rintro e wa53 ⟨s4, rfl, hs4, hf, hsrc⟩
            dsimp only
            have Fwa53 : Hid (FM w P n cc ca C B wa53 (K0 + 6 + 6 * i + 3) ua i uc S Y) := hf
            replace N6 : Hid (Src wa53 (some ⟨b6, 0, none⟩) (cellsS vlL) ∧ b6 ≠ P) := ⟨hsrc _ _ N6.out.2 N6.out.1, N6.out.2⟩
            have S4 : Hid (s4 ∈ nmL) := hs4
            clear hf hsrc hs4
            refine hK.out _ _ trivial (fun hHeld => ?_)
            clear hK K
            refine wpAnyH_ready (rs := [1, 7]) (by kernel_rfl) (by simp) ?_
            refine AllReadyH.cons rfl (fun K hK => ?_) (AllReadyH.cons rfl (fun K hK => ?_) AllReadyH.nil)
            · skip
              obtain ⟨e0, _⟩ := Fwa53.out.2.2.1 0 _ rfl
              go_simp
              clear e0
              refine hK.out _ _ trivial (fun hHeld => ?_)
              clear hK K
              refine wpAnyH_ready (rs := [7]) (by kernel_rfl) (by simp) ?_
              refine AllReadyH.cons rfl (fun K hK => ?_) AllReadyH.nil
              go_simp
              refine (Fwa53.out.pick b6 vlL N6.out.2 rfl (by omega) N6.out.1).mono ?_
              rintro e wa54 ⟨s7, rfl, hs7, hf, hsrc⟩
              dsimp only
              have Fwa54 : Hid (FM w P n cc ca C B wa54 (K0 + 6 + 6 * i + 3 + 3) ua i uc S Y) := hf
              have S7 : Hid (s7 ∈ vlL) := hs7
              clear hf hsrc hs7
              refine hK.out _ _ trivial (fun hHeld => ?_)
              clear hK K
              refine wpAnyH_take (i := 8) (v := .agg #[.string s4, .string s7]) rfl (by kernel_rfl) (by kernel_rfl) (by kernel_rfl) (fun _ _ _ h => h) (Or.inl ⟨by rfl, ?_⟩) hHeld ?_
              · intro w9 hSw
                go_simp
              simp only [Act.put, List.setIfInBounds_toArray, List.set_cons_zero, List.set_cons_succ]
              refine wpAnyH_ready (rs := [9]) (by kernel_rfl) (by simp) ?_
              refine AllReadyH.cons rfl (fun K hK => ?_) AllReadyH.nil
              go_simp
              refine hK.out _ _ trivial (fun hHeld => ?_)
              clear hK K
              have Fwa55 : Hid (FM w P n cc ca C B (wa54.alloc (.cells #[.string s4, .string s7] 33)) (K0 + 6 + 6 * i + 3 + 3) ua i uc S Y) := Fwa54.out.alloc _
              have N9 : Hid (Src (wa54.alloc (.cells #[.string s4, .string s7] 33)) (some ⟨wa54.heap.size, 0, none⟩) (cellsFl [(s4, s7)])) := src_oneF rfl
              generalize (wa54.alloc (.cells #[.string s4, .string s7] 33)) = wa55 at Fwa55 N9 ⊢
              generalize hb9 : wa54.heap.size = b9 at N9 ⊢
              refine wpAnyH_ready (rs := [10]) (by kernel_rfl) (by simp) ?_
              refine AllReadyH.cons rfl (fun K hK => ?_) AllReadyH.nil
              refine step_append_src rfl (.tmp 17) (.tmp 25) 23 rfl (w.heap.size + 1) 33 (.agg #[.string ⟨#[]⟩, .string ⟨#[]⟩]) 2 32 Tryd.underlying23 infoFl rfl (by decide) (by decide) (.slice ua i uc) i (cellsFl S) (by simp [Act.eval]) Fwa55.out.2.2.2.1 ⟨b9, 0, none⟩ 1 1 (cellsFl [(s4, s7)]) (by simp [Act.eval]) rfl N9.out (cellsFl_one _) (by omega) (by decide) (by have := Fwa55.out.lt; have := Fwa55.out.2.2.2.2.2.1; omega) ?_
              intro v' w' hown hgrow hnew
              obtain ⟨ub, ud, rfl, hbox, hf⟩ := Fwa55.out.grow v' (s4, s7) hown hgrow hnew
              have FF : Hid (FM w P n cc ca C B (w'.setCell ⟨B, 0, none⟩ (.slice ub (i + 1) ud)) (K0 + 6 + 6 * (i + 1)) ub (i + 1) ud (S ++ [(s4, s7)]) Y) := hf.up (by omega)
              have SF : Hid ((S ++ [(s4, s7)]).length = i + 1 ∧ drawnF (S ++ [(s4, s7)])) := ⟨by rw [List.length_append, hS.out.1]; rfl, drawnF_snoc hS.out.2 S4.out S7.out⟩
              obtain ⟨e0, ef⟩ := hbox 0 _ rfl
              clear hown hgrow hnew hbox hf
              refine hK.out _ _ trivial (fun hHeld => ?_)
              clear hK K
              refine wpAnyH_take (i := 11) (v := .pointer (some ⟨B, 0, none⟩)) rfl (by kernel_rfl) (by kernel_rfl) (by kernel_rfl) (fun _ _ _ h => h) (Or.inl ⟨by rfl, ?_⟩) hHeld ?_
              · intro w9 hSw
                go_simp
              simp only [Act.put, List.setIfInBounds_toArray, List.set_cons_zero, List.set_cons_succ]
              refine wpAnyH_ready (rs := [12]) (by kernel_rfl) (by simp) ?_
              refine AllReadyH.cons rfl (fun K hK => ?_) AllReadyH.nil
              go_simp
              clear e0 ef
              refine hK.out _ _ trivial (fun hHeld => ?_)
              clear hK K
              refine wpAnyH_done (by kernel_rfl) ?_ _
              refine NoPanic.normal ?_
              go_wp2_with fail
              exact ⟨⟨j - 1, i + 1, _, _, _, by go_num, by omega, SF, FF⟩, by simp [intOf]; omega⟩
            · skip
              go_simp
              refine (Fwa53.out.pick b6 vlL N6.out.2 rfl (by omega) N6.out.1).mono ?_
              rintro e wa56 ⟨s7, rfl, hs7, hf, hsrc⟩
              dsimp only
              have Fwa56 : Hid (FM w P n cc ca C B wa56 (K0 + 6 + 6 * i + 3 + 3) ua i uc S Y) := hf
              have S7 : Hid (s7 ∈ vlL) := hs7
              clear hf hsrc hs7
              refine hK.out _ _ trivial (fun hHeld => ?_)
              clear hK K
              refine wpAnyH_take (i := 8) (v := .agg #[.string s4, .string s7]) rfl (by kernel_rfl) (by kernel_rfl) (by kernel_rfl) (fun _ _ _ h => h) (Or.inl ⟨by rfl, ?_⟩) hHeld ?_
              · intro w9 hSw
                go_simp
              simp only [Act.put, List.setIfInBounds_toArray, List.set_cons_zero, List.set_cons_succ]
              refine wpAnyH_ready (rs := [1, 9]) (by kernel_rfl) (by simp) ?_
              refine AllReadyH.cons rfl (fun K hK => ?_) (AllReadyH.cons rfl (fun K hK => ?_) AllReadyH.nil)
              · skip
                obtain ⟨e0, _⟩ := Fwa56.out.2.2.1 0 _ rfl
                go_simp
                clear e0
                refine hK.out _ _ trivial (fun hHeld => ?_)
                clear hK K
                refine wpAnyH_ready (rs := [9]) (by kernel_rfl) (by simp) ?_
                refine AllReadyH.cons rfl (fun K hK => ?_) AllReadyH.nil
                go_simp
                refine hK.out _ _ trivial (fun hHeld => ?_)
                clear hK K
                have Fwa57 : Hid (FM w P n cc ca C B (wa56.alloc (.cells #[.string s4, .string s7] 33)) (K0 + 6 + 6 * i + 3 + 3) ua i uc S Y) := Fwa56.out.alloc _
                have N9 : Hid (Src (wa56.alloc (.cells #[.string s4, .string s7] 33)) (some ⟨wa56.heap.size, 0, none⟩) (cellsFl [(s4, s7)])) := src_oneF rfl
                generalize (wa56.alloc (.cells #[.string s4, .string s7] 33)) = wa57 at Fwa57 N9 ⊢
                generalize hb9 : wa56.heap.size = b9 at N9 ⊢
                refine wpAnyH_ready (rs := [10]) (by kernel_rfl) (by simp) ?_
                refine AllReadyH.cons rfl (fun K hK => ?_) AllReadyH.nil
                refine step_append_src rfl (.tmp 17) (.tmp 25) 23 rfl (w.heap.size + 1) 33 (.agg #[.string ⟨#[]⟩, .string ⟨#[]⟩]) 2 32 Tryd.underlying23 infoFl rfl (by decide) (by decide) (.slice ua i uc) i (cellsFl S) (by simp [Act.eval]) Fwa57.out.2.2.2.1 ⟨b9, 0, none⟩ 1 1 (cellsFl [(s4, s7)]) (by simp [Act.eval]) rfl N9.out (cellsFl_one _) (by omega) (by decide) (by have := Fwa57.out.lt; have := Fwa57.out.2.2.2.2.2.1; omega) ?_
                intro v' w' hown hgrow hnew
                obtain ⟨ub, ud, rfl, hbox, hf⟩ := Fwa57.out.grow v' (s4, s7) hown hgrow hnew
                have FF : Hid (FM w P n cc ca C B (w'.setCell ⟨B, 0, none⟩ (.slice ub (i + 1) ud)) (K0 + 6 + 6 * (i + 1)) ub (i + 1) ud (S ++ [(s4, s7)]) Y) := hf.up (by omega)
                have SF : Hid ((S ++ [(s4, s7)]).length = i + 1 ∧ drawnF (S ++ [(s4, s7)])) := ⟨by rw [List.length_append, hS.out.1]; rfl, drawnF_snoc hS.out.2 S4.out S7.out⟩
                obtain ⟨e0, ef⟩ := hbox 0 _ rfl
                clear hown hgrow hnew hbox hf
                refine hK.out _ _ trivial (fun hHeld => ?_)
                clear hK K
                refine wpAnyH_take (i := 11) (v := .pointer (some ⟨B, 0, none⟩)) rfl (by kernel_rfl) (by kernel_rfl) (by kernel_rfl) (fun _ _ _ h => h) (Or.inl ⟨by rfl, ?_⟩) hHeld ?_
                · intro w9 hSw
                  go_simp
                simp only [Act.put, List.setIfInBounds_toArray, List.set_cons_zero, List.set_cons_succ]
                refine wpAnyH_ready (rs := [12]) (by kernel_rfl) (by simp) ?_
                refine AllReadyH.cons rfl (fun K hK => ?_) AllReadyH.nil
                go_simp
                clear e0 ef
                refine hK.out _ _ trivial (fun hHeld => ?_)
                clear hK K
                refine wpAnyH_done (by kernel_rfl) ?_ _
                refine NoPanic.normal ?_
                go_wp2_with fail
                exact ⟨⟨j - 1, i + 1, _, _, _, by go_num, by omega, SF, FF⟩, by simp [intOf]; omega⟩
              · skip
                go_simp
                refine hK.out _ _ trivial (fun hHeld => ?_)
                clear hK K
                have Fwa58 : Hid (FM w P n cc ca C B (wa56.alloc (.cells #[.string s4, .string s7] 33)) (K0 + 6 + 6 * i + 3 + 3) ua i uc S Y) := Fwa56.out.alloc _
                have N9 : Hid (Src (wa56.alloc (.cells #[.string s4, .string s7] 33)) (some ⟨wa56.heap.size, 0, none⟩) (cellsFl [(s4, s7)])) := src_oneF rfl
                generalize (wa56.alloc (.cells #[.string s4, .string s7] 33)) = wa58 at Fwa58 N9 ⊢
                generalize hb9 : wa56.heap.size = b9 at N9 ⊢
                refine wpAnyH_ready (rs := [1]) (by kernel_rfl) (by simp) ?_
                refine AllReadyH.cons rfl (fun K hK => ?_) AllReadyH.nil
                obtain ⟨e0, _⟩ := Fwa58.out.2.2.1 0 _ rfl
                go_simp
                clear e0
                refine hK.out _ _ trivial (fun hHeld => ?_)
                clear hK K
                refine wpAnyH_ready (rs := [10]) (by kernel_rfl) (by simp) ?_
                refine AllReadyH.cons rfl (fun K hK => ?_) AllReadyH.nil
                refine step_append_src rfl (.tmp 17) (.tmp 25) 23 rfl (w.heap.size + 1) 33 (.agg #[.string ⟨#[]⟩, .string ⟨#[]⟩]) 2 32 Tryd.underlying23 infoFl rfl (by decide) (by decide) (.slice ua i uc) i (cellsFl S) (by simp [Act.eval]) Fwa58.out.2.2.2.1 ⟨b9, 0, none⟩ 1 1 (cellsFl [(s4, s7)]) (by simp [Act.eval]) rfl N9.out (cellsFl_one _) (by omega) (by decide) (by have := Fwa58.out.lt; have := Fwa58.out.2.2.2.2.2.1; omega) ?_
                intro v' w' hown hgrow hnew
                obtain ⟨ub, ud, rfl, hbox, hf⟩ := Fwa58.out.grow v' (s4, s7) hown hgrow hnew
                have FF : Hid (FM w P n cc ca C B (w'.setCell ⟨B, 0, none⟩ (.slice ub (i + 1) ud)) (K0 + 6 + 6 * (i + 1)) ub (i + 1) ud (S ++ [(s4, s7)]) Y) := hf.up (by omega)
                have SF : Hid ((S ++ [(s4, s7)]).length = i + 1 ∧ drawnF (S ++ [(s4, s7)])) := ⟨by rw [List.length_append, hS.out.1]; rfl, drawnF_snoc hS.out.2 S4.out S7.out⟩
                obtain ⟨e0, ef⟩ := hbox 0 _ rfl
                clear hown hgrow hnew hbox hf
                refine hK.out _ _ trivial (fun hHeld => ?_)
                clear hK K
                refine wpAnyH_take (i := 11) (v := .pointer (some ⟨B, 0, none⟩)) rfl (by kernel_rfl) (by kernel_rfl) (by kernel_rfl) (fun _ _ _ h => h) (Or.inl ⟨by rfl, ?_⟩) hHeld ?_
                · intro w9 hSw
                  go_simp
                simp only [Act.put, List.setIfInBounds_toArray, List.set_cons_zero, List.set_cons_succ]
                refine wpAnyH_ready (rs := [12]) (by kernel_rfl) (by simp) ?_
                refine AllReadyH.cons rfl (fun K hK => ?_) AllReadyH.nil
                go_simp
                clear e0 ef
                refine hK.out _ _ trivial (fun hHeld => ?_)
                clear hK K
                refine wpAnyH_done (by kernel_rfl) ?_ _
                refine NoPanic.normal ?_
                go_wp2_with fail
                exact ⟨⟨j - 1, i + 1, _, _, _, by go_num, by omega, SF, FF⟩, by simp [intOf]; omega⟩
    · have hjz : j = 0 := by omega
      subst hjz
      obtain ⟨s0, _⟩ := hF.out.2.2.1 0 _ rfl
      obtain ⟨s1, _⟩ := hF.out.2.2.1 1 _ rfl
      have R3 : Box wr w.heap.size [.slice none 0 0, .string ⟨#[]⟩] := hF.out.2.2.2.2.1
      obtain ⟨p0, f0⟩ := R3 0 _ rfl
      obtain ⟨p1, f1⟩ := (R3.set 0 (.slice ua i uc)) 1 _ rfl
      have X4 := (R3.set 0 (.slice ua i uc)).set 1 (.string Y)
      obtain ⟨r0, _⟩ := X4 0 _ rfl
      obtain ⟨r1, _⟩ := X4 1 _ rfl
      clear X4 R3
      have PB : Hid (Below w.heap.size wr ((wr.setCell ⟨w.heap.size, 0, none⟩ (.slice ua i uc)).setCell ⟨w.heap.size, 1, none⟩ (.string Y))) := by refine Below.setCell (Below.setCell (Below.refl _ _) ?_ _) ?_ _ <;> exact Nat.le_refl _
      have OO : Hid (OwnsG ((wr.setCell ⟨w.heap.size, 0, none⟩ (.slice ua i uc)).setCell ⟨w.heap.size, 1, none⟩ (.string Y)) w.heap.size ((wr.setCell ⟨w.heap.size, 0, none⟩ (.slice ua i uc)).setCell ⟨w.heap.size, 1, none⟩ (.string Y)).heap.size (.agg #[.slice ua i uc, .string Y]) ⟨S, Y⟩) := by
        refine ⟨_, rfl, OwnsR.mk ?_ (Nat.le_refl _)⟩
        show World.ownsRow _ _ _ _ _ S.length _
        rw [hS.out.1]
        exact own_mono (own_setLow (own_setLow hF.out.2.2.2.1 (by dsimp only; omega) _) (by dsimp only; omega) _) (by omega)
      have TT : Hid (Turned P (P + 1) w ((wr.setCell ⟨w.heap.size, 0, none⟩ (.slice ua i uc)).setCell ⟨w.heap.size, 1, none⟩ (.string Y))) := hF.out.1.far PB.out
      have DD : Hid (drawnM S Y) := ⟨by rw [hS.out.1]; omega, hS.out.2, HY.out⟩
      go_wp2_with fail
      exact bodyPost_ret (v := .agg #[.slice ua i uc, .string Y]) (by simp [results, Tryd.results34, go_sem, r0, r1]) rfl ⟨_, ⟨S, Y⟩, rfl, DD.out, OO.out, TT.out⟩
end Go.Proofs.YtgbhjhbmolgbeaaDoor
