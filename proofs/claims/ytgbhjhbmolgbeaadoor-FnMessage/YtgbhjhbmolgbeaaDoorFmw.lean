
/-
  The walk of the law FnMessage. By an AI agent.
-/
import Derived.Test.YtgbhjhbmolgbeaaDoorFmo
namespace Go.Proofs.YtgbhjhbmolgbeaaDoor
open Go.ChangeShapes Go.WideShapes Go.ChangeAt Go.RowKit Go.Deep
set_option linter.unusedVariables false
set_option linter.unusedSimpArgs false
set_option maxRecDepth 100000

theorem src_oneMl {w : World} {x y : Int} {z : ByteArray} {B t : Nat} (hB : B = w.heap.size) : Src (w.alloc (.cells #[.int .i64 x, .int .i64 y, .string z] t)) (some ⟨B, 0, none⟩) (cellsMl [(x, y, z)]) := by
  have hb : Box (w.alloc (.cells #[.int .i64 x, .int .i64 y, .string z] t)) B [.int .i64 x, .int .i64 y, .string z] := Box.new hB
  refine .inr ⟨B, 0, rfl, fun j hj => ?_⟩
  have hj4 : j < 3 := hj
  rw [Nat.zero_add]
  match j, hj4 with
  | 0, _ => exact (hb 0 _ rfl).1
  | 1, _ => exact (hb 1 _ rfl).1
  | 2, _ => exact (hb 2 _ rfl).1
/-- What the program and the specification answer of a drawn message. -/
def MsgFacts (F : List MFl) (Y T : ByteArray) (n : Nat) : Prop :=
  F.length = n ∧ n ≤ 2 ∧ T.size ≤ 85 ∧ Y.size ≤ 9 ∧
  (∀ (a : Option Addr) (c : Nat) (w : World), Src w a (cellsFl F) → Calls Tryd.prog 10 #[.agg #[.slice a n c, .string Y]] w fun e w' => e = .returned (.tuple #[.string T, .int .i64 0]) ∧ Below w.heap.size w w') ∧
  (∀ (a : Option Addr) (c : Nat) (w : World), Src w a (cellsFl F) → Calls Tryd.prog 11 #[.agg #[.slice a n c, .string Y]] w fun e w' => e = .returned (.tuple #[.string T, .int .i64 0]) ∧ Below w.heap.size w w') ∧
  (∀ w, MaxAt w → Calls Tryd.prog 12 #[.string T] w fun e w' => ∃ b d, e = .returned (.tuple #[.agg #[.slice b n d, .string Y], .int .i64 0]) ∧ Src w' b (cellsFl F) ∧ Below w.heap.size w w') ∧
  (∀ w, MaxAt w → Calls Tryd.prog 13 #[.string T] w fun e w' => e = .returned (.bool true) ∧ Below w.heap.size w w') ∧
  (∀ f ∈ F, ∃ v, (∀ w, MaxAt w → Calls Tryd.prog 14 #[.string T, .string f.1] w fun e w' => e = .returned (.tuple #[.string v, .int .i64 0]) ∧ Below w.heap.size w w') ∧ ∀ w, Calls Tryd.prog 15 #[.string T, .string f.1] w fun e w' => e = .returned (.tuple #[.string v, .int .i64 0]) ∧ Below w.heap.size w w') ∧
  (∀ w, MaxAt w → Calls Tryd.prog 14 #[.string T, .string nowB] w fun e w' => e = .returned (.tuple #[.string ⟨#[]⟩, .int .i64 5]) ∧ Below w.heap.size w w') ∧
  (∀ (b : Nat) (w : World), MaxAt w → Src w (some ⟨b, 0, none⟩) (cellsMl [(7, 0, T)]) → Calls Tryd.prog 16 #[.slice (some ⟨b, 0, none⟩) 1 1, .string ⟨#[]⟩, .string Y] w fun e w' => ∃ a c, e = .returned (.tuple #[.slice a 1 c, .int .i64 0]) ∧ Src w' a (cellsI [7]) ∧ Below w.heap.size w w') ∧
  ∃ (K : List Int) (k : Nat), K.length = k ∧ k ≤ 1048576 ∧
    (∀ (b : Nat) (w : World), Src w (some ⟨b, 0, none⟩) (cellsMl [(7, 0, T)]) → Calls Tryd.prog 17 #[.slice (some ⟨b, 0, none⟩) 1 1, .string ⟨#[115, 117, 98, 106, 101, 99, 116]⟩, .string ⟨#[111, 110, 101]⟩] w fun e w' => ∃ a c, e = .returned (.tuple #[.slice a k c, .int .i64 0]) ∧ Src w' a (cellsI K) ∧ Below w.heap.size w w') ∧
    (∀ (b : Nat) (w : World), MaxAt w → Src w (some ⟨b, 0, none⟩) (cellsMl [(7, 0, T)]) → Calls Tryd.prog 16 #[.slice (some ⟨b, 0, none⟩) 1 1, .string ⟨#[115, 117, 98, 106, 101, 99, 116]⟩, .string ⟨#[111, 110, 101]⟩] w fun e w' => ∃ a c, e = .returned (.tuple #[.slice a k c, .int .i64 0]) ∧ Src w' a (cellsI K) ∧ Below w.heap.size w w')
theorem msgFacts {F : List MFl} {Y : ByteArray} (h : drawnM F Y) : ∃ T n, MsgFacts F Y T n := by
  have hs := msgT_small h
  have hY := body_small h.2.2
  have hl : (msgT F Y).data.toList.length ≤ 1048576 := by simp; omega
  have hsm : ∀ x ∈ F, x.1.size ≤ maxLen ∧ x.2.size ≤ maxLen := fun x hx => by
    have := drawn_small (h.2.1 x hx).1 (h.2.1 x hx).2
    unfold maxLen; omega
  have hF := h.1
  have eT := bsOf_self (msgT F Y)
  refine ⟨msgT F Y, F.length, rfl, h.1, hs, hY, fun a c w hr => ?_, fun a c w hr => ?_, fun w hm => ?_, fun w hm => ?_, fun f hf => ?_, fun w hm => ?_, fun b w hm hr => ?_, ?_⟩
  · have h9 := implMessageText a F.length c F Y w rfl (by unfold maxLen; omega) hsm (by unfold maxLen; omega) hr
    rwa [textA_drawn h] at h9
  · have h9 := specMessageText a F.length c F Y w rfl (by unfold maxLen; omega) hsm (by unfold maxLen; omega) hr
    rwa [textA_drawn h] at h9
  · have h9 := implParseMessage (msgT F Y).data.toList w hl hm
    rw [eT, msgA_drawn h] at h9
    refine h9.mono ?_
    rintro e w' ⟨v, rfl, ho, _, hb⟩
    obtain ⟨a, c, rfl, s1⟩ := ho.reads
    exact ⟨a, c, rfl, s1, hb⟩
  · have h9 := implMessageOK (msgT F Y).data.toList w hl hm
    rwa [eT, msgA_drawn h] at h9
  · obtain ⟨v, hv⟩ := fofA_own h f hf
    have hn := (drawn_small (h.2.1 f hf).1 (h.2.1 f hf).2).1
    refine ⟨v, fun w hm => ?_, fun w => ?_⟩
    · have h9 := implFieldOf (msgT F Y).data.toList f.1 w hl (by omega) hm
      rwa [eT, hv] at h9
    · have h9 := specFieldOf (msgT F Y).data.toList f.1 w hl (by omega)
      rwa [eT, hv] at h9
  · have h9 := implFieldOf (msgT F Y).data.toList nowB w hl (by decide) hm
    rwa [eT, fofA_none h] at h9
  · have h9 := implSearchMails (some ⟨b, 0, none⟩) 1 1 [(7, 0, msgT F Y)] ⟨#[]⟩ Y w rfl (by omega) (fun x hx => by simp at hx; subst hx; dsimp only; omega) (by decide) (by omega) hm hr
    rw [srch_body h] at h9
    refine h9.mono ?_
    rintro e w' ⟨v, rfl, ho, _, hb⟩
    obtain ⟨a, c, rfl, s1, _⟩ := own_src ho
    exact ⟨a, c, rfl, s1, hb⟩
  · obtain ⟨K, hK⟩ := srch_one (F := F) (Y := Y) ⟨#[115, 117, 98, 106, 101, 99, 116]⟩ ⟨#[111, 110, 101]⟩ h (by decide) (by decide)
    have hkl : K.length ≤ 1 := by
      unfold srchA at hK
      split at hK
      · cases hK
      · split at hK
        · cases hK
        · split at hK
          · cases hK
          · rw [Prod.mk.injEq] at hK
            rw [← hK.1, List.length_map]
            exact List.length_filter_le _ _
    refine ⟨K, K.length, rfl, by omega, fun b w hr => ?_, fun b w hm hr => ?_⟩
    · have h9 := specSearchMails (some ⟨b, 0, none⟩) 1 1 [(7, 0, msgT F Y)] ⟨#[115, 117, 98, 106, 101, 99, 116]⟩ ⟨#[111, 110, 101]⟩ w rfl (by omega) (fun x hx => by simp at hx; subst hx; dsimp only; omega) (by decide) (by decide) hr
      rw [hK] at h9
      refine h9.mono ?_
      rintro e w' ⟨v, rfl, ho, _, hb⟩
      obtain ⟨a, c, rfl, s1, _⟩ := own_src ho
      exact ⟨a, c, rfl, s1, hb⟩
    · have h9 := implSearchMails (some ⟨b, 0, none⟩) 1 1 [(7, 0, msgT F Y)] ⟨#[115, 117, 98, 106, 101, 99, 116]⟩ ⟨#[111, 110, 101]⟩ w rfl (by omega) (fun x hx => by simp at hx; subst hx; dsimp only; omega) (by decide) (by decide) hm hr
      rw [hK] at h9
      refine h9.mono ?_
      rintro e w' ⟨v, rfl, ho, _, hb⟩
      obtain ⟨a, c, rfl, s1, _⟩ := own_src ho
      exact ⟨a, c, rfl, s1, hb⟩

set_option maxHeartbeats 4000000 in
theorem messageWalk (A0 A1 : Option Addr) (C0 C1 : Nat) (L0 L1 : List Nat) (w : World) (m0 : L0.length ≤ maxLen) (m1 : L1.length ≤ maxLen) (k0 : ∀ x ∈ L0, x < 256) (k1 : ∀ x ∈ L1, x < 256) (s0 : Src w A0 (cellsB L0)) (s1 : Src w A1 (cellsB L1)) (hmx : MaxAt w) :
    Calls Tryd.prog 3 #[.slice A0 L0.length C0, .slice A1 L1.length C1] w fun e w' => e = .returned (.bool true) ∧ Below w.heap.size w w' := by
  unfold maxLen at m0 m1
  obtain ⟨n0, hn0⟩ : ∃ n, L0.length = n := ⟨_, rfl⟩
  obtain ⟨n1, hn1⟩ : ∃ n, L1.length = n := ⟨_, rfl⟩
  have H0 : Hid (L0.length = n0 ∧ (∀ x ∈ L0, x < 256) ∧ Src w A0 (cellsB L0)) := ⟨hn0, k0, s0⟩
  have HM : Hid (MaxAt w) := hmx
  rw [hn0, hn1]
  rw [hn0] at m0
  rw [hn1] at m1
  clear hn0 hn1 k0 k1 s0 s1 hmx
  by_cases hbig : (1048576 : Int) < (n0 : Int)
  · go_enter Tryd.func3, Tryd.ntmps3
    go_wp2_with fail
    go_ret
    exact ⟨rfl, Below.refl _ _⟩
  by_cases hbig1 : (1048576 : Int) < (n1 : Int)
  · go_enter Tryd.func3, Tryd.ntmps3
    go_wp2_with fail
    go_ret
    exact ⟨rfl, Below.refl _ _⟩
  go_enter Tryd.func3, Tryd.ntmps3
  go_wp2_with fail
  refine (specMessageOf A0 n0 C0 L0 _ H0.out.1 (by omega) H0.out.2.1 H0.out.2.2).mono ?_
  rintro e w1 ⟨v, D, rfl, hdr, hrd, hb1⟩
  obtain ⟨a, c, rfl, sa⟩ := hrd
  obtain ⟨T, n, hMF⟩ := msgFacts hdr
  obtain ⟨F, hF⟩ : ∃ F, D.F = F := ⟨_, rfl⟩
  obtain ⟨Y, hY⟩ : ∃ Y, D.Y = Y := ⟨_, rfl⟩
  rw [hF] at sa hMF
  rw [hY] at hMF
  rw [hF, hMF.1, hY]
  have FX : Hid (MsgFacts F Y T n) := hMF
  have hn2 : n ≤ 2 := hMF.2.1
  have B1 : Hid (Below w.heap.size w w1) := hb1
  have S1 : Hid (Src w1 a (cellsFl F)) := sa
  clear hb1 sa hMF hF hY hdr H0
  go_wp2_with fail
  refine (FX.out.2.2.2.2.1 a c _ (S1.out.below ((Below.refl _ _).alloc (Nat.le_refl _) _))).mono ?_
  rintro e w2 ⟨rfl, hb2⟩
  have B2 : Hid (Below w.heap.size w w2) := B1.out.trans ((Below.new hb2).mono B1.out.size)
  have X2 : Hid (Box w2 w1.heap.size [.slice a n c, .string Y]) := Box.below (Box.new rfl) hb2
  have S2 : Hid (Src w2 a (cellsFl F)) := S1.out.below (Below.new hb2)
  clear hb2 B1 S1
  obtain ⟨p0, _⟩ := X2.out 0 _ rfl
  obtain ⟨p1, _⟩ := X2.out 1 _ rfl
  go_wp2_with fail
  refine (FX.out.2.2.2.2.2.1 a c _ S2.out).mono ?_
  rintro e w3 ⟨rfl, hb3⟩
  have B3 : Hid (Below w.heap.size w w3) := B2.out.trans (hb3.mono B2.out.size)
  have X3 : Hid (Box w3 w1.heap.size [.slice a n c, .string Y]) := X2.out.below hb3
  have S3 : Hid (Src w3 a (cellsFl F)) := S2.out.below hb3
  clear hb3 B2 S2 X2 p0 p1
  obtain ⟨mb, hmb⟩ : ∃ mb, w1.heap.size = mb := ⟨_, rfl⟩
  rw [hmb] at X3 ⊢
  clear hmb
  have hTT : (T.toList != T.toList) = false := by simp
  go_wp2_with fail
  refine (FX.out.2.2.2.2.2.2.1 _ (HM.out.below B3.out)).mono ?_
  rintro e w4 ⟨b, d, rfl, sb, hb4⟩
  have B4 : Hid (Below w.heap.size w w4) := B3.out.trans (hb4.mono B3.out.size)
  have X4 : Hid (Box w4 mb [.slice a n c, .string Y]) := X3.out.below hb4
  have S4 : Hid (Src w4 a (cellsFl F)) := S3.out.below hb4
  have U4 : Hid (Src w4 b (cellsFl F)) := sb
  clear hb4 B3 S3 X3 sb
  have AL : Hid (Below w4.heap.size w4 (w4.alloc (.cells #[.slice b n d, .string Y] 25))) := (Below.refl _ _).alloc (Nat.le_refl _) _
  obtain ⟨p0, _⟩ := (X4.out.old (.cells #[.slice b n d, .string Y] 25)) 0 _ rfl
  obtain ⟨p1, _⟩ := (X4.out.old (.cells #[.slice b n d, .string Y] 25)) 1 _ rfl
  have hYY : (Y.toList != Y.toList) = false := by simp
  have hnn : ((n : Int) != (n : Int)) = false := by simp
  go_wp2_with fail
  refine (FX.out.2.2.2.2.2.2.2.1 _ (HM.out.below (B4.out.trans (AL.out.mono B4.out.size)))).mono ?_
  rintro e w5 ⟨rfl, hb5⟩
  have B5 : Hid (Below w.heap.size w w5) := B4.out.trans ((Below.new hb5).mono B4.out.size)
  have X5 : Hid (Box w5 mb [.slice a n c, .string Y]) := X4.out.below (Below.new hb5)
  have Y5 : Hid (Box w5 w4.heap.size [.slice b n d, .string Y]) := Box.below (Box.new rfl) hb5
  have S5 : Hid (Src w5 a (cellsFl F)) := S4.out.below (Below.new hb5)
  have U5 : Hid (Src w5 b (cellsFl F)) := U4.out.below (Below.new hb5)
  clear hb5 B4 S4 X4 U4 AL p0 p1 hTT
  obtain ⟨bb, hbb⟩ : ∃ mb, w4.heap.size = mb := ⟨_, rfl⟩
  rw [hbb] at Y5 ⊢
  clear hbb hYY hnn
  go_wp2_with fail
  go_loopw [12] (fun iv wr => ∃ k : Nat, k ≤ n ∧ iv = .int .i64 (k : Int) ∧ Hid (Below w.heap.size w wr) ∧ Hid (Box wr mb [.slice a n c, .string Y]) ∧ Hid (Box wr bb [.slice b n d, .string Y]) ∧ Hid (Src wr a (cellsFl F)) ∧ Hid (Src wr b (cellsFl F))) (fun i _ => n - (intOf i).toNat)
  case atStart => exact ⟨0, by omega, rfl, B5, X5, Y5, S5, U5⟩
  case round =>
    clear B5 X5 Y5 S5 U5
    obtain ⟨k, hk, rfl, hB, hX, hY, hS, hU⟩ := hrel
    obtain ⟨p0, _⟩ := hX.out 0 _ rfl
    obtain ⟨p1, _⟩ := hX.out 1 _ rfl
    obtain ⟨q0, _⟩ := hY.out 0 _ rfl
    by_cases hlt : k < n
    · have hkF : k < F.length := by rw [FX.out.1]; exact hlt
      obtain ⟨b1, o1, x0, x1, rfl, c0, c1, hy1⟩ := srcFl hS.out hkF
      obtain ⟨b2, o2, y0, y1, rfl, d0, d1, hy2⟩ := srcFl hU.out hkF
      obtain ⟨rfl, rfl⟩ : x0 = y0 ∧ x1 = y1 := by have h9 := hy1.out.symm.trans hy2.out; simpa using h9
      obtain ⟨V, hV1, hV2⟩ := FX.out.2.2.2.2.2.2.2.2.1 _ (fl_mem F k hkF)
      rw [hy1.out] at hV1 hV2
      have hk0 : (0 : Int) ≤ (k : Int) := by omega
      have hki : (k : Int) < (n : Int) := by omega
      have HV1 : Hid (∀ w, MaxAt w → Calls Tryd.prog 14 #[.string T, .string x0] w fun e w' => e = .returned (.tuple #[.string V, .int .i64 0]) ∧ Below w.heap.size w w') := hV1
      have HV2 : Hid (∀ w, Calls Tryd.prog 15 #[.string T, .string x0] w fun e w' => e = .returned (.tuple #[.string V, .int .i64 0]) ∧ Below w.heap.size w w') := hV2
      clear hV1 hV2 hy1 hy2 hkF
      have e0 : (x0.toList != x0.toList) = false := by simp
      have e1 : (x1.toList != x1.toList) = false := by simp
      go_wp2_with fail
      go_quiet (fail)
      go_wp2_with fail
      have BD : Hid (Below wr.heap.size wr (wr.drewN nq)) := Below.drewN' (Below.refl _ _) _
      refine (HV1.out _ (HM.out.below (hB.out.trans (BD.out.mono hB.out.size)))).mono ?_
      rintro e w6 ⟨rfl, hb6⟩
      have BE : Hid (Below wr.heap.size wr w6) := BD.out.trans hb6
      have B6 : Hid (Below w.heap.size w w6) := hB.out.trans (BE.out.mono hB.out.size)
      have X6 : Hid (Box w6 mb [.slice (some ⟨b1, o1, none⟩) n c, .string Y]) := hX.out.below BE.out
      have Y6 : Hid (Box w6 bb [.slice (some ⟨b2, o2, none⟩) n d, .string Y]) := hY.out.below BE.out
      have S6 : Hid (Src w6 (some ⟨b1, o1, none⟩) (cellsFl F)) := hS.out.below BE.out
      have U6 : Hid (Src w6 (some ⟨b2, o2, none⟩) (cellsFl F)) := hU.out.below BE.out
      have g0 := (BE.out.cell (World.block_lt_of_cell? _ _ c0)).trans c0
      clear hb6 BD BE hB hX hY hS hU p0 p1 q0 c0 c1 d0 d1
      obtain ⟨p0, _⟩ := X6.out 0 _ rfl
      go_wp2_with fail
      refine (HV2.out _).mono ?_
      rintro e w7 ⟨rfl, hb7⟩
      have B7 : Hid (Below w.heap.size w w7) := B6.out.trans (hb7.mono B6.out.size)
      have X7 : Hid (Box w7 mb [.slice (some ⟨b1, o1, none⟩) n c, .string Y]) := X6.out.below hb7
      have Y7 : Hid (Box w7 bb [.slice (some ⟨b2, o2, none⟩) n d, .string Y]) := Y6.out.below hb7
      have S7 : Hid (Src w7 (some ⟨b1, o1, none⟩) (cellsFl F)) := S6.out.below hb7
      have U7 : Hid (Src w7 (some ⟨b2, o2, none⟩) (cellsFl F)) := U6.out.below hb7
      clear hb7 B6 X6 Y6 S6 U6 p0 g0 e0 e1
      have hVV : (V.toList != V.toList) = false := by simp
      go_wp2_with fail
      exact ⟨⟨k + 1, by omega, by go_num, B7, X7, Y7, S7, U7⟩, by simp [intOf]; omega⟩
    · have hki : ¬ (k : Int) < (n : Int) := by omega
      go_wp2_with fail
      refine (FX.out.2.2.2.2.2.2.2.2.2.1 _ (HM.out.below hB.out)).mono ?_
      rintro e w6 ⟨rfl, hb6⟩
      have B6 : Hid (Below w.heap.size w w6) := hB.out.trans (hb6.mono hB.out.size)
      have X6 : Hid (Box w6 mb [.slice a n c, .string Y]) := hX.out.below hb6
      clear hb6 hB hX hY hS hU p0 p1 q0
      obtain ⟨p1, _⟩ := (X6.out.old (.cells #[.int .i64 7, .int .i64 0, .string T] 39)) 1 _ rfl
      go_wp2_with fail
      refine (FX.out.2.2.2.2.2.2.2.2.2.2.1 w6.heap.size _ (HM.out.below (B6.out.alloc B6.out.size _)) (src_oneMl rfl)).mono ?_
      rintro e w7 ⟨fa, fc, rfl, sf, hb7⟩
      have B7 : Hid (Below w.heap.size w w7) := B6.out.trans ((Below.new hb7).mono B6.out.size)
      have S7 : Hid (Src w7 fa (cellsI [7])) := sf
      clear hb7 sf B6 X6 p1
      obtain ⟨K, q, hKl, hKs, hSP, hIM⟩ := FX.out.2.2.2.2.2.2.2.2.2.2.2
      have HK : Hid (K.length = q ∧ q ≤ 1048576) := ⟨hKl, hKs⟩
      have HSP : Hid (∀ (b : Nat) (w : World), Src w (some ⟨b, 0, none⟩) (cellsMl [(7, 0, T)]) → Calls Tryd.prog 17 #[.slice (some ⟨b, 0, none⟩) 1 1, .string ⟨#[115, 117, 98, 106, 101, 99, 116]⟩, .string ⟨#[111, 110, 101]⟩] w fun e w' => ∃ a c, e = .returned (.tuple #[.slice a q c, .int .i64 0]) ∧ Src w' a (cellsI K) ∧ Below w.heap.size w w') := hSP
      have HIM : Hid (∀ (b : Nat) (w : World), MaxAt w → Src w (some ⟨b, 0, none⟩) (cellsMl [(7, 0, T)]) → Calls Tryd.prog 16 #[.slice (some ⟨b, 0, none⟩) 1 1, .string ⟨#[115, 117, 98, 106, 101, 99, 116]⟩, .string ⟨#[111, 110, 101]⟩] w fun e w' => ∃ a c, e = .returned (.tuple #[.slice a q c, .int .i64 0]) ∧ Src w' a (cellsI K) ∧ Below w.heap.size w w') := hIM
      clear hKl hSP hIM FX
      go_wp2_with fail
      refine (HSP.out w7.heap.size _ (src_oneMl rfl)).mono ?_
      rintro e w8 ⟨ta, tc, rfl, st, hb8⟩
      have B8 : Hid (Below w.heap.size w w8) := B7.out.trans ((Below.new hb8).mono B7.out.size)
      have S8 : Hid (Src w8 fa (cellsI [7])) := S7.out.below (Below.new hb8)
      have T8 : Hid (Src w8 ta (cellsI K)) := st
      clear hb8 st B7 S7
      go_wp2_with fail
      refine (HIM.out w8.heap.size _ (HM.out.below (B8.out.alloc B8.out.size _)) (src_oneMl rfl)).mono ?_
      rintro e w9 ⟨ia, ic, rfl, si, hb9⟩
      have B9 : Hid (Below w.heap.size w w9) := B8.out.trans ((Below.new hb9).mono B8.out.size)
      have S9 : Hid (Src w9 fa (cellsI [7])) := S8.out.below (Below.new hb9)
      have T9 : Hid (Src w9 ta (cellsI K)) := T8.out.below (Below.new hb9)
      have I9 : Hid (Src w9 ia (cellsI K)) := si
      clear hb9 si B8 S8 T8
      go_wp2_with fail
      refine (sameInts fa (some ⟨w9.heap.size, 0, none⟩) 1 fc 1 [7] _ rfl (by omega) (S9.out.below ((Below.refl _ _).alloc (Nat.le_refl _) _)) (src_oneI rfl)).mono ?_
      rintro e w10 ⟨rfl, hb10⟩
      have B10 : Hid (Below w.heap.size w w10) := B9.out.trans ((Below.new hb10).mono B9.out.size)
      have T10 : Hid (Src w10 ta (cellsI K)) := T9.out.below (Below.new hb10)
      have I10 : Hid (Src w10 ia (cellsI K)) := I9.out.below (Below.new hb10)
      clear hb10 B9 S9 T9 I9
      go_wp2_with fail
      refine (sameInts ia ta q ic tc K _ HK.out.1 HK.out.2 I10.out T10.out).mono ?_
      rintro e w11 ⟨rfl, hb11⟩
      have B11 : Hid (Below w.heap.size w w11) := B10.out.trans (hb11.mono B10.out.size)
      clear hb11
      go_wp2_with fail
      go_ret
      exact ⟨rfl, B11.out⟩
end Go.Proofs.YtgbhjhbmolgbeaaDoor
