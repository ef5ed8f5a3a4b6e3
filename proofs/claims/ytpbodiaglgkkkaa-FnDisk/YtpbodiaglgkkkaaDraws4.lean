
/-
  Disks that are drawn. By an AI agent.
-/
import Derived.Test.YtpbodiaglgkkkaaDraws2
import Derived.Test.YtpbodiaglgkkkaaDwo
import Derived.Test.YtpbodiaglgkkkaaDsy
import Derived.Test.YtpbodiaglgkkkaaDarm
import Derived.Test.YtpbodiaglgkkkaaDnew
import Derived.Test.YtpbodiaglgkkkaaDpd
namespace Go.Proofs.Ytpbodiaglgkkkaa
open Go.ChangeShapes Go.WideShapes Go.ChangeAt Go.RowKit Go.Deep
set_option linter.unusedVariables false
set_option maxRecDepth 100000

theorem ok_small {D : DM} (h : okD D) : smallD D := by
  obtain ⟨⟨h1, h2, h3⟩, ⟨h4, h5⟩, h6, h7⟩ := h
  exact ⟨⟨by omega, fun x hx => by have := h3 x hx; omega⟩, ⟨by omega, fun x hx => by have := (h5 x hx).2.2; omega⟩, by omega⟩
theorem ok_new {n : Nat} (h1 : 1 ≤ n) (h2 : n ≤ 80) : okD (newD n) := by
  refine ⟨⟨by simp [newD]; omega, by simp [newD]; omega, fun x hx => ?_⟩, ⟨by simp [newD], fun p hp => by simp [newD] at hp⟩, by simp [newD], fun _ => rfl⟩
  simp [newD] at hx
  rw [hx.2]
  decide
theorem ok_arm {D : DM} {K : List Int} (h : okD D) (hk : K.length ≤ 500) : okD (armD D K) := ⟨h.1, h.2.1, hk, fun e => by cases e⟩
theorem ok_crash {D : DM} {K : List Int} (h : okD D) : okD (crashD D K) := by
  refine ⟨⟨by show 1 ≤ (applyW _ _).length; rw [applyW_length]; exact h.1.1, by show (applyW _ _).length ≤ 80; rw [applyW_length]; exact h.1.2.1, ?_⟩, ⟨by simp [crashD], fun p hp => by simp [crashD] at hp⟩, by simp [crashD], fun _ => rfl⟩
  exact applyW_small _ _ 420 h.1.2.2 (keptTo_ok _ _ _ (Nat.le_refl _) (fun p => p.2.size ≤ 420) (fun p hp => (h.2.1.2 p hp).2.2))
theorem ok_sync {D : DM} (h : okD D) : okD (syncD D) := by
  refine ⟨⟨by show 1 ≤ (applyW _ _).length; rw [applyW_length]; exact h.1.1, by show (applyW _ _).length ≤ 80; rw [applyW_length]; exact h.1.2.1, ?_⟩, ⟨by simp [syncD], fun p hp => by simp [syncD] at hp⟩, by simp [syncD], fun _ => rfl⟩
  exact applyW_small _ _ 420 h.1.2.2 (fun p hp => (h.2.1.2 p hp).2.2)
theorem ok_dsync {D R : DM} {b : Bool} {c : Int} (h : okD D) (hr : dsync D = (R, b, c)) : okD R ∧ R.C.length = 0 ∧ R.S.length = D.S.length := by
  by_cases ha : D.A = true
  · rw [ds_arm h ha] at hr
    cases hr
    exact ⟨ok_crash h, rfl, applyW_length _ _⟩
  · have ha2 : D.A = false := by simpa using ha
    rw [ds_ok h ha2] at hr
    cases hr
    exact ⟨ok_sync h, rfl, applyW_length _ _⟩
theorem ok_more {D : DM} {x : Int} {y : ByteArray} (h : okD D) (hw : okW D.S.length (x, y)) (hc : D.C.length < 500) : okD (moreC D (x, y)) := by
  refine ⟨h.1, ⟨by simp [moreC]; omega, fun p hp => ?_⟩, h.2.2⟩
  simp [moreC] at hp
  rcases hp with hp | rfl
  · exact h.2.1.2 p hp
  · exact hw
set_option maxHeartbeats 2000000 in
theorem drawKeeps (P n cc K : Nat) (ca : Option Addr) (C : List Nat) (w : World) (hK : K ≤ 999000000) (h : DrawOK w P ca n cc K C) :
    Calls Try.prog 27 #[.pointer (some ⟨P, 0, none⟩)] w fun e w' => ∃ v L, e = .returned v ∧ w'.ownsRow w.heap.size 3 1 v L.length (cellsI L) ∧ L.length ≤ 11 ∧ Turned P (P + 1) w w' ∧ DrawOK w' P ca n cc (K + 36) C := by
  have H : Hid (DrawOK w P ca n cc K C) := h
  have PL : Hid (P < w.heap.size) := h.lt
  have CB : Hid (0 < n → ∀ a, ca = some a → a.block < w.heap.size) := fun h0 a e => by
    rcases h.2.2.2.2.1 with h7 | ⟨b, o, e2, hc⟩
    · have h2 := cellsB_length C
      rw [h7] at h2
      simp only [List.length_nil] at h2
      have := h.2.1
      omega
    · rw [e2] at e
      cases e
      have h1 := World.block_lt_of_cell? _ _ (hc 0 (by rw [cellsB_length, h.2.1]; omega))
      exact h1
  clear h
  go_enter Try.func27, Try.ntmps27
  go_wp2_with fail
  have A0 : Hid (Below w.heap.size w (w.alloc (.cells #[] 3))) := (Below.refl _ _).alloc (Nat.le_refl _) _
  refine (drawNext P n cc K 12 ca C _ (by omega) (by omega) (by omega) (H.out.below A0.out)).mono ?_
  rintro e w1 ⟨x, rfl, hx, ht, hd⟩
  have O1 : Hid (w1.ownsRow w.heap.size 3 1 (.slice (some ⟨w.heap.size, 0, none⟩) 0 0) 0 (cellsI [])) := own_turned (top := w.heap.size + 1) (own_empty (w := w) rfl (Nat.le_refl _)) ht (fun k e => by have e2 : some w.heap.size = some k := e; injection e2 with e3; omega) (.inr (by have := PL.out; omega))
  have T1 : Hid (Turned P (P + 1) w w1) := (Turned.of_below A0.out).trans ht
  have D1 : Hid (DrawOK w1 P ca n cc (K + 3) C) := hd
  clear ht hd
  go_wp2_with fail
  go_loopw [3, 4] (fun lv iv wr => ∃ (j : Nat) (u : Value) (L : List Int), u = lv ∧ iv = .int .i64 (j : Int) ∧ j + L.length ≤ 11 ∧ Hid (Turned P (P + 1) w wr) ∧ Hid (DrawOK wr P ca n cc (K + 3 + 3 * L.length) C) ∧ Hid (wr.ownsRow w.heap.size 3 1 u L.length (cellsI L))) (fun _ i _ => (intOf i).toNat)
  case atStart => exact ⟨x, _, [], rfl, rfl, by simp; omega, T1.out, D1.out, O1.out⟩
  case round =>
    obtain ⟨j, u, L, hu, rfl, hjl, hT, hD, hO⟩ := hrel
    subst hu
    by_cases hj : 0 < j
    · have hj0 : (0 : Int) < (j : Int) := by omega
      obtain ⟨l, hl⟩ : ∃ l, L.length = l := ⟨_, rfl⟩
      have HL : Hid (L.length = l) := hl
      rw [hl] at hjl
      have hl5 : l ≤ 11 := by omega
      have hlt3 : Hid (∀ g, Value.ownBlock u = some g → w.heap.size ≤ g ∧ g < wr.heap.size) := fun g e => hO.out.lt g e
      clear hl
      go_wp2_with fail
      refine (drawNext P n cc (K + 3 + 3 * L.length) 2 ca C _ (by omega) (by omega) (by have := HL.out; omega) hD.out).mono ?_
      rintro e w2 ⟨s, rfl, hs, ht2, hd2⟩
      have T2 : Hid (Turned P (P + 1) w w2) := hT.out.trans ht2
      have O2 : Hid (w2.ownsRow w.heap.size 3 1 u l (cellsI L)) := by
        have h9 := own_turned (top := wr.heap.size) hO.out ht2 (fun k e => (hlt3.out k e).2) (.inr (by have := PL.out; omega))
        rw [HL.out] at h9
        exact h9
      have D2 : Hid (DrawOK w2 P ca n cc (K + 3 + 3 * L.length + 3) C) := hd2
      have Z2 : Hid (w.heap.size ≤ w2.heap.size) := T2.out.size
      clear ht2 hd2 hs hD hO hT
      go_wp2_with (at_builtin; refine wpList_append_src _ rfl _ _ 25 rfl w.heap.size 3 (.int .i64 0) 1 8 Try.underlying25 infoI rfl (by decide) (by decide) _ l (cellsI L) rfl (O2.out.alloc _) (some ⟨w2.heap.size, 0, none⟩) 1 1 (cellsI [(s : Int)]) rfl rfl (src_oneI rfl) (cellsI_one _) (by omega) (le_alloc Z2.out _) ?_)
      intro v3 w3 hown3 hgrow3
      have B5 : Below w2.heap.size w2 (w2.alloc (.cells #[.int .i64 (s : Int)] 3)) := (Below.refl _ _).alloc (Nat.le_refl _) _
      have O3 : Hid (w3.ownsRow w.heap.size 3 1 v3 (L ++ [(s : Int)]).length (cellsI (L ++ [(s : Int)]))) := by rw [cellsI_append, List.length_append, HL.out]; exact hown3
      have T3 : Hid (Turned P (P + 1) w w3) := by
        have h9 : Turned P (P + 1) w (w2.alloc (.cells #[.int .i64 (s : Int)] 3)) := T2.out.trans (Turned.of_below B5)
        refine ⟨hgrow3.os.trans h9.os, hgrow3.tape.trans h9.tape, hgrow3.output.trans h9.output, Nat.le_trans h9.size hgrow3.size, fun k hk hr => ?_⟩
        rw [hgrow3.block k (Nat.lt_of_lt_of_le hk h9.size) (fun e => by have := (hlt3.out k e.symm).1; omega)]
        exact h9.block k hk hr
      have D3 : Hid (DrawOK w3 P ca n cc (K + 3 + 3 * (L ++ [(s : Int)]).length) C) := by
        have h9 := DrawOK.grown (D2.out.below B5) hgrow3 (fun e => by have := (hlt3.out P e).1; have := PL.out; omega) (fun h0 a e e2 => by have := (hlt3.out _ e2).1; have := CB.out h0 a e; omega)
        have e9 : K + 3 + 3 * (L ++ [(s : Int)]).length = K + 3 + 3 * L.length + 3 := by rw [List.length_append]; simp; omega
        rw [e9]
        exact h9
      have LL : Hid ((L ++ [(s : Int)]).length = l + 1) := by show _ = _; rw [List.length_append, HL.out]; rfl
      clear hown3 hgrow3 B5
      go_wp2_with fail
      exact ⟨⟨j - 1, _, L ++ [(s : Int)], rfl, by go_num, by rw [LL.out]; omega, T3.out, D3.out, O3.out⟩, by simp [intOf]; omega⟩
    · have hjz : j = 0 := by omega
      subst hjz
      go_wp2_with fail
      go_ret
      exact ⟨_, L, rfl, hO.out, by omega, hT.out, hD.out.more (by omega)⟩
end Go.Proofs.Ytpbodiaglgkkkaa
