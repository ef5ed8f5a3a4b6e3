
/-
  Reading a message, by the program: message, ParseMessage, MessageOK. By an AI agent.
-/
import Derived.Test.YtgbhjhbmolgbeaaDoorPar2
namespace Go.Proofs.YtgbhjhbmolgbeaaDoor
open Go.ChangeShapes Go.WideShapes Go.ChangeAt Go.RowKit Go.Deep
set_option linter.unusedVariables false
set_option maxRecDepth 100000

theorem Turned.drew {lo hi : Nat} {w w' : World} (h : Turned lo hi w w') : Turned lo hi w w'.drew := ⟨h.os, h.tape, h.output, h.size, h.block⟩
theorem flsLe_max {F : List MFl} {n : Nat} (h : flsLe F n) (hn : n ≤ 100000) : ∀ x ∈ F, x.1.size ≤ maxLen ∧ x.2.size ≤ maxLen := fun x hx => by
  have := h x hx
  unfold maxLen
  omega
set_option maxHeartbeats 2000000 in
theorem messageI (l : List UInt8) (B : Nat) (w : World) (hl : l.length ≤ 100000) (hm : MaxAt w) (hB : Box w B [.string (bsOf l)]) (hB0 : 0 < B) :
    Calls Tryd.prog 39 #[.pointer (some ⟨B, 0, none⟩)] w fun e w' => ∃ (v : Value) (D : GM), e = .returned (.tuple #[v, .bool (fitO (headF (l.length + 1) l [])).isSome]) ∧ (∀ x, fitO (headF (l.length + 1) l []) = some x → D = x) ∧
      OwnsG w' w.heap.size w'.heap.size v D ∧ D.F.length ≤ l.length ∧ Turned B (B + 1) w w' := by
  obtain ⟨o, ho⟩ : ∃ o, headF (l.length + 1) l [] = o := ⟨_, rfl⟩
  have HH : ∀ w, MaxAt w → Box w B [.string (bsOf l)] → Calls Tryd.prog 64 #[.pointer (some ⟨B, 0, none⟩)] w fun e w' => ∃ (v : Value) (F : List MFl) (r : ByteArray), e = .returned (.tuple #[v, .bool o.isSome]) ∧ (∀ x, o = some x → F = x.1 ∧ r = bsOf x.2) ∧
      w'.ownsRow w.heap.size 33 2 v F.length (cellsFl F) ∧ F.length ≤ l.length ∧ flsLe F l.length ∧ r.size ≤ l.length ∧ Box w' B [.string r] ∧ Turned B (B + 1) w w' := fun w h1 h2 => by
    have := headI l B w hl h1 h2 hB0
    rwa [ho] at this
  have hBw : B < w.heap.size := World.block_lt_of_cell? _ _ (hB 0 _ rfl).1
  rw [ho]
  have HM : Hid (MaxAt w) := hm
  have HB : Hid (Box w B [.string (bsOf l)]) := hB
  clear ho hm hB
  cases o with
  | none =>
    go_enter Tryd.func39, Tryd.ntmps39
    go_wp2_with (go_at_call 64; refine (HH _ (HM.out.below ((Below.refl _ _).alloc (Nat.le_refl _) _)) (HB.out.old _)).mono ?_; rintro e w1 ⟨v1, F, r, rfl, hx1, ow1, hF1, hf1, hr1, bx1, tu1⟩; have HX : Hid (∀ y : List MFl × List UInt8, none = some y → F = y.1 ∧ r = bsOf y.2) := hx1; clear hx1; obtain ⟨va, vc, rfl, _, _⟩ := own_src ow1; obtain ⟨p0, pf0⟩ := bx1 0 _ rfl; have pf1 : (w1.alloc (.cells #[.slice va F.length vc, .string r] 25)).frozen? ⟨B, 0, none⟩ = false := (bx1.old _ 0 _ rfl).2; have p1 : (w1.alloc (.cells #[.slice va F.length vc, .string r] 25)).cell? ⟨B, 0, none⟩ = some (.string r) := (bx1.old _ 0 _ rfl).1)
    obtain ⟨n, hn⟩ : ∃ n, F.length = n := ⟨_, rfl⟩
    rw [hn] at ow1 hF1 ⊢
    have hsz : w.heap.size + 1 ≤ w1.heap.size := by have := tu1.size; simpa using this
    have BM0 : Box ((w1.alloc (.cells #[.slice va n vc, .string r] 25)).setCell ⟨B, 0, none⟩ (.string ⟨#[]⟩)) w1.heap.size [.slice va n vc, .string r] := (Box.new rfl).other _ (by dsimp only; omega) _
    have BR0 : Box ((w1.alloc (.cells #[.slice va n vc, .string r] 25)).setCell ⟨B, 0, none⟩ (.string ⟨#[]⟩)) w.heap.size [.slice none 0 0, .string ⟨#[]⟩] := (((Box.new rfl).turned tu1 (.inr (by omega))).old _).other _ (by dsimp only; omega) _
    have OW0 : ((w1.alloc (.cells #[.slice va n vc, .string r] 25)).setCell ⟨B, 0, none⟩ (.string ⟨#[]⟩)).ownsRow (w.heap.size + 1) 33 2 (.slice va n vc) n (cellsFl F) := own_setLow (own_mono (ow1.alloc _) (by simp)) (by dsimp only; omega) _
    have TU0 : Turned B (B + 1) w ((w1.alloc (.cells #[.slice va n vc, .string r] 25)).setCell ⟨B, 0, none⟩ (.string ⟨#[]⟩)) := (((Turned.of_below ((Below.refl _ _).alloc (Nat.le_refl _) _)).trans tu1).below ((Below.refl _ _).alloc (by omega) _)).set (Nat.le_refl _) (by omega) _ _
    generalize ((w1.alloc (.cells #[.slice va n vc, .string r] 25)).setCell ⟨B, 0, none⟩ (.string ⟨#[]⟩)) = wm at BM0 BR0 OW0 TU0 ⊢
    obtain ⟨M, hM⟩ : ∃ M, w1.heap.size = M := ⟨_, rfl⟩
    rw [hM] at BM0 hsz ⊢
    have HN : Hid (F.length = n) := hn
    have HF : Hid (n ≤ l.length ∧ flsLe F l.length ∧ r.size ≤ l.length) := ⟨hF1, hf1, hr1⟩
    have TU : Hid (Turned B (B + 1) w wm) := TU0
    have OW : Hid (wm.ownsRow (w.heap.size + 1) 33 2 (.slice va n vc) n (cellsFl F)) := OW0
    have BM : Hid (Box wm M [.slice va n vc, .string r]) := BM0
    have BR : Hid (Box wm w.heap.size [.slice none 0 0, .string ⟨#[]⟩]) := BR0
    obtain ⟨m0, _⟩ := BM0 0 _ rfl
    obtain ⟨m1, _⟩ := BM0 1 _ rfl
    clear hn hM ow1 hF1 hf1 hr1 bx1 tu1 p0 p1 pf0 pf1 TU0 OW0 BM0 BR0
    obtain ⟨q0, qf0⟩ := BR.out 0 _ rfl
    obtain ⟨q1, qf1⟩ := BR.out 1 _ rfl
    have BE : Hid (Box ((wm.setCell ⟨w.heap.size, 0, none⟩ (.slice va n vc)).setCell ⟨w.heap.size, 1, none⟩ (.string r)).drew w.heap.size [.slice va n vc, .string r]) := (BR.out.set 0 (.slice va n vc)).set 1 (.string r)
    have OE : Hid (((wm.setCell ⟨w.heap.size, 0, none⟩ (.slice va n vc)).setCell ⟨w.heap.size, 1, none⟩ (.string r)).drew.ownsRow w.heap.size 33 2 (.slice va n vc) n (cellsFl F)) := own_mono (own_setLow (own_setLow OW.out (by dsimp only; omega) _) (by dsimp only; omega) _) (by omega)
    have TE : Hid (Turned B (B + 1) w ((wm.setCell ⟨w.heap.size, 0, none⟩ (.slice va n vc)).setCell ⟨w.heap.size, 1, none⟩ (.string r)).drew) := (TU.out.below ((((Below.refl w.heap.size wm)).setCell (Nat.le_refl _) _).setCell (Nat.le_refl _) _)).drew
    go_region
    all_goals
      go_wp2_with fail
      generalize ((wm.setCell ⟨w.heap.size, 0, none⟩ (.slice va n vc)).setCell ⟨w.heap.size, 1, none⟩ (.string r)).drew = wz at BE OE TE ⊢
      obtain ⟨r0, _⟩ := BE.out 0 _ rfl
      obtain ⟨r1, _⟩ := BE.out 1 _ rfl
      refine bodyPost_ret (v := .tuple #[.agg #[.slice va n vc, .string r], .bool false]) (by simp [results, Tryd.results39, go_sem, r0, r1]) rfl ⟨_, ⟨F, r⟩, rfl, (fun x hx => by cases hx), ⟨.slice va n vc, rfl, OwnsR.mk ?_ (Nat.le_refl _)⟩, ?_, TE.out⟩
      · rw [HN.out]; exact OE.out
      · show F.length ≤ _; rw [HN.out]; exact HF.out.1
  | some x =>
    obtain ⟨bb, hbb⟩ : ∃ b, fitsB x.1 (bsOf x.2) = b := ⟨_, rfl⟩
    obtain ⟨oo, hoo⟩ : ∃ oo, fitO (some x) = oo := ⟨_, rfl⟩
    have HO1 : Hid (oo.isSome = bb) := by
      show _ = _; rw [← hoo]; show (if fitsB x.1 (bsOf x.2) then some (GM.mk x.1 (bsOf x.2)) else none).isSome = bb
      rw [hbb]; cases bb <;> rfl
    have HO2 : Hid (∀ y, oo = some y → GM.mk x.1 (bsOf x.2) = y) := by
      show ∀ y, oo = some y → _; intro y hy; rw [← hoo] at hy
      have h9 : (if fitsB x.1 (bsOf x.2) then some (GM.mk x.1 (bsOf x.2)) else none) = some y := hy
      split at h9
      · exact Option.some.inj h9
      · cases h9
    rw [hoo]
    clear hoo
    go_enter Tryd.func39, Tryd.ntmps39
    go_wp2_with (go_at_call 64; refine (HH _ (HM.out.below ((Below.refl _ _).alloc (Nat.le_refl _) _)) (HB.out.old _)).mono ?_; rintro e w1 ⟨v1, F, r, rfl, hx1, ow1, hF1, hf1, hr1, bx1, tu1⟩; have HX : Hid (∀ y : List MFl × List UInt8, some x = some y → F = y.1 ∧ r = bsOf y.2) := hx1; clear hx1; obtain ⟨va, vc, rfl, _, _⟩ := own_src ow1; obtain ⟨p0, pf0⟩ := bx1 0 _ rfl; have pf1 : (w1.alloc (.cells #[.slice va F.length vc, .string r] 25)).frozen? ⟨B, 0, none⟩ = false := (bx1.old _ 0 _ rfl).2; have p1 : (w1.alloc (.cells #[.slice va F.length vc, .string r] 25)).cell? ⟨B, 0, none⟩ = some (.string r) := (bx1.old _ 0 _ rfl).1)
    obtain ⟨n, hn⟩ : ∃ n, F.length = n := ⟨_, rfl⟩
    rw [hn] at ow1 hF1 ⊢
    have hsz : w.heap.size + 1 ≤ w1.heap.size := by have := tu1.size; simpa using this
    have BM0 : Box ((w1.alloc (.cells #[.slice va n vc, .string r] 25)).setCell ⟨B, 0, none⟩ (.string ⟨#[]⟩)) w1.heap.size [.slice va n vc, .string r] := (Box.new rfl).other _ (by dsimp only; omega) _
    have BR0 : Box ((w1.alloc (.cells #[.slice va n vc, .string r] 25)).setCell ⟨B, 0, none⟩ (.string ⟨#[]⟩)) w.heap.size [.slice none 0 0, .string ⟨#[]⟩] := (((Box.new rfl).turned tu1 (.inr (by omega))).old _).other _ (by dsimp only; omega) _
    have OW0 : ((w1.alloc (.cells #[.slice va n vc, .string r] 25)).setCell ⟨B, 0, none⟩ (.string ⟨#[]⟩)).ownsRow (w.heap.size + 1) 33 2 (.slice va n vc) n (cellsFl F) := own_setLow (own_mono (ow1.alloc _) (by simp)) (by dsimp only; omega) _
    have TU0 : Turned B (B + 1) w ((w1.alloc (.cells #[.slice va n vc, .string r] 25)).setCell ⟨B, 0, none⟩ (.string ⟨#[]⟩)) := (((Turned.of_below ((Below.refl _ _).alloc (Nat.le_refl _) _)).trans tu1).below ((Below.refl _ _).alloc (by omega) _)).set (Nat.le_refl _) (by omega) _ _
    generalize ((w1.alloc (.cells #[.slice va n vc, .string r] 25)).setCell ⟨B, 0, none⟩ (.string ⟨#[]⟩)) = wm at BM0 BR0 OW0 TU0 ⊢
    obtain ⟨M, hM⟩ : ∃ M, w1.heap.size = M := ⟨_, rfl⟩
    rw [hM] at BM0 hsz ⊢
    have HN : Hid (F.length = n) := hn
    have HF : Hid (n ≤ l.length ∧ flsLe F l.length ∧ r.size ≤ l.length) := ⟨hF1, hf1, hr1⟩
    have TU : Hid (Turned B (B + 1) w wm) := TU0
    have OW : Hid (wm.ownsRow (w.heap.size + 1) 33 2 (.slice va n vc) n (cellsFl F)) := OW0
    have BM : Hid (Box wm M [.slice va n vc, .string r]) := BM0
    have BR : Hid (Box wm w.heap.size [.slice none 0 0, .string ⟨#[]⟩]) := BR0
    obtain ⟨m0, _⟩ := BM0 0 _ rfl
    obtain ⟨m1, _⟩ := BM0 1 _ rfl
    clear hn hM ow1 hF1 hf1 hr1 bx1 tu1 p0 p1 pf0 pf1 TU0 OW0 BM0 BR0
    have HE : Hid (F = x.1 ∧ r = bsOf x.2) := HX.out x rfl
    have HFIT : ∀ w, Src w va (cellsFl F) → Calls Tryd.prog 35 #[.agg #[.slice va n vc, .string r]] w fun e w' => e = .returned (.bool bb) ∧ Below w.heap.size w w' := fun w h => by
      have h9 := fitsI va n vc F r w HN.out (by unfold maxLen; have := HF.out.1; omega) (flsLe_max HF.out.2.1 (by omega)) (by unfold maxLen; have := HF.out.2.2; omega) h
      rw [show fitsB F r = bb by rw [HE.out.1, HE.out.2]; exact hbb] at h9
      exact h9
    have SO : Hid (Src wm.drew va (cellsFl F)) := by
      obtain ⟨a9, c9, e9, s9, _⟩ := own_src OW.out
      cases e9
      exact s9
    clear hbb HX
    go_region_with (go_at_call 35; refine (HFIT _ SO.out).mono ?_; rintro e w5 ⟨rfl, hb5⟩; have BM5 := (show Box wm.drew M _ from BM.out).below hb5; obtain ⟨m0', _⟩ := BM5 0 _ rfl; obtain ⟨m1', _⟩ := BM5 1 _ rfl; have BR5 := (show Box wm.drew w.heap.size _ from BR.out).below hb5; obtain ⟨q0, qf0⟩ := BR5 0 _ rfl; obtain ⟨q1, qf1⟩ := (BR5.set 0 (.slice va n vc)) 1 _ rfl; have BE := (BR5.set 0 (.slice va n vc)).set 1 (.string r); obtain ⟨r0, _⟩ := BE 0 _ rfl; obtain ⟨r1, _⟩ := BE 1 _ rfl; have HB5 : Hid (Below wm.drew.heap.size wm.drew w5) := hb5; clear BE BR5 BM5 hb5)
    all_goals
      have OE : Hid (((w5.setCell ⟨w.heap.size, 0, none⟩ (.slice va n vc)).setCell ⟨w.heap.size, 1, none⟩ (.string r)).ownsRow w.heap.size 33 2 (.slice va n vc) n (cellsFl F)) := own_mono (own_setLow (own_setLow (own_below (show wm.drew.ownsRow _ _ _ _ _ _ from OW.out) HB5.out) (by dsimp only; omega) _) (by dsimp only; omega) _) (by omega)
      have TE : Hid (Turned B (B + 1) w ((w5.setCell ⟨w.heap.size, 0, none⟩ (.slice va n vc)).setCell ⟨w.heap.size, 1, none⟩ (.string r))) := (TU.out.drew.below (HB5.out.mono TU.out.size)).below ((((Below.refl w.heap.size w5)).setCell (Nat.le_refl _) _).setCell (Nat.le_refl _) _)
      go_wp2_with fail
      refine bodyPost_ret (v := .tuple #[.agg #[.slice va n vc, .string r], .bool bb]) (by simp [results, Tryd.results39, go_sem, r0, r1]) rfl ⟨_, ⟨F, r⟩, by rw [HO1.out], (fun y hy => ?_), ⟨.slice va n vc, rfl, OwnsR.mk ?_ (Nat.le_refl _)⟩, ?_, TE.out⟩
      · rw [HE.out.1, HE.out.2]; exact HO2.out y hy
      · rw [HN.out]; exact OE.out
      · show F.length ≤ _; rw [HN.out]; exact HF.out.1
end Go.Proofs.YtgbhjhbmolgbeaaDoor
