
/-
  The program's walk over a tree, and reading one. By an AI agent.
-/
import Derived.Test.YtmpaophegdeokaaTr1
namespace Go.Proofs.Ytmpaophegdeokaa
open Go.ChangeShapes Go.WideShapes Go.ChangeAt Go.RowKit Go.Deep
set_option linter.unusedVariables false
set_option maxRecDepth 100000

set_option maxHeartbeats 1000000 in
theorem grow {H : List NM} {w0 : World} {base T hc : Nat} {ha : Option Addr} {top : Value} (hb0 : base = w0.heap.size) (hH : ReadsHL w0 ha H) (hlen : H.length = 50) (hsm : ∀ D ∈ H, smallN D) (hT : base ≤ T) : ∀ d, GrowAll H w0 base T ha hc top d := by
  intro d
  induction d with
  | zero =>
    intro q b s pv w hbd tm hB
    have F : Hid (growF H 0 q s = none) := rfl
    have hb21 : b = 21 := by omega
    subst hb21
    have TM0 : Hid (TM w base T ha hc top s pv) := tm
    have B0 : Hid (Below base w0 w) := hB
    have P0 : Hid (GrowPost H w0 base T ha hc top 0 q s w (.returned (.tuple #[.pointer none, .bool false])) w) := ⟨s, pv, tm, hB, KeptX.refl _ _, Nat.le_refl _, .inl ⟨rfl, rfl⟩⟩
    cases hp : pageB q with
    | false =>
      have HP : Hid (pageB q = false) := hp
      clear hp tm hB hbd
      go_enter Try.func140, Try.ntmps140
      go_wp2_with (go_at_call 155; refine (isPageIs false _ _ HP.out).mono ?_; rintro e w1 ⟨rfl, rfl⟩)
      go_ret2
      exact P0.out
    | true =>
      have HP : Hid (pageB q = true) := hp
      obtain ⟨hq0, hq1⟩ := page_nat hp
      obtain ⟨k, rfl⟩ : ∃ k : Nat, q = (k : Int) := ⟨q.toNat, by omega⟩
      have hk : k < 50 := by simpa using hq1
      obtain ⟨bb, hbb⟩ : ∃ bb, s.R.getD k false = bb := ⟨_, rfl⟩
      obtain ⟨c1, _⟩ := blk_at tm.blk (tarr_R (k := k) (by rw [tm.good.1]; exact hk))
      rw [hbb] at c1
      clear hp tm hB hbd hbb hq0 hq1
      have hki : (k : Int) < 50 := by omega
      go_enter Try.func140, Try.ntmps140
      cases bb with
      | true =>
        go_wp2_with (go_at_call 155; refine (isPageIs true _ _ HP.out).mono ?_; rintro e w1 ⟨rfl, rfl⟩)
        go_ret2
        exact P0.out
      | false =>
        go_wp2_with (go_at_call 155; refine (isPageIs true _ _ HP.out).mono ?_; rintro e w1 ⟨rfl, rfl⟩)
        go_ret2
        exact P0.out
  | succ d ih => exact growStep hb0 hH hlen hsm hT d ih

/-- The tree that was read lies at T. -/
structure ReadT (H : List NM) (w0 w : World) (T : Nat) (root : Int) (s : St) : Prop where
  ex : ∃ (ha : Option Addr) (hc : Nat) (top pv : Value), TM w w0.heap.size T ha hc top s pv ∧ (root = -1 ∧ top = .pointer none ∨ ∃ g, top = .pointer (some ⟨g, 0, none⟩) ∧ TwAt H w0 w0.heap.size w.heap.size 21 w g root)

set_option maxHeartbeats 2000000 in
theorem readTree (v : Value) (H : List NM) (root : Int) (w : World) (hsm : smallH H) (h : ReadsH w v H) :
    Calls Try.prog 130 #[v, .int .i64 root] w fun e w' => Below w.heap.size w w' ∧ ((treeF H root = none ∧ e = .returned (.tuple #[.pointer none, .bool false])) ∨ ∃ s T, treeF H root = some s ∧ e = .returned (.tuple #[.pointer (some ⟨T, 0, none⟩), .bool true]) ∧ ReadT H w w' T root s) := by
  obtain ⟨a, c, rfl, hr⟩ := h
  have HR : Hid (ReadsHL w a H) := hr
  have HS : Hid (smallH H) := hsm
  obtain ⟨n, hn⟩ : ∃ n, H.length = n := ⟨_, rfl⟩
  have HN : Hid (H.length = n) := hn
  rw [hn]
  clear hr hsm hn
  by_cases h50 : n = 50
  case neg =>
    have F : Hid (treeF H root = none) := by show treeF H root = none; unfold treeF; rw [if_neg (by rw [HN.out]; exact h50)]
    have t1 : ((n : Int) != 50) = true := by simp; omega
    clear h50
    go_enter Try.func130, Try.ntmps130
    go_wp2_with fail
    go_ret2
    exact ⟨(Below.refl _ _).alloc (Nat.le_refl _) _, .inl ⟨F.out, rfl⟩⟩
  subst h50
  have TM0 : Hid (TM ((w.alloc (.cells #[.slice a 50 c] 72)).alloc (.cells (tarr a c (.pointer none) st0.R (.slice none 0 0)) 175)) w.heap.size (w.heap.size + 1) a c (.pointer none) st0 (.slice none 0 0)) := ⟨by
      have := blk_new (w.alloc (.cells #[.slice a 50 c] 72)) (tarr a c (.pointer none) st0.R (.slice none 0 0)) 175
      rw [World.size_alloc] at this
      exact this, World.ownsRow_nil _ _ _ _, good0⟩
  by_cases hroot : root = -1
  · subst hroot
    have F : Hid (treeF H (-1) = some st0) := by show treeF H (-1) = _; unfold treeF; rw [if_pos HN.out, if_pos rfl]
    go_enter Try.func130, Try.ntmps130
    go_wp2_with fail
    go_ret2
    refine ⟨((Below.refl _ _).alloc (Nat.le_refl _) _).alloc (by simp) _, .inr ⟨st0, w.heap.size + 1, F.out, rfl, ⟨a, c, .pointer none, .slice none 0 0, TM0.out, .inl ⟨rfl, rfl⟩⟩⟩⟩
  have hne : (root == -1) = false := by simp; exact hroot
  have TF : Hid (treeF H root = match growF H 21 root st0 with | none => none | some s => if pairsOf s.P = true then some s else none) := by show treeF H root = _; unfold treeF; rw [if_pos HN.out, if_neg hroot]; rfl
  have B0 : Hid (Below w.heap.size w ((w.alloc (.cells #[.slice a 50 c] 72)).alloc (.cells (tarr a c (.pointer none) st0.R (.slice none 0 0)) 175))) := ((Below.refl _ _).alloc (Nat.le_refl _) _).alloc (by simp) _
  clear hroot
  go_enter Try.func130, Try.ntmps130
  go_wp2_with fail
  refine (grow (H := H) (w0 := w) (base := w.heap.size) (T := w.heap.size + 1) (hc := c) (ha := a) (top := .pointer none) rfl HR.out HN.out HS.out.2 (by omega) 21 root 0 st0 (.slice none 0 0) _ rfl TM0.out B0.out).mono ?_
  rintro e w1 ⟨s1, pv1, tm1, b1, k1, z1, (⟨hnone, rfl⟩ | ⟨hsome, g, rfl, htw⟩)⟩
  · have F : Hid (treeF H root = none) := by show treeF H root = none; rw [TF.out, hnone]
    have B1 : Hid (Below w.heap.size w w1) := b1
    clear tm1 b1 k1 z1 hnone
    go_wp2_with fail
    go_ret2
    exact ⟨B1.out, .inl ⟨F.out, rfl⟩⟩
  · obtain ⟨pb, hpb⟩ : ∃ pb, pairsOf s1.P = pb := ⟨_, rfl⟩
    have F : Hid (treeF H root = if pb = true then some s1 else none) := by show treeF H root = _; rw [TF.out, hsome]; show (if pairsOf s1.P = true then some s1 else none) = _; rw [hpb]
    have B1 : Hid (Below w.heap.size w w1) := b1
    have T1 : Hid (TM w1 w.heap.size (w.heap.size + 1) a c (.pointer none) s1 pv1) := tm1
    have W1 : Hid (TwAt H w w.heap.size w1.heap.size 21 w1 g root) := htw.mono (by simp; omega) (Nat.le_refl _)
    have FT : Hid (fitS s1) := grow_fit 21 root st0 s1 hsome (fun x hx => by cases hx)
    have PB : Hid (pairsOf s1.P = pb) := hpb
    obtain ⟨pa, pc, rfl, psrc, _⟩ := own_src tm1.row
    have PS : Hid (Src w1 pa (cellsP s1.P)) := psrc
    obtain ⟨c1, _⟩ := blk_at tm1.blk (tarr_P tm1.good.1)
    obtain ⟨pn, hpn⟩ : ∃ n, s1.P.length = n := ⟨_, rfl⟩
    have PN : Hid (s1.P.length = pn) := hpn
    have hpl : pn ≤ 150 := by rw [← hpn]; exact good_le tm1.good
    rw [hpn] at c1
    clear tm1 b1 k1 z1 hsome htw hpb psrc hpn
    have FS : Hid (∀ i, i < pn → (fK s1.P i).size ≤ 1048576 ∧ (fV s1.P i).size ≤ 1048576) := fun i hi => by
      have h9 := FT.out _ (mem_getD s1.P p0 i (by rw [PN.out]; exact hi))
      unfold fitB keyB at h9
      simp only [Bool.and_eq_true, decide_eq_true_eq] at h9
      unfold fK fV
      omega
    go_wp2_with fail
    refine (implPairsOK pa pn pc (fK s1.P) (fV s1.P) _ (by omega) FS.out (sp_src PS.out PN.out)).mono ?_
    have PB2 : Hid (pairsB (fK s1.P) (fV s1.P) pn = pb) := by show _ = pb; rw [← PN.out]; exact PB.out
    rw [PB2.out]
    rintro e w2 ⟨rfl, hb2⟩
    have B2 : Hid (Below w.heap.size w w2) := B1.out.trans (hb2.mono B1.out.size)
    have T2 : Hid (TM w2 w.heap.size (w.heap.size + 1) a c (.pointer none) s1 (.slice pa s1.P.length pc)) := T1.out.below hb2
    have W2 : Hid (TwAt H w w.heap.size w2.heap.size 21 w2 g root) := (W1.out.kept (KeptX.of_below (bad := []) hb2) (by simp) (by simp)).mono (Nat.le_refl _) hb2.size
    clear hb2 c1 B1 T1 W1 PS
    cases pb with
    | false =>
      have F2 : Hid (treeF H root = none) := by show _ = _; rw [F.out]; rfl
      go_wp2_with fail
      go_ret2
      exact ⟨B2.out, .inl ⟨F2.out, rfl⟩⟩
    | true =>
      have F2 : Hid (treeF H root = some s1) := by show _ = _; rw [F.out]; rfl
      obtain ⟨t1, t1f⟩ := blk_at T2.out.blk (i := 1) (v := .pointer none) rfl
      have B3 : Hid (Below w.heap.size w (w2.setCell ⟨w.heap.size + 1, 1, none⟩ (.pointer (some ⟨g, 0, none⟩)))) := B2.out.setCell (by show w.heap.size ≤ w.heap.size + 1; omega) _
      have T3 : Hid (TM (w2.setCell ⟨w.heap.size + 1, 1, none⟩ (.pointer (some ⟨g, 0, none⟩))) w.heap.size (w.heap.size + 1) a c (.pointer (some ⟨g, 0, none⟩)) s1 (.slice pa s1.P.length pc)) := ⟨by rw [blk_set T2.out.blk, tarr_setT], own_setOther T2.out.row (own_notkind T2.out.row ⟨_, _, T2.out.blk⟩ (by decide)) _, T2.out.good⟩
      have W3 : Hid (TwAt H w w.heap.size (w2.setCell ⟨w.heap.size + 1, 1, none⟩ (.pointer (some ⟨g, 0, none⟩))).heap.size 21 (w2.setCell ⟨w.heap.size + 1, 1, none⟩ (.pointer (some ⟨g, 0, none⟩))) g root) := by
        rw [World.size_setCell]
        exact W2.out.kept (KeptX.setCell (bad := [175]) T2.out.blk (by simp) _) (by simp) (by simp)
      clear B2 T2 W2
      go_wp2_with fail
      go_ret2
      exact ⟨B3.out, .inr ⟨s1, w.heap.size + 1, F2.out, rfl, ⟨a, c, _, _, T3.out, .inr ⟨g, rfl, W3.out⟩⟩⟩⟩

end Go.Proofs.Ytmpaophegdeokaa
