
/-
  Searching mails, by the program: the test of one mail, the filter. By an AI agent.
-/
import Derived.Test.YtgbhjhbmolgbeaaDoorSrp
namespace Go.Proofs.YtgbhjhbmolgbeaaDoor
open Go.ChangeShapes Go.WideShapes Go.ChangeAt Go.RowKit Go.Deep
set_option linter.unusedVariables false
set_option maxRecDepth 100000

set_option maxHeartbeats 1000000 in
theorem hitI (x y : Int) (t nm wd : ByteArray) (Bn Bw : Nat) (w : World) (ht : t.size ≤ 85) (hn : nm.size ≤ 65536) (hm : MaxAt w) (hbn : Box w Bn [.string nm]) (hbw : Box w Bw [.string (bsOf (lowL wd))]) :
    Calls Tryd.prog 45 #[.agg #[.int .i64 x, .int .i64 y, .string t], .pointer (some ⟨Bn, 0, none⟩), .pointer (some ⟨Bw, 0, none⟩)] w fun e w' => e = .returned (.bool (hit nm wd (x, y, t))) ∧ Below w.heap.size w w' := by
  have HH : Hid (hit nm wd (x, y, t) = match textOf nm t with
    | none => false
    | some v => Lib.contains (lowL v) (lowL wd)) := rfl
  rw [HH.out]
  have HS : ∀ w, MaxAt w → Calls Tryd.prog 46 #[.agg #[.int .i64 x, .int .i64 y, .string t], .string nm] w fun e w' => ∃ v, e = .returned (.tuple #[.string v, .bool (textOf nm t).isSome]) ∧ (∀ z, textOf nm t = some z → v = z) ∧ Below w.heap.size w w' := fun w hm => searchedI x y t nm w ht hn hm
  have HZ : Hid (∀ z, textOf nm t = some z → z.size ≤ 85) := fun z hz => textOf_size nm t z ht hz
  obtain ⟨WD, hWD⟩ : ∃ W, bsOf (lowL wd) = W := ⟨_, rfl⟩
  have HWD : Hid (bsOf (lowL wd) = WD) := hWD
  rw [hWD] at hbw
  have HM : Hid (MaxAt w) := hm
  have HBW : Hid (Box w Bw [.string WD]) := hbw
  have bn0 := ((hbn.old (.cells #[.int .i64 x, .int .i64 y, .string t] 39)) 0 _ rfl).1
  have bm := Box.new (w := w) (vs := #[.int .i64 x, .int .i64 y, .string t]) (t := 39) rfl
  have m0 := (bm 0 _ rfl).1
  have m1 := (bm 1 _ rfl).1
  have m2 := (bm 2 _ rfl).1
  obtain ⟨o, ho⟩ : ∃ o, textOf nm t = o := ⟨_, rfl⟩
  simp only [ho] at HS HZ ⊢
  clear ho HH hWD hm hbw bm
  cases o with
  | none =>
    have HS' : ∀ w, MaxAt w → Calls Tryd.prog 46 #[.agg #[.int .i64 x, .int .i64 y, .string t], .string nm] w fun e w' => ∃ v, e = .returned (.tuple #[.string v, .bool false]) ∧ Below w.heap.size w w' := fun w hm => by
      refine (HS w hm).mono ?_
      rintro e w' ⟨v, rfl, _, h⟩
      exact ⟨v, rfl, h⟩
    clear HS HZ
    go_enter Tryd.func45, Tryd.ntmps45
    go_wp2_with (go_at_call 46; refine (HS' _ (HM.out.below ((Below.refl _ _).alloc (Nat.le_refl _) _))).mono ?_; rintro e w1 ⟨v1, rfl, hb1⟩)
    go_region
    all_goals
      go_wp2_with fail
      go_ret
      exact ⟨rfl, (Below.new hb1).drew⟩
  | some z =>
    have HS' : ∀ w, MaxAt w → Calls Tryd.prog 46 #[.agg #[.int .i64 x, .int .i64 y, .string t], .string nm] w fun e w' => e = .returned (.tuple #[.string z, .bool true]) ∧ Below w.heap.size w w' := fun w hm => by
      refine (HS w hm).mono ?_
      rintro e w' ⟨v, rfl, hv, h⟩
      rw [hv z rfl]
      exact ⟨rfl, h⟩
    have hz := HZ.out z rfl
    obtain ⟨Z, hZ⟩ : ∃ Z, bsOf (lowL z) = Z := ⟨_, rfl⟩
    obtain ⟨b, hb⟩ : ∃ b, Lib.contains (lowL z) (lowL wd) = b := ⟨_, rfl⟩
    have HSM : ∀ w, Calls Tryd.prog 43 #[.string z] w fun e w' => e = .returned (.string Z) ∧ Below w.heap.size w w' := fun w => by rw [← hZ]; exact smallC z w (by omega)
    have HCT : ∀ w, MaxAt w → Calls Tryd.prog 47 #[.string Z, .string WD] w fun e w' => e = .returned (.bool b) ∧ w' = w := fun w hm => by
      rw [← hZ, ← HWD.out, ← hb]
      exact containsC _ _ w (by unfold lowL; simp; omega) hm
    simp only [hb]
    clear HS HZ hZ hb hz
    go_enter Tryd.func45, Tryd.ntmps45
    go_wp2_with (go_at_call 46; refine (HS' _ (HM.out.below ((Below.refl _ _).alloc (Nat.le_refl _) _))).mono ?_; rintro e w1 ⟨rfl, hb1⟩)
    have B1 : Hid (Below w.heap.size w w1) := Below.new hb1
    have W1 : Hid (Box w1 Bw [.string WD]) := HBW.out.below (Below.new hb1)
    obtain ⟨c0, _⟩ := W1.out 0 _ rfl
    clear hb1
    go_region_with (first | (go_at_call 47; refine (HCT _ MX).mono ?_; rintro e w3 ⟨rfl, rfl⟩) | (go_at_call 43; refine (HSM _).mono ?_; rintro e w2 ⟨rfl, hb2⟩; have c2 := ((show Box w1.drew Bw _ from W1.out).below hb2 0 _ rfl).1; have MX : MaxAt w2 := ((HM.out.below B1.out).drew.below hb2); have B2 : Hid (Below w.heap.size w w2) := B1.out.drew.trans (hb2.mono B1.out.size); clear hb2))
    all_goals
      go_wp2_with fail
      go_ret
      exact ⟨rfl, B2.out⟩

theorem filter_snoc (p : MMl → Bool) (L : List MMl) (k : Nat) (h : k < L.length) : (L.take (k + 1)).filter p = (L.take k).filter p ++ (if p (L.getD k ml0) then [L.getD k ml0] else []) := by
  rw [List.take_succ_eq_append_getElem h, List.filter_append, List.getD_eq_getElem?_getD, List.getElem?_eq_getElem h]
  simp only [Option.getD_some, List.filter_cons, List.filter_nil]
theorem ml_mem (L : List MMl) (k : Nat) (h : k < L.length) : L.getD k ml0 ∈ L := by
  rw [List.getD_eq_getElem?_getD, List.getElem?_eq_getElem h]; exact List.getElem_mem _
theorem src_oneM {w : World} {x y : Int} {t : ByteArray} {B tp : Nat} (hB : B = w.heap.size) : Src (w.alloc (.cells #[.int .i64 x, .int .i64 y, .string t] tp)) (some ⟨B, 0, none⟩) (cellsMl [(x, y, t)]) := by
  subst hB
  refine .inr ⟨_, 0, rfl, fun j hj => ?_⟩
  have hb := Box.new (w := w) (B := w.heap.size) (vs := #[.int .i64 x, .int .i64 y, .string t]) (t := tp) rfl
  have hj2 : j < 3 := hj
  rcases (show j = 0 ∨ j = 1 ∨ j = 2 by omega) with rfl | rfl | rfl
  · exact (hb 0 _ rfl).1
  · exact (hb 1 _ rfl).1
  · exact (hb 2 _ rfl).1

set_option maxHeartbeats 1000000 in
theorem filterI (a : Option Addr) (n c : Nat) (L : List MMl) (nm wd : ByteArray) (Bn Bw : Nat) (w : World) (hL : L.length = n) (hn : n ≤ 100) (hs : ∀ x ∈ L, x.2.2.size ≤ 85) (hnm : nm.size ≤ 65536) (hm : MaxAt w) (hbn : Box w Bn [.string nm]) (hbw : Box w Bw [.string (bsOf (lowL wd))]) (h : Src w a (cellsMl L)) :
    Calls Tryd.prog 44 #[.slice a n c, .func (.func 45) #[] #[.pointer (some ⟨Bn, 0, none⟩), .pointer (some ⟨Bw, 0, none⟩)]] w fun e w' => ∃ v, e = .returned v ∧ w'.ownsRow w.heap.size 39 3 v (L.filter (hit nm wd)).length (cellsMl (L.filter (hit nm wd))) ∧ Below w.heap.size w w' := by
  obtain ⟨p, hp⟩ : ∃ p, hit nm wd = p := ⟨_, rfl⟩
  have HK : ∀ (x y : Int) (t : ByteArray) (W : World), t.size ≤ 85 → Below w.heap.size w W → Calls Tryd.prog 45 #[.agg #[.int .i64 x, .int .i64 y, .string t], .pointer (some ⟨Bn, 0, none⟩), .pointer (some ⟨Bw, 0, none⟩)] W fun e w' => e = .returned (.bool (p (x, y, t))) ∧ Below W.heap.size W w' := fun x y t W ht hB => by
    rw [← hp]
    exact hitI x y t nm wd Bn Bw W ht hnm (hm.below hB) (hbn.below hB) (hbw.below hB)
  rw [hp]
  have HH : Hid (Src w a (cellsMl L)) := h
  have HL : Hid (L.length = n) := hL
  have HS : Hid (∀ x ∈ L, x.2.2.size ≤ 85) := hs
  clear h hL hs hp hbn hbw hm
  go_enter Tryd.func44, Tryd.ntmps44
  go_wp2_with fail
  go_loopw [5, 10] (fun v i wr => ∃ k : Nat, k ≤ n ∧ i = .int .i64 (k : Int) ∧ Hid (wr.ownsRow w.heap.size 39 3 v ((L.take k).filter p).length (cellsMl ((L.take k).filter p))) ∧ Hid (Below w.heap.size w wr)) (fun _ i _ => n - (intOf i).toNat)
  case atStart => exact ⟨0, by omega, rfl, World.ownsRow_nil _ _ _ _, Below.refl _ _⟩
  case round =>
    obtain ⟨k, hk, rfl, ho, hb⟩ := hrel
    obtain ⟨va, vc, rfl, _, _⟩ := own_src ho.out
    by_cases hlt : k < n
    · have hkL : k < L.length := by rw [HL.out]; exact hlt
      obtain ⟨b, q, x, y, t, rfl, hc0, hc1, hc2, hy⟩ := srcMl (HH.out.below hb.out) hkL
      have ht : t.size ≤ 85 := by have := HS.out _ (ml_mem L k hkL); rw [hy.out] at this; exact this
      have HF := filter_snoc p L k hkL
      rw [hy.out] at HF
      obtain ⟨F, hF⟩ : ∃ F, (L.take k).filter p = F := ⟨_, rfl⟩
      obtain ⟨G, hG⟩ : ∃ G, (L.take (k + 1)).filter p = G := ⟨_, rfl⟩
      have hFl : F.length ≤ 100 := by rw [← hF]; exact Nat.le_trans (List.length_filter_le _ _) (by simp; omega)
      have HC := fun W (hB : Below w.heap.size w W) => HK x y t W ht hB
      rw [hF] at ho HF
      rw [hG] at HF
      have HG : Hid ((L.take (k + 1)).filter p = G) := hG
      rw [hF]
      obtain ⟨f, hf⟩ : ∃ f, F.length = f := ⟨_, rfl⟩
      have HFL : Hid (F.length = f) := hf
      rw [hf] at ho hFl ⊢
      clear hF hG hkL ht hf
      cases hP : p (x, y, t) with
      | true =>
        rw [hP] at HC HF
        simp only [if_true] at HF
        have HGF : Hid (G = F ++ [(x, y, t)]) := HF
        clear HF hP
        go_wp2_with (first | (go_at_call 45; refine (HC _ (hb.out.alloc hb.out.size _)).mono ?_; rintro e w1 ⟨rfl, hb1⟩; have BX := Box.below (Box.new (w := wr) (vs := #[.int .i64 x, .int .i64 y, .string t]) (t := 39) rfl) hb1; have y0 := (BX 0 _ rfl).1; have y1 := (BX 1 _ rfl).1; have y2 := (BX 2 _ rfl).1; have OW1 : Hid (w1.ownsRow w.heap.size 39 3 (.slice va f vc) f (cellsMl F)) := (own_below (ho.out.alloc _) hb1); have BB1 : Hid (Below w.heap.size w w1) := (hb.out.trans ((Below.new hb1).mono hb.out.size)); clear BX hb1) | (at_builtin; refine wpList_append_src _ rfl _ _ 40 rfl w.heap.size 39 (.agg #[.int .i64 0, .int .i64 0, .string ⟨#[]⟩]) 3 32 Tryd.underlying40 infoMl rfl (by decide) (by decide) (.slice va f vc) f (cellsMl F) rfl (OW1.out.alloc _) (some ⟨w1.heap.size, 0, none⟩) 1 1 (cellsMl [(x, y, t)]) rfl rfl (src_oneM rfl) (cellsMl_one _) (by omega) (le_alloc BB1.out.size _) ?_))
        intro v' w2 hown hgrow
        obtain ⟨a', d', rfl, _, _⟩ := own_src hown
        have B2 : Hid (Below w.heap.size w w2) := (BB1.out.alloc BB1.out.size _).grown hgrow (le_alloc BB1.out.size _) (fun g e => (OW1.out.lt g e).1)
        have O2 : Hid (w2.ownsRow w.heap.size 39 3 (.slice a' (f + 1) d') (f + 1) (cellsMl G)) := by
          show World.ownsRow _ _ _ _ _ _ _
          rw [HGF.out]
          exact own_congr hown (cellsMl_append _ _).symm
        have GL : Hid (G.length = f + 1) := by show _ = _; rw [HGF.out, List.length_append, HFL.out]; rfl
        clear hown hgrow y0 y1 y2
        go_wp2_with fail
        exact ⟨⟨k + 1, by omega, by go_num, by rw [HG.out, GL.out]; exact O2.out, B2.out⟩, by simp [intOf]; omega⟩
      | false =>
        rw [hP] at HC HF
        simp only [Bool.false_eq_true, if_false, List.append_nil] at HF
        have HGF : Hid (G = F) := HF
        clear HF hP
        go_wp2_with (go_at_call 45; refine (HC _ (hb.out.alloc hb.out.size _)).mono ?_; rintro e w1 ⟨rfl, hb1⟩)
        exact ⟨⟨k + 1, by omega, by go_num, by rw [HG.out, HGF.out, HFL.out]; exact own_below (ho.out.alloc _) hb1, hb.out.trans ((Below.new hb1).mono hb.out.size)⟩, by simp [intOf]; omega⟩
    · have hkn : k = n := by omega
      have OE : Hid (wr.ownsRow w.heap.size 39 3 (.slice va ((L.take k).filter p).length vc) (L.filter p).length (cellsMl (L.filter p))) := by
        have h9 := ho.out
        have h8 : L.take k = L := List.take_of_length_le (by rw [HL.out]; omega)
        show World.ownsRow _ _ _ _ _ _ _
        rw [h8] at h9 ⊢
        exact h9
      clear hkn
      go_wp2_with fail
      go_ret
      exact ⟨_, rfl, OE.out, hb.out⟩
end Go.Proofs.YtgbhjhbmolgbeaaDoor
