/-
  Texts of the store, brought together: Tr3. By an AI agent.
-/
import Derived.Test.YtnnimocaanofjaaGreatDoorSq09
import Derived.Lib.Strings
namespace Go.Proofs.YtnnimocaanofjaaGreatDoor
open Go.ChangeShapes Go.WideShapes Go.ChangeAt Go.RowKit Go.Deep
set_option linter.unusedVariables false
set_option linter.unusedSimpArgs false
set_option maxRecDepth 100000
structure XM (w : World) (base X : Nat) (ha : Option Addr) (hc : Nat) (s : St) (pa : Option Addr) (pc gb : Nat) (ok : Bool) : Prop where
  blk : w.heap[X]? = some (Obj.cells #[.slice ha 50 hc, .slice pa s.P.length pc, .slice (some ⟨gb, 0, none⟩) 50 50, .bool ok] 199 (0, 0))
  prow : w.ownsRow base 109 2 (.slice pa s.P.length pc) s.P.length (cellsP s.P)
  grow : w.ownsRow base 4 1 (.slice (some ⟨gb, 0, none⟩) 50 50) 50 (s.R.map Value.bool)
  good : goodS s
section
variable {w w' : World} {base X hc pc gb : Nat} {ha pa : Option Addr} {s : St} {ok : Bool}
theorem XM.below (h : XM w base X ha hc s pa pc gb ok) (hb : Below w.heap.size w w') : XM w' base X ha hc s pa pc gb ok :=
  ⟨by rw [hb.block X (Array.getElem?_eq_some_iff.1 h.blk).1]; exact h.blk, own_below h.prow hb, own_below h.grow hb, h.good⟩
theorem XM.setOk (h : XM w base X ha hc s pa pc gb ok) (b : Bool) : XM (w.setCell ⟨X, 3, none⟩ (.bool b)) base X ha hc s pa pc gb b :=
  ⟨blk_set h.blk 3 _, own_setOther h.prow (own_notkind h.prow ⟨_, _, h.blk⟩ (by decide)) _, own_setOther h.grow (own_notkind h.grow ⟨_, _, h.blk⟩ (by decide)) _, h.good⟩
theorem XM.page (h : XM w base X ha hc s pa pc gb ok) {k : Nat} (hk : k < 50) : w.cell? ⟨gb, k, none⟩ = some (.bool (s.R.getD k false)) ∧ w.frozen? ⟨gb, k, none⟩ = false :=
  own_at h.grow (by rw [List.getElem?_map, List.getElem?_eq_getElem (by rw [h.good.1]; exact hk)]; simp [h.good.1, hk])
theorem XM.seen (h : XM w base X ha hc s pa pc gb ok) {k : Nat} (hk : k < 50) (hf : s.R.getD k false = false) : XM (w.setCell ⟨gb, k, none⟩ (.bool true)) base X ha hc ⟨s.R.set k true, s.P⟩ pa pc gb ok := by
  have hl := h.good.1
  have hgk := Lib.ownsRow_kind h.grow gb rfl
  refine ⟨?_, own_setOther h.prow (own_notkind h.prow hgk (by decide)) _, ?_, ?_⟩
  · refine blk_other h.blk _ (fun e => ?_) _
    obtain ⟨c, f, hk2⟩ := hgk
    have e' : X = gb := e
    rw [← e', h.blk] at hk2
    cases hk2
  · have := own_set h.grow k (by rw [List.length_map, hl]; exact hk) (.bool true)
    rw [← List.map_set] at this
    exact this
  · have hc := cnt_set s.R k (by omega) hf
    refine ⟨by show (s.R.set k true).length = 50; rw [List.length_set]; exact hl, ?_⟩
    show s.P.length ≤ 3 * cnt (s.R.set k true)
    have := h.good.2
    omega
end
theorem kids_dropS {g : Int → St → Option St} {l : Int → ByteArray} {K : List Int} {L : List ByteArray} {i : Nat} (hK : i < K.length) (hL : i < L.length) (s : St) : kidsF g l (K.drop i) (L.drop i) s = kidsF g l (K.getD i 0 :: K.drop (i + 1)) (L.getD i e0 :: L.drop (i + 1)) s := by
  rw [List.drop_eq_getElem_cons hK, List.drop_eq_getElem_cons hL]
  congr 2
  · rw [List.getD_eq_getElem?_getD, List.getElem?_eq_getElem hK]; rfl
  · rw [List.getD_eq_getElem?_getD, List.getElem?_eq_getElem hL]; rfl
theorem texts_neS {x y : ByteArray} (h : ¬ x = y) : (x.toList == y.toList) = false := by
  cases e : (x.toList == y.toList) with
  | false => rfl
  | true =>
    have h1 := eq_of_beq e
    rw [Lib.toList_data, Lib.toList_data] at h1
    exact absurd (bytes_inj h1) h
def WalkPost (H : List NM) (w0 : World) (X : Nat) (ha : Option Addr) (hc gb : Nat) (d : Nat) (q : Int) (s : St) (w : World) (e : Ending) (w' : World) : Prop :=
  ∃ s' pa' pc' ok', e = .returned (.tuple #[]) ∧ XM w' w0.heap.size X ha hc s' pa' pc' gb ok' ∧ Below w0.heap.size w0 w' ∧ KeptX [109, 4, 199] w w' ∧ w.heap.size ≤ w'.heap.size ∧ (ok' = true → growF H d q s = some s') ∧ (ok' = false → growF H d q s = none)
def WalkAll (H : List NM) (w0 : World) (X : Nat) (ha : Option Addr) (hc gb : Nat) (d : Nat) : Prop :=
  ∀ (q : Int) (b : Nat) (s : St) (pa : Option Addr) (pc : Nat) (w : World), b + d = 21 → XM w w0.heap.size X ha hc s pa pc gb true → Below w0.heap.size w0 w →
    Calls Tryz.prog 145 #[.pointer (some ⟨X, 0, none⟩), .int .i64 q, .int .i64 (b : Int)] w fun e w' => WalkPost H w0 X ha hc gb d q s w e w'
set_option maxHeartbeats 4000000 in
theorem walkStep {H : List NM} {w0 : World} {X hc gb : Nat} {ha : Option Addr} (hH : ReadsHL w0 ha H) (hlen : H.length = 50) (hsm : ∀ D ∈ H, smallN D) (hX : w0.heap.size ≤ X) (hgb : w0.heap.size ≤ gb) (d : Nat) (ih : ∀ d', d = d' + 1 → WalkAll H w0 X ha hc gb d') : WalkAll H w0 X ha hc gb d := by
  intro q b s pa pc w hbd xm hB
  have HH : Hid (ReadsHL w0 ha H) := hH
  have HN : Hid (H.length = 50) := hlen
  have HS : Hid (∀ D ∈ H, smallN D) := hsm
  have HX : Hid (w0.heap.size ≤ X ∧ w0.heap.size ≤ gb) := ⟨hX, hgb⟩
  have IH : Hid (∀ d', d = d' + 1 → WalkAll H w0 X ha hc gb d') := ih
  have X0 : Hid (XM w w0.heap.size X ha hc s pa pc gb true) := xm
  have B0 : Hid (Below w0.heap.size w0 w) := hB
  have NO : Hid (∀ (w1 : World), Below w.heap.size w w1 → growF H d q s = none → WalkPost H w0 X ha hc gb d q s w (.returned (.tuple #[])) (w1.setCell ⟨X, 3, none⟩ (.bool false))) := fun w1 hb F =>
    ⟨s, pa, pc, false, rfl, (xm.below hb).setOk false, (hB.trans (hb.mono hB.size)).setCell hX _, (KeptX.of_below hb).trans (KeptX.setCell (xm.below hb).blk (by simp) _), by rw [World.size_setCell]; exact hb.size, (fun e => by cases e), fun _ => F⟩
  obtain ⟨c0, _⟩ := blk_at xm.blk (i := 0) rfl
  obtain ⟨c2, _⟩ := blk_at xm.blk (i := 2) rfl
  obtain ⟨c3, c3f⟩ := blk_at xm.blk (i := 3) rfl
  have hin : ∀ r : Int, (decide (0 ≤ r) && decide (r ≤ 49)) = pageB r := page_in
  clear hH hlen hsm hX hgb ih xm hB hin
  cases d with
  | zero =>
    have hb21 : b = 21 := by omega
    subst hb21
    clear hbd
    go_enter Tryz.func145, Tryz.ntmps145
    go_wp2_with fail
    exact bodyPost_ret (v := .tuple #[]) (by simp [results, Tryz.results145, go_sem]) rfl (NO.out w (Below.refl _ _) rfl)
  | succ d =>
    have hb20 : (b : Int) ≤ 20 := by omega
    have HBD : Hid (b + 1 + d = 21) := by show b + 1 + d = 21; omega
    clear hbd
    cases hp : pageB q with
    | false =>
      have HP : Hid ((decide (0 ≤ q) && decide (q ≤ 49)) = false) := by show _ = false; rw [page_in]; exact hp
      have F : Hid (growF H (d + 1) q s = none) := grow_page hp
      clear hp
      go_enter Tryz.func145, Tryz.ntmps145
      go_wp2_with (go_at_call 77; refine (l01InIs false q 0 49 _ HP.out).mono ?_; rintro e w9 ⟨rfl, rfl⟩)
      exact bodyPost_ret (v := .tuple #[]) (by simp [results, Tryz.results145, go_sem]) rfl (NO.out _ (Below.refl _ _) F.out)
    | true =>
      have HP : Hid ((decide (0 ≤ q) && decide (q ≤ 49)) = true) := by show _ = true; rw [page_in]; exact hp
      have HPB : Hid (pageB q = true) := hp
      obtain ⟨hq0, hq1⟩ := page_nat hp
      obtain ⟨k, rfl⟩ : ∃ k : Nat, q = (k : Int) := ⟨q.toNat, by omega⟩
      have hk : k < 50 := by simpa using hq1
      obtain ⟨bb, hbb⟩ : ∃ bb, s.R.getD k false = bb := ⟨_, rfl⟩
      obtain ⟨g1, g1f⟩ := X0.out.page hk
      rw [hbb] at g1
      have HF : Hid (s.R.getD k false = bb) := hbb
      clear hp hbb hq0 hq1
      have hki : (k : Int) < 50 := by omega
      cases bb with
      | true =>
        have F : Hid (growF H (d + 1) (k : Int) s = none) := grow_seen (by simpa using HF.out)
        go_enter Tryz.func145, Tryz.ntmps145
        go_wp2_with (go_at_call 77; refine (l01InIs true (k : Int) 0 49 _ HP.out).mono ?_; rintro e w9 ⟨rfl, rfl⟩)
        exact bodyPost_ret (v := .tuple #[]) (by simp [results, Tryz.results145, go_sem]) rfl (NO.out _ (Below.refl _ _) F.out)
      | false =>
        obtain ⟨hbk, hof, D, a1, x1, a2, x2, a3, x3, rfl, r0, r1, r2, r3, hD, hR⟩ := srcN HH.out (i := k) (by rw [HN.out]; exact hk)
        have CELL : Hid (∀ w1, Below w0.heap.size w0 w1 → w1.cell? ⟨hbk, hof + k * 4, none⟩ = some (.bool D.A) ∧ w1.cell? ⟨hbk, hof + k * 4 + 1, none⟩ = some (.slice a1 D.P.length x1) ∧ w1.cell? ⟨hbk, hof + k * 4 + 2, none⟩ = some (.slice a2 D.L.length x2) ∧ w1.cell? ⟨hbk, hof + k * 4 + 3, none⟩ = some (.slice a3 D.K.length x3)) := fun w1 hb =>
          ⟨(hb.cell (p := ⟨hbk, hof + k * 4, none⟩) (World.block_lt_of_cell? _ _ r0)).trans r0, (hb.cell (p := ⟨hbk, hof + k * 4 + 1, none⟩) (World.block_lt_of_cell? _ _ r1)).trans r1, (hb.cell (p := ⟨hbk, hof + k * 4 + 2, none⟩) (World.block_lt_of_cell? _ _ r2)).trans r2, (hb.cell (p := ⟨hbk, hof + k * 4 + 3, none⟩) (World.block_lt_of_cell? _ _ r3)).trans r3⟩
        have ND : Hid (nd H (k : Int) = D) := by show nd H (k : Int) = D; unfold nd; rw [Int.toNat_natCast]; exact hD.out
        have SD : Hid (smallN D) := by show smallN D; rw [← hD.out]; exact HS.out _ (getD_memH H k (by rw [HN.out]; exact hk))
        obtain ⟨fr, hfr⟩ : ∃ fr, freeB D = fr := ⟨_, rfl⟩
        obtain ⟨ok, hok⟩ : ∃ ok, okB D = ok := ⟨_, rfl⟩
        have FR : Hid (freeB D = fr) := hfr
        have OK : Hid (okB D = ok) := hok
        obtain ⟨p0, p1, p2, p3⟩ := CELL.out w B0.out
        clear hfr hok hD r0 r1 r2 r3
        go_enter Tryz.func145, Tryz.ntmps145
        go_wp2_with (go_at_call 77; refine (l01InIs true (k : Int) 0 49 _ HP.out).mono ?_; rintro e w9 ⟨rfl, hw9⟩; obtain rfl := hw9.symm)
        refine (specNodeOK _ D _ SD.out (hR.out.below B0.out)).mono ?_
        rw [OK.out]
        rintro e w1 ⟨rfl, hb1⟩
        have X1 : Hid (XM w1 w0.heap.size X (some ⟨hbk, hof, none⟩) hc s pa pc gb true) := X0.out.below hb1
        have W1 : Hid (Below w.heap.size w w1) := hb1
        have B1 : Hid (Below w0.heap.size w0 w1) := B0.out.trans (hb1.mono B0.out.size)
        clear c0 c2 c3 c3f g1 g1f p0 p1 p2 p3 hb1
        obtain ⟨c0, _⟩ := blk_at X1.out.blk (i := 0) rfl
        obtain ⟨c3, c3f⟩ := blk_at X1.out.blk (i := 3) rfl
        cases ok with
        | false =>
          have F : Hid (growF H (d + 1) (k : Int) s = none) := grow_bad (by rw [ND.out]; unfold badN; rw [OK.out]; simp)
          go_wp2_with fail
          exact bodyPost_ret (v := .tuple #[]) (by simp [results, Tryz.results145, go_sem]) rfl (NO.out _ W1.out F.out)
        | true =>
          obtain ⟨p0, p1, p2, p3⟩ := CELL.out w1 B1.out
          go_wp2_with fail
          refine (l03Free _ D _ (hR.out.below B1.out)).mono ?_
          rw [FR.out]
          rintro e w2 ⟨rfl, hb2⟩
          have X2 : Hid (XM w2 w0.heap.size X (some ⟨hbk, hof, none⟩) hc s pa pc gb true) := X1.out.below hb2
          have W2 : Hid (Below w.heap.size w w2) := W1.out.trans (hb2.mono W1.out.size)
          have B2 : Hid (Below w0.heap.size w0 w2) := B1.out.trans (hb2.mono B1.out.size)
          clear c0 c3 c3f p0 p1 p2 p3 hb2 X1 W1 B1
          obtain ⟨c0, _⟩ := blk_at X2.out.blk (i := 0) rfl
          obtain ⟨c2, _⟩ := blk_at X2.out.blk (i := 2) rfl
          obtain ⟨c3, c3f⟩ := blk_at X2.out.blk (i := 3) rfl
          cases fr with
          | true =>
            have F : Hid (growF H (d + 1) (k : Int) s = none) := grow_bad (by rw [ND.out]; unfold badN; rw [FR.out]; rfl)
            go_wp2_with fail
            exact bodyPost_ret (v := .tuple #[]) (by simp [results, Tryz.results145, go_sem]) rfl (NO.out _ W2.out F.out)
          | false =>
            have BN : Hid (badN D = false) := by show badN D = false; unfold badN; rw [FR.out, OK.out]; rfl
            have hsz := ok_small BN.out
            have GI : Hid (growF H (d + 1) (k : Int) s = kidsF (growF H d) (leastM H d) D.K D.L ⟨s.R.set k true, s.P ++ D.P⟩) := by
              have h9 := grow_in (H := H) (d := d) (q := (k : Int)) (st := s) HPB.out (by simpa using HF.out) (by rw [ND.out]; exact BN.out)
              rw [ND.out] at h9
              have h10 : growF H (d + 1) (k : Int) s = kidsF (growF H d) (leastM H d) D.K D.L ⟨s.R.set k true, s.P ++ D.P⟩ := by simpa using h9
              exact h10
            have GS : Hid (goodS ⟨s.R.set k true, s.P ++ D.P⟩) := by
              have h9 := good_step (H := H) (q := (k : Int)) X0.out.good HPB.out (by simpa using HF.out) (by rw [ND.out]; exact BN.out)
              rw [ND.out] at h9
              have h10 : goodS ⟨s.R.set k true, s.P ++ D.P⟩ := by simpa using h9
              exact h10
            obtain ⟨g1, g1f⟩ := X2.out.page hk
            have X3 : Hid (XM (w2.setCell ⟨gb, k, none⟩ (.bool true)) w0.heap.size X (some ⟨hbk, hof, none⟩) hc ⟨s.R.set k true, s.P⟩ pa pc gb true) := X2.out.seen hk HF.out
            have B3 : Hid (Below w0.heap.size w0 (w2.setCell ⟨gb, k, none⟩ (.bool true))) := B2.out.setCell HX.out.2 _
            have K3 : Hid (KeptX [109, 4, 199] w (w2.setCell ⟨gb, k, none⟩ (.bool true))) := by
              obtain ⟨c, hk2⟩ : ∃ c, w2.heap[gb]? = some (Obj.cells c 4 (0, 0)) := by
                obtain ⟨_, ⟨hv, _⟩ | ⟨g, cap, cur, hv, _, hg, _⟩⟩ := X2.out.grow
                · cases hv
                · cases hv; exact ⟨cur, hg⟩
              exact (KeptX.of_below W2.out).trans (KeptX.setCell hk2 (by simp) _)
            obtain ⟨d0, _⟩ := blk_at X3.out.blk (i := 0) rfl
            obtain ⟨p0, p1, p2, p3⟩ := CELL.out _ B3.out
            obtain ⟨m1, hm1⟩ : ∃ n, D.P.length = n := ⟨_, rfl⟩
            obtain ⟨m2, hm2⟩ : ∃ n, D.L.length = n := ⟨_, rfl⟩
            obtain ⟨m3, hm3⟩ : ∃ n, D.K.length = n := ⟨_, rfl⟩
            have M1 : Hid (D.P.length = m1) := hm1
            have M2 : Hid (D.L.length = m2) := hm2
            have M3 : Hid (D.K.length = m3) := hm3
            have hm : m1 ≤ 3 ∧ m3 ≤ 4 ∧ m2 = m3 := by rw [← hm1, ← hm2, ← hm3]; exact ⟨hsz.1, hsz.2.1, hsz.2.2.1⟩
            obtain ⟨hm13, hm34, rfl⟩ := hm
            obtain ⟨s1, s2, s3⟩ : Src w0 a1 (cellsP D.P) ∧ Src w0 a2 (cellsS D.L) ∧ Src w0 a3 (cellsI D.K) := by
              obtain ⟨b1, d1, b2, d2, b3, d3, ev, s1, s2, s3⟩ := hR.out
              simp only [Value.agg.injEq, Array.mk.injEq, List.cons.injEq, Value.slice.injEq, and_true, true_and] at ev
              obtain ⟨⟨rfl, rfl⟩, ⟨rfl, rfl⟩, rfl, rfl⟩ := ev
              exact ⟨s1, s2, s3⟩
            have S1 : Hid (Src w0 a1 (cellsP D.P)) := s1
            have S2 : Hid (Src w0 a2 (cellsS D.L)) := s2
            have S3 : Hid (Src w0 a3 (cellsI D.K)) := s3
            rw [hm1] at p1
            rw [hm2] at p2
            rw [hm3] at p3
            have NB : Hid (((w2.setCell ⟨gb, k, none⟩ (.bool true)).alloc (.cells #[.bool D.A, .slice a1 m1 x1, .slice a2 m2 x2, .slice a3 m2 x3] 137)).heap[w2.heap.size]? = some (Obj.cells #[.bool D.A, .slice a1 m1 x1, .slice a2 m2 x2, .slice a3 m2 x3] 137 (0, 0))) := by
              have := blk_new (w2.setCell ⟨gb, k, none⟩ (.bool true)) #[.bool D.A, .slice a1 m1 x1, .slice a2 m2 x2, .slice a3 m2 x3] 137
              rw [World.size_setCell] at this
              exact this
            have X4 : Hid (XM ((w2.setCell ⟨gb, k, none⟩ (.bool true)).alloc (.cells #[.bool D.A, .slice a1 m1 x1, .slice a2 m2 x2, .slice a3 m2 x3] 137)) w0.heap.size X (some ⟨hbk, hof, none⟩) hc ⟨s.R.set k true, s.P⟩ pa pc gb true) := X3.out.below ((Below.refl _ _).alloc (Nat.le_refl _) _)
            have B4 : Hid (Below w0.heap.size w0 ((w2.setCell ⟨gb, k, none⟩ (.bool true)).alloc (.cells #[.bool D.A, .slice a1 m1 x1, .slice a2 m2 x2, .slice a3 m2 x3] 137))) := B3.out.alloc B3.out.size _
            obtain ⟨n1, _⟩ := blk_at NB.out (i := 1) rfl
            obtain ⟨c1, c1f⟩ := blk_at X4.out.blk (i := 1) rfl
            have hPl : s.P.length ≤ 150 := good_le X0.out.good
            have OP : Hid (((w2.setCell ⟨gb, k, none⟩ (.bool true)).alloc (.cells #[.bool D.A, .slice a1 m1 x1, .slice a2 m2 x2, .slice a3 m2 x3] 137)).ownsRow w0.heap.size 109 2 (.slice pa s.P.length pc) s.P.length (cellsP s.P)) := X4.out.prow
            obtain ⟨pn, hpn⟩ : ∃ n, s.P.length = n := ⟨_, rfl⟩
            have PN : Hid (s.P.length = pn) := hpn
            have xb := X4.out.blk
            have xb1 : ((w2.setCell ⟨gb, k, none⟩ (.bool true)).alloc (.cells #[.bool D.A, .slice a1 m1 x1, .slice a2 m2 x2, .slice a3 m2 x3] 137)).heap[X]? = some (Obj.cells #[.slice (some ⟨hbk, hof, none⟩) 50 hc, .slice pa pn pc, .slice (some ⟨gb, 0, none⟩) 50 50, .bool true] 199 (0, 0)) := by rw [← hpn]; exact xb
            have XB : Hid (((w2.setCell ⟨gb, k, none⟩ (.bool true)).alloc (.cells #[.bool D.A, .slice a1 m1 x1, .slice a2 m2 x2, .slice a3 m2 x3] 137)).heap[X]? = some (Obj.cells #[.slice (some ⟨hbk, hof, none⟩) 50 hc, .slice pa pn pc, .slice (some ⟨gb, 0, none⟩) 50 50, .bool true] 199 (0, 0))) := xb1
            change _ = some (Value.slice pa s.P.length pc) at c1
            rw [hpn] at c1 OP hPl
            have CP : Hid ((cellsP D.P).length = m1 * 2) := by show _ = _; rw [cellsP_length, M1.out]
            clear hsz hm1 hm2 hm3 s1 s2 s3 hpn hR xb xb1
            go_wp2_with fail
            go_region_law (refine step_append_any rfl (.tmp 83) (.tmp 85) 59 rfl w0.heap.size 109 (.agg #[.string ⟨#[]⟩, .string ⟨#[]⟩]) 2 32 Tryz.underlying59 infoP rfl (by decide) (by decide) (.slice pa pn pc) pn (cellsP s.P) (by simp [Act.eval]) OP.out a1 m1 x1 (cellsP D.P) (by simp [Act.eval]) CP.out (S1.out.below B4.out.drew) (cellsP_one _) (by omega) B4.out.size ?_; intro v5 w5 hown5 hgrow5; obtain ⟨pa5, pc5, rfl, _, _⟩ := own_src hown5; have hkb : w5.heap[X]? = some (Obj.cells #[.slice (some ⟨hbk, hof, none⟩) 50 hc, .slice pa pn pc, .slice (some ⟨gb, 0, none⟩) 50 50, .bool true] 199 (0, 0)) := (hgrow5.block X (Array.getElem?_eq_some_iff.1 XB.out).1 (fun e => own_notkind OP.out ⟨_, _, XB.out⟩ (by decide) e.symm)).trans XB.out; obtain ⟨e1, e1f⟩ := blk_at hkb (i := 1) rfl)
            all_goals
              have HPL : Hid (cellsP s.P ++ cellsP D.P = cellsP (s.P ++ D.P) ∧ (s.P ++ D.P).length = pn + m1) := ⟨(cellsP_append _ _).symm, by rw [List.length_append, PN.out, M1.out]⟩
              have X5 : Hid (XM (w5.setCell ⟨X, 1, none⟩ (.slice pa5 (pn + m1) pc5)) w0.heap.size X (some ⟨hbk, hof, none⟩) hc ⟨s.R.set k true, s.P ++ D.P⟩ pa5 pc5 gb true) := by
                refine ⟨?_, ?_, ?_, GS.out⟩
                · show _ = some (Obj.cells #[.slice (some ⟨hbk, hof, none⟩) 50 hc, .slice pa5 (s.P ++ D.P).length pc5, .slice (some ⟨gb, 0, none⟩) 50 50, .bool true] 199 (0, 0))
                  rw [HPL.out.2]
                  exact blk_set hkb 1 _
                · show World.ownsRow _ _ _ _ (.slice pa5 (s.P ++ D.P).length pc5) (s.P ++ D.P).length (cellsP (s.P ++ D.P))
                  rw [HPL.out.2, ← HPL.out.1]
                  exact own_setOther hown5 (own_notkind hown5 ⟨_, _, hkb⟩ (by decide)) _
                · have g5 := own_grown (w := ((w2.setCell ⟨gb, k, none⟩ (.bool true)).alloc (.cells #[.bool D.A, .slice a1 m1 x1, .slice a2 m2 x2, .slice a3 m2 x3] 137)).drew) X4.out.grow hgrow5 (fun b e e2 => own_ne X4.out.grow OP.out (by decide) b e e2)
                  exact own_setOther g5 (own_notkind g5 ⟨_, _, hkb⟩ (by decide)) _
              have B5 : Hid (Below w0.heap.size w0 (w5.setCell ⟨X, 1, none⟩ (.slice pa5 (pn + m1) pc5))) := (B4.out.drew.grown hgrow5 B4.out.size (fun g e => (OP.out.lt g e).1)).setCell HX.out.1 _
              have K5 : Hid (KeptX [109, 4, 199] ((w2.setCell ⟨gb, k, none⟩ (.bool true)).alloc (.cells #[.bool D.A, .slice a1 m1 x1, .slice a2 m2 x2, .slice a3 m2 x3] 137)) (w5.setCell ⟨X, 1, none⟩ (.slice pa5 (pn + m1) pc5))) := (KeptX.grown (w := ((w2.setCell ⟨gb, k, none⟩ (.bool true)).alloc (.cells #[.bool D.A, .slice a1 m1 x1, .slice a2 m2 x2, .slice a3 m2 x3] 137)).drew) OP.out (by simp) hgrow5).trans (KeptX.setCell hkb (by simp) _)
              have K6 : Hid (KeptX [109, 4, 199] w (w5.setCell ⟨X, 1, none⟩ (.slice pa5 (pn + m1) pc5))) := (K3.out.trans (KeptX.alloc _ _)).trans K5.out
              have N5 : Hid ((w5.setCell ⟨X, 1, none⟩ (.slice pa5 (pn + m1) pc5)).heap[w2.heap.size]? = some (Obj.cells #[.bool D.A, .slice a1 m1 x1, .slice a2 m2 x2, .slice a3 m2 x3] 137 (0, 0))) := K5.out _ _ _ NB.out (by simp)
              have Z5 : Hid (w.heap.size ≤ (w5.setCell ⟨X, 1, none⟩ (.slice pa5 (pn + m1) pc5)).heap.size) := by
                show _ ≤ _
                have h8 := W2.out.size
                have h9 := hgrow5.size
                rw [World.size_setCell]
                simp at h9
                omega
              obtain ⟨NBK, hNBK⟩ : ∃ b, w2.heap.size = b := ⟨_, rfl⟩
              rw [hNBK] at N5 ⊢
              clear hown5 hgrow5 hkb e1 e1f n1 c1 c1f X4 B4 X3 B3 K3 K5 NB OP XB CP c0 c2 c3 c3f d0 g1 g1f p0 p1 p2 p3 X2 W2 B2 hNBK HPL
              go_wp2_with fail
              go_loopw [7] (fun i wr => ∃ (j : Nat) (s' : St) (pa' : Option Addr) (pc' : Nat) (okj : Bool), j ≤ m2 ∧ i = .int .i64 j ∧ Hid (XM wr w0.heap.size X (some ⟨hbk, hof, none⟩) hc s' pa' pc' gb okj) ∧ Hid (Below w0.heap.size w0 wr) ∧ Hid (KeptX [109, 4, 199] w wr) ∧ Hid (w.heap.size ≤ wr.heap.size) ∧ Hid (wr.heap[NBK]? = some (Obj.cells #[.bool D.A, .slice a1 m1 x1, .slice a2 m2 x2, .slice a3 m2 x3] 137 (0, 0))) ∧ Hid (okj = true → kidsF (growF H d) (leastM H d) (D.K.drop j) (D.L.drop j) s' = growF H (d + 1) (k : Int) s) ∧ Hid (okj = false → growF H (d + 1) (k : Int) s = none)) (fun i _ => m2 - (intOf i).toNat)
              case atStart => exact ⟨0, _, _, _, true, by omega, rfl, X5, B5, K6, Z5, N5, fun _ => by rw [GI.out]; rfl, fun e => by cases e⟩
              case round =>
                obtain ⟨j, s', pa', pc', okj, hj, rfl, XR, Br, Kr, Zr, Nr, KF, KN⟩ := hrel
                clear X5 B5 K6 Z5 N5
                obtain ⟨f3, f3f⟩ := blk_at XR.out.blk (i := 3) rfl
                obtain ⟨n3, _⟩ := blk_at Nr.out (i := 3) rfl
                cases okj with
                | false =>
                  have F : Hid (growF H (d + 1) (k : Int) s = none) := KN.out rfl
                  clear KF KN
                  go_wp2_with fail
                  all_goals
                    go_end0
                    exact ⟨s', pa', pc', false, rfl, XR.out, Br.out, Kr.out, Zr.out, (fun e => by cases e), fun _ => F.out⟩
                | true =>
                  have KF1 : Hid (kidsF (growF H d) (leastM H d) (D.K.drop j) (D.L.drop j) s' = growF H (d + 1) (k : Int) s) := KF.out rfl
                  clear KF KN
                  by_cases hlt : j < m2
                  · obtain ⟨b3, o3, kq, e3, q3, hkq⟩ := srcI (S3.out.below Br.out) (i := j) (by rw [M3.out]; exact hlt)
                    obtain ⟨b2, o2, y, e2, q2, hy⟩ := srcS S2.out (i := j) (by rw [M2.out]; exact hlt)
                    subst e3 e2
                    have Q2 : Hid (w0.cell? ⟨b2, o2 + j, none⟩ = some (.string y)) := q2
                    have KD : Hid (kidsF (growF H d) (leastM H d) (D.K.drop j) (D.L.drop j) s' = kidsF (growF H d) (leastM H d) (kq :: D.K.drop (j + 1)) (y :: D.L.drop (j + 1)) s') := by
                      have := kids_dropS (g := growF H d) (l := leastM H d) (K := D.K) (L := D.L) (i := j) (by rw [M3.out]; exact hlt) (by rw [M2.out]; exact hlt) s'
                      rw [hkq.out, hy.out] at this
                      exact this
                    obtain ⟨f1, _⟩ := blk_at XR.out.blk (i := 1) rfl
                    obtain ⟨pq, hpq⟩ : ∃ n, s'.P.length = n := ⟨_, rfl⟩
                    have PQ : Hid (s'.P.length = pq) := hpq
                    change _ = some (Value.slice pa' s'.P.length pc') at f1
                    rw [hpq] at f1
                    have hpq150 : pq ≤ 150 := by rw [← hpq]; exact good_le XR.out.good
                    have hjn : (j : Int) < (m2 : Int) := by omega
                    clear q2 hpq
                    go_wp2_with fail
                    rw [show ((b : Int) + 1) = ((b + 1 : Nat) : Int) from by omega]
                    refine (IH.out d rfl kq (b + 1) s' pa' pc' _ HBD.out XR.out Br.out).mono ?_
                    rintro e w6 ⟨s6, pa6, pc6, ok6, rfl, x6, b6, k6, z6, hT, hF⟩
                    have XX6 : Hid (XM w6 w0.heap.size X (some ⟨hbk, hof, none⟩) hc s6 pa6 pc6 gb ok6) := x6
                    have BB6 : Hid (Below w0.heap.size w0 w6) := b6
                    have KK6 : Hid (KeptX [109, 4, 199] w w6) := Kr.out.trans k6
                    have ZZ6 : Hid (w.heap.size ≤ w6.heap.size) := Nat.le_trans Zr.out z6
                    have NN6 : Hid (w6.heap[NBK]? = some (Obj.cells #[.bool D.A, .slice a1 m1 x1, .slice (some ⟨b2, o2, none⟩) m2 x2, .slice (some ⟨b3, o3, none⟩) m2 x3] 137 (0, 0))) := k6 _ _ _ Nr.out (by simp)
                    have DONE : Hid (∀ okn : Bool, (okn = true → kidsF (growF H d) (leastM H d) (D.K.drop (j + 1)) (D.L.drop (j + 1)) s6 = growF H (d + 1) (k : Int) s) → (okn = false → growF H (d + 1) (k : Int) s = none) → ∃ (j' : Nat) (s' : St) (pa' : Option Addr) (pc' : Nat) (okj : Bool), j' ≤ m2 ∧ Value.int .i64 ((j : Int) + 1) = .int .i64 j' ∧ Hid (XM (w6.setCell ⟨X, 3, none⟩ (.bool okn)).drew w0.heap.size X (some ⟨hbk, hof, none⟩) hc s' pa' pc' gb okj) ∧ Hid (Below w0.heap.size w0 (w6.setCell ⟨X, 3, none⟩ (.bool okn)).drew) ∧ Hid (KeptX [109, 4, 199] w (w6.setCell ⟨X, 3, none⟩ (.bool okn)).drew) ∧ Hid (w.heap.size ≤ (w6.setCell ⟨X, 3, none⟩ (.bool okn)).drew.heap.size) ∧ Hid ((w6.setCell ⟨X, 3, none⟩ (.bool okn)).drew.heap[NBK]? = some (Obj.cells #[.bool D.A, .slice a1 m1 x1, .slice (some ⟨b2, o2, none⟩) m2 x2, .slice (some ⟨b3, o3, none⟩) m2 x3] 137 (0, 0))) ∧ Hid (okj = true → kidsF (growF H d) (leastM H d) (D.K.drop j') (D.L.drop j') s' = growF H (d + 1) (k : Int) s) ∧ Hid (okj = false → growF H (d + 1) (k : Int) s = none)) := fun okn h1 h2 =>
                      ⟨j + 1, s6, pa6, pc6, okn, by omega, by go_num, (XX6.out.setOk okn).below (Below.refl _ _).drew, (BB6.out.setCell HX.out.1 _).drew, KK6.out.trans (KeptX.setCell XX6.out.blk (by simp) _), by show w.heap.size ≤ (w6.setCell ⟨X, 3, none⟩ (.bool okn)).heap.size; rw [World.size_setCell]; exact ZZ6.out, blk_other NN6.out _ (fun e => by
                        have e' : NBK = X := e
                        have h9 := NN6.out
                        rw [e', XX6.out.blk] at h9
                        cases h9) _, h1, h2⟩
                    obtain ⟨f4, f4f⟩ := blk_at x6.blk (i := 3) rfl
                    clear b6 k6 z6 XR Br Kr Zr Nr q3 f1 f3 f3f n3
                    cases ok6 with
                    | false =>
                      have F : Hid (growF H (d + 1) (k : Int) s = none) := by show _ = _; rw [← KF1.out, KD.out, kids_none (hF rfl)]
                      clear hT hF x6
                      go_wp2_with fail
                      go_region
                      all_goals go_wp2_with fail
                      all_goals exact ⟨DONE.out false (fun e => by cases e) (fun _ => F.out), by simp [intOf]; omega⟩
                    | true =>
                      have SO : Hid (growF H d kq s' = some s6) := hT rfl
                      obtain ⟨E, e1, e2, e3⟩ := grow_ext d kq s' s6 SO.out
                      have hl6 : pq < s6.P.length := by
                        rw [e1, List.length_append, PQ.out]
                        cases E with
                        | nil => exact absurd rfl e2
                        | cons z E => simp
                      obtain ⟨a6, c6, ea, psrc, _⟩ := own_src x6.prow
                      cases ea
                      obtain ⟨pb, po, x, yv, rfl, c1, c2, hx⟩ := srcP psrc (i := pq) hl6
                      have LX : Hid (leastM H d kq = x) := by
                        show _ = x
                        rw [← e3]
                        have h9 := hx.out
                        rw [e1, List.getD_eq_getElem?_getD, List.getElem?_append_right (by rw [PQ.out]; exact Nat.le_refl _), PQ.out, Nat.sub_self, ← List.getD_eq_getElem?_getD] at h9
                        rw [h9]
                      obtain ⟨f5, _⟩ := blk_at x6.blk (i := 1) rfl
                      obtain ⟨n6, hn6⟩ : ∃ n, s6.P.length = n := ⟨_, rfl⟩
                      change _ = some (Value.slice (some ⟨pb, po, none⟩) s6.P.length pc6) at f5
                      rw [hn6] at f5 hl6
                      have hl7 : (pq : Int) < (n6 : Int) := by omega
                      have hpq0 : (0 : Int) ≤ (pq : Int) := by omega
                      have hj0 : (0 : Int) ≤ (j : Int) := by omega
                      obtain ⟨n5, _⟩ := blk_at NN6.out (i := 2) rfl
                      have yc : w6.cell? ⟨b2, o2 + j, none⟩ = some (.string y) := (BB6.out.cell (p := ⟨b2, o2 + j, none⟩) (World.block_lt_of_cell? _ _ Q2.out)).trans Q2.out
                      clear hT hF x6 e1 e2 e3 psrc hx hn6 c2
                      by_cases hxy : x = y
                      · subst hxy
                        have KN1 : Hid (kidsF (growF H d) (leastM H d) (D.K.drop (j + 1)) (D.L.drop (j + 1)) s6 = growF H (d + 1) (k : Int) s) := by show _ = _; rw [← KF1.out, KD.out, kids_cons SO.out LX.out]
                        have hcmp : (x.toList == x.toList) = true := by simp
                        go_wp2_with fail
                        go_region
                        all_goals go_wp2_with fail
                        all_goals exact ⟨DONE.out true (fun _ => KN1.out) (fun e => by cases e), by simp [intOf]; omega⟩
                      · have F : Hid (growF H (d + 1) (k : Int) s = none) := by show _ = _; rw [← KF1.out, KD.out, kids_less SO.out (by rw [LX.out]; exact hxy)]
                        have hcmp : (x.toList == y.toList) = false := texts_neS hxy
                        clear hxy
                        go_wp2_with fail
                        go_region
                        all_goals go_wp2_with fail
                        all_goals exact ⟨DONE.out false (fun e => by cases e) (fun _ => F.out), by simp [intOf]; omega⟩
                  · have F : Hid (growF H (d + 1) (k : Int) s = some s') := by
                      show _ = _
                      rw [← KF1.out, List.drop_of_length_le (by rw [M3.out]; omega), kidsF]
                      simp
                    go_wp2_with fail
                    go_end0
                    exact ⟨s', pa', pc', true, rfl, XR.out, Br.out, Kr.out, Zr.out, fun _ => F.out, fun e => by cases e⟩
end Go.Proofs.YtnnimocaanofjaaGreatDoor
