/-
  Texts of the store, brought together: Tr1. By an AI agent.
-/
import Derived.Test.YtnnimocaanofjaaGreatDoorSq09
import Derived.Lib.Strings
namespace Go.Proofs.YtnnimocaanofjaaGreatDoor
open Go.ChangeShapes Go.WideShapes Go.ChangeAt Go.RowKit Go.Deep
set_option linter.unusedVariables false
set_option linter.unusedSimpArgs false
set_option maxRecDepth 100000
def tarr (ha : Option Addr) (hc : Nat) (top : Value) (R : List Bool) (pv : Value) : Array Value := (Value.slice ha 50 hc :: top :: (R.map Value.bool ++ [pv])).toArray
section
variable {ha : Option Addr} {hc : Nat} {top pv : Value} {R : List Bool}
theorem tarr_0 : (tarr ha hc top R pv)[0]? = some (.slice ha 50 hc) := rfl
theorem tarr_R {k : Nat} (h : k < R.length) : (tarr ha hc top R pv)[2 + k]? = some (.bool (R.getD k false)) := by
  unfold tarr
  rw [List.getElem?_toArray, Nat.add_comm, List.getElem?_cons_succ, List.getElem?_cons_succ, List.getElem?_append_left (by simpa using h), List.getElem?_map, List.getElem?_eq_getElem h]
  simp [h]
theorem tarr_P (h : R.length = 50) : (tarr ha hc top R pv)[52]? = some pv := by
  unfold tarr
  rw [List.getElem?_toArray, List.getElem?_cons_succ, List.getElem?_cons_succ, List.getElem?_append_right (by simp [h])]
  simp [h]
theorem tarr_setR (k : Nat) (b : Bool) (h : k < R.length) : (tarr ha hc top R pv).setIfInBounds (2 + k) (.bool b) = tarr ha hc top (R.set k b) pv := by
  unfold tarr
  rw [List.setIfInBounds_toArray, Nat.add_comm, List.set_cons_succ, List.set_cons_succ, List.set_append_left _ _ (by simpa using h), List.map_set]
theorem tarr_setP (v : Value) (h : R.length = 50) : (tarr ha hc top R pv).setIfInBounds 52 v = tarr ha hc top R v := by
  unfold tarr
  rw [List.setIfInBounds_toArray, List.set_cons_succ, List.set_cons_succ, List.set_append_right _ _ (by simp [h])]
  simp [h]
theorem tarr_setT (v : Value) : (tarr ha hc top R pv).setIfInBounds 1 v = tarr ha hc v R pv := by
  unfold tarr
  rw [List.setIfInBounds_toArray]
  rfl
end
structure TM (w : World) (base T : Nat) (ha : Option Addr) (hc : Nat) (top : Value) (s : St) (pv : Value) : Prop where
  blk : w.heap[T]? = some (.cells (tarr ha hc top s.R pv) 164 (0, 0))
  row : w.ownsRow base 109 2 pv s.P.length (cellsP s.P)
  good : goodS s
theorem TM.below {w w' : World} {base T : Nat} {ha : Option Addr} {hc : Nat} {top : Value} {s : St} {pv : Value} (h : TM w base T ha hc top s pv) (hb : Below w.heap.size w w') : TM w' base T ha hc top s pv :=
  ⟨by rw [hb.block T (Array.getElem?_eq_some_iff.1 h.blk).1]; exact h.blk, own_below h.row hb, h.good⟩
theorem TM.seen {w : World} {base T k : Nat} {ha : Option Addr} {hc : Nat} {top : Value} {s : St} {pv : Value} (h : TM w base T ha hc top s pv) (hk : k < 50) (hf : s.R.getD k false = false) : TM (w.setCell ⟨T, 2 + k, none⟩ (.bool true)) base T ha hc top ⟨s.R.set k true, s.P⟩ pv := by
  have hl := h.good.1
  refine ⟨?_, own_setOther h.row (own_notkind h.row ⟨_, _, h.blk⟩ (by decide)) _, ?_⟩
  · rw [blk_set h.blk, tarr_setR k true (by omega)]
  · have hc := cnt_set s.R k (by omega) hf
    refine ⟨by show (s.R.set k true).length = 50; rw [List.length_set]; exact hl, ?_⟩
    show s.P.length ≤ 3 * cnt (s.R.set k true)
    have := h.good.2
    omega
theorem kids_drop {g : Int → St → Option St} {l : Int → ByteArray} {K : List Int} {L : List ByteArray} {i : Nat} (hK : i < K.length) (hL : i < L.length) (s : St) : kidsF g l (K.drop i) (L.drop i) s = kidsF g l (K.getD i 0 :: K.drop (i + 1)) (L.getD i e0 :: L.drop (i + 1)) s := by
  rw [List.drop_eq_getElem_cons hK, List.drop_eq_getElem_cons hL]
  congr 2
  · rw [List.getD_eq_getElem?_getD, List.getElem?_eq_getElem hK]; rfl
  · rw [List.getD_eq_getElem?_getD, List.getElem?_eq_getElem hL]; rfl
theorem infoTw : (Tryz.prog.info? 162).map (fun i => (i.zero, i.size, i.bytes)) = some (some (.pointer none), 1, 8) := by kernel_rfl
theorem texts_ne {x y : ByteArray} (h : ¬ x = y) : (x.toList == y.toList) = false := by
  cases e : (x.toList == y.toList) with
  | false => rfl
  | true =>
    have h1 := eq_of_beq e
    rw [Lib.toList_data, Lib.toList_data] at h1
    exact absurd (bytes_inj h1) h
theorem getD_left (gs : List Nat) (g i : Nat) (h : i < gs.length) : (gs ++ [g]).getD i 0 = gs.getD i 0 := by
  rw [List.getD_eq_getElem?_getD, List.getD_eq_getElem?_getD, List.getElem?_append_left h]
theorem getD_last (gs : List Nat) (g i : Nat) (h : gs.length = i) : (gs ++ [g]).getD i 0 = g := by
  subst h; rw [List.getD_eq_getElem?_getD]; simp
def GrowPost (H : List NM) (w0 : World) (base T : Nat) (ha : Option Addr) (hc : Nat) (top : Value) (d : Nat) (q : Int) (s : St) (w : World) (e : Ending) (w' : World) : Prop :=
  ∃ s' pv', TM w' base T ha hc top s' pv' ∧ Below base w0 w' ∧ KeptX [109, 164] w w' ∧ w.heap.size ≤ w'.heap.size ∧
    ((growF H d q s = none ∧ e = .returned (.tuple #[.pointer none, .bool false])) ∨ (growF H d q s = some s' ∧ ∃ g, e = .returned (.tuple #[.pointer (some ⟨g, 0, none⟩), .bool true]) ∧ TwAt H w0 w.heap.size w'.heap.size d w' g q))
def GrowAll (H : List NM) (w0 : World) (base T : Nat) (ha : Option Addr) (hc : Nat) (top : Value) (d : Nat) : Prop :=
  ∀ (q : Int) (b : Nat) (s : St) (pv : Value) (w : World), b + d = 21 → TM w base T ha hc top s pv → Below base w0 w →
    Calls Tryz.prog 146 #[.pointer (some ⟨T, 0, none⟩), .int .i64 q, .int .i64 (b : Int)] w fun e w' => GrowPost H w0 base T ha hc top d q s w e w'
set_option maxHeartbeats 4000000 in
theorem growStep {H : List NM} {w0 : World} {base T hc : Nat} {ha : Option Addr} {top : Value} (hb0 : base = w0.heap.size) (hH : ReadsHL w0 ha H) (hlen : H.length = 50) (hsm : ∀ D ∈ H, smallN D) (hT : base ≤ T) (d : Nat) (ih : GrowAll H w0 base T ha hc top d) : GrowAll H w0 base T ha hc top (d + 1) := by
  subst hb0
  intro q b s pv w hbd tm hB
  have HH : Hid (ReadsHL w0 ha H) := hH
  have HN : Hid (H.length = 50) := hlen
  have HS : Hid (∀ D ∈ H, smallN D) := hsm
  have HT : Hid (w0.heap.size ≤ T) := hT
  have IH : Hid (GrowAll H w0 w0.heap.size T ha hc top d) := ih
  have TM0 : Hid (TM w w0.heap.size T ha hc top s pv) := tm
  have B0 : Hid (Below w0.heap.size w0 w) := hB
  have hb20 : (b : Int) ≤ 20 := by omega
  have HBD : Hid (b + 1 + d = 21) := by show b + 1 + d = 21; omega
  have P0 : Hid (growF H (d + 1) q s = none → GrowPost H w0 w0.heap.size T ha hc top (d + 1) q s w (.returned (.tuple #[.pointer none, .bool false])) w) := fun F => ⟨s, pv, tm, hB, KeptX.refl _ _, Nat.le_refl _, .inl ⟨F, rfl⟩⟩
  clear hH hlen hsm hT ih hbd
  cases hp : pageB q with
  | false =>
    have HP : Hid (pageB q = false) := hp
    clear hp tm hB
    go_enter Tryz.func146, Tryz.ntmps146
    go_wp2_with (go_at_call 162; refine (isPageIs false _ _ HP.out).mono ?_; rintro e w1 ⟨rfl, rfl⟩)
    go_ret2
    exact P0.out (grow_page HP.out)
  | true =>
    have HP : Hid (pageB q = true) := hp
    obtain ⟨hq0, hq1⟩ := page_nat hp
    obtain ⟨k, rfl⟩ : ∃ k : Nat, q = (k : Int) := ⟨q.toNat, by omega⟩
    have hk : k < 50 := by simpa using hq1
    obtain ⟨bb, hbb⟩ : ∃ bb, s.R.getD k false = bb := ⟨_, rfl⟩
    obtain ⟨c1, c1f⟩ := blk_at tm.blk (tarr_R (k := k) (by rw [tm.good.1]; exact hk))
    rw [hbb] at c1
    have HF : Hid (s.R.getD k false = bb) := hbb
    clear hp tm hB hbb hq0 hq1
    have hki : (k : Int) < 50 := by omega
    cases bb with
    | true =>
      go_enter Tryz.func146, Tryz.ntmps146
      go_wp2_with (go_at_call 162; refine (isPageIs true _ _ HP.out).mono ?_; rintro e w1 ⟨rfl, rfl⟩)
      go_ret2
      exact P0.out (grow_seen (by simpa using HF.out))
    | false =>
      have TM1 : Hid (TM (w.setCell ⟨T, 2 + k, none⟩ (.bool true)) w0.heap.size T ha hc top ⟨s.R.set k true, s.P⟩ pv) := TM0.out.seen hk HF.out
      have B1 : Hid (Below w0.heap.size w0 (w.setCell ⟨T, 2 + k, none⟩ (.bool true))) := B0.out.setCell HT.out _
      have K1 : Hid (KeptX [109, 164] w (w.setCell ⟨T, 2 + k, none⟩ (.bool true))) := KeptX.setCell TM0.out.blk (by simp) _
      obtain ⟨hbk, hof, D, a1, x1, a2, x2, a3, x3, rfl, r0, r1, r2, r3, hD, hR⟩ := srcN HH.out (i := k) (by rw [HN.out]; exact hk)
      have p0 := (B1.out.cell (p := ⟨hbk, hof + k * 4, none⟩) (World.block_lt_of_cell? _ _ r0)).trans r0
      have p1 := (B1.out.cell (p := ⟨hbk, hof + k * 4 + 1, none⟩) (World.block_lt_of_cell? _ _ r1)).trans r1
      have p2 := (B1.out.cell (p := ⟨hbk, hof + k * 4 + 2, none⟩) (World.block_lt_of_cell? _ _ r2)).trans r2
      have p3 := (B1.out.cell (p := ⟨hbk, hof + k * 4 + 3, none⟩) (World.block_lt_of_cell? _ _ r3)).trans r3
      clear r0 r1 r2 r3
      have ND : Hid (nd H (k : Int) = D) := by show nd H (k : Int) = D; unfold nd; rw [Int.toNat_natCast]; exact hD.out
      have SD : Hid (smallN D) := by show smallN D; rw [← hD.out]; exact HS.out _ (getD_memH H k (by rw [HN.out]; exact hk))
      obtain ⟨c2, _⟩ := blk_at TM1.out.blk tarr_0
      obtain ⟨fr, hfr⟩ : ∃ fr, freeB D = fr := ⟨_, rfl⟩
      obtain ⟨ok, hok⟩ : ∃ ok, okB D = ok := ⟨_, rfl⟩
      have FR : Hid (freeB D = fr) := hfr
      have OK : Hid (okB D = ok) := hok
      clear hfr hok hD
      go_enter Tryz.func146, Tryz.ntmps146
      go_wp2_with (go_at_call 162; refine (isPageIs true _ _ HP.out).mono ?_; rintro e w1 ⟨rfl, rfl⟩)
      refine (nodeFree _ D _ (hR.out.below (B1.out.alloc B1.out.size _))).mono ?_
      rw [FR.out]
      rintro e w2 ⟨rfl, hb2⟩
      have TM2 : Hid (TM w2 w0.heap.size T (some ⟨hbk, hof, none⟩) hc top ⟨s.R.set k true, s.P⟩ pv) := TM1.out.below (Below.new hb2)
      have B2 : Hid (Below w0.heap.size w0 w2) := B1.out.trans ((Below.new hb2).mono B1.out.size)
      have K2 : Hid (KeptX [109, 164] w w2) := K1.out.trans (KeptX.of_below (Below.new hb2))
      have Z2 : Hid (w.heap.size + 1 ≤ w2.heap.size) := by have := size_new hb2; show w.heap.size + 1 ≤ w2.heap.size; simpa using this
      have NB2 : Hid (w2.heap[w.heap.size]? = some (Obj.cells #[.bool D.A, .slice a1 D.P.length x1, .slice a2 D.L.length x2, .slice a3 D.K.length x3] 137 (0, 0))) := by
        show _ = _
        rw [hb2.block _ (by simp)]
        have := blk_new (w.setCell ⟨T, 2 + k, none⟩ (.bool true)) #[.bool D.A, .slice a1 D.P.length x1, .slice a2 D.L.length x2, .slice a3 D.K.length x3] 137
        simpa using this
      have R2 : Hid (ReadsN w2 (.agg #[.bool D.A, .slice a1 D.P.length x1, .slice a2 D.L.length x2, .slice a3 D.K.length x3]) D) := hR.out.below B2.out
      clear hb2 p0 p1 p2 p3 c1 c1f c2 TM1 B1 K1
      cases fr with
      | true =>
        have F : Hid (growF H (d + 1) (k : Int) s = none) := grow_bad (by rw [ND.out]; unfold badN; rw [FR.out]; rfl)
        go_wp2_with fail
        go_ret2
        exact ⟨_, _, TM2.out, B2.out, K2.out, by have := Z2.out; omega, .inl ⟨F.out, rfl⟩⟩
      | false =>
        obtain ⟨n0, _⟩ := blk_at NB2.out (i := 0) rfl
        obtain ⟨n1, _⟩ := blk_at NB2.out (i := 1) rfl
        obtain ⟨n2, _⟩ := blk_at NB2.out (i := 2) rfl
        obtain ⟨n3, _⟩ := blk_at NB2.out (i := 3) rfl
        go_wp2_with fail
        refine (implNodeOK _ D _ SD.out R2.out).mono ?_
        rw [OK.out]
        rintro e w3 ⟨rfl, hb3⟩
        have TM3 : Hid (TM w3 w0.heap.size T (some ⟨hbk, hof, none⟩) hc top ⟨s.R.set k true, s.P⟩ pv) := TM2.out.below hb3
        have B3 : Hid (Below w0.heap.size w0 w3) := B2.out.trans (hb3.mono B2.out.size)
        have K3 : Hid (KeptX [109, 164] w w3) := K2.out.trans (KeptX.of_below hb3)
        have Z3 : Hid (w.heap.size + 1 ≤ w3.heap.size) := Nat.le_trans Z2.out hb3.size
        have NB3 : Hid (w3.heap[w.heap.size]? = some (Obj.cells #[.bool D.A, .slice a1 D.P.length x1, .slice a2 D.L.length x2, .slice a3 D.K.length x3] 137 (0, 0))) := by
          show _ = _
          rw [hb3.block _ (by have := Z2.out; omega)]
          exact NB2.out
        have R3 : Hid (ReadsN w3 (.agg #[.bool D.A, .slice a1 D.P.length x1, .slice a2 D.L.length x2, .slice a3 D.K.length x3]) D) := R2.out.below hb3
        clear hb3 n0 n1 n2 n3 TM2 B2 K2 Z2 NB2 R2
        cases ok with
        | false =>
          have F : Hid (growF H (d + 1) (k : Int) s = none) := grow_bad (by rw [ND.out]; unfold badN; rw [FR.out, OK.out]; rfl)
          go_wp2_with fail
          go_ret2
          exact ⟨_, _, TM3.out, B3.out, K3.out, by have := Z3.out; omega, .inl ⟨F.out, rfl⟩⟩
        | true =>
          have BN : Hid (badN D = false) := by show badN D = false; unfold badN; rw [FR.out, OK.out]; rfl
          have hsz := ok_small BN.out
          have GI : Hid (growF H (d + 1) (k : Int) s = kidsF (growF H d) (leastM H d) D.K D.L ⟨s.R.set k true, s.P ++ D.P⟩) := by
            have h9 := grow_in (H := H) (d := d) (q := (k : Int)) (st := s) HP.out (by simpa using HF.out) (by rw [ND.out]; exact BN.out)
            rw [ND.out] at h9
            have h10 : growF H (d + 1) (k : Int) s = kidsF (growF H d) (leastM H d) D.K D.L ⟨s.R.set k true, s.P ++ D.P⟩ := by simpa using h9
            exact h10
          have GS : Hid (goodS ⟨s.R.set k true, s.P ++ D.P⟩) := by
            have h9 := good_step (H := H) (q := (k : Int)) TM0.out.good HP.out (by simpa using HF.out) (by rw [ND.out]; exact BN.out)
            rw [ND.out] at h9
            have h10 : goodS ⟨s.R.set k true, s.P ++ D.P⟩ := by simpa using h9
            exact h10
          obtain ⟨m1, hm1⟩ : ∃ n, D.P.length = n := ⟨_, rfl⟩
          obtain ⟨m2, hm2⟩ : ∃ n, D.L.length = n := ⟨_, rfl⟩
          obtain ⟨m3, hm3⟩ : ∃ n, D.K.length = n := ⟨_, rfl⟩
          have M1 : Hid (D.P.length = m1) := hm1
          have M2 : Hid (D.L.length = m2) := hm2
          have M3 : Hid (D.K.length = m3) := hm3
          have hm : m1 ≤ 3 ∧ m3 ≤ 4 ∧ m2 = m3 := by rw [← hm1, ← hm2, ← hm3]; exact ⟨hsz.1, hsz.2.1, hsz.2.2.1⟩
          obtain ⟨hm13, hm34, rfl⟩ := hm
          obtain ⟨s1, s2, s3⟩ : Src w0 a1 (cellsP D.P) ∧ Src w0 a2 (cellsS D.L) ∧ Src w0 a3 (cellsI D.K) := by
            obtain ⟨b1, d1, b2, d2, b3, d3, ev, s1, s2, s3⟩ := hR.out
            simp only [Value.agg.injEq, Array.mk.injEq, List.cons.injEq, Value.slice.injEq, and_true, true_and] at ev
            obtain ⟨⟨rfl, rfl⟩, ⟨rfl, rfl⟩, rfl, rfl⟩ := ev
            exact ⟨s1, s2, s3⟩
          have S1 : Hid (Src w0 a1 (cellsP D.P)) := s1
          have S2 : Hid (Src w0 a2 (cellsS D.L)) := s2
          have S3 : Hid (Src w0 a3 (cellsI D.K)) := s3
          have nb := NB3.out
          rw [hm1, hm2, hm3] at nb
          have NB : Hid (w3.heap[w.heap.size]? = some (Obj.cells #[.bool D.A, .slice a1 m1 x1, .slice a2 m2 x2, .slice a3 m2 x3] 137 (0, 0))) := nb
          obtain ⟨n1, _⟩ := blk_at NB.out (i := 1) rfl
          obtain ⟨c3, c3f⟩ := blk_at TM3.out.blk (tarr_P TM3.out.good.1)
          have hPl : s.P.length ≤ 150 := good_le TM0.out.good
          have OP : Hid (w3.ownsRow w0.heap.size 109 2 pv s.P.length (cellsP s.P)) := TM3.out.row
          obtain ⟨pa, pc, rfl, _, _⟩ := own_src OP.out
          obtain ⟨pn, hpn⟩ : ∃ n, s.P.length = n := ⟨_, rfl⟩
          have PN : Hid (s.P.length = pn) := hpn
          rw [hpn] at c3 OP hPl
          have CP : Hid ((cellsP D.P).length = m1 * 2) := by show _ = _; rw [cellsP_length, M1.out]
          clear hsz hm1 hm2 hm3 s1 s2 s3 nb NB3 hpn R3 hR
          go_wp2_with fail
          go_region_law (refine step_append_any rfl (.tmp 52) (.tmp 54) 59 rfl w0.heap.size 109 (.agg #[.string ⟨#[]⟩, .string ⟨#[]⟩]) 2 32 Tryz.underlying59 infoP rfl (by decide) (by decide) (.slice pa pn pc) pn (cellsP s.P) (by simp [Act.eval]) OP.out a1 m1 x1 (cellsP D.P) (by simp [Act.eval]) CP.out (S1.out.below B3.out.drew) (cellsP_one _) (by omega) B3.out.size ?_; intro v4 w4 hown4 hgrow4; obtain ⟨pa4, pc4, rfl, _, _⟩ := own_src hown4; have hkb : w4.heap[T]? = some (Obj.cells (tarr (some ⟨hbk, hof, none⟩) hc top (s.R.set k true) (.slice pa pn pc)) 164 (0, 0)) := (hgrow4.block T (Array.getElem?_eq_some_iff.1 TM3.out.blk).1 (fun e => own_notkind OP.out ⟨_, _, TM3.out.blk⟩ (by decide) e.symm)).trans (by rw [← PN.out] at *; exact TM3.out.blk); obtain ⟨c4, c4f⟩ := blk_at hkb (tarr_P TM3.out.good.1))
          all_goals
            have HPL : Hid (cellsP s.P ++ cellsP D.P = cellsP (s.P ++ D.P) ∧ (s.P ++ D.P).length = pn + m1) := ⟨(cellsP_append _ _).symm, by rw [List.length_append, PN.out, M1.out]⟩
            have TM5 : Hid (TM (w4.setCell ⟨T, 52, none⟩ (.slice pa4 (pn + m1) pc4)) w0.heap.size T (some ⟨hbk, hof, none⟩) hc top ⟨s.R.set k true, s.P ++ D.P⟩ (.slice pa4 (pn + m1) pc4)) := by
              refine ⟨?_, ?_, GS.out⟩
              · rw [blk_set hkb, tarr_setP _ GS.out.1]
              · show World.ownsRow _ _ _ _ _ (s.P ++ D.P).length (cellsP (s.P ++ D.P))
                rw [HPL.out.2, ← HPL.out.1]
                exact own_setOther hown4 (own_notkind hown4 ⟨_, _, hkb⟩ (by decide)) _
            have B4 : Hid (Below w0.heap.size w0 w4) := B3.out.drew.grown hgrow4 B3.out.size (fun g e => (OP.out.lt g e).1)
            have B5 : Hid (Below w0.heap.size w0 (w4.setCell ⟨T, 52, none⟩ (.slice pa4 (pn + m1) pc4))) := B4.out.setCell HT.out _
            have K4 : Hid (KeptX [109, 164] w3 w4) := KeptX.grown (w := w3.drew) OP.out (by simp) hgrow4
            have K5 : Hid (KeptX [109, 164] w3 (w4.setCell ⟨T, 52, none⟩ (.slice pa4 (pn + m1) pc4))) := K4.out.trans (KeptX.setCell hkb (by simp) _)
            have Z5 : Hid (w.heap.size + 1 ≤ (w4.setCell ⟨T, 52, none⟩ (.slice pa4 (pn + m1) pc4)).heap.size) := by
              show _ ≤ _
              have h9 : w3.heap.size ≤ w4.heap.size := hgrow4.size
              have := Z3.out
              rw [World.size_setCell]
              omega
            have NB5 : Hid ((w4.setCell ⟨T, 52, none⟩ (.slice pa4 (pn + m1) pc4)).heap[w.heap.size]? = some (Obj.cells #[.bool D.A, .slice a1 m1 x1, .slice a2 m2 x2, .slice a3 m2 x3] 137 (0, 0))) := K5.out _ _ _ NB.out (by simp)
            obtain ⟨n5, _⟩ := blk_at NB5.out (i := 1) rfl
            obtain ⟨n6, _⟩ := blk_at (blk_old NB5.out (.cells #[.int .i64 (k : Int), .slice a1 m1 x1, .slice none 0 0] 216)) (i := 3) rfl
            clear hown4 hgrow4 hkb c4 c4f n1 c3 c3f TM3
            go_wp2_with fail
          all_goals
            have TM6 : Hid (TM ((w4.setCell ⟨T, 52, none⟩ (.slice pa4 (pn + m1) pc4)).alloc (.cells #[.int .i64 (k : Int), .slice a1 m1 x1, .slice none 0 0] 216)) w0.heap.size T (some ⟨hbk, hof, none⟩) hc top ⟨s.R.set k true, s.P ++ D.P⟩ (.slice pa4 (pn + m1) pc4)) := TM5.out.below ((Below.refl _ _).alloc (Nat.le_refl _) _)
            have B6 : Hid (Below w0.heap.size w0 ((w4.setCell ⟨T, 52, none⟩ (.slice pa4 (pn + m1) pc4)).alloc (.cells #[.int .i64 (k : Int), .slice a1 m1 x1, .slice none 0 0] 216))) := B5.out.alloc B5.out.size _
            have K6 : Hid (KeptX [109, 164] w ((w4.setCell ⟨T, 52, none⟩ (.slice pa4 (pn + m1) pc4)).alloc (.cells #[.int .i64 (k : Int), .slice a1 m1 x1, .slice none 0 0] 216))) := (K3.out.trans K5.out).trans (KeptX.alloc _ _)
            have Z6 : Hid (w.heap.size + 1 ≤ ((w4.setCell ⟨T, 52, none⟩ (.slice pa4 (pn + m1) pc4)).alloc (.cells #[.int .i64 (k : Int), .slice a1 m1 x1, .slice none 0 0] 216)).heap.size) := by show _ ≤ _; have := Z5.out; rw [World.size_alloc]; omega
            have NB6 : Hid (((w4.setCell ⟨T, 52, none⟩ (.slice pa4 (pn + m1) pc4)).alloc (.cells #[.int .i64 (k : Int), .slice a1 m1 x1, .slice none 0 0] 216)).heap[w.heap.size]? = some (Obj.cells #[.bool D.A, .slice a1 m1 x1, .slice a2 m2 x2, .slice a3 m2 x3] 137 (0, 0))) := blk_old NB5.out _
            have G6 : Hid (((w4.setCell ⟨T, 52, none⟩ (.slice pa4 (pn + m1) pc4)).alloc (.cells #[.int .i64 (k : Int), .slice a1 m1 x1, .slice none 0 0] 216)).heap[w4.heap.size]? = some (Obj.cells #[.int .i64 (k : Int), .slice a1 m1 x1, .slice none 0 0] 216 (0, 0))) := by
              have := blk_new (w4.setCell ⟨T, 52, none⟩ (.slice pa4 (pn + m1) pc4)) #[.int .i64 (k : Int), .slice a1 m1 x1, .slice none 0 0] 216
              rw [World.size_setCell] at this
              exact this
            have ZG : Hid (w.heap.size + 1 ≤ w4.heap.size) := by show _ ≤ _; have := Z5.out; rw [World.size_setCell] at this; exact this
            clear TM5 B5 K5 Z5 NB5 n5 n6 B4 K4 K3 B3 Z3 NB OP CP
            obtain ⟨GB, hGB⟩ : ∃ GB, w4.heap.size = GB := ⟨_, rfl⟩
            have Z7 : Hid (w.heap.size + 1 ≤ GB ∧ GB + 1 ≤ ((w4.setCell ⟨T, 52, none⟩ (.slice pa4 (pn + m1) pc4)).alloc (.cells #[.int .i64 (k : Int), .slice a1 m1 x1, .slice none 0 0] 216)).heap.size) := by rw [← hGB]; exact ⟨ZG.out, by rw [World.size_alloc, World.size_setCell]; exact Nat.le_refl _⟩
            rw [hGB] at G6 ⊢
            clear hGB ZG
            go_loopw [66] (fun i wr => ∃ (j : Nat) (s' : St) (pv' : Value) (gs : List Nat) (ka : Option Addr) (kc : Nat), j ≤ m2 ∧ i = .int .i64 j ∧ Hid (TM wr w0.heap.size T (some ⟨hbk, hof, none⟩) hc top s' pv') ∧ Hid (Below w0.heap.size w0 wr) ∧ Hid (KeptX [109, 164] w wr) ∧ Hid (w.heap.size + 1 ≤ GB ∧ GB + 1 ≤ wr.heap.size) ∧ Hid (wr.heap[w.heap.size]? = some (Obj.cells #[.bool D.A, .slice a1 m1 x1, .slice a2 m2 x2, .slice a3 m2 x3] 137 (0, 0))) ∧ Hid (wr.heap[GB]? = some (Obj.cells #[.int .i64 (k : Int), .slice a1 m1 x1, .slice ka j kc] 216 (0, 0))) ∧ Hid (gs.length = j) ∧ Hid (wr.ownsRow w.heap.size 162 1 (.slice ka j kc) j (ptrs gs)) ∧ Hid (∀ i, i < j → ∃ lo hi, GB + 1 ≤ lo ∧ hi ≤ wr.heap.size ∧ TwAt H w0 lo hi d wr (gs.getD i 0) (D.K.getD i 0) ∧ ∀ b, (Value.slice ka j kc).ownBlock = some b → b < lo ∨ hi ≤ b) ∧ Hid (kidsF (growF H d) (leastM H d) (D.K.drop j) (D.L.drop j) s' = growF H (d + 1) (k : Int) s)) (fun i _ => m2 - (intOf i).toNat)
            case atStart => exact ⟨0, _, _, [], none, 0, by omega, rfl, TM6, B6, K6, Z7, NB6, G6, rfl, World.ownsRow_nil _ _ _ _, fun i hi => absurd hi (by omega), by show _ = _; rw [GI.out]; rfl⟩
            case round =>
              obtain ⟨j, s', pv', gs, ka, kc, hj, rfl, TMr, Br, Kr, Zr, NBr, Gr, GL, KR, TWr, KF⟩ := hrel
              clear TM6 B6 K6 Z6 NB6 G6 Z7
              by_cases hlt : j < m2
              · obtain ⟨b3, o3, kq, e3, q3, hkq⟩ := srcI (S3.out.below Br.out) (i := j) (by rw [M3.out]; exact hlt)
                obtain ⟨b2, o2, y, e2, q2, hy⟩ := srcS S2.out (i := j) (by rw [M2.out]; exact hlt)
                subst e3 e2
                have Q2 : Hid (w0.cell? ⟨b2, o2 + j, none⟩ = some (.string y)) := q2
                have KD : Hid (kidsF (growF H d) (leastM H d) (D.K.drop j) (D.L.drop j) s' = kidsF (growF H d) (leastM H d) (kq :: D.K.drop (j + 1)) (y :: D.L.drop (j + 1)) s') := by
                  have := kids_drop (g := growF H d) (l := leastM H d) (K := D.K) (L := D.L) (i := j) (by rw [M3.out]; exact hlt) (by rw [M2.out]; exact hlt) s'
                  rw [hkq.out, hy.out] at this
                  exact this
                have hjn : (j : Int) < (m2 : Int) := by omega
                clear q2
                go_wp2_with fail
                rw [show ((b : Int) + 1) = ((b + 1 : Nat) : Int) from by omega]
                refine (IH.out kq (b + 1) s' pv' _ HBD.out TMr.out Br.out).mono ?_
                rintro e w6 ⟨s6, pv6, tm6, b6, k6, z6, (⟨hnone, rfl⟩ | ⟨hsome, g, rfl, htw⟩)⟩
                · have F : Hid (growF H (d + 1) (k : Int) s = none) := by show _ = _; rw [← KF.out, KD.out, kids_none hnone]
                  have T6 : Hid (TM w6 w0.heap.size T (some ⟨hbk, hof, none⟩) hc top s6 pv6) := tm6
                  have BB6 : Hid (Below w0.heap.size w0 w6) := b6
                  have KK6 : Hid (KeptX [109, 164] w w6) := Kr.out.trans k6
                  have ZZ6 : Hid (w.heap.size ≤ w6.heap.size) := by show _ ≤ _; have := Zr.out; omega
                  clear tm6 b6 k6 z6 hnone
                  go_wp2_with fail
                  go_quiet (fail)
                  go_wp2_with fail
                  go_ret2
                  exact ⟨_, _, T6.out.below (Below.drewN' (Below.refl _ _) _), Below.drewN' BB6.out _, KK6.out, ZZ6.out, .inl ⟨F.out, rfl⟩⟩
                · obtain ⟨X, hX⟩ : ∃ X, leastM H d kq = X := ⟨_, rfl⟩
                  have LE : Hid (∀ n, Calls Tryz.prog 163 #[.pointer (some ⟨g, 0, none⟩)] (w6.drewN n) fun e w' => e = .returned (.string X) ∧ w' = w6.drewN n) := fun n => by
                    rw [← hX]
                    exact least d g kq (w6.drewN n) (Below.drewN' b6 n) rfl (htw.kept (KeptX.drewN (bad := []) w6 n) (by simp) (by simp))
                  have T6 : Hid (TM w6 w0.heap.size T (some ⟨hbk, hof, none⟩) hc top s6 pv6) := tm6
                  have BB6 : Hid (Below w0.heap.size w0 w6) := b6
                  have KK6 : Hid (KeptX [109, 164] w w6) := Kr.out.trans k6
                  have ZZ6 : Hid (w.heap.size + 1 ≤ GB ∧ GB + 1 ≤ wr.heap.size ∧ wr.heap.size ≤ w6.heap.size) := ⟨Zr.out.1, Zr.out.2, z6⟩
                  have W0 : Hid (w0.heap.size ≤ w.heap.size) := B0.out.size
                  have N6 : Hid (w6.heap[w.heap.size]? = some (Obj.cells #[.bool D.A, .slice a1 m1 x1, .slice (some ⟨b2, o2, none⟩) m2 x2, .slice (some ⟨b3, o3, none⟩) m2 x3] 137 (0, 0))) := k6 _ _ _ NBr.out (by simp)
                  have GG6 : Hid (w6.heap[GB]? = some (Obj.cells #[.int .i64 (k : Int), .slice a1 m1 x1, .slice ka j kc] 216 (0, 0))) := k6 _ _ _ Gr.out (by simp)
                  have KR6 : Hid (w6.ownsRow w.heap.size 162 1 (.slice ka j kc) j (ptrs gs)) := k6.own KR.out (by simp)
                  have OB : Hid (∀ b, (Value.slice ka j kc).ownBlock = some b → b < wr.heap.size) := fun b e => (KR.out.lt b e).2
                  have TW6 : Hid (∀ i, i < j → ∃ lo hi, GB + 1 ≤ lo ∧ hi ≤ w6.heap.size ∧ TwAt H w0 lo hi d w6 (gs.getD i 0) (D.K.getD i 0) ∧ ∀ b, (Value.slice ka j kc).ownBlock = some b → b < lo ∨ hi ≤ b) := fun i hi => by
                    obtain ⟨lo, hi2, t1, t2, t3, t4⟩ := TWr.out i hi
                    exact ⟨lo, hi2, t1, by omega, t3.kept k6 (by simp) (by simp), t4⟩
                  have NT : Hid (TwAt H w0 wr.heap.size w6.heap.size d w6 g kq) := htw
                  have SO : Hid (growF H d kq s' = some s6) := hsome
                  have HX : Hid (leastM H d kq = X) := hX
                  have yc : w6.cell? ⟨b2, o2 + j, none⟩ = some (.string y) := (b6.cell (p := ⟨b2, o2 + j, none⟩) (World.block_lt_of_cell? _ _ Q2.out)).trans Q2.out
                  obtain ⟨n2, _⟩ := blk_at N6.out (i := 2) rfl
                  clear tm6 b6 k6 z6 htw hsome hX TMr Br Kr Zr NBr Gr KR TWr q3
                  by_cases hxy : X = y
                  · subst hxy
                    have KN : Hid (kidsF (growF H d) (leastM H d) (D.K.drop (j + 1)) (D.L.drop (j + 1)) s6 = growF H (d + 1) (k : Int) s) := by show _ = _; rw [← KF.out, KD.out, kids_cons SO.out HX.out]
                    obtain ⟨g2, g2f⟩ := blk_at GG6.out (i := 2) rfl
                    go_wp2_with fail
                    go_quiet ((go_at_call 163; exact Calls.quiet_of_same (LE.out _)))
                    go_wp2_with (at_builtin; refine wpList_append_src' _ rfl _ _ 214 rfl w.heap.size 162 (.pointer none) 1 8 Tryz.underlying214 infoTw rfl (by decide) (by decide) (.slice ka j kc) j (ptrs gs) rfl ((own_drewN' KR6.out).alloc _) ⟨w6.heap.size, 0, none⟩ 1 1 (ptrs [g]) rfl rfl (src_onePtr rfl) (ptrs_one _) (by omega) (by omega) (le_alloc (by show w.heap.size ≤ w6.heap.size; have := ZZ6.out; omega) _) ?_)
                    intro v7 w7 hown7 hgrow7 hob7
                    obtain ⟨ka7, kc7, rfl, _, _⟩ := own_src hown7
                    have hz7 : w6.heap.size + 1 ≤ w7.heap.size := by have := hgrow7.size; simpa using this
                    have hrow : ∀ b, (Value.slice ka j kc).ownBlock = some b → w.heap.size ≤ b ∧ b < wr.heap.size := fun b e => ⟨(KR6.out.lt b e).1, OB.out b e⟩
                    have hold : ∀ b, b < w6.heap.size → (Value.slice ka j kc).ownBlock ≠ some b → w7.heap[b]? = w6.heap[b]? := fun b hb hne => by
                      rw [hgrow7.block b (by simp; omega) (fun e => hne e.symm), heap_alloc_old _ _ (by exact hb)]
                      rfl
                    have G7 : w7.heap[GB]? = some (Obj.cells #[.int .i64 (k : Int), .slice a1 m1 x1, .slice ka j kc] 216 (0, 0)) := by
                      rw [hold GB (by have := ZZ6.out; omega) (own_notkind KR6.out ⟨_, _, GG6.out⟩ (by decide))]; exact GG6.out
                    have TT7 : TM w7 w0.heap.size T (some ⟨hbk, hof, none⟩) hc top s6 pv6 := by
                      refine ⟨?_, ?_, T6.out.good⟩
                      · rw [hold T (Array.getElem?_eq_some_iff.1 T6.out.blk).1 (own_notkind KR6.out ⟨_, _, T6.out.blk⟩ (by decide))]; exact T6.out.blk
                      · exact own_grown ((own_drewN' T6.out.row).alloc _) hgrow7 (fun b e e2 => own_ne T6.out.row KR6.out (by decide) b e e2)
                    have B7 : Below w0.heap.size w0 w7 := ((Below.drewN' BB6.out _).alloc BB6.out.size _).grown hgrow7 (le_alloc BB6.out.size _) (fun b e => by have := (hrow b e).1; have := W0.out; omega)
                    have hGT : GB ≠ T := fun e => by rw [e] at G7; rw [TT7.blk] at G7; cases G7
                    have T8 : Hid (TM (w7.setCell ⟨GB, 2, none⟩ (.slice ka7 (j + 1) kc7)) w0.heap.size T (some ⟨hbk, hof, none⟩) hc top s6 pv6) := ⟨blk_other TT7.blk _ (fun e => hGT e.symm) _, own_setOther TT7.row (own_notkind TT7.row ⟨_, _, G7⟩ (by decide)) _, TT7.good⟩
                    have B8 : Hid (Below w0.heap.size w0 (w7.setCell ⟨GB, 2, none⟩ (.slice ka7 (j + 1) kc7))) := B7.setCell (by show w0.heap.size ≤ GB; have := ZZ6.out; have := W0.out; omega) _
                    have K8 : Hid (KeptX [109, 164] w (w7.setCell ⟨GB, 2, none⟩ (.slice ka7 (j + 1) kc7))) := fun b x t hb hn => by
                      have hlt : b < w.heap.size := (Array.getElem?_eq_some_iff.1 hb).1
                      rw [Below.heap_setCell _ _ _ _ (by show b ≠ GB; have := ZZ6.out; omega), hold b (by have := ZZ6.out; omega) (fun e => by have := (hrow b e).1; omega)]
                      exact KK6.out b x t hb hn
                    have Z8 : Hid (w.heap.size + 1 ≤ GB ∧ GB + 1 ≤ (w7.setCell ⟨GB, 2, none⟩ (.slice ka7 (j + 1) kc7)).heap.size) := ⟨ZZ6.out.1, by rw [World.size_setCell]; have := ZZ6.out; omega⟩
                    have N8 : Hid ((w7.setCell ⟨GB, 2, none⟩ (.slice ka7 (j + 1) kc7)).heap[w.heap.size]? = some (Obj.cells #[.bool D.A, .slice a1 m1 x1, .slice (some ⟨b2, o2, none⟩) m2 x2, .slice (some ⟨b3, o3, none⟩) m2 x3] 137 (0, 0))) := by
                      refine blk_other ?_ _ (by show w.heap.size ≠ GB; have := ZZ6.out; omega) _
                      rw [hold w.heap.size (by have := ZZ6.out; omega) (own_notkind KR6.out ⟨_, _, N6.out⟩ (by decide))]; exact N6.out
                    have G8 : Hid ((w7.setCell ⟨GB, 2, none⟩ (.slice ka7 (j + 1) kc7)).heap[GB]? = some (Obj.cells #[.int .i64 (k : Int), .slice a1 m1 x1, .slice ka7 (j + 1) kc7] 216 (0, 0))) := blk_set G7 2 _
                    have KR8 : Hid ((w7.setCell ⟨GB, 2, none⟩ (.slice ka7 (j + 1) kc7)).ownsRow w.heap.size 162 1 (.slice ka7 (j + 1) kc7) (j + 1) (ptrs (gs ++ [g]))) := own_congr (own_setOther hown7 (own_notkind hown7 ⟨_, _, G7⟩ (by decide)) _) (by rw [ptrs_append])
                    have GL8 : Hid ((gs ++ [g]).length = j + 1) := by show _ = _; rw [List.length_append, GL.out]; rfl
                    have nob : ∀ lo hi, hi ≤ w6.heap.size → (∀ b, (Value.slice ka j kc).ownBlock = some b → b < lo ∨ hi ≤ b) → ∀ b, (Value.slice ka7 (j + 1) kc7).ownBlock = some b → b < lo ∨ hi ≤ b := fun lo hi hh ho b e => by
                      rcases hob7 with hob | hob
                      · rw [hob] at e; exact ho b e
                      · have h9 : w6.heap.size + 1 ≤ b := hob b e
                        omega
                    have TX8 : Hid (∀ i, i < j + 1 → ∃ lo hi, GB + 1 ≤ lo ∧ hi ≤ (w7.setCell ⟨GB, 2, none⟩ (.slice ka7 (j + 1) kc7)).heap.size ∧ TwAt H w0 lo hi d (w7.setCell ⟨GB, 2, none⟩ (.slice ka7 (j + 1) kc7)) ((gs ++ [g]).getD i 0) (D.K.getD i 0) ∧ ∀ b, (Value.slice ka7 (j + 1) kc7).ownBlock = some b → b < lo ∨ hi ≤ b) := fun i hi => by
                      by_cases e : i = j
                      · subst e
                        rw [getD_last gs g i GL.out, hkq.out]
                        refine ⟨wr.heap.size, w6.heap.size, ZZ6.out.2.1, by rw [World.size_setCell]; omega, ?_, nob _ _ (Nat.le_refl _) (fun b e => .inl (OB.out b e))⟩
                        exact TwAt.grown (gb_set (gb_refl _ (some GB)) 2 _) (fun b e => by cases e; have := ZZ6.out; omega) (TwAt.grown hgrow7 (fun b e => .inl (OB.out b e)) (TwAt.kept (KeptX.alloc (bad := []) _ _) (by simp) (by simp) (TwAt.kept (KeptX.drewN (bad := []) w6 _) (by simp) (by simp) NT.out)))
                      · obtain ⟨lo, hi2, l1, l2, l3, l4⟩ := TW6.out i (by omega)
                        rw [getD_left gs g i (by rw [GL.out]; omega)]
                        refine ⟨lo, hi2, l1, by rw [World.size_setCell]; omega, ?_, nob lo hi2 l2 l4⟩
                        exact TwAt.grown (gb_set (gb_refl _ (some GB)) 2 _) (fun b e => by cases e; omega) (TwAt.grown hgrow7 l4 (TwAt.kept (KeptX.alloc (bad := []) _ _) (by simp) (by simp) (TwAt.kept (KeptX.drewN (bad := []) w6 _) (by simp) (by simp) l3)))
                    obtain ⟨g7, g7f⟩ := blk_at G7 (i := 2) rfl
                    clear hown7 hgrow7 hob7 hrow hold G7 TT7 B7 hGT nob g2 g2f n2 yc T6 BB6 KK6 N6 GG6 KR6 TW6 NT SO LE
                    go_wp2_with fail
                    exact ⟨⟨j + 1, s6, pv6, gs ++ [g], ka7, kc7, by omega, by go_num, T8, B8, K8, Z8, N8, G8, GL8, KR8, TX8, KN⟩, by simp [intOf]; omega⟩
                  · have F : Hid (growF H (d + 1) (k : Int) s = none) := by show _ = _; rw [← KF.out, KD.out, kids_less SO.out (by rw [HX.out]; exact hxy)]
                    have hcmp : (X.toList == y.toList) = false := texts_ne hxy
                    clear hxy
                    go_wp2_with fail
                    go_quiet ((go_at_call 163; exact Calls.quiet_of_same (LE.out _)))
                    go_wp2_with fail
                    go_ret2
                    exact ⟨_, _, T6.out.below (Below.drewN' (Below.refl _ _) _), Below.drewN' BB6.out _, KK6.out, by show w.heap.size ≤ w6.heap.size; have := ZZ6.out; omega, .inl ⟨F.out, rfl⟩⟩
              · have hjm : j = m2 := by omega
                have F : Hid (growF H (d + 1) (k : Int) s = some s') := by
                  show _ = _
                  rw [← KF.out, List.drop_of_length_le (by rw [M3.out]; omega), kidsF]
                  simp
                have TWF : Hid (TwAt H w0 w.heap.size wr.heap.size (d + 1) wr GB (k : Int)) := by
                  refine ⟨by rw [ND.out]; exact BN.out, by have := Zr.out; omega, by have := Zr.out; omega, a1, x1, kc, ka, gs, ?_, by rw [ND.out]; exact S1.out, by rw [ND.out, GL.out, M3.out]; exact hjm, ⟨?_, fun b e => (KR.out.lt b (by rw [GL.out] at e; exact e)).2⟩, fun i hi => ?_⟩
                  · rw [ND.out, M1.out, GL.out]; exact Gr.out
                  · rw [GL.out]; exact KR.out
                  · obtain ⟨lo, hi2, l1, l2, l3, _⟩ := TWr.out i (by rw [GL.out] at hi; exact hi)
                    rw [ND.out]
                    exact l3.mono (by have := Zr.out; omega) l2
                clear hjm
                go_wp2_with fail
                go_ret2
                exact ⟨s', pv', TMr.out, Br.out, Kr.out, by have := Zr.out; omega, .inr ⟨F.out, GB, rfl, TWF.out⟩⟩
end Go.Proofs.YtnnimocaanofjaaGreatDoor
