/-
  Texts of the store, brought together: Tr2, Tr6, Tr8, Tr9. By an AI agent.
-/
import Derived.Test.YtnnimocaanofjaaGreatDoorSq12
import Derived.Test.YtnnimocaanofjaaGreatDoorSq11
import Derived.Deep.MidRow
import Derived.Test.YtnnimocaanofjaaGreatDoorSq07
namespace Go.Proofs.YtnnimocaanofjaaGreatDoor
open Go.ChangeShapes Go.WideShapes Go.ChangeAt Go.RowKit Go.Deep
set_option linter.unusedVariables false
set_option linter.unusedSimpArgs false
set_option maxRecDepth 100000
set_option maxHeartbeats 1000000 in
theorem grow {H : List NM} {w0 : World} {base T hc : Nat} {ha : Option Addr} {top : Value} (hb0 : base = w0.heap.size) (hH : ReadsHL w0 ha H) (hlen : H.length = 50) (hsm : ∀ D ∈ H, smallN D) (hT : base ≤ T) : ∀ d, GrowAll H w0 base T ha hc top d := by
  intro d
  induction d with
  | zero =>
    intro q b s pv w hbd tm hB
    have F : Hid (growF H 0 q s = none) := rfl
    have hb21 : b = 21 := by omega
    subst hb21
    have TM0 : Hid (TM w base T ha hc top s pv) := tm
    have B0 : Hid (Below base w0 w) := hB
    have P0 : Hid (GrowPost H w0 base T ha hc top 0 q s w (.returned (.tuple #[.pointer none, .bool false])) w) := ⟨s, pv, tm, hB, KeptX.refl _ _, Nat.le_refl _, .inl ⟨rfl, rfl⟩⟩
    cases hp : pageB q with
    | false =>
      have HP : Hid (pageB q = false) := hp
      clear hp tm hB hbd
      go_enter Tryz.func146, Tryz.ntmps146
      go_wp2_with (go_at_call 162; refine (isPageIs false _ _ HP.out).mono ?_; rintro e w1 ⟨rfl, rfl⟩)
      go_ret2
      exact P0.out
    | true =>
      have HP : Hid (pageB q = true) := hp
      obtain ⟨hq0, hq1⟩ := page_nat hp
      obtain ⟨k, rfl⟩ : ∃ k : Nat, q = (k : Int) := ⟨q.toNat, by omega⟩
      have hk : k < 50 := by simpa using hq1
      obtain ⟨bb, hbb⟩ : ∃ bb, s.R.getD k false = bb := ⟨_, rfl⟩
      obtain ⟨c1, _⟩ := blk_at tm.blk (tarr_R (k := k) (by rw [tm.good.1]; exact hk))
      rw [hbb] at c1
      clear hp tm hB hbd hbb hq0 hq1
      have hki : (k : Int) < 50 := by omega
      go_enter Tryz.func146, Tryz.ntmps146
      cases bb with
      | true =>
        go_wp2_with (go_at_call 162; refine (isPageIs true _ _ HP.out).mono ?_; rintro e w1 ⟨rfl, rfl⟩)
        go_ret2
        exact P0.out
      | false =>
        go_wp2_with (go_at_call 162; refine (isPageIs true _ _ HP.out).mono ?_; rintro e w1 ⟨rfl, rfl⟩)
        go_ret2
        exact P0.out
  | succ d ih => exact growStep hb0 hH hlen hsm hT d ih
structure ReadT (H : List NM) (w0 w : World) (T : Nat) (root : Int) (s : St) : Prop where
  ex : ∃ (ha : Option Addr) (hc : Nat) (top pv : Value), TM w w0.heap.size T ha hc top s pv ∧ (root = -1 ∧ top = .pointer none ∨ ∃ g, top = .pointer (some ⟨g, 0, none⟩) ∧ TwAt H w0 w0.heap.size w.heap.size 21 w g root)
set_option maxHeartbeats 2000000 in
theorem readTree (v : Value) (H : List NM) (root : Int) (w : World) (hsm : smallH H) (h : ReadsH w v H) :
    Calls Tryz.prog 113 #[v, .int .i64 root] w fun e w' => Below w.heap.size w w' ∧ ((treeF H root = none ∧ e = .returned (.tuple #[.pointer none, .bool false])) ∨ ∃ s T, treeF H root = some s ∧ e = .returned (.tuple #[.pointer (some ⟨T, 0, none⟩), .bool true]) ∧ ReadT H w w' T root s) := by
  obtain ⟨a, c, rfl, hr⟩ := h
  have HR : Hid (ReadsHL w a H) := hr
  have HS : Hid (smallH H) := hsm
  obtain ⟨n, hn⟩ : ∃ n, H.length = n := ⟨_, rfl⟩
  have HN : Hid (H.length = n) := hn
  rw [hn]
  clear hr hsm hn
  by_cases h50 : n = 50
  case neg =>
    have F : Hid (treeF H root = none) := by show treeF H root = none; unfold treeF; rw [if_neg (by rw [HN.out]; exact h50)]
    have t1 : ((n : Int) != 50) = true := by simp; omega
    clear h50
    go_enter Tryz.func113, Tryz.ntmps113
    go_wp2_with fail
    go_ret2
    exact ⟨(Below.refl _ _).alloc (Nat.le_refl _) _, .inl ⟨F.out, rfl⟩⟩
  subst h50
  have TM0 : Hid (TM ((w.alloc (.cells #[.slice a 50 c] 45)).alloc (.cells (tarr a c (.pointer none) st0.R (.slice none 0 0)) 164)) w.heap.size (w.heap.size + 1) a c (.pointer none) st0 (.slice none 0 0)) := ⟨by
      have := blk_new (w.alloc (.cells #[.slice a 50 c] 45)) (tarr a c (.pointer none) st0.R (.slice none 0 0)) 164
      rw [World.size_alloc] at this
      exact this, World.ownsRow_nil _ _ _ _, good0⟩
  by_cases hroot : root = -1
  · subst hroot
    have F : Hid (treeF H (-1) = some st0) := by show treeF H (-1) = _; unfold treeF; rw [if_pos HN.out, if_pos rfl]
    go_enter Tryz.func113, Tryz.ntmps113
    go_wp2_with fail
    go_ret2
    refine ⟨((Below.refl _ _).alloc (Nat.le_refl _) _).alloc (by simp) _, .inr ⟨st0, w.heap.size + 1, F.out, rfl, ⟨a, c, .pointer none, .slice none 0 0, TM0.out, .inl ⟨rfl, rfl⟩⟩⟩⟩
  have hne : (root == -1) = false := by simp; exact hroot
  have TF : Hid (treeF H root = match growF H 21 root st0 with | none => none | some s => if pairsOf s.P = true then some s else none) := by show treeF H root = _; unfold treeF; rw [if_pos HN.out, if_neg hroot]; rfl
  have B0 : Hid (Below w.heap.size w ((w.alloc (.cells #[.slice a 50 c] 45)).alloc (.cells (tarr a c (.pointer none) st0.R (.slice none 0 0)) 164))) := ((Below.refl _ _).alloc (Nat.le_refl _) _).alloc (by simp) _
  clear hroot
  go_enter Tryz.func113, Tryz.ntmps113
  go_wp2_with fail
  refine (grow (H := H) (w0 := w) (base := w.heap.size) (T := w.heap.size + 1) (hc := c) (ha := a) (top := .pointer none) rfl HR.out HN.out HS.out.2 (by omega) 21 root 0 st0 (.slice none 0 0) _ rfl TM0.out B0.out).mono ?_
  rintro e w1 ⟨s1, pv1, tm1, b1, k1, z1, (⟨hnone, rfl⟩ | ⟨hsome, g, rfl, htw⟩)⟩
  · have F : Hid (treeF H root = none) := by show treeF H root = none; rw [TF.out, hnone]
    have B1 : Hid (Below w.heap.size w w1) := b1
    clear tm1 b1 k1 z1 hnone
    go_wp2_with fail
    go_ret2
    exact ⟨B1.out, .inl ⟨F.out, rfl⟩⟩
  · obtain ⟨pb, hpb⟩ : ∃ pb, pairsOf s1.P = pb := ⟨_, rfl⟩
    have F : Hid (treeF H root = if pb = true then some s1 else none) := by show treeF H root = _; rw [TF.out, hsome]; show (if pairsOf s1.P = true then some s1 else none) = _; rw [hpb]
    have B1 : Hid (Below w.heap.size w w1) := b1
    have T1 : Hid (TM w1 w.heap.size (w.heap.size + 1) a c (.pointer none) s1 pv1) := tm1
    have W1 : Hid (TwAt H w w.heap.size w1.heap.size 21 w1 g root) := htw.mono (by simp; omega) (Nat.le_refl _)
    have FT : Hid (fitS s1) := grow_fit 21 root st0 s1 hsome (fun x hx => by cases hx)
    have PB : Hid (pairsOf s1.P = pb) := hpb
    obtain ⟨pa, pc, rfl, psrc, _⟩ := own_src tm1.row
    have PS : Hid (Src w1 pa (cellsP s1.P)) := psrc
    obtain ⟨c1, _⟩ := blk_at tm1.blk (tarr_P tm1.good.1)
    obtain ⟨pn, hpn⟩ : ∃ n, s1.P.length = n := ⟨_, rfl⟩
    have PN : Hid (s1.P.length = pn) := hpn
    have hpl : pn ≤ 150 := by rw [← hpn]; exact good_le tm1.good
    rw [hpn] at c1
    clear tm1 b1 k1 z1 hsome htw hpb psrc hpn
    have FS : Hid (∀ i, i < pn → (fK s1.P i).size ≤ 1048576 ∧ (fV s1.P i).size ≤ 1048576) := fun i hi => by
      have h9 := FT.out _ (mem_getD s1.P p0 i (by rw [PN.out]; exact hi))
      unfold fitB keyB at h9
      simp only [Bool.and_eq_true, decide_eq_true_eq] at h9
      unfold fK fV
      omega
    go_wp2_with fail
    refine (implPairsOK pa pn pc (fK s1.P) (fV s1.P) _ (by omega) FS.out (sp_src PS.out PN.out)).mono ?_
    have PB2 : Hid (pairsB (fK s1.P) (fV s1.P) pn = pb) := by show _ = pb; rw [← PN.out]; exact PB.out
    rw [PB2.out]
    rintro e w2 ⟨rfl, hb2⟩
    have B2 : Hid (Below w.heap.size w w2) := B1.out.trans (hb2.mono B1.out.size)
    have T2 : Hid (TM w2 w.heap.size (w.heap.size + 1) a c (.pointer none) s1 (.slice pa s1.P.length pc)) := T1.out.below hb2
    have W2 : Hid (TwAt H w w.heap.size w2.heap.size 21 w2 g root) := (W1.out.kept (KeptX.of_below (bad := []) hb2) (by simp) (by simp)).mono (Nat.le_refl _) hb2.size
    clear hb2 c1 B1 T1 W1 PS
    cases pb with
    | false =>
      have F2 : Hid (treeF H root = none) := by show _ = _; rw [F.out]; rfl
      go_wp2_with fail
      go_ret2
      exact ⟨B2.out, .inl ⟨F2.out, rfl⟩⟩
    | true =>
      have F2 : Hid (treeF H root = some s1) := by show _ = _; rw [F.out]; rfl
      obtain ⟨t1, t1f⟩ := blk_at T2.out.blk (i := 1) (v := .pointer none) rfl
      have B3 : Hid (Below w.heap.size w (w2.setCell ⟨w.heap.size + 1, 1, none⟩ (.pointer (some ⟨g, 0, none⟩)))) := B2.out.setCell (by show w.heap.size ≤ w.heap.size + 1; omega) _
      have T3 : Hid (TM (w2.setCell ⟨w.heap.size + 1, 1, none⟩ (.pointer (some ⟨g, 0, none⟩))) w.heap.size (w.heap.size + 1) a c (.pointer (some ⟨g, 0, none⟩)) s1 (.slice pa s1.P.length pc)) := ⟨by rw [blk_set T2.out.blk, tarr_setT], own_setOther T2.out.row (own_notkind T2.out.row ⟨_, _, T2.out.blk⟩ (by decide)) _, T2.out.good⟩
      have W3 : Hid (TwAt H w w.heap.size (w2.setCell ⟨w.heap.size + 1, 1, none⟩ (.pointer (some ⟨g, 0, none⟩))).heap.size 21 (w2.setCell ⟨w.heap.size + 1, 1, none⟩ (.pointer (some ⟨g, 0, none⟩))) g root) := by
        rw [World.size_setCell]
        exact W2.out.kept (KeptX.setCell (bad := [164]) T2.out.blk (by simp) _) (by simp) (by simp)
      clear B2 T2 W2
      go_wp2_with fail
      go_ret2
      exact ⟨B3.out, .inr ⟨s1, w.heap.size + 1, F2.out, rfl, ⟨a, c, _, _, T3.out, .inr ⟨g, rfl, W3.out⟩⟩⟩⟩
def pairsA (H : List NM) (root : Int) : List PM × Int := match treeF H root with
  | none => ([], 1)
  | some s => (s.P, 0)
theorem own_nilP (w : World) (base : Nat) : w.ownsRow base 109 2 (.slice none 0 0) 0 (cellsP []) := ⟨rfl, .inl ⟨rfl, rfl⟩⟩
set_option maxHeartbeats 400000 in
theorem implTreePairs (v : Value) (H : List NM) (root : Int) (w : World) (hsm : smallH H) (h : ReadsH w v H) :
    Calls Tryz.prog 65 #[v, .int .i64 root] w fun e w' => ∃ u R q, e = .returned (.tuple #[u, .int .i64 q]) ∧ pairsA H root = (R, q) ∧ w'.ownsRow w.heap.size 109 2 u R.length (cellsP R) ∧ R.length ≤ 150 ∧ Below w.heap.size w w' := by
  obtain ⟨a, c, rfl, hr⟩ := h
  have HR : Hid (ReadsH w (.agg #[.slice a H.length c]) H) := ⟨a, c, rfl, hr⟩
  have HS : Hid (smallH H) := hsm
  clear hr hsm
  go_enter Tryz.func65, Tryz.ntmps65
  go_wp2_with fail
  refine (readTree _ H root _ HS.out (HR.out.below ((Below.refl _ _).alloc (Nat.le_refl _) _))).mono ?_
  rintro e w1 ⟨hb1, (⟨hn, rfl⟩ | ⟨s, T, hs, rfl, a', c', top, pv, tm, _⟩)⟩
  · have F : Hid (pairsA H root = ([], 1)) := by show _ = _; unfold pairsA; rw [hn]
    have B1 : Hid (Below w.heap.size w w1) := Below.new hb1
    clear hn hb1
    go_wp2_with fail
    go_ret2
    exact ⟨_, _, _, rfl, F.out, own_nilP _ _, by simp, B1.out⟩
  · have F : Hid (pairsA H root = (s.P, 0)) := by show _ = _; unfold pairsA; rw [hs]
    have B1 : Hid (Below w.heap.size w w1) := Below.new hb1
    obtain ⟨pa, pc, rfl, _, _⟩ := own_src tm.row
    have O1 : Hid (w1.ownsRow w.heap.size 109 2 (.slice pa s.P.length pc) s.P.length (cellsP s.P) ∧ s.P.length ≤ 150) := ⟨own_mono tm.row (by simp), good_le tm.good⟩
    obtain ⟨c1, _⟩ := blk_at tm.blk (tarr_P tm.good.1)
    clear hs hb1 tm
    go_wp2_with fail
    go_ret2
    exact ⟨_, _, _, rfl, F.out, O1.out.1, O1.out.2, B1.out⟩
theorem run_index_PS (arr : Array Value) (k : Nat) (b : Bool) (hk : k < 50) (h : arr[k]? = some (.bool b)) (w : World) : (Instr.index 104 (.agg arr) (.int .i64 (k : Int))).run Tryz.prog w = .ok (.bool b) w := by
  have hk1 : (0 : Int) ≤ (k : Int) ∧ (k : Int) < 50 := by omega
  have hsz : (sizeOf 4).run Tryz.prog w = .ok 1 w := by
    have hi : (Tryz.prog.info? 4).map (·.size) = some 1 := by kernel_rfl
    cases hq : Tryz.prog.info? 4 with
    | none => simp [hq] at hi
    | some i => simp [hq] at hi; simp [sizeOf, typeInfo, hq, hi]
  simp [Instr.index, run_underlying Tryz.underlying104, asIntOf, hk1, hsz, part, isAgg, run_underlying Tryz.underlying4, h, go_sem]
  intro h9; omega
theorem drop_int {L : List Int} {i : Nat} (h : i < L.length) : L.drop i = L.getD i 0 :: L.drop (i + 1) := by
  rw [List.drop_eq_getElem_cons h, List.getD_eq_getElem?_getD, List.getElem?_eq_getElem h]; rfl
theorem all_step {H : List NM} {L : List Int} {i : Nat} {A : List Bool} (h : i < L.length) : allF H (L.drop i) A = match treeF H (L.getD i 0) with | none => none | some s => allF H (L.drop (i + 1)) (orB A s.R) := by
  rw [drop_int h]; rfl
theorem l03WalkE (v : Value) (H : List NM) (root : Int) (w : World) (hsm : smallH H) (h : ReadsH w v H) :
    Calls Tryz.prog 112 #[v, .int .i64 root] w fun e w' => ∃ v1 v2 ok, e = .returned (.tuple #[v1, v2, .bool ok]) ∧ Below w.heap.size w w' ∧ (ok = false → treeF H root = none) ∧ (ok = true → ∃ s, treeF H root = some s ∧ s.R.length = 50 ∧ w'.ownsRow w.heap.size 4 1 v2 50 (s.R.map Value.bool)) := by
  refine (l03Walk v H root w hsm h).mono ?_
  rintro e w' ⟨hb, (⟨h1, v1, v2, rfl⟩ | ⟨s, v1, v2, h1, rfl, _, row, good, _⟩)⟩
  · exact ⟨v1, v2, false, rfl, hb, fun _ => h1, fun e => by cases e⟩
  · exact ⟨v1, v2, true, rfl, hb, (fun e => by cases e), fun _ => ⟨s, h1, good.1, row⟩⟩
def mixB (A R : List Bool) (k : Nat) : List Bool := (orB A R).take k ++ A.drop k
theorem mix_length {A R : List Bool} {k : Nat} (hA : A.length = 50) (hR : R.length = 50) : (mixB A R k).length = 50 := by
  unfold mixB; rw [List.length_append, List.length_take, List.length_drop, orB_length hA hR, hA]; omega
theorem mix_get {A R : List Bool} {k : Nat} (hA : A.length = 50) (hR : R.length = 50) (hk : k < 50) : (mixB A R k).getD k false = A.getD k false := by
  unfold mixB
  rw [List.getD_eq_getElem?_getD, List.getElem?_append_right (by rw [List.length_take, orB_length hA hR]; omega), List.length_take, orB_length hA hR, List.getElem?_drop, List.getD_eq_getElem?_getD]
  congr 2
  omega
theorem mix_next {A R : List Bool} {k : Nat} (hA : A.length = 50) (hR : R.length = 50) (hk : k < 50) : (mixB A R k).set k (A.getD k false || R.getD k false) = mixB A R (k + 1) := by
  unfold mixB
  rw [List.set_append_right _ _ (by rw [List.length_take, orB_length hA hR]; omega)]
  have e1 : k - ((orB A R).take k).length = 0 := by rw [List.length_take, orB_length hA hR]; omega
  rw [e1, List.drop_eq_getElem_cons (by omega), List.set_cons_zero, List.take_add_one, orB_get hA hR hk]
  simp
theorem mix_end {A R : List Bool} (hA : A.length = 50) (hR : R.length = 50) : mixB A R 50 = orB A R := by
  unfold mixB
  rw [List.take_of_length_le (by rw [orB_length hA hR]; omega), List.drop_eq_nil_of_le (by omega), List.append_nil]
theorem own_someT {w : World} {base e z n : Nat} {v : Value} {xs : List Value} (h : w.ownsRow base e z v n xs) (hn : 0 < n) : ∃ g c, v = .slice (some ⟨g, 0, none⟩) n c := by
  rcases h with ⟨hl, ⟨rfl, h0⟩ | ⟨g, cap, cur, rfl, _⟩⟩
  · omega
  · exact ⟨g, cap, rfl⟩
theorem map_at {R : List Bool} {k : Nat} (h : k < R.length) : (R.map Value.bool)[k]? = some (.bool (R.getD k false)) := by
  rw [List.getElem?_map, List.getElem?_eq_getElem h, List.getD_eq_getElem?_getD, List.getElem?_eq_getElem h]; rfl
set_option maxHeartbeats 2000000 in
theorem l03Reached (v : Value) (H : List NM) (ra : Option Addr) (n rc : Nat) (L : List Int) (w : World) (hsm : smallH H) (h : ReadsH w v H) (hL : L.length = n) (hn : n ≤ 1048576) (hs : Src w ra (cellsI L)) :
    Calls Tryz.prog 68 #[v, .slice ra n rc] w fun e w' => Below w.heap.size w w' ∧ ((allF H L st0.R = none ∧ ∃ u, e = .returned (.tuple #[u, .bool false])) ∨ ∃ A u, allF H L st0.R = some A ∧ A.length = 50 ∧ e = .returned (.tuple #[u, .bool true]) ∧ w'.ownsRow w.heap.size 4 1 u 50 (A.map Value.bool)) := by
  obtain ⟨a, c, rfl, hr⟩ := h
  have HR : Hid (ReadsH w (.agg #[.slice a H.length c]) H) := ⟨a, c, rfl, hr⟩
  have HS : Hid (smallH H) := hsm
  have HL : Hid (L.length = n) := hL
  have HC : Hid (Src w ra (cellsI L)) := hs
  have hmk := run_make_Bo
  clear hr hsm hL hs
  go_enter Tryz.func68, Tryz.ntmps68
  go_wp2_with fail
  clear hmk
  have OB : (Hid (World.ownsRow ((w.alloc (.cells #[.slice a H.length c] 45)).alloc (.cells (madeCells #[.bool false] 50) 4)) w.heap.size 4 1 (.slice (some ⟨w.heap.size + 1, 0, none⟩) 50 50) 50 (st0.R.map Value.bool))) := by
    have := own_pages (w.alloc (.cells #[.slice a H.length c] 45)) w.heap.size (by simp)
    rw [World.size_alloc] at this
    exact this
  go_loopw [7] (fun iv wr => ∃ (i : Nat) (A : List Bool), i ≤ n ∧ iv = .int .i64 i ∧ Hid (A.length = 50) ∧ Hid (allF H L st0.R = allF H (L.drop i) A) ∧ Hid (Below w.heap.size w wr) ∧ Hid (Box wr w.heap.size [.slice a H.length c]) ∧ Hid (wr.ownsRow w.heap.size 4 1 (.slice (some ⟨w.heap.size + 1, 0, none⟩) 50 50) 50 (A.map Value.bool))) (fun i _ => n - (intOf i).toNat)
  case atStart => exact ⟨0, st0.R, by omega, rfl, by show _ = _; rfl, rfl, ((Below.refl _ _).alloc (Nat.le_refl _) _).alloc (by simp) _, (Box.new rfl).old _, OB.out⟩
  case round =>
    obtain ⟨i, A, hi, rfl, hA, hall, hb, hx, ho⟩ := hrel
    by_cases hlt : i < n
    · obtain ⟨rb, o, r, rfl, hc1, HRT⟩ := srcI (HC.out.below hb.out) (i := i) (by rw [HL.out]; exact hlt)
      have hii : (i : Int) < (n : Int) := by omega
      have hi0 : (0 : Int) ≤ (i : Int) := by omega
      have ST : Hid (allF H (L.drop i) A = match treeF H r with | none => none | some s => allF H (L.drop (i + 1)) (orB A s.R)) := by show _ = _; rw [all_step (by rw [HL.out]; exact hlt), HRT.out]
      obtain ⟨p0, _⟩ := hx.out 0 _ rfl
      go_wp2_with fail
      go_region_with (go_at_call 112; refine (l03WalkE _ H r _ HS.out (HR.out.below hb.out.drew)).mono ?_; rintro e w1 ⟨v1, v2, ok, rfl, hb1, g1, g2⟩)
      all_goals
        have B1 : Hid (Below w.heap.size w w1) := hb.out.drew.trans (hb1.mono hb.out.size)
        have X1 : Hid (Box w1 w.heap.size [.slice a H.length c]) := hx.out.drew.below hb1
        have O1 : Hid (w1.ownsRow w.heap.size 4 1 (.slice (some ⟨w.heap.size + 1, 0, none⟩) 50 50) 50 (A.map Value.bool)) := own_below (own_below ho.out (Below.refl _ _).drew) hb1
        have G1 : Hid (ok = false → treeF H r = none) := g1
        have G2 : Hid (ok = true → ∃ s, treeF H r = some s ∧ s.R.length = 50 ∧ w1.ownsRow wr.heap.size 4 1 v2 50 (s.R.map Value.bool)) := g2
        obtain ⟨z, hz⟩ : ∃ z, wr.heap.size = z := ⟨_, rfl⟩
        have ZZ : Hid (w.heap.size + 1 < z) := by show _ < z; rw [← hz]; exact (ho.out.lt (w.heap.size + 1) rfl).2
        rw [hz] at G2
        clear g1 g2 hb1 hb hx ho p0 hc1 hz
        cases ok with
        | false =>
          have F : Hid (allF H L st0.R = none) := by show _ = _; rw [hall.out, ST.out, G1.out rfl]
          go_wp2_with fail
          go_ret2
          exact ⟨B1.out, .inl ⟨F.out, _, rfl⟩⟩
        | true =>
          obtain ⟨s, hs, hR, row⟩ := G2.out rfl
          obtain ⟨g, gc, rfl⟩ := own_someT row (by omega)
          have F : Hid (allF H L st0.R = allF H (L.drop (i + 1)) (orB A s.R)) := by show _ = _; rw [hall.out, ST.out, hs]
          have RL : Hid (s.R.length = 50) := hR
          have RW : Hid (w1.ownsRow z 4 1 (.slice (some ⟨g, 0, none⟩) 50 gc) 50 (s.R.map Value.bool)) := row
          clear hs hR row
          go_wp2_with fail
          go_loopw [11] (fun kv wr => ∃ k : Nat, k ≤ 50 ∧ kv = .int .i64 k ∧ Hid (Below w.heap.size w wr) ∧ Hid (Box wr w.heap.size [.slice a H.length c]) ∧ Hid (wr.ownsRow w.heap.size 4 1 (.slice (some ⟨w.heap.size + 1, 0, none⟩) 50 50) 50 ((mixB A s.R k).map Value.bool)) ∧ Hid (wr.ownsRow z 4 1 (.slice (some ⟨g, 0, none⟩) 50 gc) 50 (s.R.map Value.bool))) (fun i _ => 50 - (intOf i).toNat)
          case atStart => exact ⟨0, by omega, rfl, B1.out, X1.out, by show World.ownsRow _ _ _ _ _ _ ((mixB A s.R 0).map Value.bool); exact O1.out, RW.out⟩
          case round =>
            obtain ⟨k, hk, rfl, hb2, hx2, ho2, hr2⟩ := hrel
            by_cases hlt2 : k < 50
            · have hki : (k : Int) < 50 := by omega
              have hk0 : (0 : Int) ≤ (k : Int) := by omega
              obtain ⟨y1, y1f⟩ := own_at ho2.out (map_at (R := mixB A s.R k) (k := k) (by rw [mix_length hA.out RL.out]; exact hlt2))
              rw [mix_get hA.out RL.out hlt2] at y1
              obtain ⟨y2, _⟩ := own_at hr2.out (map_at (R := s.R) (k := k) (by rw [RL.out]; exact hlt2))
              obtain ⟨ba, hba⟩ : ∃ b, A.getD k false = b := ⟨_, rfl⟩
              obtain ⟨br, hbr⟩ : ∃ b, s.R.getD k false = b := ⟨_, rfl⟩
              rw [hba] at y1
              rw [hbr] at y2
              have NX : Hid ((mixB A s.R k).set k (ba || br) = mixB A s.R (k + 1)) := by show _ = _; rw [← hba, ← hbr]; exact mix_next hA.out RL.out hlt2
              have STEP : Hid (∀ b9 : Bool, b9 = (ba || br) → Below w.heap.size w (wr.setCell ⟨w.heap.size + 1, k, none⟩ (.bool b9)) ∧ Box (wr.setCell ⟨w.heap.size + 1, k, none⟩ (.bool b9)) w.heap.size [.slice a H.length c] ∧ (wr.setCell ⟨w.heap.size + 1, k, none⟩ (.bool b9)).ownsRow w.heap.size 4 1 (.slice (some ⟨w.heap.size + 1, 0, none⟩) 50 50) 50 ((mixB A s.R (k + 1)).map Value.bool) ∧ (wr.setCell ⟨w.heap.size + 1, k, none⟩ (.bool b9)).ownsRow z 4 1 (.slice (some ⟨g, 0, none⟩) 50 gc) 50 (s.R.map Value.bool)) := fun b9 e9 => by
                subst e9
                refine ⟨(hb2.out.setCell (by show w.heap.size ≤ w.heap.size + 1; omega) _), (hx2.out.other _ (by dsimp only; omega) _), ?_, ?_⟩
                · have h1 := own_set ho2.out k (by rw [List.length_map, mix_length hA.out RL.out]; exact hlt2) (.bool (ba || br))
                  rw [← List.map_set, NX.out] at h1
                  exact h1
                · exact own_setLow hr2.out (by dsimp only; exact ZZ.out) _
              clear hba hbr NX hb2 hx2 ho2 hr2
              cases ba with
              | true =>
                go_wp2_with fail
                all_goals
                  obtain ⟨n1, n2, n3, n4⟩ := STEP.out true rfl
                  exact ⟨⟨k + 1, by omega, by go_num, n1, n2, n3, n4⟩, by simp [intOf]; omega⟩
              | false =>
                go_wp2_with fail
                all_goals
                  obtain ⟨n1, n2, n3, n4⟩ := STEP.out br (by cases br <;> rfl)
                  exact ⟨⟨k + 1, by omega, by go_num, n1, n2, n3, n4⟩, by simp [intOf]; omega⟩
            · have hk50 : k = 50 := by omega
              have O2 : Hid (wr.ownsRow w.heap.size 4 1 (.slice (some ⟨w.heap.size + 1, 0, none⟩) 50 50) 50 ((orB A s.R).map Value.bool)) := by
                have h1 := ho2.out
                rw [hk50, mix_end hA.out RL.out] at h1
                exact h1
              clear hk50
              go_wp2_with fail
              exact ⟨⟨i + 1, orB A s.R, by omega, by go_num, orB_length hA.out RL.out, F.out, hb2.out, hx2.out, O2.out⟩, by simp [intOf]; omega⟩
    · have hin : i = n := by omega
      have F : Hid (allF H L st0.R = some A) := by show _ = _; rw [hall.out, List.drop_eq_nil_of_le (by rw [HL.out]; omega)]; rfl
      clear hin
      go_wp2_with fail
      go_ret2
      exact ⟨hb.out, .inr ⟨A, _, F.out, hA.out, rfl, ho.out⟩⟩
end Go.Proofs.YtnnimocaanofjaaGreatDoor
