
/-
  TreePages of both. By an AI agent.
-/
import Derived.Test.YtfbomjcjemcgeaaTr6
import Derived.Deep.MidRow
namespace Go.Proofs.Ytfbomjcjemcgeaa
open Go.ChangeShapes Go.WideShapes Go.ChangeAt Go.RowKit Go.Deep
set_option linter.unusedVariables false
set_option maxRecDepth 100000
/-- The pages below k that are reached. -/
def pgs (R : List Bool) (k : Nat) : List Int := ((List.range k).filter fun i => R.getD i false).map fun i => ((i : Nat) : Int)
theorem pgs_yes {R : List Bool} {k : Nat} (h : R.getD k false = true) : pgs R (k + 1) = pgs R k ++ [(k : Int)] := by
  unfold pgs
  rw [List.range_succ, List.filter_append, List.map_append]
  simp only [List.filter_cons, h, List.filter_nil, if_true, List.map_cons, List.map_nil]
theorem pgs_no {R : List Bool} {k : Nat} (h : R.getD k false = false) : pgs R (k + 1) = pgs R k := by
  unfold pgs
  rw [List.range_succ, List.filter_append, List.map_append]
  have h2 : R[k]?.getD false = false := by simpa using h
  simp [h2]
theorem pgs_len (R : List Bool) (k : Nat) : (pgs R k).length ≤ k := by
  unfold pgs
  rw [List.length_map]
  refine Nat.le_trans (List.length_filter_le _ _) ?_
  simp
theorem src_oneI {w : World} {z : Int} {B t : Nat} (hB : B = w.heap.size) : Src (w.alloc (.cells #[.int .i64 z] t)) (some ⟨B, 0, none⟩) (cellsI [z]) := by
  subst hB
  refine .inr ⟨_, 0, rfl, fun j hj => ?_⟩
  have : j = 0 := by simp [cellsI] at hj; omega
  subst this
  exact (Box.new (w := w) (B := w.heap.size) (vs := #[Value.int .i64 z]) rfl 0 _ rfl).1
theorem run_index_PS (arr : Array Value) (k : Nat) (b : Bool) (hk : k < 50) (h : arr[k]? = some (.bool b)) (w : World) : (Instr.index 128 (.agg arr) (.int .i64 (k : Int))).run Try.prog w = .ok (.bool b) w := by
  have hk1 : (0 : Int) ≤ (k : Int) ∧ (k : Int) < 50 := by omega
  have hsz : (sizeOf 4).run Try.prog w = .ok 1 w := by
    have hi : (Try.prog.info? 4).map (·.size) = some 1 := by kernel_rfl
    cases hq : Try.prog.info? 4 with
    | none => simp [hq] at hi
    | some i => simp [hq] at hi; simp [sizeOf, typeInfo, hq, hi]
  simp [Instr.index, run_underlying Try.underlying128, asIntOf, hk1, hsz, part, isAgg, run_underlying Try.underlying4, h, go_sem]
  intro h9; omega
/-- What TreePages answers. -/
def pagesA (H : List NM) (root : Int) : List Int × Int := match treeF H root with
  | none => ([], 1)
  | some s => (pgs s.R 50, 0)
set_option maxHeartbeats 1000000 in
theorem implTreePages (v : Value) (H : List NM) (root : Int) (w : World) (hsm : smallH H) (h : ReadsH w v H) :
    Calls Try.prog 40 #[v, .int .i64 root] w fun e w' => ∃ u R q, e = .returned (.tuple #[u, .int .i64 q]) ∧ pagesA H root = (R, q) ∧ w'.ownsRow w.heap.size 3 1 u R.length (cellsI R) ∧ R.length ≤ 50 ∧ Below w.heap.size w w' := by
  obtain ⟨a, c, rfl, hr⟩ := h
  have HR : Hid (ReadsH w (.agg #[.slice a H.length c]) H) := ⟨a, c, rfl, hr⟩
  have HS : Hid (smallH H) := hsm
  clear hr hsm
  go_enter Try.func40, Try.ntmps40
  go_wp2_with fail
  refine (readTree _ H root _ HS.out (HR.out.below ((Below.refl _ _).alloc (Nat.le_refl _) _))).mono ?_
  rintro e w1 ⟨hb1, (⟨hn, rfl⟩ | ⟨s, T, hs, rfl, a', c', top, pv, tm, _⟩)⟩
  · have F : Hid (pagesA H root = ([], 1)) := by show _ = _; unfold pagesA; rw [hn]
    have B1 : Hid (Below w.heap.size w w1) := Below.new hb1
    clear hn hb1
    go_wp2_with fail
    go_ret2
    exact ⟨_, _, _, rfl, F.out, World.ownsRow_nil _ _ _ _, by simp, B1.out⟩
  · have F : Hid (pagesA H root = (pgs s.R 50, 0)) := by show _ = _; unfold pagesA; rw [hs]
    have B1 : Hid (Below w.heap.size w w1) := Below.new hb1
    have RG : Hid (w1.rangeAt T 2 (s.R.map Value.bool)) := fun j v hv => by
      have hj : j < s.R.length := by simpa using (List.getElem?_eq_some_iff.1 hv).1
      obtain ⟨c1, _⟩ := blk_at tm.blk (tarr_R (k := j) hj)
      rw [c1, ← hv, List.getElem?_map, List.getElem?_eq_getElem hj, List.getD_eq_getElem?_getD, List.getElem?_eq_getElem hj]
      rfl
    have RL : Hid (s.R.length = 50) := tm.good.1
    have HI : Hid ((Try.prog.info? 128).map (·.size) = some (s.R.map Value.bool).length) := by show _ = _; rw [List.length_map, RL.out]; kernel_rfl
    clear hs hb1 tm
    go_wp2_with (refine wpList_load_mid rfl 128 _ rfl T 2 rfl (s.R.map Value.bool) _ RG.out Try.underlying128 rfl HI.out ?_)
    obtain ⟨arr, harr⟩ : ∃ arr, (List.map Value.bool s.R).toArray = arr := ⟨_, rfl⟩
    have AR : Hid (∀ k, k < 50 → arr[k]? = some (.bool (s.R.getD k false))) := fun k hk => by
      rw [← harr]
      have hj : k < s.R.length := by rw [RL.out]; exact hk
      simp [List.getElem?_eq_getElem hj]
    rw [harr]
    clear harr
    go_loopw [8, 23] (fun ov i wr => ∃ (k m : Nat) (u : Value), u = ov ∧ k ≤ 50 ∧ i = .int .i64 k ∧ m ≤ k ∧ Hid ((pgs s.R k).length = m) ∧ Hid (Below w.heap.size w wr) ∧ Hid (wr.ownsRow w.heap.size 3 1 u m (cellsI (pgs s.R k)))) (fun _ i _ => 50 - (intOf i).toNat)
    case atStart => exact ⟨0, 0, _, rfl, by omega, rfl, by omega, rfl, B1.out, World.ownsRow_nil _ _ _ _⟩
    case round =>
      obtain ⟨k, m, u, hu, hk, rfl, hmk, hm, hb, HW⟩ := hrel
      subst hu
      by_cases hlt : k < 50
      · have hai := AR.out k hlt
        have hki : (k : Int) < 50 := by omega
        have hk0 : (0 : Int) ≤ (k : Int) := by omega
        obtain ⟨bb, hbb⟩ : ∃ bb, s.R.getD k false = bb := ⟨_, rfl⟩
        rw [hbb] at hai
        have HBB : Hid (s.R.getD k false = bb) := hbb
        have hix := run_index_PS arr k bb hlt hai
        clear hbb hai
        cases bb with
        | false =>
          have P1 : Hid (pgs s.R (k + 1) = pgs s.R k) := pgs_no HBB.out
          go_wp2_with fail
          exact ⟨⟨k + 1, m, _, rfl, by omega, by go_num, by omega, by show _ = _; rw [P1.out]; exact hm.out, hb.out, by rw [P1.out]; exact HW.out⟩, by simp [intOf]; omega⟩
        | true =>
          have P1 : Hid (pgs s.R (k + 1) = pgs s.R k ++ [(k : Int)]) := pgs_yes HBB.out
          have XR : Hid (w.heap.size ≤ wr.heap.size) := hb.out.size
          have hlt3 : Hid (∀ g, Value.ownBlock u = some g → w.heap.size ≤ g ∧ g < wr.heap.size) := fun g e => HW.out.lt g e
          go_wp2_with (at_builtin; refine wpList_append_src _ rfl _ _ 44 rfl w.heap.size 3 (.int .i64 0) 1 8 Try.underlying44 infoI rfl (by decide) (by decide) _ m (cellsI (pgs s.R k)) rfl (HW.out.alloc _) (some ⟨wr.heap.size, 0, none⟩) 1 1 (cellsI [(k : Int)]) rfl rfl (src_oneI rfl) (cellsI_one _) (by omega) (le_alloc XR.out _) ?_)
          intro v2 w2 hown2 hgrow2
          have o2 : Hid (w2.ownsRow w.heap.size 3 1 v2 (m + 1) (cellsI (pgs s.R (k + 1)))) := by
            rw [← (show cellsI (pgs s.R k) ++ cellsI [(k : Int)] = cellsI (pgs s.R (k + 1)) by rw [P1.out]; simp [cellsI])]; exact hown2
          have B2 : Hid (Below w.heap.size w w2) := (hb.out.alloc hb.out.size _).grown hgrow2 (le_alloc hb.out.size _) (fun g e => (hlt3.out g e).1)
          have L2 : Hid ((pgs s.R (k + 1)).length = m + 1) := by show _ = _; rw [P1.out, List.length_append, hm.out]; rfl
          clear hown2 hgrow2
          go_wp2_with fail
          exact ⟨⟨k + 1, m + 1, _, rfl, by omega, by go_num, by omega, L2.out, B2.out, o2.out⟩, by simp [intOf]; omega⟩
      · have hk50 : k = 50 := by omega
        have FF : Hid (wr.ownsRow w.heap.size 3 1 u (pgs s.R 50).length (cellsI (pgs s.R 50)) ∧ (pgs s.R 50).length ≤ 50) := by
          refine ⟨?_, pgs_len _ _⟩
          rw [← hk50, hm.out]
          exact HW.out
        clear hk50
        go_wp2_with fail
        go_ret2
        exact ⟨_, _, _, rfl, F.out, FF.out.1, FF.out.2, hb.out⟩
end Go.Proofs.Ytfbomjcjemcgeaa
