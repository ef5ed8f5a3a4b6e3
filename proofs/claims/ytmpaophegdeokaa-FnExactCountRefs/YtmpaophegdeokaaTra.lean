
/-
  The pages that several trees reach: the program's. By an AI agent.
-/
import Derived.Test.YtmpaophegdeokaaTr9
namespace Go.Proofs.Ytmpaophegdeokaa
open Go.ChangeShapes Go.WideShapes Go.ChangeAt Go.RowKit Go.Deep
set_option linter.unusedVariables false
set_option maxRecDepth 100000
theorem readTreeE (v : Value) (H : List NM) (root : Int) (w : World) (hsm : smallH H) (h : ReadsH w v H) :
    Calls Try.prog 130 #[v, .int .i64 root] w fun e w' => ∃ tp ok, e = .returned (.tuple #[.pointer tp, .bool ok]) ∧ Below w.heap.size w w' ∧ (ok = false → treeF H root = none) ∧ (ok = true → ∃ s T, tp = some ⟨T, 0, none⟩ ∧ treeF H root = some s ∧ s.R.length = 50 ∧ w'.rangeAt T 2 (s.R.map Value.bool)) := by
  refine (readTree v H root w hsm h).mono ?_
  rintro e w' ⟨hb, (⟨h1, rfl⟩ | ⟨s, T, h1, rfl, a', c', top, pv, tm, _⟩)⟩
  · exact ⟨none, false, rfl, hb, fun _ => h1, fun e => by cases e⟩
  · refine ⟨_, true, rfl, hb, (fun e => by cases e), fun _ => ⟨s, T, rfl, h1, tm.good.1, fun j v hv => ?_⟩⟩
    · have hj : j < s.R.length := by simpa using (List.getElem?_eq_some_iff.1 hv).1
      obtain ⟨c1, _⟩ := blk_at tm.blk (tarr_R (k := j) hj)
      rw [c1, ← hv]
      exact (map_at hj).symm
theorem below_setCells {B b : Nat} {a : World} (hB : B ≤ b) : ∀ (vs : List Value) (o : Nat) (w : World), Below B a w → Below B a (w.setCells b o vs)
  | [], _, w, h => h
  | v :: r, o, w, h => by
    rw [World.setCells]
    exact below_setCells hB r (o + 1) _ (h.setCell hB v)
theorem box_range {w : World} {B : Nat} {vs : List Value} (h : Box w B vs) : w.rangeAt B 0 vs := fun j v hv => by
  rw [Nat.zero_add]; exact (h j v hv).1
theorem box_there {w : World} {B n : Nat} {vs : List Value} (h : Box w B vs) (hn : vs.length = n) : w.there B 0 n := fun j hj => by
  rw [Nat.zero_add]
  obtain ⟨h1, h2⟩ := h j _ (List.getElem?_eq_getElem (by omega))
  exact ⟨by rw [h1]; rfl, h2⟩
theorem bools_one (R : List Bool) : (R.map Value.bool).toArray.all (·.oneCell') = true := by
  refine all_oneCell_toArray fun v hv => ?_
  rw [List.mem_map] at hv
  obtain ⟨b, _, rfl⟩ := hv
  rfl
theorem load_PS {w : World} {B : Nat} {R : List Bool} (h : w.rangeAt B 0 (R.map Value.bool)) (hR : R.length = 50) : (loadVar 139 ⟨B, 0, none⟩).run Try.prog w = .ok (.agg (R.map Value.bool).toArray) w :=
  run_loadVar_mid w B 0 139 _ _ h Try.underlying139 rfl (by rw [List.length_map, hR]; kernel_rfl)
set_option maxHeartbeats 2000000 in
theorem reachedBy (v : Value) (H : List NM) (ra : Option Addr) (n rc : Nat) (L : List Int) (w : World) (hsm : smallH H) (h : ReadsH w v H) (hL : L.length = n) (hn : n ≤ 1048576) (hs : Src w ra (cellsI L)) :
    Calls Try.prog 105 #[v, .slice ra n rc] w fun e w' => Below w.heap.size w w' ∧ ((allF H L st0.R = none ∧ e = .returned (.tuple #[.agg (st0.R.map Value.bool).toArray, .bool false])) ∨ ∃ A, allF H L st0.R = some A ∧ A.length = 50 ∧ e = .returned (.tuple #[.agg (A.map Value.bool).toArray, .bool true])) := by
  obtain ⟨a, c, rfl, hr⟩ := h
  have HR : Hid (ReadsH w (.agg #[.slice a H.length c]) H) := ⟨a, c, rfl, hr⟩
  have HS : Hid (smallH H) := hsm
  have HL : Hid (L.length = n) := hL
  have HC : Hid (Src w ra (cellsI L)) := hs
  clear hr hsm hL hs
  go_enter Try.func105, Try.ntmps105
  go_wp2_with fail
  have B0 : Hid (Below w.heap.size w (((w.alloc (.cells #[.slice a H.length c] 72)).alloc (.cells (st0.R.map Value.bool).toArray 139)).alloc (.cells (st0.R.map Value.bool).toArray 139))) := (((Below.refl _ _).alloc (Nat.le_refl _) _).alloc (by simp) _).alloc (by simp; omega) _
  have Y0 : Hid (Box (((w.alloc (.cells #[.slice a H.length c] 72)).alloc (.cells (st0.R.map Value.bool).toArray 139)).alloc (.cells (st0.R.map Value.bool).toArray 139)) (w.heap.size + 1) (st0.R.map Value.bool)) := (Box.new (vs := (st0.R.map Value.bool).toArray) (by simp)).old _
  have O0 : Hid (Box (((w.alloc (.cells #[.slice a H.length c] 72)).alloc (.cells (st0.R.map Value.bool).toArray 139)).alloc (.cells (st0.R.map Value.bool).toArray 139)) (w.heap.size + 1 + 1) (st0.R.map Value.bool)) := Box.new (vs := (st0.R.map Value.bool).toArray) (by simp)
  go_loopw [15] (fun iv wr => ∃ (i : Nat) (A : List Bool), i ≤ n ∧ iv = .int .i64 i ∧ Hid (A.length = 50) ∧ Hid (allF H L st0.R = allF H (L.drop i) A) ∧ Hid (Below w.heap.size w wr) ∧ Hid (Box wr w.heap.size [.slice a H.length c]) ∧ Hid (Box wr (w.heap.size + 1) (st0.R.map Value.bool)) ∧ Hid (Box wr (w.heap.size + 1 + 1) (A.map Value.bool))) (fun i _ => n - (intOf i).toNat)
  case atStart => exact ⟨0, st0.R, by omega, rfl, by show _ = _; rfl, rfl, B0.out, ((Box.new rfl).old _).old _, Y0.out, O0.out⟩
  case round =>
    obtain ⟨i, A, hi, rfl, hA, hall, hb, hx, hy, ho⟩ := hrel
    by_cases hlt : i < n
    · obtain ⟨rb, o, r, rfl, hc1, HRT⟩ := srcI (HC.out.below hb.out) (i := i) (by rw [HL.out]; exact hlt)
      have hii : (i : Int) < (n : Int) := by omega
      have hi0 : (0 : Int) ≤ (i : Int) := by omega
      have ST : Hid (allF H (L.drop i) A = match treeF H r with | none => none | some s => allF H (L.drop (i + 1)) (orB A s.R)) := by show _ = _; rw [all_step (by rw [HL.out]; exact hlt), HRT.out]; cases treeF H r <;> rfl
      obtain ⟨p0, _⟩ := hx.out 0 _ rfl
      go_wp2_with fail
      refine (readTreeE _ H r _ HS.out (HR.out.below hb.out)).mono ?_
      rintro e w1 ⟨tp, ok, rfl, hb1, g1, g2⟩
      have B1 : Hid (Below w.heap.size w w1) := hb.out.trans (hb1.mono hb.out.size)
      have X1 : Hid (Box w1 w.heap.size [.slice a H.length c]) := hx.out.below hb1
      have Y1 : Hid (Box w1 (w.heap.size + 1) (st0.R.map Value.bool)) := hy.out.below hb1
      have O1 : Hid (Box w1 (w.heap.size + 1 + 1) (A.map Value.bool)) := ho.out.below hb1
      have G1 : Hid (ok = false → treeF H r = none) := g1
      have G2 := g2
      clear g1 g2 hb1 hb hx hy ho p0 hc1
      cases ok with
      | false =>
        have F : Hid (allF H L st0.R = none) := by show _ = _; rw [hall.out, ST.out, G1.out rfl]
        have TH : Hid (w1.there (w.heap.size + 1) 0 50) := box_there Y1.out (by rfl)
        have LD : Hid ((loadVar 139 ⟨w.heap.size + 1, 0, none⟩).run Try.prog (w1.setCells (w.heap.size + 1) 0 (st0.R.map Value.bool)) = .ok (.agg (st0.R.map Value.bool).toArray) (w1.setCells (w.heap.size + 1) 0 (st0.R.map Value.bool))) := load_PS (World.rangeAt_setCells_same _ _ _ _ TH.out) rfl
        have B2 : Hid (Below w.heap.size w (w1.setCells (w.heap.size + 1) 0 (st0.R.map Value.bool))) := below_setCells (by omega) _ _ _ B1.out
        go_wp2_with (refine wpList_store_mid rfl 139 _ _ rfl (w.heap.size + 1) 0 (st0.R.map Value.bool).toArray rfl rfl TH.out (by kernel_rfl) (bools_one _) ?_)
        have ld := LD.out
        exact bodyPost_ret (v := .tuple #[.agg (st0.R.map Value.bool).toArray, .bool false]) (by simp [results, Try.results105, ld, asAddr]) rfl ⟨B2.out, .inl ⟨F.out, rfl⟩⟩
      | true =>
        obtain ⟨s, T, rfl, hs, hR, rg⟩ := G2 rfl
        have F : Hid (allF H L st0.R = allF H (L.drop (i + 1)) (orB A s.R)) := by show _ = _; rw [hall.out, ST.out, hs]
        have RL : Hid (s.R.length = 50) := hR
        have RG : Hid (w1.rangeAt T 2 (s.R.map Value.bool)) := rg
        have HI : Hid ((Try.prog.info? 139).map (·.size) = some (s.R.map Value.bool).length) := by show _ = _; rw [List.length_map, RL.out]; kernel_rfl
        clear hs hR rg G2
        go_wp2_with (refine wpList_load_mid rfl 139 _ rfl T 2 rfl (s.R.map Value.bool) _ RG.out Try.underlying139 rfl HI.out ?_)
        obtain ⟨arr, harr⟩ : ∃ arr, (List.map Value.bool s.R).toArray = arr := ⟨_, rfl⟩
        have AR : Hid (∀ k, k < 50 → arr[k]? = some (.bool (s.R.getD k false))) := fun k hk => by
          rw [← harr]
          have hj : k < s.R.length := by rw [RL.out]; exact hk
          simp [List.getElem?_eq_getElem hj]
        rw [harr]
        clear harr HI RG
        go_loopw [32] (fun kv wr => ∃ k : Nat, k ≤ 50 ∧ kv = .int .i64 k ∧ Hid (Below w.heap.size w wr) ∧ Hid (Box wr w.heap.size [.slice a H.length c]) ∧ Hid (Box wr (w.heap.size + 1) (st0.R.map Value.bool)) ∧ Hid (Box wr (w.heap.size + 1 + 1) ((mixB A s.R k).map Value.bool))) (fun i _ => 50 - (intOf i).toNat)
        case atStart => exact ⟨0, by omega, rfl, B1.out, X1.out, Y1.out, by show Box _ _ ((mixB A s.R 0).map Value.bool); exact O1.out⟩
        case round =>
          obtain ⟨k, hk, rfl, hb2, hx2, hy2, ho2⟩ := hrel
          by_cases hlt2 : k < 50
          · have hki : (k : Int) < 50 := by omega
            have hk0 : (0 : Int) ≤ (k : Int) := by omega
            obtain ⟨y1, y1f⟩ := ho2.out k _ (map_at (R := mixB A s.R k) (k := k) (by rw [mix_length hA.out RL.out]; exact hlt2))
            rw [mix_get hA.out RL.out hlt2] at y1
            have hai := AR.out k hlt2
            obtain ⟨ba, hba⟩ : ∃ b, A.getD k false = b := ⟨_, rfl⟩
            obtain ⟨br, hbr⟩ : ∃ b, s.R.getD k false = b := ⟨_, rfl⟩
            rw [hba] at y1
            rw [hbr] at hai
            have NX : Hid ((mixB A s.R k).set k (ba || br) = mixB A s.R (k + 1)) := by show _ = _; rw [← hba, ← hbr]; exact mix_next hA.out RL.out hlt2
            have STEP : Hid (∀ b9 : Bool, b9 = (ba || br) → Below w.heap.size w (wr.setCell ⟨w.heap.size + 1 + 1, k, none⟩ (.bool b9)) ∧ Box (wr.setCell ⟨w.heap.size + 1 + 1, k, none⟩ (.bool b9)) w.heap.size [.slice a H.length c] ∧ Box (wr.setCell ⟨w.heap.size + 1 + 1, k, none⟩ (.bool b9)) (w.heap.size + 1) (st0.R.map Value.bool) ∧ Box (wr.setCell ⟨w.heap.size + 1 + 1, k, none⟩ (.bool b9)) (w.heap.size + 1 + 1) ((mixB A s.R (k + 1)).map Value.bool)) := fun b9 e9 => by
              subst e9
              refine ⟨(hb2.out.setCell (by show w.heap.size ≤ w.heap.size + 1 + 1; omega) _), hx2.out.other _ (by dsimp only; omega) _, hy2.out.other _ (by dsimp only; omega) _, ?_⟩
              have h1 := ho2.out.set k (.bool (ba || br))
              rw [← List.map_set, NX.out] at h1
              exact h1
            have hix := run_index_PS arr k br hlt2 hai
            clear hba hbr NX hb2 hx2 hy2 ho2 hai
            cases ba with
            | true =>
              go_wp2_with fail
              obtain ⟨n1, n2, n3, n4⟩ := STEP.out true rfl
              exact ⟨⟨k + 1, by omega, by go_num, n1, n2, n3, n4⟩, by simp [intOf]; omega⟩
            | false =>
              go_wp2_with fail
              obtain ⟨n1, n2, n3, n4⟩ := STEP.out br (by cases br <;> rfl)
              exact ⟨⟨k + 1, by omega, by go_num, n1, n2, n3, n4⟩, by simp [intOf]; omega⟩
          · have hk50 : k = 50 := by omega
            have O2 : Hid (Box wr (w.heap.size + 1 + 1) ((orB A s.R).map Value.bool)) := by
              have h1 := ho2.out
              rw [hk50, mix_end hA.out RL.out] at h1
              exact h1
            clear hk50
            go_wp2_with fail
            exact ⟨⟨i + 1, orB A s.R, by omega, by go_num, orB_length hA.out RL.out, F.out, hb2.out, hx2.out, hy2.out, O2.out⟩, by simp [intOf]; omega⟩
    · have F : Hid (allF H L st0.R = some A) := by show _ = _; rw [hall.out, List.drop_eq_nil_of_le (by rw [HL.out]; omega)]; rfl
      have RG : Hid (wr.rangeAt (w.heap.size + 1 + 1) 0 (A.map Value.bool)) := box_range ho.out
      have HI : Hid ((Try.prog.info? 139).map (·.size) = some (A.map Value.bool).length) := by show _ = _; rw [List.length_map, hA.out]; kernel_rfl
      have HI2 : Hid ((Try.prog.info? 139).map (·.size) = some (A.map Value.bool).toArray.size) := by show _ = _; rw [List.size_toArray, List.length_map, hA.out]; kernel_rfl
      have TH5 : Hid (wr.there (w.heap.size + 1) 0 50) := box_there hy.out rfl
      have e1 : (A.map Value.bool).toArray.size = 50 := by simp; exact hA.out
      have e2 : (A.map Value.bool).length = 50 := by simp; exact hA.out
      have TH : Hid (wr.there (w.heap.size + 1) 0 (A.map Value.bool).toArray.size) := by show World.there _ _ _ _; rw [e1]; exact TH5.out
      have LD : Hid ((loadVar 139 ⟨w.heap.size + 1, 0, none⟩).run Try.prog (wr.setCells (w.heap.size + 1) 0 (A.map Value.bool)) = .ok (.agg (A.map Value.bool).toArray) (wr.setCells (w.heap.size + 1) 0 (A.map Value.bool))) := load_PS (World.rangeAt_setCells_same _ _ _ _ (by rw [e2]; exact TH5.out)) hA.out
      have B2 : Hid (Below w.heap.size w (wr.setCells (w.heap.size + 1) 0 (A.map Value.bool))) := below_setCells (by omega) _ _ _ hb.out
      clear e1 e2
      go_wp2_with (first | (refine wpList_load_mid rfl 139 _ rfl (w.heap.size + 1 + 1) 0 rfl (A.map Value.bool) _ RG.out Try.underlying139 rfl HI.out ?_) | (refine wpList_store_mid rfl 139 _ _ rfl (w.heap.size + 1) 0 (A.map Value.bool).toArray rfl rfl TH.out HI2.out (bools_one _) ?_))
      have ld := LD.out
      exact bodyPost_ret (v := .tuple #[.agg (A.map Value.bool).toArray, .bool true]) (by simp [results, Try.results105, ld, asAddr]) rfl ⟨B2.out, .inr ⟨A, F.out, hA.out, rfl⟩⟩
end Go.Proofs.Ytmpaophegdeokaa
