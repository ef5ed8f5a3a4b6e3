/-
  Texts of the store, brought together: Tra, Opg, Lists4, Crc, Sums. By an AI agent.
-/
import Derived.Test.YtnnimocaanofjaaGreatDoorSq13
import Derived.Laws.BitsAllLaws
import Derived.Laws.Tables
namespace Go.Proofs.YtnnimocaanofjaaGreatDoor
open Go.ChangeShapes Go.WideShapes Go.ChangeAt Go.RowKit Go.Deep
set_option linter.unusedVariables false
set_option linter.unusedSimpArgs false
set_option maxRecDepth 100000
theorem readTreeE (v : Value) (H : List NM) (root : Int) (w : World) (hsm : smallH H) (h : ReadsH w v H) :
    Calls Tryz.prog 113 #[v, .int .i64 root] w fun e w' => ∃ tp ok, e = .returned (.tuple #[.pointer tp, .bool ok]) ∧ Below w.heap.size w w' ∧ (ok = false → treeF H root = none) ∧ (ok = true → ∃ s T, tp = some ⟨T, 0, none⟩ ∧ treeF H root = some s ∧ s.R.length = 50 ∧ w'.rangeAt T 2 (s.R.map Value.bool)) := by
  refine (readTree v H root w hsm h).mono ?_
  rintro e w' ⟨hb, (⟨h1, rfl⟩ | ⟨s, T, h1, rfl, a', c', top, pv, tm, _⟩)⟩
  · exact ⟨none, false, rfl, hb, fun _ => h1, fun e => by cases e⟩
  · refine ⟨_, true, rfl, hb, (fun e => by cases e), fun _ => ⟨s, T, rfl, h1, tm.good.1, fun j v hv => ?_⟩⟩
    · have hj : j < s.R.length := by simpa using (List.getElem?_eq_some_iff.1 hv).1
      obtain ⟨c1, _⟩ := blk_at tm.blk (tarr_R (k := j) hj)
      rw [c1, ← hv]
      exact (map_at hj).symm
theorem below_setCells {B b : Nat} {a : World} (hB : B ≤ b) : ∀ (vs : List Value) (o : Nat) (w : World), Below B a w → Below B a (w.setCells b o vs)
  | [], _, w, h => h
  | v :: r, o, w, h => by
    rw [World.setCells]
    exact below_setCells hB r (o + 1) _ (h.setCell hB v)
theorem box_range {w : World} {B : Nat} {vs : List Value} (h : Box w B vs) : w.rangeAt B 0 vs := fun j v hv => by
  rw [Nat.zero_add]; exact (h j v hv).1
theorem box_there {w : World} {B n : Nat} {vs : List Value} (h : Box w B vs) (hn : vs.length = n) : w.there B 0 n := fun j hj => by
  rw [Nat.zero_add]
  obtain ⟨h1, h2⟩ := h j _ (List.getElem?_eq_getElem (by omega))
  exact ⟨by rw [h1]; rfl, h2⟩
theorem bools_one (R : List Bool) : (R.map Value.bool).toArray.all (·.oneCell') = true := by
  refine all_oneCell_toArray fun v hv => ?_
  rw [List.mem_map] at hv
  obtain ⟨b, _, rfl⟩ := hv
  rfl
theorem load_PS {w : World} {B : Nat} {R : List Bool} (h : w.rangeAt B 0 (R.map Value.bool)) (hR : R.length = 50) : (loadVar 104 ⟨B, 0, none⟩).run Tryz.prog w = .ok (.agg (R.map Value.bool).toArray) w :=
  run_loadVar_mid w B 0 104 _ _ h Tryz.underlying104 rfl (by rw [List.length_map, hR]; kernel_rfl)
set_option maxHeartbeats 2000000 in
theorem reachedBy (v : Value) (H : List NM) (ra : Option Addr) (n rc : Nat) (L : List Int) (w : World) (hsm : smallH H) (h : ReadsH w v H) (hL : L.length = n) (hn : n ≤ 1048576) (hs : Src w ra (cellsI L)) :
    Calls Tryz.prog 137 #[v, .slice ra n rc] w fun e w' => Below w.heap.size w w' ∧ ((allF H L st0.R = none ∧ e = .returned (.tuple #[.agg (st0.R.map Value.bool).toArray, .bool false])) ∨ ∃ A, allF H L st0.R = some A ∧ A.length = 50 ∧ e = .returned (.tuple #[.agg (A.map Value.bool).toArray, .bool true])) := by
  obtain ⟨a, c, rfl, hr⟩ := h
  have HR : Hid (ReadsH w (.agg #[.slice a H.length c]) H) := ⟨a, c, rfl, hr⟩
  have HS : Hid (smallH H) := hsm
  have HL : Hid (L.length = n) := hL
  have HC : Hid (Src w ra (cellsI L)) := hs
  clear hr hsm hL hs
  go_enter Tryz.func137, Tryz.ntmps137
  go_wp2_with fail
  have B0 : Hid (Below w.heap.size w (((w.alloc (.cells #[.slice a H.length c] 45)).alloc (.cells (st0.R.map Value.bool).toArray 104)).alloc (.cells (st0.R.map Value.bool).toArray 104))) := (((Below.refl _ _).alloc (Nat.le_refl _) _).alloc (by simp) _).alloc (by simp; omega) _
  have Y0 : Hid (Box (((w.alloc (.cells #[.slice a H.length c] 45)).alloc (.cells (st0.R.map Value.bool).toArray 104)).alloc (.cells (st0.R.map Value.bool).toArray 104)) (w.heap.size + 1) (st0.R.map Value.bool)) := (Box.new (vs := (st0.R.map Value.bool).toArray) (by simp)).old _
  have O0 : Hid (Box (((w.alloc (.cells #[.slice a H.length c] 45)).alloc (.cells (st0.R.map Value.bool).toArray 104)).alloc (.cells (st0.R.map Value.bool).toArray 104)) (w.heap.size + 1 + 1) (st0.R.map Value.bool)) := Box.new (vs := (st0.R.map Value.bool).toArray) (by simp)
  go_loopw [15] (fun iv wr => ∃ (i : Nat) (A : List Bool), i ≤ n ∧ iv = .int .i64 i ∧ Hid (A.length = 50) ∧ Hid (allF H L st0.R = allF H (L.drop i) A) ∧ Hid (Below w.heap.size w wr) ∧ Hid (Box wr w.heap.size [.slice a H.length c]) ∧ Hid (Box wr (w.heap.size + 1) (st0.R.map Value.bool)) ∧ Hid (Box wr (w.heap.size + 1 + 1) (A.map Value.bool))) (fun i _ => n - (intOf i).toNat)
  case atStart => exact ⟨0, st0.R, by omega, rfl, by show _ = _; rfl, rfl, B0.out, ((Box.new rfl).old _).old _, Y0.out, O0.out⟩
  case round =>
    obtain ⟨i, A, hi, rfl, hA, hall, hb, hx, hy, ho⟩ := hrel
    by_cases hlt : i < n
    · obtain ⟨rb, o, r, rfl, hc1, HRT⟩ := srcI (HC.out.below hb.out) (i := i) (by rw [HL.out]; exact hlt)
      have hii : (i : Int) < (n : Int) := by omega
      have hi0 : (0 : Int) ≤ (i : Int) := by omega
      have ST : Hid (allF H (L.drop i) A = match treeF H r with | none => none | some s => allF H (L.drop (i + 1)) (orB A s.R)) := by show _ = _; rw [all_step (by rw [HL.out]; exact hlt), HRT.out]; cases treeF H r <;> rfl
      obtain ⟨p0, _⟩ := hx.out 0 _ rfl
      go_wp2_with fail
      refine (readTreeE _ H r _ HS.out (HR.out.below hb.out)).mono ?_
      rintro e w1 ⟨tp, ok, rfl, hb1, g1, g2⟩
      have B1 : Hid (Below w.heap.size w w1) := hb.out.trans (hb1.mono hb.out.size)
      have X1 : Hid (Box w1 w.heap.size [.slice a H.length c]) := hx.out.below hb1
      have Y1 : Hid (Box w1 (w.heap.size + 1) (st0.R.map Value.bool)) := hy.out.below hb1
      have O1 : Hid (Box w1 (w.heap.size + 1 + 1) (A.map Value.bool)) := ho.out.below hb1
      have G1 : Hid (ok = false → treeF H r = none) := g1
      have G2 := g2
      clear g1 g2 hb1 hb hx hy ho p0 hc1
      cases ok with
      | false =>
        have F : Hid (allF H L st0.R = none) := by show _ = _; rw [hall.out, ST.out, G1.out rfl]
        have TH : Hid (w1.there (w.heap.size + 1) 0 50) := box_there Y1.out (by rfl)
        have LD : Hid ((loadVar 104 ⟨w.heap.size + 1, 0, none⟩).run Tryz.prog (w1.setCells (w.heap.size + 1) 0 (st0.R.map Value.bool)) = .ok (.agg (st0.R.map Value.bool).toArray) (w1.setCells (w.heap.size + 1) 0 (st0.R.map Value.bool))) := load_PS (World.rangeAt_setCells_same _ _ _ _ TH.out) rfl
        have B2 : Hid (Below w.heap.size w (w1.setCells (w.heap.size + 1) 0 (st0.R.map Value.bool))) := below_setCells (by omega) _ _ _ B1.out
        go_wp2_with (refine wpList_store_mid rfl 104 _ _ rfl (w.heap.size + 1) 0 (st0.R.map Value.bool).toArray rfl rfl TH.out (by kernel_rfl) (bools_one _) ?_)
        have ld := LD.out
        exact bodyPost_ret (v := .tuple #[.agg (st0.R.map Value.bool).toArray, .bool false]) (by simp [results, Tryz.results137, ld, asAddr]) rfl ⟨B2.out, .inl ⟨F.out, rfl⟩⟩
      | true =>
        obtain ⟨s, T, rfl, hs, hR, rg⟩ := G2 rfl
        have F : Hid (allF H L st0.R = allF H (L.drop (i + 1)) (orB A s.R)) := by show _ = _; rw [hall.out, ST.out, hs]
        have RL : Hid (s.R.length = 50) := hR
        have RG : Hid (w1.rangeAt T 2 (s.R.map Value.bool)) := rg
        have HI : Hid ((Tryz.prog.info? 104).map (·.size) = some (s.R.map Value.bool).length) := by show _ = _; rw [List.length_map, RL.out]; kernel_rfl
        clear hs hR rg G2
        go_wp2_with (refine wpList_load_mid rfl 104 _ rfl T 2 rfl (s.R.map Value.bool) _ RG.out Tryz.underlying104 rfl HI.out ?_)
        obtain ⟨arr, harr⟩ : ∃ arr, (List.map Value.bool s.R).toArray = arr := ⟨_, rfl⟩
        have AR : Hid (∀ k, k < 50 → arr[k]? = some (.bool (s.R.getD k false))) := fun k hk => by
          rw [← harr]
          have hj : k < s.R.length := by rw [RL.out]; exact hk
          simp [List.getElem?_eq_getElem hj]
        rw [harr]
        clear harr HI RG
        go_loopw [32] (fun kv wr => ∃ k : Nat, k ≤ 50 ∧ kv = .int .i64 k ∧ Hid (Below w.heap.size w wr) ∧ Hid (Box wr w.heap.size [.slice a H.length c]) ∧ Hid (Box wr (w.heap.size + 1) (st0.R.map Value.bool)) ∧ Hid (Box wr (w.heap.size + 1 + 1) ((mixB A s.R k).map Value.bool))) (fun i _ => 50 - (intOf i).toNat)
        case atStart => exact ⟨0, by omega, rfl, B1.out, X1.out, Y1.out, by show Box _ _ ((mixB A s.R 0).map Value.bool); exact O1.out⟩
        case round =>
          obtain ⟨k, hk, rfl, hb2, hx2, hy2, ho2⟩ := hrel
          by_cases hlt2 : k < 50
          · have hki : (k : Int) < 50 := by omega
            have hk0 : (0 : Int) ≤ (k : Int) := by omega
            obtain ⟨y1, y1f⟩ := ho2.out k _ (map_at (R := mixB A s.R k) (k := k) (by rw [mix_length hA.out RL.out]; exact hlt2))
            rw [mix_get hA.out RL.out hlt2] at y1
            have hai := AR.out k hlt2
            obtain ⟨ba, hba⟩ : ∃ b, A.getD k false = b := ⟨_, rfl⟩
            obtain ⟨br, hbr⟩ : ∃ b, s.R.getD k false = b := ⟨_, rfl⟩
            rw [hba] at y1
            rw [hbr] at hai
            have NX : Hid ((mixB A s.R k).set k (ba || br) = mixB A s.R (k + 1)) := by show _ = _; rw [← hba, ← hbr]; exact mix_next hA.out RL.out hlt2
            have STEP : Hid (∀ b9 : Bool, b9 = (ba || br) → Below w.heap.size w (wr.setCell ⟨w.heap.size + 1 + 1, k, none⟩ (.bool b9)) ∧ Box (wr.setCell ⟨w.heap.size + 1 + 1, k, none⟩ (.bool b9)) w.heap.size [.slice a H.length c] ∧ Box (wr.setCell ⟨w.heap.size + 1 + 1, k, none⟩ (.bool b9)) (w.heap.size + 1) (st0.R.map Value.bool) ∧ Box (wr.setCell ⟨w.heap.size + 1 + 1, k, none⟩ (.bool b9)) (w.heap.size + 1 + 1) ((mixB A s.R (k + 1)).map Value.bool)) := fun b9 e9 => by
              subst e9
              refine ⟨(hb2.out.setCell (by show w.heap.size ≤ w.heap.size + 1 + 1; omega) _), hx2.out.other _ (by dsimp only; omega) _, hy2.out.other _ (by dsimp only; omega) _, ?_⟩
              have h1 := ho2.out.set k (.bool (ba || br))
              rw [← List.map_set, NX.out] at h1
              exact h1
            have hix := run_index_PS arr k br hlt2 hai
            clear hba hbr NX hb2 hx2 hy2 ho2 hai
            cases ba with
            | true =>
              go_wp2_with fail
              obtain ⟨n1, n2, n3, n4⟩ := STEP.out true rfl
              exact ⟨⟨k + 1, by omega, by go_num, n1, n2, n3, n4⟩, by simp [intOf]; omega⟩
            | false =>
              go_wp2_with fail
              obtain ⟨n1, n2, n3, n4⟩ := STEP.out br (by cases br <;> rfl)
              exact ⟨⟨k + 1, by omega, by go_num, n1, n2, n3, n4⟩, by simp [intOf]; omega⟩
          · have hk50 : k = 50 := by omega
            have O2 : Hid (Box wr (w.heap.size + 1 + 1) ((orB A s.R).map Value.bool)) := by
              have h1 := ho2.out
              rw [hk50, mix_end hA.out RL.out] at h1
              exact h1
            clear hk50
            go_wp2_with fail
            exact ⟨⟨i + 1, orB A s.R, by omega, by go_num, orB_length hA.out RL.out, F.out, hb2.out, hx2.out, hy2.out, O2.out⟩, by simp [intOf]; omega⟩
    · have F : Hid (allF H L st0.R = some A) := by show _ = _; rw [hall.out, List.drop_eq_nil_of_le (by rw [HL.out]; omega)]; rfl
      have RG : Hid (wr.rangeAt (w.heap.size + 1 + 1) 0 (A.map Value.bool)) := box_range ho.out
      have HI : Hid ((Tryz.prog.info? 104).map (·.size) = some (A.map Value.bool).length) := by show _ = _; rw [List.length_map, hA.out]; kernel_rfl
      have HI2 : Hid ((Tryz.prog.info? 104).map (·.size) = some (A.map Value.bool).toArray.size) := by show _ = _; rw [List.size_toArray, List.length_map, hA.out]; kernel_rfl
      have TH5 : Hid (wr.there (w.heap.size + 1) 0 50) := box_there hy.out rfl
      have e1 : (A.map Value.bool).toArray.size = 50 := by simp; exact hA.out
      have e2 : (A.map Value.bool).length = 50 := by simp; exact hA.out
      have TH : Hid (wr.there (w.heap.size + 1) 0 (A.map Value.bool).toArray.size) := by show World.there _ _ _ _; rw [e1]; exact TH5.out
      have LD : Hid ((loadVar 104 ⟨w.heap.size + 1, 0, none⟩).run Tryz.prog (wr.setCells (w.heap.size + 1) 0 (A.map Value.bool)) = .ok (.agg (A.map Value.bool).toArray) (wr.setCells (w.heap.size + 1) 0 (A.map Value.bool))) := load_PS (World.rangeAt_setCells_same _ _ _ _ (by rw [e2]; exact TH5.out)) hA.out
      have B2 : Hid (Below w.heap.size w (wr.setCells (w.heap.size + 1) 0 (A.map Value.bool))) := below_setCells (by omega) _ _ _ hb.out
      clear e1 e2
      go_wp2_with (first | (refine wpList_load_mid rfl 104 _ rfl (w.heap.size + 1 + 1) 0 rfl (A.map Value.bool) _ RG.out Tryz.underlying104 rfl HI.out ?_) | (refine wpList_store_mid rfl 104 _ _ rfl (w.heap.size + 1) 0 (A.map Value.bool).toArray rfl rfl TH.out HI2.out (bools_one _) ?_))
      have ld := LD.out
      exact bodyPost_ret (v := .tuple #[.agg (A.map Value.bool).toArray, .bool true]) (by simp [results, Tryz.results137, ld, asAddr]) rfl ⟨B2.out, .inr ⟨A, F.out, hA.out, rfl⟩⟩
def zN (k : Nat) : List Value := cellsN (List.replicate k nv0)
theorem zN_succ (k : Nat) : zN (k + 1) = .bool false :: .slice none 0 0 :: .slice none 0 0 :: .slice none 0 0 :: zN k := rfl
theorem fresh_row (w : World) : World.ownsRow (w.alloc (.cells (madeCells #[.bool false, .slice none 0 0, .slice none 0 0, .slice none 0 0] 200) 137)) w.heap.size 137 4 (.slice (some ⟨w.heap.size, 0, none⟩) 50 50) 50 (cellsN [] ++ zN 50) := by
  refine ⟨by rw [List.length_append]; unfold zN; rw [cellsN_length, cellsN_length]; simp, .inr ⟨w.heap.size, 50, _, rfl, Nat.le_refl _, heap_alloc_new w _, Nat.le_refl _, by unfold maxLen; omega, by simp [size_madeCells], ?_⟩⟩
  show _ = zN 50
  unfold zN
  rw [← made50, List.take_of_length_le]
  simp [size_madeCells]
theorem keep_take (A : List Bool) (H : List NM) (k : Nat) (hk : k < 50) : (keepH A H).take (k + 1) = (keepH A H).take k ++ [if A.getD k false = true then H.getD k nm0 else nm0] := by
  rw [List.take_succ_eq_append_getElem (by simp [keepH]; omega)]
  simp [keepH]
theorem keep_len (A : List Bool) (H : List NM) : (keepH A H).length = 50 := by simp [keepH]
set_option maxHeartbeats 4000000 in
theorem onlyPagesI (a : Option Addr) (c : Nat) (H : List NM) (S : List Bool) (w : World) (hL : H.length = 50) (hA : S.length = 50) (hs : ∀ D ∈ H, wtN D ≤ 1048576) (h : ReadsHL w a H) :
    Calls Tryz.prog 139 #[.slice a 50 c, .agg (S.map Value.bool).toArray] w fun e w' => ∃ v, e = .returned v ∧ OwnsHL w' w.heap.size w'.heap.size v 50 (keepH S H) ∧ Below w.heap.size w w' := by
  have hmk : ∀ w : World, (Instr.makeSlice 43 (.int .i64 50) (.int .i64 50)).run Tryz.prog w = .ok (.slice (some ⟨w.heap.size, 0, none⟩) 50 50) (w.alloc (.cells (madeCells #[.bool false, .slice none 0 0, .slice none 0 0, .slice none 0 0] 200) 137)) := fun w => run_make_N 50 (by omega) w
  have HH : Hid (ReadsHL w a H) := h
  have HL : Hid (H.length = 50) := hL
  have HA : Hid (S.length = 50) := hA
  have HS : Hid (∀ D ∈ H, wtN D ≤ 1048576) := hs
  clear h hL hs hA
  obtain ⟨U, hU⟩ : ∃ U, (S.map Value.bool).toArray = U := ⟨_, rfl⟩
  have HU : Hid ((S.map Value.bool).toArray = U) := hU
  rw [hU]
  clear hU
  go_enter Tryz.func139, Tryz.ntmps139
  go_wp2_with fail
  clear hmk
  have AB : Hid (Below w.heap.size w ((w.alloc (.cells U 104)).alloc (.cells (madeCells #[.bool false, .slice none 0 0, .slice none 0 0, .slice none 0 0] 200) 137))) := ((Below.refl _ _).alloc (Nat.le_refl _) _).alloc (by simp) _
  have HO : Hid (((w.alloc (.cells U 104)).alloc (.cells (madeCells #[.bool false, .slice none 0 0, .slice none 0 0, .slice none 0 0] 200) 137)).ownsRow (w.heap.size + 1) 137 4 (.slice (some ⟨w.heap.size + 1, 0, none⟩) 50 50) 50 (cellsN [] ++ zN 50)) := by
    obtain ⟨V, h1, h2, h3⟩ := fresh_own (w.alloc (.cells U 104))
    have h9 : (w.alloc (.cells U 104)).heap.size = w.heap.size + 1 := by simp
    have hrow := (fresh_row (w.alloc (.cells U 104)))
    rw [h9] at hrow
    exact hrow
  go_loopw [11] (fun i wr => ∃ (k : Nat) (V : List NV), k ≤ 50 ∧ i = .int .i64 k ∧ Hid (V.length = k) ∧ Hid (Below w.heap.size w wr) ∧ Hid (Box wr w.heap.size (S.map Value.bool)) ∧ Hid (OwnsVs wr (w.heap.size + 1) wr.heap.size V ((keepH S H).take k)) ∧ Hid (wr.ownsRow (w.heap.size + 1) 137 4 (.slice (some ⟨w.heap.size + 1, 0, none⟩) 50 50) 50 (cellsN V ++ zN (50 - k)))) (fun i _ => 50 - (intOf i).toNat)
  case atStart =>
    refine ⟨0, [], by omega, rfl, rfl, AB.out, ?_, ?_, HO.out⟩
    · show Box _ _ _
      have h9 : Box (w.alloc (.cells U 104)) w.heap.size U.toList := Box.new rfl
      rw [← HU.out] at h9 ⊢
      exact h9.old _
    · show OwnsVs _ _ _ [] []
      exact (by simp : w.heap.size + 1 ≤ ((w.alloc _).alloc _).heap.size)
  case round =>
    clear HO AB
    obtain ⟨k, V, hk, rfl, hV, hb, hbx, hvs, ho⟩ := hrel
    by_cases hlt : k < 50
    · obtain ⟨bk, o, D, a1, c1, a2, c2, a3, c3, rfl, r0, r1, r2, r3, hD, hR⟩ := srcN (HH.out.below hb.out) (i := k) (by rw [HL.out]; exact hlt)
      have SD : Hid (wtN D ≤ 1048576) := by show wtN D ≤ _; rw [← hD.out]; exact HS.out _ (getD_memH H k (by rw [HL.out]; exact hlt))
      have hk0 : (0 : Int) ≤ (k : Int) := by omega
      have hki : (k : Int) < (50 : Int) := by omega
      have HT : Hid ((keepH S H).take (k + 1) = (keepH S H).take k ++ [if S.getD k false = true then H.getD k nm0 else nm0]) := keep_take S H k hlt
      obtain ⟨A, hA⟩ : ∃ A, D.A = A := ⟨_, rfl⟩
      obtain ⟨n1, hn1⟩ : ∃ n, D.P.length = n := ⟨_, rfl⟩
      obtain ⟨n2, hn2⟩ : ∃ n, D.L.length = n := ⟨_, rfl⟩
      obtain ⟨n3, hn3⟩ : ∃ n, D.K.length = n := ⟨_, rfl⟩
      have HD : Hid (D.A = A ∧ D.P.length = n1 ∧ D.L.length = n2 ∧ D.K.length = n3) := ⟨hA, hn1, hn2, hn3⟩
      rw [hA] at r0 hR
      rw [hn1] at r1 hR
      rw [hn2] at r2 hR
      rw [hn3] at r3 hR
      clear hA hn1 hn2 hn3
      have ZK : Hid (zN (50 - k) = .bool false :: .slice none 0 0 :: .slice none 0 0 :: .slice none 0 0 :: zN (50 - (k + 1))) := by
        show _ = _
        rw [show 50 - k = (50 - (k + 1)) + 1 by omega, zN_succ]
      have BK : Hid (Below wr.heap.size wr (wr.alloc (.cells #[.bool A, .slice a1 n1 c1, .slice a2 n2 c2, .slice a3 n3 c3] 137))) := (Below.refl _ _).alloc (Nat.le_refl _) _
      obtain ⟨x, hx⟩ : ∃ x, S.getD k false = x := ⟨_, rfl⟩
      have HX : Hid (S.getD k false = x) := hx
      have cx : (wr.alloc (.cells #[.bool A, .slice a1 n1 c1, .slice a2 n2 c2, .slice a3 n3 c3] 137)).cell? ⟨w.heap.size, k, none⟩ = some (.bool x) := by
        refine ((hbx.out.old _) k _ ?_).1
        rw [List.getElem?_map, List.getElem?_eq_getElem (by rw [HA.out]; exact hlt), ← hx, List.getD_eq_getElem?_getD, List.getElem?_eq_getElem (by rw [HA.out]; exact hlt)]
        rfl
      clear hx
      cases x with
      | false =>
        go_wp2_with fail
        have ON : Hid (OwnsVs (wr.alloc (.cells #[.bool A, .slice a1 n1 c1, .slice a2 n2 c2, .slice a3 n3 c3] 137)) (w.heap.size + 1) (wr.alloc (.cells #[.bool A, .slice a1 n1 c1, .slice a2 n2 c2, .slice a3 n3 c3] 137)).heap.size (V ++ [nv0]) ((keepH S H).take (k + 1))) := by
          show OwnsVs _ _ _ _ _
          rw [HT.out, HX.out]
          exact OwnsVs.snoc (ownN_nil _ _ _) BK.out.size (hvs.out.below BK.out)
        have OR : Hid ((wr.alloc (.cells #[.bool A, .slice a1 n1 c1, .slice a2 n2 c2, .slice a3 n3 c3] 137)).ownsRow (w.heap.size + 1) 137 4 (.slice (some ⟨w.heap.size + 1, 0, none⟩) 50 50) 50 (cellsN (V ++ [nv0]) ++ zN (50 - (k + 1)))) := by
          have h9 := own_below ho.out BK.out
          rw [ZK.out] at h9
          rw [cellsN_append, List.append_assoc]
          exact h9
        exact ⟨⟨k + 1, V ++ [nv0], by omega, by go_num, by show _ = _; rw [List.length_append, hV.out]; rfl, hb.out.trans (BK.out.mono hb.out.size), hbx.out.old _, ON, OR⟩, by simp [intOf]; omega⟩
      | true =>
        go_wp2_with fail
        refine (copyNodeI _ D _ SD.out (hR.out.below BK.out)).mono ?_
        rintro e w1 ⟨v1, rfl, own1, hb1⟩
        obtain ⟨b1, d1, b2, d2, b3, d3, rfl⟩ := own1.lit
        have BL : Hid (Below wr.heap.size wr w1) := BK.out.trans (hb1.mono BK.out.size)
        have HB : Hid (Below w.heap.size w w1) := hb.out.trans (BL.out.mono hb.out.size)
        rw [HD.out.1, HD.out.2.1, HD.out.2.2.1, HD.out.2.2.2] at own1 ⊢
        have HV1 : Hid (OwnsVs w1 (w.heap.size + 1) w1.heap.size (V ++ [⟨A, .slice b1 n1 d1, .slice b2 n2 d2, .slice b3 n3 d3⟩]) ((keepH S H).take (k + 1))) := by
          show OwnsVs _ _ _ _ _
          rw [HT.out, HX.out, hD.out]
          exact OwnsVs.snoc (own1.mono BK.out.size (Nat.le_refl _)) BL.out.size (hvs.out.below BL.out)
        have HO1 : Hid (w1.ownsRow (w.heap.size + 1) 137 4 (.slice (some ⟨w.heap.size + 1, 0, none⟩) 50 50) 50 (cellsN V ++ .bool false :: .slice none 0 0 :: .slice none 0 0 :: .slice none 0 0 :: zN (50 - (k + 1)))) := by
          have h9 := own_below ho.out BL.out
          rw [ZK.out] at h9
          exact h9
        have HX1 : Hid (Box w1 w.heap.size (S.map Value.bool)) := hbx.out.below BL.out
        have HCL : Hid ((cellsN V).length = k * 4) := by show _ = _; rw [cellsN_length, hV.out]
        clear hb hb1 ho r0 r1 r2 r3 hvs own1 BL BK hbx cx ZK
        obtain ⟨x0, f0⟩ := own_at HO1.out (mid0 _ _ _ _ _ _ _ HCL.out)
        obtain ⟨x1, f1⟩ := own_at HO1.out (mid1 _ _ _ _ _ _ _ HCL.out)
        obtain ⟨x2, f2⟩ := own_at HO1.out (mid2 _ _ _ _ _ _ _ HCL.out)
        obtain ⟨x3, f3⟩ := own_at HO1.out (mid3 _ _ _ _ _ _ _ HCL.out)
        have y1 := off_other (x := .bool A) x1 (j := k * 4) (by omega)
        have y2 := off_other (x := .slice b1 n1 d1) (off_other (x := .bool A) x2 (j := k * 4) (by omega)) (j := k * 4 + 1) (by omega)
        have y3 := off_other (x := .slice b2 n2 d2) (off_other (x := .slice b1 n1 d1) (off_other (x := .bool A) x3 (j := k * 4) (by omega)) (j := k * 4 + 1) (by omega)) (j := k * 4 + 2) (by omega)
        have HF : Hid (OwnsVs ((((w1.setCell ⟨w.heap.size + 1, k * 4, none⟩ (.bool A)).setCell ⟨w.heap.size + 1, k * 4 + 1, none⟩ (.slice b1 n1 d1)).setCell ⟨w.heap.size + 1, k * 4 + 2, none⟩ (.slice b2 n2 d2)).setCell ⟨w.heap.size + 1, k * 4 + 3, none⟩ (.slice b3 n3 d3)) (w.heap.size + 1) w1.heap.size (V ++ [⟨A, .slice b1 n1 d1, .slice b2 n2 d2, .slice b3 n3 d3⟩]) ((keepH S H).take (k + 1)) ∧ World.ownsRow ((((w1.setCell ⟨w.heap.size + 1, k * 4, none⟩ (.bool A)).setCell ⟨w.heap.size + 1, k * 4 + 1, none⟩ (.slice b1 n1 d1)).setCell ⟨w.heap.size + 1, k * 4 + 2, none⟩ (.slice b2 n2 d2)).setCell ⟨w.heap.size + 1, k * 4 + 3, none⟩ (.slice b3 n3 d3)) (w.heap.size + 1) 137 4 (.slice (some ⟨w.heap.size + 1, 0, none⟩) 50 50) 50 (cellsN (V ++ [⟨A, .slice b1 n1 d1, .slice b2 n2 d2, .slice b3 n3 d3⟩]) ++ zN (50 - (k + 1)))) := by
          have hln : (cellsN V ++ .bool false :: .slice none 0 0 :: .slice none 0 0 :: .slice none 0 0 :: zN (50 - (k + 1))).length = 50 * 4 := by
            have h9 := HO1.out.1
            exact h9
          have s0 := own_set HO1.out (k * 4) (by rw [hln]; omega) (.bool A)
          have s1 := own_set s0 (k * 4 + 1) (by rw [List.length_set, hln]; omega) (.slice b1 n1 d1)
          have s2 := own_set s1 (k * 4 + 2) (by rw [List.length_set, List.length_set, hln]; omega) (.slice b2 n2 d2)
          have s3 := own_set s2 (k * 4 + 3) (by rw [List.length_set, List.length_set, List.length_set, hln]; omega) (.slice b3 n3 d3)
          rw [set4 _ _ _ _ _ _ _ _ _ _ _ HCL.out] at s3
          refine ⟨OwnsVs.setKind (Lib.ownsRow_kind s2 _ rfl) _ (OwnsVs.setKind (Lib.ownsRow_kind s1 _ rfl) _ (OwnsVs.setKind (Lib.ownsRow_kind s0 _ rfl) _ (OwnsVs.setKind (Lib.ownsRow_kind HO1.out _ rfl) _ HV1.out))), ?_⟩
          rw [cellsN_append, List.append_assoc]
          exact s3
        have HX2 : Hid (Box ((((w1.setCell ⟨w.heap.size + 1, k * 4, none⟩ (.bool A)).setCell ⟨w.heap.size + 1, k * 4 + 1, none⟩ (.slice b1 n1 d1)).setCell ⟨w.heap.size + 1, k * 4 + 2, none⟩ (.slice b2 n2 d2)).setCell ⟨w.heap.size + 1, k * 4 + 3, none⟩ (.slice b3 n3 d3)) w.heap.size (S.map Value.bool)) := (((HX1.out.other _ (by dsimp only; omega) _).other _ (by dsimp only; omega) _).other _ (by dsimp only; omega) _).other _ (by dsimp only; omega) _
        have HB2 : Hid (Below w.heap.size w ((((w1.setCell ⟨w.heap.size + 1, k * 4, none⟩ (.bool A)).setCell ⟨w.heap.size + 1, k * 4 + 1, none⟩ (.slice b1 n1 d1)).setCell ⟨w.heap.size + 1, k * 4 + 2, none⟩ (.slice b2 n2 d2)).setCell ⟨w.heap.size + 1, k * 4 + 3, none⟩ (.slice b3 n3 d3))) := (((HB.out.setCell (by dsimp only; omega) _).setCell (by dsimp only; omega) _).setCell (by dsimp only; omega) _).setCell (by dsimp only; omega) _
        clear HV1 HO1 HX1 HB
        go_wp2_with fail
        refine ⟨⟨k + 1, (V ++ [⟨A, .slice b1 n1 d1, .slice b2 n2 d2, .slice b3 n3 d3⟩]), by omega, by go_num, by show _ = _; rw [List.length_append, hV.out]; rfl, HB2, HX2, ?_, ?_⟩, by simp [intOf]; omega⟩
        · have := HF.out.1
          show OwnsVs _ _ _ _ _
          simp only [World.size_setCell]
          exact this
        · exact HF.out.2
    · have hki : ¬ (k : Int) < (50 : Int) := by omega
      have hkn : k = 50 := by omega
      have HF : Hid (OwnsHL wr (w.heap.size + 1) wr.heap.size (.slice (some ⟨w.heap.size + 1, 0, none⟩) 50 50) 50 (keepH S H)) := by
        have h1 := hvs.out
        rw [List.take_of_length_le (by rw [keep_len]; omega)] at h1
        have h2 := ho.out
        rw [hkn] at h2
        have h3 : zN (50 - 50) = [] := rfl
        rw [h3, List.append_nil] at h2
        exact ⟨V, h2, fun j e => (h2.lt j e).2, h1⟩
      clear hkn
      go_wp2_with fail
      go_ret
      exact ⟨_, rfl, HF.out.mono (by omega) (Nat.le_refl _), hb.out⟩
def cellsB (L : List Nat) : List Value := L.map fun x => .int .u8 ((x : Nat) : Int)
theorem cellsB_length (L : List Nat) : (cellsB L).length = L.length := by simp [cellsB]
theorem cellsB_append (L M : List Nat) : cellsB (L ++ M) = cellsB L ++ cellsB M := by simp [cellsB]
theorem cellsB_get (L : List Nat) (i : Nat) (h : i < L.length) : (cellsB L)[i]? = some (.int .u8 ((L.getD i 0 : Nat) : Int)) := by
  simp [cellsB, h]
theorem cellsB_one (L : List Nat) : ∀ u ∈ cellsB L, u.oneCell' = true := by
  intro u hu
  simp only [cellsB, List.mem_map] at hu
  obtain ⟨x, _, rfl⟩ := hu
  rfl
theorem srcB {w : World} {a : Option Addr} {L : List Nat} (h : Src w a (cellsB L)) {i : Nat} (hi : i < L.length) : ∃ b o x, a = some ⟨b, o, none⟩ ∧ w.cell? ⟨b, o + i, none⟩ = some (.int .u8 ((x : Nat) : Int)) ∧ Hid (L.getD i 0 = x) := by
  rcases h with h | ⟨b, o, rfl, hc⟩
  · rw [← cellsB_length, h] at hi; exact absurd hi (by simp)
  · have := hc i (by rw [cellsB_length]; exact hi)
    rw [getD_some (cellsB_get L i hi)] at this
    exact ⟨b, o, _, rfl, this, rfl⟩
theorem infoB : (Tryz.prog.info? 5).map (fun i => (i.zero, i.size, i.bytes)) = some (some (.int .u8 0), 1, 1) := by kernel_rfl
def tabN : List Nat := [0, 498536548, 997073096, 651767980, 1994146192, 1802195444, 1303535960, 1342533948, 3988292384, 4027552580, 3604390888, 3412177804, 2607071920, 2262029012, 2685067896, 3183342108]
def tb (i : Nat) : Nat := tabN.getD i 0
theorem tb_lt (i : Nat) : tb i < 4294967296 := by
  unfold tb
  by_cases h : i < 16
  · have : ∀ j : Fin 16, tabN.getD j.val 0 < 4294967296 := by decide
    exact this ⟨i, h⟩
  · rw [List.getD_eq_getElem?_getD, List.getElem?_eq_none (by simp [tabN]; omega)]; decide
def half (r i : Nat) : Nat := r / 16 ^^^ tb i
theorem half_lt (r i : Nat) (h : r < 4294967296) : half r i < 4294967296 := by
  unfold half
  have := tb_lt i
  exact Nat.xor_lt_two_pow (n := 32) (by omega) (by omega)
def stepI (r c : Nat) : Nat := half (half (r ^^^ c) ((r ^^^ c) % 16)) (half (r ^^^ c) ((r ^^^ c) % 16) % 16)
def stepS (r c : Nat) : Nat := half (half r ((r ^^^ c) % 16)) ((half r ((r ^^^ c) % 16) ^^^ c / 16) % 16)
theorem xor_div16 (a b : Nat) : (a ^^^ b) / 16 = a / 16 ^^^ b / 16 := by
  have := Nat.shiftRight_xor_distrib (a := a) (b := b) (i := 4)
  simpa [Nat.shiftRight_eq_div_pow] using this
theorem step_eq (r c : Nat) (hc : c < 256) : stepI r c = stepS r c := by
  have h1 : half (r ^^^ c) ((r ^^^ c) % 16) = half r ((r ^^^ c) % 16) ^^^ c / 16 := by
    unfold half
    rw [xor_div16]
    ac_rfl
  unfold stepI stepS
  rw [h1]
  generalize half r ((r ^^^ c) % 16) = y
  show half (y ^^^ c / 16) ((y ^^^ c / 16) % 16) = half y ((y ^^^ c / 16) % 16)
  unfold half
  rw [xor_div16, show c / 16 / 16 = 0 from by omega, Nat.xor_zero]
def crcTo (z : Nat → Nat) : Nat → Nat
  | 0 => 4294967295
  | k + 1 => stepS (crcTo z k) (z k)
theorem stepS_lt (r c : Nat) (h : r < 4294967296) : stepS r c < 4294967296 := half_lt _ _ (half_lt _ _ h)
theorem crcTo_lt (z : Nat → Nat) (k : Nat) : crcTo z k < 4294967296 := by
  induction k with
  | zero => show 4294967295 < 4294967296; omega
  | succ k ih => exact stepS_lt _ _ ih
def crc (z : Nat → Nat) (n : Nat) : Nat := if n > 65536 then 0 else crcTo z n ^^^ 4294967295
theorem xor_all (r : Nat) (h : r < 4294967296) : r ^^^ 4294967295 = 4294967295 - r := by
  have h1 : (BitVec.ofNat 32 r ^^^ BitVec.allOnes 32).toNat = (~~~ BitVec.ofNat 32 r).toNat := by rw [BitVec.xor_allOnes]
  rw [BitVec.toNat_xor, BitVec.toNat_not, BitVec.toNat_ofNat, BitVec.toNat_allOnes, Nat.mod_eq_of_lt (by omega)] at h1
  exact h1
theorem i64_wrap (n : Nat) (h : n < 9223372036854775808) : IntKind.i64.wrap (n : Int) = n := by
  simp [IntKind.wrap, IntKind.bits, IntKind.signed]; omega
theorem i64_xor_nat (a b : Nat) (ha : a < 9223372036854775808) (hb : b < 9223372036854775808) : bits .xor .i64 (a : Int) (b : Int) = ((a ^^^ b : Nat) : Int) := by
  have hx : a ^^^ b < 2 ^ 63 := Nat.xor_lt_two_pow (by omega) (by omega)
  show IntKind.i64.wrap ((BitVec.ofInt 64 (a : Int) ^^^ BitVec.ofInt 64 (b : Int)).toNat : Int) = _
  rw [BitVec.toNat_xor, ofInt_u64 a (by omega), ofInt_u64 b (by omega)]
  exact i64_wrap _ (by omega)
theorem i64_and_nat (a b : Nat) (ha : a < 9223372036854775808) (hb : b < 9223372036854775808) : bits .and .i64 (a : Int) (b : Int) = ((a &&& b : Nat) : Int) := by
  have hx : a &&& b < 2 ^ 63 := Nat.and_lt_two_pow _ (by omega)
  show IntKind.i64.wrap ((BitVec.ofInt 64 (a : Int) &&& BitVec.ofInt 64 (b : Int)).toNat : Int) = _
  rw [BitVec.toNat_and, ofInt_u64 a (by omega), ofInt_u64 b (by omega)]
  exact i64_wrap _ (by omega)
theorem mask15 (x : Nat) : x &&& 15 = x % 16 := Nat.and_two_pow_sub_one_eq_mod x 4
theorem below_setRow {B : Nat} {a w : World} (h : Below B a w) (g : Nat) (hg : B ≤ g) (cs : Array Value) : Below B a (w.setRow g cs) :=
  h.trans ⟨rfl, rfl, rfl, by simp, fun k hk => setRow_other w g k cs (by omega)⟩
abbrev BV (z : Nat → Nat) : Nat → Value := fun i => .int .u8 ((z i : Nat) : Int)
def tstep (x : Int) : Int := bits .xor .i64 (x / 2) (wrap64 (bits .and .i64 x 1 * 3988292384))
def itN : Nat → Int → Int
  | 0, i => i
  | m + 1, i => tstep (itN m i)
def tabCells (k : Nat) : Array Value := ((List.range 16).map fun i => Value.int .i64 (if i < k then ((tb i : Nat) : Int) else 0)).toArray
theorem tab_it : ∀ k : Fin 16, itN 4 (k.val : Int) = ((tb k.val : Nat) : Int) := by decide +kernel
theorem tabCells_size (k : Nat) : (tabCells k).size = 16 := by simp [tabCells]
theorem tabCells_get (k i : Nat) (h : i < 16) : (tabCells k)[i]? = some (.int .i64 (if i < k then ((tb i : Nat) : Int) else 0)) := by
  simp [tabCells, h]
theorem tabCells_step (k : Nat) (h : k < 16) : (tabCells k).setIfInBounds k (.int .i64 ((tb k : Nat) : Int)) = tabCells (k + 1) := by
  apply Array.ext_getElem?
  intro i
  rw [Array.getElem?_setIfInBounds]
  by_cases hi : i < 16
  · by_cases e : k = i
    · subst e; rw [if_pos rfl, if_pos (by rw [tabCells_size]; exact h), tabCells_get _ _ h, if_pos (by omega)]
    · rw [if_neg e, tabCells_get _ _ hi, tabCells_get _ _ hi]
      by_cases h1 : i < k
      · rw [if_pos h1, if_pos (by omega)]
      · rw [if_neg h1, if_neg (by omega)]
  · have h1 : k ≠ i := by omega
    rw [if_neg h1, Array.getElem?_eq_none (by rw [tabCells_size]; omega), Array.getElem?_eq_none (by rw [tabCells_size]; omega)]
theorem tabCells_zero : tabCells 0 = #[Value.int .i64 0, .int .i64 0, .int .i64 0, .int .i64 0, .int .i64 0, .int .i64 0, .int .i64 0, .int .i64 0, .int .i64 0, .int .i64 0, .int .i64 0, .int .i64 0, .int .i64 0, .int .i64 0, .int .i64 0, .int .i64 0] := by
  simp [tabCells, List.range, List.range.loop]
def TabRel (w wr : World) (k : Nat) : Prop := Below w.heap.size w wr ∧ wr.heap[w.heap.size]? = some (.cells (tabCells 0) 205 (0, 0)) ∧ wr.heap[w.heap.size + 1]? = some (.cells (tabCells k) 205 (0, 0))
set_option maxHeartbeats 800000 in
theorem table (w : World) : Calls Tryz.prog 151 #[] w fun e w' => e = .returned (.agg (tabCells 16)) ∧ Below w.heap.size w w' := by
  go_enter Tryz.func151, Tryz.ntmps151
  go_wp2_with fail
  go_loopw [2] (fun i wr => ∃ k : Nat, k ≤ 16 ∧ i = .int .i64 k ∧ Hid (TabRel w wr k)) (fun i _ => 16 - (intOf i).toNat)
  case atStart =>
    refine ⟨0, by omega, rfl, ((Below.refl _ _).alloc (Nat.le_refl _) _).alloc (by simp) _, ?_, ?_⟩
    · rw [tabCells_zero]; exact heap_alloc2_old _ _ _
    · rw [tabCells_zero]; exact heap_alloc2_new _ _ _
  case round =>
    obtain ⟨k, hk, rfl, hR⟩ := hrel
    by_cases hlt : k < 16
    · have hd : wr.cell? ⟨w.heap.size + 1, k, none⟩ = some (.int .i64 0) := by
        rw [cell_of_row wr _ k _ _ _ hR.out.2.2, tabCells_get _ _ hlt, if_neg (by omega)]
      have hf : wr.frozen? ⟨w.heap.size + 1, k, none⟩ = false := frozen_of_row wr _ k _ _ hR.out.2.2
      go_wp2_with fail
      go_loop [3, 4] (fun r j => ∃ (m : Nat) (x : Int), m ≤ 4 ∧ j = .int .i64 m ∧ r = .int .i64 x ∧ Hid (x = itN m k)) (fun _ j => 4 - (intOf j).toNat)
      case atStart => exact ⟨0, k, by omega, rfl, rfl, rfl⟩
      case round =>
        obtain ⟨m, x, hm, rfl, rfl, hx⟩ := hrel
        by_cases hl2 : m < 4
        · go_wp2_with fail
          exact ⟨⟨m + 1, _, by omega, by go_num, rfl, by rw [hx.out]; rfl⟩, by simp [intOf]; omega⟩
        · have hm4 : m = 4 := by omega
          have hxt : Hid (x = ((tb k : Nat) : Int)) := by
            have h1 := hx.out
            rw [hm4] at h1
            exact h1.trans (tab_it ⟨k, hlt⟩)
          clear hm4
          go_wp2_with fail
          refine ⟨⟨k + 1, by omega, by go_num, ?_⟩, by simp [intOf]; omega⟩
          obtain ⟨h1, h2, h3⟩ := hR.out
          rw [hxt.out]
          refine ⟨h1.setCell (by show w.heap.size ≤ w.heap.size + 1; omega) _, ?_, ?_⟩
          · rw [heap_setCell_other _ _ _ _ (by show w.heap.size ≠ w.heap.size + 1; omega)]; exact h2
          · rw [heap_setCell_same _ _ _ _ _ _ h3, tabCells_step k hlt]
    · have hk16 : k = 16 := by omega
      subst hk16
      obtain ⟨h1, h2, h3⟩ := hR.out
      clear hR
      have H1 := h1
      have H2 : Hid (wr.heap[w.heap.size]? = some (.cells (tabCells 0) 205 (0, 0))) := h2
      have H3 : Hid (wr.heap[w.heap.size + 1]? = some (.cells (tabCells 16) 205 (0, 0))) := h3
      clear h1 h2 h3
      go_wp2_with (first | (refine wpList_load_row rfl 205 _ rfl (w.heap.size + 1) rfl 205 _ (0, 0) _ H3.out Tryz.underlying205 rfl (by rw [tabCells_size]; kernel_rfl) ?_) | (refine wpList_store_row rfl 205 _ _ rfl w.heap.size (tabCells 16) rfl rfl 205 (tabCells 0) H2.out (by rw [tabCells_size]; kernel_rfl) (by rw [tabCells_size, tabCells_size]) (by decide +kernel) ?_))
      refine bodyPost_ret (v := .agg (tabCells 16)) (results_cell_row rfl _ _ w.heap.size 205 _ (0, 0) _ rfl (setRow_heap _ _ _ _ _ _ H2.out) Tryz.underlying205 rfl (by rw [tabCells_size]; kernel_rfl)) rfl ⟨rfl, below_setRow H1 _ (Nat.le_refl _) _⟩
theorem quarter (x i : Nat) (hx : x < 4294967296) : bits .xor .i64 ((x : Int) / 16) ((tb i : Nat) : Int) = ((half x i : Nat) : Int) := by
  have := tb_lt i
  have h1 := i64_xor_nat (x / 16) (tb i) (by omega) (by omega)
  rw [← show ((x / 16 : Nat) : Int) = (x : Int) / 16 from by omega] at *
  exact h1
set_option maxHeartbeats 800000 in
theorem l01Check (a : Option Addr) (n c : Nat) (z : Nat → Nat) (w : World) (hn : n ≤ 1048576) (hz : ∀ i, z i < 256) (h : Sl w a n (BV z)) :
    Calls Tryz.prog 123 #[.slice a n c] w fun e w' => e = .returned (.int .i64 ((crcTo z n ^^^ 4294967295 : Nat) : Int)) ∧ Below w.heap.size w w' := by
  go_enter Tryz.func123, Tryz.ntmps123
  go_wp2_with fail
  refine (table _).mono ?_
  rintro e w1 ⟨rfl, hb1⟩
  have h1 := h.below hb1
  clear h
  go_wp2_with (refine wpList_store_row rfl 205 _ _ rfl w1.heap.size (tabCells 16) rfl rfl 205 _ (heap_alloc_new _ _) (by rw [tabCells_size]; kernel_rfl) (by rw [tabCells_size]; rfl) (by decide +kernel) ?_)
  have hb2 : Below w.heap.size w ((w1.alloc (.cells (tabCells 0) 205)).setRow w1.heap.size (tabCells 16)) := below_setRow (hb1.alloc hb1.size _) _ hb1.size _
  have hb3 : Below w1.heap.size w1 ((w1.alloc (.cells (tabCells 0) 205)).setRow w1.heap.size (tabCells 16)) := below_setRow ((Below.refl _ _).alloc (Nat.le_refl _) _) _ (Nat.le_refl _) _
  have hrow : ((w1.alloc (.cells (tabCells 0) 205)).setRow w1.heap.size (tabCells 16)).heap[w1.heap.size]? = some (.cells (tabCells 16) 205 (0, 0)) := setRow_heap _ _ _ _ _ _ (heap_alloc_new _ _)
  have h2 := h1.below hb3
  rw [tabCells_zero] at hb2 hrow h2
  have H2 := And.intro hb2 (And.intro hrow h2)
  clear hb1 hb2 hb3 hrow h1 h2
  go_loopw [4, 5] (fun r i wr => ∃ k x : Nat, k ≤ n ∧ i = .int .i64 k ∧ r = .int .i64 x ∧ Hid (x = crcTo z k) ∧ Hid (Below w.heap.size w wr ∧ wr.heap[w1.heap.size]? = some (.cells (tabCells 16) 205 (0, 0)) ∧ Sl wr a n (BV z))) (fun _ i _ => n - (intOf i).toNat)
  case atStart => exact ⟨0, 4294967295, by omega, rfl, rfl, rfl, H2⟩
  case round =>
    clear H2
    obtain ⟨k, x, hk, rfl, rfl, hx, hR⟩ := hrel
    by_cases hlt : k < n
    · obtain ⟨c0, hc0⟩ : ∃ c0, c0 = z k := ⟨_, rfl⟩
      have hxl : x < 4294967296 := by rw [hx.out]; exact crcTo_lt z k
      have hcl : c0 < 256 := by rw [hc0]; exact hz k
      obtain ⟨i1, e1⟩ : ∃ i1, i1 = (x ^^^ c0) % 16 := ⟨_, rfl⟩
      obtain ⟨y1, e2⟩ : ∃ y1, y1 = half x i1 := ⟨_, rfl⟩
      obtain ⟨i2, e3⟩ : ∃ i2, i2 = (y1 ^^^ c0 / 16) % 16 := ⟨_, rfl⟩
      obtain ⟨y2, e4⟩ : ∃ y2, y2 = half y1 i2 := ⟨_, rfl⟩
      have hi1 : i1 < 16 := by omega
      have hi2 : i2 < 16 := by omega
      have hy1 : y1 < 4294967296 := by rw [e2]; exact half_lt _ _ hxl
      have R1 : bits .and .i64 (bits .xor .i64 (x : Int) (c0 : Int)) 15 = (i1 : Int) := by
        have hlt2 : x ^^^ c0 < 2 ^ 32 := Nat.xor_lt_two_pow (by omega) (by omega)
        have h15 := i64_and_nat (x ^^^ c0) 15 (by omega) (by omega)
        rw [mask15, ← e1] at h15
        rw [i64_xor_nat x c0 (by omega) (by omega)]
        exact h15
      have R2 : bits .xor .i64 ((x : Int) / 16) ((tb i1 : Nat) : Int) = (y1 : Int) := by rw [e2]; exact quarter x i1 hxl
      have R3 : bits .and .i64 (bits .xor .i64 (y1 : Int) ((c0 : Int) / 16)) 15 = (i2 : Int) := by
        have hlt2 : y1 ^^^ c0 / 16 < 2 ^ 32 := Nat.xor_lt_two_pow (by omega) (by omega)
        have h15 := i64_and_nat (y1 ^^^ c0 / 16) 15 (by omega) (by omega)
        rw [mask15, ← e3] at h15
        rw [← show ((c0 / 16 : Nat) : Int) = (c0 : Int) / 16 from by omega]
        rw [i64_xor_nat y1 (c0 / 16) (by omega) (by omega)]
        exact h15
      have R4 : bits .xor .i64 ((y1 : Int) / 16) ((tb i2 : Nat) : Int) = (y2 : Int) := by rw [e4]; exact quarter y1 i2 hy1
      have E : Hid (y2 = crcTo z (k + 1)) := by
        show y2 = crcTo z (k + 1)
        rw [e4, e3, e2, e1, hc0, hx.out]; rfl
      have q1 : wr.cell? ⟨w1.heap.size, i1, none⟩ = some (.int .i64 ((tb i1 : Nat) : Int)) := by
        rw [cell_of_row wr _ i1 _ _ _ hR.out.2.1, tabCells_get _ _ hi1, if_pos hi1]
      have q2 : wr.cell? ⟨w1.heap.size, i2, none⟩ = some (.int .i64 ((tb i2 : Nat) : Int)) := by
        rw [cell_of_row wr _ i2 _ _ _ hR.out.2.1, tabCells_get _ _ hi2, if_pos hi2]
      rcases hR.out.2.2 with h1 | ⟨b, off, rfl, hc⟩
      · omega
      have hcs := hc k hlt
      rw [show BV z k = .int .u8 (c0 : Int) from by rw [hc0]] at hcs
      clear hc e1 e2 e3 e4 hc0 hx
      go_wp2_with fail
      exact ⟨⟨k + 1, y2, by omega, by go_num, rfl, E, hR⟩, by simp [intOf]; omega⟩
    · have hkn : k = n := by omega
      have hfin : Hid (bits .xor .i64 (x : Int) 4294967295 = ((crcTo z n ^^^ 4294967295 : Nat) : Int)) := by
        show bits .xor .i64 (x : Int) 4294967295 = _
        have hxl : x < 4294967296 := by rw [hx.out]; exact crcTo_lt z k
        rw [← hkn, ← hx.out]
        exact i64_xor_nat x 4294967295 (by omega) (by omega)
      clear hkn hx
      go_wp2_with fail
      go_ret
      exact ⟨by show Ending.returned (.int .i64 _) = _; rw [hfin.out], hR.out.1⟩
end Go.Proofs.YtnnimocaanofjaaGreatDoor
