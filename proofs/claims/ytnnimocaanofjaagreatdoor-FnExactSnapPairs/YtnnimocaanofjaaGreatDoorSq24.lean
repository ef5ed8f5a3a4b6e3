/-
  Texts of the store, brought together: Dlaw0, Drd, Dcr, Sor, Sow. By an AI agent.
-/
import Derived.Test.YtnnimocaanofjaaGreatDoorSq23
namespace Go.Proofs.YtnnimocaanofjaaGreatDoor
open Go.ChangeShapes Go.WideShapes Go.ChangeAt Go.RowKit Go.Deep
set_option linter.unusedVariables false
set_option linter.unusedSimpArgs false
set_option maxRecDepth 100000
theorem OwnsD.drew {w : World} {lo hi : Nat} {v : Value} {D : DM} (h : OwnsD w lo hi v D) : OwnsD w.drew lo hi v D := h
theorem OwnsD.lit {w : World} {lo hi : Nat} {v : Value} {D : DM} (h : OwnsD w lo hi v D) : ∃ a1 c1 a2 c2 a3 c3, v = .agg #[.slice a1 D.S.length c1, .slice a2 D.C.length c2, .bool D.A, .slice a3 D.K.length c3] := by
  obtain ⟨a1, c1, a2, c2, a3, c3, e, _⟩ := h.reads
  exact ⟨a1, c1, a2, c2, a3, c3, e⟩
theorem byS_append (A B : List (Int × ByteArray)) (i : Nat) : byS (A ++ B) i = byS A i ++ byS B i := by simp [byS]
theorem byS_one_yes (j : Nat) (y : ByteArray) : byS [((j : Int), y)] j = [y] := by simp [byS]
theorem byS_one_no (x : Int) (j : Nat) (y : ByteArray) (h0 : 0 ≤ x) (h : x ≠ (j : Int)) : byS [(x, y)] j = [] := by
  unfold byS
  rw [List.filter_cons, if_neg (by simp; omega)]; rfl
theorem drop_one {α : Type} (L : List α) (d : α) (k : Nat) (h : k < L.length) : L.drop k = [L.getD k d] ++ L.drop (k + 1) := by
  rw [List.drop_eq_getElem_cons h, List.getD_eq_getElem?_getD, List.getElem?_eq_getElem h]; rfl
set_option maxHeartbeats 1000000 in
theorem l02Read (v : Value) (D : DM) (j : Nat) (w : World) (hs : smallD D) (hj : j < D.S.length) (hp : ∀ p ∈ D.C, 0 ≤ p.1) (h : ReadsD w v D) :
    Calls Tryz.prog 80 #[v, .int .i64 (j : Int)] w fun e w' => e = .returned (.string (lastOr (byS D.C j) (D.S.getD j e0))) ∧ Below w.heap.size w w' := by
  obtain ⟨a1, c1, a2, c2, a3, c3, rfl, s1, s2, s3⟩ := h
  have S1 : Hid (Src w a1 (cellsS D.S)) := s1
  have S2 : Hid (Src w a2 (cellsQ D.C)) := s2
  have HP : Hid (∀ p ∈ D.C, 0 ≤ p.1) := hp
  obtain ⟨n, hn⟩ : ∃ n, D.S.length = n := ⟨_, rfl⟩
  obtain ⟨m, hm⟩ : ∃ m, D.C.length = m := ⟨_, rfl⟩
  have N1 : Hid (D.S.length = n) := hn
  have N2 : Hid (D.C.length = m) := hm
  have hm1 : m ≤ 1048576 := by rw [← hm]; exact hs.2.1.1
  have hn1 : n ≤ 1048576 := by rw [← hn]; exact hs.1.1
  have hjn : (j : Int) < (n : Int) := by rw [hn] at hj; omega
  have hj0 : (0 : Int) ≤ (j : Int) := by omega
  rw [hn, hm]
  obtain ⟨Y, hY⟩ : ∃ Y, lastOr (byS D.C j) (D.S.getD j e0) = Y := ⟨_, rfl⟩
  rw [hY]
  have HY : Hid (lastOr (byS D.C j) (D.S.getD j e0) = Y) := hY
  clear hs s1 s2 s3 hp hn hm hj hY
  go_enter Tryz.func80, Tryz.ntmps80
  go_wp2_with fail
  go_loopw [5] (fun i wr => ∃ q : Int, i = .int .i64 q ∧ -1 ≤ q ∧ q < (m : Int) ∧ Hid (byS (D.C.drop (q + 1).toNat) j = []) ∧ Hid (Below w.heap.size w wr) ∧ Hid (Box wr w.heap.size [.slice a1 n c1, .slice a2 m c2, .bool D.A, .slice a3 D.K.length c3])) (fun i _ => (intOf i + 1).toNat)
  case atStart => exact ⟨(m : Int) - 1, rfl, by omega, by omega, by show byS _ j = []; rw [List.drop_of_length_le (by rw [N2.out]; omega)]; rfl, (Below.refl _ _).alloc (Nat.le_refl _) _, Box.new rfl⟩
  case round =>
    obtain ⟨q, rfl, hq1, hq2, hnone, hb, HX⟩ := hrel
    by_cases hneg : q < 0
    · have hq : q = -1 := by omega
      have E : Hid (lastOr (byS D.C j) (D.S.getD j e0) = D.S.getD j e0) := by
        have := hnone.out
        rw [hq] at this
        simp at this
        show lastOr _ _ = _
        rw [this]; rfl
      obtain ⟨b, o, y, rfl, hc, hy⟩ := srcS (S1.out.below hb.out) (i := j) (by rw [N1.out]; omega)
      have E2 : Hid (Y = y) := HY.out.symm.trans (E.out.trans hy.out)
      obtain ⟨p0, _⟩ := HX.out 0 _ rfl
      clear hq E hy hnone
      go_wp2_with fail
      go_ret
      exact ⟨by show Ending.returned (.string y) = _; rw [E2.out], hb.out⟩
    · obtain ⟨k, rfl⟩ : ∃ k : Nat, q = (k : Int) := ⟨q.toNat, by omega⟩
      have hkl : Hid (k < D.C.length) := by show k < D.C.length; rw [N2.out]; omega
      obtain ⟨b, o, x, y, rfl, hc1, hc2, hy⟩ := srcQ (S2.out.below hb.out) hkl.out
      have hx0 : 0 ≤ x := by have := HP.out _ (getD_mem D.C q0 k hkl.out); rw [hy.out] at this; exact this
      have hk0 : (0 : Int) ≤ (k : Int) := by omega
      obtain ⟨p1, _⟩ := HX.out 1 _ rfl
      by_cases heq : x = (j : Int)
      · subst heq
        have ht : ((j : Int) == (j : Int)) = true := by simp
        have E2 : Hid (Y = y) := by
          show Y = y
          rw [← HY.out]
          have h1 : D.C = D.C.take k ++ ([((j : Int), y)] ++ D.C.drop (k + 1)) := by
            rw [← hy.out, ← drop_one D.C q0 k hkl.out, List.take_append_drop]
          have h2 := hnone.out
          rw [show ((k : Int) + 1).toNat = k + 1 from by omega] at h2
          rw [h1, byS_append, byS_append, h2, byS_one_yes, List.append_nil, lastOr_snoc]
        clear hnone hy hkl
        go_wp2_with fail
        go_ret
        exact ⟨by show Ending.returned (.string y) = _; rw [E2.out], hb.out⟩
      · have ht : (x == (j : Int)) = false := by simp; exact heq
        have hn2 : Hid (byS (D.C.drop ((k : Int) - 1 + 1).toNat) j = []) := by
          show byS _ j = []
          have h2 := hnone.out
          rw [show ((k : Int) + 1).toNat = k + 1 from by omega] at h2
          rw [show ((k : Int) - 1 + 1).toNat = k from by omega, drop_one D.C q0 k hkl.out, byS_append, h2, hy.out, byS_one_no x j y hx0 heq, List.append_nil]
        clear hnone hy hkl heq
        go_wp2_with fail
        exact ⟨⟨(k : Int) - 1, rfl, by omega, by omega, hn2, hb.out, HX.out⟩, by simp [intOf]⟩
theorem set_mem {L : List ByteArray} {i : Nat} {y x : ByteArray} (h : x ∈ L.set i y) : x ∈ L ∨ x = y := List.mem_or_eq_of_mem_set h
theorem applyW_small (S : List ByteArray) (C : List (Int × ByteArray)) (b : Nat) (hS : ∀ x ∈ S, x.size ≤ b) (hC : ∀ p ∈ C, p.2.size ≤ b) : ∀ x ∈ applyW S C, x.size ≤ b := by
  unfold applyW
  induction C generalizing S with
  | nil => exact hS
  | cons p C ih =>
    rw [List.foldl_cons]
    refine ih _ (fun x hx => ?_) (fun q hq => hC q (List.mem_cons_of_mem _ hq))
    rcases set_mem hx with h | h
    · exact hS x h
    · rw [h]; exact hC p (List.mem_cons_self ..)
def rootsU (U : UM) : List Int := U.R :: U.S.map fun x => x.2.1
theorem rootsU_length (U : UM) : (rootsU U).length = U.S.length + 1 := by simp [rootsU]
theorem rootsU_snoc (U : UM) {k : Nat} (hk : k < U.S.length) : (rootsU U).take (k + 1 + 1) = (rootsU U).take (k + 1) ++ [(U.S.getD k sn0).2.1] := by
  show U.R :: (U.S.map fun x => x.2.1).take (k + 1) = U.R :: (U.S.map fun x => x.2.1).take k ++ [(U.S.getD k sn0).2.1]
  rw [List.cons_append, List.take_add_one, List.getElem?_map, List.getElem?_eq_getElem hk, List.getD_eq_getElem?_getD, List.getElem?_eq_getElem hk]
  rfl
theorem ownI_new {w : World} {base B : Nat} (x : Int) (hB : B = w.heap.size) (hb : base ≤ w.heap.size) : (w.alloc (.cells #[.int .i64 x] 3)).ownsRow base 3 1 (.slice (some ⟨B, 0, none⟩) 1 1) 1 (cellsI [x]) := by
  subst hB
  refine ⟨rfl, .inr ⟨w.heap.size, 1, #[.int .i64 x], rfl, hb, heap_alloc_new _ _, Nat.le_refl _, by unfold maxLen; omega, by simp, ?_⟩⟩
  rfl
theorem src_1I {w : World} {x : Int} {B t : Nat} (hB : B = w.heap.size) : Src (w.alloc (.cells #[.int .i64 x] t)) (some ⟨B, 0, none⟩) (cellsI [x]) := by
  have hb : Box (w.alloc (.cells #[.int .i64 x] t)) B [.int .i64 x] := Box.new hB
  refine .inr ⟨B, 0, rfl, fun j hj => ?_⟩
  have e : j = 0 := by simp [cellsI] at hj; omega
  subst e
  exact (hb 0 _ rfl).1
set_option maxHeartbeats 1000000 in
theorem specRoots (v : Value) (U : UM) (w : World) (hs : U.S.length ≤ 100000) (h : ReadsU w v U) :
    Calls Tryz.prog 69 #[v] w fun e w' => ∃ u, e = .returned u ∧ w'.ownsRow (w.heap.size + 1) 3 1 u (rootsU U).length (cellsI (rootsU U)) ∧ Below w.heap.size w w' := by
  obtain ⟨a, c, rfl, s1⟩ := h
  have SS : Hid (Src w a (cellsSn U.S)) := s1
  obtain ⟨n, hn⟩ : ∃ n, U.S.length = n := ⟨_, rfl⟩
  obtain ⟨G, hG⟩ : ∃ G, U.G = G := ⟨_, rfl⟩
  obtain ⟨R, hR⟩ : ∃ R, U.R = R := ⟨_, rfl⟩
  have HN : Hid (U.S.length = n ∧ U.R = R) := ⟨hn, hR⟩
  have RL : Hid ((rootsU U).length = n + 1 ∧ (rootsU U).take 1 = [R]) := ⟨by rw [rootsU_length, hn], by unfold rootsU; rw [hR]; rfl⟩
  rw [hn] at hs
  rw [hn, hG, hR]
  clear s1 hn hG hR
  go_enter Tryz.func69, Tryz.ntmps69
  go_wp2_with fail
  have X0 : Hid (Box ((w.alloc (.cells #[.int .i64 G, .int .i64 R, .slice a n c] 42)).alloc (.cells #[.int .i64 R] 3)) w.heap.size [.int .i64 G, .int .i64 R, .slice a n c]) := (Box.new rfl).old _
  have B0 : Hid (Below w.heap.size w ((w.alloc (.cells #[.int .i64 G, .int .i64 R, .slice a n c] 42)).alloc (.cells #[.int .i64 R] 3))) := ((Below.refl _ _).alloc (Nat.le_refl _) _).alloc (by simp) _
  have O0 : Hid (((w.alloc (.cells #[.int .i64 G, .int .i64 R, .slice a n c] 42)).alloc (.cells #[.int .i64 R] 3)).ownsRow (w.heap.size + 1) 3 1 (.slice (some ⟨w.heap.size + 1, 0, none⟩) 1 1) 1 (cellsI ((rootsU U).take 1))) := by
    rw [RL.out.2]
    exact ownI_new R (by simp) (by simp)
  go_loopw [3, 4] (fun lv iv wr => ∃ (k : Nat) (u : Value), u = lv ∧ iv = .int .i64 (k : Int) ∧ k ≤ n ∧ Hid (Below w.heap.size w wr) ∧ Hid (Box wr w.heap.size [.int .i64 G, .int .i64 R, .slice a n c]) ∧ Hid (wr.ownsRow (w.heap.size + 1) 3 1 u (k + 1) (cellsI ((rootsU U).take (k + 1))))) (fun _ i _ => n - (intOf i).toNat)
  case atStart => exact ⟨0, _, rfl, rfl, by omega, B0.out, X0.out, O0.out⟩
  case round =>
    clear X0 B0 O0
    obtain ⟨k, u, hu, rfl, hk, hb, hx, ho⟩ := hrel
    subst hu
    obtain ⟨p2, _⟩ := hx.out 2 _ rfl
    have ZB : Hid (w.heap.size + 1 ≤ wr.heap.size) := World.block_lt_of_cell? _ _ (hx.out 0 _ rfl).1
    have lt3 : Hid (∀ g, Value.ownBlock u = some g → w.heap.size + 1 ≤ g) := fun g e => (ho.out.lt g e).1
    by_cases hlt : k < n
    · obtain ⟨b, o, x, y, z, rfl, q0, q1, q2, hy⟩ := srcSn (SS.out.below hb.out) (i := k) (by rw [HN.out.1]; exact hlt)
      have hk0 : (0 : Int) ≤ (k : Int) := by omega
      have hki : (k : Int) < (n : Int) := by omega
      have SN : Hid ((rootsU U).take (k + 1 + 1) = (rootsU U).take (k + 1) ++ [y]) := by
        have h9 := rootsU_snoc U (k := k) (by rw [HN.out.1]; exact hlt)
        rw [hy.out] at h9
        exact h9
      go_wp2_with (at_builtin; refine wpList_append_src _ rfl _ _ 24 rfl (w.heap.size + 1) 3 (.int .i64 0) 1 8 Tryz.underlying24 infoI rfl (by decide) (by decide) _ (k + 1) (cellsI ((rootsU U).take (k + 1))) rfl (ho.out.alloc _) (some ⟨wr.heap.size, 0, none⟩) 1 1 (cellsI [y]) rfl rfl (src_1I rfl) (cellsI_one _) (by omega) (le_alloc ZB.out _) ?_)
      intro v3 w3 hown3 hgrow3
      have X3 : Hid (Box w3 w.heap.size [.int .i64 G, .int .i64 R, .slice (some ⟨b, o, none⟩) n c]) := Box.grown (hx.out.old _) hgrow3 (fun e => by have h9 := lt3.out _ e; omega)
      have B3 : Hid (Below w.heap.size w w3) := (hb.out.alloc hb.out.size _).grown hgrow3 (le_alloc hb.out.size _) (fun g e => by have h9 := lt3.out g e; omega)
      have O3 : Hid (w3.ownsRow (w.heap.size + 1) 3 1 v3 (k + 1 + 1) (cellsI ((rootsU U).take (k + 1 + 1)))) := by rw [SN.out, cellsI_append]; exact hown3
      clear hown3 hgrow3 q0 q1 q2 p2
      go_wp2_with fail
      exact ⟨⟨k + 1, _, rfl, by go_num, by omega, B3.out, X3.out, O3.out⟩, by simp [intOf]; omega⟩
    · have hkn : ¬ (k : Int) < (n : Int) := by omega
      have FIN : Hid (wr.ownsRow (w.heap.size + 1) 3 1 u (rootsU U).length (cellsI (rootsU U))) := by
        have e : k = n := by omega
        have h9 := ho.out
        rw [e, List.take_of_length_le (by rw [RL.out.1]; omega)] at h9
        rw [RL.out.1]
        exact h9
      go_wp2_with fail
      go_ret
      exact ⟨u, rfl, FIN.out, hb.out⟩
set_option maxHeartbeats 1000000 in
theorem implRoots (v : Value) (U : UM) (w : World) (hs : U.S.length ≤ 100000) (h : ReadsU w v U) :
    Calls Tryz.prog 138 #[v] w fun e w' => ∃ u, e = .returned u ∧ w'.ownsRow (w.heap.size + 1) 3 1 u (rootsU U).length (cellsI (rootsU U)) ∧ Below w.heap.size w w' := by
  obtain ⟨a, c, rfl, s1⟩ := h
  have SS : Hid (Src w a (cellsSn U.S)) := s1
  obtain ⟨n, hn⟩ : ∃ n, U.S.length = n := ⟨_, rfl⟩
  obtain ⟨G, hG⟩ : ∃ G, U.G = G := ⟨_, rfl⟩
  obtain ⟨R, hR⟩ : ∃ R, U.R = R := ⟨_, rfl⟩
  have HN : Hid (U.S.length = n ∧ U.R = R) := ⟨hn, hR⟩
  have RL : Hid ((rootsU U).length = n + 1 ∧ (rootsU U).take 1 = [R]) := ⟨by rw [rootsU_length, hn], by unfold rootsU; rw [hR]; rfl⟩
  rw [hn] at hs
  rw [hn, hG, hR]
  clear s1 hn hG hR
  go_enter Tryz.func138, Tryz.ntmps138
  go_wp2_with fail
  have B0 : Hid (Below w.heap.size w ((w.alloc (.cells #[.int .i64 G, .int .i64 R, .slice a n c] 42)).alloc (.cells #[.int .i64 R] 3))) := ((Below.refl _ _).alloc (Nat.le_refl _) _).alloc (by simp) _
  have O0 : Hid (((w.alloc (.cells #[.int .i64 G, .int .i64 R, .slice a n c] 42)).alloc (.cells #[.int .i64 R] 3)).ownsRow (w.heap.size + 1) 3 1 (.slice (some ⟨w.heap.size + 1, 0, none⟩) 1 1) 1 (cellsI ((rootsU U).take 1))) := by
    rw [RL.out.2]
    exact ownI_new R (by simp) (by simp)
  have Z0 : Hid (w.heap.size + 1 ≤ ((w.alloc (.cells #[.int .i64 G, .int .i64 R, .slice a n c] 42)).alloc (.cells #[.int .i64 R] 3)).heap.size) := by show _ ≤ _; simp
  go_loopw [3, 12] (fun lv iv wr => ∃ (k : Nat) (u : Value), u = lv ∧ iv = .int .i64 (k : Int) ∧ k ≤ n ∧ Hid (Below w.heap.size w wr) ∧ Hid (w.heap.size + 1 ≤ wr.heap.size) ∧ Hid (wr.ownsRow (w.heap.size + 1) 3 1 u (k + 1) (cellsI ((rootsU U).take (k + 1))))) (fun _ i _ => n - (intOf i).toNat)
  case atStart => exact ⟨0, _, rfl, rfl, by omega, B0.out, Z0.out, O0.out⟩
  case round =>
    clear B0 O0 Z0
    obtain ⟨k, u, hu, rfl, hk, hb, ZB, ho⟩ := hrel
    subst hu
    have lt3 : Hid (∀ g, Value.ownBlock u = some g → w.heap.size + 1 ≤ g) := fun g e => (ho.out.lt g e).1
    by_cases hlt : k < n
    · obtain ⟨b, o, x, y, z, rfl, q0, q1, q2, hy⟩ := srcSn (SS.out.below hb.out) (i := k) (by rw [HN.out.1]; exact hlt)
      have hk0 : (0 : Int) ≤ (k : Int) := by omega
      have hki : (k : Int) < (n : Int) := by omega
      have SN : Hid ((rootsU U).take (k + 1 + 1) = (rootsU U).take (k + 1) ++ [y]) := by
        have h9 := rootsU_snoc U (k := k) (by rw [HN.out.1]; exact hlt)
        rw [hy.out] at h9
        exact h9
      go_wp2_with (at_builtin; refine wpList_append_src _ rfl _ _ 24 rfl (w.heap.size + 1) 3 (.int .i64 0) 1 8 Tryz.underlying24 infoI rfl (by decide) (by decide) _ (k + 1) (cellsI ((rootsU U).take (k + 1))) rfl ((ho.out.alloc _).alloc _) (some ⟨wr.heap.size + 1, 0, none⟩) 1 1 (cellsI [y]) rfl rfl (src_1I (by simp)) (cellsI_one _) (by omega) (le_alloc (le_alloc ZB.out _) _) ?_)
      intro v3 w3 hown3 hgrow3
      have B3 : Hid (Below w.heap.size w w3) := ((hb.out.alloc hb.out.size _).alloc (le_alloc hb.out.size _) _).grown hgrow3 (le_alloc (le_alloc hb.out.size _) _) (fun g e => by have h9 := lt3.out g e; omega)
      have O3 : Hid (w3.ownsRow (w.heap.size + 1) 3 1 v3 (k + 1 + 1) (cellsI ((rootsU U).take (k + 1 + 1)))) := by rw [SN.out, cellsI_append]; exact hown3
      have Z3 : Hid (w.heap.size + 1 ≤ w3.heap.size) := by show _ ≤ _; have h8 := hgrow3.size; have h9 := ZB.out; simp at h8; omega
      clear hown3 hgrow3 q0 q1 q2
      go_wp2_with fail
      exact ⟨⟨k + 1, _, rfl, by go_num, by omega, B3.out, Z3.out, O3.out⟩, by simp [intOf]; omega⟩
    · have hkn : ¬ (k : Int) < (n : Int) := by omega
      have FIN : Hid (wr.ownsRow (w.heap.size + 1) 3 1 u (rootsU U).length (cellsI (rootsU U))) := by
        have e : k = n := by omega
        have h9 := ho.out
        rw [e, List.take_of_length_le (by rw [RL.out.1]; omega)] at h9
        rw [RL.out.1]
        exact h9
      go_wp2_with fail
      go_ret
      exact ⟨u, rfl, FIN.out, hb.out⟩
abbrev W3 (w : World) (B : Nat) (v0 v1 v2 : Value) : World := ((w.setCell ⟨B, 0, none⟩ v0).setCell ⟨B, 1, none⟩ v1).setCell ⟨B, 2, none⟩ v2
theorem Box.w3in {w : World} {B : Nat} {z0 z1 z2 : Value} (h : Box w B [z0, z1, z2]) (v0 v1 v2 : Value) :
    (w.cell? ⟨B, 0, none⟩ = some z0 ∧ w.frozen? ⟨B, 0, none⟩ = false) ∧
    ((w.setCell ⟨B, 0, none⟩ v0).cell? ⟨B, 1, none⟩ = some z1 ∧ (w.setCell ⟨B, 0, none⟩ v0).frozen? ⟨B, 1, none⟩ = false) ∧
    (((w.setCell ⟨B, 0, none⟩ v0).setCell ⟨B, 1, none⟩ v1).cell? ⟨B, 2, none⟩ = some z2 ∧ ((w.setCell ⟨B, 0, none⟩ v0).setCell ⟨B, 1, none⟩ v1).frozen? ⟨B, 2, none⟩ = false) ∧
    ((W3 w B v0 v1 v2).cell? ⟨B, 0, none⟩ = some v0 ∧ (W3 w B v0 v1 v2).cell? ⟨B, 1, none⟩ = some v1 ∧ (W3 w B v0 v1 v2).cell? ⟨B, 2, none⟩ = some v2) :=
  ⟨h 0 _ rfl, (h.set 0 v0) 1 _ rfl, ((h.set 0 v0).set 1 v1) 2 _ rfl, ((((h.set 0 v0).set 1 v1).set 2 v2) 0 _ rfl).1, ((((h.set 0 v0).set 1 v1).set 2 v2) 1 _ rfl).1, ((((h.set 0 v0).set 1 v1).set 2 v2) 2 _ rfl).1⟩
theorem Below.w3 {b B : Nat} {a w : World} (h : Below b a w) (hB : b ≤ B) (v0 v1 v2 : Value) : Below b a (W3 w B v0 v1 v2) :=
  Below.setCell (p := ⟨B, 2, none⟩) (Below.setCell (p := ⟨B, 1, none⟩) (Below.setCell (p := ⟨B, 0, none⟩) h hB v0) hB v1) hB v2
theorem size_w3 (w : World) (B : Nat) (v0 v1 v2 : Value) : (W3 w B v0 v1 v2).heap.size = w.heap.size := by simp [W3]
theorem OwnsU.w3 {w : World} {lo hi B : Nat} {v : Value} {U : UM} (h : OwnsU w lo hi v U) (hB : B < lo) (v0 v1 v2 : Value) : OwnsU (W3 w B v0 v1 v2) lo hi v U := by
  obtain ⟨v1', rfl, h1, h2⟩ := h
  exact ⟨v1', rfl, own_setLow (own_setLow (own_setLow h1 hB _) hB _) hB _, h2⟩
def supAt (D : DM) (j : Nat) : Option UM := superR (bytesOf (lastOr (byS D.C j) (D.S.getD j e0)))
def newestM : Option UM → Option UM → Option UM
  | some x, some y => if y.G < x.G then some x else some y
  | some x, none => some x
  | none, b => b
def ReadL (w : World) (lo : Nat) (m : Option UM) (g r : Int) (a : Option Addr) (k c : Nat) (b : Bool) : Prop := (b = false ∧ m = none) ∨ (b = true ∧ ∃ U, m = some U ∧ U.G = g ∧ OwnsU w lo w.heap.size (.agg #[.int .i64 g, .int .i64 r, .slice a k c]) U)
theorem ReadL.below {w w' : World} {lo : Nat} {m : Option UM} {g r : Int} {a : Option Addr} {k c : Nat} {b : Bool} (h : ReadL w lo m g r a k c b) (hb : Below w.heap.size w w') : ReadL w' lo m g r a k c b := by
  rcases h with h | ⟨h1, U, h2, h3, h4⟩
  · exact .inl h
  · exact .inr ⟨h1, U, h2, h3, (h4.below hb).mono (Nat.le_refl _) hb.size⟩
theorem l04ReadL (s : ByteArray) (w : World) (hs : s.size ≤ 65536) :
    Calls Tryz.prog 79 #[.string s] w fun e w' => ∃ g r a k c b, e = .returned (.tuple #[.agg #[.int .i64 g, .int .i64 r, .slice a k c], .bool b]) ∧ ReadL w' w.heap.size (superR (bytesOf s)) g r a k c b ∧ Below w.heap.size w w' := by
  refine (l04Read s w hs).mono ?_
  rintro e w' ⟨⟨h1, g, r, a, k, c, rfl⟩ | ⟨U, u, h1, rfl, h2⟩, hb⟩
  · exact ⟨g, r, a, k, c, false, rfl, .inl ⟨rfl, h1⟩, hb⟩
  · obtain ⟨a, c, rfl⟩ := h2.lit
    exact ⟨U.G, U.R, a, _, c, true, rfl, .inr ⟨rfl, U, h1, rfl, h2⟩, hb⟩
theorem last_size {D : DM} {j : Nat} (h : okD D) (hj : j < D.S.length) : (lastOr (byS D.C j) (D.S.getD j e0)).size ≤ 420 := by
  have h1 := applyW_small D.S D.C 420 h.1.2.2 (fun p hp => (h.2.1.2 p hp).2.2)
  rw [← applyW_get D.S D.C j hj]
  exact h1 _ (getD_mem _ _ _ (by rw [applyW_length]; exact hj))
theorem ReadL.fin {w : World} {lo lo' B : Nat} {m : Option UM} {g r : Int} {a : Option Addr} {k c : Nat} {b : Bool} (h : ReadL w lo m g r a k c b) (o : Obj) (hB : B < lo) (hl : lo' ≤ lo) (v0 v1 v2 : Value) : ReadL (W3 (w.alloc o) B v0 v1 v2) lo' m g r a k c b := by
  rcases h.below ((Below.refl _ _).alloc (Nat.le_refl _) o) with h | ⟨h1, U, h2, h3, h4⟩
  · exact .inl h
  · exact .inr ⟨h1, U, h2, h3, (h4.w3 hB v0 v1 v2).mono hl (by rw [size_w3]; exact Nat.le_refl _)⟩
theorem newest_b {m n : Option UM} (h : m = none) : newestM m n = n := by subst h; rfl
theorem newest_a {m n : Option UM} {U : UM} (h : m = some U) (h2 : n = none) : newestM m n = m := by subst h; subst h2; rfl
theorem newest_two {m n : Option UM} {U V : UM} (h : m = some U) (h2 : n = some V) : newestM m n = if V.G < U.G then m else n := by subst h; subst h2; rfl
set_option maxHeartbeats 2000000 in
theorem specNewest (v : Value) (D : DM) (w : World) (hs : smallD D) (hok : okD D) (h2 : 2 ≤ D.S.length) (h : ReadsD w v D) :
    Calls Tryz.prog 34 #[v] w fun e w' => ∃ g r a k c b, e = .returned (.tuple #[.agg #[.int .i64 g, .int .i64 r, .slice a k c], .bool b]) ∧ ReadL w' w.heap.size (newestM (supAt D 0) (supAt D 1)) g r a k c b ∧ Below w.heap.size w w' := by
  have HR : Hid (ReadsD w v D ∧ smallD D ∧ okD D ∧ 2 ≤ D.S.length) := ⟨h, hs, hok, h2⟩
  have PP : Hid (∀ p ∈ D.C, 0 ≤ p.1) := fun p hp => (hok.2.1.2 p hp).1
  obtain ⟨a1, c1, a2, c2, a3, c3, rfl, _⟩ := h
  clear hs hok h2
  have B0 : Hid (Below w.heap.size w ((w.alloc (.cells #[.slice a1 D.S.length c1, .slice a2 D.C.length c2, .bool D.A, .slice a3 D.K.length c3] 39)).alloc (.cells #[.int .i64 0, .int .i64 0, .slice none 0 0] 42))) := ((Below.refl _ _).alloc (Nat.le_refl _) _).alloc (by simp) _
  go_enter Tryz.func34, Tryz.ntmps34
  go_wp2_with fail
  refine (l02Read _ D 0 _ HR.out.2.1 (by have h9 := HR.out.2.2.2; omega) PP.out (HR.out.1.below B0.out)).mono ?_
  rintro e w1 ⟨rfl, hb⟩
  have B1 : Hid (Below w.heap.size w w1) := B0.out.trans (hb.mono B0.out.size)
  have X1 : Hid (Box w1 w.heap.size [.slice a1 D.S.length c1, .slice a2 D.C.length c2, .bool D.A, .slice a3 D.K.length c3]) := Box.below ((Box.new rfl).old _) hb
  have Y1 : Hid (Box w1 (w.heap.size + 1) [.int .i64 0, .int .i64 0, .slice none 0 0]) := Box.below (Box.new (by simp)) hb
  clear hb B0
  go_wp2_with fail
  refine (l04ReadL _ _ (Nat.le_trans (last_size HR.out.2.2.1 (by have h9 := HR.out.2.2.2; omega)) (by omega))).mono ?_
  rintro e w2 ⟨g2, r2, b2, k2, d2, o2, rfl, hr, hb⟩
  have Z1 : Hid (w.heap.size + 2 ≤ w1.heap.size ∧ w1.heap.size ≤ w2.heap.size) := ⟨World.block_lt_of_cell? _ _ (Y1.out 0 _ rfl).1, hb.size⟩
  have B2 : Hid (Below w.heap.size w w2) := B1.out.trans (hb.mono B1.out.size)
  have X2 : Hid (Box w2 w.heap.size [.slice a1 D.S.length c1, .slice a2 D.C.length c2, .bool D.A, .slice a3 D.K.length c3]) := X1.out.below hb
  have Y2 : Hid (Box w2 (w.heap.size + 1) [.int .i64 0, .int .i64 0, .slice none 0 0]) := Y1.out.below hb
  have R2 : Hid (ReadL w2 w1.heap.size (supAt D 0) g2 r2 b2 k2 d2 o2) := hr
  have A2 : Hid (Below w2.heap.size w2 (w2.alloc (.cells #[.int .i64 g2, .int .i64 r2, .slice b2 k2 d2] 42))) := (Below.refl _ _).alloc (Nat.le_refl _) _
  clear hb hr X1 Y1 B1
  obtain ⟨p0, _⟩ := (X2.out.below A2.out) 0 _ rfl
  obtain ⟨p1, _⟩ := (X2.out.below A2.out) 1 _ rfl
  obtain ⟨p2, _⟩ := (X2.out.below A2.out) 2 _ rfl
  obtain ⟨p3, _⟩ := (X2.out.below A2.out) 3 _ rfl
  go_wp2_with fail
  refine (l02Read _ D 1 _ HR.out.2.1 (by have h9 := HR.out.2.2.2; omega) PP.out (HR.out.1.below (B2.out.trans (A2.out.mono B2.out.size)))).mono ?_
  rintro e w3 ⟨rfl, hb⟩
  have H3 : Hid (Below w2.heap.size w2 w3) := Below.new hb
  have V3 : Hid (Box w3 w2.heap.size [.int .i64 g2, .int .i64 r2, .slice b2 k2 d2]) := Box.below (Box.new rfl) hb
  clear hb p0 p1 p2 p3
  go_wp2_with fail
  refine (l04ReadL _ _ (Nat.le_trans (last_size HR.out.2.2.1 (by have h9 := HR.out.2.2.2; omega)) (by omega))).mono ?_
  rintro e w4 ⟨g4, r4, b4, k4, d4, o4, rfl, hr, hb⟩
  have H4 : Hid (Below w2.heap.size w2 w4) := H3.out.trans (hb.mono H3.out.size)
  have B4 : Hid (Below w.heap.size w w4) := B2.out.trans (H4.out.mono B2.out.size)
  have Y4 : Hid (Box w4 (w.heap.size + 1) [.int .i64 0, .int .i64 0, .slice none 0 0]) := Y2.out.below H4.out
  have V4 : Hid (Box w4 w2.heap.size [.int .i64 g2, .int .i64 r2, .slice b2 k2 d2]) := V3.out.below hb
  have R4 : Hid (ReadL w4 w3.heap.size (supAt D 1) g4 r4 b4 k4 d4 o4) := hr
  have S4 : Hid (ReadL w4 w1.heap.size (supAt D 0) g2 r2 b2 k2 d2 o2) := R2.out.below H4.out
  have Z3 : Hid (w.heap.size + 2 ≤ w3.heap.size) := by show _ ≤ _; have h8 := Z1.out; have h7 := H3.out.size; omega
  clear hb hr R2 X2 Y2 V3 H3 H4 B2 A2
  cases o2 with
  | false =>
    have NM : Hid (newestM (supAt D 0) (supAt D 1) = supAt D 1) := by
      rcases S4.out with ⟨_, h⟩ | ⟨h, _⟩
      · exact newest_b h
      · cases h
    cases o4 with
    | false =>
      obtain ⟨⟨f0, h0⟩, ⟨f1, h1⟩, ⟨f2, h2⟩, s0, s1, s2⟩ := (Y4.out.old (.cells #[.int .i64 g4, .int .i64 r4, .slice b4 k4 d4] 42)).w3in (.int .i64 g4) (.int .i64 r4) (.slice b4 k4 d4)
      obtain ⟨p0, _⟩ := (V4.out.old (.cells #[.int .i64 g4, .int .i64 r4, .slice b4 k4 d4] 42)) 0 _ rfl
      obtain ⟨p1, _⟩ := (V4.out.old (.cells #[.int .i64 g4, .int .i64 r4, .slice b4 k4 d4] 42)) 1 _ rfl
      obtain ⟨p2, _⟩ := (V4.out.old (.cells #[.int .i64 g4, .int .i64 r4, .slice b4 k4 d4] 42)) 2 _ rfl
      go_wp2_with fail
      exact bodyPost_ret (v := .tuple #[.agg #[.int .i64 g4, .int .i64 r4, .slice b4 k4 d4], .bool false]) (by simp [results, Tryz.results34, go_sem, s0, s1, s2]) rfl ⟨g4, r4, b4, k4, d4, _, rfl, (by rw [NM.out]; exact R4.out.fin (B := w.heap.size + 1) (lo' := w.heap.size) (.cells #[.int .i64 g4, .int .i64 r4, .slice b4 k4 d4] 42) (by have h9 := Z3.out; omega) (by have h9 := Z3.out; omega) _ _ _), Below.w3 (B4.out.alloc B4.out.size _) (by omega) _ _ _⟩
    | true =>
      obtain ⟨⟨f0, h0⟩, ⟨f1, h1⟩, ⟨f2, h2⟩, s0, s1, s2⟩ := (Y4.out.old (.cells #[.int .i64 g4, .int .i64 r4, .slice b4 k4 d4] 42)).w3in (.int .i64 g4) (.int .i64 r4) (.slice b4 k4 d4)
      obtain ⟨p0, _⟩ := (V4.out.old (.cells #[.int .i64 g4, .int .i64 r4, .slice b4 k4 d4] 42)) 0 _ rfl
      obtain ⟨p1, _⟩ := (V4.out.old (.cells #[.int .i64 g4, .int .i64 r4, .slice b4 k4 d4] 42)) 1 _ rfl
      obtain ⟨p2, _⟩ := (V4.out.old (.cells #[.int .i64 g4, .int .i64 r4, .slice b4 k4 d4] 42)) 2 _ rfl
      go_wp2_with fail
      exact bodyPost_ret (v := .tuple #[.agg #[.int .i64 g4, .int .i64 r4, .slice b4 k4 d4], .bool true]) (by simp [results, Tryz.results34, go_sem, s0, s1, s2]) rfl ⟨g4, r4, b4, k4, d4, _, rfl, (by rw [NM.out]; exact R4.out.fin (B := w.heap.size + 1) (lo' := w.heap.size) (.cells #[.int .i64 g4, .int .i64 r4, .slice b4 k4 d4] 42) (by have h9 := Z3.out; omega) (by have h9 := Z3.out; omega) _ _ _), Below.w3 (B4.out.alloc B4.out.size _) (by omega) _ _ _⟩
  | true =>
    obtain ⟨U2, e2, gU⟩ : ∃ U, supAt D 0 = some U ∧ U.G = g2 := by
      rcases S4.out with ⟨h, _⟩ | ⟨_, U, h, h3, _⟩
      · cases h
      · exact ⟨U, h, h3⟩
    cases o4 with
    | false =>
      have NM : Hid (newestM (supAt D 0) (supAt D 1) = supAt D 0) := by
        rcases R4.out with ⟨_, h⟩ | ⟨h, _⟩
        · exact newest_a e2 h
        · cases h
      clear e2 gU
      obtain ⟨⟨f0, h0⟩, ⟨f1, h1⟩, ⟨f2, h2⟩, s0, s1, s2⟩ := (Y4.out.old (.cells #[.int .i64 g4, .int .i64 r4, .slice b4 k4 d4] 42)).w3in (.int .i64 g2) (.int .i64 r2) (.slice b2 k2 d2)
      obtain ⟨p0, _⟩ := (V4.out.old (.cells #[.int .i64 g4, .int .i64 r4, .slice b4 k4 d4] 42)) 0 _ rfl
      obtain ⟨p1, _⟩ := (V4.out.old (.cells #[.int .i64 g4, .int .i64 r4, .slice b4 k4 d4] 42)) 1 _ rfl
      obtain ⟨p2, _⟩ := (V4.out.old (.cells #[.int .i64 g4, .int .i64 r4, .slice b4 k4 d4] 42)) 2 _ rfl
      go_wp2_with fail
      exact bodyPost_ret (v := .tuple #[.agg #[.int .i64 g2, .int .i64 r2, .slice b2 k2 d2], .bool true]) (by simp [results, Tryz.results34, go_sem, s0, s1, s2]) rfl ⟨g2, r2, b2, k2, d2, _, rfl, (by rw [NM.out]; exact S4.out.fin (B := w.heap.size + 1) (lo' := w.heap.size) (.cells #[.int .i64 g4, .int .i64 r4, .slice b4 k4 d4] 42) (by have h9 := Z1.out; omega) (by have h9 := Z1.out; omega) _ _ _), Below.w3 (B4.out.alloc B4.out.size _) (by omega) _ _ _⟩
    | true =>
      obtain ⟨U4, e4, gV⟩ : ∃ U, supAt D 1 = some U ∧ U.G = g4 := by
        rcases R4.out with ⟨h, _⟩ | ⟨_, U, h, h3, _⟩
        · cases h
        · exact ⟨U, h, h3⟩
      by_cases hg : g4 < g2
      · have NM : Hid (newestM (supAt D 0) (supAt D 1) = supAt D 0) := by
          show _ = _
          rw [newest_two e2 e4, if_pos (by rw [gU, gV]; exact hg)]
        clear e2 gU e4 gV
        obtain ⟨⟨f0, h0⟩, ⟨f1, h1⟩, ⟨f2, h2⟩, s0, s1, s2⟩ := (Y4.out.old (.cells #[.int .i64 g4, .int .i64 r4, .slice b4 k4 d4] 42)).w3in (.int .i64 g2) (.int .i64 r2) (.slice b2 k2 d2)
        obtain ⟨p0, _⟩ := (V4.out.old (.cells #[.int .i64 g4, .int .i64 r4, .slice b4 k4 d4] 42)) 0 _ rfl
        obtain ⟨p1, _⟩ := (V4.out.old (.cells #[.int .i64 g4, .int .i64 r4, .slice b4 k4 d4] 42)) 1 _ rfl
        obtain ⟨p2, _⟩ := (V4.out.old (.cells #[.int .i64 g4, .int .i64 r4, .slice b4 k4 d4] 42)) 2 _ rfl
        go_wp2_with fail
        exact bodyPost_ret (v := .tuple #[.agg #[.int .i64 g2, .int .i64 r2, .slice b2 k2 d2], .bool true]) (by simp [results, Tryz.results34, go_sem, s0, s1, s2]) rfl ⟨g2, r2, b2, k2, d2, _, rfl, (by rw [NM.out]; exact S4.out.fin (B := w.heap.size + 1) (lo' := w.heap.size) (.cells #[.int .i64 g4, .int .i64 r4, .slice b4 k4 d4] 42) (by have h9 := Z1.out; omega) (by have h9 := Z1.out; omega) _ _ _), Below.w3 (B4.out.alloc B4.out.size _) (by omega) _ _ _⟩
      · have NM : Hid (newestM (supAt D 0) (supAt D 1) = supAt D 1) := by
          show _ = _
          rw [newest_two e2 e4, if_neg (by rw [gU, gV]; exact hg)]
        clear e2 gU e4 gV
        obtain ⟨⟨f0, h0⟩, ⟨f1, h1⟩, ⟨f2, h2⟩, s0, s1, s2⟩ := (Y4.out.old (.cells #[.int .i64 g4, .int .i64 r4, .slice b4 k4 d4] 42)).w3in (.int .i64 g4) (.int .i64 r4) (.slice b4 k4 d4)
        obtain ⟨p0, _⟩ := (V4.out.old (.cells #[.int .i64 g4, .int .i64 r4, .slice b4 k4 d4] 42)) 0 _ rfl
        obtain ⟨p1, _⟩ := (V4.out.old (.cells #[.int .i64 g4, .int .i64 r4, .slice b4 k4 d4] 42)) 1 _ rfl
        obtain ⟨p2, _⟩ := (V4.out.old (.cells #[.int .i64 g4, .int .i64 r4, .slice b4 k4 d4] 42)) 2 _ rfl
        go_wp2_with fail
        exact bodyPost_ret (v := .tuple #[.agg #[.int .i64 g4, .int .i64 r4, .slice b4 k4 d4], .bool true]) (by simp [results, Tryz.results34, go_sem, s0, s1, s2]) rfl ⟨g4, r4, b4, k4, d4, _, rfl, (by rw [NM.out]; exact R4.out.fin (B := w.heap.size + 1) (lo' := w.heap.size) (.cells #[.int .i64 g4, .int .i64 r4, .slice b4 k4 d4] 42) (by have h9 := Z3.out; omega) (by have h9 := Z3.out; omega) _ _ _), Below.w3 (B4.out.alloc B4.out.size _) (by omega) _ _ _⟩
end Go.Proofs.YtnnimocaanofjaaGreatDoor
