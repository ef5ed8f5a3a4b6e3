/-
  Texts of the store, brought together: Dlaw0, Down, Dwr, Grp, Drd, Dcr, Sor. By an AI agent.
-/
import Derived.Test.YtnnimocaanofjaaGreatDoorSt26
import Derived.ProofKit
import Derived.Deep.RegionLaw
import Derived.ArgAppend
import Derived.Test.YtnnimocaanofjaaGreatDoorSt17
/-
  Small facts for the walks of the laws on disks. By an AI agent.
-/
namespace Go.Proofs.YtnnimocaanofjaaGreatDoor
open Go.ChangeShapes Go.WideShapes Go.ChangeAt Go.RowKit Go.Deep
set_option linter.unusedVariables false
theorem ReadsD.drew {w : World} {v : Value} {D : DM} (h : ReadsD w v D) : ReadsD w.drew v D := h
theorem OwnsD.drew {w : World} {lo hi : Nat} {v : Value} {D : DM} (h : OwnsD w lo hi v D) : OwnsD w.drew lo hi v D := h
theorem OwnsD.lit {w : World} {lo hi : Nat} {v : Value} {D : DM} (h : OwnsD w lo hi v D) : ∃ a1 c1 a2 c2 a3 c3, v = .agg #[.slice a1 D.S.length c1, .slice a2 D.C.length c2, .bool D.A, .slice a3 D.K.length c3] := by
  obtain ⟨a1, c1, a2, c2, a3, c3, e, _⟩ := h.reads
  exact ⟨a1, c1, a2, c2, a3, c3, e⟩
theorem ReadsD.of {w : World} {a1 a2 a3 : Option Addr} {c1 c2 c3 : Nat} {D : DM} (h : ReadsD w (.agg #[.slice a1 D.S.length c1, .slice a2 D.C.length c2, .bool D.A, .slice a3 D.K.length c3]) D) : ReadsD w (.agg #[.slice a1 D.S.length c1, .slice a2 D.C.length c2, .bool D.A, .slice a3 D.K.length c3]) D := h
end Go.Proofs.YtnnimocaanofjaaGreatDoor

/-
  Contracts of the helpers that copy disks. By an AI agent.
-/
namespace Go.Proofs.YtnnimocaanofjaaGreatDoor
open Go.ChangeShapes Go.WideShapes Go.ChangeAt Go.RowKit Go.Deep
set_option linter.unusedVariables false

theorem OwnsD.nil (w : World) (lo hi : Nat) : OwnsD w lo hi (.agg #[.slice none 0 0, .slice none 0 0, .bool false, .slice none 0 0]) DM.none :=
  ⟨_, _, _, rfl, ⟨World.ownsRow_nil _ _ _ _, fun k e => by cases e⟩, ⟨World.ownsRow_nil _ _ _ _, fun k e => by cases e⟩, World.ownsRow_nil _ _ _ _, fun k e => by cases e⟩
theorem OwnsD.mono {w : World} {lo hi lo' hi' : Nat} {v : Value} {D : DM} (h : OwnsD w lo hi v D) (hl : lo' ≤ lo) (hh : hi ≤ hi') : OwnsD w lo' hi' v D := by
  obtain ⟨v1, v2, v3, rfl, ⟨h1, k1⟩, ⟨h2, k2⟩, h3, k3⟩ := h
  exact ⟨v1, v2, v3, rfl, ⟨own_mono h1 hl, fun k e => Nat.lt_of_lt_of_le (k1 k e) hh⟩, ⟨own_mono h2 hl, fun k e => Nat.lt_of_lt_of_le (k2 k e) hh⟩, own_mono h3 hl, fun k e => Nat.lt_of_lt_of_le (k3 k e) hh⟩
theorem OwnsD.w4 {w : World} {lo hi B : Nat} {v : Value} {D : DM} (h : OwnsD w lo hi v D) (hB : B < lo) (v0 v1 v2 v3 : Value) : OwnsD (W4 w B v0 v1 v2 v3) lo hi v D := by
  obtain ⟨u1, u2, u3, rfl, ⟨h1, k1⟩, ⟨h2, k2⟩, h3, k3⟩ := h
  exact ⟨u1, u2, u3, rfl, ⟨own_w4 h1 hB _ _ _ _, k1⟩, ⟨own_w4 h2 hB _ _ _ _, k2⟩, own_w4 h3 hB _ _ _ _, k3⟩

end Go.Proofs.YtnnimocaanofjaaGreatDoor

/-
  Contracts of both DiskWrite. By an AI agent.
-/
namespace Go.Proofs.YtnnimocaanofjaaGreatDoor
open Go.ChangeShapes Go.WideShapes Go.ChangeAt Go.RowKit Go.Deep
set_option linter.unusedVariables false

theorem OwnsD.rows {w : World} {lo hi : Nat} {x1 x2 x3 : Value} {A : Bool} {D : DM} (h : OwnsD w lo hi (.agg #[x1, x2, .bool A, x3]) D) : D.A = A ∧ w.ownsRow lo 9 1 x1 D.S.length (cellsS D.S) ∧ w.ownsRow lo 127 2 x2 D.C.length (cellsQ D.C) ∧ w.ownsRow lo 3 1 x3 D.K.length (cellsI D.K) := by
  obtain ⟨u1, u2, u3, e, ⟨h1, _⟩, ⟨h2, _⟩, h3, _⟩ := h
  simp at e
  obtain ⟨rfl, rfl, rfl, rfl⟩ := e
  exact ⟨rfl, h1, h2, h3⟩
end Go.Proofs.YtnnimocaanofjaaGreatDoor

/-
  Lists of lists: each sector's writes, in blocks of their own. By an AI agent.
-/
namespace Go.Proofs.YtnnimocaanofjaaGreatDoor
open Go.ChangeShapes Go.WideShapes Go.ChangeAt Go.RowKit Go.Deep
set_option linter.unusedVariables false

/-- Block LB holds n lists; list j holds what of the writes C goes to sector j; their blocks are others, from base on. -/
structure Grp (w : World) (base LB n : Nat) (vs : List Value) (C : List (Int × ByteArray)) : Prop where
  len : vs.length = n
  lists : w.ownsRow base 22 1 (.slice (some ⟨LB, 0, none⟩) n n) n vs
  row : ∀ j, j < n → w.ownsRow base 9 1 (vs.getD j undef) (byS C j).length (cellsS (byS C j))
  apart : ∀ i j, i < n → j < n → i ≠ j → ∀ g, (vs.getD i undef).ownBlock = some g → (vs.getD j undef).ownBlock ≠ some g
theorem Grp.below {w w' : World} {base LB n : Nat} {vs : List Value} {C : List (Int × ByteArray)} (h : Grp w base LB n vs C) (hb : Below w.heap.size w w') : Grp w' base LB n vs C :=
  ⟨h.len, own_below h.lists hb, fun j hj => own_below (h.row j hj) hb, h.apart⟩
theorem Grp.drew {w : World} {base LB n : Nat} {vs : List Value} {C : List (Int × ByteArray)} (h : Grp w base LB n vs C) : Grp w.drew base LB n vs C := ⟨h.len, h.lists, h.row, h.apart⟩
theorem Grp.made {w : World} {n : Nat} (hn : n ≤ 1048576) : Grp (w.alloc (.cells (madeCells #[.slice none 0 0] n) 22)) w.heap.size w.heap.size n (List.replicate n (.slice none 0 0)) [] := by
  have hd : ∀ j, j < n → (List.replicate n (Value.slice none 0 0)).getD j undef = .slice none 0 0 := fun j hj => by rw [List.getD_eq_getElem?_getD]; simp [hj]
  refine ⟨by simp, ⟨by simp, .inr ⟨w.heap.size, n, _, rfl, Nat.le_refl _, heap_alloc_new _ _, Nat.le_refl _, by unfold maxLen; omega, by simp [size_madeCells], ?_⟩⟩, fun j hj => ?_, fun i j hi hj hne g e => ?_⟩
  · rw [toList_madeCells_one, List.take_of_length_le (by simp)]
  · rw [hd j hj]; exact World.ownsRow_nil _ _ _ _
  · rw [hd i hi] at e; cases e
end Go.Proofs.YtnnimocaanofjaaGreatDoor

/-
  Contracts of both DiskRead. By an AI agent.
-/
namespace Go.Proofs.YtnnimocaanofjaaGreatDoor
open Go.ChangeShapes Go.WideShapes Go.ChangeAt Go.RowKit Go.Deep
set_option linter.unusedVariables false

theorem byS_append (A B : List (Int × ByteArray)) (i : Nat) : byS (A ++ B) i = byS A i ++ byS B i := by simp [byS]
theorem byS_one_yes (j : Nat) (y : ByteArray) : byS [((j : Int), y)] j = [y] := by simp [byS]
theorem byS_one_no (x : Int) (j : Nat) (y : ByteArray) (h0 : 0 ≤ x) (h : x ≠ (j : Int)) : byS [(x, y)] j = [] := by
  unfold byS
  rw [List.filter_cons, if_neg (by simp; omega)]; rfl
theorem drop_one {α : Type} (L : List α) (d : α) (k : Nat) (h : k < L.length) : L.drop k = [L.getD k d] ++ L.drop (k + 1) := by
  rw [List.drop_eq_getElem_cons h, List.getD_eq_getElem?_getD, List.getElem?_eq_getElem h]; rfl
set_option maxHeartbeats 1000000 in
theorem l02Read (v : Value) (D : DM) (j : Nat) (w : World) (hs : smallD D) (hj : j < D.S.length) (hp : ∀ p ∈ D.C, 0 ≤ p.1) (h : ReadsD w v D) :
    Calls Tryz.prog 80 #[v, .int .i64 (j : Int)] w fun e w' => e = .returned (.string (lastOr (byS D.C j) (D.S.getD j e0))) ∧ Below w.heap.size w w' := by
  obtain ⟨a1, c1, a2, c2, a3, c3, rfl, s1, s2, s3⟩ := h
  have S1 : Hid (Src w a1 (cellsS D.S)) := s1
  have S2 : Hid (Src w a2 (cellsQ D.C)) := s2
  have HP : Hid (∀ p ∈ D.C, 0 ≤ p.1) := hp
  obtain ⟨n, hn⟩ : ∃ n, D.S.length = n := ⟨_, rfl⟩
  obtain ⟨m, hm⟩ : ∃ m, D.C.length = m := ⟨_, rfl⟩
  have N1 : Hid (D.S.length = n) := hn
  have N2 : Hid (D.C.length = m) := hm
  have hm1 : m ≤ 1048576 := by rw [← hm]; exact hs.2.1.1
  have hn1 : n ≤ 1048576 := by rw [← hn]; exact hs.1.1
  have hjn : (j : Int) < (n : Int) := by rw [hn] at hj; omega
  have hj0 : (0 : Int) ≤ (j : Int) := by omega
  rw [hn, hm]
  obtain ⟨Y, hY⟩ : ∃ Y, lastOr (byS D.C j) (D.S.getD j e0) = Y := ⟨_, rfl⟩
  rw [hY]
  have HY : Hid (lastOr (byS D.C j) (D.S.getD j e0) = Y) := hY
  clear hs s1 s2 s3 hp hn hm hj hY
  go_enter Tryz.func80, Tryz.ntmps80
  go_wp2_with fail
  go_loopw [5] (fun i wr => ∃ q : Int, i = .int .i64 q ∧ -1 ≤ q ∧ q < (m : Int) ∧ Hid (byS (D.C.drop (q + 1).toNat) j = []) ∧ Hid (Below w.heap.size w wr) ∧ Hid (Box wr w.heap.size [.slice a1 n c1, .slice a2 m c2, .bool D.A, .slice a3 D.K.length c3])) (fun i _ => (intOf i + 1).toNat)
  case atStart => exact ⟨(m : Int) - 1, rfl, by omega, by omega, by show byS _ j = []; rw [List.drop_of_length_le (by rw [N2.out]; omega)]; rfl, (Below.refl _ _).alloc (Nat.le_refl _) _, Box.new rfl⟩
  case round =>
    obtain ⟨q, rfl, hq1, hq2, hnone, hb, HX⟩ := hrel
    by_cases hneg : q < 0
    · have hq : q = -1 := by omega
      have E : Hid (lastOr (byS D.C j) (D.S.getD j e0) = D.S.getD j e0) := by
        have := hnone.out
        rw [hq] at this
        simp at this
        show lastOr _ _ = _
        rw [this]; rfl
      obtain ⟨b, o, y, rfl, hc, hy⟩ := srcS (S1.out.below hb.out) (i := j) (by rw [N1.out]; omega)
      have E2 : Hid (Y = y) := HY.out.symm.trans (E.out.trans hy.out)
      obtain ⟨p0, _⟩ := HX.out 0 _ rfl
      clear hq E hy hnone
      go_wp2_with fail
      go_ret
      exact ⟨by show Ending.returned (.string y) = _; rw [E2.out], hb.out⟩
    · obtain ⟨k, rfl⟩ : ∃ k : Nat, q = (k : Int) := ⟨q.toNat, by omega⟩
      have hkl : Hid (k < D.C.length) := by show k < D.C.length; rw [N2.out]; omega
      obtain ⟨b, o, x, y, rfl, hc1, hc2, hy⟩ := srcQ (S2.out.below hb.out) hkl.out
      have hx0 : 0 ≤ x := by have := HP.out _ (getD_mem D.C q0 k hkl.out); rw [hy.out] at this; exact this
      have hk0 : (0 : Int) ≤ (k : Int) := by omega
      obtain ⟨p1, _⟩ := HX.out 1 _ rfl
      by_cases heq : x = (j : Int)
      · subst heq
        have ht : ((j : Int) == (j : Int)) = true := by simp
        have E2 : Hid (Y = y) := by
          show Y = y
          rw [← HY.out]
          have h1 : D.C = D.C.take k ++ ([((j : Int), y)] ++ D.C.drop (k + 1)) := by
            rw [← hy.out, ← drop_one D.C q0 k hkl.out, List.take_append_drop]
          have h2 := hnone.out
          rw [show ((k : Int) + 1).toNat = k + 1 from by omega] at h2
          rw [h1, byS_append, byS_append, h2, byS_one_yes, List.append_nil, lastOr_snoc]
        clear hnone hy hkl
        go_wp2_with fail
        go_ret
        exact ⟨by show Ending.returned (.string y) = _; rw [E2.out], hb.out⟩
      · have ht : (x == (j : Int)) = false := by simp; exact heq
        have hn2 : Hid (byS (D.C.drop ((k : Int) - 1 + 1).toNat) j = []) := by
          show byS _ j = []
          have h2 := hnone.out
          rw [show ((k : Int) + 1).toNat = k + 1 from by omega] at h2
          rw [show ((k : Int) - 1 + 1).toNat = k from by omega, drop_one D.C q0 k hkl.out, byS_append, h2, hy.out, byS_one_no x j y hx0 heq, List.append_nil]
        clear hnone hy hkl heq
        go_wp2_with fail
        exact ⟨⟨(k : Int) - 1, rfl, by omega, by omega, hn2, hb.out, HX.out⟩, by simp [intOf]⟩

end Go.Proofs.YtnnimocaanofjaaGreatDoor

/-
  Contracts of both DiskCrash and of what they lean on. By an AI agent.
-/
namespace Go.Proofs.YtnnimocaanofjaaGreatDoor
open Go.ChangeShapes Go.WideShapes Go.ChangeAt Go.RowKit Go.Deep
set_option linter.unusedVariables false

theorem set_mem {L : List ByteArray} {i : Nat} {y x : ByteArray} (h : x ∈ L.set i y) : x ∈ L ∨ x = y := List.mem_or_eq_of_mem_set h
theorem applyW_small (S : List ByteArray) (C : List (Int × ByteArray)) (b : Nat) (hS : ∀ x ∈ S, x.size ≤ b) (hC : ∀ p ∈ C, p.2.size ≤ b) : ∀ x ∈ applyW S C, x.size ≤ b := by
  unfold applyW
  induction C generalizing S with
  | nil => exact hS
  | cons p C ih =>
    rw [List.foldl_cons]
    refine ih _ (fun x hx => ?_) (fun q hq => hC q (List.mem_cons_of_mem _ hq))
    rcases set_mem hx with h | h
    · exact hS x h
    · rw [h]; exact hC p (List.mem_cons_self ..)
end Go.Proofs.YtnnimocaanofjaaGreatDoor

/-
  The roots of a superblock. By an AI agent.
-/
namespace Go.Proofs.YtnnimocaanofjaaGreatDoor
open Go.ChangeShapes Go.WideShapes Go.ChangeAt Go.RowKit Go.Deep
set_option linter.unusedVariables false
set_option maxRecDepth 100000

def rootsU (U : UM) : List Int := U.R :: U.S.map fun x => x.2.1
theorem rootsU_length (U : UM) : (rootsU U).length = U.S.length + 1 := by simp [rootsU]
theorem rootsU_snoc (U : UM) {k : Nat} (hk : k < U.S.length) : (rootsU U).take (k + 1 + 1) = (rootsU U).take (k + 1) ++ [(U.S.getD k sn0).2.1] := by
  show U.R :: (U.S.map fun x => x.2.1).take (k + 1) = U.R :: (U.S.map fun x => x.2.1).take k ++ [(U.S.getD k sn0).2.1]
  rw [List.cons_append, List.take_add_one, List.getElem?_map, List.getElem?_eq_getElem hk, List.getD_eq_getElem?_getD, List.getElem?_eq_getElem hk]
  rfl
theorem ownI_new {w : World} {base B : Nat} (x : Int) (hB : B = w.heap.size) (hb : base ≤ w.heap.size) : (w.alloc (.cells #[.int .i64 x] 3)).ownsRow base 3 1 (.slice (some ⟨B, 0, none⟩) 1 1) 1 (cellsI [x]) := by
  subst hB
  refine ⟨rfl, .inr ⟨w.heap.size, 1, #[.int .i64 x], rfl, hb, heap_alloc_new _ _, Nat.le_refl _, by unfold maxLen; omega, by simp, ?_⟩⟩
  rfl
theorem src_1I {w : World} {x : Int} {B t : Nat} (hB : B = w.heap.size) : Src (w.alloc (.cells #[.int .i64 x] t)) (some ⟨B, 0, none⟩) (cellsI [x]) := by
  have hb : Box (w.alloc (.cells #[.int .i64 x] t)) B [.int .i64 x] := Box.new hB
  refine .inr ⟨B, 0, rfl, fun j hj => ?_⟩
  have e : j = 0 := by simp [cellsI] at hj; omega
  subst e
  exact (hb 0 _ rfl).1
set_option maxHeartbeats 1000000 in
theorem specRoots (v : Value) (U : UM) (w : World) (hs : U.S.length ≤ 100000) (h : ReadsU w v U) :
    Calls Tryz.prog 69 #[v] w fun e w' => ∃ u, e = .returned u ∧ w'.ownsRow (w.heap.size + 1) 3 1 u (rootsU U).length (cellsI (rootsU U)) ∧ Below w.heap.size w w' := by
  obtain ⟨a, c, rfl, s1⟩ := h
  have SS : Hid (Src w a (cellsSn U.S)) := s1
  obtain ⟨n, hn⟩ : ∃ n, U.S.length = n := ⟨_, rfl⟩
  obtain ⟨G, hG⟩ : ∃ G, U.G = G := ⟨_, rfl⟩
  obtain ⟨R, hR⟩ : ∃ R, U.R = R := ⟨_, rfl⟩
  have HN : Hid (U.S.length = n ∧ U.R = R) := ⟨hn, hR⟩
  have RL : Hid ((rootsU U).length = n + 1 ∧ (rootsU U).take 1 = [R]) := ⟨by rw [rootsU_length, hn], by unfold rootsU; rw [hR]; rfl⟩
  rw [hn] at hs
  rw [hn, hG, hR]
  clear s1 hn hG hR
  go_enter Tryz.func69, Tryz.ntmps69
  go_wp2_with fail
  have X0 : Hid (Box ((w.alloc (.cells #[.int .i64 G, .int .i64 R, .slice a n c] 42)).alloc (.cells #[.int .i64 R] 3)) w.heap.size [.int .i64 G, .int .i64 R, .slice a n c]) := (Box.new rfl).old _
  have B0 : Hid (Below w.heap.size w ((w.alloc (.cells #[.int .i64 G, .int .i64 R, .slice a n c] 42)).alloc (.cells #[.int .i64 R] 3))) := ((Below.refl _ _).alloc (Nat.le_refl _) _).alloc (by simp) _
  have O0 : Hid (((w.alloc (.cells #[.int .i64 G, .int .i64 R, .slice a n c] 42)).alloc (.cells #[.int .i64 R] 3)).ownsRow (w.heap.size + 1) 3 1 (.slice (some ⟨w.heap.size + 1, 0, none⟩) 1 1) 1 (cellsI ((rootsU U).take 1))) := by
    rw [RL.out.2]
    exact ownI_new R (by simp) (by simp)
  go_loopw [3, 4] (fun lv iv wr => ∃ (k : Nat) (u : Value), u = lv ∧ iv = .int .i64 (k : Int) ∧ k ≤ n ∧ Hid (Below w.heap.size w wr) ∧ Hid (Box wr w.heap.size [.int .i64 G, .int .i64 R, .slice a n c]) ∧ Hid (wr.ownsRow (w.heap.size + 1) 3 1 u (k + 1) (cellsI ((rootsU U).take (k + 1))))) (fun _ i _ => n - (intOf i).toNat)
  case atStart => exact ⟨0, _, rfl, rfl, by omega, B0.out, X0.out, O0.out⟩
  case round =>
    clear X0 B0 O0
    obtain ⟨k, u, hu, rfl, hk, hb, hx, ho⟩ := hrel
    subst hu
    obtain ⟨p2, _⟩ := hx.out 2 _ rfl
    have ZB : Hid (w.heap.size + 1 ≤ wr.heap.size) := World.block_lt_of_cell? _ _ (hx.out 0 _ rfl).1
    have lt3 : Hid (∀ g, Value.ownBlock u = some g → w.heap.size + 1 ≤ g) := fun g e => (ho.out.lt g e).1
    by_cases hlt : k < n
    · obtain ⟨b, o, x, y, z, rfl, q0, q1, q2, hy⟩ := srcSn (SS.out.below hb.out) (i := k) (by rw [HN.out.1]; exact hlt)
      have hk0 : (0 : Int) ≤ (k : Int) := by omega
      have hki : (k : Int) < (n : Int) := by omega
      have SN : Hid ((rootsU U).take (k + 1 + 1) = (rootsU U).take (k + 1) ++ [y]) := by
        have h9 := rootsU_snoc U (k := k) (by rw [HN.out.1]; exact hlt)
        rw [hy.out] at h9
        exact h9
      go_wp2_with (at_builtin; refine wpList_append_src _ rfl _ _ 24 rfl (w.heap.size + 1) 3 (.int .i64 0) 1 8 Tryz.underlying24 infoI rfl (by decide) (by decide) _ (k + 1) (cellsI ((rootsU U).take (k + 1))) rfl (ho.out.alloc _) (some ⟨wr.heap.size, 0, none⟩) 1 1 (cellsI [y]) rfl rfl (src_1I rfl) (cellsI_one _) (by omega) (le_alloc ZB.out _) ?_)
      intro v3 w3 hown3 hgrow3
      have X3 : Hid (Box w3 w.heap.size [.int .i64 G, .int .i64 R, .slice (some ⟨b, o, none⟩) n c]) := Box.grown (hx.out.old _) hgrow3 (fun e => by have h9 := lt3.out _ e; omega)
      have B3 : Hid (Below w.heap.size w w3) := (hb.out.alloc hb.out.size _).grown hgrow3 (le_alloc hb.out.size _) (fun g e => by have h9 := lt3.out g e; omega)
      have O3 : Hid (w3.ownsRow (w.heap.size + 1) 3 1 v3 (k + 1 + 1) (cellsI ((rootsU U).take (k + 1 + 1)))) := by rw [SN.out, cellsI_append]; exact hown3
      clear hown3 hgrow3 q0 q1 q2 p2
      go_wp2_with fail
      exact ⟨⟨k + 1, _, rfl, by go_num, by omega, B3.out, X3.out, O3.out⟩, by simp [intOf]; omega⟩
    · have hkn : ¬ (k : Int) < (n : Int) := by omega
      have FIN : Hid (wr.ownsRow (w.heap.size + 1) 3 1 u (rootsU U).length (cellsI (rootsU U))) := by
        have e : k = n := by omega
        have h9 := ho.out
        rw [e, List.take_of_length_le (by rw [RL.out.1]; omega)] at h9
        rw [RL.out.1]
        exact h9
      go_wp2_with fail
      go_ret
      exact ⟨u, rfl, FIN.out, hb.out⟩
set_option maxHeartbeats 1000000 in
theorem implRoots (v : Value) (U : UM) (w : World) (hs : U.S.length ≤ 100000) (h : ReadsU w v U) :
    Calls Tryz.prog 138 #[v] w fun e w' => ∃ u, e = .returned u ∧ w'.ownsRow (w.heap.size + 1) 3 1 u (rootsU U).length (cellsI (rootsU U)) ∧ Below w.heap.size w w' := by
  obtain ⟨a, c, rfl, s1⟩ := h
  have SS : Hid (Src w a (cellsSn U.S)) := s1
  obtain ⟨n, hn⟩ : ∃ n, U.S.length = n := ⟨_, rfl⟩
  obtain ⟨G, hG⟩ : ∃ G, U.G = G := ⟨_, rfl⟩
  obtain ⟨R, hR⟩ : ∃ R, U.R = R := ⟨_, rfl⟩
  have HN : Hid (U.S.length = n ∧ U.R = R) := ⟨hn, hR⟩
  have RL : Hid ((rootsU U).length = n + 1 ∧ (rootsU U).take 1 = [R]) := ⟨by rw [rootsU_length, hn], by unfold rootsU; rw [hR]; rfl⟩
  rw [hn] at hs
  rw [hn, hG, hR]
  clear s1 hn hG hR
  go_enter Tryz.func138, Tryz.ntmps138
  go_wp2_with fail
  have B0 : Hid (Below w.heap.size w ((w.alloc (.cells #[.int .i64 G, .int .i64 R, .slice a n c] 42)).alloc (.cells #[.int .i64 R] 3))) := ((Below.refl _ _).alloc (Nat.le_refl _) _).alloc (by simp) _
  have O0 : Hid (((w.alloc (.cells #[.int .i64 G, .int .i64 R, .slice a n c] 42)).alloc (.cells #[.int .i64 R] 3)).ownsRow (w.heap.size + 1) 3 1 (.slice (some ⟨w.heap.size + 1, 0, none⟩) 1 1) 1 (cellsI ((rootsU U).take 1))) := by
    rw [RL.out.2]
    exact ownI_new R (by simp) (by simp)
  have Z0 : Hid (w.heap.size + 1 ≤ ((w.alloc (.cells #[.int .i64 G, .int .i64 R, .slice a n c] 42)).alloc (.cells #[.int .i64 R] 3)).heap.size) := by show _ ≤ _; simp
  go_loopw [3, 12] (fun lv iv wr => ∃ (k : Nat) (u : Value), u = lv ∧ iv = .int .i64 (k : Int) ∧ k ≤ n ∧ Hid (Below w.heap.size w wr) ∧ Hid (w.heap.size + 1 ≤ wr.heap.size) ∧ Hid (wr.ownsRow (w.heap.size + 1) 3 1 u (k + 1) (cellsI ((rootsU U).take (k + 1))))) (fun _ i _ => n - (intOf i).toNat)
  case atStart => exact ⟨0, _, rfl, rfl, by omega, B0.out, Z0.out, O0.out⟩
  case round =>
    clear B0 O0 Z0
    obtain ⟨k, u, hu, rfl, hk, hb, ZB, ho⟩ := hrel
    subst hu
    have lt3 : Hid (∀ g, Value.ownBlock u = some g → w.heap.size + 1 ≤ g) := fun g e => (ho.out.lt g e).1
    by_cases hlt : k < n
    · obtain ⟨b, o, x, y, z, rfl, q0, q1, q2, hy⟩ := srcSn (SS.out.below hb.out) (i := k) (by rw [HN.out.1]; exact hlt)
      have hk0 : (0 : Int) ≤ (k : Int) := by omega
      have hki : (k : Int) < (n : Int) := by omega
      have SN : Hid ((rootsU U).take (k + 1 + 1) = (rootsU U).take (k + 1) ++ [y]) := by
        have h9 := rootsU_snoc U (k := k) (by rw [HN.out.1]; exact hlt)
        rw [hy.out] at h9
        exact h9
      go_wp2_with (at_builtin; refine wpList_append_src _ rfl _ _ 24 rfl (w.heap.size + 1) 3 (.int .i64 0) 1 8 Tryz.underlying24 infoI rfl (by decide) (by decide) _ (k + 1) (cellsI ((rootsU U).take (k + 1))) rfl ((ho.out.alloc _).alloc _) (some ⟨wr.heap.size + 1, 0, none⟩) 1 1 (cellsI [y]) rfl rfl (src_1I (by simp)) (cellsI_one _) (by omega) (le_alloc (le_alloc ZB.out _) _) ?_)
      intro v3 w3 hown3 hgrow3
      have B3 : Hid (Below w.heap.size w w3) := ((hb.out.alloc hb.out.size _).alloc (le_alloc hb.out.size _) _).grown hgrow3 (le_alloc (le_alloc hb.out.size _) _) (fun g e => by have h9 := lt3.out g e; omega)
      have O3 : Hid (w3.ownsRow (w.heap.size + 1) 3 1 v3 (k + 1 + 1) (cellsI ((rootsU U).take (k + 1 + 1)))) := by rw [SN.out, cellsI_append]; exact hown3
      have Z3 : Hid (w.heap.size + 1 ≤ w3.heap.size) := by show _ ≤ _; have h8 := hgrow3.size; have h9 := ZB.out; simp at h8; omega
      clear hown3 hgrow3 q0 q1 q2
      go_wp2_with fail
      exact ⟨⟨k + 1, _, rfl, by go_num, by omega, B3.out, Z3.out, O3.out⟩, by simp [intOf]; omega⟩
    · have hkn : ¬ (k : Int) < (n : Int) := by omega
      have FIN : Hid (wr.ownsRow (w.heap.size + 1) 3 1 u (rootsU U).length (cellsI (rootsU U))) := by
        have e : k = n := by omega
        have h9 := ho.out
        rw [e, List.take_of_length_le (by rw [RL.out.1]; omega)] at h9
        rw [RL.out.1]
        exact h9
      go_wp2_with fail
      go_ret
      exact ⟨u, rfl, FIN.out, hb.out⟩
end Go.Proofs.YtnnimocaanofjaaGreatDoor

