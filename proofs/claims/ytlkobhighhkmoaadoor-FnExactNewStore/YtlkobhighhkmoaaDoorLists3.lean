
/-
  Contracts of the helpers on slices of writes: sizes, copies, comparisons, marks. By an AI agent.
-/
import Derived.Test.YtlkobhighhkmoaaDoorBoxes
namespace Go.Proofs.YtlkobhighhkmoaaDoor
open Go.ChangeShapes Go.WideShapes Go.ChangeAt Go.RowKit Go.Deep
set_option linter.unusedVariables false

def mkQ (k n : Nat) : List (Int × ByteArray) := (List.range n).map fun i => (((k + i * 2 : Nat) : Int), markT (k + i * 2 + 1))
theorem mkQ_length (k n : Nat) : (mkQ k n).length = n := by simp [mkQ]
theorem mkQ_get (k n i : Nat) (h : i < n) : (mkQ k n).getD i q0 = (((k + i * 2 : Nat) : Int), markT (k + i * 2 + 1)) := by
  rw [List.getD_eq_getElem?_getD]; simp [mkQ, h]
theorem infoQ : (Tryd.prog.info? 115).map (fun i => (i.zero, i.size, i.bytes)) = some (some (.agg #[.int .i64 0, .string ⟨#[]⟩]), 2, 24) := by kernel_rfl
theorem run_make_Q (n : Nat) (hn : n ≤ 1048576) (w : World) : (Instr.makeSlice 23 (.int .i64 (n : Int)) (.int .i64 (n : Int))).run Tryd.prog w = .ok (.slice (some ⟨w.heap.size, 0, none⟩) n n) (w.alloc (.cells (madeCells #[.int .i64 0, .string ⟨#[]⟩] (n * 2)) 115)) :=
  run_make_rows 23 115 (.agg #[.int .i64 0, .string ⟨#[]⟩]) 2 24 n Tryd.underlying23 infoQ (by omega) hn w
set_option maxHeartbeats 400000 in
theorem eqPending (x : Int) (y : ByteArray) (w : World) : Calls Tryd.prog 87 #[.agg #[.int .i64 x, .string y], .agg #[.int .i64 x, .string y]] w fun e w' => e = .returned (.bool true) ∧ Below w.heap.size w w' := by
  have hne : (x != x) = false := by simp
  go_enter Tryd.func87, Tryd.ntmps87
  go_wp2
  go_ret
  exact ⟨rfl, ((Below.refl _ _).alloc (Nat.le_refl _) _).alloc (by simp) _⟩

set_option maxHeartbeats 400000 in
theorem eqPendingS (a b : Option Addr) (n c d : Nat) (L : List (Int × ByteArray)) (w : World) (hL : L.length = n) (hn : n ≤ 9000000000000000000) (ha : Src w a (cellsQ L)) (hb : Src w b (cellsQ L)) :
    Calls Tryd.prog 54 #[.slice a n c, .slice b n d] w fun e w' => e = .returned (.bool true) ∧ Below w.heap.size w w' := by
  have hne : ((n : Int) != (n : Int)) = false := by simp
  have HA : Hid (Src w a (cellsQ L)) := ha
  have HB : Hid (Src w b (cellsQ L)) := hb
  have HL : Hid (L.length = n) := hL
  clear ha hb hL
  go_enter Tryd.func54, Tryd.ntmps54
  go_wp2_with fail
  go_loopw [5] (fun i wr => ∃ k : Nat, k ≤ n ∧ i = .int .i64 k ∧ Hid (Below w.heap.size w wr)) (fun i _ => n - (intOf i).toNat)
  case atStart => exact ⟨0, by omega, rfl, Below.refl _ _⟩
  case round =>
    obtain ⟨k, hk, rfl, hB⟩ := hrel
    by_cases hlt : k < n
    · obtain ⟨b1, o1, x, y, rfl, p1, p2, hy1⟩ := srcQ (HA.out.below hB.out) (i := k) (by rw [HL.out]; exact hlt)
      obtain ⟨b2, o2, x', y', rfl, p3, p4, hy2⟩ := srcQ (HB.out.below hB.out) (i := k) (by rw [HL.out]; exact hlt)
      obtain ⟨rfl, rfl⟩ : x = x' ∧ y = y' := by have := hy1.out.symm.trans hy2.out; simpa using this
      have hk0 : (0 : Int) ≤ (k : Int) := by omega
      have hki : (k : Int) < (n : Int) := by omega
      go_wp2_with fail
      go_region_with (go_at_call 87; refine (eqPending _ _ _).mono ?_; rintro e w1 ⟨rfl, hb1⟩)
      all_goals go_wp2_with fail
      all_goals exact ⟨⟨k + 1, by omega, by go_num, hB.out.drew.trans (hb1.mono hB.out.size)⟩, by simp [intOf]; omega⟩
    · go_wp2_with fail
      go_ret
      exact ⟨rfl, hB.out⟩

set_option maxHeartbeats 600000 in
theorem markPendingS (v : Value) (n k base : Nat) (xs : List Value) (w : World) (hn : n ≤ 1048576) (hk0 : 0 < k) (hk1 : k ≤ 4194304) (ho : w.ownsRow base 115 2 v n xs) :
    Calls Tryd.prog 59 #[v, .int .i64 (k : Int)] w fun e w' => e = .returned (.int .i64 ((k + n * 2 : Nat) : Int)) ∧ w.grownBy w' v.ownBlock ∧ w'.ownsRow base 115 2 v n (cellsQ (mkQ k n)) := by
  have hlen := ho.1
  have hcase := ho.2
  rcases hcase with ⟨rfl, h0⟩ | ⟨B, cap, cur, rfl, _⟩
  · subst h0
    clear ho hlen
    go_enter Tryd.func59, Tryd.ntmps59
    go_wp2_with fail
    go_loop [1, 5] (fun kk i => i = .int .i64 0 ∧ kk = .int .i64 (k : Int)) (fun _ _ => 0)
    case atStart => exact ⟨rfl, rfl⟩
    case round =>
      obtain ⟨rfl, rfl⟩ := hrel
      go_wp2_with fail
      go_ret
      exact ⟨rfl, gb_refl _ _, World.ownsRow_nil _ _ _ _⟩
  have HO : Hid (w.ownsRow base 115 2 (.slice (some ⟨B, 0, none⟩) n cap) n xs) := ho
  have HN : Hid (xs.length = n * 2) := hlen
  have HM : Hid ((cellsQ (mkQ k n)).length = n * 2) := by show (cellsQ (mkQ k n)).length = n * 2; rw [cellsQ_length, mkQ_length]
  clear ho hlen
  go_enter Tryd.func59, Tryd.ntmps59
  go_wp2_with fail
  go_loopw [1, 5] (fun kk i wr => ∃ j x : Nat, j ≤ n ∧ i = .int .i64 (j : Int) ∧ kk = .int .i64 (x : Int) ∧ x ≤ 16777216 ∧ 0 < x ∧ Hid (x = k + j * 2) ∧ Hid (w.grownBy wr (some B)) ∧ Hid (wr.ownsRow base 115 2 (.slice (some ⟨B, 0, none⟩) n cap) n ((cellsQ (mkQ k n)).take (j * 2) ++ xs.drop (j * 2)))) (fun _ i _ => n - (intOf i).toNat)
  case atStart => exact ⟨0, k, by omega, rfl, rfl, by omega, by omega, by show k = k + 0 * 2; omega, gb_refl _ _, by simpa [Hid] using HO.out⟩
  case round =>
    obtain ⟨j, x, hj, rfl, rfl, hx1, hx0, hx, hg, hO⟩ := hrel
    by_cases hlt : j < n
    · have hjn : (j : Int) < (n : Int) := by omega
      have hxb : Hid (x + 2 ≤ 16777216) := by show x + 2 ≤ 16777216; have := hx.out; omega
      have hl1 : Hid (((cellsQ (mkQ k n)).take (j * 2) ++ xs.drop (j * 2)).length = n * 2) := by
        show _ = _; rw [fill_length _ _ _ (HN.out.trans HM.out.symm), HM.out]
      obtain ⟨z1, o1, o2⟩ := own_cellX hO.out (i := j * 2) (by rw [hl1.out]; omega)
      have HJ : Hid (j < (mkQ k n).length) := by show j < (mkQ k n).length; rw [mkQ_length]; exact hlt
      have s1 := own_set hO.out (j * 2) (by rw [hl1.out]; omega) (.int .i64 (x : Int))
      rw [fill_set (cellsQ (mkQ k n)) xs (j * 2) (.int .i64 (x : Int)) (by rw [HN.out]; omega) (by rw [(cellsQ_get _ j HJ.out).1, mkQ_get _ _ _ hlt, hx.out])] at s1
      have S1 : Hid ((wr.setCell ⟨B, j * 2, none⟩ (.int .i64 (x : Int))).ownsRow base 115 2 (.slice (some ⟨B, 0, none⟩) n cap) n ((cellsQ (mkQ k n)).take (j * 2 + 1) ++ xs.drop (j * 2 + 1))) := s1
      have G0 : Hid (w.grownBy (wr.setCell ⟨B, j * 2, none⟩ (.int .i64 (x : Int))) (some B)) := gb_set hg.out _ _
      clear s1 hO hg
      go_wp2_with fail
      rw [show ((x : Int) + 1) = ((x + 1 : Nat) : Int) from by omega]
      refine (markText (x + 1) _ (by omega) (by omega)).mono ?_
      rintro e w2 ⟨rfl, hb2⟩
      have O2 : Hid (w2.ownsRow base 115 2 (.slice (some ⟨B, 0, none⟩) n cap) n ((cellsQ (mkQ k n)).take (j * 2 + 1) ++ xs.drop (j * 2 + 1))) := own_below S1.out hb2
      have G2 : Hid (w.grownBy w2 (some B)) := gb_below G0.out hb2
      clear S1 G0 hb2 o1 o2
      have hl2 : Hid (((cellsQ (mkQ k n)).take (j * 2 + 1) ++ xs.drop (j * 2 + 1)).length = n * 2) := by
        show _ = _; rw [fill_length _ _ _ (HN.out.trans HM.out.symm), HM.out]
      obtain ⟨z2, o1, o2⟩ := own_cellX O2.out (i := j * 2 + 1) (by rw [hl2.out]; omega)
      go_wp2_with fail
      refine ⟨⟨j + 1, x + 2, by omega, by go_num, by go_num, hxb.out, by omega, by show x + 2 = k + (j + 1) * 2; have := hx.out; omega, gb_set G2.out _ _, ?_⟩, by simp [intOf]; omega⟩
      have s2 := own_set O2.out (j * 2 + 1) (by rw [hl2.out]; omega) (.string (markT (x + 1)))
      rw [fill_set (cellsQ (mkQ k n)) xs (j * 2 + 1) (.string (markT (x + 1))) (by rw [HN.out]; omega) (by rw [(cellsQ_get _ j HJ.out).2, mkQ_get _ _ _ hlt, hx.out])] at s2
      rw [show (j + 1) * 2 = j * 2 + 1 + 1 from by omega]
      exact s2
    · have hjn : j = n := by omega
      have E : Hid ((x : Int) = ((k + n * 2 : Nat) : Int)) := by show (x : Int) = ((k + n * 2 : Nat) : Int); rw [hx.out, hjn]
      have O1 : Hid (wr.ownsRow base 115 2 (.slice (some ⟨B, 0, none⟩) n cap) n (cellsQ (mkQ k n))) := own_congr hO.out (by rw [hjn]; exact fill_all HM.out HN.out)
      clear hjn hO
      go_wp2_with fail
      go_ret
      exact ⟨by show Ending.returned (.int .i64 (x : Int)) = _; rw [E.out], hg.out, O1.out⟩

set_option maxHeartbeats 1000000 in
theorem heldPendingS (a : Option Addr) (n c k : Nat) (w : World) (hn : n ≤ 1048576) (hk0 : 0 < k) (hk1 : k ≤ 4194304) (ho : Src w a (cellsQ (mkQ k n))) :
    Calls Tryd.prog 64 #[.slice a n c, .int .i64 (k : Int)] w fun e w' => e = .returned (.int .i64 ((k + n * 2 : Nat) : Int)) ∧ Below w.heap.size w w' := by
  have HO : Hid (Src w a (cellsQ (mkQ k n))) := ho
  clear ho
  go_enter Tryd.func64, Tryd.ntmps64
  go_wp2_with fail
  go_loopw [1, 5] (fun kk i wr => ∃ j x : Nat, j ≤ n ∧ i = .int .i64 (j : Int) ∧ kk = .int .i64 (x : Int) ∧ x ≤ 16777216 ∧ 0 < x ∧ Hid (x = k + j * 2) ∧ Hid (Below w.heap.size w wr)) (fun _ i _ => n - (intOf i).toNat)
  case atStart => exact ⟨0, k, by omega, rfl, rfl, by omega, by omega, by show k = k + 0 * 2; omega, Below.refl _ _⟩
  case round =>
    obtain ⟨j, x, hj, rfl, rfl, hx1, hx0, hx, hb⟩ := hrel
    by_cases hlt : j < n
    · obtain ⟨B, o, p, y, rfl, p1, p2, hy⟩ := srcQ (HO.out.below hb.out) (i := j) (by rw [mkQ_length]; exact hlt)
      obtain ⟨rfl, rfl⟩ : p = (x : Int) ∧ y = markT (x + 1) := by
        have := hy.out
        rw [mkQ_get _ _ _ hlt, ← hx.out] at this
        simp at this
        exact ⟨this.1.symm, this.2.symm⟩
      have hj0 : (0 : Int) ≤ (j : Int) := by omega
      have hjn : (j : Int) < (n : Int) := by omega
      have hne : ((x : Int) != (x : Int)) = false := by simp
      have hxb : Hid (x + 2 ≤ 16777216) := by show x + 2 ≤ 16777216; have := hx.out; omega
      go_wp2_with fail
      go_region_with (go_at_call 82; rw [show ((x : Int) + 1) = ((x + 1 : Nat) : Int) from by omega]; refine (markText (x + 1) _ (by omega) (by omega)).mono ?_; rintro e w2 ⟨rfl, hb2⟩; obtain o5 := ((hb2.cell (p := ⟨B, o + j * 2 + 1, none⟩) (World.block_lt_of_cell? _ _ p2)).trans p2))
      all_goals go_wp2_with fail
      all_goals
        exact ⟨⟨j + 1, x + 2, by omega, by go_num, by go_num, hxb.out, by omega, by show x + 2 = k + (j + 1) * 2; have := hx.out; omega, hb.out.drew.trans (hb2.mono hb.out.size)⟩, by simp [intOf]; omega⟩
    · have hjn : j = n := by omega
      have E : Hid ((x : Int) = ((k + n * 2 : Nat) : Int)) := by show (x : Int) = ((k + n * 2 : Nat) : Int); rw [hx.out, hjn]
      clear hjn
      go_wp2_with fail
      go_ret
      exact ⟨by show Ending.returned (.int .i64 (x : Int)) = _; rw [E.out], hb.out⟩
end Go.Proofs.YtlkobhighhkmoaaDoor
