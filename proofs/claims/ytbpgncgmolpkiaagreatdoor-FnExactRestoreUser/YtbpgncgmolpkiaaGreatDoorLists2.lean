
/-
  Contracts of the helpers that write marks into slices of strings and of integers, and that look whether they are held. By an AI agent.
-/
import Derived.Test.YtbpgncgmolpkiaaGreatDoorLists1
namespace Go.Proofs.YtbpgncgmolpkiaaGreatDoor
open Go.ChangeShapes Go.WideShapes Go.ChangeAt Go.RowKit Go.Deep
set_option linter.unusedVariables false

def mkS (k n : Nat) : List ByteArray := (List.range n).map fun i => markT (k + i)
def mkI (k n : Nat) : List Int := (List.range n).map fun i => ((k + i : Nat) : Int)
theorem mkS_length (k n : Nat) : (mkS k n).length = n := by simp [mkS]
theorem mkI_length (k n : Nat) : (mkI k n).length = n := by simp [mkI]
theorem mkS_get (k n i : Nat) (h : i < n) : (mkS k n).getD i e0 = markT (k + i) := by
  rw [List.getD_eq_getElem?_getD]; simp [mkS, h]
theorem mkI_get (k n i : Nat) (h : i < n) : (mkI k n).getD i 0 = ((k + i : Nat) : Int) := by
  rw [List.getD_eq_getElem?_getD]; simp [mkI, h]

set_option maxHeartbeats 600000 in
theorem markIntS (v : Value) (n k base : Nat) (xs : List Value) (w : World) (hn : n ≤ 1048576) (hk0 : 0 < k) (hk1 : k ≤ 8388608) (ho : w.ownsRow base 3 1 v n xs) :
    Calls Tryz.prog 17 #[v, .int .i64 (k : Int)] w fun e w' => e = .returned (.int .i64 ((k + n : Nat) : Int)) ∧ w.grownBy w' v.ownBlock ∧ w'.ownsRow base 3 1 v n (cellsI (mkI k n)) := by
  have hlen := ho.1
  have hcase := ho.2
  rcases hcase with ⟨rfl, h0⟩ | ⟨B, cap, cur, rfl, _⟩
  · subst h0
    clear ho hlen
    go_enter Tryz.func17, Tryz.ntmps17
    go_wp2_with fail
    go_loop [1, 5] (fun kk i => i = .int .i64 0 ∧ kk = .int .i64 (k : Int)) (fun _ _ => 0)
    case atStart => exact ⟨rfl, rfl⟩
    case round =>
      obtain ⟨rfl, rfl⟩ := hrel
      go_wp2_with fail
      go_ret
      exact ⟨rfl, gb_refl _ _, World.ownsRow_nil _ _ _ _⟩
  have HO : Hid (w.ownsRow base 3 1 (.slice (some ⟨B, 0, none⟩) n cap) n xs) := ho
  have HN : Hid (xs.length = n) := by show xs.length = n; omega
  have HM : Hid ((cellsI (mkI k n)).length = n) := by show (cellsI (mkI k n)).length = n; rw [cellsI_length, mkI_length]
  clear ho hlen
  go_enter Tryz.func17, Tryz.ntmps17
  go_wp2_with fail
  go_loopw [1, 5] (fun kk i wr => ∃ j x : Nat, j ≤ n ∧ i = .int .i64 (j : Int) ∧ kk = .int .i64 (x : Int) ∧ x ≤ 16777216 ∧ 0 < x ∧ Hid (x = k + j) ∧ Hid (w.grownBy wr (some B)) ∧ Hid (wr.ownsRow base 3 1 (.slice (some ⟨B, 0, none⟩) n cap) n ((cellsI (mkI k n)).take j ++ xs.drop j))) (fun _ i _ => n - (intOf i).toNat)
  case atStart => exact ⟨0, k, by omega, rfl, rfl, by omega, by omega, by show k = k + 0; omega, gb_refl _ _, HO.out⟩
  case round =>
    obtain ⟨j, x, hj, rfl, rfl, hx1, hx0, hx, G1, O1⟩ := hrel
    by_cases hlt : j < n
    · have hjn : (j : Int) < (n : Int) := by omega
      have hxb : Hid (x + 1 ≤ 16777216) := by show x + 1 ≤ 16777216; have := hx.out; omega
      have hjl : Hid (j < ((cellsI (mkI k n)).take j ++ xs.drop j).length) := by
        show j < _; rw [fill_length _ _ _ (HN.out.trans HM.out.symm), HM.out]; exact hlt
      obtain ⟨z, o1, o2⟩ := own_cellX O1.out hjl.out
      go_wp2_with fail
      refine ⟨⟨j + 1, x + 1, by omega, by go_num, by go_num, hxb.out, by omega, by show x + 1 = k + (j + 1); have := hx.out; omega, gb_set G1.out _ _, ?_⟩, by simp [intOf]; omega⟩
      refine own_congr (own_set O1.out j hjl.out _) (fill_set _ _ j _ (by rw [HN.out]; exact hlt) ?_)
      rw [cellsI_get _ _ (by rw [mkI_length]; exact hlt), mkI_get _ _ _ hlt, hx.out]
    · have hjn : j = n := by omega
      have E : Hid ((x : Int) = ((k + n : Nat) : Int)) := by show (x : Int) = ((k + n : Nat) : Int); rw [hx.out, hjn]
      have O2 : Hid (wr.ownsRow base 3 1 (.slice (some ⟨B, 0, none⟩) n cap) n (cellsI (mkI k n))) := own_congr O1.out (by rw [hjn]; exact fill_all HM.out HN.out)
      clear hjn O1
      go_wp2_with fail
      go_ret
      exact ⟨by show Ending.returned (.int .i64 (x : Int)) = _; rw [E.out], G1.out, O2.out⟩

set_option maxHeartbeats 1000000 in
theorem heldIntS (a : Option Addr) (n c k : Nat) (w : World) (hn : n ≤ 1048576) (hk0 : 0 < k) (hk1 : k ≤ 8388608) (ho : Src w a (cellsI (mkI k n))) :
    Calls Tryz.prog 18 #[.slice a n c, .int .i64 (k : Int)] w fun e w' => e = .returned (.int .i64 ((k + n : Nat) : Int)) ∧ Below w.heap.size w w' := by
  have HO : Hid (Src w a (cellsI (mkI k n))) := ho
  clear ho
  go_enter Tryz.func18, Tryz.ntmps18
  go_wp2_with fail
  go_loopw [1, 5] (fun kk i wr => ∃ j x : Nat, j ≤ n ∧ i = .int .i64 (j : Int) ∧ kk = .int .i64 (x : Int) ∧ x ≤ 16777216 ∧ 0 < x ∧ Hid (x = k + j) ∧ Hid (Below w.heap.size w wr)) (fun _ i _ => n - (intOf i).toNat)
  case atStart => exact ⟨0, k, by omega, rfl, rfl, by omega, by omega, by show k = k + 0; omega, Below.refl _ _⟩
  case round =>
    obtain ⟨j, x, hj, rfl, rfl, hx1, hx0, hx, hb⟩ := hrel
    by_cases hlt : j < n
    · obtain ⟨B, o, y, rfl, p1, hy⟩ := srcI (HO.out.below hb.out) (i := j) (by rw [mkI_length]; exact hlt)
      obtain rfl : y = (x : Int) := by rw [← hy.out, mkI_get _ _ _ hlt, hx.out]
      have hj0 : (0 : Int) ≤ (j : Int) := by omega
      have hjn : (j : Int) < (n : Int) := by omega
      have hne : ((x : Int) != (x : Int)) = false := by simp
      have hxb : Hid (x + 1 ≤ 16777216) := by show x + 1 ≤ 16777216; have := hx.out; omega
      go_wp2_with fail
      exact ⟨⟨j + 1, x + 1, by omega, by go_num, by go_num, hxb.out, by omega, by show x + 1 = k + (j + 1); have := hx.out; omega, hb.out⟩, by simp [intOf]; omega⟩
    · have hjn : j = n := by omega
      have E : Hid ((x : Int) = ((k + n : Nat) : Int)) := by show (x : Int) = ((k + n : Nat) : Int); rw [hx.out, hjn]
      clear hjn
      go_wp2_with fail
      go_ret
      exact ⟨by show Ending.returned (.int .i64 (x : Int)) = _; rw [E.out], hb.out⟩
end Go.Proofs.YtbpgncgmolpkiaaGreatDoor
