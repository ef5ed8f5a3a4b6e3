
/-
  Contracts of the helpers that write marks into slices of strings and of integers, and that look whether they are held. By an AI agent.
-/
import Derived.Test.YtmbndpgoihdpnaaGreatDoorLists1
namespace Go.Proofs.YtmbndpgoihdpnaaGreatDoor
open Go.ChangeShapes Go.WideShapes Go.ChangeAt Go.RowKit Go.Deep
set_option linter.unusedVariables false

def mkS (k n : Nat) : List ByteArray := (List.range n).map fun i => markT (k + i)
def mkI (k n : Nat) : List Int := (List.range n).map fun i => ((k + i : Nat) : Int)
theorem mkS_length (k n : Nat) : (mkS k n).length = n := by simp [mkS]
theorem mkI_length (k n : Nat) : (mkI k n).length = n := by simp [mkI]
theorem mkS_get (k n i : Nat) (h : i < n) : (mkS k n).getD i e0 = markT (k + i) := by
  rw [List.getD_eq_getElem?_getD]; simp [mkS, h]
theorem mkI_get (k n i : Nat) (h : i < n) : (mkI k n).getD i 0 = ((k + i : Nat) : Int) := by
  rw [List.getD_eq_getElem?_getD]; simp [mkI, h]

set_option maxHeartbeats 600000 in
theorem markStringS (v : Value) (n k base : Nat) (xs : List Value) (w : World) (hn : n ≤ 1048576) (hk0 : 0 < k) (hk1 : k ≤ 8388608) (ho : w.ownsRow base 9 1 v n xs) :
    Calls Tryz.prog 29 #[v, .int .i64 (k : Int)] w fun e w' => e = .returned (.int .i64 ((k + n : Nat) : Int)) ∧ w.grownBy w' v.ownBlock ∧ w'.ownsRow base 9 1 v n (cellsS (mkS k n)) := by
  have hlen := ho.1
  have hcase := ho.2
  rcases hcase with ⟨rfl, h0⟩ | ⟨B, cap, cur, rfl, _⟩
  · subst h0
    clear ho hlen
    go_enter Tryz.func29, Tryz.ntmps29
    go_wp2_with fail
    go_loop [1, 5] (fun kk i => i = .int .i64 0 ∧ kk = .int .i64 (k : Int)) (fun _ _ => 0)
    case atStart => exact ⟨rfl, rfl⟩
    case round =>
      obtain ⟨rfl, rfl⟩ := hrel
      go_wp2_with fail
      go_ret
      exact ⟨rfl, gb_refl _ _, World.ownsRow_nil _ _ _ _⟩
  have HO : Hid (w.ownsRow base 9 1 (.slice (some ⟨B, 0, none⟩) n cap) n xs) := ho
  have HN : Hid (xs.length = n) := by show xs.length = n; omega
  have HM : Hid ((cellsS (mkS k n)).length = n) := by show (cellsS (mkS k n)).length = n; rw [cellsS_length, mkS_length]
  clear ho hlen
  go_enter Tryz.func29, Tryz.ntmps29
  go_wp2_with fail
  go_loopw [1, 5] (fun kk i wr => ∃ j x : Nat, j ≤ n ∧ i = .int .i64 (j : Int) ∧ kk = .int .i64 (x : Int) ∧ x ≤ 16777216 ∧ 0 < x ∧ Hid (x = k + j) ∧ Hid (w.grownBy wr (some B)) ∧ Hid (wr.ownsRow base 9 1 (.slice (some ⟨B, 0, none⟩) n cap) n ((cellsS (mkS k n)).take j ++ xs.drop j))) (fun _ i _ => n - (intOf i).toNat)
  case atStart => exact ⟨0, k, by omega, rfl, rfl, by omega, by omega, by show k = k + 0; omega, gb_refl _ _, HO.out⟩
  case round =>
    obtain ⟨j, x, hj, rfl, rfl, hx1, hx0, hx, hg, hO⟩ := hrel
    by_cases hlt : j < n
    · have hjn : (j : Int) < (n : Int) := by omega
      have hxb : Hid (x + 1 ≤ 16777216) := by show x + 1 ≤ 16777216; have := hx.out; omega
      go_wp2_with fail
      refine (markText x _ hx0 (by omega)).mono ?_
      rintro e w1 ⟨rfl, hb1⟩
      have O1 : Hid (w1.ownsRow base 9 1 (.slice (some ⟨B, 0, none⟩) n cap) n ((cellsS (mkS k n)).take j ++ xs.drop j)) := own_below hO.out hb1
      have G1 : Hid (w.grownBy w1 (some B)) := gb_below hg.out hb1
      clear hO hg hb1
      have hjl : Hid (j < ((cellsS (mkS k n)).take j ++ xs.drop j).length) := by
        show j < _; rw [fill_length _ _ _ (HN.out.trans HM.out.symm), HM.out]; exact hlt
      obtain ⟨z, o1, o2⟩ := own_cellX O1.out hjl.out
      go_wp2_with fail
      refine ⟨⟨j + 1, x + 1, by omega, by go_num, by go_num, hxb.out, by omega, by show x + 1 = k + (j + 1); have := hx.out; omega, gb_set G1.out _ _, ?_⟩, by simp [intOf]; omega⟩
      refine own_congr (own_set O1.out j hjl.out _) (fill_set _ _ j _ (by rw [HN.out]; exact hlt) ?_)
      rw [cellsS_get _ _ (by rw [mkS_length]; exact hlt), mkS_get _ _ _ hlt, hx.out]
    · have hjn : j = n := by omega
      have E : Hid ((x : Int) = ((k + n : Nat) : Int)) := by show (x : Int) = ((k + n : Nat) : Int); rw [hx.out, hjn]
      have O1 : Hid (wr.ownsRow base 9 1 (.slice (some ⟨B, 0, none⟩) n cap) n (cellsS (mkS k n))) := own_congr hO.out (by rw [hjn]; exact fill_all HM.out HN.out)
      clear hjn hO
      go_wp2_with fail
      go_ret
      exact ⟨by show Ending.returned (.int .i64 (x : Int)) = _; rw [E.out], hg.out, O1.out⟩

end Go.Proofs.YtmbndpgoihdpnaaGreatDoor
