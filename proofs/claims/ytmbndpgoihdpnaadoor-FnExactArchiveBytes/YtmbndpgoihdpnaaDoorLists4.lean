
/-
  Contracts of the helpers on slices of bytes: copies, comparisons, marks. By an AI agent.
-/
import Derived.Test.YtmbndpgoihdpnaaDoorBoxes
namespace Go.Proofs.YtmbndpgoihdpnaaDoor
open Go.ChangeShapes Go.WideShapes Go.ChangeAt Go.RowKit Go.Deep
set_option linter.unusedVariables false

def cellsB (L : List Nat) : List Value := L.map fun x => .int .u8 ((x : Nat) : Int)
theorem cellsB_length (L : List Nat) : (cellsB L).length = L.length := by simp [cellsB]
theorem cellsB_append (L M : List Nat) : cellsB (L ++ M) = cellsB L ++ cellsB M := by simp [cellsB]
theorem cellsB_get (L : List Nat) (i : Nat) (h : i < L.length) : (cellsB L)[i]? = some (.int .u8 ((L.getD i 0 : Nat) : Int)) := by
  simp [cellsB, h]
theorem cellsB_one (L : List Nat) : ∀ u ∈ cellsB L, u.oneCell' = true := by
  intro u hu
  simp only [cellsB, List.mem_map] at hu
  obtain ⟨x, _, rfl⟩ := hu
  rfl
theorem srcB {w : World} {a : Option Addr} {L : List Nat} (h : Src w a (cellsB L)) {i : Nat} (hi : i < L.length) : ∃ b o x, a = some ⟨b, o, none⟩ ∧ w.cell? ⟨b, o + i, none⟩ = some (.int .u8 ((x : Nat) : Int)) ∧ Hid (L.getD i 0 = x) := by
  rcases h with h | ⟨b, o, rfl, hc⟩
  · rw [← cellsB_length, h] at hi; exact absurd hi (by simp)
  · have := hc i (by rw [cellsB_length]; exact hi)
    rw [getD_some (cellsB_get L i hi)] at this
    exact ⟨b, o, _, rfl, this, rfl⟩
def mkB (k n : Nat) : List Nat := (List.range n).map fun i => (k + i) % 256
theorem mkB_length (k n : Nat) : (mkB k n).length = n := by simp [mkB]
theorem mkB_get (k n i : Nat) (h : i < n) : (mkB k n).getD i 0 = (k + i) % 256 := by
  rw [List.getD_eq_getElem?_getD]; simp [mkB, h]
theorem infoB : (Tryd.prog.info? 5).map (fun i => (i.zero, i.size, i.bytes)) = some (some (.int .u8 0), 1, 1) := by kernel_rfl
theorem run_make_B (n : Nat) (hn : n ≤ 1048576) (w : World) : (Instr.makeSlice 34 (.int .i64 (n : Int)) (.int .i64 (n : Int))).run Tryd.prog w = .ok (.slice (some ⟨w.heap.size, 0, none⟩) n n) (w.alloc (.cells (madeCells #[.int .u8 0] (n * 1)) 5)) :=
  run_make_rows 34 5 (.int .u8 0) 1 1 n Tryd.underlying34 infoB (by omega) hn w

set_option maxHeartbeats 400000 in
theorem toByteS (a : Option Addr) (n c : Nat) (L : List Nat) (w : World) (hL : L.length = n) (hn : n ≤ 1048576) (h : Src w a (cellsB L)) :
    Calls Tryd.prog 16 #[.slice a n c] w fun e w' => ∃ v, e = .returned v ∧ w'.ownsRow w.heap.size 5 1 v n (cellsB L) ∧ Below w.heap.size w w' := by
  have hmk := run_make_B n hn
  have HH : Hid (Src w a (cellsB L)) := h
  have HL : Hid ((cellsB L).length = n) := by show (cellsB L).length = n; rw [cellsB_length]; exact hL
  have HL2 : Hid (L.length = n) := hL
  clear h hL
  go_enter Tryd.func16, Tryd.ntmps16
  go_wp2_with fail
  clear hmk
  obtain ⟨zs, hz, ho⟩ := rows_made w #[.int .u8 0] n 1 5 rfl (by omega) (by unfold maxLen; omega)
  have HZ : Hid (zs.length = n) := by show zs.length = n; omega
  have HO : Hid (World.ownsRow (w.alloc (.cells (madeCells #[.int .u8 0] n) 5)) w.heap.size 5 1 (.slice (some ⟨w.heap.size, 0, none⟩) n n) n zs) := by
    rw [Nat.mul_one] at ho; exact ho
  clear hz ho
  go_loopw [4] (fun i wr => ∃ k : Nat, k ≤ n ∧ i = .int .i64 k ∧ Hid (Below w.heap.size w wr) ∧ Hid (wr.ownsRow w.heap.size 5 1 (.slice (some ⟨w.heap.size, 0, none⟩) n n) n ((cellsB L).take k ++ zs.drop k))) (fun i _ => n - (intOf i).toNat)
  case atStart => exact ⟨0, by omega, rfl, (Below.refl _ _).alloc (Nat.le_refl _) _, HO.out⟩
  case round =>
    obtain ⟨k, hk, rfl, hb, ho⟩ := hrel
    by_cases hlt : k < n
    · have hkL : k < L.length := by rw [HL2.out]; exact hlt
      obtain ⟨b, o, y, rfl, hc, hy⟩ := srcB (HH.out.below hb.out) hkL
      obtain ⟨z, o1, o2⟩ := own_cellX ho.out (i := k) (by rw [fill_length _ _ _ (HZ.out.trans HL.out.symm), HL.out]; exact hlt)
      have HK : Hid (k < L.length) := hkL
      clear hkL
      go_wp2_with fail
      exact ⟨⟨k + 1, by omega, by go_num, hb.out.setCell (Nat.le_refl _) _, own_congr (own_set ho.out k (by rw [fill_length _ _ _ (HZ.out.trans HL.out.symm), HL.out]; exact hlt) _) (fill_set _ _ k _ (by rw [HZ.out]; exact hlt) (by rw [cellsB_get L k HK.out, hy.out]))⟩, by simp [intOf]; omega⟩
    · have hkn : k = n := by omega
      have HF : Hid (wr.ownsRow w.heap.size 5 1 (.slice (some ⟨w.heap.size, 0, none⟩) n n) n (cellsB L)) := own_congr ho.out (by rw [hkn]; exact fill_all HL.out HZ.out)
      clear hkn
      go_wp2_with fail
      go_ret
      exact ⟨_, rfl, HF.out, hb.out⟩

set_option maxHeartbeats 400000 in
theorem eqByteS (a b : Option Addr) (n c d : Nat) (L : List Nat) (w : World) (hL : L.length = n) (hn : n ≤ 9000000000000000000) (ha : Src w a (cellsB L)) (hb : Src w b (cellsB L)) :
    Calls Tryd.prog 19 #[.slice a n c, .slice b n d] w fun e w' => e = .returned (.bool true) ∧ Below w.heap.size w w' := by
  have hne : ((n : Int) != (n : Int)) = false := by simp
  have HA : Hid (Src w a (cellsB L)) := ha
  have HB : Hid (Src w b (cellsB L)) := hb
  have HL : Hid (L.length = n) := hL
  clear ha hb hL
  go_enter Tryd.func19, Tryd.ntmps19
  go_wp2_with fail
  go_loopw [5] (fun i wr => ∃ k : Nat, k ≤ n ∧ i = .int .i64 k ∧ Hid (Below w.heap.size w wr)) (fun i _ => n - (intOf i).toNat)
  case atStart => exact ⟨0, by omega, rfl, Below.refl _ _⟩
  case round =>
    obtain ⟨k, hk, rfl, hB⟩ := hrel
    by_cases hlt : k < n
    · obtain ⟨b1, o1, y, rfl, p1, hy1⟩ := srcB (HA.out.below hB.out) (i := k) (by rw [HL.out]; exact hlt)
      obtain ⟨b2, o2, y2, rfl, p2, hy2⟩ := srcB (HB.out.below hB.out) (i := k) (by rw [HL.out]; exact hlt)
      obtain rfl : y = y2 := hy1.out.symm.trans hy2.out
      have hk0 : (0 : Int) ≤ (k : Int) := by omega
      have hki : (k : Int) < (n : Int) := by omega
      have hne2 : ((y : Int) != (y : Int)) = false := by simp
      go_wp2_with fail
      go_quiet (fail)
      go_wp2_with fail
      exact ⟨⟨k + 1, by omega, by go_num, Below.drewN' hB.out _⟩, by simp [intOf]; omega⟩
    · go_wp2_with fail
      go_ret
      exact ⟨rfl, hB.out⟩

set_option maxHeartbeats 600000 in
theorem markByteS (v : Value) (n k base : Nat) (xs : List Value) (w : World) (hn : n ≤ 1048576) (hk0 : 0 < k) (hk1 : k ≤ 8388608) (ho : w.ownsRow base 5 1 v n xs) :
    Calls Tryd.prog 20 #[v, .int .i64 (k : Int)] w fun e w' => e = .returned (.int .i64 ((k + n : Nat) : Int)) ∧ w.grownBy w' v.ownBlock ∧ w'.ownsRow base 5 1 v n (cellsB (mkB k n)) := by
  have hlen := ho.1
  have hcase := ho.2
  rcases hcase with ⟨rfl, h0⟩ | ⟨B, cap, cur, rfl, _⟩
  · subst h0
    clear ho hlen
    go_enter Tryd.func20, Tryd.ntmps20
    go_wp2_with fail
    go_loop [1, 5] (fun kk i => i = .int .i64 0 ∧ kk = .int .i64 (k : Int)) (fun _ _ => 0)
    case atStart => exact ⟨rfl, rfl⟩
    case round =>
      obtain ⟨rfl, rfl⟩ := hrel
      go_wp2_with fail
      go_ret
      exact ⟨rfl, gb_refl _ _, World.ownsRow_nil _ _ _ _⟩
  have HO : Hid (w.ownsRow base 5 1 (.slice (some ⟨B, 0, none⟩) n cap) n xs) := ho
  have HN : Hid (xs.length = n) := by show xs.length = n; omega
  have HM : Hid ((cellsB (mkB k n)).length = n) := by show (cellsB (mkB k n)).length = n; rw [cellsB_length, mkB_length]
  clear ho hlen
  go_enter Tryd.func20, Tryd.ntmps20
  go_wp2_with fail
  go_loopw [1, 5] (fun kk i wr => ∃ j x : Nat, j ≤ n ∧ i = .int .i64 (j : Int) ∧ kk = .int .i64 (x : Int) ∧ x ≤ 16777216 ∧ 0 < x ∧ Hid (x = k + j) ∧ Hid (w.grownBy wr (some B)) ∧ Hid (wr.ownsRow base 5 1 (.slice (some ⟨B, 0, none⟩) n cap) n ((cellsB (mkB k n)).take j ++ xs.drop j))) (fun _ i _ => n - (intOf i).toNat)
  case atStart => exact ⟨0, k, by omega, rfl, rfl, by omega, by omega, by show k = k + 0; omega, gb_refl _ _, HO.out⟩
  case round =>
    obtain ⟨j, x, hj, rfl, rfl, hx1, hx0, hx, G1, O1⟩ := hrel
    by_cases hlt : j < n
    · have hjn : (j : Int) < (n : Int) := by omega
      have hxb : Hid (x + 1 ≤ 16777216) := by show x + 1 ≤ 16777216; have := hx.out; omega
      have hjl : Hid (j < ((cellsB (mkB k n)).take j ++ xs.drop j).length) := by
        show j < _; rw [fill_length _ _ _ (HN.out.trans HM.out.symm), HM.out]; exact hlt
      obtain ⟨z, o1, o2⟩ := own_cellX O1.out hjl.out
      go_wp2_with fail
      refine ⟨⟨j + 1, x + 1, by omega, by go_num, by go_num, hxb.out, by omega, by show x + 1 = k + (j + 1); have := hx.out; omega, gb_set G1.out _ _, ?_⟩, by simp [intOf]; omega⟩
      refine own_congr (own_set O1.out j hjl.out _) (fill_set _ _ j _ (by rw [HN.out]; exact hlt) ?_)
      rw [cellsB_get _ _ (by rw [mkB_length]; exact hlt), mkB_get _ _ _ hlt, hx.out]
      simp
    · have hjn : j = n := by omega
      have E : Hid ((x : Int) = ((k + n : Nat) : Int)) := by show (x : Int) = ((k + n : Nat) : Int); rw [hx.out, hjn]
      have O2 : Hid (wr.ownsRow base 5 1 (.slice (some ⟨B, 0, none⟩) n cap) n (cellsB (mkB k n))) := own_congr O1.out (by rw [hjn]; exact fill_all HM.out HN.out)
      clear hjn O1
      go_wp2_with fail
      go_ret
      exact ⟨by show Ending.returned (.int .i64 (x : Int)) = _; rw [E.out], G1.out, O2.out⟩

end Go.Proofs.YtmbndpgoihdpnaaDoor
