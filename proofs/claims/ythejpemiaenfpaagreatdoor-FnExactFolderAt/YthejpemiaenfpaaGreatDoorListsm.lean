
/-
  Contracts of the helpers on slices of Mail: sizes, copies, comparisons, marks. By an AI agent.
-/
import Derived.Test.YthejpemiaenfpaaGreatDoorBoxes
namespace Go.Proofs.YthejpemiaenfpaaGreatDoor
open Go.ChangeShapes Go.WideShapes Go.ChangeAt Go.RowKit Go.Deep
set_option linter.unusedVariables false

abbrev MMl := Int × Int × ByteArray
abbrev ml0 : MMl := (0, 0, ⟨#[]⟩)
def cellsMl (L : List MMl) : List Value := L.flatMap fun p => [.int .i64 p.1, .int .i64 p.2.1, .string p.2.2]
theorem cellsMl_length (L : List MMl) : (cellsMl L).length = L.length * 3 := by
  induction L with
  | nil => rfl
  | cons p L ih => simp [cellsMl] at ih ⊢; omega
theorem cellsMl_append (L M : List MMl) : cellsMl (L ++ M) = cellsMl L ++ cellsMl M := by simp [cellsMl]
theorem cellsMl_get : ∀ (L : List MMl) (i : Nat), i < L.length → (cellsMl L)[i * 3]? = some (.int .i64 (L.getD i ml0).1) ∧ (cellsMl L)[i * 3 + 1]? = some (.int .i64 (L.getD i ml0).2.1) ∧ (cellsMl L)[i * 3 + 2]? = some (.string (L.getD i ml0).2.2)
  | [], i, h => absurd h (by simp)
  | p :: L, 0, _ => ⟨rfl, rfl, rfl⟩
  | p :: L, i + 1, h => by
    have ih := cellsMl_get L i (by simpa using h)
    have e1 : (i + 1) * 3 = i * 3 + 1 + 1 + 1 := by omega
    have e2 : cellsMl (p :: L) = .int .i64 p.1 :: .int .i64 p.2.1 :: .string p.2.2 :: cellsMl L := rfl
    rw [e2, e1]
    exact ih
theorem cellsMl_one (L : List MMl) : ∀ u ∈ cellsMl L, u.oneCell' = true := by
  intro u hu
  simp only [cellsMl, List.mem_flatMap] at hu
  obtain ⟨p, _, hp⟩ := hu
  simp at hp
  rcases hp with rfl | rfl | rfl <;> rfl
theorem srcMl {w : World} {a : Option Addr} {L : List MMl} (h : Src w a (cellsMl L)) {i : Nat} (hi : i < L.length) : ∃ b o x0 x1 x2, a = some ⟨b, o, none⟩ ∧ w.cell? ⟨b, o + i * 3, none⟩ = some (.int .i64 x0) ∧ w.cell? ⟨b, o + i * 3 + 1, none⟩ = some (.int .i64 x1) ∧ w.cell? ⟨b, o + i * 3 + 2, none⟩ = some (.string x2) ∧ Hid (L.getD i ml0 = (x0, x1, x2)) := by
  rcases h with h | ⟨b, o, rfl, hc⟩
  · have h2 := cellsMl_length L
    rw [h] at h2
    simp only [List.length_nil] at h2
    omega
  · have h0 := hc (i * 3) (by rw [cellsMl_length]; omega)
    have h1 := hc (i * 3 + 1) (by rw [cellsMl_length]; omega)
    have h2 := hc (i * 3 + 2) (by rw [cellsMl_length]; omega)
    rw [getD_some (cellsMl_get L i hi).1] at h0
    rw [getD_some (cellsMl_get L i hi).2.1] at h1
    rw [getD_some (cellsMl_get L i hi).2.2] at h2
    exact ⟨b, o, _, _, _, rfl, h0, h1, h2, rfl⟩
def mkMl (k n : Nat) : List MMl := (List.range n).map fun i => (((k + i * 3 : Nat) : Int), ((k + i * 3 + 1 : Nat) : Int), markT (k + i * 3 + 2))
theorem mkMl_length (k n : Nat) : (mkMl k n).length = n := by simp [mkMl]
theorem mkMl_get (k n i : Nat) (h : i < n) : (mkMl k n).getD i ml0 = (((k + i * 3 : Nat) : Int), ((k + i * 3 + 1 : Nat) : Int), markT (k + i * 3 + 2)) := by
  rw [List.getD_eq_getElem?_getD]; simp [mkMl, h]
theorem infoMl : (Tryz.prog.info? 78).map (fun i => (i.zero, i.size, i.bytes)) = some (some (.agg #[.int .i64 0, .int .i64 0, .string ⟨#[]⟩]), 3, 32) := by kernel_rfl
theorem run_make_Ml (n : Nat) (hn : n ≤ 1048576) (w : World) : (Instr.makeSlice 24 (.int .i64 (n : Int)) (.int .i64 (n : Int))).run Tryz.prog w = .ok (.slice (some ⟨w.heap.size, 0, none⟩) n n) (w.alloc (.cells (madeCells #[.int .i64 0, .int .i64 0, .string ⟨#[]⟩] (n * 3)) 78)) :=
  run_make_rows 24 78 (.agg #[.int .i64 0, .int .i64 0, .string ⟨#[]⟩]) 3 32 n Tryz.underlying24 infoMl (by omega) hn w
set_option maxHeartbeats 1000000 in
theorem eqMail (x0 : Int) (x1 : Int) (x2 : ByteArray) (w : World) : Calls Tryz.prog 91 #[.agg #[.int .i64 x0, .int .i64 x1, .string x2], .agg #[.int .i64 x0, .int .i64 x1, .string x2]] w fun e w' => e = .returned (.bool true) ∧ Below w.heap.size w w' := by
  have hy0 : (x0 != x0) = false := by simp
  have hy1 : (x1 != x1) = false := by simp
  go_enter Tryz.func91, Tryz.ntmps91
  go_wp2
  go_ret
  exact ⟨rfl, ((Below.refl _ _).alloc (Nat.le_refl _) _).alloc (by simp) _⟩

set_option maxHeartbeats 1000000 in
theorem eqMailS (a b : Option Addr) (n c d : Nat) (L : List MMl) (w : World) (hL : L.length = n) (hn : n ≤ 9000000000000000000) (ha : Src w a (cellsMl L)) (hb : Src w b (cellsMl L)) :
    Calls Tryz.prog 50 #[.slice a n c, .slice b n d] w fun e w' => e = .returned (.bool true) ∧ Below w.heap.size w w' := by
  have hne : ((n : Int) != (n : Int)) = false := by simp
  have HA : Hid (Src w a (cellsMl L)) := ha
  have HB : Hid (Src w b (cellsMl L)) := hb
  have HL : Hid (L.length = n) := hL
  clear ha hb hL
  go_enter Tryz.func50, Tryz.ntmps50
  go_wp2_with fail
  go_loopw [5] (fun i wr => ∃ k : Nat, k ≤ n ∧ i = .int .i64 k ∧ Hid (Below w.heap.size w wr)) (fun i _ => n - (intOf i).toNat)
  case atStart => exact ⟨0, by omega, rfl, Below.refl _ _⟩
  case round =>
    obtain ⟨k, hk, rfl, hB⟩ := hrel
    by_cases hlt : k < n
    · obtain ⟨b1, o1, x0, x1, x2, rfl, p0, p1, p2, hy1⟩ := srcMl (HA.out.below hB.out) (i := k) (by rw [HL.out]; exact hlt)
      obtain ⟨b2, o2, x0', x1', x2', rfl, r0, r1, r2, hy2⟩ := srcMl (HB.out.below hB.out) (i := k) (by rw [HL.out]; exact hlt)
      obtain ⟨rfl, rfl, rfl⟩ : x0 = x0' ∧ x1 = x1' ∧ x2 = x2' := by have := hy1.out.symm.trans hy2.out; simpa using this
      have hk0 : (0 : Int) ≤ (k : Int) := by omega
      have hki : (k : Int) < (n : Int) := by omega
      go_wp2_with fail
      go_region_with (go_at_call 91; refine (eqMail _ _ _ _).mono ?_; rintro e w1 ⟨rfl, hb1⟩)
      all_goals go_wp2_with fail
      all_goals exact ⟨⟨k + 1, by omega, by go_num, hB.out.drew.trans (hb1.mono hB.out.size)⟩, by simp [intOf]; omega⟩
    · go_wp2_with fail
      go_ret
      exact ⟨rfl, hB.out⟩

set_option maxHeartbeats 2000000 in
theorem markMailS (v : Value) (n k base : Nat) (xs : List Value) (w : World) (hn : n ≤ 1048576) (hk0 : 0 < k) (hk1 : k ≤ 4194304) (ho : w.ownsRow base 78 3 v n xs) :
    Calls Tryz.prog 53 #[v, .int .i64 (k : Int)] w fun e w' => e = .returned (.int .i64 ((k + n * 3 : Nat) : Int)) ∧ w.grownBy w' v.ownBlock ∧ w'.ownsRow base 78 3 v n (cellsMl (mkMl k n)) := by
  have hlen := ho.1
  have hcase := ho.2
  rcases hcase with ⟨rfl, h0⟩ | ⟨B, cap, cur, rfl, _⟩
  · subst h0
    clear ho hlen
    go_enter Tryz.func53, Tryz.ntmps53
    go_wp2_with fail
    go_loop [1, 5] (fun kk i => i = .int .i64 0 ∧ kk = .int .i64 (k : Int)) (fun _ _ => 0)
    case atStart => exact ⟨rfl, rfl⟩
    case round =>
      obtain ⟨rfl, rfl⟩ := hrel
      go_wp2_with fail
      go_ret
      exact ⟨rfl, gb_refl _ _, World.ownsRow_nil _ _ _ _⟩
  have HO : Hid (w.ownsRow base 78 3 (.slice (some ⟨B, 0, none⟩) n cap) n xs) := ho
  have HN : Hid (xs.length = n * 3) := hlen
  have HM : Hid ((cellsMl (mkMl k n)).length = n * 3) := by show (cellsMl (mkMl k n)).length = n * 3; rw [cellsMl_length, mkMl_length]
  clear ho hlen
  go_enter Tryz.func53, Tryz.ntmps53
  go_wp2_with fail
  go_loopw [1, 5] (fun kk i wr => ∃ j x : Nat, j ≤ n ∧ i = .int .i64 (j : Int) ∧ kk = .int .i64 (x : Int) ∧ x ≤ 16777216 ∧ 0 < x ∧ Hid (x = k + j * 3) ∧ Hid (w.grownBy wr (some B)) ∧ Hid (wr.ownsRow base 78 3 (.slice (some ⟨B, 0, none⟩) n cap) n ((cellsMl (mkMl k n)).take (j * 3) ++ xs.drop (j * 3)))) (fun _ i _ => n - (intOf i).toNat)
  case atStart => exact ⟨0, k, by omega, rfl, rfl, by omega, by omega, by show k = k + 0 * 3; omega, gb_refl _ _, by simpa [Hid] using HO.out⟩
  case round =>
    obtain ⟨j, x, hj, rfl, rfl, hx1, hx0, hx, hg, hO⟩ := hrel
    by_cases hlt : j < n
    · have hjn : (j : Int) < (n : Int) := by omega
      have hj0 : (0 : Int) ≤ (j : Int) := by omega
      have hxb : Hid (x + 3 ≤ 16777216) := by show x + 3 ≤ 16777216; have := hx.out; omega
      have HJ : Hid (j < (mkMl k n).length) := by show j < (mkMl k n).length; rw [mkMl_length]; exact hlt
      obtain ⟨z0, o0, q0⟩ := own_cellX hO.out (i := j * 3) (by rw [fill_length _ _ _ (HN.out.trans HM.out.symm), HM.out]; omega)
      obtain ⟨z1, o1, q1⟩ := own_cellX hO.out (i := j * 3 + 1) (by rw [fill_length _ _ _ (HN.out.trans HM.out.symm), HM.out]; omega)
      have o1' : (wr.setCell ⟨B, j * 3, none⟩ (.int .i64 ((x : Int)))).cell? ⟨B, j * 3 + 1, none⟩ = some z1 := by
        rw [World.cell?_setCell_other _ _ _ _ (offs_ne (by omega))]; exact o1
      have e0 := fill_set (cellsMl (mkMl k n)) xs (j * 3) (.int .i64 ((x : Int))) (by rw [HN.out]; omega) (by rw [(cellsMl_get _ j HJ.out).1, mkMl_get _ _ _ hlt, ← hx.out]; try simp)
      have s0 := own_set hO.out (j * 3) (by rw [fill_length _ _ _ (HN.out.trans HM.out.symm), HM.out]; omega) (.int .i64 ((x : Int)))
      rw [e0] at s0
      have e1 := fill_set (cellsMl (mkMl k n)) xs (j * 3 + 1) (.int .i64 ((x : Int) + 1)) (by rw [HN.out]; omega) (by rw [(cellsMl_get _ j HJ.out).2.1, mkMl_get _ _ _ hlt, ← hx.out]; try simp)
      have s1 := own_set s0 (j * 3 + 1) (by rw [fill_length _ _ _ (HN.out.trans HM.out.symm), HM.out]; omega) (.int .i64 ((x : Int) + 1))
      rw [e1] at s1
      have S0 : Hid (((wr.setCell ⟨B, j * 3, none⟩ (.int .i64 ((x : Int)))).setCell ⟨B, j * 3 + 1, none⟩ (.int .i64 ((x : Int) + 1))).ownsRow base 78 3 (.slice (some ⟨B, 0, none⟩) n cap) n ((cellsMl (mkMl k n)).take (j * 3 + 1 + 1) ++ xs.drop (j * 3 + 1 + 1))) := s1
      have GG0 : Hid (w.grownBy ((wr.setCell ⟨B, j * 3, none⟩ (.int .i64 ((x : Int)))).setCell ⟨B, j * 3 + 1, none⟩ (.int .i64 ((x : Int) + 1))) (some B)) := gb_set (gb_set (hg.out) _ _) _ _
      clear s0 e0 s1 e1 hO hg
      go_wp2_with fail
      first | rw [show ((x : Int) + 2) = ((x + 2 : Nat) : Int) from by omega] | rw [show ((x : Int) + 1 + 1) = ((x + 2 : Nat) : Int) from by omega]
      refine (markText (x + 2) _ (by omega) (by omega)).mono ?_
      rintro e w1 ⟨rfl, hb1⟩
      have O1 : Hid (w1.ownsRow base 78 3 (.slice (some ⟨B, 0, none⟩) n cap) n ((cellsMl (mkMl k n)).take (j * 3 + 1 + 1) ++ xs.drop (j * 3 + 1 + 1))) := own_below S0.out hb1
      have G1 : Hid (w.grownBy w1 (some B)) := gb_below GG0.out hb1
      clear S0 GG0 hb1 o0 q0 o1 q1 o1'
      obtain ⟨z2, o2, q2⟩ := own_cellX O1.out (i := j * 3 + 2) (by rw [fill_length _ _ _ (HN.out.trans HM.out.symm), HM.out]; omega)
      have e2 := fill_set (cellsMl (mkMl k n)) xs (j * 3 + 2) (.string (markT (x + 2))) (by rw [HN.out]; omega) (by rw [(cellsMl_get _ j HJ.out).2.2, mkMl_get _ _ _ hlt, ← hx.out])
      have s2 := own_set O1.out (j * 3 + 2) (by rw [fill_length _ _ _ (HN.out.trans HM.out.symm), HM.out]; omega) (.string (markT (x + 2)))
      rw [e2] at s2
      have S1 : Hid ((w1.setCell ⟨B, j * 3 + 2, none⟩ (.string (markT (x + 2)))).ownsRow base 78 3 (.slice (some ⟨B, 0, none⟩) n cap) n ((cellsMl (mkMl k n)).take (j * 3 + 2 + 1) ++ xs.drop (j * 3 + 2 + 1))) := s2
      have GG1 : Hid (w.grownBy (w1.setCell ⟨B, j * 3 + 2, none⟩ (.string (markT (x + 2)))) (some B)) := gb_set (G1.out) _ _
      clear s2 e2 O1 G1
      go_wp2_with fail
      exact ⟨⟨j + 1, x + 3, by omega, by go_num, by go_num, hxb.out, by omega, by show x + 3 = k + (j + 1) * 3; have := hx.out; omega, GG1, by rw [show (j + 1) * 3 = j * 3 + 2 + 1 from by omega]; exact S1⟩, by simp [intOf]; omega⟩
    · have hjn : j = n := by omega
      have E : Hid ((x : Int) = ((k + n * 3 : Nat) : Int)) := by show (x : Int) = ((k + n * 3 : Nat) : Int); rw [hx.out, hjn]
      have O1 : Hid (wr.ownsRow base 78 3 (.slice (some ⟨B, 0, none⟩) n cap) n (cellsMl (mkMl k n))) := own_congr hO.out (by rw [hjn]; exact fill_all HM.out HN.out)
      clear hjn hO
      go_wp2_with fail
      go_ret
      exact ⟨by show Ending.returned (.int .i64 (x : Int)) = _; rw [E.out], hg.out, O1.out⟩

set_option maxHeartbeats 2000000 in
theorem heldMailS (a : Option Addr) (n c k : Nat) (w : World) (hn : n ≤ 1048576) (hk0 : 0 < k) (hk1 : k ≤ 4194304) (ho : Src w a (cellsMl (mkMl k n))) :
    Calls Tryz.prog 54 #[.slice a n c, .int .i64 (k : Int)] w fun e w' => e = .returned (.int .i64 ((k + n * 3 : Nat) : Int)) ∧ Below w.heap.size w w' := by
  have HO : Hid (Src w a (cellsMl (mkMl k n))) := ho
  clear ho
  go_enter Tryz.func54, Tryz.ntmps54
  go_wp2_with fail
  go_loopw [1, 5] (fun kk i wr => ∃ j x : Nat, j ≤ n ∧ i = .int .i64 (j : Int) ∧ kk = .int .i64 (x : Int) ∧ x ≤ 16777216 ∧ 0 < x ∧ Hid (x = k + j * 3) ∧ Hid (Below w.heap.size w wr)) (fun _ i _ => n - (intOf i).toNat)
  case atStart => exact ⟨0, k, by omega, rfl, rfl, by omega, by omega, by show k = k + 0 * 3; omega, Below.refl _ _⟩
  case round =>
    obtain ⟨j, x, hj, rfl, rfl, hx1, hx0, hx, hb⟩ := hrel
    by_cases hlt : j < n
    · obtain ⟨B, o, y0, y1, y2, rfl, p0, p1, p2, hy⟩ := srcMl (HO.out.below hb.out) (i := j) (by rw [mkMl_length]; exact hlt)
      have hy9 := hy.out
      rw [mkMl_get _ _ _ hlt, ← hx.out] at hy9
      simp only [Prod.mk.injEq] at hy9
      obtain ⟨w0y, w1y, w2y⟩ := hy9
      obtain rfl : y0 = (x : Int) := by rw [← w0y] <;> omega
      have hn0 : (((x : Int)) != ((x : Int))) = false := by simp
      clear w0y
      obtain rfl : y1 = (x : Int) + 1 := by rw [← w1y] <;> omega
      have hn1 : (((x : Int) + 1) != ((x : Int) + 1)) = false := by simp
      clear w1y
      subst w2y
      have hj0 : (0 : Int) ≤ (j : Int) := by omega
      have hjn : (j : Int) < (n : Int) := by omega
      have hxb : Hid (x + 3 ≤ 16777216) := by show x + 3 ≤ 16777216; have := hx.out; omega
      have HB0 : Hid (Below w.heap.size w wr) := hb.out
      clear hb hy
      go_wp2_with fail
      go_region_with (go_at_call 52; (first | rw [show ((x : Int) + 2) = ((x + 2 : Nat) : Int) from by omega] | rw [show ((x : Int) + 1 + 1) = ((x + 2 : Nat) : Int) from by omega]); refine (markText (x + 2) _ (by omega) (by omega)).mono ?_; rintro e v1 ⟨rfl, hb1⟩; obtain r2 := ((hb1.cell (p := ⟨B, o + j * 3 + 2, none⟩) (World.block_lt_of_cell? _ _ p2)).trans p2))
      all_goals
        have HB1 : Hid (Below w.heap.size w v1) := (HB0.out.drew).trans (hb1.mono HB0.out.size)
        clear p2 hb1
        go_wp2_with fail
        exact ⟨⟨j + 1, x + 3, by omega, by go_num, by go_num, hxb.out, by omega, by show x + 3 = k + (j + 1) * 3; have := hx.out; omega, HB1⟩, by simp [intOf]; omega⟩
    · have hjn : j = n := by omega
      have E : Hid ((x : Int) = ((k + n * 3 : Nat) : Int)) := by show (x : Int) = ((k + n * 3 : Nat) : Int); rw [hx.out, hjn]
      clear hjn
      go_wp2_with fail
      go_ret
      exact ⟨by show Ending.returned (.int .i64 (x : Int)) = _; rw [E.out], hb.out⟩
end Go.Proofs.YthejpemiaenfpaaGreatDoor
