
/-
  Contracts of the helpers on slices of snapshots: sizes, copies, comparisons, marks. By an AI agent.
-/
import Derived.Test.YtlkobhighhkmoaaDoorBoxes
namespace Go.Proofs.YtlkobhighhkmoaaDoor
open Go.ChangeShapes Go.WideShapes Go.ChangeAt Go.RowKit Go.Deep
set_option linter.unusedVariables false

abbrev SN := ByteArray × Int × Int
abbrev sn0 : SN := (⟨#[]⟩, 0, 0)
def cellsSn (L : List SN) : List Value := L.flatMap fun p => [.string p.1, .int .i64 p.2.1, .int .i64 p.2.2]
theorem cellsSn_length (L : List SN) : (cellsSn L).length = L.length * 3 := by
  induction L with
  | nil => rfl
  | cons p L ih => simp [cellsSn] at ih ⊢; omega
theorem cellsSn_append (L M : List SN) : cellsSn (L ++ M) = cellsSn L ++ cellsSn M := by simp [cellsSn]
theorem cellsSn_get : ∀ (L : List SN) (i : Nat), i < L.length → (cellsSn L)[i * 3]? = some (.string (L.getD i sn0).1) ∧ (cellsSn L)[i * 3 + 1]? = some (.int .i64 (L.getD i sn0).2.1) ∧ (cellsSn L)[i * 3 + 2]? = some (.int .i64 (L.getD i sn0).2.2)
  | [], i, h => absurd h (by simp)
  | p :: L, 0, _ => ⟨rfl, rfl, rfl⟩
  | p :: L, i + 1, h => by
    have ih := cellsSn_get L i (by simpa using h)
    have e1 : (i + 1) * 3 = i * 3 + 1 + 1 + 1 := by omega
    have e2 : cellsSn (p :: L) = .string p.1 :: .int .i64 p.2.1 :: .int .i64 p.2.2 :: cellsSn L := rfl
    rw [e2, e1]
    exact ih
theorem cellsSn_one (L : List SN) : ∀ u ∈ cellsSn L, u.oneCell' = true := by
  intro u hu
  simp only [cellsSn, List.mem_flatMap] at hu
  obtain ⟨p, _, hp⟩ := hu
  simp at hp
  rcases hp with rfl | rfl | rfl <;> rfl
theorem srcSn {w : World} {a : Option Addr} {L : List SN} (h : Src w a (cellsSn L)) {i : Nat} (hi : i < L.length) : ∃ b o x y z, a = some ⟨b, o, none⟩ ∧ w.cell? ⟨b, o + i * 3, none⟩ = some (.string x) ∧ w.cell? ⟨b, o + i * 3 + 1, none⟩ = some (.int .i64 y) ∧ w.cell? ⟨b, o + i * 3 + 2, none⟩ = some (.int .i64 z) ∧ Hid (L.getD i sn0 = (x, y, z)) := by
  rcases h with h | ⟨b, o, rfl, hc⟩
  · have h2 := cellsSn_length L
    rw [h] at h2
    simp only [List.length_nil] at h2
    omega
  · have h1 := hc (i * 3) (by rw [cellsSn_length]; omega)
    have h2 := hc (i * 3 + 1) (by rw [cellsSn_length]; omega)
    have h3 := hc (i * 3 + 2) (by rw [cellsSn_length]; omega)
    rw [getD_some (cellsSn_get L i hi).1] at h1
    rw [getD_some (cellsSn_get L i hi).2.1] at h2
    rw [getD_some (cellsSn_get L i hi).2.2] at h3
    exact ⟨b, o, _, _, _, rfl, h1, h2, h3, rfl⟩
def mkSn (k n : Nat) : List SN := (List.range n).map fun i => (markT (k + i * 3), ((k + i * 3 + 1 : Nat) : Int), ((k + i * 3 + 2 : Nat) : Int))
theorem mkSn_length (k n : Nat) : (mkSn k n).length = n := by simp [mkSn]
theorem mkSn_get (k n i : Nat) (h : i < n) : (mkSn k n).getD i sn0 = (markT (k + i * 3), ((k + i * 3 + 1 : Nat) : Int), ((k + i * 3 + 2 : Nat) : Int)) := by
  rw [List.getD_eq_getElem?_getD]; simp [mkSn, h]
theorem infoSn : (Tryd.prog.info? 78).map (fun i => (i.zero, i.size, i.bytes)) = some (some (.agg #[.string ⟨#[]⟩, .int .i64 0, .int .i64 0]), 3, 32) := by kernel_rfl
theorem run_make_Sn (n : Nat) (hn : n ≤ 1048576) (w : World) : (Instr.makeSlice 27 (.int .i64 (n : Int)) (.int .i64 (n : Int))).run Tryd.prog w = .ok (.slice (some ⟨w.heap.size, 0, none⟩) n n) (w.alloc (.cells (madeCells #[.string ⟨#[]⟩, .int .i64 0, .int .i64 0] (n * 3)) 78)) :=
  run_make_rows 27 78 (.agg #[.string ⟨#[]⟩, .int .i64 0, .int .i64 0]) 3 32 n Tryd.underlying27 infoSn (by omega) hn w
set_option maxHeartbeats 400000 in
theorem eqSnap (x : ByteArray) (y z : Int) (w : World) : Calls Tryd.prog 88 #[.agg #[.string x, .int .i64 y, .int .i64 z], .agg #[.string x, .int .i64 y, .int .i64 z]] w fun e w' => e = .returned (.bool true) ∧ Below w.heap.size w w' := by
  have hy : (y != y) = false := by simp
  have hz : (z != z) = false := by simp
  go_enter Tryd.func88, Tryd.ntmps88
  go_wp2
  go_ret
  exact ⟨rfl, ((Below.refl _ _).alloc (Nat.le_refl _) _).alloc (by simp) _⟩

set_option maxHeartbeats 400000 in
theorem eqSnapS (a b : Option Addr) (n c d : Nat) (L : List SN) (w : World) (hL : L.length = n) (hn : n ≤ 9000000000000000000) (ha : Src w a (cellsSn L)) (hb : Src w b (cellsSn L)) :
    Calls Tryd.prog 56 #[.slice a n c, .slice b n d] w fun e w' => e = .returned (.bool true) ∧ Below w.heap.size w w' := by
  have hne : ((n : Int) != (n : Int)) = false := by simp
  have HA : Hid (Src w a (cellsSn L)) := ha
  have HB : Hid (Src w b (cellsSn L)) := hb
  have HL : Hid (L.length = n) := hL
  clear ha hb hL
  go_enter Tryd.func56, Tryd.ntmps56
  go_wp2_with fail
  go_loopw [5] (fun i wr => ∃ k : Nat, k ≤ n ∧ i = .int .i64 k ∧ Hid (Below w.heap.size w wr)) (fun i _ => n - (intOf i).toNat)
  case atStart => exact ⟨0, by omega, rfl, Below.refl _ _⟩
  case round =>
    obtain ⟨k, hk, rfl, hB⟩ := hrel
    by_cases hlt : k < n
    · obtain ⟨b1, o1, x, y, z, rfl, p1, p2, p5, hy1⟩ := srcSn (HA.out.below hB.out) (i := k) (by rw [HL.out]; exact hlt)
      obtain ⟨b2, o2, x', y', z', rfl, p3, p4, p6, hy2⟩ := srcSn (HB.out.below hB.out) (i := k) (by rw [HL.out]; exact hlt)
      obtain ⟨rfl, rfl, rfl⟩ : x = x' ∧ y = y' ∧ z = z' := by have := hy1.out.symm.trans hy2.out; simpa using this
      have hk0 : (0 : Int) ≤ (k : Int) := by omega
      have hki : (k : Int) < (n : Int) := by omega
      go_wp2_with fail
      go_region_with (go_at_call 88; refine (eqSnap _ _ _ _).mono ?_; rintro e w1 ⟨rfl, hb1⟩)
      all_goals go_wp2_with fail
      all_goals exact ⟨⟨k + 1, by omega, by go_num, hB.out.drew.trans (hb1.mono hB.out.size)⟩, by simp [intOf]; omega⟩
    · go_wp2_with fail
      go_ret
      exact ⟨rfl, hB.out⟩

set_option maxHeartbeats 1000000 in
theorem markSnapS (v : Value) (n k base : Nat) (xs : List Value) (w : World) (hn : n ≤ 1048576) (hk0 : 0 < k) (hk1 : k ≤ 4194304) (ho : w.ownsRow base 78 3 v n xs) :
    Calls Tryd.prog 61 #[v, .int .i64 (k : Int)] w fun e w' => e = .returned (.int .i64 ((k + n * 3 : Nat) : Int)) ∧ w.grownBy w' v.ownBlock ∧ w'.ownsRow base 78 3 v n (cellsSn (mkSn k n)) := by
  have hlen := ho.1
  have hcase := ho.2
  rcases hcase with ⟨rfl, h0⟩ | ⟨B, cap, cur, rfl, _⟩
  · subst h0
    clear ho hlen
    go_enter Tryd.func61, Tryd.ntmps61
    go_wp2_with fail
    go_loop [1, 5] (fun kk i => i = .int .i64 0 ∧ kk = .int .i64 (k : Int)) (fun _ _ => 0)
    case atStart => exact ⟨rfl, rfl⟩
    case round =>
      obtain ⟨rfl, rfl⟩ := hrel
      go_wp2_with fail
      go_ret
      exact ⟨rfl, gb_refl _ _, World.ownsRow_nil _ _ _ _⟩
  have HO : Hid (w.ownsRow base 78 3 (.slice (some ⟨B, 0, none⟩) n cap) n xs) := ho
  have HN : Hid (xs.length = n * 3) := hlen
  have HM : Hid ((cellsSn (mkSn k n)).length = n * 3) := by show (cellsSn (mkSn k n)).length = n * 3; rw [cellsSn_length, mkSn_length]
  clear ho hlen
  go_enter Tryd.func61, Tryd.ntmps61
  go_wp2_with fail
  go_loopw [1, 5] (fun kk i wr => ∃ j x : Nat, j ≤ n ∧ i = .int .i64 (j : Int) ∧ kk = .int .i64 (x : Int) ∧ x ≤ 16777216 ∧ 0 < x ∧ Hid (x = k + j * 3) ∧ Hid (w.grownBy wr (some B)) ∧ Hid (wr.ownsRow base 78 3 (.slice (some ⟨B, 0, none⟩) n cap) n ((cellsSn (mkSn k n)).take (j * 3) ++ xs.drop (j * 3)))) (fun _ i _ => n - (intOf i).toNat)
  case atStart => exact ⟨0, k, by omega, rfl, rfl, by omega, by omega, by show k = k + 0 * 3; omega, gb_refl _ _, by simpa [Hid] using HO.out⟩
  case round =>
    obtain ⟨j, x, hj, rfl, rfl, hx1, hx0, hx, hg, hO⟩ := hrel
    by_cases hlt : j < n
    · have hjn : (j : Int) < (n : Int) := by omega
      have hxb : Hid (x + 3 ≤ 16777216) := by show x + 3 ≤ 16777216; have := hx.out; omega
      go_wp2_with fail
      refine (markText x _ hx0 (by omega)).mono ?_
      rintro e w1 ⟨rfl, hb1⟩
      have O1 : Hid (w1.ownsRow base 78 3 (.slice (some ⟨B, 0, none⟩) n cap) n ((cellsSn (mkSn k n)).take (j * 3) ++ xs.drop (j * 3))) := own_below hO.out hb1
      have G1 : Hid (w.grownBy w1 (some B)) := gb_below hg.out hb1
      clear hO hg hb1
      have hl1 : Hid (((cellsSn (mkSn k n)).take (j * 3) ++ xs.drop (j * 3)).length = n * 3) := by
        show _ = _; rw [fill_length _ _ _ (HN.out.trans HM.out.symm), HM.out]
      have HJ : Hid (j < (mkSn k n).length) := by show j < (mkSn k n).length; rw [mkSn_length]; exact hlt
      obtain ⟨z1, o1, o2⟩ := own_cellX O1.out (i := j * 3) (by rw [hl1.out]; omega)
      obtain ⟨z2, o3, o4⟩ := own_cellX O1.out (i := j * 3 + 1) (by rw [hl1.out]; omega)
      obtain ⟨z3, o5, o6⟩ := own_cellX O1.out (i := j * 3 + 2) (by rw [hl1.out]; omega)
      have o3' : (w1.setCell ⟨B, j * 3, none⟩ (.string (markT x))).cell? ⟨B, j * 3 + 1, none⟩ = some z2 := by
        rw [World.cell?_setCell_other _ _ _ _ (offs_ne (by omega))]; exact o3
      have o5' : ((w1.setCell ⟨B, j * 3, none⟩ (.string (markT x))).setCell ⟨B, j * 3 + 1, none⟩ (.int .i64 ((x : Int) + 1))).cell? ⟨B, j * 3 + 2, none⟩ = some z3 := by
        rw [World.cell?_setCell_other _ _ _ _ (offs_ne (by omega)), World.cell?_setCell_other _ _ _ _ (offs_ne (by omega))]; exact o5
      go_wp2_with fail
      refine ⟨⟨j + 1, x + 3, by omega, by go_num, by go_num, hxb.out, by omega, by show x + 3 = k + (j + 1) * 3; have := hx.out; omega, gb_set (gb_set (gb_set G1.out _ _) _ _) _ _, ?_⟩, by simp [intOf]; omega⟩
      have e1 := fill_set (cellsSn (mkSn k n)) xs (j * 3) (.string (markT x)) (by rw [HN.out]; omega) (by rw [(cellsSn_get _ j HJ.out).1, mkSn_get _ _ _ hlt, hx.out])
      have e2 := fill_set (cellsSn (mkSn k n)) xs (j * 3 + 1) (.int .i64 ((x : Int) + 1)) (by rw [HN.out]; omega) (by rw [(cellsSn_get _ j HJ.out).2.1, mkSn_get _ _ _ hlt, hx.out]; simp)
      have e3 := fill_set (cellsSn (mkSn k n)) xs (j * 3 + 2) (.int .i64 ((x : Int) + 2)) (by rw [HN.out]; omega) (by rw [(cellsSn_get _ j HJ.out).2.2, mkSn_get _ _ _ hlt, hx.out]; simp)
      have s1 := own_set O1.out (j * 3) (by rw [hl1.out]; omega) (.string (markT x))
      rw [e1] at s1
      have s2 := own_set s1 (j * 3 + 1) (by rw [fill_length _ _ _ (HN.out.trans HM.out.symm), HM.out]; omega) (.int .i64 ((x : Int) + 1))
      rw [e2] at s2
      have s3 := own_set s2 (j * 3 + 2) (by rw [fill_length _ _ _ (HN.out.trans HM.out.symm), HM.out]; omega) (.int .i64 ((x : Int) + 2))
      rw [e3] at s3
      rw [show (j + 1) * 3 = j * 3 + 2 + 1 from by omega]
      exact s3
    · have hjn : j = n := by omega
      have E : Hid ((x : Int) = ((k + n * 3 : Nat) : Int)) := by show (x : Int) = ((k + n * 3 : Nat) : Int); rw [hx.out, hjn]
      have O1 : Hid (wr.ownsRow base 78 3 (.slice (some ⟨B, 0, none⟩) n cap) n (cellsSn (mkSn k n))) := own_congr hO.out (by rw [hjn]; exact fill_all HM.out HN.out)
      clear hjn hO
      go_wp2_with fail
      go_ret
      exact ⟨by show Ending.returned (.int .i64 (x : Int)) = _; rw [E.out], hg.out, O1.out⟩

set_option maxHeartbeats 1000000 in
theorem heldSnapS (a : Option Addr) (n c k : Nat) (w : World) (hn : n ≤ 1048576) (hk0 : 0 < k) (hk1 : k ≤ 4194304) (ho : Src w a (cellsSn (mkSn k n))) :
    Calls Tryd.prog 66 #[.slice a n c, .int .i64 (k : Int)] w fun e w' => e = .returned (.int .i64 ((k + n * 3 : Nat) : Int)) ∧ Below w.heap.size w w' := by
  have HO : Hid (Src w a (cellsSn (mkSn k n))) := ho
  clear ho
  go_enter Tryd.func66, Tryd.ntmps66
  go_wp2_with fail
  go_loopw [1, 5] (fun kk i wr => ∃ j x : Nat, j ≤ n ∧ i = .int .i64 (j : Int) ∧ kk = .int .i64 (x : Int) ∧ x ≤ 16777216 ∧ 0 < x ∧ Hid (x = k + j * 3) ∧ Hid (Below w.heap.size w wr)) (fun _ i _ => n - (intOf i).toNat)
  case atStart => exact ⟨0, k, by omega, rfl, rfl, by omega, by omega, by show k = k + 0 * 3; omega, Below.refl _ _⟩
  case round =>
    obtain ⟨j, x, hj, rfl, rfl, hx1, hx0, hx, hb⟩ := hrel
    by_cases hlt : j < n
    · obtain ⟨B, o, p, y, z, rfl, p1, p2, p3, hy⟩ := srcSn (HO.out.below hb.out) (i := j) (by rw [mkSn_length]; exact hlt)
      obtain ⟨rfl, rfl, rfl⟩ : p = markT x ∧ y = (x : Int) + 1 ∧ z = (x : Int) + 2 := by
        have := hy.out
        rw [mkSn_get _ _ _ hlt, ← hx.out] at this
        simp at this
        exact ⟨this.1.symm, this.2.1.symm, this.2.2.symm⟩
      have hj0 : (0 : Int) ≤ (j : Int) := by omega
      have hjn : (j : Int) < (n : Int) := by omega
      have hne1 : ((x : Int) + 1 != (x : Int) + 1) = false := by simp
      have hne2 : ((x : Int) + 2 != (x : Int) + 2) = false := by simp
      have hxb : Hid (x + 3 ≤ 16777216) := by show x + 3 ≤ 16777216; have := hx.out; omega
      have HB : Hid (Below w.heap.size w wr.drew) := hb.out.drew
      go_wp2_with fail
      go_region_with (go_at_call 82; refine (markText x _ hx0 (by omega)).mono ?_; rintro e w2 ⟨rfl, hb2⟩; obtain o4 := ((hb2.cell (p := ⟨B, o + j * 3, none⟩) (World.block_lt_of_cell? _ _ p1)).trans p1))
      all_goals
        have p2' : w2.cell? ⟨B, o + j * 3 + 1, none⟩ = some (.int .i64 ((x : Int) + 1)) := (hb2.cell (p := ⟨B, o + j * 3 + 1, none⟩) (World.block_lt_of_cell? _ _ p2)).trans p2
        have p3' : w2.cell? ⟨B, o + j * 3 + 2, none⟩ = some (.int .i64 ((x : Int) + 2)) := (hb2.cell (p := ⟨B, o + j * 3 + 2, none⟩) (World.block_lt_of_cell? _ _ p3)).trans p3
        have HB2 : Hid (Below w.heap.size w w2) := HB.out.trans (hb2.mono HB.out.size)
        clear p1 p2 p3 hb2
        go_wp2_with fail
        exact ⟨⟨j + 1, x + 3, by omega, by go_num, by go_num, hxb.out, by omega, by show x + 3 = k + (j + 1) * 3; have := hx.out; omega, HB2.out⟩, by simp [intOf]; omega⟩
    · have hjn : j = n := by omega
      have E : Hid ((x : Int) = ((k + n * 3 : Nat) : Int)) := by show (x : Int) = ((k + n * 3 : Nat) : Int); rw [hx.out, hjn]
      clear hjn
      go_wp2_with fail
      go_ret
      exact ⟨by show Ending.returned (.int .i64 (x : Int)) = _; rw [E.out], hb.out⟩
end Go.Proofs.YtlkobhighhkmoaaDoor
