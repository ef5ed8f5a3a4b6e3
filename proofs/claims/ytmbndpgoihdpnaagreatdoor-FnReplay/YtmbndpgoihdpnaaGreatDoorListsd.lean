
/-
  Contracts of the helpers on slices of Diff: sizes, copies, comparisons, marks. By an AI agent.
-/
import Derived.Test.YtmbndpgoihdpnaaGreatDoorBoxes
import Derived.Test.YtmbndpgoihdpnaaGreatDoorMkb
namespace Go.Proofs.YtmbndpgoihdpnaaGreatDoor
open Go.ChangeShapes Go.WideShapes Go.ChangeAt Go.RowKit Go.Deep
set_option linter.unusedVariables false

abbrev MDf := ByteArray × ByteArray × ByteArray × Bool × Bool
abbrev df0 : MDf := (⟨#[]⟩, ⟨#[]⟩, ⟨#[]⟩, false, false)
def cellsDf (L : List MDf) : List Value := L.flatMap fun p => [.string p.1, .string p.2.1, .string p.2.2.1, .bool p.2.2.2.1, .bool p.2.2.2.2]
theorem cellsDf_length (L : List MDf) : (cellsDf L).length = L.length * 5 := by
  induction L with
  | nil => rfl
  | cons p L ih => simp [cellsDf] at ih ⊢; omega
theorem cellsDf_append (L M : List MDf) : cellsDf (L ++ M) = cellsDf L ++ cellsDf M := by simp [cellsDf]
theorem cellsDf_get : ∀ (L : List MDf) (i : Nat), i < L.length → (cellsDf L)[i * 5]? = some (.string (L.getD i df0).1) ∧ (cellsDf L)[i * 5 + 1]? = some (.string (L.getD i df0).2.1) ∧ (cellsDf L)[i * 5 + 2]? = some (.string (L.getD i df0).2.2.1) ∧ (cellsDf L)[i * 5 + 3]? = some (.bool (L.getD i df0).2.2.2.1) ∧ (cellsDf L)[i * 5 + 4]? = some (.bool (L.getD i df0).2.2.2.2)
  | [], i, h => absurd h (by simp)
  | p :: L, 0, _ => ⟨rfl, rfl, rfl, rfl, rfl⟩
  | p :: L, i + 1, h => by
    have ih := cellsDf_get L i (by simpa using h)
    have e1 : (i + 1) * 5 = i * 5 + 1 + 1 + 1 + 1 + 1 := by omega
    have e2 : cellsDf (p :: L) = .string p.1 :: .string p.2.1 :: .string p.2.2.1 :: .bool p.2.2.2.1 :: .bool p.2.2.2.2 :: cellsDf L := rfl
    rw [e2, e1]
    exact ih
theorem cellsDf_one (L : List MDf) : ∀ u ∈ cellsDf L, u.oneCell' = true := by
  intro u hu
  simp only [cellsDf, List.mem_flatMap] at hu
  obtain ⟨p, _, hp⟩ := hu
  simp at hp
  rcases hp with rfl | rfl | rfl | rfl | rfl <;> rfl
theorem srcDf {w : World} {a : Option Addr} {L : List MDf} (h : Src w a (cellsDf L)) {i : Nat} (hi : i < L.length) : ∃ b o x0 x1 x2 x3 x4, a = some ⟨b, o, none⟩ ∧ w.cell? ⟨b, o + i * 5, none⟩ = some (.string x0) ∧ w.cell? ⟨b, o + i * 5 + 1, none⟩ = some (.string x1) ∧ w.cell? ⟨b, o + i * 5 + 2, none⟩ = some (.string x2) ∧ w.cell? ⟨b, o + i * 5 + 3, none⟩ = some (.bool x3) ∧ w.cell? ⟨b, o + i * 5 + 4, none⟩ = some (.bool x4) ∧ Hid (L.getD i df0 = (x0, x1, x2, x3, x4)) := by
  rcases h with h | ⟨b, o, rfl, hc⟩
  · have h2 := cellsDf_length L
    rw [h] at h2
    simp only [List.length_nil] at h2
    omega
  · have h0 := hc (i * 5) (by rw [cellsDf_length]; omega)
    have h1 := hc (i * 5 + 1) (by rw [cellsDf_length]; omega)
    have h2 := hc (i * 5 + 2) (by rw [cellsDf_length]; omega)
    have h3 := hc (i * 5 + 3) (by rw [cellsDf_length]; omega)
    have h4 := hc (i * 5 + 4) (by rw [cellsDf_length]; omega)
    rw [getD_some (cellsDf_get L i hi).1] at h0
    rw [getD_some (cellsDf_get L i hi).2.1] at h1
    rw [getD_some (cellsDf_get L i hi).2.2.1] at h2
    rw [getD_some (cellsDf_get L i hi).2.2.2.1] at h3
    rw [getD_some (cellsDf_get L i hi).2.2.2.2] at h4
    exact ⟨b, o, _, _, _, _, _, rfl, h0, h1, h2, h3, h4, rfl⟩
def mkDf (k n : Nat) : List MDf := (List.range n).map fun i => (markT (k + i * 5), markT (k + i * 5 + 1), markT (k + i * 5 + 2), mkB3 (k + i * 5 + 3), mkB3 (k + i * 5 + 4))
theorem mkDf_length (k n : Nat) : (mkDf k n).length = n := by simp [mkDf]
theorem mkDf_get (k n i : Nat) (h : i < n) : (mkDf k n).getD i df0 = (markT (k + i * 5), markT (k + i * 5 + 1), markT (k + i * 5 + 2), mkB3 (k + i * 5 + 3), mkB3 (k + i * 5 + 4)) := by
  rw [List.getD_eq_getElem?_getD]; simp [mkDf, h]
theorem infoDf : (Tryz.prog.info? 108).map (fun i => (i.zero, i.size, i.bytes)) = some (some (.agg #[.string ⟨#[]⟩, .string ⟨#[]⟩, .string ⟨#[]⟩, .bool false, .bool false]), 5, 56) := by kernel_rfl
theorem run_make_Df (n : Nat) (hn : n ≤ 1048576) (w : World) : (Instr.makeSlice 32 (.int .i64 (n : Int)) (.int .i64 (n : Int))).run Tryz.prog w = .ok (.slice (some ⟨w.heap.size, 0, none⟩) n n) (w.alloc (.cells (madeCells #[.string ⟨#[]⟩, .string ⟨#[]⟩, .string ⟨#[]⟩, .bool false, .bool false] (n * 5)) 108)) :=
  run_make_rows 32 108 (.agg #[.string ⟨#[]⟩, .string ⟨#[]⟩, .string ⟨#[]⟩, .bool false, .bool false]) 5 56 n Tryz.underlying32 infoDf (by omega) hn w
set_option maxHeartbeats 1000000 in
theorem toDiff (x0 : ByteArray) (x1 : ByteArray) (x2 : ByteArray) (x3 : Bool) (x4 : Bool) (w : World) : Calls Tryz.prog 72 #[.agg #[.string x0, .string x1, .string x2, .bool x3, .bool x4]] w fun e w' => e = .returned (.agg #[.string x0, .string x1, .string x2, .bool x3, .bool x4]) ∧ Below w.heap.size w w' := by
  go_enter Tryz.func72, Tryz.ntmps72
  go_wp2
  exact bodyPost_ret (v := .agg #[.string x0, .string x1, .string x2, .bool x3, .bool x4]) (by simp [results, Tryz.results72, go_sem]) rfl ⟨rfl, (((Below.refl _ _).alloc (Nat.le_refl _) _).alloc (by simp) _).alloc (by simp; omega) _⟩

set_option maxHeartbeats 1000000 in
theorem szDiff (x0 : ByteArray) (x1 : ByteArray) (x2 : ByteArray) (x3 : Bool) (x4 : Bool) (l : Int) (w : World) (hx0 : x0.size ≤ maxLen) (hx1 : x1.size ≤ maxLen) (hx2 : x2.size ≤ maxLen) (h0 : 0 ≤ l) (h1 : l ≤ 1048576) : Calls Tryz.prog 66 #[.agg #[.string x0, .string x1, .string x2, .bool x3, .bool x4], .int .i64 l] w fun e w' => ∃ r : Int, e = .returned (.int .i64 r) ∧ r ≤ l ∧ (0 ≤ r → r = l - x0.size - x1.size - x2.size) ∧ Below w.heap.size w w' := by
  unfold maxLen at hx0 hx1 hx2
  go_enter Tryz.func66, Tryz.ntmps66
  go_wp2
  all_goals
    go_ret
    refine ⟨_, rfl, ?_, ?_, (Below.refl _ _).alloc (Nat.le_refl _) _⟩
    all_goals omega

set_option maxHeartbeats 1000000 in
theorem eqDiff (x0 : ByteArray) (x1 : ByteArray) (x2 : ByteArray) (x3 : Bool) (x4 : Bool) (w : World) : Calls Tryz.prog 79 #[.agg #[.string x0, .string x1, .string x2, .bool x3, .bool x4], .agg #[.string x0, .string x1, .string x2, .bool x3, .bool x4]] w fun e w' => e = .returned (.bool true) ∧ Below w.heap.size w w' := by
  have hy3 : (x3 != x3) = false := by simp
  have hy4 : (x4 != x4) = false := by simp
  go_enter Tryz.func79, Tryz.ntmps79
  go_wp2
  go_ret
  exact ⟨rfl, ((Below.refl _ _).alloc (Nat.le_refl _) _).alloc (by simp) _⟩

set_option maxHeartbeats 1000000 in
theorem toDiffS (a : Option Addr) (n c : Nat) (L : List MDf) (w : World) (hL : L.length = n) (hn : n ≤ 1048576) (h : Src w a (cellsDf L)) :
    Calls Tryz.prog 41 #[.slice a n c] w fun e w' => ∃ v, e = .returned v ∧ w'.ownsRow w.heap.size 108 5 v n (cellsDf L) ∧ Below w.heap.size w w' := by
  have hmk := run_make_Df n hn
  have HH : Hid (Src w a (cellsDf L)) := h
  have HL : Hid ((cellsDf L).length = n * 5) := by show (cellsDf L).length = n * 5; rw [cellsDf_length, hL]
  have HL2 : Hid (L.length = n) := hL
  clear h hL
  go_enter Tryz.func41, Tryz.ntmps41
  go_wp2_with fail
  clear hmk
  obtain ⟨zs, hz, ho⟩ := rows_made w #[.string ⟨#[]⟩, .string ⟨#[]⟩, .string ⟨#[]⟩, .bool false, .bool false] n 5 108 rfl (by omega) (by unfold maxLen; omega)
  have HZ : Hid (zs.length = n * 5) := hz
  have HO : Hid (World.ownsRow (w.alloc (.cells (madeCells #[.string ⟨#[]⟩, .string ⟨#[]⟩, .string ⟨#[]⟩, .bool false, .bool false] (n * 5)) 108)) w.heap.size 108 5 (.slice (some ⟨w.heap.size, 0, none⟩) n n) n zs) := ho
  clear hz ho
  go_loopw [4] (fun i wr => ∃ k : Nat, k ≤ n ∧ i = .int .i64 k ∧ Hid (Below w.heap.size w wr) ∧ Hid (wr.ownsRow w.heap.size 108 5 (.slice (some ⟨w.heap.size, 0, none⟩) n n) n ((cellsDf L).take (k * 5) ++ zs.drop (k * 5)))) (fun i _ => n - (intOf i).toNat)
  case atStart => exact ⟨0, by omega, rfl, (Below.refl _ _).alloc (Nat.le_refl _) _, by simpa [Hid] using HO.out⟩
  case round =>
    obtain ⟨k, hk, rfl, hb, ho⟩ := hrel
    by_cases hlt : k < n
    · have hkL : k < L.length := by rw [HL2.out]; exact hlt
      obtain ⟨b, o, x0, x1, x2, x3, x4, rfl, hc0, hc1, hc2, hc3, hc4, hy⟩ := srcDf (HH.out.below hb.out) hkL
      have HK : Hid (k < L.length) := hkL
      clear hkL
      go_wp2_with fail
      refine (toDiff x0 x1 x2 x3 x4 _).mono ?_
      rintro e w1 ⟨rfl, hb1⟩
      have HB : Hid (Below w.heap.size w w1) := hb.out.trans (hb1.mono hb.out.size)
      have HO1 : Hid (w1.ownsRow w.heap.size 108 5 (.slice (some ⟨w.heap.size, 0, none⟩) n n) n ((cellsDf L).take (k * 5) ++ zs.drop (k * 5))) := own_below ho.out hb1
      clear hb hb1 ho hc0 hc1 hc2 hc3 hc4
      have hl1 : Hid (((cellsDf L).take (k * 5) ++ zs.drop (k * 5)).length = n * 5) := by
        show _ = _; rw [fill_length _ _ _ (HZ.out.trans HL.out.symm), HL.out]
      obtain ⟨z0, o0, q0⟩ := own_cellX HO1.out (i := k * 5) (by rw [hl1.out]; omega)
      obtain ⟨z1, o1, q1⟩ := own_cellX HO1.out (i := k * 5 + 1) (by rw [hl1.out]; omega)
      obtain ⟨z2, o2, q2⟩ := own_cellX HO1.out (i := k * 5 + 2) (by rw [hl1.out]; omega)
      obtain ⟨z3, o3, q3⟩ := own_cellX HO1.out (i := k * 5 + 3) (by rw [hl1.out]; omega)
      obtain ⟨z4, o4, q4⟩ := own_cellX HO1.out (i := k * 5 + 4) (by rw [hl1.out]; omega)
      have o1' : (w1.setCell ⟨w.heap.size, k * 5, none⟩ (.string x0)).cell? ⟨w.heap.size, k * 5 + 1, none⟩ = some z1 := by
        rw [World.cell?_setCell_other _ _ _ _ (offs_ne (by omega))]; exact o1
      have o2' : ((w1.setCell ⟨w.heap.size, k * 5, none⟩ (.string x0)).setCell ⟨w.heap.size, k * 5 + 1, none⟩ (.string x1)).cell? ⟨w.heap.size, k * 5 + 2, none⟩ = some z2 := by
        rw [World.cell?_setCell_other _ _ _ _ (offs_ne (by omega)), World.cell?_setCell_other _ _ _ _ (offs_ne (by omega))]; exact o2
      have o3' : (((w1.setCell ⟨w.heap.size, k * 5, none⟩ (.string x0)).setCell ⟨w.heap.size, k * 5 + 1, none⟩ (.string x1)).setCell ⟨w.heap.size, k * 5 + 2, none⟩ (.string x2)).cell? ⟨w.heap.size, k * 5 + 3, none⟩ = some z3 := by
        rw [World.cell?_setCell_other _ _ _ _ (offs_ne (by omega)), World.cell?_setCell_other _ _ _ _ (offs_ne (by omega)), World.cell?_setCell_other _ _ _ _ (offs_ne (by omega))]; exact o3
      have o4' : ((((w1.setCell ⟨w.heap.size, k * 5, none⟩ (.string x0)).setCell ⟨w.heap.size, k * 5 + 1, none⟩ (.string x1)).setCell ⟨w.heap.size, k * 5 + 2, none⟩ (.string x2)).setCell ⟨w.heap.size, k * 5 + 3, none⟩ (.bool x3)).cell? ⟨w.heap.size, k * 5 + 4, none⟩ = some z4 := by
        rw [World.cell?_setCell_other _ _ _ _ (offs_ne (by omega)), World.cell?_setCell_other _ _ _ _ (offs_ne (by omega)), World.cell?_setCell_other _ _ _ _ (offs_ne (by omega)), World.cell?_setCell_other _ _ _ _ (offs_ne (by omega))]; exact o4
      go_wp2_with fail
      refine ⟨⟨k + 1, by omega, by go_num, ((((HB.out.setCell (Nat.le_refl _) _).setCell (Nat.le_refl _) _).setCell (Nat.le_refl _) _).setCell (Nat.le_refl _) _).setCell (Nat.le_refl _) _, ?_⟩, by simp [intOf]; omega⟩
      have e0 := fill_set (cellsDf L) zs (k * 5) (.string x0) (by rw [HZ.out]; omega) (by rw [(cellsDf_get L k HK.out).1, hy.out])
      have e1 := fill_set (cellsDf L) zs (k * 5 + 1) (.string x1) (by rw [HZ.out]; omega) (by rw [(cellsDf_get L k HK.out).2.1, hy.out])
      have e2 := fill_set (cellsDf L) zs (k * 5 + 2) (.string x2) (by rw [HZ.out]; omega) (by rw [(cellsDf_get L k HK.out).2.2.1, hy.out])
      have e3 := fill_set (cellsDf L) zs (k * 5 + 3) (.bool x3) (by rw [HZ.out]; omega) (by rw [(cellsDf_get L k HK.out).2.2.2.1, hy.out])
      have e4 := fill_set (cellsDf L) zs (k * 5 + 4) (.bool x4) (by rw [HZ.out]; omega) (by rw [(cellsDf_get L k HK.out).2.2.2.2, hy.out])
      have s0 := own_set HO1.out (k * 5) (by rw [hl1.out]; omega) (.string x0)
      rw [e0] at s0
      have s1 := own_set s0 (k * 5 + 1) (by rw [fill_length _ _ _ (HZ.out.trans HL.out.symm), HL.out]; omega) (.string x1)
      rw [e1] at s1
      have s2 := own_set s1 (k * 5 + 2) (by rw [fill_length _ _ _ (HZ.out.trans HL.out.symm), HL.out]; omega) (.string x2)
      rw [e2] at s2
      have s3 := own_set s2 (k * 5 + 3) (by rw [fill_length _ _ _ (HZ.out.trans HL.out.symm), HL.out]; omega) (.bool x3)
      rw [e3] at s3
      have s4 := own_set s3 (k * 5 + 4) (by rw [fill_length _ _ _ (HZ.out.trans HL.out.symm), HL.out]; omega) (.bool x4)
      rw [e4] at s4
      rw [show (k + 1) * 5 = k * 5 + 4 + 1 from by omega]
      exact s4
    · have hkn : k = n := by omega
      have HF : Hid (wr.ownsRow w.heap.size 108 5 (.slice (some ⟨w.heap.size, 0, none⟩) n n) n (cellsDf L)) := own_congr ho.out (by rw [hkn]; exact fill_all HL.out HZ.out)
      clear hkn
      go_wp2_with fail
      go_ret
      exact ⟨_, rfl, HF.out, hb.out⟩

set_option maxHeartbeats 1000000 in
theorem szDiffS (a : Option Addr) (n c : Nat) (L : List MDf) (l : Int) (w : World) (hL : L.length = n) (hn : n ≤ maxLen) (hs : ∀ x ∈ L, x.1.size ≤ maxLen ∧ x.2.1.size ≤ maxLen ∧ x.2.2.1.size ≤ maxLen) (h0 : 0 ≤ l) (h1 : l ≤ 1048576) (h : Src w a (cellsDf L)) :
    Calls Tryz.prog 36 #[.slice a n c, .int .i64 l] w fun e w' => ∃ r : Int, e = .returned (.int .i64 r) ∧ r ≤ l ∧ (0 ≤ r → r + n ≤ l ∧ n ≤ 1048576 ∧ ∀ x ∈ L, x.1.size ≤ 1048576 ∧ x.2.1.size ≤ 1048576 ∧ x.2.2.1.size ≤ 1048576) ∧ Below w.heap.size w w' := by
  unfold maxLen at hn
  by_cases hbig : l < n
  · clear h hs hL
    go_enter Tryz.func36, Tryz.ntmps36
    go_wp2_with fail
    go_ret
    exact ⟨-1, rfl, by omega, fun h => absurd h (by omega), Below.refl _ _⟩
  have HS : Hid (∀ i, i < n → (L.getD i df0).1.size ≤ maxLen ∧ (L.getD i df0).2.1.size ≤ maxLen ∧ (L.getD i df0).2.2.1.size ≤ maxLen) := fun i hi => hs _ (by
    rw [List.getD_eq_getElem?_getD, List.getElem?_eq_getElem (by omega)]; exact List.getElem_mem _)
  have HH : Hid (Src w a (cellsDf L)) := h
  have HL : Hid (L.length = n) := hL
  clear hs h hL
  go_enter Tryz.func36, Tryz.ntmps36
  go_wp2_with fail
  go_loopw [1, 5] (fun v i wr => ∃ (k : Nat) (x : Int), k ≤ n ∧ i = .int .i64 k ∧ v = .int .i64 x ∧ 0 ≤ x ∧ x + n ≤ l ∧ Hid (∀ i, i < k → (L.getD i df0).1.size ≤ 1048576 ∧ (L.getD i df0).2.1.size ≤ 1048576 ∧ (L.getD i df0).2.2.1.size ≤ 1048576) ∧ Hid (Below w.heap.size w wr)) (fun _ i _ => n - (intOf i).toNat)
  case atStart => exact ⟨0, _, by omega, rfl, rfl, by omega, by omega, fun i hi => absurd hi (by omega), Below.refl _ _⟩
  case round =>
    obtain ⟨k, x, hk, rfl, rfl, hx0, hx1, hall, hb⟩ := hrel
    by_cases hlt : k < n
    · obtain ⟨b, o, x0, x1, x2, x3, x4, rfl, hc0, hc1, hc2, hc3, hc4, hy⟩ := srcDf (HH.out.below hb.out) (i := k) (by rw [HL.out]; exact hlt)
      have hsz := HS.out k hlt
      rw [hy.out] at hsz
      have HSZ : Hid (x0.size ≤ maxLen ∧ x1.size ≤ maxLen ∧ x2.size ≤ maxLen) := hsz
      clear hsz
      go_wp2_with fail
      refine (szDiff x0 x1 x2 x3 x4 x _ HSZ.out.1 HSZ.out.2.1 HSZ.out.2.2 hx0 (by omega)).mono ?_
      rintro e w1 ⟨r, rfl, hr1, hr2, hb1⟩
      have HB1 : Hid (Below w.heap.size w w1) := hb.out.trans (hb1.mono hb.out.size)
      clear hb1
      by_cases hneg : r < 0
      · clear hr2
        go_wp2_with fail
        go_ret
        exact ⟨-1, rfl, by omega, fun h => absurd h (by omega), HB1.out⟩
      · have hr3 := hr2 (by omega)
        have hall2 : Hid (∀ i, i < k + 1 → (L.getD i df0).1.size ≤ 1048576 ∧ (L.getD i df0).2.1.size ≤ 1048576 ∧ (L.getD i df0).2.2.1.size ≤ 1048576) := fun i hi => by
          by_cases e : i = k
          · rw [e, hy.out]; show x0.size ≤ 1048576 ∧ x1.size ≤ 1048576 ∧ x2.size ≤ 1048576; omega
          · exact hall.out i (by omega)
        clear hr2 hr3
        go_wp2_with fail
        exact ⟨⟨k + 1, _, by omega, by go_num, rfl, by omega, by omega, hall2, HB1.out⟩, by simp [intOf]; omega⟩
    · have hkn : k = n := by omega
      have hall' : Hid (∀ x ∈ L, x.1.size ≤ 1048576 ∧ x.2.1.size ≤ 1048576 ∧ x.2.2.1.size ≤ 1048576) := fun y hy => by
        obtain ⟨i, hi, rfl⟩ := List.getElem_of_mem hy
        have := hall.out i (by rw [hkn, ← HL.out]; exact hi)
        rw [List.getD_eq_getElem?_getD, List.getElem?_eq_getElem hi] at this
        exact this
      clear hkn
      go_wp2_with fail
      go_ret
      exact ⟨x, rfl, by omega, fun _ => ⟨hx1, by omega, hall'.out⟩, hb.out⟩

set_option maxHeartbeats 1000000 in
theorem eqDiffS (a b : Option Addr) (n c d : Nat) (L : List MDf) (w : World) (hL : L.length = n) (hn : n ≤ 9000000000000000000) (ha : Src w a (cellsDf L)) (hb : Src w b (cellsDf L)) :
    Calls Tryz.prog 48 #[.slice a n c, .slice b n d] w fun e w' => e = .returned (.bool true) ∧ Below w.heap.size w w' := by
  have hne : ((n : Int) != (n : Int)) = false := by simp
  have HA : Hid (Src w a (cellsDf L)) := ha
  have HB : Hid (Src w b (cellsDf L)) := hb
  have HL : Hid (L.length = n) := hL
  clear ha hb hL
  go_enter Tryz.func48, Tryz.ntmps48
  go_wp2_with fail
  go_loopw [5] (fun i wr => ∃ k : Nat, k ≤ n ∧ i = .int .i64 k ∧ Hid (Below w.heap.size w wr)) (fun i _ => n - (intOf i).toNat)
  case atStart => exact ⟨0, by omega, rfl, Below.refl _ _⟩
  case round =>
    obtain ⟨k, hk, rfl, hB⟩ := hrel
    by_cases hlt : k < n
    · obtain ⟨b1, o1, x0, x1, x2, x3, x4, rfl, p0, p1, p2, p3, p4, hy1⟩ := srcDf (HA.out.below hB.out) (i := k) (by rw [HL.out]; exact hlt)
      obtain ⟨b2, o2, x0', x1', x2', x3', x4', rfl, r0, r1, r2, r3, r4, hy2⟩ := srcDf (HB.out.below hB.out) (i := k) (by rw [HL.out]; exact hlt)
      obtain ⟨rfl, rfl, rfl, rfl, rfl⟩ : x0 = x0' ∧ x1 = x1' ∧ x2 = x2' ∧ x3 = x3' ∧ x4 = x4' := by have := hy1.out.symm.trans hy2.out; simpa using this
      have hk0 : (0 : Int) ≤ (k : Int) := by omega
      have hki : (k : Int) < (n : Int) := by omega
      go_wp2_with fail
      go_region_with (go_at_call 79; refine (eqDiff _ _ _ _ _ _).mono ?_; rintro e w1 ⟨rfl, hb1⟩)
      all_goals go_wp2_with fail
      all_goals exact ⟨⟨k + 1, by omega, by go_num, hB.out.drew.trans (hb1.mono hB.out.size)⟩, by simp [intOf]; omega⟩
    · go_wp2_with fail
      go_ret
      exact ⟨rfl, hB.out⟩

set_option maxHeartbeats 2000000 in
theorem markDiffS (v : Value) (n k base : Nat) (xs : List Value) (w : World) (hn : n ≤ 1048576) (hk0 : 0 < k) (hk1 : k ≤ 8388608) (ho : w.ownsRow base 108 5 v n xs) :
    Calls Tryz.prog 50 #[v, .int .i64 (k : Int)] w fun e w' => e = .returned (.int .i64 ((k + n * 5 : Nat) : Int)) ∧ w.grownBy w' v.ownBlock ∧ w'.ownsRow base 108 5 v n (cellsDf (mkDf k n)) := by
  have hlen := ho.1
  have hcase := ho.2
  rcases hcase with ⟨rfl, h0⟩ | ⟨B, cap, cur, rfl, _⟩
  · subst h0
    clear ho hlen
    go_enter Tryz.func50, Tryz.ntmps50
    go_wp2_with fail
    go_loop [1, 5] (fun kk i => i = .int .i64 0 ∧ kk = .int .i64 (k : Int)) (fun _ _ => 0)
    case atStart => exact ⟨rfl, rfl⟩
    case round =>
      obtain ⟨rfl, rfl⟩ := hrel
      go_wp2_with fail
      go_ret
      exact ⟨rfl, gb_refl _ _, World.ownsRow_nil _ _ _ _⟩
  have HO : Hid (w.ownsRow base 108 5 (.slice (some ⟨B, 0, none⟩) n cap) n xs) := ho
  have HN : Hid (xs.length = n * 5) := hlen
  have HM : Hid ((cellsDf (mkDf k n)).length = n * 5) := by show (cellsDf (mkDf k n)).length = n * 5; rw [cellsDf_length, mkDf_length]
  clear ho hlen
  go_enter Tryz.func50, Tryz.ntmps50
  go_wp2_with fail
  go_loopw [1, 5] (fun kk i wr => ∃ j x : Nat, j ≤ n ∧ i = .int .i64 (j : Int) ∧ kk = .int .i64 (x : Int) ∧ x ≤ 16777216 ∧ 0 < x ∧ Hid (x = k + j * 5) ∧ Hid (w.grownBy wr (some B)) ∧ Hid (wr.ownsRow base 108 5 (.slice (some ⟨B, 0, none⟩) n cap) n ((cellsDf (mkDf k n)).take (j * 5) ++ xs.drop (j * 5)))) (fun _ i _ => n - (intOf i).toNat)
  case atStart => exact ⟨0, k, by omega, rfl, rfl, by omega, by omega, by show k = k + 0 * 5; omega, gb_refl _ _, by simpa [Hid] using HO.out⟩
  case round =>
    obtain ⟨j, x, hj, rfl, rfl, hx1, hx0, hx, hg, hO⟩ := hrel
    by_cases hlt : j < n
    · have hjn : (j : Int) < (n : Int) := by omega
      have hj0 : (0 : Int) ≤ (j : Int) := by omega
      have hxb : Hid (x + 5 ≤ 16777216) := by show x + 5 ≤ 16777216; have := hx.out; omega
      have HJ : Hid (j < (mkDf k n).length) := by show j < (mkDf k n).length; rw [mkDf_length]; exact hlt
      obtain ⟨c3, hc3⟩ : ∃ c, mkB3 (x + 3) = c := ⟨_, rfl⟩
      have HC3 : Hid (mkB3 (x + 3) = c3) := hc3
      have hc3_0 : ((((x : Int) + 3) % 3) == 0) = c3 := by rw [← hc3]; unfold mkB3; rw [Bool.eq_iff_iff, beq_iff_eq, decide_eq_true_eq]; omega
      have hc3_1 : ((((x : Int) + 2 + 1) % 3) == 0) = c3 := by rw [← hc3]; unfold mkB3; rw [Bool.eq_iff_iff, beq_iff_eq, decide_eq_true_eq]; omega
      have hc3_2 : ((((x : Int) + 1 + 2) % 3) == 0) = c3 := by rw [← hc3]; unfold mkB3; rw [Bool.eq_iff_iff, beq_iff_eq, decide_eq_true_eq]; omega
      have hc3_3 : ((((x : Int) + 1 + 1 + 1) % 3) == 0) = c3 := by rw [← hc3]; unfold mkB3; rw [Bool.eq_iff_iff, beq_iff_eq, decide_eq_true_eq]; omega
      clear hc3
      obtain ⟨c4, hc4⟩ : ∃ c, mkB3 (x + 4) = c := ⟨_, rfl⟩
      have HC4 : Hid (mkB3 (x + 4) = c4) := hc4
      have hc4_0 : ((((x : Int) + 4) % 3) == 0) = c4 := by rw [← hc4]; unfold mkB3; rw [Bool.eq_iff_iff, beq_iff_eq, decide_eq_true_eq]; omega
      have hc4_1 : ((((x : Int) + 3 + 1) % 3) == 0) = c4 := by rw [← hc4]; unfold mkB3; rw [Bool.eq_iff_iff, beq_iff_eq, decide_eq_true_eq]; omega
      have hc4_2 : ((((x : Int) + 2 + 2) % 3) == 0) = c4 := by rw [← hc4]; unfold mkB3; rw [Bool.eq_iff_iff, beq_iff_eq, decide_eq_true_eq]; omega
      have hc4_3 : ((((x : Int) + 2 + 1 + 1) % 3) == 0) = c4 := by rw [← hc4]; unfold mkB3; rw [Bool.eq_iff_iff, beq_iff_eq, decide_eq_true_eq]; omega
      have hc4_4 : ((((x : Int) + 1 + 3) % 3) == 0) = c4 := by rw [← hc4]; unfold mkB3; rw [Bool.eq_iff_iff, beq_iff_eq, decide_eq_true_eq]; omega
      have hc4_5 : ((((x : Int) + 1 + 2 + 1) % 3) == 0) = c4 := by rw [← hc4]; unfold mkB3; rw [Bool.eq_iff_iff, beq_iff_eq, decide_eq_true_eq]; omega
      have hc4_6 : ((((x : Int) + 1 + 1 + 2) % 3) == 0) = c4 := by rw [← hc4]; unfold mkB3; rw [Bool.eq_iff_iff, beq_iff_eq, decide_eq_true_eq]; omega
      have hc4_7 : ((((x : Int) + 1 + 1 + 1 + 1) % 3) == 0) = c4 := by rw [← hc4]; unfold mkB3; rw [Bool.eq_iff_iff, beq_iff_eq, decide_eq_true_eq]; omega
      clear hc4
      go_wp2_with fail
      refine (markText x _ (by omega) (by omega)).mono ?_
      rintro e w1 ⟨rfl, hb1⟩
      have O1 : Hid (w1.ownsRow base 108 5 (.slice (some ⟨B, 0, none⟩) n cap) n ((cellsDf (mkDf k n)).take (j * 5) ++ xs.drop (j * 5))) := own_below hO.out hb1
      have G1 : Hid (w.grownBy w1 (some B)) := gb_below hg.out hb1
      clear hO hg hb1
      obtain ⟨z0, o0, q0⟩ := own_cellX O1.out (i := j * 5) (by rw [fill_length _ _ _ (HN.out.trans HM.out.symm), HM.out]; omega)
      have e0 := fill_set (cellsDf (mkDf k n)) xs (j * 5) (.string (markT x)) (by rw [HN.out]; omega) (by rw [(cellsDf_get _ j HJ.out).1, mkDf_get _ _ _ hlt, ← hx.out])
      have s0 := own_set O1.out (j * 5) (by rw [fill_length _ _ _ (HN.out.trans HM.out.symm), HM.out]; omega) (.string (markT x))
      rw [e0] at s0
      have S1 : Hid ((w1.setCell ⟨B, j * 5, none⟩ (.string (markT x))).ownsRow base 108 5 (.slice (some ⟨B, 0, none⟩) n cap) n ((cellsDf (mkDf k n)).take (j * 5 + 1) ++ xs.drop (j * 5 + 1))) := s0
      have GG1 : Hid (w.grownBy (w1.setCell ⟨B, j * 5, none⟩ (.string (markT x))) (some B)) := gb_set (G1.out) _ _
      clear s0 e0 O1 G1
      go_wp2_with fail
      first | rw [show ((x : Int) + 1) = ((x + 1 : Nat) : Int) from by omega]
      refine (markText (x + 1) _ (by omega) (by omega)).mono ?_
      rintro e w2 ⟨rfl, hb2⟩
      have O2 : Hid (w2.ownsRow base 108 5 (.slice (some ⟨B, 0, none⟩) n cap) n ((cellsDf (mkDf k n)).take (j * 5 + 1) ++ xs.drop (j * 5 + 1))) := own_below S1.out hb2
      have G2 : Hid (w.grownBy w2 (some B)) := gb_below GG1.out hb2
      clear S1 GG1 hb2 o0 q0
      obtain ⟨z1, o1, q1⟩ := own_cellX O2.out (i := j * 5 + 1) (by rw [fill_length _ _ _ (HN.out.trans HM.out.symm), HM.out]; omega)
      have e1 := fill_set (cellsDf (mkDf k n)) xs (j * 5 + 1) (.string (markT (x + 1))) (by rw [HN.out]; omega) (by rw [(cellsDf_get _ j HJ.out).2.1, mkDf_get _ _ _ hlt, ← hx.out])
      have s1 := own_set O2.out (j * 5 + 1) (by rw [fill_length _ _ _ (HN.out.trans HM.out.symm), HM.out]; omega) (.string (markT (x + 1)))
      rw [e1] at s1
      have S2 : Hid ((w2.setCell ⟨B, j * 5 + 1, none⟩ (.string (markT (x + 1)))).ownsRow base 108 5 (.slice (some ⟨B, 0, none⟩) n cap) n ((cellsDf (mkDf k n)).take (j * 5 + 1 + 1) ++ xs.drop (j * 5 + 1 + 1))) := s1
      have GG2 : Hid (w.grownBy (w2.setCell ⟨B, j * 5 + 1, none⟩ (.string (markT (x + 1)))) (some B)) := gb_set (G2.out) _ _
      clear s1 e1 O2 G2
      go_wp2_with fail
      first | rw [show ((x : Int) + 2) = ((x + 2 : Nat) : Int) from by omega] | rw [show ((x : Int) + 1 + 1) = ((x + 2 : Nat) : Int) from by omega]
      refine (markText (x + 2) _ (by omega) (by omega)).mono ?_
      rintro e w3 ⟨rfl, hb3⟩
      have O3 : Hid (w3.ownsRow base 108 5 (.slice (some ⟨B, 0, none⟩) n cap) n ((cellsDf (mkDf k n)).take (j * 5 + 1 + 1) ++ xs.drop (j * 5 + 1 + 1))) := own_below S2.out hb3
      have G3 : Hid (w.grownBy w3 (some B)) := gb_below GG2.out hb3
      clear S2 GG2 hb3 o1 q1
      obtain ⟨z2, o2, q2⟩ := own_cellX O3.out (i := j * 5 + 2) (by rw [fill_length _ _ _ (HN.out.trans HM.out.symm), HM.out]; omega)
      obtain ⟨z3, o3, q3⟩ := own_cellX O3.out (i := j * 5 + 3) (by rw [fill_length _ _ _ (HN.out.trans HM.out.symm), HM.out]; omega)
      obtain ⟨z4, o4, q4⟩ := own_cellX O3.out (i := j * 5 + 4) (by rw [fill_length _ _ _ (HN.out.trans HM.out.symm), HM.out]; omega)
      have o3' : (w3.setCell ⟨B, j * 5 + 2, none⟩ (.string (markT (x + 2)))).cell? ⟨B, j * 5 + 3, none⟩ = some z3 := by
        rw [World.cell?_setCell_other _ _ _ _ (offs_ne (by omega))]; exact o3
      have o4' : ((w3.setCell ⟨B, j * 5 + 2, none⟩ (.string (markT (x + 2)))).setCell ⟨B, j * 5 + 3, none⟩ (.bool c3)).cell? ⟨B, j * 5 + 4, none⟩ = some z4 := by
        rw [World.cell?_setCell_other _ _ _ _ (offs_ne (by omega)), World.cell?_setCell_other _ _ _ _ (offs_ne (by omega))]; exact o4
      have e2 := fill_set (cellsDf (mkDf k n)) xs (j * 5 + 2) (.string (markT (x + 2))) (by rw [HN.out]; omega) (by rw [(cellsDf_get _ j HJ.out).2.2.1, mkDf_get _ _ _ hlt, ← hx.out])
      have s2 := own_set O3.out (j * 5 + 2) (by rw [fill_length _ _ _ (HN.out.trans HM.out.symm), HM.out]; omega) (.string (markT (x + 2)))
      rw [e2] at s2
      have e3 := fill_set (cellsDf (mkDf k n)) xs (j * 5 + 3) (.bool c3) (by rw [HN.out]; omega) (by rw [(cellsDf_get _ j HJ.out).2.2.2.1, mkDf_get _ _ _ hlt, ← hx.out]; exact congrArg (fun c => some (Value.bool c)) HC3.out)
      have s3 := own_set s2 (j * 5 + 3) (by rw [fill_length _ _ _ (HN.out.trans HM.out.symm), HM.out]; omega) (.bool c3)
      rw [e3] at s3
      have e4 := fill_set (cellsDf (mkDf k n)) xs (j * 5 + 4) (.bool c4) (by rw [HN.out]; omega) (by rw [(cellsDf_get _ j HJ.out).2.2.2.2, mkDf_get _ _ _ hlt, ← hx.out]; exact congrArg (fun c => some (Value.bool c)) HC4.out)
      have s4 := own_set s3 (j * 5 + 4) (by rw [fill_length _ _ _ (HN.out.trans HM.out.symm), HM.out]; omega) (.bool c4)
      rw [e4] at s4
      have S3 : Hid ((((w3.setCell ⟨B, j * 5 + 2, none⟩ (.string (markT (x + 2)))).setCell ⟨B, j * 5 + 3, none⟩ (.bool c3)).setCell ⟨B, j * 5 + 4, none⟩ (.bool c4)).ownsRow base 108 5 (.slice (some ⟨B, 0, none⟩) n cap) n ((cellsDf (mkDf k n)).take (j * 5 + 4 + 1) ++ xs.drop (j * 5 + 4 + 1))) := s4
      have GG3 : Hid (w.grownBy (((w3.setCell ⟨B, j * 5 + 2, none⟩ (.string (markT (x + 2)))).setCell ⟨B, j * 5 + 3, none⟩ (.bool c3)).setCell ⟨B, j * 5 + 4, none⟩ (.bool c4)) (some B)) := gb_set (gb_set (gb_set (G3.out) _ _) _ _) _ _
      clear s2 e2 s3 e3 s4 e4 O3 G3
      go_wp2_with fail
      exact ⟨⟨j + 1, x + 5, by omega, by go_num, by go_num, hxb.out, by omega, by show x + 5 = k + (j + 1) * 5; have := hx.out; omega, GG3, by rw [show (j + 1) * 5 = j * 5 + 4 + 1 from by omega]; exact S3⟩, by simp [intOf]; omega⟩
    · have hjn : j = n := by omega
      have E : Hid ((x : Int) = ((k + n * 5 : Nat) : Int)) := by show (x : Int) = ((k + n * 5 : Nat) : Int); rw [hx.out, hjn]
      have O1 : Hid (wr.ownsRow base 108 5 (.slice (some ⟨B, 0, none⟩) n cap) n (cellsDf (mkDf k n))) := own_congr hO.out (by rw [hjn]; exact fill_all HM.out HN.out)
      clear hjn hO
      go_wp2_with fail
      go_ret
      exact ⟨by show Ending.returned (.int .i64 (x : Int)) = _; rw [E.out], hg.out, O1.out⟩

end Go.Proofs.YtmbndpgoihdpnaaGreatDoor
