
/-
  Contracts of the helpers on slices of Field: sizes, copies, comparisons, marks. By an AI agent.
-/
import Derived.Test.YtgbhjhbmolgbeaaDoorBoxes
namespace Go.Proofs.YtgbhjhbmolgbeaaDoor
open Go.ChangeShapes Go.WideShapes Go.ChangeAt Go.RowKit Go.Deep
set_option linter.unusedVariables false

abbrev MFl := ByteArray × ByteArray
abbrev fl0 : MFl := (⟨#[]⟩, ⟨#[]⟩)
def cellsFl (L : List MFl) : List Value := L.flatMap fun p => [.string p.1, .string p.2]
theorem cellsFl_length (L : List MFl) : (cellsFl L).length = L.length * 2 := by
  induction L with
  | nil => rfl
  | cons p L ih => simp [cellsFl] at ih ⊢; omega
theorem cellsFl_append (L M : List MFl) : cellsFl (L ++ M) = cellsFl L ++ cellsFl M := by simp [cellsFl]
theorem cellsFl_get : ∀ (L : List MFl) (i : Nat), i < L.length → (cellsFl L)[i * 2]? = some (.string (L.getD i fl0).1) ∧ (cellsFl L)[i * 2 + 1]? = some (.string (L.getD i fl0).2)
  | [], i, h => absurd h (by simp)
  | p :: L, 0, _ => ⟨rfl, rfl⟩
  | p :: L, i + 1, h => by
    have ih := cellsFl_get L i (by simpa using h)
    have e1 : (i + 1) * 2 = i * 2 + 1 + 1 := by omega
    have e2 : cellsFl (p :: L) = .string p.1 :: .string p.2 :: cellsFl L := rfl
    rw [e2, e1]
    exact ih
theorem cellsFl_one (L : List MFl) : ∀ u ∈ cellsFl L, u.oneCell' = true := by
  intro u hu
  simp only [cellsFl, List.mem_flatMap] at hu
  obtain ⟨p, _, hp⟩ := hu
  simp at hp
  rcases hp with rfl | rfl <;> rfl
theorem srcFl {w : World} {a : Option Addr} {L : List MFl} (h : Src w a (cellsFl L)) {i : Nat} (hi : i < L.length) : ∃ b o x0 x1, a = some ⟨b, o, none⟩ ∧ w.cell? ⟨b, o + i * 2, none⟩ = some (.string x0) ∧ w.cell? ⟨b, o + i * 2 + 1, none⟩ = some (.string x1) ∧ Hid (L.getD i fl0 = (x0, x1)) := by
  rcases h with h | ⟨b, o, rfl, hc⟩
  · have h2 := cellsFl_length L
    rw [h] at h2
    simp only [List.length_nil] at h2
    omega
  · have h0 := hc (i * 2) (by rw [cellsFl_length]; omega)
    have h1 := hc (i * 2 + 1) (by rw [cellsFl_length]; omega)
    rw [getD_some (cellsFl_get L i hi).1] at h0
    rw [getD_some (cellsFl_get L i hi).2] at h1
    exact ⟨b, o, _, _, rfl, h0, h1, rfl⟩
def mkFl (k n : Nat) : List MFl := (List.range n).map fun i => (markT (k + i * 2), markT (k + i * 2 + 1))
theorem mkFl_length (k n : Nat) : (mkFl k n).length = n := by simp [mkFl]
theorem mkFl_get (k n i : Nat) (h : i < n) : (mkFl k n).getD i fl0 = (markT (k + i * 2), markT (k + i * 2 + 1)) := by
  rw [List.getD_eq_getElem?_getD]; simp [mkFl, h]
theorem infoFl : (Tryd.prog.info? 33).map (fun i => (i.zero, i.size, i.bytes)) = some (some (.agg #[.string ⟨#[]⟩, .string ⟨#[]⟩]), 2, 32) := by kernel_rfl
theorem run_make_Fl (n : Nat) (hn : n ≤ 1048576) (w : World) : (Instr.makeSlice 23 (.int .i64 (n : Int)) (.int .i64 (n : Int))).run Tryd.prog w = .ok (.slice (some ⟨w.heap.size, 0, none⟩) n n) (w.alloc (.cells (madeCells #[.string ⟨#[]⟩, .string ⟨#[]⟩] (n * 2)) 33)) :=
  run_make_rows 23 33 (.agg #[.string ⟨#[]⟩, .string ⟨#[]⟩]) 2 32 n Tryd.underlying23 infoFl (by omega) hn w
set_option maxHeartbeats 1000000 in
theorem toField (x0 : ByteArray) (x1 : ByteArray) (w : World) : Calls Tryd.prog 70 #[.agg #[.string x0, .string x1]] w fun e w' => e = .returned (.agg #[.string x0, .string x1]) ∧ Below w.heap.size w w' := by
  go_enter Tryd.func70, Tryd.ntmps70
  go_wp2
  exact bodyPost_ret (v := .agg #[.string x0, .string x1]) (by simp [results, Tryd.results70, go_sem]) rfl ⟨rfl, (((Below.refl _ _).alloc (Nat.le_refl _) _).alloc (by simp) _).alloc (by simp; omega) _⟩

set_option maxHeartbeats 1000000 in
theorem szField (x0 : ByteArray) (x1 : ByteArray) (l : Int) (w : World) (hx0 : x0.size ≤ maxLen) (hx1 : x1.size ≤ maxLen) (h0 : 0 ≤ l) (h1 : l ≤ 1048576) : Calls Tryd.prog 69 #[.agg #[.string x0, .string x1], .int .i64 l] w fun e w' => ∃ r : Int, e = .returned (.int .i64 r) ∧ r ≤ l ∧ (0 ≤ r → r = l - x0.size - x1.size) ∧ Below w.heap.size w w' := by
  unfold maxLen at hx0 hx1
  go_enter Tryd.func69, Tryd.ntmps69
  go_wp2
  all_goals
    go_ret
    refine ⟨_, rfl, ?_, ?_, (Below.refl _ _).alloc (Nat.le_refl _) _⟩
    all_goals omega

set_option maxHeartbeats 1000000 in
theorem eqField (x0 : ByteArray) (x1 : ByteArray) (w : World) : Calls Tryd.prog 68 #[.agg #[.string x0, .string x1], .agg #[.string x0, .string x1]] w fun e w' => e = .returned (.bool true) ∧ Below w.heap.size w w' := by
  go_enter Tryd.func68, Tryd.ntmps68
  go_wp2
  go_ret
  exact ⟨rfl, ((Below.refl _ _).alloc (Nat.le_refl _) _).alloc (by simp) _⟩

set_option maxHeartbeats 1000000 in
theorem toFieldS (a : Option Addr) (n c : Nat) (L : List MFl) (w : World) (hL : L.length = n) (hn : n ≤ 1048576) (h : Src w a (cellsFl L)) :
    Calls Tryd.prog 53 #[.slice a n c] w fun e w' => ∃ v, e = .returned v ∧ w'.ownsRow w.heap.size 33 2 v n (cellsFl L) ∧ Below w.heap.size w w' := by
  have hmk := run_make_Fl n hn
  have HH : Hid (Src w a (cellsFl L)) := h
  have HL : Hid ((cellsFl L).length = n * 2) := by show (cellsFl L).length = n * 2; rw [cellsFl_length, hL]
  have HL2 : Hid (L.length = n) := hL
  clear h hL
  go_enter Tryd.func53, Tryd.ntmps53
  go_wp2_with fail
  clear hmk
  obtain ⟨zs, hz, ho⟩ := rows_made w #[.string ⟨#[]⟩, .string ⟨#[]⟩] n 2 33 rfl (by omega) (by unfold maxLen; omega)
  have HZ : Hid (zs.length = n * 2) := hz
  have HO : Hid (World.ownsRow (w.alloc (.cells (madeCells #[.string ⟨#[]⟩, .string ⟨#[]⟩] (n * 2)) 33)) w.heap.size 33 2 (.slice (some ⟨w.heap.size, 0, none⟩) n n) n zs) := ho
  clear hz ho
  go_loopw [4] (fun i wr => ∃ k : Nat, k ≤ n ∧ i = .int .i64 k ∧ Hid (Below w.heap.size w wr) ∧ Hid (wr.ownsRow w.heap.size 33 2 (.slice (some ⟨w.heap.size, 0, none⟩) n n) n ((cellsFl L).take (k * 2) ++ zs.drop (k * 2)))) (fun i _ => n - (intOf i).toNat)
  case atStart => exact ⟨0, by omega, rfl, (Below.refl _ _).alloc (Nat.le_refl _) _, by simpa [Hid] using HO.out⟩
  case round =>
    obtain ⟨k, hk, rfl, hb, ho⟩ := hrel
    by_cases hlt : k < n
    · have hkL : k < L.length := by rw [HL2.out]; exact hlt
      obtain ⟨b, o, x0, x1, rfl, hc0, hc1, hy⟩ := srcFl (HH.out.below hb.out) hkL
      have HK : Hid (k < L.length) := hkL
      clear hkL
      go_wp2_with fail
      refine (toField x0 x1 _).mono ?_
      rintro e w1 ⟨rfl, hb1⟩
      have HB : Hid (Below w.heap.size w w1) := hb.out.trans (hb1.mono hb.out.size)
      have HO1 : Hid (w1.ownsRow w.heap.size 33 2 (.slice (some ⟨w.heap.size, 0, none⟩) n n) n ((cellsFl L).take (k * 2) ++ zs.drop (k * 2))) := own_below ho.out hb1
      clear hb hb1 ho hc0 hc1
      have hl1 : Hid (((cellsFl L).take (k * 2) ++ zs.drop (k * 2)).length = n * 2) := by
        show _ = _; rw [fill_length _ _ _ (HZ.out.trans HL.out.symm), HL.out]
      obtain ⟨z0, o0, q0⟩ := own_cellX HO1.out (i := k * 2) (by rw [hl1.out]; omega)
      obtain ⟨z1, o1, q1⟩ := own_cellX HO1.out (i := k * 2 + 1) (by rw [hl1.out]; omega)
      have o1' : (w1.setCell ⟨w.heap.size, k * 2, none⟩ (.string x0)).cell? ⟨w.heap.size, k * 2 + 1, none⟩ = some z1 := by
        rw [World.cell?_setCell_other _ _ _ _ (offs_ne (by omega))]; exact o1
      go_wp2_with fail
      refine ⟨⟨k + 1, by omega, by go_num, (HB.out.setCell (Nat.le_refl _) _).setCell (Nat.le_refl _) _, ?_⟩, by simp [intOf]; omega⟩
      have e0 := fill_set (cellsFl L) zs (k * 2) (.string x0) (by rw [HZ.out]; omega) (by rw [(cellsFl_get L k HK.out).1, hy.out])
      have e1 := fill_set (cellsFl L) zs (k * 2 + 1) (.string x1) (by rw [HZ.out]; omega) (by rw [(cellsFl_get L k HK.out).2, hy.out])
      have s0 := own_set HO1.out (k * 2) (by rw [hl1.out]; omega) (.string x0)
      rw [e0] at s0
      have s1 := own_set s0 (k * 2 + 1) (by rw [fill_length _ _ _ (HZ.out.trans HL.out.symm), HL.out]; omega) (.string x1)
      rw [e1] at s1
      rw [show (k + 1) * 2 = k * 2 + 1 + 1 from by omega]
      exact s1
    · have hkn : k = n := by omega
      have HF : Hid (wr.ownsRow w.heap.size 33 2 (.slice (some ⟨w.heap.size, 0, none⟩) n n) n (cellsFl L)) := own_congr ho.out (by rw [hkn]; exact fill_all HL.out HZ.out)
      clear hkn
      go_wp2_with fail
      go_ret
      exact ⟨_, rfl, HF.out, hb.out⟩

set_option maxHeartbeats 1000000 in
theorem szFieldS (a : Option Addr) (n c : Nat) (L : List MFl) (l : Int) (w : World) (hL : L.length = n) (hn : n ≤ maxLen) (hs : ∀ x ∈ L, x.1.size ≤ maxLen ∧ x.2.size ≤ maxLen) (h0 : 0 ≤ l) (h1 : l ≤ 1048576) (h : Src w a (cellsFl L)) :
    Calls Tryd.prog 52 #[.slice a n c, .int .i64 l] w fun e w' => ∃ r : Int, e = .returned (.int .i64 r) ∧ r ≤ l ∧ (0 ≤ r → r + n ≤ l ∧ n ≤ 1048576 ∧ ∀ x ∈ L, x.1.size ≤ 1048576 ∧ x.2.size ≤ 1048576) ∧ Below w.heap.size w w' := by
  unfold maxLen at hn
  by_cases hbig : l < n
  · clear h hs hL
    go_enter Tryd.func52, Tryd.ntmps52
    go_wp2_with fail
    go_ret
    exact ⟨-1, rfl, by omega, fun h => absurd h (by omega), Below.refl _ _⟩
  have HS : Hid (∀ i, i < n → (L.getD i fl0).1.size ≤ maxLen ∧ (L.getD i fl0).2.size ≤ maxLen) := fun i hi => hs _ (by
    rw [List.getD_eq_getElem?_getD, List.getElem?_eq_getElem (by omega)]; exact List.getElem_mem _)
  have HH : Hid (Src w a (cellsFl L)) := h
  have HL : Hid (L.length = n) := hL
  clear hs h hL
  go_enter Tryd.func52, Tryd.ntmps52
  go_wp2_with fail
  go_loopw [1, 5] (fun v i wr => ∃ (k : Nat) (x : Int), k ≤ n ∧ i = .int .i64 k ∧ v = .int .i64 x ∧ 0 ≤ x ∧ x + n ≤ l ∧ Hid (∀ i, i < k → (L.getD i fl0).1.size ≤ 1048576 ∧ (L.getD i fl0).2.size ≤ 1048576) ∧ Hid (Below w.heap.size w wr)) (fun _ i _ => n - (intOf i).toNat)
  case atStart => exact ⟨0, _, by omega, rfl, rfl, by omega, by omega, fun i hi => absurd hi (by omega), Below.refl _ _⟩
  case round =>
    obtain ⟨k, x, hk, rfl, rfl, hx0, hx1, hall, hb⟩ := hrel
    by_cases hlt : k < n
    · obtain ⟨b, o, x0, x1, rfl, hc0, hc1, hy⟩ := srcFl (HH.out.below hb.out) (i := k) (by rw [HL.out]; exact hlt)
      have hsz := HS.out k hlt
      rw [hy.out] at hsz
      have HSZ : Hid (x0.size ≤ maxLen ∧ x1.size ≤ maxLen) := hsz
      clear hsz
      go_wp2_with fail
      refine (szField x0 x1 x _ HSZ.out.1 HSZ.out.2 hx0 (by omega)).mono ?_
      rintro e w1 ⟨r, rfl, hr1, hr2, hb1⟩
      have HB1 : Hid (Below w.heap.size w w1) := hb.out.trans (hb1.mono hb.out.size)
      clear hb1
      by_cases hneg : r < 0
      · clear hr2
        go_wp2_with fail
        go_ret
        exact ⟨-1, rfl, by omega, fun h => absurd h (by omega), HB1.out⟩
      · have hr3 := hr2 (by omega)
        have hall2 : Hid (∀ i, i < k + 1 → (L.getD i fl0).1.size ≤ 1048576 ∧ (L.getD i fl0).2.size ≤ 1048576) := fun i hi => by
          by_cases e : i = k
          · rw [e, hy.out]; show x0.size ≤ 1048576 ∧ x1.size ≤ 1048576; omega
          · exact hall.out i (by omega)
        clear hr2 hr3
        go_wp2_with fail
        exact ⟨⟨k + 1, _, by omega, by go_num, rfl, by omega, by omega, hall2, HB1.out⟩, by simp [intOf]; omega⟩
    · have hkn : k = n := by omega
      have hall' : Hid (∀ x ∈ L, x.1.size ≤ 1048576 ∧ x.2.size ≤ 1048576) := fun y hy => by
        obtain ⟨i, hi, rfl⟩ := List.getElem_of_mem hy
        have := hall.out i (by rw [hkn, ← HL.out]; exact hi)
        rw [List.getD_eq_getElem?_getD, List.getElem?_eq_getElem hi] at this
        exact this
      clear hkn
      go_wp2_with fail
      go_ret
      exact ⟨x, rfl, by omega, fun _ => ⟨hx1, by omega, hall'.out⟩, hb.out⟩

set_option maxHeartbeats 1000000 in
theorem eqFieldS (a b : Option Addr) (n c d : Nat) (L : List MFl) (w : World) (hL : L.length = n) (hn : n ≤ 9000000000000000000) (ha : Src w a (cellsFl L)) (hb : Src w b (cellsFl L)) :
    Calls Tryd.prog 49 #[.slice a n c, .slice b n d] w fun e w' => e = .returned (.bool true) ∧ Below w.heap.size w w' := by
  have hne : ((n : Int) != (n : Int)) = false := by simp
  have HA : Hid (Src w a (cellsFl L)) := ha
  have HB : Hid (Src w b (cellsFl L)) := hb
  have HL : Hid (L.length = n) := hL
  clear ha hb hL
  go_enter Tryd.func49, Tryd.ntmps49
  go_wp2_with fail
  go_loopw [5] (fun i wr => ∃ k : Nat, k ≤ n ∧ i = .int .i64 k ∧ Hid (Below w.heap.size w wr)) (fun i _ => n - (intOf i).toNat)
  case atStart => exact ⟨0, by omega, rfl, Below.refl _ _⟩
  case round =>
    obtain ⟨k, hk, rfl, hB⟩ := hrel
    by_cases hlt : k < n
    · obtain ⟨b1, o1, x0, x1, rfl, p0, p1, hy1⟩ := srcFl (HA.out.below hB.out) (i := k) (by rw [HL.out]; exact hlt)
      obtain ⟨b2, o2, x0', x1', rfl, r0, r1, hy2⟩ := srcFl (HB.out.below hB.out) (i := k) (by rw [HL.out]; exact hlt)
      obtain ⟨rfl, rfl⟩ : x0 = x0' ∧ x1 = x1' := by have := hy1.out.symm.trans hy2.out; simpa using this
      have hk0 : (0 : Int) ≤ (k : Int) := by omega
      have hki : (k : Int) < (n : Int) := by omega
      go_wp2_with fail
      go_region_with (go_at_call 68; refine (eqField _ _ _).mono ?_; rintro e w1 ⟨rfl, hb1⟩)
      all_goals go_wp2_with fail
      all_goals exact ⟨⟨k + 1, by omega, by go_num, hB.out.drew.trans (hb1.mono hB.out.size)⟩, by simp [intOf]; omega⟩
    · go_wp2_with fail
      go_ret
      exact ⟨rfl, hB.out⟩

set_option maxHeartbeats 2000000 in
theorem markFieldS (v : Value) (n k base : Nat) (xs : List Value) (w : World) (hn : n ≤ 1048576) (hk0 : 0 < k) (hk1 : k ≤ 4194304) (ho : w.ownsRow base 33 2 v n xs) :
    Calls Tryd.prog 50 #[v, .int .i64 (k : Int)] w fun e w' => e = .returned (.int .i64 ((k + n * 2 : Nat) : Int)) ∧ w.grownBy w' v.ownBlock ∧ w'.ownsRow base 33 2 v n (cellsFl (mkFl k n)) := by
  have hlen := ho.1
  have hcase := ho.2
  rcases hcase with ⟨rfl, h0⟩ | ⟨B, cap, cur, rfl, _⟩
  · subst h0
    clear ho hlen
    go_enter Tryd.func50, Tryd.ntmps50
    go_wp2_with fail
    go_loop [1, 5] (fun kk i => i = .int .i64 0 ∧ kk = .int .i64 (k : Int)) (fun _ _ => 0)
    case atStart => exact ⟨rfl, rfl⟩
    case round =>
      obtain ⟨rfl, rfl⟩ := hrel
      go_wp2_with fail
      go_ret
      exact ⟨rfl, gb_refl _ _, World.ownsRow_nil _ _ _ _⟩
  have HO : Hid (w.ownsRow base 33 2 (.slice (some ⟨B, 0, none⟩) n cap) n xs) := ho
  have HN : Hid (xs.length = n * 2) := hlen
  have HM : Hid ((cellsFl (mkFl k n)).length = n * 2) := by show (cellsFl (mkFl k n)).length = n * 2; rw [cellsFl_length, mkFl_length]
  clear ho hlen
  go_enter Tryd.func50, Tryd.ntmps50
  go_wp2_with fail
  go_loopw [1, 5] (fun kk i wr => ∃ j x : Nat, j ≤ n ∧ i = .int .i64 (j : Int) ∧ kk = .int .i64 (x : Int) ∧ x ≤ 16777216 ∧ 0 < x ∧ Hid (x = k + j * 2) ∧ Hid (w.grownBy wr (some B)) ∧ Hid (wr.ownsRow base 33 2 (.slice (some ⟨B, 0, none⟩) n cap) n ((cellsFl (mkFl k n)).take (j * 2) ++ xs.drop (j * 2)))) (fun _ i _ => n - (intOf i).toNat)
  case atStart => exact ⟨0, k, by omega, rfl, rfl, by omega, by omega, by show k = k + 0 * 2; omega, gb_refl _ _, by simpa [Hid] using HO.out⟩
  case round =>
    obtain ⟨j, x, hj, rfl, rfl, hx1, hx0, hx, hg, hO⟩ := hrel
    by_cases hlt : j < n
    · have hjn : (j : Int) < (n : Int) := by omega
      have hj0 : (0 : Int) ≤ (j : Int) := by omega
      have hxb : Hid (x + 2 ≤ 16777216) := by show x + 2 ≤ 16777216; have := hx.out; omega
      have HJ : Hid (j < (mkFl k n).length) := by show j < (mkFl k n).length; rw [mkFl_length]; exact hlt
      go_wp2_with fail
      refine (markText x _ (by omega) (by omega)).mono ?_
      rintro e w1 ⟨rfl, hb1⟩
      have O1 : Hid (w1.ownsRow base 33 2 (.slice (some ⟨B, 0, none⟩) n cap) n ((cellsFl (mkFl k n)).take (j * 2) ++ xs.drop (j * 2))) := own_below hO.out hb1
      have G1 : Hid (w.grownBy w1 (some B)) := gb_below hg.out hb1
      clear hO hg hb1
      obtain ⟨z0, o0, q0⟩ := own_cellX O1.out (i := j * 2) (by rw [fill_length _ _ _ (HN.out.trans HM.out.symm), HM.out]; omega)
      have e0 := fill_set (cellsFl (mkFl k n)) xs (j * 2) (.string (markT x)) (by rw [HN.out]; omega) (by rw [(cellsFl_get _ j HJ.out).1, mkFl_get _ _ _ hlt, ← hx.out])
      have s0 := own_set O1.out (j * 2) (by rw [fill_length _ _ _ (HN.out.trans HM.out.symm), HM.out]; omega) (.string (markT x))
      rw [e0] at s0
      have S1 : Hid ((w1.setCell ⟨B, j * 2, none⟩ (.string (markT x))).ownsRow base 33 2 (.slice (some ⟨B, 0, none⟩) n cap) n ((cellsFl (mkFl k n)).take (j * 2 + 1) ++ xs.drop (j * 2 + 1))) := s0
      have GG1 : Hid (w.grownBy (w1.setCell ⟨B, j * 2, none⟩ (.string (markT x))) (some B)) := gb_set (G1.out) _ _
      clear s0 e0 O1 G1
      go_wp2_with fail
      first | rw [show ((x : Int) + 1) = ((x + 1 : Nat) : Int) from by omega]
      refine (markText (x + 1) _ (by omega) (by omega)).mono ?_
      rintro e w2 ⟨rfl, hb2⟩
      have O2 : Hid (w2.ownsRow base 33 2 (.slice (some ⟨B, 0, none⟩) n cap) n ((cellsFl (mkFl k n)).take (j * 2 + 1) ++ xs.drop (j * 2 + 1))) := own_below S1.out hb2
      have G2 : Hid (w.grownBy w2 (some B)) := gb_below GG1.out hb2
      clear S1 GG1 hb2 o0 q0
      obtain ⟨z1, o1, q1⟩ := own_cellX O2.out (i := j * 2 + 1) (by rw [fill_length _ _ _ (HN.out.trans HM.out.symm), HM.out]; omega)
      have e1 := fill_set (cellsFl (mkFl k n)) xs (j * 2 + 1) (.string (markT (x + 1))) (by rw [HN.out]; omega) (by rw [(cellsFl_get _ j HJ.out).2, mkFl_get _ _ _ hlt, ← hx.out])
      have s1 := own_set O2.out (j * 2 + 1) (by rw [fill_length _ _ _ (HN.out.trans HM.out.symm), HM.out]; omega) (.string (markT (x + 1)))
      rw [e1] at s1
      have S2 : Hid ((w2.setCell ⟨B, j * 2 + 1, none⟩ (.string (markT (x + 1)))).ownsRow base 33 2 (.slice (some ⟨B, 0, none⟩) n cap) n ((cellsFl (mkFl k n)).take (j * 2 + 1 + 1) ++ xs.drop (j * 2 + 1 + 1))) := s1
      have GG2 : Hid (w.grownBy (w2.setCell ⟨B, j * 2 + 1, none⟩ (.string (markT (x + 1)))) (some B)) := gb_set (G2.out) _ _
      clear s1 e1 O2 G2
      go_wp2_with fail
      exact ⟨⟨j + 1, x + 2, by omega, by go_num, by go_num, hxb.out, by omega, by show x + 2 = k + (j + 1) * 2; have := hx.out; omega, GG2, by rw [show (j + 1) * 2 = j * 2 + 1 + 1 from by omega]; exact S2⟩, by simp [intOf]; omega⟩
    · have hjn : j = n := by omega
      have E : Hid ((x : Int) = ((k + n * 2 : Nat) : Int)) := by show (x : Int) = ((k + n * 2 : Nat) : Int); rw [hx.out, hjn]
      have O1 : Hid (wr.ownsRow base 33 2 (.slice (some ⟨B, 0, none⟩) n cap) n (cellsFl (mkFl k n))) := own_congr hO.out (by rw [hjn]; exact fill_all HM.out HN.out)
      clear hjn hO
      go_wp2_with fail
      go_ret
      exact ⟨by show Ending.returned (.int .i64 (x : Int)) = _; rw [E.out], hg.out, O1.out⟩

set_option maxHeartbeats 2000000 in
theorem heldFieldS (a : Option Addr) (n c k : Nat) (w : World) (hn : n ≤ 1048576) (hk0 : 0 < k) (hk1 : k ≤ 4194304) (ho : Src w a (cellsFl (mkFl k n))) :
    Calls Tryd.prog 51 #[.slice a n c, .int .i64 (k : Int)] w fun e w' => e = .returned (.int .i64 ((k + n * 2 : Nat) : Int)) ∧ Below w.heap.size w w' := by
  have HO : Hid (Src w a (cellsFl (mkFl k n))) := ho
  clear ho
  go_enter Tryd.func51, Tryd.ntmps51
  go_wp2_with fail
  go_loopw [1, 5] (fun kk i wr => ∃ j x : Nat, j ≤ n ∧ i = .int .i64 (j : Int) ∧ kk = .int .i64 (x : Int) ∧ x ≤ 16777216 ∧ 0 < x ∧ Hid (x = k + j * 2) ∧ Hid (Below w.heap.size w wr)) (fun _ i _ => n - (intOf i).toNat)
  case atStart => exact ⟨0, k, by omega, rfl, rfl, by omega, by omega, by show k = k + 0 * 2; omega, Below.refl _ _⟩
  case round =>
    obtain ⟨j, x, hj, rfl, rfl, hx1, hx0, hx, hb⟩ := hrel
    by_cases hlt : j < n
    · obtain ⟨B, o, y0, y1, rfl, p0, p1, hy⟩ := srcFl (HO.out.below hb.out) (i := j) (by rw [mkFl_length]; exact hlt)
      have hy9 := hy.out
      rw [mkFl_get _ _ _ hlt, ← hx.out] at hy9
      simp only [Prod.mk.injEq] at hy9
      obtain ⟨w0y, w1y⟩ := hy9
      subst w0y
      subst w1y
      have hj0 : (0 : Int) ≤ (j : Int) := by omega
      have hjn : (j : Int) < (n : Int) := by omega
      have hxb : Hid (x + 2 ≤ 16777216) := by show x + 2 ≤ 16777216; have := hx.out; omega
      have HB0 : Hid (Below w.heap.size w wr) := hb.out
      clear hb hy
      go_wp2_with fail
      go_region_with (go_at_call 57; refine (markText x _ (by omega) (by omega)).mono ?_; rintro e v1 ⟨rfl, hb1⟩; obtain r0 := ((hb1.cell (p := ⟨B, o + j * 2, none⟩) (World.block_lt_of_cell? _ _ p0)).trans p0))
      all_goals
        have p1' : v1.cell? ⟨B, o + j * 2 + 1, none⟩ = some (.string (markT (x + 1))) := (hb1.cell (p := ⟨B, o + j * 2 + 1, none⟩) (World.block_lt_of_cell? _ _ p1)).trans p1
        have HB1 : Hid (Below w.heap.size w v1) := (HB0.out.drew).trans (hb1.mono HB0.out.size)
        clear p0 p1 hb1
        have p1 := p1'
        clear p1'
        go_wp2_with fail
        go_region_with (go_at_call 57; (first | rw [show ((x : Int) + 1) = ((x + 1 : Nat) : Int) from by omega]); refine (markText (x + 1) _ (by omega) (by omega)).mono ?_; rintro e v2 ⟨rfl, hb2⟩; obtain r1 := ((hb2.cell (p := ⟨B, o + j * 2 + 1, none⟩) (World.block_lt_of_cell? _ _ p1)).trans p1))
        all_goals
          have HB2 : Hid (Below w.heap.size w v2) := (HB1.out.drew).trans (hb2.mono HB1.out.size)
          clear p1 hb2
          go_wp2_with fail
          exact ⟨⟨j + 1, x + 2, by omega, by go_num, by go_num, hxb.out, by omega, by show x + 2 = k + (j + 1) * 2; have := hx.out; omega, HB2⟩, by simp [intOf]; omega⟩
    · have hjn : j = n := by omega
      have E : Hid ((x : Int) = ((k + n * 2 : Nat) : Int)) := by show (x : Int) = ((k + n * 2 : Nat) : Int); rw [hx.out, hjn]
      clear hjn
      go_wp2_with fail
      go_ret
      exact ⟨by show Ending.returned (.int .i64 (x : Int)) = _; rw [E.out], hb.out⟩
end Go.Proofs.YtgbhjhbmolgbeaaDoor
