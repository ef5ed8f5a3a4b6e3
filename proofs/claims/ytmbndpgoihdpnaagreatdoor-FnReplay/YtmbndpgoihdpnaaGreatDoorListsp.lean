
/-
  Contracts of the helpers on slices of pairs: sizes, copies, comparisons, marks. By an AI agent.
-/
import Derived.Test.YtmbndpgoihdpnaaGreatDoorBoxes
namespace Go.Proofs.YtmbndpgoihdpnaaGreatDoor
open Go.ChangeShapes Go.WideShapes Go.ChangeAt Go.RowKit Go.Deep
set_option linter.unusedVariables false

abbrev PM := ByteArray × ByteArray
abbrev p0 : PM := (⟨#[]⟩, ⟨#[]⟩)
def cellsP (L : List PM) : List Value := L.flatMap fun p => [.string p.1, .string p.2]
theorem cellsP_length (L : List PM) : (cellsP L).length = L.length * 2 := by
  induction L with
  | nil => rfl
  | cons p L ih => simp [cellsP] at ih ⊢; omega
theorem cellsP_append (L M : List PM) : cellsP (L ++ M) = cellsP L ++ cellsP M := by simp [cellsP]
theorem cellsP_get : ∀ (L : List PM) (i : Nat), i < L.length → (cellsP L)[i * 2]? = some (.string (L.getD i p0).1) ∧ (cellsP L)[i * 2 + 1]? = some (.string (L.getD i p0).2)
  | [], i, h => absurd h (by simp)
  | p :: L, 0, _ => ⟨rfl, rfl⟩
  | p :: L, i + 1, h => by
    have ih := cellsP_get L i (by simpa using h)
    have e1 : (i + 1) * 2 = i * 2 + 1 + 1 := by omega
    have e2 : cellsP (p :: L) = .string p.1 :: .string p.2 :: cellsP L := rfl
    rw [e2, e1]
    exact ih
theorem cellsP_one (L : List PM) : ∀ u ∈ cellsP L, u.oneCell' = true := by
  intro u hu
  simp only [cellsP, List.mem_flatMap] at hu
  obtain ⟨p, _, hp⟩ := hu
  simp at hp
  rcases hp with rfl | rfl <;> rfl
theorem srcP {w : World} {a : Option Addr} {L : List PM} (h : Src w a (cellsP L)) {i : Nat} (hi : i < L.length) : ∃ b o x y, a = some ⟨b, o, none⟩ ∧ w.cell? ⟨b, o + i * 2, none⟩ = some (.string x) ∧ w.cell? ⟨b, o + i * 2 + 1, none⟩ = some (.string y) ∧ Hid (L.getD i p0 = (x, y)) := by
  rcases h with h | ⟨b, o, rfl, hc⟩
  · have h2 := cellsP_length L
    rw [h] at h2
    simp only [List.length_nil] at h2
    omega
  · have h1 := hc (i * 2) (by rw [cellsP_length]; omega)
    have h2 := hc (i * 2 + 1) (by rw [cellsP_length]; omega)
    rw [getD_some (cellsP_get L i hi).1] at h1
    rw [getD_some (cellsP_get L i hi).2] at h2
    exact ⟨b, o, _, _, rfl, h1, h2, rfl⟩
def mkP (k n : Nat) : List PM := (List.range n).map fun i => (markT (k + i * 2), markT (k + i * 2 + 1))
theorem mkP_length (k n : Nat) : (mkP k n).length = n := by simp [mkP]
theorem mkP_get (k n i : Nat) (h : i < n) : (mkP k n).getD i p0 = (markT (k + i * 2), markT (k + i * 2 + 1)) := by
  rw [List.getD_eq_getElem?_getD]; simp [mkP, h]
theorem infoP : (Tryz.prog.info? 70).map (fun i => (i.zero, i.size, i.bytes)) = some (some (.agg #[.string ⟨#[]⟩, .string ⟨#[]⟩]), 2, 32) := by kernel_rfl
theorem run_make_P (n : Nat) (hn : n ≤ 1048576) (w : World) : (Instr.makeSlice 28 (.int .i64 (n : Int)) (.int .i64 (n : Int))).run Tryz.prog w = .ok (.slice (some ⟨w.heap.size, 0, none⟩) n n) (w.alloc (.cells (madeCells #[.string ⟨#[]⟩, .string ⟨#[]⟩] (n * 2)) 70)) :=
  run_make_rows 28 70 (.agg #[.string ⟨#[]⟩, .string ⟨#[]⟩]) 2 32 n Tryz.underlying28 infoP (by omega) hn w
set_option maxHeartbeats 400000 in
theorem toPair (x y : ByteArray) (w : World) : Calls Tryz.prog 40 #[.agg #[.string x, .string y]] w fun e w' => e = .returned (.agg #[.string x, .string y]) ∧ Below w.heap.size w w' := by
  go_enter Tryz.func40, Tryz.ntmps40
  go_wp2
  exact bodyPost_ret (v := .agg #[.string x, .string y]) (by simp [results, Tryz.results40, go_sem]) rfl ⟨rfl, (((Below.refl _ _).alloc (Nat.le_refl _) _).alloc (by simp) _).alloc (by simp; omega) _⟩

set_option maxHeartbeats 400000 in
theorem szPair (x y : ByteArray) (l : Int) (w : World) (hx : x.size ≤ maxLen) (hy : y.size ≤ maxLen) (h0 : 0 ≤ l) (h1 : l ≤ 1048576) : Calls Tryz.prog 35 #[.agg #[.string x, .string y], .int .i64 l] w fun e w' => ∃ r : Int, e = .returned (.int .i64 r) ∧ r ≤ l ∧ (0 ≤ r → r = l - x.size - y.size) ∧ Below w.heap.size w w' := by
  unfold maxLen at hx hy
  go_enter Tryz.func35, Tryz.ntmps35
  go_wp2
  all_goals
    go_ret
    refine ⟨_, rfl, ?_, ?_, (Below.refl _ _).alloc (Nat.le_refl _) _⟩
    all_goals omega

set_option maxHeartbeats 400000 in
theorem eqPair (x y : ByteArray) (w : World) : Calls Tryz.prog 47 #[.agg #[.string x, .string y], .agg #[.string x, .string y]] w fun e w' => e = .returned (.bool true) ∧ Below w.heap.size w w' := by
  go_enter Tryz.func47, Tryz.ntmps47
  go_wp2
  go_ret
  exact ⟨rfl, ((Below.refl _ _).alloc (Nat.le_refl _) _).alloc (by simp) _⟩

set_option maxHeartbeats 400000 in
theorem toPairS (a : Option Addr) (n c : Nat) (L : List PM) (w : World) (hL : L.length = n) (hn : n ≤ 1048576) (h : Src w a (cellsP L)) :
    Calls Tryz.prog 10 #[.slice a n c] w fun e w' => ∃ v, e = .returned v ∧ w'.ownsRow w.heap.size 70 2 v n (cellsP L) ∧ Below w.heap.size w w' := by
  have hmk := run_make_P n hn
  have HH : Hid (Src w a (cellsP L)) := h
  have HL : Hid ((cellsP L).length = n * 2) := by show (cellsP L).length = n * 2; rw [cellsP_length, hL]
  have HL2 : Hid (L.length = n) := hL
  clear h hL
  go_enter Tryz.func10, Tryz.ntmps10
  go_wp2_with fail
  clear hmk
  obtain ⟨zs, hz, ho⟩ := rows_made w #[.string ⟨#[]⟩, .string ⟨#[]⟩] n 2 70 rfl (by omega) (by unfold maxLen; omega)
  have HZ : Hid (zs.length = n * 2) := hz
  have HO : Hid (World.ownsRow (w.alloc (.cells (madeCells #[.string ⟨#[]⟩, .string ⟨#[]⟩] (n * 2)) 70)) w.heap.size 70 2 (.slice (some ⟨w.heap.size, 0, none⟩) n n) n zs) := ho
  clear hz ho
  go_loopw [4] (fun i wr => ∃ k : Nat, k ≤ n ∧ i = .int .i64 k ∧ Hid (Below w.heap.size w wr) ∧ Hid (wr.ownsRow w.heap.size 70 2 (.slice (some ⟨w.heap.size, 0, none⟩) n n) n ((cellsP L).take (k * 2) ++ zs.drop (k * 2)))) (fun i _ => n - (intOf i).toNat)
  case atStart => exact ⟨0, by omega, rfl, (Below.refl _ _).alloc (Nat.le_refl _) _, by simpa [Hid] using HO.out⟩
  case round =>
    obtain ⟨k, hk, rfl, hb, ho⟩ := hrel
    by_cases hlt : k < n
    · have hkL : k < L.length := by rw [HL2.out]; exact hlt
      obtain ⟨b, o, x, y, rfl, hc1, hc2, hy⟩ := srcP (HH.out.below hb.out) hkL
      have HK : Hid (k < L.length) := hkL
      clear hkL
      go_wp2_with fail
      refine (toPair x y _).mono ?_
      rintro e w1 ⟨rfl, hb1⟩
      have HB : Hid (Below w.heap.size w w1) := hb.out.trans (hb1.mono hb.out.size)
      have HO1 : Hid (w1.ownsRow w.heap.size 70 2 (.slice (some ⟨w.heap.size, 0, none⟩) n n) n ((cellsP L).take (k * 2) ++ zs.drop (k * 2))) := own_below ho.out hb1
      clear hb hb1 ho hc1 hc2
      have hl1 : Hid (((cellsP L).take (k * 2) ++ zs.drop (k * 2)).length = n * 2) := by
        show _ = _; rw [fill_length _ _ _ (HZ.out.trans HL.out.symm), HL.out]
      obtain ⟨z1, o1, o2⟩ := own_cellX HO1.out (i := k * 2) (by rw [hl1.out]; omega)
      obtain ⟨z2, o3, o4⟩ := own_cellX HO1.out (i := k * 2 + 1) (by rw [hl1.out]; omega)
      have o3' : (w1.setCell ⟨w.heap.size, k * 2, none⟩ (.string x)).cell? ⟨w.heap.size, k * 2 + 1, none⟩ = some z2 := by
        rw [World.cell?_setCell_other _ _ _ _ (offs_ne (by omega))]; exact o3
      go_wp2_with fail
      refine ⟨⟨k + 1, by omega, by go_num, (HB.out.setCell (Nat.le_refl _) _).setCell (Nat.le_refl _) _, ?_⟩, by simp [intOf]; omega⟩
      have e1 := fill_set (cellsP L) zs (k * 2) (.string x) (by rw [HZ.out]; omega) (by rw [(cellsP_get L k HK.out).1, hy.out])
      have e2 := fill_set (cellsP L) zs (k * 2 + 1) (.string y) (by rw [HZ.out]; omega) (by rw [(cellsP_get L k HK.out).2, hy.out])
      have s1 := own_set HO1.out (k * 2) (by rw [hl1.out]; omega) (.string x)
      rw [e1] at s1
      have s2 := own_set s1 (k * 2 + 1) (by rw [fill_length _ _ _ (HZ.out.trans HL.out.symm), HL.out]; omega) (.string y)
      rw [e2] at s2
      rw [show (k + 1) * 2 = k * 2 + 1 + 1 from by omega]
      exact s2
    · have hkn : k = n := by omega
      have HF : Hid (wr.ownsRow w.heap.size 70 2 (.slice (some ⟨w.heap.size, 0, none⟩) n n) n (cellsP L)) := own_congr ho.out (by rw [hkn]; exact fill_all HL.out HZ.out)
      clear hkn
      go_wp2_with fail
      go_ret
      exact ⟨_, rfl, HF.out, hb.out⟩

set_option maxHeartbeats 400000 in
theorem szPairS (a : Option Addr) (n c : Nat) (L : List PM) (l : Int) (w : World) (hL : L.length = n) (hn : n ≤ maxLen) (hs : ∀ x ∈ L, x.1.size ≤ maxLen ∧ x.2.size ≤ maxLen) (h0 : 0 ≤ l) (h1 : l ≤ 1048576) (h : Src w a (cellsP L)) :
    Calls Tryz.prog 7 #[.slice a n c, .int .i64 l] w fun e w' => ∃ r : Int, e = .returned (.int .i64 r) ∧ r ≤ l ∧ (0 ≤ r → r + n ≤ l ∧ n ≤ 1048576 ∧ ∀ x ∈ L, x.1.size ≤ 1048576 ∧ x.2.size ≤ 1048576) ∧ Below w.heap.size w w' := by
  unfold maxLen at hn
  by_cases hbig : l < n
  · clear h hs hL
    go_enter Tryz.func7, Tryz.ntmps7
    go_wp2_with fail
    go_ret
    exact ⟨-1, rfl, by omega, fun h => absurd h (by omega), Below.refl _ _⟩
  have HS : Hid (∀ i, i < n → (L.getD i p0).1.size ≤ maxLen ∧ (L.getD i p0).2.size ≤ maxLen) := fun i hi => hs _ (by
    rw [List.getD_eq_getElem?_getD, List.getElem?_eq_getElem (by omega)]; exact List.getElem_mem _)
  have HH : Hid (Src w a (cellsP L)) := h
  have HL : Hid (L.length = n) := hL
  clear hs h hL
  go_enter Tryz.func7, Tryz.ntmps7
  go_wp2_with fail
  go_loopw [1, 5] (fun v i wr => ∃ (k : Nat) (x : Int), k ≤ n ∧ i = .int .i64 k ∧ v = .int .i64 x ∧ 0 ≤ x ∧ x + n ≤ l ∧ Hid (∀ i, i < k → (L.getD i p0).1.size ≤ 1048576 ∧ (L.getD i p0).2.size ≤ 1048576) ∧ Hid (Below w.heap.size w wr)) (fun _ i _ => n - (intOf i).toNat)
  case atStart => exact ⟨0, _, by omega, rfl, rfl, by omega, by omega, fun i hi => absurd hi (by omega), Below.refl _ _⟩
  case round =>
    obtain ⟨k, x, hk, rfl, rfl, hx0, hx1, hall, hb⟩ := hrel
    by_cases hlt : k < n
    · obtain ⟨b, o, p, y, rfl, hc1, hc2, hy⟩ := srcP (HH.out.below hb.out) (i := k) (by rw [HL.out]; exact hlt)
      have hsz := HS.out k hlt
      rw [hy.out] at hsz
      have HSZ : Hid (p.size ≤ maxLen ∧ y.size ≤ maxLen) := hsz
      clear hsz
      go_wp2_with fail
      refine (szPair p y x _ HSZ.out.1 HSZ.out.2 hx0 (by omega)).mono ?_
      rintro e w1 ⟨r, rfl, hr1, hr2, hb1⟩
      have HB1 : Hid (Below w.heap.size w w1) := hb.out.trans (hb1.mono hb.out.size)
      clear hb1
      by_cases hneg : r < 0
      · clear hr2
        go_wp2_with fail
        go_ret
        exact ⟨-1, rfl, by omega, fun h => absurd h (by omega), HB1.out⟩
      · have hr3 := hr2 (by omega)
        have hall2 : Hid (∀ i, i < k + 1 → (L.getD i p0).1.size ≤ 1048576 ∧ (L.getD i p0).2.size ≤ 1048576) := fun i hi => by
          by_cases e : i = k
          · rw [e, hy.out]; show p.size ≤ 1048576 ∧ y.size ≤ 1048576; omega
          · exact hall.out i (by omega)
        clear hr2 hr3
        go_wp2_with fail
        exact ⟨⟨k + 1, _, by omega, by go_num, rfl, by omega, by omega, hall2, HB1.out⟩, by simp [intOf]; omega⟩
    · have hkn : k = n := by omega
      have hall' : Hid (∀ x ∈ L, x.1.size ≤ 1048576 ∧ x.2.size ≤ 1048576) := fun y hy => by
        obtain ⟨i, hi, rfl⟩ := List.getElem_of_mem hy
        have := hall.out i (by rw [hkn, ← HL.out]; exact hi)
        rw [List.getD_eq_getElem?_getD, List.getElem?_eq_getElem hi] at this
        exact this
      clear hkn
      go_wp2_with fail
      go_ret
      exact ⟨x, rfl, by omega, fun _ => ⟨hx1, by omega, hall'.out⟩, hb.out⟩

set_option maxHeartbeats 400000 in
theorem eqPairS (a b : Option Addr) (n c d : Nat) (L : List PM) (w : World) (hL : L.length = n) (hn : n ≤ 9000000000000000000) (ha : Src w a (cellsP L)) (hb : Src w b (cellsP L)) :
    Calls Tryz.prog 13 #[.slice a n c, .slice b n d] w fun e w' => e = .returned (.bool true) ∧ Below w.heap.size w w' := by
  have hne : ((n : Int) != (n : Int)) = false := by simp
  have HA : Hid (Src w a (cellsP L)) := ha
  have HB : Hid (Src w b (cellsP L)) := hb
  have HL : Hid (L.length = n) := hL
  clear ha hb hL
  go_enter Tryz.func13, Tryz.ntmps13
  go_wp2_with fail
  go_loopw [5] (fun i wr => ∃ k : Nat, k ≤ n ∧ i = .int .i64 k ∧ Hid (Below w.heap.size w wr)) (fun i _ => n - (intOf i).toNat)
  case atStart => exact ⟨0, by omega, rfl, Below.refl _ _⟩
  case round =>
    obtain ⟨k, hk, rfl, hB⟩ := hrel
    by_cases hlt : k < n
    · obtain ⟨b1, o1, x, y, rfl, p1, p2, hy1⟩ := srcP (HA.out.below hB.out) (i := k) (by rw [HL.out]; exact hlt)
      obtain ⟨b2, o2, x', y', rfl, p3, p4, hy2⟩ := srcP (HB.out.below hB.out) (i := k) (by rw [HL.out]; exact hlt)
      obtain ⟨rfl, rfl⟩ : x = x' ∧ y = y' := by have := hy1.out.symm.trans hy2.out; simpa using this
      have hk0 : (0 : Int) ≤ (k : Int) := by omega
      have hki : (k : Int) < (n : Int) := by omega
      go_wp2_with fail
      go_region_with (go_at_call 47; refine (eqPair _ _ _).mono ?_; rintro e w1 ⟨rfl, hb1⟩)
      all_goals go_wp2_with fail
      all_goals exact ⟨⟨k + 1, by omega, by go_num, hB.out.drew.trans (hb1.mono hB.out.size)⟩, by simp [intOf]; omega⟩
    · go_wp2_with fail
      go_ret
      exact ⟨rfl, hB.out⟩

set_option maxHeartbeats 600000 in
theorem markPairS (v : Value) (n k base : Nat) (xs : List Value) (w : World) (hn : n ≤ 1048576) (hk0 : 0 < k) (hk1 : k ≤ 4194304) (ho : w.ownsRow base 70 2 v n xs) :
    Calls Tryz.prog 15 #[v, .int .i64 (k : Int)] w fun e w' => e = .returned (.int .i64 ((k + n * 2 : Nat) : Int)) ∧ w.grownBy w' v.ownBlock ∧ w'.ownsRow base 70 2 v n (cellsP (mkP k n)) := by
  have hlen := ho.1
  have hcase := ho.2
  rcases hcase with ⟨rfl, h0⟩ | ⟨B, cap, cur, rfl, _⟩
  · subst h0
    clear ho hlen
    go_enter Tryz.func15, Tryz.ntmps15
    go_wp2_with fail
    go_loop [1, 5] (fun kk i => i = .int .i64 0 ∧ kk = .int .i64 (k : Int)) (fun _ _ => 0)
    case atStart => exact ⟨rfl, rfl⟩
    case round =>
      obtain ⟨rfl, rfl⟩ := hrel
      go_wp2_with fail
      go_ret
      exact ⟨rfl, gb_refl _ _, World.ownsRow_nil _ _ _ _⟩
  have HO : Hid (w.ownsRow base 70 2 (.slice (some ⟨B, 0, none⟩) n cap) n xs) := ho
  have HN : Hid (xs.length = n * 2) := hlen
  have HM : Hid ((cellsP (mkP k n)).length = n * 2) := by show (cellsP (mkP k n)).length = n * 2; rw [cellsP_length, mkP_length]
  clear ho hlen
  go_enter Tryz.func15, Tryz.ntmps15
  go_wp2_with fail
  go_loopw [1, 5] (fun kk i wr => ∃ j x : Nat, j ≤ n ∧ i = .int .i64 (j : Int) ∧ kk = .int .i64 (x : Int) ∧ x ≤ 16777216 ∧ 0 < x ∧ Hid (x = k + j * 2) ∧ Hid (w.grownBy wr (some B)) ∧ Hid (wr.ownsRow base 70 2 (.slice (some ⟨B, 0, none⟩) n cap) n ((cellsP (mkP k n)).take (j * 2) ++ xs.drop (j * 2)))) (fun _ i _ => n - (intOf i).toNat)
  case atStart => exact ⟨0, k, by omega, rfl, rfl, by omega, by omega, by show k = k + 0 * 2; omega, gb_refl _ _, by simpa [Hid] using HO.out⟩
  case round =>
    obtain ⟨j, x, hj, rfl, rfl, hx1, hx0, hx, hg, hO⟩ := hrel
    by_cases hlt : j < n
    · have hjn : (j : Int) < (n : Int) := by omega
      have hxb : Hid (x + 2 ≤ 16777216) := by show x + 2 ≤ 16777216; have := hx.out; omega
      go_wp2_with fail
      refine (markText x _ hx0 (by omega)).mono ?_
      rintro e w1 ⟨rfl, hb1⟩
      have O1 : Hid (w1.ownsRow base 70 2 (.slice (some ⟨B, 0, none⟩) n cap) n ((cellsP (mkP k n)).take (j * 2) ++ xs.drop (j * 2))) := own_below hO.out hb1
      have G1 : Hid (w.grownBy w1 (some B)) := gb_below hg.out hb1
      clear hO hg hb1
      have hl1 : Hid (((cellsP (mkP k n)).take (j * 2) ++ xs.drop (j * 2)).length = n * 2) := by
        show _ = _; rw [fill_length _ _ _ (HN.out.trans HM.out.symm), HM.out]
      obtain ⟨z1, o1, o2⟩ := own_cellX O1.out (i := j * 2) (by rw [hl1.out]; omega)
      have HJ : Hid (j < (mkP k n).length) := by show j < (mkP k n).length; rw [mkP_length]; exact hlt
      have s1 := own_set O1.out (j * 2) (by rw [hl1.out]; omega) (.string (markT x))
      rw [fill_set (cellsP (mkP k n)) xs (j * 2) (.string (markT x)) (by rw [HN.out]; omega) (by rw [(cellsP_get _ j HJ.out).1, mkP_get _ _ _ hlt, hx.out])] at s1
      have S1 : Hid ((w1.setCell ⟨B, j * 2, none⟩ (.string (markT x))).ownsRow base 70 2 (.slice (some ⟨B, 0, none⟩) n cap) n ((cellsP (mkP k n)).take (j * 2 + 1) ++ xs.drop (j * 2 + 1))) := s1
      have G0 : Hid (w.grownBy (w1.setCell ⟨B, j * 2, none⟩ (.string (markT x))) (some B)) := gb_set G1.out _ _
      clear s1 O1 G1
      go_wp2_with fail
      rw [show ((x : Int) + 1) = ((x + 1 : Nat) : Int) from by omega]
      refine (markText (x + 1) _ (by omega) (by omega)).mono ?_
      rintro e w2 ⟨rfl, hb2⟩
      have O2 : Hid (w2.ownsRow base 70 2 (.slice (some ⟨B, 0, none⟩) n cap) n ((cellsP (mkP k n)).take (j * 2 + 1) ++ xs.drop (j * 2 + 1))) := own_below S1.out hb2
      have G2 : Hid (w.grownBy w2 (some B)) := gb_below G0.out hb2
      clear S1 G0 hb2 o1 o2
      have hl2 : Hid (((cellsP (mkP k n)).take (j * 2 + 1) ++ xs.drop (j * 2 + 1)).length = n * 2) := by
        show _ = _; rw [fill_length _ _ _ (HN.out.trans HM.out.symm), HM.out]
      obtain ⟨z2, o1, o2⟩ := own_cellX O2.out (i := j * 2 + 1) (by rw [hl2.out]; omega)
      go_wp2_with fail
      refine ⟨⟨j + 1, x + 2, by omega, by go_num, by go_num, hxb.out, by omega, by show x + 2 = k + (j + 1) * 2; have := hx.out; omega, gb_set G2.out _ _, ?_⟩, by simp [intOf]; omega⟩
      have s2 := own_set O2.out (j * 2 + 1) (by rw [hl2.out]; omega) (.string (markT (x + 1)))
      rw [fill_set (cellsP (mkP k n)) xs (j * 2 + 1) (.string (markT (x + 1))) (by rw [HN.out]; omega) (by rw [(cellsP_get _ j HJ.out).2, mkP_get _ _ _ hlt, hx.out])] at s2
      rw [show (j + 1) * 2 = j * 2 + 1 + 1 from by omega]
      exact s2
    · have hjn : j = n := by omega
      have E : Hid ((x : Int) = ((k + n * 2 : Nat) : Int)) := by show (x : Int) = ((k + n * 2 : Nat) : Int); rw [hx.out, hjn]
      have O1 : Hid (wr.ownsRow base 70 2 (.slice (some ⟨B, 0, none⟩) n cap) n (cellsP (mkP k n))) := own_congr hO.out (by rw [hjn]; exact fill_all HM.out HN.out)
      clear hjn hO
      go_wp2_with fail
      go_ret
      exact ⟨by show Ending.returned (.int .i64 (x : Int)) = _; rw [E.out], hg.out, O1.out⟩

set_option maxHeartbeats 1000000 in
theorem heldPairS (a : Option Addr) (n c k : Nat) (w : World) (hn : n ≤ 1048576) (hk0 : 0 < k) (hk1 : k ≤ 4194304) (ho : Src w a (cellsP (mkP k n))) :
    Calls Tryz.prog 17 #[.slice a n c, .int .i64 (k : Int)] w fun e w' => e = .returned (.int .i64 ((k + n * 2 : Nat) : Int)) ∧ Below w.heap.size w w' := by
  have HO : Hid (Src w a (cellsP (mkP k n))) := ho
  clear ho
  go_enter Tryz.func17, Tryz.ntmps17
  go_wp2_with fail
  go_loopw [1, 5] (fun kk i wr => ∃ j x : Nat, j ≤ n ∧ i = .int .i64 (j : Int) ∧ kk = .int .i64 (x : Int) ∧ x ≤ 16777216 ∧ 0 < x ∧ Hid (x = k + j * 2) ∧ Hid (Below w.heap.size w wr)) (fun _ i _ => n - (intOf i).toNat)
  case atStart => exact ⟨0, k, by omega, rfl, rfl, by omega, by omega, by show k = k + 0 * 2; omega, Below.refl _ _⟩
  case round =>
    obtain ⟨j, x, hj, rfl, rfl, hx1, hx0, hx, hb⟩ := hrel
    by_cases hlt : j < n
    · obtain ⟨B, o, p, y, rfl, p1, p2, hy⟩ := srcP (HO.out.below hb.out) (i := j) (by rw [mkP_length]; exact hlt)
      obtain ⟨rfl, rfl⟩ : p = markT x ∧ y = markT (x + 1) := by
        have := hy.out
        rw [mkP_get _ _ _ hlt, ← hx.out] at this
        simp at this
        exact ⟨this.1.symm, this.2.symm⟩
      have hj0 : (0 : Int) ≤ (j : Int) := by omega
      have hjn : (j : Int) < (n : Int) := by omega
      have hxb : Hid (x + 2 ≤ 16777216) := by show x + 2 ≤ 16777216; have := hx.out; omega
      have HB : Hid (Below w.heap.size w wr.drew) := hb.out.drew
      go_wp2_with fail
      go_region_with (go_at_call 49; refine (markText x _ hx0 (by omega)).mono ?_; rintro e w2 ⟨rfl, hb2⟩; obtain o4 := ((hb2.cell (p := ⟨B, o + j * 2, none⟩) (World.block_lt_of_cell? _ _ p1)).trans p1))
      all_goals
        have p2' : w2.cell? ⟨B, o + j * 2 + 1, none⟩ = some (.string (markT (x + 1))) := (hb2.cell (p := ⟨B, o + j * 2 + 1, none⟩) (World.block_lt_of_cell? _ _ p2)).trans p2
        have HB2 : Hid (Below w.heap.size w w2) := HB.out.trans (hb2.mono HB.out.size)
        clear p1 p2 hb2
        go_wp2_with fail
        go_region_with (go_at_call 49; rw [show ((x : Int) + 1) = ((x + 1 : Nat) : Int) from by omega]; refine (markText (x + 1) _ (by omega) (by omega)).mono ?_; rintro e w3 ⟨rfl, hb3⟩; obtain o5 := ((hb3.cell (p := ⟨B, o + j * 2 + 1, none⟩) (World.block_lt_of_cell? _ _ p2')).trans p2'))
        all_goals go_wp2_with fail
        all_goals
          exact ⟨⟨j + 1, x + 2, by omega, by go_num, by go_num, hxb.out, by omega, by show x + 2 = k + (j + 1) * 2; have := hx.out; omega, HB2.out.drew.trans (hb3.mono HB2.out.size)⟩, by simp [intOf]; omega⟩
    · have hjn : j = n := by omega
      have E : Hid ((x : Int) = ((k + n * 2 : Nat) : Int)) := by show (x : Int) = ((k + n * 2 : Nat) : Int); rw [hx.out, hjn]
      clear hjn
      go_wp2_with fail
      go_ret
      exact ⟨by show Ending.returned (.int .i64 (x : Int)) = _; rw [E.out], hb.out⟩
end Go.Proofs.YtmbndpgoihdpnaaGreatDoor
