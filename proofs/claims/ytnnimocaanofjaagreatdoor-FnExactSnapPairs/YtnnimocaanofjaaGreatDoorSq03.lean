/-
  Texts of the store, brought together: Listsp, Nodes. By an AI agent.
-/
import Derived.Test.YtnnimocaanofjaaGreatDoorSq02
namespace Go.Proofs.YtnnimocaanofjaaGreatDoor
open Go.ChangeShapes Go.WideShapes Go.ChangeAt Go.RowKit Go.Deep
set_option linter.unusedVariables false
set_option linter.unusedSimpArgs false
set_option maxRecDepth 100000
abbrev PM := ByteArray × ByteArray
abbrev p0 : PM := (⟨#[]⟩, ⟨#[]⟩)
def cellsP (L : List PM) : List Value := L.flatMap fun p => [.string p.1, .string p.2]
theorem cellsP_length (L : List PM) : (cellsP L).length = L.length * 2 := by
  induction L with
  | nil => rfl
  | cons p L ih => simp [cellsP] at ih ⊢; omega
theorem cellsP_append (L M : List PM) : cellsP (L ++ M) = cellsP L ++ cellsP M := by simp [cellsP]
theorem cellsP_get : ∀ (L : List PM) (i : Nat), i < L.length → (cellsP L)[i * 2]? = some (.string (L.getD i p0).1) ∧ (cellsP L)[i * 2 + 1]? = some (.string (L.getD i p0).2)
  | [], i, h => absurd h (by simp)
  | p :: L, 0, _ => ⟨rfl, rfl⟩
  | p :: L, i + 1, h => by
    have ih := cellsP_get L i (by simpa using h)
    have e1 : (i + 1) * 2 = i * 2 + 1 + 1 := by omega
    have e2 : cellsP (p :: L) = .string p.1 :: .string p.2 :: cellsP L := rfl
    rw [e2, e1]
    exact ih
theorem cellsP_one (L : List PM) : ∀ u ∈ cellsP L, u.oneCell' = true := by
  intro u hu
  simp only [cellsP, List.mem_flatMap] at hu
  obtain ⟨p, _, hp⟩ := hu
  simp at hp
  rcases hp with rfl | rfl <;> rfl
theorem srcP {w : World} {a : Option Addr} {L : List PM} (h : Src w a (cellsP L)) {i : Nat} (hi : i < L.length) : ∃ b o x y, a = some ⟨b, o, none⟩ ∧ w.cell? ⟨b, o + i * 2, none⟩ = some (.string x) ∧ w.cell? ⟨b, o + i * 2 + 1, none⟩ = some (.string y) ∧ Hid (L.getD i p0 = (x, y)) := by
  rcases h with h | ⟨b, o, rfl, hc⟩
  · have h2 := cellsP_length L
    rw [h] at h2
    simp only [List.length_nil] at h2
    omega
  · have h1 := hc (i * 2) (by rw [cellsP_length]; omega)
    have h2 := hc (i * 2 + 1) (by rw [cellsP_length]; omega)
    rw [getD_some (cellsP_get L i hi).1] at h1
    rw [getD_some (cellsP_get L i hi).2] at h2
    exact ⟨b, o, _, _, rfl, h1, h2, rfl⟩
def mkP (k n : Nat) : List PM := (List.range n).map fun i => (markT (k + i * 2), markT (k + i * 2 + 1))
theorem mkP_length (k n : Nat) : (mkP k n).length = n := by simp [mkP]
theorem mkP_get (k n i : Nat) (h : i < n) : (mkP k n).getD i p0 = (markT (k + i * 2), markT (k + i * 2 + 1)) := by
  rw [List.getD_eq_getElem?_getD]; simp [mkP, h]
theorem infoP : (Tryz.prog.info? 109).map (fun i => (i.zero, i.size, i.bytes)) = some (some (.agg #[.string ⟨#[]⟩, .string ⟨#[]⟩]), 2, 32) := by kernel_rfl
theorem run_make_P (n : Nat) (hn : n ≤ 1048576) (w : World) : (Instr.makeSlice 59 (.int .i64 (n : Int)) (.int .i64 (n : Int))).run Tryz.prog w = .ok (.slice (some ⟨w.heap.size, 0, none⟩) n n) (w.alloc (.cells (madeCells #[.string ⟨#[]⟩, .string ⟨#[]⟩] (n * 2)) 109)) :=
  run_make_rows 59 109 (.agg #[.string ⟨#[]⟩, .string ⟨#[]⟩]) 2 32 n Tryz.underlying59 infoP (by omega) hn w
set_option maxHeartbeats 400000 in
theorem toPair (x y : ByteArray) (w : World) : Calls Tryz.prog 170 #[.agg #[.string x, .string y]] w fun e w' => e = .returned (.agg #[.string x, .string y]) ∧ Below w.heap.size w w' := by
  go_enter Tryz.func170, Tryz.ntmps170
  go_wp2
  exact bodyPost_ret (v := .agg #[.string x, .string y]) (by simp [results, Tryz.results170, go_sem]) rfl ⟨rfl, (((Below.refl _ _).alloc (Nat.le_refl _) _).alloc (by simp) _).alloc (by simp; omega) _⟩
set_option maxHeartbeats 400000 in
theorem szPair (x y : ByteArray) (l : Int) (w : World) (hx : x.size ≤ maxLen) (hy : y.size ≤ maxLen) (h0 : 0 ≤ l) (h1 : l ≤ 1048576) : Calls Tryz.prog 166 #[.agg #[.string x, .string y], .int .i64 l] w fun e w' => ∃ r : Int, e = .returned (.int .i64 r) ∧ r ≤ l ∧ (0 ≤ r → r = l - x.size - y.size) ∧ Below w.heap.size w w' := by
  unfold maxLen at hx hy
  go_enter Tryz.func166, Tryz.ntmps166
  go_wp2
  all_goals
    go_ret
    refine ⟨_, rfl, ?_, ?_, (Below.refl _ _).alloc (Nat.le_refl _) _⟩
    all_goals omega
set_option maxHeartbeats 400000 in
theorem eqPair (x y : ByteArray) (w : World) : Calls Tryz.prog 66 #[.agg #[.string x, .string y], .agg #[.string x, .string y]] w fun e w' => e = .returned (.bool true) ∧ Below w.heap.size w w' := by
  go_enter Tryz.func66, Tryz.ntmps66
  go_wp2
  go_ret
  exact ⟨rfl, ((Below.refl _ _).alloc (Nat.le_refl _) _).alloc (by simp) _⟩
set_option maxHeartbeats 400000 in
theorem toPairS (a : Option Addr) (n c : Nat) (L : List PM) (w : World) (hL : L.length = n) (hn : n ≤ 1048576) (h : Src w a (cellsP L)) :
    Calls Tryz.prog 153 #[.slice a n c] w fun e w' => ∃ v, e = .returned v ∧ w'.ownsRow w.heap.size 109 2 v n (cellsP L) ∧ Below w.heap.size w w' := by
  have hmk := run_make_P n hn
  have HH : Hid (Src w a (cellsP L)) := h
  have HL : Hid ((cellsP L).length = n * 2) := by show (cellsP L).length = n * 2; rw [cellsP_length, hL]
  have HL2 : Hid (L.length = n) := hL
  clear h hL
  go_enter Tryz.func153, Tryz.ntmps153
  go_wp2_with fail
  clear hmk
  obtain ⟨zs, hz, ho⟩ := rows_made w #[.string ⟨#[]⟩, .string ⟨#[]⟩] n 2 109 rfl (by omega) (by unfold maxLen; omega)
  have HZ : Hid (zs.length = n * 2) := hz
  have HO : Hid (World.ownsRow (w.alloc (.cells (madeCells #[.string ⟨#[]⟩, .string ⟨#[]⟩] (n * 2)) 109)) w.heap.size 109 2 (.slice (some ⟨w.heap.size, 0, none⟩) n n) n zs) := ho
  clear hz ho
  go_loopw [4] (fun i wr => ∃ k : Nat, k ≤ n ∧ i = .int .i64 k ∧ Hid (Below w.heap.size w wr) ∧ Hid (wr.ownsRow w.heap.size 109 2 (.slice (some ⟨w.heap.size, 0, none⟩) n n) n ((cellsP L).take (k * 2) ++ zs.drop (k * 2)))) (fun i _ => n - (intOf i).toNat)
  case atStart => exact ⟨0, by omega, rfl, (Below.refl _ _).alloc (Nat.le_refl _) _, by simpa [Hid] using HO.out⟩
  case round =>
    obtain ⟨k, hk, rfl, hb, ho⟩ := hrel
    by_cases hlt : k < n
    · have hkL : k < L.length := by rw [HL2.out]; exact hlt
      obtain ⟨b, o, x, y, rfl, hc1, hc2, hy⟩ := srcP (HH.out.below hb.out) hkL
      have HK : Hid (k < L.length) := hkL
      clear hkL
      go_wp2_with fail
      refine (toPair x y _).mono ?_
      rintro e w1 ⟨rfl, hb1⟩
      have HB : Hid (Below w.heap.size w w1) := hb.out.trans (hb1.mono hb.out.size)
      have HO1 : Hid (w1.ownsRow w.heap.size 109 2 (.slice (some ⟨w.heap.size, 0, none⟩) n n) n ((cellsP L).take (k * 2) ++ zs.drop (k * 2))) := own_below ho.out hb1
      clear hb hb1 ho hc1 hc2
      have hl1 : Hid (((cellsP L).take (k * 2) ++ zs.drop (k * 2)).length = n * 2) := by
        show _ = _; rw [fill_length _ _ _ (HZ.out.trans HL.out.symm), HL.out]
      obtain ⟨z1, o1, o2⟩ := own_cellX HO1.out (i := k * 2) (by rw [hl1.out]; omega)
      obtain ⟨z2, o3, o4⟩ := own_cellX HO1.out (i := k * 2 + 1) (by rw [hl1.out]; omega)
      have o3' : (w1.setCell ⟨w.heap.size, k * 2, none⟩ (.string x)).cell? ⟨w.heap.size, k * 2 + 1, none⟩ = some z2 := by
        rw [World.cell?_setCell_other _ _ _ _ (offs_ne (by omega))]; exact o3
      go_wp2_with fail
      refine ⟨⟨k + 1, by omega, by go_num, (HB.out.setCell (Nat.le_refl _) _).setCell (Nat.le_refl _) _, ?_⟩, by simp [intOf]; omega⟩
      have e1 := fill_set (cellsP L) zs (k * 2) (.string x) (by rw [HZ.out]; omega) (by rw [(cellsP_get L k HK.out).1, hy.out])
      have e2 := fill_set (cellsP L) zs (k * 2 + 1) (.string y) (by rw [HZ.out]; omega) (by rw [(cellsP_get L k HK.out).2, hy.out])
      have s1 := own_set HO1.out (k * 2) (by rw [hl1.out]; omega) (.string x)
      rw [e1] at s1
      have s2 := own_set s1 (k * 2 + 1) (by rw [fill_length _ _ _ (HZ.out.trans HL.out.symm), HL.out]; omega) (.string y)
      rw [e2] at s2
      rw [show (k + 1) * 2 = k * 2 + 1 + 1 from by omega]
      exact s2
    · have hkn : k = n := by omega
      have HF : Hid (wr.ownsRow w.heap.size 109 2 (.slice (some ⟨w.heap.size, 0, none⟩) n n) n (cellsP L)) := own_congr ho.out (by rw [hkn]; exact fill_all HL.out HZ.out)
      clear hkn
      go_wp2_with fail
      go_ret
      exact ⟨_, rfl, HF.out, hb.out⟩
set_option maxHeartbeats 400000 in
theorem szPairS (a : Option Addr) (n c : Nat) (L : List PM) (l : Int) (w : World) (hL : L.length = n) (hn : n ≤ maxLen) (hs : ∀ x ∈ L, x.1.size ≤ maxLen ∧ x.2.size ≤ maxLen) (h0 : 0 ≤ l) (h1 : l ≤ 1048576) (h : Src w a (cellsP L)) :
    Calls Tryz.prog 149 #[.slice a n c, .int .i64 l] w fun e w' => ∃ r : Int, e = .returned (.int .i64 r) ∧ r ≤ l ∧ (0 ≤ r → r + n ≤ l ∧ n ≤ 1048576 ∧ ∀ x ∈ L, x.1.size ≤ 1048576 ∧ x.2.size ≤ 1048576) ∧ Below w.heap.size w w' := by
  unfold maxLen at hn
  by_cases hbig : l < n
  · clear h hs hL
    go_enter Tryz.func149, Tryz.ntmps149
    go_wp2_with fail
    go_ret
    exact ⟨-1, rfl, by omega, fun h => absurd h (by omega), Below.refl _ _⟩
  have HS : Hid (∀ i, i < n → (L.getD i p0).1.size ≤ maxLen ∧ (L.getD i p0).2.size ≤ maxLen) := fun i hi => hs _ (by
    rw [List.getD_eq_getElem?_getD, List.getElem?_eq_getElem (by omega)]; exact List.getElem_mem _)
  have HH : Hid (Src w a (cellsP L)) := h
  have HL : Hid (L.length = n) := hL
  clear hs h hL
  go_enter Tryz.func149, Tryz.ntmps149
  go_wp2_with fail
  go_loopw [1, 5] (fun v i wr => ∃ (k : Nat) (x : Int), k ≤ n ∧ i = .int .i64 k ∧ v = .int .i64 x ∧ 0 ≤ x ∧ x + n ≤ l ∧ Hid (∀ i, i < k → (L.getD i p0).1.size ≤ 1048576 ∧ (L.getD i p0).2.size ≤ 1048576) ∧ Hid (Below w.heap.size w wr)) (fun _ i _ => n - (intOf i).toNat)
  case atStart => exact ⟨0, _, by omega, rfl, rfl, by omega, by omega, fun i hi => absurd hi (by omega), Below.refl _ _⟩
  case round =>
    obtain ⟨k, x, hk, rfl, rfl, hx0, hx1, hall, hb⟩ := hrel
    by_cases hlt : k < n
    · obtain ⟨b, o, p, y, rfl, hc1, hc2, hy⟩ := srcP (HH.out.below hb.out) (i := k) (by rw [HL.out]; exact hlt)
      have hsz := HS.out k hlt
      rw [hy.out] at hsz
      have HSZ : Hid (p.size ≤ maxLen ∧ y.size ≤ maxLen) := hsz
      clear hsz
      go_wp2_with fail
      refine (szPair p y x _ HSZ.out.1 HSZ.out.2 hx0 (by omega)).mono ?_
      rintro e w1 ⟨r, rfl, hr1, hr2, hb1⟩
      have HB1 : Hid (Below w.heap.size w w1) := hb.out.trans (hb1.mono hb.out.size)
      clear hb1
      by_cases hneg : r < 0
      · clear hr2
        go_wp2_with fail
        go_ret
        exact ⟨-1, rfl, by omega, fun h => absurd h (by omega), HB1.out⟩
      · have hr3 := hr2 (by omega)
        have hall2 : Hid (∀ i, i < k + 1 → (L.getD i p0).1.size ≤ 1048576 ∧ (L.getD i p0).2.size ≤ 1048576) := fun i hi => by
          by_cases e : i = k
          · rw [e, hy.out]; show p.size ≤ 1048576 ∧ y.size ≤ 1048576; omega
          · exact hall.out i (by omega)
        clear hr2 hr3
        go_wp2_with fail
        exact ⟨⟨k + 1, _, by omega, by go_num, rfl, by omega, by omega, hall2, HB1.out⟩, by simp [intOf]; omega⟩
    · have hkn : k = n := by omega
      have hall' : Hid (∀ x ∈ L, x.1.size ≤ 1048576 ∧ x.2.size ≤ 1048576) := fun y hy => by
        obtain ⟨i, hi, rfl⟩ := List.getElem_of_mem hy
        have := hall.out i (by rw [hkn, ← HL.out]; exact hi)
        rw [List.getD_eq_getElem?_getD, List.getElem?_eq_getElem hi] at this
        exact this
      clear hkn
      go_wp2_with fail
      go_ret
      exact ⟨x, rfl, by omega, fun _ => ⟨hx1, by omega, hall'.out⟩, hb.out⟩
set_option maxHeartbeats 400000 in
theorem eqPairS (a b : Option Addr) (n c d : Nat) (L : List PM) (w : World) (hL : L.length = n) (hn : n ≤ 9000000000000000000) (ha : Src w a (cellsP L)) (hb : Src w b (cellsP L)) :
    Calls Tryz.prog 23 #[.slice a n c, .slice b n d] w fun e w' => e = .returned (.bool true) ∧ Below w.heap.size w w' := by
  have hne : ((n : Int) != (n : Int)) = false := by simp
  have HA : Hid (Src w a (cellsP L)) := ha
  have HB : Hid (Src w b (cellsP L)) := hb
  have HL : Hid (L.length = n) := hL
  clear ha hb hL
  go_enter Tryz.func23, Tryz.ntmps23
  go_wp2_with fail
  go_loopw [5] (fun i wr => ∃ k : Nat, k ≤ n ∧ i = .int .i64 k ∧ Hid (Below w.heap.size w wr)) (fun i _ => n - (intOf i).toNat)
  case atStart => exact ⟨0, by omega, rfl, Below.refl _ _⟩
  case round =>
    obtain ⟨k, hk, rfl, hB⟩ := hrel
    by_cases hlt : k < n
    · obtain ⟨b1, o1, x, y, rfl, p1, p2, hy1⟩ := srcP (HA.out.below hB.out) (i := k) (by rw [HL.out]; exact hlt)
      obtain ⟨b2, o2, x', y', rfl, p3, p4, hy2⟩ := srcP (HB.out.below hB.out) (i := k) (by rw [HL.out]; exact hlt)
      obtain ⟨rfl, rfl⟩ : x = x' ∧ y = y' := by have := hy1.out.symm.trans hy2.out; simpa using this
      have hk0 : (0 : Int) ≤ (k : Int) := by omega
      have hki : (k : Int) < (n : Int) := by omega
      go_wp2_with fail
      go_region_with (go_at_call 66; refine (eqPair _ _ _).mono ?_; rintro e w1 ⟨rfl, hb1⟩)
      all_goals go_wp2_with fail
      all_goals exact ⟨⟨k + 1, by omega, by go_num, hB.out.drew.trans (hb1.mono hB.out.size)⟩, by simp [intOf]; omega⟩
    · go_wp2_with fail
      go_ret
      exact ⟨rfl, hB.out⟩
set_option maxHeartbeats 600000 in
theorem markPairS (v : Value) (n k base : Nat) (xs : List Value) (w : World) (hn : n ≤ 1048576) (hk0 : 0 < k) (hk1 : k ≤ 4194304) (ho : w.ownsRow base 109 2 v n xs) :
    Calls Tryz.prog 24 #[v, .int .i64 (k : Int)] w fun e w' => e = .returned (.int .i64 ((k + n * 2 : Nat) : Int)) ∧ w.grownBy w' v.ownBlock ∧ w'.ownsRow base 109 2 v n (cellsP (mkP k n)) := by
  have hlen := ho.1
  have hcase := ho.2
  rcases hcase with ⟨rfl, h0⟩ | ⟨B, cap, cur, rfl, _⟩
  · subst h0
    clear ho hlen
    go_enter Tryz.func24, Tryz.ntmps24
    go_wp2_with fail
    go_loop [1, 5] (fun kk i => i = .int .i64 0 ∧ kk = .int .i64 (k : Int)) (fun _ _ => 0)
    case atStart => exact ⟨rfl, rfl⟩
    case round =>
      obtain ⟨rfl, rfl⟩ := hrel
      go_wp2_with fail
      go_ret
      exact ⟨rfl, gb_refl _ _, World.ownsRow_nil _ _ _ _⟩
  have HO : Hid (w.ownsRow base 109 2 (.slice (some ⟨B, 0, none⟩) n cap) n xs) := ho
  have HN : Hid (xs.length = n * 2) := hlen
  have HM : Hid ((cellsP (mkP k n)).length = n * 2) := by show (cellsP (mkP k n)).length = n * 2; rw [cellsP_length, mkP_length]
  clear ho hlen
  go_enter Tryz.func24, Tryz.ntmps24
  go_wp2_with fail
  go_loopw [1, 5] (fun kk i wr => ∃ j x : Nat, j ≤ n ∧ i = .int .i64 (j : Int) ∧ kk = .int .i64 (x : Int) ∧ x ≤ 16777216 ∧ 0 < x ∧ Hid (x = k + j * 2) ∧ Hid (w.grownBy wr (some B)) ∧ Hid (wr.ownsRow base 109 2 (.slice (some ⟨B, 0, none⟩) n cap) n ((cellsP (mkP k n)).take (j * 2) ++ xs.drop (j * 2)))) (fun _ i _ => n - (intOf i).toNat)
  case atStart => exact ⟨0, k, by omega, rfl, rfl, by omega, by omega, by show k = k + 0 * 2; omega, gb_refl _ _, by simpa [Hid] using HO.out⟩
  case round =>
    obtain ⟨j, x, hj, rfl, rfl, hx1, hx0, hx, hg, hO⟩ := hrel
    by_cases hlt : j < n
    · have hjn : (j : Int) < (n : Int) := by omega
      have hxb : Hid (x + 2 ≤ 16777216) := by show x + 2 ≤ 16777216; have := hx.out; omega
      go_wp2_with fail
      refine (markText x _ hx0 (by omega)).mono ?_
      rintro e w1 ⟨rfl, hb1⟩
      have O1 : Hid (w1.ownsRow base 109 2 (.slice (some ⟨B, 0, none⟩) n cap) n ((cellsP (mkP k n)).take (j * 2) ++ xs.drop (j * 2))) := own_below hO.out hb1
      have G1 : Hid (w.grownBy w1 (some B)) := gb_below hg.out hb1
      clear hO hg hb1
      have hl1 : Hid (((cellsP (mkP k n)).take (j * 2) ++ xs.drop (j * 2)).length = n * 2) := by
        show _ = _; rw [fill_length _ _ _ (HN.out.trans HM.out.symm), HM.out]
      obtain ⟨z1, o1, o2⟩ := own_cellX O1.out (i := j * 2) (by rw [hl1.out]; omega)
      have HJ : Hid (j < (mkP k n).length) := by show j < (mkP k n).length; rw [mkP_length]; exact hlt
      have s1 := own_set O1.out (j * 2) (by rw [hl1.out]; omega) (.string (markT x))
      rw [fill_set (cellsP (mkP k n)) xs (j * 2) (.string (markT x)) (by rw [HN.out]; omega) (by rw [(cellsP_get _ j HJ.out).1, mkP_get _ _ _ hlt, hx.out])] at s1
      have S1 : Hid ((w1.setCell ⟨B, j * 2, none⟩ (.string (markT x))).ownsRow base 109 2 (.slice (some ⟨B, 0, none⟩) n cap) n ((cellsP (mkP k n)).take (j * 2 + 1) ++ xs.drop (j * 2 + 1))) := s1
      have G0 : Hid (w.grownBy (w1.setCell ⟨B, j * 2, none⟩ (.string (markT x))) (some B)) := gb_set G1.out _ _
      clear s1 O1 G1
      go_wp2_with fail
      rw [show ((x : Int) + 1) = ((x + 1 : Nat) : Int) from by omega]
      refine (markText (x + 1) _ (by omega) (by omega)).mono ?_
      rintro e w2 ⟨rfl, hb2⟩
      have O2 : Hid (w2.ownsRow base 109 2 (.slice (some ⟨B, 0, none⟩) n cap) n ((cellsP (mkP k n)).take (j * 2 + 1) ++ xs.drop (j * 2 + 1))) := own_below S1.out hb2
      have G2 : Hid (w.grownBy w2 (some B)) := gb_below G0.out hb2
      clear S1 G0 hb2 o1 o2
      have hl2 : Hid (((cellsP (mkP k n)).take (j * 2 + 1) ++ xs.drop (j * 2 + 1)).length = n * 2) := by
        show _ = _; rw [fill_length _ _ _ (HN.out.trans HM.out.symm), HM.out]
      obtain ⟨z2, o1, o2⟩ := own_cellX O2.out (i := j * 2 + 1) (by rw [hl2.out]; omega)
      go_wp2_with fail
      refine ⟨⟨j + 1, x + 2, by omega, by go_num, by go_num, hxb.out, by omega, by show x + 2 = k + (j + 1) * 2; have := hx.out; omega, gb_set G2.out _ _, ?_⟩, by simp [intOf]; omega⟩
      have s2 := own_set O2.out (j * 2 + 1) (by rw [hl2.out]; omega) (.string (markT (x + 1)))
      rw [fill_set (cellsP (mkP k n)) xs (j * 2 + 1) (.string (markT (x + 1))) (by rw [HN.out]; omega) (by rw [(cellsP_get _ j HJ.out).2, mkP_get _ _ _ hlt, hx.out])] at s2
      rw [show (j + 1) * 2 = j * 2 + 1 + 1 from by omega]
      exact s2
    · have hjn : j = n := by omega
      have E : Hid ((x : Int) = ((k + n * 2 : Nat) : Int)) := by show (x : Int) = ((k + n * 2 : Nat) : Int); rw [hx.out, hjn]
      have O1 : Hid (wr.ownsRow base 109 2 (.slice (some ⟨B, 0, none⟩) n cap) n (cellsP (mkP k n))) := own_congr hO.out (by rw [hjn]; exact fill_all HM.out HN.out)
      clear hjn hO
      go_wp2_with fail
      go_ret
      exact ⟨by show Ending.returned (.int .i64 (x : Int)) = _; rw [E.out], hg.out, O1.out⟩
set_option maxHeartbeats 1000000 in
theorem heldPairS (a : Option Addr) (n c k : Nat) (w : World) (hn : n ≤ 1048576) (hk0 : 0 < k) (hk1 : k ≤ 4194304) (ho : Src w a (cellsP (mkP k n))) :
    Calls Tryz.prog 25 #[.slice a n c, .int .i64 (k : Int)] w fun e w' => e = .returned (.int .i64 ((k + n * 2 : Nat) : Int)) ∧ Below w.heap.size w w' := by
  have HO : Hid (Src w a (cellsP (mkP k n))) := ho
  clear ho
  go_enter Tryz.func25, Tryz.ntmps25
  go_wp2_with fail
  go_loopw [1, 5] (fun kk i wr => ∃ j x : Nat, j ≤ n ∧ i = .int .i64 (j : Int) ∧ kk = .int .i64 (x : Int) ∧ x ≤ 16777216 ∧ 0 < x ∧ Hid (x = k + j * 2) ∧ Hid (Below w.heap.size w wr)) (fun _ i _ => n - (intOf i).toNat)
  case atStart => exact ⟨0, k, by omega, rfl, rfl, by omega, by omega, by show k = k + 0 * 2; omega, Below.refl _ _⟩
  case round =>
    obtain ⟨j, x, hj, rfl, rfl, hx1, hx0, hx, hb⟩ := hrel
    by_cases hlt : j < n
    · obtain ⟨B, o, p, y, rfl, p1, p2, hy⟩ := srcP (HO.out.below hb.out) (i := j) (by rw [mkP_length]; exact hlt)
      obtain ⟨rfl, rfl⟩ : p = markT x ∧ y = markT (x + 1) := by
        have := hy.out
        rw [mkP_get _ _ _ hlt, ← hx.out] at this
        simp at this
        exact ⟨this.1.symm, this.2.symm⟩
      have hj0 : (0 : Int) ≤ (j : Int) := by omega
      have hjn : (j : Int) < (n : Int) := by omega
      have hxb : Hid (x + 2 ≤ 16777216) := by show x + 2 ≤ 16777216; have := hx.out; omega
      have HB : Hid (Below w.heap.size w wr.drew) := hb.out.drew
      go_wp2_with fail
      go_region_with (go_at_call 67; refine (markText x _ hx0 (by omega)).mono ?_; rintro e w2 ⟨rfl, hb2⟩; obtain o4 := ((hb2.cell (p := ⟨B, o + j * 2, none⟩) (World.block_lt_of_cell? _ _ p1)).trans p1))
      all_goals
        have p2' : w2.cell? ⟨B, o + j * 2 + 1, none⟩ = some (.string (markT (x + 1))) := (hb2.cell (p := ⟨B, o + j * 2 + 1, none⟩) (World.block_lt_of_cell? _ _ p2)).trans p2
        have HB2 : Hid (Below w.heap.size w w2) := HB.out.trans (hb2.mono HB.out.size)
        clear p1 p2 hb2
        go_wp2_with fail
        go_region_with (go_at_call 67; rw [show ((x : Int) + 1) = ((x + 1 : Nat) : Int) from by omega]; refine (markText (x + 1) _ (by omega) (by omega)).mono ?_; rintro e w3 ⟨rfl, hb3⟩; obtain o5 := ((hb3.cell (p := ⟨B, o + j * 2 + 1, none⟩) (World.block_lt_of_cell? _ _ p2')).trans p2'))
        all_goals go_wp2_with fail
        all_goals
          exact ⟨⟨j + 1, x + 2, by omega, by go_num, by go_num, hxb.out, by omega, by show x + 2 = k + (j + 1) * 2; have := hx.out; omega, HB2.out.drew.trans (hb3.mono HB2.out.size)⟩, by simp [intOf]; omega⟩
    · have hjn : j = n := by omega
      have E : Hid ((x : Int) = ((k + n * 2 : Nat) : Int)) := by show (x : Int) = ((k + n * 2 : Nat) : Int); rw [hx.out, hjn]
      clear hjn
      go_wp2_with fail
      go_ret
      exact ⟨by show Ending.returned (.int .i64 (x : Int)) = _; rw [E.out], hb.out⟩
structure NM where
  A : Bool
  P : List PM
  L : List ByteArray
  K : List Int
abbrev nm0 : NM := ⟨false, [], [], []⟩
def ReadsN (w : World) (v : Value) (D : NM) : Prop :=
  ∃ a1 c1 a2 c2 a3 c3, v = .agg #[.bool D.A, .slice a1 D.P.length c1, .slice a2 D.L.length c2, .slice a3 D.K.length c3] ∧ Src w a1 (cellsP D.P) ∧ Src w a2 (cellsS D.L) ∧ Src w a3 (cellsI D.K)
theorem ReadsN.below {w w' : World} {v : Value} {D : NM} (h : ReadsN w v D) (hb : Below w.heap.size w w') : ReadsN w' v D := by
  obtain ⟨a1, c1, a2, c2, a3, c3, rfl, h1, h2, h3⟩ := h
  exact ⟨a1, c1, a2, c2, a3, c3, rfl, h1.below hb, h2.below hb, h3.below hb⟩
theorem ReadsN.drew {w : World} {v : Value} {D : NM} (h : ReadsN w v D) : ReadsN w.drew v D := h
def OwnsN (w : World) (lo hi : Nat) (v : Value) (D : NM) : Prop :=
  ∃ v1 v2 v3, v = .agg #[.bool D.A, v1, v2, v3] ∧ (w.ownsRow lo 109 2 v1 D.P.length (cellsP D.P) ∧ ∀ k, v1.ownBlock = some k → k < hi) ∧ (w.ownsRow lo 9 1 v2 D.L.length (cellsS D.L) ∧ ∀ k, v2.ownBlock = some k → k < hi) ∧ (w.ownsRow lo 3 1 v3 D.K.length (cellsI D.K) ∧ ∀ k, v3.ownBlock = some k → k < hi)
theorem OwnsN.mk {w : World} {lo hi : Nat} {v1 v2 v3 : Value} {A : Bool} {D : NM} (hA : D.A = A) (h1 : w.ownsRow lo 109 2 v1 D.P.length (cellsP D.P)) (h2 : w.ownsRow lo 9 1 v2 D.L.length (cellsS D.L)) (h3 : w.ownsRow lo 3 1 v3 D.K.length (cellsI D.K)) (hh : w.heap.size ≤ hi) : OwnsN w lo hi (.agg #[.bool A, v1, v2, v3]) D :=
  ⟨v1, v2, v3, by rw [hA], ⟨h1, fun k e => by have := (h1.lt k e).2; omega⟩, ⟨h2, fun k e => by have := (h2.lt k e).2; omega⟩, h3, fun k e => by have := (h3.lt k e).2; omega⟩
theorem OwnsN.reads {w : World} {lo hi : Nat} {v : Value} {D : NM} (h : OwnsN w lo hi v D) : ReadsN w v D := by
  obtain ⟨v1, v2, v3, rfl, ⟨h1, _⟩, ⟨h2, _⟩, h3, _⟩ := h
  obtain ⟨a1, c1, rfl, s1, _⟩ := own_src h1
  obtain ⟨a2, c2, rfl, s2, _⟩ := own_src h2
  obtain ⟨a3, c3, rfl, s3, _⟩ := own_src h3
  exact ⟨a1, c1, a2, c2, a3, c3, rfl, s1, s2, s3⟩
theorem OwnsN.below {w w' : World} {lo hi : Nat} {v : Value} {D : NM} (h : OwnsN w lo hi v D) (hb : Below w.heap.size w w') : OwnsN w' lo hi v D := by
  obtain ⟨v1, v2, v3, rfl, ⟨h1, k1⟩, ⟨h2, k2⟩, h3, k3⟩ := h
  exact ⟨v1, v2, v3, rfl, ⟨own_below h1 hb, k1⟩, ⟨own_below h2 hb, k2⟩, own_below h3 hb, k3⟩
theorem OwnsN.turned {w w' : World} {lo hi lo' hi' : Nat} {v : Value} {D : NM} (h : OwnsN w lo hi v D) (ht : Turned lo' hi' w w') (hd : hi ≤ lo' ∨ hi' ≤ lo) : OwnsN w' lo hi v D := by
  obtain ⟨v1, v2, v3, rfl, ⟨h1, k1⟩, ⟨h2, k2⟩, h3, k3⟩ := h
  exact ⟨v1, v2, v3, rfl, ⟨own_turned h1 ht k1 hd, k1⟩, ⟨own_turned h2 ht k2 hd, k2⟩, own_turned h3 ht k3 hd, k3⟩
theorem OwnsN.mono {w : World} {lo hi lo' hi' : Nat} {v : Value} {D : NM} (h : OwnsN w lo hi v D) (hl : lo' ≤ lo) (hh : hi ≤ hi') : OwnsN w lo' hi' v D := by
  obtain ⟨v1, v2, v3, rfl, ⟨h1, k1⟩, ⟨h2, k2⟩, h3, k3⟩ := h
  exact ⟨v1, v2, v3, rfl, ⟨own_mono h1 hl, fun k e => Nat.lt_of_lt_of_le (k1 k e) hh⟩, ⟨own_mono h2 hl, fun k e => Nat.lt_of_lt_of_le (k2 k e) hh⟩, own_mono h3 hl, fun k e => Nat.lt_of_lt_of_le (k3 k e) hh⟩
theorem OwnsN.lit {w : World} {lo hi : Nat} {v : Value} {D : NM} (h : OwnsN w lo hi v D) : ∃ a1 c1 a2 c2 a3 c3, v = .agg #[.bool D.A, .slice a1 D.P.length c1, .slice a2 D.L.length c2, .slice a3 D.K.length c3] := by
  obtain ⟨a1, c1, a2, c2, a3, c3, e, _⟩ := h.reads
  exact ⟨a1, c1, a2, c2, a3, c3, e⟩
def wtN (D : NM) : Nat := D.P.length + D.L.length + D.K.length
def smallN (D : NM) : Prop := wtN D ≤ 1048576 ∧ (∀ x ∈ D.P, x.1.size ≤ 1048576 ∧ x.2.size ≤ 1048576) ∧ (∀ x ∈ D.L, x.size ≤ 1048576)
def maxN (D : NM) : Prop := D.P.length ≤ maxLen ∧ (∀ x ∈ D.P, x.1.size ≤ maxLen ∧ x.2.size ≤ maxLen) ∧ D.L.length ≤ maxLen ∧ (∀ x ∈ D.L, x.size ≤ maxLen) ∧ D.K.length ≤ maxLen
set_option maxHeartbeats 1000000 in
theorem toNode (v : Value) (D : NM) (w : World) (hs : smallN D) (h : ReadsN w v D) :
    Calls Tryz.prog 126 #[v] w fun e w' => ∃ v', e = .returned v' ∧ OwnsN w' w.heap.size w'.heap.size v' D ∧ Below w.heap.size w w' := by
  obtain ⟨a1, c1, a2, c2, a3, c3, rfl, s1, s2, s3⟩ := h
  obtain ⟨n1, hn1⟩ : ∃ n, D.P.length = n := ⟨_, rfl⟩
  obtain ⟨n2, hn2⟩ : ∃ n, D.L.length = n := ⟨_, rfl⟩
  obtain ⟨n3, hn3⟩ : ∃ n, D.K.length = n := ⟨_, rfl⟩
  obtain ⟨A, hA⟩ : ∃ A, D.A = A := ⟨_, rfl⟩
  have HS : Hid (n1 ≤ 1048576 ∧ n2 ≤ 1048576 ∧ n3 ≤ 1048576) := by
    have h1 := hs.1
    unfold wtN at h1
    exact ⟨by omega, by omega, by omega⟩
  have S1 : Hid (Src w a1 (cellsP D.P)) := s1
  have S2 : Hid (Src w a2 (cellsS D.L)) := s2
  have S3 : Hid (Src w a3 (cellsI D.K)) := s3
  rw [hn1, hn2, hn3, hA]
  have N1 : Hid (D.P.length = n1) := hn1
  have N2 : Hid (D.L.length = n2) := hn2
  have N3 : Hid (D.K.length = n3) := hn3
  have NA : Hid (D.A = A) := hA
  clear hs s1 s2 s3 hn1 hn2 hn3 hA
  go_enter Tryz.func126, Tryz.ntmps126
  go_wp2_with fail
  refine (toPairS a1 n1 c1 D.P _ N1.out HS.out.1 (S1.out.below ((((Below.refl _ _).alloc (Nat.le_refl _) _).alloc (by simp) _).alloc (by simp; omega) _))).mono ?_
  rintro e w1 ⟨v1, rfl, o1, hb1⟩
  obtain ⟨b1, d1, rfl, _, _⟩ := own_src o1
  have B1 : Hid (Below w.heap.size w w1) := ((((Below.refl _ _).alloc (Nat.le_refl _) _).alloc (by simp) _).alloc (by simp; omega) _).trans (hb1.mono (by simp; omega))
  have HA : Hid (Box w1 w.heap.size [.bool A, .slice a1 n1 c1, .slice a2 n2 c2, .slice a3 n3 c3]) := Box.below (((Box.new rfl).old _).old _) hb1
  have HR : Hid (Box w1 (w.heap.size + 1) [.bool false, .slice none 0 0, .slice none 0 0, .slice none 0 0]) := Box.below ((Box.new (by simp)).old _) hb1
  have HO : Hid (Box w1 (w.heap.size + 1 + 1) [.bool A, .slice none 0 0, .slice none 0 0, .slice none 0 0]) := Box.below (Box.new (by simp)) hb1
  have O1 : Hid (w1.ownsRow (w.heap.size + 3) 109 2 (.slice b1 n1 d1) n1 (cellsP D.P)) := own_mono o1 (by simp)
  clear o1 hb1
  obtain ⟨p2, _⟩ := HA.out 2 _ rfl
  obtain ⟨q1', q1f⟩ := HO.out 1 _ rfl
  go_wp2_with fail
  refine (toStringS a2 n2 c2 D.L _ N2.out HS.out.2.1 (S2.out.below (Below.setCell (p := ⟨w.heap.size + 1 + 1, 1, none⟩) B1.out (by show _ ≤ w.heap.size + 1 + 1; omega) _))).mono ?_
  rintro e w2 ⟨v2, rfl, o2, hb2⟩
  obtain ⟨b2, d2, rfl, _, _⟩ := own_src o2
  have B2 : Hid (Below w.heap.size w w2) := (Below.setCell (p := ⟨w.heap.size + 1 + 1, 1, none⟩) B1.out (by show _ ≤ w.heap.size + 1 + 1; omega) _).trans (hb2.mono (by simp; exact B1.out.size))
  have HA2 : Hid (Box w2 w.heap.size [.bool A, .slice a1 n1 c1, .slice a2 n2 c2, .slice a3 n3 c3]) := (HA.out.other _ (by dsimp only; omega) _).below hb2
  have HR2 : Hid (Box w2 (w.heap.size + 1) [.bool false, .slice none 0 0, .slice none 0 0, .slice none 0 0]) := (HR.out.other _ (by dsimp only; omega) _).below hb2
  have HO2 : Hid (Box w2 (w.heap.size + 1 + 1) [.bool A, .slice b1 n1 d1, .slice none 0 0, .slice none 0 0]) := (HO.out.set 1 (.slice b1 n1 d1)).below hb2
  have O12 : Hid (w2.ownsRow (w.heap.size + 3) 109 2 (.slice b1 n1 d1) n1 (cellsP D.P)) := own_below (own_setLow O1.out (by dsimp only; omega) _) hb2
  have X1 : Hid (w.heap.size + 3 ≤ w1.heap.size) := World.block_lt_of_cell? _ _ (HO.out 0 _ rfl).1
  have O22 : Hid (w2.ownsRow (w.heap.size + 3) 9 1 (.slice b2 n2 d2) n2 (cellsS D.L)) := own_mono o2 (by simp; exact X1.out)
  clear O1 HA HR HO B1 o2 hb2 p2 q1' q1f
  obtain ⟨p3, _⟩ := HA2.out 3 _ rfl
  obtain ⟨q2', q2f⟩ := HO2.out 2 _ rfl
  have p3' : (w2.setCell ⟨w.heap.size + 1 + 1, 2, none⟩ (.slice b2 n2 d2)).cell? ⟨w.heap.size, 3, none⟩ = some (.slice a3 n3 c3) := ((HA2.out.other _ (by dsimp only; omega) _) 3 _ rfl).1
  go_wp2_with fail
  have B2' : Hid (Below w.heap.size w (w2.setCell ⟨w.heap.size + 1 + 1, 2, none⟩ (.slice b2 n2 d2))) := Below.setCell (p := ⟨w.heap.size + 1 + 1, 2, none⟩) B2.out (by show _ ≤ w.heap.size + 1 + 1; omega) _
  refine (toIntS a3 n3 c3 D.K _ N3.out HS.out.2.2 (S3.out.below B2'.out)).mono ?_
  rintro e w3 ⟨v3, rfl, o3, hb3⟩
  obtain ⟨b3, d3, rfl, _, _⟩ := own_src o3
  have B3 : Hid (Below w.heap.size w w3) := B2'.out.trans (hb3.mono B2'.out.size)
  have HR3 : Hid (Box w3 (w.heap.size + 1) [.bool false, .slice none 0 0, .slice none 0 0, .slice none 0 0]) := (HR2.out.other _ (by dsimp only; omega) _).below hb3
  have HO3 : Hid (Box w3 (w.heap.size + 1 + 1) [.bool A, .slice b1 n1 d1, .slice b2 n2 d2, .slice none 0 0]) := (HO2.out.set 2 (.slice b2 n2 d2)).below hb3
  have O13 : Hid (w3.ownsRow (w.heap.size + 3) 109 2 (.slice b1 n1 d1) n1 (cellsP D.P)) := own_below (own_setLow O12.out (by dsimp only; omega) _) hb3
  have O23 : Hid (w3.ownsRow (w.heap.size + 3) 9 1 (.slice b2 n2 d2) n2 (cellsS D.L)) := own_below (own_setLow O22.out (by dsimp only; omega) _) hb3
  have X2 : Hid (w.heap.size + 3 ≤ w2.heap.size) := World.block_lt_of_cell? _ _ (HO2.out 0 _ rfl).1
  have O33 : Hid (w3.ownsRow (w.heap.size + 3) 3 1 (.slice b3 n3 d3) n3 (cellsI D.K)) := own_mono o3 (by simp; exact X2.out)
  clear O12 O22 HA2 HR2 HO2 B2 B2' o3 hb3 p3 p3' q2' q2f
  obtain ⟨q3', q3f⟩ := HO3.out 3 _ rfl
  have HO4 : Hid (Box (w3.setCell ⟨w.heap.size + 1 + 1, 3, none⟩ (.slice b3 n3 d3)) (w.heap.size + 1 + 1) [.bool A, .slice b1 n1 d1, .slice b2 n2 d2, .slice b3 n3 d3]) := HO3.out.set 3 _
  have HR4 : Hid (Box (w3.setCell ⟨w.heap.size + 1 + 1, 3, none⟩ (.slice b3 n3 d3)) (w.heap.size + 1) [.bool false, .slice none 0 0, .slice none 0 0, .slice none 0 0]) := HR3.out.other _ (by dsimp only; omega) _
  obtain ⟨f0, _⟩ := HO4.out 0 _ rfl
  obtain ⟨f1, _⟩ := HO4.out 1 _ rfl
  obtain ⟨f2, _⟩ := HO4.out 2 _ rfl
  obtain ⟨f3, _⟩ := HO4.out 3 _ rfl
  obtain ⟨⟨g0, h0⟩, ⟨g1, h1⟩, ⟨g2, h2⟩, ⟨g3, h3⟩, r0, r1, r2, r3⟩ := HR4.out.w4in (.bool A) (.slice b1 n1 d1) (.slice b2 n2 d2) (.slice b3 n3 d3)
  go_wp2_with fail
  refine bodyPost_ret (v := .agg #[.bool A, .slice b1 n1 d1, .slice b2 n2 d2, .slice b3 n3 d3]) (by simp [results, Tryz.results126, go_sem, r0, r1, r2, r3]) rfl ⟨_, rfl, ?_, ?_⟩
  · refine OwnsN.mk NA.out ?_ ?_ ?_ (Nat.le_refl _)
    · rw [N1.out]
      exact own_mono (own_setLow (own_setLow (own_setLow (own_setLow (own_setLow O13.out (by dsimp only; omega) _) (by dsimp only; omega) _) (by dsimp only; omega) _) (by dsimp only; omega) _) (by dsimp only; omega) _) (by omega)
    · rw [N2.out]
      exact own_mono (own_setLow (own_setLow (own_setLow (own_setLow (own_setLow O23.out (by dsimp only; omega) _) (by dsimp only; omega) _) (by dsimp only; omega) _) (by dsimp only; omega) _) (by dsimp only; omega) _) (by omega)
    · rw [N3.out]
      exact own_mono (own_setLow (own_setLow (own_setLow (own_setLow (own_setLow O33.out (by dsimp only; omega) _) (by dsimp only; omega) _) (by dsimp only; omega) _) (by dsimp only; omega) _) (by dsimp only; omega) _) (by omega)
  · exact Below.setCell (Below.setCell (Below.setCell (Below.setCell (Below.setCell B3.out (by dsimp only; omega) _) (by dsimp only; omega) _) (by dsimp only; omega) _) (by dsimp only; omega) _) (by dsimp only; omega) _
set_option maxHeartbeats 1000000 in
theorem szNode (v : Value) (D : NM) (l : Int) (w : World) (hl0 : 0 ≤ l) (hl1 : l ≤ 1048576) (hm : maxN D) (h : ReadsN w v D) :
    Calls Tryz.prog 118 #[v, .int .i64 l] w fun e w' => ∃ r : Int, e = .returned (.int .i64 r) ∧ r ≤ l ∧ (0 ≤ r → r + wtN D ≤ l ∧ smallN D) ∧ Below w.heap.size w w' := by
  obtain ⟨a1, c1, a2, c2, a3, c3, rfl, s1, s2, s3⟩ := h
  have HM : Hid (maxN D) := hm
  have S1 : Hid (Src w a1 (cellsP D.P)) := s1
  have S2 : Hid (Src w a2 (cellsS D.L)) := s2
  obtain ⟨n1, hn1⟩ : ∃ n, D.P.length = n := ⟨_, rfl⟩
  obtain ⟨n2, hn2⟩ : ∃ n, D.L.length = n := ⟨_, rfl⟩
  obtain ⟨n3, hn3⟩ : ∃ n, D.K.length = n := ⟨_, rfl⟩
  obtain ⟨A, hA⟩ : ∃ A, D.A = A := ⟨_, rfl⟩
  rw [hn1, hn2, hn3, hA]
  have N1 : Hid (D.P.length = n1) := hn1
  have N2 : Hid (D.L.length = n2) := hn2
  have N3 : Hid (D.K.length = n3) := hn3
  clear hm s1 s2 s3 hn1 hn2 hn3 hA
  go_enter Tryz.func118, Tryz.ntmps118
  go_wp2_with fail
  refine (szPairS a1 n1 c1 D.P l _ N1.out (by rw [← N1.out]; exact HM.out.1) HM.out.2.1 (by omega) (by omega) (S1.out.below ((Below.refl _ _).alloc (Nat.le_refl _) _))).mono ?_
  rintro e w1 ⟨r1, rfl, hl1', hr1, hb1⟩
  have B1 : Hid (Below w.heap.size w w1) := ((Below.refl _ _).alloc (Nat.le_refl _) _).trans (hb1.mono (by simp))
  have HA : Hid (Box w1 w.heap.size [.bool A, .slice a1 n1 c1, .slice a2 n2 c2, .slice a3 n3 c3]) := Box.below (Box.new rfl) hb1
  have HR1 : Hid (0 ≤ r1 → r1 + n1 ≤ l ∧ n1 ≤ 1048576 ∧ ∀ x ∈ D.P, x.1.size ≤ 1048576 ∧ x.2.size ≤ 1048576) := hr1
  clear hb1 hr1
  by_cases hneg1 : r1 < 0
  · go_wp2_with fail
    go_ret
    exact ⟨-1, rfl, by omega, fun h => absurd h (by omega), B1.out⟩
  obtain ⟨p2, _⟩ := HA.out 2 _ rfl
  go_wp2_with fail
  refine (szStringS a2 n2 c2 D.L r1 _ N2.out (by rw [← N2.out]; exact HM.out.2.2.1) HM.out.2.2.2.1 (by omega) (by omega) (S2.out.below B1.out)).mono ?_
  rintro e w2 ⟨r2, rfl, hl2, hr2, hb2⟩
  have B2 : Hid (Below w.heap.size w w2) := B1.out.trans (hb2.mono B1.out.size)
  have HA2 : Hid (Box w2 w.heap.size [.bool A, .slice a1 n1 c1, .slice a2 n2 c2, .slice a3 n3 c3]) := HA.out.below hb2
  have HR2 : Hid (0 ≤ r2 → r2 + n2 ≤ r1 ∧ n2 ≤ 1048576 ∧ ∀ x ∈ D.L, x.size ≤ 1048576) := hr2
  clear hb2 hr2 HA p2
  by_cases hneg2 : r2 < 0
  · go_wp2_with fail
    go_ret
    exact ⟨-1, rfl, by omega, fun h => absurd h (by omega), B2.out⟩
  obtain ⟨p3, _⟩ := HA2.out 3 _ rfl
  go_wp2_with fail
  refine (szIntS a3 n3 c3 r2 _ (by rw [← N3.out]; exact HM.out.2.2.2.2) (by omega) (by omega)).mono ?_
  rintro e w3 ⟨r3, rfl, hl3, hr3, hb3⟩
  have B3 : Hid (Below w.heap.size w w3) := B2.out.trans (hb3.mono B2.out.size)
  have HR3 : Hid (0 ≤ r3 → r3 + n3 ≤ r2 ∧ n3 ≤ 1048576) := hr3
  clear hb3 hr3 p3
  by_cases hneg3 : r3 < 0
  · go_wp2_with fail
    go_ret
    exact ⟨-1, rfl, by omega, fun h => absurd h (by omega), B3.out⟩
  have HF : Hid (r3 + wtN D ≤ l ∧ smallN D) := by
    obtain ⟨x0, x1, x2⟩ := HR1.out (by omega)
    obtain ⟨y0, x3, x4⟩ := HR2.out (by omega)
    obtain ⟨z0, x5⟩ := HR3.out (by omega)
    unfold smallN wtN
    rw [N1.out, N2.out, N3.out]
    exact ⟨by omega, by omega, x2, x4⟩
  go_wp2_with fail
  go_ret
  exact ⟨r3, rfl, by omega, fun _ => HF.out, B3.out⟩
set_option maxHeartbeats 1000000 in
theorem eqNode (v v' : Value) (D : NM) (w : World) (hs : wtN D ≤ 9000000000000000000) (h : ReadsN w v D) (h' : ReadsN w v' D) :
    Calls Tryz.prog 131 #[v, v'] w fun e w' => e = .returned (.bool true) ∧ Below w.heap.size w w' := by
  obtain ⟨a1, c1, a2, c2, a3, c3, rfl, s1, s2, s3⟩ := h
  obtain ⟨b1, d1, b2, d2, b3, d3, rfl, t1, t2, t3⟩ := h'
  have HS : Hid (wtN D ≤ 9000000000000000000) := hs
  have S1 : Hid (Src w a1 (cellsP D.P) ∧ Src w b1 (cellsP D.P)) := ⟨s1, t1⟩
  have S2 : Hid (Src w a2 (cellsS D.L) ∧ Src w b2 (cellsS D.L)) := ⟨s2, t2⟩
  have S3 : Hid (Src w a3 (cellsI D.K) ∧ Src w b3 (cellsI D.K)) := ⟨s3, t3⟩
  obtain ⟨n1, hn1⟩ : ∃ n, D.P.length = n := ⟨_, rfl⟩
  obtain ⟨n2, hn2⟩ : ∃ n, D.L.length = n := ⟨_, rfl⟩
  obtain ⟨n3, hn3⟩ : ∃ n, D.K.length = n := ⟨_, rfl⟩
  obtain ⟨A, hA⟩ : ∃ A, D.A = A := ⟨_, rfl⟩
  rw [hn1, hn2, hn3, hA]
  have N1 : Hid (D.P.length = n1) := hn1
  have N2 : Hid (D.L.length = n2) := hn2
  have N3 : Hid (D.K.length = n3) := hn3
  have NS : Hid (n1 ≤ 9000000000000000000 ∧ n2 ≤ 9000000000000000000 ∧ n3 ≤ 9000000000000000000) := by
    have h1 := HS.out
    unfold wtN at h1
    rw [hn1, hn2, hn3] at h1
    exact ⟨by omega, by omega, by omega⟩
  have hAA : (A != A) = false := by simp
  clear hs s1 s2 s3 hn1 hn2 hn3 hA t1 t2 t3
  go_enter Tryz.func131, Tryz.ntmps131
  go_wp2_with fail
  refine (eqPairS a1 b1 n1 c1 d1 D.P _ N1.out NS.out.1 (S1.out.1.below (((Below.refl _ _).alloc (Nat.le_refl _) _).alloc (by simp) _)) (S1.out.2.below (((Below.refl _ _).alloc (Nat.le_refl _) _).alloc (by simp) _))).mono ?_
  rintro e w1 ⟨rfl, hb1⟩
  have B1 : Hid (Below w.heap.size w w1) := (((Below.refl _ _).alloc (Nat.le_refl _) _).alloc (by simp) _).trans (hb1.mono (by simp; omega))
  have HA : Hid (Box w1 w.heap.size [.bool A, .slice a1 n1 c1, .slice a2 n2 c2, .slice a3 n3 c3]) := Box.below ((Box.new rfl).old _) hb1
  have HB : Hid (Box w1 (w.heap.size + 1) [.bool A, .slice b1 n1 d1, .slice b2 n2 d2, .slice b3 n3 d3]) := Box.below (Box.new (by simp)) hb1
  clear hb1
  obtain ⟨p2, _⟩ := HA.out 2 _ rfl
  obtain ⟨q2, _⟩ := HB.out 2 _ rfl
  go_wp2_with fail
  refine (eqStringS a2 b2 n2 c2 d2 D.L _ N2.out NS.out.2.1 (S2.out.1.below B1.out) (S2.out.2.below B1.out)).mono ?_
  rintro e w2 ⟨rfl, hb2⟩
  have B2 : Hid (Below w.heap.size w w2) := B1.out.trans (hb2.mono B1.out.size)
  have HA2 : Hid (Box w2 w.heap.size [.bool A, .slice a1 n1 c1, .slice a2 n2 c2, .slice a3 n3 c3]) := HA.out.below hb2
  have HB2 : Hid (Box w2 (w.heap.size + 1) [.bool A, .slice b1 n1 d1, .slice b2 n2 d2, .slice b3 n3 d3]) := HB.out.below hb2
  clear hb2 HA HB B1 p2 q2
  obtain ⟨p3, _⟩ := HA2.out 3 _ rfl
  obtain ⟨q3, _⟩ := HB2.out 3 _ rfl
  go_wp2_with fail
  refine (eqIntS a3 b3 n3 c3 d3 D.K _ N3.out NS.out.2.2 (S3.out.1.below B2.out) (S3.out.2.below B2.out)).mono ?_
  rintro e w3 ⟨rfl, hb3⟩
  have B3 : Hid (Below w.heap.size w w3) := B2.out.trans (hb3.mono B2.out.size)
  clear hb3 p3 q3
  go_wp2_with fail
  go_ret
  exact ⟨rfl, B3.out⟩
end Go.Proofs.YtnnimocaanofjaaGreatDoor
