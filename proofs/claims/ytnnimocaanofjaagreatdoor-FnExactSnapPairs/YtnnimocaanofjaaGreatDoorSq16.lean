/-
  Texts of the store, brought together: Snaps, Supers, Names. By an AI agent.
-/
import Derived.Test.YtnnimocaanofjaaGreatDoorSq06
namespace Go.Proofs.YtnnimocaanofjaaGreatDoor
open Go.ChangeShapes Go.WideShapes Go.ChangeAt Go.RowKit Go.Deep
set_option linter.unusedVariables false
set_option linter.unusedSimpArgs false
set_option maxRecDepth 100000
abbrev SN := ByteArray × Int × Int
abbrev sn0 : SN := (⟨#[]⟩, 0, 0)
def cellsSn (L : List SN) : List Value := L.flatMap fun p => [.string p.1, .int .i64 p.2.1, .int .i64 p.2.2]
theorem cellsSn_length (L : List SN) : (cellsSn L).length = L.length * 3 := by
  induction L with
  | nil => rfl
  | cons p L ih => simp [cellsSn] at ih ⊢; omega
theorem cellsSn_append (L M : List SN) : cellsSn (L ++ M) = cellsSn L ++ cellsSn M := by simp [cellsSn]
theorem cellsSn_get : ∀ (L : List SN) (i : Nat), i < L.length → (cellsSn L)[i * 3]? = some (.string (L.getD i sn0).1) ∧ (cellsSn L)[i * 3 + 1]? = some (.int .i64 (L.getD i sn0).2.1) ∧ (cellsSn L)[i * 3 + 2]? = some (.int .i64 (L.getD i sn0).2.2)
  | [], i, h => absurd h (by simp)
  | p :: L, 0, _ => ⟨rfl, rfl, rfl⟩
  | p :: L, i + 1, h => by
    have ih := cellsSn_get L i (by simpa using h)
    have e1 : (i + 1) * 3 = i * 3 + 1 + 1 + 1 := by omega
    have e2 : cellsSn (p :: L) = .string p.1 :: .int .i64 p.2.1 :: .int .i64 p.2.2 :: cellsSn L := rfl
    rw [e2, e1]
    exact ih
theorem cellsSn_one (L : List SN) : ∀ u ∈ cellsSn L, u.oneCell' = true := by
  intro u hu
  simp only [cellsSn, List.mem_flatMap] at hu
  obtain ⟨p, _, hp⟩ := hu
  simp at hp
  rcases hp with rfl | rfl | rfl <;> rfl
theorem srcSn {w : World} {a : Option Addr} {L : List SN} (h : Src w a (cellsSn L)) {i : Nat} (hi : i < L.length) : ∃ b o x y z, a = some ⟨b, o, none⟩ ∧ w.cell? ⟨b, o + i * 3, none⟩ = some (.string x) ∧ w.cell? ⟨b, o + i * 3 + 1, none⟩ = some (.int .i64 y) ∧ w.cell? ⟨b, o + i * 3 + 2, none⟩ = some (.int .i64 z) ∧ Hid (L.getD i sn0 = (x, y, z)) := by
  rcases h with h | ⟨b, o, rfl, hc⟩
  · have h2 := cellsSn_length L
    rw [h] at h2
    simp only [List.length_nil] at h2
    omega
  · have h1 := hc (i * 3) (by rw [cellsSn_length]; omega)
    have h2 := hc (i * 3 + 1) (by rw [cellsSn_length]; omega)
    have h3 := hc (i * 3 + 2) (by rw [cellsSn_length]; omega)
    rw [getD_some (cellsSn_get L i hi).1] at h1
    rw [getD_some (cellsSn_get L i hi).2.1] at h2
    rw [getD_some (cellsSn_get L i hi).2.2] at h3
    exact ⟨b, o, _, _, _, rfl, h1, h2, h3, rfl⟩
def mkSn (k n : Nat) : List SN := (List.range n).map fun i => (markT (k + i * 3), ((k + i * 3 + 1 : Nat) : Int), ((k + i * 3 + 2 : Nat) : Int))
theorem mkSn_length (k n : Nat) : (mkSn k n).length = n := by simp [mkSn]
theorem mkSn_get (k n i : Nat) (h : i < n) : (mkSn k n).getD i sn0 = (markT (k + i * 3), ((k + i * 3 + 1 : Nat) : Int), ((k + i * 3 + 2 : Nat) : Int)) := by
  rw [List.getD_eq_getElem?_getD]; simp [mkSn, h]
theorem infoSn : (Tryz.prog.info? 122).map (fun i => (i.zero, i.size, i.bytes)) = some (some (.agg #[.string ⟨#[]⟩, .int .i64 0, .int .i64 0]), 3, 32) := by kernel_rfl
theorem run_make_Sn (n : Nat) (hn : n ≤ 1048576) (w : World) : (Instr.makeSlice 40 (.int .i64 (n : Int)) (.int .i64 (n : Int))).run Tryz.prog w = .ok (.slice (some ⟨w.heap.size, 0, none⟩) n n) (w.alloc (.cells (madeCells #[.string ⟨#[]⟩, .int .i64 0, .int .i64 0] (n * 3)) 122)) :=
  run_make_rows 40 122 (.agg #[.string ⟨#[]⟩, .int .i64 0, .int .i64 0]) 3 32 n Tryz.underlying40 infoSn (by omega) hn w
set_option maxHeartbeats 400000 in
theorem toSnap (x : ByteArray) (y z : Int) (w : World) : Calls Tryz.prog 125 #[.agg #[.string x, .int .i64 y, .int .i64 z]] w fun e w' => e = .returned (.agg #[.string x, .int .i64 y, .int .i64 z]) ∧ Below w.heap.size w w' := by
  go_enter Tryz.func125, Tryz.ntmps125
  go_wp2
  exact bodyPost_ret (v := .agg #[.string x, .int .i64 y, .int .i64 z]) (by simp [results, Tryz.results125, go_sem]) rfl ⟨rfl, (((Below.refl _ _).alloc (Nat.le_refl _) _).alloc (by simp) _).alloc (by simp; omega) _⟩
set_option maxHeartbeats 400000 in
theorem szSnap (x : ByteArray) (y z : Int) (l : Int) (w : World) (hx : x.size ≤ maxLen) (h0 : 0 ≤ l) (h1 : l ≤ 1048576) : Calls Tryz.prog 117 #[.agg #[.string x, .int .i64 y, .int .i64 z], .int .i64 l] w fun e w' => ∃ r : Int, e = .returned (.int .i64 r) ∧ r ≤ l ∧ (0 ≤ r → r = l - x.size) ∧ Below w.heap.size w w' := by
  unfold maxLen at hx
  go_enter Tryz.func117, Tryz.ntmps117
  go_wp2
  all_goals
    go_ret
    refine ⟨_, rfl, ?_, ?_, (Below.refl _ _).alloc (Nat.le_refl _) _⟩
    all_goals omega
set_option maxHeartbeats 400000 in
theorem eqSnap (x : ByteArray) (y z : Int) (w : World) : Calls Tryz.prog 130 #[.agg #[.string x, .int .i64 y, .int .i64 z], .agg #[.string x, .int .i64 y, .int .i64 z]] w fun e w' => e = .returned (.bool true) ∧ Below w.heap.size w w' := by
  have hy : (y != y) = false := by simp
  have hz : (z != z) = false := by simp
  go_enter Tryz.func130, Tryz.ntmps130
  go_wp2
  go_ret
  exact ⟨rfl, ((Below.refl _ _).alloc (Nat.le_refl _) _).alloc (by simp) _⟩
set_option maxHeartbeats 400000 in
theorem toSnapS (a : Option Addr) (n c : Nat) (L : List SN) (w : World) (hL : L.length = n) (hn : n ≤ 1048576) (h : Src w a (cellsSn L)) :
    Calls Tryz.prog 88 #[.slice a n c] w fun e w' => ∃ v, e = .returned v ∧ w'.ownsRow w.heap.size 122 3 v n (cellsSn L) ∧ Below w.heap.size w w' := by
  have hmk := run_make_Sn n hn
  have HH : Hid (Src w a (cellsSn L)) := h
  have HL : Hid ((cellsSn L).length = n * 3) := by show (cellsSn L).length = n * 3; rw [cellsSn_length, hL]
  have HL2 : Hid (L.length = n) := hL
  clear h hL
  go_enter Tryz.func88, Tryz.ntmps88
  go_wp2_with fail
  clear hmk
  obtain ⟨zs, hz, ho⟩ := rows_made w #[.string ⟨#[]⟩, .int .i64 0, .int .i64 0] n 3 122 rfl (by omega) (by unfold maxLen; omega)
  have HZ : Hid (zs.length = n * 3) := hz
  have HO : Hid (World.ownsRow (w.alloc (.cells (madeCells #[.string ⟨#[]⟩, .int .i64 0, .int .i64 0] (n * 3)) 122)) w.heap.size 122 3 (.slice (some ⟨w.heap.size, 0, none⟩) n n) n zs) := ho
  clear hz ho
  go_loopw [4] (fun i wr => ∃ k : Nat, k ≤ n ∧ i = .int .i64 k ∧ Hid (Below w.heap.size w wr) ∧ Hid (wr.ownsRow w.heap.size 122 3 (.slice (some ⟨w.heap.size, 0, none⟩) n n) n ((cellsSn L).take (k * 3) ++ zs.drop (k * 3)))) (fun i _ => n - (intOf i).toNat)
  case atStart => exact ⟨0, by omega, rfl, (Below.refl _ _).alloc (Nat.le_refl _) _, by simpa [Hid] using HO.out⟩
  case round =>
    obtain ⟨k, hk, rfl, hb, ho⟩ := hrel
    by_cases hlt : k < n
    · have hkL : k < L.length := by rw [HL2.out]; exact hlt
      obtain ⟨b, o, x, y, z, rfl, hc1, hc2, hc3, hy⟩ := srcSn (HH.out.below hb.out) hkL
      have HK : Hid (k < L.length) := hkL
      clear hkL
      go_wp2_with fail
      refine (toSnap x y z _).mono ?_
      rintro e w1 ⟨rfl, hb1⟩
      have HB : Hid (Below w.heap.size w w1) := hb.out.trans (hb1.mono hb.out.size)
      have HO1 : Hid (w1.ownsRow w.heap.size 122 3 (.slice (some ⟨w.heap.size, 0, none⟩) n n) n ((cellsSn L).take (k * 3) ++ zs.drop (k * 3))) := own_below ho.out hb1
      clear hb hb1 ho hc1 hc2 hc3
      have hl1 : Hid (((cellsSn L).take (k * 3) ++ zs.drop (k * 3)).length = n * 3) := by
        show _ = _; rw [fill_length _ _ _ (HZ.out.trans HL.out.symm), HL.out]
      obtain ⟨z1, o1, o2⟩ := own_cellX HO1.out (i := k * 3) (by rw [hl1.out]; omega)
      obtain ⟨z2, o3, o4⟩ := own_cellX HO1.out (i := k * 3 + 1) (by rw [hl1.out]; omega)
      obtain ⟨z3, o5, o6⟩ := own_cellX HO1.out (i := k * 3 + 2) (by rw [hl1.out]; omega)
      have o3' : (w1.setCell ⟨w.heap.size, k * 3, none⟩ (.string x)).cell? ⟨w.heap.size, k * 3 + 1, none⟩ = some z2 := by
        rw [World.cell?_setCell_other _ _ _ _ (offs_ne (by omega))]; exact o3
      have o5' : ((w1.setCell ⟨w.heap.size, k * 3, none⟩ (.string x)).setCell ⟨w.heap.size, k * 3 + 1, none⟩ (.int .i64 y)).cell? ⟨w.heap.size, k * 3 + 2, none⟩ = some z3 := by
        rw [World.cell?_setCell_other _ _ _ _ (offs_ne (by omega)), World.cell?_setCell_other _ _ _ _ (offs_ne (by omega))]; exact o5
      go_wp2_with fail
      refine ⟨⟨k + 1, by omega, by go_num, ((HB.out.setCell (Nat.le_refl _) _).setCell (Nat.le_refl _) _).setCell (Nat.le_refl _) _, ?_⟩, by simp [intOf]; omega⟩
      have e1 := fill_set (cellsSn L) zs (k * 3) (.string x) (by rw [HZ.out]; omega) (by rw [(cellsSn_get L k HK.out).1, hy.out])
      have e2 := fill_set (cellsSn L) zs (k * 3 + 1) (.int .i64 y) (by rw [HZ.out]; omega) (by rw [(cellsSn_get L k HK.out).2.1, hy.out])
      have e3 := fill_set (cellsSn L) zs (k * 3 + 2) (.int .i64 z) (by rw [HZ.out]; omega) (by rw [(cellsSn_get L k HK.out).2.2, hy.out])
      have s1 := own_set HO1.out (k * 3) (by rw [hl1.out]; omega) (.string x)
      rw [e1] at s1
      have s2 := own_set s1 (k * 3 + 1) (by rw [fill_length _ _ _ (HZ.out.trans HL.out.symm), HL.out]; omega) (.int .i64 y)
      rw [e2] at s2
      have s3 := own_set s2 (k * 3 + 2) (by rw [fill_length _ _ _ (HZ.out.trans HL.out.symm), HL.out]; omega) (.int .i64 z)
      rw [e3] at s3
      rw [show (k + 1) * 3 = k * 3 + 2 + 1 from by omega]
      exact s3
    · have hkn : k = n := by omega
      have HF : Hid (wr.ownsRow w.heap.size 122 3 (.slice (some ⟨w.heap.size, 0, none⟩) n n) n (cellsSn L)) := own_congr ho.out (by rw [hkn]; exact fill_all HL.out HZ.out)
      clear hkn
      go_wp2_with fail
      go_ret
      exact ⟨_, rfl, HF.out, hb.out⟩
set_option maxHeartbeats 400000 in
theorem szSnapS (a : Option Addr) (n c : Nat) (L : List SN) (l : Int) (w : World) (hL : L.length = n) (hn : n ≤ maxLen) (hs : ∀ x ∈ L, x.1.size ≤ maxLen) (h0 : 0 ≤ l) (h1 : l ≤ 1048576) (h : Src w a (cellsSn L)) :
    Calls Tryz.prog 75 #[.slice a n c, .int .i64 l] w fun e w' => ∃ r : Int, e = .returned (.int .i64 r) ∧ r ≤ l ∧ (0 ≤ r → r + n ≤ l ∧ n ≤ 1048576 ∧ ∀ x ∈ L, x.1.size ≤ 1048576) ∧ Below w.heap.size w w' := by
  unfold maxLen at hn
  by_cases hbig : l < n
  · clear h hs hL
    go_enter Tryz.func75, Tryz.ntmps75
    go_wp2_with fail
    go_ret
    exact ⟨-1, rfl, by omega, fun h => absurd h (by omega), Below.refl _ _⟩
  have HS : Hid (∀ i, i < n → (L.getD i sn0).1.size ≤ maxLen) := fun i hi => hs _ (by
    rw [List.getD_eq_getElem?_getD, List.getElem?_eq_getElem (by omega)]; exact List.getElem_mem _)
  have HH : Hid (Src w a (cellsSn L)) := h
  have HL : Hid (L.length = n) := hL
  clear hs h hL
  go_enter Tryz.func75, Tryz.ntmps75
  go_wp2_with fail
  go_loopw [1, 5] (fun v i wr => ∃ (k : Nat) (x : Int), k ≤ n ∧ i = .int .i64 k ∧ v = .int .i64 x ∧ 0 ≤ x ∧ x + n ≤ l ∧ Hid (∀ i, i < k → (L.getD i sn0).1.size ≤ 1048576) ∧ Hid (Below w.heap.size w wr)) (fun _ i _ => n - (intOf i).toNat)
  case atStart => exact ⟨0, _, by omega, rfl, rfl, by omega, by omega, fun i hi => absurd hi (by omega), Below.refl _ _⟩
  case round =>
    obtain ⟨k, x, hk, rfl, rfl, hx0, hx1, hall, hb⟩ := hrel
    by_cases hlt : k < n
    · obtain ⟨b, o, p, y, z, rfl, hc1, hc2, hc3, hy⟩ := srcSn (HH.out.below hb.out) (i := k) (by rw [HL.out]; exact hlt)
      have hsz := HS.out k hlt
      rw [hy.out] at hsz
      have HSZ : Hid (p.size ≤ maxLen) := hsz
      clear hsz
      go_wp2_with fail
      refine (szSnap p y z x _ HSZ.out hx0 (by omega)).mono ?_
      rintro e w1 ⟨r, rfl, hr1, hr2, hb1⟩
      have HB1 : Hid (Below w.heap.size w w1) := hb.out.trans (hb1.mono hb.out.size)
      clear hb1
      by_cases hneg : r < 0
      · clear hr2
        go_wp2_with fail
        go_ret
        exact ⟨-1, rfl, by omega, fun h => absurd h (by omega), HB1.out⟩
      · have hr3 := hr2 (by omega)
        have hall2 : Hid (∀ i, i < k + 1 → (L.getD i sn0).1.size ≤ 1048576) := fun i hi => by
          by_cases e : i = k
          · rw [e, hy.out]; show p.size ≤ 1048576; omega
          · exact hall.out i (by omega)
        clear hr2 hr3
        go_wp2_with fail
        exact ⟨⟨k + 1, _, by omega, by go_num, rfl, by omega, by omega, hall2, HB1.out⟩, by simp [intOf]; omega⟩
    · have hkn : k = n := by omega
      have hall' : Hid (∀ x ∈ L, x.1.size ≤ 1048576) := fun y hy => by
        obtain ⟨i, hi, rfl⟩ := List.getElem_of_mem hy
        have := hall.out i (by rw [hkn, ← HL.out]; exact hi)
        rw [List.getD_eq_getElem?_getD, List.getElem?_eq_getElem hi] at this
        exact this
      clear hkn
      go_wp2_with fail
      go_ret
      exact ⟨x, rfl, by omega, fun _ => ⟨hx1, by omega, hall'.out⟩, hb.out⟩
set_option maxHeartbeats 400000 in
theorem eqSnapS (a b : Option Addr) (n c d : Nat) (L : List SN) (w : World) (hL : L.length = n) (hn : n ≤ 9000000000000000000) (ha : Src w a (cellsSn L)) (hb : Src w b (cellsSn L)) :
    Calls Tryz.prog 93 #[.slice a n c, .slice b n d] w fun e w' => e = .returned (.bool true) ∧ Below w.heap.size w w' := by
  have hne : ((n : Int) != (n : Int)) = false := by simp
  have HA : Hid (Src w a (cellsSn L)) := ha
  have HB : Hid (Src w b (cellsSn L)) := hb
  have HL : Hid (L.length = n) := hL
  clear ha hb hL
  go_enter Tryz.func93, Tryz.ntmps93
  go_wp2_with fail
  go_loopw [5] (fun i wr => ∃ k : Nat, k ≤ n ∧ i = .int .i64 k ∧ Hid (Below w.heap.size w wr)) (fun i _ => n - (intOf i).toNat)
  case atStart => exact ⟨0, by omega, rfl, Below.refl _ _⟩
  case round =>
    obtain ⟨k, hk, rfl, hB⟩ := hrel
    by_cases hlt : k < n
    · obtain ⟨b1, o1, x, y, z, rfl, p1, p2, p5, hy1⟩ := srcSn (HA.out.below hB.out) (i := k) (by rw [HL.out]; exact hlt)
      obtain ⟨b2, o2, x', y', z', rfl, p3, p4, p6, hy2⟩ := srcSn (HB.out.below hB.out) (i := k) (by rw [HL.out]; exact hlt)
      obtain ⟨rfl, rfl, rfl⟩ : x = x' ∧ y = y' ∧ z = z' := by have := hy1.out.symm.trans hy2.out; simpa using this
      have hk0 : (0 : Int) ≤ (k : Int) := by omega
      have hki : (k : Int) < (n : Int) := by omega
      go_wp2_with fail
      go_region_with (go_at_call 130; refine (eqSnap _ _ _ _).mono ?_; rintro e w1 ⟨rfl, hb1⟩)
      all_goals go_wp2_with fail
      all_goals exact ⟨⟨k + 1, by omega, by go_num, hB.out.drew.trans (hb1.mono hB.out.size)⟩, by simp [intOf]; omega⟩
    · go_wp2_with fail
      go_ret
      exact ⟨rfl, hB.out⟩
set_option maxHeartbeats 1000000 in
theorem markSnapS (v : Value) (n k base : Nat) (xs : List Value) (w : World) (hn : n ≤ 1048576) (hk0 : 0 < k) (hk1 : k ≤ 4194304) (ho : w.ownsRow base 122 3 v n xs) :
    Calls Tryz.prog 105 #[v, .int .i64 (k : Int)] w fun e w' => e = .returned (.int .i64 ((k + n * 3 : Nat) : Int)) ∧ w.grownBy w' v.ownBlock ∧ w'.ownsRow base 122 3 v n (cellsSn (mkSn k n)) := by
  have hlen := ho.1
  have hcase := ho.2
  rcases hcase with ⟨rfl, h0⟩ | ⟨B, cap, cur, rfl, _⟩
  · subst h0
    clear ho hlen
    go_enter Tryz.func105, Tryz.ntmps105
    go_wp2_with fail
    go_loop [1, 5] (fun kk i => i = .int .i64 0 ∧ kk = .int .i64 (k : Int)) (fun _ _ => 0)
    case atStart => exact ⟨rfl, rfl⟩
    case round =>
      obtain ⟨rfl, rfl⟩ := hrel
      go_wp2_with fail
      go_ret
      exact ⟨rfl, gb_refl _ _, World.ownsRow_nil _ _ _ _⟩
  have HO : Hid (w.ownsRow base 122 3 (.slice (some ⟨B, 0, none⟩) n cap) n xs) := ho
  have HN : Hid (xs.length = n * 3) := hlen
  have HM : Hid ((cellsSn (mkSn k n)).length = n * 3) := by show (cellsSn (mkSn k n)).length = n * 3; rw [cellsSn_length, mkSn_length]
  clear ho hlen
  go_enter Tryz.func105, Tryz.ntmps105
  go_wp2_with fail
  go_loopw [1, 5] (fun kk i wr => ∃ j x : Nat, j ≤ n ∧ i = .int .i64 (j : Int) ∧ kk = .int .i64 (x : Int) ∧ x ≤ 16777216 ∧ 0 < x ∧ Hid (x = k + j * 3) ∧ Hid (w.grownBy wr (some B)) ∧ Hid (wr.ownsRow base 122 3 (.slice (some ⟨B, 0, none⟩) n cap) n ((cellsSn (mkSn k n)).take (j * 3) ++ xs.drop (j * 3)))) (fun _ i _ => n - (intOf i).toNat)
  case atStart => exact ⟨0, k, by omega, rfl, rfl, by omega, by omega, by show k = k + 0 * 3; omega, gb_refl _ _, by simpa [Hid] using HO.out⟩
  case round =>
    obtain ⟨j, x, hj, rfl, rfl, hx1, hx0, hx, hg, hO⟩ := hrel
    by_cases hlt : j < n
    · have hjn : (j : Int) < (n : Int) := by omega
      have hxb : Hid (x + 3 ≤ 16777216) := by show x + 3 ≤ 16777216; have := hx.out; omega
      go_wp2_with fail
      refine (markText x _ hx0 (by omega)).mono ?_
      rintro e w1 ⟨rfl, hb1⟩
      have O1 : Hid (w1.ownsRow base 122 3 (.slice (some ⟨B, 0, none⟩) n cap) n ((cellsSn (mkSn k n)).take (j * 3) ++ xs.drop (j * 3))) := own_below hO.out hb1
      have G1 : Hid (w.grownBy w1 (some B)) := gb_below hg.out hb1
      clear hO hg hb1
      have hl1 : Hid (((cellsSn (mkSn k n)).take (j * 3) ++ xs.drop (j * 3)).length = n * 3) := by
        show _ = _; rw [fill_length _ _ _ (HN.out.trans HM.out.symm), HM.out]
      have HJ : Hid (j < (mkSn k n).length) := by show j < (mkSn k n).length; rw [mkSn_length]; exact hlt
      obtain ⟨z1, o1, o2⟩ := own_cellX O1.out (i := j * 3) (by rw [hl1.out]; omega)
      obtain ⟨z2, o3, o4⟩ := own_cellX O1.out (i := j * 3 + 1) (by rw [hl1.out]; omega)
      obtain ⟨z3, o5, o6⟩ := own_cellX O1.out (i := j * 3 + 2) (by rw [hl1.out]; omega)
      have o3' : (w1.setCell ⟨B, j * 3, none⟩ (.string (markT x))).cell? ⟨B, j * 3 + 1, none⟩ = some z2 := by
        rw [World.cell?_setCell_other _ _ _ _ (offs_ne (by omega))]; exact o3
      have o5' : ((w1.setCell ⟨B, j * 3, none⟩ (.string (markT x))).setCell ⟨B, j * 3 + 1, none⟩ (.int .i64 ((x : Int) + 1))).cell? ⟨B, j * 3 + 2, none⟩ = some z3 := by
        rw [World.cell?_setCell_other _ _ _ _ (offs_ne (by omega)), World.cell?_setCell_other _ _ _ _ (offs_ne (by omega))]; exact o5
      go_wp2_with fail
      refine ⟨⟨j + 1, x + 3, by omega, by go_num, by go_num, hxb.out, by omega, by show x + 3 = k + (j + 1) * 3; have := hx.out; omega, gb_set (gb_set (gb_set G1.out _ _) _ _) _ _, ?_⟩, by simp [intOf]; omega⟩
      have e1 := fill_set (cellsSn (mkSn k n)) xs (j * 3) (.string (markT x)) (by rw [HN.out]; omega) (by rw [(cellsSn_get _ j HJ.out).1, mkSn_get _ _ _ hlt, hx.out])
      have e2 := fill_set (cellsSn (mkSn k n)) xs (j * 3 + 1) (.int .i64 ((x : Int) + 1)) (by rw [HN.out]; omega) (by rw [(cellsSn_get _ j HJ.out).2.1, mkSn_get _ _ _ hlt, hx.out]; simp)
      have e3 := fill_set (cellsSn (mkSn k n)) xs (j * 3 + 2) (.int .i64 ((x : Int) + 2)) (by rw [HN.out]; omega) (by rw [(cellsSn_get _ j HJ.out).2.2, mkSn_get _ _ _ hlt, hx.out]; simp)
      have s1 := own_set O1.out (j * 3) (by rw [hl1.out]; omega) (.string (markT x))
      rw [e1] at s1
      have s2 := own_set s1 (j * 3 + 1) (by rw [fill_length _ _ _ (HN.out.trans HM.out.symm), HM.out]; omega) (.int .i64 ((x : Int) + 1))
      rw [e2] at s2
      have s3 := own_set s2 (j * 3 + 2) (by rw [fill_length _ _ _ (HN.out.trans HM.out.symm), HM.out]; omega) (.int .i64 ((x : Int) + 2))
      rw [e3] at s3
      rw [show (j + 1) * 3 = j * 3 + 2 + 1 from by omega]
      exact s3
    · have hjn : j = n := by omega
      have E : Hid ((x : Int) = ((k + n * 3 : Nat) : Int)) := by show (x : Int) = ((k + n * 3 : Nat) : Int); rw [hx.out, hjn]
      have O1 : Hid (wr.ownsRow base 122 3 (.slice (some ⟨B, 0, none⟩) n cap) n (cellsSn (mkSn k n))) := own_congr hO.out (by rw [hjn]; exact fill_all HM.out HN.out)
      clear hjn hO
      go_wp2_with fail
      go_ret
      exact ⟨by show Ending.returned (.int .i64 (x : Int)) = _; rw [E.out], hg.out, O1.out⟩
structure UM where
  G : Int
  R : Int
  S : List SN
def ReadsU (w : World) (v : Value) (D : UM) : Prop :=
  ∃ a c, v = .agg #[.int .i64 D.G, .int .i64 D.R, .slice a D.S.length c] ∧ Src w a (cellsSn D.S)
theorem ReadsU.below {w w' : World} {v : Value} {D : UM} (h : ReadsU w v D) (hb : Below w.heap.size w w') : ReadsU w' v D := by
  obtain ⟨a, c, rfl, h1⟩ := h
  exact ⟨a, c, rfl, h1.below hb⟩
def OwnsU (w : World) (lo hi : Nat) (v : Value) (D : UM) : Prop :=
  ∃ v1, v = .agg #[.int .i64 D.G, .int .i64 D.R, v1] ∧ OwnsR w 122 3 lo hi v1 D.S.length (cellsSn D.S)
theorem OwnsU.reads {w : World} {lo hi : Nat} {v : Value} {D : UM} (h : OwnsU w lo hi v D) : ReadsU w v D := by
  obtain ⟨v1, rfl, h1⟩ := h
  obtain ⟨a1, c1, rfl, s1, _⟩ := own_src h1.1
  exact ⟨a1, c1, rfl, s1⟩
theorem OwnsU.below {w w' : World} {lo hi : Nat} {v : Value} {D : UM} (h : OwnsU w lo hi v D) (hb : Below w.heap.size w w') : OwnsU w' lo hi v D := by
  obtain ⟨v1, rfl, h1⟩ := h
  exact ⟨v1, rfl, h1.below hb⟩
theorem OwnsU.turned {w w' : World} {lo hi lo' hi' : Nat} {v : Value} {D : UM} (h : OwnsU w lo hi v D) (ht : Turned lo' hi' w w') (hd : hi ≤ lo' ∨ hi' ≤ lo) : OwnsU w' lo hi v D := by
  obtain ⟨v1, rfl, h1⟩ := h
  exact ⟨v1, rfl, h1.turned ht hd⟩
theorem OwnsU.mono {w : World} {lo hi lo' hi' : Nat} {v : Value} {D : UM} (h : OwnsU w lo hi v D) (hl : lo' ≤ lo) (hh : hi ≤ hi') : OwnsU w lo' hi' v D := by
  obtain ⟨v1, rfl, h1⟩ := h
  exact ⟨v1, rfl, h1.mono hl hh⟩
theorem OwnsU.drew {w : World} {lo hi : Nat} {v : Value} {D : UM} (h : OwnsU w lo hi v D) : OwnsU w.drew lo hi v D := h
theorem OwnsU.lit {w : World} {lo hi : Nat} {v : Value} {D : UM} (h : OwnsU w lo hi v D) : ∃ a c, v = .agg #[.int .i64 D.G, .int .i64 D.R, .slice a D.S.length c] := by
  obtain ⟨a, c, e, _⟩ := h.reads
  exact ⟨a, c, e⟩
def smallU (D : UM) : Prop := D.S.length ≤ 1048576 ∧ ∀ x ∈ D.S, x.1.size ≤ 1048576
def maxU (D : UM) : Prop := D.S.length ≤ maxLen ∧ ∀ x ∈ D.S, x.1.size ≤ maxLen
set_option maxHeartbeats 1000000 in
theorem toSuper (v : Value) (D : UM) (w : World) (hs : smallU D) (h : ReadsU w v D) :
    Calls Tryz.prog 38 #[v] w fun e w' => ∃ v', e = .returned v' ∧ OwnsU w' w.heap.size w'.heap.size v' D ∧ Below w.heap.size w w' := by
  obtain ⟨a, c, rfl, s1⟩ := h
  obtain ⟨n, hn⟩ : ∃ n, D.S.length = n := ⟨_, rfl⟩
  obtain ⟨G, hG⟩ : ∃ G, D.G = G := ⟨_, rfl⟩
  obtain ⟨R, hR⟩ : ∃ R, D.R = R := ⟨_, rfl⟩
  have HS : Hid (n ≤ 1048576) := by rw [← hn]; exact hs.1
  have S1 : Hid (Src w a (cellsSn D.S)) := s1
  rw [hn, hG, hR]
  have N1 : Hid (D.S.length = n) := hn
  have NG : Hid (D.G = G ∧ D.R = R) := ⟨hG, hR⟩
  clear hs s1 hn hG hR
  go_enter Tryz.func38, Tryz.ntmps38
  go_wp2_with fail
  refine (toSnapS a n c D.S _ N1.out HS.out (S1.out.below ((((Below.refl _ _).alloc (Nat.le_refl _) _).alloc (by simp) _).alloc (by simp; omega) _))).mono ?_
  rintro e w1 ⟨v1, rfl, o1, hb1⟩
  obtain ⟨b1, d1, rfl, _, _⟩ := own_src o1
  have B1 : Hid (Below w.heap.size w w1) := ((((Below.refl _ _).alloc (Nat.le_refl _) _).alloc (by simp) _).alloc (by simp; omega) _).trans (hb1.mono (by simp; omega))
  have HRs : Hid (Box w1 (w.heap.size + 1) [.int .i64 0, .int .i64 0, .slice none 0 0]) := Box.below ((Box.new (by simp)).old _) hb1
  have HO : Hid (Box w1 (w.heap.size + 1 + 1) [.int .i64 G, .int .i64 R, .slice none 0 0]) := Box.below (Box.new (by simp)) hb1
  have O1 : Hid (w1.ownsRow (w.heap.size + 3) 122 3 (.slice b1 n d1) n (cellsSn D.S)) := own_mono o1 (by simp)
  clear o1 hb1
  obtain ⟨q2, q2f⟩ := HO.out 2 _ rfl
  have HO4 : Hid (Box (w1.setCell ⟨w.heap.size + 1 + 1, 2, none⟩ (.slice b1 n d1)) (w.heap.size + 1 + 1) [.int .i64 G, .int .i64 R, .slice b1 n d1]) := HO.out.set 2 _
  have HR4 : Hid (Box (w1.setCell ⟨w.heap.size + 1 + 1, 2, none⟩ (.slice b1 n d1)) (w.heap.size + 1) [.int .i64 0, .int .i64 0, .slice none 0 0]) := HRs.out.other _ (by dsimp only; omega) _
  obtain ⟨f0, _⟩ := HO4.out 0 _ rfl
  obtain ⟨f1, _⟩ := HO4.out 1 _ rfl
  obtain ⟨f2, _⟩ := HO4.out 2 _ rfl
  obtain ⟨g0, h0⟩ := HR4.out 0 _ rfl
  obtain ⟨g1, h1⟩ := (HR4.out.set 0 (.int .i64 G)) 1 _ rfl
  obtain ⟨g2, h2⟩ := ((HR4.out.set 0 (.int .i64 G)).set 1 (.int .i64 R)) 2 _ rfl
  have HR5 := ((HR4.out.set 0 (.int .i64 G)).set 1 (.int .i64 R)).set 2 (.slice b1 n d1)
  obtain ⟨r0, _⟩ := HR5 0 _ rfl
  obtain ⟨r1, _⟩ := HR5 1 _ rfl
  obtain ⟨r2, _⟩ := HR5 2 _ rfl
  clear HR5
  go_wp2_with fail
  refine bodyPost_ret (v := .agg #[.int .i64 G, .int .i64 R, .slice b1 n d1]) (by simp [results, Tryz.results38, go_sem, r0, r1, r2]) rfl ⟨_, rfl, ?_, ?_⟩
  · refine ⟨.slice b1 n d1, by rw [NG.out.1, NG.out.2], OwnsR.mk ?_ (Nat.le_refl _)⟩
    rw [N1.out]
    exact own_mono (own_setLow (own_setLow (own_setLow (own_setLow O1.out (by dsimp only; omega) _) (by dsimp only; omega) _) (by dsimp only; omega) _) (by dsimp only; omega) _) (by omega)
  · exact Below.setCell (Below.setCell (Below.setCell (Below.setCell B1.out (by dsimp only; omega) _) (by dsimp only; omega) _) (by dsimp only; omega) _) (by dsimp only; omega) _
set_option maxHeartbeats 1000000 in
theorem eqSuper (v v' : Value) (D : UM) (w : World) (hs : D.S.length ≤ 9000000000000000000) (h : ReadsU w v D) (h' : ReadsU w v' D) :
    Calls Tryz.prog 41 #[v, v'] w fun e w' => e = .returned (.bool true) ∧ Below w.heap.size w w' := by
  obtain ⟨a, c, rfl, s1⟩ := h
  obtain ⟨b, d, rfl, s2⟩ := h'
  obtain ⟨n, hn⟩ : ∃ n, D.S.length = n := ⟨_, rfl⟩
  obtain ⟨G, hG⟩ : ∃ G, D.G = G := ⟨_, rfl⟩
  obtain ⟨R, hR⟩ : ∃ R, D.R = R := ⟨_, rfl⟩
  have HS : Hid (n ≤ 9000000000000000000) := by rw [← hn]; exact hs
  have S1 : Hid (Src w a (cellsSn D.S) ∧ Src w b (cellsSn D.S)) := ⟨s1, s2⟩
  rw [hn, hG, hR]
  have N1 : Hid (D.S.length = n) := hn
  have hGG : (G != G) = false := by simp
  have hRR : (R != R) = false := by simp
  clear hs s1 s2 hn hG hR
  go_enter Tryz.func41, Tryz.ntmps41
  go_wp2_with fail
  refine (eqSnapS a b n c d D.S _ N1.out HS.out (S1.out.1.below (((Below.refl _ _).alloc (Nat.le_refl _) _).alloc (by simp) _)) (S1.out.2.below (((Below.refl _ _).alloc (Nat.le_refl _) _).alloc (by simp) _))).mono ?_
  rintro e w1 ⟨rfl, hb1⟩
  have B1 : Hid (Below w.heap.size w w1) := (((Below.refl _ _).alloc (Nat.le_refl _) _).alloc (by simp) _).trans (hb1.mono (by simp; omega))
  clear hb1
  go_wp2_with fail
  go_ret
  exact ⟨rfl, B1.out⟩
def mkU (D : UM) (k : Nat) : UM := ⟨D.G, D.R, mkSn k D.S.length⟩
set_option maxHeartbeats 1000000 in
theorem markSuper (v : Value) (D : UM) (k lo hi : Nat) (w : World) (hs : D.S.length ≤ 1048576) (hk0 : 0 < k) (hk1 : k ≤ 4194304) (hhi : hi ≤ w.heap.size) (h : OwnsU w lo hi v D) :
    Calls Tryz.prog 59 #[v, .int .i64 (k : Int)] w fun e w' => e = .returned (.int .i64 ((k + D.S.length * 3 : Nat) : Int)) ∧ Turned lo hi w w' ∧ OwnsU w' lo hi v (mkU D k) := by
  obtain ⟨v1, rfl, h1⟩ := h
  obtain ⟨a, c, rfl⟩ := h1.lit
  obtain ⟨n, hn⟩ : ∃ n, D.S.length = n := ⟨_, rfl⟩
  have H1 : Hid (OwnsR w 122 3 lo hi (.slice a n c) n (cellsSn D.S)) := by rw [← hn]; exact h1
  have HS : Hid (n ≤ 1048576) := by rw [← hn]; exact hs
  have HU : Hid (mkU D k = ⟨D.G, D.R, mkSn k n⟩) := by show _ = _; unfold mkU; rw [hn]
  rw [hn, HU.out]
  clear hn h1 hs
  go_enter Tryz.func59, Tryz.ntmps59
  go_wp2_with fail
  refine (markSnapS (.slice a n c) n k lo (cellsSn D.S) _ HS.out hk0 hk1 (own_below H1.out.1 ((Below.refl _ _).alloc (Nat.le_refl _) _))).mono ?_
  rintro e w1 ⟨rfl, g1, o1⟩
  have T1 : Hid (Turned lo hi w w1) := (Turned.of_below ((Below.refl _ _).alloc (Nat.le_refl _) _)).trans (Turned.of_grown g1 (fun j e => ⟨((own_mono H1.out.1 (Nat.le_refl _)).lt j e).1, H1.out.2 j e⟩))
  have O1 : Hid (OwnsR w1 122 3 lo hi (.slice a n c) n (cellsSn (mkSn k n))) := ⟨o1, H1.out.2⟩
  clear g1 o1
  go_wp2_with fail
  go_ret
  refine ⟨rfl, T1.out, _, rfl, ?_⟩
  show OwnsR w1 122 3 lo hi (.slice a n c) (mkSn k n).length (cellsSn (mkSn k n))
  rw [mkSn_length]
  exact O1.out
def letB (c : Int) : Bool := (decide (97 ≤ c) && decide (c ≤ 122)) || (decide (65 ≤ c) && decide (c ≤ 90)) || c == 95
def digB (c : Int) : Bool := decide (48 ≤ c) && decide (c ≤ 57)
def chB (c : UInt8) : Bool := letB c.toNat || digB c.toNat
def okFrom (s : ByteArray) (k : Nat) : Bool := (s.data.toList.drop k).all chB
def wordB (s : ByteArray) : Bool := decide (1 ≤ s.size) && decide (s.size ≤ 40) && letB (s.data.toList.headD 0).toNat && okFrom s 1
theorem okFrom_step (s : ByteArray) (k : Nat) (h : k < s.size) : okFrom s k = (chB s[k] && okFrom s (k + 1)) := by
  unfold okFrom
  rw [List.drop_eq_getElem_cons (by simpa using h)]
  rfl
theorem okFrom_end (s : ByteArray) (k : Nat) (h : s.size ≤ k) : okFrom s k = true := by
  unfold okFrom
  rw [List.drop_of_length_le (by simpa using h)]
  rfl
theorem letterI (c : Int) (w : World) : Calls Tryz.prog 186 #[.int .u8 c] w fun e w' => e = .returned (.bool (letB c)) ∧ w = w' := by
  go_enter Tryz.func186, Tryz.ntmps186
  go_wp2
  all_goals
    go_ret
    exact ⟨ret_bool (by rw [Bool.eq_iff_iff]; simp [letB]; omega), rfl⟩
theorem digitI (c : Int) (w : World) : Calls Tryz.prog 187 #[.int .u8 c] w fun e w' => e = .returned (.bool (digB c)) ∧ w = w' := by
  go_enter Tryz.func187, Tryz.ntmps187
  go_wp2
  all_goals
    go_ret
    exact ⟨ret_bool (by rw [Bool.eq_iff_iff]; simp [digB]; omega), rfl⟩
theorem letterS (c : Int) (w : World) : Calls Tryz.prog 167 #[.int .u8 c] w fun e w' => e = .returned (.bool (letB c)) ∧ w = w' := by
  go_enter Tryz.func167, Tryz.ntmps167
  go_wp2
  all_goals
    go_ret
    exact ⟨ret_bool (by rw [Bool.eq_iff_iff]; simp [letB]; omega), rfl⟩
theorem digitS (c : Int) (w : World) : Calls Tryz.prog 168 #[.int .u8 c] w fun e w' => e = .returned (.bool (digB c)) ∧ w = w' := by
  go_enter Tryz.func168, Tryz.ntmps168
  go_wp2
  all_goals
    go_ret
    exact ⟨ret_bool (by rw [Bool.eq_iff_iff]; simp [digB]; omega), rfl⟩
theorem head_at (s : ByteArray) (h : 0 < s.size) : s.data.toList.headD 0 = s[0] := by
  have : s.data.toList = s.data.toList[0]'(by simpa using h) :: s.data.toList.drop 1 := by
    rw [← List.drop_eq_getElem_cons (by simpa using h)]; rfl
  rw [this]; rfl
set_option maxHeartbeats 400000 in
theorem implNameOK (s : ByteArray) (w : World) (hs : s.size ≤ maxLen) : Calls Tryz.prog 185 #[.string s] w fun e w' => e = .returned (.bool (wordB s)) ∧ w = w' := by
  unfold maxLen at hs
  by_cases h0 : s.size = 0
  · have h0' : ((s.size : Int) == 0) = true := by simp [h0]
    go_enter Tryz.func185, Tryz.ntmps185
    go_wp2_with fail
    go_ret
    exact ⟨ret_bool (by simp [wordB, h0]), rfl⟩
  have h0' : ((s.size : Int) == 0) = false := by first | exact beq_eq_false_iff_ne.2 (by omega) | (simp; omega)
  by_cases h1 : 40 < s.size
  · go_enter Tryz.func185, Tryz.ntmps185
    go_wp2_with fail
    go_ret
    exact ⟨ret_bool (by simp [wordB]; omega), rfl⟩
  have hp : 0 < s.size := by omega
  have h1' : decide (40 < (s.size : Int)) = false := by simp; omega
  have hhead := head_at s hp
  by_cases hl : letB s[0].toNat = true
  · have hw : Hid (wordB s = okFrom s 1) := by show wordB s = okFrom s 1; unfold wordB; rw [hhead, hl]; simp [Nat.not_lt.mp h1]; intro _; omega
    clear hhead
    go_enter Tryz.func185, Tryz.ntmps185
    go_wp2_with (go_at_call 186; refine (letterI _ _).mono ?_; rintro e w' ⟨rfl, rfl⟩)
    go_loop [3] (fun i => ∃ k : Nat, 1 ≤ k ∧ k ≤ s.size ∧ i = .int .i64 k ∧ Hid (okFrom s 1 = okFrom s k)) (fun i => s.size - (intOf i).toNat)
    case atStart => exact ⟨1, by omega, by omega, rfl, rfl⟩
    case round =>
      obtain ⟨k, hk1, hk2, rfl, hr⟩ := hrel
      by_cases hlt : k < s.size
      · by_cases hL : letB s[k].toNat = true
        · go_wp2_with (first | (go_at_call 186; refine (letterI _ _).mono ?_; rintro e w' ⟨rfl, rfl⟩) | (go_at_call 187; refine (digitI _ _).mono ?_; rintro e w' ⟨rfl, rfl⟩))
          go_round
          case rel => exact ⟨k + 1, by omega, by omega, by go_num, by have := hr.out; rw [okFrom_step s k hlt, chB, hL] at this; show okFrom s 1 = okFrom s (k + 1); simpa using this⟩
          case measure => simp [intOf]; omega
        · have hL' : letB s[k].toNat = false := by simpa using hL
          clear hL
          by_cases hD : digB s[k].toNat = true
          · go_wp2_with (first | (go_at_call 186; refine (letterI _ _).mono ?_; rintro e w' ⟨rfl, rfl⟩) | (go_at_call 187; refine (digitI _ _).mono ?_; rintro e w' ⟨rfl, rfl⟩))
            go_round
            case rel => exact ⟨k + 1, by omega, by omega, by go_num, by have := hr.out; rw [okFrom_step s k hlt, chB, hL', hD] at this; show okFrom s 1 = okFrom s (k + 1); simpa using this⟩
            case measure => simp [intOf]; omega
          · have hD' : digB s[k].toNat = false := by simpa using hD
            clear hD
            have hf : Hid (wordB s = false) := by
              have := hr.out; rw [okFrom_step s k hlt, chB, hL', hD'] at this
              show wordB s = false
              rw [hw.out, this]; rfl
            go_wp2_with (first | (go_at_call 186; refine (letterI _ _).mono ?_; rintro e w' ⟨rfl, rfl⟩) | (go_at_call 187; refine (digitI _ _).mono ?_; rintro e w' ⟨rfl, rfl⟩))
            go_ret
            exact ⟨ret_bool hf.out.symm, rfl⟩
      · have hf : Hid (wordB s = true) := by
          show wordB s = true
          rw [hw.out, hr.out, okFrom_end s k (by omega)]
        go_wp2
        go_ret
        exact ⟨ret_bool hf.out.symm, rfl⟩
  · have hl' : letB s[0].toNat = false := by simpa using hl
    clear hl
    have hw : Hid (wordB s = false) := by show wordB s = false; unfold wordB; rw [hhead, hl']; simp
    clear hhead
    go_enter Tryz.func185, Tryz.ntmps185
    go_wp2_with (go_at_call 186; refine (letterI _ _).mono ?_; rintro e w' ⟨rfl, rfl⟩)
    go_ret
    exact ⟨ret_bool hw.out.symm, rfl⟩
set_option maxHeartbeats 400000 in
theorem l00Word (s : ByteArray) (w : World) (hs : s.size ≤ maxLen) : Calls Tryz.prog 150 #[.string s] w fun e w' => e = .returned (.bool (wordB s)) ∧ w = w' := by
  unfold maxLen at hs
  by_cases h0 : s.size = 0
  · have h0' : decide ((s.size : Int) < 1) = true := by simp [h0]
    go_enter Tryz.func150, Tryz.ntmps150
    go_wp2_with fail
    go_ret
    exact ⟨ret_bool (by simp [wordB, h0]), rfl⟩
  have h0' : decide ((s.size : Int) < 1) = false := by first | exact beq_eq_false_iff_ne.2 (by omega) | (simp; omega)
  by_cases h1 : 40 < s.size
  · go_enter Tryz.func150, Tryz.ntmps150
    go_wp2_with fail
    go_ret
    exact ⟨ret_bool (by simp [wordB]; omega), rfl⟩
  have hp : 0 < s.size := by omega
  have h1' : decide (40 < (s.size : Int)) = false := by simp; omega
  have hhead := head_at s hp
  by_cases hl : letB s[0].toNat = true
  · have hw : Hid (wordB s = okFrom s 1) := by show wordB s = okFrom s 1; unfold wordB; rw [hhead, hl]; simp [Nat.not_lt.mp h1]; intro _; omega
    clear hhead
    go_enter Tryz.func150, Tryz.ntmps150
    go_wp2_with (go_at_call 167; refine (letterS _ _).mono ?_; rintro e w' ⟨rfl, rfl⟩)
    go_loop [3] (fun i => ∃ k : Nat, 1 ≤ k ∧ k ≤ s.size ∧ i = .int .i64 k ∧ Hid (okFrom s 1 = okFrom s k)) (fun i => s.size - (intOf i).toNat)
    case atStart => exact ⟨1, by omega, by omega, rfl, rfl⟩
    case round =>
      obtain ⟨k, hk1, hk2, rfl, hr⟩ := hrel
      by_cases hlt : k < s.size
      · by_cases hL : letB s[k].toNat = true
        · go_wp2_with (first | (go_at_call 167; refine (letterS _ _).mono ?_; rintro e w' ⟨rfl, rfl⟩) | (go_at_call 168; refine (digitS _ _).mono ?_; rintro e w' ⟨rfl, rfl⟩))
          go_round
          case rel => exact ⟨k + 1, by omega, by omega, by go_num, by have := hr.out; rw [okFrom_step s k hlt, chB, hL] at this; show okFrom s 1 = okFrom s (k + 1); simpa using this⟩
          case measure => simp [intOf]; omega
        · have hL' : letB s[k].toNat = false := by simpa using hL
          clear hL
          by_cases hD : digB s[k].toNat = true
          · go_wp2_with (first | (go_at_call 167; refine (letterS _ _).mono ?_; rintro e w' ⟨rfl, rfl⟩) | (go_at_call 168; refine (digitS _ _).mono ?_; rintro e w' ⟨rfl, rfl⟩))
            go_round
            case rel => exact ⟨k + 1, by omega, by omega, by go_num, by have := hr.out; rw [okFrom_step s k hlt, chB, hL', hD] at this; show okFrom s 1 = okFrom s (k + 1); simpa using this⟩
            case measure => simp [intOf]; omega
          · have hD' : digB s[k].toNat = false := by simpa using hD
            clear hD
            have hf : Hid (wordB s = false) := by
              have := hr.out; rw [okFrom_step s k hlt, chB, hL', hD'] at this
              show wordB s = false
              rw [hw.out, this]; rfl
            go_wp2_with (first | (go_at_call 167; refine (letterS _ _).mono ?_; rintro e w' ⟨rfl, rfl⟩) | (go_at_call 168; refine (digitS _ _).mono ?_; rintro e w' ⟨rfl, rfl⟩))
            go_ret
            exact ⟨ret_bool hf.out.symm, rfl⟩
      · have hf : Hid (wordB s = true) := by
          show wordB s = true
          rw [hw.out, hr.out, okFrom_end s k (by omega)]
        go_wp2
        go_ret
        exact ⟨ret_bool hf.out.symm, rfl⟩
  · have hl' : letB s[0].toNat = false := by simpa using hl
    clear hl
    have hw : Hid (wordB s = false) := by show wordB s = false; unfold wordB; rw [hhead, hl']; simp
    clear hhead
    go_enter Tryz.func150, Tryz.ntmps150
    go_wp2_with (go_at_call 167; refine (letterS _ _).mono ?_; rintro e w' ⟨rfl, rfl⟩)
    go_ret
    exact ⟨ret_bool hw.out.symm, rfl⟩
theorem specNameOK (s : ByteArray) (w : World) (hs : s.size ≤ maxLen) : Calls Tryz.prog 119 #[.string s] w fun e w' => e = .returned (.bool (wordB s)) ∧ w = w' := by
  go_enter Tryz.func119, Tryz.ntmps119
  go_wp2_with (go_at_call 150; refine (l00Word _ _ hs).mono ?_; rintro e w' ⟨rfl, rfl⟩)
  go_ret
  exact ⟨rfl, rfl⟩
def shortB (s : ByteArray) : Bool := wordB s && decide (s.size ≤ 8)
theorem shortName (s : ByteArray) (w : World) (hs : s.size ≤ maxLen) : Calls Tryz.prog 175 #[.string s] w fun e w' => e = .returned (.bool (shortB s)) ∧ w = w' := by
  obtain ⟨b, hb⟩ : ∃ b, wordB s = b := ⟨_, rfl⟩
  have HB : Hid (shortB s = (b && decide (s.size ≤ 8))) := by show _ = _; unfold shortB; rw [hb]
  have HC : Calls Tryz.prog 185 #[.string s] w fun e w' => e = .returned (.bool b) ∧ w = w' := by rw [← hb]; exact implNameOK s w hs
  clear hb
  go_enter Tryz.func175, Tryz.ntmps175
  go_wp2_with (go_at_call 185; refine HC.mono ?_; rintro e w' ⟨rfl, rfl⟩; cases b)
  all_goals
    go_ret
    exact ⟨ret_bool (by rw [HB.out]; first | (simp; done) | (simp; omega)), rfl⟩
theorem l04Name (s : ByteArray) (w : World) (hs : s.size ≤ maxLen) : Calls Tryz.prog 78 #[.string s] w fun e w' => e = .returned (.bool (shortB s)) ∧ w = w' := by
  obtain ⟨b, hb⟩ : ∃ b, wordB s = b := ⟨_, rfl⟩
  have HB : Hid (shortB s = (b && decide (s.size ≤ 8))) := by show _ = _; unfold shortB; rw [hb]
  have HC : Calls Tryz.prog 119 #[.string s] w fun e w' => e = .returned (.bool b) ∧ w = w' := by rw [← hb]; exact specNameOK s w hs
  clear hb
  by_cases h8 : s.size ≤ 8
  · have h8' : decide ((s.size : Int) ≤ 8) = true := decide_eq_true (by omega)
    go_enter Tryz.func78, Tryz.ntmps78
    go_wp2_with (go_at_call 119; refine HC.mono ?_; rintro e w' ⟨rfl, rfl⟩)
    go_ret
    exact ⟨ret_bool (by rw [HB.out]; simp [h8]), rfl⟩
  · have h8' : decide ((s.size : Int) ≤ 8) = false := decide_eq_false (by omega)
    go_enter Tryz.func78, Tryz.ntmps78
    go_wp2_with fail
    go_ret
    exact ⟨ret_bool (by rw [HB.out]; simp [h8]), rfl⟩
end Go.Proofs.YtnnimocaanofjaaGreatDoor
