
/-
  Contracts of the helpers on slices of Mail: sizes, copies, comparisons, marks. By an AI agent.
-/
import Derived.Test.YtgbhjhbmolgbeaaDoorBoxes
namespace Go.Proofs.YtgbhjhbmolgbeaaDoor
open Go.ChangeShapes Go.WideShapes Go.ChangeAt Go.RowKit Go.Deep
set_option linter.unusedVariables false

abbrev MMl := Int × Int × ByteArray
abbrev ml0 : MMl := (0, 0, ⟨#[]⟩)
def cellsMl (L : List MMl) : List Value := L.flatMap fun p => [.int .i64 p.1, .int .i64 p.2.1, .string p.2.2]
theorem cellsMl_length (L : List MMl) : (cellsMl L).length = L.length * 3 := by
  induction L with
  | nil => rfl
  | cons p L ih => simp [cellsMl] at ih ⊢; omega
theorem cellsMl_append (L M : List MMl) : cellsMl (L ++ M) = cellsMl L ++ cellsMl M := by simp [cellsMl]
theorem cellsMl_get : ∀ (L : List MMl) (i : Nat), i < L.length → (cellsMl L)[i * 3]? = some (.int .i64 (L.getD i ml0).1) ∧ (cellsMl L)[i * 3 + 1]? = some (.int .i64 (L.getD i ml0).2.1) ∧ (cellsMl L)[i * 3 + 2]? = some (.string (L.getD i ml0).2.2)
  | [], i, h => absurd h (by simp)
  | p :: L, 0, _ => ⟨rfl, rfl, rfl⟩
  | p :: L, i + 1, h => by
    have ih := cellsMl_get L i (by simpa using h)
    have e1 : (i + 1) * 3 = i * 3 + 1 + 1 + 1 := by omega
    have e2 : cellsMl (p :: L) = .int .i64 p.1 :: .int .i64 p.2.1 :: .string p.2.2 :: cellsMl L := rfl
    rw [e2, e1]
    exact ih
theorem cellsMl_one (L : List MMl) : ∀ u ∈ cellsMl L, u.oneCell' = true := by
  intro u hu
  simp only [cellsMl, List.mem_flatMap] at hu
  obtain ⟨p, _, hp⟩ := hu
  simp at hp
  rcases hp with rfl | rfl | rfl <;> rfl
theorem srcMl {w : World} {a : Option Addr} {L : List MMl} (h : Src w a (cellsMl L)) {i : Nat} (hi : i < L.length) : ∃ b o x0 x1 x2, a = some ⟨b, o, none⟩ ∧ w.cell? ⟨b, o + i * 3, none⟩ = some (.int .i64 x0) ∧ w.cell? ⟨b, o + i * 3 + 1, none⟩ = some (.int .i64 x1) ∧ w.cell? ⟨b, o + i * 3 + 2, none⟩ = some (.string x2) ∧ Hid (L.getD i ml0 = (x0, x1, x2)) := by
  rcases h with h | ⟨b, o, rfl, hc⟩
  · have h2 := cellsMl_length L
    rw [h] at h2
    simp only [List.length_nil] at h2
    omega
  · have h0 := hc (i * 3) (by rw [cellsMl_length]; omega)
    have h1 := hc (i * 3 + 1) (by rw [cellsMl_length]; omega)
    have h2 := hc (i * 3 + 2) (by rw [cellsMl_length]; omega)
    rw [getD_some (cellsMl_get L i hi).1] at h0
    rw [getD_some (cellsMl_get L i hi).2.1] at h1
    rw [getD_some (cellsMl_get L i hi).2.2] at h2
    exact ⟨b, o, _, _, _, rfl, h0, h1, h2, rfl⟩
def mkMl (k n : Nat) : List MMl := (List.range n).map fun i => (((k + i * 3 : Nat) : Int), ((k + i * 3 + 1 : Nat) : Int), markT (k + i * 3 + 2))
theorem mkMl_length (k n : Nat) : (mkMl k n).length = n := by simp [mkMl]
theorem mkMl_get (k n i : Nat) (h : i < n) : (mkMl k n).getD i ml0 = (((k + i * 3 : Nat) : Int), ((k + i * 3 + 1 : Nat) : Int), markT (k + i * 3 + 2)) := by
  rw [List.getD_eq_getElem?_getD]; simp [mkMl, h]
theorem infoMl : (Tryd.prog.info? 39).map (fun i => (i.zero, i.size, i.bytes)) = some (some (.agg #[.int .i64 0, .int .i64 0, .string ⟨#[]⟩]), 3, 32) := by kernel_rfl
theorem run_make_Ml (n : Nat) (hn : n ≤ 1048576) (w : World) : (Instr.makeSlice 40 (.int .i64 (n : Int)) (.int .i64 (n : Int))).run Tryd.prog w = .ok (.slice (some ⟨w.heap.size, 0, none⟩) n n) (w.alloc (.cells (madeCells #[.int .i64 0, .int .i64 0, .string ⟨#[]⟩] (n * 3)) 39)) :=
  run_make_rows 40 39 (.agg #[.int .i64 0, .int .i64 0, .string ⟨#[]⟩]) 3 32 n Tryd.underlying40 infoMl (by omega) hn w
set_option maxHeartbeats 1000000 in
theorem toMail (x0 : Int) (x1 : Int) (x2 : ByteArray) (w : World) : Calls Tryd.prog 55 #[.agg #[.int .i64 x0, .int .i64 x1, .string x2]] w fun e w' => e = .returned (.agg #[.int .i64 x0, .int .i64 x1, .string x2]) ∧ Below w.heap.size w w' := by
  go_enter Tryd.func55, Tryd.ntmps55
  go_wp2
  exact bodyPost_ret (v := .agg #[.int .i64 x0, .int .i64 x1, .string x2]) (by simp [results, Tryd.results55, go_sem]) rfl ⟨rfl, (((Below.refl _ _).alloc (Nat.le_refl _) _).alloc (by simp) _).alloc (by simp; omega) _⟩

set_option maxHeartbeats 1000000 in
theorem szMail (x0 : Int) (x1 : Int) (x2 : ByteArray) (l : Int) (w : World) (hx2 : x2.size ≤ maxLen) (h0 : 0 ≤ l) (h1 : l ≤ 1048576) : Calls Tryd.prog 54 #[.agg #[.int .i64 x0, .int .i64 x1, .string x2], .int .i64 l] w fun e w' => ∃ r : Int, e = .returned (.int .i64 r) ∧ r ≤ l ∧ (0 ≤ r → r = l - x2.size) ∧ Below w.heap.size w w' := by
  unfold maxLen at hx2
  go_enter Tryd.func54, Tryd.ntmps54
  go_wp2
  all_goals
    go_ret
    refine ⟨_, rfl, ?_, ?_, (Below.refl _ _).alloc (Nat.le_refl _) _⟩
    all_goals omega

set_option maxHeartbeats 1000000 in
theorem eqMail (x0 : Int) (x1 : Int) (x2 : ByteArray) (w : World) : Calls Tryd.prog 56 #[.agg #[.int .i64 x0, .int .i64 x1, .string x2], .agg #[.int .i64 x0, .int .i64 x1, .string x2]] w fun e w' => e = .returned (.bool true) ∧ Below w.heap.size w w' := by
  have hy0 : (x0 != x0) = false := by simp
  have hy1 : (x1 != x1) = false := by simp
  go_enter Tryd.func56, Tryd.ntmps56
  go_wp2
  go_ret
  exact ⟨rfl, ((Below.refl _ _).alloc (Nat.le_refl _) _).alloc (by simp) _⟩

set_option maxHeartbeats 1000000 in
theorem toMailS (a : Option Addr) (n c : Nat) (L : List MMl) (w : World) (hL : L.length = n) (hn : n ≤ 1048576) (h : Src w a (cellsMl L)) :
    Calls Tryd.prog 27 #[.slice a n c] w fun e w' => ∃ v, e = .returned v ∧ w'.ownsRow w.heap.size 39 3 v n (cellsMl L) ∧ Below w.heap.size w w' := by
  have hmk := run_make_Ml n hn
  have HH : Hid (Src w a (cellsMl L)) := h
  have HL : Hid ((cellsMl L).length = n * 3) := by show (cellsMl L).length = n * 3; rw [cellsMl_length, hL]
  have HL2 : Hid (L.length = n) := hL
  clear h hL
  go_enter Tryd.func27, Tryd.ntmps27
  go_wp2_with fail
  clear hmk
  obtain ⟨zs, hz, ho⟩ := rows_made w #[.int .i64 0, .int .i64 0, .string ⟨#[]⟩] n 3 39 rfl (by omega) (by unfold maxLen; omega)
  have HZ : Hid (zs.length = n * 3) := hz
  have HO : Hid (World.ownsRow (w.alloc (.cells (madeCells #[.int .i64 0, .int .i64 0, .string ⟨#[]⟩] (n * 3)) 39)) w.heap.size 39 3 (.slice (some ⟨w.heap.size, 0, none⟩) n n) n zs) := ho
  clear hz ho
  go_loopw [4] (fun i wr => ∃ k : Nat, k ≤ n ∧ i = .int .i64 k ∧ Hid (Below w.heap.size w wr) ∧ Hid (wr.ownsRow w.heap.size 39 3 (.slice (some ⟨w.heap.size, 0, none⟩) n n) n ((cellsMl L).take (k * 3) ++ zs.drop (k * 3)))) (fun i _ => n - (intOf i).toNat)
  case atStart => exact ⟨0, by omega, rfl, (Below.refl _ _).alloc (Nat.le_refl _) _, by simpa [Hid] using HO.out⟩
  case round =>
    obtain ⟨k, hk, rfl, hb, ho⟩ := hrel
    by_cases hlt : k < n
    · have hkL : k < L.length := by rw [HL2.out]; exact hlt
      obtain ⟨b, o, x0, x1, x2, rfl, hc0, hc1, hc2, hy⟩ := srcMl (HH.out.below hb.out) hkL
      have HK : Hid (k < L.length) := hkL
      clear hkL
      go_wp2_with fail
      refine (toMail x0 x1 x2 _).mono ?_
      rintro e w1 ⟨rfl, hb1⟩
      have HB : Hid (Below w.heap.size w w1) := hb.out.trans (hb1.mono hb.out.size)
      have HO1 : Hid (w1.ownsRow w.heap.size 39 3 (.slice (some ⟨w.heap.size, 0, none⟩) n n) n ((cellsMl L).take (k * 3) ++ zs.drop (k * 3))) := own_below ho.out hb1
      clear hb hb1 ho hc0 hc1 hc2
      have hl1 : Hid (((cellsMl L).take (k * 3) ++ zs.drop (k * 3)).length = n * 3) := by
        show _ = _; rw [fill_length _ _ _ (HZ.out.trans HL.out.symm), HL.out]
      obtain ⟨z0, o0, q0⟩ := own_cellX HO1.out (i := k * 3) (by rw [hl1.out]; omega)
      obtain ⟨z1, o1, q1⟩ := own_cellX HO1.out (i := k * 3 + 1) (by rw [hl1.out]; omega)
      obtain ⟨z2, o2, q2⟩ := own_cellX HO1.out (i := k * 3 + 2) (by rw [hl1.out]; omega)
      have o1' : (w1.setCell ⟨w.heap.size, k * 3, none⟩ (.int .i64 x0)).cell? ⟨w.heap.size, k * 3 + 1, none⟩ = some z1 := by
        rw [World.cell?_setCell_other _ _ _ _ (offs_ne (by omega))]; exact o1
      have o2' : ((w1.setCell ⟨w.heap.size, k * 3, none⟩ (.int .i64 x0)).setCell ⟨w.heap.size, k * 3 + 1, none⟩ (.int .i64 x1)).cell? ⟨w.heap.size, k * 3 + 2, none⟩ = some z2 := by
        rw [World.cell?_setCell_other _ _ _ _ (offs_ne (by omega)), World.cell?_setCell_other _ _ _ _ (offs_ne (by omega))]; exact o2
      go_wp2_with fail
      refine ⟨⟨k + 1, by omega, by go_num, ((HB.out.setCell (Nat.le_refl _) _).setCell (Nat.le_refl _) _).setCell (Nat.le_refl _) _, ?_⟩, by simp [intOf]; omega⟩
      have e0 := fill_set (cellsMl L) zs (k * 3) (.int .i64 x0) (by rw [HZ.out]; omega) (by rw [(cellsMl_get L k HK.out).1, hy.out])
      have e1 := fill_set (cellsMl L) zs (k * 3 + 1) (.int .i64 x1) (by rw [HZ.out]; omega) (by rw [(cellsMl_get L k HK.out).2.1, hy.out])
      have e2 := fill_set (cellsMl L) zs (k * 3 + 2) (.string x2) (by rw [HZ.out]; omega) (by rw [(cellsMl_get L k HK.out).2.2, hy.out])
      have s0 := own_set HO1.out (k * 3) (by rw [hl1.out]; omega) (.int .i64 x0)
      rw [e0] at s0
      have s1 := own_set s0 (k * 3 + 1) (by rw [fill_length _ _ _ (HZ.out.trans HL.out.symm), HL.out]; omega) (.int .i64 x1)
      rw [e1] at s1
      have s2 := own_set s1 (k * 3 + 2) (by rw [fill_length _ _ _ (HZ.out.trans HL.out.symm), HL.out]; omega) (.string x2)
      rw [e2] at s2
      rw [show (k + 1) * 3 = k * 3 + 2 + 1 from by omega]
      exact s2
    · have hkn : k = n := by omega
      have HF : Hid (wr.ownsRow w.heap.size 39 3 (.slice (some ⟨w.heap.size, 0, none⟩) n n) n (cellsMl L)) := own_congr ho.out (by rw [hkn]; exact fill_all HL.out HZ.out)
      clear hkn
      go_wp2_with fail
      go_ret
      exact ⟨_, rfl, HF.out, hb.out⟩

set_option maxHeartbeats 1000000 in
theorem szMailS (a : Option Addr) (n c : Nat) (L : List MMl) (l : Int) (w : World) (hL : L.length = n) (hn : n ≤ maxLen) (hs : ∀ x ∈ L, x.2.2.size ≤ maxLen) (h0 : 0 ≤ l) (h1 : l ≤ 1048576) (h : Src w a (cellsMl L)) :
    Calls Tryd.prog 26 #[.slice a n c, .int .i64 l] w fun e w' => ∃ r : Int, e = .returned (.int .i64 r) ∧ r ≤ l ∧ (0 ≤ r → r + n ≤ l ∧ n ≤ 1048576 ∧ ∀ x ∈ L, x.2.2.size ≤ 1048576) ∧ Below w.heap.size w w' := by
  unfold maxLen at hn
  by_cases hbig : l < n
  · clear h hs hL
    go_enter Tryd.func26, Tryd.ntmps26
    go_wp2_with fail
    go_ret
    exact ⟨-1, rfl, by omega, fun h => absurd h (by omega), Below.refl _ _⟩
  have HS : Hid (∀ i, i < n → (L.getD i ml0).2.2.size ≤ maxLen) := fun i hi => hs _ (by
    rw [List.getD_eq_getElem?_getD, List.getElem?_eq_getElem (by omega)]; exact List.getElem_mem _)
  have HH : Hid (Src w a (cellsMl L)) := h
  have HL : Hid (L.length = n) := hL
  clear hs h hL
  go_enter Tryd.func26, Tryd.ntmps26
  go_wp2_with fail
  go_loopw [1, 5] (fun v i wr => ∃ (k : Nat) (x : Int), k ≤ n ∧ i = .int .i64 k ∧ v = .int .i64 x ∧ 0 ≤ x ∧ x + n ≤ l ∧ Hid (∀ i, i < k → (L.getD i ml0).2.2.size ≤ 1048576) ∧ Hid (Below w.heap.size w wr)) (fun _ i _ => n - (intOf i).toNat)
  case atStart => exact ⟨0, _, by omega, rfl, rfl, by omega, by omega, fun i hi => absurd hi (by omega), Below.refl _ _⟩
  case round =>
    obtain ⟨k, x, hk, rfl, rfl, hx0, hx1, hall, hb⟩ := hrel
    by_cases hlt : k < n
    · obtain ⟨b, o, x0, x1, x2, rfl, hc0, hc1, hc2, hy⟩ := srcMl (HH.out.below hb.out) (i := k) (by rw [HL.out]; exact hlt)
      have hsz := HS.out k hlt
      rw [hy.out] at hsz
      have HSZ : Hid (x2.size ≤ maxLen) := hsz
      clear hsz
      go_wp2_with fail
      refine (szMail x0 x1 x2 x _ HSZ.out hx0 (by omega)).mono ?_
      rintro e w1 ⟨r, rfl, hr1, hr2, hb1⟩
      have HB1 : Hid (Below w.heap.size w w1) := hb.out.trans (hb1.mono hb.out.size)
      clear hb1
      by_cases hneg : r < 0
      · clear hr2
        go_wp2_with fail
        go_ret
        exact ⟨-1, rfl, by omega, fun h => absurd h (by omega), HB1.out⟩
      · have hr3 := hr2 (by omega)
        have hall2 : Hid (∀ i, i < k + 1 → (L.getD i ml0).2.2.size ≤ 1048576) := fun i hi => by
          by_cases e : i = k
          · rw [e, hy.out]; show x2.size ≤ 1048576; omega
          · exact hall.out i (by omega)
        clear hr2 hr3
        go_wp2_with fail
        exact ⟨⟨k + 1, _, by omega, by go_num, rfl, by omega, by omega, hall2, HB1.out⟩, by simp [intOf]; omega⟩
    · have hkn : k = n := by omega
      have hall' : Hid (∀ x ∈ L, x.2.2.size ≤ 1048576) := fun y hy => by
        obtain ⟨i, hi, rfl⟩ := List.getElem_of_mem hy
        have := hall.out i (by rw [hkn, ← HL.out]; exact hi)
        rw [List.getD_eq_getElem?_getD, List.getElem?_eq_getElem hi] at this
        exact this
      clear hkn
      go_wp2_with fail
      go_ret
      exact ⟨x, rfl, by omega, fun _ => ⟨hx1, by omega, hall'.out⟩, hb.out⟩

set_option maxHeartbeats 1000000 in
theorem eqMailS (a b : Option Addr) (n c d : Nat) (L : List MMl) (w : World) (hL : L.length = n) (hn : n ≤ 9000000000000000000) (ha : Src w a (cellsMl L)) (hb : Src w b (cellsMl L)) :
    Calls Tryd.prog 29 #[.slice a n c, .slice b n d] w fun e w' => e = .returned (.bool true) ∧ Below w.heap.size w w' := by
  have hne : ((n : Int) != (n : Int)) = false := by simp
  have HA : Hid (Src w a (cellsMl L)) := ha
  have HB : Hid (Src w b (cellsMl L)) := hb
  have HL : Hid (L.length = n) := hL
  clear ha hb hL
  go_enter Tryd.func29, Tryd.ntmps29
  go_wp2_with fail
  go_loopw [5] (fun i wr => ∃ k : Nat, k ≤ n ∧ i = .int .i64 k ∧ Hid (Below w.heap.size w wr)) (fun i _ => n - (intOf i).toNat)
  case atStart => exact ⟨0, by omega, rfl, Below.refl _ _⟩
  case round =>
    obtain ⟨k, hk, rfl, hB⟩ := hrel
    by_cases hlt : k < n
    · obtain ⟨b1, o1, x0, x1, x2, rfl, p0, p1, p2, hy1⟩ := srcMl (HA.out.below hB.out) (i := k) (by rw [HL.out]; exact hlt)
      obtain ⟨b2, o2, x0', x1', x2', rfl, r0, r1, r2, hy2⟩ := srcMl (HB.out.below hB.out) (i := k) (by rw [HL.out]; exact hlt)
      obtain ⟨rfl, rfl, rfl⟩ : x0 = x0' ∧ x1 = x1' ∧ x2 = x2' := by have := hy1.out.symm.trans hy2.out; simpa using this
      have hk0 : (0 : Int) ≤ (k : Int) := by omega
      have hki : (k : Int) < (n : Int) := by omega
      go_wp2_with fail
      go_region_with (go_at_call 56; refine (eqMail _ _ _ _).mono ?_; rintro e w1 ⟨rfl, hb1⟩)
      all_goals go_wp2_with fail
      all_goals exact ⟨⟨k + 1, by omega, by go_num, hB.out.drew.trans (hb1.mono hB.out.size)⟩, by simp [intOf]; omega⟩
    · go_wp2_with fail
      go_ret
      exact ⟨rfl, hB.out⟩

set_option maxHeartbeats 2000000 in
theorem markMailS (v : Value) (n k base : Nat) (xs : List Value) (w : World) (hn : n ≤ 1048576) (hk0 : 0 < k) (hk1 : k ≤ 4194304) (ho : w.ownsRow base 39 3 v n xs) :
    Calls Tryd.prog 30 #[v, .int .i64 (k : Int)] w fun e w' => e = .returned (.int .i64 ((k + n * 3 : Nat) : Int)) ∧ w.grownBy w' v.ownBlock ∧ w'.ownsRow base 39 3 v n (cellsMl (mkMl k n)) := by
  have hlen := ho.1
  have hcase := ho.2
  rcases hcase with ⟨rfl, h0⟩ | ⟨B, cap, cur, rfl, _⟩
  · subst h0
    clear ho hlen
    go_enter Tryd.func30, Tryd.ntmps30
    go_wp2_with fail
    go_loop [1, 5] (fun kk i => i = .int .i64 0 ∧ kk = .int .i64 (k : Int)) (fun _ _ => 0)
    case atStart => exact ⟨rfl, rfl⟩
    case round =>
      obtain ⟨rfl, rfl⟩ := hrel
      go_wp2_with fail
      go_ret
      exact ⟨rfl, gb_refl _ _, World.ownsRow_nil _ _ _ _⟩
  have HO : Hid (w.ownsRow base 39 3 (.slice (some ⟨B, 0, none⟩) n cap) n xs) := ho
  have HN : Hid (xs.length = n * 3) := hlen
  have HM : Hid ((cellsMl (mkMl k n)).length = n * 3) := by show (cellsMl (mkMl k n)).length = n * 3; rw [cellsMl_length, mkMl_length]
  clear ho hlen
  go_enter Tryd.func30, Tryd.ntmps30
  go_wp2_with fail
  go_loopw [1, 5] (fun kk i wr => ∃ j x : Nat, j ≤ n ∧ i = .int .i64 (j : Int) ∧ kk = .int .i64 (x : Int) ∧ x ≤ 16777216 ∧ 0 < x ∧ Hid (x = k + j * 3) ∧ Hid (w.grownBy wr (some B)) ∧ Hid (wr.ownsRow base 39 3 (.slice (some ⟨B, 0, none⟩) n cap) n ((cellsMl (mkMl k n)).take (j * 3) ++ xs.drop (j * 3)))) (fun _ i _ => n - (intOf i).toNat)
  case atStart => exact ⟨0, k, by omega, rfl, rfl, by omega, by omega, by show k = k + 0 * 3; omega, gb_refl _ _, by simpa [Hid] using HO.out⟩
  case round =>
    obtain ⟨j, x, hj, rfl, rfl, hx1, hx0, hx, hg, hO⟩ := hrel
    by_cases hlt : j < n
    · have hjn : (j : Int) < (n : Int) := by omega
      have hj0 : (0 : Int) ≤ (j : Int) := by omega
      have hxb : Hid (x + 3 ≤ 16777216) := by show x + 3 ≤ 16777216; have := hx.out; omega
      have HJ : Hid (j < (mkMl k n).length) := by show j < (mkMl k n).length; rw [mkMl_length]; exact hlt
      obtain ⟨z0, o0, q0⟩ := own_cellX hO.out (i := j * 3) (by rw [fill_length _ _ _ (HN.out.trans HM.out.symm), HM.out]; omega)
      obtain ⟨z1, o1, q1⟩ := own_cellX hO.out (i := j * 3 + 1) (by rw [fill_length _ _ _ (HN.out.trans HM.out.symm), HM.out]; omega)
      have o1' : (wr.setCell ⟨B, j * 3, none⟩ (.int .i64 ((x : Int)))).cell? ⟨B, j * 3 + 1, none⟩ = some z1 := by
        rw [World.cell?_setCell_other _ _ _ _ (offs_ne (by omega))]; exact o1
      have e0 := fill_set (cellsMl (mkMl k n)) xs (j * 3) (.int .i64 ((x : Int))) (by rw [HN.out]; omega) (by rw [(cellsMl_get _ j HJ.out).1, mkMl_get _ _ _ hlt, ← hx.out]; try simp)
      have s0 := own_set hO.out (j * 3) (by rw [fill_length _ _ _ (HN.out.trans HM.out.symm), HM.out]; omega) (.int .i64 ((x : Int)))
      rw [e0] at s0
      have e1 := fill_set (cellsMl (mkMl k n)) xs (j * 3 + 1) (.int .i64 ((x : Int) + 1)) (by rw [HN.out]; omega) (by rw [(cellsMl_get _ j HJ.out).2.1, mkMl_get _ _ _ hlt, ← hx.out]; try simp)
      have s1 := own_set s0 (j * 3 + 1) (by rw [fill_length _ _ _ (HN.out.trans HM.out.symm), HM.out]; omega) (.int .i64 ((x : Int) + 1))
      rw [e1] at s1
      have S0 : Hid (((wr.setCell ⟨B, j * 3, none⟩ (.int .i64 ((x : Int)))).setCell ⟨B, j * 3 + 1, none⟩ (.int .i64 ((x : Int) + 1))).ownsRow base 39 3 (.slice (some ⟨B, 0, none⟩) n cap) n ((cellsMl (mkMl k n)).take (j * 3 + 1 + 1) ++ xs.drop (j * 3 + 1 + 1))) := s1
      have GG0 : Hid (w.grownBy ((wr.setCell ⟨B, j * 3, none⟩ (.int .i64 ((x : Int)))).setCell ⟨B, j * 3 + 1, none⟩ (.int .i64 ((x : Int) + 1))) (some B)) := gb_set (gb_set (hg.out) _ _) _ _
      clear s0 e0 s1 e1 hO hg
      go_wp2_with fail
      first | rw [show ((x : Int) + 2) = ((x + 2 : Nat) : Int) from by omega] | rw [show ((x : Int) + 1 + 1) = ((x + 2 : Nat) : Int) from by omega]
      refine (markText (x + 2) _ (by omega) (by omega)).mono ?_
      rintro e w1 ⟨rfl, hb1⟩
      have O1 : Hid (w1.ownsRow base 39 3 (.slice (some ⟨B, 0, none⟩) n cap) n ((cellsMl (mkMl k n)).take (j * 3 + 1 + 1) ++ xs.drop (j * 3 + 1 + 1))) := own_below S0.out hb1
      have G1 : Hid (w.grownBy w1 (some B)) := gb_below GG0.out hb1
      clear S0 GG0 hb1 o0 q0 o1 q1 o1'
      obtain ⟨z2, o2, q2⟩ := own_cellX O1.out (i := j * 3 + 2) (by rw [fill_length _ _ _ (HN.out.trans HM.out.symm), HM.out]; omega)
      have e2 := fill_set (cellsMl (mkMl k n)) xs (j * 3 + 2) (.string (markT (x + 2))) (by rw [HN.out]; omega) (by rw [(cellsMl_get _ j HJ.out).2.2, mkMl_get _ _ _ hlt, ← hx.out])
      have s2 := own_set O1.out (j * 3 + 2) (by rw [fill_length _ _ _ (HN.out.trans HM.out.symm), HM.out]; omega) (.string (markT (x + 2)))
      rw [e2] at s2
      have S1 : Hid ((w1.setCell ⟨B, j * 3 + 2, none⟩ (.string (markT (x + 2)))).ownsRow base 39 3 (.slice (some ⟨B, 0, none⟩) n cap) n ((cellsMl (mkMl k n)).take (j * 3 + 2 + 1) ++ xs.drop (j * 3 + 2 + 1))) := s2
      have GG1 : Hid (w.grownBy (w1.setCell ⟨B, j * 3 + 2, none⟩ (.string (markT (x + 2)))) (some B)) := gb_set (G1.out) _ _
      clear s2 e2 O1 G1
      go_wp2_with fail
      exact ⟨⟨j + 1, x + 3, by omega, by go_num, by go_num, hxb.out, by omega, by show x + 3 = k + (j + 1) * 3; have := hx.out; omega, GG1, by rw [show (j + 1) * 3 = j * 3 + 2 + 1 from by omega]; exact S1⟩, by simp [intOf]; omega⟩
    · have hjn : j = n := by omega
      have E : Hid ((x : Int) = ((k + n * 3 : Nat) : Int)) := by show (x : Int) = ((k + n * 3 : Nat) : Int); rw [hx.out, hjn]
      have O1 : Hid (wr.ownsRow base 39 3 (.slice (some ⟨B, 0, none⟩) n cap) n (cellsMl (mkMl k n))) := own_congr hO.out (by rw [hjn]; exact fill_all HM.out HN.out)
      clear hjn hO
      go_wp2_with fail
      go_ret
      exact ⟨by show Ending.returned (.int .i64 (x : Int)) = _; rw [E.out], hg.out, O1.out⟩

end Go.Proofs.YtgbhjhbmolgbeaaDoor
