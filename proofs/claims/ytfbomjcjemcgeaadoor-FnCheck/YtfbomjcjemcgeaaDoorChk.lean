
/-
  The law FnCheck: places and bits, and the walk. By an AI agent.
-/
import Derived.Test.YtfbomjcjemcgeaaDoorSeal
import Derived.Deep.RegionHeld3
namespace Go.Proofs.YtfbomjcjemcgeaaDoor
open Go.ChangeShapes Go.WideShapes Go.ChangeAt Go.RowKit Go.Deep
set_option linter.unusedVariables false
set_option maxRecDepth 100000

theorem srcB_at {w : World} {b o : Nat} {M : List Nat} (h : Src w (some ⟨b, o, none⟩) (cellsB M)) {i : Nat} (hi : i < M.length) : w.cell? ⟨b, o + i, none⟩ = some (.int .u8 ((M.getD i 0 : Nat) : Int)) := by
  rcases h with h | ⟨b', o', e, hc⟩
  · have h2 := cellsB_length M
    rw [h] at h2
    simp only [List.length_nil] at h2
    omega
  · cases e
    have h1 := hc i (by rw [cellsB_length]; exact hi)
    rwa [getD_some (cellsB_get M i hi)] at h1
set_option maxHeartbeats 2000000 in
theorem lawAt (a : Option Addr) (m c : Nat) (M : List Nat) (i n : Nat) (w : World) (hM : M.length = m) (hm : m ≤ 1048576) (hi : i ≤ 1) (hn0 : 1 ≤ n) (hn : n ≤ 65536) (hlt : ∀ x ∈ M, x < 256) (h : Src w a (cellsB M)) :
    Calls Tryd.prog 11 #[.slice a m c, .int .i64 (i : Int), .int .i64 (n : Int)] w fun e w' => ∃ x : Nat, e = .returned (.int .i64 (x : Int)) ∧ x < n ∧ Below w.heap.size w w' := by
  by_cases h1 : (n : Int) ≤ 1
  · go_enter Tryd.func11, Tryd.ntmps11
    go_wp2_with fail
    go_ret
    exact ⟨0, rfl, by omega, Below.refl _ _⟩
  by_cases h0 : m = 0
  · subst h0
    have hr : Int.tmod ((i : Int) * 7) (n : Int) = ((i * 7 % n : Nat) : Int) := by
      rw [Int.tmod_eq_emod_of_nonneg (by omega)]; simp
    have hx : Hid (i * 7 % n < n) := Nat.mod_lt _ (by omega)
    obtain ⟨x, hx9⟩ : ∃ x, i * 7 % n = x := ⟨_, rfl⟩
    rw [hx9] at hr hx
    have hne : ((n : Int) == 0) = false := by simp; omega
    have hne2 : ¬ (n : Int) = 0 := by omega
    clear hx9
    go_enter Tryd.func11, Tryd.ntmps11
    go_wp2_with fail
    go_ret
    exact ⟨x, rfl, hx.out, Below.refl _ _⟩
  have hm1 : ((m : Int) == 0) = false := by simp; omega
  obtain ⟨b, o, rfl⟩ : ∃ b o, a = some ⟨b, o, none⟩ := by
    rcases h with h | ⟨b, o, rfl, _⟩
    · have h2 := cellsB_length M
      rw [h] at h2
      simp only [List.length_nil] at h2
      omega
    · exact ⟨b, o, rfl⟩
  have HS : Hid (Src w (some ⟨b, o, none⟩) (cellsB M)) := h
  obtain ⟨p1, hp1⟩ : ∃ p, i % m = p := ⟨_, rfl⟩
  obtain ⟨p2, hp2⟩ : ∃ p, (i + 1) % m = p := ⟨_, rfl⟩
  obtain ⟨d1, hd1⟩ : ∃ p, i / m = p := ⟨_, rfl⟩
  have p1l : p1 < m := by rw [← hp1]; exact Nat.mod_lt _ (by omega)
  have p2l : p2 < m := by rw [← hp2]; exact Nat.mod_lt _ (by omega)
  have d1l : d1 ≤ 1 := by rw [← hd1]; exact Nat.le_trans (Nat.div_le_self _ _) hi
  obtain ⟨y1, hy1⟩ : ∃ y, M.getD p1 0 = y := ⟨_, rfl⟩
  obtain ⟨y2, hy2⟩ : ∃ y, M.getD p2 0 = y := ⟨_, rfl⟩
  have e0 : w.cell? ⟨b, o + p1, none⟩ = some (.int .u8 (y1 : Int)) := by rw [← hy1]; exact srcB_at h (by omega)
  have e1 : w.cell? ⟨b, o + p2, none⟩ = some (.int .u8 (y2 : Int)) := by rw [← hy2]; exact srcB_at h (by omega)
  have y1l : y1 < 256 := by rw [← hy1]; exact zL_lt hlt p1
  have y2l : y2 < 256 := by rw [← hy2]; exact zL_lt hlt p2
  have R1 : Int.tmod (i : Int) (m : Int) = (p1 : Int) := by rw [Int.tmod_eq_emod_of_nonneg (by omega), ← hp1]; simp
  have R2 : Int.tmod ((i : Int) + 1) (m : Int) = (p2 : Int) := by rw [Int.tmod_eq_emod_of_nonneg (by omega), ← hp2]; simp
  have Q1 : Int.tdiv (i : Int) (m : Int) = (d1 : Int) := by rw [Int.tdiv_eq_ediv_of_nonneg (by omega), ← hd1]; simp
  obtain ⟨s, hs9⟩ : ∃ s, y1 * 31 + y2 + d1 = s := ⟨_, rfl⟩
  obtain ⟨x, hx9⟩ : ∃ x, s % n = x := ⟨_, rfl⟩
  have hxl : x < n := by rw [← hx9]; exact Nat.mod_lt _ (by omega)
  have sl : s ≤ 10000 := by omega
  have R3 : Int.tmod (s : Int) (n : Int) = (x : Int) := by rw [Int.tmod_eq_emod_of_nonneg (by omega), ← hx9]; simp
  have A1 : (y1 : Int) * 31 + (y2 : Int) + (d1 : Int) = (s : Int) := by omega
  have w1 : IntKind.i64.wrap ((i : Int) + 1) = (i : Int) + 1 := by rw [IntKind.wrap_i64]; omega
  have w2 : IntKind.i64.wrap ((y1 : Int) * 31) = (y1 : Int) * 31 := by rw [IntKind.wrap_i64]; omega
  have w3 : IntKind.i64.wrap ((y1 : Int) * 31 + (y2 : Int)) = (y1 : Int) * 31 + (y2 : Int) := by rw [IntKind.wrap_i64]; omega
  have w4 : IntKind.i64.wrap ((s : Nat) : Int) = (s : Int) := by rw [IntKind.wrap_i64]; omega
  have w5 : IntKind.i64.wrap ((p1 : Nat) : Int) = (p1 : Int) := by rw [IntKind.wrap_i64]; omega
  have w6 : IntKind.i64.wrap ((p2 : Nat) : Int) = (p2 : Int) := by rw [IntKind.wrap_i64]; omega
  have w7 : IntKind.i64.wrap ((d1 : Nat) : Int) = (d1 : Int) := by rw [IntKind.wrap_i64]; omega
  have w8 : IntKind.i64.wrap ((x : Nat) : Int) = (x : Int) := by rw [IntKind.wrap_i64]; omega
  have wy1 : IntKind.i64.wrap ((y1 : Nat) : Int) = (y1 : Int) := by rw [IntKind.wrap_i64]; omega
  have wy2 : IntKind.i64.wrap ((y2 : Nat) : Int) = (y2 : Int) := by rw [IntKind.wrap_i64]; omega
  have hne : ¬ (n : Int) = 0 := by omega
  have hme : ¬ (m : Int) = 0 := by omega
  have hnz : ¬ n = 0 := by omega
  have pp0 : (0 : Int) ≤ (p1 : Int) := by omega
  have pp1 : (p1 : Int) < (m : Int) := by omega
  have pp2 : (0 : Int) ≤ (p2 : Int) := by omega
  have pp3 : (p2 : Int) < (m : Int) := by omega
  clear hp1 hp2 hd1 hy1 hy2 hs9 hx9 h hlt hM
  go_enter Tryd.func11, Tryd.ntmps11
  go_wp2_with fail
  refine wp_region_noPanic ?_
  refine wp_region_held_drew (S := (fun w' => w'.cell? ⟨b, o + p1, none⟩ = some (.int .u8 (y1 : Int)) ∧ w'.cell? ⟨b, o + p2, none⟩ = some (.int .u8 (y2 : Int)))) (by kernel_rfl) ⟨e0, e1⟩ (fun hHeld => ?_)
  refine wpAnyH_take (i := 0) (v := .slice (some ⟨b, o, none⟩) m c) rfl (by kernel_rfl) (by kernel_rfl) (by kernel_rfl) (fun _ _ _ h => h) (Or.inl ⟨by rfl, ?_⟩) hHeld ?_
  · intro w9 hSw
    obtain ⟨s0, s1⟩ := hSw
    go_simp
  refine wpAnyH_take (i := 1) (v := .int .i64 (i : Int)) rfl (by kernel_rfl) (by kernel_rfl) (by kernel_rfl) (fun _ _ _ h => h) (Or.inl ⟨by rfl, ?_⟩) hHeld ?_
  · intro w9 hSw
    obtain ⟨s0, s1⟩ := hSw
    go_simp
  refine wpAnyH_take (i := 2) (v := .slice (some ⟨b, o, none⟩) m c) rfl (by kernel_rfl) (by kernel_rfl) (by kernel_rfl) (fun _ _ _ h => h) (Or.inl ⟨by rfl, ?_⟩) hHeld ?_
  · intro w9 hSw
    obtain ⟨s0, s1⟩ := hSw
    go_simp
  refine wpAnyH_take (i := 3) (v := .int .i64 (m : Int)) rfl (by kernel_rfl) (by kernel_rfl) (by kernel_rfl) (fun _ _ _ h => h) (Or.inl ⟨by rfl, ?_⟩) hHeld ?_
  · intro w9 hSw
    obtain ⟨s0, s1⟩ := hSw
    go_simp
  refine wpAnyH_take (i := 4) (v := .int .i64 (p1 : Int)) rfl (by kernel_rfl) (by kernel_rfl) (by kernel_rfl) (fun _ _ _ h => h) (Or.inl ⟨by rfl, ?_⟩) hHeld ?_
  · intro w9 hSw
    obtain ⟨s0, s1⟩ := hSw
    go_simp
  refine wpAnyH_take (i := 5) (v := .pointer (some ⟨b, o + p1, none⟩)) rfl (by kernel_rfl) (by kernel_rfl) (by kernel_rfl) (fun _ _ _ h => h) (Or.inl ⟨by rfl, ?_⟩) hHeld ?_
  · intro w9 hSw
    obtain ⟨s0, s1⟩ := hSw
    go_simp
  refine wpAnyH_take (i := 6) (v := .int .u8 (y1 : Int)) rfl (by kernel_rfl) (by kernel_rfl) (by kernel_rfl) (fun _ _ _ h => h) (Or.inl ⟨by rfl, ?_⟩) hHeld ?_
  · intro w9 hSw
    obtain ⟨s0, s1⟩ := hSw
    go_simp
  refine wpAnyH_take (i := 7) (v := .int .i64 (y1 : Int)) rfl (by kernel_rfl) (by kernel_rfl) (by kernel_rfl) (fun _ _ _ h => h) (Or.inl ⟨by rfl, ?_⟩) hHeld ?_
  · intro w9 hSw
    obtain ⟨s0, s1⟩ := hSw
    go_simp
  refine wpAnyH_take (i := 8) (v := .int .i64 ((y1 : Int) * 31)) rfl (by kernel_rfl) (by kernel_rfl) (by kernel_rfl) (fun _ _ _ h => h) (Or.inl ⟨by rfl, ?_⟩) hHeld ?_
  · intro w9 hSw
    obtain ⟨s0, s1⟩ := hSw
    go_simp
  refine wpAnyH_take (i := 9) (v := .slice (some ⟨b, o, none⟩) m c) rfl (by kernel_rfl) (by kernel_rfl) (by kernel_rfl) (fun _ _ _ h => h) (Or.inl ⟨by rfl, ?_⟩) hHeld ?_
  · intro w9 hSw
    obtain ⟨s0, s1⟩ := hSw
    go_simp
  refine wpAnyH_take (i := 10) (v := .int .i64 (i : Int)) rfl (by kernel_rfl) (by kernel_rfl) (by kernel_rfl) (fun _ _ _ h => h) (Or.inl ⟨by rfl, ?_⟩) hHeld ?_
  · intro w9 hSw
    obtain ⟨s0, s1⟩ := hSw
    go_simp
  refine wpAnyH_take (i := 11) (v := .int .i64 ((i : Int) + 1)) rfl (by kernel_rfl) (by kernel_rfl) (by kernel_rfl) (fun _ _ _ h => h) (Or.inl ⟨by rfl, ?_⟩) hHeld ?_
  · intro w9 hSw
    obtain ⟨s0, s1⟩ := hSw
    go_simp
  refine wpAnyH_take (i := 12) (v := .slice (some ⟨b, o, none⟩) m c) rfl (by kernel_rfl) (by kernel_rfl) (by kernel_rfl) (fun _ _ _ h => h) (Or.inl ⟨by rfl, ?_⟩) hHeld ?_
  · intro w9 hSw
    obtain ⟨s0, s1⟩ := hSw
    go_simp
  refine wpAnyH_take (i := 13) (v := .int .i64 (m : Int)) rfl (by kernel_rfl) (by kernel_rfl) (by kernel_rfl) (fun _ _ _ h => h) (Or.inl ⟨by rfl, ?_⟩) hHeld ?_
  · intro w9 hSw
    obtain ⟨s0, s1⟩ := hSw
    go_simp
  refine wpAnyH_take (i := 14) (v := .int .i64 (p2 : Int)) rfl (by kernel_rfl) (by kernel_rfl) (by kernel_rfl) (fun _ _ _ h => h) (Or.inl ⟨by rfl, ?_⟩) hHeld ?_
  · intro w9 hSw
    obtain ⟨s0, s1⟩ := hSw
    go_simp
  refine wpAnyH_take (i := 15) (v := .pointer (some ⟨b, o + p2, none⟩)) rfl (by kernel_rfl) (by kernel_rfl) (by kernel_rfl) (fun _ _ _ h => h) (Or.inl ⟨by rfl, ?_⟩) hHeld ?_
  · intro w9 hSw
    obtain ⟨s0, s1⟩ := hSw
    go_simp
  refine wpAnyH_take (i := 16) (v := .int .u8 (y2 : Int)) rfl (by kernel_rfl) (by kernel_rfl) (by kernel_rfl) (fun _ _ _ h => h) (Or.inl ⟨by rfl, ?_⟩) hHeld ?_
  · intro w9 hSw
    obtain ⟨s0, s1⟩ := hSw
    go_simp
  refine wpAnyH_take (i := 17) (v := .int .i64 (y2 : Int)) rfl (by kernel_rfl) (by kernel_rfl) (by kernel_rfl) (fun _ _ _ h => h) (Or.inl ⟨by rfl, ?_⟩) hHeld ?_
  · intro w9 hSw
    obtain ⟨s0, s1⟩ := hSw
    go_simp
  refine wpAnyH_take (i := 18) (v := .int .i64 ((y1 : Int) * 31 + (y2 : Int))) rfl (by kernel_rfl) (by kernel_rfl) (by kernel_rfl) (fun _ _ _ h => h) (Or.inl ⟨by rfl, ?_⟩) hHeld ?_
  · intro w9 hSw
    obtain ⟨s0, s1⟩ := hSw
    go_simp
  refine wpAnyH_take (i := 19) (v := .int .i64 (i : Int)) rfl (by kernel_rfl) (by kernel_rfl) (by kernel_rfl) (fun _ _ _ h => h) (Or.inl ⟨by rfl, ?_⟩) hHeld ?_
  · intro w9 hSw
    obtain ⟨s0, s1⟩ := hSw
    go_simp
  refine wpAnyH_take (i := 20) (v := .slice (some ⟨b, o, none⟩) m c) rfl (by kernel_rfl) (by kernel_rfl) (by kernel_rfl) (fun _ _ _ h => h) (Or.inl ⟨by rfl, ?_⟩) hHeld ?_
  · intro w9 hSw
    obtain ⟨s0, s1⟩ := hSw
    go_simp
  refine wpAnyH_take (i := 21) (v := .int .i64 (m : Int)) rfl (by kernel_rfl) (by kernel_rfl) (by kernel_rfl) (fun _ _ _ h => h) (Or.inl ⟨by rfl, ?_⟩) hHeld ?_
  · intro w9 hSw
    obtain ⟨s0, s1⟩ := hSw
    go_simp
  refine wpAnyH_take (i := 22) (v := .int .i64 (d1 : Int)) rfl (by kernel_rfl) (by kernel_rfl) (by kernel_rfl) (fun _ _ _ h => h) (Or.inl ⟨by rfl, ?_⟩) hHeld ?_
  · intro w9 hSw
    obtain ⟨s0, s1⟩ := hSw
    go_simp
  refine wpAnyH_take (i := 23) (v := .int .i64 (s : Int)) rfl (by kernel_rfl) (by kernel_rfl) (by kernel_rfl) (fun _ _ _ h => h) (Or.inl ⟨by rfl, ?_⟩) hHeld ?_
  · intro w9 hSw
    obtain ⟨s0, s1⟩ := hSw
    go_simp
  refine wpAnyH_take (i := 24) (v := .int .i64 (n : Int)) rfl (by kernel_rfl) (by kernel_rfl) (by kernel_rfl) (fun _ _ _ h => h) (Or.inl ⟨by rfl, ?_⟩) hHeld ?_
  · intro w9 hSw
    obtain ⟨s0, s1⟩ := hSw
    go_simp
  refine wpAnyH_take (i := 25) (v := .int .i64 (x : Int)) rfl (by kernel_rfl) (by kernel_rfl) (by kernel_rfl) (fun _ _ _ h => h) (Or.inl ⟨by rfl, ?_⟩) hHeld ?_
  · intro w9 hSw
    obtain ⟨s0, s1⟩ := hSw
    go_simp
  refine wpAnyH_ready (rs := [26]) (by kernel_rfl) (by simp) ?_
  refine AllReadyH.cons rfl (fun K hK => ?_) AllReadyH.nil
  go_simp
  refine hK.out _ _ ⟨e0, e1⟩ (fun hHeld => ?_)
  clear hK K
  refine wpAnyH_done (by kernel_rfl) ?_ _
  refine NoPanic.normal ?_
  go_wp2_with fail
  go_ret
  exact ⟨x, rfl, hxl, (Below.refl _ _).drew⟩

theorem mask_at (b : Nat) (h : b < 8) : 2 ^ b < 256 ∧ 2 ^ b ≠ 0 := by
  refine ⟨?_, by simp⟩
  have : 2 ^ b < 2 ^ 8 := Nat.pow_lt_pow_right (by omega) h
  simpa using this
set_option maxHeartbeats 2000000 in
theorem checkWalk (a ma : Option Addr) (c mc : Nat) (L M : List Nat) (w : World) (hL9 : L.length ≤ maxLen) (hM9 : M.length ≤ maxLen) (hlt : ∀ x ∈ L, x < 256) (hmt : ∀ x ∈ M, x < 256) (h : Src w a (cellsB L)) (hm : Src w ma (cellsB M)) (hH : HasHalf w) :
    Calls Tryd.prog 3 #[.slice a L.length c, .slice ma M.length mc] w fun e w' => e = .returned (.bool true) ∧ Below w.heap.size w w' := by
  unfold maxLen at hL9 hM9
  obtain ⟨n, hn⟩ : ∃ n, L.length = n := ⟨_, rfl⟩
  obtain ⟨m, hm9⟩ : ∃ m, M.length = m := ⟨_, rfl⟩
  have HN : Hid (L.length = n ∧ M.length = m) := ⟨hn, hm9⟩
  have HB : Hid ((∀ x ∈ L, x < 256) ∧ (∀ x ∈ M, x < 256)) := ⟨hlt, hmt⟩
  have HS : Hid (Src w a (cellsB L) ∧ Src w ma (cellsB M)) := ⟨h, hm⟩
  have HH : Hid (HasHalf w) := hH
  rw [hn] at hL9
  rw [hm9] at hM9
  rw [hn, hm9]
  clear hlt hmt h hm hH hn hm9
  by_cases t1 : (1048576 : Int) < (n : Int)
  · go_enter Tryd.func3, Tryd.ntmps3
    go_wp2_with fail
    go_ret
    exact ⟨rfl, Below.refl _ _⟩
  by_cases t2 : (1048576 : Int) < (m : Int)
  · go_enter Tryd.func3, Tryd.ntmps3
    go_wp2_with fail
    go_ret
    exact ⟨rfl, Below.refl _ _⟩
  have n20 : n ≤ 1048576 := by omega
  have m20 : m ≤ 1048576 := by omega
  by_cases t3 : (65536 : Int) < (n : Int)
  · have Z : Hid (sumL L = 0) := by show sumL L = 0; unfold sumL crc; rw [HN.out.1, if_pos (by omega)]
    go_enter Tryd.func3, Tryd.ntmps3
    go_wp2_with fail
    refine (check32L a n c L _ HN.out.1 n20 HB.out.1 HS.out.1 HH.out).mono ?_
    rw [Z.out]
    rintro e w1 ⟨rfl, rfl⟩
    go_wp2_with fail
    go_ret
    exact ⟨rfl, Below.refl _ _⟩
  obtain ⟨s, hs9⟩ : ∃ s, sumL L = s := ⟨_, rfl⟩
  have HSM : Hid (sumL L = s) := hs9
  clear hs9
  have SPC : Hid (∀ w9, Src w9 a (cellsB L) → Calls Tryd.prog 10 #[.slice a n c] w9 fun e w' => e = .returned (.int .i64 ((s : Nat) : Int)) ∧ Below w9.heap.size w9 w') := fun w9 h9 => by
    have h1 := specCheck32 a n c (zL L) w9 n20 (zL_lt HB.out.1) (sl_src h9 HN.out.1)
    have e1 : sumL L = crc (zL L) n := by unfold sumL; rw [HN.out.1]
    rw [← e1, HSM.out] at h1
    exact h1
  have hss : ((s : Int) != (s : Int)) = false := by simp
  have hse : ((s : Int) == (s : Int)) = true := by simp
  by_cases t4 : n = 0
  · subst t4
    go_enter Tryd.func3, Tryd.ntmps3
    go_wp2_with fail
    refine (check32L a 0 c L _ HN.out.1 n20 HB.out.1 HS.out.1 HH.out).mono ?_
    rw [HSM.out]
    rintro e w1 ⟨rfl, rfl⟩
    go_wp2_with fail
    refine (SPC.out _ HS.out.1).mono ?_
    rintro e w2 ⟨rfl, hb2⟩
    have B2 : Hid (Below w.heap.size w w2) := hb2
    clear hb2
    go_wp2_with fail
    refine (SPC.out _ (HS.out.1.below B2.out)).mono ?_
    rintro e w3 ⟨rfl, hb3⟩
    have B3 : Hid (Below w.heap.size w w3) := B2.out.trans (hb3.mono B2.out.size)
    clear hb3
    go_wp2_with fail
    go_ret
    exact ⟨rfl, B3.out⟩
  have hne0 : ((n : Int) == 0) = false := by simp; omega
  go_enter Tryd.func3, Tryd.ntmps3
  go_wp2_with fail
  refine (check32L a n c L _ HN.out.1 n20 HB.out.1 HS.out.1 HH.out).mono ?_
  rw [HSM.out]
  rintro e w1 ⟨rfl, rfl⟩
  go_wp2_with fail
  refine (SPC.out _ HS.out.1).mono ?_
  rintro e w2 ⟨rfl, hb2⟩
  have B2 : Hid (Below w.heap.size w w2) := hb2
  have Z2 : Hid (w.heap.size ≤ w2.heap.size) := hb2.size
  clear hb2
  have O2 : Hid (World.ownsRow (w2.alloc (.cells #[] 5)) w2.heap.size 5 1 (.slice (some ⟨w2.heap.size, 0, none⟩) 0 0) 0 []) := own_empty rfl (Nat.le_refl _)
  go_wp2_with (at_builtin; refine wpList_append_src _ rfl _ _ 22 rfl w2.heap.size 5 (.int .u8 0) 1 1 Tryd.underlying22 infoB rfl (by decide) (by decide) _ 0 [] rfl O2.out a n c (cellsB L) rfl (by rw [cellsB_length, HN.out.1]; omega) (HS.out.1.below (B2.out.alloc B2.out.size _)) (cellsB_one _) (by omega) (by simp) ?_)
  intro v3 w3 hown3 hgrow3
  have B3' : Below w2.heap.size w2 w3 := below_append hgrow3 (fun g e => by cases e; exact Nat.le_refl _)
  have B3 : Hid (Below w.heap.size w w3) := B2.out.trans (B3'.mono Z2.out)
  obtain ⟨g, cap, rfl, hcap, _⟩ := own_some hown3 (by omega)
  have O3 : Hid (w3.ownsRow w2.heap.size 5 1 (.slice (some ⟨g, 0, none⟩) n cap) n (cellsB L)) := hown3
  clear hown3 hgrow3 B3' O2
  go_wp2_with fail
  have pn0 : (0 : Int) ≤ (n : Int) := by omega
  refine wp_region_noPanic ?_
  refine wp_region_any (by kernel_rfl) ?_
  show wpAny _ _ _ _ _ _ _ w3.drew
  refine wpAny_take (i := 0) (v := .slice (some ⟨g, 0, none⟩) n cap) rfl (by kernel_rfl) (by kernel_rfl) (by kernel_rfl) (fun _ _ _ h => h) (Or.inl ⟨by rfl, fun w9 => by go_simp⟩) ?_
  refine wpAny_take (i := 1) (v := .slice ma m mc) rfl (by kernel_rfl) (by kernel_rfl) (by kernel_rfl) (fun _ _ _ h => h) (Or.inl ⟨by rfl, fun w9 => by go_simp⟩) ?_
  refine wpAny_take (i := 2) (v := .slice (some ⟨g, 0, none⟩) n cap) rfl (by kernel_rfl) (by kernel_rfl) (by kernel_rfl) (fun _ _ _ h => h) (Or.inl ⟨by rfl, fun w9 => by go_simp⟩) ?_
  refine wpAny_take (i := 3) (v := .int .i64 (n : Int)) rfl (by kernel_rfl) (by kernel_rfl) (by kernel_rfl) (fun _ _ _ h => h) (Or.inl ⟨by rfl, fun w9 => by go_simp⟩) ?_
  refine wpAny_take (i := 7) (v := .slice ma m mc) rfl (by kernel_rfl) (by kernel_rfl) (by kernel_rfl) (fun _ _ _ h => h) (Or.inl ⟨by rfl, fun w9 => by go_simp⟩) ?_
  refine wpAny_ready (rs := [4]) (by kernel_rfl) (by simp) ?_
  refine AllReady.cons rfl (fun K hK => ?_) AllReady.nil
  have HK : Hid _ := hK
  clear hK
  go_simp
  refine (lawAt ma m mc M 0 n _ HN.out.2 m20 (by omega) (by omega) (by omega) HB.out.2 (HS.out.2.below B3.out.drew)).mono ?_
  rintro e w4 ⟨x, rfl, hx, hb4⟩
  dsimp only
  have B4 : Hid (Below w.heap.size w w4) := B3.out.drew.trans (hb4.mono B3.out.size)
  have O4 : Hid (w4.ownsRow w2.heap.size 5 1 (.slice (some ⟨g, 0, none⟩) n cap) n (cellsB L)) := own_below (w := w3.drew) O3.out hb4
  clear hb4
  refine HK.out _ _ ?_
  clear HK K
  have px0 : (0 : Int) ≤ (x : Int) := by omega
  have px1 : (x : Int) < (n : Int) := by omega
  obtain ⟨y, hy⟩ : ∃ y, L.getD x 0 = y := ⟨_, rfl⟩
  have HY : Hid (L.getD x 0 = y) := hy
  have hy8 : y < 256 := by rw [← hy]; exact zL_lt HB.out.1 x
  have CE : Hid (∀ w9 : World, w9.ownsRow w2.heap.size 5 1 (.slice (some ⟨g, 0, none⟩) n cap) n (cellsB L) → w9.cell? ⟨g, x, none⟩ = some (.int .u8 (y : Int)) ∧ w9.frozen? ⟨g, x, none⟩ = false) := fun w9 h9 => by
    have h8 := own_cell h9 (i := x) (by rw [cellsB_length, HN.out.1]; exact hx)
    rw [getD_some (cellsB_get L x (by rw [HN.out.1]; exact hx)), hy] at h8
    exact h8
  clear hy
  refine wpAny_take (i := 5) (v := .pointer (some ⟨g, x, none⟩)) rfl (by kernel_rfl) (by kernel_rfl) (by kernel_rfl) (fun _ _ _ h => h) (Or.inl ⟨by rfl, fun w9 => by go_simp⟩) ?_
  refine wpAny_ready (rs := [6, 8]) (by kernel_rfl) (by simp) ?_
  refine AllReady.cons rfl (fun K hK => ?_) (AllReady.cons rfl (fun K hK => ?_) AllReady.nil)
  · have HK : Hid _ := hK
    clear hK
    obtain ⟨c1, c2⟩ := CE.out _ O4.out
    go_simp
    refine HK.out _ _ ?_
    clear HK K c1 c2
    refine wpAny_ready (rs := [8]) (by kernel_rfl) (by simp) ?_
    refine AllReady.cons rfl (fun K hK => ?_) AllReady.nil
    have HK : Hid _ := hK
    clear hK
    go_simp
    refine (lawAt ma m mc M 1 8 _ HN.out.2 m20 (by omega) (by omega) (by omega) HB.out.2 (HS.out.2.below B4.out)).mono ?_
    rintro e w5 ⟨bb, rfl, hbb, hb5⟩
    dsimp only
    have B5 : Hid (Below w.heap.size w w5) := B4.out.trans (hb5.mono B4.out.size)
    have O5 : Hid (w5.ownsRow w2.heap.size 5 1 (.slice (some ⟨g, 0, none⟩) n cap) n (cellsB L)) := own_below O4.out hb5
    clear hb5
    refine HK.out _ _ ?_
    clear HK K
    have hb64 : IntKind.u64.wrap (bb : Int) = (bb : Int) := by rw [IntKind.wrap_u64]; omega
    have hb8 : bb = 0 ∨ bb = 1 ∨ bb = 2 ∨ bb = 3 ∨ bb = 4 ∨ bb = 5 ∨ bb = 6 ∨ bb = 7 := by omega
    obtain ⟨mk, hmk⟩ : ∃ mk, 2 ^ bb = mk := ⟨_, rfl⟩
    have hmk8 : mk < 256 ∧ mk ≠ 0 := by rw [← hmk]; exact mask_at bb hbb
    obtain ⟨xr, hxr⟩ : ∃ xr, y ^^^ mk = xr := ⟨_, rfl⟩
    have hxo : bits .xor .u8 (y : Int) (mk : Int) = (xr : Int) := by rw [← hxr]; exact u8_xor_nat y mk hy8 hmk8.1
    have hxr8 : Hid (xr < 256 ∧ xr ≠ y) := by
      refine ⟨by rw [← hxr]; exact Nat.xor_lt_two_pow (n := 8) (by omega) (by omega), fun e => ?_⟩
      rw [← hxr] at e
      have h9 : y ^^^ mk = y ^^^ 0 := by rw [e]; simp
      have h8 := congrArg (fun t => y ^^^ t) h9
      simp only [← Nat.xor_assoc, Nat.xor_self, Nat.zero_xor] at h8
      exact hmk8.2 h8
    clear hxr
    refine wpAny_take (i := 9) (v := .int .u64 (bb : Int)) rfl (by kernel_rfl) (by kernel_rfl) (by kernel_rfl) (fun _ _ _ h => h) (Or.inl ⟨by rfl, fun w9 => by go_simp⟩) ?_
    refine wpAny_take (i := 10) (v := .int .u8 (mk : Int)) rfl (by kernel_rfl) (by kernel_rfl) (by kernel_rfl) (fun _ _ _ h => h) (Or.inl ⟨by rfl, fun w9 => by rcases hb8 with rfl | rfl | rfl | rfl | rfl | rfl | rfl | rfl <;> (obtain rfl := hmk.symm; go_simp; rfl)⟩) ?_
    refine wpAny_take (i := 11) (v := .int .u8 (xr : Int)) rfl (by kernel_rfl) (by kernel_rfl) (by kernel_rfl) (fun _ _ _ h => h) (Or.inl ⟨by rfl, fun w9 => by go_simp⟩) ?_
    refine wpAny_take (i := 12) (v := .pointer (some ⟨g, x, none⟩)) rfl (by kernel_rfl) (by kernel_rfl) (by kernel_rfl) (fun _ _ _ h => h) (Or.inl ⟨by rfl, fun w9 => by go_simp⟩) ?_
    obtain ⟨c1, c2⟩ := CE.out _ O5.out
    refine wpAny_ready (rs := [13]) (by kernel_rfl) (by simp) ?_
    refine AllReady.cons rfl (fun K hK => ?_) AllReady.nil
    have HK : Hid _ := hK
    clear hK
    go_simp
    refine HK.out _ _ ?_
    clear HK K c1 c2
    refine wpAny_done (by kernel_rfl) ?_ _
    refine NoPanic.normal ?_
    have LEN : Hid ((L.set x xr).length = n) := by show _ = n; rw [List.length_set]; exact HN.out.1
    have O6 : Hid ((w5.setCell ⟨g, x, none⟩ (.int .u8 (xr : Int))).ownsRow w2.heap.size 5 1 (.slice (some ⟨g, 0, none⟩) n cap) n (cellsB (L.set x xr))) := by
      have h9 := own_set O5.out x (by rw [cellsB_length, HN.out.1]; exact hx) (.int .u8 (xr : Int))
      have e9 : (cellsB L).set x (.int .u8 (xr : Int)) = cellsB (L.set x xr) := by unfold cellsB; rw [← List.map_set]
      rw [e9] at h9
      exact h9
    have B6 : Hid (Below w.heap.size w (w5.setCell ⟨g, x, none⟩ (.int .u8 (xr : Int)))) := B5.out.setCell (by have h9 := (O5.out.lt g rfl).1; have h8 := Z2.out; show w.heap.size ≤ g; omega) _
    have L8 : Hid (∀ t ∈ L.set x xr, t < 256) := fun t ht => by
      rcases List.mem_or_eq_of_mem_set ht with h9 | rfl
      · exact HB.out.1 t h9
      · exact hxr8.out.1
    obtain ⟨s2, hs2⟩ : ∃ s2, sumL (L.set x xr) = s2 := ⟨_, rfl⟩
    have DIF : Hid (s2 ≠ s) := by
      show s2 ≠ s
      rw [← hs2, ← HSM.out]
      unfold sumL
      rw [LEN.out, HN.out.1]
      refine crc_differs (zL_lt L8.out) (zL_lt HB.out.1) x n hx (by omega) ?_ ?_
      · show (L.set x xr).getD x 0 ≠ L.getD x 0
        rw [HY.out, List.getD_eq_getElem?_getD, List.getElem?_set_self (by rw [HN.out.1]; exact hx)]
        exact hxr8.out.2
      · intro i hi
        show (L.set x xr).getD i 0 = L.getD i 0
        rw [List.getD_eq_getElem?_getD, List.getD_eq_getElem?_getD, List.getElem?_set_ne (fun e => hi e.symm)]
    have hdif : ((s2 : Int) != (s : Int)) = true := by have h9 := DIF.out; simp; omega
    obtain ⟨oa, oc, oe, os, _⟩ := own_src O6.out
    cases oe
    have OS : Hid (Src (w5.setCell ⟨g, x, none⟩ (.int .u8 (xr : Int))) (some ⟨g, 0, none⟩) (cellsB (L.set x xr))) := os
    clear os
    go_wp2_with fail
    refine (check32L (some ⟨g, 0, none⟩) n cap (L.set x xr) _ LEN.out n20 L8.out OS.out (HH.out.below B6.out)).mono ?_
    rw [hs2]
    rintro e w7 ⟨rfl, hw7⟩
    obtain rfl := hw7.symm
    clear hs2
    go_wp2_with fail
    go_ret
    exact ⟨rfl, B6.out⟩
  · have HK : Hid _ := hK
    clear hK
    go_simp
    refine (lawAt ma m mc M 1 8 _ HN.out.2 m20 (by omega) (by omega) (by omega) HB.out.2 (HS.out.2.below B4.out)).mono ?_
    rintro e w5 ⟨bb, rfl, hbb, hb5⟩
    dsimp only
    have B5 : Hid (Below w.heap.size w w5) := B4.out.trans (hb5.mono B4.out.size)
    have O5 : Hid (w5.ownsRow w2.heap.size 5 1 (.slice (some ⟨g, 0, none⟩) n cap) n (cellsB L)) := own_below O4.out hb5
    clear hb5
    refine HK.out _ _ ?_
    clear HK K
    have hb64 : IntKind.u64.wrap (bb : Int) = (bb : Int) := by rw [IntKind.wrap_u64]; omega
    have hb8 : bb = 0 ∨ bb = 1 ∨ bb = 2 ∨ bb = 3 ∨ bb = 4 ∨ bb = 5 ∨ bb = 6 ∨ bb = 7 := by omega
    obtain ⟨mk, hmk⟩ : ∃ mk, 2 ^ bb = mk := ⟨_, rfl⟩
    have hmk8 : mk < 256 ∧ mk ≠ 0 := by rw [← hmk]; exact mask_at bb hbb
    obtain ⟨xr, hxr⟩ : ∃ xr, y ^^^ mk = xr := ⟨_, rfl⟩
    have hxo : bits .xor .u8 (y : Int) (mk : Int) = (xr : Int) := by rw [← hxr]; exact u8_xor_nat y mk hy8 hmk8.1
    have hxr8 : Hid (xr < 256 ∧ xr ≠ y) := by
      refine ⟨by rw [← hxr]; exact Nat.xor_lt_two_pow (n := 8) (by omega) (by omega), fun e => ?_⟩
      rw [← hxr] at e
      have h9 : y ^^^ mk = y ^^^ 0 := by rw [e]; simp
      have h8 := congrArg (fun t => y ^^^ t) h9
      simp only [← Nat.xor_assoc, Nat.xor_self, Nat.zero_xor] at h8
      exact hmk8.2 h8
    clear hxr
    refine wpAny_take (i := 9) (v := .int .u64 (bb : Int)) rfl (by kernel_rfl) (by kernel_rfl) (by kernel_rfl) (fun _ _ _ h => h) (Or.inl ⟨by rfl, fun w9 => by go_simp⟩) ?_
    refine wpAny_take (i := 10) (v := .int .u8 (mk : Int)) rfl (by kernel_rfl) (by kernel_rfl) (by kernel_rfl) (fun _ _ _ h => h) (Or.inl ⟨by rfl, fun w9 => by rcases hb8 with rfl | rfl | rfl | rfl | rfl | rfl | rfl | rfl <;> (obtain rfl := hmk.symm; go_simp; rfl)⟩) ?_
    refine wpAny_ready (rs := [6]) (by kernel_rfl) (by simp) ?_
    refine AllReady.cons rfl (fun K hK => ?_) AllReady.nil
    have HK : Hid _ := hK
    clear hK
    obtain ⟨c1, c2⟩ := CE.out _ O5.out
    go_simp
    refine HK.out _ _ ?_
    clear HK K c1 c2
    refine wpAny_take (i := 11) (v := .int .u8 (xr : Int)) rfl (by kernel_rfl) (by kernel_rfl) (by kernel_rfl) (fun _ _ _ h => h) (Or.inl ⟨by rfl, fun w9 => by go_simp⟩) ?_
    refine wpAny_take (i := 12) (v := .pointer (some ⟨g, x, none⟩)) rfl (by kernel_rfl) (by kernel_rfl) (by kernel_rfl) (fun _ _ _ h => h) (Or.inl ⟨by rfl, fun w9 => by go_simp⟩) ?_
    obtain ⟨c1, c2⟩ := CE.out _ O5.out
    refine wpAny_ready (rs := [13]) (by kernel_rfl) (by simp) ?_
    refine AllReady.cons rfl (fun K hK => ?_) AllReady.nil
    have HK : Hid _ := hK
    clear hK
    go_simp
    refine HK.out _ _ ?_
    clear HK K c1 c2
    refine wpAny_done (by kernel_rfl) ?_ _
    refine NoPanic.normal ?_
    have LEN : Hid ((L.set x xr).length = n) := by show _ = n; rw [List.length_set]; exact HN.out.1
    have O6 : Hid ((w5.setCell ⟨g, x, none⟩ (.int .u8 (xr : Int))).ownsRow w2.heap.size 5 1 (.slice (some ⟨g, 0, none⟩) n cap) n (cellsB (L.set x xr))) := by
      have h9 := own_set O5.out x (by rw [cellsB_length, HN.out.1]; exact hx) (.int .u8 (xr : Int))
      have e9 : (cellsB L).set x (.int .u8 (xr : Int)) = cellsB (L.set x xr) := by unfold cellsB; rw [← List.map_set]
      rw [e9] at h9
      exact h9
    have B6 : Hid (Below w.heap.size w (w5.setCell ⟨g, x, none⟩ (.int .u8 (xr : Int)))) := B5.out.setCell (by have h9 := (O5.out.lt g rfl).1; have h8 := Z2.out; show w.heap.size ≤ g; omega) _
    have L8 : Hid (∀ t ∈ L.set x xr, t < 256) := fun t ht => by
      rcases List.mem_or_eq_of_mem_set ht with h9 | rfl
      · exact HB.out.1 t h9
      · exact hxr8.out.1
    obtain ⟨s2, hs2⟩ : ∃ s2, sumL (L.set x xr) = s2 := ⟨_, rfl⟩
    have DIF : Hid (s2 ≠ s) := by
      show s2 ≠ s
      rw [← hs2, ← HSM.out]
      unfold sumL
      rw [LEN.out, HN.out.1]
      refine crc_differs (zL_lt L8.out) (zL_lt HB.out.1) x n hx (by omega) ?_ ?_
      · show (L.set x xr).getD x 0 ≠ L.getD x 0
        rw [HY.out, List.getD_eq_getElem?_getD, List.getElem?_set_self (by rw [HN.out.1]; exact hx)]
        exact hxr8.out.2
      · intro i hi
        show (L.set x xr).getD i 0 = L.getD i 0
        rw [List.getD_eq_getElem?_getD, List.getD_eq_getElem?_getD, List.getElem?_set_ne (fun e => hi e.symm)]
    have hdif : ((s2 : Int) != (s : Int)) = true := by have h9 := DIF.out; simp; omega
    obtain ⟨oa, oc, oe, os, _⟩ := own_src O6.out
    cases oe
    have OS : Hid (Src (w5.setCell ⟨g, x, none⟩ (.int .u8 (xr : Int))) (some ⟨g, 0, none⟩) (cellsB (L.set x xr))) := os
    clear os
    go_wp2_with fail
    refine (check32L (some ⟨g, 0, none⟩) n cap (L.set x xr) _ LEN.out n20 L8.out OS.out (HH.out.below B6.out)).mono ?_
    rw [hs2]
    rintro e w7 ⟨rfl, hw7⟩
    obtain rfl := hw7.symm
    clear hs2
    go_wp2_with fail
    go_ret
    exact ⟨rfl, B6.out⟩
end Go.Proofs.YtfbomjcjemcgeaaDoor
