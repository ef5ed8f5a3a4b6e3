
/-
  The places that the laws draw. By an AI agent.
-/
import Derived.Test.YtpbodiaglgkkkaaDraws2
import Derived.Deep.RegionHeld3
namespace Go.Proofs.Ytpbodiaglgkkkaa
open Go.ChangeShapes Go.WideShapes Go.ChangeAt Go.RowKit Go.Deep
set_option linter.unusedVariables false
set_option maxRecDepth 100000

theorem byte_lt {L : List Nat} (h : ∀ x ∈ L, x < 256) : ∀ i, L.getD i 0 < 256 := fun i => by
  by_cases hi : i < L.length
  · rw [List.getD_eq_getElem?_getD, List.getElem?_eq_getElem hi]; exact h _ (List.getElem_mem _)
  · rw [List.getD_eq_getElem?_getD, List.getElem?_eq_none (by omega)]; decide
theorem srcB_at {w : World} {b o : Nat} {M : List Nat} (h : Src w (some ⟨b, o, none⟩) (cellsB M)) {i : Nat} (hi : i < M.length) : w.cell? ⟨b, o + i, none⟩ = some (.int .u8 ((M.getD i 0 : Nat) : Int)) := by
  rcases h with h | ⟨b', o', e, hc⟩
  · have h2 := cellsB_length M
    rw [h] at h2
    simp only [List.length_nil] at h2
    omega
  · cases e
    have h1 := hc i (by rw [cellsB_length]; exact hi)
    rwa [getD_some (cellsB_get M i hi)] at h1
set_option maxHeartbeats 2000000 in
theorem lawAt (a : Option Addr) (m c : Nat) (M : List Nat) (i n : Nat) (w : World) (hM : M.length = m) (hm : m ≤ 1048576) (hi : i ≤ 1) (hn0 : 1 ≤ n) (hn : n ≤ 65536) (hlt : ∀ x ∈ M, x < 256) (h : Src w a (cellsB M)) :
    Calls Try.prog 5 #[.slice a m c, .int .i64 (i : Int), .int .i64 (n : Int)] w fun e w' => ∃ x : Nat, e = .returned (.int .i64 (x : Int)) ∧ x < n ∧ Below w.heap.size w w' := by
  by_cases h1 : (n : Int) ≤ 1
  · go_enter Try.func5, Try.ntmps5
    go_wp2_with fail
    go_ret
    exact ⟨0, rfl, by omega, Below.refl _ _⟩
  by_cases h0 : m = 0
  · subst h0
    have hr : Int.tmod ((i : Int) * 7) (n : Int) = ((i * 7 % n : Nat) : Int) := by
      rw [Int.tmod_eq_emod_of_nonneg (by omega)]; simp
    have hx : Hid (i * 7 % n < n) := Nat.mod_lt _ (by omega)
    obtain ⟨x, hx9⟩ : ∃ x, i * 7 % n = x := ⟨_, rfl⟩
    rw [hx9] at hr hx
    have hne : ((n : Int) == 0) = false := by simp; omega
    have hne2 : ¬ (n : Int) = 0 := by omega
    clear hx9
    go_enter Try.func5, Try.ntmps5
    go_wp2_with fail
    go_ret
    exact ⟨x, rfl, hx.out, Below.refl _ _⟩
  have hm1 : ((m : Int) == 0) = false := by simp; omega
  obtain ⟨b, o, rfl⟩ : ∃ b o, a = some ⟨b, o, none⟩ := by
    rcases h with h | ⟨b, o, rfl, _⟩
    · have h2 := cellsB_length M
      rw [h] at h2
      simp only [List.length_nil] at h2
      omega
    · exact ⟨b, o, rfl⟩
  have HS : Hid (Src w (some ⟨b, o, none⟩) (cellsB M)) := h
  obtain ⟨p1, hp1⟩ : ∃ p, i % m = p := ⟨_, rfl⟩
  obtain ⟨p2, hp2⟩ : ∃ p, (i + 1) % m = p := ⟨_, rfl⟩
  obtain ⟨d1, hd1⟩ : ∃ p, i / m = p := ⟨_, rfl⟩
  have p1l : p1 < m := by rw [← hp1]; exact Nat.mod_lt _ (by omega)
  have p2l : p2 < m := by rw [← hp2]; exact Nat.mod_lt _ (by omega)
  have d1l : d1 ≤ 1 := by rw [← hd1]; exact Nat.le_trans (Nat.div_le_self _ _) hi
  obtain ⟨y1, hy1⟩ : ∃ y, M.getD p1 0 = y := ⟨_, rfl⟩
  obtain ⟨y2, hy2⟩ : ∃ y, M.getD p2 0 = y := ⟨_, rfl⟩
  have e0 : w.cell? ⟨b, o + p1, none⟩ = some (.int .u8 (y1 : Int)) := by rw [← hy1]; exact srcB_at h (by omega)
  have e1 : w.cell? ⟨b, o + p2, none⟩ = some (.int .u8 (y2 : Int)) := by rw [← hy2]; exact srcB_at h (by omega)
  have y1l : y1 < 256 := by rw [← hy1]; exact byte_lt hlt p1
  have y2l : y2 < 256 := by rw [← hy2]; exact byte_lt hlt p2
  have R1 : Int.tmod (i : Int) (m : Int) = (p1 : Int) := by rw [Int.tmod_eq_emod_of_nonneg (by omega), ← hp1]; simp
  have R2 : Int.tmod ((i : Int) + 1) (m : Int) = (p2 : Int) := by rw [Int.tmod_eq_emod_of_nonneg (by omega), ← hp2]; simp
  have Q1 : Int.tdiv (i : Int) (m : Int) = (d1 : Int) := by rw [Int.tdiv_eq_ediv_of_nonneg (by omega), ← hd1]; simp
  obtain ⟨s, hs9⟩ : ∃ s, y1 * 31 + y2 + d1 = s := ⟨_, rfl⟩
  obtain ⟨x, hx9⟩ : ∃ x, s % n = x := ⟨_, rfl⟩
  have hxl : x < n := by rw [← hx9]; exact Nat.mod_lt _ (by omega)
  have sl : s ≤ 10000 := by omega
  have R3 : Int.tmod (s : Int) (n : Int) = (x : Int) := by rw [Int.tmod_eq_emod_of_nonneg (by omega), ← hx9]; simp
  have A1 : (y1 : Int) * 31 + (y2 : Int) + (d1 : Int) = (s : Int) := by omega
  have w1 : IntKind.i64.wrap ((i : Int) + 1) = (i : Int) + 1 := by rw [IntKind.wrap_i64]; omega
  have w2 : IntKind.i64.wrap ((y1 : Int) * 31) = (y1 : Int) * 31 := by rw [IntKind.wrap_i64]; omega
  have w3 : IntKind.i64.wrap ((y1 : Int) * 31 + (y2 : Int)) = (y1 : Int) * 31 + (y2 : Int) := by rw [IntKind.wrap_i64]; omega
  have w4 : IntKind.i64.wrap ((s : Nat) : Int) = (s : Int) := by rw [IntKind.wrap_i64]; omega
  have w5 : IntKind.i64.wrap ((p1 : Nat) : Int) = (p1 : Int) := by rw [IntKind.wrap_i64]; omega
  have w6 : IntKind.i64.wrap ((p2 : Nat) : Int) = (p2 : Int) := by rw [IntKind.wrap_i64]; omega
  have w7 : IntKind.i64.wrap ((d1 : Nat) : Int) = (d1 : Int) := by rw [IntKind.wrap_i64]; omega
  have w8 : IntKind.i64.wrap ((x : Nat) : Int) = (x : Int) := by rw [IntKind.wrap_i64]; omega
  have wy1 : IntKind.i64.wrap ((y1 : Nat) : Int) = (y1 : Int) := by rw [IntKind.wrap_i64]; omega
  have wy2 : IntKind.i64.wrap ((y2 : Nat) : Int) = (y2 : Int) := by rw [IntKind.wrap_i64]; omega
  have hne : ¬ (n : Int) = 0 := by omega
  have hme : ¬ (m : Int) = 0 := by omega
  have hnz : ¬ n = 0 := by omega
  have pp0 : (0 : Int) ≤ (p1 : Int) := by omega
  have pp1 : (p1 : Int) < (m : Int) := by omega
  have pp2 : (0 : Int) ≤ (p2 : Int) := by omega
  have pp3 : (p2 : Int) < (m : Int) := by omega
  clear hp1 hp2 hd1 hy1 hy2 hs9 hx9 h hlt hM
  go_enter Try.func5, Try.ntmps5
  go_wp2_with fail
  refine wp_region_noPanic ?_
  refine wp_region_held_drew (S := (fun w' => w'.cell? ⟨b, o + p1, none⟩ = some (.int .u8 (y1 : Int)) ∧ w'.cell? ⟨b, o + p2, none⟩ = some (.int .u8 (y2 : Int)))) (by kernel_rfl) ⟨e0, e1⟩ (fun hHeld => ?_)
  refine wpAnyH_take (i := 0) (v := .slice (some ⟨b, o, none⟩) m c) rfl (by kernel_rfl) (by kernel_rfl) (by kernel_rfl) (fun _ _ _ h => h) (Or.inl ⟨by rfl, ?_⟩) hHeld ?_
  · intro w9 hSw
    obtain ⟨s0, s1⟩ := hSw
    go_simp
  refine wpAnyH_take (i := 1) (v := .int .i64 (i : Int)) rfl (by kernel_rfl) (by kernel_rfl) (by kernel_rfl) (fun _ _ _ h => h) (Or.inl ⟨by rfl, ?_⟩) hHeld ?_
  · intro w9 hSw
    obtain ⟨s0, s1⟩ := hSw
    go_simp
  refine wpAnyH_take (i := 2) (v := .slice (some ⟨b, o, none⟩) m c) rfl (by kernel_rfl) (by kernel_rfl) (by kernel_rfl) (fun _ _ _ h => h) (Or.inl ⟨by rfl, ?_⟩) hHeld ?_
  · intro w9 hSw
    obtain ⟨s0, s1⟩ := hSw
    go_simp
  refine wpAnyH_take (i := 3) (v := .int .i64 (m : Int)) rfl (by kernel_rfl) (by kernel_rfl) (by kernel_rfl) (fun _ _ _ h => h) (Or.inl ⟨by rfl, ?_⟩) hHeld ?_
  · intro w9 hSw
    obtain ⟨s0, s1⟩ := hSw
    go_simp
  refine wpAnyH_take (i := 4) (v := .int .i64 (p1 : Int)) rfl (by kernel_rfl) (by kernel_rfl) (by kernel_rfl) (fun _ _ _ h => h) (Or.inl ⟨by rfl, ?_⟩) hHeld ?_
  · intro w9 hSw
    obtain ⟨s0, s1⟩ := hSw
    go_simp
  refine wpAnyH_take (i := 5) (v := .pointer (some ⟨b, o + p1, none⟩)) rfl (by kernel_rfl) (by kernel_rfl) (by kernel_rfl) (fun _ _ _ h => h) (Or.inl ⟨by rfl, ?_⟩) hHeld ?_
  · intro w9 hSw
    obtain ⟨s0, s1⟩ := hSw
    go_simp
  refine wpAnyH_take (i := 6) (v := .int .u8 (y1 : Int)) rfl (by kernel_rfl) (by kernel_rfl) (by kernel_rfl) (fun _ _ _ h => h) (Or.inl ⟨by rfl, ?_⟩) hHeld ?_
  · intro w9 hSw
    obtain ⟨s0, s1⟩ := hSw
    go_simp
  refine wpAnyH_take (i := 7) (v := .int .i64 (y1 : Int)) rfl (by kernel_rfl) (by kernel_rfl) (by kernel_rfl) (fun _ _ _ h => h) (Or.inl ⟨by rfl, ?_⟩) hHeld ?_
  · intro w9 hSw
    obtain ⟨s0, s1⟩ := hSw
    go_simp
  refine wpAnyH_take (i := 8) (v := .int .i64 ((y1 : Int) * 31)) rfl (by kernel_rfl) (by kernel_rfl) (by kernel_rfl) (fun _ _ _ h => h) (Or.inl ⟨by rfl, ?_⟩) hHeld ?_
  · intro w9 hSw
    obtain ⟨s0, s1⟩ := hSw
    go_simp
  refine wpAnyH_take (i := 9) (v := .slice (some ⟨b, o, none⟩) m c) rfl (by kernel_rfl) (by kernel_rfl) (by kernel_rfl) (fun _ _ _ h => h) (Or.inl ⟨by rfl, ?_⟩) hHeld ?_
  · intro w9 hSw
    obtain ⟨s0, s1⟩ := hSw
    go_simp
  refine wpAnyH_take (i := 10) (v := .int .i64 (i : Int)) rfl (by kernel_rfl) (by kernel_rfl) (by kernel_rfl) (fun _ _ _ h => h) (Or.inl ⟨by rfl, ?_⟩) hHeld ?_
  · intro w9 hSw
    obtain ⟨s0, s1⟩ := hSw
    go_simp
  refine wpAnyH_take (i := 11) (v := .int .i64 ((i : Int) + 1)) rfl (by kernel_rfl) (by kernel_rfl) (by kernel_rfl) (fun _ _ _ h => h) (Or.inl ⟨by rfl, ?_⟩) hHeld ?_
  · intro w9 hSw
    obtain ⟨s0, s1⟩ := hSw
    go_simp
  refine wpAnyH_take (i := 12) (v := .slice (some ⟨b, o, none⟩) m c) rfl (by kernel_rfl) (by kernel_rfl) (by kernel_rfl) (fun _ _ _ h => h) (Or.inl ⟨by rfl, ?_⟩) hHeld ?_
  · intro w9 hSw
    obtain ⟨s0, s1⟩ := hSw
    go_simp
  refine wpAnyH_take (i := 13) (v := .int .i64 (m : Int)) rfl (by kernel_rfl) (by kernel_rfl) (by kernel_rfl) (fun _ _ _ h => h) (Or.inl ⟨by rfl, ?_⟩) hHeld ?_
  · intro w9 hSw
    obtain ⟨s0, s1⟩ := hSw
    go_simp
  refine wpAnyH_take (i := 14) (v := .int .i64 (p2 : Int)) rfl (by kernel_rfl) (by kernel_rfl) (by kernel_rfl) (fun _ _ _ h => h) (Or.inl ⟨by rfl, ?_⟩) hHeld ?_
  · intro w9 hSw
    obtain ⟨s0, s1⟩ := hSw
    go_simp
  refine wpAnyH_take (i := 15) (v := .pointer (some ⟨b, o + p2, none⟩)) rfl (by kernel_rfl) (by kernel_rfl) (by kernel_rfl) (fun _ _ _ h => h) (Or.inl ⟨by rfl, ?_⟩) hHeld ?_
  · intro w9 hSw
    obtain ⟨s0, s1⟩ := hSw
    go_simp
  refine wpAnyH_take (i := 16) (v := .int .u8 (y2 : Int)) rfl (by kernel_rfl) (by kernel_rfl) (by kernel_rfl) (fun _ _ _ h => h) (Or.inl ⟨by rfl, ?_⟩) hHeld ?_
  · intro w9 hSw
    obtain ⟨s0, s1⟩ := hSw
    go_simp
  refine wpAnyH_take (i := 17) (v := .int .i64 (y2 : Int)) rfl (by kernel_rfl) (by kernel_rfl) (by kernel_rfl) (fun _ _ _ h => h) (Or.inl ⟨by rfl, ?_⟩) hHeld ?_
  · intro w9 hSw
    obtain ⟨s0, s1⟩ := hSw
    go_simp
  refine wpAnyH_take (i := 18) (v := .int .i64 ((y1 : Int) * 31 + (y2 : Int))) rfl (by kernel_rfl) (by kernel_rfl) (by kernel_rfl) (fun _ _ _ h => h) (Or.inl ⟨by rfl, ?_⟩) hHeld ?_
  · intro w9 hSw
    obtain ⟨s0, s1⟩ := hSw
    go_simp
  refine wpAnyH_take (i := 19) (v := .int .i64 (i : Int)) rfl (by kernel_rfl) (by kernel_rfl) (by kernel_rfl) (fun _ _ _ h => h) (Or.inl ⟨by rfl, ?_⟩) hHeld ?_
  · intro w9 hSw
    obtain ⟨s0, s1⟩ := hSw
    go_simp
  refine wpAnyH_take (i := 20) (v := .slice (some ⟨b, o, none⟩) m c) rfl (by kernel_rfl) (by kernel_rfl) (by kernel_rfl) (fun _ _ _ h => h) (Or.inl ⟨by rfl, ?_⟩) hHeld ?_
  · intro w9 hSw
    obtain ⟨s0, s1⟩ := hSw
    go_simp
  refine wpAnyH_take (i := 21) (v := .int .i64 (m : Int)) rfl (by kernel_rfl) (by kernel_rfl) (by kernel_rfl) (fun _ _ _ h => h) (Or.inl ⟨by rfl, ?_⟩) hHeld ?_
  · intro w9 hSw
    obtain ⟨s0, s1⟩ := hSw
    go_simp
  refine wpAnyH_take (i := 22) (v := .int .i64 (d1 : Int)) rfl (by kernel_rfl) (by kernel_rfl) (by kernel_rfl) (fun _ _ _ h => h) (Or.inl ⟨by rfl, ?_⟩) hHeld ?_
  · intro w9 hSw
    obtain ⟨s0, s1⟩ := hSw
    go_simp
  refine wpAnyH_take (i := 23) (v := .int .i64 (s : Int)) rfl (by kernel_rfl) (by kernel_rfl) (by kernel_rfl) (fun _ _ _ h => h) (Or.inl ⟨by rfl, ?_⟩) hHeld ?_
  · intro w9 hSw
    obtain ⟨s0, s1⟩ := hSw
    go_simp
  refine wpAnyH_take (i := 24) (v := .int .i64 (n : Int)) rfl (by kernel_rfl) (by kernel_rfl) (by kernel_rfl) (fun _ _ _ h => h) (Or.inl ⟨by rfl, ?_⟩) hHeld ?_
  · intro w9 hSw
    obtain ⟨s0, s1⟩ := hSw
    go_simp
  refine wpAnyH_take (i := 25) (v := .int .i64 (x : Int)) rfl (by kernel_rfl) (by kernel_rfl) (by kernel_rfl) (fun _ _ _ h => h) (Or.inl ⟨by rfl, ?_⟩) hHeld ?_
  · intro w9 hSw
    obtain ⟨s0, s1⟩ := hSw
    go_simp
  refine wpAnyH_ready (rs := [26]) (by kernel_rfl) (by simp) ?_
  refine AllReadyH.cons rfl (fun K hK => ?_) AllReadyH.nil
  go_simp
  refine hK.out _ _ ⟨e0, e1⟩ (fun hHeld => ?_)
  clear hK K
  refine wpAnyH_done (by kernel_rfl) ?_ _
  refine NoPanic.normal ?_
  go_wp2_with fail
  go_ret
  exact ⟨x, rfl, hxl, (Below.refl _ _).drew⟩

end Go.Proofs.Ytpbodiaglgkkkaa
