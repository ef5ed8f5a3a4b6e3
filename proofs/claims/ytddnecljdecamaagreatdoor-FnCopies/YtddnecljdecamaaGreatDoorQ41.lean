/-
  Lawat Vri Cpy in one. By an AI agent.
-/
import Derived.Test.YtddnecljdecamaaGreatDoorQ35
import Derived.Test.YtddnecljdecamaaGreatDoorQ39
import Derived.Test.YtddnecljdecamaaGreatDoorQ14
import Derived.Test.YtddnecljdecamaaGreatDoorQ19
import Derived.Test.YtddnecljdecamaaGreatDoorQ40
import Derived.Deep.RegionHeld3
namespace Go.Proofs.YtddnecljdecamaaGreatDoor
open Go.ChangeShapes Go.WideShapes Go.ChangeAt Go.RowKit Go.Deep
set_option linter.unusedVariables false
set_option maxRecDepth 100000

theorem byte_lt {L : List Nat} (h : ∀ x ∈ L, x < 256) : ∀ i, L.getD i 0 < 256 := fun i => by
  by_cases hi : i < L.length
  · rw [List.getD_eq_getElem?_getD, List.getElem?_eq_getElem hi]; exact h _ (List.getElem_mem _)
  · rw [List.getD_eq_getElem?_getD, List.getElem?_eq_none (by omega)]; decide
theorem srcB_at {w : World} {b o : Nat} {M : List Nat} (h : Src w (some ⟨b, o, none⟩) (cellsB M)) {i : Nat} (hi : i < M.length) : w.cell? ⟨b, o + i, none⟩ = some (.int .u8 ((M.getD i 0 : Nat) : Int)) := by
  rcases h with h | ⟨b', o', e, hc⟩
  · have h2 := cellsB_length M
    rw [h] at h2
    simp only [List.length_nil] at h2
    omega
  · cases e
    have h1 := hc i (by rw [cellsB_length]; exact hi)
    rwa [getD_some (cellsB_get M i hi)] at h1
set_option maxHeartbeats 2000000 in
theorem lawAt (a : Option Addr) (m c : Nat) (M : List Nat) (i n : Nat) (w : World) (hM : M.length = m) (hm : m ≤ 1048576) (hi : i ≤ 1) (hn0 : 1 ≤ n) (hn : n ≤ 65536) (hlt : ∀ x ∈ M, x < 256) (h : Src w a (cellsB M)) :
    Calls Tryz.prog 25 #[.slice a m c, .int .i64 (i : Int), .int .i64 (n : Int)] w fun e w' => ∃ x : Nat, e = .returned (.int .i64 (x : Int)) ∧ x < n ∧ Below w.heap.size w w' := by
  by_cases h1 : (n : Int) ≤ 1
  · go_enter Tryz.func25, Tryz.ntmps25
    go_wp2_with fail
    go_ret
    exact ⟨0, rfl, by omega, Below.refl _ _⟩
  by_cases h0 : m = 0
  · subst h0
    have hr : Int.tmod ((i : Int) * 7) (n : Int) = ((i * 7 % n : Nat) : Int) := by
      rw [Int.tmod_eq_emod_of_nonneg (by omega)]; simp
    have hx : Hid (i * 7 % n < n) := Nat.mod_lt _ (by omega)
    obtain ⟨x, hx9⟩ : ∃ x, i * 7 % n = x := ⟨_, rfl⟩
    rw [hx9] at hr hx
    have hne : ((n : Int) == 0) = false := by simp; omega
    have hne2 : ¬ (n : Int) = 0 := by omega
    clear hx9
    go_enter Tryz.func25, Tryz.ntmps25
    go_wp2_with fail
    go_ret
    exact ⟨x, rfl, hx.out, Below.refl _ _⟩
  have hm1 : ((m : Int) == 0) = false := by simp; omega
  obtain ⟨b, o, rfl⟩ : ∃ b o, a = some ⟨b, o, none⟩ := by
    rcases h with h | ⟨b, o, rfl, _⟩
    · have h2 := cellsB_length M
      rw [h] at h2
      simp only [List.length_nil] at h2
      omega
    · exact ⟨b, o, rfl⟩
  have HS : Hid (Src w (some ⟨b, o, none⟩) (cellsB M)) := h
  obtain ⟨p1, hp1⟩ : ∃ p, i % m = p := ⟨_, rfl⟩
  obtain ⟨p2, hp2⟩ : ∃ p, (i + 1) % m = p := ⟨_, rfl⟩
  obtain ⟨d1, hd1⟩ : ∃ p, i / m = p := ⟨_, rfl⟩
  have p1l : p1 < m := by rw [← hp1]; exact Nat.mod_lt _ (by omega)
  have p2l : p2 < m := by rw [← hp2]; exact Nat.mod_lt _ (by omega)
  have d1l : d1 ≤ 1 := by rw [← hd1]; exact Nat.le_trans (Nat.div_le_self _ _) hi
  obtain ⟨y1, hy1⟩ : ∃ y, M.getD p1 0 = y := ⟨_, rfl⟩
  obtain ⟨y2, hy2⟩ : ∃ y, M.getD p2 0 = y := ⟨_, rfl⟩
  have e0 : w.cell? ⟨b, o + p1, none⟩ = some (.int .u8 (y1 : Int)) := by rw [← hy1]; exact srcB_at h (by omega)
  have e1 : w.cell? ⟨b, o + p2, none⟩ = some (.int .u8 (y2 : Int)) := by rw [← hy2]; exact srcB_at h (by omega)
  have y1l : y1 < 256 := by rw [← hy1]; exact byte_lt hlt p1
  have y2l : y2 < 256 := by rw [← hy2]; exact byte_lt hlt p2
  have R1 : Int.tmod (i : Int) (m : Int) = (p1 : Int) := by rw [Int.tmod_eq_emod_of_nonneg (by omega), ← hp1]; simp
  have R2 : Int.tmod ((i : Int) + 1) (m : Int) = (p2 : Int) := by rw [Int.tmod_eq_emod_of_nonneg (by omega), ← hp2]; simp
  have Q1 : Int.tdiv (i : Int) (m : Int) = (d1 : Int) := by rw [Int.tdiv_eq_ediv_of_nonneg (by omega), ← hd1]; simp
  obtain ⟨s, hs9⟩ : ∃ s, y1 * 31 + y2 + d1 = s := ⟨_, rfl⟩
  obtain ⟨x, hx9⟩ : ∃ x, s % n = x := ⟨_, rfl⟩
  have hxl : x < n := by rw [← hx9]; exact Nat.mod_lt _ (by omega)
  have sl : s ≤ 10000 := by omega
  have R3 : Int.tmod (s : Int) (n : Int) = (x : Int) := by rw [Int.tmod_eq_emod_of_nonneg (by omega), ← hx9]; simp
  have A1 : (y1 : Int) * 31 + (y2 : Int) + (d1 : Int) = (s : Int) := by omega
  have w1 : IntKind.i64.wrap ((i : Int) + 1) = (i : Int) + 1 := by rw [IntKind.wrap_i64]; omega
  have w2 : IntKind.i64.wrap ((y1 : Int) * 31) = (y1 : Int) * 31 := by rw [IntKind.wrap_i64]; omega
  have w3 : IntKind.i64.wrap ((y1 : Int) * 31 + (y2 : Int)) = (y1 : Int) * 31 + (y2 : Int) := by rw [IntKind.wrap_i64]; omega
  have w4 : IntKind.i64.wrap ((s : Nat) : Int) = (s : Int) := by rw [IntKind.wrap_i64]; omega
  have w5 : IntKind.i64.wrap ((p1 : Nat) : Int) = (p1 : Int) := by rw [IntKind.wrap_i64]; omega
  have w6 : IntKind.i64.wrap ((p2 : Nat) : Int) = (p2 : Int) := by rw [IntKind.wrap_i64]; omega
  have w7 : IntKind.i64.wrap ((d1 : Nat) : Int) = (d1 : Int) := by rw [IntKind.wrap_i64]; omega
  have w8 : IntKind.i64.wrap ((x : Nat) : Int) = (x : Int) := by rw [IntKind.wrap_i64]; omega
  have wy1 : IntKind.i64.wrap ((y1 : Nat) : Int) = (y1 : Int) := by rw [IntKind.wrap_i64]; omega
  have wy2 : IntKind.i64.wrap ((y2 : Nat) : Int) = (y2 : Int) := by rw [IntKind.wrap_i64]; omega
  have hne : ¬ (n : Int) = 0 := by omega
  have hme : ¬ (m : Int) = 0 := by omega
  have hnz : ¬ n = 0 := by omega
  have pp0 : (0 : Int) ≤ (p1 : Int) := by omega
  have pp1 : (p1 : Int) < (m : Int) := by omega
  have pp2 : (0 : Int) ≤ (p2 : Int) := by omega
  have pp3 : (p2 : Int) < (m : Int) := by omega
  clear hp1 hp2 hd1 hy1 hy2 hs9 hx9 h hlt hM
  go_enter Tryz.func25, Tryz.ntmps25
  go_wp2_with fail
  refine wp_region_noPanic ?_
  refine wp_region_held_drew (S := (fun w' => w'.cell? ⟨b, o + p1, none⟩ = some (.int .u8 (y1 : Int)) ∧ w'.cell? ⟨b, o + p2, none⟩ = some (.int .u8 (y2 : Int)))) (by kernel_rfl) ⟨e0, e1⟩ (fun hHeld => ?_)
  refine wpAnyH_take (i := 0) (v := .slice (some ⟨b, o, none⟩) m c) rfl (by kernel_rfl) (by kernel_rfl) (by kernel_rfl) (fun _ _ _ h => h) (Or.inl ⟨by rfl, ?_⟩) hHeld ?_
  · intro w9 hSw
    obtain ⟨s0, s1⟩ := hSw
    go_simp
  refine wpAnyH_take (i := 1) (v := .int .i64 (i : Int)) rfl (by kernel_rfl) (by kernel_rfl) (by kernel_rfl) (fun _ _ _ h => h) (Or.inl ⟨by rfl, ?_⟩) hHeld ?_
  · intro w9 hSw
    obtain ⟨s0, s1⟩ := hSw
    go_simp
  refine wpAnyH_take (i := 2) (v := .slice (some ⟨b, o, none⟩) m c) rfl (by kernel_rfl) (by kernel_rfl) (by kernel_rfl) (fun _ _ _ h => h) (Or.inl ⟨by rfl, ?_⟩) hHeld ?_
  · intro w9 hSw
    obtain ⟨s0, s1⟩ := hSw
    go_simp
  refine wpAnyH_take (i := 3) (v := .int .i64 (m : Int)) rfl (by kernel_rfl) (by kernel_rfl) (by kernel_rfl) (fun _ _ _ h => h) (Or.inl ⟨by rfl, ?_⟩) hHeld ?_
  · intro w9 hSw
    obtain ⟨s0, s1⟩ := hSw
    go_simp
  refine wpAnyH_take (i := 4) (v := .int .i64 (p1 : Int)) rfl (by kernel_rfl) (by kernel_rfl) (by kernel_rfl) (fun _ _ _ h => h) (Or.inl ⟨by rfl, ?_⟩) hHeld ?_
  · intro w9 hSw
    obtain ⟨s0, s1⟩ := hSw
    go_simp
  refine wpAnyH_take (i := 5) (v := .pointer (some ⟨b, o + p1, none⟩)) rfl (by kernel_rfl) (by kernel_rfl) (by kernel_rfl) (fun _ _ _ h => h) (Or.inl ⟨by rfl, ?_⟩) hHeld ?_
  · intro w9 hSw
    obtain ⟨s0, s1⟩ := hSw
    go_simp
  refine wpAnyH_take (i := 6) (v := .int .u8 (y1 : Int)) rfl (by kernel_rfl) (by kernel_rfl) (by kernel_rfl) (fun _ _ _ h => h) (Or.inl ⟨by rfl, ?_⟩) hHeld ?_
  · intro w9 hSw
    obtain ⟨s0, s1⟩ := hSw
    go_simp
  refine wpAnyH_take (i := 7) (v := .int .i64 (y1 : Int)) rfl (by kernel_rfl) (by kernel_rfl) (by kernel_rfl) (fun _ _ _ h => h) (Or.inl ⟨by rfl, ?_⟩) hHeld ?_
  · intro w9 hSw
    obtain ⟨s0, s1⟩ := hSw
    go_simp
  refine wpAnyH_take (i := 8) (v := .int .i64 ((y1 : Int) * 31)) rfl (by kernel_rfl) (by kernel_rfl) (by kernel_rfl) (fun _ _ _ h => h) (Or.inl ⟨by rfl, ?_⟩) hHeld ?_
  · intro w9 hSw
    obtain ⟨s0, s1⟩ := hSw
    go_simp
  refine wpAnyH_take (i := 9) (v := .slice (some ⟨b, o, none⟩) m c) rfl (by kernel_rfl) (by kernel_rfl) (by kernel_rfl) (fun _ _ _ h => h) (Or.inl ⟨by rfl, ?_⟩) hHeld ?_
  · intro w9 hSw
    obtain ⟨s0, s1⟩ := hSw
    go_simp
  refine wpAnyH_take (i := 10) (v := .int .i64 (i : Int)) rfl (by kernel_rfl) (by kernel_rfl) (by kernel_rfl) (fun _ _ _ h => h) (Or.inl ⟨by rfl, ?_⟩) hHeld ?_
  · intro w9 hSw
    obtain ⟨s0, s1⟩ := hSw
    go_simp
  refine wpAnyH_take (i := 11) (v := .int .i64 ((i : Int) + 1)) rfl (by kernel_rfl) (by kernel_rfl) (by kernel_rfl) (fun _ _ _ h => h) (Or.inl ⟨by rfl, ?_⟩) hHeld ?_
  · intro w9 hSw
    obtain ⟨s0, s1⟩ := hSw
    go_simp
  refine wpAnyH_take (i := 12) (v := .slice (some ⟨b, o, none⟩) m c) rfl (by kernel_rfl) (by kernel_rfl) (by kernel_rfl) (fun _ _ _ h => h) (Or.inl ⟨by rfl, ?_⟩) hHeld ?_
  · intro w9 hSw
    obtain ⟨s0, s1⟩ := hSw
    go_simp
  refine wpAnyH_take (i := 13) (v := .int .i64 (m : Int)) rfl (by kernel_rfl) (by kernel_rfl) (by kernel_rfl) (fun _ _ _ h => h) (Or.inl ⟨by rfl, ?_⟩) hHeld ?_
  · intro w9 hSw
    obtain ⟨s0, s1⟩ := hSw
    go_simp
  refine wpAnyH_take (i := 14) (v := .int .i64 (p2 : Int)) rfl (by kernel_rfl) (by kernel_rfl) (by kernel_rfl) (fun _ _ _ h => h) (Or.inl ⟨by rfl, ?_⟩) hHeld ?_
  · intro w9 hSw
    obtain ⟨s0, s1⟩ := hSw
    go_simp
  refine wpAnyH_take (i := 15) (v := .pointer (some ⟨b, o + p2, none⟩)) rfl (by kernel_rfl) (by kernel_rfl) (by kernel_rfl) (fun _ _ _ h => h) (Or.inl ⟨by rfl, ?_⟩) hHeld ?_
  · intro w9 hSw
    obtain ⟨s0, s1⟩ := hSw
    go_simp
  refine wpAnyH_take (i := 16) (v := .int .u8 (y2 : Int)) rfl (by kernel_rfl) (by kernel_rfl) (by kernel_rfl) (fun _ _ _ h => h) (Or.inl ⟨by rfl, ?_⟩) hHeld ?_
  · intro w9 hSw
    obtain ⟨s0, s1⟩ := hSw
    go_simp
  refine wpAnyH_take (i := 17) (v := .int .i64 (y2 : Int)) rfl (by kernel_rfl) (by kernel_rfl) (by kernel_rfl) (fun _ _ _ h => h) (Or.inl ⟨by rfl, ?_⟩) hHeld ?_
  · intro w9 hSw
    obtain ⟨s0, s1⟩ := hSw
    go_simp
  refine wpAnyH_take (i := 18) (v := .int .i64 ((y1 : Int) * 31 + (y2 : Int))) rfl (by kernel_rfl) (by kernel_rfl) (by kernel_rfl) (fun _ _ _ h => h) (Or.inl ⟨by rfl, ?_⟩) hHeld ?_
  · intro w9 hSw
    obtain ⟨s0, s1⟩ := hSw
    go_simp
  refine wpAnyH_take (i := 19) (v := .int .i64 (i : Int)) rfl (by kernel_rfl) (by kernel_rfl) (by kernel_rfl) (fun _ _ _ h => h) (Or.inl ⟨by rfl, ?_⟩) hHeld ?_
  · intro w9 hSw
    obtain ⟨s0, s1⟩ := hSw
    go_simp
  refine wpAnyH_take (i := 20) (v := .slice (some ⟨b, o, none⟩) m c) rfl (by kernel_rfl) (by kernel_rfl) (by kernel_rfl) (fun _ _ _ h => h) (Or.inl ⟨by rfl, ?_⟩) hHeld ?_
  · intro w9 hSw
    obtain ⟨s0, s1⟩ := hSw
    go_simp
  refine wpAnyH_take (i := 21) (v := .int .i64 (m : Int)) rfl (by kernel_rfl) (by kernel_rfl) (by kernel_rfl) (fun _ _ _ h => h) (Or.inl ⟨by rfl, ?_⟩) hHeld ?_
  · intro w9 hSw
    obtain ⟨s0, s1⟩ := hSw
    go_simp
  refine wpAnyH_take (i := 22) (v := .int .i64 (d1 : Int)) rfl (by kernel_rfl) (by kernel_rfl) (by kernel_rfl) (fun _ _ _ h => h) (Or.inl ⟨by rfl, ?_⟩) hHeld ?_
  · intro w9 hSw
    obtain ⟨s0, s1⟩ := hSw
    go_simp
  refine wpAnyH_take (i := 23) (v := .int .i64 (s : Int)) rfl (by kernel_rfl) (by kernel_rfl) (by kernel_rfl) (fun _ _ _ h => h) (Or.inl ⟨by rfl, ?_⟩) hHeld ?_
  · intro w9 hSw
    obtain ⟨s0, s1⟩ := hSw
    go_simp
  refine wpAnyH_take (i := 24) (v := .int .i64 (n : Int)) rfl (by kernel_rfl) (by kernel_rfl) (by kernel_rfl) (fun _ _ _ h => h) (Or.inl ⟨by rfl, ?_⟩) hHeld ?_
  · intro w9 hSw
    obtain ⟨s0, s1⟩ := hSw
    go_simp
  refine wpAnyH_take (i := 25) (v := .int .i64 (x : Int)) rfl (by kernel_rfl) (by kernel_rfl) (by kernel_rfl) (fun _ _ _ h => h) (Or.inl ⟨by rfl, ?_⟩) hHeld ?_
  · intro w9 hSw
    obtain ⟨s0, s1⟩ := hSw
    go_simp
  refine wpAnyH_ready (rs := [26]) (by kernel_rfl) (by simp) ?_
  refine AllReadyH.cons rfl (fun K hK => ?_) AllReadyH.nil
  go_simp
  refine hK.out _ _ ⟨e0, e1⟩ (fun hHeld => ?_)
  clear hK K
  refine wpAnyH_done (by kernel_rfl) ?_ _
  refine NoPanic.normal ?_
  go_wp2_with fail
  go_ret
  exact ⟨x, rfl, hxl, (Below.refl _ _).drew⟩

end Go.Proofs.YtddnecljdecamaaGreatDoor
namespace Go.Proofs.YtddnecljdecamaaGreatDoor
open Go.ChangeShapes Go.WideShapes Go.ChangeAt Go.RowKit Go.Deep Go.Lib
set_option linter.unusedVariables false
set_option linter.unusedSimpArgs false
set_option maxRecDepth 100000

def fpre : ByteArray := ⟨#[102, 47]⟩
/-- The validities of B are none below those of A. -/
def RiseP (A B : List PM) : Prop := storeB A = true ∧ storeB B = true ∧ nextM A ≤ nextM B ∧ ∀ p ∈ B, ∀ v f : ByteArray, (47 : UInt8) ∉ v.data.toList → (47 : UInt8) ∉ f.data.toList → p.1 = folderK v f → ∃ x n, metaM B v f = some (x, n) ∧ (nextM A ≤ x ∨ ∃ m, metaM A v f = some (x, m) ∧ m ≤ n)
theorem folder_form {B : List PM} {p : PM} (h : storeB B = true) (hp : p ∈ B) (hb : beginsB p.1 fpre = true) : ∃ v f : ByteArray, (47 : UInt8) ∉ v.data.toList ∧ (47 : UInt8) ∉ f.data.toList ∧ p.1 = folderK v f ∧ v.size ≤ 30 ∧ f.size ≤ 30 ∧ (partsK p.1).map bs = [v, f] ∧ 2 ≤ p.1.size ∧ p.1.size ≤ 30 := by
  obtain ⟨r, hr⟩ := begins_iff.1 hb
  have hr2 : p.1.data.toList = 102 :: 47 :: r := by rw [hr]; rfl
  have hnv : p.1 ≠ vK := fun e => by rw [e] at hr2; cases hr2
  have ha := store_pair h hp hnv
  have hsp := parts_of hr2 (by decide)
  rw [hsp] at ha
  have hpk : partsK p.1 = splitL 47 r := by unfold partsK; rw [hr2]; rfl
  have hns := no_slash (c := 47) (l := r) rfl
  have hz := (store_facts h).1.2.1 p hp
  have hsz : p.1.size = r.length + 2 := by rw [size_of, hr2]; rfl
  match hs : splitL 47 r, ha, hns with
  | [], _, _ => exact absurd hs (splitL_ne 47 _)
  | [b], ha, _ =>
    have h1 : ([102] : List UInt8) = [117] := ha.1
    cases h1
  | [b, c], _, hns =>
    have hb1 := hns b (by simp)
    have hc1 := hns c (by simp)
    have hj : r = b ++ 47 :: c := by
      obtain ⟨rest, h1, h2, _⟩ := split_back hs
      rw [h1, (split_one h2).1]
    refine ⟨bs b, bs c, hb1, hc1, ?_, ?_, ?_, ?_, by omega, hz.2.1⟩
    · refine bs_inj ?_
      rw [hr2, folderK_data, hj]
      simp [bs]
    · have : (bs b).size = b.length := rfl
      rw [hj, List.length_append] at hsz
      omega
    · have : (bs c).size = c.length := rfl
      rw [hj, List.length_append, List.length_cons] at hsz
      omega
    · rw [hpk, hs]
      rfl
  | [b, c, d], ha, _ =>
    have h1 : ([102] : List UInt8) = [109] := ha.1
    cases h1
  | _ :: _ :: _ :: _ :: _, ha, _ =>
    exact ha.elim
theorem metaSome (a : Option Addr) (n c : Nat) (L : List PM) (u f : ByteArray) (w : World) (hL : L.length = n) (hg : GoodL L) (hu : u.size ≤ 1048576) (hf : f.size ≤ 1048576) (h : Src w a (cellsP L)) (x y : Int) (hm : metaM L u f = some (x, y)) :
    Calls Tryz.prog 79 #[.slice a n c, .string u, .string f] w fun e w' => e = .returned (.tuple #[.int .i64 x, .int .i64 y, .bool true]) ∧ Below w.heap.size w w' := by
  refine (l07MetaS a n c L u f w hL hg hu hf h).mono ?_
  rintro e w' ⟨p, q, rfl, hpost, hb⟩
  rw [hm] at hpost ⊢
  obtain ⟨h1, h2⟩ := hpost _ rfl
  dsimp only at h1 h2
  rw [h1, h2]
  exact ⟨rfl, hb⟩
set_option maxHeartbeats 8000000 in
theorem specRises (a1 : Option Addr) (n1 c1 : Nat) (A : List PM) (a2 : Option Addr) (n2 c2 : Nat) (B : List PM) (w : World) (hA : A.length = n1) (hB : B.length = n2) (hr : RiseP A B) (h1 : Src w a1 (cellsP A)) (h2 : Src w a2 (cellsP B)) :
    Calls Tryz.prog 33 #[.slice a1 n1 c1, .slice a2 n2 c2] w fun e w' => e = .returned (.tuple #[.bool true, .int .i64 0]) ∧ Below w.heap.size w w' := by
  obtain ⟨hsA, hsB, hnx, hall⟩ := hr
  have hgA := (store_facts hsA).1
  have hgB := (store_facts hsB).1
  have n16 : n1 ≤ 60 := by rw [← hA]; exact hgA.1
  have n26 : n2 ≤ 60 := by rw [← hB]; exact hgB.1
  have COA := fun (W : World) (k1 : Src W a1 (cellsP A)) => specMailStoreOK a1 n1 c1 A W hA (by omega) (fun x hx => by have := hgA.2.1 x hx; omega) k1 true hsA
  have COB := fun (W : World) (k1 : Src W a2 (cellsP B)) => specMailStoreOK a2 n2 c2 B W hB (by omega) (fun x hx => by have := hgB.2.1 x hx; omega) k1 true hsB
  have CNA := fun (W : World) (k1 : Src W a1 (cellsP A)) => l07NextW a1 n1 c1 A W hA hgA.wide k1
  have CNB := fun (W : World) (k1 : Src W a2 (cellsP B)) => l07NextW a2 n2 c2 B W hB hgB.wide k1
  have CMA := fun (v f : ByteArray) (hv : v.size ≤ 30) (hf : f.size ≤ 30) (W : World) (k1 : Src W a1 (cellsP A)) => l07MetaS a1 n1 c1 A v f W hA hgA (by omega) (by omega) k1
  have CMB := fun (v f : ByteArray) (hv : v.size ≤ 30) (hf : f.size ≤ 30) (W : World) (k1 : Src W a2 (cellsP B)) => metaSome a2 n2 c2 B v f W hB hgB (by omega) (by omega) k1
  have CMX := fun (v f : ByteArray) (hv : v.size ≤ 30) (hf : f.size ≤ 30) (W : World) (k1 : Src W a1 (cellsP A)) => metaSome a1 n1 c1 A v f W hA hgA (by omega) (by omega) k1
  have CU := fun (W : World) (k1 : Src W a2 (cellsP B)) => l01Under a2 n2 c2 (fK B) (fV B) fpre W (by omega) (by decide) (fun i hi => by
    have hi2 : i < B.length := by omega
    obtain ⟨e1, e2⟩ := at_fst hi2
    rw [e1, e2]
    have := hgB.2.1 _ (List.getElem_mem hi2)
    omega) (sp_src k1 hB)
  have eU : under (fK B) (fV B) fpre n2 = B.filter fun x => beginsB x.1 fpre := by
    rw [under_is B fpre n2 (by omega), List.take_of_length_le (by omega)]
  simp only [eU] at CU
  obtain ⟨U, hU⟩ : ∃ t, (B.filter fun x => beginsB x.1 fpre) = t := ⟨_, rfl⟩
  simp only [hU] at CU
  obtain ⟨m, hm⟩ : ∃ t, U.length = t := ⟨_, rfl⟩
  have HUM : Hid (U.length = m) := hm
  have hm60 : m ≤ 60 := by
    rw [← hm, ← hU]
    have := List.length_filter_le (fun x : PM => beginsB x.1 fpre) B
    omega
  have HEA : Hid (∀ p ∈ U, ∃ v f : ByteArray, v.size ≤ 30 ∧ f.size ≤ 30 ∧ (partsK p.1).map bs = [v, f] ∧ 2 ≤ p.1.size ∧ p.1.size ≤ 30 ∧ ∃ x n, metaM B v f = some (x, n) ∧ (nextM A ≤ x ∨ ∃ m, metaM A v f = some (x, m) ∧ m ≤ n)) := fun p hp => by
    rw [← hU, List.mem_filter] at hp
    obtain ⟨v, f, k1, k2, k3, k4, k5, k6, k7, k8⟩ := folder_form hsB hp.1 hp.2
    exact ⟨v, f, k4, k5, k6, k7, k8, hall p hp.1 v f k1 k2 k3⟩
  have HS : Hid (Src w a1 (cellsP A) ∧ Src w a2 (cellsP B)) := ⟨h1, h2⟩
  obtain ⟨xa, hxa⟩ : ∃ x, nextM A = x := ⟨_, rfl⟩
  obtain ⟨xb, hxb⟩ : ∃ x, nextM B = x := ⟨_, rfl⟩
  simp only [hxa] at CNA
  simp only [hxb] at CNB
  rw [hxa, hxb] at hnx
  rw [hxa] at HEA
  have hnb : ¬ xb < xa := by omega
  have hl1 : ¬ (4096 : Int) < (n1 : Int) := by omega
  have hl2 : ¬ (4096 : Int) < (n2 : Int) := by omega
  clear hsA hsB hall hgA hgB hA hB h1 h2 eU hU hm hxa hxb
  go_enter Tryz.func33, Tryz.ntmps33
  go_wp2_with fail
  refine (COA w HS.out.1).mono ?_
  rintro e w1 ⟨rfl, hb1⟩
  have B1 : Hid (Below w.heap.size w w1) := hb1
  clear hb1 COA
  go_wp2_with fail
  refine (COB w1 (HS.out.2.below B1.out)).mono ?_
  rintro e w2 ⟨rfl, hb2⟩
  have B2 : Hid (Below w.heap.size w w2) := B1.out.trans (hb2.mono B1.out.size)
  have S2 : Hid (Src w2 a1 (cellsP A) ∧ Src w2 a2 (cellsP B)) := ⟨HS.out.1.below B2.out, HS.out.2.below B2.out⟩
  clear hb2 COB HS
  go_wp2_with fail
  refine (CNB w2 S2.out.2).mono ?_
  rintro e w3 ⟨rfl, hw3⟩
  obtain rfl := hw3
  go_wp2_with fail
  refine (CNA w3 S2.out.1).mono ?_
  rintro e w4 ⟨rfl, hw4⟩
  obtain rfl := hw4
  clear CNB
  go_wp2_with fail
  refine (CU w4 S2.out.2).mono ?_
  rintro e w5 ⟨v5, rfl, ho5, hb5⟩
  have ho6 : w5.ownsRow w4.heap.size 68 2 v5 U.length (cellsP U) := ho5
  rw [HUM.out] at ho6
  obtain ⟨au, cu, rfl, hsu, _⟩ := own_src ho6
  have B5 : Hid (Below w.heap.size w w5) := B2.out.trans (hb5.mono B2.out.size)
  have S5 : Hid (Src w5 a1 (cellsP A) ∧ Src w5 a2 (cellsP B) ∧ Src w5 au (cellsP U)) := ⟨S2.out.1.below hb5, S2.out.2.below hb5, hsu⟩
  clear ho5 ho6 hb5 hsu CU S2
  go_wp2_with fail
  go_loopw [7] (fun iv wr => ∃ j : Nat, j ≤ m ∧ iv = .int .i64 (j : Int) ∧ Hid (Below w5.heap.size w5 wr)) (fun i _ => m - (RowKit.intOf i).toNat)
  case atStart => exact ⟨0, by omega, rfl, Below.refl _ _⟩
  case round =>
    obtain ⟨j, hj, rfl, hbr⟩ := hrel
    have B6 : Hid (Below w.heap.size w wr) := B5.out.trans (hbr.out.mono B5.out.size)
    by_cases hlt : j < m
    · have hlti : (j : Int) < (m : Int) := by omega
      have hj0 : (0 : Int) ≤ (j : Int) := by omega
      obtain ⟨b, o, x, y, rfl, e0, e1, hx⟩ := srcP (S5.out.2.2.below hbr.out) (i := j) (by rw [HUM.out]; exact hlt)
      have hmem : (x, y) ∈ U := by
        rw [← hx.out, List.getD_eq_getElem?_getD, List.getElem?_eq_getElem (by rw [HUM.out]; exact hlt)]
        exact List.getElem_mem _
      obtain ⟨v, f, hv, hf, hpk, z1, z2, xx, nn, hmB, hor⟩ := HEA.out (x, y) hmem
      have CK := l07NamesS x wr z1 (by have : x.size ≤ 30 := z2; omega)
      have hpk2 : (partsK x).map bs = [v, f] := hpk
      have hpl : (partsK x).length = 2 := by
        have h9 := congrArg List.length hpk2
        rw [List.length_map] at h9
        exact h9
      rw [hpk2, hpl] at CK
      have HOR : Hid (metaM B v f = some (xx, nn) ∧ (xa ≤ xx ∨ ∃ m, metaM A v f = some (xx, m) ∧ m ≤ nn)) := ⟨hmB, hor⟩
      clear hx hmem hpk hpk2 hpl hmB hor e1 z1 z2
      go_wp2_with fail
      refine CK.mono ?_
      rintro e w7 ⟨v7, rfl, ho7, hb7⟩
      obtain ⟨aw, cw, rfl, hsw, _⟩ := own_src ho7
      have B7 : Hid (Below w5.heap.size w5 w7) := hbr.out.trans (hb7.mono hbr.out.size)
      obtain ⟨b8, o8, s0, rfl, g0, hg0⟩ := srcS hsw (i := 0) (by show 0 < 2; omega)
      obtain ⟨b9, o9, s1, e9, g1, hg1⟩ := srcS hsw (i := 1) (by show 1 < 2; omega)
      cases e9
      obtain rfl : v = s0 := hg0.out
      obtain rfl : f = s1 := hg1.out
      have G7 : Hid (Src w7 (some ⟨b8, o8, none⟩) (cellsS [v, f])) := hsw
      have CB7 := CMB v f hv hf w7.drew (S5.out.2.1.below B7.out.drew) xx nn HOR.out.1
      clear ho7 hb7 CK hg0 hg1 hsw e0
      go_wp2_with fail
      go_upto_region 12 with fail
      refine wp_region_noPanic ?_
      refine wp_region_held_drew (S := fun w' => w'.cell? ⟨b8, o8, none⟩ = some (.string v) ∧ w'.cell? ⟨b8, o8 + 1, none⟩ = some (.string f)) (by kernel_rfl) ⟨g0, g1⟩ (fun hHeld => ?_)
      refine tkA (i := 0) (v := .slice a2 n2 c2) ?_ hHeld ?_
      · intro w9 hSw
        obtain ⟨y0, y1⟩ := hSw
        go_simp
      simp only [Act.put, List.setIfInBounds_toArray, List.set_cons_zero, List.set_cons_succ]
      refine tkA (i := 1) (v := .slice (some ⟨b8, o8, none⟩) 2 cw) ?_ hHeld ?_
      · intro w9 hSw
        obtain ⟨y0, y1⟩ := hSw
        go_simp
      simp only [Act.put, List.setIfInBounds_toArray, List.set_cons_zero, List.set_cons_succ]
      refine tkA (i := 2) (v := .pointer (some ⟨b8, o8, none⟩)) ?_ hHeld ?_
      · intro w9 hSw
        obtain ⟨y0, y1⟩ := hSw
        go_simp
      simp only [Act.put, List.setIfInBounds_toArray, List.set_cons_zero, List.set_cons_succ]
      refine tkA (i := 3) (v := .string v) ?_ hHeld ?_
      · intro w9 hSw
        obtain ⟨y0, y1⟩ := hSw
        go_simp
      simp only [Act.put, List.setIfInBounds_toArray, List.set_cons_zero, List.set_cons_succ]
      refine tkA (i := 4) (v := .slice (some ⟨b8, o8, none⟩) 2 cw) ?_ hHeld ?_
      · intro w9 hSw
        obtain ⟨y0, y1⟩ := hSw
        go_simp
      simp only [Act.put, List.setIfInBounds_toArray, List.set_cons_zero, List.set_cons_succ]
      refine tkA (i := 5) (v := .pointer (some ⟨b8, o8 + 1, none⟩)) ?_ hHeld ?_
      · intro w9 hSw
        obtain ⟨y0, y1⟩ := hSw
        go_simp
      simp only [Act.put, List.setIfInBounds_toArray, List.set_cons_zero, List.set_cons_succ]
      refine tkA (i := 6) (v := .string f) ?_ hHeld ?_
      · intro w9 hSw
        obtain ⟨y0, y1⟩ := hSw
        go_simp
      simp only [Act.put, List.setIfInBounds_toArray, List.set_cons_zero, List.set_cons_succ]
      refine wpAnyH_ready (rs := [7]) (by kernel_rfl) (by simp) ?_
      refine AllReadyH.cons rfl (fun K hK => ?_) AllReadyH.nil
      go_simp
      refine CB7.mono ?_
      rintro e w8 ⟨rfl, hb8⟩
      dsimp only
      have B8 : Hid (Below w5.heap.size w5 w8) := B7.out.drew.trans (Below.mono hb8 B7.out.size)
      have G8 : Hid (Src w8 (some ⟨b8, o8, none⟩) (cellsS [v, f])) := Src.below (w := w7.drew) G7.out hb8
      have y0 : w8.cell? ⟨b8, o8, none⟩ = some (.string v) := cell_later (w := w7.drew) hb8 g0
      have y1 : w8.cell? ⟨b8, o8 + 1, none⟩ = some (.string f) := cell_later (w := w7.drew) hb8 g1
      clear hb8 CB7 g0 g1
      refine hK _ _ ⟨y0, y1⟩ (fun hHeld => ?_)
      clear hK K
      refine tkA (i := 8) (v := .tuple #[.int .i64 xx, .int .i64 nn, .bool true]) ?_ hHeld ?_
      · intro w9 hSw
        obtain ⟨y0, y1⟩ := hSw
        go_simp
      simp only [Act.put, List.setIfInBounds_toArray, List.set_cons_zero, List.set_cons_succ]
      refine tkA (i := 9) (v := .int .i64 xx) ?_ hHeld ?_
      · intro w9 hSw
        obtain ⟨y0, y1⟩ := hSw
        go_simp
      simp only [Act.put, List.setIfInBounds_toArray, List.set_cons_zero, List.set_cons_succ]
      refine tkA (i := 10) (v := .int .i64 nn) ?_ hHeld ?_
      · intro w9 hSw
        obtain ⟨y0, y1⟩ := hSw
        go_simp
      simp only [Act.put, List.setIfInBounds_toArray, List.set_cons_zero, List.set_cons_succ]
      refine tkA (i := 11) (v := .bool true) ?_ hHeld ?_
      · intro w9 hSw
        obtain ⟨y0, y1⟩ := hSw
        go_simp
      simp only [Act.put, List.setIfInBounds_toArray, List.set_cons_zero, List.set_cons_succ]
      refine wpAnyH_ready (rs := [12]) (by kernel_rfl) (by simp) ?_
      refine AllReadyH.cons rfl (fun K hK => ?_) AllReadyH.nil
      go_simp
      refine hK _ _ ⟨y0, y1⟩ (fun hHeld => ?_)
      clear hK K
      refine wpAnyH_ready (rs := [13]) (by kernel_rfl) (by simp) ?_
      refine AllReadyH.cons rfl (fun K hK => ?_) AllReadyH.nil
      go_simp
      refine hK _ _ ⟨y0, y1⟩ (fun hHeld => ?_)
      clear hK K
      refine wpAnyH_ready (rs := [14]) (by kernel_rfl) (by simp) ?_
      refine AllReadyH.cons rfl (fun K hK => ?_) AllReadyH.nil
      go_simp
      refine hK _ _ ⟨y0, y1⟩ (fun hHeld => ?_)
      clear hK K
      refine wpAnyH_done (by kernel_rfl) ?_ _
      refine NoPanic.normal ?_
      clear hHeld
      have g0 := y0
      have g1 := y1
      clear y0 y1
      by_cases hx : xa ≤ xx
      · have CA8 := CMA v f hv hf w8.drew (S5.out.1.below B8.out.drew)
        obtain ⟨bm, hbm⟩ : ∃ bm, (metaM A v f).isSome = bm := ⟨_, rfl⟩
        rw [hbm] at CA8
        clear hbm
        go_upto_region 13 with fail
        refine wp_region_noPanic ?_
        refine wp_region_held_drew (S := fun w' => w'.cell? ⟨b8, o8, none⟩ = some (.string v) ∧ w'.cell? ⟨b8, o8 + 1, none⟩ = some (.string f)) (by kernel_rfl) ⟨g0, g1⟩ (fun hHeld => ?_)
        refine tkA (i := 0) (v := .slice a1 n1 c1) ?_ hHeld ?_
        · intro w9 hSw
          obtain ⟨y0, y1⟩ := hSw
          go_simp
        simp only [Act.put, List.setIfInBounds_toArray, List.set_cons_zero, List.set_cons_succ]
        refine tkA (i := 1) (v := .slice (some ⟨b8, o8, none⟩) 2 cw) ?_ hHeld ?_
        · intro w9 hSw
          obtain ⟨y0, y1⟩ := hSw
          go_simp
        simp only [Act.put, List.setIfInBounds_toArray, List.set_cons_zero, List.set_cons_succ]
        refine tkA (i := 2) (v := .pointer (some ⟨b8, o8, none⟩)) ?_ hHeld ?_
        · intro w9 hSw
          obtain ⟨y0, y1⟩ := hSw
          go_simp
        simp only [Act.put, List.setIfInBounds_toArray, List.set_cons_zero, List.set_cons_succ]
        refine tkA (i := 3) (v := .string v) ?_ hHeld ?_
        · intro w9 hSw
          obtain ⟨y0, y1⟩ := hSw
          go_simp
        simp only [Act.put, List.setIfInBounds_toArray, List.set_cons_zero, List.set_cons_succ]
        refine tkA (i := 4) (v := .slice (some ⟨b8, o8, none⟩) 2 cw) ?_ hHeld ?_
        · intro w9 hSw
          obtain ⟨y0, y1⟩ := hSw
          go_simp
        simp only [Act.put, List.setIfInBounds_toArray, List.set_cons_zero, List.set_cons_succ]
        refine tkA (i := 5) (v := .pointer (some ⟨b8, o8 + 1, none⟩)) ?_ hHeld ?_
        · intro w9 hSw
          obtain ⟨y0, y1⟩ := hSw
          go_simp
        simp only [Act.put, List.setIfInBounds_toArray, List.set_cons_zero, List.set_cons_succ]
        refine tkA (i := 6) (v := .string f) ?_ hHeld ?_
        · intro w9 hSw
          obtain ⟨y0, y1⟩ := hSw
          go_simp
        simp only [Act.put, List.setIfInBounds_toArray, List.set_cons_zero, List.set_cons_succ]
        refine wpAnyH_ready (rs := [7]) (by kernel_rfl) (by simp) ?_
        refine AllReadyH.cons rfl (fun K hK => ?_) AllReadyH.nil
        go_simp
        refine CA8.mono ?_
        rintro e w9 ⟨p, q, rfl, _, hb9⟩
        dsimp only
        have B9 : Hid (Below w5.heap.size w5 w9) := B8.out.drew.trans (Below.mono hb9 B8.out.size)
        have G9 : Hid (Src w9 (some ⟨b8, o8, none⟩) (cellsS [v, f])) := Src.below (w := w8.drew) G8.out hb9
        have y0 : w9.cell? ⟨b8, o8, none⟩ = some (.string v) := cell_later (w := w8.drew) hb9 g0
        have y1 : w9.cell? ⟨b8, o8 + 1, none⟩ = some (.string f) := cell_later (w := w8.drew) hb9 g1
        clear hb9 CA8 g0 g1
        refine hK _ _ ⟨y0, y1⟩ (fun hHeld => ?_)
        clear hK K
        refine tkA (i := 8) (v := .tuple #[.int .i64 p, .int .i64 q, .bool bm]) ?_ hHeld ?_
        · intro w9 hSw
          obtain ⟨y0, y1⟩ := hSw
          go_simp
        simp only [Act.put, List.setIfInBounds_toArray, List.set_cons_zero, List.set_cons_succ]
        refine tkA (i := 9) (v := .int .i64 p) ?_ hHeld ?_
        · intro w9 hSw
          obtain ⟨y0, y1⟩ := hSw
          go_simp
        simp only [Act.put, List.setIfInBounds_toArray, List.set_cons_zero, List.set_cons_succ]
        refine tkA (i := 10) (v := .int .i64 q) ?_ hHeld ?_
        · intro w9 hSw
          obtain ⟨y0, y1⟩ := hSw
          go_simp
        simp only [Act.put, List.setIfInBounds_toArray, List.set_cons_zero, List.set_cons_succ]
        refine tkA (i := 11) (v := .bool bm) ?_ hHeld ?_
        · intro w9 hSw
          obtain ⟨y0, y1⟩ := hSw
          go_simp
        simp only [Act.put, List.setIfInBounds_toArray, List.set_cons_zero, List.set_cons_succ]
        refine wpAnyH_ready (rs := [12]) (by kernel_rfl) (by simp) ?_
        refine AllReadyH.cons rfl (fun K hK => ?_) AllReadyH.nil
        go_simp
        refine hK _ _ ⟨y0, y1⟩ (fun hHeld => ?_)
        clear hK K
        refine wpAnyH_ready (rs := [13]) (by kernel_rfl) (by simp) ?_
        refine AllReadyH.cons rfl (fun K hK => ?_) AllReadyH.nil
        go_simp
        refine hK _ _ ⟨y0, y1⟩ (fun hHeld => ?_)
        clear hK K
        refine wpAnyH_ready (rs := [14]) (by kernel_rfl) (by simp) ?_
        refine AllReadyH.cons rfl (fun K hK => ?_) AllReadyH.nil
        go_simp
        refine hK _ _ ⟨y0, y1⟩ (fun hHeld => ?_)
        clear hK K
        refine wpAnyH_done (by kernel_rfl) ?_ _
        refine NoPanic.normal ?_
        clear hHeld
        have CN9 := CNA w9 (S5.out.1.below B9.out)
        clear y0 y1
        go_wp2_with fail
        refine CN9.mono ?_
        rintro e w10 ⟨rfl, hw10⟩
        obtain rfl := hw10
        clear CN9
        go_wp2_with fail
        exact ⟨⟨j + 1, by omega, by go_num, B9.out⟩, by simp [RowKit.intOf]; omega⟩
      · obtain ⟨mm, hmA, hmn⟩ := HOR.out.2.resolve_left hx
        have CA8 := CMX v f hv hf w8.drew (S5.out.1.below B8.out.drew) xx mm hmA
        have hmn2 : ¬ nn < mm := by omega
        clear hmA hmn
        go_upto_region 13 with fail
        refine wp_region_noPanic ?_
        refine wp_region_held_drew (S := fun w' => w'.cell? ⟨b8, o8, none⟩ = some (.string v) ∧ w'.cell? ⟨b8, o8 + 1, none⟩ = some (.string f)) (by kernel_rfl) ⟨g0, g1⟩ (fun hHeld => ?_)
        refine tkA (i := 0) (v := .slice a1 n1 c1) ?_ hHeld ?_
        · intro w9 hSw
          obtain ⟨y0, y1⟩ := hSw
          go_simp
        simp only [Act.put, List.setIfInBounds_toArray, List.set_cons_zero, List.set_cons_succ]
        refine tkA (i := 1) (v := .slice (some ⟨b8, o8, none⟩) 2 cw) ?_ hHeld ?_
        · intro w9 hSw
          obtain ⟨y0, y1⟩ := hSw
          go_simp
        simp only [Act.put, List.setIfInBounds_toArray, List.set_cons_zero, List.set_cons_succ]
        refine tkA (i := 2) (v := .pointer (some ⟨b8, o8, none⟩)) ?_ hHeld ?_
        · intro w9 hSw
          obtain ⟨y0, y1⟩ := hSw
          go_simp
        simp only [Act.put, List.setIfInBounds_toArray, List.set_cons_zero, List.set_cons_succ]
        refine tkA (i := 3) (v := .string v) ?_ hHeld ?_
        · intro w9 hSw
          obtain ⟨y0, y1⟩ := hSw
          go_simp
        simp only [Act.put, List.setIfInBounds_toArray, List.set_cons_zero, List.set_cons_succ]
        refine tkA (i := 4) (v := .slice (some ⟨b8, o8, none⟩) 2 cw) ?_ hHeld ?_
        · intro w9 hSw
          obtain ⟨y0, y1⟩ := hSw
          go_simp
        simp only [Act.put, List.setIfInBounds_toArray, List.set_cons_zero, List.set_cons_succ]
        refine tkA (i := 5) (v := .pointer (some ⟨b8, o8 + 1, none⟩)) ?_ hHeld ?_
        · intro w9 hSw
          obtain ⟨y0, y1⟩ := hSw
          go_simp
        simp only [Act.put, List.setIfInBounds_toArray, List.set_cons_zero, List.set_cons_succ]
        refine tkA (i := 6) (v := .string f) ?_ hHeld ?_
        · intro w9 hSw
          obtain ⟨y0, y1⟩ := hSw
          go_simp
        simp only [Act.put, List.setIfInBounds_toArray, List.set_cons_zero, List.set_cons_succ]
        refine wpAnyH_ready (rs := [7]) (by kernel_rfl) (by simp) ?_
        refine AllReadyH.cons rfl (fun K hK => ?_) AllReadyH.nil
        go_simp
        refine CA8.mono ?_
        rintro e w9 ⟨rfl, hb9⟩
        dsimp only
        have B9 : Hid (Below w5.heap.size w5 w9) := B8.out.drew.trans (Below.mono hb9 B8.out.size)
        have G9 : Hid (Src w9 (some ⟨b8, o8, none⟩) (cellsS [v, f])) := Src.below (w := w8.drew) G8.out hb9
        have y0 : w9.cell? ⟨b8, o8, none⟩ = some (.string v) := cell_later (w := w8.drew) hb9 g0
        have y1 : w9.cell? ⟨b8, o8 + 1, none⟩ = some (.string f) := cell_later (w := w8.drew) hb9 g1
        clear hb9 CA8 g0 g1
        refine hK _ _ ⟨y0, y1⟩ (fun hHeld => ?_)
        clear hK K
        refine tkA (i := 8) (v := .tuple #[.int .i64 xx, .int .i64 mm, .bool true]) ?_ hHeld ?_
        · intro w9 hSw
          obtain ⟨y0, y1⟩ := hSw
          go_simp
        simp only [Act.put, List.setIfInBounds_toArray, List.set_cons_zero, List.set_cons_succ]
        refine tkA (i := 9) (v := .int .i64 xx) ?_ hHeld ?_
        · intro w9 hSw
          obtain ⟨y0, y1⟩ := hSw
          go_simp
        simp only [Act.put, List.setIfInBounds_toArray, List.set_cons_zero, List.set_cons_succ]
        refine tkA (i := 10) (v := .int .i64 mm) ?_ hHeld ?_
        · intro w9 hSw
          obtain ⟨y0, y1⟩ := hSw
          go_simp
        simp only [Act.put, List.setIfInBounds_toArray, List.set_cons_zero, List.set_cons_succ]
        refine tkA (i := 11) (v := .bool true) ?_ hHeld ?_
        · intro w9 hSw
          obtain ⟨y0, y1⟩ := hSw
          go_simp
        simp only [Act.put, List.setIfInBounds_toArray, List.set_cons_zero, List.set_cons_succ]
        refine wpAnyH_ready (rs := [12]) (by kernel_rfl) (by simp) ?_
        refine AllReadyH.cons rfl (fun K hK => ?_) AllReadyH.nil
        go_simp
        refine hK _ _ ⟨y0, y1⟩ (fun hHeld => ?_)
        clear hK K
        refine wpAnyH_ready (rs := [13]) (by kernel_rfl) (by simp) ?_
        refine AllReadyH.cons rfl (fun K hK => ?_) AllReadyH.nil
        go_simp
        refine hK _ _ ⟨y0, y1⟩ (fun hHeld => ?_)
        clear hK K
        refine wpAnyH_ready (rs := [14]) (by kernel_rfl) (by simp) ?_
        refine AllReadyH.cons rfl (fun K hK => ?_) AllReadyH.nil
        go_simp
        refine hK _ _ ⟨y0, y1⟩ (fun hHeld => ?_)
        clear hK K
        refine wpAnyH_done (by kernel_rfl) ?_ _
        refine NoPanic.normal ?_
        clear hHeld
        have CN9 := CNA w9 (S5.out.1.below B9.out)
        clear y0 y1
        go_wp2_with fail
        refine CN9.mono ?_
        rintro e w10 ⟨rfl, hw10⟩
        obtain rfl := hw10
        clear CN9
        go_wp2_with fail
        exact ⟨⟨j + 1, by omega, by go_num, B9.out⟩, by simp [RowKit.intOf]; omega⟩
    · obtain rfl : j = m := by omega
      have hlti : ¬ (j : Int) < (j : Int) := by omega
      go_wp2_with fail
      exact bodyPost_ret (v := .tuple #[.bool true, .int .i64 0]) (by simp [results, Tryz.results33, go_sem]) rfl ⟨rfl, B6.out⟩
end Go.Proofs.YtddnecljdecamaaGreatDoor
namespace Go.Proofs.YtddnecljdecamaaGreatDoor
open Go.ChangeShapes Go.WideShapes Go.ChangeAt Go.RowKit Go.Deep Go.Lib
set_option linter.unusedVariables false
set_option linter.unusedSimpArgs false
set_option maxRecDepth 100000

theorem inbox_short : shortB inboxT = true := by kernel_rfl
/-- The inbox of a drawn store. -/
theorem inbox_told {k : Nat} {L : List PM} {u : ByteArray} (h : Drawn k L) (hu : u = annT ∨ u = bobT) : ∃ va nx Ms, faM L u inboxT = ((inboxT, va, nx, Ms), 0) ∧ Ms.length ≤ 6 ∧ ∀ m ∈ Ms, ∀ R uid c, k ≤ 900 → cmR L u inboxT m.1 inboxT = (R, uid, c) → AppIs L R u inboxT m.2.2 m.2.1 uid c := by
  obtain ⟨hsu, S, hS, hw, hF, hnd, n1⟩ := h.desk hu
  have hus := word_slash hsu
  have hfs := word_slash inbox_short
  obtain ⟨g, hl⟩ := Option.isSome_iff_exists.1 hF.ib
  have hm0 := look_meta h.st hS hl
  have hk0 : knownR L u inboxT = 0 := by
    unfold knownR
    rw [(h.us u hus).2 hu, hm0]
    rfl
  obtain ⟨hgm, hgn⟩ := lookF_mem hl
  obtain ⟨g1, g2, g3, g4, g5, g6, g7⟩ := hF.fs g hgm
  refine ⟨g.val, g.next, g.mails, ?_, ?_, fun m hm R uid c hk hR => ?_⟩
  · unfold faM
    rw [ask_ok h.st (by simp [hsu, inbox_short]), if_pos rfl, hk0, if_pos rfl, hS]
    show (faG (lookF inboxT S.fs), (0 : Int)) = _
    rw [hl]
    show ((g.name, g.val, g.next, g.mails), (0 : Int)) = _
    rw [hgn]
  · have h6 := hF.sm
    have h7 : g.mails.length ≤ sumF S.fs := by
      have := sum_dropF hl
      omega
    omega
  · obtain ⟨c1, c2, c3, _⟩ := cp_hit (tf := inboxT) h.st hus hfs hS hw hl hm
    obtain ⟨m1, m2, m3, m4, m5⟩ := g7 m hm
    refine app_is hk h hu inbox_short c2 c3 m5 ?_
    unfold cmR at hR
    rw [ask_ok h.st (by simp [hsu, inbox_short]), if_neg (by decide)] at hR
    unfold cpR at hR
    rw [hk0, if_neg (by decide), if_neg (by decide), c1] at hR
    exact hR
/-- A folder that is not on the desk is not told. -/
theorem left_none {N Y : List PM} {u f : ByteArray} {S S' : SM} (hD : DeskS N u S) (hL : LeftS N Y u S S') (hsf : shortB f = true) (hno : ∀ g ∈ S'.fs, g.name ≠ f) : metaM Y u f = none := by
  have hus := word_slash hL.fit.us
  cases hv : metaM Y u f with
  | none => rfl
  | some p =>
    exfalso
    obtain ⟨w, k1, _⟩ := (meta_iff hL.up).1 hv
    rcases desk_mem hL.pm k1 with h8 | h8 | h8 | ⟨g', hg', h8 | ⟨m2, hm2, h8⟩⟩
    · exact folder_nv _ _ (congrArg Prod.fst h8)
    · have h7 := congrArg (fun x : PM => x.1.data.toList) h8
      simp only [userK_data, folderK_data] at h7
      cases h7
    · rw [hL.asd] at h8
      obtain ⟨_, k2⟩ := (aside_is hD.tk _ (notK_sub h8).2).1 h8
      exact k2 (owner_folderK hus (word_slash hsf))
    · exact hno g' hg' (folderK_inj (congrArg Prod.fst h8)).symm
    · have h7 := congrArg (fun x : PM => x.1.data.toList) h8
      unfold mailP at h7
      simp only [folderK_data, mailK_data'] at h7
      cases h7
/-- Validities rise where each folder is as it was, or is of a fresh validity. -/
theorem left_rises {N Y : List PM} {u : ByteArray} {S S' : SM} (hD : DeskS N u S) (hL : LeftS N Y u S S') (hn : nextM N ≤ nextM Y) (hall : ∀ g ∈ S'.fs, nextM N ≤ g.val ∨ ∃ m, metaM N u g.name = some (g.val, m) ∧ m ≤ g.next) : RiseP N Y := by
  have hus := word_slash hL.fit.us
  refine ⟨hD.st, hL.st, hn, fun p hp v f hv hf e => ?_⟩
  rcases desk_mem hL.pm hp with h8 | h8 | h8 | ⟨g', hg', h8 | ⟨m2, hm2, h8⟩⟩
  · rw [h8] at e
    exact absurd e.symm (folder_nv v f)
  · rw [h8] at e
    have h6 := congrArg (fun x : ByteArray => x.data.toList) e
    simp only [userK_data, folderK_data] at h6
    cases h6
  · rw [hL.asd] at h8
    obtain ⟨k1, k2⟩ := (aside_is hD.tk _ (notK_sub h8).2).1 h8
    have ha := store_pair hD.st k1 (notK_sub h8).2
    rw [e, split_folder hv hf] at ha
    obtain ⟨_, ha2⟩ := ha
    have ha3 : (shortB (bs f.data.toList) && (getM N (userK (bs v.data.toList))).isSome && foldB (nextM N) p.2 (metaM N (bs v.data.toList) (bs f.data.toList))) = true := ha2
    rw [data_bs, data_bs, Bool.and_eq_true] at ha3
    cases hm : metaM N v f with
    | none =>
      rw [hm] at ha3
      exact absurd (show false = true from ha3.2) (by decide)
    | some y =>
      obtain ⟨x, n⟩ := y
      obtain ⟨w, j1, j2⟩ := (meta_iff (store_facts hD.st).1.2.2).1 hm
      have hgv := (getM_mem (store_facts hD.st).1.2.2).2 j1
      have hpv : (folderK v f, p.2) ∈ N := by rw [← e]; exact k1
      have hgv2 := (getM_mem (store_facts hD.st).1.2.2).2 hpv
      rw [hgv] at hgv2
      have hw9 : w = p.2 := Option.some.inj hgv2
      refine ⟨x, n, (meta_iff hL.up).2 ⟨p.2, by rw [← e]; exact hp, by rw [← hw9]; exact j2⟩, .inr ⟨n, rfl, Int.le_refl _⟩⟩
  · rw [h8] at e
    have h6 := congrArg (fun x : ByteArray => x.data.toList) (show folderK u g'.name = folderK v f from e)
    simp only [folderK_data] at h6
    have hs := seg_inj hus hv (List.cons.inj (List.cons.inj h6).2).2
    obtain rfl : u = v := bs_inj hs.1
    obtain rfl : g'.name = f := bs_inj hs.2
    exact ⟨g'.val, g'.next, desk_folder hL.up hL.pm hg' (hL.fit.fs g' hg'), hall g' hg'⟩
  · rw [h8] at e
    unfold mailP at e
    have h6 := congrArg (fun x : ByteArray => x.data.toList) e
    simp only [mailK_data', folderK_data] at h6
    cases h6
def otherT : ByteArray := ⟨#[111, 116, 104, 101, 114]⟩
theorem other_short : shortB otherT = true := by kernel_rfl
theorem work_short : shortB workT = true := by kernel_rfl
theorem other_not : ¬ FoldN otherT := by
  rintro (h | h | h) <;> (have h2 := congrArg ByteArray.toList h; rw [ByteArray.toList_eq, ByteArray.toList_eq] at h2; revert h2; decide)
theorem work_inbox : workT ≠ inboxT := fun h => by
  have h2 := congrArg ByteArray.toList h
  rw [ByteArray.toList_eq, ByteArray.toList_eq] at h2
  revert h2
  decide
/-- What is asked of a folder that is renamed. -/
def RenIs (L R : List PM) (u : ByteArray) (q : Int) : Prop :=
  storeB R = true ∧ ((q = 16 ∧ (faM L u workT).2 = 16) ∨ (q = 0 ∧ ∃ va vb nx Ms, faM L u workT = ((workT, va, nx, Ms), 0) ∧ faM R u otherT = ((otherT, vb, nx, Ms), 0) ∧ faM R u workT = (z4, 16) ∧ va < vb ∧ RiseP L R ∧ Ms.length ≤ 6))
theorem ren_is {k : Nat} {L R : List PM} {u : ByteArray} {q : Int} (hk : k ≤ 900) (h : Drawn k L) (hu : u = annT ∨ u = bobT) (hR : lawM2 (rnR L u workT otherT) (askM L [u, workT, otherT]) = (R, q)) : RenIs L R u q := by
  obtain ⟨hsu, S, hS, hw, hF, hnd, n1⟩ := h.desk hu
  have hus := word_slash hsu
  have hD : DeskS L u S := ⟨h.st, hS, hw, hF, hnd, n1⟩
  have h25 := h.nx
  unfold lawM2 at hR
  rw [ask_ok h.st (by simp [hsu, work_short, other_short]), if_pos rfl] at hR
  rcases fa_drawn h hu work_short with ⟨h16, hfa⟩ | ⟨S9, g, hS9, _, hl9, hgn, h0, hfa, hri, hfn, _, _⟩
  · unfold rnR at hR
    rw [h16, if_pos (by decide)] at hR
    cases hR
    exact ⟨h.st, .inl ⟨rfl, by rw [hfa]⟩⟩
  · obtain rfl : S = S9 := by
      rw [hS] at hS9
      exact Option.some.inj hS9
    have hl := hl9
    have hno : lookF otherT S.fs = none := by
      cases hv : lookF otherT S.fs with
      | none => rfl
      | some x =>
        obtain ⟨w, k1, _⟩ := (meta_iff (store_facts h.st).1.2.2).1 (look_meta h.st hS hv)
        exact absurd (h.fo _ k1 u otherT hus (word_slash other_short) rfl) other_not
    have hQ : rnM (nextM L) S workT otherT = (0, nextM L + 1, ⟨S.aside, S.word, putF ⟨otherT, nextM L, g.next, g.mails⟩ (dropF workT S.fs)⟩) := by
      unfold rnM
      rw [if_neg hw, hl, rnO_some, if_neg work_inbox, hno, if_neg (by simp), if_neg (by omega)]
    have hO := rn_fits h.st hsu work_short other_short hS hQ
    have hT := step_rn (P := fun _ => True) n1 hF hnd other_short trivial hQ
    obtain ⟨_, j1, _, Y, up, pm, _, j5⟩ := hO.2 rfl
    have l1 := pm.length_eq
    have l2 := (desk_list h.st hus hS hw).length_eq
    have l3 := sum_dropF hl
    have l4 := drop_len0 hl
    have hnd9 : lookF otherT (dropF workT S.fs) = none := look_drop hno
    have l5 := sum_fresh (g := ⟨otherT, nextM L, g.next, g.mails⟩) (fs := dropF workT S.fs) hnd9
    have l6 := put_len0 (g := ⟨otherT, nextM L, g.next, g.mails⟩) (fs := dropF workT S.fs) hnd9
    have l7 : (⟨otherT, nextM L, g.next, g.mails⟩ : FM).mails.length = g.mails.length := rfl
    unfold deskP at l1
    simp only [List.length_cons, List.length_append, flat_len] at l1 l2
    have h60 := (store_facts h.st).1.1
    unfold fitsR at j5
    rw [if_neg (by omega)] at j5
    rw [hR] at j5
    injection j5 with j6 j7
    subst j6 j7
    obtain ⟨hL, hn⟩ := left_of hD hT j1 up pm (by omega)
    have hmem : (⟨otherT, nextM L, g.next, g.mails⟩ : FM) ∈ putF ⟨otherT, nextM L, g.next, g.mails⟩ (dropF workT S.fs) := put_self
    have hfo : faM R u otherT = ((otherT, nextM L, g.next, g.mails), 0) := hL.fa hD hmem hri
    have hnone : metaM R u workT = none := left_none hD hL work_short (fun x hx e => by
      rcases putF_mem hx with h9 | h9
      · exact drop_names hnd x h9 e
      · rw [h9] at e
        exact other_not (.inr (.inl e)))
    have hfw : faM R u workT = (z4, 16) := by
      have hk16 : knownR R u workT = 16 := by
        unfold knownR
        rw [desk_user hL.up hL.pm, hnone]
        rfl
      unfold faM
      rw [ask_ok hL.st (by simp [hsu, work_short]), if_pos rfl, hk16, if_neg (by decide)]
    obtain ⟨hgm, _⟩ := lookF_mem hl
    obtain ⟨g1, g2, g3, g4, g5, g6, g7⟩ := hF.fs g hgm
    refine ⟨hL.st, .inr ⟨rfl, g.val, nextM L, g.next, g.mails, hfa, hfo, hfw, g4, left_rises hD hL (by rw [hn]; omega) (fun x hx => ?_), by have := hF.sm; omega⟩⟩
    rcases putF_mem hx with h9 | h9
    · have hxS := (dropF_sub workT S.fs).subset h9
      exact .inr ⟨x.next, look_meta h.st hS (look_self hnd hxS), Int.le_refl _⟩
    · rw [h9]
      exact .inl (Int.le_refl _)
end Go.Proofs.YtddnecljdecamaaGreatDoor
