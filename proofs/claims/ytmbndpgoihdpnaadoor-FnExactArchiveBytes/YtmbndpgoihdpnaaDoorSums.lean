
/-
  Contracts of the specification's sum of bytes: its table of half bytes, and the loop over the bytes. By an AI agent.
-/
import Derived.Test.YtmbndpgoihdpnaaDoorLists4
import Derived.Deep.QuietTactic
import Derived.BigQuiet
import Derived.Test.YtmbndpgoihdpnaaDoorCrc
import Derived.Laws.Tables
namespace Go.Proofs.YtmbndpgoihdpnaaDoor
open Go.ChangeShapes Go.WideShapes Go.ChangeAt Go.RowKit Go.Deep
set_option linter.unusedVariables false

theorem below_setRow {B : Nat} {a w : World} (h : Below B a w) (g : Nat) (hg : B ≤ g) (cs : Array Value) : Below B a (w.setRow g cs) :=
  h.trans ⟨rfl, rfl, rfl, by simp, fun k hk => setRow_other w g k cs (by omega)⟩

abbrev BV (z : Nat → Nat) : Nat → Value := fun i => .int .u8 ((z i : Nat) : Int)
def tstep (x : Int) : Int := bits .xor .i64 (x / 2) (wrap64 (bits .and .i64 x 1 * 3988292384))
def itN : Nat → Int → Int
  | 0, i => i
  | m + 1, i => tstep (itN m i)
def tabCells (k : Nat) : Array Value := ((List.range 16).map fun i => Value.int .i64 (if i < k then ((tb i : Nat) : Int) else 0)).toArray
theorem tab_it : ∀ k : Fin 16, itN 4 (k.val : Int) = ((tb k.val : Nat) : Int) := by decide +kernel
theorem tabCells_size (k : Nat) : (tabCells k).size = 16 := by simp [tabCells]
theorem tabCells_get (k i : Nat) (h : i < 16) : (tabCells k)[i]? = some (.int .i64 (if i < k then ((tb i : Nat) : Int) else 0)) := by
  simp [tabCells, h]
theorem tabCells_step (k : Nat) (h : k < 16) : (tabCells k).setIfInBounds k (.int .i64 ((tb k : Nat) : Int)) = tabCells (k + 1) := by
  apply Array.ext_getElem?
  intro i
  rw [Array.getElem?_setIfInBounds]
  by_cases hi : i < 16
  · by_cases e : k = i
    · subst e; rw [if_pos rfl, if_pos (by rw [tabCells_size]; exact h), tabCells_get _ _ h, if_pos (by omega)]
    · rw [if_neg e, tabCells_get _ _ hi, tabCells_get _ _ hi]
      by_cases h1 : i < k
      · rw [if_pos h1, if_pos (by omega)]
      · rw [if_neg h1, if_neg (by omega)]
  · have h1 : k ≠ i := by omega
    rw [if_neg h1, Array.getElem?_eq_none (by rw [tabCells_size]; omega), Array.getElem?_eq_none (by rw [tabCells_size]; omega)]
theorem tabCells_zero : tabCells 0 = #[Value.int .i64 0, .int .i64 0, .int .i64 0, .int .i64 0, .int .i64 0, .int .i64 0, .int .i64 0, .int .i64 0, .int .i64 0, .int .i64 0, .int .i64 0, .int .i64 0, .int .i64 0, .int .i64 0, .int .i64 0, .int .i64 0] := by
  simp [tabCells, List.range, List.range.loop]

def TabRel (w wr : World) (k : Nat) : Prop := Below w.heap.size w wr ∧ wr.heap[w.heap.size]? = some (.cells (tabCells 0) 149 (0, 0)) ∧ wr.heap[w.heap.size + 1]? = some (.cells (tabCells k) 149 (0, 0))

set_option maxHeartbeats 800000 in
theorem table (w : World) : Calls Tryd.prog 103 #[] w fun e w' => e = .returned (.agg (tabCells 16)) ∧ Below w.heap.size w w' := by
  go_enter Tryd.func103, Tryd.ntmps103
  go_wp2_with fail
  go_loopw [2] (fun i wr => ∃ k : Nat, k ≤ 16 ∧ i = .int .i64 k ∧ Hid (TabRel w wr k)) (fun i _ => 16 - (intOf i).toNat)
  case atStart =>
    refine ⟨0, by omega, rfl, ((Below.refl _ _).alloc (Nat.le_refl _) _).alloc (by simp) _, ?_, ?_⟩
    · rw [tabCells_zero]; exact heap_alloc2_old _ _ _
    · rw [tabCells_zero]; exact heap_alloc2_new _ _ _
  case round =>
    obtain ⟨k, hk, rfl, hR⟩ := hrel
    by_cases hlt : k < 16
    · have hd : wr.cell? ⟨w.heap.size + 1, k, none⟩ = some (.int .i64 0) := by
        rw [cell_of_row wr _ k _ _ _ hR.out.2.2, tabCells_get _ _ hlt, if_neg (by omega)]
      have hf : wr.frozen? ⟨w.heap.size + 1, k, none⟩ = false := frozen_of_row wr _ k _ _ hR.out.2.2
      go_wp2_with fail
      go_loop [3, 4] (fun r j => ∃ (m : Nat) (x : Int), m ≤ 4 ∧ j = .int .i64 m ∧ r = .int .i64 x ∧ Hid (x = itN m k)) (fun _ j => 4 - (intOf j).toNat)
      case atStart => exact ⟨0, k, by omega, rfl, rfl, rfl⟩
      case round =>
        obtain ⟨m, x, hm, rfl, rfl, hx⟩ := hrel
        by_cases hl2 : m < 4
        · go_wp2_with fail
          exact ⟨⟨m + 1, _, by omega, by go_num, rfl, by rw [hx.out]; rfl⟩, by simp [intOf]; omega⟩
        · have hm4 : m = 4 := by omega
          have hxt : Hid (x = ((tb k : Nat) : Int)) := by
            have h1 := hx.out
            rw [hm4] at h1
            exact h1.trans (tab_it ⟨k, hlt⟩)
          clear hm4
          go_wp2_with fail
          refine ⟨⟨k + 1, by omega, by go_num, ?_⟩, by simp [intOf]; omega⟩
          obtain ⟨h1, h2, h3⟩ := hR.out
          rw [hxt.out]
          refine ⟨h1.setCell (by show w.heap.size ≤ w.heap.size + 1; omega) _, ?_, ?_⟩
          · rw [heap_setCell_other _ _ _ _ (by show w.heap.size ≠ w.heap.size + 1; omega)]; exact h2
          · rw [heap_setCell_same _ _ _ _ _ _ h3, tabCells_step k hlt]
    · have hk16 : k = 16 := by omega
      subst hk16
      obtain ⟨h1, h2, h3⟩ := hR.out
      clear hR
      have H1 := h1
      have H2 : Hid (wr.heap[w.heap.size]? = some (.cells (tabCells 0) 149 (0, 0))) := h2
      have H3 : Hid (wr.heap[w.heap.size + 1]? = some (.cells (tabCells 16) 149 (0, 0))) := h3
      clear h1 h2 h3
      go_wp2_with (first | (refine wpList_load_row rfl 149 _ rfl (w.heap.size + 1) rfl 149 _ (0, 0) _ H3.out Tryd.underlying149 rfl (by rw [tabCells_size]; kernel_rfl) ?_) | (refine wpList_store_row rfl 149 _ _ rfl w.heap.size (tabCells 16) rfl rfl 149 (tabCells 0) H2.out (by rw [tabCells_size]; kernel_rfl) (by rw [tabCells_size, tabCells_size]) (by decide +kernel) ?_))
      refine bodyPost_ret (v := .agg (tabCells 16)) (results_cell_row rfl _ _ w.heap.size 149 _ (0, 0) _ rfl (setRow_heap _ _ _ _ _ _ H2.out) Tryd.underlying149 rfl (by rw [tabCells_size]; kernel_rfl)) rfl ⟨rfl, below_setRow H1 _ (Nat.le_refl _) _⟩

theorem quarter (x i : Nat) (hx : x < 4294967296) : bits .xor .i64 ((x : Int) / 16) ((tb i : Nat) : Int) = ((half x i : Nat) : Int) := by
  have := tb_lt i
  have h1 := i64_xor_nat (x / 16) (tb i) (by omega) (by omega)
  rw [← show ((x / 16 : Nat) : Int) = (x : Int) / 16 from by omega] at *
  exact h1

set_option maxHeartbeats 800000 in
theorem l01Check (a : Option Addr) (n c : Nat) (z : Nat → Nat) (w : World) (hn : n ≤ 1048576) (hz : ∀ i, z i < 256) (h : Sl w a n (BV z)) :
    Calls Tryd.prog 84 #[.slice a n c] w fun e w' => e = .returned (.int .i64 ((crcTo z n ^^^ 4294967295 : Nat) : Int)) ∧ Below w.heap.size w w' := by
  go_enter Tryd.func84, Tryd.ntmps84
  go_wp2_with fail
  refine (table _).mono ?_
  rintro e w1 ⟨rfl, hb1⟩
  have h1 := h.below hb1
  clear h
  go_wp2_with (refine wpList_store_row rfl 149 _ _ rfl w1.heap.size (tabCells 16) rfl rfl 149 _ (heap_alloc_new _ _) (by rw [tabCells_size]; kernel_rfl) (by rw [tabCells_size]; rfl) (by decide +kernel) ?_)
  have hb2 : Below w.heap.size w ((w1.alloc (.cells (tabCells 0) 149)).setRow w1.heap.size (tabCells 16)) := below_setRow (hb1.alloc hb1.size _) _ hb1.size _
  have hb3 : Below w1.heap.size w1 ((w1.alloc (.cells (tabCells 0) 149)).setRow w1.heap.size (tabCells 16)) := below_setRow ((Below.refl _ _).alloc (Nat.le_refl _) _) _ (Nat.le_refl _) _
  have hrow : ((w1.alloc (.cells (tabCells 0) 149)).setRow w1.heap.size (tabCells 16)).heap[w1.heap.size]? = some (.cells (tabCells 16) 149 (0, 0)) := setRow_heap _ _ _ _ _ _ (heap_alloc_new _ _)
  have h2 := h1.below hb3
  rw [tabCells_zero] at hb2 hrow h2
  have H2 := And.intro hb2 (And.intro hrow h2)
  clear hb1 hb2 hb3 hrow h1 h2
  go_loopw [4, 5] (fun r i wr => ∃ k x : Nat, k ≤ n ∧ i = .int .i64 k ∧ r = .int .i64 x ∧ Hid (x = crcTo z k) ∧ Hid (Below w.heap.size w wr ∧ wr.heap[w1.heap.size]? = some (.cells (tabCells 16) 149 (0, 0)) ∧ Sl wr a n (BV z))) (fun _ i _ => n - (intOf i).toNat)
  case atStart => exact ⟨0, 4294967295, by omega, rfl, rfl, rfl, H2⟩
  case round =>
    clear H2
    obtain ⟨k, x, hk, rfl, rfl, hx, hR⟩ := hrel
    by_cases hlt : k < n
    · obtain ⟨c0, hc0⟩ : ∃ c0, c0 = z k := ⟨_, rfl⟩
      have hxl : x < 4294967296 := by rw [hx.out]; exact crcTo_lt z k
      have hcl : c0 < 256 := by rw [hc0]; exact hz k
      obtain ⟨i1, e1⟩ : ∃ i1, i1 = (x ^^^ c0) % 16 := ⟨_, rfl⟩
      obtain ⟨y1, e2⟩ : ∃ y1, y1 = half x i1 := ⟨_, rfl⟩
      obtain ⟨i2, e3⟩ : ∃ i2, i2 = (y1 ^^^ c0 / 16) % 16 := ⟨_, rfl⟩
      obtain ⟨y2, e4⟩ : ∃ y2, y2 = half y1 i2 := ⟨_, rfl⟩
      have hi1 : i1 < 16 := by omega
      have hi2 : i2 < 16 := by omega
      have hy1 : y1 < 4294967296 := by rw [e2]; exact half_lt _ _ hxl
      have R1 : bits .and .i64 (bits .xor .i64 (x : Int) (c0 : Int)) 15 = (i1 : Int) := by
        have hlt2 : x ^^^ c0 < 2 ^ 32 := Nat.xor_lt_two_pow (by omega) (by omega)
        have h15 := i64_and_nat (x ^^^ c0) 15 (by omega) (by omega)
        rw [mask15, ← e1] at h15
        rw [i64_xor_nat x c0 (by omega) (by omega)]
        exact h15
      have R2 : bits .xor .i64 ((x : Int) / 16) ((tb i1 : Nat) : Int) = (y1 : Int) := by rw [e2]; exact quarter x i1 hxl
      have R3 : bits .and .i64 (bits .xor .i64 (y1 : Int) ((c0 : Int) / 16)) 15 = (i2 : Int) := by
        have hlt2 : y1 ^^^ c0 / 16 < 2 ^ 32 := Nat.xor_lt_two_pow (by omega) (by omega)
        have h15 := i64_and_nat (y1 ^^^ c0 / 16) 15 (by omega) (by omega)
        rw [mask15, ← e3] at h15
        rw [← show ((c0 / 16 : Nat) : Int) = (c0 : Int) / 16 from by omega]
        rw [i64_xor_nat y1 (c0 / 16) (by omega) (by omega)]
        exact h15
      have R4 : bits .xor .i64 ((y1 : Int) / 16) ((tb i2 : Nat) : Int) = (y2 : Int) := by rw [e4]; exact quarter y1 i2 hy1
      have E : Hid (y2 = crcTo z (k + 1)) := by
        show y2 = crcTo z (k + 1)
        rw [e4, e3, e2, e1, hc0, hx.out]; rfl
      have q1 : wr.cell? ⟨w1.heap.size, i1, none⟩ = some (.int .i64 ((tb i1 : Nat) : Int)) := by
        rw [cell_of_row wr _ i1 _ _ _ hR.out.2.1, tabCells_get _ _ hi1, if_pos hi1]
      have q2 : wr.cell? ⟨w1.heap.size, i2, none⟩ = some (.int .i64 ((tb i2 : Nat) : Int)) := by
        rw [cell_of_row wr _ i2 _ _ _ hR.out.2.1, tabCells_get _ _ hi2, if_pos hi2]
      rcases hR.out.2.2 with h1 | ⟨b, off, rfl, hc⟩
      · omega
      have hcs := hc k hlt
      rw [show BV z k = .int .u8 (c0 : Int) from by rw [hc0]] at hcs
      clear hc e1 e2 e3 e4 hc0 hx
      go_wp2_with fail
      exact ⟨⟨k + 1, y2, by omega, by go_num, rfl, E, hR⟩, by simp [intOf]; omega⟩
    · have hkn : k = n := by omega
      have hfin : Hid (bits .xor .i64 (x : Int) 4294967295 = ((crcTo z n ^^^ 4294967295 : Nat) : Int)) := by
        show bits .xor .i64 (x : Int) 4294967295 = _
        have hxl : x < 4294967296 := by rw [hx.out]; exact crcTo_lt z k
        rw [← hkn, ← hx.out]
        exact i64_xor_nat x 4294967295 (by omega) (by omega)
      clear hkn hx
      go_wp2_with fail
      go_ret
      exact ⟨by show Ending.returned (.int .i64 _) = _; rw [hfin.out], hR.out.1⟩

end Go.Proofs.YtmbndpgoihdpnaaDoor
