/-
  Texts of the store, brought together: Lists4, Crc, Sums, ImplSum, Flds, Num4. By an AI agent.
-/
import Derived.Test.YtnnimocaanofjaaGreatDoorSt02
import Derived.Test.YtnnimocaanofjaaGreatDoorSt01
import Derived.Laws.BitsAllLaws
import Derived.Deep.QuietTactic
import Derived.BigQuiet
import Derived.Laws.Tables
import Derived.Lib.AppendStr
/-
  Contracts of the helpers on slices of bytes: copies, comparisons, marks. By an AI agent.
-/
namespace Go.Proofs.YtnnimocaanofjaaGreatDoor
open Go.ChangeShapes Go.WideShapes Go.ChangeAt Go.RowKit Go.Deep
set_option linter.unusedVariables false

def cellsB (L : List Nat) : List Value := L.map fun x => .int .u8 ((x : Nat) : Int)
theorem cellsB_length (L : List Nat) : (cellsB L).length = L.length := by simp [cellsB]
theorem cellsB_append (L M : List Nat) : cellsB (L ++ M) = cellsB L ++ cellsB M := by simp [cellsB]
theorem cellsB_get (L : List Nat) (i : Nat) (h : i < L.length) : (cellsB L)[i]? = some (.int .u8 ((L.getD i 0 : Nat) : Int)) := by
  simp [cellsB, h]
theorem cellsB_one (L : List Nat) : ∀ u ∈ cellsB L, u.oneCell' = true := by
  intro u hu
  simp only [cellsB, List.mem_map] at hu
  obtain ⟨x, _, rfl⟩ := hu
  rfl
theorem srcB {w : World} {a : Option Addr} {L : List Nat} (h : Src w a (cellsB L)) {i : Nat} (hi : i < L.length) : ∃ b o x, a = some ⟨b, o, none⟩ ∧ w.cell? ⟨b, o + i, none⟩ = some (.int .u8 ((x : Nat) : Int)) ∧ Hid (L.getD i 0 = x) := by
  rcases h with h | ⟨b, o, rfl, hc⟩
  · rw [← cellsB_length, h] at hi; exact absurd hi (by simp)
  · have := hc i (by rw [cellsB_length]; exact hi)
    rw [getD_some (cellsB_get L i hi)] at this
    exact ⟨b, o, _, rfl, this, rfl⟩
theorem infoB : (Tryz.prog.info? 5).map (fun i => (i.zero, i.size, i.bytes)) = some (some (.int .u8 0), 1, 1) := by kernel_rfl
end Go.Proofs.YtnnimocaanofjaaGreatDoor

/-
  Plain facts on the sum of bytes, by half bytes: the program's step and the specification's are one. By an AI agent.
-/
namespace Go.Proofs.YtnnimocaanofjaaGreatDoor
set_option linter.unusedVariables false

def tabN : List Nat := [0, 498536548, 997073096, 651767980, 1994146192, 1802195444, 1303535960, 1342533948, 3988292384, 4027552580, 3604390888, 3412177804, 2607071920, 2262029012, 2685067896, 3183342108]
def tb (i : Nat) : Nat := tabN.getD i 0
theorem tb_lt (i : Nat) : tb i < 4294967296 := by
  unfold tb
  by_cases h : i < 16
  · have : ∀ j : Fin 16, tabN.getD j.val 0 < 4294967296 := by decide
    exact this ⟨i, h⟩
  · rw [List.getD_eq_getElem?_getD, List.getElem?_eq_none (by simp [tabN]; omega)]; decide
def half (r i : Nat) : Nat := r / 16 ^^^ tb i
theorem half_lt (r i : Nat) (h : r < 4294967296) : half r i < 4294967296 := by
  unfold half
  have := tb_lt i
  exact Nat.xor_lt_two_pow (n := 32) (by omega) (by omega)
/-- The program's step. -/
def stepI (r c : Nat) : Nat := half (half (r ^^^ c) ((r ^^^ c) % 16)) (half (r ^^^ c) ((r ^^^ c) % 16) % 16)
/-- The specification's step. -/
def stepS (r c : Nat) : Nat := half (half r ((r ^^^ c) % 16)) ((half r ((r ^^^ c) % 16) ^^^ c / 16) % 16)
theorem xor_div16 (a b : Nat) : (a ^^^ b) / 16 = a / 16 ^^^ b / 16 := by
  have := Nat.shiftRight_xor_distrib (a := a) (b := b) (i := 4)
  simpa [Nat.shiftRight_eq_div_pow] using this
theorem step_eq (r c : Nat) (hc : c < 256) : stepI r c = stepS r c := by
  have h1 : half (r ^^^ c) ((r ^^^ c) % 16) = half r ((r ^^^ c) % 16) ^^^ c / 16 := by
    unfold half
    rw [xor_div16]
    ac_rfl
  unfold stepI stepS
  rw [h1]
  generalize half r ((r ^^^ c) % 16) = y
  show half (y ^^^ c / 16) ((y ^^^ c / 16) % 16) = half y ((y ^^^ c / 16) % 16)
  unfold half
  rw [xor_div16, show c / 16 / 16 = 0 from by omega, Nat.xor_zero]
def crcTo (z : Nat → Nat) : Nat → Nat
  | 0 => 4294967295
  | k + 1 => stepS (crcTo z k) (z k)
theorem stepS_lt (r c : Nat) (h : r < 4294967296) : stepS r c < 4294967296 := half_lt _ _ (half_lt _ _ h)
theorem crcTo_lt (z : Nat → Nat) (k : Nat) : crcTo z k < 4294967296 := by
  induction k with
  | zero => show 4294967295 < 4294967296; omega
  | succ k ih => exact stepS_lt _ _ ih
/-- The sum of the first n bytes. -/
def crc (z : Nat → Nat) (n : Nat) : Nat := if n > 65536 then 0 else crcTo z n ^^^ 4294967295
theorem xor_all (r : Nat) (h : r < 4294967296) : r ^^^ 4294967295 = 4294967295 - r := by
  have h1 : (BitVec.ofNat 32 r ^^^ BitVec.allOnes 32).toNat = (~~~ BitVec.ofNat 32 r).toNat := by rw [BitVec.xor_allOnes]
  rw [BitVec.toNat_xor, BitVec.toNat_not, BitVec.toNat_ofNat, BitVec.toNat_allOnes, Nat.mod_eq_of_lt (by omega)] at h1
  exact h1
theorem i64_wrap (n : Nat) (h : n < 9223372036854775808) : IntKind.i64.wrap (n : Int) = n := by
  simp [IntKind.wrap, IntKind.bits, IntKind.signed]; omega
theorem i64_xor_nat (a b : Nat) (ha : a < 9223372036854775808) (hb : b < 9223372036854775808) : bits .xor .i64 (a : Int) (b : Int) = ((a ^^^ b : Nat) : Int) := by
  have hx : a ^^^ b < 2 ^ 63 := Nat.xor_lt_two_pow (by omega) (by omega)
  show IntKind.i64.wrap ((BitVec.ofInt 64 (a : Int) ^^^ BitVec.ofInt 64 (b : Int)).toNat : Int) = _
  rw [BitVec.toNat_xor, ofInt_u64 a (by omega), ofInt_u64 b (by omega)]
  exact i64_wrap _ (by omega)
theorem i64_and_nat (a b : Nat) (ha : a < 9223372036854775808) (hb : b < 9223372036854775808) : bits .and .i64 (a : Int) (b : Int) = ((a &&& b : Nat) : Int) := by
  have hx : a &&& b < 2 ^ 63 := Nat.and_lt_two_pow _ (by omega)
  show IntKind.i64.wrap ((BitVec.ofInt 64 (a : Int) &&& BitVec.ofInt 64 (b : Int)).toNat : Int) = _
  rw [BitVec.toNat_and, ofInt_u64 a (by omega), ofInt_u64 b (by omega)]
  exact i64_wrap _ (by omega)
theorem mask15 (x : Nat) : x &&& 15 = x % 16 := Nat.and_two_pow_sub_one_eq_mod x 4

end Go.Proofs.YtnnimocaanofjaaGreatDoor

/-
  Contracts of the specification's sum of bytes: its table of half bytes, and the loop over the bytes. By an AI agent.
-/
namespace Go.Proofs.YtnnimocaanofjaaGreatDoor
open Go.ChangeShapes Go.WideShapes Go.ChangeAt Go.RowKit Go.Deep
set_option linter.unusedVariables false

theorem below_setRow {B : Nat} {a w : World} (h : Below B a w) (g : Nat) (hg : B ≤ g) (cs : Array Value) : Below B a (w.setRow g cs) :=
  h.trans ⟨rfl, rfl, rfl, by simp, fun k hk => setRow_other w g k cs (by omega)⟩

abbrev BV (z : Nat → Nat) : Nat → Value := fun i => .int .u8 ((z i : Nat) : Int)
def tstep (x : Int) : Int := bits .xor .i64 (x / 2) (wrap64 (bits .and .i64 x 1 * 3988292384))
def itN : Nat → Int → Int
  | 0, i => i
  | m + 1, i => tstep (itN m i)
def tabCells (k : Nat) : Array Value := ((List.range 16).map fun i => Value.int .i64 (if i < k then ((tb i : Nat) : Int) else 0)).toArray
theorem tab_it : ∀ k : Fin 16, itN 4 (k.val : Int) = ((tb k.val : Nat) : Int) := by decide +kernel
theorem tabCells_size (k : Nat) : (tabCells k).size = 16 := by simp [tabCells]
theorem tabCells_get (k i : Nat) (h : i < 16) : (tabCells k)[i]? = some (.int .i64 (if i < k then ((tb i : Nat) : Int) else 0)) := by
  simp [tabCells, h]
theorem tabCells_step (k : Nat) (h : k < 16) : (tabCells k).setIfInBounds k (.int .i64 ((tb k : Nat) : Int)) = tabCells (k + 1) := by
  apply Array.ext_getElem?
  intro i
  rw [Array.getElem?_setIfInBounds]
  by_cases hi : i < 16
  · by_cases e : k = i
    · subst e; rw [if_pos rfl, if_pos (by rw [tabCells_size]; exact h), tabCells_get _ _ h, if_pos (by omega)]
    · rw [if_neg e, tabCells_get _ _ hi, tabCells_get _ _ hi]
      by_cases h1 : i < k
      · rw [if_pos h1, if_pos (by omega)]
      · rw [if_neg h1, if_neg (by omega)]
  · have h1 : k ≠ i := by omega
    rw [if_neg h1, Array.getElem?_eq_none (by rw [tabCells_size]; omega), Array.getElem?_eq_none (by rw [tabCells_size]; omega)]
theorem tabCells_zero : tabCells 0 = #[Value.int .i64 0, .int .i64 0, .int .i64 0, .int .i64 0, .int .i64 0, .int .i64 0, .int .i64 0, .int .i64 0, .int .i64 0, .int .i64 0, .int .i64 0, .int .i64 0, .int .i64 0, .int .i64 0, .int .i64 0, .int .i64 0] := by
  simp [tabCells, List.range, List.range.loop]

def TabRel (w wr : World) (k : Nat) : Prop := Below w.heap.size w wr ∧ wr.heap[w.heap.size]? = some (.cells (tabCells 0) 205 (0, 0)) ∧ wr.heap[w.heap.size + 1]? = some (.cells (tabCells k) 205 (0, 0))

set_option maxHeartbeats 800000 in
theorem table (w : World) : Calls Tryz.prog 151 #[] w fun e w' => e = .returned (.agg (tabCells 16)) ∧ Below w.heap.size w w' := by
  go_enter Tryz.func151, Tryz.ntmps151
  go_wp2_with fail
  go_loopw [2] (fun i wr => ∃ k : Nat, k ≤ 16 ∧ i = .int .i64 k ∧ Hid (TabRel w wr k)) (fun i _ => 16 - (intOf i).toNat)
  case atStart =>
    refine ⟨0, by omega, rfl, ((Below.refl _ _).alloc (Nat.le_refl _) _).alloc (by simp) _, ?_, ?_⟩
    · rw [tabCells_zero]; exact heap_alloc2_old _ _ _
    · rw [tabCells_zero]; exact heap_alloc2_new _ _ _
  case round =>
    obtain ⟨k, hk, rfl, hR⟩ := hrel
    by_cases hlt : k < 16
    · have hd : wr.cell? ⟨w.heap.size + 1, k, none⟩ = some (.int .i64 0) := by
        rw [cell_of_row wr _ k _ _ _ hR.out.2.2, tabCells_get _ _ hlt, if_neg (by omega)]
      have hf : wr.frozen? ⟨w.heap.size + 1, k, none⟩ = false := frozen_of_row wr _ k _ _ hR.out.2.2
      go_wp2_with fail
      go_loop [3, 4] (fun r j => ∃ (m : Nat) (x : Int), m ≤ 4 ∧ j = .int .i64 m ∧ r = .int .i64 x ∧ Hid (x = itN m k)) (fun _ j => 4 - (intOf j).toNat)
      case atStart => exact ⟨0, k, by omega, rfl, rfl, rfl⟩
      case round =>
        obtain ⟨m, x, hm, rfl, rfl, hx⟩ := hrel
        by_cases hl2 : m < 4
        · go_wp2_with fail
          exact ⟨⟨m + 1, _, by omega, by go_num, rfl, by rw [hx.out]; rfl⟩, by simp [intOf]; omega⟩
        · have hm4 : m = 4 := by omega
          have hxt : Hid (x = ((tb k : Nat) : Int)) := by
            have h1 := hx.out
            rw [hm4] at h1
            exact h1.trans (tab_it ⟨k, hlt⟩)
          clear hm4
          go_wp2_with fail
          refine ⟨⟨k + 1, by omega, by go_num, ?_⟩, by simp [intOf]; omega⟩
          obtain ⟨h1, h2, h3⟩ := hR.out
          rw [hxt.out]
          refine ⟨h1.setCell (by show w.heap.size ≤ w.heap.size + 1; omega) _, ?_, ?_⟩
          · rw [heap_setCell_other _ _ _ _ (by show w.heap.size ≠ w.heap.size + 1; omega)]; exact h2
          · rw [heap_setCell_same _ _ _ _ _ _ h3, tabCells_step k hlt]
    · have hk16 : k = 16 := by omega
      subst hk16
      obtain ⟨h1, h2, h3⟩ := hR.out
      clear hR
      have H1 := h1
      have H2 : Hid (wr.heap[w.heap.size]? = some (.cells (tabCells 0) 205 (0, 0))) := h2
      have H3 : Hid (wr.heap[w.heap.size + 1]? = some (.cells (tabCells 16) 205 (0, 0))) := h3
      clear h1 h2 h3
      go_wp2_with (first | (refine wpList_load_row rfl 205 _ rfl (w.heap.size + 1) rfl 205 _ (0, 0) _ H3.out Tryz.underlying205 rfl (by rw [tabCells_size]; kernel_rfl) ?_) | (refine wpList_store_row rfl 205 _ _ rfl w.heap.size (tabCells 16) rfl rfl 205 (tabCells 0) H2.out (by rw [tabCells_size]; kernel_rfl) (by rw [tabCells_size, tabCells_size]) (by decide +kernel) ?_))
      refine bodyPost_ret (v := .agg (tabCells 16)) (results_cell_row rfl _ _ w.heap.size 205 _ (0, 0) _ rfl (setRow_heap _ _ _ _ _ _ H2.out) Tryz.underlying205 rfl (by rw [tabCells_size]; kernel_rfl)) rfl ⟨rfl, below_setRow H1 _ (Nat.le_refl _) _⟩

theorem quarter (x i : Nat) (hx : x < 4294967296) : bits .xor .i64 ((x : Int) / 16) ((tb i : Nat) : Int) = ((half x i : Nat) : Int) := by
  have := tb_lt i
  have h1 := i64_xor_nat (x / 16) (tb i) (by omega) (by omega)
  rw [← show ((x / 16 : Nat) : Int) = (x : Int) / 16 from by omega] at *
  exact h1

set_option maxHeartbeats 800000 in
theorem l01Check (a : Option Addr) (n c : Nat) (z : Nat → Nat) (w : World) (hn : n ≤ 1048576) (hz : ∀ i, z i < 256) (h : Sl w a n (BV z)) :
    Calls Tryz.prog 123 #[.slice a n c] w fun e w' => e = .returned (.int .i64 ((crcTo z n ^^^ 4294967295 : Nat) : Int)) ∧ Below w.heap.size w w' := by
  go_enter Tryz.func123, Tryz.ntmps123
  go_wp2_with fail
  refine (table _).mono ?_
  rintro e w1 ⟨rfl, hb1⟩
  have h1 := h.below hb1
  clear h
  go_wp2_with (refine wpList_store_row rfl 205 _ _ rfl w1.heap.size (tabCells 16) rfl rfl 205 _ (heap_alloc_new _ _) (by rw [tabCells_size]; kernel_rfl) (by rw [tabCells_size]; rfl) (by decide +kernel) ?_)
  have hb2 : Below w.heap.size w ((w1.alloc (.cells (tabCells 0) 205)).setRow w1.heap.size (tabCells 16)) := below_setRow (hb1.alloc hb1.size _) _ hb1.size _
  have hb3 : Below w1.heap.size w1 ((w1.alloc (.cells (tabCells 0) 205)).setRow w1.heap.size (tabCells 16)) := below_setRow ((Below.refl _ _).alloc (Nat.le_refl _) _) _ (Nat.le_refl _) _
  have hrow : ((w1.alloc (.cells (tabCells 0) 205)).setRow w1.heap.size (tabCells 16)).heap[w1.heap.size]? = some (.cells (tabCells 16) 205 (0, 0)) := setRow_heap _ _ _ _ _ _ (heap_alloc_new _ _)
  have h2 := h1.below hb3
  rw [tabCells_zero] at hb2 hrow h2
  have H2 := And.intro hb2 (And.intro hrow h2)
  clear hb1 hb2 hb3 hrow h1 h2
  go_loopw [4, 5] (fun r i wr => ∃ k x : Nat, k ≤ n ∧ i = .int .i64 k ∧ r = .int .i64 x ∧ Hid (x = crcTo z k) ∧ Hid (Below w.heap.size w wr ∧ wr.heap[w1.heap.size]? = some (.cells (tabCells 16) 205 (0, 0)) ∧ Sl wr a n (BV z))) (fun _ i _ => n - (intOf i).toNat)
  case atStart => exact ⟨0, 4294967295, by omega, rfl, rfl, rfl, H2⟩
  case round =>
    clear H2
    obtain ⟨k, x, hk, rfl, rfl, hx, hR⟩ := hrel
    by_cases hlt : k < n
    · obtain ⟨c0, hc0⟩ : ∃ c0, c0 = z k := ⟨_, rfl⟩
      have hxl : x < 4294967296 := by rw [hx.out]; exact crcTo_lt z k
      have hcl : c0 < 256 := by rw [hc0]; exact hz k
      obtain ⟨i1, e1⟩ : ∃ i1, i1 = (x ^^^ c0) % 16 := ⟨_, rfl⟩
      obtain ⟨y1, e2⟩ : ∃ y1, y1 = half x i1 := ⟨_, rfl⟩
      obtain ⟨i2, e3⟩ : ∃ i2, i2 = (y1 ^^^ c0 / 16) % 16 := ⟨_, rfl⟩
      obtain ⟨y2, e4⟩ : ∃ y2, y2 = half y1 i2 := ⟨_, rfl⟩
      have hi1 : i1 < 16 := by omega
      have hi2 : i2 < 16 := by omega
      have hy1 : y1 < 4294967296 := by rw [e2]; exact half_lt _ _ hxl
      have R1 : bits .and .i64 (bits .xor .i64 (x : Int) (c0 : Int)) 15 = (i1 : Int) := by
        have hlt2 : x ^^^ c0 < 2 ^ 32 := Nat.xor_lt_two_pow (by omega) (by omega)
        have h15 := i64_and_nat (x ^^^ c0) 15 (by omega) (by omega)
        rw [mask15, ← e1] at h15
        rw [i64_xor_nat x c0 (by omega) (by omega)]
        exact h15
      have R2 : bits .xor .i64 ((x : Int) / 16) ((tb i1 : Nat) : Int) = (y1 : Int) := by rw [e2]; exact quarter x i1 hxl
      have R3 : bits .and .i64 (bits .xor .i64 (y1 : Int) ((c0 : Int) / 16)) 15 = (i2 : Int) := by
        have hlt2 : y1 ^^^ c0 / 16 < 2 ^ 32 := Nat.xor_lt_two_pow (by omega) (by omega)
        have h15 := i64_and_nat (y1 ^^^ c0 / 16) 15 (by omega) (by omega)
        rw [mask15, ← e3] at h15
        rw [← show ((c0 / 16 : Nat) : Int) = (c0 : Int) / 16 from by omega]
        rw [i64_xor_nat y1 (c0 / 16) (by omega) (by omega)]
        exact h15
      have R4 : bits .xor .i64 ((y1 : Int) / 16) ((tb i2 : Nat) : Int) = (y2 : Int) := by rw [e4]; exact quarter y1 i2 hy1
      have E : Hid (y2 = crcTo z (k + 1)) := by
        show y2 = crcTo z (k + 1)
        rw [e4, e3, e2, e1, hc0, hx.out]; rfl
      have q1 : wr.cell? ⟨w1.heap.size, i1, none⟩ = some (.int .i64 ((tb i1 : Nat) : Int)) := by
        rw [cell_of_row wr _ i1 _ _ _ hR.out.2.1, tabCells_get _ _ hi1, if_pos hi1]
      have q2 : wr.cell? ⟨w1.heap.size, i2, none⟩ = some (.int .i64 ((tb i2 : Nat) : Int)) := by
        rw [cell_of_row wr _ i2 _ _ _ hR.out.2.1, tabCells_get _ _ hi2, if_pos hi2]
      rcases hR.out.2.2 with h1 | ⟨b, off, rfl, hc⟩
      · omega
      have hcs := hc k hlt
      rw [show BV z k = .int .u8 (c0 : Int) from by rw [hc0]] at hcs
      clear hc e1 e2 e3 e4 hc0 hx
      go_wp2_with fail
      exact ⟨⟨k + 1, y2, by omega, by go_num, rfl, E, hR⟩, by simp [intOf]; omega⟩
    · have hkn : k = n := by omega
      have hfin : Hid (bits .xor .i64 (x : Int) 4294967295 = ((crcTo z n ^^^ 4294967295 : Nat) : Int)) := by
        show bits .xor .i64 (x : Int) 4294967295 = _
        have hxl : x < 4294967296 := by rw [hx.out]; exact crcTo_lt z k
        rw [← hkn, ← hx.out]
        exact i64_xor_nat x 4294967295 (by omega) (by omega)
      clear hkn hx
      go_wp2_with fail
      go_ret
      exact ⟨by show Ending.returned (.int .i64 _) = _; rw [hfin.out], hR.out.1⟩

end Go.Proofs.YtnnimocaanofjaaGreatDoor

/-
  The contract of the program's Check32, whose table of half bytes is a package-level variable. By an AI agent.
-/
namespace Go.Proofs.YtnnimocaanofjaaGreatDoor
open Go.ChangeShapes Go.WideShapes Go.ChangeAt Go.RowKit Go.Deep
set_option linter.unusedVariables false

def HasHalf (w : World) : Prop := ∀ i, i < 16 → w.cell? ⟨1, i, none⟩ = some (.int .u32 ((tb i : Nat) : Int))
theorem HasHalf.below {w w' : World} (h : HasHalf w) (hb : Below w.heap.size w w') : HasHalf w' := fun i hi => by
  have h1 := h i hi
  rw [← h1]
  exact hb.cell (p := ⟨1, i, none⟩) (World.block_lt_of_cell? _ _ h1)

theorem quarter32 (x i : Nat) (hx : x < 4294967296) : bits .xor .u32 ((x : Int) / 16) ((tb i : Nat) : Int) = ((half x i : Nat) : Int) := by
  have := tb_lt i
  have h1 := u32_xor_nat (x / 16) (tb i) (by omega) (by omega)
  rw [← show ((x / 16 : Nat) : Int) = (x : Int) / 16 from by omega] at *
  exact h1
theorem mask32 (s : Nat) (h : s < 4294967296) : bits .and .u32 (s : Int) 15 = ((s % 16 : Nat) : Int) := by
  have h15 := u32_and_nat s 15 h (by omega)
  rw [mask15] at h15
  exact h15

set_option maxHeartbeats 800000 in
theorem implCheck32 (a : Option Addr) (n c : Nat) (z : Nat → Nat) (w : World) (hn : n ≤ 1048576) (hz : ∀ i, z i < 256) (h : Sl w a n (BV z)) (hH : HasHalf w) :
    Calls Tryz.prog 183 #[.slice a n c] w fun e w' => e = .returned (.int .i64 ((crc z n : Nat) : Int)) ∧ w = w' := by
  by_cases hbig : 65536 < n
  · have e : Hid (crc z n = 0) := by show crc z n = 0; unfold crc; rw [if_pos hbig]
    clear h hH
    go_enter Tryz.func183, Tryz.ntmps183
    go_wp2_with fail
    go_ret
    exact ⟨by rw [e.out]; rfl, rfl⟩
  have e : Hid (crc z n = crcTo z n ^^^ 4294967295) := by show crc z n = _; unfold crc; rw [if_neg hbig]
  have HH : Hid (HasHalf w) := hH
  clear hH
  go_enter Tryz.func183, Tryz.ntmps183
  go_wp2_with fail
  go_loop [3, 11] (fun r i => ∃ k x : Nat, k ≤ n ∧ i = .int .i64 k ∧ r = .int .u32 x ∧ Hid (x = crcTo z k)) (fun _ i => n - (intOf i).toNat)
  case atStart => exact ⟨0, 4294967295, by omega, rfl, rfl, rfl⟩
  case round =>
    obtain ⟨k, x, hk, rfl, rfl, hx⟩ := hrel
    by_cases hlt : k < n
    · obtain ⟨c0, hc0⟩ : ∃ c0, c0 = z k := ⟨_, rfl⟩
      have hxl : x < 4294967296 := by rw [hx.out]; exact crcTo_lt z k
      have hcl : c0 < 256 := by rw [hc0]; exact hz k
      obtain ⟨s, e0⟩ : ∃ s, s = x ^^^ c0 := ⟨_, rfl⟩
      obtain ⟨i1, e1⟩ : ∃ i1, i1 = s % 16 := ⟨_, rfl⟩
      obtain ⟨y1, e2⟩ : ∃ y1, y1 = half s i1 := ⟨_, rfl⟩
      obtain ⟨i2, e3⟩ : ∃ i2, i2 = y1 % 16 := ⟨_, rfl⟩
      obtain ⟨y2, e4⟩ : ∃ y2, y2 = half y1 i2 := ⟨_, rfl⟩
      have hi1 : i1 < 16 := by omega
      have hi2 : i2 < 16 := by omega
      have hsl : s < 4294967296 := by rw [e0]; exact Nat.xor_lt_two_pow (n := 32) (by omega) (by omega)
      have hy1 : y1 < 4294967296 := by rw [e2]; exact half_lt _ _ hsl
      have R0 : bits .xor .u32 (x : Int) (c0 : Int) = (s : Int) := by rw [e0]; exact u32_xor_nat x c0 hxl (by omega)
      have R1 : bits .and .u32 (s : Int) 15 = (i1 : Int) := by rw [e1]; exact mask32 s hsl
      have R2 : bits .xor .u32 ((s : Int) / 16) ((tb i1 : Nat) : Int) = (y1 : Int) := by rw [e2]; exact quarter32 s i1 hsl
      have R3 : bits .and .u32 (y1 : Int) 15 = (i2 : Int) := by rw [e3]; exact mask32 y1 hy1
      have R4 : bits .xor .u32 ((y1 : Int) / 16) ((tb i2 : Nat) : Int) = (y2 : Int) := by rw [e4]; exact quarter32 y1 i2 hy1
      have E : Hid (y2 = crcTo z (k + 1)) := by
        show y2 = crcTo z (k + 1)
        have h1 : crcTo z (k + 1) = stepS (crcTo z k) (z k) := rfl
        rw [h1, ← step_eq _ _ (hz k), e4, e3, e2, e1, e0, hc0, hx.out]; rfl
      have q1 := HH.out i1 hi1
      have q2 := HH.out i2 hi2
      rcases h with h1 | ⟨b, off, rfl, hc⟩
      · omega
      have hcs := hc k hlt
      rw [show BV z k = .int .u8 (c0 : Int) from by rw [hc0]] at hcs
      clear hc e0 e1 e2 e3 e4 hc0 hx
      go_wp2_with fail
      exact ⟨⟨k + 1, y2, by omega, by go_num, rfl, E⟩, by simp [intOf]; omega⟩
    · have hkn : k = n := by omega
      have hxl : x < 4294967296 := by rw [hx.out]; exact crcTo_lt z k
      have hfin : Hid (wrap64 (bits .xor .u32 IntKind.u32.max (x : Int)) = ((crc z n : Nat) : Int)) := by
        show wrap64 (bits .xor .u32 IntKind.u32.max (x : Int)) = _
        have h1 := u32_xor_nat 4294967295 x (by omega) hxl
        have h2 : IntKind.u32.max = ((4294967295 : Nat) : Int) := rfl
        rw [h2, h1, e.out, ← hkn, ← hx.out, Nat.xor_comm, xor_all x hxl]
        unfold wrap64; omega
      clear hkn hx e
      go_wp2_with fail
      go_ret
      exact ⟨by show Ending.returned (.int .i64 _) = _; rw [hfin.out], rfl⟩
end Go.Proofs.YtnnimocaanofjaaGreatDoor

/-
  Fields as bytes: the numbers ahead of each field. By an AI agent.
-/
namespace Go.Proofs.YtnnimocaanofjaaGreatDoor
open Go.ChangeShapes Go.WideShapes Go.ChangeAt Go.RowKit Go.Deep
set_option linter.unusedVariables false
set_option maxRecDepth 100000

def bytesOf (s : ByteArray) : List Nat := s.data.toList.map fun b => b.toNat
theorem strCells_bytes (s : ByteArray) : Lib.strCells s = cellsB (bytesOf s) := by simp [Lib.strCells, cellsB, bytesOf]
theorem bytesOf_length (s : ByteArray) : (bytesOf s).length = s.size := by simp [bytesOf]
def numB (x : Nat) : List Nat := [x / 256 % 256, x % 256]
/-- A field: how long it is (two bytes), it. -/
def fieldB (s : ByteArray) : List Nat := numB s.size ++ bytesOf s
def fieldsB (L : List ByteArray) : List Nat := (L.length % 256) :: L.flatMap fieldB
theorem own_empty' {w : World} {B base e s : Nat} (hB : B = w.heap.size) (hb : base ≤ w.heap.size) : (w.alloc (.cells #[] e)).ownsRow base e s (.slice (some ⟨B, 0, none⟩) 0 0) 0 [] := by
  subst hB
  exact World.ownsRow_made w #[] 0 hb (by unfold maxLen; omega) (by simp)
theorem src_oneB {w : World} {x : Nat} {z : Int} {B t : Nat} (hB : B = w.heap.size) (hz : z = (x : Int)) : Src (w.alloc (.cells #[.int .u8 z] t)) (some ⟨B, 0, none⟩) (cellsB [x]) := by
  subst hB hz
  refine .inr ⟨_, 0, rfl, fun j hj => ?_⟩
  have hb := Box.new (w := w) (B := w.heap.size) (vs := #[.int .u8 (x : Int)]) (t := t) rfl
  have hj' : j < 1 := hj
  rw [Nat.zero_add]
  match j, hj' with
  | 0, _ => exact (hb 0 _ rfl).1

set_option maxHeartbeats 1000000 in
theorem l01Number2 (x : Nat) (w : World) (hx : x ≤ 65535) :
    Calls Tryz.prog 81 #[.int .i64 (x : Int), .int .i64 2] w fun e w' => ∃ v, e = .returned v ∧ w'.ownsRow w.heap.size 5 1 v 2 (cellsB (numB x)) ∧ Below w.heap.size w w' := by
  go_enter Tryz.func81, Tryz.ntmps81
  go_wp2_with fail
  go_loopw [5, 6] (fun ov i wr => ∃ (q : Int) (u : Value) (n : Nat), u = ov ∧ i = .int .i64 q ∧ -1 ≤ q ∧ q ≤ 1 ∧ Hid ((n : Int) = 1 - q) ∧ Hid (Below w.heap.size w wr) ∧ Hid (wr.ownsRow w.heap.size 5 1 u n (cellsB ((numB x).take n)))) (fun _ i _ => (intOf i + 1).toNat)
  case atStart => exact ⟨1, _, 0, rfl, rfl, by omega, by omega, by show ((0 : Nat) : Int) = 1 - 1; omega, (Below.refl _ _).alloc (Nat.le_refl _) _, own_empty' rfl (Nat.le_refl _)⟩
  case round =>
    obtain ⟨q, u, n, hu, rfl, hq1, hq2, hn, hb, HW⟩ := hrel
    subst hu
    rcases (by omega : q = -1 ∨ q = 0 ∨ q = 1) with rfl | rfl | rfl
    · have h2 : n = 2 := by have := hn.out; omega
      have HF : Hid (wr.ownsRow w.heap.size 5 1 u 2 (cellsB (numB x))) := by rw [h2] at HW; exact HW
      clear h2 hn HW
      go_wp2_with fail
      go_ret
      exact ⟨_, rfl, HF.out, hb.out⟩
    · have h2 : n = 1 := by have := hn.out; omega
      have HF : Hid (wr.ownsRow w.heap.size 5 1 u 1 (cellsB [x / 256 % 256])) := by rw [h2] at HW; exact HW
      clear h2 hn HW
      have XR : Hid (w.heap.size ≤ wr.heap.size) := hb.out.size
      have hlt3 : Hid (∀ g, Value.ownBlock u = some g → w.heap.size ≤ g ∧ g < wr.heap.size) := fun g e => HF.out.lt g e
      go_wp2_with (at_builtin; refine wpList_append_src _ rfl _ _ 74 rfl w.heap.size 5 (.int .u8 0) 1 1 Tryz.underlying74 infoB rfl (by decide) (by decide) _ 1 (cellsB [x / 256 % 256]) rfl (HF.out.alloc _) (some ⟨wr.heap.size, 0, none⟩) 1 1 (cellsB [x % 256]) rfl rfl (src_oneB rfl (by simp)) (cellsB_one _) (by omega) (le_alloc XR.out _) ?_)
      intro v2 w2 hown2 hgrow2
      have o2 : Hid (w2.ownsRow w.heap.size 5 1 v2 (1 + 1) (cellsB ((numB x).take (1 + 1)))) := hown2
      have B2 : Hid (Below w.heap.size w w2) := (hb.out.alloc hb.out.size _).grown hgrow2 (le_alloc hb.out.size _) (fun g e => (hlt3.out g e).1)
      clear hown2 hgrow2
      go_wp2_with fail
      exact ⟨⟨-1, _, 1 + 1, rfl, by go_num, by omega, by omega, by show (((1 + 1 : Nat)) : Int) = 1 - (-1); omega, B2.out, o2.out⟩, by simp [intOf]⟩
    · have h2 : n = 0 := by have := hn.out; omega
      have HF : Hid (wr.ownsRow w.heap.size 5 1 u 0 (cellsB [])) := by rw [h2] at HW; exact HW
      clear h2 hn HW
      have XR : Hid (w.heap.size ≤ wr.heap.size) := hb.out.size
      have hlt3 : Hid (∀ g, Value.ownBlock u = some g → w.heap.size ≤ g ∧ g < wr.heap.size) := fun g e => HF.out.lt g e
      go_wp2_with (at_builtin; refine wpList_append_src _ rfl _ _ 74 rfl w.heap.size 5 (.int .u8 0) 1 1 Tryz.underlying74 infoB rfl (by decide) (by decide) _ 0 (cellsB []) rfl (HF.out.alloc _) (some ⟨wr.heap.size, 0, none⟩) 1 1 (cellsB [x / 256 % 256]) rfl rfl (src_oneB rfl (by simp; omega)) (cellsB_one _) (by omega) (le_alloc XR.out _) ?_)
      intro v2 w2 hown2 hgrow2
      have o2 : Hid (w2.ownsRow w.heap.size 5 1 v2 (0 + 1) (cellsB ((numB x).take (0 + 1)))) := hown2
      have B2 : Hid (Below w.heap.size w w2) := (hb.out.alloc hb.out.size _).grown hgrow2 (le_alloc hb.out.size _) (fun g e => (hlt3.out g e).1)
      clear hown2 hgrow2
      go_wp2_with fail
      exact ⟨⟨0, _, 0 + 1, rfl, by go_num, by omega, by omega, by show (((0 + 1 : Nat)) : Int) = 1 - (0); omega, B2.out, o2.out⟩, by simp [intOf]⟩
end Go.Proofs.YtnnimocaanofjaaGreatDoor

/-
  A number in four bytes, by the specification. By an AI agent.
-/
namespace Go.Proofs.YtnnimocaanofjaaGreatDoor
open Go.ChangeShapes Go.WideShapes Go.ChangeAt Go.RowKit Go.Deep
set_option linter.unusedVariables false

def numQ (x : Nat) : List Nat := [x / 16777216 % 256, x / 65536 % 256, x / 256 % 256, x % 256]
theorem numQ_lt (x : Nat) : ∀ y ∈ numQ x, y < 256 := by
  intro y hy
  simp [numQ] at hy
  omega

set_option maxHeartbeats 2000000 in
theorem l01Number4 (x : Nat) (w : World) (hx : x < 4294967296) :
    Calls Tryz.prog 81 #[.int .i64 (x : Int), .int .i64 4] w fun e w' => ∃ v, e = .returned v ∧ w'.ownsRow w.heap.size 5 1 v 4 (cellsB (numQ x)) ∧ Below w.heap.size w w' := by
  go_enter Tryz.func81, Tryz.ntmps81
  go_wp2_with fail
  go_loopw [5, 6] (fun ov i wr => ∃ (q : Int) (u : Value) (n : Nat), u = ov ∧ i = .int .i64 q ∧ -1 ≤ q ∧ q ≤ 3 ∧ Hid ((n : Int) = 3 - q) ∧ Hid (Below w.heap.size w wr) ∧ Hid (wr.ownsRow w.heap.size 5 1 u n (cellsB ((numQ x).take n)))) (fun _ i _ => (intOf i + 1).toNat)
  case atStart => exact ⟨3, _, 0, rfl, rfl, by omega, by omega, by show ((0 : Nat) : Int) = 3 - 3; omega, (Below.refl _ _).alloc (Nat.le_refl _) _, own_empty' rfl (Nat.le_refl _)⟩
  case round =>
    obtain ⟨q, u, n, hu, rfl, hq1, hq2, hn, hb, HW⟩ := hrel
    subst hu
    rcases (by omega : q = -1 ∨ q = 0 ∨ q = 1 ∨ q = 2 ∨ q = 3) with rfl | rfl | rfl | rfl | rfl
    · have h2 : n = 4 := by have := hn.out; omega
      have HF : Hid (wr.ownsRow w.heap.size 5 1 u 4 (cellsB (numQ x))) := by rw [h2] at HW; exact HW
      clear h2 hn HW
      go_wp2_with fail
      go_ret
      exact ⟨_, rfl, HF.out, hb.out⟩
    · have h2 : n = 3 := by have := hn.out; omega
      have HF : Hid (wr.ownsRow w.heap.size 5 1 u 3 (cellsB [x / 16777216 % 256, x / 65536 % 256, x / 256 % 256])) := by rw [h2] at HW; exact HW
      clear h2 hn HW
      have XR : Hid (w.heap.size ≤ wr.heap.size) := hb.out.size
      have hlt3 : Hid (∀ g, Value.ownBlock u = some g → w.heap.size ≤ g ∧ g < wr.heap.size) := fun g e => HF.out.lt g e
      go_wp2_with (at_builtin; refine wpList_append_src _ rfl _ _ 74 rfl w.heap.size 5 (.int .u8 0) 1 1 Tryz.underlying74 infoB rfl (by decide) (by decide) _ 3 (cellsB [x / 16777216 % 256, x / 65536 % 256, x / 256 % 256]) rfl (HF.out.alloc _) (some ⟨wr.heap.size, 0, none⟩) 1 1 (cellsB [x % 256]) rfl rfl (src_oneB rfl (by first | (simp; done) | (simp; omega))) (cellsB_one _) (by omega) (le_alloc XR.out _) ?_)
      intro v2 w2 hown2 hgrow2
      have o2 : Hid (w2.ownsRow w.heap.size 5 1 v2 (3 + 1) (cellsB ((numQ x).take (3 + 1)))) := hown2
      have B2 : Hid (Below w.heap.size w w2) := (hb.out.alloc hb.out.size _).grown hgrow2 (le_alloc hb.out.size _) (fun g e => (hlt3.out g e).1)
      clear hown2 hgrow2
      go_wp2_with fail
      exact ⟨⟨-1, _, 3 + 1, rfl, by go_num, by omega, by omega, by show (((3 + 1 : Nat)) : Int) = 3 - (-1); omega, B2.out, o2.out⟩, by simp [intOf]⟩
    · have h2 : n = 2 := by have := hn.out; omega
      have HF : Hid (wr.ownsRow w.heap.size 5 1 u 2 (cellsB [x / 16777216 % 256, x / 65536 % 256])) := by rw [h2] at HW; exact HW
      clear h2 hn HW
      have XR : Hid (w.heap.size ≤ wr.heap.size) := hb.out.size
      have hlt3 : Hid (∀ g, Value.ownBlock u = some g → w.heap.size ≤ g ∧ g < wr.heap.size) := fun g e => HF.out.lt g e
      go_wp2_with (at_builtin; refine wpList_append_src _ rfl _ _ 74 rfl w.heap.size 5 (.int .u8 0) 1 1 Tryz.underlying74 infoB rfl (by decide) (by decide) _ 2 (cellsB [x / 16777216 % 256, x / 65536 % 256]) rfl (HF.out.alloc _) (some ⟨wr.heap.size, 0, none⟩) 1 1 (cellsB [x / 256 % 256]) rfl rfl (src_oneB rfl (by first | (simp; done) | (simp; omega))) (cellsB_one _) (by omega) (le_alloc XR.out _) ?_)
      intro v2 w2 hown2 hgrow2
      have o2 : Hid (w2.ownsRow w.heap.size 5 1 v2 (2 + 1) (cellsB ((numQ x).take (2 + 1)))) := hown2
      have B2 : Hid (Below w.heap.size w w2) := (hb.out.alloc hb.out.size _).grown hgrow2 (le_alloc hb.out.size _) (fun g e => (hlt3.out g e).1)
      clear hown2 hgrow2
      go_wp2_with fail
      exact ⟨⟨0, _, 2 + 1, rfl, by go_num, by omega, by omega, by show (((2 + 1 : Nat)) : Int) = 3 - (0); omega, B2.out, o2.out⟩, by simp [intOf]⟩
    · have h2 : n = 1 := by have := hn.out; omega
      have HF : Hid (wr.ownsRow w.heap.size 5 1 u 1 (cellsB [x / 16777216 % 256])) := by rw [h2] at HW; exact HW
      clear h2 hn HW
      have XR : Hid (w.heap.size ≤ wr.heap.size) := hb.out.size
      have hlt3 : Hid (∀ g, Value.ownBlock u = some g → w.heap.size ≤ g ∧ g < wr.heap.size) := fun g e => HF.out.lt g e
      go_wp2_with (at_builtin; refine wpList_append_src _ rfl _ _ 74 rfl w.heap.size 5 (.int .u8 0) 1 1 Tryz.underlying74 infoB rfl (by decide) (by decide) _ 1 (cellsB [x / 16777216 % 256]) rfl (HF.out.alloc _) (some ⟨wr.heap.size, 0, none⟩) 1 1 (cellsB [x / 65536 % 256]) rfl rfl (src_oneB rfl (by first | (simp; done) | (simp; omega))) (cellsB_one _) (by omega) (le_alloc XR.out _) ?_)
      intro v2 w2 hown2 hgrow2
      have o2 : Hid (w2.ownsRow w.heap.size 5 1 v2 (1 + 1) (cellsB ((numQ x).take (1 + 1)))) := hown2
      have B2 : Hid (Below w.heap.size w w2) := (hb.out.alloc hb.out.size _).grown hgrow2 (le_alloc hb.out.size _) (fun g e => (hlt3.out g e).1)
      clear hown2 hgrow2
      go_wp2_with fail
      exact ⟨⟨1, _, 1 + 1, rfl, by go_num, by omega, by omega, by show (((1 + 1 : Nat)) : Int) = 3 - (1); omega, B2.out, o2.out⟩, by simp [intOf]⟩
    · have h2 : n = 0 := by have := hn.out; omega
      have HF : Hid (wr.ownsRow w.heap.size 5 1 u 0 (cellsB [])) := by rw [h2] at HW; exact HW
      clear h2 hn HW
      have XR : Hid (w.heap.size ≤ wr.heap.size) := hb.out.size
      have hlt3 : Hid (∀ g, Value.ownBlock u = some g → w.heap.size ≤ g ∧ g < wr.heap.size) := fun g e => HF.out.lt g e
      go_wp2_with (at_builtin; refine wpList_append_src _ rfl _ _ 74 rfl w.heap.size 5 (.int .u8 0) 1 1 Tryz.underlying74 infoB rfl (by decide) (by decide) _ 0 (cellsB []) rfl (HF.out.alloc _) (some ⟨wr.heap.size, 0, none⟩) 1 1 (cellsB [x / 16777216 % 256]) rfl rfl (src_oneB rfl (by first | (simp; done) | (simp; omega))) (cellsB_one _) (by omega) (le_alloc XR.out _) ?_)
      intro v2 w2 hown2 hgrow2
      have o2 : Hid (w2.ownsRow w.heap.size 5 1 v2 (0 + 1) (cellsB ((numQ x).take (0 + 1)))) := hown2
      have B2 : Hid (Below w.heap.size w w2) := (hb.out.alloc hb.out.size _).grown hgrow2 (le_alloc hb.out.size _) (fun g e => (hlt3.out g e).1)
      clear hown2 hgrow2
      go_wp2_with fail
      exact ⟨⟨2, _, 0 + 1, rfl, by go_num, by omega, by omega, by show (((0 + 1 : Nat)) : Int) = 3 - (2); omega, B2.out, o2.out⟩, by simp [intOf]⟩
end Go.Proofs.YtnnimocaanofjaaGreatDoor

