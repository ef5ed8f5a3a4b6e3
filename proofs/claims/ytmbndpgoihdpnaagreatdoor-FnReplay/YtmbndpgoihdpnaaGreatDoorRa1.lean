/-
  Lists4 Crc Sums ImplSum Flds Num4 Seal Flds2 Flds3 Psum in one. By an AI agent.
-/
import Derived.Test.YtmbndpgoihdpnaaGreatDoorBoxes
import Derived.Test.YtmbndpgoihdpnaaGreatDoorMem
import Derived.Test.YtmbndpgoihdpnaaGreatDoorPairsOKi
import Derived.Laws.BitsAllLaws
import Derived.Deep.QuietTactic
import Derived.BigQuiet
import Derived.Laws.Tables
import Derived.Lib.AppendStr
import Derived.Deep.RegionLawGrows
import Derived.Deep.RegionHeld3
namespace Go.Proofs.YtmbndpgoihdpnaaGreatDoor
open Go.ChangeShapes Go.WideShapes Go.ChangeAt Go.RowKit Go.Deep
set_option linter.unusedVariables false

def cellsB (L : List Nat) : List Value := L.map fun x => .int .u8 ((x : Nat) : Int)
theorem cellsB_length (L : List Nat) : (cellsB L).length = L.length := by simp [cellsB]
theorem cellsB_append (L M : List Nat) : cellsB (L ++ M) = cellsB L ++ cellsB M := by simp [cellsB]
theorem cellsB_get (L : List Nat) (i : Nat) (h : i < L.length) : (cellsB L)[i]? = some (.int .u8 ((L.getD i 0 : Nat) : Int)) := by
  simp [cellsB, h]
theorem cellsB_one (L : List Nat) : ∀ u ∈ cellsB L, u.oneCell' = true := by
  intro u hu
  simp only [cellsB, List.mem_map] at hu
  obtain ⟨x, _, rfl⟩ := hu
  rfl
theorem srcB {w : World} {a : Option Addr} {L : List Nat} (h : Src w a (cellsB L)) {i : Nat} (hi : i < L.length) : ∃ b o x, a = some ⟨b, o, none⟩ ∧ w.cell? ⟨b, o + i, none⟩ = some (.int .u8 ((x : Nat) : Int)) ∧ Hid (L.getD i 0 = x) := by
  rcases h with h | ⟨b, o, rfl, hc⟩
  · rw [← cellsB_length, h] at hi; exact absurd hi (by simp)
  · have := hc i (by rw [cellsB_length]; exact hi)
    rw [getD_some (cellsB_get L i hi)] at this
    exact ⟨b, o, _, rfl, this, rfl⟩
def mkB (k n : Nat) : List Nat := (List.range n).map fun i => (k + i) % 256
theorem mkB_length (k n : Nat) : (mkB k n).length = n := by simp [mkB]
theorem mkB_get (k n i : Nat) (h : i < n) : (mkB k n).getD i 0 = (k + i) % 256 := by
  rw [List.getD_eq_getElem?_getD]; simp [mkB, h]
theorem infoB : (Tryz.prog.info? 5).map (fun i => (i.zero, i.size, i.bytes)) = some (some (.int .u8 0), 1, 1) := by kernel_rfl
theorem run_make_B (n : Nat) (hn : n ≤ 1048576) (w : World) : (Instr.makeSlice 55 (.int .i64 (n : Int)) (.int .i64 (n : Int))).run Tryz.prog w = .ok (.slice (some ⟨w.heap.size, 0, none⟩) n n) (w.alloc (.cells (madeCells #[.int .u8 0] (n * 1)) 5)) :=
  run_make_rows 55 5 (.int .u8 0) 1 1 n Tryz.underlying55 infoB (by omega) hn w

end Go.Proofs.YtmbndpgoihdpnaaGreatDoor
namespace Go.Proofs.YtmbndpgoihdpnaaGreatDoor
set_option linter.unusedVariables false

def tabN : List Nat := [0, 498536548, 997073096, 651767980, 1994146192, 1802195444, 1303535960, 1342533948, 3988292384, 4027552580, 3604390888, 3412177804, 2607071920, 2262029012, 2685067896, 3183342108]
def tb (i : Nat) : Nat := tabN.getD i 0
theorem tb_lt (i : Nat) : tb i < 4294967296 := by
  unfold tb
  by_cases h : i < 16
  · have : ∀ j : Fin 16, tabN.getD j.val 0 < 4294967296 := by decide
    exact this ⟨i, h⟩
  · rw [List.getD_eq_getElem?_getD, List.getElem?_eq_none (by simp [tabN]; omega)]; decide
def half (r i : Nat) : Nat := r / 16 ^^^ tb i
theorem half_lt (r i : Nat) (h : r < 4294967296) : half r i < 4294967296 := by
  unfold half
  have := tb_lt i
  exact Nat.xor_lt_two_pow (n := 32) (by omega) (by omega)
/-- The program's step. -/
def stepI (r c : Nat) : Nat := half (half (r ^^^ c) ((r ^^^ c) % 16)) (half (r ^^^ c) ((r ^^^ c) % 16) % 16)
/-- The specification's step. -/
def stepS (r c : Nat) : Nat := half (half r ((r ^^^ c) % 16)) ((half r ((r ^^^ c) % 16) ^^^ c / 16) % 16)
theorem xor_div16 (a b : Nat) : (a ^^^ b) / 16 = a / 16 ^^^ b / 16 := by
  have := Nat.shiftRight_xor_distrib (a := a) (b := b) (i := 4)
  simpa [Nat.shiftRight_eq_div_pow] using this
theorem step_eq (r c : Nat) (hc : c < 256) : stepI r c = stepS r c := by
  have h1 : half (r ^^^ c) ((r ^^^ c) % 16) = half r ((r ^^^ c) % 16) ^^^ c / 16 := by
    unfold half
    rw [xor_div16]
    ac_rfl
  unfold stepI stepS
  rw [h1]
  generalize half r ((r ^^^ c) % 16) = y
  show half (y ^^^ c / 16) ((y ^^^ c / 16) % 16) = half y ((y ^^^ c / 16) % 16)
  unfold half
  rw [xor_div16, show c / 16 / 16 = 0 from by omega, Nat.xor_zero]
def crcTo (z : Nat → Nat) : Nat → Nat
  | 0 => 4294967295
  | k + 1 => stepS (crcTo z k) (z k)
theorem stepS_lt (r c : Nat) (h : r < 4294967296) : stepS r c < 4294967296 := half_lt _ _ (half_lt _ _ h)
theorem crcTo_lt (z : Nat → Nat) (k : Nat) : crcTo z k < 4294967296 := by
  induction k with
  | zero => show 4294967295 < 4294967296; omega
  | succ k ih => exact stepS_lt _ _ ih
/-- The sum of the first n bytes. -/
def crc (z : Nat → Nat) (n : Nat) : Nat := if n > 65536 then 0 else crcTo z n ^^^ 4294967295
theorem xor_all (r : Nat) (h : r < 4294967296) : r ^^^ 4294967295 = 4294967295 - r := by
  have h1 : (BitVec.ofNat 32 r ^^^ BitVec.allOnes 32).toNat = (~~~ BitVec.ofNat 32 r).toNat := by rw [BitVec.xor_allOnes]
  rw [BitVec.toNat_xor, BitVec.toNat_not, BitVec.toNat_ofNat, BitVec.toNat_allOnes, Nat.mod_eq_of_lt (by omega)] at h1
  exact h1
theorem i64_wrap (n : Nat) (h : n < 9223372036854775808) : IntKind.i64.wrap (n : Int) = n := by
  simp [IntKind.wrap, IntKind.bits, IntKind.signed]; omega
theorem i64_xor_nat (a b : Nat) (ha : a < 9223372036854775808) (hb : b < 9223372036854775808) : bits .xor .i64 (a : Int) (b : Int) = ((a ^^^ b : Nat) : Int) := by
  have hx : a ^^^ b < 2 ^ 63 := Nat.xor_lt_two_pow (by omega) (by omega)
  show IntKind.i64.wrap ((BitVec.ofInt 64 (a : Int) ^^^ BitVec.ofInt 64 (b : Int)).toNat : Int) = _
  rw [BitVec.toNat_xor, ofInt_u64 a (by omega), ofInt_u64 b (by omega)]
  exact i64_wrap _ (by omega)
theorem i64_and_nat (a b : Nat) (ha : a < 9223372036854775808) (hb : b < 9223372036854775808) : bits .and .i64 (a : Int) (b : Int) = ((a &&& b : Nat) : Int) := by
  have hx : a &&& b < 2 ^ 63 := Nat.and_lt_two_pow _ (by omega)
  show IntKind.i64.wrap ((BitVec.ofInt 64 (a : Int) &&& BitVec.ofInt 64 (b : Int)).toNat : Int) = _
  rw [BitVec.toNat_and, ofInt_u64 a (by omega), ofInt_u64 b (by omega)]
  exact i64_wrap _ (by omega)
theorem mask15 (x : Nat) : x &&& 15 = x % 16 := Nat.and_two_pow_sub_one_eq_mod x 4

/-- One half byte's turn of the sum. -/
def turn (a : Nat) : Nat := half a (a % 16)
theorem stepI_turn (r c : Nat) : stepI r c = turn (turn (r ^^^ c)) := rfl
theorem tb_top : ∀ i j : Fin 16, tb i.val / 268435456 = tb j.val / 268435456 → i = j := by decide +kernel
theorem xor_div28 (a b : Nat) : (a ^^^ b) / 268435456 = a / 268435456 ^^^ b / 268435456 := by
  have := Nat.shiftRight_xor_distrib (a := a) (b := b) (i := 28)
  simpa [Nat.shiftRight_eq_div_pow] using this
theorem xor_cancel {a b t : Nat} (h : a ^^^ t = b ^^^ t) : a = b := by
  have := congrArg (fun x => x ^^^ t) h
  simpa [Nat.xor_assoc] using this
theorem turn_inj {a b : Nat} (ha : a < 4294967296) (hb : b < 4294967296) (h : turn a = turn b) : a = b := by
  unfold turn half at h
  have h1 := congrArg (fun x => x / 268435456) h
  simp only [xor_div28] at h1
  rw [show a / 16 / 268435456 = 0 from by omega, show b / 16 / 268435456 = 0 from by omega, Nat.zero_xor, Nat.zero_xor] at h1
  have h2 := tb_top ⟨a % 16, by omega⟩ ⟨b % 16, by omega⟩ h1
  have h3 : a % 16 = b % 16 := congrArg Fin.val h2
  rw [h3] at h
  have h4 := xor_cancel h
  omega
theorem turn_lt {a : Nat} (ha : a < 4294967296) : turn a < 4294967296 := half_lt _ _ ha
theorem step_inj {r s c d : Nat} (hr : r < 4294967296) (hs : s < 4294967296) (hc : c < 256) (hd : d < 256) (h : stepS r c = stepS s d) : r ^^^ c = s ^^^ d := by
  rw [← step_eq r c hc, ← step_eq s d hd, stepI_turn, stepI_turn] at h
  have h1 : r ^^^ c < 4294967296 := Nat.xor_lt_two_pow (n := 32) (by omega) (by omega)
  have h2 : s ^^^ d < 4294967296 := Nat.xor_lt_two_pow (n := 32) (by omega) (by omega)
  exact turn_inj h1 h2 (turn_inj (turn_lt h1) (turn_lt h2) h)
/-- Bytes that differ at one place alone have other sums. -/
theorem crcTo_differs {z y : Nat → Nat} (hz : ∀ i, z i < 256) (hy : ∀ i, y i < 256) (j : Nat) (hj : z j ≠ y j) (hsame : ∀ i, i ≠ j → z i = y i) : ∀ n, (n ≤ j → crcTo z n = crcTo y n) ∧ (j < n → crcTo z n ≠ crcTo y n)
  | 0 => ⟨fun _ => rfl, fun h => absurd h (by omega)⟩
  | n + 1 => by
    obtain ⟨ih1, ih2⟩ := crcTo_differs hz hy j hj hsame n
    refine ⟨fun h => ?_, fun h e => ?_⟩
    · show stepS (crcTo z n) (z n) = stepS (crcTo y n) (y n)
      rw [ih1 (by omega), hsame n (by omega)]
    · have h1 := step_inj (crcTo_lt z n) (crcTo_lt y n) (hz n) (hy n) e
      by_cases e2 : n = j
      · subst e2
        rw [ih1 (Nat.le_refl _), Nat.xor_comm, Nat.xor_comm (crcTo y n)] at h1
        exact hj (xor_cancel h1)
      · rw [hsame n e2] at h1
        exact ih2 (by omega) (xor_cancel h1)
theorem crc_differs {z y : Nat → Nat} (hz : ∀ i, z i < 256) (hy : ∀ i, y i < 256) (j n : Nat) (hjn : j < n) (hn : n ≤ 65536) (hj : z j ≠ y j) (hsame : ∀ i, i ≠ j → z i = y i) : crc z n ≠ crc y n := by
  unfold crc
  rw [if_neg (by omega), if_neg (by omega)]
  intro h
  exact (crcTo_differs hz hy j hj hsame n).2 hjn (xor_cancel h)
end Go.Proofs.YtmbndpgoihdpnaaGreatDoor
namespace Go.Proofs.YtmbndpgoihdpnaaGreatDoor
open Go.ChangeShapes Go.WideShapes Go.ChangeAt Go.RowKit Go.Deep
set_option linter.unusedVariables false

theorem below_setRow {B : Nat} {a w : World} (h : Below B a w) (g : Nat) (hg : B ≤ g) (cs : Array Value) : Below B a (w.setRow g cs) :=
  h.trans ⟨rfl, rfl, rfl, by simp, fun k hk => setRow_other w g k cs (by omega)⟩

abbrev BV (z : Nat → Nat) : Nat → Value := fun i => .int .u8 ((z i : Nat) : Int)
def tstep (x : Int) : Int := bits .xor .i64 (x / 2) (wrap64 (bits .and .i64 x 1 * 3988292384))
def itN : Nat → Int → Int
  | 0, i => i
  | m + 1, i => tstep (itN m i)
def tabCells (k : Nat) : Array Value := ((List.range 16).map fun i => Value.int .i64 (if i < k then ((tb i : Nat) : Int) else 0)).toArray
theorem tab_it : ∀ k : Fin 16, itN 4 (k.val : Int) = ((tb k.val : Nat) : Int) := by decide +kernel
theorem tabCells_size (k : Nat) : (tabCells k).size = 16 := by simp [tabCells]
theorem tabCells_get (k i : Nat) (h : i < 16) : (tabCells k)[i]? = some (.int .i64 (if i < k then ((tb i : Nat) : Int) else 0)) := by
  simp [tabCells, h]
theorem tabCells_step (k : Nat) (h : k < 16) : (tabCells k).setIfInBounds k (.int .i64 ((tb k : Nat) : Int)) = tabCells (k + 1) := by
  apply Array.ext_getElem?
  intro i
  rw [Array.getElem?_setIfInBounds]
  by_cases hi : i < 16
  · by_cases e : k = i
    · subst e; rw [if_pos rfl, if_pos (by rw [tabCells_size]; exact h), tabCells_get _ _ h, if_pos (by omega)]
    · rw [if_neg e, tabCells_get _ _ hi, tabCells_get _ _ hi]
      by_cases h1 : i < k
      · rw [if_pos h1, if_pos (by omega)]
      · rw [if_neg h1, if_neg (by omega)]
  · have h1 : k ≠ i := by omega
    rw [if_neg h1, Array.getElem?_eq_none (by rw [tabCells_size]; omega), Array.getElem?_eq_none (by rw [tabCells_size]; omega)]
theorem tabCells_zero : tabCells 0 = #[Value.int .i64 0, .int .i64 0, .int .i64 0, .int .i64 0, .int .i64 0, .int .i64 0, .int .i64 0, .int .i64 0, .int .i64 0, .int .i64 0, .int .i64 0, .int .i64 0, .int .i64 0, .int .i64 0, .int .i64 0, .int .i64 0] := by
  simp [tabCells, List.range, List.range.loop]

def TabRel (w wr : World) (k : Nat) : Prop := Below w.heap.size w wr ∧ wr.heap[w.heap.size]? = some (.cells (tabCells 0) 165 (0, 0)) ∧ wr.heap[w.heap.size + 1]? = some (.cells (tabCells k) 165 (0, 0))

set_option maxHeartbeats 800000 in
theorem table (w : World) : Calls Tryz.prog 112 #[] w fun e w' => e = .returned (.agg (tabCells 16)) ∧ Below w.heap.size w w' := by
  go_enter Tryz.func112, Tryz.ntmps112
  go_wp2_with fail
  go_loopw [2] (fun i wr => ∃ k : Nat, k ≤ 16 ∧ i = .int .i64 k ∧ Hid (TabRel w wr k)) (fun i _ => 16 - (intOf i).toNat)
  case atStart =>
    refine ⟨0, by omega, rfl, ((Below.refl _ _).alloc (Nat.le_refl _) _).alloc (by simp) _, ?_, ?_⟩
    · rw [tabCells_zero]; exact heap_alloc2_old _ _ _
    · rw [tabCells_zero]; exact heap_alloc2_new _ _ _
  case round =>
    obtain ⟨k, hk, rfl, hR⟩ := hrel
    by_cases hlt : k < 16
    · have hd : wr.cell? ⟨w.heap.size + 1, k, none⟩ = some (.int .i64 0) := by
        rw [cell_of_row wr _ k _ _ _ hR.out.2.2, tabCells_get _ _ hlt, if_neg (by omega)]
      have hf : wr.frozen? ⟨w.heap.size + 1, k, none⟩ = false := frozen_of_row wr _ k _ _ hR.out.2.2
      go_wp2_with fail
      go_loop [3, 4] (fun r j => ∃ (m : Nat) (x : Int), m ≤ 4 ∧ j = .int .i64 m ∧ r = .int .i64 x ∧ Hid (x = itN m k)) (fun _ j => 4 - (intOf j).toNat)
      case atStart => exact ⟨0, k, by omega, rfl, rfl, rfl⟩
      case round =>
        obtain ⟨m, x, hm, rfl, rfl, hx⟩ := hrel
        by_cases hl2 : m < 4
        · go_wp2_with fail
          exact ⟨⟨m + 1, _, by omega, by go_num, rfl, by rw [hx.out]; rfl⟩, by simp [intOf]; omega⟩
        · have hm4 : m = 4 := by omega
          have hxt : Hid (x = ((tb k : Nat) : Int)) := by
            have h1 := hx.out
            rw [hm4] at h1
            exact h1.trans (tab_it ⟨k, hlt⟩)
          clear hm4
          go_wp2_with fail
          refine ⟨⟨k + 1, by omega, by go_num, ?_⟩, by simp [intOf]; omega⟩
          obtain ⟨h1, h2, h3⟩ := hR.out
          rw [hxt.out]
          refine ⟨h1.setCell (by show w.heap.size ≤ w.heap.size + 1; omega) _, ?_, ?_⟩
          · rw [heap_setCell_other _ _ _ _ (by show w.heap.size ≠ w.heap.size + 1; omega)]; exact h2
          · rw [heap_setCell_same _ _ _ _ _ _ h3, tabCells_step k hlt]
    · have hk16 : k = 16 := by omega
      subst hk16
      obtain ⟨h1, h2, h3⟩ := hR.out
      clear hR
      have H1 := h1
      have H2 : Hid (wr.heap[w.heap.size]? = some (.cells (tabCells 0) 165 (0, 0))) := h2
      have H3 : Hid (wr.heap[w.heap.size + 1]? = some (.cells (tabCells 16) 165 (0, 0))) := h3
      clear h1 h2 h3
      go_wp2_with (first | (refine wpList_load_row rfl 165 _ rfl (w.heap.size + 1) rfl 165 _ (0, 0) _ H3.out Tryz.underlying165 rfl (by rw [tabCells_size]; kernel_rfl) ?_) | (refine wpList_store_row rfl 165 _ _ rfl w.heap.size (tabCells 16) rfl rfl 165 (tabCells 0) H2.out (by rw [tabCells_size]; kernel_rfl) (by rw [tabCells_size, tabCells_size]) (by decide +kernel) ?_))
      refine bodyPost_ret (v := .agg (tabCells 16)) (results_cell_row rfl _ _ w.heap.size 165 _ (0, 0) _ rfl (setRow_heap _ _ _ _ _ _ H2.out) Tryz.underlying165 rfl (by rw [tabCells_size]; kernel_rfl)) rfl ⟨rfl, below_setRow H1 _ (Nat.le_refl _) _⟩

theorem quarter (x i : Nat) (hx : x < 4294967296) : bits .xor .i64 ((x : Int) / 16) ((tb i : Nat) : Int) = ((half x i : Nat) : Int) := by
  have := tb_lt i
  have h1 := i64_xor_nat (x / 16) (tb i) (by omega) (by omega)
  rw [← show ((x / 16 : Nat) : Int) = (x : Int) / 16 from by omega] at *
  exact h1

set_option maxHeartbeats 800000 in
theorem l01Check (a : Option Addr) (n c : Nat) (z : Nat → Nat) (w : World) (hn : n ≤ 1048576) (hz : ∀ i, z i < 256) (h : Sl w a n (BV z)) :
    Calls Tryz.prog 83 #[.slice a n c] w fun e w' => e = .returned (.int .i64 ((crcTo z n ^^^ 4294967295 : Nat) : Int)) ∧ Below w.heap.size w w' := by
  go_enter Tryz.func83, Tryz.ntmps83
  go_wp2_with fail
  refine (table _).mono ?_
  rintro e w1 ⟨rfl, hb1⟩
  have h1 := h.below hb1
  clear h
  go_wp2_with (refine wpList_store_row rfl 165 _ _ rfl w1.heap.size (tabCells 16) rfl rfl 165 _ (heap_alloc_new _ _) (by rw [tabCells_size]; kernel_rfl) (by rw [tabCells_size]; rfl) (by decide +kernel) ?_)
  have hb2 : Below w.heap.size w ((w1.alloc (.cells (tabCells 0) 165)).setRow w1.heap.size (tabCells 16)) := below_setRow (hb1.alloc hb1.size _) _ hb1.size _
  have hb3 : Below w1.heap.size w1 ((w1.alloc (.cells (tabCells 0) 165)).setRow w1.heap.size (tabCells 16)) := below_setRow ((Below.refl _ _).alloc (Nat.le_refl _) _) _ (Nat.le_refl _) _
  have hrow : ((w1.alloc (.cells (tabCells 0) 165)).setRow w1.heap.size (tabCells 16)).heap[w1.heap.size]? = some (.cells (tabCells 16) 165 (0, 0)) := setRow_heap _ _ _ _ _ _ (heap_alloc_new _ _)
  have h2 := h1.below hb3
  rw [tabCells_zero] at hb2 hrow h2
  have H2 := And.intro hb2 (And.intro hrow h2)
  clear hb1 hb2 hb3 hrow h1 h2
  go_loopw [4, 5] (fun r i wr => ∃ k x : Nat, k ≤ n ∧ i = .int .i64 k ∧ r = .int .i64 x ∧ Hid (x = crcTo z k) ∧ Hid (Below w.heap.size w wr ∧ wr.heap[w1.heap.size]? = some (.cells (tabCells 16) 165 (0, 0)) ∧ Sl wr a n (BV z))) (fun _ i _ => n - (intOf i).toNat)
  case atStart => exact ⟨0, 4294967295, by omega, rfl, rfl, rfl, H2⟩
  case round =>
    clear H2
    obtain ⟨k, x, hk, rfl, rfl, hx, hR⟩ := hrel
    by_cases hlt : k < n
    · obtain ⟨c0, hc0⟩ : ∃ c0, c0 = z k := ⟨_, rfl⟩
      have hxl : x < 4294967296 := by rw [hx.out]; exact crcTo_lt z k
      have hcl : c0 < 256 := by rw [hc0]; exact hz k
      obtain ⟨i1, e1⟩ : ∃ i1, i1 = (x ^^^ c0) % 16 := ⟨_, rfl⟩
      obtain ⟨y1, e2⟩ : ∃ y1, y1 = half x i1 := ⟨_, rfl⟩
      obtain ⟨i2, e3⟩ : ∃ i2, i2 = (y1 ^^^ c0 / 16) % 16 := ⟨_, rfl⟩
      obtain ⟨y2, e4⟩ : ∃ y2, y2 = half y1 i2 := ⟨_, rfl⟩
      have hi1 : i1 < 16 := by omega
      have hi2 : i2 < 16 := by omega
      have hy1 : y1 < 4294967296 := by rw [e2]; exact half_lt _ _ hxl
      have R1 : bits .and .i64 (bits .xor .i64 (x : Int) (c0 : Int)) 15 = (i1 : Int) := by
        have hlt2 : x ^^^ c0 < 2 ^ 32 := Nat.xor_lt_two_pow (by omega) (by omega)
        have h15 := i64_and_nat (x ^^^ c0) 15 (by omega) (by omega)
        rw [mask15, ← e1] at h15
        rw [i64_xor_nat x c0 (by omega) (by omega)]
        exact h15
      have R2 : bits .xor .i64 ((x : Int) / 16) ((tb i1 : Nat) : Int) = (y1 : Int) := by rw [e2]; exact quarter x i1 hxl
      have R3 : bits .and .i64 (bits .xor .i64 (y1 : Int) ((c0 : Int) / 16)) 15 = (i2 : Int) := by
        have hlt2 : y1 ^^^ c0 / 16 < 2 ^ 32 := Nat.xor_lt_two_pow (by omega) (by omega)
        have h15 := i64_and_nat (y1 ^^^ c0 / 16) 15 (by omega) (by omega)
        rw [mask15, ← e3] at h15
        rw [← show ((c0 / 16 : Nat) : Int) = (c0 : Int) / 16 from by omega]
        rw [i64_xor_nat y1 (c0 / 16) (by omega) (by omega)]
        exact h15
      have R4 : bits .xor .i64 ((y1 : Int) / 16) ((tb i2 : Nat) : Int) = (y2 : Int) := by rw [e4]; exact quarter y1 i2 hy1
      have E : Hid (y2 = crcTo z (k + 1)) := by
        show y2 = crcTo z (k + 1)
        rw [e4, e3, e2, e1, hc0, hx.out]; rfl
      have q1 : wr.cell? ⟨w1.heap.size, i1, none⟩ = some (.int .i64 ((tb i1 : Nat) : Int)) := by
        rw [cell_of_row wr _ i1 _ _ _ hR.out.2.1, tabCells_get _ _ hi1, if_pos hi1]
      have q2 : wr.cell? ⟨w1.heap.size, i2, none⟩ = some (.int .i64 ((tb i2 : Nat) : Int)) := by
        rw [cell_of_row wr _ i2 _ _ _ hR.out.2.1, tabCells_get _ _ hi2, if_pos hi2]
      rcases hR.out.2.2 with h1 | ⟨b, off, rfl, hc⟩
      · omega
      have hcs := hc k hlt
      rw [show BV z k = .int .u8 (c0 : Int) from by rw [hc0]] at hcs
      clear hc e1 e2 e3 e4 hc0 hx
      go_wp2_with fail
      exact ⟨⟨k + 1, y2, by omega, by go_num, rfl, E, hR⟩, by simp [intOf]; omega⟩
    · have hkn : k = n := by omega
      have hfin : Hid (bits .xor .i64 (x : Int) 4294967295 = ((crcTo z n ^^^ 4294967295 : Nat) : Int)) := by
        show bits .xor .i64 (x : Int) 4294967295 = _
        have hxl : x < 4294967296 := by rw [hx.out]; exact crcTo_lt z k
        rw [← hkn, ← hx.out]
        exact i64_xor_nat x 4294967295 (by omega) (by omega)
      clear hkn hx
      go_wp2_with fail
      go_ret
      exact ⟨by show Ending.returned (.int .i64 _) = _; rw [hfin.out], hR.out.1⟩

def HasHalf (w : World) : Prop := ∀ i, i < 16 → w.cell? ⟨3, i, none⟩ = some (.int .u32 ((tb i : Nat) : Int))
theorem HasHalf.below {w w' : World} (h : HasHalf w) (hb : Below w.heap.size w w') : HasHalf w' := fun i hi => by
  have h1 := h i hi
  rw [← h1]
  exact hb.cell (p := ⟨3, i, none⟩) (World.block_lt_of_cell? _ _ h1)

theorem quarter32 (x i : Nat) (hx : x < 4294967296) : bits .xor .u32 ((x : Int) / 16) ((tb i : Nat) : Int) = ((half x i : Nat) : Int) := by
  have := tb_lt i
  have h1 := u32_xor_nat (x / 16) (tb i) (by omega) (by omega)
  rw [← show ((x / 16 : Nat) : Int) = (x : Int) / 16 from by omega] at *
  exact h1
theorem mask32 (s : Nat) (h : s < 4294967296) : bits .and .u32 (s : Int) 15 = ((s % 16 : Nat) : Int) := by
  have h15 := u32_and_nat s 15 h (by omega)
  rw [mask15] at h15
  exact h15

set_option maxHeartbeats 800000 in
theorem implCheck32 (a : Option Addr) (n c : Nat) (z : Nat → Nat) (w : World) (hn : n ≤ 1048576) (hz : ∀ i, z i < 256) (h : Sl w a n (BV z)) (hH : HasHalf w) :
    Calls Tryz.prog 94 #[.slice a n c] w fun e w' => e = .returned (.int .i64 ((crc z n : Nat) : Int)) ∧ w = w' := by
  by_cases hbig : 65536 < n
  · have e : Hid (crc z n = 0) := by show crc z n = 0; unfold crc; rw [if_pos hbig]
    clear h hH
    go_enter Tryz.func94, Tryz.ntmps94
    go_wp2_with fail
    go_ret
    exact ⟨by rw [e.out]; rfl, rfl⟩
  have e : Hid (crc z n = crcTo z n ^^^ 4294967295) := by show crc z n = _; unfold crc; rw [if_neg hbig]
  have HH : Hid (HasHalf w) := hH
  clear hH
  go_enter Tryz.func94, Tryz.ntmps94
  go_wp2_with fail
  go_loop [3, 11] (fun r i => ∃ k x : Nat, k ≤ n ∧ i = .int .i64 k ∧ r = .int .u32 x ∧ Hid (x = crcTo z k)) (fun _ i => n - (intOf i).toNat)
  case atStart => exact ⟨0, 4294967295, by omega, rfl, rfl, rfl⟩
  case round =>
    obtain ⟨k, x, hk, rfl, rfl, hx⟩ := hrel
    by_cases hlt : k < n
    · obtain ⟨c0, hc0⟩ : ∃ c0, c0 = z k := ⟨_, rfl⟩
      have hxl : x < 4294967296 := by rw [hx.out]; exact crcTo_lt z k
      have hcl : c0 < 256 := by rw [hc0]; exact hz k
      obtain ⟨s, e0⟩ : ∃ s, s = x ^^^ c0 := ⟨_, rfl⟩
      obtain ⟨i1, e1⟩ : ∃ i1, i1 = s % 16 := ⟨_, rfl⟩
      obtain ⟨y1, e2⟩ : ∃ y1, y1 = half s i1 := ⟨_, rfl⟩
      obtain ⟨i2, e3⟩ : ∃ i2, i2 = y1 % 16 := ⟨_, rfl⟩
      obtain ⟨y2, e4⟩ : ∃ y2, y2 = half y1 i2 := ⟨_, rfl⟩
      have hi1 : i1 < 16 := by omega
      have hi2 : i2 < 16 := by omega
      have hsl : s < 4294967296 := by rw [e0]; exact Nat.xor_lt_two_pow (n := 32) (by omega) (by omega)
      have hy1 : y1 < 4294967296 := by rw [e2]; exact half_lt _ _ hsl
      have R0 : bits .xor .u32 (x : Int) (c0 : Int) = (s : Int) := by rw [e0]; exact u32_xor_nat x c0 hxl (by omega)
      have R1 : bits .and .u32 (s : Int) 15 = (i1 : Int) := by rw [e1]; exact mask32 s hsl
      have R2 : bits .xor .u32 ((s : Int) / 16) ((tb i1 : Nat) : Int) = (y1 : Int) := by rw [e2]; exact quarter32 s i1 hsl
      have R3 : bits .and .u32 (y1 : Int) 15 = (i2 : Int) := by rw [e3]; exact mask32 y1 hy1
      have R4 : bits .xor .u32 ((y1 : Int) / 16) ((tb i2 : Nat) : Int) = (y2 : Int) := by rw [e4]; exact quarter32 y1 i2 hy1
      have E : Hid (y2 = crcTo z (k + 1)) := by
        show y2 = crcTo z (k + 1)
        have h1 : crcTo z (k + 1) = stepS (crcTo z k) (z k) := rfl
        rw [h1, ← step_eq _ _ (hz k), e4, e3, e2, e1, e0, hc0, hx.out]; rfl
      have q1 := HH.out i1 hi1
      have q2 := HH.out i2 hi2
      rcases h with h1 | ⟨b, off, rfl, hc⟩
      · omega
      have hcs := hc k hlt
      rw [show BV z k = .int .u8 (c0 : Int) from by rw [hc0]] at hcs
      clear hc e0 e1 e2 e3 e4 hc0 hx
      go_wp2_with fail
      exact ⟨⟨k + 1, y2, by omega, by go_num, rfl, E⟩, by simp [intOf]; omega⟩
    · have hkn : k = n := by omega
      have hxl : x < 4294967296 := by rw [hx.out]; exact crcTo_lt z k
      have hfin : Hid (wrap64 (bits .xor .u32 IntKind.u32.max (x : Int)) = ((crc z n : Nat) : Int)) := by
        show wrap64 (bits .xor .u32 IntKind.u32.max (x : Int)) = _
        have h1 := u32_xor_nat 4294967295 x (by omega) hxl
        have h2 : IntKind.u32.max = ((4294967295 : Nat) : Int) := rfl
        rw [h2, h1, e.out, ← hkn, ← hx.out, Nat.xor_comm, xor_all x hxl]
        unfold wrap64; omega
      clear hkn hx e
      go_wp2_with fail
      go_ret
      exact ⟨by show Ending.returned (.int .i64 _) = _; rw [hfin.out], rfl⟩
end Go.Proofs.YtmbndpgoihdpnaaGreatDoor
namespace Go.Proofs.YtmbndpgoihdpnaaGreatDoor
open Go.ChangeShapes Go.WideShapes Go.ChangeAt Go.RowKit Go.Deep
set_option linter.unusedVariables false
set_option maxRecDepth 100000

def bytesOf (s : ByteArray) : List Nat := s.data.toList.map fun b => b.toNat
theorem strCells_bytes (s : ByteArray) : Lib.strCells s = cellsB (bytesOf s) := by simp [Lib.strCells, cellsB, bytesOf]
theorem bytesOf_length (s : ByteArray) : (bytesOf s).length = s.size := by simp [bytesOf]
def numB (x : Nat) : List Nat := [x / 256 % 256, x % 256]
/-- A field: how long it is (two bytes), it. -/
def fieldB (s : ByteArray) : List Nat := numB s.size ++ bytesOf s
def fieldsB (L : List ByteArray) : List Nat := (L.length % 256) :: L.flatMap fieldB
theorem own_empty' {w : World} {B base e s : Nat} (hB : B = w.heap.size) (hb : base ≤ w.heap.size) : (w.alloc (.cells #[] e)).ownsRow base e s (.slice (some ⟨B, 0, none⟩) 0 0) 0 [] := by
  subst hB
  exact World.ownsRow_made w #[] 0 hb (by unfold maxLen; omega) (by simp)
theorem src_oneB {w : World} {x : Nat} {z : Int} {B t : Nat} (hB : B = w.heap.size) (hz : z = (x : Int)) : Src (w.alloc (.cells #[.int .u8 z] t)) (some ⟨B, 0, none⟩) (cellsB [x]) := by
  subst hB hz
  refine .inr ⟨_, 0, rfl, fun j hj => ?_⟩
  have hb := Box.new (w := w) (B := w.heap.size) (vs := #[.int .u8 (x : Int)]) (t := t) rfl
  have hj' : j < 1 := hj
  rw [Nat.zero_add]
  match j, hj' with
  | 0, _ => exact (hb 0 _ rfl).1

set_option maxHeartbeats 1000000 in
theorem l01Number2 (x : Nat) (w : World) (hx : x ≤ 65535) :
    Calls Tryz.prog 80 #[.int .i64 (x : Int), .int .i64 2] w fun e w' => ∃ v, e = .returned v ∧ w'.ownsRow w.heap.size 5 1 v 2 (cellsB (numB x)) ∧ Below w.heap.size w w' := by
  go_enter Tryz.func80, Tryz.ntmps80
  go_wp2_with fail
  go_loopw [5, 6] (fun ov i wr => ∃ (q : Int) (u : Value) (n : Nat), u = ov ∧ i = .int .i64 q ∧ -1 ≤ q ∧ q ≤ 1 ∧ Hid ((n : Int) = 1 - q) ∧ Hid (Below w.heap.size w wr) ∧ Hid (wr.ownsRow w.heap.size 5 1 u n (cellsB ((numB x).take n)))) (fun _ i _ => (RowKit.intOf i + 1).toNat)
  case atStart => exact ⟨1, _, 0, rfl, rfl, by omega, by omega, by show ((0 : Nat) : Int) = 1 - 1; omega, (Below.refl _ _).alloc (Nat.le_refl _) _, own_empty' rfl (Nat.le_refl _)⟩
  case round =>
    obtain ⟨q, u, n, hu, rfl, hq1, hq2, hn, hb, HW⟩ := hrel
    subst hu
    rcases (by omega : q = -1 ∨ q = 0 ∨ q = 1) with rfl | rfl | rfl
    · have h2 : n = 2 := by have := hn.out; omega
      have HF : Hid (wr.ownsRow w.heap.size 5 1 u 2 (cellsB (numB x))) := by rw [h2] at HW; exact HW
      clear h2 hn HW
      go_wp2_with fail
      go_ret
      exact ⟨_, rfl, HF.out, hb.out⟩
    · have h2 : n = 1 := by have := hn.out; omega
      have HF : Hid (wr.ownsRow w.heap.size 5 1 u 1 (cellsB [x / 256 % 256])) := by rw [h2] at HW; exact HW
      clear h2 hn HW
      have XR : Hid (w.heap.size ≤ wr.heap.size) := hb.out.size
      have hlt3 : Hid (∀ g, Value.ownBlock u = some g → w.heap.size ≤ g ∧ g < wr.heap.size) := fun g e => HF.out.lt g e
      go_wp2_with (at_builtin; refine wpList_append_src _ rfl _ _ 55 rfl w.heap.size 5 (.int .u8 0) 1 1 Tryz.underlying55 infoB rfl (by decide) (by decide) _ 1 (cellsB [x / 256 % 256]) rfl (HF.out.alloc _) (some ⟨wr.heap.size, 0, none⟩) 1 1 (cellsB [x % 256]) rfl rfl (src_oneB rfl (by simp)) (cellsB_one _) (by omega) (le_alloc XR.out _) ?_)
      intro v2 w2 hown2 hgrow2
      have o2 : Hid (w2.ownsRow w.heap.size 5 1 v2 (1 + 1) (cellsB ((numB x).take (1 + 1)))) := hown2
      have B2 : Hid (Below w.heap.size w w2) := (hb.out.alloc hb.out.size _).grown hgrow2 (le_alloc hb.out.size _) (fun g e => (hlt3.out g e).1)
      clear hown2 hgrow2
      go_wp2_with fail
      exact ⟨⟨-1, _, 1 + 1, rfl, by go_num, by omega, by omega, by show (((1 + 1 : Nat)) : Int) = 1 - (-1); omega, B2.out, o2.out⟩, by simp [RowKit.intOf]⟩
    · have h2 : n = 0 := by have := hn.out; omega
      have HF : Hid (wr.ownsRow w.heap.size 5 1 u 0 (cellsB [])) := by rw [h2] at HW; exact HW
      clear h2 hn HW
      have XR : Hid (w.heap.size ≤ wr.heap.size) := hb.out.size
      have hlt3 : Hid (∀ g, Value.ownBlock u = some g → w.heap.size ≤ g ∧ g < wr.heap.size) := fun g e => HF.out.lt g e
      go_wp2_with (at_builtin; refine wpList_append_src _ rfl _ _ 55 rfl w.heap.size 5 (.int .u8 0) 1 1 Tryz.underlying55 infoB rfl (by decide) (by decide) _ 0 (cellsB []) rfl (HF.out.alloc _) (some ⟨wr.heap.size, 0, none⟩) 1 1 (cellsB [x / 256 % 256]) rfl rfl (src_oneB rfl (by simp; omega)) (cellsB_one _) (by omega) (le_alloc XR.out _) ?_)
      intro v2 w2 hown2 hgrow2
      have o2 : Hid (w2.ownsRow w.heap.size 5 1 v2 (0 + 1) (cellsB ((numB x).take (0 + 1)))) := hown2
      have B2 : Hid (Below w.heap.size w w2) := (hb.out.alloc hb.out.size _).grown hgrow2 (le_alloc hb.out.size _) (fun g e => (hlt3.out g e).1)
      clear hown2 hgrow2
      go_wp2_with fail
      exact ⟨⟨0, _, 0 + 1, rfl, by go_num, by omega, by omega, by show (((0 + 1 : Nat)) : Int) = 1 - (0); omega, B2.out, o2.out⟩, by simp [RowKit.intOf]⟩
end Go.Proofs.YtmbndpgoihdpnaaGreatDoor
namespace Go.Proofs.YtmbndpgoihdpnaaGreatDoor
open Go.ChangeShapes Go.WideShapes Go.ChangeAt Go.RowKit Go.Deep
set_option linter.unusedVariables false

def numQ (x : Nat) : List Nat := [x / 16777216 % 256, x / 65536 % 256, x / 256 % 256, x % 256]
theorem numQ_lt (x : Nat) : ∀ y ∈ numQ x, y < 256 := by
  intro y hy
  simp [numQ] at hy
  omega

set_option maxHeartbeats 2000000 in
theorem l01Number4 (x : Nat) (w : World) (hx : x < 4294967296) :
    Calls Tryz.prog 80 #[.int .i64 (x : Int), .int .i64 4] w fun e w' => ∃ v, e = .returned v ∧ w'.ownsRow w.heap.size 5 1 v 4 (cellsB (numQ x)) ∧ Below w.heap.size w w' := by
  go_enter Tryz.func80, Tryz.ntmps80
  go_wp2_with fail
  go_loopw [5, 6] (fun ov i wr => ∃ (q : Int) (u : Value) (n : Nat), u = ov ∧ i = .int .i64 q ∧ -1 ≤ q ∧ q ≤ 3 ∧ Hid ((n : Int) = 3 - q) ∧ Hid (Below w.heap.size w wr) ∧ Hid (wr.ownsRow w.heap.size 5 1 u n (cellsB ((numQ x).take n)))) (fun _ i _ => (intOf i + 1).toNat)
  case atStart => exact ⟨3, _, 0, rfl, rfl, by omega, by omega, by show ((0 : Nat) : Int) = 3 - 3; omega, (Below.refl _ _).alloc (Nat.le_refl _) _, own_empty' rfl (Nat.le_refl _)⟩
  case round =>
    obtain ⟨q, u, n, hu, rfl, hq1, hq2, hn, hb, HW⟩ := hrel
    subst hu
    rcases (by omega : q = -1 ∨ q = 0 ∨ q = 1 ∨ q = 2 ∨ q = 3) with rfl | rfl | rfl | rfl | rfl
    · have h2 : n = 4 := by have := hn.out; omega
      have HF : Hid (wr.ownsRow w.heap.size 5 1 u 4 (cellsB (numQ x))) := by rw [h2] at HW; exact HW
      clear h2 hn HW
      go_wp2_with fail
      go_ret
      exact ⟨_, rfl, HF.out, hb.out⟩
    · have h2 : n = 3 := by have := hn.out; omega
      have HF : Hid (wr.ownsRow w.heap.size 5 1 u 3 (cellsB [x / 16777216 % 256, x / 65536 % 256, x / 256 % 256])) := by rw [h2] at HW; exact HW
      clear h2 hn HW
      have XR : Hid (w.heap.size ≤ wr.heap.size) := hb.out.size
      have hlt3 : Hid (∀ g, Value.ownBlock u = some g → w.heap.size ≤ g ∧ g < wr.heap.size) := fun g e => HF.out.lt g e
      go_wp2_with (at_builtin; refine wpList_append_src _ rfl _ _ 55 rfl w.heap.size 5 (.int .u8 0) 1 1 Tryz.underlying55 infoB rfl (by decide) (by decide) _ 3 (cellsB [x / 16777216 % 256, x / 65536 % 256, x / 256 % 256]) rfl (HF.out.alloc _) (some ⟨wr.heap.size, 0, none⟩) 1 1 (cellsB [x % 256]) rfl rfl (src_oneB rfl (by first | (simp; done) | (simp; omega))) (cellsB_one _) (by omega) (le_alloc XR.out _) ?_)
      intro v2 w2 hown2 hgrow2
      have o2 : Hid (w2.ownsRow w.heap.size 5 1 v2 (3 + 1) (cellsB ((numQ x).take (3 + 1)))) := hown2
      have B2 : Hid (Below w.heap.size w w2) := (hb.out.alloc hb.out.size _).grown hgrow2 (le_alloc hb.out.size _) (fun g e => (hlt3.out g e).1)
      clear hown2 hgrow2
      go_wp2_with fail
      exact ⟨⟨-1, _, 3 + 1, rfl, by go_num, by omega, by omega, by show (((3 + 1 : Nat)) : Int) = 3 - (-1); omega, B2.out, o2.out⟩, by simp [intOf]⟩
    · have h2 : n = 2 := by have := hn.out; omega
      have HF : Hid (wr.ownsRow w.heap.size 5 1 u 2 (cellsB [x / 16777216 % 256, x / 65536 % 256])) := by rw [h2] at HW; exact HW
      clear h2 hn HW
      have XR : Hid (w.heap.size ≤ wr.heap.size) := hb.out.size
      have hlt3 : Hid (∀ g, Value.ownBlock u = some g → w.heap.size ≤ g ∧ g < wr.heap.size) := fun g e => HF.out.lt g e
      go_wp2_with (at_builtin; refine wpList_append_src _ rfl _ _ 55 rfl w.heap.size 5 (.int .u8 0) 1 1 Tryz.underlying55 infoB rfl (by decide) (by decide) _ 2 (cellsB [x / 16777216 % 256, x / 65536 % 256]) rfl (HF.out.alloc _) (some ⟨wr.heap.size, 0, none⟩) 1 1 (cellsB [x / 256 % 256]) rfl rfl (src_oneB rfl (by first | (simp; done) | (simp; omega))) (cellsB_one _) (by omega) (le_alloc XR.out _) ?_)
      intro v2 w2 hown2 hgrow2
      have o2 : Hid (w2.ownsRow w.heap.size 5 1 v2 (2 + 1) (cellsB ((numQ x).take (2 + 1)))) := hown2
      have B2 : Hid (Below w.heap.size w w2) := (hb.out.alloc hb.out.size _).grown hgrow2 (le_alloc hb.out.size _) (fun g e => (hlt3.out g e).1)
      clear hown2 hgrow2
      go_wp2_with fail
      exact ⟨⟨0, _, 2 + 1, rfl, by go_num, by omega, by omega, by show (((2 + 1 : Nat)) : Int) = 3 - (0); omega, B2.out, o2.out⟩, by simp [intOf]⟩
    · have h2 : n = 1 := by have := hn.out; omega
      have HF : Hid (wr.ownsRow w.heap.size 5 1 u 1 (cellsB [x / 16777216 % 256])) := by rw [h2] at HW; exact HW
      clear h2 hn HW
      have XR : Hid (w.heap.size ≤ wr.heap.size) := hb.out.size
      have hlt3 : Hid (∀ g, Value.ownBlock u = some g → w.heap.size ≤ g ∧ g < wr.heap.size) := fun g e => HF.out.lt g e
      go_wp2_with (at_builtin; refine wpList_append_src _ rfl _ _ 55 rfl w.heap.size 5 (.int .u8 0) 1 1 Tryz.underlying55 infoB rfl (by decide) (by decide) _ 1 (cellsB [x / 16777216 % 256]) rfl (HF.out.alloc _) (some ⟨wr.heap.size, 0, none⟩) 1 1 (cellsB [x / 65536 % 256]) rfl rfl (src_oneB rfl (by first | (simp; done) | (simp; omega))) (cellsB_one _) (by omega) (le_alloc XR.out _) ?_)
      intro v2 w2 hown2 hgrow2
      have o2 : Hid (w2.ownsRow w.heap.size 5 1 v2 (1 + 1) (cellsB ((numQ x).take (1 + 1)))) := hown2
      have B2 : Hid (Below w.heap.size w w2) := (hb.out.alloc hb.out.size _).grown hgrow2 (le_alloc hb.out.size _) (fun g e => (hlt3.out g e).1)
      clear hown2 hgrow2
      go_wp2_with fail
      exact ⟨⟨1, _, 1 + 1, rfl, by go_num, by omega, by omega, by show (((1 + 1 : Nat)) : Int) = 3 - (1); omega, B2.out, o2.out⟩, by simp [intOf]⟩
    · have h2 : n = 0 := by have := hn.out; omega
      have HF : Hid (wr.ownsRow w.heap.size 5 1 u 0 (cellsB [])) := by rw [h2] at HW; exact HW
      clear h2 hn HW
      have XR : Hid (w.heap.size ≤ wr.heap.size) := hb.out.size
      have hlt3 : Hid (∀ g, Value.ownBlock u = some g → w.heap.size ≤ g ∧ g < wr.heap.size) := fun g e => HF.out.lt g e
      go_wp2_with (at_builtin; refine wpList_append_src _ rfl _ _ 55 rfl w.heap.size 5 (.int .u8 0) 1 1 Tryz.underlying55 infoB rfl (by decide) (by decide) _ 0 (cellsB []) rfl (HF.out.alloc _) (some ⟨wr.heap.size, 0, none⟩) 1 1 (cellsB [x / 16777216 % 256]) rfl rfl (src_oneB rfl (by first | (simp; done) | (simp; omega))) (cellsB_one _) (by omega) (le_alloc XR.out _) ?_)
      intro v2 w2 hown2 hgrow2
      have o2 : Hid (w2.ownsRow w.heap.size 5 1 v2 (0 + 1) (cellsB ((numQ x).take (0 + 1)))) := hown2
      have B2 : Hid (Below w.heap.size w w2) := (hb.out.alloc hb.out.size _).grown hgrow2 (le_alloc hb.out.size _) (fun g e => (hlt3.out g e).1)
      clear hown2 hgrow2
      go_wp2_with fail
      exact ⟨⟨2, _, 0 + 1, rfl, by go_num, by omega, by omega, by show (((0 + 1 : Nat)) : Int) = 3 - (2); omega, B2.out, o2.out⟩, by simp [intOf]⟩
end Go.Proofs.YtmbndpgoihdpnaaGreatDoor
namespace Go.Proofs.YtmbndpgoihdpnaaGreatDoor
open Go.ChangeShapes Go.WideShapes Go.ChangeAt Go.RowKit Go.Deep
set_option linter.unusedVariables false
set_option maxRecDepth 100000

abbrev zL (L : List Nat) : Nat → Nat := fun i => L.getD i 0
def sumL (L : List Nat) : Nat := crc (zL L) L.length
def sealB (L : List Nat) : List Nat := L ++ numQ (sumL L)
theorem sumL_lt (L : List Nat) : sumL L < 4294967296 := by
  unfold sumL crc
  split
  · omega
  · exact Nat.xor_lt_two_pow (n := 32) (crcTo_lt _ _) (by omega)
theorem zL_lt {L : List Nat} (h : ∀ x ∈ L, x < 256) : ∀ i, zL L i < 256 := fun i => by
  by_cases hi : i < L.length
  · show L.getD i 0 < 256
    rw [List.getD_eq_getElem?_getD, List.getElem?_eq_getElem hi]; exact h _ (List.getElem_mem _)
  · show L.getD i 0 < 256
    rw [List.getD_eq_getElem?_getD, List.getElem?_eq_none (by omega)]; decide
theorem sl_src {w : World} {a : Option Addr} {L : List Nat} {n : Nat} (h : Src w a (cellsB L)) (hn : L.length = n) : Sl w a n (BV (zL L)) := by
  subst hn
  rcases h with h | ⟨b, o, rfl, hc⟩
  · have h2 := cellsB_length L
    rw [h] at h2
    exact .inl (by simpa using h2.symm)
  · refine .inr ⟨b, o, rfl, fun i hi => ?_⟩
    have h1 := hc i (by rw [cellsB_length]; exact hi)
    rw [getD_some (cellsB_get L i hi)] at h1
    exact h1
theorem l01CheckL (a : Option Addr) (n c : Nat) (L : List Nat) (w : World) (hL : L.length = n) (hn : n ≤ 65536) (hlt : ∀ x ∈ L, x < 256) (h : Src w a (cellsB L)) :
    Calls Tryz.prog 83 #[.slice a n c] w fun e w' => e = .returned (.int .i64 ((sumL L : Nat) : Int)) ∧ Below w.heap.size w w' := by
  have h1 := l01Check a n c (zL L) w (by omega) (zL_lt hlt) (sl_src h hL)
  have e1 : sumL L = crcTo (zL L) n ^^^ 4294967295 := by unfold sumL crc; rw [hL, if_neg (by omega)]
  rw [← e1] at h1
  exact h1
theorem check32L (a : Option Addr) (n c : Nat) (L : List Nat) (w : World) (hL : L.length = n) (hn : n ≤ 1048576) (hlt : ∀ x ∈ L, x < 256) (h : Src w a (cellsB L)) (hH : HasHalf w) :
    Calls Tryz.prog 94 #[.slice a n c] w fun e w' => e = .returned (.int .i64 ((sumL L : Nat) : Int)) ∧ w = w' := by
  have h1 := implCheck32 a n c (zL L) w hn (zL_lt hlt) (sl_src h hL) hH
  have e1 : sumL L = crc (zL L) n := by unfold sumL; rw [hL]
  rw [← e1] at h1
  exact h1

/-- What a row of one's own that is not empty is as a slice. -/
theorem own_some {w : World} {base e s n : Nat} {v : Value} {xs : List Value} (h : w.ownsRow base e s v n xs) (hn : 0 < n) : ∃ g cap, v = .slice (some ⟨g, 0, none⟩) n cap ∧ n ≤ cap ∧ Src w (some ⟨g, 0, none⟩) xs := by
  obtain ⟨a, c, rfl, hs, _⟩ := own_src h
  obtain ⟨hl, ⟨hv, h0⟩ | ⟨g, cap, cur, hv, hb, hg, hc1, hc2, hsz, ht⟩⟩ := h
  · omega
  · cases hv
    exact ⟨g, c, rfl, hc1, hs⟩
/-- Bytes that were just laid. -/
theorem own_new {w : World} {base t : Nat} {zs : List Nat} {cs : Array Value} {n : Nat} (hb : base ≤ w.heap.size) (hc : cs.toList = cellsB zs) (hn : zs.length = n) (hm : n ≤ 65536) (ht : t = 5) : (w.alloc (.cells cs t)).ownsRow base 5 1 (.slice (some ⟨w.heap.size, 0, none⟩) n n) n (cellsB zs) := by
  subst ht
  have hsz : cs.size = n := by rw [← Array.length_toList, hc, cellsB_length, hn]
  refine ⟨by rw [cellsB_length, hn]; omega, .inr ⟨w.heap.size, n, cs, rfl, hb, heap_alloc_new _ _, Nat.le_refl _, by unfold maxLen; omega, by rw [hsz]; omega, ?_⟩⟩
  rw [hc, List.take_of_length_le (by rw [cellsB_length, hn]; omega)]
set_option maxHeartbeats 1000000 in
theorem numberBytes (x : Nat) (w : World) (hx : x < 4294967296) :
    Calls Tryz.prog 64 #[.int .i64 (x : Int)] w fun e w' => e = .returned (.slice (some ⟨w.heap.size, 0, none⟩) 4 4) ∧ w'.ownsRow w.heap.size 5 1 (.slice (some ⟨w.heap.size, 0, none⟩) 4 4) 4 (cellsB (numQ x)) ∧ Below w.heap.size w w' := by
  have HX : Hid (x < 4294967296) := hx
  go_enter Tryz.func64, Tryz.ntmps64
  go_wp2_with fail
  go_ret
  refine ⟨rfl, own_new (Nat.le_refl _) ?_ rfl (by omega) rfl, (Below.refl _ _).alloc (Nat.le_refl _) _⟩
  simp [cellsB, numQ]
  first | done | omega
theorem step_call {P : Program} {ops : Array Oper} {o : Oper} {a : Act} {w : World} {K : Act → World → Prop} {Q : Exit → Act → World → Prop} {E : Prop}
    (hg : o.guard = none) (f : FuncId) (fn : Func) (hf : P.funcs[f]? = some fn) (hn : (fn.name == "runtime.NumGoroutine") = false) (hb : fn.body.isNone = false) (args : Array Operand) (tys : Array TypeId) (ho : o.op = .call { callee := .value (.func f), args := args, argTypes := tys })
    (vs : Array Value) (hv : args.map a.eval = vs) (Post : Ending → World → Prop) (h : Calls P f vs w Post) (hp : ∀ e w', Post e w' → ∃ v, e = .returned v ∧ K (a.put o.dst v) w') :
    if Region.wanted o (yielded ops a.tmps) = true then Oper.wp P o a w K Q else E := by
  have hw : Region.wanted o (yielded ops a.tmps) = true := by simp [Region.wanted, hg]
  rw [if_pos hw]
  have hrun : (execOp a.eval o).run P w = .ok (.enter f vs) w := by
    unfold execOp
    simp only [ho, resolve, hv]
    have hn' : ¬ fn.name = "runtime.NumGoroutine" := by simpa using hn
    have hb' : ¬ fn.body = none := fun h => by rw [h] at hb; simp at hb
    simp [go_sem, callFunc, hf, hn', hb']
  unfold Oper.wp
  rw [hrun, Oper.upon_enter]
  exact h.mono fun e w' hpe => by
    obtain ⟨v, rfl, hk⟩ := hp e w' hpe
    exact hk

def ltk (L : List ByteArray) (k : Nat) : List Nat := (L.length % 256) :: (L.take k).flatMap fieldB
theorem fieldB_length (s : ByteArray) : (fieldB s).length = 2 + s.size := by simp [fieldB, numB, bytesOf_length]; omega
theorem ltk_snoc (L : List ByteArray) (k : Nat) (y : ByteArray) (h : k < L.length) (hy : L.getD k e0 = y) : ltk L (k + 1) = ltk L k ++ fieldB y := by
  unfold ltk
  rw [List.getD_eq_getElem?_getD, List.getElem?_eq_getElem h] at hy
  rw [List.take_succ_eq_append_getElem h, List.flatMap_append]
  simp at hy
  simp [hy]
theorem ltk_all (L : List ByteArray) : ltk L L.length = fieldsB L := by unfold ltk fieldsB; rw [List.take_length]
theorem flat_le (L : List ByteArray) (m : Nat) (hs : ∀ x ∈ L, x.size ≤ m) : (L.flatMap fieldB).length ≤ L.length * (2 + m) := by
  induction L with
  | nil => simp
  | cons x L ih =>
    have h1 := hs x (by simp)
    have h2 := ih (fun y hy => hs y (by simp [hy]))
    rw [List.flatMap_cons, List.length_append, fieldB_length, List.length_cons, Nat.succ_mul]
    omega
theorem ltk_le (L : List ByteArray) (k : Nat) (hs : ∀ x ∈ L, x.size ≤ 300) (hk : k ≤ 200) : (ltk L k).length ≤ 60401 := by
  unfold ltk
  rw [List.length_cons]
  have h := flat_le (L.take k) 300 (fun x hx => hs x (List.mem_of_mem_take hx))
  have h2 : (L.take k).length ≤ 200 := by have := List.length_take_le k L; omega
  have h3 : (L.take k).length * (2 + 300) ≤ 200 * 302 := Nat.mul_le_mul_right _ h2
  omega
theorem srcB_two {w : World} {x y : Nat} {z1 z2 : Int} {B t : Nat} (hB : B = w.heap.size) (h1 : z1 = (x : Int)) (h2 : z2 = (y : Int)) : Src (w.alloc (.cells #[.int .u8 z1, .int .u8 z2] t)) (some ⟨B, 0, none⟩) (cellsB [x, y]) := by
  subst hB h1 h2
  refine .inr ⟨_, 0, rfl, fun j hj => ?_⟩
  have hb := Box.new (w := w) (B := w.heap.size) (vs := #[.int .u8 (x : Int), .int .u8 (y : Int)]) (t := t) rfl
  have hj' : j < 2 := hj
  rw [Nat.zero_add]
  match j, hj' with
  | 0, _ => exact (hb 0 _ rfl).1
  | 1, _ => exact (hb 1 _ rfl).1
theorem own_lit {w : World} {base : Nat} (cur : Array Value) (n s e : Nat) (hb : base ≤ w.heap.size) (hn : n ≤ maxLen) (hs : cur.size = n * s) : (w.alloc (.cells cur e)).ownsRow base e s (.slice (some ⟨w.heap.size, 0, none⟩) n n) n cur.toList :=
  ⟨by simp [hs], .inr ⟨w.heap.size, n, cur, rfl, hb, heap_alloc_new w _, Nat.le_refl _, hn, hs, by rw [List.take_of_length_le (by simp [hs])]⟩⟩
theorem own_oneB {w : World} {x : Nat} {z : Int} {B base : Nat} (hB : B = w.heap.size) (hz : z = (x : Int)) (hb : base ≤ w.heap.size) : (w.alloc (.cells #[.int .u8 z] 5)).ownsRow base 5 1 (.slice (some ⟨B, 0, none⟩) 1 1) 1 (cellsB [x]) := by
  subst hB hz
  exact own_lit #[.int .u8 (x : Int)] 1 1 5 hb (by unfold maxLen; omega) rfl
theorem infoB2 : ∃ i, Tryz.prog.info? 5 = some i ∧ i.zero = some (.int .u8 0) ∧ i.size = 1 ∧ i.bytes = 1 := by
  obtain ⟨i, hi, hz⟩ := Option.map_eq_some_iff.1 infoB
  simp only [Prod.mk.injEq] at hz
  exact ⟨i, hi, hz.1, hz.2.1, hz.2.2⟩
/-- What FieldsBytes answers. -/
def fdsA (L : List ByteArray) : List Nat × Int := if 4096 < L.length then ([], 2) else if 200 < L.length then ([], 6) else if (∃ x ∈ L, 300 < x.size) then ([], 4) else (fieldsB L, 0)

set_option maxHeartbeats 1000000 in
theorem implFieldsBytes (a : Option Addr) (n c : Nat) (L : List ByteArray) (w : World) (hL : L.length = n) (hn : n ≤ 1048576) (hs : ∀ x ∈ L, x.size ≤ 1048576) (h : Src w a (cellsS L)) :
    Calls Tryz.prog 123 #[.slice a n c] w fun e w' => ∃ v R q, e = .returned (.tuple #[v, .int .i64 q]) ∧ fdsA L = (R, q) ∧ w'.ownsRow w.heap.size 5 1 v R.length (cellsB R) ∧ Below w.heap.size w w' := by
  have HS : Hid (∀ i, i < n → (L.getD i e0).size ≤ 1048576) := fun i hi => hs _ (by
    rw [List.getD_eq_getElem?_getD, List.getElem?_eq_getElem (by omega)]; exact List.getElem_mem _)
  have HH : Hid (Src w a (cellsS L)) := h
  have HL : Hid (L.length = n) := hL
  clear h hL hs
  by_cases t1 : (4096 : Int) < (n : Int)
  · have F : Hid (fdsA L = ([], 2)) := by show fdsA L = _; unfold fdsA; rw [if_pos (by rw [HL.out]; omega)]
    go_enter Tryz.func123, Tryz.ntmps123
    go_wp2_with fail
    go_ret2
    exact ⟨_, _, _, rfl, F.out, World.ownsRow_nil _ _ _ _, Below.refl _ _⟩
  by_cases t2 : (200 : Int) < (n : Int)
  · have F : Hid (fdsA L = ([], 6)) := by show fdsA L = _; unfold fdsA; rw [if_neg (by rw [HL.out]; omega), if_pos (by rw [HL.out]; omega)]
    go_enter Tryz.func123, Tryz.ntmps123
    go_wp2_with fail
    go_ret2
    exact ⟨_, _, _, rfl, F.out, World.ownsRow_nil _ _ _ _, Below.refl _ _⟩
  have T1 : Hid (¬ 4096 < L.length) := by show ¬ 4096 < L.length; rw [HL.out]; omega
  have T2 : Hid (¬ 200 < L.length) := by show ¬ 200 < L.length; rw [HL.out]; omega
  go_enter Tryz.func123, Tryz.ntmps123
  go_wp2_with fail
  go_loopw [17] (fun i wr => ∃ k : Nat, k ≤ n ∧ i = .int .i64 k ∧ Hid (∀ i, i < k → (L.getD i e0).size ≤ 300) ∧ Hid (Below w.heap.size w wr)) (fun i _ => n - (RowKit.intOf i).toNat)
  case atStart => exact ⟨0, by omega, rfl, fun i hi => absurd hi (by omega), Below.refl _ _⟩
  case round =>
    obtain ⟨k, hk, rfl, hall, hb⟩ := hrel
    by_cases hlt : k < n
    · obtain ⟨b, o, y, rfl, hc, hy⟩ := srcS (HH.out.below hb.out) (i := k) (by rw [HL.out]; exact hlt)
      have hsz : y.size ≤ 1048576 := by rw [← hy.out]; exact HS.out k hlt
      by_cases hbig : (300 : Int) < (y.size : Int)
      · have F : Hid (fdsA L = ([], 4)) := by
          show fdsA L = _
          unfold fdsA
          rw [if_neg T1.out, if_neg T2.out, if_pos]
          refine ⟨L.getD k e0, ?_, by rw [hy.out]; omega⟩
          rw [List.getD_eq_getElem?_getD, List.getElem?_eq_getElem (by rw [HL.out]; exact hlt)]; exact List.getElem_mem _
        go_wp2_with fail
        go_ret2
        exact ⟨_, _, _, rfl, F.out, World.ownsRow_nil _ _ _ _, hb.out⟩
      · have hall2 : Hid (∀ i, i < k + 1 → (L.getD i e0).size ≤ 300) := fun i hi => by
          by_cases e : i = k
          · rw [e, hy.out]; omega
          · exact hall.out i (by omega)
        go_wp2_with fail
        exact ⟨⟨k + 1, by omega, by go_num, hall2, hb.out⟩, by simp [RowKit.intOf]; omega⟩
    · have hkn : k = n := by omega
      have HA : Hid (∀ x ∈ L, x.size ≤ 300) := fun y hy => by
        obtain ⟨i, hi, rfl⟩ := List.getElem_of_mem hy
        have := hall.out i (by rw [hkn, ← HL.out]; exact hi)
        rw [List.getD_eq_getElem?_getD, List.getElem?_eq_getElem hi] at this
        exact this
      have F : Hid (fdsA L = (fieldsB L, 0)) := by
        show fdsA L = _
        unfold fdsA
        rw [if_neg T1.out, if_neg T2.out, if_neg]
        rintro ⟨x, hx, h3⟩
        have := HA.out x hx
        omega
      clear hkn hall
      go_wp2_with fail
      go_loopw [6, 31] (fun bv i wr => ∃ (k m : Nat) (u : Value), u = bv ∧ k ≤ n ∧ i = .int .i64 k ∧ m ≤ 60401 ∧ Hid (m = (ltk L k).length) ∧ Hid (Below w.heap.size w wr) ∧ Hid (wr.ownsRow w.heap.size 5 1 u m (cellsB (ltk L k)))) (fun _ i _ => n - (RowKit.intOf i).toNat)
      case atStart => exact ⟨0, 1, _, rfl, by omega, rfl, by omega, rfl, hb.out.alloc hb.out.size _, own_congr (own_oneB rfl (x := n % 256) (by first | rfl | (simp; done) | omega) hb.out.size) (by unfold ltk; rw [HL.out]; rfl)⟩
      case round =>
        obtain ⟨k, m, u, hu, hk, rfl, hm, HM, hB, HW⟩ := hrel
        subst hu
        by_cases hlt : k < n
        · obtain ⟨b, o, y, rfl, hc, hy⟩ := srcS (HH.out.below hB.out) (i := k) (by rw [HL.out]; exact hlt)
          have hsz : y.size ≤ 300 := by
            rw [← hy.out]
            refine HA.out _ ?_
            rw [List.getD_eq_getElem?_getD, List.getElem?_eq_getElem (by rw [HL.out]; exact hlt)]; exact List.getElem_mem _
          have hlt3 : Hid (∀ g, Value.ownBlock u = some g → w.heap.size ≤ g ∧ g < wr.heap.size) := fun g e => HW.out.lt g e
          have XR : Hid (w.heap.size ≤ wr.heap.size) := hB.out.size
          have HX : Hid (ltk L (k + 1) = ltk L k ++ (numB y.size ++ bytesOf y)) := ltk_snoc L k y (by rw [HL.out]; exact hlt) hy.out
          go_wp2_with (at_builtin; refine wpList_append_src _ rfl _ _ 55 rfl w.heap.size 5 (.int .u8 0) 1 1 Tryz.underlying55 infoB rfl (by decide) (by decide) _ m (cellsB (ltk L k)) rfl (HW.out.alloc _) (some ⟨wr.heap.size, 0, none⟩) 2 2 (cellsB (numB y.size)) rfl rfl (srcB_two rfl (by first | rfl | (simp; omega) | omega) (by first | rfl | (simp; done) | omega)) (cellsB_one _) (by omega) (le_alloc XR.out _) ?_)
          intro v2 w2 hown2 hgrow2
          have B2 : Hid (Below w.heap.size w w2) := (hB.out.alloc hB.out.size _).grown hgrow2 (le_alloc hB.out.size _) (fun g e => (hlt3.out g e).1)
          have O2 : Hid (w2.ownsRow w.heap.size 5 1 v2 (m + 2) (cellsB (ltk L k) ++ cellsB (numB y.size))) := hown2
          have hlt4 : Hid (∀ g, Value.ownBlock v2 = some g → w.heap.size ≤ g ∧ g < w2.heap.size) := fun g e => O2.out.lt g e
          clear hown2 hgrow2
          obtain ⟨i0, hi0, hz0, hz1, hz2⟩ := infoB2
          have HI : Hid (Tryz.prog.info? 5 = some i0 ∧ i0.zero = some (.int .u8 0) ∧ i0.size = 1 ∧ i0.bytes = 1) := ⟨hi0, hz0, hz1, hz2⟩
          clear hi0 hz0 hz1 hz2
          go_wp2_with (at_builtin; refine Lib.wpList_append_own_string _ rfl _ _ 55 9 rfl w.heap.size 5 i0 Tryz.underlying55 Tryz.underlying9 HI.out.1 HI.out.2.1 HI.out.2.2.1 HI.out.2.2.2 v2 (m + 2) _ rfl O2.out y rfl (by unfold maxLen; omega) (by omega) B2.out.size ?_)
          intro v3 w3 hown3 hgrow3 _
          have B3 : Hid (Below w.heap.size w w3) := B2.out.grown hgrow3 B2.out.size (fun g e => (hlt4.out g e).1)
          have O3 : Hid (w3.ownsRow w.heap.size 5 1 v3 (m + 2 + y.size) (cellsB (ltk L (k + 1)))) := own_congr hown3 (by rw [HX.out, strCells_bytes, cellsB_append, cellsB_append])
          have HM3 : Hid (m + 2 + y.size = (ltk L (k + 1)).length) := by
            show _ = _
            rw [HX.out, List.length_append, List.length_append, bytesOf_length, HM.out]; simp [numB]; omega
          have HM4 : m + 2 + y.size ≤ 60401 := by rw [HM3.out]; exact ltk_le L (k + 1) HA.out (by omega)
          clear hown3 hgrow3
          go_wp2_with fail
          exact ⟨⟨k + 1, m + 2 + y.size, _, rfl, by omega, by go_num, HM4, HM3, B3.out, O3.out⟩, by simp [RowKit.intOf]; omega⟩
        · have hkn : k = n := by omega
          have HF : Hid (ltk L k = fieldsB L) := by show _ = _; rw [hkn, ← HL.out, ltk_all]
          have HO : Hid (wr.ownsRow w.heap.size 5 1 u (fieldsB L).length (cellsB (fieldsB L))) := by
            have := HW.out
            rw [HM.out, HF.out] at this
            exact this
          clear hkn
          go_wp2_with fail
          go_ret2
          exact ⟨_, _, _, rfl, F.out, HO.out, hB.out⟩
theorem step_append_string {P : Program} {ops : Array Oper} {o : Oper} {a : Act} {w : World} {K : Act → World → Prop} {Q : Exit → Act → World → Prop} {E : Prop}
    (hg : o.guard = none) (sl x : Operand) (t u : TypeId) (ho : o.op = .call { callee := .builtin .append, args := #[sl, x], argTypes := #[t, u] })
    (base : Nat) (e : TypeId) (i : TypeInfo) (ht : P.underlying t = some (.slice e)) (hu : P.underlying u = some .string) (hi : P.info? e = some i) (hz : i.zero = some (.int .u8 0)) (hsize : i.size = 1) (hby : i.bytes = 1)
    (v : Value) (n : Nat) (xs : List Value) (hs : a.eval sl = v) (hown : w.ownsRow base e 1 v n xs) (s : ByteArray) (hx : a.eval x = .string s)
    (h63 : n + s.size ≤ maxLen) (hbytes : n + s.size ≤ 140737488355328) (hbase : base ≤ w.heap.size)
    (h : ∀ v' w', w'.ownsRow base e 1 v' (n + s.size) (xs ++ Lib.strCells s) → w.grownBy w' v.ownBlock → K (a.put o.dst v') w') :
    if Region.wanted o (yielded ops a.tmps) = true then Oper.wp P o a w K Q else E := by
  have hw : Region.wanted o (yielded ops a.tmps) = true := by simp [Region.wanted, hg]
  rw [if_pos hw]
  obtain ⟨v', w', hr, h2, h3, h4⟩ := Lib.run_append_own_string (P := P) w base t u o.type e i ht hu hi hz hsize hby v n xs hown s h63 hbytes hbase
  unfold Oper.wp execOp
  simp only [ho, resolve, invoke, builtin, Sem.run_bind, Sem.run_pure, Result.andThen_ok, List.map_toArray, List.map_cons, List.map_nil, hs, hx, hr]
  exact h v' w' h2 h3

theorem src_some {w : World} {a : Option Addr} {x y : Nat} {L : List Nat} (h : Src w a (cellsB (x :: y :: L))) : ∃ b o, a = some ⟨b, o, none⟩ := by
  rcases h with h | ⟨b, o, rfl, _⟩
  · cases h
  · exact ⟨b, o, rfl⟩

set_option maxHeartbeats 2000000 in
theorem l01Fields (a : Option Addr) (n c : Nat) (L : List ByteArray) (w : World) (hL : L.length = n) (hn : n ≤ 200) (hs : ∀ x ∈ L, x.size ≤ 300) (h : Src w a (cellsS L)) :
    Calls Tryz.prog 81 #[.slice a n c] w fun e w' => ∃ v, e = .returned v ∧ w'.ownsRow w.heap.size 5 1 v (fieldsB L).length (cellsB (fieldsB L)) ∧ Below w.heap.size w w' := by
  have HA : Hid (∀ x ∈ L, x.size ≤ 300) := hs
  have HH : Hid (Src w a (cellsS L)) := h
  have HL : Hid (L.length = n) := hL
  obtain ⟨i0, hi0, hz0, hz1, hz2⟩ := infoB2
  have HI : Hid (Tryz.prog.info? 5 = some i0 ∧ i0.zero = some (.int .u8 0) ∧ i0.size = 1 ∧ i0.bytes = 1) := ⟨hi0, hz0, hz1, hz2⟩
  clear h hL hs hi0 hz0 hz1 hz2
  go_enter Tryz.func81, Tryz.ntmps81
  go_wp2_with fail
  go_loopw [3, 4] (fun bv i wr => ∃ (k m : Nat) (u : Value), u = bv ∧ k ≤ n ∧ i = .int .i64 k ∧ m ≤ 60401 ∧ Hid (m = (ltk L k).length) ∧ Hid (Below w.heap.size w wr) ∧ Hid (wr.ownsRow w.heap.size 5 1 u m (cellsB (ltk L k)))) (fun _ i _ => n - (RowKit.intOf i).toNat)
  case atStart => exact ⟨0, 1, _, rfl, by omega, rfl, by omega, rfl, (Below.refl _ _).alloc (Nat.le_refl _) _, own_congr (own_oneB rfl (x := n % 256) (by first | rfl | (simp; done) | omega) (Nat.le_refl _)) (by unfold ltk; rw [HL.out]; rfl)⟩
  case round =>
    obtain ⟨k, m, u, hu, hk, rfl, hm, HM, hB, HW⟩ := hrel
    subst hu
    by_cases hlt : k < n
    · obtain ⟨b, o, y, rfl, hc, hy⟩ := srcS (HH.out.below hB.out) (i := k) (by rw [HL.out]; exact hlt)
      have hsz : y.size ≤ 300 := by
        rw [← hy.out]
        refine HA.out _ ?_
        rw [List.getD_eq_getElem?_getD, List.getElem?_eq_getElem (by rw [HL.out]; exact hlt)]; exact List.getElem_mem _
      have hlt3 : Hid (∀ g, Value.ownBlock u = some g → w.heap.size ≤ g ∧ g < wr.heap.size) := fun g e => HW.out.lt g e
      have XR : Hid (w.heap.size ≤ wr.heap.size) := hB.out.size
      have HX : Hid (ltk L (k + 1) = ltk L k ++ (numB y.size ++ bytesOf y)) := ltk_snoc L k y (by rw [HL.out]; exact hlt) hy.out
      have HM3 : Hid (m + 2 + y.size = (ltk L (k + 1)).length) := by
        show _ = _
        rw [HX.out, List.length_append, List.length_append, bytesOf_length, HM.out]; simp [numB]; omega
      have HM4 : Hid (m + 2 + y.size ≤ 60401) := by show m + 2 + y.size ≤ 60401; rw [HM3.out]; exact ltk_le L (k + 1) HA.out (by omega)
      have HN : Hid (Value.ownBlock u ≠ some b) := fun e => by
        have h1 := (hlt3.out b e).1
        obtain ⟨b', o', y', e', hc', _⟩ := srcS HH.out (i := k) (by rw [HL.out]; exact hlt)
        cases e'
        have h2 := World.block_lt_of_cell? _ _ hc'
        dsimp only at h2
        omega
      have hk0 : (0 : Int) ≤ (k : Int) := by omega
      have hkn : (k : Int) < (n : Int) := by omega
      go_wp2_with fail
      go_region_law (first
        | (refine step_append_string rfl (.tmp 22) (.tmp 26) 55 9 rfl w.heap.size 5 i0 Tryz.underlying55 Tryz.underlying9 HI.out.1 HI.out.2.1 HI.out.2.2.1 HI.out.2.2.2 v2 (m + 2) (cellsB (ltk L k) ++ cellsB (numB y.size)) (by simp [Act.eval]) O2.out y (by simp [Act.eval]) (by unfold maxLen; have := HM4.out; omega) (by have := HM4.out; omega) B2.out.size ?_; intro v3 w3 hown3 hgrow3; have B3 : Hid (Below w.heap.size w w3) := B2.out.grown hgrow3 B2.out.size (fun g e => (O2.out.lt g e).1); have O3 : Hid (w3.ownsRow w.heap.size 5 1 v3 (m + 2 + y.size) (cellsB (ltk L (k + 1)))) := own_congr hown3 (by rw [HX.out, strCells_bytes, cellsB_append, cellsB_append, List.append_assoc]); clear hown3 hgrow3)
        | (refine step_append_src rfl (.tmp 15) (.tmp 21) 55 rfl w.heap.size 5 (.int .u8 0) 1 1 Tryz.underlying55 infoB rfl (by decide) (by decide) u m (cellsB (ltk L k)) (by simp [Act.eval]) O1.out ⟨b1, o1, none⟩ 2 c1 (cellsB (numB y.size)) (by simp [Act.eval]) rfl S1.out (cellsB_one _) (by omega) (by omega) B1.out.size ?_; intro v2 w2 hown2 hgrow2 _; have B2 : Hid (Below w.heap.size w w2) := B1.out.grown hgrow2 B1.out.size (fun g e => (hlt3.out g e).1); have O2 : Hid (w2.ownsRow w.heap.size 5 1 v2 (m + 2) (cellsB (ltk L k) ++ cellsB (numB y.size))) := hown2; have hc2 : w2.cell? ⟨b, o + k, none⟩ = some (.string y) := (World.cell?_of_block (a := ⟨b, o + k, none⟩) (hgrow2.block b (World.block_lt_of_cell? _ _ hc1) (fun e => HN.out e.symm))).trans hc1; clear hown2 hgrow2)
        | (refine step_call rfl 80 _ Tryz.func80 (by kernel_rfl) (by kernel_rfl) #[.tmp 20, .const (.int .i64 2)] #[3, 3] rfl #[.int .i64 (y.size : Int), .int .i64 2] (by simp [Act.eval, Act.put]) _ (l01Number2 y.size _ (by omega)) ?_; rintro e w1 ⟨v1, rfl, hv1, hb1⟩; refine ⟨v1, rfl, ?_⟩; obtain ⟨ao, c1, rfl, s1, _⟩ := own_src hv1; obtain ⟨b1, o1, rfl⟩ := src_some s1; have S1 : Hid (Src w1 (some ⟨b1, o1, none⟩) (cellsB (numB y.size))) := s1; have B1 : Hid (Below w.heap.size w w1) := hB.out.drew.trans (hb1.mono hB.out.size); have O1 : Hid (w1.ownsRow w.heap.size 5 1 u m (cellsB (ltk L k))) := own_below (w := wr.drew) HW.out hb1; have hc1 : w1.cell? ⟨b, o + k, none⟩ = some (.string y) := (hb1.cell (p := ⟨b, o + k, none⟩) (World.block_lt_of_cell? _ _ hc)).trans hc; clear hv1 hb1 s1))
      all_goals go_wp2_with fail
      all_goals exact ⟨⟨k + 1, m + 2 + y.size, _, rfl, by omega, by go_num, HM4.out, HM3, B3.out, O3.out⟩, by simp [RowKit.intOf]; omega⟩
    · have hkn : k = n := by omega
      have HF : Hid (ltk L k = fieldsB L) := by show _ = _; rw [hkn, ← HL.out, ltk_all]
      have HO : Hid (wr.ownsRow w.heap.size 5 1 u (fieldsB L).length (cellsB (fieldsB L))) := by
        have := HW.out
        rw [HM.out, HF.out] at this
        exact this
      clear hkn
      go_wp2_with fail
      go_ret
      exact ⟨_, rfl, HO.out, hB.out⟩

end Go.Proofs.YtmbndpgoihdpnaaGreatDoor
namespace Go.Proofs.YtmbndpgoihdpnaaGreatDoor
open Go.ChangeShapes Go.WideShapes Go.ChangeAt Go.RowKit Go.Deep
set_option linter.unusedVariables false
set_option linter.unusedSimpArgs false
set_option maxRecDepth 100000

/-- The fields of pairs, one behind the other. -/
def fsP (L : List PM) : List Nat := L.flatMap fun p => fieldsB [p.1, p.2]
theorem fsP_snoc {L : List PM} {k : Nat} {x y : ByteArray} (hk : k < L.length) (h : L.getD k p0 = (x, y)) : fsP (L.take (k + 1)) = fsP (L.take k) ++ fieldsB [x, y] := by
  rw [List.getD_eq_getElem?_getD, List.getElem?_eq_getElem hk] at h
  have h2 : L[k] = (x, y) := h
  rw [List.take_succ_eq_append_getElem hk, h2]
  simp [fsP]
theorem two_len (x y : ByteArray) : (fieldsB [x, y]).length = 5 + x.size + y.size := by
  unfold fieldsB
  simp [fieldB_length]; omega
theorem fsP_len (L : List PM) (k : Nat) (hs : ∀ p ∈ L, p.1.size ≤ 90 ∧ p.2.size ≤ 90) : (fsP (L.take k)).length ≤ k * 185 := by
  induction k with
  | zero => simp [fsP]
  | succ k ih =>
    by_cases hk : k < L.length
    · rw [fsP_snoc (x := (L.getD k p0).1) (y := (L.getD k p0).2) hk rfl, List.length_append, two_len]
      have h9 := hs _ (mem_getD L p0 k hk)
      omega
    · rw [List.take_of_length_le (by omega)] at ih ⊢
      omega
theorem fieldsB_ltP (L : List ByteArray) : ∀ x ∈ fieldsB L, x < 256 := by
  intro x hx
  unfold fieldsB at hx
  rw [List.mem_cons] at hx
  rcases hx with rfl | hx
  · omega
  · rw [List.mem_flatMap] at hx
    obtain ⟨s, _, hs⟩ := hx
    unfold fieldB numB bytesOf at hs
    simp at hs
    rcases hs with rfl | rfl | ⟨b, _, rfl⟩
    · omega
    · omega
    · exact b.toNat_lt
theorem fsP_lt (L : List PM) : ∀ x ∈ fsP L, x < 256 := by
  intro x hx
  unfold fsP at hx
  rw [List.mem_flatMap] at hx
  obtain ⟨p, _, h⟩ := hx
  exact fieldsB_ltP _ x h
theorem src_2S {w : World} {s t : ByteArray} {B ty : Nat} (hB : B = w.heap.size) : Src (w.alloc (.cells #[.string s, .string t] ty)) (some ⟨B, 0, none⟩) (cellsS [s, t]) := by
  have hb : Box (w.alloc (.cells #[.string s, .string t] ty)) B [.string s, .string t] := Box.new hB
  refine .inr ⟨B, 0, rfl, fun j hj => ?_⟩
  have hj4 : j < 2 := hj
  rw [Nat.zero_add]
  match j, hj4 with
  | 0, _ => exact (hb 0 _ rfl).1
  | 1, _ => exact (hb 1 _ rfl).1
theorem pairsB_fit {M : List PM} (h : pairsB (fK M) (fV M) M.length = true) : M.length ≤ 60 ∧ ∀ p ∈ M, p.1.size ≤ 90 ∧ p.2.size ≤ 90 := by
  unfold pairsB at h
  rw [Bool.and_eq_true, decide_eq_true_eq, List.all_eq_true] at h
  refine ⟨h.1, fun p hp => ?_⟩
  obtain ⟨i, hi, rfl⟩ := List.getElem_of_mem hp
  have h2 := h.2 i (List.mem_range.2 hi)
  unfold goodB fitB keyB at h2
  simp only [Bool.and_eq_true, decide_eq_true_eq, fK, fV, List.getD_eq_getElem?_getD, List.getElem?_eq_getElem hi, Option.getD_some] at h2
  omega
/-- What PairsSum answers. -/
def psA (M : List PM) : Nat × Int := if 4096 < M.length then (0, 2) else if pairsB (fK M) (fV M) M.length = false then (0, 1) else (sumL (fsP M), 0)

theorem fieldsOf (a : Option Addr) (n c : Nat) (L : List ByteArray) (w : World) (hL : L.length = n) (hn : n ≤ 200) (hs : ∀ x ∈ L, x.size ≤ 300) (h : Src w a (cellsS L)) :
    Calls Tryz.prog 93 #[.slice a n c] w fun e w' => ∃ v, e = .returned v ∧ w'.ownsRow w.heap.size 5 1 v (fieldsB L).length (cellsB (fieldsB L)) ∧ Below w.heap.size w w' := by
  have E : Hid (fdsA L = (fieldsB L, 0)) := by
    show _ = _
    unfold fdsA
    rw [if_neg (by omega), if_neg (by omega), if_neg (by rintro ⟨x, hx, h9⟩; have := hs x hx; omega)]
  have HS : Hid (∀ x ∈ L, x.size ≤ 1048576) := fun x hx => by have := hs x hx; omega
  have HH : Hid (Src w a (cellsS L)) := h
  have HL : Hid (L.length = n) := hL
  clear hs h hL
  go_enter Tryz.func93, Tryz.ntmps93
  go_wp2_with fail
  refine (implFieldsBytes a n c L _ HL.out (by omega) HS.out HH.out).mono ?_
  rintro e w1 ⟨v, R, q, rfl, heq, own, hb⟩
  obtain ⟨rfl, rfl⟩ : fieldsB L = R ∧ 0 = q := by have h2 := E.out.symm.trans heq; simpa using h2
  obtain ⟨g, k, rfl, _, _⟩ := own_src own
  have O1 : Hid (w1.ownsRow w.heap.size 5 1 (.slice g (fieldsB L).length k) (fieldsB L).length (cellsB (fieldsB L))) := own
  have B1 : Hid (Below w.heap.size w w1) := hb
  obtain ⟨m, hm⟩ : ∃ m, (fieldsB L).length = m := ⟨_, rfl⟩
  rw [hm] at O1 ⊢
  have HM9 : Hid ((fieldsB L).length = m) := hm
  clear own hb heq hm
  go_wp2_with fail
  go_ret
  exact ⟨.slice g m k, rfl, by first | exact O1.out | (rw [HM9.out]; exact O1.out), B1.out⟩

set_option maxHeartbeats 1000000 in
theorem sumOf (a : Option Addr) (n c : Nat) (M : List PM) (w : World) (hM : M.length = n) (hn : n ≤ 60) (hs : ∀ p ∈ M, p.1.size ≤ 90 ∧ p.2.size ≤ 90) (h : Src w a (cellsP M)) (hH : HasHalf w) :
    Calls Tryz.prog 59 #[.slice a n c] w fun e w' => e = .returned (.int .i64 ((sumL (fsP M) : Nat) : Int)) ∧ Below w.heap.size w w' := by
  obtain ⟨s, hs9⟩ : ∃ s, sumL (fsP M) = s := ⟨_, rfl⟩
  have HSM : Hid (sumL (fsP M) = s) := hs9
  rw [hs9]
  have HS : Hid (∀ p ∈ M, p.1.size ≤ 90 ∧ p.2.size ≤ 90) := hs
  have HH : Hid (Src w a (cellsP M)) := h
  have HM : Hid (M.length = n) := hM
  have HT : Hid (HasHalf w) := hH
  clear hs h hM hs9 hH
  go_enter Tryz.func59, Tryz.ntmps59
  go_wp2_with fail
  go_loopw [3, 8] (fun v i wr => ∃ (k : Nat), k ≤ n ∧ i = .int .i64 k ∧ Hid (Below w.heap.size w wr) ∧ Hid (wr.ownsRow w.heap.size 5 1 v (fsP (M.take k)).length (cellsB (fsP (M.take k))))) (fun _ i _ => n - (intOf i).toNat)
  case atStart => exact ⟨0, by omega, rfl, Below.refl _ _, World.ownsRow_nil _ _ _ _⟩
  case round =>
    obtain ⟨k, hk, rfl, hb, ho⟩ := hrel
    obtain ⟨va, vc, rfl, _, _⟩ := own_src ho.out
    obtain ⟨m, hm⟩ : ∃ m, (fsP (M.take k)).length = m := ⟨_, rfl⟩
    have hm2 : m ≤ 11100 := by rw [← hm]; exact Nat.le_trans (fsP_len M k HS.out) (by omega)
    have HO : Hid (wr.ownsRow w.heap.size 5 1 (.slice va m vc) m (cellsB (fsP (M.take k)))) := by rw [← hm]; exact ho.out
    rw [hm]
    have MM : Hid ((fsP (M.take k)).length = m) := hm
    clear ho hm
    by_cases hlt : k < n
    · obtain ⟨b, o, x, y, rfl, q1, q2, hy⟩ := srcP (HH.out.below hb.out) (i := k) (by rw [HM.out]; exact hlt)
      have hki : (k : Int) < (n : Int) := by omega
      have hk0 : (0 : Int) ≤ (k : Int) := by omega
      have XY : Hid (x.size ≤ 90 ∧ y.size ≤ 90) := by
        have h1 := HS.out _ (mem_getD M p0 k (by rw [HM.out]; exact hlt))
        rw [hy.out] at h1
        exact h1
      have SN : Hid (fsP (M.take (k + 1)) = fsP (M.take k) ++ fieldsB [x, y]) := fsP_snoc (by rw [HM.out]; exact hlt) hy.out
      have FL : Hid (∀ z ∈ [x, y], z.size ≤ 300) := fun z hz => by
        have h9 := XY.out
        simp at hz
        rcases hz with rfl | rfl <;> omega
      obtain ⟨q, hq⟩ : ∃ q, (fieldsB [x, y]).length = q := ⟨_, rfl⟩
      have Q : Hid ((fieldsB [x, y]).length = q) := hq
      have hq2 : q ≤ 185 ∧ 0 < q := by rw [← hq, two_len]; have := XY.out; omega
      clear hq
      have AA : Hid (Below w.heap.size w ((wr.alloc (.cells #[.string x, .string y] 70)).alloc (.cells #[.string x, .string y] 9))) := (hb.out.alloc hb.out.size _).alloc (by have := hb.out.size; simp; omega) _
      have OA : Hid (((wr.alloc (.cells #[.string x, .string y] 70)).alloc (.cells #[.string x, .string y] 9)).ownsRow w.heap.size 5 1 (.slice va m vc) m (cellsB (fsP (M.take k)))) := World.ownsRow.alloc (World.ownsRow.alloc HO.out _) _
      go_wp2_with fail
      go_at_call 93
      refine (fieldsOf (some ⟨wr.heap.size + 1, 0, none⟩) 2 2 [x, y] _ rfl (by omega) FL.out (src_2S (by simp))).mono ?_
      rintro e w2 ⟨v2, rfl, o2, hb2⟩
      have B2 : Hid (Below w.heap.size w w2) := AA.out.trans (hb2.mono AA.out.size)
      have O2 : Hid (w2.ownsRow w.heap.size 5 1 (.slice va m vc) m (cellsB (fsP (M.take k)))) := own_below OA.out hb2
      rw [Q.out] at o2
      obtain ⟨a2, c2, rfl, s2, _⟩ := own_src o2
      have S2 : Hid (Src w2 a2 (cellsB (fieldsB [x, y]))) := s2
      have hlt3 : Hid (∀ g, Value.ownBlock (.slice va m vc) = some g → w.heap.size ≤ g) := fun g e => (O2.out.lt g e).1
      clear o2 hb2 s2 AA OA q1 q2
      go_wp2_with (at_builtin; refine wpList_append_src _ rfl _ _ 55 rfl w.heap.size 5 (.int .u8 0) 1 1 Tryz.underlying55 infoB rfl (by decide) (by decide) _ m (cellsB (fsP (M.take k))) rfl O2.out a2 q c2 (cellsB (fieldsB [x, y])) rfl (by rw [cellsB_length, Q.out]; omega) S2.out (cellsB_one _) (by omega) B2.out.size ?_)
      intro v3 w3 hown3 hgrow3
      have O3 : Hid (w3.ownsRow w.heap.size 5 1 v3 (fsP (M.take (k + 1))).length (cellsB (fsP (M.take (k + 1))))) := by rw [SN.out, cellsB_append, List.length_append, MM.out, Q.out]; exact hown3
      have B3 : Hid (Below w.heap.size w w3) := B2.out.grown hgrow3 B2.out.size hlt3.out
      clear hown3 hgrow3
      go_wp2_with fail
      exact ⟨⟨k + 1, by omega, by go_num, B3.out, O3.out⟩, by simp [intOf]; omega⟩
    · have hkn : k = n := by omega
      have FE : Hid (fsP (M.take k) = fsP M) := by show _ = _; rw [hkn, ← HM.out, List.take_length]
      have FM : Hid ((fsP M).length = m) := by show _ = _; rw [← FE.out]; exact MM.out
      obtain ⟨a9, c9, e9, s9, _⟩ := own_src HO.out
      cases e9
      have S9 : Hid (Src wr va (cellsB (fsP M))) := by rw [← FE.out]; exact s9
      clear hkn s9
      go_wp2_with fail
      go_at_call 94
      refine (check32L va m vc (fsP M) _ FM.out (by omega) (fsP_lt M) S9.out (HT.out.below hb.out)).mono ?_
      rw [HSM.out]
      rintro e w9 ⟨rfl, hb9⟩
      have B9 : Hid (Below w.heap.size w w9) := by rw [← hb9]; exact hb.out
      clear hb9
      go_wp2_with fail
      go_ret
      exact ⟨rfl, B9.out⟩

set_option maxHeartbeats 1000000 in
theorem l06Sum (a : Option Addr) (n c : Nat) (M : List PM) (w : World) (hM : M.length = n) (hn : n ≤ 60) (hs : ∀ p ∈ M, p.1.size ≤ 90 ∧ p.2.size ≤ 90) (h : Src w a (cellsP M)) :
    Calls Tryz.prog 71 #[.slice a n c] w fun e w' => e = .returned (.int .i64 ((sumL (fsP M) : Nat) : Int)) ∧ Below w.heap.size w w' := by
  obtain ⟨s, hs9⟩ : ∃ s, sumL (fsP M) = s := ⟨_, rfl⟩
  have HSM : Hid (sumL (fsP M) = s) := hs9
  rw [hs9]
  have HS : Hid (∀ p ∈ M, p.1.size ≤ 90 ∧ p.2.size ≤ 90) := hs
  have HH : Hid (Src w a (cellsP M)) := h
  have HM : Hid (M.length = n) := hM
  clear hs h hM hs9
  go_enter Tryz.func71, Tryz.ntmps71
  go_wp2_with fail
  go_loopw [3, 4] (fun v i wr => ∃ (k : Nat), k ≤ n ∧ i = .int .i64 k ∧ Hid (Below w.heap.size w wr) ∧ Hid (wr.ownsRow w.heap.size 5 1 v (fsP (M.take k)).length (cellsB (fsP (M.take k))))) (fun _ i _ => n - (intOf i).toNat)
  case atStart => exact ⟨0, by omega, rfl, (Below.refl _ _).alloc (Nat.le_refl _) _, own_empty' rfl (Nat.le_refl _)⟩
  case round =>
    obtain ⟨k, hk, rfl, hb, ho⟩ := hrel
    obtain ⟨va, vc, rfl, _, _⟩ := own_src ho.out
    obtain ⟨m, hm⟩ : ∃ m, (fsP (M.take k)).length = m := ⟨_, rfl⟩
    have hm2 : m ≤ 11100 := by rw [← hm]; exact Nat.le_trans (fsP_len M k HS.out) (by omega)
    have HO : Hid (wr.ownsRow w.heap.size 5 1 (.slice va m vc) m (cellsB (fsP (M.take k)))) := by rw [← hm]; exact ho.out
    rw [hm]
    have MM : Hid ((fsP (M.take k)).length = m) := hm
    clear ho hm
    by_cases hlt : k < n
    · obtain ⟨b, o, x, y, rfl, q1, q2, hy⟩ := srcP (HH.out.below hb.out) (i := k) (by rw [HM.out]; exact hlt)
      have hki : (k : Int) < (n : Int) := by omega
      have hk0 : (0 : Int) ≤ (k : Int) := by omega
      have XY : Hid (x.size ≤ 90 ∧ y.size ≤ 90) := by
        have h1 := HS.out _ (mem_getD M p0 k (by rw [HM.out]; exact hlt))
        rw [hy.out] at h1
        exact h1
      have SN : Hid (fsP (M.take (k + 1)) = fsP (M.take k) ++ fieldsB [x, y]) := fsP_snoc (by rw [HM.out]; exact hlt) hy.out
      have FL : Hid (∀ z ∈ [x, y], z.size ≤ 300) := fun z hz => by
        have h9 := XY.out
        simp at hz
        rcases hz with rfl | rfl <;> omega
      obtain ⟨q, hq⟩ : ∃ q, (fieldsB [x, y]).length = q := ⟨_, rfl⟩
      have Q : Hid ((fieldsB [x, y]).length = q) := hq
      have hq2 : q ≤ 185 ∧ 0 < q := by rw [← hq, two_len]; have := XY.out; omega
      clear hq
      have e0 : wr.drew.cell? ⟨b, o + k * 2, none⟩ = some (.string x) := q1
      have e1 : wr.drew.cell? ⟨b, o + k * 2 + 1, none⟩ = some (.string y) := q2
      have E9 : Hid (∀ W : World, Below w.heap.size w W → W.cell? ⟨b, o + k * 2, none⟩ = some (.string x) ∧ W.cell? ⟨b, o + k * 2 + 1, none⟩ = some (.string y)) := fun W hW => by
        obtain ⟨b9, o9, x9, y9, e9, r1, r2, hy9⟩ := srcP (HH.out.below hW) (i := k) (by rw [HM.out]; exact hlt)
        cases e9
        have h9 := hy.out.symm.trans hy9.out
        simp at h9
        rw [h9.1, h9.2]
        exact ⟨r1, r2⟩
      have AA : Hid (Below w.heap.size w (wr.drew.alloc (.cells #[.string x, .string y] 9))) := hb.out.drew.alloc hb.out.size _
      have OA : Hid ((wr.drew.alloc (.cells #[.string x, .string y] 9)).ownsRow w.heap.size 5 1 (.slice va m vc) m (cellsB (fsP (M.take k)))) := World.ownsRow.alloc (show World.ownsRow wr.drew _ _ _ _ _ _ from HO.out) _
      clear q1 q2
      go_wp2_with fail
      refine wp_region_noPanic ?_
      refine wp_region_held_drew (S := (fun w' => w'.cell? ⟨b, o + k * 2, none⟩ = some (.string x) ∧ w'.cell? ⟨b, o + k * 2 + 1, none⟩ = some (.string y))) (by kernel_rfl) ⟨e0, e1⟩ (fun hHeld => ?_)
      refine wpAnyH_take (i := 0) (v := .slice va m vc) rfl (by kernel_rfl) (by kernel_rfl) (by kernel_rfl) (fun _ _ _ h => h) (Or.inl ⟨by kernel_rfl, ?_⟩) hHeld ?_
      · intro w9 hSw
        obtain ⟨s0, s1⟩ := hSw
        go_simp
      simp only [Act.put, List.setIfInBounds_toArray, List.set_cons_zero, List.set_cons_succ]
      refine wpAnyH_take (i := 1) (v := .slice (some ⟨b, o, none⟩) n c) rfl (by kernel_rfl) (by kernel_rfl) (by kernel_rfl) (fun _ _ _ h => h) (Or.inl ⟨by kernel_rfl, ?_⟩) hHeld ?_
      · intro w9 hSw
        obtain ⟨s0, s1⟩ := hSw
        go_simp
      simp only [Act.put, List.setIfInBounds_toArray, List.set_cons_zero, List.set_cons_succ]
      refine wpAnyH_take (i := 2) (v := .int .i64 (k : Int)) rfl (by kernel_rfl) (by kernel_rfl) (by kernel_rfl) (fun _ _ _ h => h) (Or.inl ⟨by kernel_rfl, ?_⟩) hHeld ?_
      · intro w9 hSw
        obtain ⟨s0, s1⟩ := hSw
        go_simp
      simp only [Act.put, List.setIfInBounds_toArray, List.set_cons_zero, List.set_cons_succ]
      refine wpAnyH_take (i := 3) (v := .pointer (some ⟨b, o + k * 2, none⟩)) rfl (by kernel_rfl) (by kernel_rfl) (by kernel_rfl) (fun _ _ _ h => h) (Or.inl ⟨by kernel_rfl, ?_⟩) hHeld ?_
      · intro w9 hSw
        obtain ⟨s0, s1⟩ := hSw
        go_simp
      simp only [Act.put, List.setIfInBounds_toArray, List.set_cons_zero, List.set_cons_succ]
      refine wpAnyH_take (i := 4) (v := .pointer (some ⟨b, o + k * 2, none⟩)) rfl (by kernel_rfl) (by kernel_rfl) (by kernel_rfl) (fun _ _ _ h => h) (Or.inl ⟨by kernel_rfl, ?_⟩) hHeld ?_
      · intro w9 hSw
        obtain ⟨s0, s1⟩ := hSw
        go_simp
      simp only [Act.put, List.setIfInBounds_toArray, List.set_cons_zero, List.set_cons_succ]
      refine wpAnyH_take (i := 5) (v := .string x) rfl (by kernel_rfl) (by kernel_rfl) (by kernel_rfl) (fun _ _ _ h => h) (Or.inl ⟨by kernel_rfl, ?_⟩) hHeld ?_
      · intro w9 hSw
        obtain ⟨s0, s1⟩ := hSw
        go_simp
      simp only [Act.put, List.setIfInBounds_toArray, List.set_cons_zero, List.set_cons_succ]
      refine wpAnyH_take (i := 6) (v := .slice (some ⟨b, o, none⟩) n c) rfl (by kernel_rfl) (by kernel_rfl) (by kernel_rfl) (fun _ _ _ h => h) (Or.inl ⟨by kernel_rfl, ?_⟩) hHeld ?_
      · intro w9 hSw
        obtain ⟨s0, s1⟩ := hSw
        go_simp
      simp only [Act.put, List.setIfInBounds_toArray, List.set_cons_zero, List.set_cons_succ]
      refine wpAnyH_take (i := 7) (v := .int .i64 (k : Int)) rfl (by kernel_rfl) (by kernel_rfl) (by kernel_rfl) (fun _ _ _ h => h) (Or.inl ⟨by kernel_rfl, ?_⟩) hHeld ?_
      · intro w9 hSw
        obtain ⟨s0, s1⟩ := hSw
        go_simp
      simp only [Act.put, List.setIfInBounds_toArray, List.set_cons_zero, List.set_cons_succ]
      refine wpAnyH_take (i := 8) (v := .pointer (some ⟨b, o + k * 2, none⟩)) rfl (by kernel_rfl) (by kernel_rfl) (by kernel_rfl) (fun _ _ _ h => h) (Or.inl ⟨by kernel_rfl, ?_⟩) hHeld ?_
      · intro w9 hSw
        obtain ⟨s0, s1⟩ := hSw
        go_simp
      simp only [Act.put, List.setIfInBounds_toArray, List.set_cons_zero, List.set_cons_succ]
      refine wpAnyH_take (i := 9) (v := .pointer (some ⟨b, o + k * 2 + 1, none⟩)) rfl (by kernel_rfl) (by kernel_rfl) (by kernel_rfl) (fun _ _ _ h => h) (Or.inl ⟨by kernel_rfl, ?_⟩) hHeld ?_
      · intro w9 hSw
        obtain ⟨s0, s1⟩ := hSw
        go_simp
      simp only [Act.put, List.setIfInBounds_toArray, List.set_cons_zero, List.set_cons_succ]
      refine wpAnyH_take (i := 10) (v := .string y) rfl (by kernel_rfl) (by kernel_rfl) (by kernel_rfl) (fun _ _ _ h => h) (Or.inl ⟨by kernel_rfl, ?_⟩) hHeld ?_
      · intro w9 hSw
        obtain ⟨s0, s1⟩ := hSw
        go_simp
      simp only [Act.put, List.setIfInBounds_toArray, List.set_cons_zero, List.set_cons_succ]
      refine wpAnyH_ready (rs := [11]) (by kernel_rfl) (by simp) ?_
      refine AllReadyH.cons rfl (fun K hK => ?_) AllReadyH.nil
      go_simp
      clear e0 e1
      obtain ⟨e0, e1⟩ := E9.out _ AA.out
      refine hK _ _ ⟨e0, e1⟩ (fun hHeld => ?_)
      clear hK K
      refine wpAnyH_ready (rs := [12]) (by kernel_rfl) (by simp) ?_
      refine AllReadyH.cons rfl (fun K hK => ?_) AllReadyH.nil
      go_simp
      refine (l01Fields (some ⟨wr.heap.size, 0, none⟩) 2 2 [x, y] (wr.alloc (.cells #[.string x, .string y] 9)).drew rfl (by omega) FL.out (show Src (wr.alloc (.cells #[.string x, .string y] 9)) _ _ from src_2S rfl)).mono ?_
      rintro e w2 ⟨v2, rfl, o2, hb2⟩
      dsimp only
      have B2 : Hid (Below w.heap.size w w2) := AA.out.trans (hb2.mono AA.out.size)
      have O2 : Hid (w2.ownsRow w.heap.size 5 1 (.slice va m vc) m (cellsB (fsP (M.take k)))) := own_below OA.out hb2
      rw [Q.out] at o2
      obtain ⟨g2, c2, rfl, _, s2⟩ := own_some o2 (by omega)
      have S2 : Hid (Src w2 (some ⟨g2, 0, none⟩) (cellsB (fieldsB [x, y]))) := s2
      have hlt3 : Hid (∀ g, Value.ownBlock (.slice va m vc) = some g → w.heap.size ≤ g) := fun g e => (O2.out.lt g e).1
      clear o2 hb2 s2 AA OA e0 e1
      obtain ⟨e0, e1⟩ := E9.out _ B2.out
      refine hK _ _ ⟨e0, e1⟩ (fun hHeld => ?_)
      clear hK K
      refine wpAnyH_ready (rs := [13]) (by kernel_rfl) (by simp) ?_
      refine AllReadyH.cons rfl (fun K hK => ?_) AllReadyH.nil
      refine step_append_src rfl (.tmp 12) (.tmp 24) 55 rfl w.heap.size 5 (.int .u8 0) 1 1 Tryz.underlying55 infoB rfl (by decide) (by decide) (.slice va m vc) m (cellsB (fsP (M.take k))) rfl O2.out ⟨g2, 0, none⟩ q c2 (cellsB (fieldsB [x, y])) rfl (by rw [cellsB_length, Q.out]; omega) S2.out (cellsB_one _) (by omega) (by omega) B2.out.size ?_
      intro v3 w3 hown3 hgrow3 _
      have O3 : Hid (w3.ownsRow w.heap.size 5 1 v3 (fsP (M.take (k + 1))).length (cellsB (fsP (M.take (k + 1))))) := by rw [SN.out, cellsB_append, List.length_append, MM.out, Q.out]; exact hown3
      have B3 : Hid (Below w.heap.size w w3) := B2.out.grown hgrow3 B2.out.size hlt3.out
      clear hown3 hgrow3 e0 e1
      obtain ⟨e0, e1⟩ := E9.out _ B3.out
      refine hK _ _ ⟨e0, e1⟩ (fun hHeld => ?_)
      clear hK K
      refine wpAnyH_ready (rs := [14]) (by kernel_rfl) (by simp) ?_
      refine AllReadyH.cons rfl (fun K hK => ?_) AllReadyH.nil
      go_simp
      refine hK _ _ ⟨e0, e1⟩ (fun hHeld => ?_)
      clear hK K
      refine wpAnyH_done (by kernel_rfl) ?_ _
      refine NoPanic.normal ?_
      clear e0 e1 hHeld
      go_wp2_with fail
      exact ⟨⟨k + 1, by omega, by go_num, B3.out, O3.out⟩, by simp [intOf]; omega⟩
    · have hkn : k = n := by omega
      have FE : Hid (fsP (M.take k) = fsP M) := by show _ = _; rw [hkn, ← HM.out, List.take_length]
      have FM : Hid ((fsP M).length = m) := by show _ = _; rw [← FE.out]; exact MM.out
      obtain ⟨a9, c9, e9, s9, _⟩ := own_src HO.out
      cases e9
      have S9 : Hid (Src wr va (cellsB (fsP M))) := by rw [← FE.out]; exact s9
      clear hkn s9
      go_wp2_with fail
      go_at_call 83
      refine (l01CheckL va m vc (fsP M) _ FM.out (by omega) (fsP_lt M) S9.out).mono ?_
      rw [HSM.out]
      rintro e w9 ⟨rfl, hb9⟩
      have B9 : Hid (Below w.heap.size w w9) := hb.out.trans (hb9.mono hb.out.size)
      clear hb9
      go_wp2_with fail
      go_ret
      exact ⟨rfl, B9.out⟩

set_option maxHeartbeats 1000000 in
theorem implPairsSum (a : Option Addr) (n c : Nat) (M : List PM) (w : World) (hM : M.length = n) (hn : n ≤ 1048576) (hs : ∀ p ∈ M, p.1.size ≤ 1048576 ∧ p.2.size ≤ 1048576) (h : Src w a (cellsP M)) (hH : HasHalf w) :
    Calls Tryz.prog 34 #[.slice a n c] w fun e w' => (∃ (r : Nat) (q : Int), e = .returned (.tuple #[.int .i64 (r : Int), .int .i64 q]) ∧ psA M = (r, q)) ∧ Below w.heap.size w w' := by
  have HH : Hid (Src w a (cellsP M)) := h
  have HM : Hid (M.length = n) := hM
  have HS : Hid (∀ i, i < n → (fK M i).size ≤ 1048576 ∧ (fV M i).size ≤ 1048576) := fun i hi => hs _ (mem_getD M p0 i (by omega))
  have HT : Hid (HasHalf w) := hH
  clear hs h hM hH
  by_cases t1 : (4096 : Int) < (n : Int)
  · have E : Hid (psA M = (0, 2)) := by show _ = _; unfold psA; rw [if_pos (by rw [HM.out]; omega)]
    go_enter Tryz.func34, Tryz.ntmps34
    go_wp2_with fail
    go_ret2
    exact ⟨⟨0, 2, rfl, E.out⟩, Below.refl _ _⟩
  obtain ⟨ok, hok⟩ : ∃ b, pairsB (fK M) (fV M) n = b := ⟨_, rfl⟩
  have OK : Hid (pairsB (fK M) (fV M) n = ok) := hok
  clear hok
  go_enter Tryz.func34, Tryz.ntmps34
  go_wp2_with fail
  go_at_call 42
  refine (implPairsOK a n c (fK M) (fV M) _ hn HS.out (sp_src HH.out HM.out)).mono ?_
  rw [OK.out]
  rintro e w1 ⟨rfl, hb1⟩
  have B1 : Hid (Below w.heap.size w w1) := hb1
  clear hb1
  cases ok with
  | false =>
    have E : Hid (psA M = (0, 1)) := by show _ = _; unfold psA; rw [if_neg (by rw [HM.out]; omega), if_pos (by rw [HM.out]; exact OK.out)]
    go_wp2_with fail
    go_ret2
    exact ⟨⟨0, 1, rfl, E.out⟩, B1.out⟩
  | true =>
    have E : Hid (psA M = (sumL (fsP M), 0)) := by show _ = _; unfold psA; rw [if_neg (by rw [HM.out]; omega), if_neg (by rw [HM.out, OK.out]; decide)]
    have FT : Hid (M.length ≤ 60 ∧ ∀ p ∈ M, p.1.size ≤ 90 ∧ p.2.size ≤ 90) := pairsB_fit (by rw [HM.out]; exact OK.out)
    go_wp2_with fail
    go_at_call 59
    refine (sumOf a n c M _ HM.out (by have h9 := FT.out.1; rw [HM.out] at h9; exact h9) FT.out.2 (HH.out.below B1.out) (HT.out.below B1.out)).mono ?_
    obtain ⟨s, hs9⟩ : ∃ s, sumL (fsP M) = s := ⟨_, rfl⟩
    have HSM : Hid (sumL (fsP M) = s) := hs9
    rw [hs9]
    clear hs9
    rintro e w2 ⟨rfl, hb2⟩
    have B2 : Hid (Below w.heap.size w w2) := B1.out.trans (hb2.mono B1.out.size)
    clear hb2
    go_wp2_with fail
    go_ret2
    exact ⟨⟨s, 0, rfl, by rw [E.out, HSM.out]⟩, B2.out⟩

end Go.Proofs.YtmbndpgoihdpnaaGreatDoor
