
/-
  Plain facts on the sum of bytes, by half bytes: the program's step and the specification's are one. By an AI agent.
-/
import Derived.Test.YtmbndpgoihdpnaaDoorMem
import Derived.Laws.BitsAllLaws
namespace Go.Proofs.YtmbndpgoihdpnaaDoor
set_option linter.unusedVariables false

def tabN : List Nat := [0, 498536548, 997073096, 651767980, 1994146192, 1802195444, 1303535960, 1342533948, 3988292384, 4027552580, 3604390888, 3412177804, 2607071920, 2262029012, 2685067896, 3183342108]
def tb (i : Nat) : Nat := tabN.getD i 0
theorem tb_lt (i : Nat) : tb i < 4294967296 := by
  unfold tb
  by_cases h : i < 16
  · have : ∀ j : Fin 16, tabN.getD j.val 0 < 4294967296 := by decide
    exact this ⟨i, h⟩
  · rw [List.getD_eq_getElem?_getD, List.getElem?_eq_none (by simp [tabN]; omega)]; decide
def half (r i : Nat) : Nat := r / 16 ^^^ tb i
theorem half_lt (r i : Nat) (h : r < 4294967296) : half r i < 4294967296 := by
  unfold half
  have := tb_lt i
  exact Nat.xor_lt_two_pow (n := 32) (by omega) (by omega)
/-- The program's step. -/
def stepI (r c : Nat) : Nat := half (half (r ^^^ c) ((r ^^^ c) % 16)) (half (r ^^^ c) ((r ^^^ c) % 16) % 16)
/-- The specification's step. -/
def stepS (r c : Nat) : Nat := half (half r ((r ^^^ c) % 16)) ((half r ((r ^^^ c) % 16) ^^^ c / 16) % 16)
theorem xor_div16 (a b : Nat) : (a ^^^ b) / 16 = a / 16 ^^^ b / 16 := by
  have := Nat.shiftRight_xor_distrib (a := a) (b := b) (i := 4)
  simpa [Nat.shiftRight_eq_div_pow] using this
theorem step_eq (r c : Nat) (hc : c < 256) : stepI r c = stepS r c := by
  have h1 : half (r ^^^ c) ((r ^^^ c) % 16) = half r ((r ^^^ c) % 16) ^^^ c / 16 := by
    unfold half
    rw [xor_div16]
    ac_rfl
  unfold stepI stepS
  rw [h1]
  generalize half r ((r ^^^ c) % 16) = y
  show half (y ^^^ c / 16) ((y ^^^ c / 16) % 16) = half y ((y ^^^ c / 16) % 16)
  unfold half
  rw [xor_div16, show c / 16 / 16 = 0 from by omega, Nat.xor_zero]
def crcTo (z : Nat → Nat) : Nat → Nat
  | 0 => 4294967295
  | k + 1 => stepS (crcTo z k) (z k)
theorem stepS_lt (r c : Nat) (h : r < 4294967296) : stepS r c < 4294967296 := half_lt _ _ (half_lt _ _ h)
theorem crcTo_lt (z : Nat → Nat) (k : Nat) : crcTo z k < 4294967296 := by
  induction k with
  | zero => show 4294967295 < 4294967296; omega
  | succ k ih => exact stepS_lt _ _ ih
/-- The sum of the first n bytes. -/
def crc (z : Nat → Nat) (n : Nat) : Nat := if n > 65536 then 0 else crcTo z n ^^^ 4294967295
theorem xor_all (r : Nat) (h : r < 4294967296) : r ^^^ 4294967295 = 4294967295 - r := by
  have h1 : (BitVec.ofNat 32 r ^^^ BitVec.allOnes 32).toNat = (~~~ BitVec.ofNat 32 r).toNat := by rw [BitVec.xor_allOnes]
  rw [BitVec.toNat_xor, BitVec.toNat_not, BitVec.toNat_ofNat, BitVec.toNat_allOnes, Nat.mod_eq_of_lt (by omega)] at h1
  exact h1
theorem i64_wrap (n : Nat) (h : n < 9223372036854775808) : IntKind.i64.wrap (n : Int) = n := by
  simp [IntKind.wrap, IntKind.bits, IntKind.signed]; omega
theorem i64_xor_nat (a b : Nat) (ha : a < 9223372036854775808) (hb : b < 9223372036854775808) : bits .xor .i64 (a : Int) (b : Int) = ((a ^^^ b : Nat) : Int) := by
  have hx : a ^^^ b < 2 ^ 63 := Nat.xor_lt_two_pow (by omega) (by omega)
  show IntKind.i64.wrap ((BitVec.ofInt 64 (a : Int) ^^^ BitVec.ofInt 64 (b : Int)).toNat : Int) = _
  rw [BitVec.toNat_xor, ofInt_u64 a (by omega), ofInt_u64 b (by omega)]
  exact i64_wrap _ (by omega)
theorem i64_and_nat (a b : Nat) (ha : a < 9223372036854775808) (hb : b < 9223372036854775808) : bits .and .i64 (a : Int) (b : Int) = ((a &&& b : Nat) : Int) := by
  have hx : a &&& b < 2 ^ 63 := Nat.and_lt_two_pow _ (by omega)
  show IntKind.i64.wrap ((BitVec.ofInt 64 (a : Int) &&& BitVec.ofInt 64 (b : Int)).toNat : Int) = _
  rw [BitVec.toNat_and, ofInt_u64 a (by omega), ofInt_u64 b (by omega)]
  exact i64_wrap _ (by omega)
theorem mask15 (x : Nat) : x &&& 15 = x % 16 := Nat.and_two_pow_sub_one_eq_mod x 4

/-- One half byte's turn of the sum. -/
def turn (a : Nat) : Nat := half a (a % 16)
theorem stepI_turn (r c : Nat) : stepI r c = turn (turn (r ^^^ c)) := rfl
theorem tb_top : ∀ i j : Fin 16, tb i.val / 268435456 = tb j.val / 268435456 → i = j := by decide +kernel
theorem xor_div28 (a b : Nat) : (a ^^^ b) / 268435456 = a / 268435456 ^^^ b / 268435456 := by
  have := Nat.shiftRight_xor_distrib (a := a) (b := b) (i := 28)
  simpa [Nat.shiftRight_eq_div_pow] using this
theorem xor_cancel {a b t : Nat} (h : a ^^^ t = b ^^^ t) : a = b := by
  have := congrArg (fun x => x ^^^ t) h
  simpa [Nat.xor_assoc] using this
theorem turn_inj {a b : Nat} (ha : a < 4294967296) (hb : b < 4294967296) (h : turn a = turn b) : a = b := by
  unfold turn half at h
  have h1 := congrArg (fun x => x / 268435456) h
  simp only [xor_div28] at h1
  rw [show a / 16 / 268435456 = 0 from by omega, show b / 16 / 268435456 = 0 from by omega, Nat.zero_xor, Nat.zero_xor] at h1
  have h2 := tb_top ⟨a % 16, by omega⟩ ⟨b % 16, by omega⟩ h1
  have h3 : a % 16 = b % 16 := congrArg Fin.val h2
  rw [h3] at h
  have h4 := xor_cancel h
  omega
theorem turn_lt {a : Nat} (ha : a < 4294967296) : turn a < 4294967296 := half_lt _ _ ha
theorem step_inj {r s c d : Nat} (hr : r < 4294967296) (hs : s < 4294967296) (hc : c < 256) (hd : d < 256) (h : stepS r c = stepS s d) : r ^^^ c = s ^^^ d := by
  rw [← step_eq r c hc, ← step_eq s d hd, stepI_turn, stepI_turn] at h
  have h1 : r ^^^ c < 4294967296 := Nat.xor_lt_two_pow (n := 32) (by omega) (by omega)
  have h2 : s ^^^ d < 4294967296 := Nat.xor_lt_two_pow (n := 32) (by omega) (by omega)
  exact turn_inj h1 h2 (turn_inj (turn_lt h1) (turn_lt h2) h)
/-- Bytes that differ at one place alone have other sums. -/
theorem crcTo_differs {z y : Nat → Nat} (hz : ∀ i, z i < 256) (hy : ∀ i, y i < 256) (j : Nat) (hj : z j ≠ y j) (hsame : ∀ i, i ≠ j → z i = y i) : ∀ n, (n ≤ j → crcTo z n = crcTo y n) ∧ (j < n → crcTo z n ≠ crcTo y n)
  | 0 => ⟨fun _ => rfl, fun h => absurd h (by omega)⟩
  | n + 1 => by
    obtain ⟨ih1, ih2⟩ := crcTo_differs hz hy j hj hsame n
    refine ⟨fun h => ?_, fun h e => ?_⟩
    · show stepS (crcTo z n) (z n) = stepS (crcTo y n) (y n)
      rw [ih1 (by omega), hsame n (by omega)]
    · have h1 := step_inj (crcTo_lt z n) (crcTo_lt y n) (hz n) (hy n) e
      by_cases e2 : n = j
      · subst e2
        rw [ih1 (Nat.le_refl _), Nat.xor_comm, Nat.xor_comm (crcTo y n)] at h1
        exact hj (xor_cancel h1)
      · rw [hsame n e2] at h1
        exact ih2 (by omega) (xor_cancel h1)
theorem crc_differs {z y : Nat → Nat} (hz : ∀ i, z i < 256) (hy : ∀ i, y i < 256) (j n : Nat) (hjn : j < n) (hn : n ≤ 65536) (hj : z j ≠ y j) (hsame : ∀ i, i ≠ j → z i = y i) : crc z n ≠ crc y n := by
  unfold crc
  rw [if_neg (by omega), if_neg (by omega)]
  intro h
  exact (crcTo_differs hz hy j hj hsame n).2 hjn (xor_cancel h)
end Go.Proofs.YtmbndpgoihdpnaaDoor
