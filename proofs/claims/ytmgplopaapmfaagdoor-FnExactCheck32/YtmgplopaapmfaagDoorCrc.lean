/-
  Plain facts on the sum of bytes, by half bytes: the program's step and the specification's are one. By an AI agent.
-/
import Derived.Test.YtmgplopaapmfaagDoorMem
import Derived.Laws.BitsAllLaws
namespace Go.Proofs.YtmgplopaapmfaagDoor
set_option linter.unusedVariables false

def tabN : List Nat := [0, 498536548, 997073096, 651767980, 1994146192, 1802195444, 1303535960, 1342533948, 3988292384, 4027552580, 3604390888, 3412177804, 2607071920, 2262029012, 2685067896, 3183342108]
def tb (i : Nat) : Nat := tabN.getD i 0
theorem tb_lt (i : Nat) : tb i < 4294967296 := by
  unfold tb
  by_cases h : i < 16
  · have : ∀ j : Fin 16, tabN.getD j.val 0 < 4294967296 := by decide
    exact this ⟨i, h⟩
  · rw [List.getD_eq_getElem?_getD, List.getElem?_eq_none (by simp [tabN]; omega)]; decide
def half (r i : Nat) : Nat := r / 16 ^^^ tb i
theorem half_lt (r i : Nat) (h : r < 4294967296) : half r i < 4294967296 := by
  unfold half
  have := tb_lt i
  exact Nat.xor_lt_two_pow (n := 32) (by omega) (by omega)
/-- The program's step. -/
def stepI (r c : Nat) : Nat := half (half (r ^^^ c) ((r ^^^ c) % 16)) (half (r ^^^ c) ((r ^^^ c) % 16) % 16)
/-- The specification's step. -/
def stepS (r c : Nat) : Nat := half (half r ((r ^^^ c) % 16)) ((half r ((r ^^^ c) % 16) ^^^ c / 16) % 16)
theorem xor_div16 (a b : Nat) : (a ^^^ b) / 16 = a / 16 ^^^ b / 16 := by
  have := Nat.shiftRight_xor_distrib (a := a) (b := b) (i := 4)
  simpa [Nat.shiftRight_eq_div_pow] using this
theorem step_eq (r c : Nat) (hc : c < 256) : stepI r c = stepS r c := by
  have h1 : half (r ^^^ c) ((r ^^^ c) % 16) = half r ((r ^^^ c) % 16) ^^^ c / 16 := by
    unfold half
    rw [xor_div16]
    ac_rfl
  unfold stepI stepS
  rw [h1]
  generalize half r ((r ^^^ c) % 16) = y
  show half (y ^^^ c / 16) ((y ^^^ c / 16) % 16) = half y ((y ^^^ c / 16) % 16)
  unfold half
  rw [xor_div16, show c / 16 / 16 = 0 from by omega, Nat.xor_zero]
def crcTo (z : Nat → Nat) : Nat → Nat
  | 0 => 4294967295
  | k + 1 => stepS (crcTo z k) (z k)
theorem stepS_lt (r c : Nat) (h : r < 4294967296) : stepS r c < 4294967296 := half_lt _ _ (half_lt _ _ h)
theorem crcTo_lt (z : Nat → Nat) (k : Nat) : crcTo z k < 4294967296 := by
  induction k with
  | zero => show 4294967295 < 4294967296; omega
  | succ k ih => exact stepS_lt _ _ ih
/-- The sum of the first n bytes. -/
def crc (z : Nat → Nat) (n : Nat) : Nat := if n > 65536 then 0 else crcTo z n ^^^ 4294967295
theorem xor_all (r : Nat) (h : r < 4294967296) : r ^^^ 4294967295 = 4294967295 - r := by
  have h1 : (BitVec.ofNat 32 r ^^^ BitVec.allOnes 32).toNat = (~~~ BitVec.ofNat 32 r).toNat := by rw [BitVec.xor_allOnes]
  rw [BitVec.toNat_xor, BitVec.toNat_not, BitVec.toNat_ofNat, BitVec.toNat_allOnes, Nat.mod_eq_of_lt (by omega)] at h1
  exact h1
theorem i64_wrap (n : Nat) (h : n < 9223372036854775808) : IntKind.i64.wrap (n : Int) = n := by
  simp [IntKind.wrap, IntKind.bits, IntKind.signed]; omega
theorem i64_xor_nat (a b : Nat) (ha : a < 9223372036854775808) (hb : b < 9223372036854775808) : bits .xor .i64 (a : Int) (b : Int) = ((a ^^^ b : Nat) : Int) := by
  have hx : a ^^^ b < 2 ^ 63 := Nat.xor_lt_two_pow (by omega) (by omega)
  show IntKind.i64.wrap ((BitVec.ofInt 64 (a : Int) ^^^ BitVec.ofInt 64 (b : Int)).toNat : Int) = _
  rw [BitVec.toNat_xor, ofInt_u64 a (by omega), ofInt_u64 b (by omega)]
  exact i64_wrap _ (by omega)
theorem i64_and_nat (a b : Nat) (ha : a < 9223372036854775808) (hb : b < 9223372036854775808) : bits .and .i64 (a : Int) (b : Int) = ((a &&& b : Nat) : Int) := by
  have hx : a &&& b < 2 ^ 63 := Nat.and_lt_two_pow _ (by omega)
  show IntKind.i64.wrap ((BitVec.ofInt 64 (a : Int) &&& BitVec.ofInt 64 (b : Int)).toNat : Int) = _
  rw [BitVec.toNat_and, ofInt_u64 a (by omega), ofInt_u64 b (by omega)]
  exact i64_wrap _ (by omega)
theorem mask15 (x : Nat) : x &&& 15 = x % 16 := Nat.and_two_pow_sub_one_eq_mod x 4
end Go.Proofs.YtmgplopaapmfaagDoor
