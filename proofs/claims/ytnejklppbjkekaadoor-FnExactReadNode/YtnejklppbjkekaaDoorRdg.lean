
/-
  Fields read from bytes: the program's ReadFields; the specification's numbers. By an AI agent.
-/
import Derived.Test.YtnejklppbjkekaaDoorRdf
namespace Go.Proofs.YtnejklppbjkekaaDoor
open Go.ChangeShapes Go.WideShapes Go.ChangeAt Go.RowKit Go.Deep
set_option linter.unusedVariables false
set_option maxRecDepth 100000

set_option maxHeartbeats 1000000 in
theorem implReadFields (a : Option Addr) (n c : Nat) (B : List Nat) (w : World) (hL : B.length = n) (hn : n ≤ 1048576) (hcap : n ≤ c) (hc2 : c ≤ maxLen) (hb8 : ∀ x ∈ B, x < 256) (h : Src w a (cellsB B)) :
    Calls Tryd.prog 120 #[.slice a n c] w fun e w' => ∃ v R q, e = .returned (.tuple #[v, .int .i64 q]) ∧ rfA B = (R, q) ∧ w'.ownsRow w.heap.size 9 1 v R.length (cellsS R) ∧ Below w.heap.size w w' := by
  have HH : Hid (Src w a (cellsB B)) := h
  have HL : Hid (B.length = n) := hL
  have HB : Hid (∀ x ∈ B, x < 256) := hb8
  have HC : Hid (n ≤ c ∧ c ≤ maxLen) := ⟨hcap, hc2⟩
  clear h hL hb8 hcap hc2
  by_cases t1 : (65536 : Int) < (n : Int)
  · have F : Hid (rfA B = ([], 2)) := by show rfA B = _; unfold rfA; rw [if_pos (by rw [HL.out]; omega)]
    go_enter Tryd.func120, Tryd.ntmps120
    go_wp2_with fail
    go_ret2
    exact ⟨_, _, _, rfl, F.out, World.ownsRow_nil _ _ _ _, Below.refl _ _⟩
  have T1 : Hid (¬ 65536 < B.length) := by show ¬ 65536 < B.length; rw [HL.out]; omega
  go_enter Tryd.func120, Tryd.ntmps120
  go_wp2_with fail
  refine (cutFields a n c B _ HL.out (by omega) HC.out.1 HC.out.2 HB.out HH.out).mono ?_
  rintro e w1 (⟨hcut, rfl, hb1⟩ | ⟨l, p, v, ad, cc, hcut, hp, rfl, o1, hb1⟩)
  · have F : Hid (rfA B = ([], 3)) := by show rfA B = _; unfold rfA; rw [if_neg T1.out, hcut]
    have B1 : Hid (Below w.heap.size w w1) := hb1
    clear hcut hb1
    go_wp2_with fail
    go_ret2
    exact ⟨_, _, _, rfl, F.out, World.ownsRow_nil _ _ _ _, B1.out⟩
  · have B1 : Hid (Below w.heap.size w w1) := hb1
    have O1 : Hid (w1.ownsRow w.heap.size 9 1 v l.length (cellsS l)) := o1
    by_cases hpn : p = n
    · have F : Hid (rfA B = (l, 0)) := by
        show rfA B = _
        unfold rfA
        rw [if_neg T1.out, hcut]
        show (if p = B.length then (l, (0 : Int)) else ([], 3)) = _
        rw [if_pos (by rw [HL.out]; exact hpn)]
      obtain ⟨m, hm⟩ : ∃ m, n - p = m := ⟨_, rfl⟩
      have hm0 : m = 0 := by omega
      rw [hm]
      subst hm0
      clear hcut hb1 o1 hpn hm
      go_wp2_with fail
      go_ret2
      exact ⟨_, _, _, rfl, F.out, O1.out, B1.out⟩
    · have F : Hid (rfA B = ([], 3)) := by
        show rfA B = _
        unfold rfA
        rw [if_neg T1.out, hcut]
        show (if p = B.length then (l, (0 : Int)) else ([], 3)) = _
        rw [if_neg (by rw [HL.out]; exact hpn)]
      obtain ⟨m, hm⟩ : ∃ m, n - p = m := ⟨_, rfl⟩
      have hm0 : (0 : Int) < (m : Int) := by omega
      rw [hm]
      clear hcut hb1 o1 hpn hm
      go_wp2_with fail
      go_ret2
      exact ⟨_, _, _, rfl, F.out, World.ownsRow_nil _ _ _ _, B1.out⟩

def numOf (L : List Nat) : Nat := L.foldl (fun a b => a * 256 + b) 0
theorem numOf_snoc (L : List Nat) (x : Nat) : numOf (L ++ [x]) = numOf L * 256 + x := by simp [numOf]
theorem fold_lt : ∀ (L : List Nat) (a : Nat), (∀ x ∈ L, x < 256) → L.foldl (fun a b => a * 256 + b) a < (a + 1) * 256 ^ L.length
  | [], a, _ => by simp
  | x :: L, a, h => by
    have h1 := fold_lt L (a * 256 + x) (fun y hy => h y (by simp [hy]))
    have h2 := h x (by simp)
    have h3 : (a * 256 + x + 1) * 256 ^ L.length ≤ (a + 1) * 256 * 256 ^ L.length := Nat.mul_le_mul_right _ (by omega)
    rw [List.foldl_cons, List.length_cons, Nat.pow_succ, Nat.mul_comm (256 ^ L.length) 256, ← Nat.mul_assoc]
    omega
theorem numOf_lt (L : List Nat) (h : ∀ x ∈ L, x < 256) : numOf L < 256 ^ L.length := by
  have := fold_lt L 0 h
  simpa [numOf] using this
theorem bytes_lt (s : ByteArray) : ∀ x ∈ bytesOf s, x < 256 := by
  intro x hx
  unfold bytesOf at hx
  rw [List.mem_map] at hx
  obtain ⟨b, _, rfl⟩ := hx
  exact b.toNat_lt
theorem bytesOf_get (s : ByteArray) (k : Nat) (h : k < s.size) : (bytesOf s).getD k 0 = s[k].toNat := by
  rw [List.getD_eq_getElem?_getD]
  unfold bytesOf
  rw [List.getElem?_map, Array.getElem?_toList, Array.getElem?_eq_getElem (by exact h)]
  rfl
theorem bytes_take (s : ByteArray) (k : Nat) (h : k < s.size) : (bytesOf s).take (k + 1) = (bytesOf s).take k ++ [s[k].toNat] := by
  rw [List.take_succ_eq_append_getElem (by rw [bytesOf_length]; exact h)]
  congr 2
  have := bytesOf_get s k h
  rw [List.getD_eq_getElem?_getD, List.getElem?_eq_getElem (by rw [bytesOf_length]; exact h)] at this
  exact this

set_option maxHeartbeats 400000 in
theorem l01Of (s : ByteArray) (w : World) (hs : s.size ≤ 4) :
    Calls Tryd.prog 131 #[.string s] w fun e w' => e = .returned (.int .i64 ((numOf (bytesOf s) : Nat) : Int)) ∧ w' = w := by
  go_enter Tryd.func131, Tryd.ntmps131
  go_wp2_with fail
  go_loop [3, 4] (fun n i => ∃ k x : Nat, k ≤ s.size ∧ i = .int .i64 k ∧ n = .int .i64 (x : Int) ∧ x < 4294967296 ∧ Hid (x = numOf ((bytesOf s).take k))) (fun _ i => s.size - (intOf i).toNat)
  case atStart => exact ⟨0, 0, Nat.zero_le _, rfl, rfl, by omega, rfl⟩
  case round =>
    obtain ⟨k, x, hk, rfl, rfl, hx, hn⟩ := hrel
    by_cases hlt : k < s.size
    · have HN : Hid (x * 256 + s[k].toNat = numOf ((bytesOf s).take (k + 1))) := by
        show _ = _
        rw [bytes_take s k hlt, numOf_snoc, hn.out]
      have hB : Hid (x * 256 + s[k].toNat < 4294967296) := by
        show _ < _
        rw [HN.out]
        have h1 := numOf_lt ((bytesOf s).take (k + 1)) (fun y hy => bytes_lt s y (List.mem_of_mem_take hy))
        have h2 : ((bytesOf s).take (k + 1)).length ≤ 4 := by have := List.length_take_le (k + 1) (bytesOf s); omega
        have h3 : 256 ^ ((bytesOf s).take (k + 1)).length ≤ 256 ^ 4 := Nat.pow_le_pow_right (by omega) h2
        omega
      have hb8 : s[k].toNat < 256 := s[k].toNat_lt
      go_wp2_with fail
      go_round
      case rel => exact ⟨k + 1, x * 256 + s[k].toNat, by omega, by go_num, by go_num, hB.out, HN⟩
      case measure => simp [intOf]; omega
    · have hE : Hid (x = numOf (bytesOf s)) := by
        have := hn.out
        rw [List.take_of_length_le (by rw [bytesOf_length]; omega)] at this
        exact this
      go_wp2_with fail
      go_ret
      exact ⟨by show Ending.returned (.int .i64 (x : Int)) = _; rw [hE.out], rfl⟩
end Go.Proofs.YtnejklppbjkekaaDoor
