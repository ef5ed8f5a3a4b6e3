
/-
  What a right session that takes mail is: lists alone, and whether a name is among others. By an AI agent.
-/
import Derived.Test.YtbaljcdiofoppaaSmts
import Derived.Test.YtbaljcdiofoppaaNames
namespace Go.Proofs.Ytbaljcdiofoppaa
open Go.ChangeShapes Go.WideShapes Go.ChangeAt Go.RowKit Go.Deep
set_option linter.unusedVariables false
set_option maxRecDepth 100000

/-- The names ahead of place i hold that of place i. -/
def dupB (R : List ByteArray) (i : Nat) : Bool := (R.take i).any fun y => y.toList == (R.getD i e0).toList
def rcptB (R : List ByteArray) (i : Nat) : Bool := shortB (R.getD i e0) && !dupB R i
def rcptsB (R : List ByteArray) : Bool := (List.range R.length).all (rcptB R)
def lineB (L : List ByteArray) (i : Nat) : Bool := decide ((L.getD i e0).size ≤ 60)
def linesB (L : List ByteArray) : Bool := (List.range L.length).all (lineB L)
def fromB (D : SMT) : Bool := D.F.toList == [] || (shortB D.F && D.H && D.O)
def rcptsOK (D : SMT) : Bool := decide (D.R.length ≤ 2) && !(decide (0 < D.R.length) && D.F.toList == []) && rcptsB D.R
def linesOK (D : SMT) : Bool := !(D.D && D.R.length == 0) && !(decide (0 < D.L.length) && !D.D) && decide (D.L.length ≤ 9) && linesB D.L
def okT (D : SMT) : Bool := fromB D && rcptsOK D && linesOK D

theorem all_bad {p : Nat → Bool} {n k : Nat} (hk : k < n) (h : p k = false) : (List.range n).all p = false := by
  rw [List.all_eq_false]
  exact ⟨k, List.mem_range.2 hk, by rw [h]; decide⟩
theorem all_good {p : Nat → Bool} {n : Nat} (h : ∀ k, k < n → p k = true) : (List.range n).all p = true := by
  rw [List.all_eq_true]
  exact fun k hk => h k (List.mem_range.1 hk)

theorem toList_comm (x y : ByteArray) : (x.toList == y.toList) = (y.toList == x.toList) := by
  rw [Bool.eq_iff_iff, beq_iff_eq, beq_iff_eq]; exact eq_comm
theorem idx_none {R : List ByteArray} {x : ByteArray} (h : ∀ j, j < R.length → ((R.getD j e0).toList == x.toList) = false) : R.any (fun y => y.toList == x.toList) = false := by
  rw [List.any_eq_false]
  intro y hy
  obtain ⟨j, hj, rfl⟩ := List.getElem_of_mem hy
  have := h j hj
  rw [List.getD_eq_getElem?_getD, List.getElem?_eq_getElem hj] at this
  simpa using this
theorem idx_some {R : List ByteArray} {x : ByteArray} {j : Nat} (hj : j < R.length) (h : ((R.getD j e0).toList == x.toList) = true) : R.any (fun y => y.toList == x.toList) = true := by
  rw [List.any_eq_true]
  refine ⟨R[j], List.getElem_mem hj, ?_⟩
  rw [List.getD_eq_getElem?_getD, List.getElem?_eq_getElem hj] at h
  simpa using h

set_option maxHeartbeats 1000000 in
theorem indexS (a : Option Addr) (n c : Nat) (R : List ByteArray) (x : ByteArray) (w : World) (hR : R.length = n) (hn : n ≤ 1048576) (h : Src w a (cellsS R)) :
    Calls Try.prog 29 #[.slice a n c, .string x] w fun e w' => ∃ r : Int, e = .returned (.int .i64 r) ∧ Hid (decide (0 ≤ r) = R.any (fun y => y.toList == x.toList)) ∧ w = w' := by
  have HS : Hid (Src w a (cellsS R)) := h
  have N1 : Hid (R.length = n) := hR
  clear h hR
  go_enter Try.func29, Try.ntmps29
  go_wp2_with fail
  go_loopw [8] (fun i wr => ∃ k : Nat, k ≤ n ∧ i = .int .i64 k ∧ Hid (∀ j, j < k → ((R.getD j e0).toList == x.toList) = false) ∧ Hid (wr = w)) (fun i _ => n - (intOf i).toNat)
  case atStart => exact ⟨0, by omega, rfl, fun j hj => absurd hj (by omega), rfl⟩
  case round =>
    obtain ⟨k, hk, rfl, hg, hw⟩ := hrel
    obtain rfl := hw.out
    by_cases hlt : k < n
    · obtain ⟨b, o, y, rfl, q1, hy⟩ := srcS HS.out (i := k) (by rw [N1.out]; exact hlt)
      have hki : (k : Int) < (n : Int) := by omega
      cases he : x.toList == y.toList with
      | true =>
        have F : Hid (decide ((0 : Int) ≤ (k : Int)) = R.any (fun y => y.toList == x.toList)) := by
          show _ = _
          rw [idx_some (j := k) (by rw [N1.out]; exact hlt) (by rw [hy.out, toList_comm]; exact he)]
          simp
        go_wp2_with fail
        go_ret
        exact ⟨(k : Int), rfl, F, rfl⟩
      | false =>
        have F : Hid (((R.getD k e0).toList == x.toList) = false) := by
          show _ = _
          rw [hy.out, toList_comm]; exact he
        go_wp2_with fail
        exact ⟨⟨k + 1, by omega, by go_num, fun j hj => by
          by_cases e : j = k
          · rw [e]; exact F.out
          · exact hg.out j (by omega), trivial⟩, by simp [intOf]; omega⟩
    · have F : Hid (decide ((0 : Int) ≤ -1) = R.any (fun y => y.toList == x.toList)) := by
        show _ = _
        rw [idx_none (fun j hj => hg.out j (by rw [N1.out] at hj; omega))]
        decide
      go_wp2_with fail
      go_ret
      exact ⟨-1, rfl, F, rfl⟩

theorem containsS (a : Option Addr) (n c : Nat) (R : List ByteArray) (x : ByteArray) (w : World) (hR : R.length = n) (hn : n ≤ 1048576) (h : Src w a (cellsS R)) :
    Calls Try.prog 26 #[.slice a n c, .string x] w fun e w' => e = .returned (.bool (R.any (fun y => y.toList == x.toList))) ∧ w = w' := by
  have HS : Hid (Src w a (cellsS R)) := h
  have N1 : Hid (R.length = n) := hR
  obtain ⟨b, hb⟩ : ∃ b, R.any (fun y => y.toList == x.toList) = b := ⟨_, rfl⟩
  rw [hb]
  have HB : Hid (R.any (fun y => y.toList == x.toList) = b) := hb
  clear h hR hb
  go_enter Try.func26, Try.ntmps26
  go_wp2_with fail
  refine (indexS a n c R x _ N1.out hn HS.out).mono ?_
  rintro e w1 ⟨r, rfl, hr, hw9⟩
  obtain rfl := hw9.symm
  have HR : Hid (decide (0 ≤ r) = b) := hr.out.trans HB.out
  clear hr
  go_wp2_with fail
  go_ret
  exact ⟨ret_bool HR.out, rfl⟩
end Go.Proofs.Ytbaljcdiofoppaa
