
/-
  Two lists of pairs, alike or not: slices.Equal, and the specification. By an AI agent.
-/
import Derived.Test.YtedbgofjgnidiaaListsp
import Derived.BigQuiet
namespace Go.Proofs.Ytedbgofjgnidiaa
open Go.ChangeShapes Go.WideShapes Go.ChangeAt Go.RowKit Go.Deep
set_option linter.unusedVariables false
set_option maxRecDepth 100000

theorem toList_injE {x y : ByteArray} (h : x.toList = y.toList) : x = y := ByteArray.ext (Array.ext' (by simpa [ByteArray.toList_eq] using h))
theorem take_more {α : Type} {L M : List α} {d : α} {k : Nat} (hL : k < L.length) (hM : k < M.length) (h : L.take k = M.take k) (e : L.getD k d = M.getD k d) : L.take (k + 1) = M.take (k + 1) := by
  rw [List.take_add_one, List.take_add_one, h, List.getElem?_eq_getElem hL, List.getElem?_eq_getElem hM]
  rw [List.getD_eq_getElem?_getD, List.getD_eq_getElem?_getD, List.getElem?_eq_getElem hL, List.getElem?_eq_getElem hM] at e
  have e2 : L[k] = M[k] := by simpa using e
  rw [e2]
set_option maxHeartbeats 1000000 in
theorem eqLP (b : Bool) (a a' : Option Addr) (n m c c' : Nat) (L M : List PM) (w : World) (hL : L.length = n) (hM : M.length = m) (hn : n ≤ 1048576) (hm : m ≤ 1048576) (h : Src w a (cellsP L)) (h' : Src w a' (cellsP M)) (hb : decide (L = M) = b) :
    Calls Try.prog 14 #[.slice a n c, .slice a' m c'] w fun e w' => e = .returned (.bool b) ∧ Below w.heap.size w w' := by
  have HS : Hid (Src w a (cellsP L) ∧ Src w a' (cellsP M)) := ⟨h, h'⟩
  have HL : Hid (L.length = n ∧ M.length = m) := ⟨hL, hM⟩
  have HB : Hid (decide (L = M) = b) := hb
  clear h h' hL hM hb
  by_cases hnm : n = m
  case neg =>
    have e1 : ((n : Int) != (m : Int)) = true := by simp; omega
    have hb : b = false := by rw [← HB.out]; exact decide_eq_false (fun e => hnm (by rw [← HL.out.1, ← HL.out.2, e]))
    subst hb
    go_enter Try.func14, Try.ntmps14
    go_wp2_with fail
    go_ret
    exact ⟨rfl, Below.refl _ _⟩
  subst hnm
  have e1 : ((n : Int) != (n : Int)) = false := by simp
  go_enter Try.func14, Try.ntmps14
  go_wp2_with fail
  go_loopw [13] (fun i wr => ∃ k : Nat, k ≤ n ∧ i = .int .i64 k ∧ Hid (Below w.heap.size w wr) ∧ Hid (L.take k = M.take k)) (fun i _ => n - (intOf i).toNat)
  case atStart => exact ⟨0, by omega, rfl, Below.refl _ _, rfl⟩
  case round =>
    obtain ⟨k, hk, rfl, hB, hT⟩ := hrel
    by_cases hlt : k < n
    · obtain ⟨b1, o1, x0, x1, rfl, pp0, pp1, hx⟩ := srcP (HS.out.1.below hB.out) (i := k) (by rw [HL.out.1]; exact hlt)
      obtain ⟨b2, o2, y0, y1, rfl, qq0, qq1, hy⟩ := srcP (HS.out.2.below hB.out) (i := k) (by rw [HL.out.2]; exact hlt)
      have hk0 : (0 : Int) ≤ (k : Int) := by omega
      have hki : (k : Int) < (n : Int) := by omega
      by_cases he : (x0, x1) = (y0, y1)
      · have T2 : Hid (L.take (k + 1) = M.take (k + 1)) := take_more (d := p0) (by rw [HL.out.1]; exact hlt) (by rw [HL.out.2]; exact hlt) hT.out (by rw [hx.out, hy.out]; exact he)
        simp only [Prod.mk.injEq] at he
        obtain ⟨rfl, rfl⟩ := he
        go_wp2_with fail
        go_quiet (fail)
        go_wp2_with fail
        exact ⟨⟨k + 1, by omega, by go_num, Below.drewN' hB.out _, T2.out⟩, by simp [intOf]; omega⟩
      · have hb : b = false := by
          rw [← HB.out]
          exact decide_eq_false (fun e => he (by rw [← hx.out, ← hy.out, e]))
        subst hb
        clear hT
        by_cases hk9 : x0 = y0
        · subst hk9
          have hv9 : x1 ≠ y1 := fun e => he (by rw [e])
          have hnex1 : (x1.toList == y1.toList) = false := by
            rw [beq_eq_false_iff_ne]
            intro e9
            exact hv9 (toList_injE e9)
          go_wp2_with fail
          go_quiet (fail)
          go_wp2_with fail
          go_ret
          exact ⟨rfl, Below.drewN' hB.out _⟩
        · skip
          have hnex0 : (x0.toList == y0.toList) = false := by
            rw [beq_eq_false_iff_ne]
            intro e9
            exact hk9 (toList_injE e9)
          go_wp2_with fail
          go_quiet (fail)
          go_wp2_with fail
          go_ret
          exact ⟨rfl, Below.drewN' hB.out _⟩
    · have hb : b = true := by
        rw [← HB.out]
        have h9 := hT.out
        rw [List.take_of_length_le (by rw [HL.out.1]; omega), List.take_of_length_le (by rw [HL.out.2]; omega)] at h9
        exact decide_eq_true h9
      subst hb
      go_wp2_with fail
      go_ret
      exact ⟨rfl, hB.out⟩
set_option maxHeartbeats 1000000 in
theorem l11SameQ (b : Bool) (a a' : Option Addr) (n m c c' : Nat) (L M : List PM) (w : World) (hL : L.length = n) (hM : M.length = m) (hn : n ≤ 1048576) (hm : m ≤ 1048576) (h : Src w a (cellsP L)) (h' : Src w a' (cellsP M)) (hb : decide (L = M) = b) :
    Calls Try.prog 11 #[.slice a n c, .slice a' m c'] w fun e w' => e = .returned (.bool b) ∧ ∃ q, w' = w.drewN q := by
  have HS : Hid (Src w a (cellsP L) ∧ Src w a' (cellsP M)) := ⟨h, h'⟩
  have HL : Hid (L.length = n ∧ M.length = m) := ⟨hL, hM⟩
  have HB : Hid (decide (L = M) = b) := hb
  clear h h' hL hM hb
  by_cases hnm : n = m
  case neg =>
    have e1 : ((n : Int) != (m : Int)) = true := by simp; omega
    have hb : b = false := by rw [← HB.out]; exact decide_eq_false (fun e => hnm (by rw [← HL.out.1, ← HL.out.2, e]))
    subst hb
    go_enter Try.func11, Try.ntmps11
    go_wp2_with fail
    go_ret
    exact ⟨rfl, 0, rfl⟩
  subst hnm
  have e1 : ((n : Int) != (n : Int)) = false := by simp
  go_enter Try.func11, Try.ntmps11
  go_wp2_with fail
  go_loopw [5] (fun i wr => ∃ k : Nat, k ≤ n ∧ i = .int .i64 k ∧ (∃ q, wr = w.drewN q) ∧ Hid (L.take k = M.take k)) (fun i _ => n - (intOf i).toNat)
  case atStart => exact ⟨0, by omega, rfl, ⟨0, rfl⟩, rfl⟩
  case round =>
    obtain ⟨k, hk, rfl, ⟨q, rfl⟩, hT⟩ := hrel
    by_cases hlt : k < n
    · obtain ⟨b1, o1, x0, x1, rfl, pp0, pp1, hx⟩ := srcP (HS.out.1) (i := k) (by rw [HL.out.1]; exact hlt)
      obtain ⟨b2, o2, y0, y1, rfl, qq0, qq1, hy⟩ := srcP (HS.out.2) (i := k) (by rw [HL.out.2]; exact hlt)
      have hk0 : (0 : Int) ≤ (k : Int) := by omega
      have hki : (k : Int) < (n : Int) := by omega
      by_cases he : (x0, x1) = (y0, y1)
      · have T2 : Hid (L.take (k + 1) = M.take (k + 1)) := take_more (d := p0) (by rw [HL.out.1]; exact hlt) (by rw [HL.out.2]; exact hlt) hT.out (by rw [hx.out, hy.out]; exact he)
        simp only [Prod.mk.injEq] at he
        obtain ⟨rfl, rfl⟩ := he
        go_wp2_with fail
        go_quiet (fail)
        go_wp2_with fail
        exact ⟨⟨k + 1, by omega, by go_num, by first | exact ⟨_, rfl⟩ | exact ⟨_, World.drewN_drewN _ _ _⟩, T2.out⟩, by simp [intOf]; omega⟩
      · have hb : b = false := by
          rw [← HB.out]
          exact decide_eq_false (fun e => he (by rw [← hx.out, ← hy.out, e]))
        subst hb
        clear hT
        by_cases hk9 : x0 = y0
        · subst hk9
          have hv9 : x1 ≠ y1 := fun e => he (by rw [e])
          have hnex1 : (x1.toList == y1.toList) = false := by
            rw [beq_eq_false_iff_ne]
            intro e9
            exact hv9 (toList_injE e9)
          go_wp2_with fail
          go_quiet (fail)
          go_wp2_with fail
          go_ret
          exact ⟨rfl, by first | exact ⟨_, rfl⟩ | exact ⟨_, World.drewN_drewN _ _ _⟩⟩
        · skip
          have hnex0 : (x0.toList == y0.toList) = false := by
            rw [beq_eq_false_iff_ne]
            intro e9
            exact hk9 (toList_injE e9)
          go_wp2_with fail
          go_quiet (fail)
          go_wp2_with fail
          go_ret
          exact ⟨rfl, by first | exact ⟨_, rfl⟩ | exact ⟨_, World.drewN_drewN _ _ _⟩⟩
    · have hb : b = true := by
        rw [← HB.out]
        have h9 := hT.out
        rw [List.take_of_length_le (by rw [HL.out.1]; omega), List.take_of_length_le (by rw [HL.out.2]; omega)] at h9
        exact decide_eq_true h9
      subst hb
      go_wp2_with fail
      go_ret
      exact ⟨rfl, q, rfl⟩
theorem l11SameP (b : Bool) (a a' : Option Addr) (n m c c' : Nat) (L M : List PM) (w : World) (hL : L.length = n) (hM : M.length = m) (hn : n ≤ 1048576) (hm : m ≤ 1048576) (h : Src w a (cellsP L)) (h' : Src w a' (cellsP M)) (hb : decide (L = M) = b) :
    Calls Try.prog 11 #[.slice a n c, .slice a' m c'] w fun e w' => e = .returned (.bool b) ∧ Below w.heap.size w w' := by
  refine (l11SameQ b a a' n m c c' L M w hL hM hn hm h h' hb).mono ?_
  rintro e w' ⟨rfl, q, rfl⟩
  exact ⟨rfl, Below.drewN' (Below.refl _ _) _⟩
end Go.Proofs.Ytedbgofjgnidiaa
