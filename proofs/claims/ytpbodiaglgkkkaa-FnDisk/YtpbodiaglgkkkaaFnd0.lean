
/-
  Disks that are held to be alike. By an AI agent.
-/
import Derived.Test.YtpbodiaglgkkkaaDraws4
import Derived.Test.YtpbodiaglgkkkaaLawat
import Derived.Test.YtpbodiaglgkkkaaDrd
namespace Go.Proofs.Ytpbodiaglgkkkaa
open Go.ChangeShapes Go.WideShapes Go.ChangeAt Go.RowKit Go.Deep
set_option linter.unusedVariables false
set_option maxRecDepth 100000

set_option maxHeartbeats 1000000 in
theorem sameTexts (a b : Option Addr) (n c d : Nat) (L : List ByteArray) (w : World) (hL : L.length = n) (hn : n ≤ 1048576) (ha : Src w a (cellsS L)) (hb : Src w b (cellsS L)) :
    Calls Try.prog 31 #[.slice a n c, .slice b n d] w fun e w' => e = .returned (.bool true) ∧ Below w.heap.size w w' := by
  have hne : ((n : Int) != (n : Int)) = false := by simp
  have HA : Hid (Src w a (cellsS L)) := ha
  have HB : Hid (Src w b (cellsS L)) := hb
  have HL : Hid (L.length = n) := hL
  clear ha hb hL
  go_enter Try.func31, Try.ntmps31
  go_wp2_with fail
  go_loopw [5] (fun i wr => ∃ k : Nat, k ≤ n ∧ i = .int .i64 k ∧ Hid (Below w.heap.size w wr)) (fun i _ => n - (intOf i).toNat)
  case atStart => exact ⟨0, by omega, rfl, Below.refl _ _⟩
  case round =>
    obtain ⟨k, hk, rfl, hB⟩ := hrel
    by_cases hlt : k < n
    · obtain ⟨b1, o1, y, rfl, p1, hy1⟩ := srcS (HA.out.below hB.out) (i := k) (by rw [HL.out]; exact hlt)
      obtain ⟨b2, o2, y2, rfl, p2, hy2⟩ := srcS (HB.out.below hB.out) (i := k) (by rw [HL.out]; exact hlt)
      obtain rfl : y = y2 := hy1.out.symm.trans hy2.out
      have hk0 : (0 : Int) ≤ (k : Int) := by omega
      have hki : (k : Int) < (n : Int) := by omega
      go_wp2_with fail
      go_quiet (fail)
      go_wp2_with fail
      exact ⟨⟨k + 1, by omega, by go_num, Below.drewN' hB.out _⟩, by simp [intOf]; omega⟩
    · go_wp2_with fail
      go_ret
      exact ⟨rfl, hB.out⟩
set_option maxHeartbeats 1000000 in
theorem sameInts (a b : Option Addr) (n c d : Nat) (L : List Int) (w : World) (hL : L.length = n) (hn : n ≤ 1048576) (ha : Src w a (cellsI L)) (hb : Src w b (cellsI L)) :
    Calls Try.prog 32 #[.slice a n c, .slice b n d] w fun e w' => e = .returned (.bool true) ∧ Below w.heap.size w w' := by
  have hne : ((n : Int) != (n : Int)) = false := by simp
  have HA : Hid (Src w a (cellsI L)) := ha
  have HB : Hid (Src w b (cellsI L)) := hb
  have HL : Hid (L.length = n) := hL
  clear ha hb hL
  go_enter Try.func32, Try.ntmps32
  go_wp2_with fail
  go_loopw [5] (fun i wr => ∃ k : Nat, k ≤ n ∧ i = .int .i64 k ∧ Hid (Below w.heap.size w wr)) (fun i _ => n - (intOf i).toNat)
  case atStart => exact ⟨0, by omega, rfl, Below.refl _ _⟩
  case round =>
    obtain ⟨k, hk, rfl, hB⟩ := hrel
    by_cases hlt : k < n
    · obtain ⟨b1, o1, y, rfl, p1, hy1⟩ := srcI (HA.out.below hB.out) (i := k) (by rw [HL.out]; exact hlt)
      obtain ⟨b2, o2, y2, rfl, p2, hy2⟩ := srcI (HB.out.below hB.out) (i := k) (by rw [HL.out]; exact hlt)
      obtain rfl : y = y2 := hy1.out.symm.trans hy2.out
      have hk0 : (0 : Int) ≤ (k : Int) := by omega
      have hki : (k : Int) < (n : Int) := by omega
      have hyy : (y != y) = false := by simp
      go_wp2_with fail
      go_quiet (fail)
      go_wp2_with fail
      exact ⟨⟨k + 1, by omega, by go_num, Below.drewN' hB.out _⟩, by simp [intOf]; omega⟩
    · go_wp2_with fail
      go_ret
      exact ⟨rfl, hB.out⟩
set_option maxHeartbeats 2000000 in
theorem sameDisk (v v' : Value) (D : DM) (w : World) (hs : smallD D) (h : ReadsD w v D) (h' : ReadsD w v' D) :
    Calls Try.prog 15 #[v, v'] w fun e w' => e = .returned (.bool true) ∧ Below w.heap.size w w' := by
  obtain ⟨a1, c1, a2, c2, a3, c3, rfl, s1, s2, s3⟩ := h
  obtain ⟨b1, d1, b2, d2, b3, d3, rfl, t1, t2, t3⟩ := h'
  have HS : Hid (D.S.length ≤ 1048576 ∧ D.C.length ≤ 1048576 ∧ D.K.length ≤ 1048576) := ⟨hs.1.1, hs.2.1.1, hs.2.2⟩
  have S1 : Hid (Src w a1 (cellsS D.S) ∧ Src w b1 (cellsS D.S)) := ⟨s1, t1⟩
  have S2 : Hid (Src w a2 (cellsQ D.C) ∧ Src w b2 (cellsQ D.C)) := ⟨s2, t2⟩
  have S3 : Hid (Src w a3 (cellsI D.K) ∧ Src w b3 (cellsI D.K)) := ⟨s3, t3⟩
  obtain ⟨n1, hn1⟩ : ∃ n, D.S.length = n := ⟨_, rfl⟩
  obtain ⟨n2, hn2⟩ : ∃ n, D.C.length = n := ⟨_, rfl⟩
  obtain ⟨n3, hn3⟩ : ∃ n, D.K.length = n := ⟨_, rfl⟩
  obtain ⟨A, hA⟩ : ∃ A, D.A = A := ⟨_, rfl⟩
  rw [hn1, hn2, hn3, hA]
  have N1 : Hid (D.S.length = n1) := hn1
  have N2 : Hid (D.C.length = n2) := hn2
  have N3 : Hid (D.K.length = n3) := hn3
  have hAA : (A != A) = false := by simp
  have hnn : ((n2 : Int) != (n2 : Int)) = false := by simp
  have hn2b : n2 ≤ 1048576 := by rw [← hn2]; exact HS.out.2.1
  clear hs s1 s2 s3 hn1 hn2 hn3 hA t1 t2 t3
  go_enter Try.func15, Try.ntmps15
  go_wp2_with fail
  refine (sameTexts a1 b1 n1 c1 d1 D.S _ N1.out (by rw [← N1.out]; exact HS.out.1) (S1.out.1.below (((Below.refl _ _).alloc (Nat.le_refl _) _).alloc (by simp) _)) (S1.out.2.below (((Below.refl _ _).alloc (Nat.le_refl _) _).alloc (by simp) _))).mono ?_
  rintro e w1 ⟨rfl, hb1⟩
  have B1 : Hid (Below w.heap.size w w1) := (((Below.refl _ _).alloc (Nat.le_refl _) _).alloc (by simp) _).trans (hb1.mono (by simp; omega))
  have HA : Hid (Box w1 w.heap.size [.slice a1 n1 c1, .slice a2 n2 c2, .bool A, .slice a3 n3 c3]) := Box.below ((Box.new rfl).old _) hb1
  have HB : Hid (Box w1 (w.heap.size + 1) [.slice b1 n1 d1, .slice b2 n2 d2, .bool A, .slice b3 n3 d3]) := Box.below (Box.new (by simp)) hb1
  clear hb1
  obtain ⟨p1, _⟩ := HA.out 1 _ rfl
  obtain ⟨q1, _⟩ := HB.out 1 _ rfl
  obtain ⟨p2, _⟩ := HA.out 2 _ rfl
  obtain ⟨q2, _⟩ := HB.out 2 _ rfl
  obtain ⟨p3, _⟩ := HA.out 3 _ rfl
  obtain ⟨q3, _⟩ := HB.out 3 _ rfl
  go_wp2_with fail
  refine (sameInts a3 b3 n3 c3 d3 D.K _ N3.out (by rw [← N3.out]; exact HS.out.2.2) (S3.out.1.below B1.out) (S3.out.2.below B1.out)).mono ?_
  rintro e w2 ⟨rfl, hb2⟩
  have B2 : Hid (Below w.heap.size w w2) := B1.out.trans (hb2.mono B1.out.size)
  have HA2 : Hid (Box w2 w.heap.size [.slice a1 n1 c1, .slice a2 n2 c2, .bool A, .slice a3 n3 c3]) := HA.out.below hb2
  have HB2 : Hid (Box w2 (w.heap.size + 1) [.slice b1 n1 d1, .slice b2 n2 d2, .bool A, .slice b3 n3 d3]) := HB.out.below hb2
  clear hb2 HA HB B1 p1 q1 p2 q2 p3 q3
  go_wp2_with fail
  go_loopw [5] (fun i wr => ∃ k : Nat, k ≤ n2 ∧ i = .int .i64 k ∧ Hid (Below w.heap.size w wr) ∧ Hid (Box wr w.heap.size [.slice a1 n1 c1, .slice a2 n2 c2, .bool A, .slice a3 n3 c3]) ∧ Hid (Box wr (w.heap.size + 1) [.slice b1 n1 d1, .slice b2 n2 d2, .bool A, .slice b3 n3 d3])) (fun i _ => n2 - (intOf i).toNat)
  case atStart => exact ⟨0, by omega, rfl, B2.out, HA2.out, HB2.out⟩
  case round =>
    obtain ⟨k, hk, rfl, hB, hX, hY⟩ := hrel
    obtain ⟨p1, _⟩ := hX.out 1 _ rfl
    obtain ⟨q1, _⟩ := hY.out 1 _ rfl
    by_cases hlt : k < n2
    · obtain ⟨e1, o1, x, y, rfl, r1, r2, hy1⟩ := srcQ (S2.out.1.below hB.out) (i := k) (by rw [N2.out]; exact hlt)
      obtain ⟨e2, o2, x', y', rfl, r3, r4, hy2⟩ := srcQ (S2.out.2.below hB.out) (i := k) (by rw [N2.out]; exact hlt)
      obtain ⟨rfl, rfl⟩ : x = x' ∧ y = y' := by have := hy1.out.symm.trans hy2.out; simpa using this
      have hk0 : (0 : Int) ≤ (k : Int) := by omega
      have hki : (k : Int) < (n2 : Int) := by omega
      go_wp2_with fail
      go_quiet (fail)
      go_wp2_with fail
      exact ⟨⟨k + 1, by omega, by go_num, Below.drewN' hB.out _, hX.out, hY.out⟩, by simp [intOf]; omega⟩
    · go_wp2_with fail
      go_ret
      exact ⟨rfl, hB.out⟩
end Go.Proofs.Ytpbodiaglgkkkaa
