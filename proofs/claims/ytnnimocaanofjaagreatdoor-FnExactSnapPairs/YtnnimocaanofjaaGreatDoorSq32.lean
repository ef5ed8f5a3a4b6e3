/-
  Texts of the store, brought together: Lsm, Lsn. By an AI agent.
-/
import Derived.Test.YtnnimocaanofjaaGreatDoorSq31
namespace Go.Proofs.YtnnimocaanofjaaGreatDoor
open Go.ChangeShapes Go.WideShapes Go.ChangeAt Go.RowKit Go.Deep
set_option linter.unusedVariables false
set_option linter.unusedSimpArgs false
set_option maxRecDepth 100000
def alikeN (D E : NM) : Bool := D.A == E.A && (decide (D.P = E.P) && (decide (D.L = E.L) && decide (D.K = E.K)))
theorem alikeN_iff (D E : NM) : alikeN D E = true ↔ D = E := by
  obtain ⟨a, p, l, k⟩ := D
  obtain ⟨a', p', l', k'⟩ := E
  simp [alikeN]
theorem alike_lens {D E : NM} (h : ¬ (D.P.length = E.P.length ∧ D.L.length = E.L.length ∧ D.K.length = E.K.length)) : alikeN D E = false := by
  cases hh : alikeN D E with
  | false => rfl
  | true => rw [alikeN_iff] at hh; subst hh; exact absurd ⟨rfl, rfl, rfl⟩ h
theorem alike_not {D E : NM} (h : D ≠ E) : alikeN D E = false := by
  cases hh : alikeN D E with
  | false => rfl
  | true => rw [alikeN_iff] at hh; exact absurd hh h
def lenN (D : NM) : Prop := D.P.length ≤ 1048576 ∧ D.L.length ≤ 1048576 ∧ D.K.length ≤ 1048576
set_option maxHeartbeats 2000000 in
theorem l03EqualS (b : Bool) (v v' : Value) (D E : NM) (w : World) (hD : lenN D) (hE : lenN E) (h : ReadsN w v D) (h' : ReadsN w v' E) (hb : alikeN D E = b) :
    Calls Tryz.prog 87 #[v, v'] w fun e w' => e = .returned (.bool b) ∧ Below w.heap.size w w' := by
  obtain ⟨a1, c1, a2, c2, a3, c3, rfl, s1, s2, s3⟩ := h
  obtain ⟨b1, d1, b2, d2, b3, d3, rfl, t1, t2, t3⟩ := h'
  have S1 : Hid (Src w a1 (cellsP D.P) ∧ Src w b1 (cellsP E.P)) := ⟨s1, t1⟩
  have S2 : Hid (Src w a2 (cellsS D.L) ∧ Src w b2 (cellsS E.L)) := ⟨s2, t2⟩
  have S3 : Hid (Src w a3 (cellsI D.K) ∧ Src w b3 (cellsI E.K)) := ⟨s3, t3⟩
  obtain ⟨n1, hn1⟩ : ∃ n, D.P.length = n := ⟨_, rfl⟩
  obtain ⟨n2, hn2⟩ : ∃ n, D.L.length = n := ⟨_, rfl⟩
  obtain ⟨n3, hn3⟩ : ∃ n, D.K.length = n := ⟨_, rfl⟩
  obtain ⟨m1, hm1⟩ : ∃ n, E.P.length = n := ⟨_, rfl⟩
  obtain ⟨m2, hm2⟩ : ∃ n, E.L.length = n := ⟨_, rfl⟩
  obtain ⟨m3, hm3⟩ : ∃ n, E.K.length = n := ⟨_, rfl⟩
  obtain ⟨A, hA⟩ : ∃ A, D.A = A := ⟨_, rfl⟩
  obtain ⟨A', hA'⟩ : ∃ A, E.A = A := ⟨_, rfl⟩
  have HN : Hid ((D.P.length = n1 ∧ D.L.length = n2 ∧ D.K.length = n3) ∧ (E.P.length = m1 ∧ E.L.length = m2 ∧ E.K.length = m3) ∧ D.A = A ∧ E.A = A') := ⟨⟨hn1, hn2, hn3⟩, ⟨hm1, hm2, hm3⟩, hA, hA'⟩
  have HB : Hid (alikeN D E = b) := hb
  have z1 : n1 ≤ 1048576 := by rw [← hn1]; exact hD.1
  have z2 : n2 ≤ 1048576 := by rw [← hn2]; exact hD.2.1
  have z3 : n3 ≤ 1048576 := by rw [← hn3]; exact hD.2.2
  have y1 : m1 ≤ 1048576 := by rw [← hm1]; exact hE.1
  have y2 : m2 ≤ 1048576 := by rw [← hm2]; exact hE.2.1
  have y3 : m3 ≤ 1048576 := by rw [← hm3]; exact hE.2.2
  rw [hn1, hn2, hn3, hA, hm1, hm2, hm3, hA']
  clear s1 s2 s3 t1 t2 t3 hn1 hn2 hn3 hA hm1 hm2 hm3 hA' hb hD hE
  have AB : Hid (∀ o o', Below w.heap.size w ((w.alloc o).alloc o')) := fun o o' => ((Below.refl _ _).alloc (Nat.le_refl _) _).alloc (by simp) _
  by_cases hAA : A = A'
  case neg =>
    have hb : b = false := by rw [← HB.out]; exact alike_not (fun e => hAA (by rw [← HN.out.2.2.1, ← HN.out.2.2.2, e]))
    subst hb
    have e0 : (A != A') = true := by simpa using hAA
    go_enter Tryz.func87, Tryz.ntmps87
    go_wp2_with fail
    go_ret
    exact ⟨rfl, AB.out _ _⟩
  subst hAA
  have e0 : (A != A) = false := by simp
  by_cases hl : n1 = m1 ∧ n2 = m2 ∧ n3 = m3
  case neg =>
    have hb : b = false := by
      rw [← HB.out]
      exact alike_lens (fun e => hl (by rw [← HN.out.1.1, ← HN.out.1.2.1, ← HN.out.1.2.2, ← HN.out.2.1.1, ← HN.out.2.1.2.1, ← HN.out.2.1.2.2]; exact e))
    subst hb
    by_cases h1 : n1 = m1
    · subst h1
      have e1 : ((n1 : Int) != (n1 : Int)) = false := by simp
      by_cases h2 : n2 = m2
      · subst h2
        have e2 : ((n2 : Int) != (n2 : Int)) = false := by simp
        have e3 : ((n3 : Int) != (m3 : Int)) = true := by simp; omega
        go_enter Tryz.func87, Tryz.ntmps87
        go_wp2_with fail
        go_ret
        exact ⟨rfl, AB.out _ _⟩
      · have e2 : ((n2 : Int) != (m2 : Int)) = true := by simp; omega
        go_enter Tryz.func87, Tryz.ntmps87
        go_wp2_with fail
        go_ret
        exact ⟨rfl, AB.out _ _⟩
    · have e1 : ((n1 : Int) != (m1 : Int)) = true := by simp; omega
      go_enter Tryz.func87, Tryz.ntmps87
      go_wp2_with fail
      go_ret
      exact ⟨rfl, AB.out _ _⟩
  obtain ⟨rfl, rfl, rfl⟩ := hl
  have e1 : ((n1 : Int) != (n1 : Int)) = false := by simp
  have e2 : ((n2 : Int) != (n2 : Int)) = false := by simp
  have e3 : ((n3 : Int) != (n3 : Int)) = false := by simp
  go_enter Tryz.func87, Tryz.ntmps87
  go_wp2_with fail
  clear e0 e1 e2 e3
  go_loopw [5] (fun i wr => ∃ k : Nat, k ≤ n1 ∧ i = .int .i64 k ∧ Hid (Below w.heap.size w wr) ∧ Hid (Box wr w.heap.size [.bool A, .slice a1 n1 c1, .slice a2 n2 c2, .slice a3 n3 c3]) ∧ Hid (Box wr (w.heap.size + 1) [.bool A, .slice b1 n1 d1, .slice b2 n2 d2, .slice b3 n3 d3]) ∧ Hid (D.P.take k = E.P.take k)) (fun i _ => n1 - (intOf i).toNat)
  case atStart => exact ⟨0, by omega, rfl, AB.out _ _, (Box.new rfl).old _, Box.new (by simp), rfl⟩
  case round =>
    obtain ⟨k, hk, rfl, hB, hX, hX', hT⟩ := hrel
    obtain ⟨p1, _⟩ := hX.out 1 _ rfl
    obtain ⟨q1, _⟩ := hX'.out 1 _ rfl
    by_cases hlt : k < n1
    · obtain ⟨z1, o1, x0, x1, rfl, pp0, pp1, hx⟩ := srcP (S1.out.1.below hB.out) (i := k) (by rw [HN.out.1.1]; exact hlt)
      obtain ⟨z2, o2, y0, y1, rfl, qq0, qq1, hy⟩ := srcP (S1.out.2.below hB.out) (i := k) (by rw [HN.out.2.1.1]; exact hlt)
      have hk0 : (0 : Int) ≤ (k : Int) := by omega
      have hki : (k : Int) < (n1 : Int) := by omega
      by_cases he : (x0, x1) = (y0, y1)
      · have T2 : Hid (D.P.take (k + 1) = E.P.take (k + 1)) := take_more (d := p0) (by rw [HN.out.1.1]; exact hlt) (by rw [HN.out.2.1.1]; exact hlt) hT.out (by rw [hx.out, hy.out]; exact he)
        simp only [Prod.mk.injEq] at he
        obtain ⟨rfl, rfl⟩ := he
        go_wp2_with fail
        go_quiet (fail)
        go_wp2_with fail
        exact ⟨⟨k + 1, by omega, by go_num, Below.drewN' hB.out _, hX.out.below (Below.drewN' (Below.refl _ _) _), hX'.out.below (Below.drewN' (Below.refl _ _) _), T2.out⟩, by simp [intOf]; omega⟩
      · have hb : b = false := by
          rw [← HB.out]
          exact alike_not (fun e => he (by rw [← hx.out, ← hy.out, e]))
        subst hb
        clear hT
        by_cases hk9 : x0 = y0
        · subst hk9
          have hv9 : x1 ≠ y1 := fun e => he (by rw [e])
          have hnex1 : (x1.toList == y1.toList) = false := by
            rw [beq_eq_false_iff_ne]
            intro e9
            exact hv9 (toList_injE e9)
          go_wp2_with fail
          go_quiet (fail)
          go_wp2_with fail
          go_ret
          exact ⟨rfl, Below.drewN' hB.out _⟩
        · have hnex0 : (x0.toList == y0.toList) = false := by
            rw [beq_eq_false_iff_ne]
            intro e9
            exact hk9 (toList_injE e9)
          go_wp2_with fail
          go_quiet (fail)
          go_wp2_with fail
          go_ret
          exact ⟨rfl, Below.drewN' hB.out _⟩
    · have hnl : ¬ (k : Int) < (n1 : Int) := by omega
      have E1 : Hid (D.P = E.P) := by
        have h9 := hT.out
        rw [List.take_of_length_le (by rw [HN.out.1.1]; omega), List.take_of_length_le (by rw [HN.out.2.1.1]; omega)] at h9
        exact h9
      have G1 : Hid (Below w.heap.size w wr ∧ Box wr w.heap.size [.bool A, .slice a1 n1 c1, .slice a2 n2 c2, .slice a3 n3 c3] ∧ Box wr (w.heap.size + 1) [.bool A, .slice b1 n1 d1, .slice b2 n2 d2, .slice b3 n3 d3]) := ⟨hB.out, hX.out, hX'.out⟩
      go_wp2_with fail
      clear hB hX hX' hT p1 q1 hnl hlt hk
      go_loopw [6] (fun i wr => ∃ k : Nat, k ≤ n2 ∧ i = .int .i64 k ∧ Hid (Below w.heap.size w wr) ∧ Hid (Box wr w.heap.size [.bool A, .slice a1 n1 c1, .slice a2 n2 c2, .slice a3 n3 c3]) ∧ Hid (Box wr (w.heap.size + 1) [.bool A, .slice b1 n1 d1, .slice b2 n2 d2, .slice b3 n3 d3]) ∧ Hid (D.L.take k = E.L.take k)) (fun i _ => n2 - (intOf i).toNat)
      case atStart => exact ⟨0, by omega, rfl, G1.out.1, G1.out.2.1, G1.out.2.2, rfl⟩
      case round =>
        clear G1
        obtain ⟨k, hk, rfl, hB, hX, hX', hT⟩ := hrel
        obtain ⟨p2, _⟩ := hX.out 2 _ rfl
        obtain ⟨q2, _⟩ := hX'.out 2 _ rfl
        by_cases hlt : k < n2
        · obtain ⟨z1, o1, x, rfl, pp0, hx⟩ := srcS (S2.out.1.below hB.out) (i := k) (by rw [HN.out.1.2.1]; exact hlt)
          obtain ⟨z2, o2, y, rfl, qq0, hy⟩ := srcS (S2.out.2.below hB.out) (i := k) (by rw [HN.out.2.1.2.1]; exact hlt)
          have hk0 : (0 : Int) ≤ (k : Int) := by omega
          have hki : (k : Int) < (n2 : Int) := by omega
          by_cases he : x = y
          · have T2 : Hid (D.L.take (k + 1) = E.L.take (k + 1)) := take_more (d := e0) (by rw [HN.out.1.2.1]; exact hlt) (by rw [HN.out.2.1.2.1]; exact hlt) hT.out (by rw [hx.out, hy.out]; exact he)
            subst he
            go_wp2_with fail
            go_quiet (fail)
            go_wp2_with fail
            exact ⟨⟨k + 1, by omega, by go_num, Below.drewN' hB.out _, hX.out.below (Below.drewN' (Below.refl _ _) _), hX'.out.below (Below.drewN' (Below.refl _ _) _), T2.out⟩, by simp [intOf]; omega⟩
          · have hb : b = false := by
              rw [← HB.out]
              exact alike_not (fun e => he (by rw [← hx.out, ← hy.out, e]))
            subst hb
            clear hT
            have hne : (x.toList == y.toList) = false := by
              rw [beq_eq_false_iff_ne]
              intro e9
              exact he (toList_injE e9)
            go_wp2_with fail
            go_quiet (fail)
            go_wp2_with fail
            go_ret
            exact ⟨rfl, Below.drewN' hB.out _⟩
        · have hnl : ¬ (k : Int) < (n2 : Int) := by omega
          have E2 : Hid (D.L = E.L) := by
            have h9 := hT.out
            rw [List.take_of_length_le (by rw [HN.out.1.2.1]; omega), List.take_of_length_le (by rw [HN.out.2.1.2.1]; omega)] at h9
            exact h9
          have G2 : Hid (Below w.heap.size w wr ∧ Box wr w.heap.size [.bool A, .slice a1 n1 c1, .slice a2 n2 c2, .slice a3 n3 c3] ∧ Box wr (w.heap.size + 1) [.bool A, .slice b1 n1 d1, .slice b2 n2 d2, .slice b3 n3 d3]) := ⟨hB.out, hX.out, hX'.out⟩
          go_wp2_with fail
          clear hB hX hX' hT p2 q2 hnl hlt hk
          go_loopw [7] (fun i wr => ∃ k : Nat, k ≤ n3 ∧ i = .int .i64 k ∧ Hid (Below w.heap.size w wr) ∧ Hid (Box wr w.heap.size [.bool A, .slice a1 n1 c1, .slice a2 n2 c2, .slice a3 n3 c3]) ∧ Hid (Box wr (w.heap.size + 1) [.bool A, .slice b1 n1 d1, .slice b2 n2 d2, .slice b3 n3 d3]) ∧ Hid (D.K.take k = E.K.take k)) (fun i _ => n3 - (intOf i).toNat)
          case atStart => exact ⟨0, by omega, rfl, G2.out.1, G2.out.2.1, G2.out.2.2, rfl⟩
          case round =>
            clear G2
            obtain ⟨k, hk, rfl, hB, hX, hX', hT⟩ := hrel
            obtain ⟨p3, _⟩ := hX.out 3 _ rfl
            obtain ⟨q3, _⟩ := hX'.out 3 _ rfl
            by_cases hlt : k < n3
            · obtain ⟨z1, o1, x, rfl, pp0, hx⟩ := srcI (S3.out.1.below hB.out) (i := k) (by rw [HN.out.1.2.2]; exact hlt)
              obtain ⟨z2, o2, y, rfl, qq0, hy⟩ := srcI (S3.out.2.below hB.out) (i := k) (by rw [HN.out.2.1.2.2]; exact hlt)
              have hk0 : (0 : Int) ≤ (k : Int) := by omega
              have hki : (k : Int) < (n3 : Int) := by omega
              by_cases he : x = y
              · have T2 : Hid (D.K.take (k + 1) = E.K.take (k + 1)) := take_more (d := (0 : Int)) (by rw [HN.out.1.2.2]; exact hlt) (by rw [HN.out.2.1.2.2]; exact hlt) hT.out (by rw [hx.out, hy.out]; exact he)
                subst he
                have hyy : (x != x) = false := by simp
                go_wp2_with fail
                go_quiet (fail)
                go_wp2_with fail
                exact ⟨⟨k + 1, by omega, by go_num, Below.drewN' hB.out _, hX.out.below (Below.drewN' (Below.refl _ _) _), hX'.out.below (Below.drewN' (Below.refl _ _) _), T2.out⟩, by simp [intOf]; omega⟩
              · have hb : b = false := by
                  rw [← HB.out]
                  exact alike_not (fun e => he (by rw [← hx.out, ← hy.out, e]))
                subst hb
                clear hT
                have hne : (x != y) = true := by simpa using he
                go_wp2_with fail
                go_quiet (fail)
                go_wp2_with fail
                go_ret
                exact ⟨rfl, Below.drewN' hB.out _⟩
            · have hnl : ¬ (k : Int) < (n3 : Int) := by omega
              have E3 : Hid (D.K = E.K) := by
                have h9 := hT.out
                rw [List.take_of_length_le (by rw [HN.out.1.2.2]; omega), List.take_of_length_le (by rw [HN.out.2.1.2.2]; omega)] at h9
                exact h9
              have hb : b = true := by
                rw [← HB.out, alikeN_iff]
                have h0 := HN.out.2.2.1.trans HN.out.2.2.2.symm
                have h1 := E1.out
                have h2 := E2.out
                have h3 := E3.out
                cases D
                cases E
                simp_all
              subst hb
              go_wp2_with fail
              go_ret
              exact ⟨rfl, hB.out⟩
set_option maxHeartbeats 2000000 in
theorem sameNodeI (b : Bool) (v v' : Value) (D E : NM) (w : World) (hD : lenN D) (hE : lenN E) (h : ReadsN w v D) (h' : ReadsN w v' E) (hb : alikeN D E = b) :
    Calls Tryz.prog 92 #[v, v'] w fun e w' => e = .returned (.bool b) ∧ Below w.heap.size w w' := by
  obtain ⟨a1, c1, a2, c2, a3, c3, rfl, s1, s2, s3⟩ := h
  obtain ⟨b1, d1, b2, d2, b3, d3, rfl, t1, t2, t3⟩ := h'
  obtain ⟨n1, hn1⟩ : ∃ n, D.P.length = n := ⟨_, rfl⟩
  obtain ⟨n2, hn2⟩ : ∃ n, D.L.length = n := ⟨_, rfl⟩
  obtain ⟨n3, hn3⟩ : ∃ n, D.K.length = n := ⟨_, rfl⟩
  obtain ⟨m1, hm1⟩ : ∃ n, E.P.length = n := ⟨_, rfl⟩
  obtain ⟨m2, hm2⟩ : ∃ n, E.L.length = n := ⟨_, rfl⟩
  obtain ⟨m3, hm3⟩ : ∃ n, E.K.length = n := ⟨_, rfl⟩
  obtain ⟨A, hA⟩ : ∃ A, D.A = A := ⟨_, rfl⟩
  obtain ⟨A', hA'⟩ : ∃ A, E.A = A := ⟨_, rfl⟩
  obtain ⟨x1, hx1⟩ : ∃ x, decide (D.P = E.P) = x := ⟨_, rfl⟩
  obtain ⟨x2, hx2⟩ : ∃ x, decide (D.L = E.L) = x := ⟨_, rfl⟩
  obtain ⟨x3, hx3⟩ : ∃ x, decide (D.K = E.K) = x := ⟨_, rfl⟩
  have HB : Hid ((A == A' && (x1 && (x2 && x3))) = b) := by show _ = _; rw [← hb, ← hA, ← hA', ← hx1, ← hx2, ← hx3]; rfl
  have AB : Hid (∀ o o', Below w.heap.size w ((w.alloc o).alloc o')) := fun o o' => ((Below.refl _ _).alloc (Nat.le_refl _) _).alloc (by simp) _
  have C1 : Hid (∀ w2, Below w.heap.size w w2 → Calls Tryz.prog 127 #[.slice a1 n1 c1, .slice b1 m1 d1] w2 fun e w' => e = .returned (.bool x1) ∧ Below w2.heap.size w2 w') := fun w2 hb2 => eqLP x1 a1 b1 n1 m1 c1 d1 D.P E.P w2 hn1 hm1 (by rw [← hn1]; exact hD.1) (by rw [← hm1]; exact hE.1) (s1.below hb2) (t1.below hb2) hx1
  have C2 : Hid (∀ w2, Below w.heap.size w w2 → Calls Tryz.prog 128 #[.slice a2 n2 c2, .slice b2 m2 d2] w2 fun e w' => e = .returned (.bool x2) ∧ Below w2.heap.size w2 w') := fun w2 hb2 => eqLS x2 a2 b2 n2 m2 c2 d2 D.L E.L w2 hn2 hm2 (by rw [← hn2]; exact hD.2.1) (by rw [← hm2]; exact hE.2.1) (s2.below hb2) (t2.below hb2) hx2
  have C3 : Hid (∀ w2, Below w.heap.size w w2 → Calls Tryz.prog 129 #[.slice a3 n3 c3, .slice b3 m3 d3] w2 fun e w' => e = .returned (.bool x3) ∧ Below w2.heap.size w2 w') := fun w2 hb2 => eqLI x3 a3 b3 n3 m3 c3 d3 D.K E.K w2 hn3 hm3 (by rw [← hn3]; exact hD.2.2) (by rw [← hm3]; exact hE.2.2) (s3.below hb2) (t3.below hb2) hx3
  rw [hn1, hn2, hn3, hA, hm1, hm2, hm3, hA']
  clear s1 s2 s3 t1 t2 t3 hn1 hn2 hn3 hA hm1 hm2 hm3 hA' hb hD hE hx1 hx2 hx3
  by_cases hAA : A = A'
  case neg =>
    have e0 : (A == A') = false := by simpa using hAA
    have hb : b = false := by rw [← HB.out, e0]; rfl
    subst hb
    go_enter Tryz.func92, Tryz.ntmps92
    go_wp2_with fail
    go_ret
    exact ⟨rfl, AB.out _ _⟩
  subst hAA
  have e0 : (A == A) = true := by simp
  have HB2 : Hid ((x1 && (x2 && x3)) = b) := by have := HB.out; rw [e0] at this; exact this
  clear HB
  go_enter Tryz.func92, Tryz.ntmps92
  go_wp2_with fail
  refine (C1.out _ (AB.out _ _)).mono ?_
  rintro e w1 ⟨rfl, hb1⟩
  have B1 : Hid (Below w.heap.size w w1) := (AB.out _ _).trans (hb1.mono (AB.out _ _).size)
  have X1 : Hid (Box w1 w.heap.size [.bool A, .slice a1 n1 c1, .slice a2 n2 c2, .slice a3 n3 c3]) := Box.below ((Box.new rfl).old _) hb1
  have Y1 : Hid (Box w1 (w.heap.size + 1) [.bool A, .slice b1 m1 d1, .slice b2 m2 d2, .slice b3 m3 d3]) := Box.below (Box.new (by simp)) hb1
  clear hb1
  cases x1 with
  | false =>
    have hb : b = false := by rw [← HB2.out]; rfl
    subst hb
    go_wp2_with fail
    go_ret
    exact ⟨rfl, B1.out⟩
  | true =>
    obtain ⟨p2, _⟩ := X1.out 2 _ rfl
    obtain ⟨q2, _⟩ := Y1.out 2 _ rfl
    go_wp2_with fail
    refine (C2.out _ B1.out).mono ?_
    rintro e w2 ⟨rfl, hb2⟩
    have B2 : Hid (Below w.heap.size w w2) := B1.out.trans (hb2.mono B1.out.size)
    obtain ⟨p3, _⟩ := (X1.out.below hb2) 3 _ rfl
    obtain ⟨q3, _⟩ := (Y1.out.below hb2) 3 _ rfl
    clear hb2 X1 Y1 p2 q2
    cases x2 with
    | false =>
      have hb : b = false := by rw [← HB2.out]; rfl
      subst hb
      go_wp2_with fail
      go_ret
      exact ⟨rfl, B2.out⟩
    | true =>
      go_wp2_with fail
      refine (C3.out _ B2.out).mono ?_
      rintro e w3 ⟨rfl, hb3⟩
      have B3 : Hid (Below w.heap.size w w3) := B2.out.trans (hb3.mono B2.out.size)
      have hb : x3 = b := by rw [← HB2.out]; simp
      subst hb
      clear hb3 p3 q3
      go_wp2_with fail
      go_ret
      exact ⟨rfl, B3.out⟩
def decNM : DecidableEq NM := fun D E => decidable_of_iff _ (alikeN_iff D E)
set_option linter.unusedSectionVars false
variable [DecidableEq NM]
theorem heap_not {H H' : List NM} {k : Nat} {D D' : NM} (h : H.getD k nm0 = D) (h' : H'.getD k nm0 = D') (hn : alikeN D D' = false) : H ≠ H' := by
  rintro rfl
  have e : D = D' := h.symm.trans h'
  rw [(alikeN_iff D D').2 e] at hn
  cases hn
set_option maxHeartbeats 2000000 in
theorem l04SameS (b : Bool) (v v' : Value) (H H' : List NM) (w : World) (hn0 : H.length ≤ 1048576) (hm0 : H'.length ≤ 1048576) (hs : ∀ D ∈ H, lenN D) (hs' : ∀ D ∈ H', lenN D) (h : ReadsH w v H) (h' : ReadsH w v' H') (hb : decide (H = H') = b) :
    Calls Tryz.prog 37 #[v, v'] w fun e w' => e = .returned (.bool b) ∧ Below w.heap.size w w' := by
  obtain ⟨a, c, rfl, hr⟩ := h
  obtain ⟨a', c', rfl, hr'⟩ := h'
  obtain ⟨n, hn⟩ : ∃ n, H.length = n := ⟨_, rfl⟩
  obtain ⟨m, hm⟩ : ∃ n, H'.length = n := ⟨_, rfl⟩
  have HS : Hid (ReadsHL w a H ∧ ReadsHL w a' H') := ⟨hr, hr'⟩
  have HL : Hid (H.length = n ∧ H'.length = m) := ⟨hn, hm⟩
  have HB : Hid (decide (H = H') = b) := hb
  have HZ : Hid ((∀ D ∈ H, lenN D) ∧ ∀ D ∈ H', lenN D) := ⟨hs, hs'⟩
  rw [hn] at hn0 ⊢
  rw [hm] at hm0 ⊢
  clear hr hr' hn hm hb hs hs'
  have AB : Hid (∀ o o', Below w.heap.size w ((w.alloc o).alloc o')) := fun o o' => ((Below.refl _ _).alloc (Nat.le_refl _) _).alloc (by simp) _
  by_cases hnm : n = m
  case neg =>
    have e1 : ((n : Int) != (m : Int)) = true := by simp; omega
    have hb : b = false := by rw [← HB.out]; exact decide_eq_false (fun e => hnm (by rw [← HL.out.1, ← HL.out.2, e]))
    subst hb
    go_enter Tryz.func37, Tryz.ntmps37
    go_wp2_with fail
    go_ret
    exact ⟨rfl, AB.out _ _⟩
  subst hnm
  have e1 : ((n : Int) != (n : Int)) = false := by simp
  go_enter Tryz.func37, Tryz.ntmps37
  go_wp2_with fail
  clear e1
  go_loopw [5] (fun i wr => ∃ k : Nat, k ≤ n ∧ i = .int .i64 k ∧ Hid (Below w.heap.size w wr) ∧ Hid (Box wr w.heap.size [.slice a n c]) ∧ Hid (Box wr (w.heap.size + 1) [.slice a' n c']) ∧ Hid (H.take k = H'.take k)) (fun i _ => n - (intOf i).toNat)
  case atStart => exact ⟨0, by omega, rfl, AB.out _ _, (Box.new rfl).old _, Box.new (by simp), rfl⟩
  case round =>
    obtain ⟨k, hk, rfl, hB, hX, hX', hT⟩ := hrel
    obtain ⟨p9, _⟩ := hX.out 0 _ rfl
    obtain ⟨q9, _⟩ := hX'.out 0 _ rfl
    by_cases hlt : k < n
    · obtain ⟨b1, o1, D, a1, c1, a2, c2, a3, c3, rfl, p0, p1, p2, p3, hD, hR⟩ := srcN (HS.out.1.below hB.out) (i := k) (by rw [HL.out.1]; exact hlt)
      obtain ⟨b2, o2, D', d1, e1, d2, e2, d3, e3, rfl, q0, q1, q2, q3, hD', hR'⟩ := srcN (HS.out.2.below hB.out) (i := k) (by rw [HL.out.2]; exact hlt)
      have hk0 : (0 : Int) ≤ (k : Int) := by omega
      have hki : (k : Int) < (n : Int) := by omega
      have ZD : Hid (lenN D) := by show lenN D; rw [← hD.out]; exact HZ.out.1 _ (getD_memH H k (by rw [HL.out.1]; exact hlt))
      have ZE : Hid (lenN D') := by show lenN D'; rw [← hD'.out]; exact HZ.out.2 _ (getD_memH H' k (by rw [HL.out.2]; exact hlt))
      cases hq : alikeN D D' with
      | true =>
        have he := (alikeN_iff D D').1 hq
        have T2 : Hid (H.take (k + 1) = H'.take (k + 1)) := take_more (d := nm0) (by rw [HL.out.1]; exact hlt) (by rw [HL.out.2]; exact hlt) hT.out (by rw [hD.out, hD'.out]; exact he)
        have HQ : Hid (alikeN D D' = true) := hq
        clear he hq
        go_wp2_with fail
        go_region_with (go_at_call 87; refine (l03EqualS true _ _ D D' _ ZD.out ZE.out hR.out.drew hR'.out.drew HQ.out).mono ?_; rintro e w1 ⟨rfl, hb1⟩)
        all_goals go_wp2_with fail
        all_goals exact ⟨⟨k + 1, by omega, by go_num, hB.out.drew.trans (hb1.mono hB.out.size), hX.out.below ((Below.refl _ _).drew.trans hb1), hX'.out.below ((Below.refl _ _).drew.trans hb1), T2.out⟩, by simp [intOf]; omega⟩
      | false =>
        have hb : b = false := by rw [← HB.out]; exact decide_eq_false (heap_not hD.out hD'.out hq)
        subst hb
        have HQ : Hid (alikeN D D' = false) := hq
        clear hq hT
        go_wp2_with fail
        go_region_with (go_at_call 87; refine (l03EqualS false _ _ D D' _ ZD.out ZE.out hR.out.drew hR'.out.drew HQ.out).mono ?_; rintro e w1 ⟨rfl, hb1⟩)
        all_goals go_wp2_with fail
        all_goals go_ret
        all_goals exact ⟨rfl, hB.out.drew.trans (hb1.mono hB.out.size)⟩
    · have hki : ¬ (k : Int) < (n : Int) := by omega
      have hb : b = true := by
        rw [← HB.out]
        have h9 := hT.out
        rw [List.take_of_length_le (by rw [HL.out.1]; omega), List.take_of_length_le (by rw [HL.out.2]; omega)] at h9
        exact decide_eq_true h9
      subst hb
      go_wp2_with fail
      go_ret
      exact ⟨rfl, hB.out⟩
set_option maxHeartbeats 2000000 in
theorem eqFuncN (b : Bool) (a a' : Option Addr) (n m c c' : Nat) (H H' : List NM) (w : World) (hn : H.length = n) (hm : H'.length = m) (hn0 : n ≤ 1048576) (hm0 : m ≤ 1048576) (hs : ∀ D ∈ H, lenN D) (hs' : ∀ D ∈ H', lenN D) (h : ReadsHL w a H) (h' : ReadsHL w a' H') (hb : decide (H = H') = b) :
    Calls Tryz.prog 91 #[.slice a n c, .slice a' m c', .func (.func 92) #[] #[]] w fun e w' => e = .returned (.bool b) ∧ Below w.heap.size w w' := by
  have HS : Hid (ReadsHL w a H ∧ ReadsHL w a' H') := ⟨h, h'⟩
  have HL : Hid (H.length = n ∧ H'.length = m) := ⟨hn, hm⟩
  have HB : Hid (decide (H = H') = b) := hb
  have HZ : Hid ((∀ D ∈ H, lenN D) ∧ ∀ D ∈ H', lenN D) := ⟨hs, hs'⟩
  clear h h' hn hm hb hs hs'
  by_cases hnm : n = m
  case neg =>
    have e1 : ((n : Int) != (m : Int)) = true := by simp; omega
    have hb : b = false := by rw [← HB.out]; exact decide_eq_false (fun e => hnm (by rw [← HL.out.1, ← HL.out.2, e]))
    subst hb
    go_enter Tryz.func91, Tryz.ntmps91
    go_wp2_with fail
    go_ret
    exact ⟨rfl, Below.refl _ _⟩
  subst hnm
  have e1 : ((n : Int) != (n : Int)) = false := by simp
  go_enter Tryz.func91, Tryz.ntmps91
  go_wp2_with fail
  clear e1
  go_loopw [17] (fun i wr => ∃ k : Nat, k ≤ n ∧ i = .int .i64 k ∧ Hid (Below w.heap.size w wr) ∧ Hid (H.take k = H'.take k)) (fun i _ => n - (intOf i).toNat)
  case atStart => exact ⟨0, by omega, rfl, Below.refl _ _, rfl⟩
  case round =>
    obtain ⟨k, hk, rfl, hB, hT⟩ := hrel
    by_cases hlt : k < n
    · obtain ⟨b1, o1, D, a1, c1, a2, c2, a3, c3, rfl, p0, p1, p2, p3, hD, hR⟩ := srcN (HS.out.1.below hB.out) (i := k) (by rw [HL.out.1]; exact hlt)
      obtain ⟨b2, o2, D', d1, e1, d2, e2, d3, e3, rfl, q0, q1, q2, q3, hD', hR'⟩ := srcN (HS.out.2.below hB.out) (i := k) (by rw [HL.out.2]; exact hlt)
      have hk0 : (0 : Int) ≤ (k : Int) := by omega
      have hki : (k : Int) < (n : Int) := by omega
      have ZD : Hid (lenN D) := by show lenN D; rw [← hD.out]; exact HZ.out.1 _ (getD_memH H k (by rw [HL.out.1]; exact hlt))
      have ZE : Hid (lenN D') := by show lenN D'; rw [← hD'.out]; exact HZ.out.2 _ (getD_memH H' k (by rw [HL.out.2]; exact hlt))
      obtain ⟨A, hA⟩ : ∃ A, D.A = A := ⟨_, rfl⟩
      obtain ⟨n1, hn1⟩ : ∃ n, D.P.length = n := ⟨_, rfl⟩
      obtain ⟨n2, hn2⟩ : ∃ n, D.L.length = n := ⟨_, rfl⟩
      obtain ⟨n3, hn3⟩ : ∃ n, D.K.length = n := ⟨_, rfl⟩
      obtain ⟨A', hA'⟩ : ∃ A, D'.A = A := ⟨_, rfl⟩
      obtain ⟨m1, hm1⟩ : ∃ n, D'.P.length = n := ⟨_, rfl⟩
      obtain ⟨m2, hm2⟩ : ∃ n, D'.L.length = n := ⟨_, rfl⟩
      obtain ⟨m3, hm3⟩ : ∃ n, D'.K.length = n := ⟨_, rfl⟩
      rw [hA] at p0 hR
      rw [hn1] at p1 hR
      rw [hn2] at p2 hR
      rw [hn3] at p3 hR
      rw [hA'] at q0 hR'
      rw [hm1] at q1 hR'
      rw [hm2] at q2 hR'
      rw [hm3] at q3 hR'
      clear hA hn1 hn2 hn3 hA' hm1 hm2 hm3
      have W1 : Hid (∀ o, Below wr.heap.size wr (wr.alloc o)) := fun o => (Below.refl _ _).alloc (Nat.le_refl _) _
      have W2 : Hid (∀ o o', Below wr.heap.size wr ((wr.alloc o).alloc o')) := fun o o' => ((Below.refl _ _).alloc (Nat.le_refl _) _).alloc (by simp) _
      have r0 := ((W1.out (.cells #[.bool A, .slice a1 n1 c1, .slice a2 n2 c2, .slice a3 n3 c3] 137)).cell (World.block_lt_of_cell? _ _ q0)).trans q0
      have r1 := ((W1.out (.cells #[.bool A, .slice a1 n1 c1, .slice a2 n2 c2, .slice a3 n3 c3] 137)).cell (World.block_lt_of_cell? _ _ q1)).trans q1
      have r2 := ((W1.out (.cells #[.bool A, .slice a1 n1 c1, .slice a2 n2 c2, .slice a3 n3 c3] 137)).cell (World.block_lt_of_cell? _ _ q2)).trans q2
      have r3 := ((W1.out (.cells #[.bool A, .slice a1 n1 c1, .slice a2 n2 c2, .slice a3 n3 c3] 137)).cell (World.block_lt_of_cell? _ _ q3)).trans q3
      obtain ⟨q, hq⟩ : ∃ q, alikeN D D' = q := ⟨_, rfl⟩
      go_wp2_with fail
      refine (sameNodeI q _ _ D D' _ ZD.out ZE.out (hR.out.below (W2.out _ _)) (hR'.out.below (W2.out _ _)) hq).mono ?_
      rintro e w1 ⟨rfl, hb1⟩
      have B1 : Hid (Below w.heap.size w w1) := hB.out.trans (((W2.out _ _).trans (hb1.mono (W2.out _ _).size)).mono hB.out.size)
      have HQ : Hid (alikeN D D' = q) := hq
      clear hb1 hq p0 p1 p2 p3 q0 q1 q2 q3 r0 r1 r2 r3 W1 W2
      cases q with
      | true =>
        have T2 : Hid (H.take (k + 1) = H'.take (k + 1)) := take_more (d := nm0) (by rw [HL.out.1]; exact hlt) (by rw [HL.out.2]; exact hlt) hT.out (by rw [hD.out, hD'.out]; exact (alikeN_iff D D').1 HQ.out)
        go_wp2_with fail
        exact ⟨⟨k + 1, by omega, by go_num, B1.out, T2.out⟩, by simp [intOf]; omega⟩
      | false =>
        have hb : b = false := by rw [← HB.out]; exact decide_eq_false (heap_not hD.out hD'.out HQ.out)
        subst hb
        clear hT
        go_wp2_with fail
        go_ret
        exact ⟨rfl, B1.out⟩
    · have hki : ¬ (k : Int) < (n : Int) := by omega
      have hb : b = true := by
        rw [← HB.out]
        have h9 := hT.out
        rw [List.take_of_length_le (by rw [HL.out.1]; omega), List.take_of_length_le (by rw [HL.out.2]; omega)] at h9
        exact decide_eq_true h9
      subst hb
      go_wp2_with fail
      go_ret
      exact ⟨rfl, hB.out⟩
end Go.Proofs.YtnnimocaanofjaaGreatDoor
