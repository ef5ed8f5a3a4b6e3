
/-
  Two states alike or not, by the specification. By an AI agent.
-/
import Derived.Test.YtedbgofjgnidiaaKpe
namespace Go.Proofs.Ytedbgofjgnidiaa
open Go.ChangeShapes Go.WideShapes Go.ChangeAt Go.RowKit Go.Deep
set_option linter.unusedVariables false
set_option linter.unusedSimpArgs false
set_option maxRecDepth 100000
set_option linter.unusedSectionVars false
variable [DecidableEq KeM]

set_option maxHeartbeats 4000000 in
theorem specSameState (b : Bool) (v v' : Value) (D E : StM) (w : World) (hD : smallSt D) (hE : smallSt E) (h : ReadsSt w v D) (h' : ReadsSt w v' E) (hb : alikeSt D E = b) :
    Calls Try.prog 5 #[v, v'] w fun e w' => e = .returned (.bool b) ∧ Below w.heap.size w w' := by
  obtain ⟨a1, c1, a2, c2, rfl, s1, s2⟩ := h
  obtain ⟨b1, d1, b2, d2, rfl, t1, t2⟩ := h'
  obtain ⟨n1, hn1⟩ : ∃ n, D.P.length = n := ⟨_, rfl⟩
  obtain ⟨n2, hn2⟩ : ∃ n, D.H.length = n := ⟨_, rfl⟩
  obtain ⟨m1, hm1⟩ : ∃ n, E.P.length = n := ⟨_, rfl⟩
  obtain ⟨m2, hm2⟩ : ∃ n, E.H.length = n := ⟨_, rfl⟩
  obtain ⟨x1, hx1⟩ : ∃ x, decide (D.P = E.P) = x := ⟨_, rfl⟩
  have HB : Hid ((x1 && decide (D.H = E.H)) = b) := by show _ = _; rw [← hb, ← hx1]; rfl
  have HS : Hid (ReadsKL w a2 D.H ∧ ReadsKL w b2 E.H) := ⟨s2, t2⟩
  have HZ : Hid ((∀ F ∈ D.H, F.P.length ≤ 1048576) ∧ ∀ F ∈ E.H, F.P.length ≤ 1048576) := ⟨fun F hF => (hD.2.2.2 F hF).2.1, fun F hF => (hE.2.2.2 F hF).2.1⟩
  have HL : Hid (D.H.length = n2 ∧ E.H.length = m2) := ⟨hn2, hm2⟩
  have z2 : n2 ≤ 1048576 := by rw [← hn2]; exact hD.2.2.1
  have y2 : m2 ≤ 1048576 := by rw [← hm2]; exact hE.2.2.1
  have AB : Hid (∀ o o', Below w.heap.size w ((w.alloc o).alloc o')) := fun o o' => ((Below.refl _ _).alloc (Nat.le_refl _) _).alloc (by simp) _
  have C1 : Hid (∀ w2, Below w.heap.size w w2 → Calls Try.prog 11 #[.slice a1 n1 c1, .slice b1 m1 d1] w2 fun e w' => e = .returned (.bool x1) ∧ Below w2.heap.size w2 w') := fun w2 hb2 => l11SameP x1 a1 b1 n1 m1 c1 d1 D.P E.P w2 hn1 hm1 (by rw [← hn1]; exact hD.1) (by rw [← hm1]; exact hE.1) (s1.below hb2) (t1.below hb2) hx1
  rw [hn1, hn2, hm1, hm2]
  clear s1 s2 t1 t2 hn1 hn2 hm1 hm2 hb hD hE hx1
  go_enter Try.func5, Try.ntmps5
  go_wp2_with fail
  refine (C1.out _ (AB.out _ _)).mono ?_
  rintro e w1 ⟨rfl, hb1⟩
  have B1 : Hid (Below w.heap.size w w1) := (AB.out _ _).trans (hb1.mono (AB.out _ _).size)
  have X1 : Hid (Box w1 w.heap.size [.slice a1 n1 c1, .slice a2 n2 c2]) := Box.below ((Box.new rfl).old _) hb1
  have Y1 : Hid (Box w1 (w.heap.size + 1) [.slice b1 m1 d1, .slice b2 m2 d2]) := Box.below (Box.new (by simp)) hb1
  clear hb1
  cases x1 with
  | false =>
    have hb : b = false := by rw [← HB.out]; rfl
    subst hb
    go_wp2_with fail
    go_ret
    exact ⟨rfl, B1.out⟩
  | true =>
    have HB2 : Hid (decide (D.H = E.H) = b) := by show _ = _; have := HB.out; simpa using this
    clear HB
    obtain ⟨p2, _⟩ := X1.out 1 _ rfl
    obtain ⟨q2, _⟩ := Y1.out 1 _ rfl
    by_cases hnm : n2 = m2
    case neg =>
      have e1 : ((n2 : Int) != (m2 : Int)) = true := by simp; omega
      have hb : b = false := by rw [← HB2.out]; exact decide_eq_false (fun e => hnm (by rw [← HL.out.1, ← HL.out.2, e]))
      subst hb
      go_wp2_with fail
      go_ret
      exact ⟨rfl, B1.out⟩
    subst hnm
    have e1 : ((n2 : Int) != (n2 : Int)) = false := by simp
    go_wp2_with fail
    clear e1 p2 q2
    go_loopw [5] (fun i wr => ∃ k : Nat, k ≤ n2 ∧ i = .int .i64 k ∧ Hid (Below w.heap.size w wr) ∧ Hid (Box wr w.heap.size [.slice a1 n1 c1, .slice a2 n2 c2]) ∧ Hid (Box wr (w.heap.size + 1) [.slice b1 m1 d1, .slice b2 n2 d2]) ∧ Hid (D.H.take k = E.H.take k)) (fun i _ => n2 - (intOf i).toNat)
    case atStart => exact ⟨0, by omega, rfl, B1.out, X1.out, Y1.out, rfl⟩
    case round =>
      obtain ⟨k, hk, rfl, hB, hX, hY, hT⟩ := hrel
      obtain ⟨p9, _⟩ := hX.out 1 _ rfl
      obtain ⟨q9, _⟩ := hY.out 1 _ rfl
      by_cases hlt : k < n2
      · obtain ⟨b3, o3, F, a4, c4, rfl, p0, p1, p2, hF, hR⟩ := srcKe (HS.out.1.below hB.out) (i := k) (by rw [HL.out.1]; exact hlt)
        obtain ⟨b4, o4, G, d4, e4, rfl, q0, q1, q2, hG, hR'⟩ := srcKe (HS.out.2.below hB.out) (i := k) (by rw [HL.out.2]; exact hlt)
        have hk0 : (0 : Int) ≤ (k : Int) := by omega
        have hki : (k : Int) < (n2 : Int) := by omega
        have ZD : Hid (F.P.length ≤ 1048576) := by show F.P.length ≤ _; rw [← hF.out]; exact HZ.out.1 _ (getD_memK D.H k (by rw [HL.out.1]; exact hlt))
        have ZE : Hid (G.P.length ≤ 1048576) := by show G.P.length ≤ _; rw [← hG.out]; exact HZ.out.2 _ (getD_memK E.H k (by rw [HL.out.2]; exact hlt))
        obtain ⟨S, hS⟩ : ∃ A, F.S = A := ⟨_, rfl⟩
        obtain ⟨T, hT9⟩ : ∃ A, F.T = A := ⟨_, rfl⟩
        obtain ⟨f1, hf1⟩ : ∃ n, F.P.length = n := ⟨_, rfl⟩
        obtain ⟨S', hS'⟩ : ∃ A, G.S = A := ⟨_, rfl⟩
        obtain ⟨T', hT9'⟩ : ∃ A, G.T = A := ⟨_, rfl⟩
        obtain ⟨g1, hg1⟩ : ∃ n, G.P.length = n := ⟨_, rfl⟩
        obtain ⟨y, hy⟩ : ∃ x, decide (F.P = G.P) = x := ⟨_, rfl⟩
        have HQ : Hid (alikeKe F G = (decide (S = S') && (decide (T = T') && y))) := by show _ = _; rw [← hS, ← hS', ← hT9, ← hT9', ← hy]; rfl
        have C2 : Hid (∀ w2, Below wr.heap.size wr w2 → Calls Try.prog 11 #[.slice a4 f1 c4, .slice d4 g1 e4] w2 fun e w' => e = .returned (.bool y) ∧ ∃ q, w' = w2.drewN q) := fun w2 hb2 => by
          obtain ⟨a8, c8, e8, s8⟩ := hR.out
          obtain ⟨a7, c7, e7, s7⟩ := hR'.out
          cases e8
          cases e7
          exact l11SameQ y a4 d4 f1 g1 c4 e4 F.P G.P w2 hf1 hg1 (by rw [← hf1]; exact ZD.out) (by rw [← hg1]; exact ZE.out) (s8.below hb2) (s7.below hb2) hy
        rw [hS] at p0
        rw [hT9] at p1
        rw [hf1] at p2
        rw [hS'] at q0
        rw [hT9'] at q1
        rw [hg1] at q2
        clear hS hT9 hf1 hS' hT9' hg1 hy hR hR'
        by_cases hSS : S = S'
        case neg =>
          have e0 : (S.toList == S'.toList) = false := by
            rw [beq_eq_false_iff_ne]
            intro e9
            exact hSS (toList_injE e9)
          have hb : b = false := by rw [← HB2.out]; exact decide_eq_false (kept_not hF.out hG.out (by rw [HQ.out, decide_eq_false hSS]; rfl))
          subst hb
          clear hT C2
          go_wp2_with fail
          go_quiet (fail)
          go_wp2_with fail
          go_ret
          exact ⟨rfl, Below.drewN' hB.out _⟩
        subst hSS
        by_cases hTT : T = T'
        case neg =>
          have e0 : (S.toList == S.toList) = true := by simp
          have e1 : (T != T') = true := by simpa using hTT
          have hb : b = false := by rw [← HB2.out]; exact decide_eq_false (kept_not hF.out hG.out (by rw [HQ.out, decide_eq_false hTT]; simp))
          subst hb
          clear hT C2
          go_wp2_with fail
          go_quiet (fail)
          go_wp2_with fail
          go_ret
          exact ⟨rfl, Below.drewN' hB.out _⟩
        subst hTT
        have e1 : (T != T) = false := by simp
        have HQ2 : Hid (alikeKe F G = y) := by show _ = _; have := HQ.out; simpa using this
        clear HQ
        cases y with
        | true =>
          have T2 : Hid (D.H.take (k + 1) = E.H.take (k + 1)) := take_more (d := ke0) (by rw [HL.out.1]; exact hlt) (by rw [HL.out.2]; exact hlt) hT.out (by rw [hF.out, hG.out]; exact (alikeKe_iff F G).1 HQ2.out)
          go_wp2_with fail
          go_quiet ((go_at_call 11; exact Calls.quiet_of (C2.out _ (Below.drewN' (Below.refl _ _) _))))
          go_wp2_with fail
          exact ⟨⟨k + 1, by omega, by go_num, Below.drewN' hB.out _, hX.out, hY.out, T2.out⟩, by simp [intOf]; omega⟩
        | false =>
          have hb : b = false := by rw [← HB2.out]; exact decide_eq_false (kept_not hF.out hG.out HQ2.out)
          subst hb
          clear hT
          go_wp2_with fail
          go_quiet ((go_at_call 11; exact Calls.quiet_of (C2.out _ (Below.drewN' (Below.refl _ _) _))))
          go_wp2_with fail
          go_ret
          exact ⟨rfl, Below.drewN' hB.out _⟩
      · have hki : ¬ (k : Int) < (n2 : Int) := by omega
        have hb : b = true := by
          rw [← HB2.out]
          have h9 := hT.out
          rw [List.take_of_length_le (by rw [HL.out.1]; omega), List.take_of_length_le (by rw [HL.out.2]; omega)] at h9
          exact decide_eq_true h9
        subst hb
        go_wp2_with fail
        go_ret
        exact ⟨rfl, hB.out⟩
end Go.Proofs.Ytedbgofjgnidiaa
