
/-
  Two states alike or not: by the program (sameKept, slices.EqualFunc, SameState). By an AI agent.
-/
import Derived.Test.YtedbgofjgnidiaaKpc
import Derived.Test.YtedbgofjgnidiaaKpq
import Derived.BigQuiet
namespace Go.Proofs.Ytedbgofjgnidiaa
open Go.ChangeShapes Go.WideShapes Go.ChangeAt Go.RowKit Go.Deep
set_option linter.unusedVariables false
set_option linter.unusedSimpArgs false
set_option maxRecDepth 100000

/-- Two kept snapshots are alike. -/
def alikeKe (D E : KeM) : Bool := decide (D.S = E.S) && (decide (D.T = E.T) && decide (D.P = E.P))
theorem alikeKe_iff (D E : KeM) : alikeKe D E = true ↔ D = E := by
  obtain ⟨a, p, l⟩ := D
  obtain ⟨a', p', l'⟩ := E
  simp [alikeKe]
def decKe : DecidableEq KeM := fun D E => decidable_of_iff _ (alikeKe_iff D E)
set_option linter.unusedSectionVars false
variable [DecidableEq KeM]
theorem kept_not {H H' : List KeM} {k : Nat} {D D' : KeM} (h : H.getD k ke0 = D) (h' : H'.getD k ke0 = D') (hn : alikeKe D D' = false) : H ≠ H' := by
  rintro rfl
  have e : D = D' := h.symm.trans h'
  rw [(alikeKe_iff D D').2 e] at hn
  cases hn
/-- Two states are alike. -/
def alikeSt (D E : StM) : Bool := decide (D.P = E.P) && decide (D.H = E.H)

set_option maxHeartbeats 2000000 in
theorem sameKeptI (b : Bool) (v v' : Value) (D E : KeM) (w : World) (hD : D.P.length ≤ 1048576) (hE : E.P.length ≤ 1048576) (h : ReadsKe w v D) (h' : ReadsKe w v' E) (hb : alikeKe D E = b) :
    Calls Try.prog 16 #[v, v'] w fun e w' => e = .returned (.bool b) ∧ Below w.heap.size w w' := by
  obtain ⟨a1, c1, rfl, s1⟩ := h
  obtain ⟨b1, d1, rfl, t1⟩ := h'
  obtain ⟨n1, hn1⟩ : ∃ n, D.P.length = n := ⟨_, rfl⟩
  obtain ⟨m1, hm1⟩ : ∃ n, E.P.length = n := ⟨_, rfl⟩
  obtain ⟨S, hS⟩ : ∃ A, D.S = A := ⟨_, rfl⟩
  obtain ⟨S', hS'⟩ : ∃ A, E.S = A := ⟨_, rfl⟩
  obtain ⟨T, hT⟩ : ∃ A, D.T = A := ⟨_, rfl⟩
  obtain ⟨T', hT'⟩ : ∃ A, E.T = A := ⟨_, rfl⟩
  obtain ⟨x1, hx1⟩ : ∃ x, decide (D.P = E.P) = x := ⟨_, rfl⟩
  have HB : Hid ((decide (S = S') && (decide (T = T') && x1)) = b) := by show _ = _; rw [← hb, ← hS, ← hS', ← hT, ← hT', ← hx1]; rfl
  have AB : Hid (∀ o o', Below w.heap.size w ((w.alloc o).alloc o')) := fun o o' => ((Below.refl _ _).alloc (Nat.le_refl _) _).alloc (by simp) _
  have C1 : Hid (∀ w2, Below w.heap.size w w2 → Calls Try.prog 14 #[.slice a1 n1 c1, .slice b1 m1 d1] w2 fun e w' => e = .returned (.bool x1) ∧ Below w2.heap.size w2 w') := fun w2 hb2 => eqLP x1 a1 b1 n1 m1 c1 d1 D.P E.P w2 hn1 hm1 (by rw [← hn1]; exact hD) (by rw [← hm1]; exact hE) (s1.below hb2) (t1.below hb2) hx1
  rw [hn1, hm1, hS, hS', hT, hT']
  clear s1 t1 hn1 hm1 hS hS' hT hT' hb hD hE hx1
  by_cases hSS : S = S'
  case neg =>
    have e0 : (S.toList == S'.toList) = false := by
      rw [beq_eq_false_iff_ne]
      intro e9
      exact hSS (toList_injE e9)
    have hb : b = false := by rw [← HB.out, decide_eq_false hSS]; rfl
    subst hb
    go_enter Try.func16, Try.ntmps16
    go_wp2_with fail
    go_ret
    exact ⟨rfl, AB.out _ _⟩
  subst hSS
  have e0 : (S.toList == S.toList) = true := by simp
  by_cases hTT : T = T'
  case neg =>
    have e1 : (T == T') = false := by simpa using hTT
    have hb : b = false := by rw [← HB.out, decide_eq_false hTT]; simp
    subst hb
    go_enter Try.func16, Try.ntmps16
    go_wp2_with fail
    go_ret
    exact ⟨rfl, AB.out _ _⟩
  subst hTT
  have e1 : (T == T) = true := by simp
  have hb : x1 = b := by rw [← HB.out]; simp
  subst hb
  clear HB
  go_enter Try.func16, Try.ntmps16
  go_wp2_with fail
  refine (C1.out _ (AB.out _ _)).mono ?_
  rintro e w1 ⟨rfl, hb1⟩
  have B1 : Hid (Below w.heap.size w w1) := (AB.out _ _).trans (hb1.mono (AB.out _ _).size)
  clear hb1
  go_wp2_with fail
  go_ret
  exact ⟨rfl, B1.out⟩

set_option maxHeartbeats 2000000 in
theorem eqFuncKe (b : Bool) (a a' : Option Addr) (n m c c' : Nat) (H H' : List KeM) (w : World) (hn : H.length = n) (hm : H'.length = m) (hn0 : n ≤ 1048576) (hm0 : m ≤ 1048576) (hs : ∀ D ∈ H, D.P.length ≤ 1048576) (hs' : ∀ D ∈ H', D.P.length ≤ 1048576) (h : ReadsKL w a H) (h' : ReadsKL w a' H') (hb : decide (H = H') = b) :
    Calls Try.prog 15 #[.slice a n c, .slice a' m c', .func (.func 16) #[] #[]] w fun e w' => e = .returned (.bool b) ∧ Below w.heap.size w w' := by
  have HS : Hid (ReadsKL w a H ∧ ReadsKL w a' H') := ⟨h, h'⟩
  have HL : Hid (H.length = n ∧ H'.length = m) := ⟨hn, hm⟩
  have HB : Hid (decide (H = H') = b) := hb
  have HZ : Hid ((∀ D ∈ H, D.P.length ≤ 1048576) ∧ ∀ D ∈ H', D.P.length ≤ 1048576) := ⟨hs, hs'⟩
  clear h h' hn hm hb hs hs'
  by_cases hnm : n = m
  case neg =>
    have e1 : ((n : Int) != (m : Int)) = true := by simp; omega
    have hb : b = false := by rw [← HB.out]; exact decide_eq_false (fun e => hnm (by rw [← HL.out.1, ← HL.out.2, e]))
    subst hb
    go_enter Try.func15, Try.ntmps15
    go_wp2_with fail
    go_ret
    exact ⟨rfl, Below.refl _ _⟩
  subst hnm
  have e1 : ((n : Int) != (n : Int)) = false := by simp
  go_enter Try.func15, Try.ntmps15
  go_wp2_with fail
  clear e1
  go_loopw [17] (fun i wr => ∃ k : Nat, k ≤ n ∧ i = .int .i64 k ∧ Hid (Below w.heap.size w wr) ∧ Hid (H.take k = H'.take k)) (fun i _ => n - (intOf i).toNat)
  case atStart => exact ⟨0, by omega, rfl, Below.refl _ _, rfl⟩
  case round =>
    obtain ⟨k, hk, rfl, hB, hT⟩ := hrel
    by_cases hlt : k < n
    · obtain ⟨b1, o1, D, a1, c1, rfl, p0, p1, p2, hD, hR⟩ := srcKe (HS.out.1.below hB.out) (i := k) (by rw [HL.out.1]; exact hlt)
      obtain ⟨b2, o2, D', d1, e1, rfl, q0, q1, q2, hD', hR'⟩ := srcKe (HS.out.2.below hB.out) (i := k) (by rw [HL.out.2]; exact hlt)
      have hk0 : (0 : Int) ≤ (k : Int) := by omega
      have hki : (k : Int) < (n : Int) := by omega
      have ZD : Hid (D.P.length ≤ 1048576) := by show D.P.length ≤ _; rw [← hD.out]; exact HZ.out.1 _ (getD_memK H k (by rw [HL.out.1]; exact hlt))
      have ZE : Hid (D'.P.length ≤ 1048576) := by show D'.P.length ≤ _; rw [← hD'.out]; exact HZ.out.2 _ (getD_memK H' k (by rw [HL.out.2]; exact hlt))
      obtain ⟨S, hS⟩ : ∃ A, D.S = A := ⟨_, rfl⟩
      obtain ⟨T, hT9⟩ : ∃ A, D.T = A := ⟨_, rfl⟩
      obtain ⟨n1, hn1⟩ : ∃ n, D.P.length = n := ⟨_, rfl⟩
      obtain ⟨S', hS'⟩ : ∃ A, D'.S = A := ⟨_, rfl⟩
      obtain ⟨T', hT9'⟩ : ∃ A, D'.T = A := ⟨_, rfl⟩
      obtain ⟨m1, hm1⟩ : ∃ n, D'.P.length = n := ⟨_, rfl⟩
      rw [hS] at p0 hR
      rw [hT9] at p1 hR
      rw [hn1] at p2 hR
      rw [hS'] at q0 hR'
      rw [hT9'] at q1 hR'
      rw [hm1] at q2 hR'
      clear hS hT9 hn1 hS' hT9' hm1
      have W1 : Hid (∀ o, Below wr.heap.size wr (wr.alloc o)) := fun o => (Below.refl _ _).alloc (Nat.le_refl _) _
      have W2 : Hid (∀ o o', Below wr.heap.size wr ((wr.alloc o).alloc o')) := fun o o' => ((Below.refl _ _).alloc (Nat.le_refl _) _).alloc (by simp) _
      have r0 := ((W1.out (.cells #[.string S, .int .i64 T, .slice a1 n1 c1] 38)).cell (World.block_lt_of_cell? _ _ q0)).trans q0
      have r1 := ((W1.out (.cells #[.string S, .int .i64 T, .slice a1 n1 c1] 38)).cell (World.block_lt_of_cell? _ _ q1)).trans q1
      have r2 := ((W1.out (.cells #[.string S, .int .i64 T, .slice a1 n1 c1] 38)).cell (World.block_lt_of_cell? _ _ q2)).trans q2
      obtain ⟨q, hq⟩ : ∃ q, alikeKe D D' = q := ⟨_, rfl⟩
      go_wp2_with fail
      refine (sameKeptI q _ _ D D' _ ZD.out ZE.out (hR.out.below (W2.out _ _)) (hR'.out.below (W2.out _ _)) hq).mono ?_
      rintro e w1 ⟨rfl, hb1⟩
      have B1 : Hid (Below w.heap.size w w1) := hB.out.trans (((W2.out _ _).trans (hb1.mono (W2.out _ _).size)).mono hB.out.size)
      have HQ : Hid (alikeKe D D' = q) := hq
      clear hb1 hq p0 p1 p2 q0 q1 q2 r0 r1 r2 W1 W2
      cases q with
      | true =>
        have T2 : Hid (H.take (k + 1) = H'.take (k + 1)) := take_more (d := ke0) (by rw [HL.out.1]; exact hlt) (by rw [HL.out.2]; exact hlt) hT.out (by rw [hD.out, hD'.out]; exact (alikeKe_iff D D').1 HQ.out)
        go_wp2_with fail
        exact ⟨⟨k + 1, by omega, by go_num, B1.out, T2.out⟩, by simp [intOf]; omega⟩
      | false =>
        have hb : b = false := by rw [← HB.out]; exact decide_eq_false (kept_not hD.out hD'.out HQ.out)
        subst hb
        clear hT
        go_wp2_with fail
        go_ret
        exact ⟨rfl, B1.out⟩
    · have hki : ¬ (k : Int) < (n : Int) := by omega
      have hb : b = true := by
        rw [← HB.out]
        have h9 := hT.out
        rw [List.take_of_length_le (by rw [HL.out.1]; omega), List.take_of_length_le (by rw [HL.out.2]; omega)] at h9
        exact decide_eq_true h9
      subst hb
      go_wp2_with fail
      go_ret
      exact ⟨rfl, hB.out⟩

set_option maxHeartbeats 2000000 in
theorem implSameState (b : Bool) (v v' : Value) (D E : StM) (w : World) (hD : smallSt D) (hE : smallSt E) (h : ReadsSt w v D) (h' : ReadsSt w v' E) (hb : alikeSt D E = b) :
    Calls Try.prog 7 #[v, v'] w fun e w' => e = .returned (.bool b) ∧ Below w.heap.size w w' := by
  obtain ⟨a1, c1, a2, c2, rfl, s1, s2⟩ := h
  obtain ⟨b1, d1, b2, d2, rfl, t1, t2⟩ := h'
  obtain ⟨n1, hn1⟩ : ∃ n, D.P.length = n := ⟨_, rfl⟩
  obtain ⟨n2, hn2⟩ : ∃ n, D.H.length = n := ⟨_, rfl⟩
  obtain ⟨m1, hm1⟩ : ∃ n, E.P.length = n := ⟨_, rfl⟩
  obtain ⟨m2, hm2⟩ : ∃ n, E.H.length = n := ⟨_, rfl⟩
  obtain ⟨x1, hx1⟩ : ∃ x, decide (D.P = E.P) = x := ⟨_, rfl⟩
  obtain ⟨x2, hx2⟩ : ∃ x, decide (D.H = E.H) = x := ⟨_, rfl⟩
  have HB : Hid ((x1 && x2) = b) := by show _ = _; rw [← hb, ← hx1, ← hx2]; rfl
  have AB : Hid (∀ o o', Below w.heap.size w ((w.alloc o).alloc o')) := fun o o' => ((Below.refl _ _).alloc (Nat.le_refl _) _).alloc (by simp) _
  have C1 : Hid (∀ w2, Below w.heap.size w w2 → Calls Try.prog 14 #[.slice a1 n1 c1, .slice b1 m1 d1] w2 fun e w' => e = .returned (.bool x1) ∧ Below w2.heap.size w2 w') := fun w2 hb2 => eqLP x1 a1 b1 n1 m1 c1 d1 D.P E.P w2 hn1 hm1 (by rw [← hn1]; exact hD.1) (by rw [← hm1]; exact hE.1) (s1.below hb2) (t1.below hb2) hx1
  have C2 : Hid (∀ w2, Below w.heap.size w w2 → Calls Try.prog 15 #[.slice a2 n2 c2, .slice b2 m2 d2, .func (.func 16) #[] #[]] w2 fun e w' => e = .returned (.bool x2) ∧ Below w2.heap.size w2 w') := fun w2 hb2 => eqFuncKe x2 a2 b2 n2 m2 c2 d2 D.H E.H w2 hn2 hm2 (by rw [← hn2]; exact hD.2.2.1) (by rw [← hm2]; exact hE.2.2.1) (fun F hF => (hD.2.2.2 F hF).2.1) (fun F hF => (hE.2.2.2 F hF).2.1) (s2.below hb2) (t2.below hb2) hx2
  rw [hn1, hn2, hm1, hm2]
  clear s1 s2 t1 t2 hn1 hn2 hm1 hm2 hb hD hE hx1 hx2
  go_enter Try.func7, Try.ntmps7
  go_wp2_with fail
  refine (C1.out _ (AB.out _ _)).mono ?_
  rintro e w1 ⟨rfl, hb1⟩
  have B1 : Hid (Below w.heap.size w w1) := (AB.out _ _).trans (hb1.mono (AB.out _ _).size)
  have X1 : Hid (Box w1 w.heap.size [.slice a1 n1 c1, .slice a2 n2 c2]) := Box.below ((Box.new rfl).old _) hb1
  have Y1 : Hid (Box w1 (w.heap.size + 1) [.slice b1 m1 d1, .slice b2 m2 d2]) := Box.below (Box.new (by simp)) hb1
  clear hb1
  cases x1 with
  | false =>
    have hb : b = false := by rw [← HB.out]; rfl
    subst hb
    go_wp2_with fail
    go_ret
    exact ⟨rfl, B1.out⟩
  | true =>
    obtain ⟨p2, _⟩ := X1.out 1 _ rfl
    obtain ⟨q2, _⟩ := Y1.out 1 _ rfl
    go_wp2_with fail
    refine (C2.out _ B1.out).mono ?_
    rintro e w2 ⟨rfl, hb2⟩
    have B2 : Hid (Below w.heap.size w w2) := B1.out.trans (hb2.mono B1.out.size)
    have hb : x2 = b := by rw [← HB.out]; simp
    subst hb
    clear hb2 X1 Y1 p2 q2
    go_wp2_with fail
    go_ret
    exact ⟨rfl, B2.out⟩
end Go.Proofs.Ytedbgofjgnidiaa
