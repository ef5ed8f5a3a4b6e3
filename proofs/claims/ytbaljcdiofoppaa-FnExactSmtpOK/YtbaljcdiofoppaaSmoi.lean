
/-
  What a right session that takes mail is: the program's SmtpOK. By an AI agent.
-/
import Derived.Test.YtbaljcdiofoppaaSmok
import Derived.Test.YtbaljcdiofoppaaCuts
namespace Go.Proofs.Ytbaljcdiofoppaa
open Go.ChangeShapes Go.WideShapes Go.ChangeAt Go.RowKit Go.Deep
set_option linter.unusedVariables false
set_option maxRecDepth 100000

/-- The row of Rcpts has the room that it says. -/
def CapT (v : Value) : Prop := ∃ x0 x1 x2 x3 a n c y, v = .agg #[x0, x1, x2, x3, .slice a n c, y] ∧ n ≤ c
theorem OwnsT.cap {w : World} {lo hi : Nat} {v : Value} {D : SMT} (h : OwnsT w lo hi v D) : CapT v := by
  obtain ⟨v1, v2, rfl, h1, h2, _⟩ := h
  obtain ⟨a1, c1, rfl⟩ := h1.lit
  exact ⟨_, _, _, _, _, _, _, _, rfl, (own_capx h1.1).1⟩
theorem shortIs (b : Bool) (s : ByteArray) (w : World) (h : shortB s = b) (hs : s.size ≤ maxLen) : Calls Try.prog 25 #[.string s] w fun e w' => e = .returned (.bool b) ∧ w' = w := by
  rw [← h]; exact (shortName s w hs).mono fun e w' ⟨h1, h2⟩ => ⟨h1, h2.symm⟩
theorem l04Is (b : Bool) (s : ByteArray) (w : World) (h : shortB s = b) (hs : s.size ≤ maxLen) : Calls Try.prog 18 #[.string s] w fun e w' => e = .returned (.bool b) ∧ w' = w := by
  rw [← h]; exact (l04Name s w hs).mono fun e w' ⟨h1, h2⟩ => ⟨h1, h2.symm⟩
theorem containsIs (q : Bool) (a : Option Addr) (n c : Nat) (R : List ByteArray) (x : ByteArray) (w : World) (hR : R.length = n) (hn : n ≤ 1048576) (h : Src w a (cellsS R)) (hq : R.any (fun y => y.toList == x.toList) = q) :
    Calls Try.prog 26 #[.slice a n c, .string x] w fun e w' => e = .returned (.bool q) ∧ w' = w := by
  rw [← hq]; exact (containsS a n c R x w hR hn h).mono fun e w' ⟨h1, h2⟩ => ⟨h1, h2.symm⟩

set_option maxHeartbeats 2000000 in
theorem fromFits (v : Value) (D : SMT) (w : World) (hs : smallT D) (h : ReadsT w v D) :
    Calls Try.prog 20 #[v] w fun e w' => e = .returned (.bool (fromB D)) ∧ Below w.heap.size w w' := by
  obtain ⟨a, c, b, d, rfl, s1, s2⟩ := h
  obtain ⟨H, hH⟩ : ∃ H, D.H = H := ⟨_, rfl⟩
  obtain ⟨Q, hQ⟩ : ∃ Q, D.D = Q := ⟨_, rfl⟩
  obtain ⟨O, hO⟩ : ∃ O, D.O = O := ⟨_, rfl⟩
  obtain ⟨F, hF⟩ : ∃ F, D.F = F := ⟨_, rfl⟩
  obtain ⟨n, hn⟩ : ∃ n, D.R.length = n := ⟨_, rfl⟩
  obtain ⟨m, hm⟩ : ∃ m, D.L.length = m := ⟨_, rfl⟩
  have S1 : Hid (Src w a (cellsS D.R)) := s1
  have S2 : Hid (Src w b (cellsS D.L)) := s2
  have N1 : Hid (D.R.length = n) := hn
  have N2 : Hid (D.L.length = m) := hm
  have HSM : Hid (smallT D) := hs
  have NB : n ≤ 1048576 := by rw [← hn]; exact hs.1.1
  have MB : m ≤ 1048576 := by rw [← hm]; exact hs.2.1.1
  obtain ⟨bb, hbb⟩ : ∃ bb, fromB D = bb := ⟨_, rfl⟩
  have HF : Hid (bb = (F.toList == [] || (shortB F && H && O))) := by show bb = _; rw [← hbb, ← hF, ← hH, ← hO]; rfl
  have SF : Hid (F.size ≤ maxLen) := by show F.size ≤ maxLen; unfold maxLen; rw [← hF]; have := hs.2.2; omega
  rw [hbb, hH, hQ, hO, hF, hn, hm]
  clear s1 s2 hH hQ hO hF hn hm hbb hs
  cases e1 : F.toList == [] with
  | true =>
    have R1 : Hid (bb = true) := by show _ = _; rw [HF.out, e1]; rfl
    have e2 : F.toList = [] := by simpa using e1
    clear HF e1
    go_enter Try.func20, Try.ntmps20
    go_wp2_with fail
    go_ret
    exact ⟨ret_bool R1.out.symm, (Below.refl _ _).alloc (Nat.le_refl _) _⟩
  | false =>
    have e2 : ¬ F.toList = [] := by simpa using e1
    have e3 : F.toList.isEmpty = false := by rw [List.isEmpty_eq_false_iff]; exact e2
    cases h1 : shortB F with
    | false =>
      have R1 : Hid (bb = false) := by show _ = _; rw [HF.out, e1, h1]; rfl
      have H1 : Hid (shortB F = false) := h1
      clear HF h1
      go_enter Try.func20, Try.ntmps20
      go_wp2_with fail
      refine (shortIs false F _ H1.out SF.out).mono ?_
      rintro e w1 ⟨rfl, rfl⟩
      go_wp2_with fail
      go_ret
      exact ⟨ret_bool R1.out.symm, (Below.refl _ _).alloc (Nat.le_refl _) _⟩
    | true =>
      have R1 : Hid (bb = (H && O)) := by show _ = _; rw [HF.out, e1, h1]; simp
      have H1 : Hid (shortB F = true) := h1
      clear HF h1
      cases H <;> cases O
      all_goals
        go_enter Try.func20, Try.ntmps20
        go_wp2_with fail
        refine (shortIs true F _ H1.out SF.out).mono ?_
        rintro e w1 ⟨rfl, rfl⟩
        go_wp2_with fail
        go_ret
        exact ⟨ret_bool R1.out.symm, (Below.refl _ _).alloc (Nat.le_refl _) _⟩

set_option maxHeartbeats 4000000 in
theorem rcptsFit (v : Value) (D : SMT) (w : World) (hs : smallT D) (hc : CapT v) (h : ReadsT w v D) :
    Calls Try.prog 21 #[v] w fun e w' => e = .returned (.bool (rcptsOK D)) ∧ Below w.heap.size w w' := by
  obtain ⟨a, c, b, d, rfl, s1, s2⟩ := h
  obtain ⟨H, hH⟩ : ∃ H, D.H = H := ⟨_, rfl⟩
  obtain ⟨Q, hQ⟩ : ∃ Q, D.D = Q := ⟨_, rfl⟩
  obtain ⟨O, hO⟩ : ∃ O, D.O = O := ⟨_, rfl⟩
  obtain ⟨F, hF⟩ : ∃ F, D.F = F := ⟨_, rfl⟩
  obtain ⟨n, hn⟩ : ∃ n, D.R.length = n := ⟨_, rfl⟩
  obtain ⟨m, hm⟩ : ∃ m, D.L.length = m := ⟨_, rfl⟩
  have S1 : Hid (Src w a (cellsS D.R)) := s1
  have S2 : Hid (Src w b (cellsS D.L)) := s2
  have N1 : Hid (D.R.length = n) := hn
  have N2 : Hid (D.L.length = m) := hm
  have HSM : Hid (smallT D) := hs
  have NB : n ≤ 1048576 := by rw [← hn]; exact hs.1.1
  have MB : m ≤ 1048576 := by rw [← hm]; exact hs.2.1.1
  have hcn : n ≤ c := by obtain ⟨_, _, _, _, _, _, _, _, hv, hle⟩ := hc; cases hv; rw [← hn]; exact hle
  clear hc
  obtain ⟨bb, hbb⟩ : ∃ bb, rcptsOK D = bb := ⟨_, rfl⟩
  have HF : Hid (bb = (decide (n ≤ 2) && !(decide (0 < n) && F.toList == []) && rcptsB D.R)) := by show bb = _; rw [← hbb, ← hF, ← hn]; rfl
  rw [hbb, hH, hQ, hO, hF, hn, hm]
  clear s1 s2 hH hQ hO hF hn hm hbb hs
  by_cases t1 : (2 : Int) < (n : Int)
  · have R1 : Hid (bb = false) := by show _ = _; rw [HF.out, decide_eq_false (p := n ≤ 2) (by omega)]; rfl
    clear HF
    go_enter Try.func21, Try.ntmps21
    go_wp2_with fail
    go_ret
    exact ⟨ret_bool R1.out.symm, (Below.refl _ _).alloc (Nat.le_refl _) _⟩
  have R2 : Hid (bb = (!(decide (0 < n) && F.toList == []) && rcptsB D.R)) := by show _ = _; rw [HF.out, decide_eq_true (p := n ≤ 2) (by omega)]; rfl
  clear HF
  by_cases t2 : n = 0
  · subst t2
    have R3 : Hid (bb = true) := by
      show _ = _
      rw [R2.out]
      have : rcptsB D.R = true := by unfold rcptsB; rw [N1.out]; rfl
      rw [this]; rfl
    clear R2
    go_enter Try.func21, Try.ntmps21
    go_wp2_with fail
    go_loopw [23] (fun i wr => i = .int .i64 0 ∧ Hid (Below w.heap.size w wr)) (fun i _ => 0)
    case atStart => exact ⟨rfl, (Below.refl _ _).alloc (Nat.le_refl _) _⟩
    case round =>
      obtain ⟨rfl, hb⟩ := hrel
      go_wp2_with fail
      go_ret
      exact ⟨ret_bool R3.out.symm, hb.out⟩
  have t3 : (0 : Int) < (n : Int) := by omega
  have t4 : 0 < n := by omega
  cases e1 : F.toList == [] with
  | true =>
    have R1 : Hid (bb = false) := by show _ = _; rw [R2.out, e1, decide_eq_true t4]; rfl
    have e2 : F.toList = [] := by simpa using e1
    clear R2 e1
    go_enter Try.func21, Try.ntmps21
    go_wp2_with fail
    go_ret
    exact ⟨ret_bool R1.out.symm, (Below.refl _ _).alloc (Nat.le_refl _) _⟩
  | false =>
    have e2 : ¬ F.toList = [] := by simpa using e1
    have e3 : F.toList.isEmpty = false := by rw [List.isEmpty_eq_false_iff]; exact e2
    have FP : Hid (bb = rcptsB D.R) := by show _ = _; rw [R2.out, e1]; simp
    clear R2
    go_enter Try.func21, Try.ntmps21
    go_wp2_with fail
    go_loopw [23] (fun i wr => ∃ k : Nat, k ≤ n ∧ i = .int .i64 k ∧ Hid (∀ j, j < k → rcptB D.R j = true) ∧ Hid (Below w.heap.size w wr) ∧ Hid (Box wr w.heap.size [.bool H, .bool Q, .bool O, .string F, .slice a n c, .slice b m d])) (fun i _ => n - (intOf i).toNat)
    case atStart => exact ⟨0, by omega, rfl, fun j hj => absurd hj (by omega), (Below.refl _ _).alloc (Nat.le_refl _) _, Box.new rfl⟩
    case round =>
      obtain ⟨k, hk, rfl, hg, hb, hx⟩ := hrel
      by_cases hlt : k < n
      · obtain ⟨B, o, x, rfl, q1, hy⟩ := srcS (S1.out.below hb.out) (i := k) (by rw [N1.out]; exact hlt)
        have hki : (k : Int) < (n : Int) := by omega
        have SX : Hid (x.size ≤ maxLen) := by
          show x.size ≤ maxLen
          have hk' : k < D.R.length := by rw [N1.out]; exact hlt
          have h1 := HSM.out.1.2 _ (List.getElem_mem hk')
          have h2 : D.R.getD k e0 = D.R[k] := by rw [List.getD_eq_getElem?_getD, List.getElem?_eq_getElem hk']; rfl
          rw [← h2, hy.out] at h1
          unfold maxLen; omega
        have hgd : Hid (rcptB D.R k = (shortB x && !((D.R.take k).any fun y => y.toList == x.toList))) := by show _ = _; unfold rcptB dupB; rw [hy.out]
        cases h1 : shortB x with
        | false =>
          have R1 : Hid (bb = false) := by
            show _ = _
            rw [FP.out]
            exact all_bad (k := k) (by rw [N1.out]; exact hlt) (by rw [hgd.out, h1]; rfl)
          have H1 : Hid (shortB x = false) := h1
          clear h1
          go_wp2_with (go_at_call 25; refine (shortIs false x _ H1.out SX.out).mono ?_; rintro e w1 ⟨rfl, rfl⟩)
          go_ret
          exact ⟨ret_bool R1.out.symm, hb.out⟩
        | true =>
          have H1 : Hid (shortB x = true) := h1
          obtain ⟨y4, _⟩ := hx.out 4 _ rfl
          have cut1 := cut_h (P := Try.prog) (e := 9) Try.underlying22 (fun w => Try.sizeOf9 w) (some ⟨B, o, none⟩) n c k (by omega)
          have TK : Hid ((D.R.take k).length = k) := by show _ = _; rw [List.length_take, N1.out]; omega
          have ST : Hid (Src wr (some ⟨B, o, none⟩) (cellsS (D.R.take k))) := by have := (S1.out.below hb.out).head k; unfold cellsS at this ⊢; rw [← List.map_take] at this; exact this
          cases h2 : (D.R.take k).any fun y => y.toList == x.toList with
          | true =>
            have R1 : Hid (bb = false) := by
              show _ = _
              rw [FP.out]
              exact all_bad (k := k) (by rw [N1.out]; exact hlt) (by rw [hgd.out, h1, h2]; rfl)
            have H2 : Hid (((D.R.take k).any fun y => y.toList == x.toList) = true) := h2
            clear h1 h2
            go_wp2_with (first | (go_at_call 26; refine (containsIs true _ k _ (D.R.take k) x _ TK.out (by omega) ST.out H2.out).mono ?_; rintro e w2 ⟨rfl, rfl⟩) | (go_at_call 25; refine (shortIs true x _ H1.out SX.out).mono ?_; rintro e w1 ⟨rfl, rfl⟩))
            go_ret
            exact ⟨ret_bool R1.out.symm, hb.out⟩
          | false =>
            have G1 : Hid (rcptB D.R k = true) := by show _ = _; rw [hgd.out, h1, h2]; rfl
            have H2 : Hid (((D.R.take k).any fun y => y.toList == x.toList) = false) := h2
            clear h1 h2
            go_wp2_with (first | (go_at_call 26; refine (containsIs false _ k _ (D.R.take k) x _ TK.out (by omega) ST.out H2.out).mono ?_; rintro e w2 ⟨rfl, rfl⟩) | (go_at_call 25; refine (shortIs true x _ H1.out SX.out).mono ?_; rintro e w1 ⟨rfl, rfl⟩))
            exact ⟨⟨k + 1, by omega, by go_num, fun j hj => by
              by_cases e : j = k
              · rw [e]; exact G1.out
              · exact hg.out j (by omega), hb, hx⟩, by simp [intOf]; omega⟩
      · have R1 : Hid (bb = true) := by
          show _ = _
          rw [FP.out]
          exact all_good fun j hj => hg.out j (by rw [N1.out] at hj; omega)
        go_wp2_with fail
        go_ret
        exact ⟨ret_bool R1.out.symm, hb.out⟩

set_option maxHeartbeats 4000000 in
theorem linesFit (v : Value) (D : SMT) (w : World) (hs : smallT D) (h : ReadsT w v D) :
    Calls Try.prog 22 #[v] w fun e w' => e = .returned (.bool (linesOK D)) ∧ Below w.heap.size w w' := by
  obtain ⟨a, c, b, d, rfl, s1, s2⟩ := h
  obtain ⟨H, hH⟩ : ∃ H, D.H = H := ⟨_, rfl⟩
  obtain ⟨Q, hQ⟩ : ∃ Q, D.D = Q := ⟨_, rfl⟩
  obtain ⟨O, hO⟩ : ∃ O, D.O = O := ⟨_, rfl⟩
  obtain ⟨F, hF⟩ : ∃ F, D.F = F := ⟨_, rfl⟩
  obtain ⟨n, hn⟩ : ∃ n, D.R.length = n := ⟨_, rfl⟩
  obtain ⟨m, hm⟩ : ∃ m, D.L.length = m := ⟨_, rfl⟩
  have S1 : Hid (Src w a (cellsS D.R)) := s1
  have S2 : Hid (Src w b (cellsS D.L)) := s2
  have N1 : Hid (D.R.length = n) := hn
  have N2 : Hid (D.L.length = m) := hm
  have HSM : Hid (smallT D) := hs
  have NB : n ≤ 1048576 := by rw [← hn]; exact hs.1.1
  have MB : m ≤ 1048576 := by rw [← hm]; exact hs.2.1.1
  obtain ⟨bb, hbb⟩ : ∃ bb, linesOK D = bb := ⟨_, rfl⟩
  have HF : Hid (bb = (!(Q && n == 0) && !(decide (0 < m) && !Q) && decide (m ≤ 9) && linesB D.L)) := by show bb = _; rw [← hbb, ← hQ, ← hn, ← hm]; rfl
  rw [hbb, hH, hQ, hO, hF, hn, hm]
  clear s1 s2 hH hQ hO hF hn hm hbb hs
  by_cases t1 : Q = true ∧ n = 0
  · obtain ⟨t1, t2⟩ := t1
    subst t1 t2
    have R1 : Hid (bb = false) := by show _ = _; rw [HF.out]; rfl
    clear HF
    go_enter Try.func22, Try.ntmps22
    go_wp2_with fail
    go_ret
    exact ⟨ret_bool R1.out.symm, (Below.refl _ _).alloc (Nat.le_refl _) _⟩
  have R2 : Hid (bb = (!(decide (0 < m) && !Q) && decide (m ≤ 9) && linesB D.L)) := by
    show _ = _
    rw [HF.out]
    have : (Q && n == 0) = false := by
      cases Q
      · rfl
      · have h9 : ¬ n = 0 := fun h => t1 ⟨rfl, h⟩
        simp [h9]
    rw [this]; rfl
  have T1 : Hid (Q = true → n ≠ 0) := fun h1 h2 => t1 ⟨h1, h2⟩
  clear HF t1
  cases Q with
  | false =>
    clear T1
    by_cases t2 : m = 0
    · subst t2
      have R3 : Hid (bb = true) := by
        show _ = _
        rw [R2.out]
        have : linesB D.L = true := by unfold linesB; rw [N2.out]; rfl
        rw [this]; rfl
      clear R2
      go_enter Try.func22, Try.ntmps22
      go_wp2_with fail
      go_loopw [33] (fun i wr => i = .int .i64 0 ∧ Hid (Below w.heap.size w wr)) (fun i _ => 0)
      case atStart => exact ⟨rfl, (Below.refl _ _).alloc (Nat.le_refl _) _⟩
      case round =>
        obtain ⟨rfl, hb⟩ := hrel
        go_wp2_with fail
        go_ret
        exact ⟨ret_bool R3.out.symm, hb.out⟩
    · have R3 : Hid (bb = false) := by show _ = _; rw [R2.out, decide_eq_true (p := 0 < m) (by omega)]; rfl
      have t3 : (0 : Int) < (m : Int) := by omega
      clear R2
      go_enter Try.func22, Try.ntmps22
      go_wp2_with fail
      go_ret
      exact ⟨ret_bool R3.out.symm, (Below.refl _ _).alloc (Nat.le_refl _) _⟩
  | true =>
    have hnz : ((n : Int) == 0) = false := by have := T1.out rfl; simp; omega
    have R3 : Hid (bb = (decide (m ≤ 9) && linesB D.L)) := by show _ = _; rw [R2.out]; simp
    clear R2 T1
    by_cases t1 : (9 : Int) < (m : Int)
    · have R4 : Hid (bb = false) := by show _ = _; rw [R3.out, decide_eq_false (p := m ≤ 9) (by omega)]; rfl
      have t3 : (0 : Int) < (m : Int) := by omega
      clear R3
      go_enter Try.func22, Try.ntmps22
      go_wp2_with fail
      go_ret
      exact ⟨ret_bool R4.out.symm, (Below.refl _ _).alloc (Nat.le_refl _) _⟩
    have FP : Hid (bb = linesB D.L) := by show _ = _; rw [R3.out, decide_eq_true (p := m ≤ 9) (by omega)]; rfl
    clear R3
    by_cases t2 : m = 0
    · subst t2
      have R3 : Hid (bb = true) := by
        show _ = _
        rw [FP.out]
        unfold linesB; rw [N2.out]; rfl
      go_enter Try.func22, Try.ntmps22
      go_wp2_with fail
      go_loopw [33] (fun i wr => i = .int .i64 0 ∧ Hid (Below w.heap.size w wr)) (fun i _ => 0)
      case atStart => exact ⟨rfl, (Below.refl _ _).alloc (Nat.le_refl _) _⟩
      case round =>
        obtain ⟨rfl, hb⟩ := hrel
        go_wp2_with fail
        go_ret
        exact ⟨ret_bool R3.out.symm, hb.out⟩
    have t3 : (0 : Int) < (m : Int) := by omega
    clear t2
    go_enter Try.func22, Try.ntmps22
    go_wp2_with fail
    go_loopw [33] (fun i wr => ∃ k : Nat, k ≤ m ∧ i = .int .i64 k ∧ Hid (∀ j, j < k → lineB D.L j = true) ∧ Hid (Below w.heap.size w wr)) (fun i _ => m - (intOf i).toNat)
    case atStart => exact ⟨0, by omega, rfl, fun j hj => absurd hj (by omega), (Below.refl _ _).alloc (Nat.le_refl _) _⟩
    case round =>
      obtain ⟨k, hk, rfl, hg, hb⟩ := hrel
      by_cases hlt : k < m
      · obtain ⟨B, o, x, rfl, q1, hy⟩ := srcS (S2.out.below hb.out) (i := k) (by rw [N2.out]; exact hlt)
        have hki : (k : Int) < (m : Int) := by omega
        have hgd : Hid (lineB D.L k = decide (x.size ≤ 60)) := by show _ = _; unfold lineB; rw [hy.out]
        by_cases h1 : (60 : Int) < (x.size : Int)
        · have R1 : Hid (bb = false) := by
            show _ = _
            rw [FP.out]
            exact all_bad (k := k) (by rw [N2.out]; exact hlt) (by rw [hgd.out, decide_eq_false (by omega)])
          go_wp2_with fail
          go_ret
          exact ⟨ret_bool R1.out.symm, hb.out⟩
        · have G1 : Hid (lineB D.L k = true) := by show _ = _; rw [hgd.out, decide_eq_true (by omega)]
          go_wp2_with fail
          exact ⟨⟨k + 1, by omega, by go_num, fun j hj => by
            by_cases e : j = k
            · rw [e]; exact G1.out
            · exact hg.out j (by omega), hb⟩, by simp [intOf]; omega⟩
      · have R1 : Hid (bb = true) := by
          show _ = _
          rw [FP.out]
          exact all_good fun j hj => hg.out j (by rw [N2.out] at hj; omega)
        go_wp2_with fail
        go_ret
        exact ⟨ret_bool R1.out.symm, hb.out⟩

set_option maxHeartbeats 4000000 in
theorem implSmtpOK (v : Value) (D : SMT) (w : World) (hs : smallT D) (hc : CapT v) (h : ReadsT w v D) :
    Calls Try.prog 13 #[v] w fun e w' => e = .returned (.bool (okT D)) ∧ Below w.heap.size w w' := by
  have HR : Hid (ReadsT w v D) := h
  have HC : Hid (CapT v) := hc
  have HS : Hid (smallT D) := hs
  obtain ⟨q1, h1⟩ : ∃ q, fromB D = q := ⟨_, rfl⟩
  obtain ⟨q2, h2⟩ : ∃ q, rcptsOK D = q := ⟨_, rfl⟩
  obtain ⟨q3, h3⟩ : ∃ q, linesOK D = q := ⟨_, rfl⟩
  have Q1 : Hid (fromB D = q1) := h1
  have Q2 : Hid (rcptsOK D = q2) := h2
  have Q3 : Hid (linesOK D = q3) := h3
  have E : okT D = (q1 && q2 && q3) := by unfold okT; rw [h1, h2, h3]
  rw [E]
  obtain ⟨a, c, b, d, rfl, _, _⟩ := h
  obtain ⟨V, hV⟩ : ∃ V, Value.agg #[.bool D.H, .bool D.D, .bool D.O, .string D.F, .slice a D.R.length c, .slice b D.L.length d] = V := ⟨_, rfl⟩
  have AB : Below w.heap.size w (w.alloc (.cells #[.bool D.H, .bool D.D, .bool D.O, .string D.F, .slice a D.R.length c, .slice b D.L.length d] 24)) := (Below.refl _ _).alloc (Nat.le_refl _) _
  have C1 : ∀ W, Below w.heap.size w W → Calls Try.prog 20 #[.agg #[.bool D.H, .bool D.D, .bool D.O, .string D.F, .slice a D.R.length c, .slice b D.L.length d]] W fun e w' => e = .returned (.bool q1) ∧ Below W.heap.size W w' := fun W hb => by rw [← Q1.out]; exact fromFits _ D W HS.out (HR.out.below hb)
  have C2 : ∀ W, Below w.heap.size w W → Calls Try.prog 21 #[.agg #[.bool D.H, .bool D.D, .bool D.O, .string D.F, .slice a D.R.length c, .slice b D.L.length d]] W fun e w' => e = .returned (.bool q2) ∧ Below W.heap.size W w' := fun W hb => by rw [← Q2.out]; exact rcptsFit _ D W HS.out HC.out (HR.out.below hb)
  have C3 : ∀ W, Below w.heap.size w W → Calls Try.prog 22 #[.agg #[.bool D.H, .bool D.D, .bool D.O, .string D.F, .slice a D.R.length c, .slice b D.L.length d]] W fun e w' => e = .returned (.bool q3) ∧ Below W.heap.size W w' := fun W hb => by rw [← Q3.out]; exact linesFit _ D W HS.out (HR.out.below hb)
  clear h1 h2 h3 E hc hs hV V
  have HC1 : Hid _ := C1
  have HC2 : Hid _ := C2
  have HC3 : Hid _ := C3
  have HAB : Hid _ := AB
  clear C1 C2 C3 AB
  cases q1 with
  | false =>
    go_enter Try.func13, Try.ntmps13
    go_wp2_with fail
    refine (HC1.out _ HAB.out).mono ?_
    rintro e w1 ⟨rfl, hb1⟩
    have B1 : Hid (Below w.heap.size w w1) := Below.new hb1
    clear hb1
    go_wp2_with fail
    go_ret
    exact ⟨rfl, B1.out⟩
  | true =>
    go_enter Try.func13, Try.ntmps13
    go_wp2_with fail
    refine (HC1.out _ HAB.out).mono ?_
    rintro e w1 ⟨rfl, hb1⟩
    have B1 : Hid (Below w.heap.size w w1) := Below.new hb1
    have X1 : Hid (Box w1 w.heap.size [.bool D.H, .bool D.D, .bool D.O, .string D.F, .slice a D.R.length c, .slice b D.L.length d]) := Box.below (Box.new rfl) hb1
    clear hb1
    obtain ⟨p0, _⟩ := X1.out 0 _ rfl
    obtain ⟨p1, _⟩ := X1.out 1 _ rfl
    obtain ⟨p2, _⟩ := X1.out 2 _ rfl
    obtain ⟨p3, _⟩ := X1.out 3 _ rfl
    obtain ⟨p4, _⟩ := X1.out 4 _ rfl
    obtain ⟨p5, _⟩ := X1.out 5 _ rfl
    cases q2 with
    | false =>
      go_wp2_with fail
      refine (HC2.out _ B1.out).mono ?_
      rintro e w2 ⟨rfl, hb2⟩
      have B2 : Hid (Below w.heap.size w w2) := B1.out.trans (hb2.mono B1.out.size)
      clear hb2 p0 p1 p2 p3 p4 p5
      go_wp2_with fail
      go_ret
      exact ⟨rfl, B2.out⟩
    | true =>
      go_wp2_with fail
      refine (HC2.out _ B1.out).mono ?_
      rintro e w2 ⟨rfl, hb2⟩
      have B2 : Hid (Below w.heap.size w w2) := B1.out.trans (hb2.mono B1.out.size)
      have X2 := X1.out.below hb2
      clear hb2 p0 p1 p2 p3 p4 p5
      obtain ⟨p0, _⟩ := X2 0 _ rfl
      obtain ⟨p1, _⟩ := X2 1 _ rfl
      obtain ⟨p2, _⟩ := X2 2 _ rfl
      obtain ⟨p3, _⟩ := X2 3 _ rfl
      obtain ⟨p4, _⟩ := X2 4 _ rfl
      obtain ⟨p5, _⟩ := X2 5 _ rfl
      clear X2
      go_wp2_with fail
      refine (HC3.out _ B2.out).mono ?_
      rintro e w3 ⟨rfl, hb3⟩
      have B3 : Hid (Below w.heap.size w w3) := B2.out.trans (hb3.mono B2.out.size)
      clear hb3 p0 p1 p2 p3 p4 p5
      go_wp2_with fail
      go_ret
      exact ⟨rfl, B3.out⟩
end Go.Proofs.Ytbaljcdiofoppaa
