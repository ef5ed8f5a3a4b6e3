
/-
  Sessions that read mail: their cells, what a right one is, a new one. By an AI agent.
-/
import Derived.Test.YtkkfeaajcbnlnaaNames
namespace Go.Proofs.Ytkkfeaajcbnlnaa
open Go.ChangeShapes Go.WideShapes Go.ChangeAt Go.RowKit Go.Deep
set_option linter.unusedVariables false
set_option maxRecDepth 100000

/-- A session that reads mail. -/
structure IMP where
  (U F : ByteArray) (O : Bool)
abbrev valI (D : IMP) : Value := .agg #[.string D.U, .string D.F, .bool D.O]
def maxIM (D : IMP) : Prop := D.U.size ≤ maxLen ∧ D.F.size ≤ maxLen
def okIM (D : IMP) : Bool := (D.U.toList == [] || shortB D.U) && (D.F.toList == [] || (shortB D.F && !(D.U.toList == []))) && (D.O || D.U.toList == [])
def newIM : IMP := ⟨⟨#[]⟩, ⟨#[]⟩, true⟩

set_option maxHeartbeats 1000000 in
theorem implNewImap (w : World) : Calls Try.prog 7 #[] w fun e w' => e = .returned (valI newIM) ∧ Below w.heap.size w w' := by
  go_enter Try.func7, Try.ntmps7
  go_wp2_with fail
  refine bodyPost_ret (v := .agg #[.string ⟨#[]⟩, .string ⟨#[]⟩, .bool true]) (by simp [results, Try.results7, go_sem]) rfl ⟨rfl, ?_⟩
  exact (Below.refl _ _).alloc (Nat.le_refl _) _
set_option maxHeartbeats 1000000 in
theorem specNewImap (w : World) : Calls Try.prog 6 #[] w fun e w' => e = .returned (valI newIM) ∧ Below w.heap.size w w' := by
  go_enter Try.func6, Try.ntmps6
  go_wp2_with fail
  refine bodyPost_ret (v := .agg #[.string ⟨#[]⟩, .string ⟨#[]⟩, .bool true]) (by simp [results, Try.results6, go_sem]) rfl ⟨rfl, ?_⟩
  exact (Below.refl _ _).alloc (Nat.le_refl _) _
set_option maxHeartbeats 1000000 in
theorem eqImap (D : IMP) (w : World) : Calls Try.prog 8 #[valI D, valI D] w fun e w' => e = .returned (.bool true) ∧ Below w.heap.size w w' := by
  obtain ⟨U, F, O⟩ := D
  show Calls Try.prog 8 #[.agg #[.string U, .string F, .bool O], .agg #[.string U, .string F, .bool O]] w _
  have e1 : (U.toList == U.toList) = true := by simp
  have e2 : (F.toList == F.toList) = true := by simp
  have e3 : (O != O) = false := by cases O <;> rfl
  go_enter Try.func8, Try.ntmps8
  go_wp2_with fail
  go_ret
  exact ⟨rfl, ((Below.refl _ _).alloc (Nat.le_refl _) _).alloc (by simp) _⟩
set_option maxHeartbeats 1000000 in
theorem szImap (D : IMP) (n : Int) (w : World) (h0 : 0 ≤ n) (h1 : n ≤ 1048576) (hm : maxIM D) : Calls Try.prog 9 #[valI D, .int .i64 n] w fun e w' => ∃ r : Int, e = .returned (.int .i64 r) ∧ (0 ≤ r → D.U.size ≤ 1048576 ∧ D.F.size ≤ 1048576) ∧ Below w.heap.size w w' := by
  obtain ⟨U, F, O⟩ := D
  obtain ⟨m1, m2⟩ := hm
  show Calls Try.prog 9 #[.agg #[.string U, .string F, .bool O], .int .i64 n] w _
  unfold maxLen at m1 m2
  have q1 : U.size ≤ 9223372036854775807 := m1
  have q2 : F.size ≤ 9223372036854775807 := m2
  by_cases t1 : n - (U.size : Int) < 0
  · go_enter Try.func9, Try.ntmps9
    go_wp2_with fail
    go_ret
    exact ⟨-1, rfl, fun h => by omega, (Below.refl _ _).alloc (Nat.le_refl _) _⟩
  by_cases t2 : n - (U.size : Int) - (F.size : Int) < 0
  · go_enter Try.func9, Try.ntmps9
    go_wp2_with fail
    go_ret
    exact ⟨-1, rfl, fun h => by omega, (Below.refl _ _).alloc (Nat.le_refl _) _⟩
  go_enter Try.func9, Try.ntmps9
  go_wp2_with fail
  go_ret
  exact ⟨_, rfl, fun h => ⟨by show U.size ≤ 1048576; omega, by show F.size ≤ 1048576; omega⟩, (Below.refl _ _).alloc (Nat.le_refl _) _⟩
set_option maxHeartbeats 1000000 in
theorem toImap (D : IMP) (w : World) : Calls Try.prog 11 #[valI D] w fun e w' => e = .returned (valI D) ∧ Below w.heap.size w w' := by
  obtain ⟨U, F, O⟩ := D
  show Calls Try.prog 11 #[.agg #[.string U, .string F, .bool O]] w _
  go_enter Try.func11, Try.ntmps11
  go_wp2_with fail
  refine bodyPost_ret (v := .agg #[.string U, .string F, .bool O]) (by simp [results, Try.results11, go_sem]) rfl ⟨rfl, ?_⟩
  exact (((Below.refl _ _).alloc (Nat.le_refl _) _).alloc (by simp) _).alloc (by simp; omega) _
theorem shortIs (b : Bool) (s : ByteArray) (w : World) (h : shortB s = b) (hs : s.size ≤ maxLen) : Calls Try.prog 23 #[.string s] w fun e w' => e = .returned (.bool b) ∧ w' = w := by
  rw [← h]; exact (shortName s w hs).mono fun e w' ⟨h1, h2⟩ => ⟨h1, h2.symm⟩
theorem l04Is (b : Bool) (s : ByteArray) (w : World) (h : shortB s = b) (hs : s.size ≤ maxLen) : Calls Try.prog 15 #[.string s] w fun e w' => e = .returned (.bool b) ∧ w' = w := by
  rw [← h]; exact (l04Name s w hs).mono fun e w' ⟨h1, h2⟩ => ⟨h1, h2.symm⟩
theorem empty_facts {F : ByteArray} (h : (F.toList == []) = false) : ¬ F.toList = [] ∧ F.toList.isEmpty = false := by
  have e2 : ¬ F.toList = [] := by simpa using h
  exact ⟨e2, by rw [List.isEmpty_eq_false_iff]; exact e2⟩
set_option maxHeartbeats 2000000 in
theorem userFits (U F : ByteArray) (O : Bool) (w : World) (hs : U.size ≤ maxLen) : Calls Try.prog 16 #[.agg #[.string U, .string F, .bool O]] w fun e w' => e = .returned (.bool (U.toList == [] || (shortB U && O))) ∧ Below w.heap.size w w' := by
  obtain ⟨bb, hbb⟩ : ∃ bb, (U.toList == [] || (shortB U && O)) = bb := ⟨_, rfl⟩
  have HF : Hid (bb = (U.toList == [] || (shortB U && O))) := hbb.symm
  rw [hbb]
  clear hbb
  cases e1 : U.toList == [] with
  | true =>
    have R1 : Hid (bb = true) := by show _ = _; rw [HF.out, e1]; rfl
    have e2 : U.toList = [] := by simpa using e1
    clear HF e1
    go_enter Try.func16, Try.ntmps16
    go_wp2_with fail
    go_ret
    exact ⟨ret_bool R1.out.symm, (Below.refl _ _).alloc (Nat.le_refl _) _⟩
  | false =>
    obtain ⟨e2, e3⟩ := empty_facts e1
    cases h1 : shortB U <;> cases O
    all_goals
      have R1 : Hid (bb = false) ∨ Hid (bb = true) := by cases bb; exact .inl rfl; exact .inr rfl
      have R2 := HF.out
      rw [e1, h1] at R2
      have RR : Hid (_ = _) := R2
      clear R1 R2 HF
      go_enter Try.func16, Try.ntmps16
      go_wp2_with fail
      refine (shortIs _ U _ h1 hs).mono ?_
      rintro e w1 ⟨rfl, rfl⟩
      go_wp2_with fail
      go_ret
      exact ⟨ret_bool RR.out.symm, (Below.refl _ _).alloc (Nat.le_refl _) _⟩
set_option maxHeartbeats 2000000 in
theorem folderFits (U F : ByteArray) (O : Bool) (w : World) (hs : F.size ≤ maxLen) : Calls Try.prog 17 #[.agg #[.string U, .string F, .bool O]] w fun e w' => e = .returned (.bool (F.toList == [] || (shortB F && !(U.toList == [])))) ∧ Below w.heap.size w w' := by
  obtain ⟨bb, hbb⟩ : ∃ bb, (F.toList == [] || (shortB F && !(U.toList == []))) = bb := ⟨_, rfl⟩
  have HF : Hid (bb = (F.toList == [] || (shortB F && !(U.toList == [])))) := hbb.symm
  rw [hbb]
  clear hbb
  cases e1 : F.toList == [] with
  | true =>
    have R1 : Hid (bb = true) := by show _ = _; rw [HF.out, e1]; rfl
    have e2 : F.toList = [] := by simpa using e1
    clear HF e1
    go_enter Try.func17, Try.ntmps17
    go_wp2_with fail
    go_ret
    exact ⟨ret_bool R1.out.symm, (Below.refl _ _).alloc (Nat.le_refl _) _⟩
  | false =>
    obtain ⟨e2, e3⟩ := empty_facts e1
    cases h1 : shortB F with
    | false =>
      have R1 : Hid (bb = false) := by show _ = _; rw [HF.out, e1, h1]; rfl
      clear HF
      go_enter Try.func17, Try.ntmps17
      go_wp2_with fail
      refine (shortIs _ F _ h1 hs).mono ?_
      rintro e w1 ⟨rfl, rfl⟩
      go_wp2_with fail
      go_ret
      exact ⟨ret_bool R1.out.symm, (Below.refl _ _).alloc (Nat.le_refl _) _⟩
    | true =>
      cases u1 : U.toList == [] with
      | true =>
        have R1 : Hid (bb = false) := by show _ = _; rw [HF.out, e1, h1, u1]; rfl
        have u2 : U.toList = [] := by simpa using u1
        clear HF
        go_enter Try.func17, Try.ntmps17
        go_wp2_with fail
        refine (shortIs _ F _ h1 hs).mono ?_
        rintro e w1 ⟨rfl, rfl⟩
        go_wp2_with fail
        go_ret
        exact ⟨ret_bool R1.out.symm, (Below.refl _ _).alloc (Nat.le_refl _) _⟩
      | false =>
        have R1 : Hid (bb = true) := by show _ = _; rw [HF.out, e1, h1, u1]; rfl
        obtain ⟨u2, u3⟩ := empty_facts u1
        clear HF
        go_enter Try.func17, Try.ntmps17
        go_wp2_with fail
        refine (shortIs _ F _ h1 hs).mono ?_
        rintro e w1 ⟨rfl, rfl⟩
        go_wp2_with fail
        go_ret
        exact ⟨ret_bool R1.out.symm, (Below.refl _ _).alloc (Nat.le_refl _) _⟩
theorem okIM_two (U F : ByteArray) (O : Bool) : ((U.toList == [] || (shortB U && O)) && (F.toList == [] || (shortB F && !(U.toList == [])))) = okIM ⟨U, F, O⟩ := by
  unfold okIM
  simp only []
  cases U.toList == [] <;> cases shortB U <;> cases F.toList == [] <;> cases shortB F <;> cases O <;> rfl
theorem userIs (b : Bool) (U F : ByteArray) (O : Bool) (w : World) (hs : U.size ≤ maxLen) (hb : (U.toList == [] || (shortB U && O)) = b) : Calls Try.prog 16 #[.agg #[.string U, .string F, .bool O]] w fun e w' => e = .returned (.bool b) ∧ Below w.heap.size w w' := by
  rw [← hb]; exact userFits U F O w hs
theorem folderIs (b : Bool) (U F : ByteArray) (O : Bool) (w : World) (hs : F.size ≤ maxLen) (hb : (F.toList == [] || (shortB F && !(U.toList == []))) = b) : Calls Try.prog 17 #[.agg #[.string U, .string F, .bool O]] w fun e w' => e = .returned (.bool b) ∧ Below w.heap.size w w' := by
  rw [← hb]; exact folderFits U F O w hs
set_option maxHeartbeats 2000000 in
theorem implImapOK (D : IMP) (w : World) (hm : maxIM D) : Calls Try.prog 12 #[valI D] w fun e w' => e = .returned (.bool (okIM D)) ∧ Below w.heap.size w w' := by
  obtain ⟨U, F, O⟩ := D
  obtain ⟨m1, m2⟩ := hm
  have M1 : Hid (U.size ≤ maxLen) := m1
  have M2 : Hid (F.size ≤ maxLen) := m2
  show Calls Try.prog 12 #[.agg #[.string U, .string F, .bool O]] w _
  rw [← okIM_two U F O]
  obtain ⟨b1, h1⟩ : ∃ b, (U.toList == [] || (shortB U && O)) = b := ⟨_, rfl⟩
  obtain ⟨b2, h2⟩ : ∃ b, (F.toList == [] || (shortB F && !(U.toList == []))) = b := ⟨_, rfl⟩
  rw [h1, h2]
  have H1 : Hid (_ = _) := h1
  have H2 : Hid (_ = _) := h2
  clear h1 h2 m1 m2
  have X0 : Box (w.alloc (.cells #[.string U, .string F, .bool O] 23)) w.heap.size [.string U, .string F, .bool O] := Box.new rfl
  cases b1 with
  | false =>
    go_enter Try.func12, Try.ntmps12
    go_wp2_with fail
    refine (userIs false U F O _ M1.out H1.out).mono ?_
    rintro e w1 ⟨rfl, hb1⟩
    go_wp2_with fail
    go_ret
    exact ⟨rfl, Below.new hb1⟩
  | true =>
    go_enter Try.func12, Try.ntmps12
    go_wp2_with fail
    refine (userIs true U F O _ M1.out H1.out).mono ?_
    rintro e w1 ⟨rfl, hb1⟩
    have X1 := X0.below hb1
    have B1 : Hid (Below w.heap.size w w1) := Below.new hb1
    clear hb1 X0
    obtain ⟨p0, _⟩ := X1 0 _ rfl
    obtain ⟨p1, _⟩ := X1 1 _ rfl
    obtain ⟨p2, _⟩ := X1 2 _ rfl
    clear X1
    go_wp2_with fail
    refine (folderIs b2 U F O _ M2.out H2.out).mono ?_
    rintro e w2 ⟨rfl, hb2⟩
    have B2 : Hid (Below w.heap.size w w2) := B1.out.trans (hb2.mono B1.out.size)
    clear hb2 B1
    cases b2 <;> (go_wp2_with fail; go_ret; exact ⟨rfl, B2.out⟩)
end Go.Proofs.Ytkkfeaajcbnlnaa
