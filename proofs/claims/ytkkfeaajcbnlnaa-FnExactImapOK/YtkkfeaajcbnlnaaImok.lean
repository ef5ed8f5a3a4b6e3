
/-
  What a right session that reads mail is: the specification's ImapOK. By an AI agent.
-/
import Derived.Test.YtkkfeaajcbnlnaaImps
namespace Go.Proofs.Ytkkfeaajcbnlnaa
open Go.ChangeShapes Go.WideShapes Go.ChangeAt Go.RowKit Go.Deep
set_option linter.unusedVariables false
set_option linter.unusedSimpArgs false
set_option maxRecDepth 100000

set_option maxHeartbeats 4000000 in
theorem specImapOK (D : IMP) (w : World) (hm : maxIM D) : Calls Try.prog 10 #[valI D] w fun e w' => e = .returned (.bool (okIM D)) ∧ Below w.heap.size w w' := by
  obtain ⟨U, F, O⟩ := D
  obtain ⟨m1, m2⟩ := hm
  have M1 : Hid (U.size ≤ maxLen) := m1
  have M2 : Hid (F.size ≤ maxLen) := m2
  show Calls Try.prog 10 #[.agg #[.string U, .string F, .bool O]] w _
  obtain ⟨bb, hbb⟩ : ∃ bb, okIM ⟨U, F, O⟩ = bb := ⟨_, rfl⟩
  have HF : Hid (bb = ((U.toList == [] || shortB U) && (F.toList == [] || (shortB F && !(U.toList == []))) && (O || U.toList == []))) := hbb.symm
  rw [hbb]
  clear hbb m1 m2
  cases e1 : U.toList == [] with
  | true =>
    have e1t : U.toList = [] := by simpa using e1
    cases e2 : F.toList == [] with
    | true =>
      have e2t : F.toList = [] := by simpa using e2
      cases O with
      | true =>
        have R1 : Hid (bb = true) := by show _ = _; rw [HF.out]; simp only [e1, e2, Bool.true_or, Bool.or_true, Bool.false_or, Bool.or_false, Bool.true_and, Bool.and_true, Bool.false_and, Bool.and_false, Bool.not_true, Bool.not_false]
        clear HF
        go_enter Try.func10, Try.ntmps10
        go_wp2_with fail
        go_ret
        exact ⟨ret_bool R1.out.symm, (Below.refl _ _).alloc (Nat.le_refl _) _⟩
      | false =>
        have R1 : Hid (bb = true) := by show _ = _; rw [HF.out]; simp only [e1, e2, Bool.true_or, Bool.or_true, Bool.false_or, Bool.or_false, Bool.true_and, Bool.and_true, Bool.false_and, Bool.and_false, Bool.not_true, Bool.not_false]
        clear HF
        go_enter Try.func10, Try.ntmps10
        go_wp2_with fail
        go_ret
        exact ⟨ret_bool R1.out.symm, (Below.refl _ _).alloc (Nat.le_refl _) _⟩
    | false =>
      obtain ⟨e2n, e2i⟩ := empty_facts e2
      cases s2 : shortB F with
      | true =>
        have R1 : Hid (bb = false) := by show _ = _; rw [HF.out]; simp only [e1, e2, s2, Bool.true_or, Bool.or_true, Bool.false_or, Bool.or_false, Bool.true_and, Bool.and_true, Bool.false_and, Bool.and_false, Bool.not_true, Bool.not_false]
        clear HF
        go_enter Try.func10, Try.ntmps10
        go_wp2_with fail
        refine (l04Is _ F _ s2 M2.out).mono ?_
        rintro e w1 ⟨rfl, rfl⟩
        go_wp2_with fail
        go_ret
        exact ⟨ret_bool R1.out.symm, (Below.refl _ _).alloc (Nat.le_refl _) _⟩
      | false =>
        have R1 : Hid (bb = false) := by show _ = _; rw [HF.out]; simp only [e1, e2, s2, Bool.true_or, Bool.or_true, Bool.false_or, Bool.or_false, Bool.true_and, Bool.and_true, Bool.false_and, Bool.and_false, Bool.not_true, Bool.not_false]
        clear HF
        go_enter Try.func10, Try.ntmps10
        go_wp2_with fail
        refine (l04Is _ F _ s2 M2.out).mono ?_
        rintro e w1 ⟨rfl, rfl⟩
        go_wp2_with fail
        go_ret
        exact ⟨ret_bool R1.out.symm, (Below.refl _ _).alloc (Nat.le_refl _) _⟩
  | false =>
    obtain ⟨e1n, e1i⟩ := empty_facts e1
    cases s1 : shortB U with
    | true =>
      cases e2 : F.toList == [] with
      | true =>
        have e2t : F.toList = [] := by simpa using e2
        cases O with
        | true =>
          have R1 : Hid (bb = true) := by show _ = _; rw [HF.out]; simp only [e1, e2, s1, Bool.true_or, Bool.or_true, Bool.false_or, Bool.or_false, Bool.true_and, Bool.and_true, Bool.false_and, Bool.and_false, Bool.not_true, Bool.not_false]
          clear HF
          go_enter Try.func10, Try.ntmps10
          go_wp2_with fail
          refine (l04Is _ U _ s1 M1.out).mono ?_
          rintro e w1 ⟨rfl, rfl⟩
          go_wp2_with fail
          go_ret
          exact ⟨ret_bool R1.out.symm, (Below.refl _ _).alloc (Nat.le_refl _) _⟩
        | false =>
          have R1 : Hid (bb = false) := by show _ = _; rw [HF.out]; simp only [e1, e2, s1, Bool.true_or, Bool.or_true, Bool.false_or, Bool.or_false, Bool.true_and, Bool.and_true, Bool.false_and, Bool.and_false, Bool.not_true, Bool.not_false]
          clear HF
          go_enter Try.func10, Try.ntmps10
          go_wp2_with fail
          refine (l04Is _ U _ s1 M1.out).mono ?_
          rintro e w1 ⟨rfl, rfl⟩
          go_wp2_with fail
          go_ret
          exact ⟨ret_bool R1.out.symm, (Below.refl _ _).alloc (Nat.le_refl _) _⟩
      | false =>
        obtain ⟨e2n, e2i⟩ := empty_facts e2
        cases s2 : shortB F with
        | true =>
          cases O with
          | true =>
            have R1 : Hid (bb = true) := by show _ = _; rw [HF.out]; simp only [e1, e2, s1, s2, Bool.true_or, Bool.or_true, Bool.false_or, Bool.or_false, Bool.true_and, Bool.and_true, Bool.false_and, Bool.and_false, Bool.not_true, Bool.not_false]
            clear HF
            go_enter Try.func10, Try.ntmps10
            go_wp2_with fail
            refine (l04Is _ U _ s1 M1.out).mono ?_
            rintro e w1 ⟨rfl, rfl⟩
            go_wp2_with fail
            refine (l04Is _ F _ s2 M2.out).mono ?_
            rintro e w1 ⟨rfl, rfl⟩
            go_wp2_with fail
            go_ret
            exact ⟨ret_bool R1.out.symm, (Below.refl _ _).alloc (Nat.le_refl _) _⟩
          | false =>
            have R1 : Hid (bb = false) := by show _ = _; rw [HF.out]; simp only [e1, e2, s1, s2, Bool.true_or, Bool.or_true, Bool.false_or, Bool.or_false, Bool.true_and, Bool.and_true, Bool.false_and, Bool.and_false, Bool.not_true, Bool.not_false]
            clear HF
            go_enter Try.func10, Try.ntmps10
            go_wp2_with fail
            refine (l04Is _ U _ s1 M1.out).mono ?_
            rintro e w1 ⟨rfl, rfl⟩
            go_wp2_with fail
            refine (l04Is _ F _ s2 M2.out).mono ?_
            rintro e w1 ⟨rfl, rfl⟩
            go_wp2_with fail
            go_ret
            exact ⟨ret_bool R1.out.symm, (Below.refl _ _).alloc (Nat.le_refl _) _⟩
        | false =>
          have R1 : Hid (bb = false) := by show _ = _; rw [HF.out]; simp only [e1, e2, s1, s2, Bool.true_or, Bool.or_true, Bool.false_or, Bool.or_false, Bool.true_and, Bool.and_true, Bool.false_and, Bool.and_false, Bool.not_true, Bool.not_false]
          clear HF
          go_enter Try.func10, Try.ntmps10
          go_wp2_with fail
          refine (l04Is _ U _ s1 M1.out).mono ?_
          rintro e w1 ⟨rfl, rfl⟩
          go_wp2_with fail
          refine (l04Is _ F _ s2 M2.out).mono ?_
          rintro e w1 ⟨rfl, rfl⟩
          go_wp2_with fail
          go_ret
          exact ⟨ret_bool R1.out.symm, (Below.refl _ _).alloc (Nat.le_refl _) _⟩
    | false =>
      have R1 : Hid (bb = false) := by show _ = _; rw [HF.out]; simp only [e1, s1, Bool.true_or, Bool.or_true, Bool.false_or, Bool.or_false, Bool.true_and, Bool.and_true, Bool.false_and, Bool.and_false, Bool.not_true, Bool.not_false]
      clear HF
      go_enter Try.func10, Try.ntmps10
      go_wp2_with fail
      refine (l04Is _ U _ s1 M1.out).mono ?_
      rintro e w1 ⟨rfl, rfl⟩
      go_wp2_with fail
      go_ret
      exact ⟨ret_bool R1.out.symm, (Below.refl _ _).alloc (Nat.le_refl _) _⟩
end Go.Proofs.Ytkkfeaajcbnlnaa
