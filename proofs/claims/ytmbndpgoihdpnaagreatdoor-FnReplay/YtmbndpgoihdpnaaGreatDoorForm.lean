
/-
  Parts of a difference: was, is, fits, diffOK, by the program. By an AI agent.
-/
import Derived.Test.YtmbndpgoihdpnaaGreatDoorListsd
import Derived.Test.YtmbndpgoihdpnaaGreatDoorPairsOKi
namespace Go.Proofs.YtmbndpgoihdpnaaGreatDoor
open Go.ChangeShapes Go.WideShapes Go.ChangeAt Go.RowKit Go.Deep
set_option linter.unusedVariables false
set_option maxRecDepth 100000

/-- One side of a difference. -/
def sideB (v : ByteArray) (t : Bool) : Bool := if t = true then decide (v.size ≤ 90) else decide (v.size = 0)
def formB (d : MDf) : Bool := keyB d.1 && sideB d.2.1 d.2.2.2.1 && sideB d.2.2.1 d.2.2.2.2 && (d.2.2.2.1 || d.2.2.2.2)
theorem toList_injF {x y : ByteArray} (h : x.toList = y.toList) : x = y := by
  rw [ByteArray.toList_eq, ByteArray.toList_eq] at h
  exact bytes_inj h
set_option maxHeartbeats 400000 in
theorem diffWas (k o n : ByteArray) (p q : Bool) (w : World) :
    Calls Tryz.prog 101 #[.agg #[.string k, .string o, .string n, .bool p, .bool q]] w fun e w' => e = .returned (.agg #[.string o, .bool p]) ∧ Below w.heap.size w w' := by
  go_enter Tryz.func101, Tryz.ntmps101
  go_wp2_with fail
  exact bodyPost_ret (v := .agg #[.string o, .bool p]) (by simp [results, Tryz.results101, go_sem]) rfl ⟨rfl, ((Below.refl _ _).alloc (Nat.le_refl _) _).alloc (by simp) _⟩
set_option maxHeartbeats 400000 in
theorem diffIs (k o n : ByteArray) (p q : Bool) (w : World) :
    Calls Tryz.prog 103 #[.agg #[.string k, .string o, .string n, .bool p, .bool q]] w fun e w' => e = .returned (.agg #[.string n, .bool q]) ∧ Below w.heap.size w w' := by
  go_enter Tryz.func103, Tryz.ntmps103
  go_wp2_with fail
  exact bodyPost_ret (v := .agg #[.string n, .bool q]) (by simp [results, Tryz.results103, go_sem]) rfl ⟨rfl, ((Below.refl _ _).alloc (Nat.le_refl _) _).alloc (by simp) _⟩
theorem size0 {v : ByteArray} (h : v.size = 0) : v = ⟨#[]⟩ := by
  apply bytes_inj
  cases v with
  | mk d =>
    have h2 : d.size = 0 := h
    simp at h2 ⊢
    exact h2
set_option maxHeartbeats 400000 in
theorem heldFits (v : ByteArray) (t : Bool) (w : World) (hv : v.size ≤ 1048576) :
    Calls Tryz.prog 102 #[.agg #[.string v, .bool t]] w fun e w' => e = .returned (.bool (sideB v t)) ∧ Below w.heap.size w w' := by
  have A0 : Hid (Below w.heap.size w (w.alloc (.cells #[.string v, .bool t] 139))) := (Below.refl _ _).alloc (Nat.le_refl _) _
  cases t with
  | true =>
    by_cases h : v.size ≤ 90
    · have F : Hid (sideB v true = true) := by show _ = _; unfold sideB; rw [if_pos rfl]; exact decide_eq_true h
      rw [F.out]
      have h2 : decide ((v.size : Int) ≤ 90) = true := by simp; omega
      go_enter Tryz.func102, Tryz.ntmps102
      go_wp2_with fail
      go_ret
      exact ⟨rfl, A0.out⟩
    · have F : Hid (sideB v true = false) := by show _ = _; unfold sideB; rw [if_pos rfl]; exact decide_eq_false h
      rw [F.out]
      have h2 : decide ((v.size : Int) ≤ 90) = false := by simp; omega
      go_enter Tryz.func102, Tryz.ntmps102
      go_wp2_with fail
      go_ret
      exact ⟨rfl, A0.out⟩
  | false =>
    by_cases h : v.size = 0
    · obtain rfl := size0 h
      have F : Hid (sideB ⟨#[]⟩ false = true) := rfl
      rw [F.out]
      go_enter Tryz.func102, Tryz.ntmps102
      go_wp2_with fail
      go_ret
      exact ⟨rfl, A0.out⟩
    · have F : Hid (sideB v false = false) := by show _ = _; unfold sideB; rw [if_neg (by decide)]; exact decide_eq_false h
      rw [F.out]
      have hne : v ≠ ⟨#[]⟩ := fun e => h (by rw [e]; rfl)
      have hz : ¬ v.toList = [] := fun e => hne (toList_injF (by rw [e, ByteArray.toList_eq]))
      go_enter Tryz.func102, Tryz.ntmps102
      go_wp2_with fail
      go_ret
      exact ⟨rfl, A0.out⟩
theorem formB_of (k o n : ByteArray) (p q : Bool) : formB (k, o, n, p, q) = (keyB k && sideB o p && sideB n q && (p || q)) := rfl
set_option maxHeartbeats 2000000 in
theorem diffOK (k o n : ByteArray) (p q : Bool) (w : World) (hk : k.size ≤ 1048576) (ho : o.size ≤ 1048576) (hn : n.size ≤ 1048576) :
    Calls Tryz.prog 75 #[.agg #[.string k, .string o, .string n, .bool p, .bool q]] w fun e w' => e = .returned (.bool (formB (k, o, n, p, q))) ∧ Below w.heap.size w w' := by
  obtain ⟨b1, h1⟩ : ∃ b, keyB k = b := ⟨_, rfl⟩
  obtain ⟨b2, h2⟩ : ∃ b, sideB o p = b := ⟨_, rfl⟩
  obtain ⟨b3, h3⟩ : ∃ b, sideB n q = b := ⟨_, rfl⟩
  have HB : Hid (keyB k = b1 ∧ sideB o p = b2 ∧ sideB n q = b3) := ⟨h1, h2, h3⟩
  rw [formB_of, h1, h2, h3]
  clear h1 h2 h3
  have A0 : Hid (Below w.heap.size w (w.alloc (.cells #[.string k, .string o, .string n, .bool p, .bool q] 108))) := (Below.refl _ _).alloc (Nat.le_refl _) _
  have X0 : Hid (Box (w.alloc (.cells #[.string k, .string o, .string n, .bool p, .bool q] 108)) w.heap.size [.string k, .string o, .string n, .bool p, .bool q]) := Box.new rfl
  go_enter Tryz.func75, Tryz.ntmps75
  go_wp2_with fail
  refine (keyFits k _ (by unfold maxLen; omega)).mono ?_
  rw [HB.out.1]
  rintro e w1 ⟨rfl, hw1⟩
  obtain rfl := hw1
  cases b1 with
  | false =>
    go_wp2_with fail
    go_ret
    exact ⟨rfl, A0.out⟩
  | true =>
  go_wp2_with fail
  refine (diffWas k o n p q _).mono ?_
  rintro e w2 ⟨rfl, hb2⟩
  have B2 : Hid (Below w.heap.size w w2) := Below.new hb2
  have X2 : Hid (Box w2 w.heap.size [.string k, .string o, .string n, .bool p, .bool q]) := X0.out.below hb2
  clear hb2
  go_wp2_with fail
  refine (heldFits o p _ ho).mono ?_
  rw [HB.out.2.1]
  rintro e w3 ⟨rfl, hb3⟩
  have B3 : Hid (Below w.heap.size w w3) := B2.out.trans (hb3.mono B2.out.size)
  have X3 : Hid (Box w3 w.heap.size [.string k, .string o, .string n, .bool p, .bool q]) := X2.out.below hb3
  clear hb3
  cases b2 with
  | false =>
    go_wp2_with fail
    go_ret
    exact ⟨rfl, B3.out⟩
  | true =>
  obtain ⟨c0, _⟩ := X3.out 0 _ rfl
  obtain ⟨c1, _⟩ := X3.out 1 _ rfl
  obtain ⟨c2, _⟩ := X3.out 2 _ rfl
  obtain ⟨c3, _⟩ := X3.out 3 _ rfl
  obtain ⟨c4, _⟩ := X3.out 4 _ rfl
  go_wp2_with fail
  refine (diffIs k o n p q _).mono ?_
  rintro e w4 ⟨rfl, hb4⟩
  have B4 : Hid (Below w.heap.size w w4) := B3.out.trans (hb4.mono B3.out.size)
  have X4 : Hid (Box w4 w.heap.size [.string k, .string o, .string n, .bool p, .bool q]) := X3.out.below hb4
  clear hb4 c0 c1 c2 c3 c4
  go_wp2_with fail
  refine (heldFits n q _ hn).mono ?_
  rw [HB.out.2.2]
  rintro e w5 ⟨rfl, hb5⟩
  have B5 : Hid (Below w.heap.size w w5) := B4.out.trans (hb5.mono B4.out.size)
  have X5 : Hid (Box w5 w.heap.size [.string k, .string o, .string n, .bool p, .bool q]) := X4.out.below hb5
  clear hb5
  obtain ⟨c3, _⟩ := X5.out 3 _ rfl
  obtain ⟨c4, _⟩ := X5.out 4 _ rfl
  cases b3 with
  | false =>
    go_wp2_with fail
    go_ret
    exact ⟨rfl, B5.out⟩
  | true =>
  cases p with
  | false =>
    cases q with
    | false =>
      go_wp2_with fail
      go_ret
      exact ⟨rfl, B5.out⟩
    | true =>
      go_wp2_with fail
      go_ret
      exact ⟨rfl, B5.out⟩
  | true =>
    go_wp2_with fail
    go_ret
    exact ⟨rfl, B5.out⟩

end Go.Proofs.YtmbndpgoihdpnaaGreatDoor
