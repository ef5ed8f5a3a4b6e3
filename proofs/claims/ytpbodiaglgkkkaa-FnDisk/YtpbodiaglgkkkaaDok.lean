
/-
  Contracts of both DiskOK: they tell whether a disk is right. By an AI agent.
-/
import Derived.Test.YtpbodiaglgkkkaaApp
namespace Go.Proofs.Ytpbodiaglgkkkaa
open Go.ChangeShapes Go.WideShapes Go.ChangeAt Go.RowKit Go.Deep
set_option linter.unusedVariables false

theorem in01_yes (a b c : Int) (w : World) (h : b ≤ a ∧ a ≤ c) : Calls Try.prog 22 #[.int .i64 a, .int .i64 b, .int .i64 c] w fun e w' => e = .returned (.bool true) ∧ w = w' := by
  obtain ⟨h1, h2⟩ := h
  go_enter Try.func22, Try.ntmps22
  go_wp2
  go_ret
  exact ⟨rfl, rfl⟩
theorem in01_no (a b c : Int) (w : World) (h : ¬ (b ≤ a ∧ a ≤ c)) : Calls Try.prog 22 #[.int .i64 a, .int .i64 b, .int .i64 c] w fun e w' => e = .returned (.bool false) ∧ w = w' := by
  by_cases h1 : b ≤ a
  · have h2 : decide (a ≤ c) = false := decide_eq_false (by omega)
    clear h
    go_enter Try.func22, Try.ntmps22
    go_wp2
    go_ret
    exact ⟨rfl, rfl⟩
  · have h2 : a < b := by omega
    clear h h1
    go_enter Try.func22, Try.ntmps22
    go_wp2
    go_ret
    exact ⟨rfl, rfl⟩
theorem ret_no {p : Prop} [Decidable p] (h : ¬ p) : Ending.returned (.bool false) = Ending.returned (.bool (decide p)) := by rw [decide_eq_false h]
theorem ret_yes {p : Prop} [Decidable p] (h : p) : Ending.returned (.bool true) = Ending.returned (.bool (decide p)) := by rw [decide_eq_true h]

set_option maxHeartbeats 2000000 in
theorem specDiskOK (v : Value) (D : DM) (w : World) (hs : smallD D) (h : ReadsD w v D) :
    Calls Try.prog 21 #[v] w fun e w' => e = .returned (.bool (decide (okD D))) ∧ Below w.heap.size w w' := by
  obtain ⟨a1, c1, a2, c2, a3, c3, rfl, s1, s2, s3⟩ := h
  have HS : Hid (smallD D) := hs
  have S1 : Hid (Src w a1 (cellsS D.S)) := s1
  have S2 : Hid (Src w a2 (cellsQ D.C)) := s2
  obtain ⟨n1, hn1⟩ : ∃ n, D.S.length = n := ⟨_, rfl⟩
  obtain ⟨n2, hn2⟩ : ∃ n, D.C.length = n := ⟨_, rfl⟩
  obtain ⟨n3, hn3⟩ : ∃ n, D.K.length = n := ⟨_, rfl⟩
  obtain ⟨A, hA⟩ : ∃ A, D.A = A := ⟨_, rfl⟩
  obtain ⟨bb, hbb⟩ : ∃ bb, decide (okD D) = bb := ⟨_, rfl⟩
  have HBB : Hid (decide (okD D) = bb) := hbb
  rw [hbb]
  clear hbb
  rw [hn1, hn2, hn3, hA]
  have z1 : n1 ≤ 1048576 := by rw [← hn1]; exact hs.1.1
  have z2 : n2 ≤ 1048576 := by rw [← hn2]; exact hs.2.1.1
  have z3 : n3 ≤ 1048576 := by rw [← hn3]; exact hs.2.2
  have N1 : Hid (D.S.length = n1) := hn1
  have N2 : Hid (D.C.length = n2) := hn2
  have N3 : Hid (D.K.length = n3) := hn3
  have NA : Hid (D.A = A) := hA
  clear hs s1 s2 s3 hn1 hn2 hn3 hA
  by_cases t1 : (1 : Int) ≤ (n1 : Int) ∧ (n1 : Int) ≤ 80
  case neg =>
    have F : Hid (¬ okD D) := fun h => t1 (by have := h.1.1; have := h.1.2.1; have := N1.out; omega)
    go_enter Try.func21, Try.ntmps21
    go_wp2_with fail
    refine (in01_no _ _ _ _ t1).mono ?_
    rintro e w' ⟨rfl, rfl⟩
    clear t1
    go_wp2_with fail
    go_ret
    exact ⟨(by rw [← HBB.out]; exact ret_no F.out), (Below.refl _ _).alloc (Nat.le_refl _) _⟩
  by_cases t2 : (500 : Int) < (n2 : Int)
  · have F : Hid (¬ okD D) := fun h => by have := h.2.1.1; have := N2.out; omega
    go_enter Try.func21, Try.ntmps21
    go_wp2_with fail
    refine (in01_yes _ _ _ _ t1).mono ?_
    rintro e w' ⟨rfl, rfl⟩
    clear t1
    go_wp2_with fail
    go_ret
    exact ⟨(by rw [← HBB.out]; exact ret_no F.out), (Below.refl _ _).alloc (Nat.le_refl _) _⟩
  by_cases t3 : (500 : Int) < (n3 : Int)
  · have F : Hid (¬ okD D) := fun h => by have := h.2.2.1; have := N3.out; omega
    go_enter Try.func21, Try.ntmps21
    go_wp2_with fail
    refine (in01_yes _ _ _ _ t1).mono ?_
    rintro e w' ⟨rfl, rfl⟩
    clear t1
    go_wp2_with fail
    go_ret
    exact ⟨(by rw [← HBB.out]; exact ret_no F.out), (Below.refl _ _).alloc (Nat.le_refl _) _⟩
  by_cases t4 : A = false ∧ (0 : Int) < (n3 : Int)
  · obtain ⟨rfl, t5⟩ := t4
    have F : Hid (¬ okD D) := fun h => by have := h.2.2.2 NA.out; have := N3.out; omega
    go_enter Try.func21, Try.ntmps21
    go_wp2_with fail
    refine (in01_yes _ _ _ _ t1).mono ?_
    rintro e w' ⟨rfl, rfl⟩
    clear t1
    go_wp2_with fail
    go_ret
    exact ⟨(by rw [← HBB.out]; exact ret_no F.out), (Below.refl _ _).alloc (Nat.le_refl _) _⟩
  have HT : Hid (1 ≤ n1 ∧ n1 ≤ 80 ∧ n2 ≤ 500 ∧ n3 ≤ 500 ∧ (D.A = false → D.K.length = 0)) := ⟨by omega, by omega, by omega, by omega, fun h => by
    apply Decidable.byContradiction
    intro h2
    exact t4 ⟨NA.out.symm.trans h, by have := N3.out; omega⟩⟩
  have t6 : (A = true ∨ A = false ∧ n3 = 0) := by
    cases A with
    | true => exact .inl rfl
    | false => exact .inr ⟨rfl, by apply Decidable.byContradiction; intro h2; exact t4 ⟨rfl, by omega⟩⟩
  clear t4
  rcases t6 with rfl | ⟨rfl, rfl⟩
  all_goals
    go_enter Try.func21, Try.ntmps21
    go_wp2_with fail
    refine (in01_yes _ _ _ _ t1).mono ?_
    rintro e w' ⟨rfl, rfl⟩
    go_wp2_with fail
    go_loopw [4] (fun i wr => ∃ k : Nat, k ≤ n1 ∧ i = .int .i64 k ∧ Hid (∀ i, i < k → (D.S.getD i e0).size ≤ 420) ∧ Hid (Below w.heap.size w wr) ∧ Hid (∃ b x, Box wr w.heap.size [.slice a1 n1 c1, .slice a2 n2 c2, b, x])) (fun i _ => n1 - (intOf i).toNat)
    case atStart => exact ⟨0, by omega, rfl, fun i hi => absurd hi (by omega), (Below.refl _ _).alloc (Nat.le_refl _) _, _, _, Box.new rfl⟩
    case round =>
      obtain ⟨k, hk, rfl, hall, hb, hbx⟩ := hrel
      obtain ⟨bb, xx, hbx⟩ := hbx.out
      have HX : Hid (Box wr w.heap.size [.slice a1 n1 c1, .slice a2 n2 c2, bb, xx]) := hbx
      clear hbx
      obtain ⟨p0, _⟩ := HX.out 0 _ rfl
      by_cases hlt : k < n1
      · obtain ⟨b, o, y, rfl, hc, hy⟩ := srcS (S1.out.below hb.out) (i := k) (by rw [N1.out]; exact hlt)
        have hsz : y.size ≤ 1048576 := by rw [← hy.out]; exact HS.out.1.2 _ (getD_mem _ _ _ (by rw [N1.out]; exact hlt))
        by_cases hbig : (420 : Int) < (y.size : Int)
        · have F : Hid (¬ okD D) := fun h => by
            have h1 := (all_iff D.S e0 (fun x => x.size ≤ 420)).1 h.1.2.2 k (by rw [N1.out]; exact hlt)
            rw [hy.out] at h1
            omega
          go_wp2_with fail
          go_ret
          exact ⟨(by rw [← HBB.out]; exact ret_no F.out), hb.out⟩
        · have hall2 : Hid (∀ i, i < k + 1 → (D.S.getD i e0).size ≤ 420) := fun i hi => by
            by_cases e : i = k
            · rw [e, hy.out]; omega
            · exact hall.out i (by omega)
          go_wp2_with fail
          exact ⟨⟨k + 1, by omega, by go_num, hall2, hb.out, _, _, HX.out⟩, by simp [intOf]; omega⟩
      · have hkn : k = n1 := by omega
        have HA1 : Hid (∀ x ∈ D.S, x.size ≤ 420) := (all_iff D.S e0 (fun x => x.size ≤ 420)).2 (fun i hi => hall.out i (by rw [hkn, ← N1.out]; exact hi))
        clear hkn hall p0
        go_wp2_with fail
        go_loopw [5] (fun i wr => ∃ k : Nat, k ≤ n2 ∧ i = .int .i64 k ∧ Hid (∀ i, i < k → okW n1 (D.C.getD i q0)) ∧ Hid (Below w.heap.size w wr) ∧ Hid (Box wr w.heap.size [.slice a1 n1 c1, .slice a2 n2 c2, bb, xx])) (fun i _ => n2 - (intOf i).toNat)
        case atStart => exact ⟨0, by omega, rfl, fun i hi => absurd hi (by omega), hb.out, HX.out⟩
        case round =>
          clear hb HX
          obtain ⟨j, hj, rfl, hall, hb, HX⟩ := hrel
          obtain ⟨p1, _⟩ := HX.out 1 _ rfl
          by_cases hlt2 : j < n2
          · obtain ⟨b, o, x, y, rfl, hc1, hc2, hy⟩ := srcQ (S2.out.below hb.out) (i := j) (by rw [N2.out]; exact hlt2)
            have hsz : y.size ≤ 1048576 := by
              have := HS.out.2.1.2 _ (getD_mem D.C q0 j (by rw [N2.out]; exact hlt2))
              rw [hy.out] at this; exact this
            have HJ : Hid (j < D.C.length) := by show j < D.C.length; rw [N2.out]; exact hlt2
            by_cases hin : (0 : Int) ≤ x ∧ x ≤ (n1 : Int) - 1
            · have HIN : Hid ((0 : Int) ≤ x ∧ x ≤ (n1 : Int) - 1) := hin
              clear hin
              go_wp2_with fail
              refine (in01_yes _ _ _ _ HIN.out).mono ?_
              rintro e w' ⟨rfl, rfl⟩
              by_cases hbig : (420 : Int) < (y.size : Int)
              · have F : Hid (¬ okD D) := fun h => by
                  have h1 := (all_iff D.C q0 (fun x => okW D.S.length x)).1 h.2.1.2 j HJ.out
                  rw [hy.out] at h1
                  have h2 := h1.2.2
                  simp only [] at h2
                  omega
                go_wp2_with fail
                go_ret
                exact ⟨(by rw [← HBB.out]; exact ret_no F.out), hb.out.alloc hb.out.size _⟩
              · have hall2 : Hid (∀ i, i < j + 1 → okW n1 (D.C.getD i q0)) := fun i hi => by
                  by_cases e : i = j
                  · rw [e, hy.out]
                    have h1 := HIN.out
                    exact ⟨h1.1, by show x < n1; omega, by show y.size ≤ 420; omega⟩
                  · exact hall.out i (by omega)
                go_wp2_with fail
                exact ⟨⟨j + 1, by omega, by go_num, hall2, hb.out.alloc hb.out.size _, HX.out.old _⟩, by simp [intOf]; omega⟩
            · have F : Hid (¬ okD D) := fun h => by
                have h1 := (all_iff D.C q0 (fun x => okW D.S.length x)).1 h.2.1.2 j HJ.out
                rw [hy.out, N1.out] at h1
                exact hin ⟨h1.1, by have := h1.2.1; simp only [] at this; omega⟩
              have HIN : Hid (¬ ((0 : Int) ≤ x ∧ x ≤ (n1 : Int) - 1)) := hin
              clear hin
              go_wp2_with fail
              refine (in01_no _ _ _ _ HIN.out).mono ?_
              rintro e w' ⟨rfl, rfl⟩
              go_wp2_with fail
              go_ret
              exact ⟨(by rw [← HBB.out]; exact ret_no F.out), hb.out.alloc hb.out.size _⟩
          · have hjn : j = n2 := by omega
            have F : Hid (okD D) := by
              have h := HT.out
              refine ⟨⟨by rw [N1.out]; exact h.1, by rw [N1.out]; exact h.2.1, HA1.out⟩, ⟨by rw [N2.out]; exact h.2.2.1, ?_⟩, by have h5 := h.2.2.2.1; have h6 := N3.out; omega, h.2.2.2.2⟩
              rw [all_iff D.C q0, N1.out]
              intro i hi
              exact hall.out i (by rw [hjn, ← N2.out]; exact hi)
            clear hjn
            go_wp2_with fail
            go_ret
            exact ⟨(by rw [← HBB.out]; exact ret_yes F.out), hb.out⟩
end Go.Proofs.Ytpbodiaglgkkkaa
