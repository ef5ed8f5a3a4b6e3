/-
  Texts of the store, brought together: Dok, Doki. By an AI agent.
-/
import Derived.Test.YtnnimocaanofjaaGreatDoorSt25
/-
  Contracts of both DiskOK: they tell whether a disk is right. By an AI agent.
-/
namespace Go.Proofs.YtnnimocaanofjaaGreatDoor
open Go.ChangeShapes Go.WideShapes Go.ChangeAt Go.RowKit Go.Deep
set_option linter.unusedVariables false

theorem in01_yes (a b c : Int) (w : World) (h : b ≤ a ∧ a ≤ c) : Calls Tryz.prog 77 #[.int .i64 a, .int .i64 b, .int .i64 c] w fun e w' => e = .returned (.bool true) ∧ w = w' := by
  obtain ⟨h1, h2⟩ := h
  go_enter Tryz.func77, Tryz.ntmps77
  go_wp2
  go_ret
  exact ⟨rfl, rfl⟩
theorem in01_no (a b c : Int) (w : World) (h : ¬ (b ≤ a ∧ a ≤ c)) : Calls Tryz.prog 77 #[.int .i64 a, .int .i64 b, .int .i64 c] w fun e w' => e = .returned (.bool false) ∧ w = w' := by
  by_cases h1 : b ≤ a
  · have h2 : decide (a ≤ c) = false := decide_eq_false (by omega)
    clear h
    go_enter Tryz.func77, Tryz.ntmps77
    go_wp2
    go_ret
    exact ⟨rfl, rfl⟩
  · have h2 : a < b := by omega
    clear h h1
    go_enter Tryz.func77, Tryz.ntmps77
    go_wp2
    go_ret
    exact ⟨rfl, rfl⟩
theorem ret_no {p : Prop} [Decidable p] (h : ¬ p) : Ending.returned (.bool false) = Ending.returned (.bool (decide p)) := by rw [decide_eq_false h]
theorem ret_yes {p : Prop} [Decidable p] (h : p) : Ending.returned (.bool true) = Ending.returned (.bool (decide p)) := by rw [decide_eq_true h]

set_option maxHeartbeats 2000000 in
theorem specDiskOK (v : Value) (D : DM) (w : World) (hs : smallD D) (h : ReadsD w v D) :
    Calls Tryz.prog 32 #[v] w fun e w' => e = .returned (.bool (decide (okD D))) ∧ Below w.heap.size w w' := by
  obtain ⟨a1, c1, a2, c2, a3, c3, rfl, s1, s2, s3⟩ := h
  have HS : Hid (smallD D) := hs
  have S1 : Hid (Src w a1 (cellsS D.S)) := s1
  have S2 : Hid (Src w a2 (cellsQ D.C)) := s2
  obtain ⟨n1, hn1⟩ : ∃ n, D.S.length = n := ⟨_, rfl⟩
  obtain ⟨n2, hn2⟩ : ∃ n, D.C.length = n := ⟨_, rfl⟩
  obtain ⟨n3, hn3⟩ : ∃ n, D.K.length = n := ⟨_, rfl⟩
  obtain ⟨A, hA⟩ : ∃ A, D.A = A := ⟨_, rfl⟩
  obtain ⟨bb, hbb⟩ : ∃ bb, decide (okD D) = bb := ⟨_, rfl⟩
  have HBB : Hid (decide (okD D) = bb) := hbb
  rw [hbb]
  clear hbb
  rw [hn1, hn2, hn3, hA]
  have z1 : n1 ≤ 1048576 := by rw [← hn1]; exact hs.1.1
  have z2 : n2 ≤ 1048576 := by rw [← hn2]; exact hs.2.1.1
  have z3 : n3 ≤ 1048576 := by rw [← hn3]; exact hs.2.2
  have N1 : Hid (D.S.length = n1) := hn1
  have N2 : Hid (D.C.length = n2) := hn2
  have N3 : Hid (D.K.length = n3) := hn3
  have NA : Hid (D.A = A) := hA
  clear hs s1 s2 s3 hn1 hn2 hn3 hA
  by_cases t1 : (1 : Int) ≤ (n1 : Int) ∧ (n1 : Int) ≤ 80
  case neg =>
    have F : Hid (¬ okD D) := fun h => t1 (by have := h.1.1; have := h.1.2.1; have := N1.out; omega)
    go_enter Tryz.func32, Tryz.ntmps32
    go_wp2_with fail
    refine (in01_no _ _ _ _ t1).mono ?_
    rintro e w' ⟨rfl, rfl⟩
    clear t1
    go_wp2_with fail
    go_ret
    exact ⟨(by rw [← HBB.out]; exact ret_no F.out), (Below.refl _ _).alloc (Nat.le_refl _) _⟩
  by_cases t2 : (500 : Int) < (n2 : Int)
  · have F : Hid (¬ okD D) := fun h => by have := h.2.1.1; have := N2.out; omega
    go_enter Tryz.func32, Tryz.ntmps32
    go_wp2_with fail
    refine (in01_yes _ _ _ _ t1).mono ?_
    rintro e w' ⟨rfl, rfl⟩
    clear t1
    go_wp2_with fail
    go_ret
    exact ⟨(by rw [← HBB.out]; exact ret_no F.out), (Below.refl _ _).alloc (Nat.le_refl _) _⟩
  by_cases t3 : (500 : Int) < (n3 : Int)
  · have F : Hid (¬ okD D) := fun h => by have := h.2.2.1; have := N3.out; omega
    go_enter Tryz.func32, Tryz.ntmps32
    go_wp2_with fail
    refine (in01_yes _ _ _ _ t1).mono ?_
    rintro e w' ⟨rfl, rfl⟩
    clear t1
    go_wp2_with fail
    go_ret
    exact ⟨(by rw [← HBB.out]; exact ret_no F.out), (Below.refl _ _).alloc (Nat.le_refl _) _⟩
  by_cases t4 : A = false ∧ (0 : Int) < (n3 : Int)
  · obtain ⟨rfl, t5⟩ := t4
    have F : Hid (¬ okD D) := fun h => by have := h.2.2.2 NA.out; have := N3.out; omega
    go_enter Tryz.func32, Tryz.ntmps32
    go_wp2_with fail
    refine (in01_yes _ _ _ _ t1).mono ?_
    rintro e w' ⟨rfl, rfl⟩
    clear t1
    go_wp2_with fail
    go_ret
    exact ⟨(by rw [← HBB.out]; exact ret_no F.out), (Below.refl _ _).alloc (Nat.le_refl _) _⟩
  have HT : Hid (1 ≤ n1 ∧ n1 ≤ 80 ∧ n2 ≤ 500 ∧ n3 ≤ 500 ∧ (D.A = false → D.K.length = 0)) := ⟨by omega, by omega, by omega, by omega, fun h => by
    apply Decidable.byContradiction
    intro h2
    exact t4 ⟨NA.out.symm.trans h, by have := N3.out; omega⟩⟩
  have t6 : (A = true ∨ A = false ∧ n3 = 0) := by
    cases A with
    | true => exact .inl rfl
    | false => exact .inr ⟨rfl, by apply Decidable.byContradiction; intro h2; exact t4 ⟨rfl, by omega⟩⟩
  clear t4
  rcases t6 with rfl | ⟨rfl, rfl⟩
  all_goals
    go_enter Tryz.func32, Tryz.ntmps32
    go_wp2_with fail
    refine (in01_yes _ _ _ _ t1).mono ?_
    rintro e w' ⟨rfl, rfl⟩
    go_wp2_with fail
    go_loopw [4] (fun i wr => ∃ k : Nat, k ≤ n1 ∧ i = .int .i64 k ∧ Hid (∀ i, i < k → (D.S.getD i e0).size ≤ 420) ∧ Hid (Below w.heap.size w wr) ∧ Hid (∃ b x, Box wr w.heap.size [.slice a1 n1 c1, .slice a2 n2 c2, b, x])) (fun i _ => n1 - (intOf i).toNat)
    case atStart => exact ⟨0, by omega, rfl, fun i hi => absurd hi (by omega), (Below.refl _ _).alloc (Nat.le_refl _) _, _, _, Box.new rfl⟩
    case round =>
      obtain ⟨k, hk, rfl, hall, hb, hbx⟩ := hrel
      obtain ⟨bb, xx, hbx⟩ := hbx.out
      have HX : Hid (Box wr w.heap.size [.slice a1 n1 c1, .slice a2 n2 c2, bb, xx]) := hbx
      clear hbx
      obtain ⟨p0, _⟩ := HX.out 0 _ rfl
      by_cases hlt : k < n1
      · obtain ⟨b, o, y, rfl, hc, hy⟩ := srcS (S1.out.below hb.out) (i := k) (by rw [N1.out]; exact hlt)
        have hsz : y.size ≤ 1048576 := by rw [← hy.out]; exact HS.out.1.2 _ (getD_mem _ _ _ (by rw [N1.out]; exact hlt))
        by_cases hbig : (420 : Int) < (y.size : Int)
        · have F : Hid (¬ okD D) := fun h => by
            have h1 := (all_iff D.S e0 (fun x => x.size ≤ 420)).1 h.1.2.2 k (by rw [N1.out]; exact hlt)
            rw [hy.out] at h1
            omega
          go_wp2_with fail
          go_ret
          exact ⟨(by rw [← HBB.out]; exact ret_no F.out), hb.out⟩
        · have hall2 : Hid (∀ i, i < k + 1 → (D.S.getD i e0).size ≤ 420) := fun i hi => by
            by_cases e : i = k
            · rw [e, hy.out]; omega
            · exact hall.out i (by omega)
          go_wp2_with fail
          exact ⟨⟨k + 1, by omega, by go_num, hall2, hb.out, _, _, HX.out⟩, by simp [intOf]; omega⟩
      · have hkn : k = n1 := by omega
        have HA1 : Hid (∀ x ∈ D.S, x.size ≤ 420) := (all_iff D.S e0 (fun x => x.size ≤ 420)).2 (fun i hi => hall.out i (by rw [hkn, ← N1.out]; exact hi))
        clear hkn hall p0
        go_wp2_with fail
        go_loopw [5] (fun i wr => ∃ k : Nat, k ≤ n2 ∧ i = .int .i64 k ∧ Hid (∀ i, i < k → okW n1 (D.C.getD i q0)) ∧ Hid (Below w.heap.size w wr) ∧ Hid (Box wr w.heap.size [.slice a1 n1 c1, .slice a2 n2 c2, bb, xx])) (fun i _ => n2 - (intOf i).toNat)
        case atStart => exact ⟨0, by omega, rfl, fun i hi => absurd hi (by omega), hb.out, HX.out⟩
        case round =>
          clear hb HX
          obtain ⟨j, hj, rfl, hall, hb, HX⟩ := hrel
          obtain ⟨p1, _⟩ := HX.out 1 _ rfl
          by_cases hlt2 : j < n2
          · obtain ⟨b, o, x, y, rfl, hc1, hc2, hy⟩ := srcQ (S2.out.below hb.out) (i := j) (by rw [N2.out]; exact hlt2)
            have hsz : y.size ≤ 1048576 := by
              have := HS.out.2.1.2 _ (getD_mem D.C q0 j (by rw [N2.out]; exact hlt2))
              rw [hy.out] at this; exact this
            have HJ : Hid (j < D.C.length) := by show j < D.C.length; rw [N2.out]; exact hlt2
            by_cases hin : (0 : Int) ≤ x ∧ x ≤ (n1 : Int) - 1
            · have HIN : Hid ((0 : Int) ≤ x ∧ x ≤ (n1 : Int) - 1) := hin
              clear hin
              go_wp2_with fail
              refine (in01_yes _ _ _ _ HIN.out).mono ?_
              rintro e w' ⟨rfl, rfl⟩
              by_cases hbig : (420 : Int) < (y.size : Int)
              · have F : Hid (¬ okD D) := fun h => by
                  have h1 := (all_iff D.C q0 (fun x => okW D.S.length x)).1 h.2.1.2 j HJ.out
                  rw [hy.out] at h1
                  have h2 := h1.2.2
                  simp only [] at h2
                  omega
                go_wp2_with fail
                go_ret
                exact ⟨(by rw [← HBB.out]; exact ret_no F.out), hb.out.alloc hb.out.size _⟩
              · have hall2 : Hid (∀ i, i < j + 1 → okW n1 (D.C.getD i q0)) := fun i hi => by
                  by_cases e : i = j
                  · rw [e, hy.out]
                    have h1 := HIN.out
                    exact ⟨h1.1, by show x < n1; omega, by show y.size ≤ 420; omega⟩
                  · exact hall.out i (by omega)
                go_wp2_with fail
                exact ⟨⟨j + 1, by omega, by go_num, hall2, hb.out.alloc hb.out.size _, HX.out.old _⟩, by simp [intOf]; omega⟩
            · have F : Hid (¬ okD D) := fun h => by
                have h1 := (all_iff D.C q0 (fun x => okW D.S.length x)).1 h.2.1.2 j HJ.out
                rw [hy.out, N1.out] at h1
                exact hin ⟨h1.1, by have := h1.2.1; simp only [] at this; omega⟩
              have HIN : Hid (¬ ((0 : Int) ≤ x ∧ x ≤ (n1 : Int) - 1)) := hin
              clear hin
              go_wp2_with fail
              refine (in01_no _ _ _ _ HIN.out).mono ?_
              rintro e w' ⟨rfl, rfl⟩
              go_wp2_with fail
              go_ret
              exact ⟨(by rw [← HBB.out]; exact ret_no F.out), hb.out.alloc hb.out.size _⟩
          · have hjn : j = n2 := by omega
            have F : Hid (okD D) := by
              have h := HT.out
              refine ⟨⟨by rw [N1.out]; exact h.1, by rw [N1.out]; exact h.2.1, HA1.out⟩, ⟨by rw [N2.out]; exact h.2.2.1, ?_⟩, by have h5 := h.2.2.2.1; have h6 := N3.out; omega, h.2.2.2.2⟩
              rw [all_iff D.C q0, N1.out]
              intro i hi
              exact hall.out i (by rw [hjn, ← N2.out]; exact hi)
            clear hjn
            go_wp2_with fail
            go_ret
            exact ⟨(by rw [← HBB.out]; exact ret_yes F.out), hb.out⟩
end Go.Proofs.YtnnimocaanofjaaGreatDoor

/-
  Contracts of the program's own DiskOK and its parts. By an AI agent.
-/
namespace Go.Proofs.YtnnimocaanofjaaGreatDoor
open Go.ChangeShapes Go.WideShapes Go.ChangeAt Go.RowKit Go.Deep
set_option linter.unusedVariables false

abbrev okS (S : List ByteArray) : Prop := 1 ≤ S.length ∧ S.length ≤ 80 ∧ ∀ x ∈ S, x.size ≤ 420
abbrev okC (C : List (Int × ByteArray)) (n : Nat) : Prop := C.length ≤ 500 ∧ ∀ p ∈ C, okW n p
abbrev okK (K : List Int) (A : Bool) : Prop := K.length ≤ 500 ∧ (A = false → K.length = 0)
set_option maxHeartbeats 400000 in
theorem sectorsOK (a : Option Addr) (n c : Nat) (S : List ByteArray) (w : World) (hn : S.length = n) (hn1 : n ≤ 1048576) (hs : ∀ x ∈ S, x.size ≤ 1048576) (h : Src w a (cellsS S)) :
    Calls Tryz.prog 133 #[.slice a n c] w fun e w' => e = .returned (.bool (decide (okS S))) ∧ Below w.heap.size w w' := by
  obtain ⟨bb, hbb⟩ : ∃ bb, decide (okS S) = bb := ⟨_, rfl⟩
  have HBB : Hid (decide (okS S) = bb) := hbb
  rw [hbb]
  clear hbb
  have HS : Hid (∀ x ∈ S, x.size ≤ 1048576) := hs
  have HH : Hid (Src w a (cellsS S)) := h
  have N1 : Hid (S.length = n) := hn
  clear hs h hn
  by_cases t1 : (n : Int) < 1
  · have F : Hid (¬ okS S) := fun h => by have := h.1; have := N1.out; omega
    go_enter Tryz.func133, Tryz.ntmps133
    go_wp2_with fail
    go_ret
    exact ⟨(by rw [← HBB.out]; exact ret_no F.out), Below.refl _ _⟩
  by_cases t2 : (80 : Int) < (n : Int)
  · have F : Hid (¬ okS S) := fun h => by have := h.2.1; have := N1.out; omega
    go_enter Tryz.func133, Tryz.ntmps133
    go_wp2_with fail
    go_ret
    exact ⟨(by rw [← HBB.out]; exact ret_no F.out), Below.refl _ _⟩
  go_enter Tryz.func133, Tryz.ntmps133
  go_wp2_with fail
  go_loopw [15] (fun i wr => ∃ k : Nat, k ≤ n ∧ i = .int .i64 k ∧ Hid (∀ i, i < k → (S.getD i e0).size ≤ 420) ∧ Hid (Below w.heap.size w wr)) (fun i _ => n - (intOf i).toNat)
  case atStart => exact ⟨0, by omega, rfl, fun i hi => absurd hi (by omega), Below.refl _ _⟩
  case round =>
    obtain ⟨k, hk, rfl, hall, hb⟩ := hrel
    by_cases hlt : k < n
    · obtain ⟨b, o, y, rfl, hc, hy⟩ := srcS (HH.out.below hb.out) (i := k) (by rw [N1.out]; exact hlt)
      have hsz : y.size ≤ 1048576 := by rw [← hy.out]; exact HS.out _ (getD_mem _ _ _ (by rw [N1.out]; exact hlt))
      by_cases hbig : (420 : Int) < (y.size : Int)
      · have F : Hid (¬ okS S) := fun h => by
          have h1 := (all_iff S e0 (fun x => x.size ≤ 420)).1 h.2.2 k (by rw [N1.out]; exact hlt)
          rw [hy.out] at h1
          omega
        go_wp2_with fail
        go_ret
        exact ⟨(by rw [← HBB.out]; exact ret_no F.out), hb.out⟩
      · have hall2 : Hid (∀ i, i < k + 1 → (S.getD i e0).size ≤ 420) := fun i hi => by
          by_cases e : i = k
          · rw [e, hy.out]; omega
          · exact hall.out i (by omega)
        go_wp2_with fail
        exact ⟨⟨k + 1, by omega, by go_num, hall2, hb.out⟩, by simp [intOf]; omega⟩
    · have hkn : k = n := by omega
      have F : Hid (okS S) := ⟨by have := N1.out; omega, by have := N1.out; omega, (all_iff S e0 (fun x => x.size ≤ 420)).2 (fun i hi => hall.out i (by rw [hkn, ← N1.out]; exact hi))⟩
      clear hkn
      go_wp2_with fail
      go_ret
      exact ⟨(by rw [← HBB.out]; exact ret_yes F.out), hb.out⟩

set_option maxHeartbeats 400000 in
theorem writeFits (x : Int) (y : ByteArray) (n : Nat) (w : World) (hy : y.size ≤ 1048576) :
    Calls Tryz.prog 154 #[.agg #[.int .i64 x, .string y], .int .i64 (n : Int)] w fun e w' => e = .returned (.bool (decide (okW n (x, y)))) ∧ Below w.heap.size w w' := by
  obtain ⟨bb, hbb⟩ : ∃ bb, decide (okW n (x, y)) = bb := ⟨_, rfl⟩
  have HBB : Hid (decide (okW n (x, y)) = bb) := hbb
  rw [hbb]
  clear hbb
  by_cases t1 : (0 : Int) ≤ x
  case neg =>
    have F : Hid (¬ okW n (x, y)) := fun h => t1 h.1
    have t2 : x < 0 := by omega
    clear t1
    go_enter Tryz.func154, Tryz.ntmps154
    go_wp2_with fail
    go_ret
    exact ⟨(by rw [← HBB.out]; exact ret_no F.out), (Below.refl _ _).alloc (Nat.le_refl _) _⟩
  by_cases t2 : x < (n : Int)
  case neg =>
    have F : Hid (¬ okW n (x, y)) := fun h => t2 h.2.1
    have t3 : (n : Int) ≤ x := by omega
    clear t2
    go_enter Tryz.func154, Tryz.ntmps154
    go_wp2_with fail
    go_ret
    exact ⟨(by rw [← HBB.out]; exact ret_no F.out), (Below.refl _ _).alloc (Nat.le_refl _) _⟩
  by_cases t3 : (y.size : Int) ≤ 420
  · have F : Hid (okW n (x, y)) := ⟨t1, t2, by show y.size ≤ 420; omega⟩
    go_enter Tryz.func154, Tryz.ntmps154
    go_wp2_with fail
    go_ret
    exact ⟨(by rw [← HBB.out]; exact ret_yes F.out), (Below.refl _ _).alloc (Nat.le_refl _) _⟩
  · have F : Hid (¬ okW n (x, y)) := fun h => t3 (by have := h.2.2; simp only [] at this; omega)
    have t4 : decide ((y.size : Int) ≤ 420) = false := decide_eq_false t3
    clear t3
    go_enter Tryz.func154, Tryz.ntmps154
    go_wp2_with fail
    go_ret
    exact ⟨(by rw [← HBB.out]; exact ret_no F.out), (Below.refl _ _).alloc (Nat.le_refl _) _⟩

set_option maxHeartbeats 400000 in
theorem writesOK (a : Option Addr) (n c m : Nat) (C : List (Int × ByteArray)) (w : World) (hn : C.length = n) (hn1 : n ≤ 1048576) (hs : ∀ x ∈ C, x.2.size ≤ 1048576) (h : Src w a (cellsQ C)) :
    Calls Tryz.prog 134 #[.slice a n c, .int .i64 (m : Int)] w fun e w' => e = .returned (.bool (decide (okC C m))) ∧ Below w.heap.size w w' := by
  obtain ⟨bb, hbb⟩ : ∃ bb, decide (okC C m) = bb := ⟨_, rfl⟩
  have HBB : Hid (decide (okC C m) = bb) := hbb
  rw [hbb]
  clear hbb
  have HS : Hid (∀ x ∈ C, x.2.size ≤ 1048576) := hs
  have HH : Hid (Src w a (cellsQ C)) := h
  have N1 : Hid (C.length = n) := hn
  clear hs h hn
  by_cases t2 : (500 : Int) < (n : Int)
  · have F : Hid (¬ okC C m) := fun h => by have := h.1; have := N1.out; omega
    go_enter Tryz.func134, Tryz.ntmps134
    go_wp2_with fail
    go_ret
    exact ⟨(by rw [← HBB.out]; exact ret_no F.out), Below.refl _ _⟩
  go_enter Tryz.func134, Tryz.ntmps134
  go_wp2_with fail
  go_loopw [12] (fun i wr => ∃ k : Nat, k ≤ n ∧ i = .int .i64 k ∧ Hid (∀ i, i < k → okW m (C.getD i q0)) ∧ Hid (Below w.heap.size w wr)) (fun i _ => n - (intOf i).toNat)
  case atStart => exact ⟨0, by omega, rfl, fun i hi => absurd hi (by omega), Below.refl _ _⟩
  case round =>
    obtain ⟨k, hk, rfl, hall, hb⟩ := hrel
    by_cases hlt : k < n
    · obtain ⟨b, o, x, y, rfl, hc1, hc2, hy⟩ := srcQ (HH.out.below hb.out) (i := k) (by rw [N1.out]; exact hlt)
      have hsz : y.size ≤ 1048576 := by
        have := HS.out _ (getD_mem C q0 k (by rw [N1.out]; exact hlt))
        rw [hy.out] at this; exact this
      have HJ : Hid (k < C.length) := by show k < C.length; rw [N1.out]; exact hlt
      go_wp2_with fail
      refine (writeFits x y m _ hsz).mono ?_
      rintro e w1 ⟨rfl, hb1⟩
      have HB1 : Hid (Below w.heap.size w w1) := (hb.out.alloc hb.out.size _).trans (hb1.mono (le_alloc hb.out.size _))
      clear hb1
      by_cases hok : okW m (x, y)
      · have hd : decide (okW m (x, y)) = true := decide_eq_true hok
        have hall2 : Hid (∀ i, i < k + 1 → okW m (C.getD i q0)) := fun i hi => by
          by_cases e : i = k
          · rw [e, hy.out]; exact hok
          · exact hall.out i (by omega)
        rw [hd]
        clear hok hd
        go_wp2_with fail
        exact ⟨⟨k + 1, by omega, by go_num, hall2, HB1.out⟩, by simp [intOf]; omega⟩
      · have hd : decide (okW m (x, y)) = false := decide_eq_false hok
        have F : Hid (¬ okC C m) := fun h => by
          have h1 := (all_iff C q0 (fun x => okW m x)).1 h.2 k HJ.out
          rw [hy.out] at h1
          exact hok h1
        rw [hd]
        clear hok hd
        go_wp2_with fail
        go_ret
        exact ⟨(by rw [← HBB.out]; exact ret_no F.out), HB1.out⟩
    · have hkn : k = n := by omega
      have F : Hid (okC C m) := ⟨by have := N1.out; omega, (all_iff C q0 (fun x => okW m x)).2 (fun i hi => hall.out i (by rw [hkn, ← N1.out]; exact hi))⟩
      clear hkn
      go_wp2_with fail
      go_ret
      exact ⟨(by rw [← HBB.out]; exact ret_yes F.out), hb.out⟩

set_option maxHeartbeats 400000 in
theorem keepOK (a : Option Addr) (n c : Nat) (K : List Int) (A : Bool) (w : World) (hn : K.length = n) (hn1 : n ≤ 1048576) :
    Calls Tryz.prog 135 #[.slice a n c, .bool A] w fun e w' => e = .returned (.bool (decide (okK K A))) ∧ Below w.heap.size w w' := by
  obtain ⟨bb, hbb⟩ : ∃ bb, decide (okK K A) = bb := ⟨_, rfl⟩
  have HBB : Hid (decide (okK K A) = bb) := hbb
  rw [hbb]
  clear hbb
  have N1 : Hid (K.length = n) := hn
  clear hn
  cases A with
  | true =>
    by_cases t : (n : Int) ≤ 500
    · have F : Hid (okK K true) := ⟨by have := N1.out; omega, fun h => by cases h⟩
      go_enter Tryz.func135, Tryz.ntmps135
      go_wp2_with fail
      go_ret
      exact ⟨(by rw [← HBB.out]; exact ret_yes F.out), Below.refl _ _⟩
    · have F : Hid (¬ okK K true) := fun h => by have := h.1; have := N1.out; omega
      have t4 : decide ((n : Int) ≤ 500) = false := decide_eq_false t
      clear t
      go_enter Tryz.func135, Tryz.ntmps135
      go_wp2_with fail
      go_ret
      exact ⟨(by rw [← HBB.out]; exact ret_no F.out), Below.refl _ _⟩
  | false =>
    by_cases t : n = 0
    · subst t
      have F : Hid (okK K false) := ⟨by have := N1.out; omega, fun _ => N1.out⟩
      go_enter Tryz.func135, Tryz.ntmps135
      go_wp2_with fail
      go_ret
      exact ⟨(by rw [← HBB.out]; exact ret_yes F.out), Below.refl _ _⟩
    · have F : Hid (¬ okK K false) := fun h => t (by have := h.2 rfl; have := N1.out; omega)
      have t4 : ((n : Int) == 0) = false := by simp; omega
      clear t
      go_enter Tryz.func135, Tryz.ntmps135
      go_wp2_with fail
      go_ret
      exact ⟨(by rw [← HBB.out]; exact ret_no F.out), Below.refl _ _⟩

set_option maxHeartbeats 1000000 in
theorem implDiskOK (v : Value) (D : DM) (w : World) (hs : smallD D) (h : ReadsD w v D) :
    Calls Tryz.prog 99 #[v] w fun e w' => e = .returned (.bool (decide (okD D))) ∧ Below w.heap.size w w' := by
  obtain ⟨a1, c1, a2, c2, a3, c3, rfl, s1, s2, s3⟩ := h
  have HS : Hid (smallD D) := hs
  have S1 : Hid (Src w a1 (cellsS D.S)) := s1
  have S2 : Hid (Src w a2 (cellsQ D.C)) := s2
  obtain ⟨n1, hn1⟩ : ∃ n, D.S.length = n := ⟨_, rfl⟩
  obtain ⟨n2, hn2⟩ : ∃ n, D.C.length = n := ⟨_, rfl⟩
  obtain ⟨n3, hn3⟩ : ∃ n, D.K.length = n := ⟨_, rfl⟩
  obtain ⟨A, hA⟩ : ∃ A, D.A = A := ⟨_, rfl⟩
  obtain ⟨bb, hbb⟩ : ∃ bb, decide (okD D) = bb := ⟨_, rfl⟩
  have HBB : Hid (decide (okD D) = bb) := hbb
  rw [hbb]
  clear hbb
  rw [hn1, hn2, hn3, hA]
  have z1 : n1 ≤ 1048576 := by rw [← hn1]; exact hs.1.1
  have z2 : n2 ≤ 1048576 := by rw [← hn2]; exact hs.2.1.1
  have z3 : n3 ≤ 1048576 := by rw [← hn3]; exact hs.2.2
  have N1 : Hid (D.S.length = n1) := hn1
  have N2 : Hid (D.C.length = n2) := hn2
  have N3 : Hid (D.K.length = n3) := hn3
  have NA : Hid (D.A = A) := hA
  clear hs s1 s2 s3 hn1 hn2 hn3 hA
  go_enter Tryz.func99, Tryz.ntmps99
  go_wp2_with fail
  refine (sectorsOK a1 n1 c1 D.S _ N1.out z1 HS.out.1.2 (S1.out.below ((Below.refl _ _).alloc (Nat.le_refl _) _))).mono ?_
  rintro e w1 ⟨rfl, hb1⟩
  have B1 : Hid (Below w.heap.size w w1) := ((Below.refl _ _).alloc (Nat.le_refl _) _).trans (hb1.mono (by simp))
  have HX : Hid (Box w1 w.heap.size [.slice a1 n1 c1, .slice a2 n2 c2, .bool A, .slice a3 n3 c3]) := Box.below (Box.new rfl) hb1
  clear hb1
  by_cases t1 : okS D.S
  case neg =>
    have F : Hid (¬ okD D) := fun h => t1 h.1
    rw [decide_eq_false t1]
    clear t1
    go_wp2_with fail
    go_ret
    exact ⟨(by rw [← HBB.out]; exact ret_no F.out), B1.out⟩
  rw [decide_eq_true t1]
  have T1 : Hid (okS D.S) := t1
  clear t1
  obtain ⟨p0, _⟩ := HX.out 0 _ rfl
  obtain ⟨p1, _⟩ := HX.out 1 _ rfl
  go_wp2_with fail
  refine (writesOK a2 n2 c2 n1 D.C _ N2.out z2 HS.out.2.1.2 (S2.out.below B1.out)).mono ?_
  rintro e w2 ⟨rfl, hb2⟩
  have B2 : Hid (Below w.heap.size w w2) := B1.out.trans (hb2.mono B1.out.size)
  have HX2 : Hid (Box w2 w.heap.size [.slice a1 n1 c1, .slice a2 n2 c2, .bool A, .slice a3 n3 c3]) := HX.out.below hb2
  clear hb2 HX B1 p0 p1
  by_cases t2 : okC D.C n1
  case neg =>
    have F : Hid (¬ okD D) := fun h => t2 (by have := h.2.1; rw [N1.out] at this; exact this)
    rw [decide_eq_false t2]
    clear t2
    go_wp2_with fail
    go_ret
    exact ⟨(by rw [← HBB.out]; exact ret_no F.out), B2.out⟩
  rw [decide_eq_true t2]
  have T2 : Hid (okC D.C n1) := t2
  clear t2
  obtain ⟨p2, _⟩ := HX2.out 2 _ rfl
  obtain ⟨p3, _⟩ := HX2.out 3 _ rfl
  go_wp2_with fail
  refine (keepOK a3 n3 c3 D.K A _ N3.out z3).mono ?_
  rintro e w3 ⟨rfl, hb3⟩
  have B3 : Hid (Below w.heap.size w w3) := B2.out.trans (hb3.mono B2.out.size)
  clear hb3 HX2 B2 p2 p3
  by_cases t3 : okK D.K A
  case neg =>
    have F : Hid (¬ okD D) := fun h => t3 (by have := h.2.2; rw [NA.out] at this; exact this)
    rw [decide_eq_false t3]
    clear t3
    go_wp2_with fail
    go_ret
    exact ⟨(by rw [← HBB.out]; exact ret_no F.out), B3.out⟩
  rw [decide_eq_true t3]
  have F : Hid (okD D) := ⟨T1.out, by have := T2.out; rw [← N1.out] at this; exact this, by have := t3; rw [← NA.out] at this; exact this⟩
  clear t3
  go_wp2_with fail
  go_ret
  exact ⟨(by rw [← HBB.out]; exact ret_yes F.out), B3.out⟩
end Go.Proofs.YtnnimocaanofjaaGreatDoor

