/-
  Contracts of both DiskRead. By an AI agent.
-/
import Derived.Test.YtnmeafhfchkemaaWrt
namespace Go.Proofs.Ytnmeafhfchkemaa
open Go.ChangeShapes Go.WideShapes Go.ChangeAt Go.RowKit Go.Deep
set_option linter.unusedVariables false

theorem byS_append (A B : List (Int × ByteArray)) (i : Nat) : byS (A ++ B) i = byS A i ++ byS B i := by simp [byS]
theorem byS_one_yes (j : Nat) (y : ByteArray) : byS [((j : Int), y)] j = [y] := by simp [byS]
theorem byS_one_no (x : Int) (j : Nat) (y : ByteArray) (h0 : 0 ≤ x) (h : x ≠ (j : Int)) : byS [(x, y)] j = [] := by
  unfold byS
  rw [List.filter_cons, if_neg (by simp; omega)]; rfl
theorem drop_one {α : Type} (L : List α) (d : α) (k : Nat) (h : k < L.length) : L.drop k = [L.getD k d] ++ L.drop (k + 1) := by
  rw [List.drop_eq_getElem_cons h, List.getD_eq_getElem?_getD, List.getElem?_eq_getElem h]; rfl
/-- What DiskRead answers. -/
def dread (D : DM) (x : Int) : ByteArray × Int :=
  if okD D then (if 0 ≤ x ∧ x < (D.S.length : Int) then (lastOr (byS D.C x.toNat) (D.S.getD x.toNat e0), 0) else (⟨#[]⟩, 4)) else (⟨#[]⟩, 1)
theorem dr_bad {D : DM} {x : Int} (h : ¬ okD D) : dread D x = (⟨#[]⟩, 1) := by unfold dread; rw [if_neg h]
theorem dr_range {D : DM} {x : Int} (h : okD D) (h1 : ¬ (0 ≤ x ∧ x < (D.S.length : Int))) : dread D x = (⟨#[]⟩, 4) := by unfold dread; rw [if_pos h, if_neg h1]
theorem dr_ok {D : DM} {j : Nat} (h : okD D) (h1 : j < D.S.length) : dread D (j : Int) = (lastOr (byS D.C j) (D.S.getD j e0), 0) := by
  unfold dread; rw [if_pos h, if_pos (by omega), Int.toNat_natCast]

set_option maxHeartbeats 1000000 in
theorem l02Read (v : Value) (D : DM) (j : Nat) (w : World) (hs : smallD D) (hj : j < D.S.length) (hp : ∀ p ∈ D.C, 0 ≤ p.1) (h : ReadsD w v D) :
    Calls Try.prog 120 #[v, .int .i64 (j : Int)] w fun e w' => e = .returned (.string (lastOr (byS D.C j) (D.S.getD j e0))) ∧ Below w.heap.size w w' := by
  obtain ⟨a1, c1, a2, c2, a3, c3, rfl, s1, s2, s3⟩ := h
  have S1 : Hid (Src w a1 (cellsS D.S)) := s1
  have S2 : Hid (Src w a2 (cellsQ D.C)) := s2
  have HP : Hid (∀ p ∈ D.C, 0 ≤ p.1) := hp
  obtain ⟨n, hn⟩ : ∃ n, D.S.length = n := ⟨_, rfl⟩
  obtain ⟨m, hm⟩ : ∃ m, D.C.length = m := ⟨_, rfl⟩
  have N1 : Hid (D.S.length = n) := hn
  have N2 : Hid (D.C.length = m) := hm
  have hm1 : m ≤ 1048576 := by rw [← hm]; exact hs.2.1.1
  have hn1 : n ≤ 1048576 := by rw [← hn]; exact hs.1.1
  have hjn : (j : Int) < (n : Int) := by rw [hn] at hj; omega
  have hj0 : (0 : Int) ≤ (j : Int) := by omega
  rw [hn, hm]
  obtain ⟨Y, hY⟩ : ∃ Y, lastOr (byS D.C j) (D.S.getD j e0) = Y := ⟨_, rfl⟩
  rw [hY]
  have HY : Hid (lastOr (byS D.C j) (D.S.getD j e0) = Y) := hY
  clear hs s1 s2 s3 hp hn hm hj hY
  go_enter Try.func120, Try.ntmps120
  go_wp2_with fail
  go_loopw [5] (fun i wr => ∃ q : Int, i = .int .i64 q ∧ -1 ≤ q ∧ q < (m : Int) ∧ Hid (byS (D.C.drop (q + 1).toNat) j = []) ∧ Hid (Below w.heap.size w wr) ∧ Hid (Box wr w.heap.size [.slice a1 n c1, .slice a2 m c2, .bool D.A, .slice a3 D.K.length c3])) (fun i _ => (intOf i + 1).toNat)
  case atStart => exact ⟨(m : Int) - 1, rfl, by omega, by omega, by show byS _ j = []; rw [List.drop_of_length_le (by rw [N2.out]; omega)]; rfl, (Below.refl _ _).alloc (Nat.le_refl _) _, Box.new rfl⟩
  case round =>
    obtain ⟨q, rfl, hq1, hq2, hnone, hb, HX⟩ := hrel
    by_cases hneg : q < 0
    · have hq : q = -1 := by omega
      have E : Hid (lastOr (byS D.C j) (D.S.getD j e0) = D.S.getD j e0) := by
        have := hnone.out
        rw [hq] at this
        simp at this
        show lastOr _ _ = _
        rw [this]; rfl
      obtain ⟨b, o, y, rfl, hc, hy⟩ := srcS (S1.out.below hb.out) (i := j) (by rw [N1.out]; omega)
      have E2 : Hid (Y = y) := HY.out.symm.trans (E.out.trans hy.out)
      obtain ⟨p0, _⟩ := HX.out 0 _ rfl
      clear hq E hy hnone
      go_wp2_with fail
      go_ret
      exact ⟨by show Ending.returned (.string y) = _; rw [E2.out], hb.out⟩
    · obtain ⟨k, rfl⟩ : ∃ k : Nat, q = (k : Int) := ⟨q.toNat, by omega⟩
      have hkl : Hid (k < D.C.length) := by show k < D.C.length; rw [N2.out]; omega
      obtain ⟨b, o, x, y, rfl, hc1, hc2, hy⟩ := srcQ (S2.out.below hb.out) hkl.out
      have hx0 : 0 ≤ x := by have := HP.out _ (getD_mem D.C q0 k hkl.out); rw [hy.out] at this; exact this
      have hk0 : (0 : Int) ≤ (k : Int) := by omega
      obtain ⟨p1, _⟩ := HX.out 1 _ rfl
      by_cases heq : x = (j : Int)
      · subst heq
        have ht : ((j : Int) == (j : Int)) = true := by simp
        have E2 : Hid (Y = y) := by
          show Y = y
          rw [← HY.out]
          have h1 : D.C = D.C.take k ++ ([((j : Int), y)] ++ D.C.drop (k + 1)) := by
            rw [← hy.out, ← drop_one D.C q0 k hkl.out, List.take_append_drop]
          have h2 := hnone.out
          rw [show ((k : Int) + 1).toNat = k + 1 from by omega] at h2
          rw [h1, byS_append, byS_append, h2, byS_one_yes, List.append_nil, lastOr_snoc]
        clear hnone hy hkl
        go_wp2_with fail
        go_ret
        exact ⟨by show Ending.returned (.string y) = _; rw [E2.out], hb.out⟩
      · have ht : (x == (j : Int)) = false := by simp; exact heq
        have hn2 : Hid (byS (D.C.drop ((k : Int) - 1 + 1).toNat) j = []) := by
          show byS _ j = []
          have h2 := hnone.out
          rw [show ((k : Int) + 1).toNat = k + 1 from by omega] at h2
          rw [show ((k : Int) - 1 + 1).toNat = k from by omega, drop_one D.C q0 k hkl.out, byS_append, h2, hy.out, byS_one_no x j y hx0 heq, List.append_nil]
        clear hnone hy hkl heq
        go_wp2_with fail
        exact ⟨⟨(k : Int) - 1, rfl, by omega, by omega, hn2, hb.out, HX.out⟩, by simp [intOf]⟩

set_option maxHeartbeats 1000000 in
theorem specDiskRead (v : Value) (D : DM) (x : Int) (w : World) (hs : smallD D) (h : ReadsD w v D) :
    Calls Try.prog 69 #[v, .int .i64 x] w fun e w' => ∃ y c, e = .returned (.tuple #[.string y, .int .i64 c]) ∧ dread D x = (y, c) ∧ Below w.heap.size w w' := by
  obtain ⟨a1, c1, a2, c2, a3, c3, rfl, s1, s2, s3⟩ := h
  have HS : Hid (smallD D) := hs
  have HRD : Hid (ReadsD w (.agg #[.slice a1 D.S.length c1, .slice a2 D.C.length c2, .bool D.A, .slice a3 D.K.length c3]) D) := ⟨a1, c1, a2, c2, a3, c3, rfl, s1, s2, s3⟩
  have hn1 := hs.1.1
  clear s1 s2 s3 hs
  go_enter Try.func69, Try.ntmps69
  go_wp2_with fail
  refine (specDiskOK _ D _ HS.out (HRD.out.below ((Below.refl _ _).alloc (Nat.le_refl _) _))).mono ?_
  rintro e w1 ⟨rfl, hb1⟩
  have B1 : Hid (Below w.heap.size w w1) := Below.new hb1
  have HA : Hid (Box w1 w.heap.size [.slice a1 D.S.length c1, .slice a2 D.C.length c2, .bool D.A, .slice a3 D.K.length c3]) := Box.below (Box.new rfl) hb1
  clear hb1
  by_cases hok : okD D
  case neg =>
    have F : Hid (dread D x = (⟨#[]⟩, 1)) := dr_bad hok
    rw [decide_eq_false hok]
    clear hok
    go_wp2_with fail
    go_ret2
    exact ⟨⟨#[]⟩, 1, rfl, F.out, B1.out⟩
  rw [decide_eq_true hok]
  have HOK : Hid (okD D) := hok
  have hl1 := hok.1.1
  clear hok
  obtain ⟨p0, _⟩ := HA.out 0 _ rfl
  by_cases tin : (0 : Int) ≤ x ∧ x ≤ (D.S.length : Int) - 1
  case neg =>
    have F : Hid (dread D x = (⟨#[]⟩, 4)) := dr_range HOK.out (fun h => tin ⟨h.1, by omega⟩)
    have TIN : Hid (¬ ((0 : Int) ≤ x ∧ x ≤ (D.S.length : Int) - 1)) := tin
    clear tin
    go_wp2_with fail
    refine (in01_no _ _ _ _ TIN.out).mono ?_
    rintro e w' ⟨rfl, rfl⟩
    go_wp2_with fail
    go_ret2
    exact ⟨⟨#[]⟩, 4, rfl, F.out, B1.out⟩
  obtain ⟨j, rfl⟩ : ∃ j : Nat, x = (j : Int) := ⟨x.toNat, by omega⟩
  have F : Hid (dread D (j : Int) = (lastOr (byS D.C j) (D.S.getD j e0), 0)) := dr_ok HOK.out (by omega)
  have HJ : Hid (j < D.S.length) := by show j < D.S.length; omega
  have TIN : Hid ((0 : Int) ≤ (j : Int) ∧ (j : Int) ≤ (D.S.length : Int) - 1) := tin
  clear tin
  go_wp2_with fail
  refine (in01_yes _ _ _ _ TIN.out).mono ?_
  rintro e w' ⟨rfl, rfl⟩
  obtain ⟨p1, _⟩ := HA.out 1 _ rfl
  obtain ⟨p2, _⟩ := HA.out 2 _ rfl
  obtain ⟨p3, _⟩ := HA.out 3 _ rfl
  go_wp2_with fail
  refine (l02Read _ D j _ HS.out HJ.out (fun p hp => (HOK.out.2.1.2 p hp).1) (HRD.out.below B1.out)).mono ?_
  rintro e w2 ⟨rfl, hb2⟩
  have B2 : Hid (Below w.heap.size w w2) := B1.out.trans (hb2.mono B1.out.size)
  obtain ⟨y, hy⟩ : ∃ y, lastOr (byS D.C j) (D.S.getD j e0) = y := ⟨_, rfl⟩
  rw [hy] at F ⊢
  clear hb2 hy
  go_wp2_with fail
  go_ret2
  exact ⟨y, 0, rfl, F.out, B2.out⟩

set_option maxHeartbeats 1000000 in
theorem implDiskRead (v : Value) (D : DM) (x : Int) (w : World) (hs : smallD D) (h : ReadsD w v D) :
    Calls Try.prog 37 #[v, .int .i64 x] w fun e w' => ∃ y c, e = .returned (.tuple #[.string y, .int .i64 c]) ∧ dread D x = (y, c) ∧ Below w.heap.size w w' := by
  obtain ⟨a1, c1, a2, c2, a3, c3, rfl, s1, s2, s3⟩ := h
  have HS : Hid (smallD D) := hs
  have S2 : Hid (Src w a2 (cellsQ D.C)) := s2
  have HRD : Hid (ReadsD w (.agg #[.slice a1 D.S.length c1, .slice a2 D.C.length c2, .bool D.A, .slice a3 D.K.length c3]) D) := ⟨a1, c1, a2, c2, a3, c3, rfl, s1, s2, s3⟩
  have hn1 := hs.1.1
  clear s1 s2 s3 hs
  go_enter Try.func37, Try.ntmps37
  go_wp2_with fail
  refine (implDiskOK _ D _ HS.out (HRD.out.below ((Below.refl _ _).alloc (Nat.le_refl _) _))).mono ?_
  rintro e w1 ⟨rfl, hb1⟩
  have B1 : Hid (Below w.heap.size w w1) := Below.new hb1
  have HA : Hid (Box w1 w.heap.size [.slice a1 D.S.length c1, .slice a2 D.C.length c2, .bool D.A, .slice a3 D.K.length c3]) := Box.below (Box.new rfl) hb1
  clear hb1
  by_cases hok : okD D
  case neg =>
    have F : Hid (dread D x = (⟨#[]⟩, 1)) := dr_bad hok
    rw [decide_eq_false hok]
    clear hok
    go_wp2_with fail
    go_ret2
    exact ⟨⟨#[]⟩, 1, rfl, F.out, B1.out⟩
  rw [decide_eq_true hok]
  have HOK : Hid (okD D) := hok
  clear hok
  obtain ⟨p0, _⟩ := HA.out 0 _ rfl
  by_cases t1 : x < 0
  · have F : Hid (dread D x = (⟨#[]⟩, 4)) := dr_range HOK.out (fun h => by omega)
    go_wp2_with fail
    go_ret2
    exact ⟨⟨#[]⟩, 4, rfl, F.out, B1.out⟩
  by_cases t2 : (D.S.length : Int) ≤ x
  · have F : Hid (dread D x = (⟨#[]⟩, 4)) := dr_range HOK.out (fun h => by omega)
    go_wp2_with fail
    go_ret2
    exact ⟨⟨#[]⟩, 4, rfl, F.out, B1.out⟩
  obtain ⟨j, rfl⟩ : ∃ j : Nat, x = (j : Int) := ⟨x.toNat, by omega⟩
  have HJ : Hid (j < D.S.length) := by show j < D.S.length; omega
  have F : Hid (dread D (j : Int) = (lastOr (byS D.C j) (D.S.getD j e0), 0)) := dr_ok HOK.out HJ.out
  have t3 : decide ((D.S.length : Int) ≤ (j : Int)) = false := decide_eq_false t2
  obtain ⟨p1, _⟩ := HA.out 1 _ rfl
  obtain ⟨p2, _⟩ := HA.out 2 _ rfl
  obtain ⟨p3, _⟩ := HA.out 3 _ rfl
  go_wp2_with fail
  refine (written _ D a2 D.C.length c2 D.C _ HS.out rfl HOK.out.2.1.1 HOK.out.2.1.2 (S2.out.below B1.out) (HRD.out.below B1.out)).mono ?_
  rintro e w2 ⟨u, rfl, o2, hb2⟩
  have B2 : Hid (Below w.heap.size w w2) := B1.out.trans (hb2.mono B1.out.size)
  obtain ⟨au, cu, rfl, su, _⟩ := own_src o2
  obtain ⟨b, o, y, rfl, hc, hy⟩ := srcS su (i := j) (by rw [applyW_length]; exact HJ.out)
  have EY : Hid (dread D (j : Int) = (y, 0)) := by
    show dread D _ = _
    rw [F.out, ← applyW_get D.S D.C j HJ.out, hy.out]
  have hj0 : (0 : Int) ≤ (j : Int) := by omega
  have hjn : (j : Int) < (D.S.length : Int) := by have := HJ.out; omega
  clear o2 hb2 su hy
  go_wp2_with fail
  go_ret2
  exact ⟨y, 0, rfl, EY.out, B2.out⟩
end Go.Proofs.Ytnmeafhfchkemaa
