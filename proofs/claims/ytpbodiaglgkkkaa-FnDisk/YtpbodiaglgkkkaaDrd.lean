
/-
  Contracts of both DiskRead. By an AI agent.
-/
import Derived.Test.YtpbodiaglgkkkaaWrt
namespace Go.Proofs.Ytpbodiaglgkkkaa
open Go.ChangeShapes Go.WideShapes Go.ChangeAt Go.RowKit Go.Deep
set_option linter.unusedVariables false

theorem byS_append (A B : List (Int × ByteArray)) (i : Nat) : byS (A ++ B) i = byS A i ++ byS B i := by simp [byS]
theorem byS_one_yes (j : Nat) (y : ByteArray) : byS [((j : Int), y)] j = [y] := by simp [byS]
theorem byS_one_no (x : Int) (j : Nat) (y : ByteArray) (h0 : 0 ≤ x) (h : x ≠ (j : Int)) : byS [(x, y)] j = [] := by
  unfold byS
  rw [List.filter_cons, if_neg (by simp; omega)]; rfl
theorem drop_one {α : Type} (L : List α) (d : α) (k : Nat) (h : k < L.length) : L.drop k = [L.getD k d] ++ L.drop (k + 1) := by
  rw [List.drop_eq_getElem_cons h, List.getD_eq_getElem?_getD, List.getElem?_eq_getElem h]; rfl
/-- What DiskRead answers. -/
def dread (D : DM) (x : Int) : ByteArray × Int :=
  if okD D then (if 0 ≤ x ∧ x < (D.S.length : Int) then (lastOr (byS D.C x.toNat) (D.S.getD x.toNat e0), 0) else (⟨#[]⟩, 4)) else (⟨#[]⟩, 1)
theorem dr_bad {D : DM} {x : Int} (h : ¬ okD D) : dread D x = (⟨#[]⟩, 1) := by unfold dread; rw [if_neg h]
theorem dr_range {D : DM} {x : Int} (h : okD D) (h1 : ¬ (0 ≤ x ∧ x < (D.S.length : Int))) : dread D x = (⟨#[]⟩, 4) := by unfold dread; rw [if_pos h, if_neg h1]
theorem dr_ok {D : DM} {j : Nat} (h : okD D) (h1 : j < D.S.length) : dread D (j : Int) = (lastOr (byS D.C j) (D.S.getD j e0), 0) := by
  unfold dread; rw [if_pos h, if_pos (by omega), Int.toNat_natCast]

set_option maxHeartbeats 1000000 in
theorem implDiskRead (v : Value) (D : DM) (x : Int) (w : World) (hs : smallD D) (h : ReadsD w v D) :
    Calls Try.prog 8 #[v, .int .i64 x] w fun e w' => ∃ y c, e = .returned (.tuple #[.string y, .int .i64 c]) ∧ dread D x = (y, c) ∧ Below w.heap.size w w' := by
  obtain ⟨a1, c1, a2, c2, a3, c3, rfl, s1, s2, s3⟩ := h
  have HS : Hid (smallD D) := hs
  have S2 : Hid (Src w a2 (cellsQ D.C)) := s2
  have HRD : Hid (ReadsD w (.agg #[.slice a1 D.S.length c1, .slice a2 D.C.length c2, .bool D.A, .slice a3 D.K.length c3]) D) := ⟨a1, c1, a2, c2, a3, c3, rfl, s1, s2, s3⟩
  have hn1 := hs.1.1
  clear s1 s2 s3 hs
  go_enter Try.func8, Try.ntmps8
  go_wp2_with fail
  refine (implDiskOK _ D _ HS.out (HRD.out.below ((Below.refl _ _).alloc (Nat.le_refl _) _))).mono ?_
  rintro e w1 ⟨rfl, hb1⟩
  have B1 : Hid (Below w.heap.size w w1) := Below.new hb1
  have HA : Hid (Box w1 w.heap.size [.slice a1 D.S.length c1, .slice a2 D.C.length c2, .bool D.A, .slice a3 D.K.length c3]) := Box.below (Box.new rfl) hb1
  clear hb1
  by_cases hok : okD D
  case neg =>
    have F : Hid (dread D x = (⟨#[]⟩, 1)) := dr_bad hok
    rw [decide_eq_false hok]
    clear hok
    go_wp2_with fail
    go_ret2
    exact ⟨⟨#[]⟩, 1, rfl, F.out, B1.out⟩
  rw [decide_eq_true hok]
  have HOK : Hid (okD D) := hok
  clear hok
  obtain ⟨p0, _⟩ := HA.out 0 _ rfl
  by_cases t1 : x < 0
  · have F : Hid (dread D x = (⟨#[]⟩, 4)) := dr_range HOK.out (fun h => by omega)
    go_wp2_with fail
    go_ret2
    exact ⟨⟨#[]⟩, 4, rfl, F.out, B1.out⟩
  by_cases t2 : (D.S.length : Int) ≤ x
  · have F : Hid (dread D x = (⟨#[]⟩, 4)) := dr_range HOK.out (fun h => by omega)
    go_wp2_with fail
    go_ret2
    exact ⟨⟨#[]⟩, 4, rfl, F.out, B1.out⟩
  obtain ⟨j, rfl⟩ : ∃ j : Nat, x = (j : Int) := ⟨x.toNat, by omega⟩
  have HJ : Hid (j < D.S.length) := by show j < D.S.length; omega
  have F : Hid (dread D (j : Int) = (lastOr (byS D.C j) (D.S.getD j e0), 0)) := dr_ok HOK.out HJ.out
  have t3 : decide ((D.S.length : Int) ≤ (j : Int)) = false := decide_eq_false t2
  obtain ⟨p1, _⟩ := HA.out 1 _ rfl
  obtain ⟨p2, _⟩ := HA.out 2 _ rfl
  obtain ⟨p3, _⟩ := HA.out 3 _ rfl
  go_wp2_with fail
  refine (written _ D a2 D.C.length c2 D.C _ HS.out rfl HOK.out.2.1.1 HOK.out.2.1.2 (S2.out.below B1.out) (HRD.out.below B1.out)).mono ?_
  rintro e w2 ⟨u, rfl, o2, hb2⟩
  have B2 : Hid (Below w.heap.size w w2) := B1.out.trans (hb2.mono B1.out.size)
  obtain ⟨au, cu, rfl, su, _⟩ := own_src o2
  obtain ⟨b, o, y, rfl, hc, hy⟩ := srcS su (i := j) (by rw [applyW_length]; exact HJ.out)
  have EY : Hid (dread D (j : Int) = (y, 0)) := by
    show dread D _ = _
    rw [F.out, ← applyW_get D.S D.C j HJ.out, hy.out]
  have hj0 : (0 : Int) ≤ (j : Int) := by omega
  have hjn : (j : Int) < (D.S.length : Int) := by have := HJ.out; omega
  clear o2 hb2 su hy
  go_wp2_with fail
  go_ret2
  exact ⟨y, 0, rfl, EY.out, B2.out⟩
end Go.Proofs.Ytpbodiaglgkkkaa
