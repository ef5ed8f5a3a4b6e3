/-
  For every disk, right or not, the law FnExactDiskOK returns true: the program's DiskOK tells as the specification's does, and writes nothing into its argument. No condition.
  By an AI agent.
-/
import Derived.Test.YtnmeafhfchkemaaDlaw0
namespace Go.Proofs.Ytnmeafhfchkemaa.fnExactDiskOK
open Go.ChangeShapes Go.WideShapes Go.ChangeAt Go.WideMaps Go.WideElems Go.RowKit Go.Deep
open Go.ChangeMaps (open_string shut_string)
set_option linter.unusedVariables false

set_option maxHeartbeats 2000000 in
theorem walk (v : Value) (D : DM) (w : World) (h : ReadsD w v D) (hm : D.S.length ≤ maxLen ∧ (∀ x ∈ D.S, x.size ≤ maxLen) ∧ D.C.length ≤ maxLen ∧ (∀ x ∈ D.C, x.2.size ≤ maxLen) ∧ D.K.length ≤ maxLen) :
    Calls Try.prog 11 #[v] w fun e w' => e = .returned (.bool true) ∧ Below w.heap.size w w' := by
  have HM : Hid (D.S.length ≤ maxLen ∧ (∀ x ∈ D.S, x.size ≤ maxLen) ∧ D.C.length ≤ maxLen ∧ (∀ x ∈ D.C, x.2.size ≤ maxLen) ∧ D.K.length ≤ maxLen) := hm
  obtain ⟨a1, c1, a2, c2, a3, c3, rfl, s1, s2, s3⟩ := h
  have HR : Hid (ReadsD w (.agg #[.slice a1 D.S.length c1, .slice a2 D.C.length c2, .bool D.A, .slice a3 D.K.length c3]) D) := ⟨a1, c1, a2, c2, a3, c3, rfl, s1, s2, s3⟩
  clear hm s1 s2 s3
  go_enter Try.func11, Try.ntmps11
  go_wp2_with fail
  refine (szDisk _ D _ HM.out (HR.out.below ((Below.refl _ _).alloc (Nat.le_refl _) _))).mono ?_
  rintro e w1 ⟨r, rfl, hr, hb1⟩
  have B1 : Hid (Below w.heap.size w w1) := Below.new hb1
  have X1 : Hid (Box w1 w.heap.size [.slice a1 D.S.length c1, .slice a2 D.C.length c2, .bool D.A, .slice a3 D.K.length c3]) := Box.below (Box.new rfl) hb1
  clear hb1
  by_cases hneg : r < 0
  · clear hr
    go_wp2_with fail
    go_ret
    exact ⟨rfl, B1.out⟩
  have SM : Hid (smallD D) := hr (by omega)
  clear hr
  obtain ⟨p0, _⟩ := X1.out 0 _ rfl
  obtain ⟨p1, _⟩ := X1.out 1 _ rfl
  obtain ⟨p2, _⟩ := X1.out 2 _ rfl
  obtain ⟨p3, _⟩ := X1.out 3 _ rfl
  go_wp2_with fail
  refine (toDisk _ D _ SM.out (HR.out.below B1.out)).mono ?_
  rintro e w2 ⟨v2, rfl, own2, hb2⟩
  have B2 : Hid (Below w.heap.size w w2) := B1.out.trans (hb2.mono B1.out.size)
  have X2 : Hid (Box w2 w.heap.size [.slice a1 D.S.length c1, .slice a2 D.C.length c2, .bool D.A, .slice a3 D.K.length c3]) := X1.out.below hb2
  have O2 : Hid (OwnsD w2 w1.heap.size w2.heap.size v2 D) := own2
  clear hb2 own2 B1 X1 p0 p1 p2 p3
  go_wp2_with fail
  refine (specDiskOK v2 D _ SM.out O2.out.reads).mono ?_
  rintro e w3 ⟨rfl, hb3⟩
  have B3 : Hid (Below w.heap.size w w3) := B2.out.trans (hb3.mono B2.out.size)
  have X3 : Hid (Box w3 w.heap.size [.slice a1 D.S.length c1, .slice a2 D.C.length c2, .bool D.A, .slice a3 D.K.length c3]) := X2.out.below hb3
  clear hb3 O2 B2 X2
  obtain ⟨bb, hbb⟩ : ∃ bb, decide (okD D) = bb := ⟨_, rfl⟩
  have HBB : Hid (decide (okD D) = bb) := hbb
  rw [hbb]
  clear hbb
  obtain ⟨p0, _⟩ := X3.out 0 _ rfl
  obtain ⟨p1, _⟩ := X3.out 1 _ rfl
  obtain ⟨p2, _⟩ := X3.out 2 _ rfl
  obtain ⟨p3, _⟩ := X3.out 3 _ rfl
  go_wp2_with fail
  refine (toDisk _ D _ SM.out (HR.out.below B3.out)).mono ?_
  rintro e w4 ⟨v4, rfl, own4, hb4⟩
  obtain ⟨b1, d1, b2, d2, b3, d3, rfl⟩ := own4.lit
  have B4 : Hid (Below w.heap.size w w4) := B3.out.trans (hb4.mono B3.out.size)
  have X4 : Hid (Box w4 w.heap.size [.slice a1 D.S.length c1, .slice a2 D.C.length c2, .bool D.A, .slice a3 D.K.length c3]) := X3.out.below hb4
  have O4 : Hid (ReadsD w4 (.agg #[.slice b1 D.S.length d1, .slice b2 D.C.length d2, .bool D.A, .slice b3 D.K.length d3]) D) := own4.reads
  clear hb4 own4 B3 X3 p0 p1 p2 p3
  go_wp2_with fail
  refine (implDiskOK _ D _ SM.out (O4.out.below ((Below.refl _ _).alloc (Nat.le_refl _) _))).mono ?_
  rintro e w5 ⟨rfl, hb5⟩
  have B5 : Hid (Below w.heap.size w w5) := B4.out.trans ((Below.new hb5).mono B4.out.size)
  have X5 : Hid (Box w5 w.heap.size [.slice a1 D.S.length c1, .slice a2 D.C.length c2, .bool D.A, .slice a3 D.K.length c3]) := X4.out.below (Below.new hb5)
  have Y5 : Hid (Box w5 w4.heap.size [.slice b1 D.S.length d1, .slice b2 D.C.length d2, .bool D.A, .slice b3 D.K.length d3]) := Box.below (Box.new rfl) hb5
  have O5 : Hid (ReadsD w5 (.agg #[.slice b1 D.S.length d1, .slice b2 D.C.length d2, .bool D.A, .slice b3 D.K.length d3]) D) := O4.out.below (Below.new hb5)
  clear hb5 B4 X4 O4
  rw [HBB.out]
  have hne : (bb != bb) = false := by cases bb <;> rfl
  obtain ⟨p0, _⟩ := X5.out 0 _ rfl
  obtain ⟨p1, _⟩ := X5.out 1 _ rfl
  obtain ⟨p2, _⟩ := X5.out 2 _ rfl
  obtain ⟨p3, _⟩ := X5.out 3 _ rfl
  obtain ⟨q0, _⟩ := Y5.out 0 _ rfl
  obtain ⟨q1, _⟩ := Y5.out 1 _ rfl
  obtain ⟨q2, _⟩ := Y5.out 2 _ rfl
  obtain ⟨q3, _⟩ := Y5.out 3 _ rfl
  go_wp2_with fail
  go_region_with (first | (go_at_call 63; refine (eqDisk _ _ D _ (small_len SM.out) O6.out.1 O6.out.2).mono ?_; rintro e w7 ⟨rfl, hb7⟩; have B7 : Hid (Below w.heap.size w w7) := B6.out.trans (hb7.mono B6.out.size); clear hb7) | (go_at_call 68; refine (toDisk _ D _ SM.out (HR.out.below B5.out.drew)).mono ?_; rintro e w6 ⟨v6, rfl, own6, hb6⟩; have B6 : Hid (Below w.heap.size w w6) := B5.out.drew.trans (hb6.mono B5.out.size); have O6 : Hid (ReadsD w6 (.agg #[.slice b1 D.S.length d1, .slice b2 D.C.length d2, .bool D.A, .slice b3 D.K.length d3]) D ∧ ReadsD w6 v6 D) := ⟨O5.out.drew.below hb6, own6.reads⟩; have Y6 := Y5.out.drew.below hb6; clear q0 q1 q2 q3; obtain ⟨q0, _⟩ := Y6 0 _ rfl; obtain ⟨q1, _⟩ := Y6 1 _ rfl; obtain ⟨q2, _⟩ := Y6 2 _ rfl; obtain ⟨q3, _⟩ := Y6 3 _ rfl; clear hb6 own6 Y6))
  all_goals go_wp2_with fail
  all_goals
    go_ret
    exact ⟨rfl, B7.out⟩

theorem own : ownKnob Try.prog.godebug = none := by kernel_rfl
theorem laidOut : laidOutB Try.prog = true := by kernel_rfl

set_option maxRecDepth 100000 in
theorem lifted (os : Os) (started : os.Started) (H : Type) (enc : TypeId × Value → H) :
    ReturnsInHanded {} Try.checked os 11 .any (Rows.fnExactDiskOKSpec.pre6 enc Try.prog Try.f11 Rows.fnExactDiskOKRow.domain false) (Rows.fnExactDiskOKSpec.post enc Try.prog Try.f11 false true false false) := by
  refine returnsInHanded_of_change (C := Try.checked) own started (by kernel_rfl) Try.func11
    (ChangeSpec.witness6 (enc := enc) (C := Try.checked) false ⟨#[], #[.agg #[.slice none 0 0, .slice none 0 0, .bool false, .slice none 0 0]], []⟩ 8 (by kernel_rfl) (by kernel_rfl) (by kernel_rfl) (by kernel_rfl)) ?_
  intro W base args ds gs before hval0 hW hcnd _
  have hval : ∀ (j : Nat) t v, Try.f11.params[j]? = some t → args[j]? = some v → Value.okWide Try.prog W .any base t v := hval0
  have hW' := hW
  obtain ⟨p, q, hA0, hV, rfl, hfz, hnd⟩ := hW
  have hA : DataW.TrodAll enc Try.prog W 0 (fun _ => true) true Try.f11.params.toList args.toList ds p := hA0
  rw [Try.params11] at hA hval
  obtain ⟨v0, vs0, d0, ds0, p0, q0, hargs, rfl, rfl, h0, r0⟩ := trodAll_cons hA
  obtain ⟨rfl, rfl, rfl⟩ := trodAll_nil r0
  obtain rfl : args = #[v0] := by cases args; simp_all
  obtain ⟨rfl, rfl⟩ := trodVars_none hV
  have k0 := h0
  have lt0 : ∀ x ∈ p0, x.block < W.heap.size := by obtain ⟨m, hm⟩ := k0; exact DataW.trod_lt m _ _ _ hm
  obtain ⟨D0, rd0, mx0⟩ := disk_arg (hval 0 77 v0 rfl rfl) h0
  clear hA0 hval0
  refine (walk v0 D0 W rd0 mx0).mono fun e W' ⟨he, bel⟩ => ?_
  subst he
  exact ⟨_, rfl, _, _, _, [], _, [], hW', trodAll_mk1 (shut_bool Try.underlying4 _), (trodAll_cons_mk (Below.trod laidOut (by kernel_rfl) (of_decide_eq_true (by kernel_rfl)) k0 bel lt0) trodAll_mk0), rfl, bel.frame _, fun h => by cases h⟩

theorem over : Rows.fnExactDiskOKRow.holds Try.pinned (OpenSpec.ofChange Rows.fnExactDiskOKSpec) :=
  OpenClaim.holds_of_wide 11 Try.f11 rfl rfl rfl rfl rfl rfl rfl ⟨rfl, rfl, rfl, rfl, rfl⟩ rfl rfl rfl rfl rfl (by kernel_rfl) Try.func11 (by kernel_rfl)
    (of_decide_eq_true (by kernel_rfl)) (by unfold Func.isWrapper; first | (rw [if_pos (by decide +kernel)]; kernel_rfl) | (rw [if_neg (by decide +kernel)]; exact ⟨rfl, rfl⟩))
    (fun os started H enc _ => lifted os started H enc)

end Go.Proofs.Ytnmeafhfchkemaa.fnExactDiskOK
namespace Go.Proofs.Ytnmeafhfchkemaa
theorem fnExactDiskOK_holds : Rows.FnExactDiskOKSaid := fnExactDiskOK.over
end Go.Proofs.Ytnmeafhfchkemaa
