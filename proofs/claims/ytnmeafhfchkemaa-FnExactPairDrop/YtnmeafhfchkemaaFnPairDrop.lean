/-
  For every slice of pairs and every key the law FnExactPairDrop returns true: the program's PairDrop answers as the specification's does, writes nothing into its argument, and its answer is its own memory. No condition.
  By an AI agent.
-/
import Derived.Test.YtnmeafhfchkemaaDrops
namespace Go.Proofs.Ytnmeafhfchkemaa.fnExactPairDrop
open Go.ChangeShapes Go.WideShapes Go.ChangeAt Go.WideMaps Go.WideElems Go.RowKit Go.Deep
open Go.ChangeMaps (open_string shut_string)
set_option linter.unusedVariables false

set_option maxHeartbeats 1000000 in
theorem walk (a0 : Option Addr) (len0 cap0 : Nat) (f g : Nat → ByteArray) (key : ByteArray) (w : World) (h : Sp w a0 len0 f g) (hm : len0 ≤ maxLen) (hs : ∀ i, i < len0 → (f i).size ≤ maxLen ∧ (g i).size ≤ maxLen) :
    Calls Try.prog 9 #[.slice a0 len0 cap0, .string key] w fun e w' => e = .returned (.bool true) ∧ Below w.heap.size w w' := by
  by_cases hbig_key : 1048576 < key.size
  · clear h hm hs
    go_enter Try.func9, Try.ntmps9
    go_wp2_with fail
    go_ret
    exact ⟨rfl, Below.refl _ _⟩
  have h_key : key.size ≤ 1048576 := by omega
  have Hh : Hid (Sp w a0 len0 f g) := h
  have Hm : Hid (len0 ≤ maxLen) := hm
  have Hs : Hid (∀ i, i < len0 → (f i).size ≤ maxLen ∧ (g i).size ≤ maxLen) := hs
  clear h hm hs hbig_key
  obtain ⟨p, hp⟩ := place_exists f key len0
  have HP : Hid (IsPlace f len0 key p) := hp
  clear hp
  go_enter Try.func9, Try.ntmps9
  go_wp2_with fail
  refine (szPairS a0 len0 cap0 f g _ Hm.out Hs.out Hh.out).mono ?_
  rintro e w1 ⟨r, rfl, hr, hb1⟩
  by_cases hneg : r < 0
  · clear hr
    go_wp2_with fail
    go_ret
    exact ⟨rfl, hb1⟩
  obtain ⟨hn, hz⟩ := hr (by omega)
  have Hz : Hid (∀ i, i < len0 → (f i).size ≤ 1048576 ∧ (g i).size ≤ 1048576) := hz
  have B1 : Hid (Below w.heap.size w w1) := hb1
  clear hr hz hb1
  have hL : Hid ((dropR f g len0 key p).length ≤ 1048576) := by
    show (dropR f g len0 key p).length ≤ 1048576
    have h1 := List.length_take (i := p) (l := listP f g len0)
    have h2 := List.length_drop (i := p + 1) (l := listP f g len0)
    rw [listP_length] at h1 h2
    have hpn := HP.out.1
    unfold dropR
    split
    · split
      · rw [List.length_append]; omega
      · rw [listP_length]; exact hn
    · simp
  obtain ⟨LL, hLL⟩ : ∃ LL, LL = dropR f g len0 key p := ⟨_, rfl⟩
  obtain ⟨CC, hCC⟩ : ∃ CC, CC = dropC f g len0 key p := ⟨_, rfl⟩
  have HLL : Hid (LL = dropR f g len0 key p) := hLL
  have HCC : Hid (CC = dropC f g len0 key p) := hCC
  have hlen : LL.length ≤ 1048576 := by rw [hLL]; exact hL.out
  clear hLL hCC hL
  go_wp2_with fail
  refine (toPairS a0 len0 cap0 f g _ hn (Hh.out.below B1.out)).mono ?_
  rintro e w2 ⟨rfl, hb2, ho2⟩
  have B2 : Hid (Below w.heap.size w w2) := B1.out.trans (hb2.mono B1.out.size)
  clear B1 hb2
  go_wp2_with fail
  refine (specPairDrop _ 0 len0 f g key p _ hn h_key Hz.out HP.out ho2.sp).mono ?_
  rintro e w3 ⟨v0, rfl, own3, hb3⟩
  rw [← HLL.out] at own3
  rw [← HCC.out]
  obtain ⟨aw, cw, rfl, S3, _, K3⟩ := own3.open
  have B3 : Hid (Below w.heap.size w w3) := B2.out.trans (hb3.mono B2.out.size)
  have HS3 : Hid (Sp w3 aw LL.length (fstL LL) (sndL LL)) := S3
  have HK3 : Hid (∀ ad, aw = some ad → ad.block < w3.heap.size) := fun ad e => (K3 ad e).2
  clear ho2 hb3 own3 S3 K3 B2
  go_wp2_with fail
  refine (toPairS a0 len0 cap0 f g _ hn (Hh.out.below B3.out)).mono ?_
  rintro e w4 ⟨rfl, hb4, ho4⟩
  have B4 : Hid (Below w.heap.size w w4) := B3.out.trans (hb4.mono B3.out.size)
  have HS4 : Hid (Sp w4 aw LL.length (fstL LL) (sndL LL)) := HS3.out.below hb4
  have HO4 : Hid (Own2 w4 w3.heap.size len0 f g) := ho4
  have HX : Hid (w3.heap.size ≤ w4.heap.size) := hb4.size
  have HW : Hid (w.heap.size ≤ w3.heap.size) := B3.out.size
  clear B3 HS3 hb4 ho4
  go_wp2_with fail
  refine (implPairDrop _ 0 len0 f g key p _ hn h_key Hz.out HP.out HO4.out.sp).mono ?_
  rintro e w5 ⟨v1, rfl, own5, hb5⟩
  rw [← HLL.out] at own5
  rw [← HCC.out]
  obtain ⟨ag, cg, rfl, S5, V5, K5⟩ := own5.open
  have B5 : Hid (Below w.heap.size w w5) := B4.out.trans (hb5.mono B4.out.size)
  have HS5 : Hid (Sp w5 aw LL.length (fstL LL) (sndL LL)) := HS4.out.below hb5
  have HO5 : Hid (Own2 w5 w3.heap.size len0 f g) := HO4.out.below hb5
  have HG5 : Hid (Sp w5 ag LL.length (fstL LL) (sndL LL)) := S5
  have HV5 : Hid (OwnV w5 ag (LL.length * 2) (fun i => (cellsP LL).getD i undef)) := V5
  have XB : Hid (w3.heap.size < w4.heap.size ∨ len0 = 0) := by
    by_cases h0 : len0 = 0
    · exact .inr h0
    · exact .inl (World.block_lt_of_cell? _ _ (HO4.out 0 (by omega)).1.1)
  have HK5 : Hid (∀ ad, ag = some ad → w4.heap.size ≤ ad.block) := fun ad e => (K5 ad e).1
  clear B4 HS4 HO4 hb5 own5 S5 V5 K5
  go_wp2_with fail
  refine (eqPairS _ _ LL.length _ _ _ _ _ (by omega) HG5.out HS5.out).mono ?_
  rintro e w6 ⟨rfl, hb6⟩
  have B6 : Hid (Below w.heap.size w w6) := B5.out.trans (hb6.mono B5.out.size)
  have HS6 : Hid (Sp w6 aw LL.length (fstL LL) (sndL LL)) := HS5.out.below hb6
  have HO6 : Hid (Own2 w6 w3.heap.size len0 f g) := HO5.out.below hb6
  have HG6 : Hid (Sp w6 ag LL.length (fstL LL) (sndL LL)) := HG5.out.below hb6
  have HV6 : Hid (OwnV w6 ag (LL.length * 2) (fun i => (cellsP LL).getD i undef)) := HV5.out.below hb6
  clear B5 HS5 HO5 HG5 HV5 hb6
  go_wp2_with fail
  refine (toPairS a0 len0 cap0 f g _ hn (Hh.out.below B6.out)).mono ?_
  rintro e w7 ⟨rfl, hb7, ho7⟩
  have B7 : Hid (Below w.heap.size w w7) := B6.out.trans (hb7.mono B6.out.size)
  have HS7 : Hid (Sp w7 aw LL.length (fstL LL) (sndL LL)) := HS6.out.below hb7
  have HO7 : Hid (Own2 w7 w3.heap.size len0 f g) := HO6.out.below hb7
  have HG7 : Hid (Sp w7 ag LL.length (fstL LL) (sndL LL)) := HG6.out.below hb7
  have HV7 : Hid (OwnV w7 ag (LL.length * 2) (fun i => (cellsP LL).getD i undef)) := HV6.out.below hb7
  clear B6 HS6 HO6 HG6 HV6 hb7
  go_wp2_with fail
  refine (eqPairS _ _ len0 _ _ f g _ (by omega) HO7.out.sp ho7.sp).mono ?_
  rintro e w8 ⟨rfl, hb8⟩
  have B8 : Hid (Below w.heap.size w w8) := B7.out.trans (hb8.mono B7.out.size)
  have HS8 : Hid (Sp w8 aw LL.length (fstL LL) (sndL LL)) := HS7.out.below hb8
  have HO8 : Hid (Own2 w8 w3.heap.size len0 f g) := HO7.out.below hb8
  have HG8 : Hid (Sp w8 ag LL.length (fstL LL) (sndL LL)) := HG7.out.below hb8
  have HV8 : Hid (OwnV w8 ag (LL.length * 2) (fun i => (cellsP LL).getD i undef)) := HV7.out.below hb8
  clear B7 HS7 HO7 HG7 HV7 hb8 ho7
  go_wp2_with fail
  refine (markPairS _ len0 len0 1 _ _ hn (by omega) (by omega) HO8.out.ownV).mono ?_
  rintro e w9 ⟨rfl, g9, _⟩
  have hne_w : ∀ ad, aw = some ad → rowN (some (⟨w3.heap.size, 0, none⟩ : Addr)) len0 ≠ some ad.block := fun ad e => rowN_ne (.inr (rowOf_ne fun x hx => by
    cases hx
    have := HK3.out ad e
    show w3.heap.size ≠ ad.block
    omega))
  have hne_g : ∀ ad, ag = some ad → rowN (some (⟨w3.heap.size, 0, none⟩ : Addr)) len0 ≠ some ad.block := fun ad e => by
    rcases XB.out with hx | hx
    · exact rowN_ne (.inr (rowOf_ne fun x hx2 => by
        cases hx2
        have := HK5.out ad e
        show w3.heap.size ≠ ad.block
        omega))
    · exact rowN_ne (.inl hx)
  have B9 : Hid (Below w.heap.size w w9) := B8.out.grown g9 B8.out.size (fun k e => by
    have e2 := rowN_some e
    cases e2; exact HW.out)
  have HS9 : Hid (Sp w9 aw LL.length (fstL LL) (sndL LL)) := HS8.out.grown g9 hne_w
  have HGV9 : Hid (Sp w9 ag LL.length (fstL LL) (sndL LL) ∧ OwnV w9 ag (LL.length * 2) (fun i => (cellsP LL).getD i undef)) := ⟨HG8.out.grown g9 hne_g, HV8.out.grown g9 hne_g⟩
  clear B8 HS8 HO8 HG8 HV8 g9 hne_w hne_g
  have hk1 : (((1 + len0 * 2 : Nat) : Int) < 0) = False := by simp; omega
  have hk2 : decide (((1 + len0 * 2 : Nat) : Int) < 0) = false := by simp; omega
  go_wp2_with fail
  refine (eqPairS _ _ LL.length _ _ _ _ _ (by omega) HGV9.out.1 HS9.out).mono ?_
  rintro e w10 ⟨rfl, hb10⟩
  have B10 : Hid (Below w.heap.size w w10) := B9.out.trans (hb10.mono B9.out.size)
  have HS10 : Hid (Sp w10 aw LL.length (fstL LL) (sndL LL)) := HS9.out.below hb10
  have HV10 : Hid (OwnV w10 ag (LL.length * 2) (fun i => (cellsP LL).getD i undef)) := HGV9.out.2.below hb10
  clear B9 HS9 HGV9 hb10
  go_wp2_with fail
  refine (markPairS _ LL.length _ 1 _ _ hlen (by omega) (by omega) HV10.out).mono ?_
  rintro e w11 ⟨rfl, g11, V11⟩
  have hne_w2 : ∀ ad, aw = some ad → rowN ag LL.length ≠ some ad.block := fun ad e => rowN_ne (.inr (rowOf_ne fun x hx => by
    have h1 := HK5.out x hx
    have h2 := HK3.out ad e
    have h3 := HX.out
    omega))
  have B11 : Hid (Below w.heap.size w w11) := B10.out.grown g11 B10.out.size (fun k e0 => by
    have e := rowN_some e0
    cases ag with
    | none => cases e
    | some ad =>
      have h1 := HK5.out ad rfl
      have h2 := HX.out
      have h3 := HW.out
      simp [rowOf] at e
      omega)
  have HS11 : Hid (Sp w11 aw LL.length (fstL LL) (sndL LL)) := HS10.out.grown g11 hne_w2
  have HV11 : Hid (OwnV w11 ag (LL.length * 2) (fun i => .string (markT (1 + i)))) := V11
  clear B10 HS10 HV10 g11 V11 hne_w2
  have hk3 : decide (((1 + LL.length * 2 : Nat) : Int) < 0) = false := by simp; omega
  go_wp2_with fail
  refine (heldPairS _ LL.length _ 1 _ hlen (by omega) (by omega) HV11.out).mono ?_
  rintro e w12 ⟨rfl, hb12⟩
  have B12 : Hid (Below w.heap.size w w12) := B11.out.trans (hb12.mono B11.out.size)
  have HS12 : Hid (Sp w12 aw LL.length (fstL LL) (sndL LL)) := HS11.out.below hb12
  have HV12 : Hid (OwnV w12 ag (LL.length * 2) (fun i => .string (markT (1 + i)))) := HV11.out.below hb12
  clear B11 HS11 HV11 hb12
  go_wp2_with fail
  refine (toPairS a0 len0 cap0 f g _ hn (Hh.out.below B12.out)).mono ?_
  rintro e w13 ⟨rfl, hb13, ho13⟩
  have B13 : Hid (Below w.heap.size w w13) := B12.out.trans (hb13.mono B12.out.size)
  have HS13 : Hid (Sp w13 aw LL.length (fstL LL) (sndL LL)) := HS12.out.below hb13
  have HV13 : Hid (OwnV w13 ag (LL.length * 2) (fun i => .string (markT (1 + i)))) := HV12.out.below hb13
  clear B12 HS12 HV12 hb13
  go_wp2_with fail
  refine (implPairDrop _ 0 len0 f g key p _ hn h_key Hz.out HP.out ho13.sp).mono ?_
  rintro e w14 ⟨v2, rfl, own14, hb14⟩
  rw [← HLL.out] at own14
  rw [← HCC.out]
  obtain ⟨ah, ch, rfl, S14, _, _⟩ := own14.open
  have B14 : Hid (Below w.heap.size w w14) := B13.out.trans (hb14.mono B13.out.size)
  have HS14 : Hid (Sp w14 aw LL.length (fstL LL) (sndL LL)) := HS13.out.below hb14
  have HV14 : Hid (OwnV w14 ag (LL.length * 2) (fun i => .string (markT (1 + i)))) := HV13.out.below hb14
  have HH14 : Hid (Sp w14 ah LL.length (fstL LL) (sndL LL)) := S14
  clear B13 HS13 HV13 hb14 own14 S14 ho13
  go_wp2_with fail
  refine (eqPairS _ _ LL.length _ _ _ _ _ (by omega) HH14.out HS14.out).mono ?_
  rintro e w15 ⟨rfl, hb15⟩
  have B15 : Hid (Below w.heap.size w w15) := B14.out.trans (hb15.mono B14.out.size)
  have HV15 : Hid (OwnV w15 ag (LL.length * 2) (fun i => .string (markT (1 + i)))) := HV14.out.below hb15
  clear B14 HS14 HV14 hb15 HH14
  go_wp2_with fail
  refine (heldPairS _ LL.length _ 1 _ hlen (by omega) (by omega) HV15.out).mono ?_
  rintro e w16 ⟨rfl, hb16⟩
  have B16 : Hid (Below w.heap.size w w16) := B15.out.trans (hb16.mono B15.out.size)
  clear B15 HV15 hb16
  go_wp2_with fail
  go_ret
  exact ⟨rfl, B16.out⟩

theorem own : ownKnob Try.prog.godebug = none := by kernel_rfl
theorem laidOut : laidOutB Try.prog = true := by kernel_rfl

set_option maxRecDepth 100000 in
theorem lifted (os : Os) (started : os.Started) (H : Type) (enc : TypeId × Value → H) :
    ReturnsInHanded {} Try.checked os 9 .any (Rows.fnExactPairDropSpec.pre6 enc Try.prog Try.f9 Rows.fnExactPairDropRow.domain false) (Rows.fnExactPairDropSpec.post enc Try.prog Try.f9 false true false false) := by
  refine returnsInHanded_of_change (C := Try.checked) own started (by kernel_rfl) Try.func9
    (ChangeSpec.witness6 (enc := enc) (C := Try.checked) false ⟨#[], #[.slice none 0 0, .string ByteArray.empty], []⟩ 8 (by kernel_rfl) (by kernel_rfl) (by kernel_rfl) (by kernel_rfl)) ?_
  intro W base args ds gs before hval0 hW hcnd _
  have hval : ∀ (j : Nat) t v, Try.f9.params[j]? = some t → args[j]? = some v → Value.okWide Try.prog W .any base t v := hval0
  have hW' := hW
  obtain ⟨p, q, hA0, hV, rfl, hfz, hnd⟩ := hW
  have hA : DataW.TrodAll enc Try.prog W 0 (fun _ => true) true Try.f9.params.toList args.toList ds p := hA0
  rw [Try.params9] at hA hval
  obtain ⟨v0, vs0, d0, ds0, p0, q0, hargs, rfl, rfl, h0, r0⟩ := trodAll_cons hA
  obtain ⟨v1, vs1, d1, ds1, p1, q1, rfl, rfl, rfl, h1, r1⟩ := trodAll_cons r0
  obtain ⟨rfl, rfl, rfl⟩ := trodAll_nil r1
  obtain rfl : args = #[v0, v1] := by cases args; simp_all
  obtain ⟨rfl, rfl⟩ := trodVars_none hV
  obtain ⟨a0, len0, cap0, rfl⟩ := okWide_slice Try.underlying66 (hval 0 66 v0 rfl rfl)
  have k0 := h0
  have lt0 : ∀ x ∈ p0, x.block < W.heap.size := by obtain ⟨m, hm⟩ := k0; exact DataW.trod_lt m _ _ _ hm
  obtain ⟨fuel0, hf0⟩ := h0
  obtain ⟨f0, g0, sp0, ml0, sz0⟩ := sp_of_row (show DataW.trod _ _ _ _ _ _ _ _ [.slice a0 len0 cap0] = _ by simpa [Value.cells] using hf0)
  obtain ⟨a1, rfl, rfl, rfl, w1⟩ := open_string Try.underlying9 (hval 1 9 v1 rfl rfl) h1
  clear hA0 hval0
  refine (walk a0 len0 cap0 f0 g0 a1 W sp0 ml0 sz0).mono fun e W' ⟨he, bel⟩ => ?_
  subst he
  exact ⟨_, rfl, _, _, _, [], _, [], hW', trodAll_mk1 (shut_bool Try.underlying4 _), (trodAll_cons_mk (Below.trod laidOut (by kernel_rfl) (of_decide_eq_true (by kernel_rfl)) k0 bel lt0) (trodAll_cons_mk (shut_string Try.underlying9 w1) trodAll_mk0)), rfl, bel.frame _, fun h => by cases h⟩

theorem over : Rows.fnExactPairDropRow.holds Try.pinned (OpenSpec.ofChange Rows.fnExactPairDropSpec) :=
  OpenClaim.holds_of_wide 9 Try.f9 rfl rfl rfl rfl rfl rfl rfl ⟨rfl, rfl, rfl, rfl, rfl⟩ rfl rfl rfl rfl rfl (by kernel_rfl) Try.func9 (by kernel_rfl)
    (of_decide_eq_true (by kernel_rfl)) (by unfold Func.isWrapper; first | (rw [if_pos (by decide +kernel)]; kernel_rfl) | (rw [if_neg (by decide +kernel)]; exact ⟨rfl, rfl⟩))
    (fun os started H enc _ => lifted os started H enc)

end Go.Proofs.Ytnmeafhfchkemaa.fnExactPairDrop
namespace Go.Proofs.Ytnmeafhfchkemaa
theorem fnExactPairDrop_holds : Rows.FnExactPairDropSaid := fnExactPairDrop.over
end Go.Proofs.Ytnmeafhfchkemaa
