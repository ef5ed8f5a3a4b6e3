/-
  For every slice of pairs and every key the law FnExactPairGet returns true: the program's PairGet answers as the specification's does, and writes nothing into its argument. No condition.
  By an AI agent.
-/
import Derived.Test.YtmgplopaapmfaahPairGeti
namespace Go.Proofs.Ytmgplopaapmfaah.fnExactPairGet
open Go.ChangeShapes Go.WideShapes Go.ChangeAt Go.WideMaps Go.WideElems Go.RowKit Go.Deep
open Go.ChangeMaps (open_string shut_string)
set_option linter.unusedVariables false

set_option maxHeartbeats 400000 in
theorem walk (a0 : Option Addr) (len0 cap0 : Nat) (f g : Nat → ByteArray) (key : ByteArray) (w : World) (h : Sp w a0 len0 f g) (hm : len0 ≤ maxLen) (hs : ∀ i, i < len0 → (f i).size ≤ maxLen ∧ (g i).size ≤ maxLen) :
    Calls Try.prog 5 #[.slice a0 len0 cap0, .string key] w fun e w' => e = .returned (.bool true) ∧ Below w.heap.size w w' := by
  by_cases hkey : 1048576 < key.size
  · clear h hm hs
    go_enter Try.func5, Try.ntmps5
    go_wp2_with fail
    go_ret
    exact ⟨rfl, Below.refl _ _⟩
  have hk : key.size ≤ 1048576 := by omega
  have Hh : Hid (Sp w a0 len0 f g) := h
  have Hm : Hid (len0 ≤ maxLen) := hm
  have Hs : Hid (∀ i, i < len0 → (f i).size ≤ maxLen ∧ (g i).size ≤ maxLen) := hs
  clear h hm hs hkey
  obtain ⟨p, hp⟩ := place_exists f key len0
  have HP : Hid (IsPlace f len0 key p) := hp
  clear hp
  go_enter Try.func5, Try.ntmps5
  go_wp2_with fail
  refine (szPairS a0 len0 cap0 f g _ Hm.out Hs.out Hh.out).mono ?_
  rintro e w1 ⟨r, rfl, hr, hb1⟩
  by_cases hneg : r < 0
  · clear hr
    go_wp2_with fail
    go_ret
    exact ⟨rfl, hb1⟩
  obtain ⟨hn, hz⟩ := hr (by omega)
  have Hz : Hid (∀ i, i < len0 → (f i).size ≤ 1048576 ∧ (g i).size ≤ 1048576) := hz
  have B1 : Hid (Below w.heap.size w w1) := hb1
  clear hr hz hb1
  go_wp2_with fail
  refine (toPairS a0 len0 cap0 f g _ hn (Hh.out.below B1.out)).mono ?_
  rintro e w2 ⟨rfl, hb2, ho2⟩
  go_wp2_with fail
  refine (specPairGet _ len0 len0 f g key p _ hn hk Hz.out HP.out ho2.sp).mono ?_
  rintro e w3 ⟨rfl, hb3⟩
  have B3 : Hid (Below w.heap.size w w3) := (B1.out.trans (hb2.mono B1.out.size)).trans (hb3.mono (Nat.le_trans B1.out.size hb2.size))
  clear B1 hb2 ho2 hb3
  go_wp2_with fail
  refine (toPairS a0 len0 cap0 f g _ hn (Hh.out.below B3.out)).mono ?_
  rintro e w4 ⟨rfl, hb4, ho4⟩
  have B4 : Hid (Below w.heap.size w w4) := B3.out.trans (hb4.mono B3.out.size)
  clear B3 hb4
  go_wp2_with fail
  refine (implPairGet _ len0 len0 f g key p _ hn hk Hz.out HP.out ho4.sp).mono ?_
  rintro e w5 ⟨rfl, hb5⟩
  have B5 : Hid (Below w.heap.size w w5) := B4.out.trans (hb5.mono B4.out.size)
  have S5 := ho4.sp.below hb5
  clear B4 hb5 ho4
  go_wp2_with fail
  refine (toPairS a0 len0 cap0 f g _ hn (Hh.out.below B5.out)).mono ?_
  rintro e w6 ⟨rfl, hb6, ho6⟩
  have B6 : Hid (Below w.heap.size w w6) := B5.out.trans (hb6.mono B5.out.size)
  have S6 := S5.below hb6
  clear B5 hb6 S5
  go_wp2_with fail
  refine (eqPairS _ _ len0 len0 len0 f g _ (by omega) S6 ho6.sp).mono ?_
  rintro e w7 ⟨rfl, hb7⟩
  have B7 := B6.out.trans (hb7.mono B6.out.size)
  clear B6 hb7 S6 ho6
  go_wp2_with fail
  go_ret
  exact ⟨rfl, B7⟩

theorem own : ownKnob Try.prog.godebug = none := by kernel_rfl
theorem laidOut : laidOutB Try.prog = true := by kernel_rfl

set_option maxRecDepth 100000 in
theorem lifted (os : Os) (started : os.Started) (H : Type) (enc : TypeId × Value → H) :
    ReturnsInHanded {} Try.checked os 5 .any (Rows.fnExactPairGetSpec.pre6 enc Try.prog Try.f5 Rows.fnExactPairGetRow.domain false) (Rows.fnExactPairGetSpec.post enc Try.prog Try.f5 false true false false) := by
  refine returnsInHanded_of_change (C := Try.checked) own started (by kernel_rfl) Try.func5
    (ChangeSpec.witness6 (enc := enc) (C := Try.checked) false ⟨#[], #[.slice none 0 0, .string ByteArray.empty], []⟩ 8 (by kernel_rfl) (by kernel_rfl) (by kernel_rfl) (by kernel_rfl)) ?_
  intro W base args ds gs before hval0 hW hcnd _
  have hval : ∀ (j : Nat) t v, Try.f5.params[j]? = some t → args[j]? = some v → Value.okWide Try.prog W .any base t v := hval0
  have hW' := hW
  obtain ⟨p, q, hA0, hV, rfl, hfz, hnd⟩ := hW
  have hA : DataW.TrodAll enc Try.prog W 0 (fun _ => true) true Try.f5.params.toList args.toList ds p := hA0
  rw [Try.params5] at hA hval
  obtain ⟨v0, vs0, d0, ds0, p0, q0, hargs, rfl, rfl, h0, r0⟩ := trodAll_cons hA
  obtain ⟨v1, vs1, d1, ds1, p1, q1, rfl, rfl, rfl, h1, r1⟩ := trodAll_cons r0
  obtain ⟨rfl, rfl, rfl⟩ := trodAll_nil r1
  obtain rfl : args = #[v0, v1] := by cases args; simp_all
  obtain ⟨rfl, rfl⟩ := trodVars_none hV
  obtain ⟨a0, len0, cap0, rfl⟩ := okWide_slice Try.underlying32 (hval 0 32 v0 rfl rfl)
  have k0 := h0
  have lt0 : ∀ x ∈ p0, x.block < W.heap.size := by obtain ⟨m, hm⟩ := k0; exact DataW.trod_lt m _ _ _ hm
  obtain ⟨fuel0, hf0⟩ := h0
  obtain ⟨f0, g0, sp0, ml0, sz0⟩ := sp_of_row (show DataW.trod _ _ _ _ _ _ _ _ [.slice a0 len0 cap0] = _ by simpa [Value.cells] using hf0)
  obtain ⟨a1, rfl, rfl, rfl, w1⟩ := open_string Try.underlying9 (hval 1 9 v1 rfl rfl) h1
  clear hA0 hval0
  refine (walk a0 len0 cap0 f0 g0 a1 W sp0 ml0 sz0).mono fun e W' ⟨he, bel⟩ => ?_
  subst he
  exact ⟨_, rfl, _, _, _, [], _, [], hW', trodAll_mk1 (shut_bool Try.underlying4 _), (trodAll_cons_mk (Below.trod laidOut (by kernel_rfl) (of_decide_eq_true (by kernel_rfl)) k0 bel lt0) (trodAll_cons_mk (shut_string Try.underlying9 w1) trodAll_mk0)), rfl, bel.frame _, fun h => by cases h⟩

theorem over : Rows.fnExactPairGetRow.holds Try.pinned (OpenSpec.ofChange Rows.fnExactPairGetSpec) :=
  OpenClaim.holds_of_wide 5 Try.f5 rfl rfl rfl rfl rfl rfl rfl ⟨rfl, rfl, rfl, rfl, rfl⟩ rfl rfl rfl rfl rfl (by kernel_rfl) Try.func5 (by kernel_rfl)
    (of_decide_eq_true (by kernel_rfl)) (by unfold Func.isWrapper; first | (rw [if_pos (by decide +kernel)]; kernel_rfl) | (rw [if_neg (by decide +kernel)]; exact ⟨rfl, rfl⟩))
    (fun os started H enc _ => lifted os started H enc)

end Go.Proofs.Ytmgplopaapmfaah.fnExactPairGet
namespace Go.Proofs.Ytmgplopaapmfaah
theorem fnExactPairGet_holds : Rows.FnExactPairGetSaid := fnExactPairGet.over
end Go.Proofs.Ytmgplopaapmfaah
