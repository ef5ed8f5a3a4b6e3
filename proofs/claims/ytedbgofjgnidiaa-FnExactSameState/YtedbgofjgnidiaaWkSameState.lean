/-
  The walk of the law FnExactSameState.
  By an AI agent.
-/
import Derived.Test.YtedbgofjgnidiaaKpf
import Derived.Test.YtedbgofjgnidiaaKpe
import Derived.Test.YtedbgofjgnidiaaKpc
import Derived.BigQuiet
namespace Go.Proofs.Ytedbgofjgnidiaa.fnExactSameState
open Go.ChangeShapes Go.WideShapes Go.ChangeAt Go.WideMaps Go.WideElems Go.RowKit Go.Deep
open Go.ChangeMaps (open_string shut_string)
set_option linter.unusedVariables false

set_option maxHeartbeats 4000000 in
theorem walk (v v' : Value) (D E : StM) (w : World) (h : ReadsSt w v D) (h' : ReadsSt w v' E) (hm : maxSt D) (hm' : maxSt E) :
    Calls Try.prog 3 #[v, v'] w fun e w' => e = .returned (.bool true) ∧ Below w.heap.size w w' := by
  haveI : DecidableEq KeM := decKe
  obtain ⟨a1, c1, a2, c2, rfl, s1, s2⟩ := h
  obtain ⟨b1, d1, b2, d2, rfl, t1, t2⟩ := h'
  obtain ⟨n1, hn1⟩ : ∃ n, D.P.length = n := ⟨_, rfl⟩
  obtain ⟨n2, hn2⟩ : ∃ n, D.H.length = n := ⟨_, rfl⟩
  obtain ⟨m1, hm1⟩ : ∃ n, E.P.length = n := ⟨_, rfl⟩
  obtain ⟨m2, hm2⟩ : ∃ n, E.H.length = n := ⟨_, rfl⟩
  have HR : Hid (ReadsSt w (.agg #[.slice a1 n1 c1, .slice a2 n2 c2]) D) := ⟨a1, c1, a2, c2, by rw [hn1, hn2], s1, s2⟩
  have HS : Hid (ReadsSt w (.agg #[.slice b1 m1 d1, .slice b2 m2 d2]) E) := ⟨b1, d1, b2, d2, by rw [hm1, hm2], t1, t2⟩
  have HM : Hid (maxSt D ∧ maxSt E) := ⟨hm, hm'⟩
  obtain ⟨bb, hbb⟩ : ∃ b, alikeSt D E = b := ⟨_, rfl⟩
  have HB : Hid (alikeSt D E = bb) := hbb
  rw [hn1, hn2, hm1, hm2]
  clear hm hm' s1 s2 t1 t2 hn1 hn2 hm1 hm2 hbb
  have AB : Hid (∀ o o', Below w.heap.size w ((w.alloc o).alloc o')) := fun o o' => ((Below.refl _ _).alloc (Nat.le_refl _) _).alloc (by simp) _
  go_enter Try.func3, Try.ntmps3
  go_wp2_with fail
  refine (szState _ D 1048576 _ (by omega) (by omega) HM.out.1 (HR.out.below (AB.out _ _))).mono ?_
  rintro e w1 ⟨r, rfl, hr1, hr, hb1⟩
  have B1 : Hid (Below w.heap.size w w1) := (AB.out _ _).trans (hb1.mono (AB.out _ _).size)
  have X1 : Hid (Box w1 w.heap.size [.slice a1 n1 c1, .slice a2 n2 c2]) := Box.below ((Box.new rfl).old _) hb1
  have Y1 : Hid (Box w1 (w.heap.size + 1) [.slice b1 m1 d1, .slice b2 m2 d2]) := Box.below (Box.new (by simp)) hb1
  clear hb1
  by_cases hneg : r < 0
  · clear hr
    go_wp2_with fail
    go_ret
    exact ⟨rfl, B1.out⟩
  have SD : Hid (smallSt D) := hr (by omega)
  clear hr
  obtain ⟨q0, _⟩ := Y1.out 0 _ rfl
  obtain ⟨q1, _⟩ := Y1.out 1 _ rfl
  go_wp2_with fail
  refine (szState _ E r _ (by omega) (by omega) HM.out.2 (HS.out.below B1.out)).mono ?_
  rintro e w2 ⟨r2, rfl, hr1', hr, hb2⟩
  have B2 : Hid (Below w.heap.size w w2) := B1.out.trans (hb2.mono B1.out.size)
  have X2 : Hid (Box w2 w.heap.size [.slice a1 n1 c1, .slice a2 n2 c2]) := X1.out.below hb2
  have Y2 : Hid (Box w2 (w.heap.size + 1) [.slice b1 m1 d1, .slice b2 m2 d2]) := Y1.out.below hb2
  clear hb2 B1 X1 Y1 q0 q1
  by_cases hneg2 : r2 < 0
  · clear hr
    go_wp2_with fail
    go_ret
    exact ⟨rfl, B2.out⟩
  have SE : Hid (smallSt E) := hr (by omega)
  clear hr HM
  obtain ⟨x0, _⟩ := X2.out 0 _ rfl
  obtain ⟨x1, _⟩ := X2.out 1 _ rfl
  obtain ⟨y0, _⟩ := Y2.out 0 _ rfl
  obtain ⟨y1, _⟩ := Y2.out 1 _ rfl
  go_wp2_with fail
  go_region_with (first
    | (go_at_call 5; refine (specSameState bb _ _ D E _ SD.out SE.out OD.out OE.out HB.out).mono ?_; rintro e w5 ⟨rfl, hb5⟩; have B5 : Hid (Below w.heap.size w w5) := BW.out.trans (hb5.mono BW.out.size); have X5 : Hid (Box w5 w.heap.size [.slice a1 n1 c1, .slice a2 n2 c2]) := XW.out.below hb5; have Y5 : Hid (Box w5 (w.heap.size + 1) [.slice b1 m1 d1, .slice b2 m2 d2]) := YW.out.below hb5; clear hb5 BW XW YW OD OE; obtain ⟨x0, _⟩ := X5.out 0 _ rfl; obtain ⟨x1, _⟩ := X5.out 1 _ rfl; obtain ⟨y0, _⟩ := Y5.out 0 _ rfl; obtain ⟨y1, _⟩ := Y5.out 1 _ rfl)
    | (go_at_call 6; refine (toState _ D _ SD.out (HR.out.below BE.out)).mono ?_; rintro e w4 ⟨v4, rfl, ⟨e1, k1, f1, e2, k2, f2, rfl⟩, OD', hb4⟩; have OD : Hid (ReadsSt w4 _ D) := OD'; have OE : Hid (ReadsSt w4 _ E) := OE3.out.below hb4; have BW : Hid (Below w.heap.size w w4) := BE.out.trans (hb4.mono BE.out.size); have XW : Hid (Box w4 w.heap.size [.slice a1 n1 c1, .slice a2 n2 c2]) := XE.out.below hb4; have YW : Hid (Box w4 (w.heap.size + 1) [.slice b1 m1 d1, .slice b2 m2 d2]) := YE.out.below hb4; clear OD' OE3 hb4 BE XE YE x0 x1 y0 y1)
    | (go_at_call 6; refine (toState _ E _ SE.out (HS.out.below BD.out)).mono ?_; rintro e w4 ⟨v4, rfl, ⟨g1, l1, h1, g2, l2, h2, rfl⟩, OE', hb4⟩; have OE : Hid (ReadsSt w4 _ E) := OE'; have OD : Hid (ReadsSt w4 _ D) := OD3.out.below hb4; have BW : Hid (Below w.heap.size w w4) := BD.out.trans (hb4.mono BD.out.size); have XW : Hid (Box w4 w.heap.size [.slice a1 n1 c1, .slice a2 n2 c2]) := XD.out.below hb4; have YW : Hid (Box w4 (w.heap.size + 1) [.slice b1 m1 d1, .slice b2 m2 d2]) := YD.out.below hb4; clear OE' OD3 hb4 BD XD YD x0 x1 y0 y1)
    | (go_at_call 6; refine (toState _ D _ SD.out (HR.out.below B2.out.drew)).mono ?_; rintro e w3 ⟨v3, rfl, ⟨e1, k1, f1, e2, k2, f2, rfl⟩, OD', hb3⟩; have OD3 : Hid (ReadsSt w3 _ D) := OD'; have BD : Hid (Below w.heap.size w w3) := B2.out.drew.trans (hb3.mono B2.out.size); have XD : Hid (Box w3 w.heap.size [.slice a1 n1 c1, .slice a2 n2 c2]) := X2.out.below ((Below.refl _ _).drew.trans hb3); have YD : Hid (Box w3 (w.heap.size + 1) [.slice b1 m1 d1, .slice b2 m2 d2]) := Y2.out.below ((Below.refl _ _).drew.trans hb3); clear OD' hb3 x0 x1 y0 y1; obtain ⟨y0, _⟩ := YD.out 0 _ rfl; obtain ⟨y1, _⟩ := YD.out 1 _ rfl; obtain ⟨x0, _⟩ := XD.out 0 _ rfl; obtain ⟨x1, _⟩ := XD.out 1 _ rfl)
    | (go_at_call 6; refine (toState _ E _ SE.out (HS.out.below B2.out.drew)).mono ?_; rintro e w3 ⟨v3, rfl, ⟨g1, l1, h1, g2, l2, h2, rfl⟩, OE', hb3⟩; have OE3 : Hid (ReadsSt w3 _ E) := OE'; have BE : Hid (Below w.heap.size w w3) := B2.out.drew.trans (hb3.mono B2.out.size); have XE : Hid (Box w3 w.heap.size [.slice a1 n1 c1, .slice a2 n2 c2]) := X2.out.below ((Below.refl _ _).drew.trans hb3); have YE : Hid (Box w3 (w.heap.size + 1) [.slice b1 m1 d1, .slice b2 m2 d2]) := Y2.out.below ((Below.refl _ _).drew.trans hb3); clear OE' hb3 x0 x1 y0 y1; obtain ⟨y0, _⟩ := YE.out 0 _ rfl; obtain ⟨y1, _⟩ := YE.out 1 _ rfl; obtain ⟨x0, _⟩ := XE.out 0 _ rfl; obtain ⟨x1, _⟩ := XE.out 1 _ rfl))
  all_goals clear B2 X2 Y2
  all_goals go_wp2_with fail
  all_goals
    refine (toState _ D _ SD.out (HR.out.below B5.out)).mono ?_
    rintro e w6 ⟨v6, rfl, ⟨p1, i1, q1, p2, i2, q2, rfl⟩, O6', hb6⟩
    have B6 : Hid (Below w.heap.size w w6) := B5.out.trans (hb6.mono B5.out.size)
    have X6 : Hid (Box w6 w.heap.size [.slice a1 n1 c1, .slice a2 n2 c2]) := X5.out.below hb6
    have Y6 : Hid (Box w6 (w.heap.size + 1) [.slice b1 m1 d1, .slice b2 m2 d2]) := Y5.out.below hb6
    have O6 : Hid (ReadsSt w6 (.agg #[.slice p1 i1 q1, .slice p2 i2 q2]) D) := O6'
    have L6 : Hid (w.heap.size + 1 < w6.heap.size) := World.block_lt_of_cell? _ _ (Y6.out 0 _ rfl).1
    clear O6' hb6 B5 X5 Y5 x0 x1 y0 y1
    obtain ⟨y0, _⟩ := Y6.out 0 _ rfl
    obtain ⟨y1, _⟩ := Y6.out 1 _ rfl
    have W6 : Hid (∀ o, Below w6.heap.size w6 (w6.alloc o)) := fun o => (Below.refl _ _).alloc (Nat.le_refl _) _
    have y0' := fun o => ((W6.out o).cell (World.block_lt_of_cell? _ _ y0)).trans y0
    have y1' := fun o => ((W6.out o).cell (World.block_lt_of_cell? _ _ y1)).trans y1
  all_goals go_wp2_with fail
  all_goals
    refine (toState _ E _ SE.out (HS.out.below (B6.out.trans ((W6.out _).mono B6.out.size)))).mono ?_
    rintro e w7 ⟨v7, rfl, ⟨u1, j1, z1, u2, j2, z2, rfl⟩, O7', hb7⟩
    have B7 : Hid (Below w.heap.size w w7) := B6.out.trans (((W6.out _).trans (hb7.mono (W6.out _).size)).mono B6.out.size)
    have X7 : Hid (Box w7 w.heap.size [.slice a1 n1 c1, .slice a2 n2 c2]) := (X6.out.below (W6.out _)).below hb7
    have Y7 : Hid (Box w7 (w.heap.size + 1) [.slice b1 m1 d1, .slice b2 m2 d2]) := (Y6.out.below (W6.out _)).below hb7
    have P7 : Hid (Box w7 w6.heap.size [.slice p1 i1 q1, .slice p2 i2 q2]) := Box.below (Box.new rfl) hb7
    have O7 : Hid (ReadsSt w7 (.agg #[.slice p1 i1 q1, .slice p2 i2 q2]) D) := (O6.out.below (W6.out _)).below hb7
    have U7 : Hid (ReadsSt w7 (.agg #[.slice u1 j1 z1, .slice u2 j2 z2]) E) := O7'
    clear O7' hb7 B6 X6 Y6 O6 W6 y0 y1 y0' y1'
    obtain ⟨p0', _⟩ := P7.out 0 _ rfl
    obtain ⟨p1', _⟩ := P7.out 1 _ rfl
    have W7 : Hid (∀ o, Below w7.heap.size w7 (w7.alloc o)) := fun o => (Below.refl _ _).alloc (Nat.le_refl _) _
    have y0' := fun o => ((W7.out o).cell (World.block_lt_of_cell? _ _ p0')).trans p0'
    have y1' := fun o => ((W7.out o).cell (World.block_lt_of_cell? _ _ p1')).trans p1'
  all_goals go_wp2_with fail
  all_goals
    refine (implSameState bb _ _ D E _ SD.out SE.out (O7.out.below (W7.out _)) (U7.out.below (W7.out _)) HB.out).mono ?_
    rintro e w8 ⟨rfl, hb8⟩
    have B8 : Hid (Below w.heap.size w w8) := B7.out.trans (((W7.out _).trans (hb8.mono (W7.out _).size)).mono B7.out.size)
    have X8 : Hid (Box w8 w.heap.size [.slice a1 n1 c1, .slice a2 n2 c2]) := (X7.out.below (W7.out _)).below hb8
    have Y8 : Hid (Box w8 (w.heap.size + 1) [.slice b1 m1 d1, .slice b2 m2 d2]) := (Y7.out.below (W7.out _)).below hb8
    have P8 : Hid (Box w8 w6.heap.size [.slice p1 i1 q1, .slice p2 i2 q2]) := (P7.out.below (W7.out _)).below hb8
    have Q8 : Hid (Box w8 w7.heap.size [.slice u1 j1 z1, .slice u2 j2 z2]) := Box.below (Box.new rfl) hb8
    have O8 : Hid (ReadsSt w8 (.agg #[.slice p1 i1 q1, .slice p2 i2 q2]) D) := (O7.out.below (W7.out _)).below hb8
    have U8 : Hid (ReadsSt w8 (.agg #[.slice u1 j1 z1, .slice u2 j2 z2]) E) := (U7.out.below (W7.out _)).below hb8
    clear hb8 B7 X7 Y7 P7 O7 U7 W7 p0' p1' y0' y1'
    have hne : (bb != bb) = false := by cases bb <;> rfl
    obtain ⟨x0, _⟩ := X8.out 0 _ rfl
    obtain ⟨x1, _⟩ := X8.out 1 _ rfl
    obtain ⟨p0', _⟩ := P8.out 0 _ rfl
    obtain ⟨p1', _⟩ := P8.out 1 _ rfl
  all_goals go_wp2_with fail
  all_goals go_region_with (first
    | (go_at_call 8; refine (eqState _ _ D _ SD.out O9.out.1 O9.out.2).mono ?_; rintro e w10 ⟨rfl, hb10⟩; have B10 : Hid (Below w.heap.size w w10) := B9.out.trans (hb10.mono B9.out.size); have Y10 : Hid (Box w10 (w.heap.size + 1) [.slice b1 m1 d1, .slice b2 m2 d2]) := Y9.out.below hb10; have Q10 : Hid (Box w10 w7.heap.size [.slice u1 j1 z1, .slice u2 j2 z2]) := Q9.out.below hb10; have U10 : Hid (ReadsSt w10 (.agg #[.slice u1 j1 z1, .slice u2 j2 z2]) E) := U9.out.below hb10; clear hb10 B9 Y9 Q9 U9 O9 p0' p1'; obtain ⟨x0, _⟩ := Y10.out 0 _ rfl; obtain ⟨x1, _⟩ := Y10.out 1 _ rfl; obtain ⟨p0', _⟩ := Q10.out 0 _ rfl; obtain ⟨p1', _⟩ := Q10.out 1 _ rfl)
    | (go_at_call 6; refine (toState _ D _ SD.out (HR.out.below B8.out.drew)).mono ?_; rintro e w9 ⟨v9, rfl, _, O9', hb9⟩; have B9 : Hid (Below w.heap.size w w9) := B8.out.drew.trans (hb9.mono B8.out.size); have Y9 : Hid (Box w9 (w.heap.size + 1) [.slice b1 m1 d1, .slice b2 m2 d2]) := Y8.out.below ((Below.refl _ _).drew.trans hb9); have P9 : Hid (Box w9 w6.heap.size [.slice p1 i1 q1, .slice p2 i2 q2]) := P8.out.below ((Below.refl _ _).drew.trans hb9); have Q9 : Hid (Box w9 w7.heap.size [.slice u1 j1 z1, .slice u2 j2 z2]) := Q8.out.below ((Below.refl _ _).drew.trans hb9); have U9 : Hid (ReadsSt w9 (.agg #[.slice u1 j1 z1, .slice u2 j2 z2]) E) := U8.out.below ((Below.refl _ _).drew.trans hb9); have O9 : Hid (ReadsSt w9 (.agg #[.slice p1 i1 q1, .slice p2 i2 q2]) D ∧ ReadsSt w9 v9 D) := ⟨O8.out.below ((Below.refl _ _).drew.trans hb9), O9'⟩; clear O9' hb9 x0 x1 p0' p1'; obtain ⟨p0', _⟩ := P9.out 0 _ rfl; obtain ⟨p1', _⟩ := P9.out 1 _ rfl; clear P9))
  all_goals clear B8 X8 Y8 P8 Q8 O8 U8 hne
  all_goals go_wp2_with fail
  all_goals go_region_with (first
    | (go_at_call 8; refine (eqState _ _ E _ SE.out O11.out.1 O11.out.2).mono ?_; rintro e w12 ⟨rfl, hb12⟩; have B12 : Hid (Below w.heap.size w w12) := B11.out.trans (hb12.mono B11.out.size); clear hb12 B11 O11 p0' p1')
    | (go_at_call 6; refine (toState _ E _ SE.out (HS.out.below B10.out.drew)).mono ?_; rintro e w11 ⟨v11, rfl, _, O11', hb11⟩; have B11 : Hid (Below w.heap.size w w11) := B10.out.drew.trans (hb11.mono B10.out.size); have Q11 : Hid (Box w11 w7.heap.size [.slice u1 j1 z1, .slice u2 j2 z2]) := Q10.out.below ((Below.refl _ _).drew.trans hb11); have O11 : Hid (ReadsSt w11 (.agg #[.slice u1 j1 z1, .slice u2 j2 z2]) E ∧ ReadsSt w11 v11 E) := ⟨U10.out.below ((Below.refl _ _).drew.trans hb11), O11'⟩; clear O11' hb11 x0 x1 p0' p1'; obtain ⟨p0', _⟩ := Q11.out 0 _ rfl; obtain ⟨p1', _⟩ := Q11.out 1 _ rfl; clear Q11))
  all_goals go_wp2_with fail
  all_goals
    go_ret
    exact ⟨rfl, B12.out⟩
end Go.Proofs.Ytedbgofjgnidiaa.fnExactSameState
