
/-
  Contracts of both DiskWrite. By an AI agent.
-/
import Derived.Test.YtpbodiaglgkkkaaDowns
namespace Go.Proofs.Ytpbodiaglgkkkaa
open Go.ChangeShapes Go.WideShapes Go.ChangeAt Go.RowKit Go.Deep
set_option linter.unusedVariables false

theorem OwnsD.rows {w : World} {lo hi : Nat} {x1 x2 x3 : Value} {A : Bool} {D : DM} (h : OwnsD w lo hi (.agg #[x1, x2, .bool A, x3]) D) : D.A = A ∧ w.ownsRow lo 9 1 x1 D.S.length (cellsS D.S) ∧ w.ownsRow lo 47 2 x2 D.C.length (cellsQ D.C) ∧ w.ownsRow lo 3 1 x3 D.K.length (cellsI D.K) := by
  obtain ⟨u1, u2, u3, e, ⟨h1, _⟩, ⟨h2, _⟩, h3, _⟩ := h
  simp at e
  obtain ⟨rfl, rfl, rfl, rfl⟩ := e
  exact ⟨rfl, h1, h2, h3⟩
def moreC (D : DM) (p : Int × ByteArray) : DM := ⟨D.S, D.C ++ [p], D.A, D.K⟩
/-- What DiskWrite answers. -/
def dwrite (D : DM) (x : Int) (y : ByteArray) : DM × Int :=
  if 65536 < y.size then (DM.none, 2) else if okD D then (if okW D.S.length (x, y) then (if D.C.length = 500 then (D, 7) else (moreC D (x, y), 0)) else (DM.none, 4)) else (DM.none, 1)
theorem dw_long {D : DM} {x : Int} {y : ByteArray} (h : 65536 < y.size) : dwrite D x y = (DM.none, 2) := by unfold dwrite; rw [if_pos h]
theorem dw_bad {D : DM} {x : Int} {y : ByteArray} (h : ¬ 65536 < y.size) (h1 : ¬ okD D) : dwrite D x y = (DM.none, 1) := by unfold dwrite; rw [if_neg h, if_neg h1]
theorem dw_range {D : DM} {x : Int} {y : ByteArray} (h : ¬ 65536 < y.size) (h1 : okD D) (h2 : ¬ okW D.S.length (x, y)) : dwrite D x y = (DM.none, 4) := by unfold dwrite; rw [if_neg h, if_pos h1, if_neg h2]
theorem dw_full {D : DM} {x : Int} {y : ByteArray} (h : ¬ 65536 < y.size) (h1 : okD D) (h2 : okW D.S.length (x, y)) (h3 : D.C.length = 500) : dwrite D x y = (D, 7) := by unfold dwrite; rw [if_neg h, if_pos h1, if_pos h2, if_pos h3]
theorem dw_ok {D : DM} {x : Int} {y : ByteArray} (h : ¬ 65536 < y.size) (h1 : okD D) (h2 : okW D.S.length (x, y)) (h3 : ¬ D.C.length = 500) : dwrite D x y = (moreC D (x, y), 0) := by unfold dwrite; rw [if_neg h, if_pos h1, if_pos h2, if_neg h3]
theorem small_more {D : DM} {x : Int} {y : ByteArray} (hs : smallD D) (hy : y.size ≤ 1048576) (hc : D.C.length ≤ 500) : smallD (moreC D (x, y)) := by
  refine ⟨hs.1, ⟨by simp [moreC]; omega, fun z hz => ?_⟩, hs.2.2⟩
  rcases List.mem_append.1 hz with h | h
  · exact hs.2.1.2 z h
  · rw [List.mem_singleton] at h; rw [h]; exact hy
theorem small_none : smallD DM.none := ⟨⟨by decide, fun x hx => by cases hx⟩, ⟨by decide, fun x hx => by cases hx⟩, by decide⟩
theorem dw_small {D R : DM} {x c : Int} {y : ByteArray} (hs : smallD D) (hy : y.size ≤ 1048576) (h : dwrite D x y = (R, c)) : smallD R := by
  unfold dwrite at h
  split at h
  · cases h; exact small_none
  · split at h
    · rename_i hok
      split at h
      · split at h
        · cases h; exact hs
        · cases h; exact small_more hs hy hok.2.1.1
      · cases h; exact small_none
    · cases h; exact small_none
theorem src_one {w : World} {x : Int} {y : ByteArray} {B t : Nat} (hB : B = w.heap.size) : Src (w.alloc (.cells #[.int .i64 x, .string y] t)) (some ⟨B, 0, none⟩) (cellsQ [(x, y)]) := by
  subst hB
  refine .inr ⟨_, 0, rfl, fun j hj => ?_⟩
  have hb := Box.new (w := w) (B := w.heap.size) (vs := #[.int .i64 x, .string y]) (t := t) rfl
  have hj' : j < 2 := hj
  rw [Nat.zero_add]
  match j, hj' with
  | 0, _ => exact (hb 0 _ rfl).1
  | 1, _ => exact (hb 1 _ rfl).1

set_option maxHeartbeats 1000000 in
theorem l02Write (v : Value) (D : DM) (x : Int) (y : ByteArray) (w : World) (hs : smallD D) (h : ReadsD w v D) :
    Calls Try.prog 24 #[v, .int .i64 x, .string y] w fun e w' => ∃ v', e = .returned v' ∧ ReadsD w' v' (moreC D (x, y)) ∧ Below w.heap.size w w' := by
  obtain ⟨a1, c1, a2, c2, a3, c3, rfl, s1, s2, s3⟩ := h
  have HS : Hid (smallD D) := hs
  have HRD : Hid (ReadsD w (.agg #[.slice a1 D.S.length c1, .slice a2 D.C.length c2, .bool D.A, .slice a3 D.K.length c3]) D) := ⟨a1, c1, a2, c2, a3, c3, rfl, s1, s2, s3⟩
  have S1 : Hid (Src w a1 (cellsS D.S)) := s1
  have S2 : Hid (Src w a2 (cellsQ D.C)) := s2
  have S3 : Hid (Src w a3 (cellsI D.K)) := s3
  clear s1 s2 s3 hs
  obtain ⟨n2, hn2⟩ : ∃ n, D.C.length = n := ⟨_, rfl⟩
  rw [hn2]
  have N2 : Hid (D.C.length = n2) := hn2
  have Z2 : n2 ≤ 1048576 := by rw [← hn2]; exact HS.out.2.1.1
  have LL : Hid ((cellsQ D.C).length = n2 * 2) := by show _ = _; rw [cellsQ_length, N2.out]
  clear hn2
  go_enter Try.func24, Try.ntmps24
  go_wp2_with (at_builtin; refine wpList_append_src _ rfl (.tmp 7) (.tmp 9) 24 rfl (w.heap.size + 2) 47 (.agg #[.int .i64 0, .string ⟨#[]⟩]) 2 24 Try.underlying24 infoQ rfl (by decide) (by decide) _ 0 [] rfl (own_empty (by simp) (by simp)) a2 n2 c2 (cellsQ D.C) rfl LL.out (S2.out.below ((((Below.refl _ _).alloc (Nat.le_refl _) _).alloc (by simp) _).alloc (by simp; omega) _)) (cellsQ_one _) (by omega) (by simp) ?_)
  intro v1 w1 hown1 hgrow1
  have o1 : w1.ownsRow (w.heap.size + 2) 47 2 v1 n2 (cellsQ D.C) := by simpa using hown1
  have hb1 := below_append hgrow1 (fun g e => by cases e; simp)
  clear hown1 hgrow1
  have B1 : Hid (Below w.heap.size w w1) := (((Below.refl _ _).alloc (Nat.le_refl _) _).alloc (by simp) _).trans (hb1.mono (by simp; omega))
  have HA : Hid (Box w1 w.heap.size [.slice a1 D.S.length c1, .slice a2 n2 c2, .bool D.A, .slice a3 D.K.length c3]) := Box.below ((Box.new rfl).old _) hb1
  have HR : Hid (Box w1 (w.heap.size + 1) [.slice none 0 0, .slice none 0 0, .bool false, .slice none 0 0]) := Box.below (Box.new (by simp)) hb1
  obtain ⟨b1, d1, rfl, _, _⟩ := own_src o1
  have O1 : Hid (w1.ownsRow (w.heap.size + 2) 47 2 (.slice b1 n2 d1) n2 (cellsQ D.C)) := o1
  have X1 : Hid (w.heap.size + 2 ≤ w1.heap.size) := World.block_lt_of_cell? _ _ (HR.out 0 _ rfl).1
  clear o1 hb1
  go_wp2_with (at_builtin; refine wpList_append_src _ rfl (.tmp 10) (.tmp 14) 24 rfl (w.heap.size + 2) 47 (.agg #[.int .i64 0, .string ⟨#[]⟩]) 2 24 Try.underlying24 infoQ rfl (by decide) (by decide) _ n2 (cellsQ D.C) rfl (O1.out.alloc _) (some ⟨w1.heap.size, 0, none⟩) 1 1 (cellsQ [(x, y)]) rfl rfl (src_one rfl) (cellsQ_one _) (by omega) (le_alloc X1.out _) ?_)
  intro v2 w2 hown2 hgrow2
  have o2 : w2.ownsRow (w.heap.size + 2) 47 2 v2 (n2 + 1) (cellsQ (D.C ++ [(x, y)])) := by rw [cellsQ_append]; exact hown2
  have hne : ∀ g, (Value.slice b1 n2 d1).ownBlock = some g → w.heap.size + 2 ≤ g := fun g e => (O1.out.lt g e).1
  have B2 : Hid (Below w.heap.size w w2) := (B1.out.alloc B1.out.size _).grown hgrow2 (le_alloc B1.out.size _) (fun g e => by have := hne g e; omega)
  have HA2 : Hid (Box w2 w.heap.size [.slice a1 D.S.length c1, .slice a2 n2 c2, .bool D.A, .slice a3 D.K.length c3]) := Box.grown (HA.out.old _) hgrow2 (fun e => by have := hne _ e; omega)
  have HR2 : Hid (Box w2 (w.heap.size + 1) [.slice none 0 0, .slice none 0 0, .bool false, .slice none 0 0]) := Box.grown (HR.out.old _) hgrow2 (fun e => by have := hne _ e; omega)
  obtain ⟨b2, d2, rfl, _, _⟩ := own_src o2
  have O2 : Hid (w2.ownsRow (w.heap.size + 2) 47 2 (.slice b2 (n2 + 1) d2) (n2 + 1) (cellsQ (D.C ++ [(x, y)]))) := o2
  clear hown2 hgrow2 hne o2 HA HR B1 O1
  obtain ⟨q1', q1f⟩ := HA2.out 1 _ rfl
  have HA5 : Hid (Box (w2.setCell ⟨w.heap.size, 1, none⟩ (.slice b2 (n2 + 1) d2)) w.heap.size [.slice a1 D.S.length c1, .slice b2 (n2 + 1) d2, .bool D.A, .slice a3 D.K.length c3]) := HA2.out.set 1 _
  have HR5 : Hid (Box (w2.setCell ⟨w.heap.size, 1, none⟩ (.slice b2 (n2 + 1) d2)) (w.heap.size + 1) [.slice none 0 0, .slice none 0 0, .bool false, .slice none 0 0]) := HR2.out.other _ (by dsimp only; omega) _
  obtain ⟨f0, _⟩ := HA5.out 0 _ rfl
  obtain ⟨f1, _⟩ := HA5.out 1 _ rfl
  obtain ⟨f2, _⟩ := HA5.out 2 _ rfl
  obtain ⟨f3, _⟩ := HA5.out 3 _ rfl
  obtain ⟨⟨g0, h0⟩, ⟨g1, h1⟩, ⟨g2, h2⟩, ⟨g3, h3⟩, r0, r1, r2, r3⟩ := HR5.out.w4in (.slice a1 D.S.length c1) (.slice b2 (n2 + 1) d2) (.bool D.A) (.slice a3 D.K.length c3)
  go_wp2_with fail
  have BF : Below w.heap.size w (W4 (w2.setCell ⟨w.heap.size, 1, none⟩ (.slice b2 (n2 + 1) d2)) (w.heap.size + 1) (.slice a1 D.S.length c1) (.slice b2 (n2 + 1) d2) (.bool D.A) (.slice a3 D.K.length c3)) := Below.w4 (Below.setCell (p := ⟨w.heap.size, 1, none⟩) B2.out (by dsimp only; omega) _) (by omega) _ _ _ _
  have OF := own_w4 (own_setLow (a := ⟨w.heap.size, 1, none⟩) O2.out (by dsimp only; omega) (.slice b2 (n2 + 1) d2)) (B := w.heap.size + 1) (by omega) (.slice a1 D.S.length c1) (.slice b2 (n2 + 1) d2) (.bool D.A) (.slice a3 D.K.length c3)
  obtain ⟨b3, d3, e3, sF, _⟩ := own_src OF
  refine bodyPost_ret (v := .agg #[.slice a1 D.S.length c1, .slice b2 (n2 + 1) d2, .bool D.A, .slice a3 D.K.length c3]) (by simp [results, Try.results24, go_sem, r0, r1, r2, r3]) rfl ⟨_, rfl, ?_, BF⟩
  cases e3
  refine ⟨a1, c1, b2, d2, a3, c3, ?_, S1.out.below BF, sF, S3.out.below BF⟩
  rw [show (moreC D (x, y)).C.length = n2 + 1 from by simp [moreC, N2.out]]
  rfl

set_option maxHeartbeats 2000000 in
theorem specDiskWrite (v : Value) (D : DM) (x : Int) (y : ByteArray) (w : World) (hs : smallD D) (hy : y.size ≤ 1048576) (h : ReadsD w v D) :
    Calls Try.prog 7 #[v, .int .i64 x, .string y] w fun e w' => ∃ v' R c, e = .returned (.tuple #[v', .int .i64 c]) ∧ dwrite D x y = (R, c) ∧ OwnsD w' w.heap.size w'.heap.size v' R ∧ Below w.heap.size w w' := by
  obtain ⟨a1, c1, a2, c2, a3, c3, rfl, s1, s2, s3⟩ := h
  have HS : Hid (smallD D) := hs
  have HRD : Hid (ReadsD w (.agg #[.slice a1 D.S.length c1, .slice a2 D.C.length c2, .bool D.A, .slice a3 D.K.length c3]) D) := ⟨a1, c1, a2, c2, a3, c3, rfl, s1, s2, s3⟩
  have S1 : Hid (Src w a1 (cellsS D.S)) := s1
  have S2 : Hid (Src w a2 (cellsQ D.C)) := s2
  have S3 : Hid (Src w a3 (cellsI D.K)) := s3
  clear s1 s2 s3 hs
  by_cases t0 : (65536 : Int) < (y.size : Int)
  · have F : Hid (dwrite D x y = (DM.none, 2)) := dw_long (by omega)
    go_enter Try.func7, Try.ntmps7
    go_wp2_with fail
    exact bodyPost_ret (v := .tuple #[.agg #[.slice none 0 0, .slice none 0 0, .bool false, .slice none 0 0], .int .i64 2]) (by simp [results, Try.results7, go_sem]) rfl ⟨_, _, _, rfl, F.out, OwnsD.nil _ _ _, ((Below.refl _ _).alloc (Nat.le_refl _) _).alloc (by simp) _⟩
  have T0 : Hid (¬ 65536 < y.size) := fun h => t0 (by omega)
  go_enter Try.func7, Try.ntmps7
  go_wp2_with fail
  refine (specDiskOK _ D _ HS.out (HRD.out.below (((Below.refl _ _).alloc (Nat.le_refl _) _).alloc (by simp) _))).mono ?_
  rintro e w1 ⟨rfl, hb1⟩
  have B1 : Hid (Below w.heap.size w w1) := (((Below.refl _ _).alloc (Nat.le_refl _) _).alloc (by simp) _).trans (hb1.mono (by simp; omega))
  have HA : Hid (Box w1 w.heap.size [.slice a1 D.S.length c1, .slice a2 D.C.length c2, .bool D.A, .slice a3 D.K.length c3]) := Box.below ((Box.new rfl).old _) hb1
  have HR : Hid (Box w1 (w.heap.size + 1) [.slice none 0 0, .slice none 0 0, .bool false, .slice none 0 0]) := Box.below (Box.new (by simp)) hb1
  have X1 : Hid (w.heap.size + 2 ≤ w1.heap.size) := World.block_lt_of_cell? _ _ (HR.out 0 _ rfl).1
  clear hb1
  by_cases hok : okD D
  case neg =>
    have F : Hid (dwrite D x y = (DM.none, 1)) := dw_bad T0.out hok
    rw [decide_eq_false hok]
    clear hok
    obtain ⟨⟨g0, h0⟩, ⟨g1, h1⟩, ⟨g2, h2⟩, ⟨g3, h3⟩, r0, r1, r2, r3⟩ := HR.out.w4in (.slice none 0 0) (.slice none 0 0) (.bool false) (.slice none 0 0)
    go_wp2_with fail
    exact bodyPost_ret (v := .tuple #[.agg #[.slice none 0 0, .slice none 0 0, .bool false, .slice none 0 0], .int .i64 1]) (by simp [results, Try.results7, go_sem, r0, r1, r2, r3]) rfl ⟨_, _, _, rfl, F.out, OwnsD.nil _ _ _, Below.w4 B1.out (by omega) _ _ _ _⟩
  rw [decide_eq_true hok]
  have HOK : Hid (okD D) := hok
  have HL : Hid (1 ≤ D.S.length ∧ D.S.length ≤ 80 ∧ D.C.length ≤ 500) := ⟨hok.1.1, hok.1.2.1, hok.2.1.1⟩
  clear hok
  have hl1 := HL.out.1
  have hl2 := HL.out.2.1
  obtain ⟨p0, _⟩ := HA.out 0 _ rfl
  by_cases tin : (0 : Int) ≤ x ∧ x ≤ (D.S.length : Int) - 1
  case neg =>
    have F : Hid (dwrite D x y = (DM.none, 4)) := dw_range T0.out HOK.out (fun h => tin ⟨h.1, by have := h.2.1; simp only [] at this; omega⟩)
    have TIN : Hid (¬ ((0 : Int) ≤ x ∧ x ≤ (D.S.length : Int) - 1)) := tin
    clear tin
    go_wp2_with fail
    refine (in01_no _ _ _ _ TIN.out).mono ?_
    rintro e w' ⟨rfl, rfl⟩
    obtain ⟨⟨g0, h0⟩, ⟨g1, h1⟩, ⟨g2, h2⟩, ⟨g3, h3⟩, r0, r1, r2, r3⟩ := HR.out.w4in (.slice none 0 0) (.slice none 0 0) (.bool false) (.slice none 0 0)
    go_wp2_with fail
    exact bodyPost_ret (v := .tuple #[.agg #[.slice none 0 0, .slice none 0 0, .bool false, .slice none 0 0], .int .i64 4]) (by simp [results, Try.results7, go_sem, r0, r1, r2, r3]) rfl ⟨_, _, _, rfl, F.out, OwnsD.nil _ _ _, Below.w4 B1.out (by omega) _ _ _ _⟩
  have TIN : Hid ((0 : Int) ≤ x ∧ x ≤ (D.S.length : Int) - 1) := tin
  clear tin
  go_wp2_with fail
  refine (in01_yes _ _ _ _ TIN.out).mono ?_
  rintro e w' ⟨rfl, rfl⟩
  by_cases tbig : (420 : Int) < (y.size : Int)
  · have F : Hid (dwrite D x y = (DM.none, 4)) := dw_range T0.out HOK.out (fun h => by have := h.2.2; simp only [] at this; omega)
    obtain ⟨⟨g0, h0⟩, ⟨g1, h1⟩, ⟨g2, h2⟩, ⟨g3, h3⟩, r0, r1, r2, r3⟩ := HR.out.w4in (.slice none 0 0) (.slice none 0 0) (.bool false) (.slice none 0 0)
    go_wp2_with fail
    exact bodyPost_ret (v := .tuple #[.agg #[.slice none 0 0, .slice none 0 0, .bool false, .slice none 0 0], .int .i64 4]) (by simp [results, Try.results7, go_sem, r0, r1, r2, r3]) rfl ⟨_, _, _, rfl, F.out, OwnsD.nil _ _ _, Below.w4 B1.out (by omega) _ _ _ _⟩
  have HW : Hid (okW D.S.length (x, y)) := ⟨TIN.out.1, by have := TIN.out.2; show x < (D.S.length : Int); omega, by show y.size ≤ 420; omega⟩
  obtain ⟨p1, _⟩ := HA.out 1 _ rfl
  obtain ⟨p2, _⟩ := HA.out 2 _ rfl
  obtain ⟨p3, _⟩ := HA.out 3 _ rfl
  by_cases tf : D.C.length = 500
  · have F : Hid (dwrite D x y = (D, 7)) := dw_full T0.out HOK.out HW.out tf
    have tf2 : ((D.C.length : Int) == 500) = true := by rw [tf]; rfl
    clear tf
    go_wp2_with fail
    refine (l02Own _ D _ HS.out (HRD.out.below B1.out)).mono ?_
    rintro e w2 ⟨v2, rfl, own2, hb2⟩
    obtain ⟨b1, d1, b2, d2, b3, d3, rfl⟩ := own2.lit
    have B2 : Hid (Below w.heap.size w w2) := B1.out.trans (hb2.mono B1.out.size)
    have HR2 : Hid (Box w2 (w.heap.size + 1) [.slice none 0 0, .slice none 0 0, .bool false, .slice none 0 0]) := HR.out.below hb2
    have O2 : Hid (OwnsD w2 (w.heap.size + 2) w2.heap.size (.agg #[.slice b1 D.S.length d1, .slice b2 D.C.length d2, .bool D.A, .slice b3 D.K.length d3]) D) := own2.mono X1.out (Nat.le_refl _)
    clear own2 hb2
    obtain ⟨⟨g0, h0⟩, ⟨g1, h1⟩, ⟨g2, h2⟩, ⟨g3, h3⟩, r0, r1, r2, r3⟩ := HR2.out.w4in (.slice b1 D.S.length d1) (.slice b2 D.C.length d2) (.bool D.A) (.slice b3 D.K.length d3)
    go_wp2_with fail
    exact bodyPost_ret (v := .tuple #[.agg #[.slice b1 D.S.length d1, .slice b2 D.C.length d2, .bool D.A, .slice b3 D.K.length d3], .int .i64 7]) (by simp [results, Try.results7, go_sem, r0, r1, r2, r3]) rfl ⟨_, _, _, rfl, F.out, (O2.out.w4 (by omega) _ _ _ _).mono (by omega) (by rw [size_w4]; exact Nat.le_refl _), Below.w4 B2.out (by omega) _ _ _ _⟩
  · have F : Hid (dwrite D x y = (moreC D (x, y), 0)) := dw_ok T0.out HOK.out HW.out tf
    have tf2 : ((D.C.length : Int) == 500) = false := by simp; omega
    clear tf
    go_wp2_with fail
    refine (l02Write _ D x y _ HS.out (HRD.out.below B1.out)).mono ?_
    rintro e w2 ⟨v2, rfl, rd2, hb2⟩
    have B2 : Hid (Below w.heap.size w w2) := B1.out.trans (hb2.mono B1.out.size)
    have HR2 : Hid (Box w2 (w.heap.size + 1) [.slice none 0 0, .slice none 0 0, .bool false, .slice none 0 0]) := HR.out.below hb2
    have RD2 : Hid (ReadsD w2 v2 (moreC D (x, y))) := rd2
    have SM : Hid (smallD (moreC D (x, y))) := small_more HS.out (by omega) HL.out.2.2
    clear rd2 hb2
    go_wp2_with fail
    obtain ⟨R, hR⟩ : ∃ R, moreC D (x, y) = R := ⟨_, rfl⟩
    refine (l02Own _ R _ (hR ▸ SM.out) (hR ▸ RD2.out)).mono ?_
    rintro e w3 ⟨v3, rfl, own3, hb3⟩
    rw [hR] at F
    obtain ⟨b1, d1, b2, d2, b3, d3, rfl⟩ := own3.lit
    have B3 : Hid (Below w.heap.size w w3) := B2.out.trans (hb3.mono B2.out.size)
    have HR3 : Hid (Box w3 (w.heap.size + 1) [.slice none 0 0, .slice none 0 0, .bool false, .slice none 0 0]) := HR2.out.below hb3
    have X2 : w.heap.size + 2 ≤ w2.heap.size := World.block_lt_of_cell? _ _ (HR2.out 0 _ rfl).1
    have O3 : Hid (OwnsD w3 (w.heap.size + 2) w3.heap.size (.agg #[.slice b1 R.S.length d1, .slice b2 R.C.length d2, .bool R.A, .slice b3 R.K.length d3]) R) := own3.mono X2 (Nat.le_refl _)
    clear own3 hb3 hR X2 SM RD2
    obtain ⟨⟨g0, h0⟩, ⟨g1, h1⟩, ⟨g2, h2⟩, ⟨g3, h3⟩, r0, r1, r2, r3⟩ := HR3.out.w4in (.slice b1 R.S.length d1) (.slice b2 R.C.length d2) (.bool R.A) (.slice b3 R.K.length d3)
    go_wp2_with fail
    exact bodyPost_ret (v := .tuple #[.agg #[.slice b1 R.S.length d1, .slice b2 R.C.length d2, .bool R.A, .slice b3 R.K.length d3], .int .i64 0]) (by simp [results, Try.results7, go_sem, r0, r1, r2, r3]) rfl ⟨_, _, _, rfl, F.out, (O3.out.w4 (by omega) _ _ _ _).mono (by omega) (by rw [size_w4]; exact Nat.le_refl _), Below.w4 B3.out (by omega) _ _ _ _⟩

set_option maxHeartbeats 2000000 in
theorem implDiskWrite (v : Value) (D : DM) (x : Int) (y : ByteArray) (w : World) (hs : smallD D) (hy : y.size ≤ 1048576) (h : ReadsD w v D) :
    Calls Try.prog 6 #[v, .int .i64 x, .string y] w fun e w' => ∃ v' R c, e = .returned (.tuple #[v', .int .i64 c]) ∧ dwrite D x y = (R, c) ∧ OwnsD w' w.heap.size w'.heap.size v' R ∧ Below w.heap.size w w' := by
  obtain ⟨a1, c1, a2, c2, a3, c3, rfl, s1, s2, s3⟩ := h
  have HS : Hid (smallD D) := hs
  have HRD : Hid (ReadsD w (.agg #[.slice a1 D.S.length c1, .slice a2 D.C.length c2, .bool D.A, .slice a3 D.K.length c3]) D) := ⟨a1, c1, a2, c2, a3, c3, rfl, s1, s2, s3⟩
  have S1 : Hid (Src w a1 (cellsS D.S)) := s1
  have S2 : Hid (Src w a2 (cellsQ D.C)) := s2
  have S3 : Hid (Src w a3 (cellsI D.K)) := s3
  clear s1 s2 s3 hs
  by_cases t0 : (65536 : Int) < (y.size : Int)
  · have F : Hid (dwrite D x y = (DM.none, 2)) := dw_long (by omega)
    go_enter Try.func6, Try.ntmps6
    go_wp2_with fail
    exact bodyPost_ret (v := .tuple #[.agg #[.slice none 0 0, .slice none 0 0, .bool false, .slice none 0 0], .int .i64 2]) (by simp [results, Try.results6, go_sem]) rfl ⟨_, _, _, rfl, F.out, OwnsD.nil _ _ _, ((Below.refl _ _).alloc (Nat.le_refl _) _).alloc (by simp) _⟩
  have T0 : Hid (¬ 65536 < y.size) := fun h => t0 (by omega)
  go_enter Try.func6, Try.ntmps6
  go_wp2_with fail
  refine (implDiskOK _ D _ HS.out (HRD.out.below (((Below.refl _ _).alloc (Nat.le_refl _) _).alloc (by simp) _))).mono ?_
  rintro e w1 ⟨rfl, hb1⟩
  have B1 : Hid (Below w.heap.size w w1) := (((Below.refl _ _).alloc (Nat.le_refl _) _).alloc (by simp) _).trans (hb1.mono (by simp; omega))
  have HA : Hid (Box w1 w.heap.size [.slice a1 D.S.length c1, .slice a2 D.C.length c2, .bool D.A, .slice a3 D.K.length c3]) := Box.below ((Box.new rfl).old _) hb1
  have HR : Hid (Box w1 (w.heap.size + 1) [.slice none 0 0, .slice none 0 0, .bool false, .slice none 0 0]) := Box.below (Box.new (by simp)) hb1
  have X1 : Hid (w.heap.size + 2 ≤ w1.heap.size) := World.block_lt_of_cell? _ _ (HR.out 0 _ rfl).1
  clear hb1
  by_cases hok : okD D
  case neg =>
    have F : Hid (dwrite D x y = (DM.none, 1)) := dw_bad T0.out hok
    rw [decide_eq_false hok]
    clear hok
    obtain ⟨⟨g0, h0⟩, ⟨g1, h1⟩, ⟨g2, h2⟩, ⟨g3, h3⟩, r0, r1, r2, r3⟩ := HR.out.w4in (.slice none 0 0) (.slice none 0 0) (.bool false) (.slice none 0 0)
    go_wp2_with fail
    exact bodyPost_ret (v := .tuple #[.agg #[.slice none 0 0, .slice none 0 0, .bool false, .slice none 0 0], .int .i64 1]) (by simp [results, Try.results6, go_sem, r0, r1, r2, r3]) rfl ⟨_, _, _, rfl, F.out, OwnsD.nil _ _ _, Below.w4 B1.out (by omega) _ _ _ _⟩
  rw [decide_eq_true hok]
  have HOK : Hid (okD D) := hok
  have HL : Hid (1 ≤ D.S.length ∧ D.S.length ≤ 80 ∧ D.C.length ≤ 500) := ⟨hok.1.1, hok.1.2.1, hok.2.1.1⟩
  clear hok
  obtain ⟨p0, _⟩ := (HA.out.old (.cells #[.int .i64 x, .string y] 47)) 0 _ rfl
  go_wp2_with fail
  refine (writeFits x y D.S.length _ (by omega)).mono ?_
  rintro e w2 ⟨rfl, hb2⟩
  have B2 : Hid (Below w.heap.size w w2) := B1.out.trans ((Below.new hb2).mono B1.out.size)
  have HA2 : Hid (Box w2 w.heap.size [.slice a1 D.S.length c1, .slice a2 D.C.length c2, .bool D.A, .slice a3 D.K.length c3]) := HA.out.below (Below.new hb2)
  have HR2 : Hid (Box w2 (w.heap.size + 1) [.slice none 0 0, .slice none 0 0, .bool false, .slice none 0 0]) := HR.out.below (Below.new hb2)
  have HP2 : Hid (Box w2 w1.heap.size [.int .i64 x, .string y]) := Box.below (Box.new rfl) hb2
  have X2 : Hid (w1.heap.size + 1 ≤ w2.heap.size) := size_new hb2
  clear hb2 HA HR B1 p0
  by_cases hw : okW D.S.length (x, y)
  case neg =>
    have F : Hid (dwrite D x y = (DM.none, 4)) := dw_range T0.out HOK.out hw
    rw [decide_eq_false hw]
    clear hw
    obtain ⟨⟨g0, h0⟩, ⟨g1, h1⟩, ⟨g2, h2⟩, ⟨g3, h3⟩, r0, r1, r2, r3⟩ := HR2.out.w4in (.slice none 0 0) (.slice none 0 0) (.bool false) (.slice none 0 0)
    go_wp2_with fail
    exact bodyPost_ret (v := .tuple #[.agg #[.slice none 0 0, .slice none 0 0, .bool false, .slice none 0 0], .int .i64 4]) (by simp [results, Try.results6, go_sem, r0, r1, r2, r3]) rfl ⟨_, _, _, rfl, F.out, OwnsD.nil _ _ _, Below.w4 B2.out (by omega) _ _ _ _⟩
  rw [decide_eq_true hw]
  have HW : Hid (okW D.S.length (x, y)) := hw
  clear hw
  obtain ⟨p0, _⟩ := HA2.out 0 _ rfl
  obtain ⟨p1, _⟩ := HA2.out 1 _ rfl
  obtain ⟨p2, _⟩ := HA2.out 2 _ rfl
  obtain ⟨p3, _⟩ := HA2.out 3 _ rfl
  go_wp2_with fail
  refine (copyDisk _ D _ HS.out (HRD.out.below B2.out)).mono ?_
  rintro e w3 ⟨v3, rfl, own3, hb3⟩
  obtain ⟨b1, d1, b2, d2, b3, d3, rfl⟩ := own3.lit
  have B3 : Hid (Below w.heap.size w w3) := B2.out.trans (hb3.mono B2.out.size)
  have HR3 : Hid (Box w3 (w.heap.size + 1) [.slice none 0 0, .slice none 0 0, .bool false, .slice none 0 0]) := HR2.out.below hb3
  have HP3 : Hid (Box w3 w1.heap.size [.int .i64 x, .string y]) := HP2.out.below hb3
  have O3 : Hid (OwnsD w3 (w.heap.size + 3) w3.heap.size (.agg #[.slice b1 D.S.length d1, .slice b2 D.C.length d2, .bool D.A, .slice b3 D.K.length d3]) D) := own3.mono (by have := X1.out; have := X2.out; omega) (Nat.le_refl _)
  have X3 : Hid (w.heap.size + 3 ≤ w3.heap.size) := by have h1 := X1.out; have h2 := X2.out; have h3 := hb3.size; show w.heap.size + 3 ≤ w3.heap.size; omega
  have X4 : Hid (w1.heap.size < w3.heap.size) := World.block_lt_of_cell? _ _ (HP3.out 0 _ rfl).1
  clear own3 hb3 HA2 HR2 HP2 B2 p0 p1 p2 p3
  by_cases tf : D.C.length = 500
  · have F : Hid (dwrite D x y = (D, 7)) := dw_full T0.out HOK.out HW.out tf
    have tf2 : ((D.C.length : Int) == 500) = true := by rw [tf]; rfl
    clear tf
    obtain ⟨⟨g0, h0⟩, ⟨g1, h1⟩, ⟨g2, h2⟩, ⟨g3, h3⟩, r0, r1, r2, r3⟩ := (HR3.out.old (.cells #[.slice b1 D.S.length d1, .slice b2 D.C.length d2, .bool D.A, .slice b3 D.K.length d3] 27)).w4in (.slice b1 D.S.length d1) (.slice b2 D.C.length d2) (.bool D.A) (.slice b3 D.K.length d3)
    go_wp2_with fail
    exact bodyPost_ret (v := .tuple #[.agg #[.slice b1 D.S.length d1, .slice b2 D.C.length d2, .bool D.A, .slice b3 D.K.length d3], .int .i64 7]) (by simp [results, Try.results6, go_sem, r0, r1, r2, r3]) rfl ⟨_, _, _, rfl, F.out, ((O3.out.below ((Below.refl _ _).alloc (Nat.le_refl _) _)).w4 (by omega) _ _ _ _).mono (by omega) (by rw [size_w4]; simp), Below.w4 (B3.out.alloc B3.out.size _) (by omega) _ _ _ _⟩
  · have F : Hid (dwrite D x y = (moreC D (x, y), 0)) := dw_ok T0.out HOK.out HW.out tf
    have tf2 : ((D.C.length : Int) == 500) = false := by simp; omega
    have hl3 := HL.out.2.2
    clear tf
    obtain ⟨q0, _⟩ := (HP3.out.old (.cells #[.slice b1 D.S.length d1, .slice b2 D.C.length d2, .bool D.A, .slice b3 D.K.length d3] 27)) 0 _ rfl
    obtain ⟨q1, _⟩ := (HP3.out.old (.cells #[.slice b1 D.S.length d1, .slice b2 D.C.length d2, .bool D.A, .slice b3 D.K.length d3] 27)) 1 _ rfl
    go_wp2_with (at_builtin; refine wpList_append_src _ rfl _ _ 24 rfl (w.heap.size + 3) 47 (.agg #[.int .i64 0, .string ⟨#[]⟩]) 2 24 Try.underlying24 infoQ rfl (by decide) (by decide) _ D.C.length (cellsQ D.C) rfl ((O3.out.rows.2.2.1.alloc _).alloc _) (some ⟨w3.heap.size + 1, 0, none⟩) 1 1 (cellsQ [(x, y)]) rfl rfl (src_one (by simp)) (cellsQ_one _) (by omega) (le_alloc (le_alloc X3.out _) _) ?_)
    intro v4 w4 hown4 hgrow4
    have o4 : w4.ownsRow (w.heap.size + 3) 47 2 v4 (D.C.length + 1) (cellsQ (D.C ++ [(x, y)])) := by rw [cellsQ_append]; exact hown4
    have hne : ∀ g, (Value.slice b2 D.C.length d2).ownBlock = some g → w.heap.size + 3 ≤ g ∧ g < w3.heap.size := fun g e => (O3.out.rows.2.2.1).lt g e
    have B4 : Hid (Below w.heap.size w w4) := ((B3.out.alloc B3.out.size _).alloc (le_alloc B3.out.size _) _).grown hgrow4 (le_alloc (le_alloc B3.out.size _) _) (fun g e => by have := hne g e; omega)
    have HR4 : Hid (Box w4 (w.heap.size + 1) [.slice none 0 0, .slice none 0 0, .bool false, .slice none 0 0]) := Box.grown ((HR3.out.old _).old _) hgrow4 (fun e => by have := hne _ e; omega)
    have HO4 : Hid (Box w4 w3.heap.size [.slice b1 D.S.length d1, .slice b2 D.C.length d2, .bool D.A, .slice b3 D.K.length d3]) := Box.grown ((Box.new rfl).old _) hgrow4 (fun e => by have := hne _ e; omega)
    have P1 : Hid (w4.ownsRow (w.heap.size + 3) 9 1 (.slice b1 D.S.length d1) D.S.length (cellsS D.S)) := own_grown ((O3.out.rows.2.1.alloc _).alloc _) hgrow4 (fun g e e2 => own_ne O3.out.rows.2.1 O3.out.rows.2.2.1 (by decide) g e e2)
    have P3 : Hid (w4.ownsRow (w.heap.size + 3) 3 1 (.slice b3 D.K.length d3) D.K.length (cellsI D.K)) := own_grown ((O3.out.rows.2.2.2.alloc _).alloc _) hgrow4 (fun g e e2 => own_ne O3.out.rows.2.2.2 O3.out.rows.2.2.1 (by decide) g e e2)
    have KB : Hid (∃ c f, w4.heap[w3.heap.size]? = some (.cells c 27 f)) := ⟨_, _, (hgrow4.block w3.heap.size (by simp; omega) (fun e => by have := hne _ e.symm; omega)).trans ((Below.heap_alloc _ _ _ (by simp)).trans (heap_alloc_new _ _))⟩
    obtain ⟨b4, d4, rfl, _, _⟩ := own_src o4
    have P2 : Hid (w4.ownsRow (w.heap.size + 3) 47 2 (.slice b4 (D.C.length + 1) d4) (D.C.length + 1) (cellsQ (D.C ++ [(x, y)]))) := o4
    clear hown4 hgrow4 hne o4 HR3 HP3 B3 O3 q0 q1
    obtain ⟨q1', q1f⟩ := HO4.out 1 _ rfl
    have HO5 : Hid (Box (w4.setCell ⟨w3.heap.size, 1, none⟩ (.slice b4 (D.C.length + 1) d4)) w3.heap.size [.slice b1 D.S.length d1, .slice b4 (D.C.length + 1) d4, .bool D.A, .slice b3 D.K.length d3]) := HO4.out.set 1 _
    have HR5 : Hid (Box (w4.setCell ⟨w3.heap.size, 1, none⟩ (.slice b4 (D.C.length + 1) d4)) (w.heap.size + 1) [.slice none 0 0, .slice none 0 0, .bool false, .slice none 0 0]) := HR4.out.other _ (by dsimp only; have := X3.out; omega) _
    obtain ⟨f0, _⟩ := HO5.out 0 _ rfl
    obtain ⟨f1, _⟩ := HO5.out 1 _ rfl
    obtain ⟨f2, _⟩ := HO5.out 2 _ rfl
    obtain ⟨f3, _⟩ := HO5.out 3 _ rfl
    obtain ⟨⟨g0, h0⟩, ⟨g1, h1⟩, ⟨g2, h2⟩, ⟨g3, h3⟩, r0, r1, r2, r3⟩ := HR5.out.w4in (.slice b1 D.S.length d1) (.slice b4 (D.C.length + 1) d4) (.bool D.A) (.slice b3 D.K.length d3)
    go_wp2_with fail
    refine bodyPost_ret (v := .tuple #[.agg #[.slice b1 D.S.length d1, .slice b4 (D.C.length + 1) d4, .bool D.A, .slice b3 D.K.length d3], .int .i64 0]) (by simp [results, Try.results6, go_sem, r0, r1, r2, r3]) rfl ⟨_, _, _, rfl, F.out, ?_, Below.w4 (Below.setCell (p := ⟨w3.heap.size, 1, none⟩) B4.out (by have := X3.out; dsimp only; omega) _) (by omega) _ _ _ _⟩
    have E : (moreC D (x, y)).C.length = D.C.length + 1 := by simp [moreC]
    refine OwnsD.mk rfl ?_ ?_ ?_ (Nat.le_refl _)
    · exact own_mono (own_w4 (own_setOther P1.out (own_notkind P1.out KB.out (by decide)) _) (by omega) _ _ _ _) (by omega)
    · rw [E]
      exact own_mono (own_w4 (own_setOther P2.out (own_notkind P2.out KB.out (by decide)) _) (by omega) _ _ _ _) (by omega)
    · exact own_mono (own_w4 (own_setOther P3.out (own_notkind P3.out KB.out (by decide)) _) (by omega) _ _ _ _) (by omega)

end Go.Proofs.Ytpbodiaglgkkkaa
