
/-
  Contracts of both DiskSync. By an AI agent.
-/
import Derived.Test.YtpbodiaglgkkkaaDcr2
namespace Go.Proofs.Ytpbodiaglgkkkaa
open Go.ChangeShapes Go.WideShapes Go.ChangeAt Go.RowKit Go.Deep
set_option linter.unusedVariables false

/-- What DiskSync answers. -/
def dsync (D : DM) : DM × Bool × Int :=
  if okD D then (if D.A = true then (crashD D D.K, false, 0) else (syncD D, true, 0)) else (DM.none, false, 1)
theorem ds_bad {D : DM} (h : ¬ okD D) : dsync D = (DM.none, false, 1) := by unfold dsync; rw [if_neg h]
theorem ds_arm {D : DM} (h : okD D) (h1 : D.A = true) : dsync D = (crashD D D.K, false, 0) := by unfold dsync; rw [if_pos h, if_pos h1]
theorem ds_ok {D : DM} (h : okD D) (h1 : D.A = false) : dsync D = (syncD D, true, 0) := by unfold dsync; rw [if_pos h, if_neg (by rw [h1]; decide)]
theorem ds_small {D R : DM} {b : Bool} {c : Int} (hs : smallD D) (h : dsync D = (R, b, c)) : smallD R := by
  unfold dsync at h
  split at h
  · split at h
    · cases h; exact small_crash hs
    · cases h; exact small_sync hs
  · cases h; exact small_none

set_option maxHeartbeats 4000000 in
theorem l02Sync (v : Value) (D : DM) (w : World) (hs : smallD D) (hok : okD D) (h : ReadsD w v D) :
    Calls Try.prog 38 #[v] w fun e w' => ∃ v' R b, e = .returned (.tuple #[v', .bool b]) ∧ dsync D = (R, b, 0) ∧ OwnsD w' w.heap.size w'.heap.size v' R ∧ Below w.heap.size w w' := by
  obtain ⟨a1, c1, a2, c2, a3, c3, rfl, s1, s2, s3⟩ := h
  have HS : Hid (smallD D) := hs
  have HRD : Hid (ReadsD w (.agg #[.slice a1 D.S.length c1, .slice a2 D.C.length c2, .bool D.A, .slice a3 D.K.length c3]) D) := ⟨a1, c1, a2, c2, a3, c3, rfl, s1, s2, s3⟩
  have S1 : Hid (Src w a1 (cellsS D.S)) := s1
  have S2 : Hid (Src w a2 (cellsQ D.C)) := s2
  have S3 : Hid (Src w a3 (cellsI D.K)) := s3
  clear s1 s2 s3 hs
  have HOK : Hid (okD D) := hok
  have hm1 : D.C.length ≤ 500 := hok.2.1.1
  have hn1 : D.S.length ≤ 80 := hok.1.2.1
  clear hok
  cases hA : D.A with
  | true =>
    have F : Hid (dsync D = (crashD D D.K, false, 0)) := ds_arm HOK.out hA
    rw [hA] at HRD
    have NA : Hid (D.A = true) := hA
    have HRD' : Hid (ReadsD w (.agg #[.slice a1 D.S.length c1, .slice a2 D.C.length c2, .bool true, .slice a3 D.K.length c3]) D) := HRD
    clear hA HRD
    obtain ⟨R, hR⟩ : ∃ R, crashD D D.K = R := ⟨_, rfl⟩
    rw [hR] at F
    go_enter Try.func38, Try.ntmps38
    go_wp2_with fail
    refine (l02Crash _ D a3 D.K.length c3 D.K _ HS.out HOK.out rfl (by have := HOK.out.2.2.1; omega) (S3.out.below (((Below.refl _ _).alloc (Nat.le_refl _) _).alloc (by simp) _)) (HRD'.out.below (((Below.refl _ _).alloc (Nat.le_refl _) _).alloc (by simp) _))).mono ?_
    rintro e w2 ⟨v2, rfl, own2, hb2⟩
    rw [hR] at own2
    obtain ⟨b1, d1, b2, d2, b3, d3, rfl⟩ := own2.lit
    have B2 : Hid (Below w.heap.size w w2) := (((Below.refl _ _).alloc (Nat.le_refl _) _).alloc (by simp) _).trans (hb2.mono (by simp; omega))
    have HR2 : Hid (Box w2 (w.heap.size + 1) [.slice none 0 0, .slice none 0 0, .bool false, .slice none 0 0]) := Box.below (Box.new (by simp)) hb2
    have O2 : Hid (OwnsD w2 (w.heap.size + 2) w2.heap.size (.agg #[.slice b1 R.S.length d1, .slice b2 R.C.length d2, .bool R.A, .slice b3 R.K.length d3]) R) := own2.mono (by simp) (Nat.le_refl _)
    clear own2 hb2 hR
    obtain ⟨⟨g0, h0⟩, ⟨g1, h1⟩, ⟨g2, h2⟩, ⟨g3, h3⟩, r0, r1, r2, r3⟩ := HR2.out.w4in (.slice b1 R.S.length d1) (.slice b2 R.C.length d2) (.bool R.A) (.slice b3 R.K.length d3)
    go_wp2_with fail
    exact bodyPost_ret (v := .tuple #[.agg #[.slice b1 R.S.length d1, .slice b2 R.C.length d2, .bool R.A, .slice b3 R.K.length d3], .bool false]) (by simp [results, Try.results38, go_sem, r0, r1, r2, r3]) rfl ⟨_, _, _, rfl, F.out, (O2.out.w4 (by omega) _ _ _ _).mono (by omega) (by rw [size_w4]; exact Nat.le_refl _), Below.w4 B2.out (by omega) _ _ _ _⟩
  | false =>
    have F : Hid (dsync D = (syncD D, true, 0)) := ds_ok HOK.out hA
    have NA : Hid (D.A = false) := hA
    have NK : Hid (D.K = []) := List.eq_nil_of_length_eq_zero (HOK.out.2.2.2 hA)
    rw [hA] at HRD
    have HRD' : Hid (ReadsD w (.agg #[.slice a1 D.S.length c1, .slice a2 D.C.length c2, .bool false, .slice a3 D.K.length c3]) D) := HRD
    clear hA HRD
    go_enter Try.func38, Try.ntmps38
    go_wp2_with fail
    refine (l02Own _ D _ HS.out (HRD'.out.below (((Below.refl _ _).alloc (Nat.le_refl _) _).alloc (by simp) _))).mono ?_
    rintro e w1 ⟨v1, rfl, own1, hb1⟩
    obtain ⟨b1, d1, b2, d2, b3, d3, rfl⟩ := own1.lit
    rw [NA.out] at own1 ⊢
    have B1 : Hid (Below w.heap.size w w1) := (((Below.refl _ _).alloc (Nat.le_refl _) _).alloc (by simp) _).trans (hb1.mono (by simp; omega))
    have HA : Hid (Box w1 w.heap.size [.slice a1 D.S.length c1, .slice a2 D.C.length c2, .bool false, .slice a3 D.K.length c3]) := Box.below ((Box.new rfl).old _) hb1
    have HR : Hid (Box w1 (w.heap.size + 1) [.slice none 0 0, .slice none 0 0, .bool false, .slice none 0 0]) := Box.below (Box.new (by simp)) hb1
    have O1 : Hid (OwnsD w1 (w.heap.size + 2) w1.heap.size (.agg #[.slice b1 D.S.length d1, .slice b2 D.C.length d2, .bool false, .slice b3 D.K.length d3]) D) := own1.mono (by simp) (Nat.le_refl _)
    have X1 : Hid (w.heap.size + 2 ≤ w1.heap.size) := World.block_lt_of_cell? _ _ (HR.out 0 _ rfl).1
    have BD : Hid (∀ g, (Value.slice b1 D.S.length d1).ownBlock = some g → w.heap.size + 2 ≤ g ∧ g < w1.heap.size) := fun g e => O1.out.rows.2.1.lt g e
    have BK : Hid (∀ g, (Value.slice b3 D.K.length d3).ownBlock = some g → g < w1.heap.size ∧ (Value.slice b1 D.S.length d1).ownBlock ≠ some g) := fun g e => ⟨(O1.out.rows.2.2.2.lt g e).2, own_ne O1.out.rows.2.2.2 O1.out.rows.2.1 (by decide) g e⟩
    clear own1 hb1
    go_wp2_with fail
    go_loopw [5] (fun i wr => ∃ k : Nat, k ≤ D.C.length ∧ i = .int .i64 k ∧ Hid (Below w.heap.size w wr) ∧ Hid (Box wr w.heap.size [.slice a1 D.S.length c1, .slice a2 D.C.length c2, .bool false, .slice a3 D.K.length c3]) ∧ Hid (Box wr (w.heap.size + 1) [.slice none 0 0, .slice none 0 0, .bool false, .slice none 0 0]) ∧ Hid (Box wr w1.heap.size [.slice b1 D.S.length d1, .slice b2 D.C.length d2, .bool false, .slice b3 D.K.length d3]) ∧ Hid (wr.ownsRow (w.heap.size + 2) 9 1 (.slice b1 D.S.length d1) D.S.length (cellsS (applyW D.S (D.C.take k)))) ∧ Hid (wr.ownsRow (w.heap.size + 2) 3 1 (.slice b3 D.K.length d3) D.K.length (cellsI D.K))) (fun i _ => D.C.length - (intOf i).toNat)
    case atStart => exact ⟨0, by omega, rfl, B1.out.alloc B1.out.size _, HA.out.old _, HR.out.old _, Box.new rfl, by rw [List.take_zero]; exact (O1.out.rows.2.1).alloc _, (O1.out.rows.2.2.2).alloc _⟩
    case round =>
      obtain ⟨k, hk, rfl, hb, HA2, HR2, HO2, HW, HKR⟩ := hrel
      clear HA HR B1 O1
      by_cases hlt : k < D.C.length
      · have hk0 : (0 : Int) ≤ (k : Int) := by omega
        have hkm : (k : Int) < (D.C.length : Int) := by omega
        obtain ⟨p1, _⟩ := HA2.out 1 _ rfl
        obtain ⟨b, o, xj, y, rfl, hc1, hc2, hy⟩ := srcQ (S2.out.below hb.out) (i := k) hlt
        have hw := HOK.out.2.1.2 _ (getD_mem D.C q0 k hlt)
        rw [hy.out] at hw
        obtain ⟨j, hxj⟩ : ∃ j : Nat, xj = (j : Int) := ⟨xj.toNat, by have := hw.1; simp only [] at this; omega⟩
        subst hxj
        have hj : j < D.S.length := by have := hw.2.1; simp only [] at this; omega
        have hj0 : (0 : Int) ≤ (j : Int) := by omega
        have hjn : (j : Int) < (D.S.length : Int) := by omega
        have E : Hid (applyW D.S (D.C.take (k + 1)) = (applyW D.S (D.C.take k)).set j y) := by
          show _ = _
          rw [take_snoc D.C q0 k hlt, hy.out, applyW_snoc]; rfl
        have hrow := HW.out.2
        rcases hrow with ⟨e, _⟩ | ⟨g, cap, cur, e, _⟩
        · injection e with e1 e2 e3; omega
        cases e
        have hk2 : j < (cellsS (applyW D.S (D.C.take k))).length := by rw [cellsS_length, applyW_length]; exact hj
        obtain ⟨z, z1, z2⟩ := own_cellX HW.out hk2
        have HBG : Hid (w.heap.size + 2 ≤ g ∧ g < w1.heap.size) := BD.out g rfl
        have HW2 : Hid ((wr.setCell ⟨g, j, none⟩ (.string y)).ownsRow (w.heap.size + 2) 9 1 (.slice (some ⟨g, 0, none⟩) D.S.length d1) D.S.length (cellsS (applyW D.S (D.C.take (k + 1))))) := own_congr (own_set HW.out j hk2 (.string y)) (by rw [cellsS_set, E.out])
        have HK2 : Hid ((wr.setCell ⟨g, j, none⟩ (.string y)).ownsRow (w.heap.size + 2) 3 1 (.slice b3 D.K.length d3) D.K.length (cellsI D.K)) := own_setOther HKR.out (fun e => (BK.out g e).2 rfl) _
        have HA3 : Hid (Box (wr.setCell ⟨g, j, none⟩ (.string y)) w.heap.size [.slice a1 D.S.length c1, .slice (some ⟨b, o, none⟩) D.C.length c2, .bool false, .slice a3 D.K.length c3]) := HA2.out.other _ (by dsimp only; have := HBG.out; omega) _
        have HR3 : Hid (Box (wr.setCell ⟨g, j, none⟩ (.string y)) (w.heap.size + 1) [.slice none 0 0, .slice none 0 0, .bool false, .slice none 0 0]) := HR2.out.other _ (by dsimp only; have := HBG.out; omega) _
        have HO3 : Hid (Box (wr.setCell ⟨g, j, none⟩ (.string y)) w1.heap.size [.slice (some ⟨g, 0, none⟩) D.S.length d1, .slice b2 D.C.length d2, .bool false, .slice b3 D.K.length d3]) := HO2.out.other _ (by dsimp only; have := HBG.out; omega) _
        obtain ⟨o0, _⟩ := HO2.out 0 _ rfl
        clear hw hy hk2 E
        go_wp2_with fail
        go_region
        all_goals go_wp2_with fail
        all_goals exact ⟨⟨k + 1, by omega, by go_num, (Below.setCell (p := ⟨g, j, none⟩) hb.out (by have := HBG.out; dsimp only; omega) _).drew, HA3.out.drew, HR3.out.drew, HO3.out.drew, HW2.out, HK2.out⟩, by simp [intOf]; omega⟩
      · have hkn : k = D.C.length := by omega
        have HWF : Hid (wr.ownsRow (w.heap.size + 2) 9 1 (.slice b1 D.S.length d1) D.S.length (cellsS (applyW D.S D.C))) := by rw [hkn, List.take_length] at HW; exact HW
        have XW : Hid (w1.heap.size < wr.heap.size) := World.block_lt_of_cell? _ _ (HO2.out 0 _ rfl).1
        clear hkn HW
        obtain ⟨p1, _⟩ := HA2.out 1 _ rfl
        have Q1 : Hid (Box (wr.alloc (.cells #[] 47)) w1.heap.size [.slice b1 D.S.length d1, .slice b2 D.C.length d2, .bool false, .slice b3 D.K.length d3]) := HO2.out.old _
        obtain ⟨s1, s1f⟩ := Q1.out 1 _ rfl
        have Q5 : Hid (Box ((wr.alloc (.cells #[] 47)).setCell ⟨w1.heap.size, 1, none⟩ (.slice (some ⟨wr.heap.size, 0, none⟩) 0 0)) w1.heap.size [.slice b1 D.S.length d1, .slice (some ⟨wr.heap.size, 0, none⟩) 0 0, .bool false, .slice b3 D.K.length d3]) := Q1.out.set 1 _
        have HR5 : Hid (Box ((wr.alloc (.cells #[] 47)).setCell ⟨w1.heap.size, 1, none⟩ (.slice (some ⟨wr.heap.size, 0, none⟩) 0 0)) (w.heap.size + 1) [.slice none 0 0, .slice none 0 0, .bool false, .slice none 0 0]) := (HR2.out.old _).other _ (by dsimp only; have := X1.out; omega) _
        obtain ⟨f0, _⟩ := Q5.out 0 _ rfl
        obtain ⟨f1, _⟩ := Q5.out 1 _ rfl
        obtain ⟨f2, _⟩ := Q5.out 2 _ rfl
        obtain ⟨f3, _⟩ := Q5.out 3 _ rfl
        obtain ⟨⟨g0, h0⟩, ⟨g1, h1⟩, ⟨g2, h2⟩, ⟨g3, h3⟩, r0, r1, r2, r3⟩ := HR5.out.w4in (.slice b1 D.S.length d1) (.slice (some ⟨wr.heap.size, 0, none⟩) 0 0) (.bool false) (.slice b3 D.K.length d3)
        have OS : Hid (((wr.alloc (.cells #[] 47)).setCell ⟨w1.heap.size, 1, none⟩ (.slice (some ⟨wr.heap.size, 0, none⟩) 0 0)).ownsRow (w.heap.size + 2) 9 1 (.slice b1 D.S.length d1) D.S.length (cellsS (applyW D.S D.C))) := own_setOther (HWF.out.alloc _) (fun e => by have := (BD.out _ e).2; dsimp only at this; omega) _
        have OC : Hid (((wr.alloc (.cells #[] 47)).setCell ⟨w1.heap.size, 1, none⟩ (.slice (some ⟨wr.heap.size, 0, none⟩) 0 0)).ownsRow (w.heap.size + 2) 47 2 (.slice (some ⟨wr.heap.size, 0, none⟩) 0 0) 0 []) := own_setOther (own_empty rfl (by have := X1.out; have := XW.out; omega)) (fun e => by have h2 := Option.some.inj e; dsimp only at h2; have := XW.out; omega) _
        have OI : Hid (((wr.alloc (.cells #[] 47)).setCell ⟨w1.heap.size, 1, none⟩ (.slice (some ⟨wr.heap.size, 0, none⟩) 0 0)).ownsRow (w.heap.size + 2) 3 1 (.slice b3 D.K.length d3) D.K.length (cellsI D.K)) := own_setOther (HKR.out.alloc _) (fun e => by have := (BK.out _ e).1; dsimp only at this; omega) _
        have BE : Hid (Below w.heap.size w ((wr.alloc (.cells #[] 47)).setCell ⟨w1.heap.size, 1, none⟩ (.slice (some ⟨wr.heap.size, 0, none⟩) 0 0))) := Below.setCell (p := ⟨w1.heap.size, 1, none⟩) (hb.out.alloc hb.out.size _) (by have := X1.out; dsimp only; omega) _
        go_wp2_with fail
        refine bodyPost_ret (v := .tuple #[.agg #[.slice b1 D.S.length d1, .slice (some ⟨wr.heap.size, 0, none⟩) 0 0, .bool false, .slice b3 D.K.length d3], .bool true]) (by simp [results, Try.results38, go_sem, r0, r1, r2, r3]) rfl ⟨_, _, _, rfl, F.out, ?_, Below.w4 BE.out (by omega) _ _ _ _⟩
        refine OwnsD.mk rfl ?_ ?_ ?_ (Nat.le_refl _)
        · rw [show (syncD D).S.length = D.S.length from applyW_length _ _]
          exact own_mono (own_w4 OS.out (by omega) _ _ _ _) (by omega)
        · exact own_mono (own_w4 OC.out (by omega) _ _ _ _) (by omega)
        · have h9 := own_mono (own_w4 OI.out (B := w.heap.size + 1) (by omega) (.slice b1 D.S.length d1) (.slice (some ⟨wr.heap.size, 0, none⟩) 0 0) (.bool false) (.slice b3 D.K.length d3)) (base' := w.heap.size) (by omega)
          rw [NK.out] at h9 ⊢
          exact h9

set_option maxHeartbeats 4000000 in
theorem implDiskSync (v : Value) (D : DM) (w : World) (hs : smallD D) (h : ReadsD w v D) :
    Calls Try.prog 9 #[v] w fun e w' => ∃ v' R b c, e = .returned (.tuple #[v', .bool b, .int .i64 c]) ∧ dsync D = (R, b, c) ∧ OwnsD w' w.heap.size w'.heap.size v' R ∧ Below w.heap.size w w' := by
  obtain ⟨a1, c1, a2, c2, a3, c3, rfl, s1, s2, s3⟩ := h
  have HS : Hid (smallD D) := hs
  have HRD : Hid (ReadsD w (.agg #[.slice a1 D.S.length c1, .slice a2 D.C.length c2, .bool D.A, .slice a3 D.K.length c3]) D) := ⟨a1, c1, a2, c2, a3, c3, rfl, s1, s2, s3⟩
  have S1 : Hid (Src w a1 (cellsS D.S)) := s1
  have S2 : Hid (Src w a2 (cellsQ D.C)) := s2
  have S3 : Hid (Src w a3 (cellsI D.K)) := s3
  clear s1 s2 s3 hs
  go_enter Try.func9, Try.ntmps9
  go_wp2_with fail
  refine (implDiskOK _ D _ HS.out (HRD.out.below (((Below.refl _ _).alloc (Nat.le_refl _) _).alloc (by simp) _))).mono ?_
  rintro e w0 ⟨rfl, hb1⟩
  have B0 : Hid (Below w.heap.size w w0) := (((Below.refl _ _).alloc (Nat.le_refl _) _).alloc (by simp) _).trans (hb1.mono (by simp; omega))
  have HA : Hid (Box w0 w.heap.size [.slice a1 D.S.length c1, .slice a2 D.C.length c2, .bool D.A, .slice a3 D.K.length c3]) := Box.below ((Box.new rfl).old _) hb1
  have HR0 : Hid (Box w0 (w.heap.size + 1) [.slice none 0 0, .slice none 0 0, .bool false, .slice none 0 0]) := Box.below (Box.new (by simp)) hb1
  have X0 : Hid (w.heap.size + 2 ≤ w0.heap.size) := World.block_lt_of_cell? _ _ (HR0.out 0 _ rfl).1
  clear hb1
  by_cases hok : okD D
  case neg =>
    have F : Hid (dsync D = (DM.none, false, 1)) := ds_bad hok
    rw [decide_eq_false hok]
    clear hok
    obtain ⟨⟨g0, h0⟩, ⟨g1, h1⟩, ⟨g2, h2⟩, ⟨g3, h3⟩, r0, r1, r2, r3⟩ := HR0.out.w4in (.slice none 0 0) (.slice none 0 0) (.bool false) (.slice none 0 0)
    go_wp2_with fail
    exact bodyPost_ret (v := .tuple #[.agg #[.slice none 0 0, .slice none 0 0, .bool false, .slice none 0 0], .bool false, .int .i64 1]) (by simp [results, Try.results9, go_sem, r0, r1, r2, r3]) rfl ⟨_, _, _, _, rfl, F.out, OwnsD.nil _ _ _, Below.w4 B0.out (by omega) _ _ _ _⟩
  rw [decide_eq_true hok]
  have HOK : Hid (okD D) := hok
  clear hok
  obtain ⟨p0, _⟩ := HA.out 0 _ rfl
  obtain ⟨p1, _⟩ := HA.out 1 _ rfl
  obtain ⟨p2, _⟩ := HA.out 2 _ rfl
  obtain ⟨p3, _⟩ := HA.out 3 _ rfl
  obtain ⟨AA, hA⟩ : ∃ AA, D.A = AA := ⟨_, rfl⟩
  have NA : Hid (D.A = AA) := hA
  rw [hA] at p2
  cases AA with
  | true =>
    have F : Hid (dsync D = (crashD D D.K, false, 0)) := ds_arm HOK.out NA.out
    obtain ⟨R, hR⟩ : ∃ R, crashD D D.K = R := ⟨_, rfl⟩
    rw [hR] at F
    rw [hA] at HRD ⊢
    have HRD' : Hid (ReadsD w (.agg #[.slice a1 D.S.length c1, .slice a2 D.C.length c2, .bool true, .slice a3 D.K.length c3]) D) := HRD
    clear HRD hA
    go_wp2_with fail
    refine (crashed _ D a3 D.K.length c3 D.K _ HS.out HOK.out rfl (by have := HOK.out.2.2.1; omega) (S3.out.below B0.out) (HRD'.out.below B0.out)).mono ?_
    rintro e w2 ⟨v2, rfl, own2, hb2⟩
    rw [hR] at own2
    obtain ⟨b1, d1, b2, d2, b3, d3, rfl⟩ := own2.lit
    have B2 : Hid (Below w.heap.size w w2) := B0.out.trans (hb2.mono B0.out.size)
    have HR2 : Hid (Box w2 (w.heap.size + 1) [.slice none 0 0, .slice none 0 0, .bool false, .slice none 0 0]) := HR0.out.below hb2
    have O2 : Hid (OwnsD w2 (w.heap.size + 2) w2.heap.size (.agg #[.slice b1 R.S.length d1, .slice b2 R.C.length d2, .bool R.A, .slice b3 R.K.length d3]) R) := own2.mono X0.out (Nat.le_refl _)
    clear own2 hb2 hR p0 p1 p2 p3
    obtain ⟨⟨g0, h0⟩, ⟨g1, h1⟩, ⟨g2, h2⟩, ⟨g3, h3⟩, r0, r1, r2, r3⟩ := HR2.out.w4in (.slice b1 R.S.length d1) (.slice b2 R.C.length d2) (.bool R.A) (.slice b3 R.K.length d3)
    go_wp2_with fail
    exact bodyPost_ret (v := .tuple #[.agg #[.slice b1 R.S.length d1, .slice b2 R.C.length d2, .bool R.A, .slice b3 R.K.length d3], .bool false, .int .i64 0]) (by simp [results, Try.results9, go_sem, r0, r1, r2, r3]) rfl ⟨_, _, _, _, rfl, F.out, (O2.out.w4 (by omega) _ _ _ _).mono (by omega) (by rw [size_w4]; exact Nat.le_refl _), Below.w4 B2.out (by omega) _ _ _ _⟩
  | false =>
    have F : Hid (dsync D = (syncD D, true, 0)) := ds_ok HOK.out NA.out
    rw [hA] at HRD ⊢
    have HRD' : Hid (ReadsD w (.agg #[.slice a1 D.S.length c1, .slice a2 D.C.length c2, .bool false, .slice a3 D.K.length c3]) D) := HRD
    clear HRD hA
    go_wp2_with fail
    refine (written _ D a2 D.C.length c2 D.C _ HS.out rfl HOK.out.2.1.1 HOK.out.2.1.2 (S2.out.below B0.out) (HRD'.out.below B0.out)).mono ?_
    rintro e w2 ⟨u, rfl, o2, hb2⟩
    obtain ⟨au, cu, rfl, _, _⟩ := own_src o2
    have B2 : Hid (Below w.heap.size w w2) := B0.out.trans (hb2.mono B0.out.size)
    have HR3 : Hid (Box w2 (w.heap.size + 1) [.slice none 0 0, .slice none 0 0, .bool false, .slice none 0 0]) := HR0.out.below hb2
    have O2 : Hid (w2.ownsRow (w.heap.size + 2) 9 1 (.slice au D.S.length cu) D.S.length (cellsS (applyW D.S D.C))) := own_mono o2 X0.out
    clear o2 hb2 p0 p1 p2 p3
    obtain ⟨⟨g0, h0⟩, ⟨g1, h1⟩, ⟨g2, h2⟩, ⟨g3, h3⟩, r0, r1, r2, r3⟩ := HR3.out.w4in (.slice au D.S.length cu) (.slice none 0 0) (.bool false) (.slice none 0 0)
    go_wp2_with fail
    refine bodyPost_ret (v := .tuple #[.agg #[.slice au D.S.length cu, .slice none 0 0, .bool false, .slice none 0 0], .bool true, .int .i64 0]) (by simp [results, Try.results9, go_sem, r0, r1, r2, r3]) rfl ⟨_, _, _, _, rfl, F.out, ?_, Below.w4 B2.out (by omega) _ _ _ _⟩
    refine OwnsD.mk rfl ?_ (World.ownsRow_nil _ _ _ _) (World.ownsRow_nil _ _ _ _) (Nat.le_refl _)
    rw [show (syncD D).S.length = D.S.length from applyW_length _ _]
    exact own_mono (own_w4 O2.out (by omega) _ _ _ _) (by omega)

end Go.Proofs.Ytpbodiaglgkkkaa
