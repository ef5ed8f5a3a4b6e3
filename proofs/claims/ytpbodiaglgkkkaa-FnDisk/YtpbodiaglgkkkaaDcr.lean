
/-
  Contracts of both DiskCrash and of what they lean on. By an AI agent.
-/
import Derived.Test.YtpbodiaglgkkkaaWrt
namespace Go.Proofs.Ytpbodiaglgkkkaa
open Go.ChangeShapes Go.WideShapes Go.ChangeAt Go.RowKit Go.Deep
set_option linter.unusedVariables false

/-- What DiskCrash answers. -/
def dcrash (D : DM) (K : List Int) : DM × Int :=
  if 4096 < K.length then (DM.none, 2) else if okD D then (crashD D K, 0) else (DM.none, 1)
theorem dc_long {D : DM} {K : List Int} (h : 4096 < K.length) : dcrash D K = (DM.none, 2) := by unfold dcrash; rw [if_pos h]
theorem dc_bad {D : DM} {K : List Int} (h : ¬ 4096 < K.length) (h1 : ¬ okD D) : dcrash D K = (DM.none, 1) := by unfold dcrash; rw [if_neg h, if_neg h1]
theorem dc_ok {D : DM} {K : List Int} (h : ¬ 4096 < K.length) (h1 : okD D) : dcrash D K = (crashD D K, 0) := by unfold dcrash; rw [if_neg h, if_pos h1]
theorem set_mem {L : List ByteArray} {i : Nat} {y x : ByteArray} (h : x ∈ L.set i y) : x ∈ L ∨ x = y := List.mem_or_eq_of_mem_set h
theorem applyW_small (S : List ByteArray) (C : List (Int × ByteArray)) (b : Nat) (hS : ∀ x ∈ S, x.size ≤ b) (hC : ∀ p ∈ C, p.2.size ≤ b) : ∀ x ∈ applyW S C, x.size ≤ b := by
  unfold applyW
  induction C generalizing S with
  | nil => exact hS
  | cons p C ih =>
    rw [List.foldl_cons]
    refine ih _ (fun x hx => ?_) (fun q hq => hC q (List.mem_cons_of_mem _ hq))
    rcases set_mem hx with h | h
    · exact hS x h
    · rw [h]; exact hC p (List.mem_cons_self ..)
theorem small_crash {D : DM} {K : List Int} (hs : smallD D) : smallD (crashD D K) :=
  ⟨⟨by show (applyW _ _).length ≤ _; rw [applyW_length]; exact hs.1.1, applyW_small _ _ _ hs.1.2 (keptTo_ok _ _ _ (Nat.le_refl _) (fun p => p.2.size ≤ 1048576) hs.2.1.2)⟩, ⟨Nat.zero_le _, fun x hx => by cases hx⟩, Nat.zero_le _⟩
theorem small_sync {D : DM} (hs : smallD D) : smallD (syncD D) :=
  ⟨⟨by show (applyW _ _).length ≤ _; rw [applyW_length]; exact hs.1.1, applyW_small _ _ _ hs.1.2 hs.2.1.2⟩, ⟨Nat.zero_le _, fun x hx => by cases hx⟩, Nat.zero_le _⟩
theorem dc_small {D R : DM} {K : List Int} {c : Int} (hs : smallD D) (h : dcrash D K = (R, c)) : smallD R := by
  unfold dcrash at h
  split at h
  · cases h; exact small_none
  · split at h
    · cases h; exact small_crash hs
    · cases h; exact small_none

set_option maxHeartbeats 4000000 in
theorem l02Crash (v : Value) (D : DM) (ak : Option Addr) (mk ck : Nat) (K : List Int) (w : World) (hs : smallD D) (hok : okD D) (hmk : K.length = mk) (hmk1 : mk ≤ 1048576) (hk : Src w ak (cellsI K)) (h : ReadsD w v D) :
    Calls Try.prog 28 #[v, .slice ak mk ck] w fun e w' => ∃ v', e = .returned v' ∧ OwnsD w' w.heap.size w'.heap.size v' (crashD D K) ∧ Below w.heap.size w w' := by
  obtain ⟨a1, c1, a2, c2, a3, c3, rfl, s1, s2, s3⟩ := h
  have HS : Hid (smallD D) := hs
  have HRD : Hid (ReadsD w (.agg #[.slice a1 D.S.length c1, .slice a2 D.C.length c2, .bool D.A, .slice a3 D.K.length c3]) D) := ⟨a1, c1, a2, c2, a3, c3, rfl, s1, s2, s3⟩
  have S1 : Hid (Src w a1 (cellsS D.S)) := s1
  have S2 : Hid (Src w a2 (cellsQ D.C)) := s2
  have S3 : Hid (Src w a3 (cellsI D.K)) := s3
  clear s1 s2 s3 hs
  have HK : Hid (Src w ak (cellsI K)) := hk
  have NK : Hid (K.length = mk) := hmk
  have HOK : Hid (okD D) := hok
  have hm1 : D.C.length ≤ 500 := hok.2.1.1
  have hn1 : D.S.length ≤ 80 := hok.1.2.1
  clear hk hmk hok
  go_enter Try.func28, Try.ntmps28
  go_wp2_with fail
  refine (l02Own _ D _ HS.out (HRD.out.below (((Below.refl _ _).alloc (Nat.le_refl _) _).alloc (by simp) _))).mono ?_
  rintro e w1 ⟨v1, rfl, own1, hb1⟩
  obtain ⟨b1, d1, b2, d2, b3, d3, rfl⟩ := own1.lit
  have B1 : Hid (Below w.heap.size w w1) := (((Below.refl _ _).alloc (Nat.le_refl _) _).alloc (by simp) _).trans (hb1.mono (by simp; omega))
  have HA : Hid (Box w1 w.heap.size [.slice a1 D.S.length c1, .slice a2 D.C.length c2, .bool D.A, .slice a3 D.K.length c3]) := Box.below ((Box.new rfl).old _) hb1
  have HR : Hid (Box w1 (w.heap.size + 1) [.slice none 0 0, .slice none 0 0, .bool false, .slice none 0 0]) := Box.below (Box.new (by simp)) hb1
  have O1 : Hid (OwnsD w1 (w.heap.size + 2) w1.heap.size (.agg #[.slice b1 D.S.length d1, .slice b2 D.C.length d2, .bool D.A, .slice b3 D.K.length d3]) D) := own1.mono (by simp) (Nat.le_refl _)
  have X1 : Hid (w.heap.size + 2 ≤ w1.heap.size) := World.block_lt_of_cell? _ _ (HR.out 0 _ rfl).1
  have BD : Hid (∀ g, (Value.slice b1 D.S.length d1).ownBlock = some g → w.heap.size + 2 ≤ g ∧ g < w1.heap.size) := fun g e => O1.out.rows.2.1.lt g e
  clear own1 hb1
  go_wp2_with fail
  go_loopw [6] (fun i wr => ∃ k : Nat, k ≤ D.C.length ∧ i = .int .i64 k ∧ Hid (Below w.heap.size w wr) ∧ Hid (Box wr w.heap.size [.slice a1 D.S.length c1, .slice a2 D.C.length c2, .bool D.A, .slice a3 D.K.length c3]) ∧ Hid (Box wr (w.heap.size + 1) [.slice none 0 0, .slice none 0 0, .bool false, .slice none 0 0]) ∧ Hid (Box wr w1.heap.size [.slice b1 D.S.length d1, .slice b2 D.C.length d2, .bool D.A, .slice b3 D.K.length d3]) ∧ Hid (wr.ownsRow (w.heap.size + 2) 9 1 (.slice b1 D.S.length d1) D.S.length (cellsS (applyW D.S (keptTo D.C K k))))) (fun i _ => D.C.length - (intOf i).toNat)
  case atStart => exact ⟨0, by omega, rfl, B1.out.alloc B1.out.size _, HA.out.old _, HR.out.old _, Box.new rfl, (O1.out.rows.2.1).alloc _⟩
  case round =>
    obtain ⟨k, hk, rfl, hb, HA2, HR2, HO2, HW⟩ := hrel
    clear HA HR B1 O1
    by_cases hlt : k < D.C.length
    · have hk0 : (0 : Int) ≤ (k : Int) := by omega
      have hkm : (k : Int) < (D.C.length : Int) := by omega
      obtain ⟨p1, _⟩ := HA2.out 1 _ rfl
      by_cases hin : k < mk
      case neg =>
        have E : Hid (keptTo D.C K (k + 1) = keptTo D.C K k) := keptTo_no _ _ _ (fun h => absurd h (by have := NK.out; omega))
        have hin2 : (mk : Int) ≤ (k : Int) := by omega
        go_wp2_with fail
        exact ⟨⟨k + 1, by omega, by go_num, hb.out, HA2.out, HR2.out, HO2.out, by rw [E.out]; exact HW.out⟩, by simp [intOf]; omega⟩
      have hin2 : (k : Int) < (mk : Int) := by omega
      obtain ⟨bk, ok, x, rfl, hcx, hx⟩ := srcI (HK.out.below hb.out) (i := k) (by rw [NK.out]; exact hin)
      by_cases hx0 : x = 0
      · subst hx0
        have E : Hid (keptTo D.C K (k + 1) = keptTo D.C K k) := keptTo_no _ _ _ (fun _ => hx.out)
        have hz : ((0 : Int) != 0) = false := by simp
        go_wp2_with fail
        exact ⟨⟨k + 1, by omega, by go_num, hb.out, HA2.out, HR2.out, HO2.out, by rw [E.out]; exact HW.out⟩, by simp [intOf]; omega⟩
      · have hz : (x != 0) = true := by simp; exact hx0
        obtain ⟨b, o, xj, y, rfl, hc1, hc2, hy⟩ := srcQ (S2.out.below hb.out) (i := k) hlt
        have hw := HOK.out.2.1.2 _ (getD_mem D.C q0 k hlt)
        rw [hy.out] at hw
        obtain ⟨j, hxj⟩ : ∃ j : Nat, xj = (j : Int) := ⟨xj.toNat, by have := hw.1; simp only [] at this; omega⟩
        subst hxj
        have hj : j < D.S.length := by have := hw.2.1; simp only [] at this; omega
        have hj0 : (0 : Int) ≤ (j : Int) := by omega
        have hjn : (j : Int) < (D.S.length : Int) := by omega
        have E : Hid (applyW D.S (keptTo D.C K (k + 1)) = (applyW D.S (keptTo D.C K k)).set j y) := by
          show _ = _
          rw [keptTo_yes _ _ _ (by rw [NK.out]; exact hin) (by rw [hx.out]; exact hx0), hy.out, applyW_snoc]; rfl
        have hrow := HW.out.2
        rcases hrow with ⟨e, _⟩ | ⟨g, cap, cur, e, _⟩
        · injection e with e1 e2 e3; omega
        cases e
        have hk2 : j < (cellsS (applyW D.S (keptTo D.C K k))).length := by rw [cellsS_length, applyW_length]; exact hj
        obtain ⟨z, z1, z2⟩ := own_cellX HW.out hk2
        have HBG : Hid (w.heap.size + 2 ≤ g ∧ g < w1.heap.size) := BD.out g rfl
        have HW2 : Hid ((wr.setCell ⟨g, j, none⟩ (.string y)).ownsRow (w.heap.size + 2) 9 1 (.slice (some ⟨g, 0, none⟩) D.S.length d1) D.S.length (cellsS (applyW D.S (keptTo D.C K (k + 1))))) := own_congr (own_set HW.out j hk2 (.string y)) (by rw [cellsS_set, E.out])
        have HA3 : Hid (Box (wr.setCell ⟨g, j, none⟩ (.string y)) w.heap.size [.slice a1 D.S.length c1, .slice (some ⟨b, o, none⟩) D.C.length c2, .bool D.A, .slice a3 D.K.length c3]) := HA2.out.other _ (by dsimp only; have := HBG.out; omega) _
        have HR3 : Hid (Box (wr.setCell ⟨g, j, none⟩ (.string y)) (w.heap.size + 1) [.slice none 0 0, .slice none 0 0, .bool false, .slice none 0 0]) := HR2.out.other _ (by dsimp only; have := HBG.out; omega) _
        have HO3 : Hid (Box (wr.setCell ⟨g, j, none⟩ (.string y)) w1.heap.size [.slice (some ⟨g, 0, none⟩) D.S.length d1, .slice b2 D.C.length d2, .bool D.A, .slice b3 D.K.length d3]) := HO2.out.other _ (by dsimp only; have := HBG.out; omega) _
        obtain ⟨o0, _⟩ := HO2.out 0 _ rfl
        clear hw hy hx hk2 E hx0
        go_wp2_with fail
        go_region
        all_goals go_wp2_with fail
        all_goals exact ⟨⟨k + 1, by omega, by go_num, (Below.setCell (p := ⟨g, j, none⟩) hb.out (by have := HBG.out; dsimp only; omega) _).drew, HA3.out.drew, HR3.out.drew, HO3.out.drew, HW2.out⟩, by simp [intOf]; omega⟩
    · have hkn : k = D.C.length := by omega
      have HWF : Hid (wr.ownsRow (w.heap.size + 2) 9 1 (.slice b1 D.S.length d1) D.S.length (cellsS (applyW D.S (keptTo D.C K D.C.length)))) := by rw [hkn] at HW; exact HW
      have XW : Hid (w1.heap.size < wr.heap.size) := World.block_lt_of_cell? _ _ (HO2.out 0 _ rfl).1
      clear hkn HW
      obtain ⟨p1, _⟩ := HA2.out 1 _ rfl
      have Q1 : Hid (Box (wr.alloc (.cells #[] 47)) w1.heap.size [.slice b1 D.S.length d1, .slice b2 D.C.length d2, .bool D.A, .slice b3 D.K.length d3]) := HO2.out.old _
      obtain ⟨s1, s1f⟩ := Q1.out 1 _ rfl
      obtain ⟨s2, s2f⟩ := (Q1.out.set 1 (.slice (some ⟨wr.heap.size, 0, none⟩) 0 0)) 2 _ rfl
      have Q4 : Hid (Box ((((wr.alloc (.cells #[] 47)).setCell ⟨w1.heap.size, 1, none⟩ (.slice (some ⟨wr.heap.size, 0, none⟩) 0 0)).setCell ⟨w1.heap.size, 2, none⟩ (.bool false)).alloc (.cells #[] 3)) w1.heap.size [.slice b1 D.S.length d1, .slice (some ⟨wr.heap.size, 0, none⟩) 0 0, .bool false, .slice b3 D.K.length d3]) := (((Q1.out.set 1 _).set 2 _).old _)
      obtain ⟨s3, s3f⟩ := Q4.out 3 _ rfl
      have Q5 : Hid (Box (((((wr.alloc (.cells #[] 47)).setCell ⟨w1.heap.size, 1, none⟩ (.slice (some ⟨wr.heap.size, 0, none⟩) 0 0)).setCell ⟨w1.heap.size, 2, none⟩ (.bool false)).alloc (.cells #[] 3)).setCell ⟨w1.heap.size, 3, none⟩ (.slice (some ⟨wr.heap.size + 1, 0, none⟩) 0 0)) w1.heap.size [.slice b1 D.S.length d1, .slice (some ⟨wr.heap.size, 0, none⟩) 0 0, .bool false, .slice (some ⟨wr.heap.size + 1, 0, none⟩) 0 0]) := Q4.out.set 3 _
      have HR5 : Hid (Box (((((wr.alloc (.cells #[] 47)).setCell ⟨w1.heap.size, 1, none⟩ (.slice (some ⟨wr.heap.size, 0, none⟩) 0 0)).setCell ⟨w1.heap.size, 2, none⟩ (.bool false)).alloc (.cells #[] 3)).setCell ⟨w1.heap.size, 3, none⟩ (.slice (some ⟨wr.heap.size + 1, 0, none⟩) 0 0)) (w.heap.size + 1) [.slice none 0 0, .slice none 0 0, .bool false, .slice none 0 0]) := ((((HR2.out.old _).other _ (by dsimp only; have := X1.out; omega) _).other _ (by dsimp only; have := X1.out; omega) _).old _).other _ (by dsimp only; have := X1.out; omega) _
      obtain ⟨f0, _⟩ := Q5.out 0 _ rfl
      obtain ⟨f1, _⟩ := Q5.out 1 _ rfl
      obtain ⟨f2, _⟩ := Q5.out 2 _ rfl
      obtain ⟨f3, _⟩ := Q5.out 3 _ rfl
      obtain ⟨⟨g0, h0⟩, ⟨g1, h1⟩, ⟨g2, h2⟩, ⟨g3, h3⟩, r0, r1, r2, r3⟩ := HR5.out.w4in (.slice b1 D.S.length d1) (.slice (some ⟨wr.heap.size, 0, none⟩) 0 0) (.bool false) (.slice (some ⟨wr.heap.size + 1, 0, none⟩) 0 0)
      have OS : Hid ((((((wr.alloc (.cells #[] 47)).setCell ⟨w1.heap.size, 1, none⟩ (.slice (some ⟨wr.heap.size, 0, none⟩) 0 0)).setCell ⟨w1.heap.size, 2, none⟩ (.bool false)).alloc (.cells #[] 3)).setCell ⟨w1.heap.size, 3, none⟩ (.slice (some ⟨wr.heap.size + 1, 0, none⟩) 0 0)).ownsRow (w.heap.size + 2) 9 1 (.slice b1 D.S.length d1) D.S.length (cellsS (applyW D.S (keptTo D.C K D.C.length)))) := own_setOther ((own_setOther (own_setOther (HWF.out.alloc _) (fun e => by have := (BD.out _ e).2; dsimp only at this; omega) _) (fun e => by have := (BD.out _ e).2; dsimp only at this; omega) _).alloc _) (fun e => by have := (BD.out _ e).2; dsimp only at this; omega) _
      have OC : Hid ((((((wr.alloc (.cells #[] 47)).setCell ⟨w1.heap.size, 1, none⟩ (.slice (some ⟨wr.heap.size, 0, none⟩) 0 0)).setCell ⟨w1.heap.size, 2, none⟩ (.bool false)).alloc (.cells #[] 3)).setCell ⟨w1.heap.size, 3, none⟩ (.slice (some ⟨wr.heap.size + 1, 0, none⟩) 0 0)).ownsRow (w.heap.size + 2) 47 2 (.slice (some ⟨wr.heap.size, 0, none⟩) 0 0) 0 []) := own_setOther ((own_setOther (own_setOther (own_empty rfl (by have := X1.out; have := XW.out; omega)) (fun e => by have h2 := Option.some.inj e; dsimp only at h2; have := XW.out; omega) _) (fun e => by have h2 := Option.some.inj e; dsimp only at h2; have := XW.out; omega) _).alloc _) (fun e => by have h2 := Option.some.inj e; dsimp only at h2; have := XW.out; omega) _
      have OI : Hid ((((((wr.alloc (.cells #[] 47)).setCell ⟨w1.heap.size, 1, none⟩ (.slice (some ⟨wr.heap.size, 0, none⟩) 0 0)).setCell ⟨w1.heap.size, 2, none⟩ (.bool false)).alloc (.cells #[] 3)).setCell ⟨w1.heap.size, 3, none⟩ (.slice (some ⟨wr.heap.size + 1, 0, none⟩) 0 0)).ownsRow (w.heap.size + 2) 3 1 (.slice (some ⟨wr.heap.size + 1, 0, none⟩) 0 0) 0 []) := own_setOther (own_empty (by simp) (by simp; have := X1.out; have := XW.out; omega)) (fun e => by have h2 := Option.some.inj e; dsimp only at h2; have := XW.out; omega) _
      have BE : Hid (Below w.heap.size w (((((wr.alloc (.cells #[] 47)).setCell ⟨w1.heap.size, 1, none⟩ (.slice (some ⟨wr.heap.size, 0, none⟩) 0 0)).setCell ⟨w1.heap.size, 2, none⟩ (.bool false)).alloc (.cells #[] 3)).setCell ⟨w1.heap.size, 3, none⟩ (.slice (some ⟨wr.heap.size + 1, 0, none⟩) 0 0))) := Below.setCell (p := ⟨w1.heap.size, 3, none⟩) ((Below.setCell (p := ⟨w1.heap.size, 2, none⟩) (Below.setCell (p := ⟨w1.heap.size, 1, none⟩) (hb.out.alloc hb.out.size _) (by have := X1.out; dsimp only; omega) _) (by have := X1.out; dsimp only; omega) _).alloc (by simp; have := hb.out.size; omega) _) (by have := X1.out; dsimp only; omega) _
      go_wp2_with fail
      refine bodyPost_ret (v := .agg #[.slice b1 D.S.length d1, .slice (some ⟨wr.heap.size, 0, none⟩) 0 0, .bool false, .slice (some ⟨wr.heap.size + 1, 0, none⟩) 0 0]) (by simp [results, Try.results28, go_sem, r0, r1, r2, r3]) rfl ⟨_, rfl, ?_, Below.w4 BE.out (by omega) _ _ _ _⟩
      refine OwnsD.mk rfl ?_ ?_ ?_ (Nat.le_refl _)
      · rw [show (crashD D K).S.length = D.S.length from applyW_length _ _]
        exact own_mono (own_w4 OS.out (by omega) _ _ _ _) (by omega)
      · exact own_mono (own_w4 OC.out (by omega) _ _ _ _) (by omega)
      · exact own_mono (own_w4 OI.out (by omega) _ _ _ _) (by omega)

end Go.Proofs.Ytpbodiaglgkkkaa
