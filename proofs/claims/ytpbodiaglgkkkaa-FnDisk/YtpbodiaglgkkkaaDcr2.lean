
/-
  Contracts of both DiskCrash. By an AI agent.
-/
import Derived.Test.YtpbodiaglgkkkaaDcr
namespace Go.Proofs.Ytpbodiaglgkkkaa
open Go.ChangeShapes Go.WideShapes Go.ChangeAt Go.RowKit Go.Deep
set_option linter.unusedVariables false

set_option maxHeartbeats 4000000 in
theorem crashed (v : Value) (D : DM) (ak : Option Addr) (mk ck : Nat) (K : List Int) (w : World) (hs : smallD D) (hok : okD D) (hmk : K.length = mk) (hmk1 : mk ≤ 1048576) (hk : Src w ak (cellsI K)) (h : ReadsD w v D) :
    Calls Try.prog 26 #[v, .slice ak mk ck] w fun e w' => ∃ v', e = .returned v' ∧ OwnsD w' w.heap.size w'.heap.size v' (crashD D K) ∧ Below w.heap.size w w' := by
  obtain ⟨a1, c1, a2, c2, a3, c3, rfl, s1, s2, s3⟩ := h
  have HS : Hid (smallD D) := hs
  have HRD : Hid (ReadsD w (.agg #[.slice a1 D.S.length c1, .slice a2 D.C.length c2, .bool D.A, .slice a3 D.K.length c3]) D) := ⟨a1, c1, a2, c2, a3, c3, rfl, s1, s2, s3⟩
  have S1 : Hid (Src w a1 (cellsS D.S)) := s1
  have S2 : Hid (Src w a2 (cellsQ D.C)) := s2
  have S3 : Hid (Src w a3 (cellsI D.K)) := s3
  clear s1 s2 s3 hs
  have HK : Hid (Src w ak (cellsI K)) := hk
  have NK : Hid (K.length = mk) := hmk
  have HOK : Hid (okD D) := hok
  have hm1 : D.C.length ≤ 500 := hok.2.1.1
  have hn1 : D.S.length ≤ 80 := hok.1.2.1
  clear hk hmk hok
  go_enter Try.func26, Try.ntmps26
  go_wp2_with fail
  go_loopw [5, 11] (fun kv i wr => ∃ (k : Nat) (u : Value), u = kv ∧ k ≤ D.C.length ∧ i = .int .i64 k ∧ Hid (Below w.heap.size w wr) ∧ Hid (Box wr w.heap.size [.slice a1 D.S.length c1, .slice a2 D.C.length c2, .bool D.A, .slice a3 D.K.length c3]) ∧ Hid (Box wr (w.heap.size + 1) [.slice none 0 0, .slice none 0 0, .bool false, .slice none 0 0]) ∧ Hid (wr.ownsRow (w.heap.size + 2) 47 2 u (keptTo D.C K k).length (cellsQ (keptTo D.C K k)))) (fun _ i _ => D.C.length - (intOf i).toNat)
  case atStart => exact ⟨0, _, rfl, by omega, rfl, ((Below.refl _ _).alloc (Nat.le_refl _) _).alloc (by simp) _, (Box.new rfl).old _, Box.new (by simp), World.ownsRow_nil _ _ _ _⟩
  case round =>
    obtain ⟨k, u, hu, hk, rfl, hb, HA2, HR2, HW⟩ := hrel
    subst hu
    by_cases hlt : k < D.C.length
    · have hk0 : (0 : Int) ≤ (k : Int) := by omega
      have hkm : (k : Int) < (D.C.length : Int) := by omega
      have XR : Hid (w.heap.size + 2 ≤ wr.heap.size) := World.block_lt_of_cell? _ _ (HR2.out 0 _ rfl).1
      obtain ⟨b, o, xj, y, rfl, hc1, hc2, hy⟩ := srcQ (S2.out.below hb.out) (i := k) hlt
      by_cases hin : k < mk
      case neg =>
        have E : Hid (keptTo D.C K (k + 1) = keptTo D.C K k) := keptTo_no _ _ _ (fun h => absurd h (by have := NK.out; omega))
        have hin2 : (mk : Int) ≤ (k : Int) := by omega
        go_wp2_with fail
        exact ⟨⟨k + 1, _, rfl, by omega, by go_num, hb.out.alloc hb.out.size _, HA2.out.old _, HR2.out.old _, by rw [E.out]; exact HW.out.alloc _⟩, by simp [intOf]; omega⟩
      have hin2 : (k : Int) < (mk : Int) := by omega
      obtain ⟨bk, ok, x, rfl, hcx, hx⟩ := srcI (HK.out.below hb.out) (i := k) (by rw [NK.out]; exact hin)
      have hcx2 : (wr.alloc (.cells #[.int .i64 xj, .string y] 47)).cell? ⟨bk, ok + k, none⟩ = some (.int .i64 x) := (((Below.refl _ wr).alloc (Nat.le_refl _) _).cell (p := ⟨bk, ok + k, none⟩) (World.block_lt_of_cell? _ _ hcx)).trans hcx
      by_cases hx0 : x = 0
      · subst hx0
        have E : Hid (keptTo D.C K (k + 1) = keptTo D.C K k) := keptTo_no _ _ _ (fun _ => hx.out)
        have hz : ((0 : Int) != 0) = false := by simp
        go_wp2_with fail
        exact ⟨⟨k + 1, _, rfl, by omega, by go_num, hb.out.alloc hb.out.size _, HA2.out.old _, HR2.out.old _, by rw [E.out]; exact HW.out.alloc _⟩, by simp [intOf]; omega⟩
      · have hz : (x != 0) = true := by simp; exact hx0
        have E : Hid (keptTo D.C K (k + 1) = keptTo D.C K k ++ [(xj, y)]) := by
          show _ = _
          rw [keptTo_yes _ _ _ (by rw [NK.out]; exact hin) (by rw [hx.out]; exact hx0), hy.out]
        have hkl : Hid ((keptTo D.C K k).length ≤ 500) := by have h1 := keptTo_length D.C K k; show (keptTo D.C K k).length ≤ 500; omega
        clear hx hy hx0
        go_wp2_with (at_builtin; refine wpList_append_src _ rfl _ _ 24 rfl (w.heap.size + 2) 47 (.agg #[.int .i64 0, .string ⟨#[]⟩]) 2 24 Try.underlying24 infoQ rfl (by decide) (by decide) _ (keptTo D.C K k).length (cellsQ (keptTo D.C K k)) rfl ((HW.out.alloc _).alloc _) (some ⟨wr.heap.size + 1, 0, none⟩) 1 1 (cellsQ [(xj, y)]) rfl rfl (src_one (by simp)) (cellsQ_one _) (by have := hkl.out; omega) (le_alloc (le_alloc XR.out _) _) ?_)
        intro v2 w2 hown2 hgrow2
        have hlt2 : ∀ g, Value.ownBlock u = some g → w.heap.size + 2 ≤ g ∧ g < wr.heap.size := fun g e => HW.out.lt g e
        have o2 : Hid (w2.ownsRow (w.heap.size + 2) 47 2 v2 (keptTo D.C K (k + 1)).length (cellsQ (keptTo D.C K (k + 1)))) := by
          show w2.ownsRow _ _ _ _ _ _
          rw [E.out, List.length_append, cellsQ_append]; exact hown2
        have B2 : Hid (Below w.heap.size w w2) := ((hb.out.alloc hb.out.size _).alloc (le_alloc hb.out.size _) _).grown hgrow2 (le_alloc (le_alloc hb.out.size _) _) (fun g e => by have := hlt2 g e; omega)
        have HA3 : Hid (Box w2 w.heap.size [.slice a1 D.S.length c1, .slice (some ⟨b, o, none⟩) D.C.length c2, .bool D.A, .slice a3 D.K.length c3]) := Box.grown ((HA2.out.old _).old _) hgrow2 (fun e => by have := hlt2 _ e; omega)
        have HR3 : Hid (Box w2 (w.heap.size + 1) [.slice none 0 0, .slice none 0 0, .bool false, .slice none 0 0]) := Box.grown ((HR2.out.old _).old _) hgrow2 (fun e => by have := hlt2 _ e; omega)
        clear hown2 hgrow2 hlt2
        go_wp2_with fail
        exact ⟨⟨k + 1, _, rfl, by omega, by go_num, B2.out, HA3.out, HR3.out, o2.out⟩, by simp [intOf]; omega⟩
    · have hkn : k = D.C.length := by omega
      have HWF : Hid (wr.ownsRow (w.heap.size + 2) 47 2 u (keptTo D.C K D.C.length).length (cellsQ (keptTo D.C K D.C.length))) := by rw [hkn] at HW; exact HW
      clear hkn HW
      obtain ⟨av, cv, rfl, sv, _⟩ := own_src HWF.out
      obtain ⟨mm, hmm⟩ : ∃ m, (keptTo D.C K D.C.length).length = m := ⟨_, rfl⟩
      have HMM : Hid ((keptTo D.C K D.C.length).length = mm) := hmm
      have hmm5 : mm ≤ 500 := by have := keptTo_length D.C K D.C.length; omega
      have SV : Hid (Src wr av (cellsQ (keptTo D.C K D.C.length))) := sv
      have XR : Hid (w.heap.size + 2 ≤ wr.heap.size) := World.block_lt_of_cell? _ _ (HR2.out 0 _ rfl).1
      rw [hmm]
      clear sv hmm HWF
      obtain ⟨p0, _⟩ := HA2.out 0 _ rfl
      obtain ⟨p1, _⟩ := HA2.out 1 _ rfl
      obtain ⟨p2, _⟩ := HA2.out 2 _ rfl
      obtain ⟨p3, _⟩ := HA2.out 3 _ rfl
      go_wp2_with fail
      refine (written _ D av mm cv (keptTo D.C K D.C.length) _ HS.out HMM.out hmm5 (keptTo_ok _ _ _ (Nat.le_refl _) _ HOK.out.2.1.2) SV.out (HRD.out.below hb.out)).mono ?_
      rintro e w2 ⟨u, rfl, o2, hb2⟩
      obtain ⟨au, cu, rfl, _, _⟩ := own_src o2
      have B2 : Hid (Below w.heap.size w w2) := hb.out.trans (hb2.mono hb.out.size)
      have HR3 : Hid (Box w2 (w.heap.size + 1) [.slice none 0 0, .slice none 0 0, .bool false, .slice none 0 0]) := HR2.out.below hb2
      have O2 : Hid (w2.ownsRow (w.heap.size + 2) 9 1 (.slice au D.S.length cu) D.S.length (cellsS (applyW D.S (keptTo D.C K D.C.length)))) := own_mono o2 XR.out
      clear o2 hb2 p0 p1 p2 p3
      obtain ⟨⟨g0, h0⟩, ⟨g1, h1⟩, ⟨g2, h2⟩, ⟨g3, h3⟩, r0, r1, r2, r3⟩ := HR3.out.w4in (.slice au D.S.length cu) (.slice none 0 0) (.bool false) (.slice none 0 0)
      go_wp2_with fail
      refine bodyPost_ret (v := .agg #[.slice au D.S.length cu, .slice none 0 0, .bool false, .slice none 0 0]) (by simp [results, Try.results26, go_sem, r0, r1, r2, r3]) rfl ⟨_, rfl, ?_, Below.w4 B2.out (by omega) _ _ _ _⟩
      refine OwnsD.mk rfl ?_ (World.ownsRow_nil _ _ _ _) (World.ownsRow_nil _ _ _ _) (Nat.le_refl _)
      rw [show (crashD D K).S.length = D.S.length from applyW_length _ _]
      exact own_mono (own_w4 O2.out (by omega) _ _ _ _) (by omega)

set_option maxHeartbeats 2000000 in
theorem specDiskCrash (v : Value) (D : DM) (ak : Option Addr) (m ck : Nat) (K : List Int) (w : World) (hs : smallD D) (hm : K.length = m) (hm1 : m ≤ 1048576) (hk : Src w ak (cellsI K)) (h : ReadsD w v D) :
    Calls Try.prog 12 #[v, .slice ak m ck] w fun e w' => ∃ v' R c, e = .returned (.tuple #[v', .int .i64 c]) ∧ dcrash D K = (R, c) ∧ OwnsD w' w.heap.size w'.heap.size v' R ∧ Below w.heap.size w w' := by
  obtain ⟨a1, c1, a2, c2, a3, c3, rfl, s1, s2, s3⟩ := h
  have HS : Hid (smallD D) := hs
  have HRD : Hid (ReadsD w (.agg #[.slice a1 D.S.length c1, .slice a2 D.C.length c2, .bool D.A, .slice a3 D.K.length c3]) D) := ⟨a1, c1, a2, c2, a3, c3, rfl, s1, s2, s3⟩
  have S1 : Hid (Src w a1 (cellsS D.S)) := s1
  have S2 : Hid (Src w a2 (cellsQ D.C)) := s2
  have S3 : Hid (Src w a3 (cellsI D.K)) := s3
  clear s1 s2 s3 hs
  have HK : Hid (Src w ak (cellsI K)) := hk
  have NM : Hid (K.length = m) := hm
  clear hk hm
  by_cases t0 : (4096 : Int) < (m : Int)
  · have F : Hid (dcrash D K = (DM.none, 2)) := dc_long (by have := NM.out; omega)
    go_enter Try.func12, Try.ntmps12
    go_wp2_with fail
    exact bodyPost_ret (v := .tuple #[.agg #[.slice none 0 0, .slice none 0 0, .bool false, .slice none 0 0], .int .i64 2]) (by simp [results, Try.results12, go_sem]) rfl ⟨_, _, _, rfl, F.out, OwnsD.nil _ _ _, ((Below.refl _ _).alloc (Nat.le_refl _) _).alloc (by simp) _⟩
  have T0 : Hid (¬ 4096 < K.length) := fun h => t0 (by have := NM.out; omega)
  go_enter Try.func12, Try.ntmps12
  go_wp2_with fail
  refine (specDiskOK _ D _ HS.out (HRD.out.below (((Below.refl _ _).alloc (Nat.le_refl _) _).alloc (by simp) _))).mono ?_
  rintro e w0 ⟨rfl, hb1⟩
  have B0 : Hid (Below w.heap.size w w0) := (((Below.refl _ _).alloc (Nat.le_refl _) _).alloc (by simp) _).trans (hb1.mono (by simp; omega))
  have HA : Hid (Box w0 w.heap.size [.slice a1 D.S.length c1, .slice a2 D.C.length c2, .bool D.A, .slice a3 D.K.length c3]) := Box.below ((Box.new rfl).old _) hb1
  have HR0 : Hid (Box w0 (w.heap.size + 1) [.slice none 0 0, .slice none 0 0, .bool false, .slice none 0 0]) := Box.below (Box.new (by simp)) hb1
  have X0 : Hid (w.heap.size + 2 ≤ w0.heap.size) := World.block_lt_of_cell? _ _ (HR0.out 0 _ rfl).1
  clear hb1
  by_cases hok : okD D
  case neg =>
    have F : Hid (dcrash D K = (DM.none, 1)) := dc_bad T0.out hok
    rw [decide_eq_false hok]
    clear hok
    obtain ⟨⟨g0, h0⟩, ⟨g1, h1⟩, ⟨g2, h2⟩, ⟨g3, h3⟩, r0, r1, r2, r3⟩ := HR0.out.w4in (.slice none 0 0) (.slice none 0 0) (.bool false) (.slice none 0 0)
    go_wp2_with fail
    exact bodyPost_ret (v := .tuple #[.agg #[.slice none 0 0, .slice none 0 0, .bool false, .slice none 0 0], .int .i64 1]) (by simp [results, Try.results12, go_sem, r0, r1, r2, r3]) rfl ⟨_, _, _, rfl, F.out, OwnsD.nil _ _ _, Below.w4 B0.out (by omega) _ _ _ _⟩
  rw [decide_eq_true hok]
  have HOK : Hid (okD D) := hok
  clear hok
  have F : Hid (dcrash D K = (crashD D K, 0)) := dc_ok T0.out HOK.out
  obtain ⟨p0, _⟩ := HA.out 0 _ rfl
  obtain ⟨p1, _⟩ := HA.out 1 _ rfl
  obtain ⟨p2, _⟩ := HA.out 2 _ rfl
  obtain ⟨p3, _⟩ := HA.out 3 _ rfl
  go_wp2_with fail
  obtain ⟨R, hR⟩ : ∃ R, crashD D K = R := ⟨_, rfl⟩
  rw [hR] at F
  refine (l02Crash _ D ak m ck K _ HS.out HOK.out NM.out hm1 (HK.out.below B0.out) (HRD.out.below B0.out)).mono ?_
  rintro e w2 ⟨v2, rfl, own2, hb2⟩
  rw [hR] at own2
  obtain ⟨b1, d1, b2, d2, b3, d3, rfl⟩ := own2.lit
  have B2 : Hid (Below w.heap.size w w2) := B0.out.trans (hb2.mono B0.out.size)
  have HR2 : Hid (Box w2 (w.heap.size + 1) [.slice none 0 0, .slice none 0 0, .bool false, .slice none 0 0]) := HR0.out.below hb2
  have O2 : Hid (OwnsD w2 (w.heap.size + 2) w2.heap.size (.agg #[.slice b1 R.S.length d1, .slice b2 R.C.length d2, .bool R.A, .slice b3 R.K.length d3]) R) := own2.mono X0.out (Nat.le_refl _)
  clear own2 hb2 hR p0 p1 p2 p3
  obtain ⟨⟨g0, h0⟩, ⟨g1, h1⟩, ⟨g2, h2⟩, ⟨g3, h3⟩, r0, r1, r2, r3⟩ := HR2.out.w4in (.slice b1 R.S.length d1) (.slice b2 R.C.length d2) (.bool R.A) (.slice b3 R.K.length d3)
  go_wp2_with fail
  exact bodyPost_ret (v := .tuple #[.agg #[.slice b1 R.S.length d1, .slice b2 R.C.length d2, .bool R.A, .slice b3 R.K.length d3], .int .i64 0]) (by simp [results, Try.results12, go_sem, r0, r1, r2, r3]) rfl ⟨_, _, _, rfl, F.out, (O2.out.w4 (by omega) _ _ _ _).mono (by omega) (by rw [size_w4]; exact Nat.le_refl _), Below.w4 B2.out (by omega) _ _ _ _⟩

set_option maxHeartbeats 2000000 in
theorem implDiskCrash (v : Value) (D : DM) (ak : Option Addr) (m ck : Nat) (K : List Int) (w : World) (hs : smallD D) (hm : K.length = m) (hm1 : m ≤ 1048576) (hk : Src w ak (cellsI K)) (h : ReadsD w v D) :
    Calls Try.prog 10 #[v, .slice ak m ck] w fun e w' => ∃ v' R c, e = .returned (.tuple #[v', .int .i64 c]) ∧ dcrash D K = (R, c) ∧ OwnsD w' w.heap.size w'.heap.size v' R ∧ Below w.heap.size w w' := by
  obtain ⟨a1, c1, a2, c2, a3, c3, rfl, s1, s2, s3⟩ := h
  have HS : Hid (smallD D) := hs
  have HRD : Hid (ReadsD w (.agg #[.slice a1 D.S.length c1, .slice a2 D.C.length c2, .bool D.A, .slice a3 D.K.length c3]) D) := ⟨a1, c1, a2, c2, a3, c3, rfl, s1, s2, s3⟩
  have S1 : Hid (Src w a1 (cellsS D.S)) := s1
  have S2 : Hid (Src w a2 (cellsQ D.C)) := s2
  have S3 : Hid (Src w a3 (cellsI D.K)) := s3
  clear s1 s2 s3 hs
  have HK : Hid (Src w ak (cellsI K)) := hk
  have NM : Hid (K.length = m) := hm
  clear hk hm
  by_cases t0 : (4096 : Int) < (m : Int)
  · have F : Hid (dcrash D K = (DM.none, 2)) := dc_long (by have := NM.out; omega)
    go_enter Try.func10, Try.ntmps10
    go_wp2_with fail
    exact bodyPost_ret (v := .tuple #[.agg #[.slice none 0 0, .slice none 0 0, .bool false, .slice none 0 0], .int .i64 2]) (by simp [results, Try.results10, go_sem]) rfl ⟨_, _, _, rfl, F.out, OwnsD.nil _ _ _, ((Below.refl _ _).alloc (Nat.le_refl _) _).alloc (by simp) _⟩
  have T0 : Hid (¬ 4096 < K.length) := fun h => t0 (by have := NM.out; omega)
  go_enter Try.func10, Try.ntmps10
  go_wp2_with fail
  refine (implDiskOK _ D _ HS.out (HRD.out.below (((Below.refl _ _).alloc (Nat.le_refl _) _).alloc (by simp) _))).mono ?_
  rintro e w0 ⟨rfl, hb1⟩
  have B0 : Hid (Below w.heap.size w w0) := (((Below.refl _ _).alloc (Nat.le_refl _) _).alloc (by simp) _).trans (hb1.mono (by simp; omega))
  have HA : Hid (Box w0 w.heap.size [.slice a1 D.S.length c1, .slice a2 D.C.length c2, .bool D.A, .slice a3 D.K.length c3]) := Box.below ((Box.new rfl).old _) hb1
  have HR0 : Hid (Box w0 (w.heap.size + 1) [.slice none 0 0, .slice none 0 0, .bool false, .slice none 0 0]) := Box.below (Box.new (by simp)) hb1
  have X0 : Hid (w.heap.size + 2 ≤ w0.heap.size) := World.block_lt_of_cell? _ _ (HR0.out 0 _ rfl).1
  clear hb1
  by_cases hok : okD D
  case neg =>
    have F : Hid (dcrash D K = (DM.none, 1)) := dc_bad T0.out hok
    rw [decide_eq_false hok]
    clear hok
    obtain ⟨⟨g0, h0⟩, ⟨g1, h1⟩, ⟨g2, h2⟩, ⟨g3, h3⟩, r0, r1, r2, r3⟩ := HR0.out.w4in (.slice none 0 0) (.slice none 0 0) (.bool false) (.slice none 0 0)
    go_wp2_with fail
    exact bodyPost_ret (v := .tuple #[.agg #[.slice none 0 0, .slice none 0 0, .bool false, .slice none 0 0], .int .i64 1]) (by simp [results, Try.results10, go_sem, r0, r1, r2, r3]) rfl ⟨_, _, _, rfl, F.out, OwnsD.nil _ _ _, Below.w4 B0.out (by omega) _ _ _ _⟩
  rw [decide_eq_true hok]
  have HOK : Hid (okD D) := hok
  clear hok
  have F : Hid (dcrash D K = (crashD D K, 0)) := dc_ok T0.out HOK.out
  obtain ⟨p0, _⟩ := HA.out 0 _ rfl
  obtain ⟨p1, _⟩ := HA.out 1 _ rfl
  obtain ⟨p2, _⟩ := HA.out 2 _ rfl
  obtain ⟨p3, _⟩ := HA.out 3 _ rfl
  go_wp2_with fail
  obtain ⟨R, hR⟩ : ∃ R, crashD D K = R := ⟨_, rfl⟩
  rw [hR] at F
  refine (crashed _ D ak m ck K _ HS.out HOK.out NM.out hm1 (HK.out.below B0.out) (HRD.out.below B0.out)).mono ?_
  rintro e w2 ⟨v2, rfl, own2, hb2⟩
  rw [hR] at own2
  obtain ⟨b1, d1, b2, d2, b3, d3, rfl⟩ := own2.lit
  have B2 : Hid (Below w.heap.size w w2) := B0.out.trans (hb2.mono B0.out.size)
  have HR2 : Hid (Box w2 (w.heap.size + 1) [.slice none 0 0, .slice none 0 0, .bool false, .slice none 0 0]) := HR0.out.below hb2
  have O2 : Hid (OwnsD w2 (w.heap.size + 2) w2.heap.size (.agg #[.slice b1 R.S.length d1, .slice b2 R.C.length d2, .bool R.A, .slice b3 R.K.length d3]) R) := own2.mono X0.out (Nat.le_refl _)
  clear own2 hb2 hR p0 p1 p2 p3
  obtain ⟨⟨g0, h0⟩, ⟨g1, h1⟩, ⟨g2, h2⟩, ⟨g3, h3⟩, r0, r1, r2, r3⟩ := HR2.out.w4in (.slice b1 R.S.length d1) (.slice b2 R.C.length d2) (.bool R.A) (.slice b3 R.K.length d3)
  go_wp2_with fail
  exact bodyPost_ret (v := .tuple #[.agg #[.slice b1 R.S.length d1, .slice b2 R.C.length d2, .bool R.A, .slice b3 R.K.length d3], .int .i64 0]) (by simp [results, Try.results10, go_sem, r0, r1, r2, r3]) rfl ⟨_, _, _, rfl, F.out, (O2.out.w4 (by omega) _ _ _ _).mono (by omega) (by rw [size_w4]; exact Nat.le_refl _), Below.w4 B2.out (by omega) _ _ _ _⟩

end Go.Proofs.Ytpbodiaglgkkkaa
