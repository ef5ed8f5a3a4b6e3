
/-
  Contracts of both DiskArm. By an AI agent.
-/
import Derived.Test.YtpbodiaglgkkkaaDwr
namespace Go.Proofs.Ytpbodiaglgkkkaa
open Go.ChangeShapes Go.WideShapes Go.ChangeAt Go.RowKit Go.Deep
set_option linter.unusedVariables false

def armD (D : DM) (K : List Int) : DM := ⟨D.S, D.C, true, K⟩
/-- What DiskArm answers. -/
def darm (D : DM) (K : List Int) : DM × Int :=
  if 4096 < K.length then (DM.none, 2) else if okD D then (if 500 < K.length then (DM.none, 6) else (armD D K, 0)) else (DM.none, 1)
theorem da_long {D : DM} {K : List Int} (h : 4096 < K.length) : darm D K = (DM.none, 2) := by unfold darm; rw [if_pos h]
theorem da_bad {D : DM} {K : List Int} (h : ¬ 4096 < K.length) (h1 : ¬ okD D) : darm D K = (DM.none, 1) := by unfold darm; rw [if_neg h, if_neg h1]
theorem da_many {D : DM} {K : List Int} (h : ¬ 4096 < K.length) (h1 : okD D) (h2 : 500 < K.length) : darm D K = (DM.none, 6) := by unfold darm; rw [if_neg h, if_pos h1, if_pos h2]
theorem da_ok {D : DM} {K : List Int} (h : ¬ 4096 < K.length) (h1 : okD D) (h2 : ¬ 500 < K.length) : darm D K = (armD D K, 0) := by unfold darm; rw [if_neg h, if_pos h1, if_neg h2]
theorem da_small {D R : DM} {K : List Int} {c : Int} (hs : smallD D) (h : darm D K = (R, c)) : smallD R := by
  unfold darm at h
  split at h
  · cases h; exact small_none
  · split at h
    · split at h
      · cases h; exact small_none
      · cases h; exact ⟨hs.1, hs.2.1, by show K.length ≤ 1048576; omega⟩
    · cases h; exact small_none

set_option maxHeartbeats 1000000 in
theorem l02Arm (v : Value) (D : DM) (ak : Option Addr) (m ck : Nat) (K : List Int) (w : World) (hs : smallD D) (hm : K.length = m) (hm1 : m ≤ 1048576) (hk : Src w ak (cellsI K)) (h : ReadsD w v D) :
    Calls Try.prog 40 #[v, .slice ak m ck] w fun e w' => ∃ v', e = .returned v' ∧ OwnsD w' w.heap.size w'.heap.size v' (armD D K) ∧ Below w.heap.size w w' := by
  obtain ⟨a1, c1, a2, c2, a3, c3, rfl, s1, s2, s3⟩ := h
  have HS : Hid (smallD D) := hs
  have HRD : Hid (ReadsD w (.agg #[.slice a1 D.S.length c1, .slice a2 D.C.length c2, .bool D.A, .slice a3 D.K.length c3]) D) := ⟨a1, c1, a2, c2, a3, c3, rfl, s1, s2, s3⟩
  have S1 : Hid (Src w a1 (cellsS D.S)) := s1
  have S2 : Hid (Src w a2 (cellsQ D.C)) := s2
  have S3 : Hid (Src w a3 (cellsI D.K)) := s3
  clear s1 s2 s3 hs
  have HK : Hid (Src w ak (cellsI K)) := hk
  have NM : Hid (K.length = m) := hm
  have LL : Hid ((cellsI K).length = m * 1) := by show _ = _; rw [cellsI_length]; omega
  clear hk hm
  go_enter Try.func40, Try.ntmps40
  go_wp2_with fail
  refine (l02Own _ D _ HS.out (HRD.out.below (((Below.refl _ _).alloc (Nat.le_refl _) _).alloc (by simp) _))).mono ?_
  rintro e w1 ⟨v1, rfl, own1, hb1⟩
  obtain ⟨b1, d1, b2, d2, b3, d3, rfl⟩ := own1.lit
  have B1 : Hid (Below w.heap.size w w1) := (((Below.refl _ _).alloc (Nat.le_refl _) _).alloc (by simp) _).trans (hb1.mono (by simp; omega))
  have HR : Hid (Box w1 (w.heap.size + 1) [.slice none 0 0, .slice none 0 0, .bool false, .slice none 0 0]) := Box.below (Box.new (by simp)) hb1
  have O1 : Hid (OwnsD w1 (w.heap.size + 2) w1.heap.size (.agg #[.slice b1 D.S.length d1, .slice b2 D.C.length d2, .bool D.A, .slice b3 D.K.length d3]) D) := own1.mono (by simp) (Nat.le_refl _)
  have X1 : Hid (w.heap.size + 2 ≤ w1.heap.size) := World.block_lt_of_cell? _ _ (HR.out 0 _ rfl).1
  clear own1 hb1
  go_wp2_with (at_builtin; refine wpList_append_src _ rfl _ _ 25 rfl (w.heap.size + 2) 3 (.int .i64 0) 1 8 Try.underlying25 infoI rfl (by decide) (by decide) _ 0 [] rfl (own_empty (by simp) (by simp; have := X1.out; omega)) ak m ck (cellsI K) rfl LL.out (HK.out.below ((B1.out.alloc B1.out.size _).alloc (le_alloc B1.out.size _) _)) (cellsI_one _) (by omega) (le_alloc (le_alloc X1.out _) _) ?_)
  intro v2 w2 hown2 hgrow2
  have o2 : w2.ownsRow (w.heap.size + 2) 3 1 v2 m (cellsI K) := by simpa using hown2
  have hb2 := below_append hgrow2 (fun g e => by cases e; simp)
  clear hown2 hgrow2
  obtain ⟨b4, d4, rfl, _, _⟩ := own_src o2
  have B2 : Hid (Below w.heap.size w w2) := B1.out.trans ((Below.new hb2).mono B1.out.size)
  have HR2 : Hid (Box w2 (w.heap.size + 1) [.slice none 0 0, .slice none 0 0, .bool false, .slice none 0 0]) := HR.out.below (Below.new hb2)
  have HO2 : Hid (Box w2 w1.heap.size [.slice b1 D.S.length d1, .slice b2 D.C.length d2, .bool true, .slice b3 D.K.length d3]) := Box.below (Box.new rfl) hb2
  have P1 : Hid (w2.ownsRow (w.heap.size + 2) 9 1 (.slice b1 D.S.length d1) D.S.length (cellsS D.S)) := own_below O1.out.rows.2.1 (Below.new hb2)
  have P2 : Hid (w2.ownsRow (w.heap.size + 2) 47 2 (.slice b2 D.C.length d2) D.C.length (cellsQ D.C)) := own_below O1.out.rows.2.2.1 (Below.new hb2)
  have P3 : Hid (w2.ownsRow (w.heap.size + 2) 3 1 (.slice b4 m d4) m (cellsI K)) := o2
  have KB : Hid (∃ c f, w2.heap[w1.heap.size]? = some (.cells c 27 f)) := ⟨_, _, (hb2.block w1.heap.size (by simp)).trans (heap_alloc_new _ _)⟩
  clear o2 hb2 HR B1 O1
  obtain ⟨q3', q3f⟩ := HO2.out 3 _ rfl
  have HO5 : Hid (Box (w2.setCell ⟨w1.heap.size, 3, none⟩ (.slice b4 m d4)) w1.heap.size [.slice b1 D.S.length d1, .slice b2 D.C.length d2, .bool true, .slice b4 m d4]) := HO2.out.set 3 _
  have HR5 : Hid (Box (w2.setCell ⟨w1.heap.size, 3, none⟩ (.slice b4 m d4)) (w.heap.size + 1) [.slice none 0 0, .slice none 0 0, .bool false, .slice none 0 0]) := HR2.out.other _ (by dsimp only; have := X1.out; omega) _
  obtain ⟨f0, _⟩ := HO5.out 0 _ rfl
  obtain ⟨f1, _⟩ := HO5.out 1 _ rfl
  obtain ⟨f2, _⟩ := HO5.out 2 _ rfl
  obtain ⟨f3, _⟩ := HO5.out 3 _ rfl
  obtain ⟨⟨g0, h0⟩, ⟨g1, h1⟩, ⟨g2, h2⟩, ⟨g3, h3⟩, r0, r1, r2, r3⟩ := HR5.out.w4in (.slice b1 D.S.length d1) (.slice b2 D.C.length d2) (.bool true) (.slice b4 m d4)
  go_wp2_with fail
  refine bodyPost_ret (v := .agg #[.slice b1 D.S.length d1, .slice b2 D.C.length d2, .bool true, .slice b4 m d4]) (by simp [results, Try.results40, go_sem, r0, r1, r2, r3]) rfl ⟨_, rfl, ?_, Below.w4 (Below.setCell (p := ⟨w1.heap.size, 3, none⟩) B2.out (by have := X1.out; dsimp only; omega) _) (by omega) _ _ _ _⟩
  refine OwnsD.mk rfl ?_ ?_ ?_ (Nat.le_refl _)
  · exact own_mono (own_w4 (own_setOther P1.out (own_notkind P1.out KB.out (by decide)) _) (by omega) _ _ _ _) (by omega)
  · exact own_mono (own_w4 (own_setOther P2.out (own_notkind P2.out KB.out (by decide)) _) (by omega) _ _ _ _) (by omega)
  · rw [show (armD D K).K.length = m from NM.out]
    exact own_mono (own_w4 (own_setOther P3.out (own_notkind P3.out KB.out (by decide)) _) (by omega) _ _ _ _) (by omega)

set_option maxHeartbeats 2000000 in
theorem implDiskArm (v : Value) (D : DM) (ak : Option Addr) (m ck : Nat) (K : List Int) (w : World) (hs : smallD D) (hm : K.length = m) (hm1 : m ≤ 1048576) (hk : Src w ak (cellsI K)) (h : ReadsD w v D) :
    Calls Try.prog 13 #[v, .slice ak m ck] w fun e w' => ∃ v' R c, e = .returned (.tuple #[v', .int .i64 c]) ∧ darm D K = (R, c) ∧ OwnsD w' w.heap.size w'.heap.size v' R ∧ Below w.heap.size w w' := by
  obtain ⟨a1, c1, a2, c2, a3, c3, rfl, s1, s2, s3⟩ := h
  have HS : Hid (smallD D) := hs
  have HRD : Hid (ReadsD w (.agg #[.slice a1 D.S.length c1, .slice a2 D.C.length c2, .bool D.A, .slice a3 D.K.length c3]) D) := ⟨a1, c1, a2, c2, a3, c3, rfl, s1, s2, s3⟩
  have S1 : Hid (Src w a1 (cellsS D.S)) := s1
  have S2 : Hid (Src w a2 (cellsQ D.C)) := s2
  have S3 : Hid (Src w a3 (cellsI D.K)) := s3
  clear s1 s2 s3 hs
  have HK : Hid (Src w ak (cellsI K)) := hk
  have NM : Hid (K.length = m) := hm
  clear hk hm
  by_cases t0 : (4096 : Int) < (m : Int)
  · have F : Hid (darm D K = (DM.none, 2)) := da_long (by have := NM.out; omega)
    go_enter Try.func13, Try.ntmps13
    go_wp2_with fail
    exact bodyPost_ret (v := .tuple #[.agg #[.slice none 0 0, .slice none 0 0, .bool false, .slice none 0 0], .int .i64 2]) (by simp [results, Try.results13, go_sem]) rfl ⟨_, _, _, rfl, F.out, OwnsD.nil _ _ _, ((Below.refl _ _).alloc (Nat.le_refl _) _).alloc (by simp) _⟩
  have T0 : Hid (¬ 4096 < K.length) := fun h => t0 (by have := NM.out; omega)
  go_enter Try.func13, Try.ntmps13
  go_wp2_with fail
  refine (implDiskOK _ D _ HS.out (HRD.out.below (((Below.refl _ _).alloc (Nat.le_refl _) _).alloc (by simp) _))).mono ?_
  rintro e w0 ⟨rfl, hb1⟩
  have B0 : Hid (Below w.heap.size w w0) := (((Below.refl _ _).alloc (Nat.le_refl _) _).alloc (by simp) _).trans (hb1.mono (by simp; omega))
  have HA : Hid (Box w0 w.heap.size [.slice a1 D.S.length c1, .slice a2 D.C.length c2, .bool D.A, .slice a3 D.K.length c3]) := Box.below ((Box.new rfl).old _) hb1
  have HR0 : Hid (Box w0 (w.heap.size + 1) [.slice none 0 0, .slice none 0 0, .bool false, .slice none 0 0]) := Box.below (Box.new (by simp)) hb1
  have X0 : Hid (w.heap.size + 2 ≤ w0.heap.size) := World.block_lt_of_cell? _ _ (HR0.out 0 _ rfl).1
  clear hb1
  by_cases hok : okD D
  case neg =>
    have F : Hid (darm D K = (DM.none, 1)) := da_bad T0.out hok
    rw [decide_eq_false hok]
    clear hok
    obtain ⟨⟨g0, h0⟩, ⟨g1, h1⟩, ⟨g2, h2⟩, ⟨g3, h3⟩, r0, r1, r2, r3⟩ := HR0.out.w4in (.slice none 0 0) (.slice none 0 0) (.bool false) (.slice none 0 0)
    go_wp2_with fail
    exact bodyPost_ret (v := .tuple #[.agg #[.slice none 0 0, .slice none 0 0, .bool false, .slice none 0 0], .int .i64 1]) (by simp [results, Try.results13, go_sem, r0, r1, r2, r3]) rfl ⟨_, _, _, rfl, F.out, OwnsD.nil _ _ _, Below.w4 B0.out (by omega) _ _ _ _⟩
  rw [decide_eq_true hok]
  have HOK : Hid (okD D) := hok
  clear hok
  by_cases t5 : (500 : Int) < (m : Int)
  · have F : Hid (darm D K = (DM.none, 6)) := da_many T0.out HOK.out (by have := NM.out; omega)
    obtain ⟨⟨g0, h0⟩, ⟨g1, h1⟩, ⟨g2, h2⟩, ⟨g3, h3⟩, r0, r1, r2, r3⟩ := HR0.out.w4in (.slice none 0 0) (.slice none 0 0) (.bool false) (.slice none 0 0)
    go_wp2_with fail
    exact bodyPost_ret (v := .tuple #[.agg #[.slice none 0 0, .slice none 0 0, .bool false, .slice none 0 0], .int .i64 6]) (by simp [results, Try.results13, go_sem, r0, r1, r2, r3]) rfl ⟨_, _, _, rfl, F.out, OwnsD.nil _ _ _, Below.w4 B0.out (by omega) _ _ _ _⟩
  have F : Hid (darm D K = (armD D K, 0)) := da_ok T0.out HOK.out (fun h => t5 (by have := NM.out; omega))
  obtain ⟨p0, _⟩ := HA.out 0 _ rfl
  obtain ⟨p1, _⟩ := HA.out 1 _ rfl
  obtain ⟨p2, _⟩ := HA.out 2 _ rfl
  obtain ⟨p3, _⟩ := HA.out 3 _ rfl
  go_wp2_with fail
  refine (copyDisk _ D _ HS.out (HRD.out.below B0.out)).mono ?_
  rintro e w1 ⟨v1, rfl, own1, hb1⟩
  obtain ⟨b1, d1, b2, d2, b3, d3, rfl⟩ := own1.lit
  have B1 : Hid (Below w.heap.size w w1) := B0.out.trans (hb1.mono B0.out.size)
  have HR : Hid (Box w1 (w.heap.size + 1) [.slice none 0 0, .slice none 0 0, .bool false, .slice none 0 0]) := HR0.out.below hb1
  have O1 : Hid (OwnsD w1 (w.heap.size + 2) w1.heap.size (.agg #[.slice b1 D.S.length d1, .slice b2 D.C.length d2, .bool D.A, .slice b3 D.K.length d3]) D) := own1.mono X0.out (Nat.le_refl _)
  have X1 : Hid (w.heap.size + 2 ≤ w1.heap.size) := World.block_lt_of_cell? _ _ (HR.out 0 _ rfl).1
  clear own1 hb1 p0 p1 p2 p3 HA HR0 B0 X0
  go_wp2_with fail
  refine (copyI ak m ck K _ NM.out hm1 (HK.out.below (B1.out.alloc B1.out.size _))).mono ?_
  rintro e w2 ⟨v2, rfl, o2, hb2⟩
  obtain ⟨b4, d4, rfl, _, _⟩ := own_src o2
  replace o2 := own_mono o2 (base' := w.heap.size + 2) (by simp; have := X1.out; omega)
  have B2 : Hid (Below w.heap.size w w2) := B1.out.trans ((Below.new hb2).mono B1.out.size)
  have HR2 : Hid (Box w2 (w.heap.size + 1) [.slice none 0 0, .slice none 0 0, .bool false, .slice none 0 0]) := HR.out.below (Below.new hb2)
  have HO2 : Hid (Box w2 w1.heap.size [.slice b1 D.S.length d1, .slice b2 D.C.length d2, .bool D.A, .slice b3 D.K.length d3]) := Box.below (Box.new rfl) hb2
  have P1 : Hid (w2.ownsRow (w.heap.size + 2) 9 1 (.slice b1 D.S.length d1) D.S.length (cellsS D.S)) := own_below O1.out.rows.2.1 (Below.new hb2)
  have P2 : Hid (w2.ownsRow (w.heap.size + 2) 47 2 (.slice b2 D.C.length d2) D.C.length (cellsQ D.C)) := own_below O1.out.rows.2.2.1 (Below.new hb2)
  have P3 : Hid (w2.ownsRow (w.heap.size + 2) 3 1 (.slice b4 m d4) m (cellsI K)) := o2
  have KB : Hid (∃ c f, w2.heap[w1.heap.size]? = some (.cells c 27 f)) := ⟨_, _, (hb2.block w1.heap.size (by simp)).trans (heap_alloc_new _ _)⟩
  clear o2 hb2 HR B1 O1
  obtain ⟨q2', q2f⟩ := HO2.out 2 _ rfl
  obtain ⟨q3', q3f⟩ := (HO2.out.set 2 (.bool true)) 3 _ rfl
  have HO5 : Hid (Box ((w2.setCell ⟨w1.heap.size, 2, none⟩ (.bool true)).setCell ⟨w1.heap.size, 3, none⟩ (.slice b4 m d4)) w1.heap.size [.slice b1 D.S.length d1, .slice b2 D.C.length d2, .bool true, .slice b4 m d4]) := (HO2.out.set 2 _).set 3 _
  have HR5 : Hid (Box ((w2.setCell ⟨w1.heap.size, 2, none⟩ (.bool true)).setCell ⟨w1.heap.size, 3, none⟩ (.slice b4 m d4)) (w.heap.size + 1) [.slice none 0 0, .slice none 0 0, .bool false, .slice none 0 0]) := (HR2.out.other _ (by dsimp only; have := X1.out; omega) _).other _ (by dsimp only; have := X1.out; omega) _
  obtain ⟨f0, _⟩ := HO5.out 0 _ rfl
  obtain ⟨f1, _⟩ := HO5.out 1 _ rfl
  obtain ⟨f2, _⟩ := HO5.out 2 _ rfl
  obtain ⟨f3, _⟩ := HO5.out 3 _ rfl
  obtain ⟨⟨g0, h0⟩, ⟨g1, h1⟩, ⟨g2, h2⟩, ⟨g3, h3⟩, r0, r1, r2, r3⟩ := HR5.out.w4in (.slice b1 D.S.length d1) (.slice b2 D.C.length d2) (.bool true) (.slice b4 m d4)
  go_wp2_with fail
  refine bodyPost_ret (v := .tuple #[.agg #[.slice b1 D.S.length d1, .slice b2 D.C.length d2, .bool true, .slice b4 m d4], .int .i64 0]) (by simp [results, Try.results13, go_sem, r0, r1, r2, r3]) rfl ⟨_, _, _, rfl, F.out, ?_, Below.w4 (Below.setCell (p := ⟨w1.heap.size, 3, none⟩) (Below.setCell (p := ⟨w1.heap.size, 2, none⟩) B2.out (by have := X1.out; dsimp only; omega) _) (by have := X1.out; dsimp only; omega) _) (by omega) _ _ _ _⟩
  refine OwnsD.mk rfl ?_ ?_ ?_ (Nat.le_refl _)
  · exact own_mono (own_w4 (own_setOther (own_setOther P1.out (own_notkind P1.out KB.out (by decide)) _) (own_notkind P1.out KB.out (by decide)) _) (by omega) _ _ _ _) (by omega)
  · exact own_mono (own_w4 (own_setOther (own_setOther P2.out (own_notkind P2.out KB.out (by decide)) _) (own_notkind P2.out KB.out (by decide)) _) (by omega) _ _ _ _) (by omega)
  · rw [show (armD D K).K.length = m from NM.out]
    exact own_mono (own_w4 (own_setOther (own_setOther P3.out (own_notkind P3.out KB.out (by decide)) _) (own_notkind P3.out KB.out (by decide)) _) (by omega) _ _ _ _) (by omega)
end Go.Proofs.Ytpbodiaglgkkkaa
