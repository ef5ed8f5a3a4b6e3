
/-
  The walk of the law FnDisk. By an AI agent.
-/
import Derived.Test.YtpbodiaglgkkkaaFnd0
import Derived.Test.YtpbodiaglgkkkaaDraws6
import Derived.Test.YtpbodiaglgkkkaaDrawse
import Derived.Deep.CutRange
namespace Go.Proofs.Ytpbodiaglgkkkaa
open Go.ChangeShapes Go.WideShapes Go.ChangeAt Go.RowKit Go.Deep
set_option linter.unusedVariables false
set_option maxRecDepth 100000

def DAt (w : World) (B : Nat) (D : DM) : Prop := ∃ a1 c1 a2 c2 a3 c3, Box w B [.slice a1 D.S.length c1, .slice a2 D.C.length c2, .bool D.A, .slice a3 D.K.length c3] ∧ ReadsD w (.agg #[.slice a1 D.S.length c1, .slice a2 D.C.length c2, .bool D.A, .slice a3 D.K.length c3]) D
theorem DAt.below {w w' : World} {B : Nat} {D : DM} (h : DAt w B D) (hb : Below w.heap.size w w') : DAt w' B D := by
  obtain ⟨a1, c1, a2, c2, a3, c3, h1, h2⟩ := h
  exact ⟨a1, c1, a2, c2, a3, c3, h1.below hb, h2.below hb⟩
theorem DAt.old {w : World} {B : Nat} {D : DM} (h : DAt w B D) (o : Obj) : DAt (w.alloc o) B D := h.below ((Below.refl _ _).alloc (Nat.le_refl _) o)
theorem DAt.new {w : World} {a1 a2 a3 : Option Addr} {c1 c2 c3 t : Nat} {D : DM} (h : ReadsD w (.agg #[.slice a1 D.S.length c1, .slice a2 D.C.length c2, .bool D.A, .slice a3 D.K.length c3]) D) : DAt (w.alloc (.cells #[.slice a1 D.S.length c1, .slice a2 D.C.length c2, .bool D.A, .slice a3 D.K.length c3] t)) w.heap.size D :=
  ⟨a1, c1, a2, c2, a3, c3, Box.new rfl, h.below ((Below.refl _ _).alloc (Nat.le_refl _) _)⟩
theorem DAt.w4 {w : World} {a1 a2 a3 : Option Addr} {c1 c2 c3 lo hi B : Nat} {D : DM} {z0 z1 z2 z3 : Value} (h : OwnsD w lo hi (.agg #[.slice a1 D.S.length c1, .slice a2 D.C.length c2, .bool D.A, .slice a3 D.K.length c3]) D) (hB : B < lo) (hx : Box w B [z0, z1, z2, z3]) : DAt (W4 w B (.slice a1 D.S.length c1) (.slice a2 D.C.length c2) (.bool D.A) (.slice a3 D.K.length c3)) B D :=
  ⟨a1, c1, a2, c2, a3, c3, hx.w4 _ _ _ _, (h.w4 hB _ _ _ _).reads⟩
def freshB : ByteArray := ⟨#[102, 114, 101, 115, 104]⟩
theorem dread_more {D : DM} {k : Nat} {y : ByteArray} (h : okD (moreC D ((k : Int), y))) (hk : k < D.S.length) : dread (moreC D ((k : Int), y)) (k : Int) = (y, 0) := by
  rw [dr_ok h (show k < (moreC D ((k : Int), y)).S.length from hk)]
  show (lastOr (byS (D.C ++ [((k : Int), y)]) k) _, _) = _
  rw [byS_append, byS_one_yes, lastOr_snoc]
theorem dread_sync {D : DM} {n : Nat} (h : okD D) (hn : n < D.S.length) : dread (syncD D) (n : Int) = dread D (n : Int) := by
  have h2 : n < (syncD D).S.length := by show n < (applyW D.S D.C).length; rw [applyW_length]; exact hn
  rw [dr_ok h hn, dr_ok (ok_sync h) h2]
  show (lastOr (byS [] n) ((applyW D.S D.C).getD n e0), _) = _
  rw [byS_nil, lastOr_nil, applyW_get _ _ _ hn]
theorem pend_some {D : DM} {k : Nat} {y : ByteArray} (hk : k < D.S.length) : pendTo (moreC D ((k : Int), y)).C (moreC D ((k : Int), y)).S.length ≠ [] := by
  have h : byS (D.C ++ [((k : Int), y)]) k ≠ [] := by rw [byS_append, byS_one_yes]; simp
  intro e
  have h2 : (k : Int) ∈ pendTo (D.C ++ [((k : Int), y)]) D.S.length := by
    unfold pendTo
    rw [List.mem_map]
    refine ⟨k, ?_, rfl⟩
    rw [List.mem_filter]
    refine ⟨List.mem_range.mpr hk, ?_⟩
    cases hb : byS (D.C ++ [((k : Int), y)]) k with
    | nil => exact absurd hb h
    | cons a t => rfl
  rw [show pendTo (D.C ++ [((k : Int), y)]) D.S.length = [] from e] at h2
  cases h2
theorem specKeepsOf2 (ca : Option Addr) (n cc l : Nat) (C : List Nat) (K : List Int) (w : World) (hC : C.length = n) (hn : n ≤ 1048576) (h8 : ∀ x ∈ C, x < 256) (hs : Src w ca (cellsB C)) (hK : keepsM C = K) (hl : K.length = l) :
    Calls Try.prog 11 #[.slice ca n cc] w fun e w' => ∃ a c, e = .returned (.slice a l c) ∧ Src w' a (cellsI K) ∧ Below w.heap.size w w' := by
  subst hl
  subst hK
  exact specKeepsOf ca n cc C w hC hn h8 hs
theorem belowDrew {b : Nat} {w w' : World} (h : Below b w.drew w') : Below b w w' := ⟨h.os, h.tape, h.output, h.size, h.block⟩
set_option maxHeartbeats 8000000 in
theorem diskWalk (a ma : Option Addr) (c mc : Nat) (C M : List Nat) (w : World) (hC9 : C.length ≤ maxLen) (hM9 : M.length ≤ maxLen) (hlt : ∀ x ∈ C, x < 256) (hmt : ∀ x ∈ M, x < 256) (h : Src w a (cellsB C)) (hm : Src w ma (cellsB M)) :
    Calls Try.prog 3 #[.slice a C.length c, .slice ma M.length mc] w fun e w' => e = .returned (.bool true) ∧ Below w.heap.size w w' := by
  unfold maxLen at hC9 hM9
  obtain ⟨n, hn⟩ : ∃ n, C.length = n := ⟨_, rfl⟩
  obtain ⟨m, hm9⟩ : ∃ m, M.length = m := ⟨_, rfl⟩
  have HN : Hid (C.length = n ∧ M.length = m) := ⟨hn, hm9⟩
  have HB : Hid ((∀ x ∈ C, x < 256) ∧ (∀ x ∈ M, x < 256)) := ⟨hlt, hmt⟩
  have HS : Hid (Src w a (cellsB C) ∧ Src w ma (cellsB M)) := ⟨h, hm⟩
  rw [hn] at hC9
  rw [hm9] at hM9
  rw [hn, hm9]
  clear hlt hmt h hm hn hm9
  by_cases t1 : (1048576 : Int) < (n : Int)
  · go_enter Try.func3, Try.ntmps3
    go_wp2_with fail
    go_ret
    exact ⟨rfl, Below.refl _ _⟩
  by_cases t2 : (1048576 : Int) < (m : Int)
  · go_enter Try.func3, Try.ntmps3
    go_wp2_with fail
    go_ret
    exact ⟨rfl, Below.refl _ _⟩
  have n20 : n ≤ 1048576 := by omega
  have m20 : m ≤ 1048576 := by omega
  obtain ⟨K, hK⟩ : ∃ K, keepsM M = K := ⟨_, rfl⟩
  obtain ⟨l, hl⟩ : ∃ l, K.length = l := ⟨_, rfl⟩
  have KM : Hid (keepsM M = K ∧ K.length = l) := ⟨hK, hl⟩
  have l11 : l ≤ 11 := by rw [← hl, ← hK]; exact keepsM_length M
  clear hK hl
  go_enter Try.func3, Try.ntmps3
  go_wp2_with fail
  refine (specDiskOf a n c C _ HN.out.1 n20 HB.out.1 HS.out.1).mono ?_
  rintro e w1 ⟨v1, D, rfl, rd1, ok1, hc1, hb1⟩
  obtain ⟨d1, dx1, d2, dx2, d3, dx3, rfl, s1, s2, s3⟩ := rd1
  have OKD : Hid (okD D ∧ D.C.length ≤ 7 ∧ 1 ≤ D.S.length ∧ D.S.length ≤ 80 ∧ smallD D) := ⟨ok1, hc1, ok1.1.1, ok1.1.2.1, ok_small ok1⟩
  have BL : Hid (Below w.heap.size w (w1.alloc (.cells #[.slice d1 D.S.length dx1, .slice d2 D.C.length dx2, .bool D.A, .slice d3 D.K.length dx3] 27))) := hb1.alloc hb1.size _
  have fd : Hid (DAt (w1.alloc (.cells #[.slice d1 D.S.length dx1, .slice d2 D.C.length dx2, .bool D.A, .slice d3 D.K.length dx3] 27)) w1.heap.size D) := DAt.new ⟨d1, dx1, d2, dx2, d3, dx3, rfl, s1, s2, s3⟩
  clear s1 s2 s3 ok1 hc1 hb1
  obtain ⟨fd1, fdx1, fd2, fdx2, fd3, fdx3, fdb, fdr⟩ := fd.out
  obtain ⟨fdp0, _⟩ := fdb 0 _ rfl
  obtain ⟨fdp1, _⟩ := fdb 1 _ rfl
  obtain ⟨fdp2, _⟩ := fdb 2 _ rfl
  obtain ⟨fdp3, _⟩ := fdb 3 _ rfl
  go_wp2_with fail
  refine (lawAt ma m mc M 0 D.S.length _ HN.out.2 m20 (by omega) OKD.out.2.2.1 (by have := OKD.out.2.2.2.1; omega) HB.out.2 (HS.out.2.below BL.out)).mono ?_
  rintro e w2 ⟨k, rfl, hk, hb⟩
  clear fdb fdr fdp0 fdp1 fdp2 fdp3
  replace BL : Hid (Below w.heap.size w w2) := BL.out.trans (hb.mono BL.out.size)
  replace fd : Hid (DAt w2 (w1.heap.size) D) := fd.out.below hb
  obtain ⟨R, hR⟩ : ∃ R, moreC D ((k : Int), freshB) = R := ⟨_, rfl⟩
  have RR : Hid (dwrite D (k : Int) freshB = (R, 0) ∧ okD R ∧ dread R (k : Int) = (freshB, 0) ∧ R.S.length = D.S.length ∧ R.A = D.A ∧ smallD R ∧ pendTo R.C R.S.length ≠ []) := by
    have o9 : okW D.S.length ((k : Int), freshB) := ⟨by show (0 : Int) ≤ (k : Int); omega, by show (k : Int) < (D.S.length : Int); omega, by show freshB.size ≤ 420; decide⟩
    have o8 : okD (moreC D ((k : Int), freshB)) := ok_more OKD.out.1 o9 (by have := OKD.out.2.1; omega)
    rw [← hR]
    exact ⟨dw_ok (by decide) OKD.out.1 o9 (by have := OKD.out.2.1; omega), o8, dread_more o8 hk, rfl, rfl, ok_small o8, pend_some hk⟩
  have HKD : Hid (k < D.S.length) := hk
  clear hb hR hk
  obtain ⟨fd1, fdx1, fd2, fdx2, fd3, fdx3, fdb, fdr⟩ := fd.out
  obtain ⟨fdp0, _⟩ := fdb 0 _ rfl
  obtain ⟨fdp1, _⟩ := fdb 1 _ rfl
  obtain ⟨fdp2, _⟩ := fdb 2 _ rfl
  obtain ⟨fdp3, _⟩ := fdb 3 _ rfl
  go_wp2_with fail
  refine (implDiskWrite _ D (k : Int) freshB _ OKD.out.2.2.2.2 (by decide) fdr).mono ?_
  rintro e w3 ⟨v, R9, c9, rfl, hR, ow, hb⟩
  have e9 := RR.out.1.symm.trans hR
  injection e9 with e91 e92
  subst e91 e92
  obtain ⟨f1, fx1, f2, fx2, f3, fx3, rfl⟩ := ow.lit
  clear fdb fdr fdp0 fdp1 fdp2 fdp3
  replace BL : Hid (Below w.heap.size w w3) := BL.out.trans (hb.mono BL.out.size)
  replace fd : Hid (DAt w3 (w1.heap.size) D) := fd.out.below hb
  replace BL : Hid (Below w.heap.size w (w3.alloc (.cells #[.slice f1 R.S.length fx1, .slice f2 R.C.length fx2, .bool R.A, .slice f3 R.K.length fx3] 27))) := BL.out.alloc BL.out.size _
  replace fd : Hid (DAt (w3.alloc (.cells #[.slice f1 R.S.length fx1, .slice f2 R.C.length fx2, .bool R.A, .slice f3 R.K.length fx3] 27)) (w1.heap.size) D) := fd.out.old _
  have fw : Hid (DAt (w3.alloc (.cells #[.slice f1 R.S.length fx1, .slice f2 R.C.length fx2, .bool R.A, .slice f3 R.K.length fx3] 27)) w3.heap.size R) := DAt.new ow.reads
  clear hb hR ow
  obtain ⟨fd1, fdx1, fd2, fdx2, fd3, fdx3, fdb, fdr⟩ := fd.out
  obtain ⟨fdp0, _⟩ := fdb 0 _ rfl
  obtain ⟨fdp1, _⟩ := fdb 1 _ rfl
  obtain ⟨fdp2, _⟩ := fdb 2 _ rfl
  obtain ⟨fdp3, _⟩ := fdb 3 _ rfl
  go_wp2_with fail
  refine (specDiskWrite _ D (k : Int) freshB _ OKD.out.2.2.2.2 (by decide) fdr).mono ?_
  rintro e w4 ⟨v, R9, c9, rfl, hR, ow, hb⟩
  have e9 := RR.out.1.symm.trans hR
  injection e9 with e91 e92
  subst e91 e92
  obtain ⟨g1, gx1, g2, gx2, g3, gx3, rfl⟩ := ow.lit
  clear fdb fdr fdp0 fdp1 fdp2 fdp3
  replace BL : Hid (Below w.heap.size w w4) := BL.out.trans (hb.mono BL.out.size)
  replace fd : Hid (DAt w4 (w1.heap.size) D) := fd.out.below hb
  replace fw : Hid (DAt w4 (w3.heap.size) R) := fw.out.below hb
  replace BL : Hid (Below w.heap.size w (w4.alloc (.cells #[.slice g1 R.S.length gx1, .slice g2 R.C.length gx2, .bool R.A, .slice g3 R.K.length gx3] 27))) := BL.out.alloc BL.out.size _
  replace fd : Hid (DAt (w4.alloc (.cells #[.slice g1 R.S.length gx1, .slice g2 R.C.length gx2, .bool R.A, .slice g3 R.K.length gx3] 27)) (w1.heap.size) D) := fd.out.old _
  replace fw : Hid (DAt (w4.alloc (.cells #[.slice g1 R.S.length gx1, .slice g2 R.C.length gx2, .bool R.A, .slice g3 R.K.length gx3] 27)) (w3.heap.size) R) := fw.out.old _
  have fq : Hid (DAt (w4.alloc (.cells #[.slice g1 R.S.length gx1, .slice g2 R.C.length gx2, .bool R.A, .slice g3 R.K.length gx3] 27)) w4.heap.size R) := DAt.new ow.reads
  clear hb hR ow
  obtain ⟨fw1, fwx1, fw2, fwx2, fw3, fwx3, fwb, fwr⟩ := fw.out
  obtain ⟨fwp0, _⟩ := fwb 0 _ rfl
  obtain ⟨fwp1, _⟩ := fwb 1 _ rfl
  obtain ⟨fwp2, _⟩ := fwb 2 _ rfl
  obtain ⟨fwp3, _⟩ := fwb 3 _ rfl
  go_wp2_with fail
  refine (implDiskRead _ R (k : Int) _ RR.out.2.2.2.2.2.1 fwr).mono ?_
  rintro e w5 ⟨y9, c9, rfl, hR, hb⟩
  have e9 := RR.out.2.2.1.symm.trans hR
  injection e9 with e91 e92
  subst e91 e92
  clear fwb fwr fwp0 fwp1 fwp2 fwp3
  replace BL : Hid (Below w.heap.size w w5) := BL.out.trans (hb.mono BL.out.size)
  replace fd : Hid (DAt w5 (w1.heap.size) D) := fd.out.below hb
  replace fw : Hid (DAt w5 (w3.heap.size) R) := fw.out.below hb
  replace fq : Hid (DAt w5 (w4.heap.size) R) := fq.out.below hb
  clear hb hR
  obtain ⟨Y, al, hY⟩ : ∃ Y al, dsync R = (Y, al, 0) := by
    by_cases hA : R.A = true
    · exact ⟨_, _, ds_arm RR.out.2.1 hA⟩
    · exact ⟨_, _, ds_ok RR.out.2.1 (by simpa using hA)⟩
  have YY : Hid (dsync R = (Y, al, 0) ∧ okD Y ∧ Y.S.length = D.S.length ∧ smallD Y ∧ (al = true → Y = syncD R)) := by
    refine ⟨hY, (ok_dsync RR.out.2.1 hY).1, (ok_dsync RR.out.2.1 hY).2.2.trans RR.out.2.2.2.1, ok_small (ok_dsync RR.out.2.1 hY).1, fun h9 => ?_⟩
    by_cases hA : R.A = true
    · rw [ds_arm RR.out.2.1 hA] at hY
      cases hY
      cases h9
    · rw [ds_ok RR.out.2.1 (by simpa using hA)] at hY
      cases hY
      rfl
  have hal : (al == D.A) = false := by
    have hA2 := RR.out.2.2.2.2.1
    by_cases hA : R.A = true
    · rw [ds_arm RR.out.2.1 hA] at hY
      cases hY
      rw [← hA2, hA]
      rfl
    · have hA3 : R.A = false := by simpa using hA
      rw [ds_ok RR.out.2.1 hA3] at hY
      cases hY
      rw [← hA2, hA3]
      rfl
  clear hY
  obtain ⟨fw1, fwx1, fw2, fwx2, fw3, fwx3, fwb, fwr⟩ := fw.out
  obtain ⟨fwp0, _⟩ := fwb 0 _ rfl
  obtain ⟨fwp1, _⟩ := fwb 1 _ rfl
  obtain ⟨fwp2, _⟩ := fwb 2 _ rfl
  obtain ⟨fwp3, _⟩ := fwb 3 _ rfl
  go_wp2_with fail
  refine (implDiskSync _ R _ RR.out.2.2.2.2.2.1 fwr).mono ?_
  rintro e w6 ⟨v, R9, b9, c9, rfl, hR, ow, hb⟩
  have e9 := YY.out.1.symm.trans hR
  injection e9 with e91 e94
  injection e94 with e92 e93
  subst e91 e92 e93
  obtain ⟨h1, hx1, h2, hx2, h3, hx3, rfl⟩ := ow.lit
  clear fwb fwr fwp0 fwp1 fwp2 fwp3
  replace BL : Hid (Below w.heap.size w w6) := BL.out.trans (hb.mono BL.out.size)
  replace fd : Hid (DAt w6 (w1.heap.size) D) := fd.out.below hb
  replace fw : Hid (DAt w6 (w3.heap.size) R) := fw.out.below hb
  replace fq : Hid (DAt w6 (w4.heap.size) R) := fq.out.below hb
  replace BL : Hid (Below w.heap.size w (w6.alloc (.cells #[.slice h1 Y.S.length hx1, .slice h2 Y.C.length hx2, .bool Y.A, .slice h3 Y.K.length hx3] 27))) := BL.out.alloc BL.out.size _
  replace fd : Hid (DAt (w6.alloc (.cells #[.slice h1 Y.S.length hx1, .slice h2 Y.C.length hx2, .bool Y.A, .slice h3 Y.K.length hx3] 27)) (w1.heap.size) D) := fd.out.old _
  replace fw : Hid (DAt (w6.alloc (.cells #[.slice h1 Y.S.length hx1, .slice h2 Y.C.length hx2, .bool Y.A, .slice h3 Y.K.length hx3] 27)) (w3.heap.size) R) := fw.out.old _
  replace fq : Hid (DAt (w6.alloc (.cells #[.slice h1 Y.S.length hx1, .slice h2 Y.C.length hx2, .bool Y.A, .slice h3 Y.K.length hx3] 27)) (w4.heap.size) R) := fq.out.old _
  have fs : Hid (DAt (w6.alloc (.cells #[.slice h1 Y.S.length hx1, .slice h2 Y.C.length hx2, .bool Y.A, .slice h3 Y.K.length hx3] 27)) w6.heap.size Y) := DAt.new ow.reads
  clear hb hR ow
  obtain ⟨X, hX⟩ : ∃ X, crashD R K = X := ⟨_, rfl⟩
  have XX : Hid (dcrash R K = (X, 0) ∧ okD X ∧ smallD X ∧ darm R K = (armD R K, 0) ∧ okD (armD R K) ∧ dsync (armD R K) = (X, false, 0)) := by
    have o8 : okD (armD R K) := ok_arm RR.out.2.1 (by rw [KM.out.2]; omega)
    rw [← hX]
    exact ⟨dc_ok (by rw [KM.out.2]; omega) RR.out.2.1, ok_crash RR.out.2.1, ok_small (ok_crash RR.out.2.1), da_ok (by rw [KM.out.2]; omega) RR.out.2.1 (by rw [KM.out.2]; omega), o8, ds_arm o8 rfl⟩
  obtain ⟨Q, hQ⟩ : ∃ Q, armD R K = Q := ⟨_, rfl⟩
  rw [hQ] at XX
  have QQ : Hid (smallD Q) := ok_small XX.out.2.2.2.2.1
  clear hX hQ
  go_upto_region 9 with fail
  generalize hW : w6.alloc (.cells #[.slice h1 Y.S.length hx1, .slice h2 Y.C.length hx2, .bool Y.A, .slice h3 Y.K.length hx3] 27) = W6 at BL fd fw fq fs ⊢
  clear hW
  go_cut [16, 17] from 71 (fun p9 c9 wx => ∃ B : Nat, p9 = .pointer (some ⟨B, 0, none⟩) ∧ c9 = .int .i64 0 ∧ Hid (Below w.heap.size w wx) ∧ Hid (DAt wx (w1.heap.size) D) ∧ Hid (DAt wx (w3.heap.size) R) ∧ Hid (DAt wx (w4.heap.size) R) ∧ Hid (DAt wx (w6.heap.size) Y) ∧ Hid (DAt wx B X))
  case first =>
    as_aux_lemma =>
      obtain ⟨z1, zx1, z2, zx2, z3, zx3, zb, zr⟩ := fw.out
      have ZB : Hid (Box W6 (w3.heap.size) [.slice z1 R.S.length zx1, .slice z2 R.C.length zx2, .bool R.A, .slice z3 R.K.length zx3] ∧ ReadsD W6 (.agg #[.slice z1 R.S.length zx1, .slice z2 R.C.length zx2, .bool R.A, .slice z3 R.K.length zx3]) R) := ⟨zb, zr⟩
      obtain ⟨p0, _⟩ := zb 0 _ rfl
      obtain ⟨p1, _⟩ := zb 1 _ rfl
      obtain ⟨p2, _⟩ := zb 2 _ rfl
      obtain ⟨p3, _⟩ := zb 3 _ rfl
      obtain ⟨k0, _⟩ := (zb.old (.cells #[.slice none 0 0, .slice none 0 0, .bool false, .slice none 0 0] 27)) 0 _ rfl
      obtain ⟨k1, _⟩ := (zb.old (.cells #[.slice none 0 0, .slice none 0 0, .bool false, .slice none 0 0] 27)) 1 _ rfl
      obtain ⟨k2, _⟩ := (zb.old (.cells #[.slice none 0 0, .slice none 0 0, .bool false, .slice none 0 0] 27)) 2 _ rfl
      obtain ⟨k3, _⟩ := (zb.old (.cells #[.slice none 0 0, .slice none 0 0, .bool false, .slice none 0 0] 27)) 3 _ rfl
      clear zb zr
      go_region_with (first | (go_at_call 10; first | (refine (implDiskCrash _ R ka l kc K w8 RR.out.2.2.2.2.2.1 KM.out.2 (by omega) KS8.out ZB8.out.2).mono ?_; rintro e w9 ⟨v9, R9, c9, rfl, hR9, o9, hb9⟩; have e9 := XX.out.1.symm.trans hR9; injection e9 with e91 e92; subst e91 e92; obtain ⟨q1, qx1, q2, qx2, q3, qx3, rfl⟩ := o9.lit; have H9 : Hid (Below W6.heap.size W6 w9) := H8.out.trans (hb9.mono H8.out.size); have O9 : Hid (OwnsD w9 w8.heap.size w9.heap.size (.agg #[.slice q1 X.S.length qx1, .slice q2 X.C.length qx2, .bool X.A, .slice q3 X.K.length qx3]) X) := o9; have NB9 : Hid (Box w9 W6.heap.size [.slice none 0 0, .slice none 0 0, .bool false, .slice none 0 0]) := NB8.out.below hb9; have LB9 : Hid (W6.heap.size < w8.heap.size) := World.block_lt_of_cell? _ _ (NB8.out 0 _ rfl).1; obtain ⟨⟨g0, h0⟩, ⟨g1, h1⟩, ⟨g2, h2⟩, ⟨g3, h3⟩, r0, r1, r2, r3⟩ := NB9.out.w4in (.slice q1 X.S.length qx1) (.slice q2 X.C.length qx2) (.bool X.A) (.slice q3 X.K.length qx3); clear hb9 hR9 o9 p0 p1 p2 p3) | (refine (implDiskCrash _ R ka l kc K (w8.alloc (.cells #[.slice none 0 0, .slice none 0 0, .bool false, .slice none 0 0] 27)) RR.out.2.2.2.2.2.1 KM.out.2 (by omega) (KS8.out.below ((Below.refl _ _).alloc (Nat.le_refl _) _)) (ZB8.out.2.below ((Below.refl _ _).alloc (Nat.le_refl _) _))).mono ?_; rintro e w9 ⟨v9, R9, c9, rfl, hR9, o9, hb9⟩; have e9 := XX.out.1.symm.trans hR9; injection e9 with e91 e92; subst e91 e92; obtain ⟨q1, qx1, q2, qx2, q3, qx3, rfl⟩ := o9.lit; have H9 : Hid (Below W6.heap.size W6 w9) := H8.out.trans ((Below.new hb9).mono H8.out.size); have O9 : Hid (OwnsD w9 (w8.heap.size + 1) w9.heap.size (.agg #[.slice q1 X.S.length qx1, .slice q2 X.C.length qx2, .bool X.A, .slice q3 X.K.length qx3]) X) := o9.mono (by simp) (Nat.le_refl _); have NB9 : Hid (Box w9 w8.heap.size [.slice none 0 0, .slice none 0 0, .bool false, .slice none 0 0]) := Box.below (Box.new rfl) hb9; obtain ⟨⟨g0, h0⟩, ⟨g1, h1⟩, ⟨g2, h2⟩, ⟨g3, h3⟩, r0, r1, r2, r3⟩ := NB9.out.w4in (.slice q1 X.S.length qx1) (.slice q2 X.C.length qx2) (.bool X.A) (.slice q3 X.K.length qx3); clear hb9 hR9 o9 p0 p1 p2 p3) | (refine (implDiskCrash _ R ka l kc K w8 RR.out.2.2.2.2.2.1 KM.out.2 (by omega) KS8.out ZB8.out.2).mono ?_; rintro e w9 ⟨v9, R9, c9, rfl, hR9, o9, hb9⟩; have e9 := XX.out.1.symm.trans hR9; injection e9 with e91 e92; subst e91 e92; obtain ⟨q1, qx1, q2, qx2, q3, qx3, rfl⟩ := o9.lit; have H9 : Hid (Below W6.heap.size W6 w9) := H8.out.trans (hb9.mono H8.out.size); have O9 : Hid (OwnsD w9 w8.heap.size w9.heap.size (.agg #[.slice q1 X.S.length qx1, .slice q2 X.C.length qx2, .bool X.A, .slice q3 X.K.length qx3]) X) := o9; clear hb9 hR9 o9 p0 p1 p2 p3)) | (go_at_call 11; (first | (refine (specKeepsOf2 ma m mc l M K W6.drew HN.out.2 m20 HB.out.2 (show Src W6.drew ma (cellsB M) from (HS.out.2.below BL.out : Src W6 ma (cellsB M))) KM.out.1 KM.out.2).mono ?_; rintro e w8 ⟨ka, kc, rfl, ks8, hb8⟩; have H8 : Hid (Below W6.heap.size W6 w8) := belowDrew hb8) | (refine (specKeepsOf2 ma m mc l M K (W6.drew.alloc (.cells #[.slice none 0 0, .slice none 0 0, .bool false, .slice none 0 0] 27)) HN.out.2 m20 HB.out.2 (Src.below (w := W6.drew) (show Src W6.drew ma (cellsB M) from (HS.out.2.below BL.out : Src W6 ma (cellsB M))) ((Below.refl _ _).alloc (Nat.le_refl _) _)) KM.out.1 KM.out.2).mono ?_; rintro e w8 ⟨ka, kc, rfl, ks8, hb8⟩; have H8 : Hid (Below W6.heap.size W6 w8) := belowDrew (Below.new hb8); have NB8 : Hid (Box w8 W6.heap.size [.slice none 0 0, .slice none 0 0, .bool false, .slice none 0 0]) := Box.below (Box.new (w := W6.drew) rfl) hb8)); have ZB8 : Hid (Box w8 (w3.heap.size) [.slice z1 R.S.length zx1, .slice z2 R.C.length zx2, .bool R.A, .slice z3 R.K.length zx3] ∧ ReadsD w8 (.agg #[.slice z1 R.S.length zx1, .slice z2 R.C.length zx2, .bool R.A, .slice z3 R.K.length zx3]) R) := ⟨ZB.out.1.below H8.out, ZB.out.2.below H8.out⟩; have KS8 : Hid (Src w8 ka (cellsI K)) := ks8; clear ks8 hb8 p0 p1 p2 p3; obtain ⟨p0, _⟩ := ZB8.out.1 0 _ rfl; obtain ⟨p1, _⟩ := ZB8.out.1 1 _ rfl; obtain ⟨p2, _⟩ := ZB8.out.1 2 _ rfl; obtain ⟨p3, _⟩ := ZB8.out.1 3 _ rfl; obtain ⟨m0, _⟩ := (ZB8.out.1.old (.cells #[.slice none 0 0, .slice none 0 0, .bool false, .slice none 0 0] 27)) 0 _ rfl; obtain ⟨m1, _⟩ := (ZB8.out.1.old (.cells #[.slice none 0 0, .slice none 0 0, .bool false, .slice none 0 0] 27)) 1 _ rfl; obtain ⟨m2, _⟩ := (ZB8.out.1.old (.cells #[.slice none 0 0, .slice none 0 0, .bool false, .slice none 0 0] 27)) 2 _ rfl; obtain ⟨m3, _⟩ := (ZB8.out.1.old (.cells #[.slice none 0 0, .slice none 0 0, .bool false, .slice none 0 0] 27)) 3 _ rfl))
      all_goals go_wp2_with fail
      all_goals go_meet
      all_goals first | exact ⟨_, rfl, rfl, Below.w4 (BL.out.trans (H9.out.mono BL.out.size)) (BL.out.size) _ _ _ _, fd.out.below (Below.w4 H9.out (Nat.le_refl _) _ _ _ _), fw.out.below (Below.w4 H9.out (Nat.le_refl _) _ _ _ _), fq.out.below (Below.w4 H9.out (Nat.le_refl _) _ _ _ _), fs.out.below (Below.w4 H9.out (Nat.le_refl _) _ _ _ _), DAt.w4 O9.out LB9.out NB9.out⟩ | exact ⟨_, rfl, rfl, Below.w4 (BL.out.trans (H9.out.mono BL.out.size)) (Nat.le_trans BL.out.size H8.out.size) _ _ _ _, fd.out.below (Below.w4 H9.out H8.out.size _ _ _ _), fw.out.below (Below.w4 H9.out H8.out.size _ _ _ _), fq.out.below (Below.w4 H9.out H8.out.size _ _ _ _), fs.out.below (Below.w4 H9.out H8.out.size _ _ _ _), DAt.w4 O9.out (by omega) NB9.out⟩ | exact ⟨_, rfl, rfl, (BL.out.trans (H9.out.mono BL.out.size)).alloc (Nat.le_trans BL.out.size H9.out.size) _, (fd.out.below H9.out).old _, (fw.out.below H9.out).old _, (fq.out.below H9.out).old _, (fs.out.below H9.out).old _, DAt.new O9.out.reads⟩
  case rest =>
  clear BL fd fw fq fs
  obtain ⟨B16, rfl, rfl, BL, fd, fw, fq, fs, fx⟩ := hcut
  go_upto_region 10 with fail
  go_cut [18, 19] from 78 (fun p9 c9 wx => ∃ B : Nat, p9 = .pointer (some ⟨B, 0, none⟩) ∧ c9 = .int .i64 0 ∧ Hid (Below w.heap.size w wx) ∧ Hid (DAt wx (w1.heap.size) D) ∧ Hid (DAt wx (w3.heap.size) R) ∧ Hid (DAt wx (w4.heap.size) R) ∧ Hid (DAt wx (w6.heap.size) Y) ∧ Hid (DAt wx (B16) X) ∧ Hid (DAt wx B X))
  case first =>
    as_aux_lemma =>
      obtain ⟨z1, zx1, z2, zx2, z3, zx3, zb, zr⟩ := fw.out
      have ZB : Hid (Box wc (w3.heap.size) [.slice z1 R.S.length zx1, .slice z2 R.C.length zx2, .bool R.A, .slice z3 R.K.length zx3] ∧ ReadsD wc (.agg #[.slice z1 R.S.length zx1, .slice z2 R.C.length zx2, .bool R.A, .slice z3 R.K.length zx3]) R) := ⟨zb, zr⟩
      obtain ⟨p0, _⟩ := zb 0 _ rfl
      obtain ⟨p1, _⟩ := zb 1 _ rfl
      obtain ⟨p2, _⟩ := zb 2 _ rfl
      obtain ⟨p3, _⟩ := zb 3 _ rfl
      obtain ⟨k0, _⟩ := (zb.old (.cells #[.slice none 0 0, .slice none 0 0, .bool false, .slice none 0 0] 27)) 0 _ rfl
      obtain ⟨k1, _⟩ := (zb.old (.cells #[.slice none 0 0, .slice none 0 0, .bool false, .slice none 0 0] 27)) 1 _ rfl
      obtain ⟨k2, _⟩ := (zb.old (.cells #[.slice none 0 0, .slice none 0 0, .bool false, .slice none 0 0] 27)) 2 _ rfl
      obtain ⟨k3, _⟩ := (zb.old (.cells #[.slice none 0 0, .slice none 0 0, .bool false, .slice none 0 0] 27)) 3 _ rfl
      clear zb zr
      go_region_with (first | (go_at_call 12; first | (refine (specDiskCrash _ R ka l kc K w8 RR.out.2.2.2.2.2.1 KM.out.2 (by omega) KS8.out ZB8.out.2).mono ?_; rintro e w9 ⟨v9, R9, c9, rfl, hR9, o9, hb9⟩; have e9 := XX.out.1.symm.trans hR9; injection e9 with e91 e92; subst e91 e92; obtain ⟨q1, qx1, q2, qx2, q3, qx3, rfl⟩ := o9.lit; have H9 : Hid (Below wc.heap.size wc w9) := H8.out.trans (hb9.mono H8.out.size); have O9 : Hid (OwnsD w9 w8.heap.size w9.heap.size (.agg #[.slice q1 X.S.length qx1, .slice q2 X.C.length qx2, .bool X.A, .slice q3 X.K.length qx3]) X) := o9; have NB9 : Hid (Box w9 wc.heap.size [.slice none 0 0, .slice none 0 0, .bool false, .slice none 0 0]) := NB8.out.below hb9; have LB9 : Hid (wc.heap.size < w8.heap.size) := World.block_lt_of_cell? _ _ (NB8.out 0 _ rfl).1; obtain ⟨⟨g0, h0⟩, ⟨g1, h1⟩, ⟨g2, h2⟩, ⟨g3, h3⟩, r0, r1, r2, r3⟩ := NB9.out.w4in (.slice q1 X.S.length qx1) (.slice q2 X.C.length qx2) (.bool X.A) (.slice q3 X.K.length qx3); clear hb9 hR9 o9 p0 p1 p2 p3) | (refine (specDiskCrash _ R ka l kc K (w8.alloc (.cells #[.slice none 0 0, .slice none 0 0, .bool false, .slice none 0 0] 27)) RR.out.2.2.2.2.2.1 KM.out.2 (by omega) (KS8.out.below ((Below.refl _ _).alloc (Nat.le_refl _) _)) (ZB8.out.2.below ((Below.refl _ _).alloc (Nat.le_refl _) _))).mono ?_; rintro e w9 ⟨v9, R9, c9, rfl, hR9, o9, hb9⟩; have e9 := XX.out.1.symm.trans hR9; injection e9 with e91 e92; subst e91 e92; obtain ⟨q1, qx1, q2, qx2, q3, qx3, rfl⟩ := o9.lit; have H9 : Hid (Below wc.heap.size wc w9) := H8.out.trans ((Below.new hb9).mono H8.out.size); have O9 : Hid (OwnsD w9 (w8.heap.size + 1) w9.heap.size (.agg #[.slice q1 X.S.length qx1, .slice q2 X.C.length qx2, .bool X.A, .slice q3 X.K.length qx3]) X) := o9.mono (by simp) (Nat.le_refl _); have NB9 : Hid (Box w9 w8.heap.size [.slice none 0 0, .slice none 0 0, .bool false, .slice none 0 0]) := Box.below (Box.new rfl) hb9; obtain ⟨⟨g0, h0⟩, ⟨g1, h1⟩, ⟨g2, h2⟩, ⟨g3, h3⟩, r0, r1, r2, r3⟩ := NB9.out.w4in (.slice q1 X.S.length qx1) (.slice q2 X.C.length qx2) (.bool X.A) (.slice q3 X.K.length qx3); clear hb9 hR9 o9 p0 p1 p2 p3) | (refine (specDiskCrash _ R ka l kc K w8 RR.out.2.2.2.2.2.1 KM.out.2 (by omega) KS8.out ZB8.out.2).mono ?_; rintro e w9 ⟨v9, R9, c9, rfl, hR9, o9, hb9⟩; have e9 := XX.out.1.symm.trans hR9; injection e9 with e91 e92; subst e91 e92; obtain ⟨q1, qx1, q2, qx2, q3, qx3, rfl⟩ := o9.lit; have H9 : Hid (Below wc.heap.size wc w9) := H8.out.trans (hb9.mono H8.out.size); have O9 : Hid (OwnsD w9 w8.heap.size w9.heap.size (.agg #[.slice q1 X.S.length qx1, .slice q2 X.C.length qx2, .bool X.A, .slice q3 X.K.length qx3]) X) := o9; clear hb9 hR9 o9 p0 p1 p2 p3)) | (go_at_call 11; (first | (refine (specKeepsOf2 ma m mc l M K wc.drew HN.out.2 m20 HB.out.2 (show Src wc.drew ma (cellsB M) from (HS.out.2.below BL.out : Src wc ma (cellsB M))) KM.out.1 KM.out.2).mono ?_; rintro e w8 ⟨ka, kc, rfl, ks8, hb8⟩; have H8 : Hid (Below wc.heap.size wc w8) := belowDrew hb8) | (refine (specKeepsOf2 ma m mc l M K (wc.drew.alloc (.cells #[.slice none 0 0, .slice none 0 0, .bool false, .slice none 0 0] 27)) HN.out.2 m20 HB.out.2 (Src.below (w := wc.drew) (show Src wc.drew ma (cellsB M) from (HS.out.2.below BL.out : Src wc ma (cellsB M))) ((Below.refl _ _).alloc (Nat.le_refl _) _)) KM.out.1 KM.out.2).mono ?_; rintro e w8 ⟨ka, kc, rfl, ks8, hb8⟩; have H8 : Hid (Below wc.heap.size wc w8) := belowDrew (Below.new hb8); have NB8 : Hid (Box w8 wc.heap.size [.slice none 0 0, .slice none 0 0, .bool false, .slice none 0 0]) := Box.below (Box.new (w := wc.drew) rfl) hb8)); have ZB8 : Hid (Box w8 (w3.heap.size) [.slice z1 R.S.length zx1, .slice z2 R.C.length zx2, .bool R.A, .slice z3 R.K.length zx3] ∧ ReadsD w8 (.agg #[.slice z1 R.S.length zx1, .slice z2 R.C.length zx2, .bool R.A, .slice z3 R.K.length zx3]) R) := ⟨ZB.out.1.below H8.out, ZB.out.2.below H8.out⟩; have KS8 : Hid (Src w8 ka (cellsI K)) := ks8; clear ks8 hb8 p0 p1 p2 p3; obtain ⟨p0, _⟩ := ZB8.out.1 0 _ rfl; obtain ⟨p1, _⟩ := ZB8.out.1 1 _ rfl; obtain ⟨p2, _⟩ := ZB8.out.1 2 _ rfl; obtain ⟨p3, _⟩ := ZB8.out.1 3 _ rfl; obtain ⟨m0, _⟩ := (ZB8.out.1.old (.cells #[.slice none 0 0, .slice none 0 0, .bool false, .slice none 0 0] 27)) 0 _ rfl; obtain ⟨m1, _⟩ := (ZB8.out.1.old (.cells #[.slice none 0 0, .slice none 0 0, .bool false, .slice none 0 0] 27)) 1 _ rfl; obtain ⟨m2, _⟩ := (ZB8.out.1.old (.cells #[.slice none 0 0, .slice none 0 0, .bool false, .slice none 0 0] 27)) 2 _ rfl; obtain ⟨m3, _⟩ := (ZB8.out.1.old (.cells #[.slice none 0 0, .slice none 0 0, .bool false, .slice none 0 0] 27)) 3 _ rfl))
      all_goals go_wp2_with fail
      all_goals go_meet
      all_goals first | exact ⟨_, rfl, rfl, Below.w4 (BL.out.trans (H9.out.mono BL.out.size)) (BL.out.size) _ _ _ _, fd.out.below (Below.w4 H9.out (Nat.le_refl _) _ _ _ _), fw.out.below (Below.w4 H9.out (Nat.le_refl _) _ _ _ _), fq.out.below (Below.w4 H9.out (Nat.le_refl _) _ _ _ _), fs.out.below (Below.w4 H9.out (Nat.le_refl _) _ _ _ _), fx.out.below (Below.w4 H9.out (Nat.le_refl _) _ _ _ _), DAt.w4 O9.out LB9.out NB9.out⟩ | exact ⟨_, rfl, rfl, Below.w4 (BL.out.trans (H9.out.mono BL.out.size)) (Nat.le_trans BL.out.size H8.out.size) _ _ _ _, fd.out.below (Below.w4 H9.out H8.out.size _ _ _ _), fw.out.below (Below.w4 H9.out H8.out.size _ _ _ _), fq.out.below (Below.w4 H9.out H8.out.size _ _ _ _), fs.out.below (Below.w4 H9.out H8.out.size _ _ _ _), fx.out.below (Below.w4 H9.out H8.out.size _ _ _ _), DAt.w4 O9.out (by omega) NB9.out⟩ | exact ⟨_, rfl, rfl, (BL.out.trans (H9.out.mono BL.out.size)).alloc (Nat.le_trans BL.out.size H9.out.size) _, (fd.out.below H9.out).old _, (fw.out.below H9.out).old _, (fq.out.below H9.out).old _, (fs.out.below H9.out).old _, (fx.out.below H9.out).old _, DAt.new O9.out.reads⟩
  case rest =>
  clear BL fd fw fq fs fx
  obtain ⟨B18, rfl, rfl, BL, fd, fw, fq, fs, fx, fu⟩ := hcut
  go_upto_region 11 with fail
  go_cut [20, 21] from 85 (fun p9 c9 wx => ∃ B : Nat, p9 = .pointer (some ⟨B, 0, none⟩) ∧ c9 = .int .i64 0 ∧ Hid (Below w.heap.size w wx) ∧ Hid (DAt wx (w1.heap.size) D) ∧ Hid (DAt wx (w3.heap.size) R) ∧ Hid (DAt wx (w4.heap.size) R) ∧ Hid (DAt wx (w6.heap.size) Y) ∧ Hid (DAt wx (B16) X) ∧ Hid (DAt wx (B18) X) ∧ Hid (DAt wx B Q))
  case first =>
    as_aux_lemma =>
      obtain ⟨z1, zx1, z2, zx2, z3, zx3, zb, zr⟩ := fw.out
      have ZB : Hid (Box wc (w3.heap.size) [.slice z1 R.S.length zx1, .slice z2 R.C.length zx2, .bool R.A, .slice z3 R.K.length zx3] ∧ ReadsD wc (.agg #[.slice z1 R.S.length zx1, .slice z2 R.C.length zx2, .bool R.A, .slice z3 R.K.length zx3]) R) := ⟨zb, zr⟩
      obtain ⟨p0, _⟩ := zb 0 _ rfl
      obtain ⟨p1, _⟩ := zb 1 _ rfl
      obtain ⟨p2, _⟩ := zb 2 _ rfl
      obtain ⟨p3, _⟩ := zb 3 _ rfl
      obtain ⟨k0, _⟩ := (zb.old (.cells #[.slice none 0 0, .slice none 0 0, .bool false, .slice none 0 0] 27)) 0 _ rfl
      obtain ⟨k1, _⟩ := (zb.old (.cells #[.slice none 0 0, .slice none 0 0, .bool false, .slice none 0 0] 27)) 1 _ rfl
      obtain ⟨k2, _⟩ := (zb.old (.cells #[.slice none 0 0, .slice none 0 0, .bool false, .slice none 0 0] 27)) 2 _ rfl
      obtain ⟨k3, _⟩ := (zb.old (.cells #[.slice none 0 0, .slice none 0 0, .bool false, .slice none 0 0] 27)) 3 _ rfl
      clear zb zr
      go_region_with (first | (go_at_call 13; first | (refine (implDiskArm _ R ka l kc K w8 RR.out.2.2.2.2.2.1 KM.out.2 (by omega) KS8.out ZB8.out.2).mono ?_; rintro e w9 ⟨v9, R9, c9, rfl, hR9, o9, hb9⟩; have e9 := XX.out.2.2.2.1.symm.trans hR9; injection e9 with e91 e92; subst e91 e92; obtain ⟨q1, qx1, q2, qx2, q3, qx3, rfl⟩ := o9.lit; have H9 : Hid (Below wc.heap.size wc w9) := H8.out.trans (hb9.mono H8.out.size); have O9 : Hid (OwnsD w9 w8.heap.size w9.heap.size (.agg #[.slice q1 Q.S.length qx1, .slice q2 Q.C.length qx2, .bool Q.A, .slice q3 Q.K.length qx3]) Q) := o9; have NB9 : Hid (Box w9 wc.heap.size [.slice none 0 0, .slice none 0 0, .bool false, .slice none 0 0]) := NB8.out.below hb9; have LB9 : Hid (wc.heap.size < w8.heap.size) := World.block_lt_of_cell? _ _ (NB8.out 0 _ rfl).1; obtain ⟨⟨g0, h0⟩, ⟨g1, h1⟩, ⟨g2, h2⟩, ⟨g3, h3⟩, r0, r1, r2, r3⟩ := NB9.out.w4in (.slice q1 Q.S.length qx1) (.slice q2 Q.C.length qx2) (.bool Q.A) (.slice q3 Q.K.length qx3); clear hb9 hR9 o9 p0 p1 p2 p3) | (refine (implDiskArm _ R ka l kc K (w8.alloc (.cells #[.slice none 0 0, .slice none 0 0, .bool false, .slice none 0 0] 27)) RR.out.2.2.2.2.2.1 KM.out.2 (by omega) (KS8.out.below ((Below.refl _ _).alloc (Nat.le_refl _) _)) (ZB8.out.2.below ((Below.refl _ _).alloc (Nat.le_refl _) _))).mono ?_; rintro e w9 ⟨v9, R9, c9, rfl, hR9, o9, hb9⟩; have e9 := XX.out.2.2.2.1.symm.trans hR9; injection e9 with e91 e92; subst e91 e92; obtain ⟨q1, qx1, q2, qx2, q3, qx3, rfl⟩ := o9.lit; have H9 : Hid (Below wc.heap.size wc w9) := H8.out.trans ((Below.new hb9).mono H8.out.size); have O9 : Hid (OwnsD w9 (w8.heap.size + 1) w9.heap.size (.agg #[.slice q1 Q.S.length qx1, .slice q2 Q.C.length qx2, .bool Q.A, .slice q3 Q.K.length qx3]) Q) := o9.mono (by simp) (Nat.le_refl _); have NB9 : Hid (Box w9 w8.heap.size [.slice none 0 0, .slice none 0 0, .bool false, .slice none 0 0]) := Box.below (Box.new rfl) hb9; obtain ⟨⟨g0, h0⟩, ⟨g1, h1⟩, ⟨g2, h2⟩, ⟨g3, h3⟩, r0, r1, r2, r3⟩ := NB9.out.w4in (.slice q1 Q.S.length qx1) (.slice q2 Q.C.length qx2) (.bool Q.A) (.slice q3 Q.K.length qx3); clear hb9 hR9 o9 p0 p1 p2 p3) | (refine (implDiskArm _ R ka l kc K w8 RR.out.2.2.2.2.2.1 KM.out.2 (by omega) KS8.out ZB8.out.2).mono ?_; rintro e w9 ⟨v9, R9, c9, rfl, hR9, o9, hb9⟩; have e9 := XX.out.2.2.2.1.symm.trans hR9; injection e9 with e91 e92; subst e91 e92; obtain ⟨q1, qx1, q2, qx2, q3, qx3, rfl⟩ := o9.lit; have H9 : Hid (Below wc.heap.size wc w9) := H8.out.trans (hb9.mono H8.out.size); have O9 : Hid (OwnsD w9 w8.heap.size w9.heap.size (.agg #[.slice q1 Q.S.length qx1, .slice q2 Q.C.length qx2, .bool Q.A, .slice q3 Q.K.length qx3]) Q) := o9; clear hb9 hR9 o9 p0 p1 p2 p3)) | (go_at_call 11; (first | (refine (specKeepsOf2 ma m mc l M K wc.drew HN.out.2 m20 HB.out.2 (show Src wc.drew ma (cellsB M) from (HS.out.2.below BL.out : Src wc ma (cellsB M))) KM.out.1 KM.out.2).mono ?_; rintro e w8 ⟨ka, kc, rfl, ks8, hb8⟩; have H8 : Hid (Below wc.heap.size wc w8) := belowDrew hb8) | (refine (specKeepsOf2 ma m mc l M K (wc.drew.alloc (.cells #[.slice none 0 0, .slice none 0 0, .bool false, .slice none 0 0] 27)) HN.out.2 m20 HB.out.2 (Src.below (w := wc.drew) (show Src wc.drew ma (cellsB M) from (HS.out.2.below BL.out : Src wc ma (cellsB M))) ((Below.refl _ _).alloc (Nat.le_refl _) _)) KM.out.1 KM.out.2).mono ?_; rintro e w8 ⟨ka, kc, rfl, ks8, hb8⟩; have H8 : Hid (Below wc.heap.size wc w8) := belowDrew (Below.new hb8); have NB8 : Hid (Box w8 wc.heap.size [.slice none 0 0, .slice none 0 0, .bool false, .slice none 0 0]) := Box.below (Box.new (w := wc.drew) rfl) hb8)); have ZB8 : Hid (Box w8 (w3.heap.size) [.slice z1 R.S.length zx1, .slice z2 R.C.length zx2, .bool R.A, .slice z3 R.K.length zx3] ∧ ReadsD w8 (.agg #[.slice z1 R.S.length zx1, .slice z2 R.C.length zx2, .bool R.A, .slice z3 R.K.length zx3]) R) := ⟨ZB.out.1.below H8.out, ZB.out.2.below H8.out⟩; have KS8 : Hid (Src w8 ka (cellsI K)) := ks8; clear ks8 hb8 p0 p1 p2 p3; obtain ⟨p0, _⟩ := ZB8.out.1 0 _ rfl; obtain ⟨p1, _⟩ := ZB8.out.1 1 _ rfl; obtain ⟨p2, _⟩ := ZB8.out.1 2 _ rfl; obtain ⟨p3, _⟩ := ZB8.out.1 3 _ rfl; obtain ⟨m0, _⟩ := (ZB8.out.1.old (.cells #[.slice none 0 0, .slice none 0 0, .bool false, .slice none 0 0] 27)) 0 _ rfl; obtain ⟨m1, _⟩ := (ZB8.out.1.old (.cells #[.slice none 0 0, .slice none 0 0, .bool false, .slice none 0 0] 27)) 1 _ rfl; obtain ⟨m2, _⟩ := (ZB8.out.1.old (.cells #[.slice none 0 0, .slice none 0 0, .bool false, .slice none 0 0] 27)) 2 _ rfl; obtain ⟨m3, _⟩ := (ZB8.out.1.old (.cells #[.slice none 0 0, .slice none 0 0, .bool false, .slice none 0 0] 27)) 3 _ rfl))
      all_goals go_wp2_with fail
      all_goals go_meet
      all_goals first | exact ⟨_, rfl, rfl, Below.w4 (BL.out.trans (H9.out.mono BL.out.size)) (BL.out.size) _ _ _ _, fd.out.below (Below.w4 H9.out (Nat.le_refl _) _ _ _ _), fw.out.below (Below.w4 H9.out (Nat.le_refl _) _ _ _ _), fq.out.below (Below.w4 H9.out (Nat.le_refl _) _ _ _ _), fs.out.below (Below.w4 H9.out (Nat.le_refl _) _ _ _ _), fx.out.below (Below.w4 H9.out (Nat.le_refl _) _ _ _ _), fu.out.below (Below.w4 H9.out (Nat.le_refl _) _ _ _ _), DAt.w4 O9.out LB9.out NB9.out⟩ | exact ⟨_, rfl, rfl, Below.w4 (BL.out.trans (H9.out.mono BL.out.size)) (Nat.le_trans BL.out.size H8.out.size) _ _ _ _, fd.out.below (Below.w4 H9.out H8.out.size _ _ _ _), fw.out.below (Below.w4 H9.out H8.out.size _ _ _ _), fq.out.below (Below.w4 H9.out H8.out.size _ _ _ _), fs.out.below (Below.w4 H9.out H8.out.size _ _ _ _), fx.out.below (Below.w4 H9.out H8.out.size _ _ _ _), fu.out.below (Below.w4 H9.out H8.out.size _ _ _ _), DAt.w4 O9.out (by omega) NB9.out⟩ | exact ⟨_, rfl, rfl, (BL.out.trans (H9.out.mono BL.out.size)).alloc (Nat.le_trans BL.out.size H9.out.size) _, (fd.out.below H9.out).old _, (fw.out.below H9.out).old _, (fq.out.below H9.out).old _, (fs.out.below H9.out).old _, (fx.out.below H9.out).old _, (fu.out.below H9.out).old _, DAt.new O9.out.reads⟩
  case rest =>
  clear BL fd fw fq fs fx fu
  obtain ⟨B20, rfl, rfl, BL, fd, fw, fq, fs, fx, fu, fa⟩ := hcut
  obtain ⟨fa1, fax1, fa2, fax2, fa3, fax3, fab, far⟩ := fa.out
  obtain ⟨fap0, _⟩ := fab 0 _ rfl
  obtain ⟨fap1, _⟩ := fab 1 _ rfl
  obtain ⟨fap2, _⟩ := fab 2 _ rfl
  obtain ⟨fap3, _⟩ := fab 3 _ rfl
  go_wp2_with fail
  refine (implDiskSync _ Q _ QQ.out far).mono ?_
  rintro e w12 ⟨v, R9, b9, c9, rfl, hR, ow, hb⟩
  have e9 := XX.out.2.2.2.2.2.symm.trans hR
  injection e9 with e91 e94
  injection e94 with e92 e93
  subst e91 e92 e93
  obtain ⟨i1, ix1, i2, ix2, i3, ix3, rfl⟩ := ow.lit
  clear fab far fap0 fap1 fap2 fap3
  replace BL : Hid (Below w.heap.size w w12) := BL.out.trans (hb.mono BL.out.size)
  replace fd : Hid (DAt w12 (w1.heap.size) D) := fd.out.below hb
  replace fw : Hid (DAt w12 (w3.heap.size) R) := fw.out.below hb
  replace fq : Hid (DAt w12 (w4.heap.size) R) := fq.out.below hb
  replace fs : Hid (DAt w12 (w6.heap.size) Y) := fs.out.below hb
  replace fx : Hid (DAt w12 (B16) X) := fx.out.below hb
  replace fu : Hid (DAt w12 (B18) X) := fu.out.below hb
  replace fa : Hid (DAt w12 (B20) Q) := fa.out.below hb
  replace BL : Hid (Below w.heap.size w (w12.alloc (.cells #[.slice i1 X.S.length ix1, .slice i2 X.C.length ix2, .bool X.A, .slice i3 X.K.length ix3] 27))) := BL.out.alloc BL.out.size _
  replace fd : Hid (DAt (w12.alloc (.cells #[.slice i1 X.S.length ix1, .slice i2 X.C.length ix2, .bool X.A, .slice i3 X.K.length ix3] 27)) (w1.heap.size) D) := fd.out.old _
  replace fw : Hid (DAt (w12.alloc (.cells #[.slice i1 X.S.length ix1, .slice i2 X.C.length ix2, .bool X.A, .slice i3 X.K.length ix3] 27)) (w3.heap.size) R) := fw.out.old _
  replace fq : Hid (DAt (w12.alloc (.cells #[.slice i1 X.S.length ix1, .slice i2 X.C.length ix2, .bool X.A, .slice i3 X.K.length ix3] 27)) (w4.heap.size) R) := fq.out.old _
  replace fs : Hid (DAt (w12.alloc (.cells #[.slice i1 X.S.length ix1, .slice i2 X.C.length ix2, .bool X.A, .slice i3 X.K.length ix3] 27)) (w6.heap.size) Y) := fs.out.old _
  replace fx : Hid (DAt (w12.alloc (.cells #[.slice i1 X.S.length ix1, .slice i2 X.C.length ix2, .bool X.A, .slice i3 X.K.length ix3] 27)) (B16) X) := fx.out.old _
  replace fu : Hid (DAt (w12.alloc (.cells #[.slice i1 X.S.length ix1, .slice i2 X.C.length ix2, .bool X.A, .slice i3 X.K.length ix3] 27)) (B18) X) := fu.out.old _
  replace fa : Hid (DAt (w12.alloc (.cells #[.slice i1 X.S.length ix1, .slice i2 X.C.length ix2, .bool X.A, .slice i3 X.K.length ix3] 27)) (B20) Q) := fa.out.old _
  have fy : Hid (DAt (w12.alloc (.cells #[.slice i1 X.S.length ix1, .slice i2 X.C.length ix2, .bool X.A, .slice i3 X.K.length ix3] 27)) w12.heap.size X) := DAt.new ow.reads
  clear hb hR ow
  obtain ⟨fw1, fwx1, fw2, fwx2, fw3, fwx3, fwb, fwr⟩ := fw.out
  obtain ⟨fwp0, _⟩ := fwb 0 _ rfl
  obtain ⟨fwp1, _⟩ := fwb 1 _ rfl
  obtain ⟨fwp2, _⟩ := fwb 2 _ rfl
  obtain ⟨fwp3, _⟩ := fwb 3 _ rfl
  go_wp2_with fail
  refine (implDiskPending _ R _ RR.out.2.2.2.2.2.1 fwr).mono ?_
  rintro e w13 ⟨u, P9, c9, rfl, hR, ow, hb⟩
  have e9 := (dp_ok RR.out.2.1).symm.trans hR
  injection e9 with e91 e92
  subst e91 e92
  obtain ⟨pa, pc, rfl⟩ := ow.lit
  obtain ⟨pl, hpl⟩ : ∃ pl, (pendTo R.C R.S.length).length = pl := ⟨_, rfl⟩
  have hp0 : ((pl : Int) == 0) = false := by
    have h9 : pl ≠ 0 := fun e0 => RR.out.2.2.2.2.2.2 (List.length_eq_zero_iff.mp (hpl.trans e0))
    simp
    omega
  rw [hpl]
  clear fwb fwr fwp0 fwp1 fwp2 fwp3
  replace BL : Hid (Below w.heap.size w w13) := BL.out.trans (hb.mono BL.out.size)
  replace fd : Hid (DAt w13 (w1.heap.size) D) := fd.out.below hb
  replace fw : Hid (DAt w13 (w3.heap.size) R) := fw.out.below hb
  replace fq : Hid (DAt w13 (w4.heap.size) R) := fq.out.below hb
  replace fs : Hid (DAt w13 (w6.heap.size) Y) := fs.out.below hb
  replace fx : Hid (DAt w13 (B16) X) := fx.out.below hb
  replace fu : Hid (DAt w13 (B18) X) := fu.out.below hb
  replace fa : Hid (DAt w13 (B20) Q) := fa.out.below hb
  replace fy : Hid (DAt w13 (w12.heap.size) X) := fy.out.below hb
  clear hb hR ow hpl
  have hfr : freshB.toList = [102, 114, 101, 115, 104] := by unfold freshB; first | rfl | decide | simp [go_sem]
  obtain ⟨fw1, fwx1, fw2, fwx2, fw3, fwx3, fwb, fwr⟩ := fw.out
  obtain ⟨fwp0, _⟩ := fwb 0 _ rfl
  obtain ⟨fwp1, _⟩ := fwb 1 _ rfl
  obtain ⟨fwp2, _⟩ := fwb 2 _ rfl
  obtain ⟨fwp3, _⟩ := fwb 3 _ rfl
  obtain ⟨fq1, fqx1, fq2, fqx2, fq3, fqx3, fqb, fqr⟩ := fq.out
  obtain ⟨fqp0, _⟩ := fqb 0 _ rfl
  obtain ⟨fqp1, _⟩ := fqb 1 _ rfl
  obtain ⟨fqp2, _⟩ := fqb 2 _ rfl
  obtain ⟨fqp3, _⟩ := fqb 3 _ rfl
  go_wp2_with fail
  refine (sameDisk _ _ R _ RR.out.2.2.2.2.2.1 fwr fqr).mono ?_
  rintro e w14 ⟨rfl, hb⟩
  clear fwb fwr fwp0 fwp1 fwp2 fwp3 fqb fqr fqp0 fqp1 fqp2 fqp3
  replace BL : Hid (Below w.heap.size w w14) := BL.out.trans (hb.mono BL.out.size)
  replace fd : Hid (DAt w14 (w1.heap.size) D) := fd.out.below hb
  replace fw : Hid (DAt w14 (w3.heap.size) R) := fw.out.below hb
  replace fq : Hid (DAt w14 (w4.heap.size) R) := fq.out.below hb
  replace fs : Hid (DAt w14 (w6.heap.size) Y) := fs.out.below hb
  replace fx : Hid (DAt w14 (B16) X) := fx.out.below hb
  replace fu : Hid (DAt w14 (B18) X) := fu.out.below hb
  replace fa : Hid (DAt w14 (B20) Q) := fa.out.below hb
  replace fy : Hid (DAt w14 (w12.heap.size) X) := fy.out.below hb
  clear hb
  obtain ⟨_, _, _, _, _, _, dbb, _⟩ := fd.out
  obtain ⟨dbp, _⟩ := dbb 2 _ rfl
  obtain ⟨fx1, fxx1, fx2, fxx2, fx3, fxx3, fxb, fxr⟩ := fx.out
  obtain ⟨fxp0, _⟩ := fxb 0 _ rfl
  obtain ⟨fxp1, _⟩ := fxb 1 _ rfl
  obtain ⟨fxp2, _⟩ := fxb 2 _ rfl
  obtain ⟨fxp3, _⟩ := fxb 3 _ rfl
  obtain ⟨fu1, fux1, fu2, fux2, fu3, fux3, fub, fur⟩ := fu.out
  obtain ⟨fup0, _⟩ := fub 0 _ rfl
  obtain ⟨fup1, _⟩ := fub 1 _ rfl
  obtain ⟨fup2, _⟩ := fub 2 _ rfl
  obtain ⟨fup3, _⟩ := fub 3 _ rfl
  go_wp2_with fail
  refine (sameDisk _ _ X _ XX.out.2.2.1 fxr fur).mono ?_
  rintro e w15 ⟨rfl, hb⟩
  clear fxb fxr fxp0 fxp1 fxp2 fxp3 fub fur fup0 fup1 fup2 fup3
  replace BL : Hid (Below w.heap.size w w15) := BL.out.trans (hb.mono BL.out.size)
  replace fd : Hid (DAt w15 (w1.heap.size) D) := fd.out.below hb
  replace fw : Hid (DAt w15 (w3.heap.size) R) := fw.out.below hb
  replace fq : Hid (DAt w15 (w4.heap.size) R) := fq.out.below hb
  replace fs : Hid (DAt w15 (w6.heap.size) Y) := fs.out.below hb
  replace fx : Hid (DAt w15 (B16) X) := fx.out.below hb
  replace fu : Hid (DAt w15 (B18) X) := fu.out.below hb
  replace fa : Hid (DAt w15 (B20) Q) := fa.out.below hb
  replace fy : Hid (DAt w15 (w12.heap.size) X) := fy.out.below hb
  clear hb
  clear dbp dbb
  obtain ⟨fy1, fyx1, fy2, fyx2, fy3, fyx3, fyb, fyr⟩ := fy.out
  obtain ⟨fyp0, _⟩ := fyb 0 _ rfl
  obtain ⟨fyp1, _⟩ := fyb 1 _ rfl
  obtain ⟨fyp2, _⟩ := fyb 2 _ rfl
  obtain ⟨fyp3, _⟩ := fyb 3 _ rfl
  obtain ⟨fx1, fxx1, fx2, fxx2, fx3, fxx3, fxb, fxr⟩ := fx.out
  obtain ⟨fxp0, _⟩ := fxb 0 _ rfl
  obtain ⟨fxp1, _⟩ := fxb 1 _ rfl
  obtain ⟨fxp2, _⟩ := fxb 2 _ rfl
  obtain ⟨fxp3, _⟩ := fxb 3 _ rfl
  go_wp2_with fail
  refine (sameDisk _ _ X _ XX.out.2.2.1 fyr fxr).mono ?_
  rintro e w16 ⟨rfl, hb⟩
  clear fyb fyr fyp0 fyp1 fyp2 fyp3 fxb fxr fxp0 fxp1 fxp2 fxp3
  replace BL : Hid (Below w.heap.size w w16) := BL.out.trans (hb.mono BL.out.size)
  replace fd : Hid (DAt w16 (w1.heap.size) D) := fd.out.below hb
  replace fw : Hid (DAt w16 (w3.heap.size) R) := fw.out.below hb
  replace fq : Hid (DAt w16 (w4.heap.size) R) := fq.out.below hb
  replace fs : Hid (DAt w16 (w6.heap.size) Y) := fs.out.below hb
  replace fx : Hid (DAt w16 (B16) X) := fx.out.below hb
  replace fu : Hid (DAt w16 (B18) X) := fu.out.below hb
  replace fa : Hid (DAt w16 (B20) Q) := fa.out.below hb
  replace fy : Hid (DAt w16 (w12.heap.size) X) := fy.out.below hb
  clear hb
  clear fq fu fa fy
  cases al with
  | false =>
    as_aux_lemma =>
      go_wp2_with fail
      go_loopw [27] (fun i wr => ∃ j : Nat, j ≤ D.S.length ∧ i = .int .i64 (j : Int) ∧ Hid (Below w.heap.size w wr) ∧ Hid (DAt wr (w1.heap.size) D) ∧ Hid (DAt wr (w3.heap.size) R) ∧ Hid (DAt wr (w6.heap.size) Y) ∧ Hid (DAt wr (B16) X)) (fun i _ => D.S.length - (intOf i).toNat)
      case atStart => exact ⟨0, by omega, rfl, BL.out, fd.out, fw.out, fs.out, fx.out⟩
      case round =>
        clear BL fd fw fs fx
        obtain ⟨j, hj, rfl, BL, fd, fw, fs, fx⟩ := hrel
        have s80 := OKD.out.2.2.2.1
        by_cases hlt : j < D.S.length
        · have hj0 : (j : Int) < (D.S.length : Int) := by omega
          obtain ⟨y, hy⟩ : ∃ y, dread R (j : Int) = (y, 0) := ⟨_, dr_ok RR.out.2.1 (by rw [RR.out.2.2.2.1]; exact hlt)⟩
          obtain ⟨z, hz⟩ : ∃ z, dread Y (j : Int) = (z, 0) := ⟨_, dr_ok YY.out.2.1 (by rw [YY.out.2.2.1]; exact hlt)⟩
          have YZ : Hid (dread R (j : Int) = (y, 0) ∧ dread Y (j : Int) = (z, 0)) := ⟨hy, hz⟩
          clear hy hz
          obtain ⟨fd1, fdx1, fd2, fdx2, fd3, fdx3, fdb, fdr⟩ := fd.out
          obtain ⟨fdp0, _⟩ := fdb 0 _ rfl
          obtain ⟨fdp1, _⟩ := fdb 1 _ rfl
          obtain ⟨fdp2, _⟩ := fdb 2 _ rfl
          obtain ⟨fdp3, _⟩ := fdb 3 _ rfl
          obtain ⟨fw1, fwx1, fw2, fwx2, fw3, fwx3, fwb, fwr⟩ := fw.out
          obtain ⟨fwp0, _⟩ := fwb 0 _ rfl
          obtain ⟨fwp1, _⟩ := fwb 1 _ rfl
          obtain ⟨fwp2, _⟩ := fwb 2 _ rfl
          obtain ⟨fwp3, _⟩ := fwb 3 _ rfl
          go_wp2_with fail
          refine (implDiskRead _ R (j : Int) _ RR.out.2.2.2.2.2.1 fwr).mono ?_
          rintro e w20 ⟨y9, c9, rfl, hR, hb⟩
          have e9 := YZ.out.1.symm.trans hR
          injection e9 with e91 e92
          subst e91 e92
          clear fdb fdr fdp0 fdp1 fdp2 fdp3 fwb fwr fwp0 fwp1 fwp2 fwp3
          replace BL : Hid (Below w.heap.size w w20) := BL.out.trans (hb.mono BL.out.size)
          replace fd : Hid (DAt w20 (w1.heap.size) D) := fd.out.below hb
          replace fw : Hid (DAt w20 (w3.heap.size) R) := fw.out.below hb
          replace fs : Hid (DAt w20 (w6.heap.size) Y) := fs.out.below hb
          replace fx : Hid (DAt w20 (B16) X) := fx.out.below hb
          clear hb hR
          obtain ⟨fs1, fsx1, fs2, fsx2, fs3, fsx3, fsb, fsr⟩ := fs.out
          obtain ⟨fsp0, _⟩ := fsb 0 _ rfl
          obtain ⟨fsp1, _⟩ := fsb 1 _ rfl
          obtain ⟨fsp2, _⟩ := fsb 2 _ rfl
          obtain ⟨fsp3, _⟩ := fsb 3 _ rfl
          go_wp2_with fail
          refine (implDiskRead _ Y (j : Int) _ YY.out.2.2.2.1 fsr).mono ?_
          rintro e w21 ⟨y9, c9, rfl, hR, hb⟩
          have e9 := YZ.out.2.symm.trans hR
          injection e9 with e91 e92
          subst e91 e92
          clear fsb fsr fsp0 fsp1 fsp2 fsp3
          replace BL : Hid (Below w.heap.size w w21) := BL.out.trans (hb.mono BL.out.size)
          replace fd : Hid (DAt w21 (w1.heap.size) D) := fd.out.below hb
          replace fw : Hid (DAt w21 (w3.heap.size) R) := fw.out.below hb
          replace fs : Hid (DAt w21 (w6.heap.size) Y) := fs.out.below hb
          replace fx : Hid (DAt w21 (B16) X) := fx.out.below hb
          clear hb hR
          go_wp2_with fail
          exact ⟨⟨j + 1, by omega, by go_num, BL.out, fd.out, fw.out, fs.out, fx.out⟩, by simp [intOf]; omega⟩
        · have hj0 : ¬ (j : Int) < (D.S.length : Int) := by omega
          obtain ⟨fd1, fdx1, fd2, fdx2, fd3, fdx3, fdb, fdr⟩ := fd.out
          obtain ⟨fdp0, _⟩ := fdb 0 _ rfl
          obtain ⟨fdp1, _⟩ := fdb 1 _ rfl
          obtain ⟨fdp2, _⟩ := fdb 2 _ rfl
          obtain ⟨fdp3, _⟩ := fdb 3 _ rfl
          obtain ⟨fw1, fwx1, fw2, fwx2, fw3, fwx3, fwb, fwr⟩ := fw.out
          obtain ⟨fwp0, _⟩ := fwb 0 _ rfl
          obtain ⟨fwp1, _⟩ := fwb 1 _ rfl
          obtain ⟨fwp2, _⟩ := fwb 2 _ rfl
          obtain ⟨fwp3, _⟩ := fwb 3 _ rfl
          go_wp2_with fail
          refine (implDiskOK _ R _ RR.out.2.2.2.2.2.1 fwr).mono ?_
          rintro e w22 ⟨rfl, hb⟩
          rw [decide_eq_true RR.out.2.1]
          clear fwb fwr fwp0 fwp1 fwp2 fwp3
          replace BL : Hid (Below w.heap.size w w22) := BL.out.trans (hb.mono BL.out.size)
          replace fd : Hid (DAt w22 (w1.heap.size) D) := fd.out.below hb
          replace fw : Hid (DAt w22 (w3.heap.size) R) := fw.out.below hb
          replace fs : Hid (DAt w22 (w6.heap.size) Y) := fs.out.below hb
          replace fx : Hid (DAt w22 (B16) X) := fx.out.below hb
          clear hb
          obtain ⟨fs1, fsx1, fs2, fsx2, fs3, fsx3, fsb, fsr⟩ := fs.out
          obtain ⟨fsp0, _⟩ := fsb 0 _ rfl
          obtain ⟨fsp1, _⟩ := fsb 1 _ rfl
          obtain ⟨fsp2, _⟩ := fsb 2 _ rfl
          obtain ⟨fsp3, _⟩ := fsb 3 _ rfl
          go_wp2_with fail
          refine (implDiskOK _ Y _ YY.out.2.2.2.1 fsr).mono ?_
          rintro e w23 ⟨rfl, hb⟩
          rw [decide_eq_true YY.out.2.1]
          clear fsb fsr fsp0 fsp1 fsp2 fsp3
          replace BL : Hid (Below w.heap.size w w23) := BL.out.trans (hb.mono BL.out.size)
          replace fd : Hid (DAt w23 (w1.heap.size) D) := fd.out.below hb
          replace fw : Hid (DAt w23 (w3.heap.size) R) := fw.out.below hb
          replace fs : Hid (DAt w23 (w6.heap.size) Y) := fs.out.below hb
          replace fx : Hid (DAt w23 (B16) X) := fx.out.below hb
          clear hb
          obtain ⟨fx1, fxx1, fx2, fxx2, fx3, fxx3, fxb, fxr⟩ := fx.out
          obtain ⟨fxp0, _⟩ := fxb 0 _ rfl
          obtain ⟨fxp1, _⟩ := fxb 1 _ rfl
          obtain ⟨fxp2, _⟩ := fxb 2 _ rfl
          obtain ⟨fxp3, _⟩ := fxb 3 _ rfl
          go_wp2_with fail
          refine (implDiskOK _ X _ XX.out.2.2.1 fxr).mono ?_
          rintro e w24 ⟨rfl, hb⟩
          rw [decide_eq_true XX.out.2.1]
          clear fxb fxr fxp0 fxp1 fxp2 fxp3
          replace BL : Hid (Below w.heap.size w w24) := BL.out.trans (hb.mono BL.out.size)
          replace fd : Hid (DAt w24 (w1.heap.size) D) := fd.out.below hb
          replace fw : Hid (DAt w24 (w3.heap.size) R) := fw.out.below hb
          replace fs : Hid (DAt w24 (w6.heap.size) Y) := fs.out.below hb
          replace fx : Hid (DAt w24 (B16) X) := fx.out.below hb
          clear hb
          go_wp2_with fail
          go_ret
          exact ⟨rfl, BL.out⟩
  | true =>
    as_aux_lemma =>
      go_wp2_with fail
      go_loopw [27] (fun i wr => ∃ j : Nat, j ≤ D.S.length ∧ i = .int .i64 (j : Int) ∧ Hid (Below w.heap.size w wr) ∧ Hid (DAt wr (w1.heap.size) D) ∧ Hid (DAt wr (w3.heap.size) R) ∧ Hid (DAt wr (w6.heap.size) Y) ∧ Hid (DAt wr (B16) X)) (fun i _ => D.S.length - (intOf i).toNat)
      case atStart => exact ⟨0, by omega, rfl, BL.out, fd.out, fw.out, fs.out, fx.out⟩
      case round =>
        clear BL fd fw fs fx
        obtain ⟨j, hj, rfl, BL, fd, fw, fs, fx⟩ := hrel
        have s80 := OKD.out.2.2.2.1
        by_cases hlt : j < D.S.length
        · have hj0 : (j : Int) < (D.S.length : Int) := by omega
          obtain ⟨y, hy⟩ : ∃ y, dread R (j : Int) = (y, 0) := ⟨_, dr_ok RR.out.2.1 (by rw [RR.out.2.2.2.1]; exact hlt)⟩
          have hz : dread Y (j : Int) = (y, 0) := by rw [YY.out.2.2.2.2 (by trivial), dread_sync RR.out.2.1 (by rw [RR.out.2.2.2.1]; exact hlt)]; exact hy
          obtain ⟨z, hzy⟩ : ∃ z, y = z := ⟨_, rfl⟩
          have hyy : (y.toList == y.toList) = true := by simp
          clear hzy
          have YZ : Hid (dread R (j : Int) = (y, 0) ∧ dread Y (j : Int) = (y, 0)) := ⟨hy, hz⟩
          clear hy hz
          obtain ⟨fd1, fdx1, fd2, fdx2, fd3, fdx3, fdb, fdr⟩ := fd.out
          obtain ⟨fdp0, _⟩ := fdb 0 _ rfl
          obtain ⟨fdp1, _⟩ := fdb 1 _ rfl
          obtain ⟨fdp2, _⟩ := fdb 2 _ rfl
          obtain ⟨fdp3, _⟩ := fdb 3 _ rfl
          obtain ⟨fw1, fwx1, fw2, fwx2, fw3, fwx3, fwb, fwr⟩ := fw.out
          obtain ⟨fwp0, _⟩ := fwb 0 _ rfl
          obtain ⟨fwp1, _⟩ := fwb 1 _ rfl
          obtain ⟨fwp2, _⟩ := fwb 2 _ rfl
          obtain ⟨fwp3, _⟩ := fwb 3 _ rfl
          go_wp2_with fail
          refine (implDiskRead _ R (j : Int) _ RR.out.2.2.2.2.2.1 fwr).mono ?_
          rintro e w20 ⟨y9, c9, rfl, hR, hb⟩
          have e9 := YZ.out.1.symm.trans hR
          injection e9 with e91 e92
          subst e91 e92
          clear fdb fdr fdp0 fdp1 fdp2 fdp3 fwb fwr fwp0 fwp1 fwp2 fwp3
          replace BL : Hid (Below w.heap.size w w20) := BL.out.trans (hb.mono BL.out.size)
          replace fd : Hid (DAt w20 (w1.heap.size) D) := fd.out.below hb
          replace fw : Hid (DAt w20 (w3.heap.size) R) := fw.out.below hb
          replace fs : Hid (DAt w20 (w6.heap.size) Y) := fs.out.below hb
          replace fx : Hid (DAt w20 (B16) X) := fx.out.below hb
          clear hb hR
          obtain ⟨fs1, fsx1, fs2, fsx2, fs3, fsx3, fsb, fsr⟩ := fs.out
          obtain ⟨fsp0, _⟩ := fsb 0 _ rfl
          obtain ⟨fsp1, _⟩ := fsb 1 _ rfl
          obtain ⟨fsp2, _⟩ := fsb 2 _ rfl
          obtain ⟨fsp3, _⟩ := fsb 3 _ rfl
          go_wp2_with fail
          refine (implDiskRead _ Y (j : Int) _ YY.out.2.2.2.1 fsr).mono ?_
          rintro e w21 ⟨y9, c9, rfl, hR, hb⟩
          have e9 := YZ.out.2.symm.trans hR
          injection e9 with e91 e92
          subst e91 e92
          clear fsb fsr fsp0 fsp1 fsp2 fsp3
          replace BL : Hid (Below w.heap.size w w21) := BL.out.trans (hb.mono BL.out.size)
          replace fd : Hid (DAt w21 (w1.heap.size) D) := fd.out.below hb
          replace fw : Hid (DAt w21 (w3.heap.size) R) := fw.out.below hb
          replace fs : Hid (DAt w21 (w6.heap.size) Y) := fs.out.below hb
          replace fx : Hid (DAt w21 (B16) X) := fx.out.below hb
          clear hb hR
          go_wp2_with fail
          exact ⟨⟨j + 1, by omega, by go_num, BL.out, fd.out, fw.out, fs.out, fx.out⟩, by simp [intOf]; omega⟩
        · have hj0 : ¬ (j : Int) < (D.S.length : Int) := by omega
          obtain ⟨fd1, fdx1, fd2, fdx2, fd3, fdx3, fdb, fdr⟩ := fd.out
          obtain ⟨fdp0, _⟩ := fdb 0 _ rfl
          obtain ⟨fdp1, _⟩ := fdb 1 _ rfl
          obtain ⟨fdp2, _⟩ := fdb 2 _ rfl
          obtain ⟨fdp3, _⟩ := fdb 3 _ rfl
          obtain ⟨fw1, fwx1, fw2, fwx2, fw3, fwx3, fwb, fwr⟩ := fw.out
          obtain ⟨fwp0, _⟩ := fwb 0 _ rfl
          obtain ⟨fwp1, _⟩ := fwb 1 _ rfl
          obtain ⟨fwp2, _⟩ := fwb 2 _ rfl
          obtain ⟨fwp3, _⟩ := fwb 3 _ rfl
          go_wp2_with fail
          refine (implDiskOK _ R _ RR.out.2.2.2.2.2.1 fwr).mono ?_
          rintro e w22 ⟨rfl, hb⟩
          rw [decide_eq_true RR.out.2.1]
          clear fwb fwr fwp0 fwp1 fwp2 fwp3
          replace BL : Hid (Below w.heap.size w w22) := BL.out.trans (hb.mono BL.out.size)
          replace fd : Hid (DAt w22 (w1.heap.size) D) := fd.out.below hb
          replace fw : Hid (DAt w22 (w3.heap.size) R) := fw.out.below hb
          replace fs : Hid (DAt w22 (w6.heap.size) Y) := fs.out.below hb
          replace fx : Hid (DAt w22 (B16) X) := fx.out.below hb
          clear hb
          obtain ⟨fs1, fsx1, fs2, fsx2, fs3, fsx3, fsb, fsr⟩ := fs.out
          obtain ⟨fsp0, _⟩ := fsb 0 _ rfl
          obtain ⟨fsp1, _⟩ := fsb 1 _ rfl
          obtain ⟨fsp2, _⟩ := fsb 2 _ rfl
          obtain ⟨fsp3, _⟩ := fsb 3 _ rfl
          go_wp2_with fail
          refine (implDiskOK _ Y _ YY.out.2.2.2.1 fsr).mono ?_
          rintro e w23 ⟨rfl, hb⟩
          rw [decide_eq_true YY.out.2.1]
          clear fsb fsr fsp0 fsp1 fsp2 fsp3
          replace BL : Hid (Below w.heap.size w w23) := BL.out.trans (hb.mono BL.out.size)
          replace fd : Hid (DAt w23 (w1.heap.size) D) := fd.out.below hb
          replace fw : Hid (DAt w23 (w3.heap.size) R) := fw.out.below hb
          replace fs : Hid (DAt w23 (w6.heap.size) Y) := fs.out.below hb
          replace fx : Hid (DAt w23 (B16) X) := fx.out.below hb
          clear hb
          obtain ⟨fx1, fxx1, fx2, fxx2, fx3, fxx3, fxb, fxr⟩ := fx.out
          obtain ⟨fxp0, _⟩ := fxb 0 _ rfl
          obtain ⟨fxp1, _⟩ := fxb 1 _ rfl
          obtain ⟨fxp2, _⟩ := fxb 2 _ rfl
          obtain ⟨fxp3, _⟩ := fxb 3 _ rfl
          go_wp2_with fail
          refine (implDiskOK _ X _ XX.out.2.2.1 fxr).mono ?_
          rintro e w24 ⟨rfl, hb⟩
          rw [decide_eq_true XX.out.2.1]
          clear fxb fxr fxp0 fxp1 fxp2 fxp3
          replace BL : Hid (Below w.heap.size w w24) := BL.out.trans (hb.mono BL.out.size)
          replace fd : Hid (DAt w24 (w1.heap.size) D) := fd.out.below hb
          replace fw : Hid (DAt w24 (w3.heap.size) R) := fw.out.below hb
          replace fs : Hid (DAt w24 (w6.heap.size) Y) := fs.out.below hb
          replace fx : Hid (DAt w24 (B16) X) := fx.out.below hb
          clear hb
          go_wp2_with fail
          go_ret
          exact ⟨rfl, BL.out⟩
end Go.Proofs.Ytpbodiaglgkkkaa
