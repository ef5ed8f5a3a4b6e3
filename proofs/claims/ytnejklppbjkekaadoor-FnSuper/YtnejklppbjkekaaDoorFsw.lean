
/-
  The walk of the law FnSuper. By an AI agent.
-/
import Derived.Test.YtnejklppbjkekaaDoorDsu
import Derived.Test.YtnejklppbjkekaaDoorChk
import Derived.Test.YtnejklppbjkekaaDoorSus
namespace Go.Proofs.YtnejklppbjkekaaDoor
open Go.ChangeShapes Go.WideShapes Go.ChangeAt Go.RowKit Go.Deep
set_option linter.unusedVariables false
set_option linter.unusedSimpArgs false
set_option maxRecDepth 100000

theorem ok_small {D : UM} (h : okU D = true) : smallU D := by
  have hf := okU_facts h
  refine ⟨by omega, fun x hx => ?_⟩
  obtain ⟨i, hi, rfl⟩ := List.getElem_of_mem hx
  have h1 := (hf.2.2.2.2.2 i hi).1
  rw [List.getD_eq_getElem?_getD, List.getElem?_eq_getElem hi] at h1
  simp at h1
  omega
theorem sealB_lt {L : List Nat} (h : ∀ z ∈ L, z < 256) : ∀ z ∈ sealB L, z < 256 := fun z hz => by
  unfold sealB at hz
  rcases List.mem_append.1 hz with e | e
  · exact h z e
  · exact numQ_lt _ z e
set_option maxHeartbeats 1000000 in
theorem sameSuper (v v' : Value) (D : UM) (w : World) (hs : D.S.length ≤ 1048576) (h : ReadsU w v D) (h' : ReadsU w v' D) :
    Calls Tryd.prog 22 #[v, v'] w fun e w' => e = .returned (.bool true) ∧ Below w.heap.size w w' := by
  obtain ⟨a, c, rfl, s1⟩ := h
  obtain ⟨b, d, rfl, s2⟩ := h'
  obtain ⟨n, hn⟩ : ∃ n, D.S.length = n := ⟨_, rfl⟩
  obtain ⟨G, hG⟩ : ∃ G, D.G = G := ⟨_, rfl⟩
  obtain ⟨R, hR⟩ : ∃ R, D.R = R := ⟨_, rfl⟩
  have HA : Hid (Src w a (cellsSn D.S)) := s1
  have HB : Hid (Src w b (cellsSn D.S)) := s2
  have HN : Hid (D.S.length = n) := hn
  rw [hn] at hs
  rw [hn, hG, hR]
  have hGG : (G != G) = false := by simp
  have hRR : (R != R) = false := by simp
  have hnn : ((n : Int) != (n : Int)) = false := by simp
  clear s1 s2 hn hG hR
  go_enter Tryd.func22, Tryd.ntmps22
  go_wp2_with fail
  go_loopw [5] (fun i wr => ∃ k : Nat, k ≤ n ∧ i = .int .i64 k ∧ Hid (Below w.heap.size w wr) ∧ Hid (Box wr w.heap.size [.int .i64 G, .int .i64 R, .slice a n c]) ∧ Hid (Box wr (w.heap.size + 1) [.int .i64 G, .int .i64 R, .slice b n d])) (fun i _ => n - (intOf i).toNat)
  case atStart => exact ⟨0, by omega, rfl, ((Below.refl _ _).alloc (Nat.le_refl _) _).alloc (by simp) _, Box.old (Box.new rfl) _, Box.new (by simp)⟩
  case round =>
    obtain ⟨k, hk, rfl, hB, hX, hY⟩ := hrel
    obtain ⟨p2, _⟩ := hX.out 2 _ rfl
    obtain ⟨q2, _⟩ := hY.out 2 _ rfl
    by_cases hlt : k < n
    · have hkL : k < D.S.length := by rw [HN.out]; exact hlt
      obtain ⟨b1, o1, x0, x1, x2, rfl, e0, e1, e2, hx⟩ := srcSn (HA.out.below hB.out) hkL
      obtain ⟨b2, o2, y0, y1, y2, rfl, f0, f1, f2, hy⟩ := srcSn (HB.out.below hB.out) hkL
      have hxy := hx.out.symm.trans hy.out
      simp only [Prod.mk.injEq] at hxy
      obtain ⟨rfl, rfl, rfl⟩ := hxy
      clear hx hy hkL
      have hk0 : (0 : Int) ≤ (k : Int) := by omega
      have hki : (k : Int) < (n : Int) := by omega
      have h11 : (x1 == x1) = true := by simp
      have h22 : (x2 == x2) = true := by simp
      go_wp2_with fail
      go_quiet (fail)
      go_wp2_with fail
      exact ⟨⟨k + 1, by omega, by go_num, Below.drewN' hB.out _, hX.out, hY.out⟩, by simp [intOf]; omega⟩
    · go_wp2_with fail
      go_ret
      exact ⟨rfl, hB.out⟩
set_option maxHeartbeats 4000000 in
theorem superWalk (a ma : Option Addr) (c mc : Nat) (C M : List Nat) (w : World) (hC9 : C.length ≤ maxLen) (hM9 : M.length ≤ maxLen) (hlt : ∀ x ∈ C, x < 256) (hmt : ∀ x ∈ M, x < 256) (h : Src w a (cellsB C)) (hm : Src w ma (cellsB M)) (hH : HasHalf w) :
    Calls Tryd.prog 4 #[.slice a C.length c, .slice ma M.length mc] w fun e w' => e = .returned (.bool true) ∧ Below w.heap.size w w' := by
  unfold maxLen at hC9 hM9
  obtain ⟨n0, hn⟩ : ∃ n, C.length = n := ⟨_, rfl⟩
  obtain ⟨m, hm9⟩ : ∃ m, M.length = m := ⟨_, rfl⟩
  have HN0 : Hid (C.length = n0 ∧ M.length = m) := ⟨hn, hm9⟩
  have HB0 : Hid ((∀ x ∈ C, x < 256) ∧ (∀ x ∈ M, x < 256)) := ⟨hlt, hmt⟩
  have HS : Hid (Src w a (cellsB C) ∧ Src w ma (cellsB M)) := ⟨h, hm⟩
  have HH : Hid (HasHalf w) := hH
  rw [hn] at hC9
  rw [hm9] at hM9
  rw [hn, hm9]
  clear hlt hmt h hm hn hm9 hH
  by_cases t1 : (1048576 : Int) < (n0 : Int)
  · go_enter Tryd.func4, Tryd.ntmps4
    go_wp2_with fail
    go_ret
    exact ⟨rfl, Below.refl _ _⟩
  by_cases t2 : (1048576 : Int) < (m : Int)
  · go_enter Tryd.func4, Tryd.ntmps4
    go_wp2_with fail
    go_ret
    exact ⟨rfl, Below.refl _ _⟩
  have m20 : m ≤ 1048576 := by omega
  go_enter Tryd.func4, Tryd.ntmps4
  go_wp2_with fail
  refine (specSuperOf a n0 c C _ HN0.out.1 (by omega) HB0.out.1 HS.out.1).mono ?_
  rintro e p1 ⟨v1, D, rfl, hok, hru, hb1⟩
  have HR9 := hru
  obtain ⟨a1, c1, rfl, _⟩ := hru
  have SR1 : Hid (ReadsU p1 (.agg #[.int .i64 D.G, .int .i64 D.R, .slice a1 D.S.length c1]) D) := HR9
  have B1 : Hid (Below w.heap.size w p1) := hb1
  have HOK : Hid (okU D = true) := hok
  have SM : Hid (smallU D) := ok_small hok
  have hSl : D.S.length ≤ 1048576 := SM.out.1
  obtain ⟨L, hL⟩ : ∃ L, sealB (superL D) = L := ⟨_, rfl⟩
  have HLD : Hid (sealB (superL D) = L) := hL
  obtain ⟨n, hn⟩ : ∃ n, L.length = n := ⟨_, rfl⟩
  have HN : Hid (L.length = n ∧ M.length = m) := ⟨hn, HN0.out.2⟩
  have hn64 : n ≤ 64 ∧ 8 ≤ n := by
    have h9 := super_len hok
    rw [← hn, ← hL, sealB_length]
    omega
  have HB : Hid ((∀ x ∈ L, x < 256) ∧ (∀ x ∈ M, x < 256)) := ⟨by rw [← hL]; exact sealB_lt superL_lt, HB0.out.2⟩
  have HSB : Hid (superB D = (L, 0)) := by show _ = _; unfold superB; rw [if_pos hok, hL]
  have HRB : Hid (readU L = (D, 0)) := by show _ = _; rw [← hL]; exact readU_back hok
  have A1 : Hid (Below p1.heap.size p1 (p1.alloc (.cells #[.int .i64 D.G, .int .i64 D.R, .slice a1 D.S.length c1] 39))) := (Below.refl _ _).alloc (Nat.le_refl _) _
  clear hb1 HR9 hok hL hn HN0 HB0
  have n20 : n ≤ 1048576 := by omega
  go_wp2_with fail
  refine (implSuperBytes _ D _ SM.out (SR1.out.below A1.out) (HH.out.below (B1.out.alloc B1.out.size _))).mono ?_
  rintro e p2 ⟨u2, R', q', rfl, heq, own2, _, hb2⟩
  obtain ⟨rfl, rfl⟩ : L = R' ∧ 0 = q' := by have h2 := HSB.out.symm.trans heq; simpa using h2
  obtain ⟨g2, c2, rfl, _, s2⟩ := own_some own2 (by rw [HN.out.1]; omega)
  have cp2 := own_capx own2
  rw [HN.out.1] at cp2
  rw [HN.out.1]
  have B2 : Hid (Below w.heap.size w p2) := B1.out.trans ((Below.new hb2).mono B1.out.size)
  have X2 : Hid (Box p2 p1.heap.size [.int .i64 D.G, .int .i64 D.R, .slice a1 D.S.length c1]) := Box.below (Box.new rfl) hb2
  have SR2 : Hid (ReadsU p2 (.agg #[.int .i64 D.G, .int .i64 D.R, .slice a1 D.S.length c1]) D) := SR1.out.below (Below.new hb2)
  have Q2 : Hid (Src p2 (some ⟨g2, 0, none⟩) (cellsB L)) := s2
  have CP2 : Hid (n ≤ c2 ∧ c2 ≤ maxLen) := cp2
  clear heq own2 hb2 s2 cp2 A1 SR1
  obtain ⟨x0, _⟩ := X2.out 0 _ rfl
  obtain ⟨x1, _⟩ := X2.out 1 _ rfl
  obtain ⟨x2, _⟩ := X2.out 2 _ rfl
  go_wp2_with fail
  refine (specSuperBytes _ D _ SM.out SR2.out).mono ?_
  rintro e p3 ⟨u3, R', q', rfl, heq, own3, _, hb3⟩
  obtain ⟨rfl, rfl⟩ : L = R' ∧ 0 = q' := by have h2 := HSB.out.symm.trans heq; simpa using h2
  obtain ⟨g3, c3, rfl, _, s3⟩ := own_some own3 (by rw [HN.out.1]; omega)
  rw [HN.out.1]
  have B3 : Hid (Below w.heap.size w p3) := B2.out.trans (hb3.mono B2.out.size)
  have X3 : Hid (Box p3 p1.heap.size [.int .i64 D.G, .int .i64 D.R, .slice a1 D.S.length c1]) := X2.out.below hb3
  have SR3 : Hid (ReadsU p3 (.agg #[.int .i64 D.G, .int .i64 D.R, .slice a1 D.S.length c1]) D) := SR2.out.below hb3
  have Q3 : Hid (Src p3 (some ⟨g2, 0, none⟩) (cellsB L) ∧ Src p3 (some ⟨g3, 0, none⟩) (cellsB L)) := ⟨Q2.out.below hb3, s3⟩
  clear heq own3 hb3 s3 x0 x1 x2 X2 SR2 Q2 B2
  go_wp2_with fail
  refine (implReadSuper g2 0 n c2 L _ HN.out.1 n20 CP2.out.1 CP2.out.2 HB.out.1 Q3.out.1 (HH.out.below B3.out)).mono ?_
  rintro e p4 ⟨u4, D', q', rfl, heq, own4, hb4⟩
  obtain ⟨rfl, rfl⟩ : D = D' ∧ 0 = q' := by have h2 := HRB.out.symm.trans heq; simpa using h2
  have HR9 := own4.reads
  obtain ⟨b4, d4, rfl, _⟩ := own4.reads
  have B4 : Hid (Below w.heap.size w p4) := B3.out.trans (hb4.mono B3.out.size)
  have X4 : Hid (Box p4 p1.heap.size [.int .i64 D.G, .int .i64 D.R, .slice a1 D.S.length c1]) := X3.out.below hb4
  have SR4 : Hid (ReadsU p4 (.agg #[.int .i64 D.G, .int .i64 D.R, .slice a1 D.S.length c1]) D ∧ ReadsU p4 (.agg #[.int .i64 D.G, .int .i64 D.R, .slice b4 D.S.length d4]) D) := ⟨SR3.out.below hb4, HR9⟩
  have Q4 : Hid (Src p4 (some ⟨g2, 0, none⟩) (cellsB L) ∧ Src p4 (some ⟨g3, 0, none⟩) (cellsB L)) := ⟨Q3.out.1.below hb4, Q3.out.2.below hb4⟩
  have A4 : Hid (Below p4.heap.size p4 (p4.alloc (.cells #[.int .i64 D.G, .int .i64 D.R, .slice b4 D.S.length d4] 39))) := (Below.refl _ _).alloc (Nat.le_refl _) _
  obtain ⟨s, hs⟩ : ∃ s, strB L = s := ⟨_, rfl⟩
  have hcv1 : (convert 22 9 (.slice (some ⟨g2, 0, none⟩) n c2)).run Tryd.prog (p4.alloc (.cells #[.int .i64 D.G, .int .i64 D.R, .slice b4 D.S.length d4] 39)) = .ok (.string s) (p4.alloc (.cells #[.int .i64 D.G, .int .i64 D.R, .slice b4 D.S.length d4] 39)) := by
    have h9 := conv_sub (c := c2) (Q4.out.1.below A4.out) (s := n) (by rw [HN.out.1]; omega)
    rw [List.take_of_length_le (by rw [HN.out.1]; omega), hs] at h9
    exact h9
  have hcv2 : (convert 22 9 (.slice (some ⟨g3, 0, none⟩) n c3)).run Tryd.prog (p4.alloc (.cells #[.int .i64 D.G, .int .i64 D.R, .slice b4 D.S.length d4] 39)) = .ok (.string s) (p4.alloc (.cells #[.int .i64 D.G, .int .i64 D.R, .slice b4 D.S.length d4] 39)) := by
    have h9 := conv_sub (c := c3) (Q4.out.2.below A4.out) (s := n) (by rw [HN.out.1]; omega)
    rw [List.take_of_length_le (by rw [HN.out.1]; omega), hs] at h9
    exact h9
  have hss : (s.toList == s.toList) = true := by simp
  have hn420 : ¬ (420 : Int) < (n : Int) := by omega
  have hnz : ((n : Int) == 0) = false := by simp; omega
  obtain ⟨x0, _⟩ := (X4.out.old (.cells #[.int .i64 D.G, .int .i64 D.R, .slice b4 D.S.length d4] 39)) 0 _ rfl
  obtain ⟨x1, _⟩ := (X4.out.old (.cells #[.int .i64 D.G, .int .i64 D.R, .slice b4 D.S.length d4] 39)) 1 _ rfl
  obtain ⟨x2, _⟩ := (X4.out.old (.cells #[.int .i64 D.G, .int .i64 D.R, .slice b4 D.S.length d4] 39)) 2 _ rfl
  clear heq own4 hb4 HR9 hs X3 SR3 Q3 B3
  go_wp2_with fail
  refine (sameSuper _ _ D _ hSl (SR4.out.2.below A4.out) (SR4.out.1.below A4.out)).mono ?_
  rintro e p5 ⟨rfl, hb5⟩
  have B5 : Hid (Below w.heap.size w p5) := B4.out.trans ((Below.new hb5).mono B4.out.size)
  have X5 : Hid (Box p5 p1.heap.size [.int .i64 D.G, .int .i64 D.R, .slice a1 D.S.length c1]) := X4.out.below (Below.new hb5)
  have SR5 : Hid (ReadsU p5 (.agg #[.int .i64 D.G, .int .i64 D.R, .slice a1 D.S.length c1]) D) := SR4.out.1.below (Below.new hb5)
  have Q5 : Hid (Src p5 (some ⟨g2, 0, none⟩) (cellsB L)) := Q4.out.1.below (Below.new hb5)
  clear hb5 x0 x1 x2 hcv1 hcv2 X4 SR4 Q4 A4 B4
  obtain ⟨x0, _⟩ := X5.out 0 _ rfl
  obtain ⟨x1, _⟩ := X5.out 1 _ rfl
  obtain ⟨x2, _⟩ := X5.out 2 _ rfl
  go_wp2_with fail
  refine (implSuperOK _ D _ SM.out SR5.out).mono ?_
  rw [HOK.out]
  rintro e w2 ⟨rfl, hb2⟩
  have B2 : Hid (Below w.heap.size w w2) := B5.out.trans (hb2.mono B5.out.size)
  have Z2 : Hid (w.heap.size ≤ w2.heap.size) := B2.out.size
  have Q2 : Hid (Src w2 (some ⟨g2, 0, none⟩) (cellsB L)) := Q5.out.below hb2
  clear hb2 x0 x1 x2 X5 SR5 Q5 B5
  have O2 : Hid (World.ownsRow (w2.alloc (.cells #[] 5)) w2.heap.size 5 1 (.slice (some ⟨w2.heap.size, 0, none⟩) 0 0) 0 []) := own_empty rfl (Nat.le_refl _)
  go_wp2_with (at_builtin; refine wpList_append_src _ rfl _ _ 22 rfl w2.heap.size 5 (.int .u8 0) 1 1 Tryd.underlying22 infoB rfl (by decide) (by decide) _ 0 [] rfl O2.out (some ⟨g2, 0, none⟩) n c2 (cellsB L) rfl (by rw [cellsB_length, HN.out.1]; omega) (Q2.out.below ((Below.refl _ _).alloc (Nat.le_refl _) _)) (cellsB_one _) (by omega) (by simp) ?_)
  intro v3 w3 hown3 hgrow3
  have B3' : Below w2.heap.size w2 w3 := below_append hgrow3 (fun g e => by cases e; exact Nat.le_refl _)
  have B3 : Hid (Below w.heap.size w w3) := B2.out.trans (B3'.mono Z2.out)
  obtain ⟨g, cap, rfl, hcap, _⟩ := own_some hown3 (by omega)
  have CAP : Hid (n ≤ cap ∧ cap ≤ maxLen) := own_capx hown3
  have O3 : Hid (w3.ownsRow w2.heap.size 5 1 (.slice (some ⟨g, 0, none⟩) n cap) n (cellsB L)) := hown3
  clear hown3 hgrow3 B3' O2
  go_wp2_with fail
  have pn0 : (0 : Int) ≤ (n : Int) := by omega
  refine wp_region_noPanic ?_
  refine wp_region_any (by kernel_rfl) ?_
  show wpAny _ _ _ _ _ _ _ w3.drew
  refine wpAny_take (i := 0) (v := .slice (some ⟨g, 0, none⟩) n cap) rfl (by kernel_rfl) (by kernel_rfl) (by kernel_rfl) (fun _ _ _ h => h) (Or.inl ⟨by rfl, fun w9 => by go_simp⟩) ?_
  refine wpAny_take (i := 1) (v := .slice ma m mc) rfl (by kernel_rfl) (by kernel_rfl) (by kernel_rfl) (fun _ _ _ h => h) (Or.inl ⟨by rfl, fun w9 => by go_simp⟩) ?_
  refine wpAny_take (i := 2) (v := .slice (some ⟨g, 0, none⟩) n cap) rfl (by kernel_rfl) (by kernel_rfl) (by kernel_rfl) (fun _ _ _ h => h) (Or.inl ⟨by rfl, fun w9 => by go_simp⟩) ?_
  refine wpAny_take (i := 3) (v := .int .i64 (n : Int)) rfl (by kernel_rfl) (by kernel_rfl) (by kernel_rfl) (fun _ _ _ h => h) (Or.inl ⟨by rfl, fun w9 => by go_simp⟩) ?_
  refine wpAny_take (i := 7) (v := .slice ma m mc) rfl (by kernel_rfl) (by kernel_rfl) (by kernel_rfl) (fun _ _ _ h => h) (Or.inl ⟨by rfl, fun w9 => by go_simp⟩) ?_
  refine wpAny_ready (rs := [4]) (by kernel_rfl) (by simp) ?_
  refine AllReady.cons rfl (fun K hK => ?_) AllReady.nil
  have HK : Hid _ := hK
  clear hK
  go_simp
  refine (lawAt ma m mc M 0 n _ HN.out.2 m20 (by omega) (by omega) (by omega) HB.out.2 (HS.out.2.below B3.out.drew)).mono ?_
  rintro e w4 ⟨x, rfl, hx, hb4⟩
  dsimp only
  have B4 : Hid (Below w.heap.size w w4) := B3.out.drew.trans (hb4.mono B3.out.size)
  have O4 : Hid (w4.ownsRow w2.heap.size 5 1 (.slice (some ⟨g, 0, none⟩) n cap) n (cellsB L)) := own_below (w := w3.drew) O3.out hb4
  clear hb4
  refine HK.out _ _ ?_
  clear HK K
  have px0 : (0 : Int) ≤ (x : Int) := by omega
  have px1 : (x : Int) < (n : Int) := by omega
  obtain ⟨y, hy⟩ : ∃ y, L.getD x 0 = y := ⟨_, rfl⟩
  have HY : Hid (L.getD x 0 = y) := hy
  have hy8 : y < 256 := by rw [← hy]; exact zL_lt HB.out.1 x
  have CE : Hid (∀ w9 : World, w9.ownsRow w2.heap.size 5 1 (.slice (some ⟨g, 0, none⟩) n cap) n (cellsB L) → w9.cell? ⟨g, x, none⟩ = some (.int .u8 (y : Int)) ∧ w9.frozen? ⟨g, x, none⟩ = false) := fun w9 h9 => by
    have h8 := own_cell h9 (i := x) (by rw [cellsB_length, HN.out.1]; exact hx)
    rw [getD_some (cellsB_get L x (by rw [HN.out.1]; exact hx)), hy] at h8
    exact h8
  clear hy
  refine wpAny_take (i := 5) (v := .pointer (some ⟨g, x, none⟩)) rfl (by kernel_rfl) (by kernel_rfl) (by kernel_rfl) (fun _ _ _ h => h) (Or.inl ⟨by rfl, fun w9 => by go_simp⟩) ?_
  refine wpAny_ready (rs := [6, 8]) (by kernel_rfl) (by simp) ?_
  refine AllReady.cons rfl (fun K hK => ?_) (AllReady.cons rfl (fun K hK => ?_) AllReady.nil)
  · have HK : Hid _ := hK
    clear hK
    obtain ⟨c1, c2⟩ := CE.out _ O4.out
    go_simp
    refine HK.out _ _ ?_
    clear HK K c1 c2
    refine wpAny_ready (rs := [8]) (by kernel_rfl) (by simp) ?_
    refine AllReady.cons rfl (fun K hK => ?_) AllReady.nil
    have HK : Hid _ := hK
    clear hK
    go_simp
    refine (lawAt ma m mc M 1 255 _ HN.out.2 m20 (by omega) (by omega) (by omega) HB.out.2 (HS.out.2.below B4.out)).mono ?_
    rintro e w5 ⟨bb, rfl, hbb, hb5⟩
    dsimp only
    have B5 : Hid (Below w.heap.size w w5) := B4.out.trans (hb5.mono B4.out.size)
    have O5 : Hid (w5.ownsRow w2.heap.size 5 1 (.slice (some ⟨g, 0, none⟩) n cap) n (cellsB L)) := own_below O4.out hb5
    clear hb5
    refine HK.out _ _ ?_
    clear HK K
    have hb64 : IntKind.u8.wrap (1 + (bb : Int)) = ((bb + 1 : Nat) : Int) := by rw [IntKind.wrap_u8]; omega
    have hb65 : IntKind.u8.wrap ((bb : Int) + 1) = ((bb + 1 : Nat) : Int) := by rw [IntKind.wrap_u8]; omega
    have hb66 : IntKind.i64.wrap (1 + (bb : Int)) = 1 + (bb : Int) := by rw [IntKind.wrap_i64]; omega
    obtain ⟨mk, hmk⟩ : ∃ mk, bb + 1 = mk := ⟨_, rfl⟩
    have hmk8 : mk < 256 ∧ mk ≠ 0 := by omega
    rw [hmk] at hb64 hb65
    have hmk9 : Hid (bb + 1 = mk) := hmk
    clear hmk
    obtain ⟨xr, hxr⟩ : ∃ xr, y ^^^ mk = xr := ⟨_, rfl⟩
    have hxo : bits .xor .u8 (y : Int) (mk : Int) = (xr : Int) := by rw [← hxr]; exact u8_xor_nat y mk hy8 hmk8.1
    have hxr8 : Hid (xr < 256 ∧ xr ≠ y) := by
      refine ⟨by rw [← hxr]; exact Nat.xor_lt_two_pow (n := 8) (by omega) (by omega), fun e => ?_⟩
      rw [← hxr] at e
      have h9 : y ^^^ mk = y ^^^ 0 := by rw [e]; simp
      have h8 := congrArg (fun t => y ^^^ t) h9
      simp only [← Nat.xor_assoc, Nat.xor_self, Nat.zero_xor] at h8
      exact hmk8.2 h8
    clear hxr
    refine wpAny_take (i := 9) (v := .int .i64 (1 + (bb : Int))) rfl (by kernel_rfl) (by kernel_rfl) (by kernel_rfl) (fun _ _ _ h => h) (Or.inl ⟨by rfl, fun w9 => by go_simp⟩) ?_
    refine wpAny_take (i := 10) (v := .int .u8 (mk : Int)) rfl (by kernel_rfl) (by kernel_rfl) (by kernel_rfl) (fun _ _ _ h => h) (Or.inl ⟨by rfl, fun w9 => by go_simp⟩) ?_
    refine wpAny_take (i := 11) (v := .int .u8 (xr : Int)) rfl (by kernel_rfl) (by kernel_rfl) (by kernel_rfl) (fun _ _ _ h => h) (Or.inl ⟨by rfl, fun w9 => by go_simp⟩) ?_
    refine wpAny_take (i := 12) (v := .pointer (some ⟨g, x, none⟩)) rfl (by kernel_rfl) (by kernel_rfl) (by kernel_rfl) (fun _ _ _ h => h) (Or.inl ⟨by rfl, fun w9 => by go_simp⟩) ?_
    obtain ⟨c1, c2⟩ := CE.out _ O5.out
    refine wpAny_ready (rs := [13]) (by kernel_rfl) (by simp) ?_
    refine AllReady.cons rfl (fun K hK => ?_) AllReady.nil
    have HK : Hid _ := hK
    clear hK
    go_simp
    refine HK.out _ _ ?_
    clear HK K c1 c2
    refine wpAny_done (by kernel_rfl) ?_ _
    refine NoPanic.normal ?_
    have LEN : Hid ((L.set x xr).length = n) := by show _ = n; rw [List.length_set]; exact HN.out.1
    have O6 : Hid ((w5.setCell ⟨g, x, none⟩ (.int .u8 (xr : Int))).ownsRow w2.heap.size 5 1 (.slice (some ⟨g, 0, none⟩) n cap) n (cellsB (L.set x xr))) := by
      have h9 := own_set O5.out x (by rw [cellsB_length, HN.out.1]; exact hx) (.int .u8 (xr : Int))
      have e9 : (cellsB L).set x (.int .u8 (xr : Int)) = cellsB (L.set x xr) := by unfold cellsB; rw [← List.map_set]
      rw [e9] at h9
      exact h9
    have B6 : Hid (Below w.heap.size w (w5.setCell ⟨g, x, none⟩ (.int .u8 (xr : Int)))) := B5.out.setCell (by have h9 := (O5.out.lt g rfl).1; have h8 := Z2.out; show w.heap.size ≤ g; omega) _
    have L8 : Hid (∀ t ∈ L.set x xr, t < 256) := fun t ht => by
      rcases List.mem_or_eq_of_mem_set ht with h9 | rfl
      · exact HB.out.1 t h9
      · exact hxr8.out.1
    have FL : Hid (readU (L.set x xr) = (um0, 8)) := by
      show _ = _
      rw [← HLD.out]
      refine readU_flip HOK.out ?_ hxr8.out.1 ?_
      · have h9 : (sealB (superL D)).length = n := by rw [HLD.out]; exact HN.out.1
        rw [sealB_length] at h9
        omega
      · rw [HLD.out, HY.out]
        exact fun e9 => hxr8.out.2 e9.symm
    obtain ⟨oa, oc, oe, os, _⟩ := own_src O6.out
    cases oe
    have OS : Hid (Src (w5.setCell ⟨g, x, none⟩ (.int .u8 (xr : Int))) (some ⟨g, 0, none⟩) (cellsB (L.set x xr))) := os
    clear os
    go_wp2_with fail
    refine (implReadSuper g 0 n cap (L.set x xr) _ LEN.out n20 CAP.out.1 CAP.out.2 L8.out OS.out (HH.out.below B6.out)).mono ?_
    rintro e w7 ⟨u7, D7, q7, rfl, heq7, own7, hb7⟩
    obtain ⟨rfl, rfl⟩ : um0 = D7 ∧ 8 = q7 := by have h2 := FL.out.symm.trans heq7; simpa using h2
    obtain ⟨b7, d7, rfl⟩ := own7.lit
    have B7 : Hid (Below w.heap.size w (w7.alloc (.cells #[.int .i64 um0.G, .int .i64 um0.R, .slice b7 um0.S.length d7] 39))) := (B6.out.trans (hb7.mono B6.out.size)).alloc (B6.out.trans (hb7.mono B6.out.size)).size _
    clear heq7 own7 hb7
    go_wp2_with fail
    go_ret
    exact ⟨rfl, B7.out⟩
  · have HK : Hid _ := hK
    clear hK
    go_simp
    refine (lawAt ma m mc M 1 255 _ HN.out.2 m20 (by omega) (by omega) (by omega) HB.out.2 (HS.out.2.below B4.out)).mono ?_
    rintro e w5 ⟨bb, rfl, hbb, hb5⟩
    dsimp only
    have B5 : Hid (Below w.heap.size w w5) := B4.out.trans (hb5.mono B4.out.size)
    have O5 : Hid (w5.ownsRow w2.heap.size 5 1 (.slice (some ⟨g, 0, none⟩) n cap) n (cellsB L)) := own_below O4.out hb5
    clear hb5
    refine HK.out _ _ ?_
    clear HK K
    have hb64 : IntKind.u8.wrap (1 + (bb : Int)) = ((bb + 1 : Nat) : Int) := by rw [IntKind.wrap_u8]; omega
    have hb65 : IntKind.u8.wrap ((bb : Int) + 1) = ((bb + 1 : Nat) : Int) := by rw [IntKind.wrap_u8]; omega
    have hb66 : IntKind.i64.wrap (1 + (bb : Int)) = 1 + (bb : Int) := by rw [IntKind.wrap_i64]; omega
    obtain ⟨mk, hmk⟩ : ∃ mk, bb + 1 = mk := ⟨_, rfl⟩
    have hmk8 : mk < 256 ∧ mk ≠ 0 := by omega
    rw [hmk] at hb64 hb65
    have hmk9 : Hid (bb + 1 = mk) := hmk
    clear hmk
    obtain ⟨xr, hxr⟩ : ∃ xr, y ^^^ mk = xr := ⟨_, rfl⟩
    have hxo : bits .xor .u8 (y : Int) (mk : Int) = (xr : Int) := by rw [← hxr]; exact u8_xor_nat y mk hy8 hmk8.1
    have hxr8 : Hid (xr < 256 ∧ xr ≠ y) := by
      refine ⟨by rw [← hxr]; exact Nat.xor_lt_two_pow (n := 8) (by omega) (by omega), fun e => ?_⟩
      rw [← hxr] at e
      have h9 : y ^^^ mk = y ^^^ 0 := by rw [e]; simp
      have h8 := congrArg (fun t => y ^^^ t) h9
      simp only [← Nat.xor_assoc, Nat.xor_self, Nat.zero_xor] at h8
      exact hmk8.2 h8
    clear hxr
    refine wpAny_take (i := 9) (v := .int .i64 (1 + (bb : Int))) rfl (by kernel_rfl) (by kernel_rfl) (by kernel_rfl) (fun _ _ _ h => h) (Or.inl ⟨by rfl, fun w9 => by go_simp⟩) ?_
    refine wpAny_take (i := 10) (v := .int .u8 (mk : Int)) rfl (by kernel_rfl) (by kernel_rfl) (by kernel_rfl) (fun _ _ _ h => h) (Or.inl ⟨by rfl, fun w9 => by go_simp⟩) ?_
    refine wpAny_ready (rs := [6]) (by kernel_rfl) (by simp) ?_
    refine AllReady.cons rfl (fun K hK => ?_) AllReady.nil
    have HK : Hid _ := hK
    clear hK
    obtain ⟨c1, c2⟩ := CE.out _ O5.out
    go_simp
    refine HK.out _ _ ?_
    clear HK K c1 c2
    refine wpAny_take (i := 11) (v := .int .u8 (xr : Int)) rfl (by kernel_rfl) (by kernel_rfl) (by kernel_rfl) (fun _ _ _ h => h) (Or.inl ⟨by rfl, fun w9 => by go_simp⟩) ?_
    refine wpAny_take (i := 12) (v := .pointer (some ⟨g, x, none⟩)) rfl (by kernel_rfl) (by kernel_rfl) (by kernel_rfl) (fun _ _ _ h => h) (Or.inl ⟨by rfl, fun w9 => by go_simp⟩) ?_
    obtain ⟨c1, c2⟩ := CE.out _ O5.out
    refine wpAny_ready (rs := [13]) (by kernel_rfl) (by simp) ?_
    refine AllReady.cons rfl (fun K hK => ?_) AllReady.nil
    have HK : Hid _ := hK
    clear hK
    go_simp
    refine HK.out _ _ ?_
    clear HK K c1 c2
    refine wpAny_done (by kernel_rfl) ?_ _
    refine NoPanic.normal ?_
    have LEN : Hid ((L.set x xr).length = n) := by show _ = n; rw [List.length_set]; exact HN.out.1
    have O6 : Hid ((w5.setCell ⟨g, x, none⟩ (.int .u8 (xr : Int))).ownsRow w2.heap.size 5 1 (.slice (some ⟨g, 0, none⟩) n cap) n (cellsB (L.set x xr))) := by
      have h9 := own_set O5.out x (by rw [cellsB_length, HN.out.1]; exact hx) (.int .u8 (xr : Int))
      have e9 : (cellsB L).set x (.int .u8 (xr : Int)) = cellsB (L.set x xr) := by unfold cellsB; rw [← List.map_set]
      rw [e9] at h9
      exact h9
    have B6 : Hid (Below w.heap.size w (w5.setCell ⟨g, x, none⟩ (.int .u8 (xr : Int)))) := B5.out.setCell (by have h9 := (O5.out.lt g rfl).1; have h8 := Z2.out; show w.heap.size ≤ g; omega) _
    have L8 : Hid (∀ t ∈ L.set x xr, t < 256) := fun t ht => by
      rcases List.mem_or_eq_of_mem_set ht with h9 | rfl
      · exact HB.out.1 t h9
      · exact hxr8.out.1
    have FL : Hid (readU (L.set x xr) = (um0, 8)) := by
      show _ = _
      rw [← HLD.out]
      refine readU_flip HOK.out ?_ hxr8.out.1 ?_
      · have h9 : (sealB (superL D)).length = n := by rw [HLD.out]; exact HN.out.1
        rw [sealB_length] at h9
        omega
      · rw [HLD.out, HY.out]
        exact fun e9 => hxr8.out.2 e9.symm
    obtain ⟨oa, oc, oe, os, _⟩ := own_src O6.out
    cases oe
    have OS : Hid (Src (w5.setCell ⟨g, x, none⟩ (.int .u8 (xr : Int))) (some ⟨g, 0, none⟩) (cellsB (L.set x xr))) := os
    clear os
    go_wp2_with fail
    refine (implReadSuper g 0 n cap (L.set x xr) _ LEN.out n20 CAP.out.1 CAP.out.2 L8.out OS.out (HH.out.below B6.out)).mono ?_
    rintro e w7 ⟨u7, D7, q7, rfl, heq7, own7, hb7⟩
    obtain ⟨rfl, rfl⟩ : um0 = D7 ∧ 8 = q7 := by have h2 := FL.out.symm.trans heq7; simpa using h2
    obtain ⟨b7, d7, rfl⟩ := own7.lit
    have B7 : Hid (Below w.heap.size w (w7.alloc (.cells #[.int .i64 um0.G, .int .i64 um0.R, .slice b7 um0.S.length d7] 39))) := (B6.out.trans (hb7.mono B6.out.size)).alloc (B6.out.trans (hb7.mono B6.out.size)).size _
    clear heq7 own7 hb7
    go_wp2_with fail
    go_ret
    exact ⟨rfl, B7.out⟩
end Go.Proofs.YtnejklppbjkekaaDoor
