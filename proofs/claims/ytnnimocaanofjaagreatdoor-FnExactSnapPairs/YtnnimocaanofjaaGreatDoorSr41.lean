/-
  Texts of the store, brought together: Stm. By an AI agent.
-/
import Derived.Test.YtnnimocaanofjaaGreatDoorSr40
namespace Go.Proofs.YtnnimocaanofjaaGreatDoor
set_option linter.unusedSectionVars false
variable [DecidableEq NM]
open Go.ChangeShapes Go.WideShapes Go.ChangeAt Go.RowKit Go.Deep
set_option linter.unusedVariables false
set_option linter.unusedSimpArgs false
set_option maxRecDepth 100000
set_option maxHeartbeats 400000 in
theorem szPendingM (a : Option Addr) (n c : Nat) (L : List (Int × ByteArray)) (l : Int) (w : World) (hL : L.length = n) (hn : n ≤ maxLen) (hs : ∀ x ∈ L, x.2.size ≤ maxLen) (h0 : 0 ≤ l) (h1 : l ≤ 1048576) (h : Src w a (cellsQ L)) :
    Calls Tryz.prog 44 #[.slice a n c, .int .i64 l] w fun e w' => ∃ r : Int, e = .returned (.int .i64 r) ∧ r ≤ l ∧ (0 ≤ r → r + n ≤ l ∧ n ≤ 1048576 ∧ ∀ x ∈ L, x.2.size ≤ 1048576) ∧ Below w.heap.size w w' := by
  unfold maxLen at hn
  by_cases hbig : l < n
  · clear h hs hL
    go_enter Tryz.func44, Tryz.ntmps44
    go_wp2_with fail
    go_ret
    exact ⟨-1, rfl, by omega, fun h => absurd h (by omega), Below.refl _ _⟩
  have HS : Hid (∀ i, i < n → (L.getD i q0).2.size ≤ maxLen) := fun i hi => hs _ (by
    rw [List.getD_eq_getElem?_getD, List.getElem?_eq_getElem (by omega)]; exact List.getElem_mem _)
  have HH : Hid (Src w a (cellsQ L)) := h
  have HL : Hid (L.length = n) := hL
  clear hs h hL
  go_enter Tryz.func44, Tryz.ntmps44
  go_wp2_with fail
  go_loopw [1, 5] (fun v i wr => ∃ (k : Nat) (x : Int), k ≤ n ∧ i = .int .i64 k ∧ v = .int .i64 x ∧ 0 ≤ x ∧ x + n ≤ l ∧ Hid (∀ i, i < k → (L.getD i q0).2.size ≤ 1048576) ∧ Hid (Below w.heap.size w wr)) (fun _ i _ => n - (intOf i).toNat)
  case atStart => exact ⟨0, _, by omega, rfl, rfl, by omega, by omega, fun i hi => absurd hi (by omega), Below.refl _ _⟩
  case round =>
    obtain ⟨k, x, hk, rfl, rfl, hx0, hx1, hall, hb⟩ := hrel
    by_cases hlt : k < n
    · obtain ⟨b, o, p, y, rfl, hc1, hc2, hy⟩ := srcQ (HH.out.below hb.out) (i := k) (by rw [HL.out]; exact hlt)
      have hsz := HS.out k hlt
      rw [hy.out] at hsz
      have HSZ : Hid (y.size ≤ maxLen) := hsz
      clear hsz
      go_wp2_with fail
      refine (szPending p y x _ HSZ.out hx0 (by omega)).mono ?_
      rintro e w1 ⟨r, rfl, hr1, hr2, hb1⟩
      have HB1 : Hid (Below w.heap.size w w1) := hb.out.trans (hb1.mono hb.out.size)
      clear hb1
      by_cases hneg : r < 0
      · clear hr2
        go_wp2_with fail
        go_ret
        exact ⟨-1, rfl, by omega, fun h => absurd h (by omega), HB1.out⟩
      · have hr3 := hr2 (by omega)
        have hall2 : Hid (∀ i, i < k + 1 → (L.getD i q0).2.size ≤ 1048576) := fun i hi => by
          by_cases e : i = k
          · rw [e, hy.out]; show y.size ≤ 1048576; omega
          · exact hall.out i (by omega)
        clear hr2 hr3
        go_wp2_with fail
        exact ⟨⟨k + 1, _, by omega, by go_num, rfl, by omega, by omega, hall2, HB1.out⟩, by simp [intOf]; omega⟩
    · have hkn : k = n := by omega
      have hall' : Hid (∀ x ∈ L, x.2.size ≤ 1048576) := fun y hy => by
        obtain ⟨i, hi, rfl⟩ := List.getElem_of_mem hy
        have := hall.out i (by rw [hkn, ← HL.out]; exact hi)
        rw [List.getD_eq_getElem?_getD, List.getElem?_eq_getElem hi] at this
        exact this
      clear hkn
      go_wp2_with fail
      go_ret
      exact ⟨x, rfl, by omega, fun _ => ⟨hx1, by omega, hall'.out⟩, hb.out⟩
set_option maxHeartbeats 2000000 in
theorem szDiskM (v : Value) (D : DM) (w : World) (hm : D.S.length ≤ maxLen ∧ (∀ x ∈ D.S, x.size ≤ maxLen) ∧ D.C.length ≤ maxLen ∧ (∀ x ∈ D.C, x.2.size ≤ maxLen) ∧ D.K.length ≤ maxLen) (h : ReadsD w v D) :
    Calls Tryz.prog 13 #[v, .int .i64 1048576] w fun e w' => ∃ r : Int, e = .returned (.int .i64 r) ∧ r ≤ 1048576 ∧ (0 ≤ r → smallD D ∧ r + D.S.length + D.C.length + D.K.length ≤ 1048576) ∧ Below w.heap.size w w' := by
  obtain ⟨a1, c1, a2, c2, a3, c3, rfl, s1, s2, s3⟩ := h
  have HM : Hid (D.S.length ≤ maxLen ∧ (∀ x ∈ D.S, x.size ≤ maxLen) ∧ D.C.length ≤ maxLen ∧ (∀ x ∈ D.C, x.2.size ≤ maxLen) ∧ D.K.length ≤ maxLen) := hm
  have S1 : Hid (Src w a1 (cellsS D.S)) := s1
  have S2 : Hid (Src w a2 (cellsQ D.C)) := s2
  obtain ⟨n1, hn1⟩ : ∃ n, D.S.length = n := ⟨_, rfl⟩
  obtain ⟨n2, hn2⟩ : ∃ n, D.C.length = n := ⟨_, rfl⟩
  obtain ⟨n3, hn3⟩ : ∃ n, D.K.length = n := ⟨_, rfl⟩
  obtain ⟨A, hA⟩ : ∃ A, D.A = A := ⟨_, rfl⟩
  rw [hn1, hn2, hn3, hA]
  have N1 : Hid (D.S.length = n1) := hn1
  have N2 : Hid (D.C.length = n2) := hn2
  have N3 : Hid (D.K.length = n3) := hn3
  clear hm s1 s2 s3 hn1 hn2 hn3 hA
  go_enter Tryz.func13, Tryz.ntmps13
  go_wp2_with fail
  refine (szStringS a1 n1 c1 D.S 1048576 _ N1.out (by rw [← N1.out]; exact HM.out.1) HM.out.2.1 (by omega) (by omega) (S1.out.below ((Below.refl _ _).alloc (Nat.le_refl _) _))).mono ?_
  rintro e w1 ⟨r1, rfl, hl1, hr1, hb1⟩
  have B1 : Hid (Below w.heap.size w w1) := ((Below.refl _ _).alloc (Nat.le_refl _) _).trans (hb1.mono (by simp))
  have HA : Hid (Box w1 w.heap.size [.slice a1 n1 c1, .slice a2 n2 c2, .bool A, .slice a3 n3 c3]) := Box.below (Box.new rfl) hb1
  have HR1 : Hid (0 ≤ r1 → n1 ≤ 1048576 ∧ ∀ x ∈ D.S, x.size ≤ 1048576) := fun h9 => (hr1 h9).2
  have HT1 : Hid (0 ≤ r1 → r1 + n1 ≤ 1048576) := fun h9 => (hr1 h9).1
  clear hb1 hr1
  by_cases hneg1 : r1 < 0
  · go_wp2_with fail
    go_ret
    exact ⟨-1, rfl, by omega, fun h => absurd h (by omega), B1.out⟩
  obtain ⟨p1, _⟩ := HA.out 1 _ rfl
  go_wp2_with fail
  refine (szPendingM a2 n2 c2 D.C r1 _ N2.out (by rw [← N2.out]; exact HM.out.2.2.1) HM.out.2.2.2.1 (by omega) (by omega) (S2.out.below B1.out)).mono ?_
  rintro e w2 ⟨r2, rfl, hl2, hr2, hb2⟩
  have B2 : Hid (Below w.heap.size w w2) := B1.out.trans (hb2.mono B1.out.size)
  have HA2 : Hid (Box w2 w.heap.size [.slice a1 n1 c1, .slice a2 n2 c2, .bool A, .slice a3 n3 c3]) := HA.out.below hb2
  have HR2 : Hid (0 ≤ r2 → n2 ≤ 1048576 ∧ ∀ x ∈ D.C, x.2.size ≤ 1048576) := fun h9 => (hr2 h9).2
  have HT2 : Hid (0 ≤ r2 → r2 + n2 ≤ r1) := fun h9 => (hr2 h9).1
  clear hb2 hr2 HA p1
  by_cases hneg2 : r2 < 0
  · go_wp2_with fail
    go_ret
    exact ⟨-1, rfl, by omega, fun h => absurd h (by omega), B2.out⟩
  obtain ⟨p3, _⟩ := HA2.out 3 _ rfl
  go_wp2_with fail
  refine (szIntS a3 n3 c3 r2 _ (by rw [← N3.out]; exact HM.out.2.2.2.2) (by omega) (by omega)).mono ?_
  rintro e w3 ⟨r3, rfl, hl3, hr3, hb3⟩
  have B3 : Hid (Below w.heap.size w w3) := B2.out.trans (hb3.mono B2.out.size)
  have HR3 : Hid (0 ≤ r3 → n3 ≤ 1048576) := fun h9 => (hr3 h9).2
  have HT3 : Hid (0 ≤ r3 → r3 + n3 ≤ r2) := fun h9 => (hr3 h9).1
  clear hb3 hr3 p3
  by_cases hneg3 : r3 < 0
  · go_wp2_with fail
    go_ret
    exact ⟨-1, rfl, by omega, fun h => absurd h (by omega), B3.out⟩
  have HF : Hid (smallD D) := by
    obtain ⟨x1, x2⟩ := HR1.out (by omega)
    obtain ⟨x3, x4⟩ := HR2.out (by omega)
    have x5 := HR3.out (by omega)
    exact ⟨⟨by rw [N1.out]; exact x1, x2⟩, ⟨by rw [N2.out]; exact x3, x4⟩, by rw [N3.out]; exact x5⟩
  go_wp2_with fail
  go_ret
  exact ⟨r3, rfl, by omega, fun _ => ⟨HF.out, by have x1 := HT1.out (by omega); have x2 := HT2.out (by omega); have x3 := HT3.out (by omega); omega⟩, B3.out⟩
set_option maxHeartbeats 1000000 in
theorem szSuperM (v : Value) (D : UM) (l : Int) (w : World) (hl0 : 0 ≤ l) (hl1 : l ≤ 1048576) (hm : maxU D) (h : ReadsU w v D) :
    Calls Tryz.prog 30 #[v, .int .i64 l] w fun e w' => ∃ r : Int, e = .returned (.int .i64 r) ∧ r ≤ l ∧ (0 ≤ r → smallU D ∧ r + D.S.length ≤ l) ∧ Below w.heap.size w w' := by
  obtain ⟨a, c, rfl, s1⟩ := h
  obtain ⟨n, hn⟩ : ∃ n, D.S.length = n := ⟨_, rfl⟩
  have HM : Hid (n ≤ maxLen ∧ ∀ x ∈ D.S, x.1.size ≤ maxLen) := by rw [← hn]; exact hm
  have S1 : Hid (Src w a (cellsSn D.S)) := s1
  rw [hn]
  have N1 : Hid (D.S.length = n) := hn
  clear hm s1 hn
  go_enter Tryz.func30, Tryz.ntmps30
  go_wp2_with fail
  refine (szSnapS a n c D.S l _ N1.out HM.out.1 HM.out.2 hl0 hl1 (S1.out.below ((Below.refl _ _).alloc (Nat.le_refl _) _))).mono ?_
  rintro e w1 ⟨r, rfl, hr1, hr, hb1⟩
  have B1 : Hid (Below w.heap.size w w1) := Below.new hb1
  have HR : Hid (0 ≤ r → smallU D ∧ r + n ≤ l) := fun h => ⟨⟨by rw [N1.out]; exact (hr h).2.1, (hr h).2.2⟩, (hr h).1⟩
  clear hb1 hr
  by_cases hneg : r < 0
  · go_wp2_with fail
    go_ret
    exact ⟨-1, rfl, by omega, fun h => absurd h (by omega), B1.out⟩
  · go_wp2_with fail
    go_ret
    exact ⟨r, rfl, hr1, HR.out, B1.out⟩
set_option maxHeartbeats 4000000 in
theorem szStoreM (v : Value) (D : DM) (U : UM) (H : List NM) (w : World) (hm : maxSt D U H) (h : ReadsS w v D U H) :
    Calls Tryz.prog 8 #[v, .int .i64 1048576] w fun e w' => ∃ r : Int, e = .returned (.int .i64 r) ∧ (0 ≤ r → (smallD D ∧ smallU U ∧ smallH H) ∧ D.S.length + D.C.length + D.K.length + U.S.length + wtH H ≤ 1048576) ∧ Below w.heap.size w w' := by
  obtain ⟨x1, x2, x3, x4, x5, rfl, p1, p2, p3⟩ := h
  obtain ⟨a1, ax1, a2, ax2, a3, ax3, rfl, rfl, rfl, _⟩ := disk_lit p1
  obtain ⟨a4, ax4, rfl⟩ := super_lit p2
  obtain ⟨a5, ax5, rfl⟩ := heap_lit p3
  have HD : Hid (ReadsD w (.agg #[.slice a1 D.S.length ax1, .slice a2 D.C.length ax2, .bool D.A, .slice a3 D.K.length ax3]) D) := p1
  have HU : Hid (ReadsU w (.agg #[.int .i64 U.G, .int .i64 U.R, .slice a4 U.S.length ax4]) U) := p2
  have HH : Hid (ReadsH w (.agg #[.slice a5 H.length ax5]) H) := p3
  have HM : Hid (maxSt D U H) := hm
  clear p1 p2 p3 hm
  go_enter Tryz.func8, Tryz.ntmps8
  go_wp2_with fail
  refine (szDiskM _ D _ HM.out.1 (HD.out.below ((Below.refl _ _).alloc (Nat.le_refl _) _))).mono ?_
  rintro e w1 ⟨r, rfl, hr1, hr, hb1⟩
  have B1 : Hid (Below w.heap.size w w1) := Below.new hb1
  have X1 : Hid (Box w1 w.heap.size [.slice a1 D.S.length ax1, .slice a2 D.C.length ax2, .bool D.A, .slice a3 D.K.length ax3, .int .i64 U.G, .int .i64 U.R, .slice a4 U.S.length ax4, .slice a5 H.length ax5]) := Box.below (Box.new rfl) hb1
  have HR : Hid (0 ≤ r → smallD D ∧ r + D.S.length + D.C.length + D.K.length ≤ 1048576) := hr
  clear hb1 hr
  by_cases hneg : r < 0
  · go_wp2_with fail
    go_ret
    exact ⟨-1, rfl, fun h => absurd h (by omega), B1.out⟩
  obtain ⟨y4, _⟩ := X1.out 4 _ rfl
  obtain ⟨y5, _⟩ := X1.out 5 _ rfl
  obtain ⟨y6, _⟩ := X1.out 6 _ rfl
  go_wp2_with fail
  refine (szSuperM _ U r _ (by omega) (by omega) HM.out.2.1 (HU.out.below B1.out)).mono ?_
  rintro e w2 ⟨s, rfl, hs1, hs, hb2⟩
  have B2 : Hid (Below w.heap.size w w2) := B1.out.trans (hb2.mono B1.out.size)
  have X2 : Hid (Box w2 w.heap.size [.slice a1 D.S.length ax1, .slice a2 D.C.length ax2, .bool D.A, .slice a3 D.K.length ax3, .int .i64 U.G, .int .i64 U.R, .slice a4 U.S.length ax4, .slice a5 H.length ax5]) := X1.out.below hb2
  have HR2 : Hid (0 ≤ s → smallU U ∧ s + U.S.length ≤ r) := hs
  clear hb2 hs y4 y5 y6 X1
  by_cases hneg2 : s < 0
  · go_wp2_with fail
    go_ret
    exact ⟨-1, rfl, fun h => absurd h (by omega), B2.out⟩
  obtain ⟨y7, _⟩ := X2.out 7 _ rfl
  go_wp2_with fail
  refine (szHeap _ H s _ (by omega) (by omega) HM.out.2.2.1 HM.out.2.2.2 (HH.out.below B2.out)).mono ?_
  rintro e w3 ⟨t, rfl, ht1, ht, hb3⟩
  have B3 : Hid (Below w.heap.size w w3) := B2.out.trans (hb3.mono B2.out.size)
  have HR3 : Hid (0 ≤ t → t + wtH H ≤ s ∧ smallH H) := ht
  clear hb3 ht y7
  by_cases hneg3 : t < 0
  · go_wp2_with fail
    go_ret
    exact ⟨-1, rfl, fun h => absurd h (by omega), B3.out⟩
  · go_wp2_with fail
    go_ret
    exact ⟨t, rfl, fun h => ⟨⟨(HR.out (by omega)).1, (HR2.out (by omega)).1, (HR3.out h).2⟩, by have x1 := (HR.out (by omega)).2; have x2 := (HR2.out (by omega)).2; have x3 := (HR3.out h).1; omega⟩, B3.out⟩
set_option maxHeartbeats 2000000 in
theorem markNodeM (v : Value) (H : List NM) (lo hi k n : Nat) (w : World) (hw : wtH H ≤ 1048576) (hk0 : 0 < k) (hk1 : k + 2 * wtH H ≤ 4194304) (hh : hi ≤ w.heap.size) (h : OwnsHL w lo hi v n H) :
    Calls Tryz.prog 106 #[v, .int .i64 (k : Int)] w fun e w' => e = .returned (.int .i64 ((endH H k : Nat) : Int)) ∧ Turned lo hi w w' ∧ OwnsHL w' lo hi v n (markH H k) := by
  have hHn : H.length = n := h.lit.choose_spec.choose_spec.2
  obtain ⟨V, h1, h2, h3⟩ := h
  rcases h1.2 with ⟨rfl, h0⟩ | ⟨B, cap, cur, rfl, _⟩
  · subst h0
    have hH0 : H = [] := List.eq_nil_of_length_eq_zero hHn
    subst hH0
    have HO : Hid (OwnsHL w lo hi (.slice none 0 0) 0 []) := ⟨V, h1, h2, h3⟩
    clear h1 h2 h3 hHn
    go_enter Tryz.func106, Tryz.ntmps106
    go_wp2_with fail
    go_loop [1, 5] (fun kk i => i = .int .i64 0 ∧ kk = .int .i64 (k : Int)) (fun _ _ => 0)
    case atStart => exact ⟨rfl, rfl⟩
    case round =>
      obtain ⟨rfl, rfl⟩ := hrel
      go_wp2_with fail
      go_ret
      exact ⟨rfl, Turned.of_below (Below.refl _ _), HO.out⟩
  have HN : Hid (H.length = n) := hHn
  have HW : Hid (wtH H ≤ 1048576) := hw
  have HH : Hid (hi ≤ w.heap.size) := hh
  have HB : Hid (lo ≤ B ∧ B < hi) := ⟨(h1.lt B rfl).1, h2 B rfl⟩
  have R0 : Hid (w.ownsRow lo 137 4 (.slice (some ⟨B, 0, none⟩) n cap) n (cellsN V)) := h1
  have V0 : Hid (OwnsVs w lo hi V H) := h3
  have HNB : n ≤ 1048576 := by
    have := hw
    unfold wtH at this
    omega
  clear h1 h2 h3 hHn hw hh
  go_enter Tryz.func106, Tryz.ntmps106
  go_wp2_with fail
  go_loopw [1, 5] (fun kk i wr => ∃ (j x m : Nat) (V1 V2 : List NV) (H1 H2 : List NM), j ≤ n ∧ i = .int .i64 (j : Int) ∧ kk = .int .i64 (x : Int) ∧ x ≤ 4194304 ∧ 0 < x ∧ Hid (x = endH H1 k) ∧ Hid (H = H1 ++ H2) ∧ Hid (V1.length = j ∧ H1.length = j) ∧ Hid (OwnsVs wr lo m V1 (markH H1 k)) ∧ Hid (OwnsVs wr m hi V2 H2) ∧ Hid (wr.ownsRow lo 137 4 (.slice (some ⟨B, 0, none⟩) n cap) n (cellsN (V1 ++ V2))) ∧ Hid (Turned lo hi w wr)) (fun _ i _ => n - (intOf i).toNat)
  case atStart => exact ⟨0, k, lo, [], V, [], H, by omega, rfl, rfl, by omega, by omega, rfl, rfl, ⟨rfl, rfl⟩, Nat.le_refl _, V0.out, R0.out, Turned.of_below (Below.refl _ _)⟩
  case round =>
    obtain ⟨j, x, m, V1, V2, H1, H2, hj, rfl, rfl, hx1, hx0, hx, hH, hl, O1, O2, R, T⟩ := hrel
    by_cases hlt : j < n
    · have hjn : (j : Int) < (n : Int) := by omega
      have hl2 : H2.length = n - j := by have h9 := congrArg List.length hH.out; rw [HN.out, List.length_append, hl.out.2] at h9; omega
      obtain ⟨D, H2, rfl⟩ : ∃ D H', H2 = D :: H' := by cases H2 with | nil => simp at hl2; omega | cons D H' => exact ⟨D, H', rfl⟩
      obtain ⟨u, V2, rfl⟩ : ∃ u V', V2 = u :: V' := by have := O2.out.len; cases V2 with | nil => simp at this | cons D H' => exact ⟨D, H', rfl⟩
      obtain ⟨m', hm, ⟨v1, v2, v3, ev, ⟨r1, k1⟩, ⟨r2, k2⟩, r3, k3⟩, O3⟩ := O2.out
      obtain ⟨uA, u1, u2, u3⟩ := u
      simp only [NV.val, Value.agg.injEq, Array.mk.injEq, List.cons.injEq, Value.bool.injEq, and_true] at ev
      obtain ⟨rfl, rfl, rfl, rfl⟩ := ev
      obtain ⟨a1, c1, rfl, _, _⟩ := own_src r1
      obtain ⟨a2, c2, rfl, _, _⟩ := own_src r2
      obtain ⟨a3, c3, rfl, _, _⟩ := own_src r3
      have hm' : Hid (m ≤ m' ∧ m' ≤ hi) := ⟨hm, O3.le⟩
      have hlm : Hid (lo ≤ m) := O1.out.le
      obtain ⟨n1, e1⟩ : ∃ n, D.P.length = n := ⟨_, rfl⟩
      obtain ⟨n2, e2⟩ : ∃ n, D.L.length = n := ⟨_, rfl⟩
      obtain ⟨n3, e3⟩ : ∃ n, D.K.length = n := ⟨_, rfl⟩
      have EN : Hid (endN D x = x + 1 + n1 * 2 + n2 + n3) := by show endN D x = _; unfold endN; rw [e1, e2, e3]
      have hbd : Hid (x + 1 + n1 * 2 + n2 + n3 ≤ 4194304 ∧ n1 ≤ 1048576 ∧ n2 ≤ 1048576 ∧ n3 ≤ 1048576) := by
        have h8 := endH_le (H1 ++ [D]) k
        have h9 := HW.out
        rw [hH.out, wtH_append] at h9
        have h5 := hk1
        rw [hH.out, wtH_append] at h5
        rw [endH_snoc, ← hx.out, EN.out, wtH_append] at h8
        have h7 : wtH (D :: H2) = wtH [D] + wtH H2 := wtH_append [D] H2
        have h6 : wtH [D] = 1 + (n1 + n2 + n3) := by unfold wtH wtN; rw [← e1, ← e2, ← e3]; simp
        show _ ∧ _
        omega
      have MK : Hid (mkN D x = ⟨((x : Int) % 3 == 0), mkP (x + 1) n1, mkS (x + 1 + n1 * 2) n2, mkI (x + 1 + n1 * 2 + n2) n3⟩) := by show mkN D x = _; unfold mkN; rw [e1, e2, e3]
      obtain ⟨x1, hx1'⟩ : ∃ q, cellsP D.P = q := ⟨_, rfl⟩
      obtain ⟨x2, hx2'⟩ : ∃ q, cellsS D.L = q := ⟨_, rfl⟩
      obtain ⟨x3, hx3'⟩ : ∃ q, cellsI D.K = q := ⟨_, rfl⟩
      rw [hx1', e1] at r1
      rw [hx2', e2] at r2
      rw [hx3', e3] at r3
      rw [e1] at k1
      rw [e2] at k2
      rw [e3] at k3
      have R1 : Hid (wr.ownsRow m 109 2 (.slice a1 n1 c1) n1 x1) := r1
      have R2 : Hid (wr.ownsRow m 9 1 (.slice a2 n2 c2) n2 x2) := r2
      have R3 : Hid (wr.ownsRow m 3 1 (.slice a3 n3 c3) n3 x3) := r3
      have NE : Hid ((∀ g, (Value.slice a1 n1 c1).ownBlock = some g → (Value.slice a2 n2 c2).ownBlock ≠ some g) ∧ (∀ g, (Value.slice a1 n1 c1).ownBlock = some g → (Value.slice a3 n3 c3).ownBlock ≠ some g) ∧ (∀ g, (Value.slice a2 n2 c2).ownBlock = some g → (Value.slice a3 n3 c3).ownBlock ≠ some g)) := ⟨own_ne r1 r2 (by decide), own_ne r1 r3 (by decide), own_ne r2 r3 (by decide)⟩
      have rr := R.out
      rw [e1, e2, e3] at rr
      have RR : Hid (wr.ownsRow lo 137 4 (.slice (some ⟨B, 0, none⟩) n cap) n (cellsN V1 ++ .bool D.A :: .slice a1 n1 c1 :: .slice a2 n2 c2 :: .slice a3 n3 c3 :: cellsN V2)) := by
        have := rr
        rw [cellsN_append] at this
        exact this
      have NB : Hid ((Value.slice a1 n1 c1).ownBlock ≠ some B ∧ (Value.slice a2 n2 c2).ownBlock ≠ some B ∧ (Value.slice a3 n3 c3).ownBlock ≠ some B) := ⟨own_ne RR.out r1 (by decide) B rfl, own_ne RR.out r2 (by decide) B rfl, own_ne RR.out r3 (by decide) B rfl⟩
      have KK : Hid ((∀ g, (Value.slice a1 n1 c1).ownBlock = some g → m ≤ g ∧ g < m') ∧ (∀ g, (Value.slice a2 n2 c2).ownBlock = some g → m ≤ g ∧ g < m') ∧ (∀ g, (Value.slice a3 n3 c3).ownBlock = some g → m ≤ g ∧ g < m')) := ⟨fun g e => ⟨(r1.lt g e).1, k1 g e⟩, fun g e => ⟨(r2.lt g e).1, k2 g e⟩, fun g e => ⟨(r3.lt g e).1, k3 g e⟩⟩
      have O3' : Hid (OwnsVs wr m' hi V2 H2) := O3
      have CL : Hid ((cellsN V1).length = j * 4) := by show _ = _; rw [cellsN_length, hl.out.1]
      have S0 : Hid ((wr.setCell ⟨B, j * 4, none⟩ (.bool ((x : Int) % 3 == 0))).ownsRow lo 137 4 (.slice (some ⟨B, 0, none⟩) n cap) n (cellsN V1 ++ .bool ((x : Int) % 3 == 0) :: .slice a1 n1 c1 :: .slice a2 n2 c2 :: .slice a3 n3 c3 :: cellsN V2)) := by
        have s := own_set RR.out (j * 4) (by rw [List.length_append, CL.out]; simp only [List.length_cons]; omega) (.bool ((x : Int) % 3 == 0))
        rw [← CL.out, set_mid] at s
        rw [CL.out] at s
        exact s
      have T0 : Hid (Turned lo hi w (wr.setCell ⟨B, j * 4, none⟩ (.bool ((x : Int) % 3 == 0)))) := T.out.trans (Turned.of_grown (gb_set (gb_refl _ _) _ _) (fun q e => by cases e; exact HB.out))
      have KD : Hid (∃ c f, wr.heap[B]? = some (.cells c 137 f)) := Lib.ownsRow_kind RR.out B rfl
      have P1 : Hid (OwnsVs (wr.setCell ⟨B, j * 4, none⟩ (.bool ((x : Int) % 3 == 0))) lo m V1 (markH H1 k)) := O1.out.setKind KD.out _
      have P2 : Hid (OwnsVs (wr.setCell ⟨B, j * 4, none⟩ (.bool ((x : Int) % 3 == 0))) m' hi V2 H2) := O3'.out.setKind KD.out _
      have Q1 : Hid ((wr.setCell ⟨B, j * 4, none⟩ (.bool ((x : Int) % 3 == 0))).ownsRow m 109 2 (.slice a1 n1 c1) n1 x1) := own_setOther R1.out NB.out.1 _
      have Q2 : Hid ((wr.setCell ⟨B, j * 4, none⟩ (.bool ((x : Int) % 3 == 0))).ownsRow m 9 1 (.slice a2 n2 c2) n2 x2) := own_setOther R2.out NB.out.2.1 _
      have Q3 : Hid ((wr.setCell ⟨B, j * 4, none⟩ (.bool ((x : Int) % 3 == 0))).ownsRow m 3 1 (.slice a3 n3 c3) n3 x3) := own_setOther R3.out NB.out.2.2 _
      obtain ⟨o1, o2⟩ := own_at RR.out (mid0 _ _ _ _ _ _ _ CL.out)
      obtain ⟨o3, _⟩ := own_at S0.out (mid1 _ _ _ _ _ _ _ CL.out)
      clear r1 r2 r3 k1 k2 k3 rr hl2 hm O3 hx1' hx2' hx3' e1 e2 e3 RR R1 R2 R3 R O1 O2 O3' T KD
      go_wp2_with fail
      rw [show ((x : Int) + 1) = ((x + 1 : Nat) : Int) from by omega]
      refine (markPairS _ n1 (x + 1) m x1 _ hbd.out.2.1 (by omega) (by have := hbd.out.1; omega) Q1.out).mono ?_
      rintro e w1 ⟨rfl, g1, r1⟩
      have S1 : Hid (w1.ownsRow lo 137 4 (.slice (some ⟨B, 0, none⟩) n cap) n (cellsN V1 ++ .bool ((x : Int) % 3 == 0) :: .slice a1 n1 c1 :: .slice a2 n2 c2 :: .slice a3 n3 c3 :: cellsN V2)) := own_grown S0.out g1 (fun g e e2 => by cases e; exact NB.out.1 e2)
      have Q21 : Hid (w1.ownsRow m 9 1 (.slice a2 n2 c2) n2 x2) := own_grown Q2.out g1 (fun g e e2 => NE.out.1 g e2 e)
      have Q31 : Hid (w1.ownsRow m 3 1 (.slice a3 n3 c3) n3 x3) := own_grown Q3.out g1 (fun g e e2 => NE.out.2.1 g e2 e)
      have Q11 : Hid (w1.ownsRow m 109 2 (.slice a1 n1 c1) n1 (cellsP (mkP (x + 1) n1))) := r1
      have T1 : Hid (Turned m m' (wr.setCell ⟨B, j * 4, none⟩ (.bool ((x : Int) % 3 == 0))) w1) := Turned.of_grown g1 KK.out.1
      clear g1 r1 Q1 Q2 Q3 S0 o1 o2 o3
      obtain ⟨o3, _⟩ := own_at S1.out (mid2 _ _ _ _ _ _ _ CL.out)
      go_wp2_with fail
      rw [show ((x : Int) + 1 + (n1 : Int) * 2) = ((x + 1 + n1 * 2 : Nat) : Int) from by omega]
      refine (markStringS _ n2 (x + 1 + n1 * 2) m x2 _ hbd.out.2.2.1 (by omega) (by have := hbd.out.1; omega) Q21.out).mono ?_
      rintro e w2 ⟨rfl, g2, r2⟩
      have S2 : Hid (w2.ownsRow lo 137 4 (.slice (some ⟨B, 0, none⟩) n cap) n (cellsN V1 ++ .bool ((x : Int) % 3 == 0) :: .slice a1 n1 c1 :: .slice a2 n2 c2 :: .slice a3 n3 c3 :: cellsN V2)) := own_grown S1.out g2 (fun g e e2 => by cases e; exact NB.out.2.1 e2)
      have Q12 : Hid (w2.ownsRow m 109 2 (.slice a1 n1 c1) n1 (cellsP (mkP (x + 1) n1))) := own_grown Q11.out g2 (fun g e e2 => NE.out.1 g e e2)
      have Q32 : Hid (w2.ownsRow m 3 1 (.slice a3 n3 c3) n3 x3) := own_grown Q31.out g2 (fun g e e2 => NE.out.2.2 g e2 e)
      have Q22 : Hid (w2.ownsRow m 9 1 (.slice a2 n2 c2) n2 (cellsS (mkS (x + 1 + n1 * 2) n2))) := r2
      have T2 : Hid (Turned m m' (wr.setCell ⟨B, j * 4, none⟩ (.bool ((x : Int) % 3 == 0))) w2) := T1.out.trans (Turned.of_grown g2 KK.out.2.1)
      clear g2 r2 Q11 Q21 Q31 S1 o3 T1
      obtain ⟨o3, _⟩ := own_at S2.out (mid3 _ _ _ _ _ _ _ CL.out)
      go_wp2_with fail
      rw [show ((x : Int) + 1 + (n1 : Int) * 2 + (n2 : Int)) = ((x + 1 + n1 * 2 + n2 : Nat) : Int) from by omega]
      refine (markIntS _ n3 (x + 1 + n1 * 2 + n2) m x3 _ hbd.out.2.2.2 (by omega) (by have := hbd.out.1; omega) Q32.out).mono ?_
      rintro e w3 ⟨rfl, g3, r3⟩
      have S3 : Hid (w3.ownsRow lo 137 4 (.slice (some ⟨B, 0, none⟩) n cap) n (cellsN V1 ++ .bool ((x : Int) % 3 == 0) :: .slice a1 n1 c1 :: .slice a2 n2 c2 :: .slice a3 n3 c3 :: cellsN V2)) := own_grown S2.out g3 (fun g e e2 => by cases e; exact NB.out.2.2 e2)
      have Q13 : Hid (w3.ownsRow m 109 2 (.slice a1 n1 c1) n1 (cellsP (mkP (x + 1) n1))) := own_grown Q12.out g3 (fun g e e2 => NE.out.2.1 g e e2)
      have Q23 : Hid (w3.ownsRow m 9 1 (.slice a2 n2 c2) n2 (cellsS (mkS (x + 1 + n1 * 2) n2))) := own_grown Q22.out g3 (fun g e e2 => NE.out.2.2 g e e2)
      have Q33 : Hid (w3.ownsRow m 3 1 (.slice a3 n3 c3) n3 (cellsI (mkI (x + 1 + n1 * 2 + n2) n3))) := r3
      have T3 : Hid (Turned m m' (wr.setCell ⟨B, j * 4, none⟩ (.bool ((x : Int) % 3 == 0))) w3) := T2.out.trans (Turned.of_grown g3 KK.out.2.2)
      have TW : Hid (Turned lo hi w w3) := T0.out.trans ⟨T3.out.os, T3.out.tape, T3.out.output, T3.out.size, fun q hq hr => T3.out.block q hq (by have := hlm.out; have := hm'.out; omega)⟩
      have NN : Hid (OwnsN w3 m m' (NV.val ⟨((x : Int) % 3 == 0), .slice a1 n1 c1, .slice a2 n2 c2, .slice a3 n3 c3⟩) (mkN D x)) := by
        rw [MK.out]
        refine ⟨.slice a1 n1 c1, .slice a2 n2 c2, .slice a3 n3 c3, rfl, ⟨?_, fun g e => (KK.out.1 g e).2⟩, ⟨?_, fun g e => (KK.out.2.1 g e).2⟩, ?_, fun g e => (KK.out.2.2 g e).2⟩
        · simpa [mkP_length] using Q13.out
        · simpa [mkS_length] using Q23.out
        · simpa [mkI_length] using Q33.out
      have F1 : Hid (OwnsVs w3 lo m' (V1 ++ [⟨((x : Int) % 3 == 0), .slice a1 n1 c1, .slice a2 n2 c2, .slice a3 n3 c3⟩]) (markH (H1 ++ [D]) k)) := by
        rw [markH_snoc, ← hx.out]
        exact OwnsVs.snoc NN.out hm'.out.1 (P1.out.turned T3.out (.inl (Nat.le_refl _)))
      have F2 : Hid (OwnsVs w3 m' hi V2 H2) := P2.out.turned T3.out (.inr (Nat.le_refl _))
      have F3 : Hid (w3.ownsRow lo 137 4 (.slice (some ⟨B, 0, none⟩) n cap) n (cellsN (V1 ++ [⟨((x : Int) % 3 == 0), .slice a1 n1 c1, .slice a2 n2 c2, .slice a3 n3 c3⟩] ++ V2))) := own_congr S3.out (by rw [cellsN_append, cellsN_append, List.append_assoc]; rfl)
      clear g3 r3 Q12 Q22 Q32 S2 o3 T2 Q13 Q23 Q33 S3 T3 NN P1 P2 T0
      go_wp2_with fail
      exact ⟨⟨j + 1, x + 1 + n1 * 2 + n2 + n3, m', _, V2, H1 ++ [D], H2, by omega, by go_num, by go_num, hbd.out.1, by omega, by show _ = _; rw [endH_snoc, ← hx.out, EN.out], by show _ = _; rw [hH.out]; simp, by rw [List.length_append, List.length_append, hl.out.1, hl.out.2]; exact ⟨rfl, rfl⟩, F1, F2, F3, TW⟩, by simp [intOf]; omega⟩
    · have hjn : j = n := by omega
      have hl2 : H2.length = 0 := by have h9 := congrArg List.length hH.out; rw [HN.out, List.length_append, hl.out.2] at h9; omega
      have hH2 : H2 = [] := List.eq_nil_of_length_eq_zero hl2
      subst hH2
      have hV2 : V2 = [] := List.eq_nil_of_length_eq_zero (O2.out.len)
      subst hV2
      have hHH : H1 = H := by rw [hH.out]; simp
      subst hHH
      have F : Hid (OwnsHL wr lo hi (.slice (some ⟨B, 0, none⟩) n cap) n (markH H1 k)) := ⟨V1, own_congr R.out (by simp), fun q e => by cases e; exact HB.out.2, O1.out.lift O2.out⟩
      have E : Hid ((x : Int) = ((endH H1 k : Nat) : Int)) := by show (x : Int) = _; rw [hx.out]
      clear hjn hl2 hH R O1 O2 V0 R0
      go_wp2_with fail
      go_ret
      exact ⟨by show Ending.returned (.int .i64 (x : Int)) = _; rw [E.out], T.out, F.out⟩
set_option maxHeartbeats 400000 in
theorem markHeapM (v : Value) (H : List NM) (lo hi k : Nat) (w : World) (hw : wtH H ≤ 1048576) (hk0 : 0 < k) (hk1 : k + 2 * wtH H ≤ 4194304) (hh : hi ≤ w.heap.size) (h : OwnsH w lo hi v H) :
    Calls Tryz.prog 60 #[v, .int .i64 (k : Int)] w fun e w' => e = .returned (.int .i64 ((endH H k : Nat) : Int)) ∧ Turned lo hi w w' ∧ OwnsH w' lo hi v (markH H k) := by
  obtain ⟨u, rfl, h⟩ := h
  obtain ⟨a, c, rfl, _⟩ := h.lit
  have HO : Hid (OwnsHL w lo hi (.slice a H.length c) H.length H) := h
  obtain ⟨n, hn⟩ : ∃ n, H.length = n := ⟨_, rfl⟩
  have HW : Hid (wtH H ≤ 1048576) := hw
  have HL : Hid ((markH H k).length = n) := by show _ = n; rw [markH_length, hn]
  rw [hn] at HO ⊢
  clear h hn hw
  go_enter Tryz.func60, Tryz.ntmps60
  go_wp2_with fail
  refine (markNodeM _ H lo hi k n _ HW.out hk0 hk1 (by simp; omega) (HO.out.below ((Below.refl _ _).alloc (Nat.le_refl _) _))).mono ?_
  rintro e w1 ⟨rfl, t1, o1⟩
  have T1 : Hid (Turned lo hi w w1) := (Turned.of_below ((Below.refl _ _).alloc (Nat.le_refl _) _)).trans t1
  have O1 : Hid (OwnsHL w1 lo hi (.slice a n c) n (markH H k)) := o1
  clear t1 o1
  go_wp2_with fail
  go_ret
  exact ⟨rfl, T1.out, _, rfl, by rw [HL.out]; exact O1.out⟩
set_option maxHeartbeats 1000000 in
theorem markStoreM (v : Value) (D : DM) (U : UM) (H : List NM) (lo hi k : Nat) (w : World) (hs : (smallD D ∧ smallU U ∧ smallH H) ∧ D.S.length + D.C.length + D.K.length + U.S.length + wtH H ≤ 1048576) (hk0 : 0 < k) (hk1 : k ≤ 100) (hh : hi ≤ w.heap.size) (h : OwnsS w lo hi v D U H) :
    Calls Tryz.prog 19 #[v, .int .i64 (k : Int)] w fun e w' => e = .returned (.int .i64 ((endS D U H k : Nat) : Int)) ∧ Turned lo hi w w' ∧ OwnsS w' lo hi v (markedD D k) (mkU U (k2S D k)) (markH H (k3S D U k)) := by
  obtain ⟨x1, x2, x3, x4, x5, l1, h1, l2, h2, l3, h3, rfl, o1, o2, o3, r, q⟩ := h
  obtain ⟨a1, c1, a2, c2, a3, c3, rfl, rfl, rfl, _⟩ := disk_lit o1.reads
  obtain ⟨a4, c4, rfl⟩ := super_lit o2.reads
  obtain ⟨a5, c5, rfl⟩ := heap_lit o3.reads
  have KS : endD D k ≤ 2200000 ∧ k3S D U k ≤ 3200000 ∧ k3S D U k + 2 * wtH H ≤ 4194304 := by
    have h9 := hs.2
    unfold k3S endD
    exact ⟨by omega, by omega, by omega⟩
  obtain ⟨k2, hk2⟩ : ∃ k2, endD D k = k2 := ⟨_, rfl⟩
  obtain ⟨k3, hk3⟩ : ∃ k3, k3S D U k = k3 := ⟨_, rfl⟩
  have KB : Hid (endD D k = k2 ∧ k3S D U k = k3 ∧ k2 + U.S.length * 3 = k3 ∧ 0 < k2 ∧ k2 ≤ 2200000 ∧ k3 ≤ 3200000 ∧ k3 + 2 * wtH H ≤ 4194304) := ⟨hk2, hk3, by rw [← hk3, ← hk2]; rfl, by rw [← hk2]; unfold endD; omega, by omega, by omega, by omega⟩
  have O1 : Hid (OwnsD w l1 h1 (.agg #[.slice a1 D.S.length c1, .slice a2 D.C.length c2, .bool D.A, .slice a3 D.K.length c3]) D) := o1
  have O2 : Hid (OwnsU w l2 h2 (.agg #[.int .i64 U.G, .int .i64 U.R, .slice a4 U.S.length c4]) U) := o2
  have O3 : Hid (OwnsH w l3 h3 (.agg #[.slice a5 H.length c5]) H) := o3
  have RQ : Hid ((lo ≤ l1 ∧ lo ≤ l2 ∧ lo ≤ l3 ∧ h1 ≤ hi ∧ h2 ≤ hi ∧ h3 ≤ hi) ∧ (h1 ≤ l2 ∨ h2 ≤ l1) ∧ (h1 ≤ l3 ∨ h3 ≤ l1) ∧ (h2 ≤ l3 ∨ h3 ≤ l2)) := ⟨r, q⟩
  have SM : Hid ((smallD D ∧ smallU U ∧ smallH H) ∧ D.S.length + D.C.length + D.K.length + U.S.length + wtH H ≤ 1048576) := hs
  obtain ⟨n1, hn1⟩ : ∃ n, D.S.length = n := ⟨_, rfl⟩
  obtain ⟨n2, hn2⟩ : ∃ n, D.C.length = n := ⟨_, rfl⟩
  obtain ⟨n3, hn3⟩ : ∃ n, D.K.length = n := ⟨_, rfl⟩
  obtain ⟨A, hA⟩ : ∃ A, D.A = A := ⟨_, rfl⟩
  obtain ⟨G, hG⟩ : ∃ n, U.G = n := ⟨_, rfl⟩
  obtain ⟨R, hR⟩ : ∃ n, U.R = n := ⟨_, rfl⟩
  obtain ⟨n4, hn4⟩ : ∃ n, U.S.length = n := ⟨_, rfl⟩
  obtain ⟨n5, hn5⟩ : ∃ n, H.length = n := ⟨_, rfl⟩
  rw [hn1, hn2, hn3, hA] at O1
  rw [hG, hR, hn4] at O2
  rw [hn5] at O3
  rw [hn1, hn2, hn3, hA, hG, hR, hn4, hn5]
  have VL : Hid (Value.agg #[.slice a1 n1 c1, .slice a2 n2 c2, .bool A, .slice a3 n3 c3, .int .i64 G, .int .i64 R, .slice a4 n4 c4, .slice a5 n5 c5] = Value.agg #[.slice a1 n1 c1, .slice a2 n2 c2, .bool (markedD D k).A, .slice a3 n3 c3, .int .i64 (mkU U (k2S D k)).G, .int .i64 (mkU U (k2S D k)).R, .slice a4 n4 c4, .slice a5 n5 c5] ∧ A = (markedD D k).A ∧ (G = (mkU U (k2S D k)).G ∧ R = (mkU U (k2S D k)).R) ∧ k2 = k2S D k) := by
    refine ⟨?_, hA.symm, ⟨hG.symm, hR.symm⟩, hk2.symm⟩
    rw [← hA, ← hG, ← hR]
    rfl
  clear hs hn1 hn2 hn3 hA hG hR hn4 hn5 o1 o2 o3 r q KS hk2 hk3
  have B0 : Hid (Below w.heap.size w (w.alloc (.cells #[.slice a1 n1 c1, .slice a2 n2 c2, .bool A, .slice a3 n3 c3, .int .i64 G, .int .i64 R, .slice a4 n4 c4, .slice a5 n5 c5] 47))) := (Below.refl _ _).alloc (Nat.le_refl _) _
  go_enter Tryz.func19, Tryz.ntmps19
  go_wp2_with fail
  refine (markDisk _ D l1 h1 k _ ⟨SM.out.1.1.1.1, SM.out.1.1.2.1.1, SM.out.1.1.2.2⟩ hk0 (by omega) (by have := RQ.out.1; simp; omega) (O1.out.below B0.out)).mono ?_
  rintro e w1 ⟨rfl, t1, m1⟩
  have T1 : Hid (Turned l1 h1 w w1) := (Turned.of_below B0.out).trans t1
  have M1 : Hid (OwnsD w1 l1 h1 (.agg #[.slice a1 n1 c1, .slice a2 n2 c2, .bool A, .slice a3 n3 c3]) (markedD D k)) := m1
  have X1 : Hid (Box w1 w.heap.size [.slice a1 n1 c1, .slice a2 n2 c2, .bool A, .slice a3 n3 c3, .int .i64 G, .int .i64 R, .slice a4 n4 c4, .slice a5 n5 c5]) := Box.turned (Box.new rfl) t1 (.inr (by have := RQ.out.1; omega))
  rw [KB.out.1]
  clear t1 m1 B0
  obtain ⟨p4, _⟩ := X1.out 4 _ rfl
  obtain ⟨p5, _⟩ := X1.out 5 _ rfl
  obtain ⟨p6, _⟩ := X1.out 6 _ rfl
  go_wp2_with fail
  refine (markSuper _ U k2 l2 h2 _ SM.out.1.2.1.1 KB.out.2.2.2.1 (by have := KB.out.2.2.2.2.1; omega) (by have := RQ.out.1; have := T1.out.size; omega) (O2.out.turned T1.out (by have := RQ.out.2; omega))).mono ?_
  rintro e w2 ⟨rfl, t2, m2⟩
  have T2 : Hid (Turned l2 h2 w1 w2) := t2
  have M2 : Hid (OwnsU w2 l2 h2 (.agg #[.int .i64 G, .int .i64 R, .slice a4 n4 c4]) (mkU U k2)) := m2
  have X2 : Hid (Box w2 w.heap.size [.slice a1 n1 c1, .slice a2 n2 c2, .bool A, .slice a3 n3 c3, .int .i64 G, .int .i64 R, .slice a4 n4 c4, .slice a5 n5 c5]) := X1.out.turned t2 (.inr (by have := RQ.out.1; omega))
  rw [KB.out.2.2.1]
  clear t2 m2 p4 p5 p6 X1
  obtain ⟨p7, _⟩ := X2.out 7 _ rfl
  go_wp2_with fail
  refine (markHeapM _ H l3 h3 k3 _ SM.out.1.2.2.1 (by have := KB.out; omega) KB.out.2.2.2.2.2.2 (by have := RQ.out.1; have := T1.out.size; have := T2.out.size; omega) ((O3.out.turned T1.out (by have := RQ.out.2; omega)).turned T2.out (by have := RQ.out.2; omega))).mono ?_
  rintro e w3 ⟨rfl, t3, m3⟩
  have T3 : Hid (Turned l3 h3 w2 w3) := t3
  have M3 : Hid (OwnsH w3 l3 h3 (.agg #[.slice a5 n5 c5]) (markH H k3)) := m3
  have EE : Hid (endH H k3 = endS D U H k) := by show _ = _; unfold endS; rw [KB.out.2.1]
  rw [EE.out]
  clear t3 m3 p7 X2
  go_wp2_with fail
  go_ret
  refine ⟨rfl, ?_, .slice a1 n1 c1, .slice a2 n2 c2, .slice a3 n3 c3, .slice a4 n4 c4, .slice a5 n5 c5, l1, h1, l2, h2, l3, h3, ?_, ?_, ?_, ?_, RQ.out.1, RQ.out.2⟩
  · exact ((T1.out.wide (by have := RQ.out.1; omega) (by have := RQ.out.1; omega)).trans (T2.out.wide (by have := RQ.out.1; omega) (by have := RQ.out.1; omega))).trans (T3.out.wide (by have := RQ.out.1; omega) (by have := RQ.out.1; omega))
  · exact VL.out.1
  · exact cast_own VL.out.2.1 ((M1.out.turned T2.out (by have := RQ.out.2; omega)).turned T3.out (by have := RQ.out.2; omega))
  · exact cast_ownU VL.out.2.2.1 VL.out.2.2.2 (M2.out.turned T3.out (by have := RQ.out.2; omega))
  · rw [KB.out.2.1]
    exact M3.out
end Go.Proofs.YtnnimocaanofjaaGreatDoor
