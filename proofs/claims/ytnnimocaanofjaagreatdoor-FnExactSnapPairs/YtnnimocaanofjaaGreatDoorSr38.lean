/-
  Texts of the store, brought together: Stk. By an AI agent.
-/
import Derived.Test.YtnnimocaanofjaaGreatDoorSr36
import Derived.Test.YtnnimocaanofjaaGreatDoorSq37
namespace Go.Proofs.YtnnimocaanofjaaGreatDoor
set_option linter.unusedSectionVars false
variable [DecidableEq NM]
open Go.ChangeShapes Go.WideShapes Go.ChangeAt Go.RowKit Go.Deep
set_option linter.unusedVariables false
set_option linter.unusedSimpArgs false
set_option maxRecDepth 100000
open List (setIfInBounds_toArray set_cons_zero set_cons_succ)
theorem sealB_lt {L : List Nat} (h : ∀ x ∈ L, x < 256) : ∀ x ∈ sealB L, x < 256 := fun x hx => by
  unfold sealB at hx
  rcases List.mem_append.1 hx with h1 | h1
  · exact h x h1
  · exact numQ_lt _ x h1
structure StoreIn (w : World) (a1 a2 a3 sa ha : Option Addr) (n1 c1 n2 c2 n3 c3 k sc m hc : Nat) (AA : Bool) (G' R' : Int) (D : DM) (U : UM) (H : List NM) : Prop where
  small : smallD D
  lens : D.S.length = n1 ∧ D.C.length = n2 ∧ D.K.length = n3 ∧ D.A = AA
  cap : n1 ≤ c1
  disk : ReadsD w (.agg #[.slice a1 n1 c1, .slice a2 n2 c2, .bool AA, .slice a3 n3 c3]) D
  secs : Src w a1 (cellsS D.S)
  sup : U.G = G' ∧ U.R = R' ∧ U.S.length = k ∧ k ≤ 1048576
  names : ∀ x ∈ U.S, x.1.size ≤ 1048576
  snaps : Src w sa (cellsSn U.S)
  nodes : H.length = m ∧ m ≤ 1048576
  nlens : ∀ N ∈ H, lenN N
  heap : ReadsHL w ha H
theorem StoreIn.below {w w' : World} {a1 a2 a3 sa ha : Option Addr} {n1 c1 n2 c2 n3 c3 k sc m hc : Nat} {AA : Bool} {G' R' : Int} {D : DM} {U : UM} {H : List NM} (h : StoreIn w a1 a2 a3 sa ha n1 c1 n2 c2 n3 c3 k sc m hc AA G' R' D U H) (hb : Below w.heap.size w w') : StoreIn w' a1 a2 a3 sa ha n1 c1 n2 c2 n3 c3 k sc m hc AA G' R' D U H :=
  ⟨h.small, h.lens, h.cap, h.disk.below hb, h.secs.below hb, h.sup, h.names, h.snaps.below hb, h.nodes, h.nlens, h.heap.below hb⟩
theorem StoreIn.super {w : World} {a1 a2 a3 sa ha : Option Addr} {n1 c1 n2 c2 n3 c3 k sc m hc : Nat} {AA : Bool} {G' R' : Int} {D : DM} {U : UM} {H : List NM} (h : StoreIn w a1 a2 a3 sa ha n1 c1 n2 c2 n3 c3 k sc m hc AA G' R' D U H) : ReadsU w (.agg #[.int .i64 G', .int .i64 R', .slice sa k sc]) U :=
  ⟨sa, sc, by rw [h.sup.1, h.sup.2.1, h.sup.2.2.1], h.snaps⟩
theorem StoreIn.heapH {w : World} {a1 a2 a3 sa ha : Option Addr} {n1 c1 n2 c2 n3 c3 k sc m hc : Nat} {AA : Bool} {G' R' : Int} {D : DM} {U : UM} {H : List NM} (h : StoreIn w a1 a2 a3 sa ha n1 c1 n2 c2 n3 c3 k sc m hc AA G' R' D U H) : ReadsH w (.agg #[.slice ha m hc]) H :=
  ⟨ha, hc, by rw [h.nodes.1], h.heap⟩
set_option maxHeartbeats 8000000 in
theorem specStoreOK (a1 a2 a3 sa ha : Option Addr) (n1 c1 n2 c2 n3 c3 k sc m hc : Nat) (AA : Bool) (G' R' : Int) (D : DM) (U : UM) (H : List NM) (w : World) (h : StoreIn w a1 a2 a3 sa ha n1 c1 n2 c2 n3 c3 k sc m hc AA G' R' D U H) :
    Calls Tryz.prog 9 #[.agg #[.slice a1 n1 c1, .slice a2 n2 c2, .bool AA, .slice a3 n3 c3, .int .i64 G', .int .i64 R', .slice sa k sc, .slice ha m hc]] w fun e w' => e = .returned (.bool (storeB D U H)) ∧ Below w.heap.size w w' := by
  have HI : Hid (StoreIn w a1 a2 a3 sa ha n1 c1 n2 c2 n3 c3 k sc m hc AA G' R' D U H) := h
  obtain ⟨bb, hbb⟩ : ∃ bb, storeB D U H = bb := ⟨_, rfl⟩
  have HB : Hid (storeB D U H = bb) := hbb
  rw [hbb]
  have A0 : Hid (∀ o, Below w.heap.size w (w.alloc o)) := fun o => (Below.refl _ _).alloc (Nat.le_refl _) _
  have LN : Hid (D.S.length = n1 ∧ D.C.length = n2) := ⟨h.lens.1, h.lens.2.1⟩
  have NB : n1 ≤ 1048576 := by rw [← h.lens.1]; exact h.small.1.1
  have NC : n2 ≤ 1048576 := by rw [← h.lens.2.1]; exact h.small.2.1.1
  have SU : Hid (smallU U) := ⟨by rw [h.sup.2.2.1]; exact h.sup.2.2.2, h.names⟩
  clear h hbb
  by_cases hok : okD D
  case neg =>
    have FF : Hid (bb = false) := HB.out.symm.trans (store_closed (fun h => hok h.1))
    have HOK : Hid (decide (okD D) = false) := decide_eq_false hok
    clear hok
    go_enter Tryz.func9, Tryz.ntmps9
    go_wp2_with fail
    refine (specDiskOK _ D _ HI.out.small (HI.out.disk.below (A0.out _))).mono ?_
    rw [HOK.out]
    rintro e w1 ⟨rfl, hb1⟩
    have B1 : Hid (Below w.heap.size w w1) := Below.new hb1
    have X1 : Hid (Box w1 w.heap.size [.slice a1 n1 c1, .slice a2 n2 c2, .bool AA, .slice a3 n3 c3, .int .i64 G', .int .i64 R', .slice sa k sc, .slice ha m hc]) := Box.below (Box.new rfl) hb1
    clear hb1
    obtain ⟨x0, _⟩ := X1.out 0 _ rfl
    obtain ⟨x1, _⟩ := X1.out 1 _ rfl
    obtain ⟨x4, _⟩ := X1.out 4 _ rfl
    obtain ⟨x5, _⟩ := X1.out 5 _ rfl
    obtain ⟨x6, _⟩ := X1.out 6 _ rfl
    go_wp2_with fail
    go_ret
    exact ⟨ret_bool FF.out.symm, B1.out⟩
  have HOK : Hid (decide (okD D) = true) := decide_eq_true hok
  have OK : Hid (okD D) := hok
  clear hok
  by_cases h52 : n1 = 52
  case neg =>
    have FF : Hid (bb = false) := HB.out.symm.trans (store_closed (fun h => h52 (LN.out.1.symm.trans h.2.1)))
    have hne : ((n1 : Int) != 52) = true := by simp; omega
    go_enter Tryz.func9, Tryz.ntmps9
    go_wp2_with fail
    refine (specDiskOK _ D _ HI.out.small (HI.out.disk.below (A0.out _))).mono ?_
    rw [HOK.out]
    rintro e w1 ⟨rfl, hb1⟩
    have B1 : Hid (Below w.heap.size w w1) := Below.new hb1
    have X1 : Hid (Box w1 w.heap.size [.slice a1 n1 c1, .slice a2 n2 c2, .bool AA, .slice a3 n3 c3, .int .i64 G', .int .i64 R', .slice sa k sc, .slice ha m hc]) := Box.below (Box.new rfl) hb1
    clear hb1
    obtain ⟨x0, _⟩ := X1.out 0 _ rfl
    obtain ⟨x1, _⟩ := X1.out 1 _ rfl
    obtain ⟨x4, _⟩ := X1.out 4 _ rfl
    obtain ⟨x5, _⟩ := X1.out 5 _ rfl
    obtain ⟨x6, _⟩ := X1.out 6 _ rfl
    go_wp2_with fail
    go_ret
    exact ⟨ret_bool FF.out.symm, B1.out⟩
  have L52 : Hid (D.S.length = 52) := LN.out.1.trans h52
  subst h52
  by_cases hC0 : n2 = 0
  case neg =>
    have FF : Hid (bb = false) := HB.out.symm.trans (store_closed (fun h => hC0 (LN.out.2.symm.trans h.2.2)))
    have hgt : (0 : Int) < (n2 : Int) := by omega
    go_enter Tryz.func9, Tryz.ntmps9
    go_wp2_with fail
    refine (specDiskOK _ D _ HI.out.small (HI.out.disk.below (A0.out _))).mono ?_
    rw [HOK.out]
    rintro e w1 ⟨rfl, hb1⟩
    have B1 : Hid (Below w.heap.size w w1) := Below.new hb1
    have X1 : Hid (Box w1 w.heap.size [.slice a1 52 c1, .slice a2 n2 c2, .bool AA, .slice a3 n3 c3, .int .i64 G', .int .i64 R', .slice sa k sc, .slice ha m hc]) := Box.below (Box.new rfl) hb1
    clear hb1
    obtain ⟨x0, _⟩ := X1.out 0 _ rfl
    obtain ⟨x1, _⟩ := X1.out 1 _ rfl
    obtain ⟨x4, _⟩ := X1.out 4 _ rfl
    obtain ⟨x5, _⟩ := X1.out 5 _ rfl
    obtain ⟨x6, _⟩ := X1.out 6 _ rfl
    go_wp2_with fail
    go_ret
    exact ⟨ret_bool FF.out.symm, B1.out⟩
  have DK : Hid (diskK D) := ⟨OK.out, L52.out, LN.out.2.trans hC0⟩
  subst hC0
  cases hoU : okU U with
  | false =>
    have FF : Hid (bb = false) := HB.out.symm.trans (store_bad hoU)
    have HOU : Hid (okU U = false) := hoU
    clear hoU
    go_enter Tryz.func9, Tryz.ntmps9
    go_wp2_with fail
    refine (specDiskOK _ D _ HI.out.small (HI.out.disk.below (A0.out _))).mono ?_
    rw [HOK.out]
    rintro e w1 ⟨rfl, hb1⟩
    have B1 : Hid (Below w.heap.size w w1) := Below.new hb1
    have X1 : Hid (Box w1 w.heap.size [.slice a1 52 c1, .slice a2 0 c2, .bool AA, .slice a3 n3 c3, .int .i64 G', .int .i64 R', .slice sa k sc, .slice ha m hc]) := Box.below (Box.new rfl) hb1
    clear hb1
    obtain ⟨x0, _⟩ := X1.out 0 _ rfl
    obtain ⟨x1, _⟩ := X1.out 1 _ rfl
    obtain ⟨x4, _⟩ := X1.out 4 _ rfl
    obtain ⟨x5, _⟩ := X1.out 5 _ rfl
    obtain ⟨x6, _⟩ := X1.out 6 _ rfl
    go_wp2_with fail
    refine (specSuperOK _ U _ SU.out (HI.out.super.below B1.out)).mono ?_
    rw [HOU.out]
    rintro e w2 ⟨rfl, hb2⟩
    have B2 : Hid (Below w.heap.size w w2) := B1.out.trans (hb2.mono B1.out.size)
    have X2 : Hid (Box w2 w.heap.size [.slice a1 52 c1, .slice a2 0 c2, .bool AA, .slice a3 n3 c3, .int .i64 G', .int .i64 R', .slice sa k sc, .slice ha m hc]) := X1.out.below hb2
    clear hb2 x0 x1 x4 x5 x6 B1 X1
    go_wp2_with fail
    go_ret
    exact ⟨ret_bool FF.out.symm, B2.out⟩
  | true =>
  have HOU : Hid (okU U = true) := hoU
  clear hoU
  go_enter Tryz.func9, Tryz.ntmps9
  go_wp2_with fail
  refine (specDiskOK _ D _ HI.out.small (HI.out.disk.below (A0.out _))).mono ?_
  rw [HOK.out]
  rintro e w1 ⟨rfl, hb1⟩
  have B1 : Hid (Below w.heap.size w w1) := Below.new hb1
  have X1 : Hid (Box w1 w.heap.size [.slice a1 52 c1, .slice a2 0 c2, .bool AA, .slice a3 n3 c3, .int .i64 G', .int .i64 R', .slice sa k sc, .slice ha m hc]) := Box.below (Box.new rfl) hb1
  clear hb1
  obtain ⟨x0, _⟩ := X1.out 0 _ rfl
  obtain ⟨x1, _⟩ := X1.out 1 _ rfl
  obtain ⟨x4, _⟩ := X1.out 4 _ rfl
  obtain ⟨x5, _⟩ := X1.out 5 _ rfl
  obtain ⟨x6, _⟩ := X1.out 6 _ rfl
  go_wp2_with fail
  refine (specSuperOK _ U _ SU.out (HI.out.super.below B1.out)).mono ?_
  rw [HOU.out]
  rintro e w2 ⟨rfl, hb2⟩
  have B2 : Hid (Below w.heap.size w w2) := B1.out.trans (hb2.mono B1.out.size)
  have X2 : Hid (Box w2 w.heap.size [.slice a1 52 c1, .slice a2 0 c2, .bool AA, .slice a3 n3 c3, .int .i64 G', .int .i64 R', .slice sa k sc, .slice ha m hc]) := X1.out.below hb2
  clear hb2 x0 x1 x4 x5 x6 B1 X1
  obtain ⟨x0, _⟩ := X2.out 0 _ rfl
  obtain ⟨x1, _⟩ := X2.out 1 _ rfl
  obtain ⟨x2, _⟩ := X2.out 2 _ rfl
  obtain ⟨x3, _⟩ := X2.out 3 _ rfl
  go_wp2_with fail
  refine (specNewest _ D _ HI.out.small OK.out (by rw [L52.out]; omega) (HI.out.disk.below B2.out)).mono ?_
  rintro e w3 ⟨g, r, na, nk, nc, b, rfl, hrl, hb3⟩
  have B3 : Hid (Below w.heap.size w w3) := B2.out.trans (hb3.mono B2.out.size)
  have X3 : Hid (Box w3 w.heap.size [.slice a1 52 c1, .slice a2 0 c2, .bool AA, .slice a3 n3 c3, .int .i64 G', .int .i64 R', .slice sa k sc, .slice ha m hc]) := X2.out.below hb3
  have RL : Hid (ReadL w3 w2.heap.size (newestM (supAt D 0) (supAt D 1)) g r na nk nc b) := hrl
  clear hb3 hrl x0 x1 x2 x3 X2
  dsimp only
  go_upto_region 4 with (fail)
  have BX : Hid (Box (w3.alloc (.cells #[.int .i64 g, .int .i64 r, .slice na nk nc] 42)) w3.heap.size [.int .i64 g, .int .i64 r, .slice na nk nc]) := Box.new rfl
  have BA : Hid (Below w3.heap.size w3 (w3.alloc (.cells #[.int .i64 g, .int .i64 r, .slice na nk nc] 42))) := (Below.refl _ _).alloc (Nat.le_refl _) _
  generalize hW : w3.alloc (.cells #[.int .i64 g, .int .i64 r, .slice na nk nc] 42) = w4 at BX BA ⊢
  have B4 : Hid (Below w.heap.size w w4) := B3.out.trans (BA.out.mono B3.out.size)
  have X4 : Hid (Box w4 w.heap.size [.slice a1 52 c1, .slice a2 0 c2, .bool AA, .slice a3 n3 c3, .int .i64 G', .int .i64 R', .slice sa k sc, .slice ha m hc]) := X3.out.below BA.out
  have R4 : Hid (ReadL w4 w2.heap.size (newestM (supAt D 0) (supAt D 1)) g r na nk nc b) := RL.out.below BA.out
  obtain ⟨B, hB⟩ : ∃ B, w3.heap.size = B := ⟨_, rfl⟩
  rw [hB] at BX
  rw [hB]
  have SC : Hid (∀ w', Below w4.heap.size w4 w' → w'.cell? ⟨B, 0, none⟩ = some (.int .i64 g) ∧ w'.cell? ⟨B, 1, none⟩ = some (.int .i64 r) ∧ w'.cell? ⟨B, 2, none⟩ = some (.slice na nk nc) ∧ w'.cell? ⟨w.heap.size, 4, none⟩ = some (.int .i64 G') ∧ w'.cell? ⟨w.heap.size, 5, none⟩ = some (.int .i64 R') ∧ w'.cell? ⟨w.heap.size, 6, none⟩ = some (.slice sa k sc)) := fun w' hb => by
    have h1 := BX.out.below hb
    have h2 := X4.out.below hb
    exact ⟨(h1 0 _ rfl).1, (h1 1 _ rfl).1, (h1 2 _ rfl).1, (h2 4 _ rfl).1, (h2 5 _ rfl).1, (h2 6 _ rfl).1⟩
  have BD : Hid (Below w4.heap.size w4 w4.drew) := (Below.refl _ _).drew
  clear hW hB BA B3 X3 RL B2
  by_cases hsame : newestM (supAt D 0) (supAt D 1) = some U
  case neg =>
    cases b with
    | false =>
      have FF : Hid (bb = false) := by
        rcases R4.out with ⟨_, h2⟩ | ⟨h1, _⟩
        · exact HB.out.symm.trans (store_none DK.out h2)
        · cases h1
      clear hsame
      refine wp_region_noPanic ?_
      refine wp_region_held_drew (S := (fun w' => w'.cell? ⟨B, 0, none⟩ = some (.int .i64 g) ∧ w'.cell? ⟨B, 1, none⟩ = some (.int .i64 r) ∧ w'.cell? ⟨B, 2, none⟩ = some (.slice na nk nc) ∧ w'.cell? ⟨w.heap.size, 4, none⟩ = some (.int .i64 G') ∧ w'.cell? ⟨w.heap.size, 5, none⟩ = some (.int .i64 R') ∧ w'.cell? ⟨w.heap.size, 6, none⟩ = some (.slice sa k sc))) (by kernel_rfl) (SC.out _ BD.out) (fun hHeld => ?_)
      refine tkA (i := 0) (v := .bool false) ?_ hHeld ?_
      · rintro w9 ⟨s0, s1, s2, s3, s4, s5⟩; go_simp
      simp only [Act.put, setIfInBounds_toArray, set_cons_zero, set_cons_succ]
      refine tkA (i := 1) (v := .bool true) ?_ hHeld ?_
      · rintro w9 ⟨s0, s1, s2, s3, s4, s5⟩; go_simp
      simp only [Act.put, setIfInBounds_toArray, set_cons_zero, set_cons_succ]
      refine tkA (i := 2) (v := .bool true) ?_ hHeld ?_
      · rintro w9 ⟨s0, s1, s2, s3, s4, s5⟩; go_simp
      simp only [Act.put, setIfInBounds_toArray, set_cons_zero, set_cons_succ]
      refine skA (i := 3) hHeld ?_
      simp only [Act.put, setIfInBounds_toArray, set_cons_zero, set_cons_succ]
      refine skA (i := 4) hHeld ?_
      simp only [Act.put, setIfInBounds_toArray, set_cons_zero, set_cons_succ]
      refine skA (i := 5) hHeld ?_
      simp only [Act.put, setIfInBounds_toArray, set_cons_zero, set_cons_succ]
      refine skA (i := 6) hHeld ?_
      simp only [Act.put, setIfInBounds_toArray, set_cons_zero, set_cons_succ]
      refine skA (i := 7) hHeld ?_
      simp only [Act.put, setIfInBounds_toArray, set_cons_zero, set_cons_succ]
      refine skA (i := 8) hHeld ?_
      simp only [Act.put, setIfInBounds_toArray, set_cons_zero, set_cons_succ]
      refine tkA (i := 9) (v := .bool true) ?_ hHeld ?_
      · rintro w9 ⟨s0, s1, s2, s3, s4, s5⟩; go_simp
      simp only [Act.put, setIfInBounds_toArray, set_cons_zero, set_cons_succ]
      refine tkA (i := 10) (v := .bool true) ?_ hHeld ?_
      · rintro w9 ⟨s0, s1, s2, s3, s4, s5⟩; go_simp
      simp only [Act.put, setIfInBounds_toArray, set_cons_zero, set_cons_succ]
      refine skA (i := 11) hHeld ?_
      simp only [Act.put, setIfInBounds_toArray, set_cons_zero, set_cons_succ]
      refine skA (i := 12) hHeld ?_
      simp only [Act.put, setIfInBounds_toArray, set_cons_zero, set_cons_succ]
      refine skA (i := 13) hHeld ?_
      simp only [Act.put, setIfInBounds_toArray, set_cons_zero, set_cons_succ]
      refine skA (i := 14) hHeld ?_
      simp only [Act.put, setIfInBounds_toArray, set_cons_zero, set_cons_succ]
      refine skA (i := 15) hHeld ?_
      simp only [Act.put, setIfInBounds_toArray, set_cons_zero, set_cons_succ]
      refine skA (i := 16) hHeld ?_
      simp only [Act.put, setIfInBounds_toArray, set_cons_zero, set_cons_succ]
      refine tkA (i := 17) (v := .bool true) ?_ hHeld ?_
      · rintro w9 ⟨s0, s1, s2, s3, s4, s5⟩; go_simp
      simp only [Act.put, setIfInBounds_toArray, set_cons_zero, set_cons_succ]
      refine tkA (i := 18) (v := .bool true) ?_ hHeld ?_
      · rintro w9 ⟨s0, s1, s2, s3, s4, s5⟩; go_simp
      simp only [Act.put, setIfInBounds_toArray, set_cons_zero, set_cons_succ]
      refine skA (i := 19) hHeld ?_
      simp only [Act.put, setIfInBounds_toArray, set_cons_zero, set_cons_succ]
      refine skA (i := 20) hHeld ?_
      simp only [Act.put, setIfInBounds_toArray, set_cons_zero, set_cons_succ]
      refine skA (i := 21) hHeld ?_
      simp only [Act.put, setIfInBounds_toArray, set_cons_zero, set_cons_succ]
      refine skA (i := 22) hHeld ?_
      simp only [Act.put, setIfInBounds_toArray, set_cons_zero, set_cons_succ]
      refine skA (i := 23) hHeld ?_
      simp only [Act.put, setIfInBounds_toArray, set_cons_zero, set_cons_succ]
      refine skA (i := 24) hHeld ?_
      simp only [Act.put, setIfInBounds_toArray, set_cons_zero, set_cons_succ]
      refine skA (i := 25) hHeld ?_
      simp only [Act.put, setIfInBounds_toArray, set_cons_zero, set_cons_succ]
      refine skA (i := 26) hHeld ?_
      simp only [Act.put, setIfInBounds_toArray, set_cons_zero, set_cons_succ]
      refine wpAnyH_ready (rs := [27]) (by kernel_rfl) (by simp) ?_
      refine AllReadyH.cons rfl (fun K0 hK => ?_) AllReadyH.nil
      go_simp
      refine hK.out _ _ (SC.out _ BD.out) (fun hHeld => ?_)
      clear hK K0
      refine wpAnyH_done (by kernel_rfl) ?_ _
      refine NoPanic.normal ?_
      go_wp2_with fail
      go_ret
      exact ⟨ret_bool FF.out.symm, B4.out.trans (BD.out.mono B4.out.size)⟩
    | true =>
    obtain ⟨X, hX, hXG, hXo⟩ : ∃ X, newestM (supAt D 0) (supAt D 1) = some X ∧ X.G = g ∧ OwnsU w4 w2.heap.size w4.heap.size (.agg #[.int .i64 g, .int .i64 r, .slice na nk nc]) X := by
      rcases R4.out with ⟨h1, _⟩ | ⟨_, X, h2, h3, h4⟩
      · cases h1
      · exact ⟨X, h2, h3, h4⟩
    have FF : Hid (bb = false) := HB.out.symm.trans (store_other DK.out hX (fun e => hsame (by rw [hX, e])))
    have RX : Hid (ReadsU w4 (.agg #[.int .i64 g, .int .i64 r, .slice na nk nc]) X) := hXo.reads
    have KX : Hid (okU X = true) := new_ok DK.out hX
    by_cases hg : g = G'
    case neg =>
      have hgn : (g != G') = true := by simpa using hg
      clear hXG hXo hX hsame hg
      refine wp_region_noPanic ?_
      refine wp_region_held_drew (S := (fun w' => w'.cell? ⟨B, 0, none⟩ = some (.int .i64 g) ∧ w'.cell? ⟨B, 1, none⟩ = some (.int .i64 r) ∧ w'.cell? ⟨B, 2, none⟩ = some (.slice na nk nc) ∧ w'.cell? ⟨w.heap.size, 4, none⟩ = some (.int .i64 G') ∧ w'.cell? ⟨w.heap.size, 5, none⟩ = some (.int .i64 R') ∧ w'.cell? ⟨w.heap.size, 6, none⟩ = some (.slice sa k sc))) (by kernel_rfl) (SC.out _ BD.out) (fun hHeld => ?_)
      refine tkA (i := 0) (v := .bool true) ?_ hHeld ?_
      · rintro w9 ⟨s0, s1, s2, s3, s4, s5⟩; go_simp
      simp only [Act.put, setIfInBounds_toArray, set_cons_zero, set_cons_succ]
      refine tkA (i := 1) (v := .bool false) ?_ hHeld ?_
      · rintro w9 ⟨s0, s1, s2, s3, s4, s5⟩; go_simp
      simp only [Act.put, setIfInBounds_toArray, set_cons_zero, set_cons_succ]
      refine tkA (i := 2) (v := .bool false) ?_ hHeld ?_
      · rintro w9 ⟨s0, s1, s2, s3, s4, s5⟩; go_simp
      simp only [Act.put, setIfInBounds_toArray, set_cons_zero, set_cons_succ]
      refine tkA (i := 3) (v := .pointer (some ⟨B, 0, none⟩)) ?_ hHeld ?_
      · rintro w9 ⟨s0, s1, s2, s3, s4, s5⟩; go_simp
      simp only [Act.put, setIfInBounds_toArray, set_cons_zero, set_cons_succ]
      refine tkA (i := 4) (v := .int .i64 g) ?_ hHeld ?_
      · rintro w9 ⟨s0, s1, s2, s3, s4, s5⟩; go_simp
      simp only [Act.put, setIfInBounds_toArray, set_cons_zero, set_cons_succ]
      refine tkA (i := 5) (v := .pointer (some ⟨w.heap.size, 4, none⟩)) ?_ hHeld ?_
      · rintro w9 ⟨s0, s1, s2, s3, s4, s5⟩; go_simp
      simp only [Act.put, setIfInBounds_toArray, set_cons_zero, set_cons_succ]
      refine tkA (i := 6) (v := .pointer (some ⟨w.heap.size, 4, none⟩)) ?_ hHeld ?_
      · rintro w9 ⟨s0, s1, s2, s3, s4, s5⟩; go_simp
      simp only [Act.put, setIfInBounds_toArray, set_cons_zero, set_cons_succ]
      refine tkA (i := 7) (v := .int .i64 G') ?_ hHeld ?_
      · rintro w9 ⟨s0, s1, s2, s3, s4, s5⟩; go_simp
      simp only [Act.put, setIfInBounds_toArray, set_cons_zero, set_cons_succ]
      refine tkA (i := 8) (v := .bool true) ?_ hHeld ?_
      · rintro w9 ⟨s0, s1, s2, s3, s4, s5⟩; go_simp
      simp only [Act.put, setIfInBounds_toArray, set_cons_zero, set_cons_succ]
      refine tkA (i := 9) (v := .bool true) ?_ hHeld ?_
      · rintro w9 ⟨s0, s1, s2, s3, s4, s5⟩; go_simp
      simp only [Act.put, setIfInBounds_toArray, set_cons_zero, set_cons_succ]
      refine tkA (i := 10) (v := .bool true) ?_ hHeld ?_
      · rintro w9 ⟨s0, s1, s2, s3, s4, s5⟩; go_simp
      simp only [Act.put, setIfInBounds_toArray, set_cons_zero, set_cons_succ]
      refine skA (i := 11) hHeld ?_
      simp only [Act.put, setIfInBounds_toArray, set_cons_zero, set_cons_succ]
      refine skA (i := 12) hHeld ?_
      simp only [Act.put, setIfInBounds_toArray, set_cons_zero, set_cons_succ]
      refine skA (i := 13) hHeld ?_
      simp only [Act.put, setIfInBounds_toArray, set_cons_zero, set_cons_succ]
      refine skA (i := 14) hHeld ?_
      simp only [Act.put, setIfInBounds_toArray, set_cons_zero, set_cons_succ]
      refine skA (i := 15) hHeld ?_
      simp only [Act.put, setIfInBounds_toArray, set_cons_zero, set_cons_succ]
      refine skA (i := 16) hHeld ?_
      simp only [Act.put, setIfInBounds_toArray, set_cons_zero, set_cons_succ]
      refine tkA (i := 17) (v := .bool true) ?_ hHeld ?_
      · rintro w9 ⟨s0, s1, s2, s3, s4, s5⟩; go_simp
      simp only [Act.put, setIfInBounds_toArray, set_cons_zero, set_cons_succ]
      refine tkA (i := 18) (v := .bool true) ?_ hHeld ?_
      · rintro w9 ⟨s0, s1, s2, s3, s4, s5⟩; go_simp
      simp only [Act.put, setIfInBounds_toArray, set_cons_zero, set_cons_succ]
      refine skA (i := 19) hHeld ?_
      simp only [Act.put, setIfInBounds_toArray, set_cons_zero, set_cons_succ]
      refine skA (i := 20) hHeld ?_
      simp only [Act.put, setIfInBounds_toArray, set_cons_zero, set_cons_succ]
      refine skA (i := 21) hHeld ?_
      simp only [Act.put, setIfInBounds_toArray, set_cons_zero, set_cons_succ]
      refine skA (i := 22) hHeld ?_
      simp only [Act.put, setIfInBounds_toArray, set_cons_zero, set_cons_succ]
      refine skA (i := 23) hHeld ?_
      simp only [Act.put, setIfInBounds_toArray, set_cons_zero, set_cons_succ]
      refine skA (i := 24) hHeld ?_
      simp only [Act.put, setIfInBounds_toArray, set_cons_zero, set_cons_succ]
      refine skA (i := 25) hHeld ?_
      simp only [Act.put, setIfInBounds_toArray, set_cons_zero, set_cons_succ]
      refine skA (i := 26) hHeld ?_
      simp only [Act.put, setIfInBounds_toArray, set_cons_zero, set_cons_succ]
      refine wpAnyH_ready (rs := [27]) (by kernel_rfl) (by simp) ?_
      refine AllReadyH.cons rfl (fun K0 hK => ?_) AllReadyH.nil
      go_simp
      refine hK.out _ _ (SC.out _ BD.out) (fun hHeld => ?_)
      clear hK K0
      refine wpAnyH_done (by kernel_rfl) ?_ _
      refine NoPanic.normal ?_
      go_wp2_with fail
      go_ret
      exact ⟨ret_bool FF.out.symm, B4.out.trans (BD.out.mono B4.out.size)⟩
    by_cases hr : r = R'
    case neg =>
      have hgn : (g != G') = false := by simpa using hg
      have hrn : (r != R') = true := by simpa using hr
      clear hXG hXo hX hsame hg hr
      refine wp_region_noPanic ?_
      refine wp_region_held_drew (S := (fun w' => w'.cell? ⟨B, 0, none⟩ = some (.int .i64 g) ∧ w'.cell? ⟨B, 1, none⟩ = some (.int .i64 r) ∧ w'.cell? ⟨B, 2, none⟩ = some (.slice na nk nc) ∧ w'.cell? ⟨w.heap.size, 4, none⟩ = some (.int .i64 G') ∧ w'.cell? ⟨w.heap.size, 5, none⟩ = some (.int .i64 R') ∧ w'.cell? ⟨w.heap.size, 6, none⟩ = some (.slice sa k sc))) (by kernel_rfl) (SC.out _ BD.out) (fun hHeld => ?_)
      refine tkA (i := 0) (v := .bool true) ?_ hHeld ?_
      · rintro w9 ⟨s0, s1, s2, s3, s4, s5⟩; go_simp
      simp only [Act.put, setIfInBounds_toArray, set_cons_zero, set_cons_succ]
      refine tkA (i := 1) (v := .bool false) ?_ hHeld ?_
      · rintro w9 ⟨s0, s1, s2, s3, s4, s5⟩; go_simp
      simp only [Act.put, setIfInBounds_toArray, set_cons_zero, set_cons_succ]
      refine tkA (i := 2) (v := .bool false) ?_ hHeld ?_
      · rintro w9 ⟨s0, s1, s2, s3, s4, s5⟩; go_simp
      simp only [Act.put, setIfInBounds_toArray, set_cons_zero, set_cons_succ]
      refine tkA (i := 3) (v := .pointer (some ⟨B, 0, none⟩)) ?_ hHeld ?_
      · rintro w9 ⟨s0, s1, s2, s3, s4, s5⟩; go_simp
      simp only [Act.put, setIfInBounds_toArray, set_cons_zero, set_cons_succ]
      refine tkA (i := 4) (v := .int .i64 g) ?_ hHeld ?_
      · rintro w9 ⟨s0, s1, s2, s3, s4, s5⟩; go_simp
      simp only [Act.put, setIfInBounds_toArray, set_cons_zero, set_cons_succ]
      refine tkA (i := 5) (v := .pointer (some ⟨w.heap.size, 4, none⟩)) ?_ hHeld ?_
      · rintro w9 ⟨s0, s1, s2, s3, s4, s5⟩; go_simp
      simp only [Act.put, setIfInBounds_toArray, set_cons_zero, set_cons_succ]
      refine tkA (i := 6) (v := .pointer (some ⟨w.heap.size, 4, none⟩)) ?_ hHeld ?_
      · rintro w9 ⟨s0, s1, s2, s3, s4, s5⟩; go_simp
      simp only [Act.put, setIfInBounds_toArray, set_cons_zero, set_cons_succ]
      refine tkA (i := 7) (v := .int .i64 G') ?_ hHeld ?_
      · rintro w9 ⟨s0, s1, s2, s3, s4, s5⟩; go_simp
      simp only [Act.put, setIfInBounds_toArray, set_cons_zero, set_cons_succ]
      refine tkA (i := 8) (v := .bool false) ?_ hHeld ?_
      · rintro w9 ⟨s0, s1, s2, s3, s4, s5⟩; go_simp
      simp only [Act.put, setIfInBounds_toArray, set_cons_zero, set_cons_succ]
      refine tkA (i := 9) (v := .bool false) ?_ hHeld ?_
      · rintro w9 ⟨s0, s1, s2, s3, s4, s5⟩; go_simp
      simp only [Act.put, setIfInBounds_toArray, set_cons_zero, set_cons_succ]
      refine tkA (i := 10) (v := .bool false) ?_ hHeld ?_
      · rintro w9 ⟨s0, s1, s2, s3, s4, s5⟩; go_simp
      simp only [Act.put, setIfInBounds_toArray, set_cons_zero, set_cons_succ]
      refine tkA (i := 11) (v := .pointer (some ⟨B, 1, none⟩)) ?_ hHeld ?_
      · rintro w9 ⟨s0, s1, s2, s3, s4, s5⟩; go_simp
      simp only [Act.put, setIfInBounds_toArray, set_cons_zero, set_cons_succ]
      refine tkA (i := 12) (v := .int .i64 r) ?_ hHeld ?_
      · rintro w9 ⟨s0, s1, s2, s3, s4, s5⟩; go_simp
      simp only [Act.put, setIfInBounds_toArray, set_cons_zero, set_cons_succ]
      refine tkA (i := 13) (v := .pointer (some ⟨w.heap.size, 4, none⟩)) ?_ hHeld ?_
      · rintro w9 ⟨s0, s1, s2, s3, s4, s5⟩; go_simp
      simp only [Act.put, setIfInBounds_toArray, set_cons_zero, set_cons_succ]
      refine tkA (i := 14) (v := .pointer (some ⟨w.heap.size, 5, none⟩)) ?_ hHeld ?_
      · rintro w9 ⟨s0, s1, s2, s3, s4, s5⟩; go_simp
      simp only [Act.put, setIfInBounds_toArray, set_cons_zero, set_cons_succ]
      refine tkA (i := 15) (v := .int .i64 R') ?_ hHeld ?_
      · rintro w9 ⟨s0, s1, s2, s3, s4, s5⟩; go_simp
      simp only [Act.put, setIfInBounds_toArray, set_cons_zero, set_cons_succ]
      refine tkA (i := 16) (v := .bool true) ?_ hHeld ?_
      · rintro w9 ⟨s0, s1, s2, s3, s4, s5⟩; go_simp
      simp only [Act.put, setIfInBounds_toArray, set_cons_zero, set_cons_succ]
      refine tkA (i := 17) (v := .bool true) ?_ hHeld ?_
      · rintro w9 ⟨s0, s1, s2, s3, s4, s5⟩; go_simp
      simp only [Act.put, setIfInBounds_toArray, set_cons_zero, set_cons_succ]
      refine tkA (i := 18) (v := .bool true) ?_ hHeld ?_
      · rintro w9 ⟨s0, s1, s2, s3, s4, s5⟩; go_simp
      simp only [Act.put, setIfInBounds_toArray, set_cons_zero, set_cons_succ]
      refine skA (i := 19) hHeld ?_
      simp only [Act.put, setIfInBounds_toArray, set_cons_zero, set_cons_succ]
      refine skA (i := 20) hHeld ?_
      simp only [Act.put, setIfInBounds_toArray, set_cons_zero, set_cons_succ]
      refine skA (i := 21) hHeld ?_
      simp only [Act.put, setIfInBounds_toArray, set_cons_zero, set_cons_succ]
      refine skA (i := 22) hHeld ?_
      simp only [Act.put, setIfInBounds_toArray, set_cons_zero, set_cons_succ]
      refine skA (i := 23) hHeld ?_
      simp only [Act.put, setIfInBounds_toArray, set_cons_zero, set_cons_succ]
      refine skA (i := 24) hHeld ?_
      simp only [Act.put, setIfInBounds_toArray, set_cons_zero, set_cons_succ]
      refine skA (i := 25) hHeld ?_
      simp only [Act.put, setIfInBounds_toArray, set_cons_zero, set_cons_succ]
      refine skA (i := 26) hHeld ?_
      simp only [Act.put, setIfInBounds_toArray, set_cons_zero, set_cons_succ]
      refine wpAnyH_ready (rs := [27]) (by kernel_rfl) (by simp) ?_
      refine AllReadyH.cons rfl (fun K0 hK => ?_) AllReadyH.nil
      go_simp
      refine hK.out _ _ (SC.out _ BD.out) (fun hHeld => ?_)
      clear hK K0
      refine wpAnyH_done (by kernel_rfl) ?_ _
      refine NoPanic.normal ?_
      go_wp2_with fail
      go_ret
      exact ⟨ret_bool FF.out.symm, B4.out.trans (BD.out.mono B4.out.size)⟩
    obtain ⟨lX, hlX⟩ : ∃ l, (sealB (superL X)).length = l := ⟨_, rfl⟩
    obtain ⟨lU, hlU⟩ : ∃ l, (sealB (superL U)).length = l := ⟨_, rfl⟩
    obtain ⟨tX, htX⟩ : ∃ t, strB (sealB (superL X)) = t := ⟨_, rfl⟩
    obtain ⟨tU, htU⟩ : ∃ t, strB (sealB (superL U)) = t := ⟨_, rfl⟩
    have LX : Hid ((sealB (superL X)).length = lX) := hlX
    have LU : Hid ((sealB (superL U)).length = lU) := hlU
    have TX : Hid (strB (sealB (superL X)) = tX) := htX
    have TU : Hid (strB (sealB (superL U)) = tU) := htU
    have hts : (tX.toList == tU.toList) = false := by
      cases e : tX.toList == tU.toList with
      | false => rfl
      | true =>
        have e1 : tX = tU := toList_injE (by simpa using e)
        rw [← htX, ← htU] at e1
        exact absurd (by rw [hX, bytes_same KX.out HOU.out (strB_inj (sealB_lt superL_lt) (sealB_lt superL_lt) e1)]) hsame
    have hgn : (g != G') = false := by simpa using hg
    have hrn : (r != R') = false := by simpa using hr
    clear hXG hXo hX hsame hg hr hlX hlU htX htU
    refine wp_region_noPanic ?_
    refine wp_region_held_drew (S := (fun w' => w'.cell? ⟨B, 0, none⟩ = some (.int .i64 g) ∧ w'.cell? ⟨B, 1, none⟩ = some (.int .i64 r) ∧ w'.cell? ⟨B, 2, none⟩ = some (.slice na nk nc) ∧ w'.cell? ⟨w.heap.size, 4, none⟩ = some (.int .i64 G') ∧ w'.cell? ⟨w.heap.size, 5, none⟩ = some (.int .i64 R') ∧ w'.cell? ⟨w.heap.size, 6, none⟩ = some (.slice sa k sc))) (by kernel_rfl) (SC.out _ BD.out) (fun hHeld => ?_)
    refine tkA (i := 0) (v := .bool true) ?_ hHeld ?_
    · rintro w9 ⟨s0, s1, s2, s3, s4, s5⟩; go_simp
    simp only [Act.put, setIfInBounds_toArray, set_cons_zero, set_cons_succ]
    refine tkA (i := 1) (v := .bool false) ?_ hHeld ?_
    · rintro w9 ⟨s0, s1, s2, s3, s4, s5⟩; go_simp
    simp only [Act.put, setIfInBounds_toArray, set_cons_zero, set_cons_succ]
    refine tkA (i := 2) (v := .bool false) ?_ hHeld ?_
    · rintro w9 ⟨s0, s1, s2, s3, s4, s5⟩; go_simp
    simp only [Act.put, setIfInBounds_toArray, set_cons_zero, set_cons_succ]
    refine tkA (i := 3) (v := .pointer (some ⟨B, 0, none⟩)) ?_ hHeld ?_
    · rintro w9 ⟨s0, s1, s2, s3, s4, s5⟩; go_simp
    simp only [Act.put, setIfInBounds_toArray, set_cons_zero, set_cons_succ]
    refine tkA (i := 4) (v := .int .i64 g) ?_ hHeld ?_
    · rintro w9 ⟨s0, s1, s2, s3, s4, s5⟩; go_simp
    simp only [Act.put, setIfInBounds_toArray, set_cons_zero, set_cons_succ]
    refine tkA (i := 5) (v := .pointer (some ⟨w.heap.size, 4, none⟩)) ?_ hHeld ?_
    · rintro w9 ⟨s0, s1, s2, s3, s4, s5⟩; go_simp
    simp only [Act.put, setIfInBounds_toArray, set_cons_zero, set_cons_succ]
    refine tkA (i := 6) (v := .pointer (some ⟨w.heap.size, 4, none⟩)) ?_ hHeld ?_
    · rintro w9 ⟨s0, s1, s2, s3, s4, s5⟩; go_simp
    simp only [Act.put, setIfInBounds_toArray, set_cons_zero, set_cons_succ]
    refine tkA (i := 7) (v := .int .i64 G') ?_ hHeld ?_
    · rintro w9 ⟨s0, s1, s2, s3, s4, s5⟩; go_simp
    simp only [Act.put, setIfInBounds_toArray, set_cons_zero, set_cons_succ]
    refine tkA (i := 8) (v := .bool false) ?_ hHeld ?_
    · rintro w9 ⟨s0, s1, s2, s3, s4, s5⟩; go_simp
    simp only [Act.put, setIfInBounds_toArray, set_cons_zero, set_cons_succ]
    refine tkA (i := 9) (v := .bool false) ?_ hHeld ?_
    · rintro w9 ⟨s0, s1, s2, s3, s4, s5⟩; go_simp
    simp only [Act.put, setIfInBounds_toArray, set_cons_zero, set_cons_succ]
    refine tkA (i := 10) (v := .bool false) ?_ hHeld ?_
    · rintro w9 ⟨s0, s1, s2, s3, s4, s5⟩; go_simp
    simp only [Act.put, setIfInBounds_toArray, set_cons_zero, set_cons_succ]
    refine tkA (i := 11) (v := .pointer (some ⟨B, 1, none⟩)) ?_ hHeld ?_
    · rintro w9 ⟨s0, s1, s2, s3, s4, s5⟩; go_simp
    simp only [Act.put, setIfInBounds_toArray, set_cons_zero, set_cons_succ]
    refine tkA (i := 12) (v := .int .i64 r) ?_ hHeld ?_
    · rintro w9 ⟨s0, s1, s2, s3, s4, s5⟩; go_simp
    simp only [Act.put, setIfInBounds_toArray, set_cons_zero, set_cons_succ]
    refine tkA (i := 13) (v := .pointer (some ⟨w.heap.size, 4, none⟩)) ?_ hHeld ?_
    · rintro w9 ⟨s0, s1, s2, s3, s4, s5⟩; go_simp
    simp only [Act.put, setIfInBounds_toArray, set_cons_zero, set_cons_succ]
    refine tkA (i := 14) (v := .pointer (some ⟨w.heap.size, 5, none⟩)) ?_ hHeld ?_
    · rintro w9 ⟨s0, s1, s2, s3, s4, s5⟩; go_simp
    simp only [Act.put, setIfInBounds_toArray, set_cons_zero, set_cons_succ]
    refine tkA (i := 15) (v := .int .i64 R') ?_ hHeld ?_
    · rintro w9 ⟨s0, s1, s2, s3, s4, s5⟩; go_simp
    simp only [Act.put, setIfInBounds_toArray, set_cons_zero, set_cons_succ]
    refine tkA (i := 16) (v := .bool false) ?_ hHeld ?_
    · rintro w9 ⟨s0, s1, s2, s3, s4, s5⟩; go_simp
    simp only [Act.put, setIfInBounds_toArray, set_cons_zero, set_cons_succ]
    refine tkA (i := 17) (v := .bool false) ?_ hHeld ?_
    · rintro w9 ⟨s0, s1, s2, s3, s4, s5⟩; go_simp
    simp only [Act.put, setIfInBounds_toArray, set_cons_zero, set_cons_succ]
    refine tkA (i := 18) (v := .bool false) ?_ hHeld ?_
    · rintro w9 ⟨s0, s1, s2, s3, s4, s5⟩; go_simp
    simp only [Act.put, setIfInBounds_toArray, set_cons_zero, set_cons_succ]
    refine tkA (i := 19) (v := .agg #[.int .i64 g, .int .i64 r, .slice na nk nc]) ?_ hHeld ?_
    · rintro w9 ⟨s0, s1, s2, s3, s4, s5⟩; go_simp
    simp only [Act.put, setIfInBounds_toArray, set_cons_zero, set_cons_succ]
    refine tkA (i := 22) (v := .pointer (some ⟨w.heap.size, 4, none⟩)) ?_ hHeld ?_
    · rintro w9 ⟨s0, s1, s2, s3, s4, s5⟩; go_simp
    simp only [Act.put, setIfInBounds_toArray, set_cons_zero, set_cons_succ]
    refine tkA (i := 23) (v := .agg #[.int .i64 G', .int .i64 R', .slice sa k sc]) ?_ hHeld ?_
    · rintro w9 ⟨s0, s1, s2, s3, s4, s5⟩; go_simp
    simp only [Act.put, setIfInBounds_toArray, set_cons_zero, set_cons_succ]
    refine wpAnyH_ready (rs := [20]) (by kernel_rfl) (by simp) ?_
    refine AllReadyH.cons rfl (fun K0 hK => ?_) AllReadyH.nil
    go_simp
    refine (l04Bytes _ X _ KX.out (RX.out.below BD.out)).mono ?_
    rintro e w5 ⟨u5, rfl, o5, _, hb5⟩
    rw [LX.out] at o5
    obtain ⟨g5, d5, rfl⟩ := own_someT o5 (by have := LX.out; rw [sealB_length] at this; omega)
    obtain ⟨_, _, e5, s5', _⟩ := own_src o5
    cases e5
    have B5 : Hid (Below w4.heap.size w4 w5) := BD.out.trans (hb5.mono BD.out.size)
    have S5 : Hid (Src w5 (some ⟨g5, 0, none⟩) (cellsB (sealB (superL X)))) := s5'
    have CV5 : Hid (∀ W, Src W (some ⟨g5, 0, none⟩) (cellsB (sealB (superL X))) → (convert 74 9 (.slice (some ⟨g5, 0, none⟩) lX d5)).run Tryz.prog W = .ok (.string tX) W) := fun W hW => by
      have h9 := conv_sub (c := d5) hW (s := lX) (Nat.le_of_eq LX.out.symm)
      rw [List.take_of_length_le (Nat.le_of_eq LX.out), TX.out] at h9
      exact h9
    clear o5 hb5 s5'
    dsimp only
    refine hK.out _ _ (SC.out _ B5.out) (fun hHeld => ?_)
    clear hK K0
    refine wpAnyH_ready (rs := [21, 24]) (by kernel_rfl) (by simp) ?_
    refine AllReadyH.cons rfl (fun K0 hK => ?_) (AllReadyH.cons rfl (fun K0 hK => ?_) AllReadyH.nil)
    · have cv := CV5.out _ S5.out
      go_simp
      refine hK.out _ _ (SC.out _ B5.out) (fun hHeld => ?_)
      clear hK K0
      clear cv
      refine wpAnyH_ready (rs := [24]) (by kernel_rfl) (by simp) ?_
      refine AllReadyH.cons rfl (fun K0 hK => ?_) AllReadyH.nil
      go_simp
      refine (l04Bytes _ U _ HOU.out (HI.out.super.below (B4.out.trans (B5.out.mono B4.out.size)))).mono ?_
      rintro e w6 ⟨u6, rfl, o6, _, hb6⟩
      rw [LU.out] at o6
      obtain ⟨g6, d6, rfl⟩ := own_someT o6 (by have := LU.out; rw [sealB_length] at this; omega)
      obtain ⟨_, _, e6, s6', _⟩ := own_src o6
      cases e6
      have B6 : Hid (Below w4.heap.size w4 w6) := B5.out.trans (hb6.mono B5.out.size)
      have S6 : Hid (Src w6 (some ⟨g6, 0, none⟩) (cellsB (sealB (superL U)))) := s6'
      have S56 : Hid (Src w6 (some ⟨g5, 0, none⟩) (cellsB (sealB (superL X)))) := S5.out.below hb6
      have CV6 : Hid (∀ W, Src W (some ⟨g6, 0, none⟩) (cellsB (sealB (superL U))) → (convert 74 9 (.slice (some ⟨g6, 0, none⟩) lU d6)).run Tryz.prog W = .ok (.string tU) W) := fun W hW => by
        have h9 := conv_sub (c := d6) hW (s := lU) (Nat.le_of_eq LU.out.symm)
        rw [List.take_of_length_le (Nat.le_of_eq LU.out), TU.out] at h9
        exact h9
      clear o6 hb6 s6'
      dsimp only
      refine hK.out _ _ (SC.out _ B6.out) (fun hHeld => ?_)
      clear hK K0
      refine wpAnyH_ready (rs := [25]) (by kernel_rfl) (by simp) ?_
      refine AllReadyH.cons rfl (fun K0 hK => ?_) AllReadyH.nil
      have cv := CV6.out _ S6.out
      go_simp
      refine hK.out _ _ (SC.out _ B6.out) (fun hHeld => ?_)
      clear hK K0
      clear cv
      refine tkA (i := 26) (v := .bool true) ?_ hHeld ?_
      · rintro w9 ⟨s0, s1, s2, s3, s4, s5⟩; go_simp
      simp only [Act.put, setIfInBounds_toArray, set_cons_zero, set_cons_succ]
      refine wpAnyH_ready (rs := [27]) (by kernel_rfl) (by simp) ?_
      refine AllReadyH.cons rfl (fun K0 hK => ?_) AllReadyH.nil
      go_simp
      refine hK.out _ _ (SC.out _ B6.out) (fun hHeld => ?_)
      clear hK K0
      refine wpAnyH_done (by kernel_rfl) ?_ _
      refine NoPanic.normal ?_
      go_wp2_with fail
      go_ret
      exact ⟨ret_bool FF.out.symm, B4.out.trans (B6.out.mono B4.out.size)⟩
    · go_simp
      refine (l04Bytes _ U _ HOU.out (HI.out.super.below (B4.out.trans (B5.out.mono B4.out.size)))).mono ?_
      rintro e w6 ⟨u6, rfl, o6, _, hb6⟩
      rw [LU.out] at o6
      obtain ⟨g6, d6, rfl⟩ := own_someT o6 (by have := LU.out; rw [sealB_length] at this; omega)
      obtain ⟨_, _, e6, s6', _⟩ := own_src o6
      cases e6
      have B6 : Hid (Below w4.heap.size w4 w6) := B5.out.trans (hb6.mono B5.out.size)
      have S6 : Hid (Src w6 (some ⟨g6, 0, none⟩) (cellsB (sealB (superL U)))) := s6'
      have S56 : Hid (Src w6 (some ⟨g5, 0, none⟩) (cellsB (sealB (superL X)))) := S5.out.below hb6
      have CV6 : Hid (∀ W, Src W (some ⟨g6, 0, none⟩) (cellsB (sealB (superL U))) → (convert 74 9 (.slice (some ⟨g6, 0, none⟩) lU d6)).run Tryz.prog W = .ok (.string tU) W) := fun W hW => by
        have h9 := conv_sub (c := d6) hW (s := lU) (Nat.le_of_eq LU.out.symm)
        rw [List.take_of_length_le (Nat.le_of_eq LU.out), TU.out] at h9
        exact h9
      clear o6 hb6 s6'
      dsimp only
      refine hK.out _ _ (SC.out _ B6.out) (fun hHeld => ?_)
      clear hK K0
      refine wpAnyH_ready (rs := [21, 25]) (by kernel_rfl) (by simp) ?_
      refine AllReadyH.cons rfl (fun K0 hK => ?_) (AllReadyH.cons rfl (fun K0 hK => ?_) AllReadyH.nil)
      · have cv := CV5.out _ S56.out
        go_simp
        refine hK.out _ _ (SC.out _ B6.out) (fun hHeld => ?_)
        clear hK K0
        clear cv
        refine wpAnyH_ready (rs := [25]) (by kernel_rfl) (by simp) ?_
        refine AllReadyH.cons rfl (fun K0 hK => ?_) AllReadyH.nil
        have cv := CV6.out _ S6.out
        go_simp
        refine hK.out _ _ (SC.out _ B6.out) (fun hHeld => ?_)
        clear hK K0
        clear cv
        refine tkA (i := 26) (v := .bool true) ?_ hHeld ?_
        · rintro w9 ⟨s0, s1, s2, s3, s4, s5⟩; go_simp
        simp only [Act.put, setIfInBounds_toArray, set_cons_zero, set_cons_succ]
        refine wpAnyH_ready (rs := [27]) (by kernel_rfl) (by simp) ?_
        refine AllReadyH.cons rfl (fun K0 hK => ?_) AllReadyH.nil
        go_simp
        refine hK.out _ _ (SC.out _ B6.out) (fun hHeld => ?_)
        clear hK K0
        refine wpAnyH_done (by kernel_rfl) ?_ _
        refine NoPanic.normal ?_
        go_wp2_with fail
        go_ret
        exact ⟨ret_bool FF.out.symm, B4.out.trans (B6.out.mono B4.out.size)⟩
      · have cv := CV6.out _ S6.out
        go_simp
        refine hK.out _ _ (SC.out _ B6.out) (fun hHeld => ?_)
        clear hK K0
        clear cv
        refine wpAnyH_ready (rs := [21]) (by kernel_rfl) (by simp) ?_
        refine AllReadyH.cons rfl (fun K0 hK => ?_) AllReadyH.nil
        have cv := CV5.out _ S56.out
        go_simp
        refine hK.out _ _ (SC.out _ B6.out) (fun hHeld => ?_)
        clear hK K0
        clear cv
        refine tkA (i := 26) (v := .bool true) ?_ hHeld ?_
        · rintro w9 ⟨s0, s1, s2, s3, s4, s5⟩; go_simp
        simp only [Act.put, setIfInBounds_toArray, set_cons_zero, set_cons_succ]
        refine wpAnyH_ready (rs := [27]) (by kernel_rfl) (by simp) ?_
        refine AllReadyH.cons rfl (fun K0 hK => ?_) AllReadyH.nil
        go_simp
        refine hK.out _ _ (SC.out _ B6.out) (fun hHeld => ?_)
        clear hK K0
        refine wpAnyH_done (by kernel_rfl) ?_ _
        refine NoPanic.normal ?_
        go_wp2_with fail
        go_ret
        exact ⟨ret_bool FF.out.symm, B4.out.trans (B6.out.mono B4.out.size)⟩
  obtain ⟨rfl, hXG, hXo⟩ : b = true ∧ U.G = g ∧ OwnsU w4 w2.heap.size w4.heap.size (.agg #[.int .i64 g, .int .i64 r, .slice na nk nc]) U := by
    rcases R4.out with ⟨_, h2⟩ | ⟨h1, X, h2, h3, h4⟩
    · rw [hsame] at h2; cases h2
    · rw [hsame] at h2
      cases h2
      exact ⟨h1, h3, h4⟩
  have SA : Hid (newestM (supAt D 0) (supAt D 1) = some U) := hsame
  have RX : Hid (ReadsU w4 (.agg #[.int .i64 g, .int .i64 r, .slice na nk nc]) U) := hXo.reads
  have hg : g = G' := hXG.symm.trans HI.out.sup.1
  have hr : r = R' := by
    obtain ⟨a9, c9, e9, _⟩ := RX.out
    simp only [Value.agg.injEq, Array.mk.injEq, List.cons.injEq, Value.int.injEq, true_and] at e9
    exact e9.2.1.trans HI.out.sup.2.1
  obtain ⟨lU, hlU⟩ : ∃ l, (sealB (superL U)).length = l := ⟨_, rfl⟩
  obtain ⟨tU, htU⟩ : ∃ t, strB (sealB (superL U)) = t := ⟨_, rfl⟩
  have LU : Hid ((sealB (superL U)).length = lU) := hlU
  have TU : Hid (strB (sealB (superL U)) = tU) := htU
  have hts : (tU.toList == tU.toList) = true := by simp
  have hgn : (g != G') = false := by simpa using hg
  have hrn : (r != R') = false := by simpa using hr
  clear hXG hXo hsame hg hr hlU htU R4
  go_cut [64] from 37 to 64 (fun t9 wx => t9 = .bool false ∧ Hid (Below w4.heap.size w4 wx))
  case first =>
    refine wp_region_noPanic ?_
    refine wp_region_held_drew (S := (fun w' => w'.cell? ⟨B, 0, none⟩ = some (.int .i64 g) ∧ w'.cell? ⟨B, 1, none⟩ = some (.int .i64 r) ∧ w'.cell? ⟨B, 2, none⟩ = some (.slice na nk nc) ∧ w'.cell? ⟨w.heap.size, 4, none⟩ = some (.int .i64 G') ∧ w'.cell? ⟨w.heap.size, 5, none⟩ = some (.int .i64 R') ∧ w'.cell? ⟨w.heap.size, 6, none⟩ = some (.slice sa k sc))) (by kernel_rfl) (SC.out _ BD.out) (fun hHeld => ?_)
    refine tkA (i := 0) (v := .bool true) ?_ hHeld ?_
    · rintro w9 ⟨s0, s1, s2, s3, s4, s5⟩; go_simp
    simp only [Act.put, setIfInBounds_toArray, set_cons_zero, set_cons_succ]
    refine tkA (i := 1) (v := .bool false) ?_ hHeld ?_
    · rintro w9 ⟨s0, s1, s2, s3, s4, s5⟩; go_simp
    simp only [Act.put, setIfInBounds_toArray, set_cons_zero, set_cons_succ]
    refine tkA (i := 2) (v := .bool false) ?_ hHeld ?_
    · rintro w9 ⟨s0, s1, s2, s3, s4, s5⟩; go_simp
    simp only [Act.put, setIfInBounds_toArray, set_cons_zero, set_cons_succ]
    refine tkA (i := 3) (v := .pointer (some ⟨B, 0, none⟩)) ?_ hHeld ?_
    · rintro w9 ⟨s0, s1, s2, s3, s4, s5⟩; go_simp
    simp only [Act.put, setIfInBounds_toArray, set_cons_zero, set_cons_succ]
    refine tkA (i := 4) (v := .int .i64 g) ?_ hHeld ?_
    · rintro w9 ⟨s0, s1, s2, s3, s4, s5⟩; go_simp
    simp only [Act.put, setIfInBounds_toArray, set_cons_zero, set_cons_succ]
    refine tkA (i := 5) (v := .pointer (some ⟨w.heap.size, 4, none⟩)) ?_ hHeld ?_
    · rintro w9 ⟨s0, s1, s2, s3, s4, s5⟩; go_simp
    simp only [Act.put, setIfInBounds_toArray, set_cons_zero, set_cons_succ]
    refine tkA (i := 6) (v := .pointer (some ⟨w.heap.size, 4, none⟩)) ?_ hHeld ?_
    · rintro w9 ⟨s0, s1, s2, s3, s4, s5⟩; go_simp
    simp only [Act.put, setIfInBounds_toArray, set_cons_zero, set_cons_succ]
    refine tkA (i := 7) (v := .int .i64 G') ?_ hHeld ?_
    · rintro w9 ⟨s0, s1, s2, s3, s4, s5⟩; go_simp
    simp only [Act.put, setIfInBounds_toArray, set_cons_zero, set_cons_succ]
    refine tkA (i := 8) (v := .bool false) ?_ hHeld ?_
    · rintro w9 ⟨s0, s1, s2, s3, s4, s5⟩; go_simp
    simp only [Act.put, setIfInBounds_toArray, set_cons_zero, set_cons_succ]
    refine tkA (i := 9) (v := .bool false) ?_ hHeld ?_
    · rintro w9 ⟨s0, s1, s2, s3, s4, s5⟩; go_simp
    simp only [Act.put, setIfInBounds_toArray, set_cons_zero, set_cons_succ]
    refine tkA (i := 10) (v := .bool false) ?_ hHeld ?_
    · rintro w9 ⟨s0, s1, s2, s3, s4, s5⟩; go_simp
    simp only [Act.put, setIfInBounds_toArray, set_cons_zero, set_cons_succ]
    refine tkA (i := 11) (v := .pointer (some ⟨B, 1, none⟩)) ?_ hHeld ?_
    · rintro w9 ⟨s0, s1, s2, s3, s4, s5⟩; go_simp
    simp only [Act.put, setIfInBounds_toArray, set_cons_zero, set_cons_succ]
    refine tkA (i := 12) (v := .int .i64 r) ?_ hHeld ?_
    · rintro w9 ⟨s0, s1, s2, s3, s4, s5⟩; go_simp
    simp only [Act.put, setIfInBounds_toArray, set_cons_zero, set_cons_succ]
    refine tkA (i := 13) (v := .pointer (some ⟨w.heap.size, 4, none⟩)) ?_ hHeld ?_
    · rintro w9 ⟨s0, s1, s2, s3, s4, s5⟩; go_simp
    simp only [Act.put, setIfInBounds_toArray, set_cons_zero, set_cons_succ]
    refine tkA (i := 14) (v := .pointer (some ⟨w.heap.size, 5, none⟩)) ?_ hHeld ?_
    · rintro w9 ⟨s0, s1, s2, s3, s4, s5⟩; go_simp
    simp only [Act.put, setIfInBounds_toArray, set_cons_zero, set_cons_succ]
    refine tkA (i := 15) (v := .int .i64 R') ?_ hHeld ?_
    · rintro w9 ⟨s0, s1, s2, s3, s4, s5⟩; go_simp
    simp only [Act.put, setIfInBounds_toArray, set_cons_zero, set_cons_succ]
    refine tkA (i := 16) (v := .bool false) ?_ hHeld ?_
    · rintro w9 ⟨s0, s1, s2, s3, s4, s5⟩; go_simp
    simp only [Act.put, setIfInBounds_toArray, set_cons_zero, set_cons_succ]
    refine tkA (i := 17) (v := .bool false) ?_ hHeld ?_
    · rintro w9 ⟨s0, s1, s2, s3, s4, s5⟩; go_simp
    simp only [Act.put, setIfInBounds_toArray, set_cons_zero, set_cons_succ]
    refine tkA (i := 18) (v := .bool false) ?_ hHeld ?_
    · rintro w9 ⟨s0, s1, s2, s3, s4, s5⟩; go_simp
    simp only [Act.put, setIfInBounds_toArray, set_cons_zero, set_cons_succ]
    refine tkA (i := 19) (v := .agg #[.int .i64 g, .int .i64 r, .slice na nk nc]) ?_ hHeld ?_
    · rintro w9 ⟨s0, s1, s2, s3, s4, s5⟩; go_simp
    simp only [Act.put, setIfInBounds_toArray, set_cons_zero, set_cons_succ]
    refine tkA (i := 22) (v := .pointer (some ⟨w.heap.size, 4, none⟩)) ?_ hHeld ?_
    · rintro w9 ⟨s0, s1, s2, s3, s4, s5⟩; go_simp
    simp only [Act.put, setIfInBounds_toArray, set_cons_zero, set_cons_succ]
    refine tkA (i := 23) (v := .agg #[.int .i64 G', .int .i64 R', .slice sa k sc]) ?_ hHeld ?_
    · rintro w9 ⟨s0, s1, s2, s3, s4, s5⟩; go_simp
    simp only [Act.put, setIfInBounds_toArray, set_cons_zero, set_cons_succ]
    refine wpAnyH_ready (rs := [20]) (by kernel_rfl) (by simp) ?_
    refine AllReadyH.cons rfl (fun K0 hK => ?_) AllReadyH.nil
    go_simp
    refine (l04Bytes _ U _ HOU.out (RX.out.below BD.out)).mono ?_
    rintro e w5 ⟨u5, rfl, o5, _, hb5⟩
    rw [LU.out] at o5
    obtain ⟨g5, d5, rfl⟩ := own_someT o5 (by have := LU.out; rw [sealB_length] at this; omega)
    obtain ⟨_, _, e5, s5', _⟩ := own_src o5
    cases e5
    have B5 : Hid (Below w4.heap.size w4 w5) := BD.out.trans (hb5.mono BD.out.size)
    have S5 : Hid (Src w5 (some ⟨g5, 0, none⟩) (cellsB (sealB (superL U)))) := s5'
    have CV5 : Hid (∀ W, Src W (some ⟨g5, 0, none⟩) (cellsB (sealB (superL U))) → (convert 74 9 (.slice (some ⟨g5, 0, none⟩) lU d5)).run Tryz.prog W = .ok (.string tU) W) := fun W hW => by
      have h9 := conv_sub (c := d5) hW (s := lU) (Nat.le_of_eq LU.out.symm)
      rw [List.take_of_length_le (Nat.le_of_eq LU.out), TU.out] at h9
      exact h9
    clear o5 hb5 s5'
    dsimp only
    refine hK.out _ _ (SC.out _ B5.out) (fun hHeld => ?_)
    clear hK K0
    refine wpAnyH_ready (rs := [21, 24]) (by kernel_rfl) (by simp) ?_
    refine AllReadyH.cons rfl (fun K0 hK => ?_) (AllReadyH.cons rfl (fun K0 hK => ?_) AllReadyH.nil)
    · have cv := CV5.out _ S5.out
      go_simp
      refine hK.out _ _ (SC.out _ B5.out) (fun hHeld => ?_)
      clear hK K0
      clear cv
      refine wpAnyH_ready (rs := [24]) (by kernel_rfl) (by simp) ?_
      refine AllReadyH.cons rfl (fun K0 hK => ?_) AllReadyH.nil
      go_simp
      refine (l04Bytes _ U _ HOU.out (HI.out.super.below (B4.out.trans (B5.out.mono B4.out.size)))).mono ?_
      rintro e w6 ⟨u6, rfl, o6, _, hb6⟩
      rw [LU.out] at o6
      obtain ⟨g6, d6, rfl⟩ := own_someT o6 (by have := LU.out; rw [sealB_length] at this; omega)
      obtain ⟨_, _, e6, s6', _⟩ := own_src o6
      cases e6
      have B6 : Hid (Below w4.heap.size w4 w6) := B5.out.trans (hb6.mono B5.out.size)
      have S6 : Hid (Src w6 (some ⟨g6, 0, none⟩) (cellsB (sealB (superL U)))) := s6'
      have S56 : Hid (Src w6 (some ⟨g5, 0, none⟩) (cellsB (sealB (superL U)))) := S5.out.below hb6
      have CV6 : Hid (∀ W, Src W (some ⟨g6, 0, none⟩) (cellsB (sealB (superL U))) → (convert 74 9 (.slice (some ⟨g6, 0, none⟩) lU d6)).run Tryz.prog W = .ok (.string tU) W) := fun W hW => by
        have h9 := conv_sub (c := d6) hW (s := lU) (Nat.le_of_eq LU.out.symm)
        rw [List.take_of_length_le (Nat.le_of_eq LU.out), TU.out] at h9
        exact h9
      clear o6 hb6 s6'
      dsimp only
      refine hK.out _ _ (SC.out _ B6.out) (fun hHeld => ?_)
      clear hK K0
      refine wpAnyH_ready (rs := [25]) (by kernel_rfl) (by simp) ?_
      refine AllReadyH.cons rfl (fun K0 hK => ?_) AllReadyH.nil
      have cv := CV6.out _ S6.out
      go_simp
      refine hK.out _ _ (SC.out _ B6.out) (fun hHeld => ?_)
      clear hK K0
      clear cv
      refine tkA (i := 26) (v := .bool false) ?_ hHeld ?_
      · rintro w9 ⟨s0, s1, s2, s3, s4, s5⟩; go_simp
      simp only [Act.put, setIfInBounds_toArray, set_cons_zero, set_cons_succ]
      refine wpAnyH_ready (rs := [27]) (by kernel_rfl) (by simp) ?_
      refine AllReadyH.cons rfl (fun K0 hK => ?_) AllReadyH.nil
      go_simp
      refine hK.out _ _ (SC.out _ B6.out) (fun hHeld => ?_)
      clear hK K0
      refine wpAnyH_done (by kernel_rfl) ?_ _
      refine NoPanic.normal ?_
      go_wp2_with fail
      go_meet
      exact ⟨rfl, B6⟩
    · go_simp
      refine (l04Bytes _ U _ HOU.out (HI.out.super.below (B4.out.trans (B5.out.mono B4.out.size)))).mono ?_
      rintro e w6 ⟨u6, rfl, o6, _, hb6⟩
      rw [LU.out] at o6
      obtain ⟨g6, d6, rfl⟩ := own_someT o6 (by have := LU.out; rw [sealB_length] at this; omega)
      obtain ⟨_, _, e6, s6', _⟩ := own_src o6
      cases e6
      have B6 : Hid (Below w4.heap.size w4 w6) := B5.out.trans (hb6.mono B5.out.size)
      have S6 : Hid (Src w6 (some ⟨g6, 0, none⟩) (cellsB (sealB (superL U)))) := s6'
      have S56 : Hid (Src w6 (some ⟨g5, 0, none⟩) (cellsB (sealB (superL U)))) := S5.out.below hb6
      have CV6 : Hid (∀ W, Src W (some ⟨g6, 0, none⟩) (cellsB (sealB (superL U))) → (convert 74 9 (.slice (some ⟨g6, 0, none⟩) lU d6)).run Tryz.prog W = .ok (.string tU) W) := fun W hW => by
        have h9 := conv_sub (c := d6) hW (s := lU) (Nat.le_of_eq LU.out.symm)
        rw [List.take_of_length_le (Nat.le_of_eq LU.out), TU.out] at h9
        exact h9
      clear o6 hb6 s6'
      dsimp only
      refine hK.out _ _ (SC.out _ B6.out) (fun hHeld => ?_)
      clear hK K0
      refine wpAnyH_ready (rs := [21, 25]) (by kernel_rfl) (by simp) ?_
      refine AllReadyH.cons rfl (fun K0 hK => ?_) (AllReadyH.cons rfl (fun K0 hK => ?_) AllReadyH.nil)
      · have cv := CV5.out _ S56.out
        go_simp
        refine hK.out _ _ (SC.out _ B6.out) (fun hHeld => ?_)
        clear hK K0
        clear cv
        refine wpAnyH_ready (rs := [25]) (by kernel_rfl) (by simp) ?_
        refine AllReadyH.cons rfl (fun K0 hK => ?_) AllReadyH.nil
        have cv := CV6.out _ S6.out
        go_simp
        refine hK.out _ _ (SC.out _ B6.out) (fun hHeld => ?_)
        clear hK K0
        clear cv
        refine tkA (i := 26) (v := .bool false) ?_ hHeld ?_
        · rintro w9 ⟨s0, s1, s2, s3, s4, s5⟩; go_simp
        simp only [Act.put, setIfInBounds_toArray, set_cons_zero, set_cons_succ]
        refine wpAnyH_ready (rs := [27]) (by kernel_rfl) (by simp) ?_
        refine AllReadyH.cons rfl (fun K0 hK => ?_) AllReadyH.nil
        go_simp
        refine hK.out _ _ (SC.out _ B6.out) (fun hHeld => ?_)
        clear hK K0
        refine wpAnyH_done (by kernel_rfl) ?_ _
        refine NoPanic.normal ?_
        go_wp2_with fail
        go_meet
        exact ⟨rfl, B6⟩
      · have cv := CV6.out _ S6.out
        go_simp
        refine hK.out _ _ (SC.out _ B6.out) (fun hHeld => ?_)
        clear hK K0
        clear cv
        refine wpAnyH_ready (rs := [21]) (by kernel_rfl) (by simp) ?_
        refine AllReadyH.cons rfl (fun K0 hK => ?_) AllReadyH.nil
        have cv := CV5.out _ S56.out
        go_simp
        refine hK.out _ _ (SC.out _ B6.out) (fun hHeld => ?_)
        clear hK K0
        clear cv
        refine tkA (i := 26) (v := .bool false) ?_ hHeld ?_
        · rintro w9 ⟨s0, s1, s2, s3, s4, s5⟩; go_simp
        simp only [Act.put, setIfInBounds_toArray, set_cons_zero, set_cons_succ]
        refine wpAnyH_ready (rs := [27]) (by kernel_rfl) (by simp) ?_
        refine AllReadyH.cons rfl (fun K0 hK => ?_) AllReadyH.nil
        go_simp
        refine hK.out _ _ (SC.out _ B6.out) (fun hHeld => ?_)
        clear hK K0
        refine wpAnyH_done (by kernel_rfl) ?_ _
        refine NoPanic.normal ?_
        go_wp2_with fail
        go_meet
        exact ⟨rfl, B6⟩
  case rest =>
  obtain ⟨rfl, BC⟩ := hcut
  clear hts hgn hrn SC BD BX RX LU TU
  have B7 : Hid (Below w.heap.size w wc) := B4.out.trans (BC.out.mono B4.out.size)
  have X7 : Hid (Box wc w.heap.size [.slice a1 52 c1, .slice a2 0 c2, .bool AA, .slice a3 n3 c3, .int .i64 G', .int .i64 R', .slice sa k sc, .slice ha m hc]) := X4.out.below BC.out
  clear BC X4 B4
  obtain ⟨y0, _⟩ := X7.out 0 _ rfl
  obtain ⟨y1, _⟩ := X7.out 1 _ rfl
  obtain ⟨y2, _⟩ := X7.out 2 _ rfl
  obtain ⟨y3, _⟩ := X7.out 3 _ rfl
  obtain ⟨y4, _⟩ := X7.out 4 _ rfl
  obtain ⟨y5, _⟩ := X7.out 5 _ rfl
  obtain ⟨y6, _⟩ := X7.out 6 _ rfl
  have SV : Hid (∀ j, j < 52 → (lastOr (byS D.C j) (D.S.getD j e0)).size ≤ 420) := fun j hj => last_size OK.out (by rw [L52.out]; exact hj)
  have PP : Hid (∀ p ∈ D.C, 0 ≤ p.1) := fun p hp => (OK.out.2.1.2 p hp).1
  go_wp2_with fail
  refine (l04Load a1 a2 a3 sa 52 c1 0 c2 n3 c3 k sc AA G' R' D U _ HI.out.small HI.out.lens L52.out PP.out SV.out (HI.out.disk.below B7.out) (HI.out.super.below B7.out) (okU_len HOU.out) (roots_ok HOU.out)).mono ?_
  rintro e w8 ⟨v8, b8, rfl, hp8, hb8⟩
  obtain ⟨h8, d8, rfl, hcase⟩ := load_case DK.out HOU.out hp8
  have B8 : Hid (Below w.heap.size w w8) := B7.out.trans (hb8.mono B7.out.size)
  have X8 : Hid (Box w8 w.heap.size [.slice a1 52 c1, .slice a2 0 c2, .bool AA, .slice a3 n3 c3, .int .i64 G', .int .i64 R', .slice sa k sc, .slice ha m hc]) := X7.out.below hb8
  clear hb8 hp8 y0 y1 y2 y3 y4 y5 y6 X7 B7
  rcases hcase with ⟨rfl, A, hA, hA2, hR⟩ | ⟨rfl, hA⟩
  · obtain ⟨q, hq⟩ : ∃ q, decide (keepH A (pagesM (D.S.drop 2)) = H) = q := ⟨_, rfl⟩
    have HQ : Hid (decide (keepH A (pagesM (D.S.drop 2)) = H) = q) := hq
    have FF : Hid (bb = q) := by
      show bb = q
      rw [← HB.out, store_same DK.out SA.out, hA]
      exact hq
    have RK : Hid (ReadsHL w8 h8 (keepH A (pagesM (D.S.drop 2)))) := hR
    have A8 : Hid (Below w8.heap.size w8 (w8.alloc (.cells #[.slice h8 50 d8] 45))) := (Below.refl _ _).alloc (Nat.le_refl _) _
    have B9 : Hid (Below w.heap.size w (w8.alloc (.cells #[.slice h8 50 d8] 45))) := B8.out.trans (A8.out.mono B8.out.size)
    obtain ⟨z7, _⟩ := (X8.out.old (.cells #[.slice h8 50 d8] 45)) 7 _ rfl
    clear hA hA2 hR hq
    dsimp only
    go_wp2_with fail
    refine (l04SameS q _ _ (keepH A (pagesM (D.S.drop 2))) H _ (by rw [keep_len]; omega) (by rw [HI.out.nodes.1]; exact HI.out.nodes.2) (keep_lenN DK.out) HI.out.nlens ⟨h8, d8, by rw [keep_len], RK.out.below A8.out⟩ (HI.out.heapH.below B9.out) HQ.out).mono ?_
    rintro e w9 ⟨rfl, hb9⟩
    have BF : Hid (Below w.heap.size w w9) := B9.out.trans (hb9.mono B9.out.size)
    clear hb9 z7
    go_wp2_with fail
    go_ret
    exact ⟨ret_bool FF.out.symm, BF.out⟩
  · have FF : Hid (bb = false) := by
      show bb = false
      rw [← HB.out, store_same DK.out SA.out, hA]
    have BF : Hid (Below w.heap.size w (w8.alloc (.cells #[.slice h8 50 d8] 45))) := B8.out.alloc B8.out.size _
    clear hA
    dsimp only
    go_wp2_with fail
    go_ret
    exact ⟨ret_bool FF.out.symm, BF.out⟩
end Go.Proofs.YtnnimocaanofjaaGreatDoor
