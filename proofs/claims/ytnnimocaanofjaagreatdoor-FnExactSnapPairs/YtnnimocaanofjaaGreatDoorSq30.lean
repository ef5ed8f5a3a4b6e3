/-
  Texts of the store, brought together: Vol. By an AI agent.
-/
import Derived.Test.YtnnimocaanofjaaGreatDoorSq29
namespace Go.Proofs.YtnnimocaanofjaaGreatDoor
open Go.ChangeShapes Go.WideShapes Go.ChangeAt Go.RowKit Go.Deep
set_option linter.unusedVariables false
set_option linter.unusedSimpArgs false
set_option maxRecDepth 100000
open List (setIfInBounds_toArray set_cons_zero set_cons_succ)
def setsL : List Value → Nat → List Value → List Value
  | L, _, [] => L
  | L, o, z :: zs => setsL (L.set o z) (o + 1) zs
theorem sets_mid : ∀ (zs ys xs : List Value), ys.length = zs.length → setsL (xs ++ ys) xs.length zs = xs ++ zs
  | [], ys, xs, h => by
    have : ys = [] := List.length_eq_zero_iff.1 h
    subst this; rfl
  | z :: zs, [], xs, h => by simp at h
  | z :: zs, y :: ys, xs, h => by
    have h1 := sets_mid zs ys (xs ++ [z]) (by simpa using h)
    have e : (xs ++ y :: ys).set xs.length z = (xs ++ [z]) ++ ys := by
      rw [List.set_append_right _ _ (Nat.le_refl _)]; simp
    rw [setsL, e]
    have e2 : (xs ++ [z]).length = xs.length + 1 := by simp
    rw [e2] at h1
    rw [h1]; simp
theorem box_setCells {P : Nat} : ∀ (zs : List Value) (o : Nat) (w : World) (L : List Value), Box w P L → Box (w.setCells P o zs) P (setsL L o zs)
  | [], o, w, L, h => h
  | z :: zs, o, w, L, h => box_setCells zs (o + 1) _ _ (h.set o z)
theorem box_setCells_far {P B : Nat} : ∀ {zs : List Value} {o : Nat} {w : World} {L : List Value}, Box w B L → P ≠ B → Box (w.setCells P o zs) B L
  | [], o, w, L, h, _ => h
  | z :: zs, o, w, L, h, hne => box_setCells_far (zs := zs) (o := o + 1) (h.other _ (fun e => hne e.symm) _) hne
theorem turned_setCells {P : Nat} : ∀ (zs : List Value) (o : Nat) (w : World), Turned P (P + 1) w (w.setCells P o zs)
  | [], o, w => Turned.of_below (Below.refl _ _)
  | z :: zs, o, w => (Turned.set w ⟨P, o, none⟩ (lo := P) (hi := P + 1) (by dsimp only; omega) (by dsimp only; omega) z).trans (turned_setCells zs (o + 1) _)
theorem size_setCells {P : Nat} : ∀ (zs : List Value) (o : Nat) (w : World), (w.setCells P o zs).heap.size = w.heap.size
  | [], o, w => rfl
  | z :: zs, o, w => by
    have := size_setCells (P := P) zs (o + 1) (w.setCell ⟨P, o, none⟩ z)
    rw [World.size_setCell] at this
    exact this
theorem there_box {w : World} {P : Nat} {xs ys : List Value} (h : Box w P (xs ++ ys)) : w.there P xs.length ys.length := fun j hj => by
  have h9 := h (xs.length + j) _ (by rw [List.getElem?_append_right (by omega), Nat.add_sub_cancel_left, List.getElem?_eq_getElem hj])
  exact ⟨by rw [h9.1]; rfl, h9.2⟩
theorem reachedOne (v : Value) (H : List NM) (ra : Option Addr) (n rc : Nat) (L : List Int) (w : World) (hsm : smallH H) (h : ReadsH w v H) (hL : L.length = n) (hn : n ≤ 1048576) (hs : Src w ra (cellsI L)) :
    Calls Tryz.prog 137 #[v, .slice ra n rc] w fun e w' => ∃ A b, e = .returned (.tuple #[.agg (A.map Value.bool).toArray, .bool b]) ∧ A.length = 50 ∧ ((b = false ∧ allF H L st0.R = none) ∨ (b = true ∧ allF H L st0.R = some A)) ∧ Below w.heap.size w w' := by
  refine (reachedBy v H ra n rc L w hsm h hL hn hs).mono ?_
  rintro e w' ⟨hb, ⟨h1, rfl⟩ | ⟨A, h1, h2, rfl⟩⟩
  · exact ⟨st0.R, false, rfl, by decide, .inl ⟨rfl, h1⟩, hb⟩
  · exact ⟨A, true, rfl, h2, .inr ⟨rfl, h1⟩, hb⟩
theorem Box.cells {w : World} {B : Nat} {vs : List Value} {b : Nat} {w' : World} (h : Box w B vs) (hb : Below b w w') (hB : B < b) : Box w' B vs := fun i v hv => by
  obtain ⟨h1, h2⟩ := h i v hv
  have e := hb.block B hB
  refine ⟨?_, ?_⟩
  · rw [← h1]; exact World.cell?_of_block (a := ⟨B, i, none⟩) e
  · rw [← h2]; exact World.frozen?_of_block (a := ⟨B, i, none⟩) e
set_option maxHeartbeats 4000000 in
theorem holdI (P : Nat) (G R : Int) (sa : Option Addr) (sn sc : Nat) (x3 x4 x5 x6 : Value) (U : UM) (v : Value) (H : List NM) (w : World) (hU : U.S.length ≤ 100000) (hH : H.length = 50) (hsm : smallH H) (hP : Box w P ([.int .i64 G, .int .i64 R, .slice sa sn sc, x3, x4, x5, x6, .slice none 0 0] ++ st0.R.map Value.bool)) (hr : ReadsU w (.agg #[.int .i64 G, .int .i64 R, .slice sa sn sc]) U) (lo hi : Nat) (hlo : P < lo) (h : OwnsH w lo hi v H) :
    Calls Tryz.prog 101 #[.pointer (some ⟨P, 0, none⟩), v] w fun e w' => Turned P (P + 1) w w' ∧ ((allF H (rootsU U) st0.R = none ∧ e = .returned (.bool false)) ∨ ∃ A u, allF H (rootsU U) st0.R = some A ∧ A.length = 50 ∧ e = .returned (.bool true) ∧ Box w' P ([.int .i64 G, .int .i64 R, .slice sa sn sc, x3, x4, x5, x6, u] ++ A.map Value.bool) ∧ OwnsHL w' w.heap.size w'.heap.size u 50 (keepH A H)) := by
  obtain ⟨u9, rfl, hown⟩ := h
  rw [hH] at hown
  obtain ⟨a, c, rfl, _⟩ := hown.lit
  have hrd := hown.reads
  have HW : Hid (OwnsHL w lo hi (.slice a 50 c) 50 H ∧ P < lo) := ⟨hown, hlo⟩
  have HP : Hid (Box w P ([.int .i64 G, .int .i64 R, .slice sa sn sc, x3, x4, x5, x6, .slice none 0 0] ++ st0.R.map Value.bool)) := hP
  have PL : Hid (P < w.heap.size) := World.block_lt_of_cell? _ _ (hP 0 _ rfl).1
  have HR : Hid (ReadsHL w a H) := hrd
  have HU : Hid (ReadsU w (.agg #[.int .i64 G, .int .i64 R, .slice sa sn sc]) U ∧ U.S.length ≤ 100000) := ⟨hr, hU⟩
  have HS : Hid (smallH H ∧ H.length = 50) := ⟨hsm, hH⟩
  clear hrd hr hP hsm hU hH hown hlo
  obtain ⟨p0, _⟩ := HP.out 0 _ rfl
  obtain ⟨p1, _⟩ := HP.out 1 _ rfl
  obtain ⟨p2, _⟩ := HP.out 2 _ rfl
  go_enter Tryz.func101, Tryz.ntmps101
  go_wp2_with fail
  have SC : Hid (∀ w', Below w.heap.size w w' → Box w' w.heap.size [.slice a 50 c] → w'.cell? ⟨w.heap.size, 0, none⟩ = some (.slice a 50 c) ∧ w'.cell? ⟨P, 0, none⟩ = some (.int .i64 G) ∧ w'.cell? ⟨P, 1, none⟩ = some (.int .i64 R) ∧ w'.cell? ⟨P, 2, none⟩ = some (.slice sa sn sc)) := fun w' hb hx => by
    have hq := HP.out.cells hb PL.out
    exact ⟨(hx 0 _ rfl).1, (hq 0 _ rfl).1, (hq 1 _ rfl).1, (hq 2 _ rfl).1⟩
  refine wp_region_noPanic ?_
  have Bwq : Hid (Below w.heap.size w (w.alloc (.cells #[.slice a 50 c] 45)).drew) := ((Below.refl _ _).alloc (Nat.le_refl _) _).drew
  have Xwq : Hid (Box (w.alloc (.cells #[.slice a 50 c] 45)).drew w.heap.size [.slice a 50 c]) := (Box.new rfl : Box (w.alloc (.cells #[.slice a 50 c] 45)) w.heap.size [.slice a 50 c])
  clear p0 p1 p2
  refine wp_region_held_drew (S := (fun w' => w'.cell? ⟨w.heap.size, 0, none⟩ = some (.slice a 50 c) ∧ w'.cell? ⟨P, 0, none⟩ = some (.int .i64 G) ∧ w'.cell? ⟨P, 1, none⟩ = some (.int .i64 R) ∧ w'.cell? ⟨P, 2, none⟩ = some (.slice sa sn sc))) (by kernel_rfl) (SC.out _ Bwq.out Xwq.out) (fun hHeld => ?_)
  generalize (w.alloc (.cells #[.slice a 50 c] 45)).drew = wq at Bwq Xwq hHeld ⊢
  refine wpAnyH_take (i := 0) (v := .agg #[.slice a 50 c]) rfl (by kernel_rfl) (by kernel_rfl) (by kernel_rfl) (fun _ _ _ h => h) (Or.inl ⟨by rfl, ?_⟩) hHeld ?_
  · intro w9 hSw
    obtain ⟨s0, s1, s2, s3⟩ := hSw
    go_simp
  refine wpAnyH_take (i := 1) (v := .pointer (some ⟨P, 0, none⟩)) rfl (by kernel_rfl) (by kernel_rfl) (by kernel_rfl) (fun _ _ _ h => h) (Or.inl ⟨by rfl, ?_⟩) hHeld ?_
  · intro w9 hSw
    obtain ⟨s0, s1, s2, s3⟩ := hSw
    go_simp
  refine wpAnyH_take (i := 2) (v := .pointer (some ⟨P, 0, none⟩)) rfl (by kernel_rfl) (by kernel_rfl) (by kernel_rfl) (fun _ _ _ h => h) (Or.inl ⟨by rfl, ?_⟩) hHeld ?_
  · intro w9 hSw
    obtain ⟨s0, s1, s2, s3⟩ := hSw
    go_simp
  refine wpAnyH_take (i := 3) (v := .pointer (some ⟨P, 0, none⟩)) rfl (by kernel_rfl) (by kernel_rfl) (by kernel_rfl) (fun _ _ _ h => h) (Or.inl ⟨by rfl, ?_⟩) hHeld ?_
  · intro w9 hSw
    obtain ⟨s0, s1, s2, s3⟩ := hSw
    go_simp
  refine wpAnyH_take (i := 4) (v := .agg #[.int .i64 G, .int .i64 R, .slice sa sn sc]) rfl (by kernel_rfl) (by kernel_rfl) (by kernel_rfl) (fun _ _ _ h => h) (Or.inl ⟨by rfl, ?_⟩) hHeld ?_
  · intro w9 hSw
    obtain ⟨s0, s1, s2, s3⟩ := hSw
    go_simp
  simp only [Act.put, setIfInBounds_toArray, set_cons_zero, set_cons_succ]
  refine wpAnyH_ready (rs := [5, 10]) (by kernel_rfl) (by simp) ?_
  refine AllReadyH.cons rfl (fun K hK => ?_) (AllReadyH.cons rfl (fun K hK => ?_) AllReadyH.nil)
  · skip
    go_simp
    refine (implRoots _ U _ HU.out.2 (HU.out.1.below Bwq.out)).mono ?_
    rintro e wa1 ⟨ru, rfl, orow, hb9⟩
    obtain ⟨ra, rc, rfl, srow, _⟩ := own_src orow
    obtain ⟨rn, hrn⟩ : ∃ n, (rootsU U).length = n := ⟨_, rfl⟩
    have HRN : Hid ((rootsU U).length = rn) := hrn
    rw [hrn]
    dsimp only
    have N : Hid (Src wa1 ra (cellsI (rootsU U))) := srow
    have Bwa1 : Hid (Below w.heap.size w wa1) := Bwq.out.trans (hb9.mono Bwq.out.size)
    have Xwa1 : Hid (Box wa1 w.heap.size [.slice a 50 c]) := Xwq.out.below hb9
    clear orow srow hb9 hrn
    refine hK.out _ _ (SC.out _ Bwa1.out Xwa1.out) (fun hHeld => ?_)
    clear hK K
    refine wpAnyH_ready (rs := [6, 10]) (by kernel_rfl) (by simp) ?_
    refine AllReadyH.cons rfl (fun K hK => ?_) (AllReadyH.cons rfl (fun K hK => ?_) AllReadyH.nil)
    · skip
      go_simp
      refine (reachedOne _ H ra rn rc (rootsU U) _ HS.out.1 ⟨a, c, by rw [HS.out.2], HR.out.below Bwa1.out⟩ HRN.out (by rw [← HRN.out, rootsU_length]; have := HU.out.2; omega) N.out).mono ?_
      rintro e wa2 ⟨A, ok, rfl, hA, hall, hb9⟩
      dsimp only
      have HA : Hid (A.length = 50 ∧ ((ok = false ∧ allF H (rootsU U) st0.R = none) ∨ (ok = true ∧ allF H (rootsU U) st0.R = some A))) := ⟨hA, hall⟩
      have Bwa2 : Hid (Below w.heap.size w wa2) := Bwa1.out.trans (hb9.mono Bwa1.out.size)
      have Xwa2 : Hid (Box wa2 w.heap.size [.slice a 50 c]) := Xwa1.out.below hb9
      clear hA hall hb9 N
      refine hK.out _ _ (SC.out _ Bwa2.out Xwa2.out) (fun hHeld => ?_)
      clear hK K
      refine wpAnyH_take (i := 7) (v := .tuple #[.agg (A.map Value.bool).toArray, .bool ok]) rfl (by kernel_rfl) (by kernel_rfl) (by kernel_rfl) (fun _ _ _ h => h) (Or.inl ⟨by rfl, ?_⟩) hHeld ?_
      · intro w9 hSw
        obtain ⟨s0, s1, s2, s3⟩ := hSw
        go_simp
      refine wpAnyH_take (i := 8) (v := .agg (A.map Value.bool).toArray) rfl (by kernel_rfl) (by kernel_rfl) (by kernel_rfl) (fun _ _ _ h => h) (Or.inl ⟨by rfl, ?_⟩) hHeld ?_
      · intro w9 hSw
        obtain ⟨s0, s1, s2, s3⟩ := hSw
        go_simp
      refine wpAnyH_take (i := 9) (v := .bool ok) rfl (by kernel_rfl) (by kernel_rfl) (by kernel_rfl) (fun _ _ _ h => h) (Or.inl ⟨by rfl, ?_⟩) hHeld ?_
      · intro w9 hSw
        obtain ⟨s0, s1, s2, s3⟩ := hSw
        go_simp
      simp only [Act.put, setIfInBounds_toArray, set_cons_zero, set_cons_succ]
      refine wpAnyH_ready (rs := [10]) (by kernel_rfl) (by simp) ?_
      refine AllReadyH.cons rfl (fun K hK => ?_) AllReadyH.nil
      go_simp
      have Bwa3 : Hid (Below w.heap.size w (wa2.alloc (.cells (st0.R.map Value.bool).toArray 104))) := Bwa2.out.alloc Bwa2.out.size _
      have Xwa3 : Hid (Box (wa2.alloc (.cells (st0.R.map Value.bool).toArray 104)) w.heap.size [.slice a 50 c]) := Xwa2.out.old _
      have Twa3 : Hid (Box (wa2.alloc (.cells (st0.R.map Value.bool).toArray 104)) wa2.heap.size (st0.R.map Value.bool) ∧ w.heap.size ≤ wa2.heap.size ∧ wa2.heap.size ≠ w.heap.size) := ⟨Box.new (vs := (st0.R.map Value.bool).toArray) rfl, Bwa2.out.size, by have h9 : w.heap.size < wa2.heap.size := World.block_lt_of_cell? _ _ (Xwa2.out 0 _ rfl).1; omega⟩
      have Gwa3 : Hid (Below wa2.heap.size wa2 (wa2.alloc (.cells (st0.R.map Value.bool).toArray 104))) := (Below.refl _ _).alloc (Nat.le_refl _) _
      refine hK.out _ (wa2.alloc (.cells (st0.R.map Value.bool).toArray 104)) (SC.out _ Bwa3.out Xwa3.out) (fun hHeld => ?_)
      clear hK K
      generalize World.alloc wa2 _ = wa3 at Bwa3 Xwa3 Twa3 Gwa3 hHeld ⊢
      obtain ⟨tb, htb⟩ : ∃ t, wa2.heap.size = t := ⟨_, rfl⟩
      rw [htb] at Twa3 ⊢
      refine wpAnyH_ready (rs := [11]) (by kernel_rfl) (by simp) ?_
      refine AllReadyH.cons rfl (fun K hK => ?_) AllReadyH.nil
      have TH5 : Hid (wa3.there tb 0 50) := box_there Twa3.out.1 (by rfl)
      have z1 : (A.map Value.bool).toArray.size = 50 := by simp; exact HA.out.1
      have z2 : (A.map Value.bool).length = 50 := by simp; exact HA.out.1
      have TH : Hid (wa3.there tb 0 (A.map Value.bool).toArray.size) := by show World.there _ _ _ _; rw [z1]; exact TH5.out
      have HI2 : Hid ((Tryz.prog.info? 104).map (·.size) = some (A.map Value.bool).toArray.size) := by show _ = _; rw [z1]; kernel_rfl
      have BB : Hid (Below w.heap.size w (wa3.setCells tb 0 (A.map Value.bool))) := below_setCells Twa3.out.2.1 _ _ _ Bwa3.out
      have XX : Hid (Box (wa3.setCells tb 0 (A.map Value.bool)) w.heap.size [.slice a 50 c]) := box_setCells_far Xwa3.out Twa3.out.2.2
      have TT : Hid ((wa3.setCells tb 0 (A.map Value.bool)).rangeAt tb 0 (A.map Value.bool)) := World.rangeAt_setCells_same _ _ _ _ (by rw [z2]; exact TH5.out)
      clear z1 z2
      refine wp_store_mid 104 _ _ rfl tb 0 (A.map Value.bool).toArray rfl rfl TH.out HI2.out (bools_one _) ?_
      refine hK.out _ _ (SC.out _ BB.out XX.out) (fun hHeld => ?_)
      clear hK K
      refine wpAnyH_take (i := 12) (v := .bool ok) rfl (by kernel_rfl) (by kernel_rfl) (by kernel_rfl) (fun _ _ _ h => h) (Or.inl ⟨by rfl, ?_⟩) hHeld ?_
      · intro w9 hSw
        obtain ⟨s0, s1, s2, s3⟩ := hSw
        go_simp
      simp only [Act.put, setIfInBounds_toArray, set_cons_zero, set_cons_succ]
      refine wpAnyH_done (by kernel_rfl) ?_ _
      refine NoPanic.normal ?_
      have TP : Hid (tb ≠ P) := by have h8 := Twa3.out.2.1; have h9 := PL.out; show _ ≠ _; omega
      have SZ : Hid (w.heap.size < (wa3.setCells tb 0 (A.map Value.bool)).heap.size) := World.block_lt_of_cell? _ _ (XX.out 0 _ rfl).1
      generalize wa3.setCells tb 0 (A.map Value.bool) = ws at BB XX TT SZ hHeld ⊢
      clear TH TH5 HI2 Bwa3 Xwa3 Twa3 hHeld
      cases ok with
      | false =>
        have NO : Hid (allF H (rootsU U) st0.R = none) := by
          rcases HA.out.2 with ⟨_, h9⟩ | ⟨h9, _⟩
          · exact h9
          · cases h9
        go_wp2_with fail
        go_ret
        exact ⟨Turned.of_below BB.out, .inl ⟨NO.out, rfl⟩⟩
      | true =>
        have YES : Hid (allF H (rootsU U) st0.R = some A) := by
          rcases HA.out.2 with ⟨h9, _⟩ | ⟨_, h9⟩
          · cases h9
          · exact h9
        have z1 : (A.map Value.bool).toArray.size = 50 := by simp; exact HA.out.1
        have z2 : (A.map Value.bool).length = 50 := by simp; exact HA.out.1
        have HI : Hid ((Tryz.prog.info? 104).map (·.size) = some (A.map Value.bool).length) := by show _ = _; rw [z2]; kernel_rfl
        have HI2 : Hid ((Tryz.prog.info? 104).map (·.size) = some (A.map Value.bool).toArray.size) := by show _ = _; rw [z1]; kernel_rfl
        have PB : Hid (Box ws P ([.int .i64 G, .int .i64 R, .slice sa sn sc, x3, x4, x5, x6, .slice none 0 0] ++ st0.R.map Value.bool)) := HP.out.cells BB.out PL.out
        have TH : Hid (ws.there P 8 (A.map Value.bool).toArray.size) := by show World.there _ _ _ _; rw [z1]; exact there_box PB.out
        have PB5 : Hid (Box (ws.setCells P 8 (A.map Value.bool)) P ([.int .i64 G, .int .i64 R, .slice sa sn sc, x3, x4, x5, x6, .slice none 0 0] ++ A.map Value.bool)) := by
          have h9 := box_setCells (A.map Value.bool) 8 ws _ PB.out
          rw [show setsL ([.int .i64 G, .int .i64 R, .slice sa sn sc, x3, x4, x5, x6, .slice none 0 0] ++ st0.R.map Value.bool) 8 (A.map Value.bool) = _ from sets_mid (A.map Value.bool) (st0.R.map Value.bool) [.int .i64 G, .int .i64 R, .slice sa sn sc, x3, x4, x5, x6, .slice none 0 0] (by rw [z2]; rfl)] at h9
          exact h9
        have X5 : Hid (Box (ws.setCells P 8 (A.map Value.bool)) w.heap.size [.slice a 50 c]) := box_setCells_far XX.out (by have := PL.out; omega)
        have R5 : Hid ((ws.setCells P 8 (A.map Value.bool)).rangeAt tb 0 (A.map Value.bool)) := World.rangeAt_setCells_apart TT.out _ _ _ (.inl TP.out)
        have T5 : Hid (Turned P (P + 1) w (ws.setCells P 8 (A.map Value.bool))) := (Turned.of_below BB.out).trans (turned_setCells _ _ _)
        have S5 : Hid (w.heap.size < (ws.setCells P 8 (A.map Value.bool)).heap.size) := by show _ < _; rw [size_setCells]; exact SZ.out
        have O5 : Hid (ReadsHL (ws.setCells P 8 (A.map Value.bool)) a H) := (HW.out.1.turned T5.out (.inr HW.out.2)).reads
        clear z1 z2 PB
        obtain ⟨q0, _⟩ := X5.out 0 _ rfl
        go_wp2_with (first | (refine wpList_store_mid rfl 104 _ _ rfl P 8 (A.map Value.bool).toArray rfl rfl TH.out HI2.out (bools_one _) ?_) | (refine wpList_load_mid rfl 104 _ rfl tb 0 rfl (A.map Value.bool) _ TT.out Tryz.underlying104 rfl HI.out ?_) | (refine wpList_load_mid rfl 104 _ rfl tb 0 rfl (A.map Value.bool) _ R5.out Tryz.underlying104 rfl HI.out ?_))
        refine (onlyPagesI a c H A _ HS.out.2 HA.out.1 (fun D hD => (HS.out.1.2 D hD).1) O5.out).mono ?_
        rintro e w6 ⟨u, rfl, own6, hb6⟩
        obtain ⟨b6, d6, rfl, _⟩ := own6.lit
        have P6 : Hid (Box w6 P ([.int .i64 G, .int .i64 R, .slice sa sn sc, x3, x4, x5, x6, .slice none 0 0] ++ A.map Value.bool)) := PB5.out.below hb6
        have T6 : Hid (Turned P (P + 1) w w6) := T5.out.trans (Turned.of_below hb6)
        have O6 : Hid (OwnsHL w6 (w.heap.size + 1) w6.heap.size (.slice b6 50 d6) 50 (keepH A H)) := own6.mono S5.out (Nat.le_refl _)
        have F6 : Hid (Box (w6.setCell ⟨P, 7, none⟩ (.slice b6 50 d6)) P ([.int .i64 G, .int .i64 R, .slice sa sn sc, x3, x4, x5, x6, .slice b6 50 d6] ++ A.map Value.bool)) := P6.out.set 7 (.slice b6 50 d6)
        have T7 : Hid (Turned P (P + 1) w6 (w6.setCell ⟨P, 7, none⟩ (.slice b6 50 d6))) := Turned.set w6 ⟨P, 7, none⟩ (lo := P) (hi := P + 1) (by dsimp only; omega) (by dsimp only; omega) _
        have O7 : Hid (OwnsHL (w6.setCell ⟨P, 7, none⟩ (.slice b6 50 d6)) w.heap.size (w6.setCell ⟨P, 7, none⟩ (.slice b6 50 d6)).heap.size (.slice b6 50 d6) 50 (keepH A H)) := (O6.out.turned T7.out (.inr (by have := PL.out; omega))).mono (by omega) (by simp)
        obtain ⟨g7, f7⟩ := P6.out 7 _ rfl
        clear own6 hb6 q0 X5 R5 O5 PB5 TT XX
        go_wp2_with fail
        go_ret
        exact ⟨T6.out.trans T7.out, .inr ⟨A, .slice b6 50 d6, YES.out, HA.out.1, rfl, F6.out, O7.out⟩⟩
    · skip
      go_simp
      have Bwa4 : Hid (Below w.heap.size w (wa1.alloc (.cells (st0.R.map Value.bool).toArray 104))) := Bwa1.out.alloc Bwa1.out.size _
      have Xwa4 : Hid (Box (wa1.alloc (.cells (st0.R.map Value.bool).toArray 104)) w.heap.size [.slice a 50 c]) := Xwa1.out.old _
      have Twa4 : Hid (Box (wa1.alloc (.cells (st0.R.map Value.bool).toArray 104)) wa1.heap.size (st0.R.map Value.bool) ∧ w.heap.size ≤ wa1.heap.size ∧ wa1.heap.size ≠ w.heap.size) := ⟨Box.new (vs := (st0.R.map Value.bool).toArray) rfl, Bwa1.out.size, by have h9 : w.heap.size < wa1.heap.size := World.block_lt_of_cell? _ _ (Xwa1.out 0 _ rfl).1; omega⟩
      have Gwa4 : Hid (Below wa1.heap.size wa1 (wa1.alloc (.cells (st0.R.map Value.bool).toArray 104))) := (Below.refl _ _).alloc (Nat.le_refl _) _
      refine hK.out _ (wa1.alloc (.cells (st0.R.map Value.bool).toArray 104)) (SC.out _ Bwa4.out Xwa4.out) (fun hHeld => ?_)
      clear hK K
      generalize World.alloc wa1 _ = wa4 at Bwa4 Xwa4 Twa4 Gwa4 hHeld ⊢
      obtain ⟨tb, htb⟩ : ∃ t, wa1.heap.size = t := ⟨_, rfl⟩
      rw [htb] at Twa4 ⊢
      replace N : Hid (Src wa4 ra (cellsI (rootsU U))) := N.out.below Gwa4.out
      refine wpAnyH_ready (rs := [6]) (by kernel_rfl) (by simp) ?_
      refine AllReadyH.cons rfl (fun K hK => ?_) AllReadyH.nil
      go_simp
      refine (reachedOne _ H ra rn rc (rootsU U) _ HS.out.1 ⟨a, c, by rw [HS.out.2], HR.out.below Bwa4.out⟩ HRN.out (by rw [← HRN.out, rootsU_length]; have := HU.out.2; omega) N.out).mono ?_
      rintro e wa5 ⟨A, ok, rfl, hA, hall, hb9⟩
      dsimp only
      have HA : Hid (A.length = 50 ∧ ((ok = false ∧ allF H (rootsU U) st0.R = none) ∨ (ok = true ∧ allF H (rootsU U) st0.R = some A))) := ⟨hA, hall⟩
      have Bwa5 : Hid (Below w.heap.size w wa5) := Bwa4.out.trans (hb9.mono Bwa4.out.size)
      have Xwa5 : Hid (Box wa5 w.heap.size [.slice a 50 c]) := Xwa4.out.below hb9
      have Twa5 : Hid (Box wa5 tb (st0.R.map Value.bool) ∧ w.heap.size ≤ tb ∧ tb ≠ w.heap.size) := ⟨Twa4.out.1.below hb9, Twa4.out.2⟩
      clear hA hall hb9 N
      refine hK.out _ _ (SC.out _ Bwa5.out Xwa5.out) (fun hHeld => ?_)
      clear hK K
      refine wpAnyH_take (i := 7) (v := .tuple #[.agg (A.map Value.bool).toArray, .bool ok]) rfl (by kernel_rfl) (by kernel_rfl) (by kernel_rfl) (fun _ _ _ h => h) (Or.inl ⟨by rfl, ?_⟩) hHeld ?_
      · intro w9 hSw
        obtain ⟨s0, s1, s2, s3⟩ := hSw
        go_simp
      refine wpAnyH_take (i := 8) (v := .agg (A.map Value.bool).toArray) rfl (by kernel_rfl) (by kernel_rfl) (by kernel_rfl) (fun _ _ _ h => h) (Or.inl ⟨by rfl, ?_⟩) hHeld ?_
      · intro w9 hSw
        obtain ⟨s0, s1, s2, s3⟩ := hSw
        go_simp
      refine wpAnyH_take (i := 9) (v := .bool ok) rfl (by kernel_rfl) (by kernel_rfl) (by kernel_rfl) (fun _ _ _ h => h) (Or.inl ⟨by rfl, ?_⟩) hHeld ?_
      · intro w9 hSw
        obtain ⟨s0, s1, s2, s3⟩ := hSw
        go_simp
      simp only [Act.put, setIfInBounds_toArray, set_cons_zero, set_cons_succ]
      refine wpAnyH_ready (rs := [11]) (by kernel_rfl) (by simp) ?_
      refine AllReadyH.cons rfl (fun K hK => ?_) AllReadyH.nil
      have TH5 : Hid (wa5.there tb 0 50) := box_there Twa5.out.1 (by rfl)
      have z1 : (A.map Value.bool).toArray.size = 50 := by simp; exact HA.out.1
      have z2 : (A.map Value.bool).length = 50 := by simp; exact HA.out.1
      have TH : Hid (wa5.there tb 0 (A.map Value.bool).toArray.size) := by show World.there _ _ _ _; rw [z1]; exact TH5.out
      have HI2 : Hid ((Tryz.prog.info? 104).map (·.size) = some (A.map Value.bool).toArray.size) := by show _ = _; rw [z1]; kernel_rfl
      have BB : Hid (Below w.heap.size w (wa5.setCells tb 0 (A.map Value.bool))) := below_setCells Twa5.out.2.1 _ _ _ Bwa5.out
      have XX : Hid (Box (wa5.setCells tb 0 (A.map Value.bool)) w.heap.size [.slice a 50 c]) := box_setCells_far Xwa5.out Twa5.out.2.2
      have TT : Hid ((wa5.setCells tb 0 (A.map Value.bool)).rangeAt tb 0 (A.map Value.bool)) := World.rangeAt_setCells_same _ _ _ _ (by rw [z2]; exact TH5.out)
      clear z1 z2
      refine wp_store_mid 104 _ _ rfl tb 0 (A.map Value.bool).toArray rfl rfl TH.out HI2.out (bools_one _) ?_
      refine hK.out _ _ (SC.out _ BB.out XX.out) (fun hHeld => ?_)
      clear hK K
      refine wpAnyH_take (i := 12) (v := .bool ok) rfl (by kernel_rfl) (by kernel_rfl) (by kernel_rfl) (fun _ _ _ h => h) (Or.inl ⟨by rfl, ?_⟩) hHeld ?_
      · intro w9 hSw
        obtain ⟨s0, s1, s2, s3⟩ := hSw
        go_simp
      simp only [Act.put, setIfInBounds_toArray, set_cons_zero, set_cons_succ]
      refine wpAnyH_done (by kernel_rfl) ?_ _
      refine NoPanic.normal ?_
      have TP : Hid (tb ≠ P) := by have h8 := Twa5.out.2.1; have h9 := PL.out; show _ ≠ _; omega
      have SZ : Hid (w.heap.size < (wa5.setCells tb 0 (A.map Value.bool)).heap.size) := World.block_lt_of_cell? _ _ (XX.out 0 _ rfl).1
      generalize wa5.setCells tb 0 (A.map Value.bool) = ws at BB XX TT SZ hHeld ⊢
      clear TH TH5 HI2 Bwa5 Xwa5 Twa5 hHeld
      cases ok with
      | false =>
        have NO : Hid (allF H (rootsU U) st0.R = none) := by
          rcases HA.out.2 with ⟨_, h9⟩ | ⟨h9, _⟩
          · exact h9
          · cases h9
        go_wp2_with fail
        go_ret
        exact ⟨Turned.of_below BB.out, .inl ⟨NO.out, rfl⟩⟩
      | true =>
        have YES : Hid (allF H (rootsU U) st0.R = some A) := by
          rcases HA.out.2 with ⟨h9, _⟩ | ⟨_, h9⟩
          · cases h9
          · exact h9
        have z1 : (A.map Value.bool).toArray.size = 50 := by simp; exact HA.out.1
        have z2 : (A.map Value.bool).length = 50 := by simp; exact HA.out.1
        have HI : Hid ((Tryz.prog.info? 104).map (·.size) = some (A.map Value.bool).length) := by show _ = _; rw [z2]; kernel_rfl
        have HI2 : Hid ((Tryz.prog.info? 104).map (·.size) = some (A.map Value.bool).toArray.size) := by show _ = _; rw [z1]; kernel_rfl
        have PB : Hid (Box ws P ([.int .i64 G, .int .i64 R, .slice sa sn sc, x3, x4, x5, x6, .slice none 0 0] ++ st0.R.map Value.bool)) := HP.out.cells BB.out PL.out
        have TH : Hid (ws.there P 8 (A.map Value.bool).toArray.size) := by show World.there _ _ _ _; rw [z1]; exact there_box PB.out
        have PB5 : Hid (Box (ws.setCells P 8 (A.map Value.bool)) P ([.int .i64 G, .int .i64 R, .slice sa sn sc, x3, x4, x5, x6, .slice none 0 0] ++ A.map Value.bool)) := by
          have h9 := box_setCells (A.map Value.bool) 8 ws _ PB.out
          rw [show setsL ([.int .i64 G, .int .i64 R, .slice sa sn sc, x3, x4, x5, x6, .slice none 0 0] ++ st0.R.map Value.bool) 8 (A.map Value.bool) = _ from sets_mid (A.map Value.bool) (st0.R.map Value.bool) [.int .i64 G, .int .i64 R, .slice sa sn sc, x3, x4, x5, x6, .slice none 0 0] (by rw [z2]; rfl)] at h9
          exact h9
        have X5 : Hid (Box (ws.setCells P 8 (A.map Value.bool)) w.heap.size [.slice a 50 c]) := box_setCells_far XX.out (by have := PL.out; omega)
        have R5 : Hid ((ws.setCells P 8 (A.map Value.bool)).rangeAt tb 0 (A.map Value.bool)) := World.rangeAt_setCells_apart TT.out _ _ _ (.inl TP.out)
        have T5 : Hid (Turned P (P + 1) w (ws.setCells P 8 (A.map Value.bool))) := (Turned.of_below BB.out).trans (turned_setCells _ _ _)
        have S5 : Hid (w.heap.size < (ws.setCells P 8 (A.map Value.bool)).heap.size) := by show _ < _; rw [size_setCells]; exact SZ.out
        have O5 : Hid (ReadsHL (ws.setCells P 8 (A.map Value.bool)) a H) := (HW.out.1.turned T5.out (.inr HW.out.2)).reads
        clear z1 z2 PB
        obtain ⟨q0, _⟩ := X5.out 0 _ rfl
        go_wp2_with (first | (refine wpList_store_mid rfl 104 _ _ rfl P 8 (A.map Value.bool).toArray rfl rfl TH.out HI2.out (bools_one _) ?_) | (refine wpList_load_mid rfl 104 _ rfl tb 0 rfl (A.map Value.bool) _ TT.out Tryz.underlying104 rfl HI.out ?_) | (refine wpList_load_mid rfl 104 _ rfl tb 0 rfl (A.map Value.bool) _ R5.out Tryz.underlying104 rfl HI.out ?_))
        refine (onlyPagesI a c H A _ HS.out.2 HA.out.1 (fun D hD => (HS.out.1.2 D hD).1) O5.out).mono ?_
        rintro e w6 ⟨u, rfl, own6, hb6⟩
        obtain ⟨b6, d6, rfl, _⟩ := own6.lit
        have P6 : Hid (Box w6 P ([.int .i64 G, .int .i64 R, .slice sa sn sc, x3, x4, x5, x6, .slice none 0 0] ++ A.map Value.bool)) := PB5.out.below hb6
        have T6 : Hid (Turned P (P + 1) w w6) := T5.out.trans (Turned.of_below hb6)
        have O6 : Hid (OwnsHL w6 (w.heap.size + 1) w6.heap.size (.slice b6 50 d6) 50 (keepH A H)) := own6.mono S5.out (Nat.le_refl _)
        have F6 : Hid (Box (w6.setCell ⟨P, 7, none⟩ (.slice b6 50 d6)) P ([.int .i64 G, .int .i64 R, .slice sa sn sc, x3, x4, x5, x6, .slice b6 50 d6] ++ A.map Value.bool)) := P6.out.set 7 (.slice b6 50 d6)
        have T7 : Hid (Turned P (P + 1) w6 (w6.setCell ⟨P, 7, none⟩ (.slice b6 50 d6))) := Turned.set w6 ⟨P, 7, none⟩ (lo := P) (hi := P + 1) (by dsimp only; omega) (by dsimp only; omega) _
        have O7 : Hid (OwnsHL (w6.setCell ⟨P, 7, none⟩ (.slice b6 50 d6)) w.heap.size (w6.setCell ⟨P, 7, none⟩ (.slice b6 50 d6)).heap.size (.slice b6 50 d6) 50 (keepH A H)) := (O6.out.turned T7.out (.inr (by have := PL.out; omega))).mono (by omega) (by simp)
        obtain ⟨g7, f7⟩ := P6.out 7 _ rfl
        clear own6 hb6 q0 X5 R5 O5 PB5 TT XX
        go_wp2_with fail
        go_ret
        exact ⟨T6.out.trans T7.out, .inr ⟨A, .slice b6 50 d6, YES.out, HA.out.1, rfl, F6.out, O7.out⟩⟩
  · skip
    go_simp
    have Bwa6 : Hid (Below w.heap.size w (wq.alloc (.cells (st0.R.map Value.bool).toArray 104))) := Bwq.out.alloc Bwq.out.size _
    have Xwa6 : Hid (Box (wq.alloc (.cells (st0.R.map Value.bool).toArray 104)) w.heap.size [.slice a 50 c]) := Xwq.out.old _
    have Twa6 : Hid (Box (wq.alloc (.cells (st0.R.map Value.bool).toArray 104)) wq.heap.size (st0.R.map Value.bool) ∧ w.heap.size ≤ wq.heap.size ∧ wq.heap.size ≠ w.heap.size) := ⟨Box.new (vs := (st0.R.map Value.bool).toArray) rfl, Bwq.out.size, by have h9 : w.heap.size < wq.heap.size := World.block_lt_of_cell? _ _ (Xwq.out 0 _ rfl).1; omega⟩
    have Gwa6 : Hid (Below wq.heap.size wq (wq.alloc (.cells (st0.R.map Value.bool).toArray 104))) := (Below.refl _ _).alloc (Nat.le_refl _) _
    refine hK.out _ (wq.alloc (.cells (st0.R.map Value.bool).toArray 104)) (SC.out _ Bwa6.out Xwa6.out) (fun hHeld => ?_)
    clear hK K
    generalize World.alloc wq _ = wa6 at Bwa6 Xwa6 Twa6 Gwa6 hHeld ⊢
    obtain ⟨tb, htb⟩ : ∃ t, wq.heap.size = t := ⟨_, rfl⟩
    rw [htb] at Twa6 ⊢
    refine wpAnyH_ready (rs := [5]) (by kernel_rfl) (by simp) ?_
    refine AllReadyH.cons rfl (fun K hK => ?_) AllReadyH.nil
    go_simp
    refine (implRoots _ U _ HU.out.2 (HU.out.1.below Bwa6.out)).mono ?_
    rintro e wa7 ⟨ru, rfl, orow, hb9⟩
    obtain ⟨ra, rc, rfl, srow, _⟩ := own_src orow
    obtain ⟨rn, hrn⟩ : ∃ n, (rootsU U).length = n := ⟨_, rfl⟩
    have HRN : Hid ((rootsU U).length = rn) := hrn
    rw [hrn]
    dsimp only
    have N : Hid (Src wa7 ra (cellsI (rootsU U))) := srow
    have Bwa7 : Hid (Below w.heap.size w wa7) := Bwa6.out.trans (hb9.mono Bwa6.out.size)
    have Xwa7 : Hid (Box wa7 w.heap.size [.slice a 50 c]) := Xwa6.out.below hb9
    have Twa7 : Hid (Box wa7 tb (st0.R.map Value.bool) ∧ w.heap.size ≤ tb ∧ tb ≠ w.heap.size) := ⟨Twa6.out.1.below hb9, Twa6.out.2⟩
    clear orow srow hb9 hrn
    refine hK.out _ _ (SC.out _ Bwa7.out Xwa7.out) (fun hHeld => ?_)
    clear hK K
    refine wpAnyH_ready (rs := [6]) (by kernel_rfl) (by simp) ?_
    refine AllReadyH.cons rfl (fun K hK => ?_) AllReadyH.nil
    go_simp
    refine (reachedOne _ H ra rn rc (rootsU U) _ HS.out.1 ⟨a, c, by rw [HS.out.2], HR.out.below Bwa7.out⟩ HRN.out (by rw [← HRN.out, rootsU_length]; have := HU.out.2; omega) N.out).mono ?_
    rintro e wa8 ⟨A, ok, rfl, hA, hall, hb9⟩
    dsimp only
    have HA : Hid (A.length = 50 ∧ ((ok = false ∧ allF H (rootsU U) st0.R = none) ∨ (ok = true ∧ allF H (rootsU U) st0.R = some A))) := ⟨hA, hall⟩
    have Bwa8 : Hid (Below w.heap.size w wa8) := Bwa7.out.trans (hb9.mono Bwa7.out.size)
    have Xwa8 : Hid (Box wa8 w.heap.size [.slice a 50 c]) := Xwa7.out.below hb9
    have Twa8 : Hid (Box wa8 tb (st0.R.map Value.bool) ∧ w.heap.size ≤ tb ∧ tb ≠ w.heap.size) := ⟨Twa7.out.1.below hb9, Twa7.out.2⟩
    clear hA hall hb9 N
    refine hK.out _ _ (SC.out _ Bwa8.out Xwa8.out) (fun hHeld => ?_)
    clear hK K
    refine wpAnyH_take (i := 7) (v := .tuple #[.agg (A.map Value.bool).toArray, .bool ok]) rfl (by kernel_rfl) (by kernel_rfl) (by kernel_rfl) (fun _ _ _ h => h) (Or.inl ⟨by rfl, ?_⟩) hHeld ?_
    · intro w9 hSw
      obtain ⟨s0, s1, s2, s3⟩ := hSw
      go_simp
    refine wpAnyH_take (i := 8) (v := .agg (A.map Value.bool).toArray) rfl (by kernel_rfl) (by kernel_rfl) (by kernel_rfl) (fun _ _ _ h => h) (Or.inl ⟨by rfl, ?_⟩) hHeld ?_
    · intro w9 hSw
      obtain ⟨s0, s1, s2, s3⟩ := hSw
      go_simp
    refine wpAnyH_take (i := 9) (v := .bool ok) rfl (by kernel_rfl) (by kernel_rfl) (by kernel_rfl) (fun _ _ _ h => h) (Or.inl ⟨by rfl, ?_⟩) hHeld ?_
    · intro w9 hSw
      obtain ⟨s0, s1, s2, s3⟩ := hSw
      go_simp
    simp only [Act.put, setIfInBounds_toArray, set_cons_zero, set_cons_succ]
    refine wpAnyH_ready (rs := [11]) (by kernel_rfl) (by simp) ?_
    refine AllReadyH.cons rfl (fun K hK => ?_) AllReadyH.nil
    have TH5 : Hid (wa8.there tb 0 50) := box_there Twa8.out.1 (by rfl)
    have z1 : (A.map Value.bool).toArray.size = 50 := by simp; exact HA.out.1
    have z2 : (A.map Value.bool).length = 50 := by simp; exact HA.out.1
    have TH : Hid (wa8.there tb 0 (A.map Value.bool).toArray.size) := by show World.there _ _ _ _; rw [z1]; exact TH5.out
    have HI2 : Hid ((Tryz.prog.info? 104).map (·.size) = some (A.map Value.bool).toArray.size) := by show _ = _; rw [z1]; kernel_rfl
    have BB : Hid (Below w.heap.size w (wa8.setCells tb 0 (A.map Value.bool))) := below_setCells Twa8.out.2.1 _ _ _ Bwa8.out
    have XX : Hid (Box (wa8.setCells tb 0 (A.map Value.bool)) w.heap.size [.slice a 50 c]) := box_setCells_far Xwa8.out Twa8.out.2.2
    have TT : Hid ((wa8.setCells tb 0 (A.map Value.bool)).rangeAt tb 0 (A.map Value.bool)) := World.rangeAt_setCells_same _ _ _ _ (by rw [z2]; exact TH5.out)
    clear z1 z2
    refine wp_store_mid 104 _ _ rfl tb 0 (A.map Value.bool).toArray rfl rfl TH.out HI2.out (bools_one _) ?_
    refine hK.out _ _ (SC.out _ BB.out XX.out) (fun hHeld => ?_)
    clear hK K
    refine wpAnyH_take (i := 12) (v := .bool ok) rfl (by kernel_rfl) (by kernel_rfl) (by kernel_rfl) (fun _ _ _ h => h) (Or.inl ⟨by rfl, ?_⟩) hHeld ?_
    · intro w9 hSw
      obtain ⟨s0, s1, s2, s3⟩ := hSw
      go_simp
    simp only [Act.put, setIfInBounds_toArray, set_cons_zero, set_cons_succ]
    refine wpAnyH_done (by kernel_rfl) ?_ _
    refine NoPanic.normal ?_
    have TP : Hid (tb ≠ P) := by have h8 := Twa8.out.2.1; have h9 := PL.out; show _ ≠ _; omega
    have SZ : Hid (w.heap.size < (wa8.setCells tb 0 (A.map Value.bool)).heap.size) := World.block_lt_of_cell? _ _ (XX.out 0 _ rfl).1
    generalize wa8.setCells tb 0 (A.map Value.bool) = ws at BB XX TT SZ hHeld ⊢
    clear TH TH5 HI2 Bwa8 Xwa8 Twa8 hHeld
    cases ok with
    | false =>
      have NO : Hid (allF H (rootsU U) st0.R = none) := by
        rcases HA.out.2 with ⟨_, h9⟩ | ⟨h9, _⟩
        · exact h9
        · cases h9
      go_wp2_with fail
      go_ret
      exact ⟨Turned.of_below BB.out, .inl ⟨NO.out, rfl⟩⟩
    | true =>
      have YES : Hid (allF H (rootsU U) st0.R = some A) := by
        rcases HA.out.2 with ⟨h9, _⟩ | ⟨_, h9⟩
        · cases h9
        · exact h9
      have z1 : (A.map Value.bool).toArray.size = 50 := by simp; exact HA.out.1
      have z2 : (A.map Value.bool).length = 50 := by simp; exact HA.out.1
      have HI : Hid ((Tryz.prog.info? 104).map (·.size) = some (A.map Value.bool).length) := by show _ = _; rw [z2]; kernel_rfl
      have HI2 : Hid ((Tryz.prog.info? 104).map (·.size) = some (A.map Value.bool).toArray.size) := by show _ = _; rw [z1]; kernel_rfl
      have PB : Hid (Box ws P ([.int .i64 G, .int .i64 R, .slice sa sn sc, x3, x4, x5, x6, .slice none 0 0] ++ st0.R.map Value.bool)) := HP.out.cells BB.out PL.out
      have TH : Hid (ws.there P 8 (A.map Value.bool).toArray.size) := by show World.there _ _ _ _; rw [z1]; exact there_box PB.out
      have PB5 : Hid (Box (ws.setCells P 8 (A.map Value.bool)) P ([.int .i64 G, .int .i64 R, .slice sa sn sc, x3, x4, x5, x6, .slice none 0 0] ++ A.map Value.bool)) := by
        have h9 := box_setCells (A.map Value.bool) 8 ws _ PB.out
        rw [show setsL ([.int .i64 G, .int .i64 R, .slice sa sn sc, x3, x4, x5, x6, .slice none 0 0] ++ st0.R.map Value.bool) 8 (A.map Value.bool) = _ from sets_mid (A.map Value.bool) (st0.R.map Value.bool) [.int .i64 G, .int .i64 R, .slice sa sn sc, x3, x4, x5, x6, .slice none 0 0] (by rw [z2]; rfl)] at h9
        exact h9
      have X5 : Hid (Box (ws.setCells P 8 (A.map Value.bool)) w.heap.size [.slice a 50 c]) := box_setCells_far XX.out (by have := PL.out; omega)
      have R5 : Hid ((ws.setCells P 8 (A.map Value.bool)).rangeAt tb 0 (A.map Value.bool)) := World.rangeAt_setCells_apart TT.out _ _ _ (.inl TP.out)
      have T5 : Hid (Turned P (P + 1) w (ws.setCells P 8 (A.map Value.bool))) := (Turned.of_below BB.out).trans (turned_setCells _ _ _)
      have S5 : Hid (w.heap.size < (ws.setCells P 8 (A.map Value.bool)).heap.size) := by show _ < _; rw [size_setCells]; exact SZ.out
      have O5 : Hid (ReadsHL (ws.setCells P 8 (A.map Value.bool)) a H) := (HW.out.1.turned T5.out (.inr HW.out.2)).reads
      clear z1 z2 PB
      obtain ⟨q0, _⟩ := X5.out 0 _ rfl
      go_wp2_with (first | (refine wpList_store_mid rfl 104 _ _ rfl P 8 (A.map Value.bool).toArray rfl rfl TH.out HI2.out (bools_one _) ?_) | (refine wpList_load_mid rfl 104 _ rfl tb 0 rfl (A.map Value.bool) _ TT.out Tryz.underlying104 rfl HI.out ?_) | (refine wpList_load_mid rfl 104 _ rfl tb 0 rfl (A.map Value.bool) _ R5.out Tryz.underlying104 rfl HI.out ?_))
      refine (onlyPagesI a c H A _ HS.out.2 HA.out.1 (fun D hD => (HS.out.1.2 D hD).1) O5.out).mono ?_
      rintro e w6 ⟨u, rfl, own6, hb6⟩
      obtain ⟨b6, d6, rfl, _⟩ := own6.lit
      have P6 : Hid (Box w6 P ([.int .i64 G, .int .i64 R, .slice sa sn sc, x3, x4, x5, x6, .slice none 0 0] ++ A.map Value.bool)) := PB5.out.below hb6
      have T6 : Hid (Turned P (P + 1) w w6) := T5.out.trans (Turned.of_below hb6)
      have O6 : Hid (OwnsHL w6 (w.heap.size + 1) w6.heap.size (.slice b6 50 d6) 50 (keepH A H)) := own6.mono S5.out (Nat.le_refl _)
      have F6 : Hid (Box (w6.setCell ⟨P, 7, none⟩ (.slice b6 50 d6)) P ([.int .i64 G, .int .i64 R, .slice sa sn sc, x3, x4, x5, x6, .slice b6 50 d6] ++ A.map Value.bool)) := P6.out.set 7 (.slice b6 50 d6)
      have T7 : Hid (Turned P (P + 1) w6 (w6.setCell ⟨P, 7, none⟩ (.slice b6 50 d6))) := Turned.set w6 ⟨P, 7, none⟩ (lo := P) (hi := P + 1) (by dsimp only; omega) (by dsimp only; omega) _
      have O7 : Hid (OwnsHL (w6.setCell ⟨P, 7, none⟩ (.slice b6 50 d6)) w.heap.size (w6.setCell ⟨P, 7, none⟩ (.slice b6 50 d6)).heap.size (.slice b6 50 d6) 50 (keepH A H)) := (O6.out.turned T7.out (.inr (by have := PL.out; omega))).mono (by omega) (by simp)
      obtain ⟨g7, f7⟩ := P6.out 7 _ rfl
      clear own6 hb6 q0 X5 R5 O5 PB5 TT XX
      go_wp2_with fail
      go_ret
      exact ⟨T6.out.trans T7.out, .inr ⟨A, .slice b6 50 d6, YES.out, HA.out.1, rfl, F6.out, O7.out⟩⟩
end Go.Proofs.YtnnimocaanofjaaGreatDoor
