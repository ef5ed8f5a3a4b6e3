/-
  Tkt Rng in one. By an AI agent.
-/
import Derived.Test.YthgbclipknfmjaaGreatDoorFu06
import Derived.Maps.RangeWalk
namespace Go.Proofs.YthgbclipknfmjaaGreatDoor
open Go.ChangeShapes Go.WideShapes Go.ChangeAt Go.RowKit Go.Deep Go.Lib
open Go.ChangeMaps (setBlock)
set_option linter.unusedVariables false
set_option linter.unusedSimpArgs false
set_option maxRecDepth 100000

def mtB (u : ByteArray) : List (List UInt8) → Bool
  | _ :: gb :: _ => decide (bs gb = u)
  | _ => false
theorem takeP_not {nx : Int} {u : ByteArray} {S : SM} {p : PM} {ga gb : List UInt8} {r : List (List UInt8)} (h : bs gb ≠ u) : takeP nx u S p (ga :: gb :: r) = asideM S p := by
  match r with
  | [] => exact if_neg fun h9 => h h9.1
  | [_] => exact if_neg fun h9 => h h9.1
  | [_, _] => exact if_neg fun h9 => h h9.1
  | _ :: _ :: _ :: _ => rfl
theorem two_of {α : Type} {r : List α} (h : r.length = 2) : ∃ a b, r = [a, b] := by
  match r, h with
  | [a, b], _ => exact ⟨a, b, rfl⟩
set_option maxHeartbeats 8000000 in
theorem takeI (pk pv : ByteArray) (w : World) (M : Nat) (a : Option Addr) (n c : Nat) (nx : Int) (u : ByteArray) (S : SM) (k : Nat) (hS : StAt w M a n c nx u S k) (hk : k ≤ 100) (hg : Gl w) (h8 : 8 ≤ M) (hpk : pk.size ≤ 30) (hpv : pv.size ≤ 90) (hu : u.size ≤ 1000) (hnx : 1 ≤ nx ∧ nx ≤ 10000) (bb : Bool) (HB : Hid ((takeM nx u S (pk, pv)).isSome = bb)) :
    Calls Tryz.prog 115 #[.pointer (some ⟨M + 1, 0, none⟩), .agg #[.string pk, .string pv]] w fun e w' => e = .returned (.bool bb) ∧ (∀ S', takeM nx u S (pk, pv) = some S' → StAt w' M a n c nx u S' (k + 1)) ∧ Below M w w' := by
  obtain ⟨va, X, hD, hV, hN, hF, hA⟩ := hS
  have HV : Hid (View u X S.fs ∧ (S.fs.map (·.name)).Nodup ∧ (∀ f ∈ S.fs, 1 ≤ f.next ∧ f.next ≤ 999 ∧ f.mails.length ≤ k) ∧ S.aside.length ≤ k) := ⟨hV, hN, hF, hA⟩
  have HFO : Hid (FsOK S.fs) := ⟨hN, fun f hf => by have := hF f hf; omega⟩
  have hM1 : M + 1 < w.heap.size := World.block_lt_of_cell? _ _ (hD.1 0 _ rfl).1
  have HG : Hid (Gl w) := hg
  obtain ⟨T, hT⟩ : ∃ T, takeM nx u S (pk, pv) = T := ⟨_, rfl⟩
  rw [hT] at HB ⊢
  obtain ⟨G, hG⟩ : ∃ G, splitL 47 pk.data.toList = G := ⟨_, rfl⟩
  have HTG : Hid (T = takeP nx u S (pk, pv) G) := by show _ = _; rw [← hT, ← hG]; rfl
  have HGZ : Hid (∀ p ∈ G, p.length ≤ 90) := fun p hp => by
    rw [← hG] at hp
    have h9 := split_sizes 47 _ p hp
    rw [bytes_len] at h9
    omega
  have A0 : Below w.heap.size w (w.alloc (.cells #[.string pk, .string pv] 68)) := (Below.refl _ _).alloc (Nat.le_refl _) _
  have D0 := hD.later A0
  have X0 : Box (w.alloc (.cells #[.string pk, .string pv] 68)) w.heap.size [.string pk, .string pv] := Box.new rfl
  have CS := splitI pk (w.alloc (.cells #[.string pk, .string pv] 68)) (by omega) (hg.below h8 (A0.mono (by omega)))
  rw [hG] at CS
  obtain ⟨m, hm⟩ : ∃ m, G.length = m := ⟨_, rfl⟩
  rw [hm] at CS
  have HM : Hid (G.length = m) := hm
  have HG0 : Hid (G ≠ []) := by show _ ≠ _; rw [← hG]; exact splitL_ne 47 _
  obtain ⟨qb, hqb⟩ : ∃ q, (w.alloc (.cells #[.string pk, .string pv] 68)).heap.size = q := ⟨_, rfl⟩
  have hqb2 : qb = w.heap.size + 1 := by rw [← hqb]; simp
  clear hT hG hm hg hV hN hF hA
  go_enter Tryz.func115, Tryz.ntmps115
  go_wp2_with fail
  refine CS.mono ?_
  rintro e w1 ⟨rfl, hsrc, hb1⟩
  rw [hqb] at hsrc ⊢
  have D1 : Hid (DeskAt w1 M ⟨a, n, c, va, S.aside, nx, u, S.word, X⟩) := D0.later hb1
  have X1 : Hid (Box w1 w.heap.size [.string pk, .string pv]) := X0.below hb1
  have B1 : Hid (Below w.heap.size w w1) := A0.trans (hb1.mono A0.size)
  have HS1 : Hid (Src w1 (some ⟨qb, 0, none⟩) (cellsS (G.map bs))) := hsrc
  clear hsrc hb1 D0 X0 A0 CS hqb hqb2 hD
  obtain ⟨mt, hmt⟩ : ∃ b : Bool, mtB u G = b := ⟨_, rfl⟩
  have HMT : Hid (mtB u G = mt) := hmt
  clear hmt
  go_upto_region 2 with fail
  go_cut [5, 21] from 9 to 20 (fun ps cv wx => ps = .slice (some ⟨qb, 0, none⟩) m m ∧ cv = .bool mt ∧ Hid (Below w1.heap.size w1 wx))
  case first =>
    obtain ⟨u3, _⟩ := D1.out.1 3 _ rfl
    by_cases h1 : m = 1
    · have h1i : ¬ (1 : Int) < (m : Int) := by omega
      obtain rfl : false = mt := by
        have h9 := HMT.out
        have h7 := HM.out
        rw [h1] at h7
        match G, h7, h9 with
        | [_], _, h9 => exact h9
      clear h1
      refine wp_region_noPanic ?_
      refine wp_region_held_drew (S := fun w' => True) (by kernel_rfl) trivial (fun hHeld => ?_)
      refine tkA (i := 0) (v := .slice (some ⟨qb, 0, none⟩) m m) ?_ hHeld ?_
      · intro w9 hSw
        go_simp
      simp only [Act.put, List.setIfInBounds_toArray, List.set_cons_zero, List.set_cons_succ]
      refine tkA (i := 1) (v := .int .i64 (m : Int)) ?_ hHeld ?_
      · intro w9 hSw
        go_simp
      simp only [Act.put, List.setIfInBounds_toArray, List.set_cons_zero, List.set_cons_succ]
      refine tkA (i := 2) (v := .bool false) ?_ hHeld ?_
      · intro w9 hSw
        go_simp
      simp only [Act.put, List.setIfInBounds_toArray, List.set_cons_zero, List.set_cons_succ]
      refine tkA (i := 3) (v := .bool false) ?_ hHeld ?_
      · intro w9 hSw
        go_simp
      simp only [Act.put, List.setIfInBounds_toArray, List.set_cons_zero, List.set_cons_succ]
      refine skA (i := 4) hHeld ?_
      simp only [Act.put, List.setIfInBounds_toArray, List.set_cons_zero, List.set_cons_succ]
      refine skA (i := 5) hHeld ?_
      simp only [Act.put, List.setIfInBounds_toArray, List.set_cons_zero, List.set_cons_succ]
      refine skA (i := 6) hHeld ?_
      simp only [Act.put, List.setIfInBounds_toArray, List.set_cons_zero, List.set_cons_succ]
      refine skA (i := 7) hHeld ?_
      simp only [Act.put, List.setIfInBounds_toArray, List.set_cons_zero, List.set_cons_succ]
      refine skA (i := 8) hHeld ?_
      simp only [Act.put, List.setIfInBounds_toArray, List.set_cons_zero, List.set_cons_succ]
      refine skA (i := 9) hHeld ?_
      simp only [Act.put, List.setIfInBounds_toArray, List.set_cons_zero, List.set_cons_succ]
      refine skA (i := 10) hHeld ?_
      simp only [Act.put, List.setIfInBounds_toArray, List.set_cons_zero, List.set_cons_succ]
      refine skA (i := 11) hHeld ?_
      simp only [Act.put, List.setIfInBounds_toArray, List.set_cons_zero, List.set_cons_succ]
      refine wpAnyH_ready (rs := [12]) (by kernel_rfl) (by simp) ?_
      refine AllReadyH.cons rfl (fun K hK => ?_) AllReadyH.nil
      go_simp
      refine hK _ _ trivial (fun hHeld => ?_)
      clear hK K
      refine wpAnyH_done (by kernel_rfl) ?_ _
      refine NoPanic.normal ?_
      clear hHeld
      go_wp2_with fail
      go_meet
      exact ⟨rfl, rfl, (Below.refl _ _).drew⟩
    · obtain ⟨ga, gb, r, hgr⟩ : ∃ ga gb r, G = ga :: gb :: r := by
        have h9 := HM.out
        have h0 := HG0.out
        match G, h9, h0 with
        | [], _, h0 => exact absurd rfl h0
        | [_], h9, _ => exact absurd h9.symm h1
        | ga :: gb :: r, _, _ => exact ⟨ga, gb, r, rfl⟩
      have hm2 : 2 ≤ m := by rw [← HM.out, hgr]; simp
      have h1i : (1 : Int) < (m : Int) := by omega
      obtain ⟨b9, o9, t1, eb, c1, hy1⟩ := srcS HS1.out (i := 1) (by rw [List.length_map, HM.out]; omega)
      cases eb
      rw [Nat.zero_add] at c1
      have hyb : bs gb = t1 := by rw [← hy1.out, hgr]; rfl
      have hmt2 : (t1.toList == u.toList) = mt := by
        rw [← HMT.out, hgr, ← hyb]
        show _ = decide (bs gb = u)
        rw [Bool.eq_iff_iff, beq_iff_eq, decide_eq_true_eq]
        exact ⟨toList_inj, fun h9 => by rw [h9]⟩
      clear hyb hy1 hgr
      refine wp_region_noPanic ?_
      refine wp_region_held_drew (S := fun w' => w'.cell? ⟨qb, 1, none⟩ = some (.string t1) ∧ w'.cell? ⟨M + 1, 3, none⟩ = some (.string u)) (by kernel_rfl) ⟨c1, u3⟩ (fun hHeld => ?_)
      refine tkA (i := 0) (v := .slice (some ⟨qb, 0, none⟩) m m) ?_ hHeld ?_
      · intro w9 hSw
        obtain ⟨z0, z1⟩ := hSw
        go_simp
      simp only [Act.put, List.setIfInBounds_toArray, List.set_cons_zero, List.set_cons_succ]
      refine tkA (i := 1) (v := .int .i64 (m : Int)) ?_ hHeld ?_
      · intro w9 hSw
        obtain ⟨z0, z1⟩ := hSw
        go_simp
      simp only [Act.put, List.setIfInBounds_toArray, List.set_cons_zero, List.set_cons_succ]
      refine tkA (i := 2) (v := .bool true) ?_ hHeld ?_
      · intro w9 hSw
        obtain ⟨z0, z1⟩ := hSw
        go_simp
      simp only [Act.put, List.setIfInBounds_toArray, List.set_cons_zero, List.set_cons_succ]
      refine tkA (i := 3) (v := .bool true) ?_ hHeld ?_
      · intro w9 hSw
        obtain ⟨z0, z1⟩ := hSw
        go_simp
      simp only [Act.put, List.setIfInBounds_toArray, List.set_cons_zero, List.set_cons_succ]
      refine tkA (i := 4) (v := .slice (some ⟨qb, 0, none⟩) m m) ?_ hHeld ?_
      · intro w9 hSw
        obtain ⟨z0, z1⟩ := hSw
        go_simp
      simp only [Act.put, List.setIfInBounds_toArray, List.set_cons_zero, List.set_cons_succ]
      refine tkA (i := 5) (v := .pointer (some ⟨qb, 1, none⟩)) ?_ hHeld ?_
      · intro w9 hSw
        obtain ⟨z0, z1⟩ := hSw
        go_simp
      simp only [Act.put, List.setIfInBounds_toArray, List.set_cons_zero, List.set_cons_succ]
      refine tkA (i := 6) (v := .string t1) ?_ hHeld ?_
      · intro w9 hSw
        obtain ⟨z0, z1⟩ := hSw
        go_simp
      simp only [Act.put, List.setIfInBounds_toArray, List.set_cons_zero, List.set_cons_succ]
      refine tkA (i := 7) (v := .pointer (some ⟨M + 1, 0, none⟩)) ?_ hHeld ?_
      · intro w9 hSw
        obtain ⟨z0, z1⟩ := hSw
        go_simp
      simp only [Act.put, List.setIfInBounds_toArray, List.set_cons_zero, List.set_cons_succ]
      refine tkA (i := 8) (v := .pointer (some ⟨M + 1, 0, none⟩)) ?_ hHeld ?_
      · intro w9 hSw
        obtain ⟨z0, z1⟩ := hSw
        go_simp
      simp only [Act.put, List.setIfInBounds_toArray, List.set_cons_zero, List.set_cons_succ]
      refine tkA (i := 9) (v := .pointer (some ⟨M + 1, 3, none⟩)) ?_ hHeld ?_
      · intro w9 hSw
        obtain ⟨z0, z1⟩ := hSw
        go_simp
      simp only [Act.put, List.setIfInBounds_toArray, List.set_cons_zero, List.set_cons_succ]
      refine tkA (i := 10) (v := .string u) ?_ hHeld ?_
      · intro w9 hSw
        obtain ⟨z0, z1⟩ := hSw
        go_simp
      simp only [Act.put, List.setIfInBounds_toArray, List.set_cons_zero, List.set_cons_succ]
      refine tkA (i := 11) (v := .bool mt) ?_ hHeld ?_
      · intro w9 hSw
        obtain ⟨z0, z1⟩ := hSw
        go_simp
      simp only [Act.put, List.setIfInBounds_toArray, List.set_cons_zero, List.set_cons_succ]
      refine wpAnyH_ready (rs := [12]) (by kernel_rfl) (by simp) ?_
      refine AllReadyH.cons rfl (fun K hK => ?_) AllReadyH.nil
      go_simp
      refine hK _ _ ⟨c1, u3⟩ (fun hHeld => ?_)
      clear hK K
      refine wpAnyH_done (by kernel_rfl) ?_ _
      refine NoPanic.normal ?_
      clear hHeld
      go_wp2_with fail
      go_meet
      exact ⟨rfl, rfl, (Below.refl _ _).drew⟩
  case rest =>
    obtain ⟨rfl, rfl, hbc⟩ := hcut
    have D2 : Hid (DeskAt wc M ⟨a, n, c, va, S.aside, nx, u, S.word, X⟩) := D1.out.later hbc.out
    have X2 : Hid (Box wc w.heap.size [.string pk, .string pv]) := X1.out.below hbc.out
    have B2 : Hid (Below w.heap.size w wc) := B1.out.trans (hbc.out.mono B1.out.size)
    have HS2 : Hid (Src wc (some ⟨qb, 0, none⟩) (cellsS (G.map bs))) := HS1.out.below hbc.out
    have ZW : Hid (w.heap.size < wc.heap.size) := World.block_lt_of_cell? _ _ (X2.out 0 _ rfl).1
    clear D1 X1 B1 HS1 hbc
    go_upto_if 21 with fail
    go_cut [5] from 22 to 85 (fun ps wx => ps = .slice (some ⟨qb, 0, none⟩) m m ∧ Hid (Below wc.heap.size wc wx) ∧ Hid (T = asideM S (pk, pv)))
    case first =>
      cases mt with
      | false =>
        have HTA : Hid (T = asideM S (pk, pv)) := by
          show _ = _
          rw [HTG.out]
          have h9 := HMT.out
          match G, h9 with
          | [], _ => rfl
          | [_], _ => rfl
          | ga :: gb :: r, h9 => exact takeP_not (of_decide_eq_false h9)
        go_wp2_with fail
        go_meet
        exact ⟨rfl, Below.refl _ _, HTA.out⟩
      | true =>
        obtain ⟨ga, gb, r, hgr, hgb⟩ : ∃ ga gb r, G = ga :: gb :: r ∧ bs gb = u := by
          have h9 := HMT.out
          match G, h9 with
          | ga :: gb :: r, h9 => exact ⟨ga, gb, r, rfl, of_decide_eq_true h9⟩
        subst hgr
        have hm2 : 2 ≤ m := by rw [← HM.out]; simp
        obtain ⟨b9, o9, t0, eb, c0, hy0⟩ := srcS HS2.out (i := 0) (by simp)
        cases eb
        rw [Nat.zero_add] at c0
        have hya : bs ga = t0 := hy0.out
        clear hy0 HMT HG0
        obtain ⟨p0, _⟩ := X2.out 0 _ rfl
        obtain ⟨p1, _⟩ := X2.out 1 _ rfl
        have hm0i : (0 : Int) < (m : Int) := by omega
        have hlist : ∀ z : UInt8, (ga = [z] ↔ t0.toList = [z]) := fun z => by
          rw [← hya, ByteArray.toList_eq]
          exact Iff.rfl
        have KU : ∀ z : UInt8, (t0.toList == [z]) = decide (ga = [z]) := fun z => by
          rw [Bool.eq_iff_iff, beq_iff_eq, decide_eq_true_eq]
          exact (hlist z).symm
        have k117 := KU 117
        have k102 := KU 102
        have k109 := KU 109
        by_cases c117 : ga = [117] ∧ r = []
        · obtain ⟨rfl, rfl⟩ := c117
          obtain rfl : 2 = m := HM.out
          rw [decide_eq_true rfl] at k117
          have ht0 : t0.toList = [117] := (hlist 117).1 rfl
          have HTU : Hid (T = userM u S pv) := by show _ = _; rw [HTG.out]; exact if_pos ⟨hgb, rfl⟩
          obtain ⟨s1, hs1⟩ : ∃ b, shortB u = b := ⟨_, rfl⟩
          obtain ⟨s2, hs2⟩ : ∃ b, shortB pv = b := ⟨_, rfl⟩
          have HBB : Hid ((s1 && s2) = bb) := by
            show _ = _
            rw [← HB.out, HTU.out]
            unfold userM
            rw [hs1, hs2]
            cases s1 <;> cases s2 <;> rfl
          have BX := D2.out.1
          obtain ⟨d3', f3'⟩ := BX 3 _ rfl
          obtain ⟨d4, f4⟩ := BX 4 _ rfl
          have BX2 := BX.set 4 (.string pv)
          obtain ⟨g3, _⟩ := BX2 3 _ rfl
          obtain ⟨g4, _⟩ := BX2 4 _ rfl
          have DW : Hid (DeskAt (wc.setCell ⟨M + 1, 4, none⟩ (.string pv)) M ⟨a, n, c, va, S.aside, nx, u, pv, X⟩) := by
            obtain ⟨_, ⟨cl, k2⟩, k3, k4⟩ := D2.out
            exact ⟨BX2, ⟨cl, k2.setCell _ _ (by show M ≠ M + 1; omega)⟩, own_setLow k3 (by show M + 1 < M + 2; omega) _, fun x hx => own_setLow (k4.1 x hx) (by show M + 1 < M + 2; omega) _, k4.2⟩
          have BW : Hid (Below M w (wc.setCell ⟨M + 1, 4, none⟩ (.string pv))) := (B2.out.mono (by omega)).setCell (by show M ≤ M + 1; omega) _
          have HST : Hid (∀ S', T = some S' → StAt (wc.setCell ⟨M + 1, 4, none⟩ (.string pv)) M a n c nx u S' (k + 1)) := fun S' h9 => by
            rw [HTU.out] at h9
            unfold userM at h9
            split at h9
            · cases h9
              exact ⟨va, X, DW.out, HV.out.1, HV.out.2.1, fun f hf => by have := HV.out.2.2.1 f hf; omega, by have := HV.out.2.2.2; show S.aside.length ≤ k + 1; omega⟩
            · cases h9
          clear BX BX2 k102 k109 KU hlist
          cases s1 with
          | false =>
            go_wp2_with fail
            refine (shortIs false u _ hs1 (by unfold maxLen; omega)).mono ?_
            rintro e w5 ⟨rfl, hw5⟩
            obtain rfl := hw5
            go_wp2_with fail
            go_ret
            exact ⟨ret_bool HBB.out, HST.out, BW.out⟩
          | true =>
            go_wp2_with fail
            refine (shortIs true u _ hs1 (by unfold maxLen; omega)).mono ?_
            rintro e w5 ⟨rfl, hw5⟩
            obtain rfl := hw5
            go_wp2_with fail
            refine (shortIs s2 pv _ hs2 (by unfold maxLen; omega)).mono ?_
            rintro e w6 ⟨rfl, hw6⟩
            obtain rfl := hw6
            cases s2 <;> (go_wp2_with fail; go_ret; exact ⟨ret_bool HBB.out, HST.out, BW.out⟩)
        by_cases c102 : ga = [102] ∧ ∃ gc, r = [gc]
        · obtain ⟨rfl, gc, rfl⟩ := c102
          obtain rfl : 3 = m := HM.out
          rw [decide_eq_true rfl] at k102
          rw [decide_eq_false (by decide)] at k117
          obtain ⟨b9, o9, t2, eb, c2, hy2⟩ := srcS HS2.out (i := 2) (by simp)
          cases eb
          rw [Nat.zero_add] at c2
          have hyc : bs gc = t2 := hy2.out
          have HTF : Hid (T = putM S (folderM nx t2 pv)) := by show _ = _; rw [HTG.out, ← hyc]; exact if_pos ⟨hgb, rfl⟩
          have hgc : gc.length ≤ 90 := HGZ.out gc (by simp)
          have ht2 : t2.size ≤ 1000 := by rw [← hyc]; show gc.toArray.size ≤ 1000; simp; omega
          have HBF : Hid ((folderM nx t2 pv).isSome = bb) := by show _ = _; rw [← HB.out, HTF.out]; unfold putM; rw [Option.isSome_map]
          clear hy2 hyc KU hlist k109
          go_upto_region 7 with fail
          refine wp_region_noPanic ?_
          refine wp_region_held_drew (S := fun w' => True) (by kernel_rfl) trivial (fun hHeld => ?_)
          refine tkA (i := 0) (v := .pointer (some ⟨M + 1, 0, none⟩)) ?_ hHeld ?_
          · intro w9 hSw
            go_simp
          simp only [Act.put, List.setIfInBounds_toArray, List.set_cons_zero, List.set_cons_succ]
          refine tkA (i := 1) (v := .slice (some ⟨qb, 0, none⟩) 3 3) ?_ hHeld ?_
          · intro w9 hSw
            go_simp
          simp only [Act.put, List.setIfInBounds_toArray, List.set_cons_zero, List.set_cons_succ]
          refine tkA (i := 2) (v := .pointer (some ⟨qb, 2, none⟩)) ?_ hHeld ?_
          · intro w9 hSw
            go_simp
          simp only [Act.put, List.setIfInBounds_toArray, List.set_cons_zero, List.set_cons_succ]
          refine tkA (i := 4) (v := .pointer (some ⟨w.heap.size, 1, none⟩)) ?_ hHeld ?_
          · intro w9 hSw
            go_simp
          simp only [Act.put, List.setIfInBounds_toArray, List.set_cons_zero, List.set_cons_succ]
          refine wpAnyH_ready (rs := [3, 5]) (by kernel_rfl) (by simp) ?_
          refine AllReadyH.cons rfl (fun K hK => ?_) (AllReadyH.cons rfl (fun K hK => ?_) AllReadyH.nil)
          · skip
            go_simp
            refine hK _ _ trivial (fun hHeld => ?_)
            clear hK K
            refine wpAnyH_ready (rs := [5]) (by kernel_rfl) (by simp) ?_
            refine AllReadyH.cons rfl (fun K hK => ?_) AllReadyH.nil
            go_simp
            refine hK _ _ trivial (fun hHeld => ?_)
            clear hK K
            refine wpAnyH_ready (rs := [6]) (by kernel_rfl) (by simp) ?_
            refine AllReadyH.cons rfl (fun K hK => ?_) AllReadyH.nil
            go_simp
            refine (takeFolderI t2 pv _ M ⟨a, n, c, va, S.aside, nx, u, S.word, X⟩ S.fs (D2.out.later ((Below.refl _ _).drew)) HV.out.1 HFO.out (HG.out.below h8 (B2.out.mono (by omega)).drew) h8 ht2 hpv hu hnx bb HBF).mono ?_
            rintro e w6 ⟨rfl, hTk, hb6⟩
            have B6 : Hid (Below M w w6) := ((B2.out.mono (by omega)).drew).trans hb6
            have K6 : Hid (∀ S', T = some S' → StAt w6 M a n c nx u S' (k + 1)) := by
              show ∀ S', _ → _
              rw [HTF.out]
              exact st_put hTk rfl rfl HV.out.2.1 HV.out.2.2.1 HV.out.2.2.2 (fun f h9 => by have := folderM_facts h9; omega)
            clear hTk hb6
            dsimp only
            refine hK _ _ trivial (fun hHeld => ?_)
            clear hK K
            refine wpAnyH_ready (rs := [7]) (by kernel_rfl) (by simp) ?_
            refine AllReadyH.cons rfl (fun K hK => ?_) AllReadyH.nil
            go_simp
            refine hK _ _ trivial (fun hHeld => ?_)
            clear hK K
            refine wpAnyH_done (by kernel_rfl) ?_ _
            refine NoPanic.normal ?_
            clear hHeld
            go_wp2_with fail
            go_ret
            exact ⟨rfl, K6.out, B6.out⟩
          · skip
            go_simp
            refine hK _ _ trivial (fun hHeld => ?_)
            clear hK K
            refine wpAnyH_ready (rs := [3]) (by kernel_rfl) (by simp) ?_
            refine AllReadyH.cons rfl (fun K hK => ?_) AllReadyH.nil
            go_simp
            refine hK _ _ trivial (fun hHeld => ?_)
            clear hK K
            refine wpAnyH_ready (rs := [6]) (by kernel_rfl) (by simp) ?_
            refine AllReadyH.cons rfl (fun K hK => ?_) AllReadyH.nil
            go_simp
            refine (takeFolderI t2 pv _ M ⟨a, n, c, va, S.aside, nx, u, S.word, X⟩ S.fs (D2.out.later ((Below.refl _ _).drew)) HV.out.1 HFO.out (HG.out.below h8 (B2.out.mono (by omega)).drew) h8 ht2 hpv hu hnx bb HBF).mono ?_
            rintro e w6 ⟨rfl, hTk, hb6⟩
            have B6 : Hid (Below M w w6) := ((B2.out.mono (by omega)).drew).trans hb6
            have K6 : Hid (∀ S', T = some S' → StAt w6 M a n c nx u S' (k + 1)) := by
              show ∀ S', _ → _
              rw [HTF.out]
              exact st_put hTk rfl rfl HV.out.2.1 HV.out.2.2.1 HV.out.2.2.2 (fun f h9 => by have := folderM_facts h9; omega)
            clear hTk hb6
            dsimp only
            refine hK _ _ trivial (fun hHeld => ?_)
            clear hK K
            refine wpAnyH_ready (rs := [7]) (by kernel_rfl) (by simp) ?_
            refine AllReadyH.cons rfl (fun K hK => ?_) AllReadyH.nil
            go_simp
            refine hK _ _ trivial (fun hHeld => ?_)
            clear hK K
            refine wpAnyH_done (by kernel_rfl) ?_ _
            refine NoPanic.normal ?_
            clear hHeld
            go_wp2_with fail
            go_ret
            exact ⟨rfl, K6.out, B6.out⟩
        by_cases c109 : ga = [109] ∧ ∃ gc gd, r = [gc, gd]
        · obtain ⟨rfl, gc, gd, rfl⟩ := c109
          obtain rfl : 4 = m := HM.out
          rw [decide_eq_true rfl] at k109
          rw [decide_eq_false (by decide)] at k117 k102
          obtain ⟨b9, o9, t2, eb, c2, hy2⟩ := srcS HS2.out (i := 2) (by simp)
          cases eb
          rw [Nat.zero_add] at c2
          have hyc : bs gc = t2 := hy2.out
          obtain ⟨b9, o9, t3, eb, c3, hy3⟩ := srcS HS2.out (i := 3) (by simp)
          cases eb
          rw [Nat.zero_add] at c3
          have hyd : bs gd = t3 := hy3.out
          have HTF : Hid (T = putM S (mailM S.fs t2 t3 pv)) := by show _ = _; rw [HTG.out, ← hyc, ← hyd]; exact if_pos ⟨hgb, rfl⟩
          have hgc : gc.length ≤ 90 := HGZ.out gc (by simp)
          have hgd : gd.length ≤ 90 := HGZ.out gd (by simp)
          have ht2 : t2.size ≤ 1000 := by rw [← hyc]; show gc.toArray.size ≤ 1000; simp; omega
          have ht3 : t3.size ≤ 1000 := by rw [← hyd]; show gd.toArray.size ≤ 1000; simp; omega
          have HBF : Hid ((mailM S.fs t2 t3 pv).isSome = bb) := by show _ = _; rw [← HB.out, HTF.out]; unfold putM; rw [Option.isSome_map]
          clear hy2 hyc hy3 hyd KU hlist
          go_upto_region 9 with fail
          refine wp_region_noPanic ?_
          refine wp_region_held_drew (S := fun w' => True) (by kernel_rfl) trivial (fun hHeld => ?_)
          refine tkA (i := 0) (v := .pointer (some ⟨M + 1, 0, none⟩)) ?_ hHeld ?_
          · intro w9 hSw
            go_simp
          simp only [Act.put, List.setIfInBounds_toArray, List.set_cons_zero, List.set_cons_succ]
          refine tkA (i := 1) (v := .slice (some ⟨qb, 0, none⟩) 4 4) ?_ hHeld ?_
          · intro w9 hSw
            go_simp
          simp only [Act.put, List.setIfInBounds_toArray, List.set_cons_zero, List.set_cons_succ]
          refine tkA (i := 2) (v := .pointer (some ⟨qb, 2, none⟩)) ?_ hHeld ?_
          · intro w9 hSw
            go_simp
          simp only [Act.put, List.setIfInBounds_toArray, List.set_cons_zero, List.set_cons_succ]
          refine tkA (i := 4) (v := .slice (some ⟨qb, 0, none⟩) 4 4) ?_ hHeld ?_
          · intro w9 hSw
            go_simp
          simp only [Act.put, List.setIfInBounds_toArray, List.set_cons_zero, List.set_cons_succ]
          refine tkA (i := 5) (v := .pointer (some ⟨qb, 3, none⟩)) ?_ hHeld ?_
          · intro w9 hSw
            go_simp
          simp only [Act.put, List.setIfInBounds_toArray, List.set_cons_zero, List.set_cons_succ]
          refine tkA (i := 7) (v := .pointer (some ⟨w.heap.size, 1, none⟩)) ?_ hHeld ?_
          · intro w9 hSw
            go_simp
          simp only [Act.put, List.setIfInBounds_toArray, List.set_cons_zero, List.set_cons_succ]
          refine wpAnyH_ready (rs := [3, 6, 8]) (by kernel_rfl) (by simp) ?_
          refine AllReadyH.cons rfl (fun K hK => ?_) (AllReadyH.cons rfl (fun K hK => ?_) (AllReadyH.cons rfl (fun K hK => ?_) AllReadyH.nil))
          · skip
            go_simp
            refine hK _ _ trivial (fun hHeld => ?_)
            clear hK K
            refine wpAnyH_ready (rs := [6, 8]) (by kernel_rfl) (by simp) ?_
            refine AllReadyH.cons rfl (fun K hK => ?_) (AllReadyH.cons rfl (fun K hK => ?_) AllReadyH.nil)
            · skip
              go_simp
              refine hK _ _ trivial (fun hHeld => ?_)
              clear hK K
              refine wpAnyH_ready (rs := [8]) (by kernel_rfl) (by simp) ?_
              refine AllReadyH.cons rfl (fun K hK => ?_) AllReadyH.nil
              go_simp
              refine hK _ _ trivial (fun hHeld => ?_)
              clear hK K
              refine wpAnyH_ready (rs := [9]) (by kernel_rfl) (by simp) ?_
              refine AllReadyH.cons rfl (fun K hK => ?_) AllReadyH.nil
              go_simp
              refine (takeMailI t2 t3 pv _ M ⟨a, n, c, va, S.aside, nx, u, S.word, X⟩ S.fs (D2.out.later ((Below.refl _ _).drew)) HV.out.1 HFO.out (HG.out.below h8 (B2.out.mono (by omega)).drew) h8 ht2 ht3 hpv hu bb HBF).mono ?_
              rintro e w6 ⟨rfl, hTk, hb6⟩
              have B6 : Hid (Below M w w6) := ((B2.out.mono (by omega)).drew).trans hb6
              have K6 : Hid (∀ S', T = some S' → StAt w6 M a n c nx u S' (k + 1)) := by
                show ∀ S', _ → _
                rw [HTF.out]
                exact st_put hTk rfl rfl HV.out.2.1 HV.out.2.2.1 HV.out.2.2.2 (fun f h9 => mailM_facts HV.out.2.2.1 h9)
              clear hTk hb6
              dsimp only
              refine hK _ _ trivial (fun hHeld => ?_)
              clear hK K
              refine wpAnyH_ready (rs := [10]) (by kernel_rfl) (by simp) ?_
              refine AllReadyH.cons rfl (fun K hK => ?_) AllReadyH.nil
              go_simp
              refine hK _ _ trivial (fun hHeld => ?_)
              clear hK K
              refine wpAnyH_done (by kernel_rfl) ?_ _
              refine NoPanic.normal ?_
              clear hHeld
              go_wp2_with fail
              go_ret
              exact ⟨rfl, K6.out, B6.out⟩
            · skip
              go_simp
              refine hK _ _ trivial (fun hHeld => ?_)
              clear hK K
              refine wpAnyH_ready (rs := [6]) (by kernel_rfl) (by simp) ?_
              refine AllReadyH.cons rfl (fun K hK => ?_) AllReadyH.nil
              go_simp
              refine hK _ _ trivial (fun hHeld => ?_)
              clear hK K
              refine wpAnyH_ready (rs := [9]) (by kernel_rfl) (by simp) ?_
              refine AllReadyH.cons rfl (fun K hK => ?_) AllReadyH.nil
              go_simp
              refine (takeMailI t2 t3 pv _ M ⟨a, n, c, va, S.aside, nx, u, S.word, X⟩ S.fs (D2.out.later ((Below.refl _ _).drew)) HV.out.1 HFO.out (HG.out.below h8 (B2.out.mono (by omega)).drew) h8 ht2 ht3 hpv hu bb HBF).mono ?_
              rintro e w6 ⟨rfl, hTk, hb6⟩
              have B6 : Hid (Below M w w6) := ((B2.out.mono (by omega)).drew).trans hb6
              have K6 : Hid (∀ S', T = some S' → StAt w6 M a n c nx u S' (k + 1)) := by
                show ∀ S', _ → _
                rw [HTF.out]
                exact st_put hTk rfl rfl HV.out.2.1 HV.out.2.2.1 HV.out.2.2.2 (fun f h9 => mailM_facts HV.out.2.2.1 h9)
              clear hTk hb6
              dsimp only
              refine hK _ _ trivial (fun hHeld => ?_)
              clear hK K
              refine wpAnyH_ready (rs := [10]) (by kernel_rfl) (by simp) ?_
              refine AllReadyH.cons rfl (fun K hK => ?_) AllReadyH.nil
              go_simp
              refine hK _ _ trivial (fun hHeld => ?_)
              clear hK K
              refine wpAnyH_done (by kernel_rfl) ?_ _
              refine NoPanic.normal ?_
              clear hHeld
              go_wp2_with fail
              go_ret
              exact ⟨rfl, K6.out, B6.out⟩
          · skip
            go_simp
            refine hK _ _ trivial (fun hHeld => ?_)
            clear hK K
            refine wpAnyH_ready (rs := [3, 8]) (by kernel_rfl) (by simp) ?_
            refine AllReadyH.cons rfl (fun K hK => ?_) (AllReadyH.cons rfl (fun K hK => ?_) AllReadyH.nil)
            · skip
              go_simp
              refine hK _ _ trivial (fun hHeld => ?_)
              clear hK K
              refine wpAnyH_ready (rs := [8]) (by kernel_rfl) (by simp) ?_
              refine AllReadyH.cons rfl (fun K hK => ?_) AllReadyH.nil
              go_simp
              refine hK _ _ trivial (fun hHeld => ?_)
              clear hK K
              refine wpAnyH_ready (rs := [9]) (by kernel_rfl) (by simp) ?_
              refine AllReadyH.cons rfl (fun K hK => ?_) AllReadyH.nil
              go_simp
              refine (takeMailI t2 t3 pv _ M ⟨a, n, c, va, S.aside, nx, u, S.word, X⟩ S.fs (D2.out.later ((Below.refl _ _).drew)) HV.out.1 HFO.out (HG.out.below h8 (B2.out.mono (by omega)).drew) h8 ht2 ht3 hpv hu bb HBF).mono ?_
              rintro e w6 ⟨rfl, hTk, hb6⟩
              have B6 : Hid (Below M w w6) := ((B2.out.mono (by omega)).drew).trans hb6
              have K6 : Hid (∀ S', T = some S' → StAt w6 M a n c nx u S' (k + 1)) := by
                show ∀ S', _ → _
                rw [HTF.out]
                exact st_put hTk rfl rfl HV.out.2.1 HV.out.2.2.1 HV.out.2.2.2 (fun f h9 => mailM_facts HV.out.2.2.1 h9)
              clear hTk hb6
              dsimp only
              refine hK _ _ trivial (fun hHeld => ?_)
              clear hK K
              refine wpAnyH_ready (rs := [10]) (by kernel_rfl) (by simp) ?_
              refine AllReadyH.cons rfl (fun K hK => ?_) AllReadyH.nil
              go_simp
              refine hK _ _ trivial (fun hHeld => ?_)
              clear hK K
              refine wpAnyH_done (by kernel_rfl) ?_ _
              refine NoPanic.normal ?_
              clear hHeld
              go_wp2_with fail
              go_ret
              exact ⟨rfl, K6.out, B6.out⟩
            · skip
              go_simp
              refine hK _ _ trivial (fun hHeld => ?_)
              clear hK K
              refine wpAnyH_ready (rs := [3]) (by kernel_rfl) (by simp) ?_
              refine AllReadyH.cons rfl (fun K hK => ?_) AllReadyH.nil
              go_simp
              refine hK _ _ trivial (fun hHeld => ?_)
              clear hK K
              refine wpAnyH_ready (rs := [9]) (by kernel_rfl) (by simp) ?_
              refine AllReadyH.cons rfl (fun K hK => ?_) AllReadyH.nil
              go_simp
              refine (takeMailI t2 t3 pv _ M ⟨a, n, c, va, S.aside, nx, u, S.word, X⟩ S.fs (D2.out.later ((Below.refl _ _).drew)) HV.out.1 HFO.out (HG.out.below h8 (B2.out.mono (by omega)).drew) h8 ht2 ht3 hpv hu bb HBF).mono ?_
              rintro e w6 ⟨rfl, hTk, hb6⟩
              have B6 : Hid (Below M w w6) := ((B2.out.mono (by omega)).drew).trans hb6
              have K6 : Hid (∀ S', T = some S' → StAt w6 M a n c nx u S' (k + 1)) := by
                show ∀ S', _ → _
                rw [HTF.out]
                exact st_put hTk rfl rfl HV.out.2.1 HV.out.2.2.1 HV.out.2.2.2 (fun f h9 => mailM_facts HV.out.2.2.1 h9)
              clear hTk hb6
              dsimp only
              refine hK _ _ trivial (fun hHeld => ?_)
              clear hK K
              refine wpAnyH_ready (rs := [10]) (by kernel_rfl) (by simp) ?_
              refine AllReadyH.cons rfl (fun K hK => ?_) AllReadyH.nil
              go_simp
              refine hK _ _ trivial (fun hHeld => ?_)
              clear hK K
              refine wpAnyH_done (by kernel_rfl) ?_ _
              refine NoPanic.normal ?_
              clear hHeld
              go_wp2_with fail
              go_ret
              exact ⟨rfl, K6.out, B6.out⟩
          · skip
            go_simp
            refine hK _ _ trivial (fun hHeld => ?_)
            clear hK K
            refine wpAnyH_ready (rs := [3, 6]) (by kernel_rfl) (by simp) ?_
            refine AllReadyH.cons rfl (fun K hK => ?_) (AllReadyH.cons rfl (fun K hK => ?_) AllReadyH.nil)
            · skip
              go_simp
              refine hK _ _ trivial (fun hHeld => ?_)
              clear hK K
              refine wpAnyH_ready (rs := [6]) (by kernel_rfl) (by simp) ?_
              refine AllReadyH.cons rfl (fun K hK => ?_) AllReadyH.nil
              go_simp
              refine hK _ _ trivial (fun hHeld => ?_)
              clear hK K
              refine wpAnyH_ready (rs := [9]) (by kernel_rfl) (by simp) ?_
              refine AllReadyH.cons rfl (fun K hK => ?_) AllReadyH.nil
              go_simp
              refine (takeMailI t2 t3 pv _ M ⟨a, n, c, va, S.aside, nx, u, S.word, X⟩ S.fs (D2.out.later ((Below.refl _ _).drew)) HV.out.1 HFO.out (HG.out.below h8 (B2.out.mono (by omega)).drew) h8 ht2 ht3 hpv hu bb HBF).mono ?_
              rintro e w6 ⟨rfl, hTk, hb6⟩
              have B6 : Hid (Below M w w6) := ((B2.out.mono (by omega)).drew).trans hb6
              have K6 : Hid (∀ S', T = some S' → StAt w6 M a n c nx u S' (k + 1)) := by
                show ∀ S', _ → _
                rw [HTF.out]
                exact st_put hTk rfl rfl HV.out.2.1 HV.out.2.2.1 HV.out.2.2.2 (fun f h9 => mailM_facts HV.out.2.2.1 h9)
              clear hTk hb6
              dsimp only
              refine hK _ _ trivial (fun hHeld => ?_)
              clear hK K
              refine wpAnyH_ready (rs := [10]) (by kernel_rfl) (by simp) ?_
              refine AllReadyH.cons rfl (fun K hK => ?_) AllReadyH.nil
              go_simp
              refine hK _ _ trivial (fun hHeld => ?_)
              clear hK K
              refine wpAnyH_done (by kernel_rfl) ?_ _
              refine NoPanic.normal ?_
              clear hHeld
              go_wp2_with fail
              go_ret
              exact ⟨rfl, K6.out, B6.out⟩
            · skip
              go_simp
              refine hK _ _ trivial (fun hHeld => ?_)
              clear hK K
              refine wpAnyH_ready (rs := [3]) (by kernel_rfl) (by simp) ?_
              refine AllReadyH.cons rfl (fun K hK => ?_) AllReadyH.nil
              go_simp
              refine hK _ _ trivial (fun hHeld => ?_)
              clear hK K
              refine wpAnyH_ready (rs := [9]) (by kernel_rfl) (by simp) ?_
              refine AllReadyH.cons rfl (fun K hK => ?_) AllReadyH.nil
              go_simp
              refine (takeMailI t2 t3 pv _ M ⟨a, n, c, va, S.aside, nx, u, S.word, X⟩ S.fs (D2.out.later ((Below.refl _ _).drew)) HV.out.1 HFO.out (HG.out.below h8 (B2.out.mono (by omega)).drew) h8 ht2 ht3 hpv hu bb HBF).mono ?_
              rintro e w6 ⟨rfl, hTk, hb6⟩
              have B6 : Hid (Below M w w6) := ((B2.out.mono (by omega)).drew).trans hb6
              have K6 : Hid (∀ S', T = some S' → StAt w6 M a n c nx u S' (k + 1)) := by
                show ∀ S', _ → _
                rw [HTF.out]
                exact st_put hTk rfl rfl HV.out.2.1 HV.out.2.2.1 HV.out.2.2.2 (fun f h9 => mailM_facts HV.out.2.2.1 h9)
              clear hTk hb6
              dsimp only
              refine hK _ _ trivial (fun hHeld => ?_)
              clear hK K
              refine wpAnyH_ready (rs := [10]) (by kernel_rfl) (by simp) ?_
              refine AllReadyH.cons rfl (fun K hK => ?_) AllReadyH.nil
              go_simp
              refine hK _ _ trivial (fun hHeld => ?_)
              clear hK K
              refine wpAnyH_done (by kernel_rfl) ?_ _
              refine NoPanic.normal ?_
              clear hHeld
              go_wp2_with fail
              go_ret
              exact ⟨rfl, K6.out, B6.out⟩
        have HTA : Hid (T = asideM S (pk, pv)) := by
          show _ = _
          rw [HTG.out]
          match r, c117, c102, c109 with
          | [], h1, _, _ => exact if_neg fun h9 => h1 ⟨h9.2, rfl⟩
          | [_], _, h1, _ => exact if_neg fun h9 => h1 ⟨h9.2, _, rfl⟩
          | [_, _], _, _, h1 => exact if_neg fun h9 => h1 ⟨h9.2, _, _, rfl⟩
          | _ :: _ :: _ :: _, _, _, _ => rfl
        have hrl : r.length + 2 = m := by rw [← HM.out]; simp
        clear KU hlist
        by_cases e117 : ga = [117]
        · have hm9 : ¬ (m : Int) = 2 := fun h9 => c117 ⟨e117, List.length_eq_zero_iff.1 (by omega)⟩
          rw [decide_eq_true e117] at k117
          rw [e117, decide_eq_false (by decide)] at k102 k109
          clear c117 c102 c109 hrl e117
          go_wp2_with fail
          go_meet
          exact ⟨rfl, Below.refl _ _, HTA.out⟩
        rw [decide_eq_false e117] at k117
        by_cases e102 : ga = [102]
        · have hm9 : ¬ (m : Int) = 3 := fun h9 => c102 ⟨e102, List.length_eq_one_iff.1 (by omega)⟩
          rw [decide_eq_true e102] at k102
          rw [e102, decide_eq_false (by decide)] at k109
          clear c117 c102 c109 hrl e102
          go_wp2_with fail
          go_meet
          exact ⟨rfl, Below.refl _ _, HTA.out⟩
        rw [decide_eq_false e102] at k102
        by_cases e109 : ga = [109]
        · have hm9 : ¬ (m : Int) = 4 := fun h9 => c109 ⟨e109, two_of (by omega)⟩
          rw [decide_eq_true e109] at k109
          clear c117 c102 c109 hrl e109
          go_wp2_with fail
          go_meet
          exact ⟨rfl, Below.refl _ _, HTA.out⟩
        rw [decide_eq_false e109] at k109
        clear c117 c102 c109 hrl e109 e102 e117
        go_wp2_with fail
        go_meet
        exact ⟨rfl, Below.refl _ _, HTA.out⟩
    case rest =>
      rename World => wd
      obtain ⟨rfl, hbd, HTA⟩ := hcut
      have D3 := D2.out.later hbd.out
      have X3 := X2.out.below hbd.out
      have B3 : Hid (Below w.heap.size w wd) := B2.out.trans (hbd.out.mono B2.out.size)
      have ZD : Hid (w.heap.size < wd.heap.size) := by have h9 := hbd.out.size; have h7 := ZW.out; show _ < _; omega
      obtain ⟨av, cv, hva, _, _⟩ := own_src D3.2.2.1
      simp only at hva
      obtain ⟨la, hla⟩ : ∃ k, S.aside.length = k := ⟨_, rfl⟩
      have hlk : la ≤ 100 := by have := HV.out.2.2.2; omega
      rw [hla] at hva
      subst hva
      have HO : Hid (wd.ownsRow (M + 2) 68 2 (.slice av la cv) la (cellsP S.aside)) := by
        show wd.ownsRow _ _ _ _ _ _
        rw [← hla]
        exact (hla ▸ D3.2.2.1)
      have HD3 : Hid (DeskAt wd M ⟨a, n, c, .slice av la cv, S.aside, nx, u, S.word, X⟩) := D3
      have HLA : Hid (S.aside.length = la) := hla
      obtain ⟨e1, f1⟩ := D3.1 1 _ rfl
      obtain ⟨q0, _⟩ := X3 0 _ rfl
      obtain ⟨q1, _⟩ := X3 1 _ rfl
      have HBT : Hid (true = bb) := by show _ = _; rw [← HB.out, HTA.out]; rfl
      clear D3 X3 hla hbd X2 B2 D2 HS2 ZW
      go_upto_region 10 with fail
      refine wp_region_noPanic ?_
      refine wp_region_held_drew (S := fun w' => True) (by kernel_rfl) trivial (fun hHeld => ?_)
      refine tkA (i := 0) (v := .pointer (some ⟨M + 1, 0, none⟩)) ?_ hHeld ?_
      · intro w9 hSw
        go_simp
      simp only [Act.put, List.setIfInBounds_toArray, List.set_cons_zero, List.set_cons_succ]
      refine tkA (i := 1) (v := .pointer (some ⟨M + 1, 0, none⟩)) ?_ hHeld ?_
      · intro w9 hSw
        go_simp
      simp only [Act.put, List.setIfInBounds_toArray, List.set_cons_zero, List.set_cons_succ]
      refine tkA (i := 2) (v := .pointer (some ⟨M + 1, 0, none⟩)) ?_ hHeld ?_
      · intro w9 hSw
        go_simp
      simp only [Act.put, List.setIfInBounds_toArray, List.set_cons_zero, List.set_cons_succ]
      refine tkA (i := 3) (v := .pointer (some ⟨M + 1, 1, none⟩)) ?_ hHeld ?_
      · intro w9 hSw
        go_simp
      simp only [Act.put, List.setIfInBounds_toArray, List.set_cons_zero, List.set_cons_succ]
      refine wpAnyH_ready (rs := [4, 5]) (by kernel_rfl) (by simp) ?_
      refine AllReadyH.cons rfl (fun K hK => ?_) (AllReadyH.cons rfl (fun K hK => ?_) AllReadyH.nil)
      · skip
        go_simp
        refine hK _ _ trivial (fun hHeld => ?_)
        clear hK K
        refine wpAnyH_ready (rs := [5]) (by kernel_rfl) (by simp) ?_
        refine AllReadyH.cons rfl (fun K hK => ?_) AllReadyH.nil
        go_simp
        refine hK _ _ trivial (fun hHeld => ?_)
        clear hK K
        refine wpAnyH_ready (rs := [6]) (by kernel_rfl) (by simp) ?_
        refine AllReadyH.cons rfl (fun K hK => ?_) AllReadyH.nil
        go_simp
        have e1' : (wd.alloc (.cells #[.string pk, .string pv] 68)).cell? ⟨M + 1, 1, none⟩ = some (.slice av la cv) := cell_later ((Below.refl _ _).alloc (Nat.le_refl _) _) e1
        refine hK _ _ trivial (fun hHeld => ?_)
        clear hK K
        refine wpAnyH_ready (rs := [7]) (by kernel_rfl) (by simp) ?_
        refine AllReadyH.cons rfl (fun K hK => ?_) AllReadyH.nil
        refine step_append_src rfl (.tmp 90) (.tmp 92) 23 rfl (M + 2) 68 (.agg #[.string ⟨#[]⟩, .string ⟨#[]⟩]) 2 32 Tryz.underlying23 infoP rfl (by decide) (by decide) (.slice av la cv) la (cellsP S.aside) (by rfl) (HO.out.alloc _) ⟨wd.heap.size, 0, none⟩ 1 1 (cellsP [(pk, pv)]) (by rfl) (by rfl) (src_oneP rfl) (cellsP_one _) (by omega) (by omega) (by show M + 2 ≤ (wd.alloc _).heap.size; have h9 := ZD.out; simp; omega) ?_
        intro v6 w6 hown6 hgrow6 hloc6
        obtain ⟨a6, c6, rfl, _, hl6⟩ := own_src hown6
        have AL5 : Below wd.heap.size wd (wd.alloc (.cells #[.string pk, .string pv] 68)) := (Below.refl _ _).alloc (Nat.le_refl _) _
        have D5 := HD3.out.later AL5
        have hrow : ∀ g, Value.ownBlock (.slice av la cv) = some g → M + 2 ≤ g := fun g h9 => (HO.out.lt g h9).1
        have B6 : Hid (Below M w w6) := ((B3.out.trans (AL5.mono B3.out.size)).mono (by omega)).drew.grown hgrow6 (by have h9 := hgrow6.size; have h7 := ZD.out; show M ≤ (wd.alloc _).heap.size; simp; omega) (fun g h9 => by have := hrow g h9; omega)
        have K6 : Hid (Box w6 (M + 1) [.slice a n c, .slice av la cv, .int .i64 nx, .string u, .string S.word, .map (some M)] ∧ (∃ clock, MapIs w6 M clock X) ∧ w6.ownsRow (M + 2) 68 2 (.slice a6 (la + 1) c6) (la + 1) (cellsP (S.aside ++ [(pk, pv)])) ∧ Rows w6 M X) := by
          obtain ⟨k1, ⟨cl, k2⟩, k3, k4⟩ := D5
          refine ⟨Box.grown (w := (wd.alloc (.cells #[.string pk, .string pv] 68)).drew) k1 hgrow6 (fun h9 => by have := hrow _ h9; omega), ⟨cl, MapIs.grown (w := (wd.alloc (.cells #[.string pk, .string pv] 68)).drew) k2 hgrow6 (fun h9 => by have := hrow _ h9; omega)⟩, ?_, fun x hx => own_grown (w := (wd.alloc (.cells #[.string pk, .string pv] 68)).drew) (k4.1 x hx) hgrow6 (fun g h9 h7 => own_ne (k4.1 x hx) (HO.out.alloc _) (by decide) g h9 h7), k4.2⟩
          rw [cellsP_append]
          exact hown6
        obtain ⟨e6, f6⟩ := K6.out.1 1 _ rfl
        clear hown6 hgrow6 hloc6 hl6 D5 hrow AL5
        refine hK _ _ trivial (fun hHeld => ?_)
        clear hK K
        refine tkA (i := 8) (v := .pointer (some ⟨M + 1, 0, none⟩)) ?_ hHeld ?_
        · intro w9 hSw
          go_simp
        simp only [Act.put, List.setIfInBounds_toArray, List.set_cons_zero, List.set_cons_succ]
        refine tkA (i := 9) (v := .pointer (some ⟨M + 1, 1, none⟩)) ?_ hHeld ?_
        · intro w9 hSw
          go_simp
        simp only [Act.put, List.setIfInBounds_toArray, List.set_cons_zero, List.set_cons_succ]
        refine wpAnyH_ready (rs := [10]) (by kernel_rfl) (by simp) ?_
        refine AllReadyH.cons rfl (fun K hK => ?_) AllReadyH.nil
        go_simp
        refine hK _ _ trivial (fun hHeld => ?_)
        clear hK K
        refine wpAnyH_done (by kernel_rfl) ?_ _
        refine NoPanic.normal ?_
        clear hHeld
        have B7 : Hid (Below M w (w6.setCell ⟨M + 1, 1, none⟩ (.slice a6 (la + 1) c6))) := B6.out.setCell (by show M ≤ M + 1; omega) _
        have HST : Hid (∀ S', T = some S' → StAt (w6.setCell ⟨M + 1, 1, none⟩ (.slice a6 (la + 1) c6)) M a n c nx u S' (k + 1)) := fun S' h9 => by
          rw [HTA.out] at h9
          cases h9
          obtain ⟨k1, ⟨cl, k2⟩, k3, k4⟩ := K6.out
          refine ⟨.slice a6 (la + 1) c6, X, ⟨k1.set 1 _, ⟨cl, k2.setCell _ _ (by show M ≠ M + 1; omega)⟩, ?_, fun x hx => own_setLow (k4.1 x hx) (by show M + 1 < M + 2; omega) _, k4.2⟩, HV.out.1, HV.out.2.1, fun f hf => by have := HV.out.2.2.1 f hf; omega, ?_⟩
          · have h7 : (S.aside ++ [(pk, pv)]).length = la + 1 := by rw [List.length_append, HLA.out]; rfl
            show World.ownsRow _ _ _ _ _ (S.aside ++ [(pk, pv)]).length _
            rw [h7]
            exact own_setLow k3 (by show M + 1 < M + 2; omega) _
          · show (S.aside ++ [(pk, pv)]).length ≤ k + 1
            rw [List.length_append]
            have := HV.out.2.2.2
            simp; omega
        clear e6 f6
        go_wp2_with fail
        go_ret
        exact ⟨ret_bool HBT.out, HST.out, B7.out⟩
      · skip
        go_simp
        refine hK _ _ trivial (fun hHeld => ?_)
        clear hK K
        refine wpAnyH_ready (rs := [4, 6]) (by kernel_rfl) (by simp) ?_
        refine AllReadyH.cons rfl (fun K hK => ?_) (AllReadyH.cons rfl (fun K hK => ?_) AllReadyH.nil)
        · skip
          go_simp
          refine hK _ _ trivial (fun hHeld => ?_)
          clear hK K
          refine wpAnyH_ready (rs := [6]) (by kernel_rfl) (by simp) ?_
          refine AllReadyH.cons rfl (fun K hK => ?_) AllReadyH.nil
          go_simp
          have e1' : (wd.alloc (.cells #[.string pk, .string pv] 68)).cell? ⟨M + 1, 1, none⟩ = some (.slice av la cv) := cell_later ((Below.refl _ _).alloc (Nat.le_refl _) _) e1
          refine hK _ _ trivial (fun hHeld => ?_)
          clear hK K
          refine wpAnyH_ready (rs := [7]) (by kernel_rfl) (by simp) ?_
          refine AllReadyH.cons rfl (fun K hK => ?_) AllReadyH.nil
          refine step_append_src rfl (.tmp 90) (.tmp 92) 23 rfl (M + 2) 68 (.agg #[.string ⟨#[]⟩, .string ⟨#[]⟩]) 2 32 Tryz.underlying23 infoP rfl (by decide) (by decide) (.slice av la cv) la (cellsP S.aside) (by rfl) (HO.out.alloc _) ⟨wd.heap.size, 0, none⟩ 1 1 (cellsP [(pk, pv)]) (by rfl) (by rfl) (src_oneP rfl) (cellsP_one _) (by omega) (by omega) (by show M + 2 ≤ (wd.alloc _).heap.size; have h9 := ZD.out; simp; omega) ?_
          intro v6 w6 hown6 hgrow6 hloc6
          obtain ⟨a6, c6, rfl, _, hl6⟩ := own_src hown6
          have AL5 : Below wd.heap.size wd (wd.alloc (.cells #[.string pk, .string pv] 68)) := (Below.refl _ _).alloc (Nat.le_refl _) _
          have D5 := HD3.out.later AL5
          have hrow : ∀ g, Value.ownBlock (.slice av la cv) = some g → M + 2 ≤ g := fun g h9 => (HO.out.lt g h9).1
          have B6 : Hid (Below M w w6) := ((B3.out.trans (AL5.mono B3.out.size)).mono (by omega)).drew.grown hgrow6 (by have h9 := hgrow6.size; have h7 := ZD.out; show M ≤ (wd.alloc _).heap.size; simp; omega) (fun g h9 => by have := hrow g h9; omega)
          have K6 : Hid (Box w6 (M + 1) [.slice a n c, .slice av la cv, .int .i64 nx, .string u, .string S.word, .map (some M)] ∧ (∃ clock, MapIs w6 M clock X) ∧ w6.ownsRow (M + 2) 68 2 (.slice a6 (la + 1) c6) (la + 1) (cellsP (S.aside ++ [(pk, pv)])) ∧ Rows w6 M X) := by
            obtain ⟨k1, ⟨cl, k2⟩, k3, k4⟩ := D5
            refine ⟨Box.grown (w := (wd.alloc (.cells #[.string pk, .string pv] 68)).drew) k1 hgrow6 (fun h9 => by have := hrow _ h9; omega), ⟨cl, MapIs.grown (w := (wd.alloc (.cells #[.string pk, .string pv] 68)).drew) k2 hgrow6 (fun h9 => by have := hrow _ h9; omega)⟩, ?_, fun x hx => own_grown (w := (wd.alloc (.cells #[.string pk, .string pv] 68)).drew) (k4.1 x hx) hgrow6 (fun g h9 h7 => own_ne (k4.1 x hx) (HO.out.alloc _) (by decide) g h9 h7), k4.2⟩
            rw [cellsP_append]
            exact hown6
          obtain ⟨e6, f6⟩ := K6.out.1 1 _ rfl
          clear hown6 hgrow6 hloc6 hl6 D5 hrow AL5
          refine hK _ _ trivial (fun hHeld => ?_)
          clear hK K
          refine tkA (i := 8) (v := .pointer (some ⟨M + 1, 0, none⟩)) ?_ hHeld ?_
          · intro w9 hSw
            go_simp
          simp only [Act.put, List.setIfInBounds_toArray, List.set_cons_zero, List.set_cons_succ]
          refine tkA (i := 9) (v := .pointer (some ⟨M + 1, 1, none⟩)) ?_ hHeld ?_
          · intro w9 hSw
            go_simp
          simp only [Act.put, List.setIfInBounds_toArray, List.set_cons_zero, List.set_cons_succ]
          refine wpAnyH_ready (rs := [10]) (by kernel_rfl) (by simp) ?_
          refine AllReadyH.cons rfl (fun K hK => ?_) AllReadyH.nil
          go_simp
          refine hK _ _ trivial (fun hHeld => ?_)
          clear hK K
          refine wpAnyH_done (by kernel_rfl) ?_ _
          refine NoPanic.normal ?_
          clear hHeld
          have B7 : Hid (Below M w (w6.setCell ⟨M + 1, 1, none⟩ (.slice a6 (la + 1) c6))) := B6.out.setCell (by show M ≤ M + 1; omega) _
          have HST : Hid (∀ S', T = some S' → StAt (w6.setCell ⟨M + 1, 1, none⟩ (.slice a6 (la + 1) c6)) M a n c nx u S' (k + 1)) := fun S' h9 => by
            rw [HTA.out] at h9
            cases h9
            obtain ⟨k1, ⟨cl, k2⟩, k3, k4⟩ := K6.out
            refine ⟨.slice a6 (la + 1) c6, X, ⟨k1.set 1 _, ⟨cl, k2.setCell _ _ (by show M ≠ M + 1; omega)⟩, ?_, fun x hx => own_setLow (k4.1 x hx) (by show M + 1 < M + 2; omega) _, k4.2⟩, HV.out.1, HV.out.2.1, fun f hf => by have := HV.out.2.2.1 f hf; omega, ?_⟩
            · have h7 : (S.aside ++ [(pk, pv)]).length = la + 1 := by rw [List.length_append, HLA.out]; rfl
              show World.ownsRow _ _ _ _ _ (S.aside ++ [(pk, pv)]).length _
              rw [h7]
              exact own_setLow k3 (by show M + 1 < M + 2; omega) _
            · show (S.aside ++ [(pk, pv)]).length ≤ k + 1
              rw [List.length_append]
              have := HV.out.2.2.2
              simp; omega
          clear e6 f6
          go_wp2_with fail
          go_ret
          exact ⟨ret_bool HBT.out, HST.out, B7.out⟩
        · skip
          go_simp
          have e1' : (wd.alloc (.cells #[.string pk, .string pv] 68)).cell? ⟨M + 1, 1, none⟩ = some (.slice av la cv) := cell_later ((Below.refl _ _).alloc (Nat.le_refl _) _) e1
          refine hK _ _ trivial (fun hHeld => ?_)
          clear hK K
          refine wpAnyH_ready (rs := [4]) (by kernel_rfl) (by simp) ?_
          refine AllReadyH.cons rfl (fun K hK => ?_) AllReadyH.nil
          go_simp
          refine hK _ _ trivial (fun hHeld => ?_)
          clear hK K
          refine wpAnyH_ready (rs := [7]) (by kernel_rfl) (by simp) ?_
          refine AllReadyH.cons rfl (fun K hK => ?_) AllReadyH.nil
          refine step_append_src rfl (.tmp 90) (.tmp 92) 23 rfl (M + 2) 68 (.agg #[.string ⟨#[]⟩, .string ⟨#[]⟩]) 2 32 Tryz.underlying23 infoP rfl (by decide) (by decide) (.slice av la cv) la (cellsP S.aside) (by rfl) (HO.out.alloc _) ⟨wd.heap.size, 0, none⟩ 1 1 (cellsP [(pk, pv)]) (by rfl) (by rfl) (src_oneP rfl) (cellsP_one _) (by omega) (by omega) (by show M + 2 ≤ (wd.alloc _).heap.size; have h9 := ZD.out; simp; omega) ?_
          intro v6 w6 hown6 hgrow6 hloc6
          obtain ⟨a6, c6, rfl, _, hl6⟩ := own_src hown6
          have AL5 : Below wd.heap.size wd (wd.alloc (.cells #[.string pk, .string pv] 68)) := (Below.refl _ _).alloc (Nat.le_refl _) _
          have D5 := HD3.out.later AL5
          have hrow : ∀ g, Value.ownBlock (.slice av la cv) = some g → M + 2 ≤ g := fun g h9 => (HO.out.lt g h9).1
          have B6 : Hid (Below M w w6) := ((B3.out.trans (AL5.mono B3.out.size)).mono (by omega)).drew.grown hgrow6 (by have h9 := hgrow6.size; have h7 := ZD.out; show M ≤ (wd.alloc _).heap.size; simp; omega) (fun g h9 => by have := hrow g h9; omega)
          have K6 : Hid (Box w6 (M + 1) [.slice a n c, .slice av la cv, .int .i64 nx, .string u, .string S.word, .map (some M)] ∧ (∃ clock, MapIs w6 M clock X) ∧ w6.ownsRow (M + 2) 68 2 (.slice a6 (la + 1) c6) (la + 1) (cellsP (S.aside ++ [(pk, pv)])) ∧ Rows w6 M X) := by
            obtain ⟨k1, ⟨cl, k2⟩, k3, k4⟩ := D5
            refine ⟨Box.grown (w := (wd.alloc (.cells #[.string pk, .string pv] 68)).drew) k1 hgrow6 (fun h9 => by have := hrow _ h9; omega), ⟨cl, MapIs.grown (w := (wd.alloc (.cells #[.string pk, .string pv] 68)).drew) k2 hgrow6 (fun h9 => by have := hrow _ h9; omega)⟩, ?_, fun x hx => own_grown (w := (wd.alloc (.cells #[.string pk, .string pv] 68)).drew) (k4.1 x hx) hgrow6 (fun g h9 h7 => own_ne (k4.1 x hx) (HO.out.alloc _) (by decide) g h9 h7), k4.2⟩
            rw [cellsP_append]
            exact hown6
          obtain ⟨e6, f6⟩ := K6.out.1 1 _ rfl
          clear hown6 hgrow6 hloc6 hl6 D5 hrow AL5
          refine hK _ _ trivial (fun hHeld => ?_)
          clear hK K
          refine tkA (i := 8) (v := .pointer (some ⟨M + 1, 0, none⟩)) ?_ hHeld ?_
          · intro w9 hSw
            go_simp
          simp only [Act.put, List.setIfInBounds_toArray, List.set_cons_zero, List.set_cons_succ]
          refine tkA (i := 9) (v := .pointer (some ⟨M + 1, 1, none⟩)) ?_ hHeld ?_
          · intro w9 hSw
            go_simp
          simp only [Act.put, List.setIfInBounds_toArray, List.set_cons_zero, List.set_cons_succ]
          refine wpAnyH_ready (rs := [10]) (by kernel_rfl) (by simp) ?_
          refine AllReadyH.cons rfl (fun K hK => ?_) AllReadyH.nil
          go_simp
          refine hK _ _ trivial (fun hHeld => ?_)
          clear hK K
          refine wpAnyH_done (by kernel_rfl) ?_ _
          refine NoPanic.normal ?_
          clear hHeld
          have B7 : Hid (Below M w (w6.setCell ⟨M + 1, 1, none⟩ (.slice a6 (la + 1) c6))) := B6.out.setCell (by show M ≤ M + 1; omega) _
          have HST : Hid (∀ S', T = some S' → StAt (w6.setCell ⟨M + 1, 1, none⟩ (.slice a6 (la + 1) c6)) M a n c nx u S' (k + 1)) := fun S' h9 => by
            rw [HTA.out] at h9
            cases h9
            obtain ⟨k1, ⟨cl, k2⟩, k3, k4⟩ := K6.out
            refine ⟨.slice a6 (la + 1) c6, X, ⟨k1.set 1 _, ⟨cl, k2.setCell _ _ (by show M ≠ M + 1; omega)⟩, ?_, fun x hx => own_setLow (k4.1 x hx) (by show M + 1 < M + 2; omega) _, k4.2⟩, HV.out.1, HV.out.2.1, fun f hf => by have := HV.out.2.2.1 f hf; omega, ?_⟩
            · have h7 : (S.aside ++ [(pk, pv)]).length = la + 1 := by rw [List.length_append, HLA.out]; rfl
              show World.ownsRow _ _ _ _ _ (S.aside ++ [(pk, pv)]).length _
              rw [h7]
              exact own_setLow k3 (by show M + 1 < M + 2; omega) _
            · show (S.aside ++ [(pk, pv)]).length ≤ k + 1
              rw [List.length_append]
              have := HV.out.2.2.2
              simp; omega
          clear e6 f6
          go_wp2_with fail
          go_ret
          exact ⟨ret_bool HBT.out, HST.out, B7.out⟩
/-- A range over folders under way. -/
def RangeX (w : World) (M r : Nat) (X : List FX) (seen : Array Nat) : Prop :=
  ∃ clock, MapIs w M clock X ∧ w.heap[r]? = some (.mapIter (some M) clock seen clock)
theorem RangeX.later {w w' : World} {M r : Nat} {X : List FX} {seen : Array Nat} (h : RangeX w M r X seen) (hb : Below w.heap.size w w') : RangeX w' M r X seen := by
  obtain ⟨c, h1, h2⟩ := h
  exact ⟨c, h1.later hb, (hb.block r (Array.getElem?_eq_some_iff.1 h2).1).trans h2⟩
theorem RangeX.left {w : World} {M r : Nat} {X : List FX} {seen : Array Nat} (h : RangeX w M r X seen) : w.rangeLeft M r = (leftOf (X.map entX).toArray seen).size := by
  obtain ⟨c, h1, h2⟩ := h
  simp only [World.rangeLeft, h1.1, h2]
section
variable {P : Program} (w : World) {ops : Array Oper} {rest : List Oper} {o : Oper} {a : Act} {Q : Exit → Act → World → Prop}
theorem wpList_rangeX (hg : o.guard = none) (m : Operand) (t : TypeId) (hop : o.op = Op.range t m) {k e : TypeId} (ht : P.underlying t = some (.map k e)) (M : Nat) (X : List FX) (hm : a.eval m = .map (some M)) (h : ∃ clock, MapIs w M clock X)
    (hK : ∀ w', RangeX w' M w.heap.size X #[] → Below w.heap.size w w' → w'.heap.size = w.heap.size + 1 → wpList P ops Q rest (a.put o.dst (.pointer (some ⟨w.heap.size, 0, none⟩))) w') :
    wpList P ops Q (o :: rest) a w := by
  refine wpList_plain hg fun K' hK' => ?_
  obtain ⟨clock, h1⟩ := h
  have hrun := run_range_map w t k e M (X.map entX).toArray clock ht h1.1
  have hb : Below w.heap.size w (w.alloc (.mapIter (some M) clock #[] clock)) := (Below.refl _ _).alloc (Nat.le_refl _) _
  unfold Oper.wp
  simp [execOp, hop, hm, hrun, Result.andThen]
  exact hK' _ _ (hK _ ⟨clock, h1.later hb, heap_alloc_new w _⟩ hb (by simp))
theorem wpList_nextX (hg : o.guard = none) (it : Operand) (hop : o.op = Op.next it false) (M r : Nat) (X : List FX) (seen : Array Nat) (hMr : M < r) (hit : a.eval it = .pointer (some ⟨r, 0, none⟩)) (h : RangeX w M r X seen)
    (hsl : ∀ x ∈ X, ∃ (ax : Option Addr) (cx : Nat), x.v = .slice ax x.mails.length cx)
    (hDone : Hid (∀ x ∈ X, seen.contains x.born = true) → wpList P ops Q rest (a.put o.dst (.tuple #[.bool false])) w)
    (hMore : ∀ x ∈ X, Hid (seen.contains x.born = false) → ∀ (ax : Option Addr) (cx : Nat), x.v = .slice ax x.mails.length cx → ∀ w', RangeX w' M r X (seen.push x.born) → w'.rangeLeft M r < w.rangeLeft M r → Below r w w' → w'.heap.size = w.heap.size →
      (Instr.entry (.pointer (some ⟨r, 0, none⟩))).run P w' = .ok (.tuple #[.string x.k, .agg #[.string x.name, .int .i64 x.val, .int .i64 x.next, .slice ax x.mails.length cx]]) w' → wpList P ops Q rest (a.put o.dst (.tuple #[.bool true, .string x.k, .agg #[.string x.name, .int .i64 x.val, .int .i64 x.next, .slice ax x.mails.length cx]])) w') :
    wpList P ops Q (o :: rest) a w := by
  refine wpList_plain hg fun K' hK' => ?_
  have hleft := h.left
  obtain ⟨clock, h1, h2⟩ := h
  have hold : ∀ x ∈ (X.map entX).toArray.toList, x.born < clock := fun e he => by
    obtain ⟨x, hx, rfl⟩ := List.mem_map.1 (by simpa using he)
    exact h1.2.1 x hx
  unfold Oper.wp
  rcases run_next_at (P := P) w o.type r M clock clock seen (X.map entX).toArray clock h2 h1.1 hold (Nat.le_refl _) with ⟨h0, hrun⟩ | ⟨e, he, w1, hal, hrun⟩
  · simp [execOp, hop, hit, hrun, Result.andThen]
    exact hK' _ _ (hDone fun x hx => all_seen _ seen h0 (entX x) (by simpa using ⟨x, hx, rfl⟩))
  · have hsh := left_shrinks _ seen e he
    obtain ⟨hem, hes⟩ := mem_left he
    obtain ⟨x, hx, rfl⟩ := List.mem_map.1 (by simpa using hem : e ∈ X.map entX)
    obtain ⟨ax, cx, hv⟩ := hsl x hx
    have hval : (entX x).val = .agg #[.string x.name, .int .i64 x.val, .int .i64 x.next, .slice ax x.mails.length cx] := by
      show valX x = _
      unfold valX
      rw [hv]
    have hr1 : r < w1.heap.size := by
      have h9 := (Array.getElem?_eq_some_iff.1 h2).1
      rcases hal with rfl | rfl <;> exact h9
    have hbw : Below r w w1 := by
      rcases hal with rfl | rfl
      · exact Below.refl _ _
      · exact (Below.refl _ _).drew
    have hb1 : w1.heap[M]? = some (.map (X.map entX).toArray clock) := (hbw.block M hMr).trans h1.1
    have hb' : (setBlock w1 r (.mapIter (some M) clock (seen.push (entX x).born) clock)).heap[M]? = some (.map (X.map entX).toArray clock) := (sb_block _ _ _ _ (by omega)).trans hb1
    have hr' : (setBlock w1 r (.mapIter (some M) clock (seen.push (entX x).born) clock)).heap[r]? = some (.mapIter (some M) clock (seen.push (entX x).born) clock) := sb_same _ _ _ hr1
    have hen := run_entry_at (P := P) _ r M clock seen (X.map entX).toArray clock (entX x) hr' hb' hem (by
      have h9 := h1.2.2
      have h7 : ((X.map entX).toArray.toList.map (·.born)) = X.map (·.born) := by simp [entX, Function.comp_def]
      rw [h7]
      exact h9)
    have hR : RangeX (setBlock w1 r (.mapIter (some M) clock (seen.push (entX x).born) clock)) M r X (seen.push x.born) := ⟨clock, ⟨hb', h1.2⟩, hr'⟩
    rw [hval] at hrun hen
    simp [execOp, hop, hit, hrun, Result.andThen]
    exact hK' _ _ (hMore x hx hes ax cx hv _ hR (by rw [hR.left, hleft]; exact hsh) (hbw.trans (sb_below _ r _)) (by
      have h9 : (setBlock w1 r (.mapIter (some M) clock (seen.push (entX x).born) clock)).heap.size = w1.heap.size := by simp [setBlock]
      rw [h9]
      rcases hal with rfl | rfl <;> rfl) hen)
end
/-- The mails of those folders that are still to come. -/
def leftSum (seen : Array Nat) : List FX → Nat
  | [] => 0
  | x :: X => (if seen.contains x.born = true then 0 else x.mails.length) + leftSum seen X
theorem leftSum_other {seen : Array Nat} {b : Nat} : ∀ {X : List FX}, (∀ x ∈ X, x.born ≠ b) → leftSum (seen.push b) X = leftSum seen X
  | [], _ => rfl
  | x :: X, h => by
    unfold leftSum
    have h1 : (x.born == b) = false := beq_eq_false_iff_ne.2 (h x List.mem_cons_self)
    rw [contains_push, h1, Bool.or_false, leftSum_other fun y hy => h y (List.mem_cons_of_mem _ hy)]
theorem leftSum_push {seen : Array Nat} {x : FX} : ∀ {X : List FX}, (X.map (·.born)).Nodup → x ∈ X → seen.contains x.born = false → leftSum seen X = x.mails.length + leftSum (seen.push x.born) X
  | [], _, h, _ => by cases h
  | y :: X, hn, hx, hs => by
    rw [List.map_cons, List.nodup_cons] at hn
    unfold leftSum
    by_cases hb : y.born = x.born
    · have hno : ∀ z ∈ X, z.born ≠ x.born := fun z hz e => hn.1 (List.mem_map.2 ⟨z, hz, by rw [e, hb]⟩)
      rcases List.mem_cons.1 hx with rfl | hx
      · rw [leftSum_other hno, contains_push, hs]
        simp
      · exact absurd rfl (hno x hx)
    · have h1 : (y.born == x.born) = false := beq_eq_false_iff_ne.2 hb
      rcases List.mem_cons.1 hx with rfl | hx
      · exact absurd rfl hb
      · rw [contains_push, h1, Bool.or_false, leftSum_push hn.2 hx hs]
        omega
theorem leftSum_end {seen : Array Nat} : ∀ {X : List FX}, (∀ x ∈ X, seen.contains x.born = true) → leftSum seen X = 0
  | [], _ => rfl
  | x :: X, h => by
    unfold leftSum
    rw [if_pos (h x List.mem_cons_self), leftSum_end fun y hy => h y (List.mem_cons_of_mem _ hy)]
/-- How many mails lie in folders. -/
def sumF : List FM → Nat
  | [] => 0
  | f :: fs => f.mails.length + sumF fs
theorem sum_view {u : ByteArray} : ∀ {X : List FX} {fs : List FM}, View u X fs → leftSum #[] X = sumF fs
  | [], [], _ => rfl
  | [], _ :: _, h => by cases h
  | _ :: _, [], h => by cases h
  | x :: X, f :: fs, h => by
    unfold View at h
    simp only [List.map_cons, List.cons.injEq, Prod.mk.injEq] at h
    obtain ⟨⟨_, h2⟩, h3⟩ := h
    have ih := sum_view (u := u) (X := X) (fs := fs) h3
    unfold leftSum sumF
    rw [ih, ← h2]
    simp
set_option maxHeartbeats 1000000 in
theorem mailsI (w : World) (M : Nat) (D : DK) (hD : DeskAt w M D) (t : Nat) (ht : leftSum #[] D.X = t) (ht2 : t ≤ 1048576) : Calls Tryz.prog 116 #[.pointer (some ⟨M + 1, 0, none⟩)] w fun e w' => e = .returned (.int .i64 (t : Int)) ∧ Below w.heap.size w w' := by
  obtain ⟨e5, _⟩ := hD.1 5 _ rfl
  have hM : M < w.heap.size := by have h9 : M + 1 < w.heap.size := World.block_lt_of_cell? _ _ e5; omega
  have HM : Hid (∃ clock, MapIs w M clock D.X) := hD.2.1
  have HSL : Hid (∀ x ∈ D.X, ∃ (ax : Option Addr) (cx : Nat), x.v = .slice ax x.mails.length cx) := fun x hx => by
    obtain ⟨ax, cx, h1, _, _⟩ := own_src (hD.2.2.2.1 x hx)
    exact ⟨ax, cx, h1⟩
  have HN : Hid ((D.X.map (·.born)).Nodup) := by obtain ⟨_, h9⟩ := hD.2.1; exact h9.2.2
  have HT : Hid (leftSum #[] D.X = t) := ht
  clear hD ht
  go_enter Tryz.func116, Tryz.ntmps116
  go_wp2_with (first
    | (at_range; refine wpList_rangeX _ rfl _ 86 rfl Tryz.underlying86 M D.X rfl HM.out ?_; intro w0 hrg0 hb0 hs0)
    | go_in)
  go_frame
  go_loopw [3] (fun v wr => ∃ (seen : Array Nat) (n : Nat), v = .int .i64 (n : Int) ∧ n ≤ t ∧ Hid (RangeX wr M w.heap.size D.X seen) ∧ Hid (n + leftSum seen D.X = t) ∧ Hid (Below w.heap.size w wr) ∧ Hid (w.heap.size < wr.heap.size)) (fun _ wr => wr.rangeLeft M w.heap.size)
  case atStart => exact ⟨#[], 0, rfl, Nat.zero_le _, hrg0, by show 0 + _ = t; rw [Nat.zero_add]; exact HT.out, hb0, by show _ < _; omega⟩
  case round =>
    obtain ⟨seen, n, rfl, hn, hrg, hsum, hbw, hlt⟩ := hrel
    go_wp2_with (first
      | (at_next; refine wpList_nextX _ rfl _ rfl M w.heap.size D.X seen hM rfl hrg.out HSL.out ?_ ?_)
      | go_in)
    · intro hall
      have hz := leftSum_end (fun x hx => by simpa using hall.out x hx)
      obtain rfl : n = t := by have h9 := hsum.out; omega
      go_wp2
      go_ret
      exact ⟨rfl, hbw.out⟩
    · intro x hx hsx ax cx hv w1 hrg1 hlt1 hb1 hs1 hen
      have hpush := leftSum_push HN.out hx (by simpa using hsx.out)
      obtain ⟨ml, hml⟩ : ∃ k, x.mails.length = k := ⟨_, rfl⟩
      rw [hml] at hpush hen ⊢
      have hbd : n + ml ≤ t := by have h9 := hsum.out; omega
      have HS2 : Hid ((n + ml) + leftSum (seen.push x.born) D.X = t) := by have h9 := hsum.out; show _ = _; omega
      have HR1 : Hid (RangeX w1 M w.heap.size D.X (seen.push x.born)) := hrg1
      have HB1 : Hid (Below w.heap.size w w1) := hbw.out.trans hb1
      have HL1 : Hid (w.heap.size < w1.heap.size) := by have h9 := hlt.out; show _ < _; omega
      have HLT : Hid (w1.rangeLeft M w.heap.size < wr.rangeLeft M w.heap.size) := hlt1
      clear hpush hsum hrg1 hb1 hbw hlt hml hlt1 hs1
      go_wp2_with fail
      go_roundw
      case rel => exact ⟨_, n + ml, by simp, hbd, HR1.out.later ((Below.refl _ _).alloc (Nat.le_refl _) _), HS2.out, HB1.out.alloc HB1.out.size _, by have h9 := HL1.out; show _ < (w1.alloc _).heap.size; simp; omega⟩
      case measure => rw [(HR1.out.later ((Below.refl _ _).alloc (Nat.le_refl _) _)).left, ← HR1.out.left]; exact HLT.out
end Go.Proofs.YthgbclipknfmjaaGreatDoor
