/-
  Tkt in one. By an AI agent.
-/
import Derived.Test.YthgbclipknfmjaaGreatDoorFr08
namespace Go.Proofs.YthgbclipknfmjaaGreatDoor
open Go.ChangeShapes Go.WideShapes Go.ChangeAt Go.RowKit Go.Deep Go.Lib
open Go.ChangeMaps (setBlock)
set_option linter.unusedVariables false
set_option linter.unusedSimpArgs false
set_option maxRecDepth 100000

def mtB (u : ByteArray) : List (List UInt8) → Bool
  | _ :: gb :: _ => decide (bs gb = u)
  | _ => false
theorem takeP_not {nx : Int} {u : ByteArray} {S : SM} {p : PM} {ga gb : List UInt8} {r : List (List UInt8)} (h : bs gb ≠ u) : takeP nx u S p (ga :: gb :: r) = asideM S p := by
  match r with
  | [] => exact if_neg fun h9 => h h9.1
  | [_] => exact if_neg fun h9 => h h9.1
  | [_, _] => exact if_neg fun h9 => h h9.1
  | _ :: _ :: _ :: _ => rfl
theorem two_of {α : Type} {r : List α} (h : r.length = 2) : ∃ a b, r = [a, b] := by
  match r, h with
  | [a, b], _ => exact ⟨a, b, rfl⟩
set_option maxHeartbeats 8000000 in
theorem takeI (pk pv : ByteArray) (w : World) (M : Nat) (a : Option Addr) (n c : Nat) (nx : Int) (u : ByteArray) (S : SM) (k : Nat) (hS : StAt w M a n c nx u S k) (hk : k ≤ 100) (hg : Gl w) (h8 : 8 ≤ M) (hpk : pk.size ≤ 30) (hpv : pv.size ≤ 90) (hu : u.size ≤ 1000) (hnx : 1 ≤ nx ∧ nx ≤ 10000) (bb : Bool) (HB : Hid ((takeM nx u S (pk, pv)).isSome = bb)) :
    Calls Tryz.prog 115 #[.pointer (some ⟨M + 1, 0, none⟩), .agg #[.string pk, .string pv]] w fun e w' => e = .returned (.bool bb) ∧ (∀ S', takeM nx u S (pk, pv) = some S' → StAt w' M a n c nx u S' (k + 1)) ∧ Below M w w' := by
  obtain ⟨va, X, hD, hV, hN, hF, hA⟩ := hS
  have HV : Hid (View u X S.fs ∧ (S.fs.map (·.name)).Nodup ∧ (∀ f ∈ S.fs, 1 ≤ f.next ∧ f.next ≤ 999 ∧ f.mails.length ≤ k) ∧ S.aside.length ≤ k) := ⟨hV, hN, hF, hA⟩
  have HFO : Hid (FsOK S.fs) := ⟨hN, fun f hf => by have := hF f hf; omega⟩
  have hM1 : M + 1 < w.heap.size := World.block_lt_of_cell? _ _ (hD.1 0 _ rfl).1
  have HG : Hid (Gl w) := hg
  obtain ⟨T, hT⟩ : ∃ T, takeM nx u S (pk, pv) = T := ⟨_, rfl⟩
  rw [hT] at HB ⊢
  obtain ⟨G, hG⟩ : ∃ G, splitL 47 pk.data.toList = G := ⟨_, rfl⟩
  have HTG : Hid (T = takeP nx u S (pk, pv) G) := by show _ = _; rw [← hT, ← hG]; rfl
  have HGZ : Hid (∀ p ∈ G, p.length ≤ 90) := fun p hp => by
    rw [← hG] at hp
    have h9 := split_sizes 47 _ p hp
    rw [bytes_len] at h9
    omega
  have A0 : Below w.heap.size w (w.alloc (.cells #[.string pk, .string pv] 68)) := (Below.refl _ _).alloc (Nat.le_refl _) _
  have D0 := hD.later A0
  have X0 : Box (w.alloc (.cells #[.string pk, .string pv] 68)) w.heap.size [.string pk, .string pv] := Box.new rfl
  have CS := splitI pk (w.alloc (.cells #[.string pk, .string pv] 68)) (by omega) (hg.below h8 (A0.mono (by omega)))
  rw [hG] at CS
  obtain ⟨m, hm⟩ : ∃ m, G.length = m := ⟨_, rfl⟩
  rw [hm] at CS
  have HM : Hid (G.length = m) := hm
  have HG0 : Hid (G ≠ []) := by show _ ≠ _; rw [← hG]; exact splitL_ne 47 _
  obtain ⟨qb, hqb⟩ : ∃ q, (w.alloc (.cells #[.string pk, .string pv] 68)).heap.size = q := ⟨_, rfl⟩
  have hqb2 : qb = w.heap.size + 1 := by rw [← hqb]; simp
  clear hT hG hm hg hV hN hF hA
  go_enter Tryz.func115, Tryz.ntmps115
  go_wp2_with fail
  refine CS.mono ?_
  rintro e w1 ⟨rfl, hsrc, hb1⟩
  rw [hqb] at hsrc ⊢
  have D1 : Hid (DeskAt w1 M ⟨a, n, c, va, S.aside, nx, u, S.word, X⟩) := D0.later hb1
  have X1 : Hid (Box w1 w.heap.size [.string pk, .string pv]) := X0.below hb1
  have B1 : Hid (Below w.heap.size w w1) := A0.trans (hb1.mono A0.size)
  have HS1 : Hid (Src w1 (some ⟨qb, 0, none⟩) (cellsS (G.map bs))) := hsrc
  clear hsrc hb1 D0 X0 A0 CS hqb hqb2 hD
  obtain ⟨mt, hmt⟩ : ∃ b : Bool, mtB u G = b := ⟨_, rfl⟩
  have HMT : Hid (mtB u G = mt) := hmt
  clear hmt
  go_upto_region 2 with fail
  go_cut [5, 21] from 9 to 20 (fun ps cv wx => ps = .slice (some ⟨qb, 0, none⟩) m m ∧ cv = .bool mt ∧ Hid (Below w1.heap.size w1 wx))
  case first =>
    obtain ⟨u3, _⟩ := D1.out.1 3 _ rfl
    by_cases h1 : m = 1
    · have h1i : ¬ (1 : Int) < (m : Int) := by omega
      obtain rfl : false = mt := by
        have h9 := HMT.out
        have h7 := HM.out
        rw [h1] at h7
        match G, h7, h9 with
        | [_], _, h9 => exact h9
      clear h1
      refine wp_region_noPanic ?_
      refine wp_region_held_drew (S := fun w' => True) (by kernel_rfl) trivial (fun hHeld => ?_)
      refine tkA (i := 0) (v := .slice (some ⟨qb, 0, none⟩) m m) ?_ hHeld ?_
      · intro w9 hSw
        go_simp
      simp only [Act.put, List.setIfInBounds_toArray, List.set_cons_zero, List.set_cons_succ]
      refine tkA (i := 1) (v := .int .i64 (m : Int)) ?_ hHeld ?_
      · intro w9 hSw
        go_simp
      simp only [Act.put, List.setIfInBounds_toArray, List.set_cons_zero, List.set_cons_succ]
      refine tkA (i := 2) (v := .bool false) ?_ hHeld ?_
      · intro w9 hSw
        go_simp
      simp only [Act.put, List.setIfInBounds_toArray, List.set_cons_zero, List.set_cons_succ]
      refine tkA (i := 3) (v := .bool false) ?_ hHeld ?_
      · intro w9 hSw
        go_simp
      simp only [Act.put, List.setIfInBounds_toArray, List.set_cons_zero, List.set_cons_succ]
      refine skA (i := 4) hHeld ?_
      simp only [Act.put, List.setIfInBounds_toArray, List.set_cons_zero, List.set_cons_succ]
      refine skA (i := 5) hHeld ?_
      simp only [Act.put, List.setIfInBounds_toArray, List.set_cons_zero, List.set_cons_succ]
      refine skA (i := 6) hHeld ?_
      simp only [Act.put, List.setIfInBounds_toArray, List.set_cons_zero, List.set_cons_succ]
      refine skA (i := 7) hHeld ?_
      simp only [Act.put, List.setIfInBounds_toArray, List.set_cons_zero, List.set_cons_succ]
      refine skA (i := 8) hHeld ?_
      simp only [Act.put, List.setIfInBounds_toArray, List.set_cons_zero, List.set_cons_succ]
      refine skA (i := 9) hHeld ?_
      simp only [Act.put, List.setIfInBounds_toArray, List.set_cons_zero, List.set_cons_succ]
      refine skA (i := 10) hHeld ?_
      simp only [Act.put, List.setIfInBounds_toArray, List.set_cons_zero, List.set_cons_succ]
      refine skA (i := 11) hHeld ?_
      simp only [Act.put, List.setIfInBounds_toArray, List.set_cons_zero, List.set_cons_succ]
      refine wpAnyH_ready (rs := [12]) (by kernel_rfl) (by simp) ?_
      refine AllReadyH.cons rfl (fun K hK => ?_) AllReadyH.nil
      go_simp
      refine hK _ _ trivial (fun hHeld => ?_)
      clear hK K
      refine wpAnyH_done (by kernel_rfl) ?_ _
      refine NoPanic.normal ?_
      clear hHeld
      go_wp2_with fail
      go_meet
      exact ⟨rfl, rfl, (Below.refl _ _).drew⟩
    · obtain ⟨ga, gb, r, hgr⟩ : ∃ ga gb r, G = ga :: gb :: r := by
        have h9 := HM.out
        have h0 := HG0.out
        match G, h9, h0 with
        | [], _, h0 => exact absurd rfl h0
        | [_], h9, _ => exact absurd h9.symm h1
        | ga :: gb :: r, _, _ => exact ⟨ga, gb, r, rfl⟩
      have hm2 : 2 ≤ m := by rw [← HM.out, hgr]; simp
      have h1i : (1 : Int) < (m : Int) := by omega
      obtain ⟨b9, o9, t1, eb, c1, hy1⟩ := srcS HS1.out (i := 1) (by rw [List.length_map, HM.out]; omega)
      cases eb
      rw [Nat.zero_add] at c1
      have hyb : bs gb = t1 := by rw [← hy1.out, hgr]; rfl
      have hmt2 : (t1.toList == u.toList) = mt := by
        rw [← HMT.out, hgr, ← hyb]
        show _ = decide (bs gb = u)
        rw [Bool.eq_iff_iff, beq_iff_eq, decide_eq_true_eq]
        exact ⟨toList_inj, fun h9 => by rw [h9]⟩
      clear hyb hy1 hgr
      refine wp_region_noPanic ?_
      refine wp_region_held_drew (S := fun w' => w'.cell? ⟨qb, 1, none⟩ = some (.string t1) ∧ w'.cell? ⟨M + 1, 3, none⟩ = some (.string u)) (by kernel_rfl) ⟨c1, u3⟩ (fun hHeld => ?_)
      refine tkA (i := 0) (v := .slice (some ⟨qb, 0, none⟩) m m) ?_ hHeld ?_
      · intro w9 hSw
        obtain ⟨z0, z1⟩ := hSw
        go_simp
      simp only [Act.put, List.setIfInBounds_toArray, List.set_cons_zero, List.set_cons_succ]
      refine tkA (i := 1) (v := .int .i64 (m : Int)) ?_ hHeld ?_
      · intro w9 hSw
        obtain ⟨z0, z1⟩ := hSw
        go_simp
      simp only [Act.put, List.setIfInBounds_toArray, List.set_cons_zero, List.set_cons_succ]
      refine tkA (i := 2) (v := .bool true) ?_ hHeld ?_
      · intro w9 hSw
        obtain ⟨z0, z1⟩ := hSw
        go_simp
      simp only [Act.put, List.setIfInBounds_toArray, List.set_cons_zero, List.set_cons_succ]
      refine tkA (i := 3) (v := .bool true) ?_ hHeld ?_
      · intro w9 hSw
        obtain ⟨z0, z1⟩ := hSw
        go_simp
      simp only [Act.put, List.setIfInBounds_toArray, List.set_cons_zero, List.set_cons_succ]
      refine tkA (i := 4) (v := .slice (some ⟨qb, 0, none⟩) m m) ?_ hHeld ?_
      · intro w9 hSw
        obtain ⟨z0, z1⟩ := hSw
        go_simp
      simp only [Act.put, List.setIfInBounds_toArray, List.set_cons_zero, List.set_cons_succ]
      refine tkA (i := 5) (v := .pointer (some ⟨qb, 1, none⟩)) ?_ hHeld ?_
      · intro w9 hSw
        obtain ⟨z0, z1⟩ := hSw
        go_simp
      simp only [Act.put, List.setIfInBounds_toArray, List.set_cons_zero, List.set_cons_succ]
      refine tkA (i := 6) (v := .string t1) ?_ hHeld ?_
      · intro w9 hSw
        obtain ⟨z0, z1⟩ := hSw
        go_simp
      simp only [Act.put, List.setIfInBounds_toArray, List.set_cons_zero, List.set_cons_succ]
      refine tkA (i := 7) (v := .pointer (some ⟨M + 1, 0, none⟩)) ?_ hHeld ?_
      · intro w9 hSw
        obtain ⟨z0, z1⟩ := hSw
        go_simp
      simp only [Act.put, List.setIfInBounds_toArray, List.set_cons_zero, List.set_cons_succ]
      refine tkA (i := 8) (v := .pointer (some ⟨M + 1, 0, none⟩)) ?_ hHeld ?_
      · intro w9 hSw
        obtain ⟨z0, z1⟩ := hSw
        go_simp
      simp only [Act.put, List.setIfInBounds_toArray, List.set_cons_zero, List.set_cons_succ]
      refine tkA (i := 9) (v := .pointer (some ⟨M + 1, 3, none⟩)) ?_ hHeld ?_
      · intro w9 hSw
        obtain ⟨z0, z1⟩ := hSw
        go_simp
      simp only [Act.put, List.setIfInBounds_toArray, List.set_cons_zero, List.set_cons_succ]
      refine tkA (i := 10) (v := .string u) ?_ hHeld ?_
      · intro w9 hSw
        obtain ⟨z0, z1⟩ := hSw
        go_simp
      simp only [Act.put, List.setIfInBounds_toArray, List.set_cons_zero, List.set_cons_succ]
      refine tkA (i := 11) (v := .bool mt) ?_ hHeld ?_
      · intro w9 hSw
        obtain ⟨z0, z1⟩ := hSw
        go_simp
      simp only [Act.put, List.setIfInBounds_toArray, List.set_cons_zero, List.set_cons_succ]
      refine wpAnyH_ready (rs := [12]) (by kernel_rfl) (by simp) ?_
      refine AllReadyH.cons rfl (fun K hK => ?_) AllReadyH.nil
      go_simp
      refine hK _ _ ⟨c1, u3⟩ (fun hHeld => ?_)
      clear hK K
      refine wpAnyH_done (by kernel_rfl) ?_ _
      refine NoPanic.normal ?_
      clear hHeld
      go_wp2_with fail
      go_meet
      exact ⟨rfl, rfl, (Below.refl _ _).drew⟩
  case rest =>
    obtain ⟨rfl, rfl, hbc⟩ := hcut
    have D2 : Hid (DeskAt wc M ⟨a, n, c, va, S.aside, nx, u, S.word, X⟩) := D1.out.later hbc.out
    have X2 : Hid (Box wc w.heap.size [.string pk, .string pv]) := X1.out.below hbc.out
    have B2 : Hid (Below w.heap.size w wc) := B1.out.trans (hbc.out.mono B1.out.size)
    have HS2 : Hid (Src wc (some ⟨qb, 0, none⟩) (cellsS (G.map bs))) := HS1.out.below hbc.out
    have ZW : Hid (w.heap.size < wc.heap.size) := World.block_lt_of_cell? _ _ (X2.out 0 _ rfl).1
    clear D1 X1 B1 HS1 hbc
    go_upto_if 21 with fail
    go_cut [5] from 22 to 85 (fun ps wx => ps = .slice (some ⟨qb, 0, none⟩) m m ∧ Hid (Below wc.heap.size wc wx) ∧ Hid (T = asideM S (pk, pv)))
    case first =>
      cases mt with
      | false =>
        have HTA : Hid (T = asideM S (pk, pv)) := by
          show _ = _
          rw [HTG.out]
          have h9 := HMT.out
          match G, h9 with
          | [], _ => rfl
          | [_], _ => rfl
          | ga :: gb :: r, h9 => exact takeP_not (of_decide_eq_false h9)
        go_wp2_with fail
        go_meet
        exact ⟨rfl, Below.refl _ _, HTA.out⟩
      | true =>
        obtain ⟨ga, gb, r, hgr, hgb⟩ : ∃ ga gb r, G = ga :: gb :: r ∧ bs gb = u := by
          have h9 := HMT.out
          match G, h9 with
          | ga :: gb :: r, h9 => exact ⟨ga, gb, r, rfl, of_decide_eq_true h9⟩
        subst hgr
        have hm2 : 2 ≤ m := by rw [← HM.out]; simp
        obtain ⟨b9, o9, t0, eb, c0, hy0⟩ := srcS HS2.out (i := 0) (by simp)
        cases eb
        rw [Nat.zero_add] at c0
        have hya : bs ga = t0 := hy0.out
        clear hy0 HMT HG0
        obtain ⟨p0, _⟩ := X2.out 0 _ rfl
        obtain ⟨p1, _⟩ := X2.out 1 _ rfl
        have hm0i : (0 : Int) < (m : Int) := by omega
        have hlist : ∀ z : UInt8, (ga = [z] ↔ t0.toList = [z]) := fun z => by
          rw [← hya, ByteArray.toList_eq]
          exact Iff.rfl
        have KU : ∀ z : UInt8, (t0.toList == [z]) = decide (ga = [z]) := fun z => by
          rw [Bool.eq_iff_iff, beq_iff_eq, decide_eq_true_eq]
          exact (hlist z).symm
        have k117 := KU 117
        have k102 := KU 102
        have k109 := KU 109
        by_cases c117 : ga = [117] ∧ r = []
        · obtain ⟨rfl, rfl⟩ := c117
          obtain rfl : 2 = m := HM.out
          rw [decide_eq_true rfl] at k117
          have ht0 : t0.toList = [117] := (hlist 117).1 rfl
          have HTU : Hid (T = userM u S pv) := by show _ = _; rw [HTG.out]; exact if_pos ⟨hgb, rfl⟩
          obtain ⟨s1, hs1⟩ : ∃ b, shortB u = b := ⟨_, rfl⟩
          obtain ⟨s2, hs2⟩ : ∃ b, shortB pv = b := ⟨_, rfl⟩
          have HBB : Hid ((s1 && s2) = bb) := by
            show _ = _
            rw [← HB.out, HTU.out]
            unfold userM
            rw [hs1, hs2]
            cases s1 <;> cases s2 <;> rfl
          have BX := D2.out.1
          obtain ⟨d3', f3'⟩ := BX 3 _ rfl
          obtain ⟨d4, f4⟩ := BX 4 _ rfl
          have BX2 := BX.set 4 (.string pv)
          obtain ⟨g3, _⟩ := BX2 3 _ rfl
          obtain ⟨g4, _⟩ := BX2 4 _ rfl
          have DW : Hid (DeskAt (wc.setCell ⟨M + 1, 4, none⟩ (.string pv)) M ⟨a, n, c, va, S.aside, nx, u, pv, X⟩) := by
            obtain ⟨_, ⟨cl, k2⟩, k3, k4⟩ := D2.out
            exact ⟨BX2, ⟨cl, k2.setCell _ _ (by show M ≠ M + 1; omega)⟩, own_setLow k3 (by show M + 1 < M + 2; omega) _, fun x hx => own_setLow (k4.1 x hx) (by show M + 1 < M + 2; omega) _, k4.2⟩
          have BW : Hid (Below M w (wc.setCell ⟨M + 1, 4, none⟩ (.string pv))) := (B2.out.mono (by omega)).setCell (by show M ≤ M + 1; omega) _
          have HST : Hid (∀ S', T = some S' → StAt (wc.setCell ⟨M + 1, 4, none⟩ (.string pv)) M a n c nx u S' (k + 1)) := fun S' h9 => by
            rw [HTU.out] at h9
            unfold userM at h9
            split at h9
            · cases h9
              exact ⟨va, X, DW.out, HV.out.1, HV.out.2.1, fun f hf => by have := HV.out.2.2.1 f hf; omega, by have := HV.out.2.2.2; show S.aside.length ≤ k + 1; omega⟩
            · cases h9
          clear BX BX2 k102 k109 KU hlist
          cases s1 with
          | false =>
            go_wp2_with fail
            refine (shortIs false u _ hs1 (by unfold maxLen; omega)).mono ?_
            rintro e w5 ⟨rfl, hw5⟩
            obtain rfl := hw5
            go_wp2_with fail
            go_ret
            exact ⟨ret_bool HBB.out, HST.out, BW.out⟩
          | true =>
            go_wp2_with fail
            refine (shortIs true u _ hs1 (by unfold maxLen; omega)).mono ?_
            rintro e w5 ⟨rfl, hw5⟩
            obtain rfl := hw5
            go_wp2_with fail
            refine (shortIs s2 pv _ hs2 (by unfold maxLen; omega)).mono ?_
            rintro e w6 ⟨rfl, hw6⟩
            obtain rfl := hw6
            cases s2 <;> (go_wp2_with fail; go_ret; exact ⟨ret_bool HBB.out, HST.out, BW.out⟩)
        by_cases c102 : ga = [102] ∧ ∃ gc, r = [gc]
        · obtain ⟨rfl, gc, rfl⟩ := c102
          obtain rfl : 3 = m := HM.out
          rw [decide_eq_true rfl] at k102
          rw [decide_eq_false (by decide)] at k117
          obtain ⟨b9, o9, t2, eb, c2, hy2⟩ := srcS HS2.out (i := 2) (by simp)
          cases eb
          rw [Nat.zero_add] at c2
          have hyc : bs gc = t2 := hy2.out
          have HTF : Hid (T = putM S (folderM nx t2 pv)) := by show _ = _; rw [HTG.out, ← hyc]; exact if_pos ⟨hgb, rfl⟩
          have hgc : gc.length ≤ 90 := HGZ.out gc (by simp)
          have ht2 : t2.size ≤ 1000 := by rw [← hyc]; show gc.toArray.size ≤ 1000; simp; omega
          have HBF : Hid ((folderM nx t2 pv).isSome = bb) := by show _ = _; rw [← HB.out, HTF.out]; unfold putM; rw [Option.isSome_map]
          clear hy2 hyc KU hlist k109
          go_upto_region 7 with fail
          refine wp_region_noPanic ?_
          refine wp_region_held_drew (S := fun w' => True) (by kernel_rfl) trivial (fun hHeld => ?_)
          refine tkA (i := 0) (v := .pointer (some ⟨M + 1, 0, none⟩)) ?_ hHeld ?_
          · intro w9 hSw
            go_simp
          simp only [Act.put, List.setIfInBounds_toArray, List.set_cons_zero, List.set_cons_succ]
          refine tkA (i := 1) (v := .slice (some ⟨qb, 0, none⟩) 3 3) ?_ hHeld ?_
          · intro w9 hSw
            go_simp
          simp only [Act.put, List.setIfInBounds_toArray, List.set_cons_zero, List.set_cons_succ]
          refine tkA (i := 2) (v := .pointer (some ⟨qb, 2, none⟩)) ?_ hHeld ?_
          · intro w9 hSw
            go_simp
          simp only [Act.put, List.setIfInBounds_toArray, List.set_cons_zero, List.set_cons_succ]
          refine tkA (i := 4) (v := .pointer (some ⟨w.heap.size, 1, none⟩)) ?_ hHeld ?_
          · intro w9 hSw
            go_simp
          simp only [Act.put, List.setIfInBounds_toArray, List.set_cons_zero, List.set_cons_succ]
          refine wpAnyH_ready (rs := [3, 5]) (by kernel_rfl) (by simp) ?_
          refine AllReadyH.cons rfl (fun K hK => ?_) (AllReadyH.cons rfl (fun K hK => ?_) AllReadyH.nil)
          · skip
            go_simp
            refine hK _ _ trivial (fun hHeld => ?_)
            clear hK K
            refine wpAnyH_ready (rs := [5]) (by kernel_rfl) (by simp) ?_
            refine AllReadyH.cons rfl (fun K hK => ?_) AllReadyH.nil
            go_simp
            refine hK _ _ trivial (fun hHeld => ?_)
            clear hK K
            refine wpAnyH_ready (rs := [6]) (by kernel_rfl) (by simp) ?_
            refine AllReadyH.cons rfl (fun K hK => ?_) AllReadyH.nil
            go_simp
            refine (takeFolderI t2 pv _ M ⟨a, n, c, va, S.aside, nx, u, S.word, X⟩ S.fs (D2.out.later ((Below.refl _ _).drew)) HV.out.1 HFO.out (HG.out.below h8 (B2.out.mono (by omega)).drew) h8 ht2 hpv hu hnx bb HBF).mono ?_
            rintro e w6 ⟨rfl, hTk, hb6⟩
            have B6 : Hid (Below M w w6) := ((B2.out.mono (by omega)).drew).trans hb6
            have K6 : Hid (∀ S', T = some S' → StAt w6 M a n c nx u S' (k + 1)) := by
              show ∀ S', _ → _
              rw [HTF.out]
              exact st_put hTk rfl rfl HV.out.2.1 HV.out.2.2.1 HV.out.2.2.2 (fun f h9 => by have := folderM_facts h9; omega)
            clear hTk hb6
            dsimp only
            refine hK _ _ trivial (fun hHeld => ?_)
            clear hK K
            refine wpAnyH_ready (rs := [7]) (by kernel_rfl) (by simp) ?_
            refine AllReadyH.cons rfl (fun K hK => ?_) AllReadyH.nil
            go_simp
            refine hK _ _ trivial (fun hHeld => ?_)
            clear hK K
            refine wpAnyH_done (by kernel_rfl) ?_ _
            refine NoPanic.normal ?_
            clear hHeld
            go_wp2_with fail
            go_ret
            exact ⟨rfl, K6.out, B6.out⟩
          · skip
            go_simp
            refine hK _ _ trivial (fun hHeld => ?_)
            clear hK K
            refine wpAnyH_ready (rs := [3]) (by kernel_rfl) (by simp) ?_
            refine AllReadyH.cons rfl (fun K hK => ?_) AllReadyH.nil
            go_simp
            refine hK _ _ trivial (fun hHeld => ?_)
            clear hK K
            refine wpAnyH_ready (rs := [6]) (by kernel_rfl) (by simp) ?_
            refine AllReadyH.cons rfl (fun K hK => ?_) AllReadyH.nil
            go_simp
            refine (takeFolderI t2 pv _ M ⟨a, n, c, va, S.aside, nx, u, S.word, X⟩ S.fs (D2.out.later ((Below.refl _ _).drew)) HV.out.1 HFO.out (HG.out.below h8 (B2.out.mono (by omega)).drew) h8 ht2 hpv hu hnx bb HBF).mono ?_
            rintro e w6 ⟨rfl, hTk, hb6⟩
            have B6 : Hid (Below M w w6) := ((B2.out.mono (by omega)).drew).trans hb6
            have K6 : Hid (∀ S', T = some S' → StAt w6 M a n c nx u S' (k + 1)) := by
              show ∀ S', _ → _
              rw [HTF.out]
              exact st_put hTk rfl rfl HV.out.2.1 HV.out.2.2.1 HV.out.2.2.2 (fun f h9 => by have := folderM_facts h9; omega)
            clear hTk hb6
            dsimp only
            refine hK _ _ trivial (fun hHeld => ?_)
            clear hK K
            refine wpAnyH_ready (rs := [7]) (by kernel_rfl) (by simp) ?_
            refine AllReadyH.cons rfl (fun K hK => ?_) AllReadyH.nil
            go_simp
            refine hK _ _ trivial (fun hHeld => ?_)
            clear hK K
            refine wpAnyH_done (by kernel_rfl) ?_ _
            refine NoPanic.normal ?_
            clear hHeld
            go_wp2_with fail
            go_ret
            exact ⟨rfl, K6.out, B6.out⟩
        by_cases c109 : ga = [109] ∧ ∃ gc gd, r = [gc, gd]
        · obtain ⟨rfl, gc, gd, rfl⟩ := c109
          obtain rfl : 4 = m := HM.out
          rw [decide_eq_true rfl] at k109
          rw [decide_eq_false (by decide)] at k117 k102
          obtain ⟨b9, o9, t2, eb, c2, hy2⟩ := srcS HS2.out (i := 2) (by simp)
          cases eb
          rw [Nat.zero_add] at c2
          have hyc : bs gc = t2 := hy2.out
          obtain ⟨b9, o9, t3, eb, c3, hy3⟩ := srcS HS2.out (i := 3) (by simp)
          cases eb
          rw [Nat.zero_add] at c3
          have hyd : bs gd = t3 := hy3.out
          have HTF : Hid (T = putM S (mailM S.fs t2 t3 pv)) := by show _ = _; rw [HTG.out, ← hyc, ← hyd]; exact if_pos ⟨hgb, rfl⟩
          have hgc : gc.length ≤ 90 := HGZ.out gc (by simp)
          have hgd : gd.length ≤ 90 := HGZ.out gd (by simp)
          have ht2 : t2.size ≤ 1000 := by rw [← hyc]; show gc.toArray.size ≤ 1000; simp; omega
          have ht3 : t3.size ≤ 1000 := by rw [← hyd]; show gd.toArray.size ≤ 1000; simp; omega
          have HBF : Hid ((mailM S.fs t2 t3 pv).isSome = bb) := by show _ = _; rw [← HB.out, HTF.out]; unfold putM; rw [Option.isSome_map]
          clear hy2 hyc hy3 hyd KU hlist
          go_upto_region 9 with fail
          refine wp_region_noPanic ?_
          refine wp_region_held_drew (S := fun w' => True) (by kernel_rfl) trivial (fun hHeld => ?_)
          refine tkA (i := 0) (v := .pointer (some ⟨M + 1, 0, none⟩)) ?_ hHeld ?_
          · intro w9 hSw
            go_simp
          simp only [Act.put, List.setIfInBounds_toArray, List.set_cons_zero, List.set_cons_succ]
          refine tkA (i := 1) (v := .slice (some ⟨qb, 0, none⟩) 4 4) ?_ hHeld ?_
          · intro w9 hSw
            go_simp
          simp only [Act.put, List.setIfInBounds_toArray, List.set_cons_zero, List.set_cons_succ]
          refine tkA (i := 2) (v := .pointer (some ⟨qb, 2, none⟩)) ?_ hHeld ?_
          · intro w9 hSw
            go_simp
          simp only [Act.put, List.setIfInBounds_toArray, List.set_cons_zero, List.set_cons_succ]
          refine tkA (i := 4) (v := .slice (some ⟨qb, 0, none⟩) 4 4) ?_ hHeld ?_
          · intro w9 hSw
            go_simp
          simp only [Act.put, List.setIfInBounds_toArray, List.set_cons_zero, List.set_cons_succ]
          refine tkA (i := 5) (v := .pointer (some ⟨qb, 3, none⟩)) ?_ hHeld ?_
          · intro w9 hSw
            go_simp
          simp only [Act.put, List.setIfInBounds_toArray, List.set_cons_zero, List.set_cons_succ]
          refine tkA (i := 7) (v := .pointer (some ⟨w.heap.size, 1, none⟩)) ?_ hHeld ?_
          · intro w9 hSw
            go_simp
          simp only [Act.put, List.setIfInBounds_toArray, List.set_cons_zero, List.set_cons_succ]
          refine wpAnyH_ready (rs := [3, 6, 8]) (by kernel_rfl) (by simp) ?_
          refine AllReadyH.cons rfl (fun K hK => ?_) (AllReadyH.cons rfl (fun K hK => ?_) (AllReadyH.cons rfl (fun K hK => ?_) AllReadyH.nil))
          · skip
            go_simp
            refine hK _ _ trivial (fun hHeld => ?_)
            clear hK K
            refine wpAnyH_ready (rs := [6, 8]) (by kernel_rfl) (by simp) ?_
            refine AllReadyH.cons rfl (fun K hK => ?_) (AllReadyH.cons rfl (fun K hK => ?_) AllReadyH.nil)
            · skip
              go_simp
              refine hK _ _ trivial (fun hHeld => ?_)
              clear hK K
              refine wpAnyH_ready (rs := [8]) (by kernel_rfl) (by simp) ?_
              refine AllReadyH.cons rfl (fun K hK => ?_) AllReadyH.nil
              go_simp
              refine hK _ _ trivial (fun hHeld => ?_)
              clear hK K
              refine wpAnyH_ready (rs := [9]) (by kernel_rfl) (by simp) ?_
              refine AllReadyH.cons rfl (fun K hK => ?_) AllReadyH.nil
              go_simp
              refine (takeMailI t2 t3 pv _ M ⟨a, n, c, va, S.aside, nx, u, S.word, X⟩ S.fs (D2.out.later ((Below.refl _ _).drew)) HV.out.1 HFO.out (HG.out.below h8 (B2.out.mono (by omega)).drew) h8 ht2 ht3 hpv hu bb HBF).mono ?_
              rintro e w6 ⟨rfl, hTk, hb6⟩
              have B6 : Hid (Below M w w6) := ((B2.out.mono (by omega)).drew).trans hb6
              have K6 : Hid (∀ S', T = some S' → StAt w6 M a n c nx u S' (k + 1)) := by
                show ∀ S', _ → _
                rw [HTF.out]
                exact st_put hTk rfl rfl HV.out.2.1 HV.out.2.2.1 HV.out.2.2.2 (fun f h9 => mailM_facts HV.out.2.2.1 h9)
              clear hTk hb6
              dsimp only
              refine hK _ _ trivial (fun hHeld => ?_)
              clear hK K
              refine wpAnyH_ready (rs := [10]) (by kernel_rfl) (by simp) ?_
              refine AllReadyH.cons rfl (fun K hK => ?_) AllReadyH.nil
              go_simp
              refine hK _ _ trivial (fun hHeld => ?_)
              clear hK K
              refine wpAnyH_done (by kernel_rfl) ?_ _
              refine NoPanic.normal ?_
              clear hHeld
              go_wp2_with fail
              go_ret
              exact ⟨rfl, K6.out, B6.out⟩
            · skip
              go_simp
              refine hK _ _ trivial (fun hHeld => ?_)
              clear hK K
              refine wpAnyH_ready (rs := [6]) (by kernel_rfl) (by simp) ?_
              refine AllReadyH.cons rfl (fun K hK => ?_) AllReadyH.nil
              go_simp
              refine hK _ _ trivial (fun hHeld => ?_)
              clear hK K
              refine wpAnyH_ready (rs := [9]) (by kernel_rfl) (by simp) ?_
              refine AllReadyH.cons rfl (fun K hK => ?_) AllReadyH.nil
              go_simp
              refine (takeMailI t2 t3 pv _ M ⟨a, n, c, va, S.aside, nx, u, S.word, X⟩ S.fs (D2.out.later ((Below.refl _ _).drew)) HV.out.1 HFO.out (HG.out.below h8 (B2.out.mono (by omega)).drew) h8 ht2 ht3 hpv hu bb HBF).mono ?_
              rintro e w6 ⟨rfl, hTk, hb6⟩
              have B6 : Hid (Below M w w6) := ((B2.out.mono (by omega)).drew).trans hb6
              have K6 : Hid (∀ S', T = some S' → StAt w6 M a n c nx u S' (k + 1)) := by
                show ∀ S', _ → _
                rw [HTF.out]
                exact st_put hTk rfl rfl HV.out.2.1 HV.out.2.2.1 HV.out.2.2.2 (fun f h9 => mailM_facts HV.out.2.2.1 h9)
              clear hTk hb6
              dsimp only
              refine hK _ _ trivial (fun hHeld => ?_)
              clear hK K
              refine wpAnyH_ready (rs := [10]) (by kernel_rfl) (by simp) ?_
              refine AllReadyH.cons rfl (fun K hK => ?_) AllReadyH.nil
              go_simp
              refine hK _ _ trivial (fun hHeld => ?_)
              clear hK K
              refine wpAnyH_done (by kernel_rfl) ?_ _
              refine NoPanic.normal ?_
              clear hHeld
              go_wp2_with fail
              go_ret
              exact ⟨rfl, K6.out, B6.out⟩
          · skip
            go_simp
            refine hK _ _ trivial (fun hHeld => ?_)
            clear hK K
            refine wpAnyH_ready (rs := [3, 8]) (by kernel_rfl) (by simp) ?_
            refine AllReadyH.cons rfl (fun K hK => ?_) (AllReadyH.cons rfl (fun K hK => ?_) AllReadyH.nil)
            · skip
              go_simp
              refine hK _ _ trivial (fun hHeld => ?_)
              clear hK K
              refine wpAnyH_ready (rs := [8]) (by kernel_rfl) (by simp) ?_
              refine AllReadyH.cons rfl (fun K hK => ?_) AllReadyH.nil
              go_simp
              refine hK _ _ trivial (fun hHeld => ?_)
              clear hK K
              refine wpAnyH_ready (rs := [9]) (by kernel_rfl) (by simp) ?_
              refine AllReadyH.cons rfl (fun K hK => ?_) AllReadyH.nil
              go_simp
              refine (takeMailI t2 t3 pv _ M ⟨a, n, c, va, S.aside, nx, u, S.word, X⟩ S.fs (D2.out.later ((Below.refl _ _).drew)) HV.out.1 HFO.out (HG.out.below h8 (B2.out.mono (by omega)).drew) h8 ht2 ht3 hpv hu bb HBF).mono ?_
              rintro e w6 ⟨rfl, hTk, hb6⟩
              have B6 : Hid (Below M w w6) := ((B2.out.mono (by omega)).drew).trans hb6
              have K6 : Hid (∀ S', T = some S' → StAt w6 M a n c nx u S' (k + 1)) := by
                show ∀ S', _ → _
                rw [HTF.out]
                exact st_put hTk rfl rfl HV.out.2.1 HV.out.2.2.1 HV.out.2.2.2 (fun f h9 => mailM_facts HV.out.2.2.1 h9)
              clear hTk hb6
              dsimp only
              refine hK _ _ trivial (fun hHeld => ?_)
              clear hK K
              refine wpAnyH_ready (rs := [10]) (by kernel_rfl) (by simp) ?_
              refine AllReadyH.cons rfl (fun K hK => ?_) AllReadyH.nil
              go_simp
              refine hK _ _ trivial (fun hHeld => ?_)
              clear hK K
              refine wpAnyH_done (by kernel_rfl) ?_ _
              refine NoPanic.normal ?_
              clear hHeld
              go_wp2_with fail
              go_ret
              exact ⟨rfl, K6.out, B6.out⟩
            · skip
              go_simp
              refine hK _ _ trivial (fun hHeld => ?_)
              clear hK K
              refine wpAnyH_ready (rs := [3]) (by kernel_rfl) (by simp) ?_
              refine AllReadyH.cons rfl (fun K hK => ?_) AllReadyH.nil
              go_simp
              refine hK _ _ trivial (fun hHeld => ?_)
              clear hK K
              refine wpAnyH_ready (rs := [9]) (by kernel_rfl) (by simp) ?_
              refine AllReadyH.cons rfl (fun K hK => ?_) AllReadyH.nil
              go_simp
              refine (takeMailI t2 t3 pv _ M ⟨a, n, c, va, S.aside, nx, u, S.word, X⟩ S.fs (D2.out.later ((Below.refl _ _).drew)) HV.out.1 HFO.out (HG.out.below h8 (B2.out.mono (by omega)).drew) h8 ht2 ht3 hpv hu bb HBF).mono ?_
              rintro e w6 ⟨rfl, hTk, hb6⟩
              have B6 : Hid (Below M w w6) := ((B2.out.mono (by omega)).drew).trans hb6
              have K6 : Hid (∀ S', T = some S' → StAt w6 M a n c nx u S' (k + 1)) := by
                show ∀ S', _ → _
                rw [HTF.out]
                exact st_put hTk rfl rfl HV.out.2.1 HV.out.2.2.1 HV.out.2.2.2 (fun f h9 => mailM_facts HV.out.2.2.1 h9)
              clear hTk hb6
              dsimp only
              refine hK _ _ trivial (fun hHeld => ?_)
              clear hK K
              refine wpAnyH_ready (rs := [10]) (by kernel_rfl) (by simp) ?_
              refine AllReadyH.cons rfl (fun K hK => ?_) AllReadyH.nil
              go_simp
              refine hK _ _ trivial (fun hHeld => ?_)
              clear hK K
              refine wpAnyH_done (by kernel_rfl) ?_ _
              refine NoPanic.normal ?_
              clear hHeld
              go_wp2_with fail
              go_ret
              exact ⟨rfl, K6.out, B6.out⟩
          · skip
            go_simp
            refine hK _ _ trivial (fun hHeld => ?_)
            clear hK K
            refine wpAnyH_ready (rs := [3, 6]) (by kernel_rfl) (by simp) ?_
            refine AllReadyH.cons rfl (fun K hK => ?_) (AllReadyH.cons rfl (fun K hK => ?_) AllReadyH.nil)
            · skip
              go_simp
              refine hK _ _ trivial (fun hHeld => ?_)
              clear hK K
              refine wpAnyH_ready (rs := [6]) (by kernel_rfl) (by simp) ?_
              refine AllReadyH.cons rfl (fun K hK => ?_) AllReadyH.nil
              go_simp
              refine hK _ _ trivial (fun hHeld => ?_)
              clear hK K
              refine wpAnyH_ready (rs := [9]) (by kernel_rfl) (by simp) ?_
              refine AllReadyH.cons rfl (fun K hK => ?_) AllReadyH.nil
              go_simp
              refine (takeMailI t2 t3 pv _ M ⟨a, n, c, va, S.aside, nx, u, S.word, X⟩ S.fs (D2.out.later ((Below.refl _ _).drew)) HV.out.1 HFO.out (HG.out.below h8 (B2.out.mono (by omega)).drew) h8 ht2 ht3 hpv hu bb HBF).mono ?_
              rintro e w6 ⟨rfl, hTk, hb6⟩
              have B6 : Hid (Below M w w6) := ((B2.out.mono (by omega)).drew).trans hb6
              have K6 : Hid (∀ S', T = some S' → StAt w6 M a n c nx u S' (k + 1)) := by
                show ∀ S', _ → _
                rw [HTF.out]
                exact st_put hTk rfl rfl HV.out.2.1 HV.out.2.2.1 HV.out.2.2.2 (fun f h9 => mailM_facts HV.out.2.2.1 h9)
              clear hTk hb6
              dsimp only
              refine hK _ _ trivial (fun hHeld => ?_)
              clear hK K
              refine wpAnyH_ready (rs := [10]) (by kernel_rfl) (by simp) ?_
              refine AllReadyH.cons rfl (fun K hK => ?_) AllReadyH.nil
              go_simp
              refine hK _ _ trivial (fun hHeld => ?_)
              clear hK K
              refine wpAnyH_done (by kernel_rfl) ?_ _
              refine NoPanic.normal ?_
              clear hHeld
              go_wp2_with fail
              go_ret
              exact ⟨rfl, K6.out, B6.out⟩
            · skip
              go_simp
              refine hK _ _ trivial (fun hHeld => ?_)
              clear hK K
              refine wpAnyH_ready (rs := [3]) (by kernel_rfl) (by simp) ?_
              refine AllReadyH.cons rfl (fun K hK => ?_) AllReadyH.nil
              go_simp
              refine hK _ _ trivial (fun hHeld => ?_)
              clear hK K
              refine wpAnyH_ready (rs := [9]) (by kernel_rfl) (by simp) ?_
              refine AllReadyH.cons rfl (fun K hK => ?_) AllReadyH.nil
              go_simp
              refine (takeMailI t2 t3 pv _ M ⟨a, n, c, va, S.aside, nx, u, S.word, X⟩ S.fs (D2.out.later ((Below.refl _ _).drew)) HV.out.1 HFO.out (HG.out.below h8 (B2.out.mono (by omega)).drew) h8 ht2 ht3 hpv hu bb HBF).mono ?_
              rintro e w6 ⟨rfl, hTk, hb6⟩
              have B6 : Hid (Below M w w6) := ((B2.out.mono (by omega)).drew).trans hb6
              have K6 : Hid (∀ S', T = some S' → StAt w6 M a n c nx u S' (k + 1)) := by
                show ∀ S', _ → _
                rw [HTF.out]
                exact st_put hTk rfl rfl HV.out.2.1 HV.out.2.2.1 HV.out.2.2.2 (fun f h9 => mailM_facts HV.out.2.2.1 h9)
              clear hTk hb6
              dsimp only
              refine hK _ _ trivial (fun hHeld => ?_)
              clear hK K
              refine wpAnyH_ready (rs := [10]) (by kernel_rfl) (by simp) ?_
              refine AllReadyH.cons rfl (fun K hK => ?_) AllReadyH.nil
              go_simp
              refine hK _ _ trivial (fun hHeld => ?_)
              clear hK K
              refine wpAnyH_done (by kernel_rfl) ?_ _
              refine NoPanic.normal ?_
              clear hHeld
              go_wp2_with fail
              go_ret
              exact ⟨rfl, K6.out, B6.out⟩
        have HTA : Hid (T = asideM S (pk, pv)) := by
          show _ = _
          rw [HTG.out]
          match r, c117, c102, c109 with
          | [], h1, _, _ => exact if_neg fun h9 => h1 ⟨h9.2, rfl⟩
          | [_], _, h1, _ => exact if_neg fun h9 => h1 ⟨h9.2, _, rfl⟩
          | [_, _], _, _, h1 => exact if_neg fun h9 => h1 ⟨h9.2, _, _, rfl⟩
          | _ :: _ :: _ :: _, _, _, _ => rfl
        have hrl : r.length + 2 = m := by rw [← HM.out]; simp
        clear KU hlist
        by_cases e117 : ga = [117]
        · have hm9 : ¬ (m : Int) = 2 := fun h9 => c117 ⟨e117, List.length_eq_zero_iff.1 (by omega)⟩
          rw [decide_eq_true e117] at k117
          rw [e117, decide_eq_false (by decide)] at k102 k109
          clear c117 c102 c109 hrl e117
          go_wp2_with fail
          go_meet
          exact ⟨rfl, Below.refl _ _, HTA.out⟩
        rw [decide_eq_false e117] at k117
        by_cases e102 : ga = [102]
        · have hm9 : ¬ (m : Int) = 3 := fun h9 => c102 ⟨e102, List.length_eq_one_iff.1 (by omega)⟩
          rw [decide_eq_true e102] at k102
          rw [e102, decide_eq_false (by decide)] at k109
          clear c117 c102 c109 hrl e102
          go_wp2_with fail
          go_meet
          exact ⟨rfl, Below.refl _ _, HTA.out⟩
        rw [decide_eq_false e102] at k102
        by_cases e109 : ga = [109]
        · have hm9 : ¬ (m : Int) = 4 := fun h9 => c109 ⟨e109, two_of (by omega)⟩
          rw [decide_eq_true e109] at k109
          clear c117 c102 c109 hrl e109
          go_wp2_with fail
          go_meet
          exact ⟨rfl, Below.refl _ _, HTA.out⟩
        rw [decide_eq_false e109] at k109
        clear c117 c102 c109 hrl e109 e102 e117
        go_wp2_with fail
        go_meet
        exact ⟨rfl, Below.refl _ _, HTA.out⟩
    case rest =>
      rename World => wd
      obtain ⟨rfl, hbd, HTA⟩ := hcut
      have D3 := D2.out.later hbd.out
      have X3 := X2.out.below hbd.out
      have B3 : Hid (Below w.heap.size w wd) := B2.out.trans (hbd.out.mono B2.out.size)
      have ZD : Hid (w.heap.size < wd.heap.size) := by have h9 := hbd.out.size; have h7 := ZW.out; show _ < _; omega
      obtain ⟨av, cv, hva, _, _⟩ := own_src D3.2.2.1
      simp only at hva
      obtain ⟨la, hla⟩ : ∃ k, S.aside.length = k := ⟨_, rfl⟩
      have hlk : la ≤ 100 := by have := HV.out.2.2.2; omega
      rw [hla] at hva
      subst hva
      have HO : Hid (wd.ownsRow (M + 2) 68 2 (.slice av la cv) la (cellsP S.aside)) := by
        show wd.ownsRow _ _ _ _ _ _
        rw [← hla]
        exact (hla ▸ D3.2.2.1)
      have HD3 : Hid (DeskAt wd M ⟨a, n, c, .slice av la cv, S.aside, nx, u, S.word, X⟩) := D3
      have HLA : Hid (S.aside.length = la) := hla
      obtain ⟨e1, f1⟩ := D3.1 1 _ rfl
      obtain ⟨q0, _⟩ := X3 0 _ rfl
      obtain ⟨q1, _⟩ := X3 1 _ rfl
      have HBT : Hid (true = bb) := by show _ = _; rw [← HB.out, HTA.out]; rfl
      clear D3 X3 hla hbd X2 B2 D2 HS2 ZW
      go_upto_region 10 with fail
      refine wp_region_noPanic ?_
      refine wp_region_held_drew (S := fun w' => True) (by kernel_rfl) trivial (fun hHeld => ?_)
      refine tkA (i := 0) (v := .pointer (some ⟨M + 1, 0, none⟩)) ?_ hHeld ?_
      · intro w9 hSw
        go_simp
      simp only [Act.put, List.setIfInBounds_toArray, List.set_cons_zero, List.set_cons_succ]
      refine tkA (i := 1) (v := .pointer (some ⟨M + 1, 0, none⟩)) ?_ hHeld ?_
      · intro w9 hSw
        go_simp
      simp only [Act.put, List.setIfInBounds_toArray, List.set_cons_zero, List.set_cons_succ]
      refine tkA (i := 2) (v := .pointer (some ⟨M + 1, 0, none⟩)) ?_ hHeld ?_
      · intro w9 hSw
        go_simp
      simp only [Act.put, List.setIfInBounds_toArray, List.set_cons_zero, List.set_cons_succ]
      refine tkA (i := 3) (v := .pointer (some ⟨M + 1, 1, none⟩)) ?_ hHeld ?_
      · intro w9 hSw
        go_simp
      simp only [Act.put, List.setIfInBounds_toArray, List.set_cons_zero, List.set_cons_succ]
      refine wpAnyH_ready (rs := [4, 5]) (by kernel_rfl) (by simp) ?_
      refine AllReadyH.cons rfl (fun K hK => ?_) (AllReadyH.cons rfl (fun K hK => ?_) AllReadyH.nil)
      · skip
        go_simp
        refine hK _ _ trivial (fun hHeld => ?_)
        clear hK K
        refine wpAnyH_ready (rs := [5]) (by kernel_rfl) (by simp) ?_
        refine AllReadyH.cons rfl (fun K hK => ?_) AllReadyH.nil
        go_simp
        refine hK _ _ trivial (fun hHeld => ?_)
        clear hK K
        refine wpAnyH_ready (rs := [6]) (by kernel_rfl) (by simp) ?_
        refine AllReadyH.cons rfl (fun K hK => ?_) AllReadyH.nil
        go_simp
        have e1' : (wd.alloc (.cells #[.string pk, .string pv] 68)).cell? ⟨M + 1, 1, none⟩ = some (.slice av la cv) := cell_later ((Below.refl _ _).alloc (Nat.le_refl _) _) e1
        refine hK _ _ trivial (fun hHeld => ?_)
        clear hK K
        refine wpAnyH_ready (rs := [7]) (by kernel_rfl) (by simp) ?_
        refine AllReadyH.cons rfl (fun K hK => ?_) AllReadyH.nil
        refine step_append_src rfl (.tmp 90) (.tmp 92) 23 rfl (M + 2) 68 (.agg #[.string ⟨#[]⟩, .string ⟨#[]⟩]) 2 32 Tryz.underlying23 infoP rfl (by decide) (by decide) (.slice av la cv) la (cellsP S.aside) (by rfl) (HO.out.alloc _) ⟨wd.heap.size, 0, none⟩ 1 1 (cellsP [(pk, pv)]) (by rfl) (by rfl) (src_oneP rfl) (cellsP_one _) (by omega) (by omega) (by show M + 2 ≤ (wd.alloc _).heap.size; have h9 := ZD.out; simp; omega) ?_
        intro v6 w6 hown6 hgrow6 hloc6
        obtain ⟨a6, c6, rfl, _, hl6⟩ := own_src hown6
        have AL5 : Below wd.heap.size wd (wd.alloc (.cells #[.string pk, .string pv] 68)) := (Below.refl _ _).alloc (Nat.le_refl _) _
        have D5 := HD3.out.later AL5
        have hrow : ∀ g, Value.ownBlock (.slice av la cv) = some g → M + 2 ≤ g := fun g h9 => (HO.out.lt g h9).1
        have B6 : Hid (Below M w w6) := ((B3.out.trans (AL5.mono B3.out.size)).mono (by omega)).drew.grown hgrow6 (by have h9 := hgrow6.size; have h7 := ZD.out; show M ≤ (wd.alloc _).heap.size; simp; omega) (fun g h9 => by have := hrow g h9; omega)
        have K6 : Hid (Box w6 (M + 1) [.slice a n c, .slice av la cv, .int .i64 nx, .string u, .string S.word, .map (some M)] ∧ (∃ clock, MapIs w6 M clock X) ∧ w6.ownsRow (M + 2) 68 2 (.slice a6 (la + 1) c6) (la + 1) (cellsP (S.aside ++ [(pk, pv)])) ∧ Rows w6 M X) := by
          obtain ⟨k1, ⟨cl, k2⟩, k3, k4⟩ := D5
          refine ⟨Box.grown (w := (wd.alloc (.cells #[.string pk, .string pv] 68)).drew) k1 hgrow6 (fun h9 => by have := hrow _ h9; omega), ⟨cl, MapIs.grown (w := (wd.alloc (.cells #[.string pk, .string pv] 68)).drew) k2 hgrow6 (fun h9 => by have := hrow _ h9; omega)⟩, ?_, fun x hx => own_grown (w := (wd.alloc (.cells #[.string pk, .string pv] 68)).drew) (k4.1 x hx) hgrow6 (fun g h9 h7 => own_ne (k4.1 x hx) (HO.out.alloc _) (by decide) g h9 h7), k4.2⟩
          rw [cellsP_append]
          exact hown6
        obtain ⟨e6, f6⟩ := K6.out.1 1 _ rfl
        clear hown6 hgrow6 hloc6 hl6 D5 hrow AL5
        refine hK _ _ trivial (fun hHeld => ?_)
        clear hK K
        refine tkA (i := 8) (v := .pointer (some ⟨M + 1, 0, none⟩)) ?_ hHeld ?_
        · intro w9 hSw
          go_simp
        simp only [Act.put, List.setIfInBounds_toArray, List.set_cons_zero, List.set_cons_succ]
        refine tkA (i := 9) (v := .pointer (some ⟨M + 1, 1, none⟩)) ?_ hHeld ?_
        · intro w9 hSw
          go_simp
        simp only [Act.put, List.setIfInBounds_toArray, List.set_cons_zero, List.set_cons_succ]
        refine wpAnyH_ready (rs := [10]) (by kernel_rfl) (by simp) ?_
        refine AllReadyH.cons rfl (fun K hK => ?_) AllReadyH.nil
        go_simp
        refine hK _ _ trivial (fun hHeld => ?_)
        clear hK K
        refine wpAnyH_done (by kernel_rfl) ?_ _
        refine NoPanic.normal ?_
        clear hHeld
        have B7 : Hid (Below M w (w6.setCell ⟨M + 1, 1, none⟩ (.slice a6 (la + 1) c6))) := B6.out.setCell (by show M ≤ M + 1; omega) _
        have HST : Hid (∀ S', T = some S' → StAt (w6.setCell ⟨M + 1, 1, none⟩ (.slice a6 (la + 1) c6)) M a n c nx u S' (k + 1)) := fun S' h9 => by
          rw [HTA.out] at h9
          cases h9
          obtain ⟨k1, ⟨cl, k2⟩, k3, k4⟩ := K6.out
          refine ⟨.slice a6 (la + 1) c6, X, ⟨k1.set 1 _, ⟨cl, k2.setCell _ _ (by show M ≠ M + 1; omega)⟩, ?_, fun x hx => own_setLow (k4.1 x hx) (by show M + 1 < M + 2; omega) _, k4.2⟩, HV.out.1, HV.out.2.1, fun f hf => by have := HV.out.2.2.1 f hf; omega, ?_⟩
          · have h7 : (S.aside ++ [(pk, pv)]).length = la + 1 := by rw [List.length_append, HLA.out]; rfl
            show World.ownsRow _ _ _ _ _ (S.aside ++ [(pk, pv)]).length _
            rw [h7]
            exact own_setLow k3 (by show M + 1 < M + 2; omega) _
          · show (S.aside ++ [(pk, pv)]).length ≤ k + 1
            rw [List.length_append]
            have := HV.out.2.2.2
            simp; omega
        clear e6 f6
        go_wp2_with fail
        go_ret
        exact ⟨ret_bool HBT.out, HST.out, B7.out⟩
      · skip
        go_simp
        refine hK _ _ trivial (fun hHeld => ?_)
        clear hK K
        refine wpAnyH_ready (rs := [4, 6]) (by kernel_rfl) (by simp) ?_
        refine AllReadyH.cons rfl (fun K hK => ?_) (AllReadyH.cons rfl (fun K hK => ?_) AllReadyH.nil)
        · skip
          go_simp
          refine hK _ _ trivial (fun hHeld => ?_)
          clear hK K
          refine wpAnyH_ready (rs := [6]) (by kernel_rfl) (by simp) ?_
          refine AllReadyH.cons rfl (fun K hK => ?_) AllReadyH.nil
          go_simp
          have e1' : (wd.alloc (.cells #[.string pk, .string pv] 68)).cell? ⟨M + 1, 1, none⟩ = some (.slice av la cv) := cell_later ((Below.refl _ _).alloc (Nat.le_refl _) _) e1
          refine hK _ _ trivial (fun hHeld => ?_)
          clear hK K
          refine wpAnyH_ready (rs := [7]) (by kernel_rfl) (by simp) ?_
          refine AllReadyH.cons rfl (fun K hK => ?_) AllReadyH.nil
          refine step_append_src rfl (.tmp 90) (.tmp 92) 23 rfl (M + 2) 68 (.agg #[.string ⟨#[]⟩, .string ⟨#[]⟩]) 2 32 Tryz.underlying23 infoP rfl (by decide) (by decide) (.slice av la cv) la (cellsP S.aside) (by rfl) (HO.out.alloc _) ⟨wd.heap.size, 0, none⟩ 1 1 (cellsP [(pk, pv)]) (by rfl) (by rfl) (src_oneP rfl) (cellsP_one _) (by omega) (by omega) (by show M + 2 ≤ (wd.alloc _).heap.size; have h9 := ZD.out; simp; omega) ?_
          intro v6 w6 hown6 hgrow6 hloc6
          obtain ⟨a6, c6, rfl, _, hl6⟩ := own_src hown6
          have AL5 : Below wd.heap.size wd (wd.alloc (.cells #[.string pk, .string pv] 68)) := (Below.refl _ _).alloc (Nat.le_refl _) _
          have D5 := HD3.out.later AL5
          have hrow : ∀ g, Value.ownBlock (.slice av la cv) = some g → M + 2 ≤ g := fun g h9 => (HO.out.lt g h9).1
          have B6 : Hid (Below M w w6) := ((B3.out.trans (AL5.mono B3.out.size)).mono (by omega)).drew.grown hgrow6 (by have h9 := hgrow6.size; have h7 := ZD.out; show M ≤ (wd.alloc _).heap.size; simp; omega) (fun g h9 => by have := hrow g h9; omega)
          have K6 : Hid (Box w6 (M + 1) [.slice a n c, .slice av la cv, .int .i64 nx, .string u, .string S.word, .map (some M)] ∧ (∃ clock, MapIs w6 M clock X) ∧ w6.ownsRow (M + 2) 68 2 (.slice a6 (la + 1) c6) (la + 1) (cellsP (S.aside ++ [(pk, pv)])) ∧ Rows w6 M X) := by
            obtain ⟨k1, ⟨cl, k2⟩, k3, k4⟩ := D5
            refine ⟨Box.grown (w := (wd.alloc (.cells #[.string pk, .string pv] 68)).drew) k1 hgrow6 (fun h9 => by have := hrow _ h9; omega), ⟨cl, MapIs.grown (w := (wd.alloc (.cells #[.string pk, .string pv] 68)).drew) k2 hgrow6 (fun h9 => by have := hrow _ h9; omega)⟩, ?_, fun x hx => own_grown (w := (wd.alloc (.cells #[.string pk, .string pv] 68)).drew) (k4.1 x hx) hgrow6 (fun g h9 h7 => own_ne (k4.1 x hx) (HO.out.alloc _) (by decide) g h9 h7), k4.2⟩
            rw [cellsP_append]
            exact hown6
          obtain ⟨e6, f6⟩ := K6.out.1 1 _ rfl
          clear hown6 hgrow6 hloc6 hl6 D5 hrow AL5
          refine hK _ _ trivial (fun hHeld => ?_)
          clear hK K
          refine tkA (i := 8) (v := .pointer (some ⟨M + 1, 0, none⟩)) ?_ hHeld ?_
          · intro w9 hSw
            go_simp
          simp only [Act.put, List.setIfInBounds_toArray, List.set_cons_zero, List.set_cons_succ]
          refine tkA (i := 9) (v := .pointer (some ⟨M + 1, 1, none⟩)) ?_ hHeld ?_
          · intro w9 hSw
            go_simp
          simp only [Act.put, List.setIfInBounds_toArray, List.set_cons_zero, List.set_cons_succ]
          refine wpAnyH_ready (rs := [10]) (by kernel_rfl) (by simp) ?_
          refine AllReadyH.cons rfl (fun K hK => ?_) AllReadyH.nil
          go_simp
          refine hK _ _ trivial (fun hHeld => ?_)
          clear hK K
          refine wpAnyH_done (by kernel_rfl) ?_ _
          refine NoPanic.normal ?_
          clear hHeld
          have B7 : Hid (Below M w (w6.setCell ⟨M + 1, 1, none⟩ (.slice a6 (la + 1) c6))) := B6.out.setCell (by show M ≤ M + 1; omega) _
          have HST : Hid (∀ S', T = some S' → StAt (w6.setCell ⟨M + 1, 1, none⟩ (.slice a6 (la + 1) c6)) M a n c nx u S' (k + 1)) := fun S' h9 => by
            rw [HTA.out] at h9
            cases h9
            obtain ⟨k1, ⟨cl, k2⟩, k3, k4⟩ := K6.out
            refine ⟨.slice a6 (la + 1) c6, X, ⟨k1.set 1 _, ⟨cl, k2.setCell _ _ (by show M ≠ M + 1; omega)⟩, ?_, fun x hx => own_setLow (k4.1 x hx) (by show M + 1 < M + 2; omega) _, k4.2⟩, HV.out.1, HV.out.2.1, fun f hf => by have := HV.out.2.2.1 f hf; omega, ?_⟩
            · have h7 : (S.aside ++ [(pk, pv)]).length = la + 1 := by rw [List.length_append, HLA.out]; rfl
              show World.ownsRow _ _ _ _ _ (S.aside ++ [(pk, pv)]).length _
              rw [h7]
              exact own_setLow k3 (by show M + 1 < M + 2; omega) _
            · show (S.aside ++ [(pk, pv)]).length ≤ k + 1
              rw [List.length_append]
              have := HV.out.2.2.2
              simp; omega
          clear e6 f6
          go_wp2_with fail
          go_ret
          exact ⟨ret_bool HBT.out, HST.out, B7.out⟩
        · skip
          go_simp
          have e1' : (wd.alloc (.cells #[.string pk, .string pv] 68)).cell? ⟨M + 1, 1, none⟩ = some (.slice av la cv) := cell_later ((Below.refl _ _).alloc (Nat.le_refl _) _) e1
          refine hK _ _ trivial (fun hHeld => ?_)
          clear hK K
          refine wpAnyH_ready (rs := [4]) (by kernel_rfl) (by simp) ?_
          refine AllReadyH.cons rfl (fun K hK => ?_) AllReadyH.nil
          go_simp
          refine hK _ _ trivial (fun hHeld => ?_)
          clear hK K
          refine wpAnyH_ready (rs := [7]) (by kernel_rfl) (by simp) ?_
          refine AllReadyH.cons rfl (fun K hK => ?_) AllReadyH.nil
          refine step_append_src rfl (.tmp 90) (.tmp 92) 23 rfl (M + 2) 68 (.agg #[.string ⟨#[]⟩, .string ⟨#[]⟩]) 2 32 Tryz.underlying23 infoP rfl (by decide) (by decide) (.slice av la cv) la (cellsP S.aside) (by rfl) (HO.out.alloc _) ⟨wd.heap.size, 0, none⟩ 1 1 (cellsP [(pk, pv)]) (by rfl) (by rfl) (src_oneP rfl) (cellsP_one _) (by omega) (by omega) (by show M + 2 ≤ (wd.alloc _).heap.size; have h9 := ZD.out; simp; omega) ?_
          intro v6 w6 hown6 hgrow6 hloc6
          obtain ⟨a6, c6, rfl, _, hl6⟩ := own_src hown6
          have AL5 : Below wd.heap.size wd (wd.alloc (.cells #[.string pk, .string pv] 68)) := (Below.refl _ _).alloc (Nat.le_refl _) _
          have D5 := HD3.out.later AL5
          have hrow : ∀ g, Value.ownBlock (.slice av la cv) = some g → M + 2 ≤ g := fun g h9 => (HO.out.lt g h9).1
          have B6 : Hid (Below M w w6) := ((B3.out.trans (AL5.mono B3.out.size)).mono (by omega)).drew.grown hgrow6 (by have h9 := hgrow6.size; have h7 := ZD.out; show M ≤ (wd.alloc _).heap.size; simp; omega) (fun g h9 => by have := hrow g h9; omega)
          have K6 : Hid (Box w6 (M + 1) [.slice a n c, .slice av la cv, .int .i64 nx, .string u, .string S.word, .map (some M)] ∧ (∃ clock, MapIs w6 M clock X) ∧ w6.ownsRow (M + 2) 68 2 (.slice a6 (la + 1) c6) (la + 1) (cellsP (S.aside ++ [(pk, pv)])) ∧ Rows w6 M X) := by
            obtain ⟨k1, ⟨cl, k2⟩, k3, k4⟩ := D5
            refine ⟨Box.grown (w := (wd.alloc (.cells #[.string pk, .string pv] 68)).drew) k1 hgrow6 (fun h9 => by have := hrow _ h9; omega), ⟨cl, MapIs.grown (w := (wd.alloc (.cells #[.string pk, .string pv] 68)).drew) k2 hgrow6 (fun h9 => by have := hrow _ h9; omega)⟩, ?_, fun x hx => own_grown (w := (wd.alloc (.cells #[.string pk, .string pv] 68)).drew) (k4.1 x hx) hgrow6 (fun g h9 h7 => own_ne (k4.1 x hx) (HO.out.alloc _) (by decide) g h9 h7), k4.2⟩
            rw [cellsP_append]
            exact hown6
          obtain ⟨e6, f6⟩ := K6.out.1 1 _ rfl
          clear hown6 hgrow6 hloc6 hl6 D5 hrow AL5
          refine hK _ _ trivial (fun hHeld => ?_)
          clear hK K
          refine tkA (i := 8) (v := .pointer (some ⟨M + 1, 0, none⟩)) ?_ hHeld ?_
          · intro w9 hSw
            go_simp
          simp only [Act.put, List.setIfInBounds_toArray, List.set_cons_zero, List.set_cons_succ]
          refine tkA (i := 9) (v := .pointer (some ⟨M + 1, 1, none⟩)) ?_ hHeld ?_
          · intro w9 hSw
            go_simp
          simp only [Act.put, List.setIfInBounds_toArray, List.set_cons_zero, List.set_cons_succ]
          refine wpAnyH_ready (rs := [10]) (by kernel_rfl) (by simp) ?_
          refine AllReadyH.cons rfl (fun K hK => ?_) AllReadyH.nil
          go_simp
          refine hK _ _ trivial (fun hHeld => ?_)
          clear hK K
          refine wpAnyH_done (by kernel_rfl) ?_ _
          refine NoPanic.normal ?_
          clear hHeld
          have B7 : Hid (Below M w (w6.setCell ⟨M + 1, 1, none⟩ (.slice a6 (la + 1) c6))) := B6.out.setCell (by show M ≤ M + 1; omega) _
          have HST : Hid (∀ S', T = some S' → StAt (w6.setCell ⟨M + 1, 1, none⟩ (.slice a6 (la + 1) c6)) M a n c nx u S' (k + 1)) := fun S' h9 => by
            rw [HTA.out] at h9
            cases h9
            obtain ⟨k1, ⟨cl, k2⟩, k3, k4⟩ := K6.out
            refine ⟨.slice a6 (la + 1) c6, X, ⟨k1.set 1 _, ⟨cl, k2.setCell _ _ (by show M ≠ M + 1; omega)⟩, ?_, fun x hx => own_setLow (k4.1 x hx) (by show M + 1 < M + 2; omega) _, k4.2⟩, HV.out.1, HV.out.2.1, fun f hf => by have := HV.out.2.2.1 f hf; omega, ?_⟩
            · have h7 : (S.aside ++ [(pk, pv)]).length = la + 1 := by rw [List.length_append, HLA.out]; rfl
              show World.ownsRow _ _ _ _ _ (S.aside ++ [(pk, pv)]).length _
              rw [h7]
              exact own_setLow k3 (by show M + 1 < M + 2; omega) _
            · show (S.aside ++ [(pk, pv)]).length ≤ k + 1
              rw [List.length_append]
              have := HV.out.2.2.2
              simp; omega
          clear e6 f6
          go_wp2_with fail
          go_ret
          exact ⟨ret_bool HBT.out, HST.out, B7.out⟩
end Go.Proofs.YthgbclipknfmjaaGreatDoor
