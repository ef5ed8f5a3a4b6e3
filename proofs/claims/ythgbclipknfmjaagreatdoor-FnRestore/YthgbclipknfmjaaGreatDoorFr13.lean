/-
  Mpm Mss Eqa in one. By an AI agent.
-/
import Derived.Test.YthgbclipknfmjaaGreatDoorFr12
import Derived.Test.YthgbclipknfmjaaGreatDoorFr10
namespace Go.Proofs.YthgbclipknfmjaaGreatDoor
open Go.ChangeShapes Go.WideShapes Go.ChangeAt Go.RowKit Go.Deep Go.Lib
set_option linter.unusedVariables false
set_option linter.unusedSimpArgs false
set_option maxRecDepth 100000

def mailN (cnt : Nat) : Option Nat → Option (Int × Int) → Bool
  | some n, some p => (decide (1 ≤ (n : Int)) && decide ((n : Int) ≤ p.2 - 1)) && decide ((cnt : Int) ≤ 6)
  | _, _ => false
def headV (v : ByteArray) : Int := ((v.data.toList.headD 0).toNat : Int)
def pairE (L : List PM) (v : ByteArray) : List (List UInt8) → Bool
  | [u, f, d] => d.length == 3 && (decide (1 ≤ (v.size : Int)) && decide ((v.size : Int) ≤ 86)) && (decide (48 ≤ headV v) && decide (headV v ≤ 51)) && mailN (countM L (bs u)) (decFrom 0 d) (metaM L (bs u) (bs f))
  | _ => false
theorem headV_at (v : ByteArray) (h : 0 < v.size) : headV v = (v[0].toNat : Int) := by
  unfold headV
  rw [head_at v h]
theorem l01InIs (b : Bool) (x lo hi : Int) (w : World) (h : (decide (lo ≤ x) && decide (x ≤ hi)) = b) : Calls Tryz.prog 49 #[.int .i64 x, .int .i64 lo, .int .i64 hi] w fun e w' => e = .returned (.bool b) ∧ w' = w := by
  rw [← h]; exact (l01In x lo hi w).mono fun e w' ⟨h1, h2⟩ => ⟨h1, h2.symm⟩
theorem digIs (b : Bool) (x : Int) (w : World) (h : digB x = b) : Calls Tryz.prog 141 #[.int .u8 x] w fun e w' => e = .returned (.bool b) ∧ w' = w := by
  rw [← h]; exact (digitS x w).mono fun e w' ⟨h1, h2⟩ => ⟨h1, h2.symm⟩
theorem wrapU (c : UInt8) (h : 48 ≤ c.toNat) : IntKind.u8.wrap ((c.toNat : Int) - 48) = (c.toNat : Int) - 48 := by
  have := c.toNat_lt
  rw [IntKind.wrap_u8]
  omega

set_option maxHeartbeats 4000000 in
theorem pairMail (a : Option Addr) (n c : Nat) (L : List PM) (pk pv : ByteArray) (aw : Option Addr) (cw : Nat) (G : List (List UInt8)) (m : Nat) (hm : G.length = m) (next : Int) (w : World) (hL : L.length = n) (hg : GoodL L) (hk0 : 0 < pk.size) (hv : pv.size ≤ 90) (hG : ∀ p ∈ G, p.length ≤ 90) (hG0 : G ≠ []) (h : Src w a (cellsP L)) (hw : Src w aw (cellsS (G.map bs))) (hch : pk[0] = 109) (bb : Bool) (HB : Hid ((pairE L pv G) = bb)) :
    Calls Tryz.prog 105 #[.slice a n c, .agg #[.string pk, .string pv], .slice aw m cw, .int .i64 next] w fun e w' => e = .returned (.bool bb) ∧ Below w.heap.size w w' := by
  have X0 : Hid (Box (w.alloc (.cells #[.string pk, .string pv] 68)) w.heap.size [.string pk, .string pv]) := Box.new rfl
  have A0 : Below w.heap.size w (w.alloc (.cells #[.string pk, .string pv] 68)) := (Below.refl _ _).alloc (Nat.le_refl _) _
  have HA : Hid (Below w.heap.size w (w.alloc (.cells #[.string pk, .string pv] 68))) := A0
  have H0 : Hid (Src (w.alloc (.cells #[.string pk, .string pv] 68)) a (cellsP L)) := h.below A0
  have HW : Hid (Src (w.alloc (.cells #[.string pk, .string pv] 68)) aw (cellsS (G.map bs))) := hw.below A0
  have HG : Hid (GoodL L) := hg
  have HL : Hid (L.length = n) := hL
  have hk0i : (0 : Int) < (pk.size : Int) := by omega
  clear A0 h hw hg hL
  have hc : (pk[0].toNat : Int) = 109 := by rw [hch]; rfl
  have hk117 : ((pk[0].toNat : Int) == 117) = false := by rw [hc]; rfl
  have hk102 : ((pk[0].toNat : Int) == 102) = false := by rw [hc]; rfl
  have hk109 : ((pk[0].toNat : Int) == 109) = true := by rw [hc]; rfl
  clear hch hc
  by_cases h2 : m ≠ 3
  · have HZ : Hid (false = bb) := by
      show _ = _
      rw [← HB.out]
      match G, hm with
      | [], _ => rfl
      | [_], _ => rfl
      | [_, _], _ => rfl
      | [_, _, _], h9 => exact absurd h9.symm h2
      | _ :: _ :: _ :: _ :: _, _ => rfl
    have hl : ((m : Int) != 3) = true := by simp; omega
    clear HB hm
    go_enter Tryz.func105, Tryz.ntmps105
    go_wp2_with fail
    go_ret
    exact ⟨ret_bool HZ.out, HA.out⟩
  have h22 : 3 = m := by omega
  subst h22
  match G, hm with
  | [u, f, d], _ =>
    have hus : (bs u).size ≤ 90 := hG u (by simp)
    have hfs : (bs f).size ≤ 90 := hG f (by simp)
    have hds : d.length ≤ 90 := hG d (by simp)
    obtain ⟨bq, oq, t0, rfl, c0, hy0⟩ := srcS HW.out (i := 0) (by simp)
    obtain ⟨bq2, oq2, t1, eq2, c1, hy1⟩ := srcS HW.out (i := 1) (by simp)
    cases eq2
    obtain ⟨bq3, oq3, t2, eq3, c2, hy2⟩ := srcS HW.out (i := 2) (by simp)
    cases eq3
    rw [Nat.add_zero] at c0
    have hya : bs u = t0 := hy0.out
    have hyb : bs f = t1 := hy1.out
    have hyc : bs d = t2 := hy2.out
    have hyd : d = t2.data.toList := by rw [← hyc]; rfl
    have hdl : d.length = t2.size := by rw [hyd, bytes_len]
    have HB2 : Hid (((t2.size == 3) && (decide (1 ≤ (pv.size : Int)) && decide ((pv.size : Int) ≤ 86)) && (decide (48 ≤ headV pv) && decide (headV pv ≤ 51)) && mailN (countM L t0) (decFrom 0 t2.data.toList) (metaM L t0 t1)) = bb) := by
      show _ = _
      rw [← hya, ← hyb, ← hdl, ← hyd]
      exact HB.out
    rw [hya] at hus
    rw [hyb] at hfs
    have hts : t2.size ≤ 90 := by omega
    clear hy0 hy1 hy2 hya hyb hyc hyd hdl hds HB hG hG0 HW
    by_cases h3 : t2.size = 3
    case neg =>
      have h3i : ((t2.size : Int) != 3) = true := by simp; omega
      have HZ : Hid (false = bb) := by
        show _ = _
        rw [← HB2.out, show (t2.size == 3) = false from by simpa using h3]
        rfl
      clear HB2
      go_enter Tryz.func105, Tryz.ntmps105
      go_wp2_with fail
      go_ret
      exact ⟨ret_bool HZ.out, HA.out⟩
    have h3i : ((t2.size : Int) != 3) = false := by rw [h3]; rfl
    obtain ⟨b1, hb1⟩ : ∃ b, (decide (1 ≤ (pv.size : Int)) && decide ((pv.size : Int) ≤ 86)) = b := ⟨_, rfl⟩
    rw [hb1, show (t2.size == 3) = true from by simpa using h3] at HB2
    cases b1 with
    | false =>
      have HZ : Hid (false = bb) := HB2
      clear HB2
      go_enter Tryz.func105, Tryz.ntmps105
      go_wp2_with fail
      refine (l01InIs false _ _ _ _ hb1).mono ?_
      rintro e w2 ⟨rfl, hw2⟩
      obtain rfl := hw2
      go_wp2_with fail
      go_ret
      exact ⟨ret_bool HZ.out, HA.out⟩
    | true =>
    have hp0 : 0 < pv.size := by
      simp only [Bool.and_eq_true, decide_eq_true_eq] at hb1
      omega
    have hp0i : (0 : Int) < (pv.size : Int) := by omega
    obtain ⟨b2, hb2⟩ : ∃ b, (decide (48 ≤ headV pv) && decide (headV pv ≤ 51)) = b := ⟨_, rfl⟩
    rw [hb2] at HB2
    rw [headV_at pv hp0] at hb2
    have hw64 := w64b pv[0]
    cases b2 with
    | false =>
      have HZ : Hid (false = bb) := HB2
      clear HB2
      go_enter Tryz.func105, Tryz.ntmps105
      go_wp2_with fail
      refine (l01InIs true _ _ _ _ hb1).mono ?_
      rintro e w2 ⟨rfl, hw2⟩
      obtain rfl := hw2
      go_wp2_with fail
      refine (l01InIs false _ _ _ _ hb2).mono ?_
      rintro e w2 ⟨rfl, hw2⟩
      obtain rfl := hw2
      go_wp2_with fail
      go_ret
      exact ⟨ret_bool HZ.out, HA.out⟩
    | true =>
    obtain ⟨R, hR⟩ : ∃ R, metaM L t0 t1 = R := ⟨_, rfl⟩
    obtain ⟨ok, hok⟩ : ∃ b, R.isSome = b := ⟨_, rfl⟩
    have HB3 : Hid (mailN (countM L t0) (decFrom 0 t2.data.toList) R = bb) := by
      show _ = _
      rw [← HB2.out, hR]
      rfl
    have CM : ∀ W, Src W a (cellsP L) → _ := fun W h9 => metaIs a n c L t0 t1 W HL.out HG.out (by omega) (by omega) h9 R ok hR hok
    have CC : ∀ W, Src W a (cellsP L) → _ := fun W h9 => l07CountS a n c L t0 W HL.out HG.out (by omega) h9
    have RNG : Hid (∀ p, R = some p → 1 ≤ p.1 ∧ p.1 ≤ 9999 ∧ 1 ≤ p.2 ∧ p.2 ≤ 999) := fun p h9 => meta_range (hR.trans h9)
    obtain ⟨cnt, hcnt⟩ : ∃ k, countM L t0 = k := ⟨_, rfl⟩
    have hcl : cnt ≤ 60 := by
      rw [← hcnt]
      unfold countM
      have h9 := List.length_filter_le (fun x : PM => beginsB x.1 (mailsK t0)) L
      have := HG.out.1
      omega
    rw [hcnt] at HB3
    simp only [hcnt] at CC
    clear HB2 hR hcnt
    go_enter Tryz.func105, Tryz.ntmps105
    go_wp2_with fail
    refine (l01InIs true _ _ _ _ hb1).mono ?_
    rintro e w2 ⟨rfl, hw2⟩
    obtain rfl := hw2
    go_wp2_with fail
    refine (l01InIs true _ _ _ _ hb2).mono ?_
    rintro e w2 ⟨rfl, hw2⟩
    obtain rfl := hw2
    go_wp2_with fail
    clear hb1 hb2 hw64
    go_loopw [17, 18] (fun nv iv wr => ∃ k u : Nat, k ≤ 3 ∧ nv = .int .i64 (u : Int) ∧ iv = .int .i64 (k : Int) ∧ Hid (u < 10 ^ k) ∧ Hid (decFrom 0 t2.data.toList = decFrom u (t2.data.toList.drop k)) ∧ wr = w.alloc (.cells #[.string pk, .string pv] 68)) (fun _ i _ => 3 - (RowKit.intOf i).toNat)
    case atStart => exact ⟨0, 0, by omega, rfl, rfl, by show 0 < 10 ^ 0; omega, rfl, rfl⟩
    case round =>
      obtain ⟨k, u, hk, rfl, rfl, hu, hd, rfl⟩ := hrel
      by_cases hlt : k < 3
      · have hlti : (k : Int) < 3 := by omega
        have hk2 : k < t2.size := by omega
        have hk2i : (k : Int) < (t2.size : Int) := by omega
        have hu2 : (u : Int) ≤ 1000 := by
          have h17 : 10 ^ k ≤ 10 ^ 3 := Nat.pow_le_pow_right (by omega) (by omega)
          have := hu.out
          omega
        have HD2 : Hid (decFrom 0 t2.data.toList = decFrom u (t2[k] :: t2.data.toList.drop (k + 1))) := by show _ = _; rw [hd.out, bytes_drop t2 k hk2]
        cases hdg : digB (t2[k].toNat : Int) with
        | false =>
          have hno : ¬ (48 ≤ t2[k].toNat ∧ t2[k].toNat ≤ 57) := by
            intro h9
            unfold digB at hdg
            rw [decide_eq_true (by omega), decide_eq_true (by omega)] at hdg
            cases hdg
          have HZ : Hid (false = bb) := by show _ = _; rw [← HB3.out, HD2.out, dec_no hno]; rfl
          clear HB3 HD2 hd hu hno
          go_wp2_with fail
          refine (digIs false _ _ hdg).mono ?_
          rintro e w2 ⟨rfl, hw2⟩
          obtain rfl := hw2
          go_wp2_with fail
          go_ret
          exact ⟨ret_bool HZ.out, HA.out⟩
        | true =>
          have hyes : 48 ≤ t2[k].toNat ∧ t2[k].toNat ≤ 57 := by
            unfold digB at hdg
            simp only [Bool.and_eq_true, decide_eq_true_eq] at hdg
            omega
          have HN2 : Hid (decFrom 0 t2.data.toList = decFrom (u * 10 + (t2[k].toNat - 48)) (t2.data.toList.drop (k + 1))) := by show _ = _; rw [HD2.out, dec_yes hyes.1 hyes.2]
          have HU : Hid (u * 10 + (t2[k].toNat - 48) < 10 ^ (k + 1)) := by
            show _ < _
            have := hu.out
            rw [Nat.pow_succ]
            omega
          have hw1 := wrapU t2[k] hyes.1
          have hw2 : wrap64 ((t2[k].toNat : Int) - 48) = (t2[k].toNat : Int) - 48 := by unfold wrap64; omega
          clear HD2 hd hu
          go_wp2_with fail
          refine (digIs true _ _ hdg).mono ?_
          rintro e w2 ⟨rfl, hw3⟩
          obtain rfl := hw3
          go_wp2_with fail
          exact ⟨⟨k + 1, u * 10 + (t2[k].toNat - 48), by omega, by congr 1; omega, by go_num, HU.out, HN2.out, trivial⟩, by simp [RowKit.intOf]; omega⟩
      · have hkn : k = 3 := by omega
        have HN : Hid (mailN cnt (some u) R = bb) := by
          show _ = _
          rw [← HB3.out, hd.out, bytes_end t2 k (by omega)]
          rfl
        have hu3 : (u : Int) ≤ 1000 := by
          have := hu.out
          rw [hkn] at this
          omega
        clear HB3 hd hu hkn
        go_upto_region 21 with fail
        refine wp_region_noPanic ?_
        refine wp_region_held_drew (S := fun w' => w'.cell? ⟨bq, oq, none⟩ = some (.string t0) ∧ w'.cell? ⟨bq, oq + 1, none⟩ = some (.string t1)) (by kernel_rfl) ⟨c0, c1⟩ (fun hHeld => ?_)
        refine tkA (i := 0) (v := .slice a n c) ?_ hHeld ?_
        · intro w9 hSw
          obtain ⟨z0, z1⟩ := hSw
          go_simp
        simp only [Act.put, List.setIfInBounds_toArray, List.set_cons_zero, List.set_cons_succ]
        refine tkA (i := 1) (v := .slice (some ⟨bq, oq, none⟩) 3 cw) ?_ hHeld ?_
        · intro w9 hSw
          obtain ⟨z0, z1⟩ := hSw
          go_simp
        simp only [Act.put, List.setIfInBounds_toArray, List.set_cons_zero, List.set_cons_succ]
        refine tkA (i := 2) (v := .pointer (some ⟨bq, oq, none⟩)) ?_ hHeld ?_
        · intro w9 hSw
          obtain ⟨z0, z1⟩ := hSw
          go_simp
        simp only [Act.put, List.setIfInBounds_toArray, List.set_cons_zero, List.set_cons_succ]
        refine tkA (i := 3) (v := .string t0) ?_ hHeld ?_
        · intro w9 hSw
          obtain ⟨z0, z1⟩ := hSw
          go_simp
        simp only [Act.put, List.setIfInBounds_toArray, List.set_cons_zero, List.set_cons_succ]
        refine tkA (i := 4) (v := .slice (some ⟨bq, oq, none⟩) 3 cw) ?_ hHeld ?_
        · intro w9 hSw
          obtain ⟨z0, z1⟩ := hSw
          go_simp
        simp only [Act.put, List.setIfInBounds_toArray, List.set_cons_zero, List.set_cons_succ]
        refine tkA (i := 5) (v := .pointer (some ⟨bq, oq + 1, none⟩)) ?_ hHeld ?_
        · intro w9 hSw
          obtain ⟨z0, z1⟩ := hSw
          go_simp
        simp only [Act.put, List.setIfInBounds_toArray, List.set_cons_zero, List.set_cons_succ]
        refine tkA (i := 6) (v := .string t1) ?_ hHeld ?_
        · intro w9 hSw
          obtain ⟨z0, z1⟩ := hSw
          go_simp
        simp only [Act.put, List.setIfInBounds_toArray, List.set_cons_zero, List.set_cons_succ]
        refine wpAnyH_ready (rs := [7]) (by kernel_rfl) (by simp) ?_
        refine AllReadyH.cons rfl (fun K hK => ?_) AllReadyH.nil
        go_simp
        refine (CM _ (H0.out.below ((Below.refl _ _).drew))).mono ?_
        rintro e w5 ⟨x, y, rfl, hmp, hb5⟩
        have MP : Hid (MetaPost R x y) := hmp
        have B5 : Hid (Below w.heap.size w w5) := HA.out.drew.trans (hb5.mono HA.out.drew.size)
        have S5 : Hid (Src w5 a (cellsP L)) := Src.below (w := (w.alloc (.cells #[.string pk, .string pv] 68)).drew) (H0.out.below ((Below.refl _ _).drew)) hb5
        have c0' : w5.cell? ⟨bq, oq, none⟩ = some (.string t0) := cell_later (w := (w.alloc (.cells #[.string pk, .string pv] 68)).drew) hb5 c0
        have c1' : w5.cell? ⟨bq, oq + 1, none⟩ = some (.string t1) := cell_later (w := (w.alloc (.cells #[.string pk, .string pv] 68)).drew) hb5 c1
        clear hb5 hmp
        dsimp only
        refine hK _ _ ⟨c0', c1'⟩ (fun hHeld => ?_)
        clear hK K
        refine tkA (i := 8) (v := .tuple #[.int .i64 x, .int .i64 y, .bool ok]) ?_ hHeld ?_
        · intro w9 hSw
          obtain ⟨z0, z1⟩ := hSw
          go_simp
        simp only [Act.put, List.setIfInBounds_toArray, List.set_cons_zero, List.set_cons_succ]
        refine tkA (i := 9) (v := .int .i64 x) ?_ hHeld ?_
        · intro w9 hSw
          obtain ⟨z0, z1⟩ := hSw
          go_simp
        simp only [Act.put, List.setIfInBounds_toArray, List.set_cons_zero, List.set_cons_succ]
        refine tkA (i := 10) (v := .int .i64 y) ?_ hHeld ?_
        · intro w9 hSw
          obtain ⟨z0, z1⟩ := hSw
          go_simp
        simp only [Act.put, List.setIfInBounds_toArray, List.set_cons_zero, List.set_cons_succ]
        refine tkA (i := 11) (v := .bool ok) ?_ hHeld ?_
        · intro w9 hSw
          obtain ⟨z0, z1⟩ := hSw
          go_simp
        simp only [Act.put, List.setIfInBounds_toArray, List.set_cons_zero, List.set_cons_succ]
        refine tkA (i := 12) (v := .int .i64 x) ?_ hHeld ?_
        · intro w9 hSw
          obtain ⟨z0, z1⟩ := hSw
          go_simp
        simp only [Act.put, List.setIfInBounds_toArray, List.set_cons_zero, List.set_cons_succ]
        refine tkA (i := 13) (v := .int .i64 y) ?_ hHeld ?_
        · intro w9 hSw
          obtain ⟨z0, z1⟩ := hSw
          go_simp
        simp only [Act.put, List.setIfInBounds_toArray, List.set_cons_zero, List.set_cons_succ]
        refine wpAnyH_ready (rs := [14]) (by kernel_rfl) (by simp) ?_
        refine AllReadyH.cons rfl (fun K hK => ?_) AllReadyH.nil
        go_simp
        refine hK _ _ ⟨c0', c1'⟩ (fun hHeld => ?_)
        clear hK K
        refine wpAnyH_done (by kernel_rfl) ?_ _
        refine NoPanic.normal ?_
        clear hHeld
        clear c0 c1 c2 X0 HA CM H0 c1'
        cases R with
        | none =>
          obtain rfl : false = ok := hok
          have HZ : Hid (false = bb) := HN
          go_wp2_with fail
          go_ret
          exact ⟨ret_bool HZ.out, B5.out⟩
        | some p =>
          obtain rfl : true = ok := hok
          obtain ⟨rfl, rfl⟩ := MP.out p rfl
          obtain ⟨x, y⟩ := p
          have HRNG := RNG.out _ rfl
          simp only at HRNG ⊢
          obtain ⟨b3, hb3⟩ : ∃ b, (decide (1 ≤ (u : Int)) && decide ((u : Int) ≤ y - 1)) = b := ⟨_, rfl⟩
          have HX : Hid ((b3 && decide ((cnt : Int) ≤ 6)) = bb) := by show _ = _; rw [← hb3]; exact HN.out
          clear HN RNG MP
          cases b3 with
          | false =>
            have HZ : Hid (false = bb) := HX
            clear HX
            go_wp2_with fail
            refine (l01InIs false _ _ _ _ hb3).mono ?_
            rintro e w2 ⟨rfl, hw2⟩
            obtain rfl := hw2
            go_wp2_with fail
            go_ret
            exact ⟨ret_bool HZ.out, B5.out⟩
          | true =>
            have HZ : Hid (decide ((cnt : Int) ≤ 6) = bb) := HX
            clear HX
            go_wp2_with fail
            refine (l01InIs true _ _ _ _ hb3).mono ?_
            rintro e w2 ⟨rfl, hw2⟩
            obtain rfl := hw2
            go_wp2_with fail
            refine (CC _ S5.out).mono ?_
            rintro e w6 ⟨rfl, hb6⟩
            have B6 : Hid (Below w.heap.size w w6) := B5.out.trans (hb6.mono B5.out.size)
            clear hb6
            go_wp2_with fail
            go_ret
            exact ⟨ret_bool HZ.out, B6.out⟩
def partsK (k : ByteArray) : List (List UInt8) := splitL 47 (k.data.toList.drop 2)
def kindB (L : List PM) (next : Int) (k v : ByteArray) : Bool :=
  if k.data.toList.headD 0 = 117 then pairU L v (partsK k) else
  if k.data.toList.headD 0 = 102 then pairF L next v (partsK k) else
  if k.data.toList.headD 0 = 109 then pairE L v (partsK k) else false
def slashB (k : ByteArray) : Bool := (k.data.toList.drop 1).headD 0 == 47
def pairB (L : List PM) (next : Int) (x : PM) : Bool :=
  if x.1 = vK then x.2.toList == (bs (itoa next)).toList else (decide (3 ≤ x.1.size) && slashB x.1) && kindB L next x.1 x.2
def storeB (L : List PM) : Bool := pairsB (fK L) (fV L) L.length && (decide (1 ≤ nextM L) && decide (nextM L ≤ 10000)) && L.all (pairB L (nextM L))

theorem l07NamesS (k : ByteArray) (w : World) (h2 : 2 ≤ k.size) (hk : k.size ≤ 1048576) : Calls Tryz.prog 65 #[.string k] w fun e w' => ∃ v, e = .returned v ∧ w'.ownsRow w.heap.size 9 1 v (partsK k).length (cellsS ((partsK k).map bs)) ∧ Below w.heap.size w w' := by
  have hd : (k.extract 2 k.size).data.toList = k.data.toList.drop 2 := by
    rw [ext_data k 2 k.size (Nat.le_refl _), List.take_of_length_le (by rw [List.length_drop, bytes_len]; exact Nat.le_refl _)]
  have hz : (k.extract 2 k.size).size ≤ 1048576 := by rw [ByteArray.size_extract]; omega
  have CC := l00CutS (k.extract 2 k.size) 47 w hz
  rw [hd] at CC
  obtain ⟨q, hq⟩ : ∃ q, k.extract 2 k.size = q := ⟨_, rfl⟩
  rw [hq] at CC
  have HQ : Hid (k.extract 2 k.size = q) := hq
  have h2i : (2 : Int) ≤ (k.size : Int) := by omega
  clear hd hz hq
  go_enter Tryz.func65, Tryz.ntmps65
  go_wp2_with fail
  rw [HQ.out]
  refine CC.mono ?_
  rintro e w1 ⟨v, rfl, own, hb⟩
  have O1 : Hid (_ ∧ _) := ⟨own, hb⟩
  clear own hb
  go_wp2_with fail
  go_ret
  exact ⟨v, rfl, O1.out.1, O1.out.2⟩
theorem l07PairS (a : Option Addr) (n c : Nat) (L : List PM) (pk pv : ByteArray) (aw : Option Addr) (m cw : Nat) (next : Int) (w : World) (hL : L.length = n) (hg : GoodL L) (hk0 : 2 ≤ pk.size) (hk1 : pk.size ≤ 30) (hv : pv.size ≤ 90) (hm : (partsK pk).length = m) (h : Src w a (cellsP L)) (hw : Src w aw (cellsS ((partsK pk).map bs))) (bb : Bool) (HB : Hid (kindB L next pk pv = bb)) :
    Calls Tryz.prog 105 #[.slice a n c, .agg #[.string pk, .string pv], .slice aw m cw, .int .i64 next] w fun e w' => e = .returned (.bool bb) ∧ Below w.heap.size w w' := by
  have hh : pk.data.toList.headD 0 = pk[0] := head_at pk (by omega)
  have hG : ∀ p ∈ partsK pk, p.length ≤ 90 := fun p hp => by
    have h1 := split_sizes 47 _ p hp
    rw [List.length_drop, bytes_len] at h1
    omega
  have hG0 : partsK pk ≠ [] := splitL_ne 47 _
  have HB2 := HB.out
  unfold kindB at HB2
  rw [hh] at HB2
  by_cases h1 : pk[0] = 117
  · rw [if_pos h1] at HB2
    exact pairUser a n c L pk pv aw cw (partsK pk) m hm next w hL hg (by omega) hv hG hG0 h hw h1 bb HB2
  rw [if_neg h1] at HB2
  by_cases h2 : pk[0] = 102
  · rw [if_pos h2] at HB2
    exact pairFolder a n c L pk pv aw cw (partsK pk) m hm next w hL hg (by omega) hv hG hG0 h hw h2 bb HB2
  rw [if_neg h2] at HB2
  by_cases h3 : pk[0] = 109
  · rw [if_pos h3] at HB2
    exact pairMail a n c L pk pv aw cw (partsK pk) m hm next w hL hg (by omega) hv hG hG0 h hw h3 bb HB2
  rw [if_neg h3] at HB2
  exact pairOther a n c L pk pv aw cw (partsK pk) m hm next w hL hg (by omega) hv hG hG0 h hw h1 h2 h3 bb HB2
theorem slash_at (k : ByteArray) (h : 1 < k.size) : slashB k = (k[1] == 47) := by
  unfold slashB
  rw [bytes_drop k 1 h]
  rfl
theorem all_next (L : List PM) (f : PM → Bool) (k : Nat) (h : k < L.length) : (L.drop k).all f = (f (L.getD k p0) && (L.drop (k + 1)).all f) := by
  rw [List.drop_eq_getElem_cons h, List.all_cons, List.getD_eq_getElem?_getD, List.getElem?_eq_getElem h]
  rfl
theorem all_end (L : List PM) (f : PM → Bool) (k : Nat) (h : L.length ≤ k) : (L.drop k).all f = true := by
  rw [List.drop_of_length_le h]; rfl
set_option maxHeartbeats 4000000 in
theorem specMailStoreOK (a : Option Addr) (n c : Nat) (L : List PM) (w : World) (hL : L.length = n) (hn : n ≤ 1048576) (hs : ∀ x ∈ L, x.1.size ≤ 1048576 ∧ x.2.size ≤ 1048576) (h : Src w a (cellsP L)) (bb : Bool) (HB : Hid (storeB L = bb)) :
    Calls Tryz.prog 56 #[.slice a n c] w fun e w' => e = .returned (.bool bb) ∧ Below w.heap.size w w' := by
  have HH : Hid (Src w a (cellsP L)) := h
  have CP := specPairsOK a n c (fK L) (fV L) w hn (fun i hi => by
    have hi2 : i < L.length := by omega
    have := hs _ (List.getElem_mem hi2)
    rw [(at_fst hi2).1, (at_fst hi2).2]
    exact this) (sp_src h hL)
  rw [← hL] at CP
  obtain ⟨gb, hgb⟩ : ∃ b, pairsB (fK L) (fV L) L.length = b := ⟨_, rfl⟩
  have HB1 := HB.out
  unfold storeB at HB1
  rw [hgb] at CP HB1
  rw [hL] at CP
  have HL : Hid (L.length = n) := hL
  by_cases hbig : (4096 : Int) < (n : Int)
  · have hg0 : gb = false := by
      rw [← hgb]; exact pairsB_many _ _ _ (by omega)
    have HZ : Hid (false = bb) := by show _ = _; rw [← HB1, hg0]; rfl
    clear HB1 HB CP hgb h hs hL
    go_enter Tryz.func56, Tryz.ntmps56
    go_wp2_with fail
    go_ret
    exact ⟨ret_bool HZ.out, Below.refl _ _⟩
  cases gb with
  | false =>
    have HZ : Hid (false = bb) := HB1
    clear HB1 HB hgb h hs hL
    go_enter Tryz.func56, Tryz.ntmps56
    go_wp2_with fail
    refine CP.mono ?_
    rintro e w1 ⟨rfl, hb1⟩
    go_wp2_with fail
    go_ret
    exact ⟨ret_bool HZ.out, hb1⟩
  | true =>
    have hgood := good_of hgb
    have HG : Hid (GoodL L) := hgood
    obtain ⟨nx, hnx⟩ : ∃ z, nextM L = z := ⟨_, rfl⟩
    rw [hnx] at HB1
    obtain ⟨rb, hrb⟩ : ∃ b, (decide (1 ≤ nx) && decide (nx ≤ 10000)) = b := ⟨_, rfl⟩
    rw [hrb] at HB1
    have CN : ∀ W, Src W a (cellsP L) → Calls Tryz.prog 63 #[.slice a n c] W fun e w' => e = .returned (.int .i64 nx) ∧ w' = W := fun W h9 => by rw [← hnx]; exact l07NextS a n c L W hL hgood h9
    clear HB hgb h hs hL hgood hnx
    cases rb with
    | false =>
      have HZ : Hid (false = bb) := HB1
      clear HB1
      go_enter Tryz.func56, Tryz.ntmps56
      go_wp2_with fail
      refine CP.mono ?_
      rintro e w1 ⟨rfl, hb1⟩
      have B1 : Hid (Below w.heap.size w w1) := hb1
      clear hb1
      go_wp2_with fail
      refine (CN _ (HH.out.below B1.out)).mono ?_
      rintro e w2 ⟨rfl, hw2⟩
      obtain rfl := hw2
      go_wp2_with fail
      refine (l01InIs false _ _ _ _ hrb).mono ?_
      rintro e w3 ⟨rfl, hw3⟩
      obtain rfl := hw3
      go_wp2_with fail
      go_ret
      exact ⟨ret_bool HZ.out, B1.out⟩
    | true =>
      have HALL : Hid (L.all (pairB L nx) = bb) := HB1
      have hnx0 : 1 ≤ nx ∧ nx ≤ 10000 := by simpa using hrb
      have DN := fun W => digitsI nx (by omega) (by omega) W
      obtain ⟨T, hT⟩ : ∃ T, bs (itoa nx) = T := ⟨_, rfl⟩
      rw [hT] at DN
      have HT : Hid (bs (itoa nx) = T) := hT
      clear HB1 hT
      go_enter Tryz.func56, Tryz.ntmps56
      go_wp2_with fail
      refine CP.mono ?_
      rintro e w1 ⟨rfl, hb1⟩
      have B1 : Hid (Below w.heap.size w w1) := hb1
      clear hb1 CP
      go_wp2_with fail
      refine (CN _ (HH.out.below B1.out)).mono ?_
      rintro e w2 ⟨rfl, hw2⟩
      obtain rfl := hw2
      go_wp2_with fail
      refine (l01InIs true _ _ _ _ hrb).mono ?_
      rintro e w3 ⟨rfl, hw3⟩
      obtain rfl := hw3
      clear CN hrb
      go_wp2_with fail
      go_loopw [4] (fun iv wr => ∃ k : Nat, k ≤ n ∧ iv = .int .i64 (k : Int) ∧ Hid ((L.drop k).all (pairB L nx) = bb) ∧ Hid (Below w.heap.size w wr)) (fun i _ => n - (RowKit.intOf i).toNat)
      case atStart => exact ⟨0, by omega, rfl, HALL.out, B1.out⟩
      case round =>
        obtain ⟨k, hk, rfl, hall, hbr⟩ := hrel
        by_cases hlt : k < n
        · have hlti : (k : Int) < (n : Int) := by omega
          have hkL : k < L.length := by rw [HL.out]; exact hlt
          obtain ⟨b, o, pk, pv, rfl, hc0, hc1, hy⟩ := srcP (HH.out.below hbr.out) hkL
          have hmem : (pk, pv) ∈ L := by rw [← hy.out]; exact mem_getD L p0 k hkL
          have hsz := HG.out.2.1 _ hmem
          have hs1 : pk.size ≤ 30 := hsz.2.1
          have hs2 : pv.size ≤ 90 := hsz.2.2
          have HA2 := hall.out
          rw [all_next L _ k hkL, hy.out] at HA2
          obtain ⟨pb, hpb⟩ : ∃ x, pairB L nx (pk, pv) = x := ⟨_, rfl⟩
          rw [hpb] at HA2
          have HA3 : Hid ((pb && (L.drop (k + 1)).all (pairB L nx)) = bb) := HA2
          clear hall HA2 hmem hsz hkL
          have X0 : Hid (Box (wr.alloc (.cells #[.string pk, .string pv] 68)) wr.heap.size [.string pk, .string pv]) := Box.new rfl
          have B2 : Hid (Below w.heap.size w (wr.alloc (.cells #[.string pk, .string pv] 68))) := hbr.out.alloc hbr.out.size _
          by_cases hv : pk = vK
          · have hpb2 : (pv.toList == T.toList) = pb := by
              rw [← hpb, ← HT.out]
              show _ = if pk = vK then _ else _
              rw [if_pos hv]
            clear hpb
            subst hv
            obtain ⟨p0', _⟩ := X0.out 0 _ rfl
            obtain ⟨p1', _⟩ := X0.out 1 _ rfl
            have P1 : Hid ((wr.alloc (.cells #[.string vK, .string pv] 68)).cell? ⟨wr.heap.size, 1, none⟩ = some (.string pv)) := p1'
            go_upto_region 13 with fail
            refine wp_region_noPanic ?_
            refine wp_region_held_drew (S := fun w' => w'.cell? ⟨wr.heap.size, 1, none⟩ = some (.string pv)) (by kernel_rfl) P1.out (fun hHeld => ?_)
            refine tkA (i := 0) (v := .pointer (some ⟨wr.heap.size, 1, none⟩)) ?_ hHeld ?_
            · intro w9 hSw
              go_simp
            simp only [Act.put, List.setIfInBounds_toArray, List.set_cons_zero, List.set_cons_succ]
            refine tkA (i := 1) (v := .string pv) ?_ hHeld ?_
            · intro w9 hSw
              go_simp
            simp only [Act.put, List.setIfInBounds_toArray, List.set_cons_zero, List.set_cons_succ]
            refine tkA (i := 2) (v := .int .i64 nx) ?_ hHeld ?_
            · intro w9 hSw
              go_simp
            simp only [Act.put, List.setIfInBounds_toArray, List.set_cons_zero, List.set_cons_succ]
            refine wpAnyH_ready (rs := [3]) (by kernel_rfl) (by simp) ?_
            refine AllReadyH.cons rfl (fun K hK => ?_) AllReadyH.nil
            go_simp
            refine (DN _).mono ?_
            rintro e w5 ⟨rfl, hb5⟩
            have B5 : Hid (Below w.heap.size w w5) := B2.out.drew.trans (hb5.mono B2.out.drew.size)
            have P5 : Hid (w5.cell? ⟨wr.heap.size, 1, none⟩ = some (.string pv)) := cell_later (w := (wr.alloc (.cells #[.string vK, .string pv] 68)).drew) hb5 P1.out
            clear hb5
            dsimp only
            refine hK _ _ P5.out (fun hHeld => ?_)
            clear hK K
            refine wpAnyH_ready (rs := [4]) (by kernel_rfl) (by simp) ?_
            refine AllReadyH.cons rfl (fun K hK => ?_) AllReadyH.nil
            go_simp
            refine hK _ _ P5.out (fun hHeld => ?_)
            clear hK K
            refine wpAnyH_done (by kernel_rfl) ?_ _
            refine NoPanic.normal ?_
            clear hHeld
            cases pb with
            | false =>
              have HZ : Hid (false = bb) := HA3
              go_wp2_with fail
              go_ret
              exact ⟨ret_bool HZ.out, B5.out⟩
            | true =>
              have HZ : Hid ((L.drop (k + 1)).all (pairB L nx) = bb) := HA3
              go_wp2_with fail
              exact ⟨⟨k + 1, by omega, by go_num, HZ.out, B5.out⟩, by simp [RowKit.intOf]; omega⟩
          · have hvi : (pk.toList == (vK).toList) = false := beq_eq_false_iff_ne.2 (fun h9 => hv (toList_inj h9))
            have hv2 : ¬ pk.toList = [118] := fun h9 => hv (toList_inj (by rw [h9, ByteArray.toList_eq]))
            have hv3 : (pk.toList == [118]) = false := beq_eq_false_iff_ne.2 hv2
            have hpb2 : ((decide (3 ≤ pk.size) && slashB pk) && kindB L nx pk pv) = pb := by
              rw [← hpb]
              show _ = if pk = vK then _ else _
              rw [if_neg hv]
            obtain ⟨p0', _⟩ := X0.out 0 _ rfl
            obtain ⟨p1', _⟩ := X0.out 1 _ rfl
            clear hpb
            by_cases h3 : pk.size < 3
            · have h3i : (pk.size : Int) < 3 := by omega
              have HZ : Hid (false = bb) := by
                show _ = _
                rw [← HA3.out, ← hpb2, decide_eq_false (by omega)]
                rfl
              clear HA3 hpb2
              go_wp2_with fail
              go_ret
              exact ⟨ret_bool HZ.out, B2.out⟩
            have h3i : ¬ (pk.size : Int) < 3 := by omega
            have h1i : (1 : Int) < (pk.size : Int) := by omega
            rw [decide_eq_true (show 3 ≤ pk.size by omega), slash_at pk (by omega)] at hpb2
            by_cases h47 : pk[1] = 47
            · have h47i : ((pk[1].toNat : Int) != 47) = false := by rw [h47]; rfl
              obtain ⟨kb, hkb⟩ : ∃ x, kindB L nx pk pv = x := ⟨_, rfl⟩
              have hpb3 : kb = pb := by rw [← hpb2, ← hkb, h47]; rfl
              have HKB : Hid (kindB L nx pk pv = pb) := hkb.trans hpb3
              clear hpb2 hkb hpb3
              have CNM := l07NamesS pk (wr.alloc (.cells #[.string pk, .string pv] 68)) (by omega) (by omega)
              obtain ⟨m, hm⟩ : ∃ m, (partsK pk).length = m := ⟨_, rfl⟩
              have HM : Hid ((partsK pk).length = m) := hm
              rw [hm] at CNM
              clear hm
              go_wp2_with fail
              refine CNM.mono ?_
              rintro e w5 ⟨v, rfl, own, hb5⟩
              obtain ⟨aa, cc, rfl, hsrc, _⟩ := own_src own
              have HS : Hid (Src w5 aa (cellsS ((partsK pk).map bs))) := hsrc
              have B5 : Hid (Below w.heap.size w w5) := B2.out.trans (hb5.mono B2.out.size)
              have X5 := X0.out.below hb5
              obtain ⟨q0, _⟩ := X5 0 _ rfl
              obtain ⟨q1, _⟩ := X5 1 _ rfl
              clear own hsrc hb5 X5 X0 p0' p1' CNM
              go_wp2_with fail
              refine (l07PairS _ n c L pk pv aa m cc nx _ HL.out HG.out (by omega) hs1 hs2 HM.out (HH.out.below B5.out) HS.out pb HKB).mono ?_
              rintro e w6 ⟨rfl, hb6⟩
              have B6 : Hid (Below w.heap.size w w6) := B5.out.trans (hb6.mono B5.out.size)
              clear hb6 q0 q1
              cases pb with
              | false =>
                have HZ : Hid (false = bb) := HA3
                go_wp2_with fail
                go_ret
                exact ⟨ret_bool HZ.out, B6.out⟩
              | true =>
                have HZ : Hid ((L.drop (k + 1)).all (pairB L nx) = bb) := HA3
                go_wp2_with fail
                exact ⟨⟨k + 1, by omega, by go_num, HZ.out, B6.out⟩, by simp [RowKit.intOf]; omega⟩
            · have h47i : ((pk[1].toNat : Int) != 47) = true := by
                rw [bne_iff_ne]
                exact fun h9 => h47 (UInt8.toNat_inj.1 (by have : (47 : UInt8).toNat = 47 := rfl; omega))
              have HZ : Hid (false = bb) := by
                show _ = _
                rw [← HA3.out, ← hpb2, show (pk[1] == 47) = false from beq_eq_false_iff_ne.2 h47]
                rfl
              clear HA3 hpb2
              go_wp2_with fail
              go_ret
              exact ⟨ret_bool HZ.out, B2.out⟩
        · have HZ : Hid (true = bb) := by
            show _ = _
            rw [← hall.out, all_end L _ k (by rw [HL.out]; omega)]
          clear hall
          go_wp2_with fail
          go_ret
          exact ⟨ret_bool HZ.out, hbr.out⟩
def ownerG : List (List UInt8) → Option ByteArray
  | [a, b] => if a = [117] then some (bs b) else none
  | [a, b, _] => if a = [102] then some (bs b) else none
  | [a, b, _, _] => if a = [109] then some (bs b) else none
  | _ => none
def ownerM (p : PM) : Option ByteArray := ownerG (splitL 47 p.1.data.toList)
theorem take_other {nx : Int} {u : ByteArray} {S : SM} {p : PM} {G : List (List UInt8)} (h : ownerG G ≠ some u) : takeP nx u S p G = asideM S p := by
  match G, h with
  | [], _ => rfl
  | [_], _ => rfl
  | [a, b], h => exact if_neg fun h9 => h (by show (if a = [117] then _ else _) = _; rw [if_pos h9.2, h9.1])
  | [a, b, c], h => exact if_neg fun h9 => h (by show (if a = [102] then _ else _) = _; rw [if_pos h9.2, h9.1])
  | [a, b, c, d], h => exact if_neg fun h9 => h (by show (if a = [109] then _ else _) = _; rw [if_pos h9.2, h9.1])
  | _ :: _ :: _ :: _ :: _ :: _, _ => rfl
theorem put_aside {S S' : SM} {o : Option FM} (h : putM S o = some S') : S'.aside = S.aside ∧ S'.word = S.word := by
  unfold putM at h
  obtain ⟨g, rfl, rfl⟩ := Option.map_eq_some_iff.1 h
  exact ⟨rfl, rfl⟩
theorem ite_some {α : Type} {c : Prop} [Decidable c] {x y : α} (h : (if c then some x else none) = some y) : c ∧ x = y := by
  split at h
  · cases h; exact ⟨by assumption, rfl⟩
  · cases h
theorem take_own {nx : Int} {u : ByteArray} {S S' : SM} {p : PM} {G : List (List UInt8)} (h : ownerG G = some u) (hs : takeP nx u S p G = some S') : S'.aside = S.aside := by
  match G, h, hs with
  | [], h, _ => cases h
  | [_], h, _ => cases h
  | [a, b], h, hs =>
    obtain ⟨h1, h2⟩ := ite_some h
    have h3 : takeP nx u S p [a, b] = userM u S p.2 := if_pos ⟨h2, h1⟩
    rw [h3] at hs
    unfold userM at hs
    split at hs
    · cases hs; rfl
    · cases hs
  | [a, b, c], h, hs =>
    obtain ⟨h1, h2⟩ := ite_some h
    have h3 : takeP nx u S p [a, b, c] = putM S (folderM nx (bs c) p.2) := if_pos ⟨h2, h1⟩
    rw [h3] at hs
    exact (put_aside hs).1
  | [a, b, c, d], h, hs =>
    obtain ⟨h1, h2⟩ := ite_some h
    have h3 : takeP nx u S p [a, b, c, d] = putM S (mailM S.fs (bs c) (bs d) p.2) := if_pos ⟨h2, h1⟩
    rw [h3] at hs
    exact (put_aside hs).1
  | _ :: _ :: _ :: _ :: _ :: _, h, _ => cases h
abbrev isOwn (u : ByteArray) (p : PM) : Bool := decide (ownerM p = some u)
theorem all_aside {nx : Int} {u : ByteArray} : ∀ {L : List PM} {S S' : SM}, takeAll nx u S L = some S' → S'.aside = S.aside ++ L.filter fun p => !isOwn u p
  | [], S, S', h => by cases h; simp
  | p :: L, S, S', h => by
    unfold takeAll at h
    obtain ⟨S1, h1, h2⟩ := Option.bind_eq_some_iff.1 h
    have ih := all_aside h2
    by_cases ho : ownerM p = some u
    · have h3 : S1.aside = S.aside := take_own ho h1
      rw [ih, h3, List.filter_cons_of_neg (by simp [isOwn, ho])]
    · have h3 : asideM S p = some S1 := (take_other ho).symm.trans h1
      cases h3
      rw [ih, List.filter_cons_of_pos (by simp [isOwn, ho])]
      simp
theorem len_split {α : Type} (f : α → Bool) : ∀ L : List α, (L.filter f).length + (L.filter fun x => !f x).length = L.length
  | [] => rfl
  | x :: L => by
    have ih := len_split f L
    cases h : f x with
    | true => rw [List.filter_cons_of_pos h, List.filter_cons_of_neg (by simp [h]), List.length_cons, List.length_cons]; omega
    | false => rw [List.filter_cons_of_neg (by simp [h]), List.filter_cons_of_pos (by simp [h]), List.length_cons, List.length_cons]; omega
def ownN (u : ByteArray) (L : List PM) : Nat := (L.filter (isOwn u)).length
theorem aside_own {nx : Int} {u : ByteArray} {L : List PM} (h : layF nx u S0 L = true) : L.length - asideN nx u L = ownN u L := by
  unfold layF at h
  split at h
  · rename_i S hS
    have h1 := all_aside hS
    have h2 := len_split (isOwn u) L
    unfold asideN ownN
    rw [hS]
    show L.length - S.aside.length = _
    rw [h1]
    show L.length - ([] ++ L.filter fun p => !isOwn u p).length = _
    rw [List.nil_append]
    omega
  · cases h
def sumN : List Nat → Nat
  | [] => 0
  | x :: l => x + sumN l
def usersOf (L : List PM) : List ByteArray := (L.filter fun p => userI p.1).map fun p => userN p.1
theorem known_eq {nx : Int} {L0 : List PM} : ∀ (L : List PM) (t : Nat), knownM nx L0 t L = if (usersOf L).all (fun u => layF nx u S0 L0) = true then some (t + sumN ((usersOf L).map fun u => ownN u L0)) else none
  | [], t => rfl
  | p :: L, t => by
    unfold knownM
    cases hu : userI p.1 with
    | false =>
      have h1 : usersOf (p :: L) = usersOf L := by unfold usersOf; rw [List.filter_cons_of_neg (by simp [hu])]
      rw [if_neg (by simp), h1]
      exact known_eq L t
    | true =>
      have h1 : usersOf (p :: L) = userN p.1 :: usersOf L := by unfold usersOf; rw [List.filter_cons_of_pos (by simp [hu])]; rfl
      rw [if_pos rfl, h1, List.all_cons, List.map_cons]
      cases hl : layF nx (userN p.1) S0 L0 with
      | false => simp
      | true =>
        rw [if_pos rfl, known_eq L, aside_own hl, Bool.true_and]
        show _ = if _ then some (t + (ownN (userN p.1) L0 + sumN _)) else none
        rw [Nat.add_assoc]
def own1 (Us : List ByteArray) (q : PM) : Nat := (Us.filter fun u => isOwn u q).length
theorem swap_one (q : PM) (L : List PM) : ∀ Us : List ByteArray, sumN (Us.map fun u => ownN u (q :: L)) = own1 Us q + sumN (Us.map fun u => ownN u L)
  | [] => rfl
  | u :: Us => by
    have ih := swap_one q L Us
    rw [List.map_cons, List.map_cons]
    show ownN u (q :: L) + sumN _ = _ + (ownN u L + sumN _)
    rw [ih]
    unfold ownN own1
    cases h : isOwn u q with
    | true => simp only [List.filter_cons, h, if_true, List.length_cons]; omega
    | false => simp only [List.filter_cons, h, Bool.false_eq_true, if_false]; omega
theorem swap_all (Us : List ByteArray) : ∀ L : List PM, sumN (Us.map fun u => ownN u L) = sumN (L.map (own1 Us))
  | [] => by
    induction Us with
    | nil => rfl
    | cons u Us ih => rw [List.map_cons]; show 0 + sumN _ = _; rw [ih]; rfl
  | q :: L => by rw [swap_one, swap_all Us L]; rfl
theorem own1_none {q : PM} : ∀ {Us : List ByteArray}, (∀ u ∈ Us, ownerM q ≠ some u) → own1 Us q = 0
  | Us, h => by
    unfold own1
    rw [List.length_eq_zero_iff, List.filter_eq_nil_iff]
    intro u hu
    simp [isOwn, h u hu]
theorem own1_le {q : PM} : ∀ {Us : List ByteArray}, Us.Nodup → own1 Us q ≤ 1 ∧ (own1 Us q = 1 ↔ ∃ u ∈ Us, ownerM q = some u)
  | [], _ => by simp [own1]
  | u :: Us, h => by
    obtain ⟨h1, h2⟩ := List.nodup_cons.1 h
    have ih := own1_le (q := q) h2
    by_cases ho : ownerM q = some u
    · have h3 : own1 Us q = 0 := own1_none fun z hz e => by
        rw [ho] at e
        cases e
        exact h1 hz
      have h4 : own1 (u :: Us) q = 1 := by
        unfold own1 at h3 ⊢
        rw [List.filter_cons_of_pos (by simp [isOwn, ho]), List.length_cons, h3]
      rw [h4]
      exact ⟨Nat.le_refl _, fun _ => ⟨u, List.mem_cons_self, ho⟩, fun _ => rfl⟩
    · have h4 : own1 (u :: Us) q = own1 Us q := by
        unfold own1
        rw [List.filter_cons_of_neg (by simp [isOwn, ho])]
      rw [h4]
      refine ⟨ih.1, ih.2.trans ?_⟩
      constructor
      · rintro ⟨z, hz, e⟩; exact ⟨z, List.mem_cons_of_mem _ hz, e⟩
      · rintro ⟨z, hz, e⟩
        rcases List.mem_cons.1 hz with rfl | hz
        · exact absurd e ho
        · exact ⟨z, hz, e⟩
theorem sum_full (f : PM → Nat) : ∀ L : List PM, (∀ q ∈ L, f q ≤ 1) → (sumN (L.map f) ≤ L.length ∧ (sumN (L.map f) = L.length ↔ ∀ q ∈ L, f q = 1))
  | [], _ => by simp [sumN]
  | q :: L, h => by
    obtain ⟨h1, h2⟩ := sum_full f L fun x hx => h x (List.mem_cons_of_mem _ hx)
    have h3 := h q List.mem_cons_self
    rw [List.map_cons, List.length_cons]
    show f q + sumN _ ≤ _ ∧ (f q + sumN _ = _ ↔ _)
    refine ⟨by omega, ?_⟩
    constructor
    · intro h4 x hx
      rcases List.mem_cons.1 hx with rfl | hx
      · omega
      · exact h2.1 (by omega) x hx
    · intro h4
      have h5 := h2.2 fun x hx => h4 x (List.mem_cons_of_mem _ hx)
      have h6 := h4 q List.mem_cons_self
      omega
theorem sum_add (f g : PM → Nat) : ∀ L : List PM, sumN (L.map fun q => f q + g q) = sumN (L.map f) + sumN (L.map g)
  | [] => rfl
  | q :: L => by
    have ih := sum_add f g L
    rw [List.map_cons, List.map_cons, List.map_cons]
    show (f q + g q) + sumN _ = (f q + sumN _) + (g q + sumN _)
    omega
theorem sum_one {k : ByteArray} : ∀ {L : List PM}, UpL L → (∃ q ∈ L, q.1 = k) → sumN (L.map fun q => if q.1 = k then 1 else 0) = 1
  | [], _, ⟨_, h, _⟩ => by cases h
  | q :: L, hu, hx => by
    obtain ⟨h1, h2⟩ := List.pairwise_cons.1 hu
    rw [List.map_cons]
    show (if q.1 = k then 1 else 0) + sumN _ = 1
    by_cases e : q.1 = k
    · rw [if_pos e]
      have h3 : ∀ z ∈ L, z.1 ≠ k := fun z hz e9 => by
        have h9 := h1 z hz
        rw [e, e9] at h9
        exact ltK_irrefl _ h9
      have h4 : ∀ {M : List PM}, (∀ z ∈ M, z.1 ≠ k) → sumN (M.map fun q => if q.1 = k then 1 else 0) = 0 := by
        intro M hM
        induction M with
        | nil => rfl
        | cons z M ih =>
          rw [List.map_cons]
          show (if z.1 = k then 1 else 0) + sumN _ = 0
          rw [if_neg (hM z List.mem_cons_self), ih fun y hy => hM y (List.mem_cons_of_mem _ hy)]
      rw [h4 h3]
    · rw [if_neg e]
      obtain ⟨z, hz, ez⟩ := hx
      rcases List.mem_cons.1 hz with rfl | hz
      · exact absurd ez e
      · rw [sum_one h2 ⟨z, hz, ez⟩]
theorem userI_key {k : ByteArray} (h : userI k = true) : k = userK (userN k) := by
  unfold userI Lib.hasPrefix at h
  obtain ⟨r, hr⟩ := List.isPrefixOf_iff_prefix.1 h
  have h2 : (userN k).data.toList = r := by
    unfold userN Lib.trimPrefix Lib.hasPrefix
    rw [if_pos h, ← hr]
    rfl
  apply bs_inj
  rw [← hr, show (userK (userN k)).data.toList = 117 :: 47 :: (userN k).data.toList by simp [userK, ByteArray.data_append], h2]
  rfl
theorem userI_of (u : ByteArray) : userI (userK u) = true ∧ userN (userK u) = u := by
  have h1 : (userK u).data.toList = 117 :: 47 :: u.data.toList := by simp [userK, ByteArray.data_append]
  have h2 : userI (userK u) = true := by
    unfold userI Lib.hasPrefix
    rw [h1]
    simp
  refine ⟨h2, bs_inj ?_⟩
  unfold userN Lib.trimPrefix
  unfold userI at h2
  rw [if_pos h2, h1]
  rfl
theorem users_mem {L : List PM} {u : ByteArray} : u ∈ usersOf L ↔ ∃ q ∈ L, q.1 = userK u := by
  unfold usersOf
  rw [List.mem_map]
  constructor
  · rintro ⟨q, hq, rfl⟩
    rw [List.mem_filter] at hq
    exact ⟨q, hq.1, userI_key hq.2⟩
  · rintro ⟨q, hq, e⟩
    refine ⟨q, List.mem_filter.2 ⟨hq, ?_⟩, ?_⟩
    · rw [e]; exact (userI_of u).1
    · rw [e]; exact (userI_of u).2
theorem users_nodup {L : List PM} (hu : UpL L) : (usersOf L).Nodup := by
  unfold usersOf
  rw [List.Nodup, List.pairwise_map]
  have h1 : (L.filter fun p => userI p.1).Pairwise fun x y => ltK x.1 y.1 := List.Pairwise.filter _ hu
  refine List.Pairwise.imp_of_mem ?_ h1
  intro x y hx hy hlt e
  rw [List.mem_filter] at hx hy
  rw [userI_key hx.2, userI_key hy.2, e] at hlt
  exact ltK_irrefl _ hlt
theorem owner_v {q : PM} (h : q.1 = vK) : ownerM q = none := by
  unfold ownerM
  rw [h]
  rfl
/-- What the program's count tells. -/
theorem known_iff {nx : Int} {L : List PM} (hn : nx = nextM L) (hu : UpL L) (hv : ∃ q ∈ L, q.1 = vK) :
    knownB L = true ↔ (∀ u, (∃ q ∈ L, q.1 = userK u) → layF nx u S0 L = true) ∧ ∀ q ∈ L, q.1 = vK ∨ ∃ u, ownerM q = some u ∧ ∃ z ∈ L, z.1 = userK u := by
  unfold knownB
  rw [← hn, known_eq]
  have hnd := users_nodup hu
  have h1 := sum_one hu hv
  have h2 := sum_add (own1 (usersOf L)) (fun q => if q.1 = vK then 1 else 0) L
  have hle : ∀ q ∈ L, own1 (usersOf L) q + (if q.1 = vK then 1 else 0) ≤ 1 := fun q hq => by
    by_cases e : q.1 = vK
    · rw [if_pos e, own1_none fun u hu9 h9 => by rw [owner_v e] at h9; cases h9]
      exact Nat.le_refl _
    · rw [if_neg e]; exact (own1_le hnd).1
  have h3 := sum_full (fun q => own1 (usersOf L) q + (if q.1 = vK then 1 else 0)) L hle
  have hall : (usersOf L).all (fun u => layF nx u S0 L) = true ↔ ∀ u, (∃ q ∈ L, q.1 = userK u) → layF nx u S0 L = true := by
    rw [List.all_eq_true]
    exact ⟨fun h u hx => h u (users_mem.2 hx), fun h u hx => h u (users_mem.1 hx)⟩
  have hq : (∀ q ∈ L, own1 (usersOf L) q + (if q.1 = vK then 1 else 0) = 1) ↔ ∀ q ∈ L, q.1 = vK ∨ ∃ u, ownerM q = some u ∧ ∃ z ∈ L, z.1 = userK u := by
    constructor
    · intro h q hq
      by_cases e : q.1 = vK
      · exact .inl e
      · have h9 := h q hq
        rw [if_neg e, Nat.add_zero] at h9
        obtain ⟨u, h7, h6⟩ := (own1_le hnd).2.1 h9
        exact .inr ⟨u, h6, users_mem.1 h7⟩
    · intro h q hq
      rcases h q hq with e | ⟨u, h7, h6⟩
      · rw [if_pos e, own1_none fun u hu9 h9 => by rw [owner_v e] at h9; cases h9]
      · have e : q.1 ≠ vK := fun e => by rw [owner_v e] at h7; cases h7
        rw [if_neg e, Nat.add_zero]
        exact (own1_le hnd).2.2 ⟨u, users_mem.2 h6, h7⟩
  rw [← hall, ← hq, ← h3.2, h2, h1, swap_all]
  by_cases ha : (usersOf L).all (fun u => layF nx u S0 L) = true
  · rw [if_pos ha]
    simp only [ha, true_and, decide_eq_true_eq]
    omega
  · rw [if_neg ha]
    simp [ha]
end Go.Proofs.YthgbclipknfmjaaGreatDoor
