
/-
  Mail stores, of the specification: what a right pair of a mail is. By an AI agent.
-/
import Derived.Test.YthgbclipknfmjaaGreatDoorMpr
namespace Go.Proofs.YthgbclipknfmjaaGreatDoor
open Go.ChangeShapes Go.WideShapes Go.ChangeAt Go.RowKit Go.Deep Go.Lib
set_option linter.unusedVariables false
set_option linter.unusedSimpArgs false
set_option maxRecDepth 100000

def mailN (cnt : Nat) : Option Nat → Option (Int × Int) → Bool
  | some n, some p => (decide (1 ≤ (n : Int)) && decide ((n : Int) ≤ p.2 - 1)) && decide ((cnt : Int) ≤ 6)
  | _, _ => false
def headV (v : ByteArray) : Int := ((v.data.toList.headD 0).toNat : Int)
def pairE (L : List PM) (v : ByteArray) : List (List UInt8) → Bool
  | [u, f, d] => d.length == 3 && (decide (1 ≤ (v.size : Int)) && decide ((v.size : Int) ≤ 86)) && (decide (48 ≤ headV v) && decide (headV v ≤ 51)) && mailN (countM L (bs u)) (decFrom 0 d) (metaM L (bs u) (bs f))
  | _ => false
theorem headV_at (v : ByteArray) (h : 0 < v.size) : headV v = (v[0].toNat : Int) := by
  unfold headV
  rw [head_at v h]
theorem dec_bound {d : List UInt8} {n : Nat} (h : decFrom 0 d = some n) (hl : d.length = 3) : n < 1000 := by
  match d, hl with
  | [a, b, c], _ =>
    simp only [decFrom] at h
    cases ha : digitVal a with
    | none => rw [ha] at h; cases h
    | some x =>
      rw [ha] at h
      cases hb : digitVal b with
      | none => rw [hb] at h; cases h
      | some y =>
        rw [hb] at h
        cases hc : digitVal c with
        | none => rw [hc] at h; cases h
        | some z =>
          rw [hc] at h
          have h1 := (digitVal_back ha).1
          have h2 := (digitVal_back hb).1
          have h3 := (digitVal_back hc).1
          simp only [Option.some.injEq] at h
          omega
theorem l01InIs (b : Bool) (x lo hi : Int) (w : World) (h : (decide (lo ≤ x) && decide (x ≤ hi)) = b) : Calls Tryz.prog 49 #[.int .i64 x, .int .i64 lo, .int .i64 hi] w fun e w' => e = .returned (.bool b) ∧ w' = w := by
  rw [← h]; exact (l01In x lo hi w).mono fun e w' ⟨h1, h2⟩ => ⟨h1, h2.symm⟩
theorem digIs (b : Bool) (x : Int) (w : World) (h : digB x = b) : Calls Tryz.prog 141 #[.int .u8 x] w fun e w' => e = .returned (.bool b) ∧ w' = w := by
  rw [← h]; exact (digitS x w).mono fun e w' ⟨h1, h2⟩ => ⟨h1, h2.symm⟩
theorem wrapU (c : UInt8) (h : 48 ≤ c.toNat) : IntKind.u8.wrap ((c.toNat : Int) - 48) = (c.toNat : Int) - 48 := by
  have := c.toNat_lt
  rw [IntKind.wrap_u8]
  omega

set_option maxHeartbeats 4000000 in
theorem pairMail (a : Option Addr) (n c : Nat) (L : List PM) (pk pv : ByteArray) (aw : Option Addr) (cw : Nat) (G : List (List UInt8)) (m : Nat) (hm : G.length = m) (next : Int) (w : World) (hL : L.length = n) (hg : GoodL L) (hk0 : 0 < pk.size) (hv : pv.size ≤ 90) (hG : ∀ p ∈ G, p.length ≤ 90) (hG0 : G ≠ []) (h : Src w a (cellsP L)) (hw : Src w aw (cellsS (G.map bs))) (hch : pk[0] = 109) (bb : Bool) (HB : Hid ((pairE L pv G) = bb)) :
    Calls Tryz.prog 105 #[.slice a n c, .agg #[.string pk, .string pv], .slice aw m cw, .int .i64 next] w fun e w' => e = .returned (.bool bb) ∧ Below w.heap.size w w' := by
  have X0 : Hid (Box (w.alloc (.cells #[.string pk, .string pv] 68)) w.heap.size [.string pk, .string pv]) := Box.new rfl
  have A0 : Below w.heap.size w (w.alloc (.cells #[.string pk, .string pv] 68)) := (Below.refl _ _).alloc (Nat.le_refl _) _
  have HA : Hid (Below w.heap.size w (w.alloc (.cells #[.string pk, .string pv] 68))) := A0
  have H0 : Hid (Src (w.alloc (.cells #[.string pk, .string pv] 68)) a (cellsP L)) := h.below A0
  have HW : Hid (Src (w.alloc (.cells #[.string pk, .string pv] 68)) aw (cellsS (G.map bs))) := hw.below A0
  have HG : Hid (GoodL L) := hg
  have HL : Hid (L.length = n) := hL
  have hk0i : (0 : Int) < (pk.size : Int) := by omega
  clear A0 h hw hg hL
  have hc : (pk[0].toNat : Int) = 109 := by rw [hch]; rfl
  have hk117 : ((pk[0].toNat : Int) == 117) = false := by rw [hc]; rfl
  have hk102 : ((pk[0].toNat : Int) == 102) = false := by rw [hc]; rfl
  have hk109 : ((pk[0].toNat : Int) == 109) = true := by rw [hc]; rfl
  clear hch hc
  by_cases h2 : m ≠ 3
  · have HZ : Hid (false = bb) := by
      show _ = _
      rw [← HB.out]
      match G, hm with
      | [], _ => rfl
      | [_], _ => rfl
      | [_, _], _ => rfl
      | [_, _, _], h9 => exact absurd h9.symm h2
      | _ :: _ :: _ :: _ :: _, _ => rfl
    have hl : ((m : Int) != 3) = true := by simp; omega
    clear HB hm
    go_enter Tryz.func105, Tryz.ntmps105
    go_wp2_with fail
    go_ret
    exact ⟨ret_bool HZ.out, HA.out⟩
  have h22 : 3 = m := by omega
  subst h22
  match G, hm with
  | [u, f, d], _ =>
    have hus : (bs u).size ≤ 90 := hG u (by simp)
    have hfs : (bs f).size ≤ 90 := hG f (by simp)
    have hds : d.length ≤ 90 := hG d (by simp)
    obtain ⟨bq, oq, t0, rfl, c0, hy0⟩ := srcS HW.out (i := 0) (by simp)
    obtain ⟨bq2, oq2, t1, eq2, c1, hy1⟩ := srcS HW.out (i := 1) (by simp)
    cases eq2
    obtain ⟨bq3, oq3, t2, eq3, c2, hy2⟩ := srcS HW.out (i := 2) (by simp)
    cases eq3
    rw [Nat.add_zero] at c0
    have hya : bs u = t0 := hy0.out
    have hyb : bs f = t1 := hy1.out
    have hyc : bs d = t2 := hy2.out
    have hyd : d = t2.data.toList := by rw [← hyc]; rfl
    have hdl : d.length = t2.size := by rw [hyd, bytes_len]
    have HB2 : Hid (((t2.size == 3) && (decide (1 ≤ (pv.size : Int)) && decide ((pv.size : Int) ≤ 86)) && (decide (48 ≤ headV pv) && decide (headV pv ≤ 51)) && mailN (countM L t0) (decFrom 0 t2.data.toList) (metaM L t0 t1)) = bb) := by
      show _ = _
      rw [← hya, ← hyb, ← hdl, ← hyd]
      exact HB.out
    rw [hya] at hus
    rw [hyb] at hfs
    have hts : t2.size ≤ 90 := by omega
    clear hy0 hy1 hy2 hya hyb hyc hyd hdl hds HB hG hG0 HW
    by_cases h3 : t2.size = 3
    case neg =>
      have h3i : ((t2.size : Int) != 3) = true := by simp; omega
      have HZ : Hid (false = bb) := by
        show _ = _
        rw [← HB2.out, show (t2.size == 3) = false from by simpa using h3]
        rfl
      clear HB2
      go_enter Tryz.func105, Tryz.ntmps105
      go_wp2_with fail
      go_ret
      exact ⟨ret_bool HZ.out, HA.out⟩
    have h3i : ((t2.size : Int) != 3) = false := by rw [h3]; rfl
    obtain ⟨b1, hb1⟩ : ∃ b, (decide (1 ≤ (pv.size : Int)) && decide ((pv.size : Int) ≤ 86)) = b := ⟨_, rfl⟩
    rw [hb1, show (t2.size == 3) = true from by simpa using h3] at HB2
    cases b1 with
    | false =>
      have HZ : Hid (false = bb) := HB2
      clear HB2
      go_enter Tryz.func105, Tryz.ntmps105
      go_wp2_with fail
      refine (l01InIs false _ _ _ _ hb1).mono ?_
      rintro e w2 ⟨rfl, hw2⟩
      obtain rfl := hw2
      go_wp2_with fail
      go_ret
      exact ⟨ret_bool HZ.out, HA.out⟩
    | true =>
    have hp0 : 0 < pv.size := by
      simp only [Bool.and_eq_true, decide_eq_true_eq] at hb1
      omega
    have hp0i : (0 : Int) < (pv.size : Int) := by omega
    obtain ⟨b2, hb2⟩ : ∃ b, (decide (48 ≤ headV pv) && decide (headV pv ≤ 51)) = b := ⟨_, rfl⟩
    rw [hb2] at HB2
    rw [headV_at pv hp0] at hb2
    have hw64 := w64b pv[0]
    cases b2 with
    | false =>
      have HZ : Hid (false = bb) := HB2
      clear HB2
      go_enter Tryz.func105, Tryz.ntmps105
      go_wp2_with fail
      refine (l01InIs true _ _ _ _ hb1).mono ?_
      rintro e w2 ⟨rfl, hw2⟩
      obtain rfl := hw2
      go_wp2_with fail
      refine (l01InIs false _ _ _ _ hb2).mono ?_
      rintro e w2 ⟨rfl, hw2⟩
      obtain rfl := hw2
      go_wp2_with fail
      go_ret
      exact ⟨ret_bool HZ.out, HA.out⟩
    | true =>
    obtain ⟨R, hR⟩ : ∃ R, metaM L t0 t1 = R := ⟨_, rfl⟩
    obtain ⟨ok, hok⟩ : ∃ b, R.isSome = b := ⟨_, rfl⟩
    have HB3 : Hid (mailN (countM L t0) (decFrom 0 t2.data.toList) R = bb) := by
      show _ = _
      rw [← HB2.out, hR]
      rfl
    have CM : ∀ W, Src W a (cellsP L) → _ := fun W h9 => metaIs a n c L t0 t1 W HL.out HG.out (by omega) (by omega) h9 R ok hR hok
    have CC : ∀ W, Src W a (cellsP L) → _ := fun W h9 => l07CountS a n c L t0 W HL.out HG.out (by omega) h9
    have RNG : Hid (∀ p, R = some p → 1 ≤ p.1 ∧ p.1 ≤ 9999 ∧ 1 ≤ p.2 ∧ p.2 ≤ 999) := fun p h9 => meta_range (hR.trans h9)
    obtain ⟨cnt, hcnt⟩ : ∃ k, countM L t0 = k := ⟨_, rfl⟩
    have hcl : cnt ≤ 60 := by
      rw [← hcnt]
      unfold countM
      have h9 := List.length_filter_le (fun x : PM => beginsB x.1 (mailsK t0)) L
      have := HG.out.1
      omega
    rw [hcnt] at HB3
    simp only [hcnt] at CC
    clear HB2 hR hcnt
    go_enter Tryz.func105, Tryz.ntmps105
    go_wp2_with fail
    refine (l01InIs true _ _ _ _ hb1).mono ?_
    rintro e w2 ⟨rfl, hw2⟩
    obtain rfl := hw2
    go_wp2_with fail
    refine (l01InIs true _ _ _ _ hb2).mono ?_
    rintro e w2 ⟨rfl, hw2⟩
    obtain rfl := hw2
    go_wp2_with fail
    clear hb1 hb2 hw64
    go_loopw [17, 18] (fun nv iv wr => ∃ k u : Nat, k ≤ 3 ∧ nv = .int .i64 (u : Int) ∧ iv = .int .i64 (k : Int) ∧ Hid (u < 10 ^ k) ∧ Hid (decFrom 0 t2.data.toList = decFrom u (t2.data.toList.drop k)) ∧ wr = w.alloc (.cells #[.string pk, .string pv] 68)) (fun _ i _ => 3 - (RowKit.intOf i).toNat)
    case atStart => exact ⟨0, 0, by omega, rfl, rfl, by show 0 < 10 ^ 0; omega, rfl, rfl⟩
    case round =>
      obtain ⟨k, u, hk, rfl, rfl, hu, hd, rfl⟩ := hrel
      by_cases hlt : k < 3
      · have hlti : (k : Int) < 3 := by omega
        have hk2 : k < t2.size := by omega
        have hk2i : (k : Int) < (t2.size : Int) := by omega
        have hu2 : (u : Int) ≤ 1000 := by
          have h17 : 10 ^ k ≤ 10 ^ 3 := Nat.pow_le_pow_right (by omega) (by omega)
          have := hu.out
          omega
        have HD2 : Hid (decFrom 0 t2.data.toList = decFrom u (t2[k] :: t2.data.toList.drop (k + 1))) := by show _ = _; rw [hd.out, bytes_drop t2 k hk2]
        cases hdg : digB (t2[k].toNat : Int) with
        | false =>
          have hno : ¬ (48 ≤ t2[k].toNat ∧ t2[k].toNat ≤ 57) := by
            intro h9
            unfold digB at hdg
            rw [decide_eq_true (by omega), decide_eq_true (by omega)] at hdg
            cases hdg
          have HZ : Hid (false = bb) := by show _ = _; rw [← HB3.out, HD2.out, dec_no hno]; rfl
          clear HB3 HD2 hd hu hno
          go_wp2_with fail
          refine (digIs false _ _ hdg).mono ?_
          rintro e w2 ⟨rfl, hw2⟩
          obtain rfl := hw2
          go_wp2_with fail
          go_ret
          exact ⟨ret_bool HZ.out, HA.out⟩
        | true =>
          have hyes : 48 ≤ t2[k].toNat ∧ t2[k].toNat ≤ 57 := by
            unfold digB at hdg
            simp only [Bool.and_eq_true, decide_eq_true_eq] at hdg
            omega
          have HN2 : Hid (decFrom 0 t2.data.toList = decFrom (u * 10 + (t2[k].toNat - 48)) (t2.data.toList.drop (k + 1))) := by show _ = _; rw [HD2.out, dec_yes hyes.1 hyes.2]
          have HU : Hid (u * 10 + (t2[k].toNat - 48) < 10 ^ (k + 1)) := by
            show _ < _
            have := hu.out
            rw [Nat.pow_succ]
            omega
          have hw1 := wrapU t2[k] hyes.1
          have hw2 : wrap64 ((t2[k].toNat : Int) - 48) = (t2[k].toNat : Int) - 48 := by unfold wrap64; omega
          clear HD2 hd hu
          go_wp2_with fail
          refine (digIs true _ _ hdg).mono ?_
          rintro e w2 ⟨rfl, hw3⟩
          obtain rfl := hw3
          go_wp2_with fail
          exact ⟨⟨k + 1, u * 10 + (t2[k].toNat - 48), by omega, by congr 1; omega, by go_num, HU.out, HN2.out, trivial⟩, by simp [RowKit.intOf]; omega⟩
      · have hkn : k = 3 := by omega
        have HN : Hid (mailN cnt (some u) R = bb) := by
          show _ = _
          rw [← HB3.out, hd.out, bytes_end t2 k (by omega)]
          rfl
        have hu3 : (u : Int) ≤ 1000 := by
          have := hu.out
          rw [hkn] at this
          omega
        clear HB3 hd hu hkn
        go_upto_region 21 with fail
        refine wp_region_noPanic ?_
        refine wp_region_held_drew (S := fun w' => w'.cell? ⟨bq, oq, none⟩ = some (.string t0) ∧ w'.cell? ⟨bq, oq + 1, none⟩ = some (.string t1)) (by kernel_rfl) ⟨c0, c1⟩ (fun hHeld => ?_)
        refine tkA (i := 0) (v := .slice a n c) ?_ hHeld ?_
        · intro w9 hSw
          obtain ⟨z0, z1⟩ := hSw
          go_simp
        simp only [Act.put, List.setIfInBounds_toArray, List.set_cons_zero, List.set_cons_succ]
        refine tkA (i := 1) (v := .slice (some ⟨bq, oq, none⟩) 3 cw) ?_ hHeld ?_
        · intro w9 hSw
          obtain ⟨z0, z1⟩ := hSw
          go_simp
        simp only [Act.put, List.setIfInBounds_toArray, List.set_cons_zero, List.set_cons_succ]
        refine tkA (i := 2) (v := .pointer (some ⟨bq, oq, none⟩)) ?_ hHeld ?_
        · intro w9 hSw
          obtain ⟨z0, z1⟩ := hSw
          go_simp
        simp only [Act.put, List.setIfInBounds_toArray, List.set_cons_zero, List.set_cons_succ]
        refine tkA (i := 3) (v := .string t0) ?_ hHeld ?_
        · intro w9 hSw
          obtain ⟨z0, z1⟩ := hSw
          go_simp
        simp only [Act.put, List.setIfInBounds_toArray, List.set_cons_zero, List.set_cons_succ]
        refine tkA (i := 4) (v := .slice (some ⟨bq, oq, none⟩) 3 cw) ?_ hHeld ?_
        · intro w9 hSw
          obtain ⟨z0, z1⟩ := hSw
          go_simp
        simp only [Act.put, List.setIfInBounds_toArray, List.set_cons_zero, List.set_cons_succ]
        refine tkA (i := 5) (v := .pointer (some ⟨bq, oq + 1, none⟩)) ?_ hHeld ?_
        · intro w9 hSw
          obtain ⟨z0, z1⟩ := hSw
          go_simp
        simp only [Act.put, List.setIfInBounds_toArray, List.set_cons_zero, List.set_cons_succ]
        refine tkA (i := 6) (v := .string t1) ?_ hHeld ?_
        · intro w9 hSw
          obtain ⟨z0, z1⟩ := hSw
          go_simp
        simp only [Act.put, List.setIfInBounds_toArray, List.set_cons_zero, List.set_cons_succ]
        refine wpAnyH_ready (rs := [7]) (by kernel_rfl) (by simp) ?_
        refine AllReadyH.cons rfl (fun K hK => ?_) AllReadyH.nil
        go_simp
        refine (CM _ (H0.out.below ((Below.refl _ _).drew))).mono ?_
        rintro e w5 ⟨x, y, rfl, hmp, hb5⟩
        have MP : Hid (MetaPost R x y) := hmp
        have B5 : Hid (Below w.heap.size w w5) := HA.out.drew.trans (hb5.mono HA.out.drew.size)
        have S5 : Hid (Src w5 a (cellsP L)) := Src.below (w := (w.alloc (.cells #[.string pk, .string pv] 68)).drew) (H0.out.below ((Below.refl _ _).drew)) hb5
        have c0' : w5.cell? ⟨bq, oq, none⟩ = some (.string t0) := cell_later (w := (w.alloc (.cells #[.string pk, .string pv] 68)).drew) hb5 c0
        have c1' : w5.cell? ⟨bq, oq + 1, none⟩ = some (.string t1) := cell_later (w := (w.alloc (.cells #[.string pk, .string pv] 68)).drew) hb5 c1
        clear hb5 hmp
        dsimp only
        refine hK _ _ ⟨c0', c1'⟩ (fun hHeld => ?_)
        clear hK K
        refine tkA (i := 8) (v := .tuple #[.int .i64 x, .int .i64 y, .bool ok]) ?_ hHeld ?_
        · intro w9 hSw
          obtain ⟨z0, z1⟩ := hSw
          go_simp
        simp only [Act.put, List.setIfInBounds_toArray, List.set_cons_zero, List.set_cons_succ]
        refine tkA (i := 9) (v := .int .i64 x) ?_ hHeld ?_
        · intro w9 hSw
          obtain ⟨z0, z1⟩ := hSw
          go_simp
        simp only [Act.put, List.setIfInBounds_toArray, List.set_cons_zero, List.set_cons_succ]
        refine tkA (i := 10) (v := .int .i64 y) ?_ hHeld ?_
        · intro w9 hSw
          obtain ⟨z0, z1⟩ := hSw
          go_simp
        simp only [Act.put, List.setIfInBounds_toArray, List.set_cons_zero, List.set_cons_succ]
        refine tkA (i := 11) (v := .bool ok) ?_ hHeld ?_
        · intro w9 hSw
          obtain ⟨z0, z1⟩ := hSw
          go_simp
        simp only [Act.put, List.setIfInBounds_toArray, List.set_cons_zero, List.set_cons_succ]
        refine tkA (i := 12) (v := .int .i64 x) ?_ hHeld ?_
        · intro w9 hSw
          obtain ⟨z0, z1⟩ := hSw
          go_simp
        simp only [Act.put, List.setIfInBounds_toArray, List.set_cons_zero, List.set_cons_succ]
        refine tkA (i := 13) (v := .int .i64 y) ?_ hHeld ?_
        · intro w9 hSw
          obtain ⟨z0, z1⟩ := hSw
          go_simp
        simp only [Act.put, List.setIfInBounds_toArray, List.set_cons_zero, List.set_cons_succ]
        refine wpAnyH_ready (rs := [14]) (by kernel_rfl) (by simp) ?_
        refine AllReadyH.cons rfl (fun K hK => ?_) AllReadyH.nil
        go_simp
        refine hK _ _ ⟨c0', c1'⟩ (fun hHeld => ?_)
        clear hK K
        refine wpAnyH_done (by kernel_rfl) ?_ _
        refine NoPanic.normal ?_
        clear hHeld
        clear c0 c1 c2 X0 HA CM H0 c1'
        cases R with
        | none =>
          obtain rfl : false = ok := hok
          have HZ : Hid (false = bb) := HN
          go_wp2_with fail
          go_ret
          exact ⟨ret_bool HZ.out, B5.out⟩
        | some p =>
          obtain rfl : true = ok := hok
          obtain ⟨rfl, rfl⟩ := MP.out p rfl
          obtain ⟨x, y⟩ := p
          have HRNG := RNG.out _ rfl
          simp only at HRNG ⊢
          obtain ⟨b3, hb3⟩ : ∃ b, (decide (1 ≤ (u : Int)) && decide ((u : Int) ≤ y - 1)) = b := ⟨_, rfl⟩
          have HX : Hid ((b3 && decide ((cnt : Int) ≤ 6)) = bb) := by show _ = _; rw [← hb3]; exact HN.out
          clear HN RNG MP
          cases b3 with
          | false =>
            have HZ : Hid (false = bb) := HX
            clear HX
            go_wp2_with fail
            refine (l01InIs false _ _ _ _ hb3).mono ?_
            rintro e w2 ⟨rfl, hw2⟩
            obtain rfl := hw2
            go_wp2_with fail
            go_ret
            exact ⟨ret_bool HZ.out, B5.out⟩
          | true =>
            have HZ : Hid (decide ((cnt : Int) ≤ 6) = bb) := HX
            clear HX
            go_wp2_with fail
            refine (l01InIs true _ _ _ _ hb3).mono ?_
            rintro e w2 ⟨rfl, hw2⟩
            obtain rfl := hw2
            go_wp2_with fail
            refine (CC _ S5.out).mono ?_
            rintro e w6 ⟨rfl, hb6⟩
            have B6 : Hid (Below w.heap.size w w6) := B5.out.trans (hb6.mono B5.out.size)
            clear hb6
            go_wp2_with fail
            go_ret
            exact ⟨ret_bool HZ.out, B6.out⟩
end Go.Proofs.YthgbclipknfmjaaGreatDoor
