/-
  Mpr in one. By an AI agent.
-/
import Derived.Test.YthgbclipknfmjaaGreatDoorFr11
import Derived.Deep.RegionHeld3
import Derived.Deep.Cut
import Derived.Deep.CutRange
namespace Go.Proofs.YthgbclipknfmjaaGreatDoor
open Go.ChangeShapes Go.WideShapes Go.ChangeAt Go.RowKit Go.Deep Go.Lib
set_option linter.unusedVariables false
set_option linter.unusedSimpArgs false
set_option maxRecDepth 100000

def pairU (L : List PM) (v : ByteArray) : List (List UInt8) → Bool
  | [u] => shortB (bs u) && shortB v && (metaM L (bs u) inboxT).isSome
  | _ => false
def metaT (x y : Int) : ByteArray := (bs (itoa x) ++ ⟨#[32]⟩) ++ bs (itoa y)
def foldB (next : Int) (v : ByteArray) : Option (Int × Int) → Bool
  | some p => decide (p.1 < next) && (v.toList == (metaT p.1 p.2).toList)
  | none => false
def pairF (L : List PM) (next : Int) (v : ByteArray) : List (List UInt8) → Bool
  | [u, f] => shortB (bs f) && (getM L (userK (bs u))).isSome && foldB next v (metaM L (bs u) (bs f))
  | _ => false
theorem l04Is (b : Bool) (s : ByteArray) (w : World) (h : shortB s = b) (hs : s.size ≤ maxLen) : Calls Tryz.prog 89 #[.string s] w fun e w' => e = .returned (.bool b) ∧ w' = w := by
  rw [← h]; exact (l04Name s w hs).mono fun e w' ⟨h1, h2⟩ => ⟨h1, h2.symm⟩
theorem l01GetIs (a : Option Addr) (n c : Nat) (L : List PM) (key : ByteArray) (w : World) (hL : L.length = n) (hg : GoodL L) (h : Src w a (cellsP L)) (v : ByteArray) (b : Bool) (hv : (getM L key).getD e0 = v) (hb : (getM L key).isSome = b) :
    Calls Tryz.prog 92 #[.slice a n c, .string key] w fun e w' => e = .returned (.tuple #[.string v, .bool b]) ∧ w' = w := by
  rw [← hv, ← hb]; exact l01GetM a n c L key w hL hg h
theorem metaIs (a : Option Addr) (n c : Nat) (L : List PM) (u f : ByteArray) (w : World) (hL : L.length = n) (hg : GoodL L) (hu : u.size ≤ 1048576) (hf : f.size ≤ 1048576) (h : Src w a (cellsP L)) (R : Option (Int × Int)) (b : Bool) (hR : metaM L u f = R) (hb : R.isSome = b) :
    Calls Tryz.prog 66 #[.slice a n c, .string u, .string f] w fun e w' => ∃ x y, e = .returned (.tuple #[.int .i64 x, .int .i64 y, .bool b]) ∧ MetaPost R x y ∧ Below w.heap.size w w' := by
  rw [← hb, ← hR]; exact l07MetaS a n c L u f w hL hg hu hf h
theorem metaV_range {v : ByteArray} {p : Int × Int} (h : metaV v = some p) : 1 ≤ p.1 ∧ p.1 ≤ 9999 ∧ 1 ≤ p.2 ∧ p.2 ≤ 999 := by
  unfold metaV metaL at h
  split at h
  · rename_i a b _
    unfold metaN at h
    split at h
    · split at h
      · rename_i h9
        cases h
        exact h9
      · cases h
    · cases h
  · cases h
theorem meta_range {L : List PM} {u f : ByteArray} {p : Int × Int} (h : metaM L u f = some p) : 1 ≤ p.1 ∧ p.1 ≤ 9999 ∧ 1 ≤ p.2 ∧ p.2 ≤ 999 := by
  unfold metaM at h
  obtain ⟨v, _, h2⟩ := Option.bind_eq_some_iff.1 h
  exact metaV_range h2
theorem itoa_small (x : Int) (h0 : 0 ≤ x) (h1 : x ≤ 10000) : (bs (itoa x)).size ≤ 100 := by
  have h2 := (trim_is (t := itoa x) rfl).2 (by omega)
  have h3 : (bs (itoa x)).size = (itoa x).length := rfl
  have h4 : (itoa x).length ≤ (trimPrefix (itoa x) [45]).length + 1 := by
    unfold trimPrefix
    split
    · rw [List.length_drop]; simp only [List.length_singleton]; omega
    · omega
  omega
theorem digitsI (x : Int) (h0 : 0 ≤ x) (h1 : x ≤ 10000) (W : World) : Calls Tryz.prog 94 #[.int .i64 x] W fun e w' => e = .returned (.string (bs (itoa x))) ∧ Below W.heap.size W w' := by
  obtain ⟨n, rfl⟩ := Int.eq_ofNat_of_zero_le h0
  have h2 : itoa (n : Int) = decDigits n := by
    unfold itoa
    rw [if_neg (by omega)]
    rfl
  rw [h2]
  exact l00DigitsS 17 n (by omega) (by omega) W

set_option maxHeartbeats 4000000 in
theorem pairOther (a : Option Addr) (n c : Nat) (L : List PM) (pk pv : ByteArray) (aw : Option Addr) (cw : Nat) (G : List (List UInt8)) (m : Nat) (hm : G.length = m) (next : Int) (w : World) (hL : L.length = n) (hg : GoodL L) (hk0 : 0 < pk.size) (hv : pv.size ≤ 90) (hG : ∀ p ∈ G, p.length ≤ 90) (hG0 : G ≠ []) (h : Src w a (cellsP L)) (hw : Src w aw (cellsS (G.map bs))) (h1 : pk[0] ≠ 117) (h2 : pk[0] ≠ 102) (h3 : pk[0] ≠ 109) (bb : Bool) (HB : Hid ((false) = bb)) :
    Calls Tryz.prog 105 #[.slice a n c, .agg #[.string pk, .string pv], .slice aw m cw, .int .i64 next] w fun e w' => e = .returned (.bool bb) ∧ Below w.heap.size w w' := by
  have hk117 : ((pk[0].toNat : Int) == 117) = false := beq_eq_false_iff_ne.2 (fun h9 => h1 (UInt8.toNat_inj.1 (by have : (117 : UInt8).toNat = 117 := rfl; omega)))
  have hk102 : ((pk[0].toNat : Int) == 102) = false := beq_eq_false_iff_ne.2 (fun h9 => h2 (UInt8.toNat_inj.1 (by have : (102 : UInt8).toNat = 102 := rfl; omega)))
  have hk109 : ((pk[0].toNat : Int) == 109) = false := beq_eq_false_iff_ne.2 (fun h9 => h3 (UInt8.toNat_inj.1 (by have : (109 : UInt8).toNat = 109 := rfl; omega)))
  clear h1 h2 h3 h hw hg hL
  have hk0i : (0 : Int) < (pk.size : Int) := by omega
  go_enter Tryz.func105, Tryz.ntmps105
  go_wp2_with fail
  go_ret
  exact ⟨ret_bool HB.out, (Below.refl _ _).alloc (Nat.le_refl _) _⟩

set_option maxHeartbeats 4000000 in
theorem pairUser (a : Option Addr) (n c : Nat) (L : List PM) (pk pv : ByteArray) (aw : Option Addr) (cw : Nat) (G : List (List UInt8)) (m : Nat) (hm : G.length = m) (next : Int) (w : World) (hL : L.length = n) (hg : GoodL L) (hk0 : 0 < pk.size) (hv : pv.size ≤ 90) (hG : ∀ p ∈ G, p.length ≤ 90) (hG0 : G ≠ []) (h : Src w a (cellsP L)) (hw : Src w aw (cellsS (G.map bs))) (hch : pk[0] = 117) (bb : Bool) (HB : Hid ((pairU L pv G) = bb)) :
    Calls Tryz.prog 105 #[.slice a n c, .agg #[.string pk, .string pv], .slice aw m cw, .int .i64 next] w fun e w' => e = .returned (.bool bb) ∧ Below w.heap.size w w' := by
  have X0 : Hid (Box (w.alloc (.cells #[.string pk, .string pv] 68)) w.heap.size [.string pk, .string pv]) := Box.new rfl
  have A0 : Below w.heap.size w (w.alloc (.cells #[.string pk, .string pv] 68)) := (Below.refl _ _).alloc (Nat.le_refl _) _
  have HA : Hid (Below w.heap.size w (w.alloc (.cells #[.string pk, .string pv] 68))) := A0
  have H0 : Hid (Src (w.alloc (.cells #[.string pk, .string pv] 68)) a (cellsP L)) := h.below A0
  have HW : Hid (Src (w.alloc (.cells #[.string pk, .string pv] 68)) aw (cellsS (G.map bs))) := hw.below A0
  have HG : Hid (GoodL L) := hg
  have HL : Hid (L.length = n) := hL
  have hk0i : (0 : Int) < (pk.size : Int) := by omega
  clear A0 h hw hg hL
  have hc : (pk[0].toNat : Int) = 117 := by rw [hch]; rfl
  have hk117 : ((pk[0].toNat : Int) == 117) = true := by rw [hc]; rfl
  clear hch hc
  obtain ⟨u, G', rfl⟩ : ∃ u G', G = u :: G' := by
    cases G with
    | nil => exact absurd rfl hG0
    | cons u G' => exact ⟨u, G', rfl⟩
  clear hG0
  have hm0 : (0 : Int) < (m : Int) := by rw [← hm]; simp only [List.length_cons]; omega
  have hus : (bs u).size ≤ 90 := hG u List.mem_cons_self
  obtain ⟨R, hR⟩ : ∃ R, metaM L (bs u) inboxT = R := ⟨_, rfl⟩
  obtain ⟨ib, hib⟩ : ∃ b, R.isSome = b := ⟨_, rfl⟩
  have CM := metaIs a n c L (bs u) inboxT _ HL.out HG.out (by omega) (by decide) H0.out R ib hR hib
  obtain ⟨bq, oq, t0, rfl, c0, hy0⟩ := srcS HW.out (i := 0) (by simp)
  rw [Nat.add_zero] at c0
  have hy : bs u = t0 := hy0.out
  rw [hy] at CM hus
  have HU : Hid (pairU L pv [u] = (shortB t0 && shortB pv && ib)) := by
    show (shortB (bs u) && shortB pv && (metaM L (bs u) inboxT).isSome) = _
    rw [hR, hib, hy]
  clear hy0 hR hy
  go_enter Tryz.func105, Tryz.ntmps105
  go_wp2_with fail
  refine CM.mono ?_
  rintro e w1 ⟨x, y, rfl, _, hb1⟩
  have B1 : Hid (Below w.heap.size w w1) := HA.out.trans (hb1.mono HA.out.size)
  have X1 := X0.out.below hb1
  obtain ⟨p0, _⟩ := X1 0 _ rfl
  obtain ⟨p1, _⟩ := X1 1 _ rfl
  have c1 := cell_later hb1 c0
  clear hb1 X1 c0 CM X0 HA H0 HW
  cases G' with
  | cons y2 G2 =>
    have HF : Hid (false = bb) := HB
    have hl : ((m : Int) == 1) = false := beq_eq_false_iff_ne.2 (by rw [← hm]; simp only [List.length_cons]; omega)
    clear HU HB hm
    go_wp2_with fail
    go_ret
    exact ⟨ret_bool HF.out, B1.out⟩
  | nil =>
    have HF : Hid ((shortB t0 && shortB pv && ib) = bb) := by show _ = _; rw [← HU.out]; exact HB.out
    obtain rfl : 1 = m := hm
    clear HU HB
    cases s1 : shortB t0 with
    | false =>
      rw [s1] at HF
      go_wp2_with fail
      refine (l04Is false t0 _ s1 (by unfold maxLen; omega)).mono ?_
      rintro e w2 ⟨rfl, rfl⟩
      go_wp2_with fail
      go_ret
      exact ⟨ret_bool HF.out, B1.out⟩
    | true =>
      cases s2 : shortB pv with
      | false =>
        rw [s1, s2] at HF
        go_wp2_with fail
        refine (l04Is true t0 _ s1 (by unfold maxLen; omega)).mono ?_
        rintro e w2 ⟨rfl, rfl⟩
        go_wp2_with fail
        refine (l04Is false pv _ s2 (by unfold maxLen; omega)).mono ?_
        rintro e w3 ⟨rfl, rfl⟩
        go_wp2_with fail
        go_ret
        exact ⟨ret_bool HF.out, B1.out⟩
      | true =>
        rw [s1, s2] at HF
        go_wp2_with fail
        refine (l04Is true t0 _ s1 (by unfold maxLen; omega)).mono ?_
        rintro e w2 ⟨rfl, rfl⟩
        go_wp2_with fail
        refine (l04Is true pv _ s2 (by unfold maxLen; omega)).mono ?_
        rintro e w3 ⟨rfl, rfl⟩
        cases ib <;> (go_wp2_with fail; go_ret; exact ⟨ret_bool HF.out, B1.out⟩)

set_option maxHeartbeats 4000000 in
theorem pairFolder (a : Option Addr) (n c : Nat) (L : List PM) (pk pv : ByteArray) (aw : Option Addr) (cw : Nat) (G : List (List UInt8)) (m : Nat) (hm : G.length = m) (next : Int) (w : World) (hL : L.length = n) (hg : GoodL L) (hk0 : 0 < pk.size) (hv : pv.size ≤ 90) (hG : ∀ p ∈ G, p.length ≤ 90) (hG0 : G ≠ []) (h : Src w a (cellsP L)) (hw : Src w aw (cellsS (G.map bs))) (hch : pk[0] = 102) (bb : Bool) (HB : Hid ((pairF L next pv G) = bb)) :
    Calls Tryz.prog 105 #[.slice a n c, .agg #[.string pk, .string pv], .slice aw m cw, .int .i64 next] w fun e w' => e = .returned (.bool bb) ∧ Below w.heap.size w w' := by
  have X0 : Hid (Box (w.alloc (.cells #[.string pk, .string pv] 68)) w.heap.size [.string pk, .string pv]) := Box.new rfl
  have A0 : Below w.heap.size w (w.alloc (.cells #[.string pk, .string pv] 68)) := (Below.refl _ _).alloc (Nat.le_refl _) _
  have HA : Hid (Below w.heap.size w (w.alloc (.cells #[.string pk, .string pv] 68))) := A0
  have H0 : Hid (Src (w.alloc (.cells #[.string pk, .string pv] 68)) a (cellsP L)) := h.below A0
  have HW : Hid (Src (w.alloc (.cells #[.string pk, .string pv] 68)) aw (cellsS (G.map bs))) := hw.below A0
  have HG : Hid (GoodL L) := hg
  have HL : Hid (L.length = n) := hL
  have hk0i : (0 : Int) < (pk.size : Int) := by omega
  clear A0 h hw hg hL
  have hc : (pk[0].toNat : Int) = 102 := by rw [hch]; rfl
  have hk117 : ((pk[0].toNat : Int) == 117) = false := by rw [hc]; rfl
  have hk102 : ((pk[0].toNat : Int) == 102) = true := by rw [hc]; rfl
  clear hch hc
  by_cases h2 : m ≠ 2
  · have HF : Hid (false = bb) := by
      show _ = _
      rw [← HB.out]
      match G, hm with
      | [], _ => rfl
      | [_], _ => rfl
      | [_, _], h9 => exact absurd h9.symm h2
      | _ :: _ :: _ :: _, _ => rfl
    have hl : ((m : Int) != 2) = true := by simp; omega
    clear HB hm
    go_enter Tryz.func105, Tryz.ntmps105
    go_wp2_with fail
    go_ret
    exact ⟨ret_bool HF.out, HA.out⟩
  have h22 : 2 = m := by omega
  subst h22
  match G, hm with
  | [u, f], _ =>
    have hus : (bs u).size ≤ 90 := hG u (by simp)
    have hfs : (bs f).size ≤ 90 := hG f (by simp)
    obtain ⟨bq, oq, t0, rfl, c0, hy0⟩ := srcS HW.out (i := 0) (by simp)
    obtain ⟨bq2, oq2, t1, eq2, c1, hy1⟩ := srcS HW.out (i := 1) (by simp)
    cases eq2
    rw [Nat.add_zero] at c0
    have hya : bs u = t0 := hy0.out
    have hyb : bs f = t1 := hy1.out
    have HB2 : Hid ((shortB t1 && (getM L (userK t0)).isSome && foldB next pv (metaM L t0 t1)) = bb) := by
      show _ = _
      rw [← hya, ← hyb]
      exact HB.out
    rw [hya] at hus
    rw [hyb] at hfs
    clear hy0 hy1 hya hyb HB hG hG0 HW
    cases s1 : shortB t1 with
    | false =>
      rw [s1] at HB2
      go_enter Tryz.func105, Tryz.ntmps105
      go_wp2_with fail
      refine (l04Is false t1 _ s1 (by unfold maxLen; omega)).mono ?_
      rintro e w2 ⟨rfl, rfl⟩
      go_wp2_with fail
      go_ret
      exact ⟨ret_bool HB2.out, HA.out⟩
    | true =>
      rw [s1] at HB2
      obtain ⟨th, hth⟩ : ∃ b, (getM L (userK t0)).isSome = b := ⟨_, rfl⟩
      obtain ⟨R, hR⟩ : ∃ R, metaM L t0 t1 = R := ⟨_, rfl⟩
      have HB3 : Hid ((th && foldB next pv R) = bb) := by
        show _ = _
        rw [← HB2.out, hth, hR]
        rfl
      obtain ⟨ok, hok⟩ : ∃ b, R.isSome = b := ⟨_, rfl⟩
      have CG := l01GetIs a n c L (userK t0) _ HL.out HG.out H0.out _ th rfl hth
      have CM : ∀ W, Src W a (cellsP L) → _ := fun W h9 => metaIs a n c L t0 t1 W HL.out HG.out (by omega) (by omega) h9 R ok hR hok
      have RNG : Hid (∀ p, R = some p → 1 ≤ p.1 ∧ p.1 ≤ 9999 ∧ 1 ≤ p.2 ∧ p.2 ≤ 999) := fun p h9 => meta_range (hR.trans h9)
      clear HB2 hR
      go_enter Tryz.func105, Tryz.ntmps105
      go_wp2_with fail
      refine (l04Is true t1 _ s1 (by unfold maxLen; omega)).mono ?_
      rintro e w2 ⟨rfl, hw2⟩
      obtain rfl := hw2
      go_wp2_with fail
      refine (l07UserS t0 _ (by omega)).mono ?_
      rintro e w3 ⟨rfl, hw3⟩
      obtain rfl := hw3
      go_wp2_with fail
      refine CG.mono ?_
      rintro e w4 ⟨rfl, hw4⟩
      obtain rfl := hw4
      go_upto_region 9 with fail
      refine wp_region_noPanic ?_
      refine wp_region_held_drew (S := fun w' => w'.cell? ⟨bq, oq, none⟩ = some (.string t0) ∧ w'.cell? ⟨bq, oq + 1, none⟩ = some (.string t1)) (by kernel_rfl) ⟨c0, c1⟩ (fun hHeld => ?_)
      refine tkA (i := 0) (v := .slice a n c) ?_ hHeld ?_
      · intro w9 hSw
        obtain ⟨z0, z1⟩ := hSw
        go_simp
      simp only [Act.put, List.setIfInBounds_toArray, List.set_cons_zero, List.set_cons_succ]
      refine tkA (i := 1) (v := .slice (some ⟨bq, oq, none⟩) 2 cw) ?_ hHeld ?_
      · intro w9 hSw
        obtain ⟨z0, z1⟩ := hSw
        go_simp
      simp only [Act.put, List.setIfInBounds_toArray, List.set_cons_zero, List.set_cons_succ]
      refine tkA (i := 2) (v := .pointer (some ⟨bq, oq, none⟩)) ?_ hHeld ?_
      · intro w9 hSw
        obtain ⟨z0, z1⟩ := hSw
        go_simp
      simp only [Act.put, List.setIfInBounds_toArray, List.set_cons_zero, List.set_cons_succ]
      refine tkA (i := 3) (v := .string t0) ?_ hHeld ?_
      · intro w9 hSw
        obtain ⟨z0, z1⟩ := hSw
        go_simp
      simp only [Act.put, List.setIfInBounds_toArray, List.set_cons_zero, List.set_cons_succ]
      refine tkA (i := 4) (v := .slice (some ⟨bq, oq, none⟩) 2 cw) ?_ hHeld ?_
      · intro w9 hSw
        obtain ⟨z0, z1⟩ := hSw
        go_simp
      simp only [Act.put, List.setIfInBounds_toArray, List.set_cons_zero, List.set_cons_succ]
      refine tkA (i := 5) (v := .pointer (some ⟨bq, oq + 1, none⟩)) ?_ hHeld ?_
      · intro w9 hSw
        obtain ⟨z0, z1⟩ := hSw
        go_simp
      simp only [Act.put, List.setIfInBounds_toArray, List.set_cons_zero, List.set_cons_succ]
      refine tkA (i := 6) (v := .string t1) ?_ hHeld ?_
      · intro w9 hSw
        obtain ⟨z0, z1⟩ := hSw
        go_simp
      simp only [Act.put, List.setIfInBounds_toArray, List.set_cons_zero, List.set_cons_succ]
      refine wpAnyH_ready (rs := [7]) (by kernel_rfl) (by simp) ?_
      refine AllReadyH.cons rfl (fun K hK => ?_) AllReadyH.nil
      go_simp
      refine (CM _ (H0.out.below ((Below.refl _ _).drew))).mono ?_
      rintro e w5 ⟨x, y, rfl, hmp, hb5⟩
      have MP : Hid (MetaPost R x y) := hmp
      have B5 : Hid (Below w.heap.size w w5) := HA.out.drew.trans (hb5.mono HA.out.drew.size)
      have X5 : Hid (Box w5 w.heap.size [.string pk, .string pv]) := Box.below (w := (w.alloc (.cells #[.string pk, .string pv] 68)).drew) X0.out.drew hb5
      have c0' : w5.cell? ⟨bq, oq, none⟩ = some (.string t0) := cell_later (w := (w.alloc (.cells #[.string pk, .string pv] 68)).drew) hb5 c0
      have c1' : w5.cell? ⟨bq, oq + 1, none⟩ = some (.string t1) := cell_later (w := (w.alloc (.cells #[.string pk, .string pv] 68)).drew) hb5 c1
      clear hb5 hmp
      dsimp only
      refine hK _ _ ⟨c0', c1'⟩ (fun hHeld => ?_)
      clear hK K
      refine tkA (i := 8) (v := .tuple #[.int .i64 x, .int .i64 y, .bool ok]) ?_ hHeld ?_
      · intro w9 hSw
        obtain ⟨z0, z1⟩ := hSw
        go_simp
      simp only [Act.put, List.setIfInBounds_toArray, List.set_cons_zero, List.set_cons_succ]
      refine tkA (i := 9) (v := .int .i64 x) ?_ hHeld ?_
      · intro w9 hSw
        obtain ⟨z0, z1⟩ := hSw
        go_simp
      simp only [Act.put, List.setIfInBounds_toArray, List.set_cons_zero, List.set_cons_succ]
      refine tkA (i := 10) (v := .int .i64 y) ?_ hHeld ?_
      · intro w9 hSw
        obtain ⟨z0, z1⟩ := hSw
        go_simp
      simp only [Act.put, List.setIfInBounds_toArray, List.set_cons_zero, List.set_cons_succ]
      refine tkA (i := 11) (v := .bool ok) ?_ hHeld ?_
      · intro w9 hSw
        obtain ⟨z0, z1⟩ := hSw
        go_simp
      simp only [Act.put, List.setIfInBounds_toArray, List.set_cons_zero, List.set_cons_succ]
      refine tkA (i := 12) (v := .int .i64 x) ?_ hHeld ?_
      · intro w9 hSw
        obtain ⟨z0, z1⟩ := hSw
        go_simp
      simp only [Act.put, List.setIfInBounds_toArray, List.set_cons_zero, List.set_cons_succ]
      refine tkA (i := 13) (v := .int .i64 y) ?_ hHeld ?_
      · intro w9 hSw
        obtain ⟨z0, z1⟩ := hSw
        go_simp
      simp only [Act.put, List.setIfInBounds_toArray, List.set_cons_zero, List.set_cons_succ]
      refine wpAnyH_ready (rs := [14]) (by kernel_rfl) (by simp) ?_
      refine AllReadyH.cons rfl (fun K hK => ?_) AllReadyH.nil
      go_simp
      refine hK _ _ ⟨c0', c1'⟩ (fun hHeld => ?_)
      clear hK K
      refine wpAnyH_done (by kernel_rfl) ?_ _
      refine NoPanic.normal ?_
      clear hHeld
      clear c0 c1 X0 HA CM H0
      obtain ⟨p1, _⟩ := X5.out 1 _ rfl
      have P1 : Hid (w5.cell? ⟨w.heap.size, 1, none⟩ = some (.string pv)) := p1
      clear p1 X5
      clear c0' c1'
      cases th with
      | false =>
        have HZ : Hid (false = bb) := HB3
        go_upto_region 10 with fail
        refine wp_region_noPanic ?_
        refine wp_region_held_drew (S := fun w' => w'.cell? ⟨w.heap.size, 1, none⟩ = some (.string pv)) (by kernel_rfl) P1.out (fun hHeld => ?_)
        refine tkA (i := 0) (v := .bool false) ?_ hHeld ?_
        · intro w9 hSw
          go_simp
        simp only [Act.put, List.setIfInBounds_toArray, List.set_cons_zero, List.set_cons_succ]
        refine tkA (i := 1) (v := .bool false) ?_ hHeld ?_
        · intro w9 hSw
          go_simp
        simp only [Act.put, List.setIfInBounds_toArray, List.set_cons_zero, List.set_cons_succ]
        refine skA (i := 2) hHeld ?_
        simp only [Act.put, List.setIfInBounds_toArray, List.set_cons_zero, List.set_cons_succ]
        refine tkA (i := 3) (v := .bool false) ?_ hHeld ?_
        · intro w9 hSw
          go_simp
        simp only [Act.put, List.setIfInBounds_toArray, List.set_cons_zero, List.set_cons_succ]
        refine tkA (i := 4) (v := .bool false) ?_ hHeld ?_
        · intro w9 hSw
          go_simp
        simp only [Act.put, List.setIfInBounds_toArray, List.set_cons_zero, List.set_cons_succ]
        refine skA (i := 5) hHeld ?_
        simp only [Act.put, List.setIfInBounds_toArray, List.set_cons_zero, List.set_cons_succ]
        refine skA (i := 6) hHeld ?_
        simp only [Act.put, List.setIfInBounds_toArray, List.set_cons_zero, List.set_cons_succ]
        refine skA (i := 7) hHeld ?_
        simp only [Act.put, List.setIfInBounds_toArray, List.set_cons_zero, List.set_cons_succ]
        refine tkA (i := 8) (v := .bool false) ?_ hHeld ?_
        · intro w9 hSw
          go_simp
        simp only [Act.put, List.setIfInBounds_toArray, List.set_cons_zero, List.set_cons_succ]
        refine tkA (i := 9) (v := .bool false) ?_ hHeld ?_
        · intro w9 hSw
          go_simp
        simp only [Act.put, List.setIfInBounds_toArray, List.set_cons_zero, List.set_cons_succ]
        refine skA (i := 10) hHeld ?_
        simp only [Act.put, List.setIfInBounds_toArray, List.set_cons_zero, List.set_cons_succ]
        refine skA (i := 11) hHeld ?_
        simp only [Act.put, List.setIfInBounds_toArray, List.set_cons_zero, List.set_cons_succ]
        refine skA (i := 12) hHeld ?_
        simp only [Act.put, List.setIfInBounds_toArray, List.set_cons_zero, List.set_cons_succ]
        refine skA (i := 13) hHeld ?_
        simp only [Act.put, List.setIfInBounds_toArray, List.set_cons_zero, List.set_cons_succ]
        refine skA (i := 14) hHeld ?_
        simp only [Act.put, List.setIfInBounds_toArray, List.set_cons_zero, List.set_cons_succ]
        refine skA (i := 15) hHeld ?_
        simp only [Act.put, List.setIfInBounds_toArray, List.set_cons_zero, List.set_cons_succ]
        refine skA (i := 16) hHeld ?_
        simp only [Act.put, List.setIfInBounds_toArray, List.set_cons_zero, List.set_cons_succ]
        refine skA (i := 17) hHeld ?_
        simp only [Act.put, List.setIfInBounds_toArray, List.set_cons_zero, List.set_cons_succ]
        refine skA (i := 18) hHeld ?_
        simp only [Act.put, List.setIfInBounds_toArray, List.set_cons_zero, List.set_cons_succ]
        refine tkA (i := 19) (v := .bool false) ?_ hHeld ?_
        · intro w9 hSw
          go_simp
        simp only [Act.put, List.setIfInBounds_toArray, List.set_cons_zero, List.set_cons_succ]
        refine wpAnyH_ready (rs := [20]) (by kernel_rfl) (by simp) ?_
        refine AllReadyH.cons rfl (fun K hK => ?_) AllReadyH.nil
        go_simp
        refine hK _ _ P1.out (fun hHeld => ?_)
        clear hK K
        refine wpAnyH_done (by kernel_rfl) ?_ _
        refine NoPanic.normal ?_
        clear hHeld
        go_wp2_with fail
        go_ret
        exact ⟨ret_bool HZ.out, B5.out.drew⟩
      | true =>
        cases R with
        | none =>
          have HZ : Hid (false = bb) := HB3
          obtain rfl : false = ok := hok
          go_upto_region 10 with fail
          refine wp_region_noPanic ?_
          refine wp_region_held_drew (S := fun w' => w'.cell? ⟨w.heap.size, 1, none⟩ = some (.string pv)) (by kernel_rfl) P1.out (fun hHeld => ?_)
          refine tkA (i := 0) (v := .bool true) ?_ hHeld ?_
          · intro w9 hSw
            go_simp
          simp only [Act.put, List.setIfInBounds_toArray, List.set_cons_zero, List.set_cons_succ]
          refine tkA (i := 1) (v := .bool true) ?_ hHeld ?_
          · intro w9 hSw
            go_simp
          simp only [Act.put, List.setIfInBounds_toArray, List.set_cons_zero, List.set_cons_succ]
          refine tkA (i := 2) (v := .bool false) ?_ hHeld ?_
          · intro w9 hSw
            go_simp
          simp only [Act.put, List.setIfInBounds_toArray, List.set_cons_zero, List.set_cons_succ]
          refine tkA (i := 3) (v := .bool false) ?_ hHeld ?_
          · intro w9 hSw
            go_simp
          simp only [Act.put, List.setIfInBounds_toArray, List.set_cons_zero, List.set_cons_succ]
          refine tkA (i := 4) (v := .bool false) ?_ hHeld ?_
          · intro w9 hSw
            go_simp
          simp only [Act.put, List.setIfInBounds_toArray, List.set_cons_zero, List.set_cons_succ]
          refine skA (i := 5) hHeld ?_
          simp only [Act.put, List.setIfInBounds_toArray, List.set_cons_zero, List.set_cons_succ]
          refine skA (i := 6) hHeld ?_
          simp only [Act.put, List.setIfInBounds_toArray, List.set_cons_zero, List.set_cons_succ]
          refine skA (i := 7) hHeld ?_
          simp only [Act.put, List.setIfInBounds_toArray, List.set_cons_zero, List.set_cons_succ]
          refine tkA (i := 8) (v := .bool false) ?_ hHeld ?_
          · intro w9 hSw
            go_simp
          simp only [Act.put, List.setIfInBounds_toArray, List.set_cons_zero, List.set_cons_succ]
          refine tkA (i := 9) (v := .bool false) ?_ hHeld ?_
          · intro w9 hSw
            go_simp
          simp only [Act.put, List.setIfInBounds_toArray, List.set_cons_zero, List.set_cons_succ]
          refine skA (i := 10) hHeld ?_
          simp only [Act.put, List.setIfInBounds_toArray, List.set_cons_zero, List.set_cons_succ]
          refine skA (i := 11) hHeld ?_
          simp only [Act.put, List.setIfInBounds_toArray, List.set_cons_zero, List.set_cons_succ]
          refine skA (i := 12) hHeld ?_
          simp only [Act.put, List.setIfInBounds_toArray, List.set_cons_zero, List.set_cons_succ]
          refine skA (i := 13) hHeld ?_
          simp only [Act.put, List.setIfInBounds_toArray, List.set_cons_zero, List.set_cons_succ]
          refine skA (i := 14) hHeld ?_
          simp only [Act.put, List.setIfInBounds_toArray, List.set_cons_zero, List.set_cons_succ]
          refine skA (i := 15) hHeld ?_
          simp only [Act.put, List.setIfInBounds_toArray, List.set_cons_zero, List.set_cons_succ]
          refine skA (i := 16) hHeld ?_
          simp only [Act.put, List.setIfInBounds_toArray, List.set_cons_zero, List.set_cons_succ]
          refine skA (i := 17) hHeld ?_
          simp only [Act.put, List.setIfInBounds_toArray, List.set_cons_zero, List.set_cons_succ]
          refine skA (i := 18) hHeld ?_
          simp only [Act.put, List.setIfInBounds_toArray, List.set_cons_zero, List.set_cons_succ]
          refine tkA (i := 19) (v := .bool false) ?_ hHeld ?_
          · intro w9 hSw
            go_simp
          simp only [Act.put, List.setIfInBounds_toArray, List.set_cons_zero, List.set_cons_succ]
          refine wpAnyH_ready (rs := [20]) (by kernel_rfl) (by simp) ?_
          refine AllReadyH.cons rfl (fun K hK => ?_) AllReadyH.nil
          go_simp
          refine hK _ _ P1.out (fun hHeld => ?_)
          clear hK K
          refine wpAnyH_done (by kernel_rfl) ?_ _
          refine NoPanic.normal ?_
          clear hHeld
          go_wp2_with fail
          go_ret
          exact ⟨ret_bool HZ.out, B5.out.drew⟩
        | some p =>
          obtain rfl : true = ok := hok
          obtain ⟨rfl, rfl⟩ := MP.out p rfl
          obtain ⟨x, y⟩ := p
          have HX : Hid ((decide (x < next) && (pv.toList == (metaT x y).toList)) = bb) := HB3
          have HRNG := RNG.out _ rfl
          simp only at HRNG ⊢
          clear HB3 RNG MP
          by_cases hlt : x < next
          · have DX := fun W => digitsI x (by omega) (by omega) W
            have DY := fun W => digitsI y (by omega) (by omega) W
            obtain ⟨X, hX⟩ : ∃ X, bs (itoa x) = X := ⟨_, rfl⟩
            obtain ⟨Y, hY⟩ : ∃ Y, bs (itoa y) = Y := ⟨_, rfl⟩
            have hXs : X.size ≤ 100 := by rw [← hX]; exact itoa_small x (by omega) (by omega)
            have hYs : Y.size ≤ 100 := by rw [← hY]; exact itoa_small y (by omega) (by omega)
            obtain ⟨eq, heq⟩ : ∃ b, (pv.toList == ((X ++ ⟨#[32]⟩) ++ Y).toList) = b := ⟨_, rfl⟩
            have HZ : Hid (eq = bb) := by
              show _ = _
              rw [← HX.out, decide_eq_true hlt, ← heq, ← hX, ← hY]
              rfl
            rw [hX] at DX
            rw [hY] at DY
            have hn1 : ¬ 9223372036854775807 < X.size + 1 := by omega
            have hn2 : ¬ 9223372036854775807 < X.size + 1 + Y.size := by omega
            have hn3 : ¬ 9223372036854775807 < (X ++ (⟨#[32]⟩ : ByteArray)).size + Y.size := by rw [ByteArray.size_append]; show ¬ _ < X.size + 1 + Y.size; omega
            clear HX hX hY HRNG
            go_upto_region 10 with fail
            refine wp_region_noPanic ?_
            refine wp_region_held_drew (S := fun w' => w'.cell? ⟨w.heap.size, 1, none⟩ = some (.string pv)) (by kernel_rfl) P1.out (fun hHeld => ?_)
            refine tkA (i := 0) (v := .bool true) ?_ hHeld ?_
            · intro w9 hSw
              go_simp
            simp only [Act.put, List.setIfInBounds_toArray, List.set_cons_zero, List.set_cons_succ]
            refine tkA (i := 1) (v := .bool true) ?_ hHeld ?_
            · intro w9 hSw
              go_simp
            simp only [Act.put, List.setIfInBounds_toArray, List.set_cons_zero, List.set_cons_succ]
            refine tkA (i := 2) (v := .bool true) ?_ hHeld ?_
            · intro w9 hSw
              go_simp
            simp only [Act.put, List.setIfInBounds_toArray, List.set_cons_zero, List.set_cons_succ]
            refine tkA (i := 3) (v := .bool true) ?_ hHeld ?_
            · intro w9 hSw
              go_simp
            simp only [Act.put, List.setIfInBounds_toArray, List.set_cons_zero, List.set_cons_succ]
            refine tkA (i := 4) (v := .bool true) ?_ hHeld ?_
            · intro w9 hSw
              go_simp
            simp only [Act.put, List.setIfInBounds_toArray, List.set_cons_zero, List.set_cons_succ]
            refine tkA (i := 5) (v := .int .i64 x) ?_ hHeld ?_
            · intro w9 hSw
              go_simp
            simp only [Act.put, List.setIfInBounds_toArray, List.set_cons_zero, List.set_cons_succ]
            refine tkA (i := 6) (v := .int .i64 next) ?_ hHeld ?_
            · intro w9 hSw
              go_simp
            simp only [Act.put, List.setIfInBounds_toArray, List.set_cons_zero, List.set_cons_succ]
            refine tkA (i := 7) (v := .bool true) ?_ hHeld ?_
            · intro w9 hSw
              go_simp
            simp only [Act.put, List.setIfInBounds_toArray, List.set_cons_zero, List.set_cons_succ]
            refine tkA (i := 8) (v := .bool true) ?_ hHeld ?_
            · intro w9 hSw
              go_simp
            simp only [Act.put, List.setIfInBounds_toArray, List.set_cons_zero, List.set_cons_succ]
            refine tkA (i := 9) (v := .bool true) ?_ hHeld ?_
            · intro w9 hSw
              go_simp
            simp only [Act.put, List.setIfInBounds_toArray, List.set_cons_zero, List.set_cons_succ]
            refine tkA (i := 10) (v := .pointer (some ⟨w.heap.size, 1, none⟩)) ?_ hHeld ?_
            · intro w9 hSw
              go_simp
            simp only [Act.put, List.setIfInBounds_toArray, List.set_cons_zero, List.set_cons_succ]
            refine tkA (i := 11) (v := .string pv) ?_ hHeld ?_
            · intro w9 hSw
              go_simp
            simp only [Act.put, List.setIfInBounds_toArray, List.set_cons_zero, List.set_cons_succ]
            refine tkA (i := 12) (v := .int .i64 x) ?_ hHeld ?_
            · intro w9 hSw
              go_simp
            simp only [Act.put, List.setIfInBounds_toArray, List.set_cons_zero, List.set_cons_succ]
            refine tkA (i := 15) (v := .int .i64 y) ?_ hHeld ?_
            · intro w9 hSw
              go_simp
            simp only [Act.put, List.setIfInBounds_toArray, List.set_cons_zero, List.set_cons_succ]
            refine wpAnyH_ready (rs := [13]) (by kernel_rfl) (by simp) ?_
            refine AllReadyH.cons rfl (fun K hK => ?_) AllReadyH.nil
            go_simp
            refine (DX _).mono ?_
            rintro e w6 ⟨rfl, hb6⟩
            dsimp only
            have B6 : Hid (Below w.heap.size w w6) := B5.out.drew.trans (hb6.mono B5.out.drew.size)
            have P6 : Hid (w6.cell? ⟨w.heap.size, 1, none⟩ = some (.string pv)) := cell_later (w := w5.drew) hb6 P1.out
            clear hb6
            refine hK _ _ P6.out (fun hHeld => ?_)
            clear hK K
            refine tkA (i := 14) (v := .string (X ++ ⟨#[32]⟩)) ?_ hHeld ?_
            · intro w9 hSw
              go_simp
            simp only [Act.put, List.setIfInBounds_toArray, List.set_cons_zero, List.set_cons_succ]
            refine wpAnyH_ready (rs := [16]) (by kernel_rfl) (by simp) ?_
            refine AllReadyH.cons rfl (fun K hK => ?_) AllReadyH.nil
            go_simp
            refine (DY _).mono ?_
            rintro e w7 ⟨rfl, hb7⟩
            dsimp only
            have B7 : Hid (Below w.heap.size w w7) := B6.out.trans (hb7.mono B6.out.size)
            have P7 : Hid (w7.cell? ⟨w.heap.size, 1, none⟩ = some (.string pv)) := cell_later (w := w6) hb7 P6.out
            clear hb7
            refine hK _ _ P7.out (fun hHeld => ?_)
            clear hK K
            refine tkA (i := 17) (v := .string ((X ++ ⟨#[32]⟩) ++ Y)) ?_ hHeld ?_
            · intro w9 hSw
              go_simp
            simp only [Act.put, List.setIfInBounds_toArray, List.set_cons_zero, List.set_cons_succ]
            refine tkA (i := 18) (v := .bool eq) ?_ hHeld ?_
            · intro w9 hSw
              go_simp
            simp only [Act.put, List.setIfInBounds_toArray, List.set_cons_zero, List.set_cons_succ]
            refine tkA (i := 19) (v := .bool eq) ?_ hHeld ?_
            · intro w9 hSw
              go_simp
            simp only [Act.put, List.setIfInBounds_toArray, List.set_cons_zero, List.set_cons_succ]
            refine wpAnyH_ready (rs := [20]) (by kernel_rfl) (by simp) ?_
            refine AllReadyH.cons rfl (fun K hK => ?_) AllReadyH.nil
            go_simp
            refine hK _ _ P7.out (fun hHeld => ?_)
            clear hK K
            refine wpAnyH_done (by kernel_rfl) ?_ _
            refine NoPanic.normal ?_
            clear hHeld
            go_wp2_with fail
            go_ret
            exact ⟨ret_bool HZ.out, B7.out⟩
          · have HZ : Hid (false = bb) := by show _ = _; rw [← HX.out, decide_eq_false hlt]; rfl
            clear HX HRNG
            go_upto_region 10 with fail
            refine wp_region_noPanic ?_
            refine wp_region_held_drew (S := fun w' => w'.cell? ⟨w.heap.size, 1, none⟩ = some (.string pv)) (by kernel_rfl) P1.out (fun hHeld => ?_)
            refine tkA (i := 0) (v := .bool true) ?_ hHeld ?_
            · intro w9 hSw
              go_simp
            simp only [Act.put, List.setIfInBounds_toArray, List.set_cons_zero, List.set_cons_succ]
            refine tkA (i := 1) (v := .bool true) ?_ hHeld ?_
            · intro w9 hSw
              go_simp
            simp only [Act.put, List.setIfInBounds_toArray, List.set_cons_zero, List.set_cons_succ]
            refine tkA (i := 2) (v := .bool true) ?_ hHeld ?_
            · intro w9 hSw
              go_simp
            simp only [Act.put, List.setIfInBounds_toArray, List.set_cons_zero, List.set_cons_succ]
            refine tkA (i := 3) (v := .bool true) ?_ hHeld ?_
            · intro w9 hSw
              go_simp
            simp only [Act.put, List.setIfInBounds_toArray, List.set_cons_zero, List.set_cons_succ]
            refine tkA (i := 4) (v := .bool true) ?_ hHeld ?_
            · intro w9 hSw
              go_simp
            simp only [Act.put, List.setIfInBounds_toArray, List.set_cons_zero, List.set_cons_succ]
            refine tkA (i := 5) (v := .int .i64 x) ?_ hHeld ?_
            · intro w9 hSw
              go_simp
            simp only [Act.put, List.setIfInBounds_toArray, List.set_cons_zero, List.set_cons_succ]
            refine tkA (i := 6) (v := .int .i64 next) ?_ hHeld ?_
            · intro w9 hSw
              go_simp
            simp only [Act.put, List.setIfInBounds_toArray, List.set_cons_zero, List.set_cons_succ]
            refine tkA (i := 7) (v := .bool false) ?_ hHeld ?_
            · intro w9 hSw
              go_simp
            simp only [Act.put, List.setIfInBounds_toArray, List.set_cons_zero, List.set_cons_succ]
            refine tkA (i := 8) (v := .bool false) ?_ hHeld ?_
            · intro w9 hSw
              go_simp
            simp only [Act.put, List.setIfInBounds_toArray, List.set_cons_zero, List.set_cons_succ]
            refine tkA (i := 9) (v := .bool false) ?_ hHeld ?_
            · intro w9 hSw
              go_simp
            simp only [Act.put, List.setIfInBounds_toArray, List.set_cons_zero, List.set_cons_succ]
            refine skA (i := 10) hHeld ?_
            simp only [Act.put, List.setIfInBounds_toArray, List.set_cons_zero, List.set_cons_succ]
            refine skA (i := 11) hHeld ?_
            simp only [Act.put, List.setIfInBounds_toArray, List.set_cons_zero, List.set_cons_succ]
            refine skA (i := 12) hHeld ?_
            simp only [Act.put, List.setIfInBounds_toArray, List.set_cons_zero, List.set_cons_succ]
            refine skA (i := 13) hHeld ?_
            simp only [Act.put, List.setIfInBounds_toArray, List.set_cons_zero, List.set_cons_succ]
            refine skA (i := 14) hHeld ?_
            simp only [Act.put, List.setIfInBounds_toArray, List.set_cons_zero, List.set_cons_succ]
            refine skA (i := 15) hHeld ?_
            simp only [Act.put, List.setIfInBounds_toArray, List.set_cons_zero, List.set_cons_succ]
            refine skA (i := 16) hHeld ?_
            simp only [Act.put, List.setIfInBounds_toArray, List.set_cons_zero, List.set_cons_succ]
            refine skA (i := 17) hHeld ?_
            simp only [Act.put, List.setIfInBounds_toArray, List.set_cons_zero, List.set_cons_succ]
            refine skA (i := 18) hHeld ?_
            simp only [Act.put, List.setIfInBounds_toArray, List.set_cons_zero, List.set_cons_succ]
            refine tkA (i := 19) (v := .bool false) ?_ hHeld ?_
            · intro w9 hSw
              go_simp
            simp only [Act.put, List.setIfInBounds_toArray, List.set_cons_zero, List.set_cons_succ]
            refine wpAnyH_ready (rs := [20]) (by kernel_rfl) (by simp) ?_
            refine AllReadyH.cons rfl (fun K hK => ?_) AllReadyH.nil
            go_simp
            refine hK _ _ P1.out (fun hHeld => ?_)
            clear hK K
            refine wpAnyH_done (by kernel_rfl) ?_ _
            refine NoPanic.normal ?_
            clear hHeld
            go_wp2_with fail
            go_ret
            exact ⟨ret_bool HZ.out, B5.out.drew⟩
end Go.Proofs.YthgbclipknfmjaaGreatDoor
