/-
  Lof Fom Sfl Sfs Rnp in one. By an AI agent.
-/
import Derived.Test.YthgbclipknfmjaaGreatDoorFu15
namespace Go.Proofs.YthgbclipknfmjaaGreatDoor
open Go.ChangeShapes Go.WideShapes Go.ChangeAt Go.RowKit Go.Deep Go.Lib
set_option linter.unusedVariables false
set_option linter.unusedSimpArgs false
set_option maxRecDepth 100000

/-- Mails whose pairs can be read back. -/
def FitMs (Ms : List MMl) : Prop := ∀ m ∈ Ms, 0 ≤ m.1 ∧ m.1 < 1000 ∧ 0 ≤ m.2.1 ∧ m.2.1 ≤ 3 ∧ m.2.2.size ≤ 1000
/-- Of three digits the first i, as a number. -/
def partD (x y z : Int) : Nat → Int
  | 0 => 0
  | 1 => x
  | 2 => x * 10 + y
  | _ => (x * 10 + y) * 10 + z
def digD (x y z : Int) : Nat → Int
  | 0 => x
  | 1 => y
  | _ => z
theorem part_step (x y z : Int) (i : Nat) (h : i < 3) : partD x y z (i + 1) = partD x y z i * 10 + digD x y z i := by
  match i, h with
  | 0, _ => simp [partD, digD]
  | 1, _ => rfl
  | 2, _ => rfl
theorem key_digit {K : ByteArray} {p : List UInt8} {x y z : Nat} (hx : x < 10) (hy : y < 10) (hz : z < 10) (h : K.data.toList = p ++ [UInt8.ofNat (48 + x), UInt8.ofNat (48 + y), UInt8.ofNat (48 + z)]) (i : Nat) (hi : i < 3) : K.size = p.length + 3 ∧ ∃ hb : p.length + i < K.size, ((K[p.length + i]'hb).toNat : Int) = 48 + digD (x : Int) (y : Int) (z : Int) i := by
  have hs : K.size = p.length + 3 := by
    rw [size_of, h]
    simp
  refine ⟨hs, by omega, ?_⟩
  have hd : ∀ d : Nat, d < 10 → ((UInt8.ofNat (48 + d)).toNat : Int) = 48 + (d : Int) := fun d h9 => by
    have h1 : (UInt8.ofNat (48 + d)).toNat = 48 + d := by simp [UInt8.toNat_ofNat']; omega
    rw [h1]
    omega
  have hb : p.length + i < K.data.toList.length := by rw [h]; simp; omega
  have e : K[p.length + i]'(by omega) = K.data.toList[p.length + i]'hb := rfl
  rw [e]
  have e2 : K.data.toList[p.length + i]'hb = [UInt8.ofNat (48 + x), UInt8.ofNat (48 + y), UInt8.ofNat (48 + z)][i]'(by simpa using hi) := by
    simp only [h]
    rw [List.getElem_append_right (by omega)]
    simp
  rw [e2]
  match i, hi with
  | 0, _ => exact hd x hx
  | 1, _ => exact hd y hy
  | 2, _ => exact hd z hz
set_option maxHeartbeats 8000000 in
theorem l07OfS (a : Option Addr) (n c : Nat) (L : List PM) (hL : L.length = n) (hg : GoodL L) (u f : ByteArray) (hus : u.size ≤ 1000) (hfs : f.size ≤ 1000) (Ms : List MMl) (hM : FitMs Ms) (hU : (L.filter fun x => beginsB x.1 (preK u f)) = Ms.map (mailP u f)) (w : World) (h : Src w a (cellsP L)) :
    Calls Tryz.prog 95 #[.slice a n c, .string u, .string f] w fun e w' => ∃ v, e = .returned v ∧ w'.ownsRow w.heap.size 37 3 v Ms.length (cellsMl Ms) ∧ Below w.heap.size w w' := by
  have hn60 := hg.1
  rw [hL] at hn60
  have CM := fun W => l07MailsS u f W hus hfs
  have hpz := preK_size u f
  have CU := fun W (hW : Below w.heap.size w W) => l01Under a n c (fK L) (fV L) (preK u f) W (by omega) (by omega) (fun i hi => by
    have hi2 : i < L.length := by omega
    obtain ⟨e1, e2⟩ := at_fst hi2
    rw [e1, e2]
    have := hg.2.1 _ (List.getElem_mem hi2)
    omega) (sp_src (h.below hW) hL)
  have eU : under (fK L) (fV L) (preK u f) n = Ms.map (mailP u f) := by
    rw [under_is L (preK u f) n (by omega), List.take_of_length_le (by omega), hU]
  simp only [eU] at CU
  have hul : (Ms.map (mailP u f)).length ≤ L.length := by rw [← hU]; exact List.length_filter_le _ _
  rw [List.length_map, hL] at hul
  obtain ⟨m, hm⟩ : ∃ t, Ms.length = t := ⟨_, rfl⟩
  rw [hm] at hul
  have hm60 : m ≤ 60 := by omega
  have HUM : Hid (Ms.length = m) := hm
  have HFM : Hid (FitMs Ms) := hM
  have hpl : (preK u f).data.toList.length = (preK u f).size := by rw [size_of]
  have HPD : Hid (∀ x ∈ Ms, ∃ p q r : Nat, p < 10 ∧ q < 10 ∧ r < 10 ∧ x.1 = ((p * 100 + q * 10 + r : Nat) : Int) ∧ (mailK u f x.1).data.toList = (preK u f).data.toList ++ [UInt8.ofNat (48 + p), UInt8.ofNat (48 + q), UInt8.ofNat (48 + r)]) := fun x hx => by
    obtain ⟨e1, e2, _⟩ := hM x hx
    obtain ⟨p, q, r, hp, hq, hr, he⟩ := split3 x.1.toNat (by omega)
    refine ⟨p, q, r, hp, hq, hr, by omega, ?_⟩
    rw [preK_data]
    have hd3 : d3 x.1.toNat = [UInt8.ofNat (48 + p), UInt8.ofNat (48 + q), UInt8.ofNat (48 + r)] := by
      rw [he]
      unfold d3
      rw [dec4 p q r hp hq hr]
      rfl
    show (bs (109 :: 47 :: (u.data.toList ++ 47 :: (f.data.toList ++ 47 :: d3 x.1.toNat)))).data.toList = _
    rw [hd3]
    simp [bs]
  obtain ⟨pl, hpl2⟩ : ∃ t, (preK u f).size = t := ⟨_, rfl⟩
  rw [hpl2] at hpl hpz
  obtain ⟨KP, hKP⟩ : ∃ t, preK u f = t := ⟨_, rfl⟩
  simp only [hKP] at CM CU HPD hpl
  rw [hKP] at hpl2
  have hs60 : pl ≤ 2100 := by omega
  clear hL hg h eU hU hm hKP hul hpz hM
  go_enter Tryz.func95, Tryz.ntmps95
  go_wp2_with fail
  refine (CM _).mono ?_
  rintro e w1 ⟨rfl, hw1⟩
  obtain rfl := hw1
  clear CM
  have A1 : Hid (Below w.heap.size w (w.alloc (.cells #[] 37))) := (Below.refl _ _).alloc (Nat.le_refl _) _
  have OE : Hid ((w.alloc (.cells #[] 37)).ownsRow w.heap.size 37 3 (.slice (some ⟨w.heap.size, 0, none⟩) 0 0) 0 (cellsMl (Ms.take 0))) := own_empty rfl (Nat.le_refl _)
  have CU1 := CU (w.alloc (.cells #[] 37)) A1.out
  clear CU
  go_wp2_with fail
  refine CU1.mono ?_
  rintro e w2 ⟨v2, rfl, ho2, hb2⟩
  have ho3 : w2.ownsRow (w.alloc (.cells #[] 37)).heap.size 68 2 v2 (Ms.map (mailP u f)).length (cellsP (Ms.map (mailP u f))) := ho2
  rw [List.length_map, HUM.out] at ho3
  obtain ⟨au, cu, rfl, hsu, hsb⟩ := own_src ho3
  have B2 : Hid (Below w.heap.size w w2) := A1.out.trans (hb2.mono A1.out.size)
  have HO2 : Hid (w2.ownsRow w.heap.size 37 3 (.slice (some ⟨w.heap.size, 0, none⟩) 0 0) 0 (cellsMl (Ms.take 0))) := own_below OE.out hb2
  have HUR : Hid (w2.ownsRow w.heap.size 68 2 (.slice au m cu) m (cellsP (Ms.map (mailP u f)))) := own_mono ho3 (by have h9 := A1.out.size; omega)
  clear CU1 ho2 ho3 hb2 hsu hsb OE
  go_wp2_with fail
  go_loopw [7, 10] (fun v iv wr => ∃ (j : Nat) (a' : Option Addr) (c' : Nat), j ≤ m ∧ v = .slice a' j c' ∧ iv = .int .i64 (j : Int) ∧ Hid (wr.ownsRow w.heap.size 37 3 (.slice a' j c') j (cellsMl (Ms.take j))) ∧ Hid (wr.ownsRow w.heap.size 68 2 (.slice au m cu) m (cellsP (Ms.map (mailP u f)))) ∧ Hid (Below w.heap.size w wr)) (fun _ i _ => m - (RowKit.intOf i).toNat)
  case atStart => exact ⟨0, _, _, Nat.zero_le _, rfl, rfl, HO2.out, HUR.out, B2.out⟩
  case round =>
    obtain ⟨j, a', c', hj, rfl, rfl, ho, hur, hbr⟩ := hrel
    by_cases hlt : j < m
    · have hltj : (j : Int) < (m : Int) := by omega
      have hjl : j < Ms.length := by rw [HUM.out]; exact hlt
      obtain ⟨gq, capq, hau, _, hsq⟩ := own_someP hur.out (by omega)
      cases hau
      have hjl2 : j < (Ms.map (mailP u f)).length := by rw [List.length_map]; exact hjl
      obtain ⟨bq, oq, x, y, hae, d0, d1, hxy⟩ := srcP hsq hjl2
      cases hae
      rw [Nat.zero_add] at d0 d1
      obtain ⟨mm, hmm⟩ : ∃ t, Ms.getD j ml0 = t := ⟨_, rfl⟩
      have hmem : mm ∈ Ms := by rw [← hmm]; exact mem_getD' Ms ml0 j hjl
      have hxy2 : mailP u f mm = (x, y) := by
        rw [← hxy.out, ← hmm, List.getD_eq_getElem?_getD, List.getD_eq_getElem?_getD, List.getElem?_map, List.getElem?_eq_getElem hjl]
        rfl
      obtain ⟨hmx, hmy⟩ : mailK u f mm.1 = x ∧ mailV mm = y := by
        have h9 : (mailK u f mm.1, mailV mm) = (x, y) := hxy2
        exact ⟨congrArg Prod.fst h9, congrArg Prod.snd h9⟩
      obtain ⟨p1, p2, p3, hp1, hp2, hp3, hpn, hpk⟩ := HPD.out mm hmem
      rw [hmx] at hpk
      obtain ⟨q1, q2, q3, q4, q5⟩ := HFM.out mm hmem
      obtain ⟨t1, t2⟩ := mailV_parts q3 q4
      have hysz : 1 ≤ y.size := by
        rw [← hmy]
        have h9 : (mailV mm).size = (bs (itoa mm.2.1)).size + mm.2.2.size := by unfold mailV; rw [ByteArray.size_append]
        have h8 : 1 ≤ (bs (itoa mm.2.1)).size := by
          rw [size_of]
          show 1 ≤ (itoa mm.2.1).length
          unfold itoa
          rw [if_neg (by omega)]
          unfold decDigits
          rw [dif_pos (by omega)]
          simp
        omega
      rw [hmy] at t1 t2
      have hkd := fun (i : Nat) (hi : i < 3) => key_digit hp1 hp2 hp3 hpk i hi
      simp only [hpl] at hkd
      have hxs : x.size = pl + 3 := (hkd 0 (by omega)).1
      obtain ⟨X, hX⟩ : ∃ t : Int, (p1 : Int) = t := ⟨_, rfl⟩
      obtain ⟨Y, hY⟩ : ∃ t : Int, (p2 : Int) = t := ⟨_, rfl⟩
      obtain ⟨Z, hZ⟩ : ∃ t : Int, (p3 : Int) = t := ⟨_, rfl⟩
      simp only [hX, hY, hZ] at hkd
      have hDG : ∀ i, 0 ≤ digD X Y Z i ∧ digD X Y Z i ≤ 9 := fun i => by
        unfold digD
        split <;> omega
      have hPD : ∀ i, 0 ≤ partD X Y Z i ∧ partD X Y Z i ≤ 1000 := fun i => by
        unfold partD
        split <;> omega
      have hP3 : partD X Y Z 3 = mm.1 := by
        show (X * 10 + Y) * 10 + Z = mm.1
        omega
      have HTK : Hid (cellsMl (Ms.take (j + 1)) = cellsMl (Ms.take j) ++ cellsMl [(mm.1, mm.2.1, mm.2.2)]) := by
        show _ = _
        rw [← cellsMl_append, List.take_add_one, List.getElem?_eq_getElem hjl]
        have h9 : Ms[j] = mm := by rw [← hmm, List.getD_eq_getElem?_getD, List.getElem?_eq_getElem hjl]; rfl
        rw [h9]
        rfl
      obtain ⟨hh, hhh⟩ : ∃ z : Int, hdV y = z := ⟨_, rfl⟩
      have hhd : (y[0].toNat : Int) = hdV y := by
        unfold hdV
        have e9 : y.data.toList.headD 0 = y[0] := by
          cases hvl : y.data.toList with
          | nil =>
            have h9 : y.data.toList.length = y.size := by simp
            rw [hvl] at h9
            simp at h9
            omega
          | cons c0 r0 =>
            have h9 : y[0] = y.data.toList[0]'(by rw [hvl]; simp) := rfl
            rw [h9]
            simp [hvl]
        rw [e9]
      rw [hhh] at hhd t2
      obtain ⟨fl, tx, hfl, htx⟩ : ∃ fl tx, mm.2.1 = fl ∧ mm.2.2 = tx := ⟨_, _, rfl, rfl⟩
      obtain ⟨mu, hmu⟩ : ∃ t, mm.1 = t := ⟨_, rfl⟩
      rw [hfl] at t2 q3 q4 HTK
      rw [htx] at t1 HTK q5
      rw [hmu] at hP3 HTK q1 q2
      have w8 : IntKind.u8.wrap fl = fl := by
        simp [IntKind.wrap, IntKind.bits, IntKind.signed]
        omega
      have w64 : IntKind.i64.wrap fl = fl := wrapI _ (by omega) (by omega)
      have hcut : ∀ W : World, (Instr.slice 9 (.string y) (some (.int .i64 1)) none none).run Tryz.prog W = .ok (.string tx) W := fun W => by
        rw [← t1]
        have := run_slice_string_l (P := Tryz.prog) (w := W) (t := 9) (s := y) Tryz.underlying9 .i64 1 (by omega) (by omega)
        exact this
      clear hsq hjl2 hxy hmm hmem hxy2 hmx hmy hpn hpk hX hY hZ hfl htx hmu hhh t1 hp1 hp2 hp3 HPD
      go_wp2_with fail
      go_loopw [11, 12] (fun nv kv wq => ∃ i : Nat, i ≤ 3 ∧ nv = .int .i64 (partD X Y Z i) ∧ kv = .int .i64 ((pl + i : Nat) : Int) ∧ wq = wr) (fun _ k _ => pl + 3 - (RowKit.intOf k).toNat)
      case atStart => exact ⟨0, by omega, rfl, rfl, rfl⟩
      case round =>
        obtain ⟨i, hi, rfl, rfl, rfl⟩ := hrel
        by_cases hi3 : i < 3
        · obtain ⟨_, hb1, hb2⟩ := hkd i hi3
          have hstep := part_step X Y Z i hi3
          have hD := hDG i
          have hP := hPD i
          have hP2 := hPD (i + 1)
          have hlk : ((pl + i : Nat) : Int) < (x.size : Int) := by omega
          obtain ⟨dg, hdg⟩ : ∃ t, digD X Y Z i = t := ⟨_, rfl⟩
          obtain ⟨pd, hpd⟩ : ∃ t, partD X Y Z i = t := ⟨_, rfl⟩
          rw [hdg] at hb2 hstep hD
          rw [hpd] at hstep hP ⊢
          have wd8 : IntKind.u8.wrap dg = dg := by
            simp [IntKind.wrap, IntKind.bits, IntKind.signed]
            omega
          have hsub : (48 + dg - 48 : Int) = dg := by omega
          go_wp2_with fail
          exact ⟨⟨i + 1, by omega, by rw [hstep], by rw [show ((pl + (i + 1) : Nat) : Int) = (pl : Int) + (i : Int) + 1 by omega], trivial⟩, by simp [RowKit.intOf]; omega⟩
        · obtain rfl : i = 3 := by omega
          have hlk : ¬ ((pl + 3 : Nat) : Int) < (x.size : Int) := by omega
          rw [hP3]
          have HUA : Hid (wr.ownsRow w.heap.size 68 2 (.slice (some ⟨gq, 0, none⟩) m cu) m (cellsP (Ms.map (mailP u f)))) := hur.out
          have hy0 : (0 : Int) < (y.size : Int) := by omega
          have hy1 : ¬ y = ByteArray.empty := fun h9 => by
            rw [h9] at hysz
            exact absurd hysz (by decide)
          have hy2 : 0 < y.size := by omega
          clear hur hkd hDG hPD hP3
          go_upto_region 12 with fail
          refine wp_region_noPanic ?_
          refine wp_region_held_drew (S := fun w' => w'.cell? ⟨gq, j * 2 + 1, none⟩ = some (.string y)) (by kernel_rfl) d1 (fun hHeld => ?_)
          refine tkA (i := 0) (v := .slice a' j c') ?_ hHeld ?_
          · intro w9 hSw
            go_simp
          simp only [Act.put, List.setIfInBounds_toArray, List.set_cons_zero, List.set_cons_succ]
          refine tkA (i := 1) (v := .int .i64 mu) ?_ hHeld ?_
          · intro w9 hSw
            go_simp
          simp only [Act.put, List.setIfInBounds_toArray, List.set_cons_zero, List.set_cons_succ]
          refine tkA (i := 2) (v := .slice (some ⟨gq, 0, none⟩) m cu) ?_ hHeld ?_
          · intro w9 hSw
            go_simp
          simp only [Act.put, List.setIfInBounds_toArray, List.set_cons_zero, List.set_cons_succ]
          refine tkA (i := 3) (v := .int .i64 (j : Int)) ?_ hHeld ?_
          · intro w9 hSw
            go_simp
          simp only [Act.put, List.setIfInBounds_toArray, List.set_cons_zero, List.set_cons_succ]
          refine tkA (i := 4) (v := .pointer (some ⟨gq, j * 2, none⟩)) ?_ hHeld ?_
          · intro w9 hSw
            go_simp
          simp only [Act.put, List.setIfInBounds_toArray, List.set_cons_zero, List.set_cons_succ]
          refine tkA (i := 5) (v := .pointer (some ⟨gq, j * 2 + 1, none⟩)) ?_ hHeld ?_
          · intro w9 hSw
            go_simp
          simp only [Act.put, List.setIfInBounds_toArray, List.set_cons_zero, List.set_cons_succ]
          refine tkA (i := 6) (v := .string y) ?_ hHeld ?_
          · intro w9 hSw
            go_simp
          simp only [Act.put, List.setIfInBounds_toArray, List.set_cons_zero, List.set_cons_succ]
          refine tkA (i := 7) (v := .int .u8 hh) ?_ hHeld ?_
          · intro w9 hSw
            go_simp
          simp only [Act.put, List.setIfInBounds_toArray, List.set_cons_zero, List.set_cons_succ]
          refine tkA (i := 8) (v := .int .u8 fl) ?_ hHeld ?_
          · intro w9 hSw
            go_simp
          simp only [Act.put, List.setIfInBounds_toArray, List.set_cons_zero, List.set_cons_succ]
          refine tkA (i := 9) (v := .int .i64 fl) ?_ hHeld ?_
          · intro w9 hSw
            go_simp
          simp only [Act.put, List.setIfInBounds_toArray, List.set_cons_zero, List.set_cons_succ]
          refine tkA (i := 10) (v := .slice (some ⟨gq, 0, none⟩) m cu) ?_ hHeld ?_
          · intro w9 hSw
            go_simp
          simp only [Act.put, List.setIfInBounds_toArray, List.set_cons_zero, List.set_cons_succ]
          refine tkA (i := 11) (v := .int .i64 (j : Int)) ?_ hHeld ?_
          · intro w9 hSw
            go_simp
          simp only [Act.put, List.setIfInBounds_toArray, List.set_cons_zero, List.set_cons_succ]
          refine tkA (i := 12) (v := .pointer (some ⟨gq, j * 2, none⟩)) ?_ hHeld ?_
          · intro w9 hSw
            go_simp
          simp only [Act.put, List.setIfInBounds_toArray, List.set_cons_zero, List.set_cons_succ]
          refine tkA (i := 13) (v := .pointer (some ⟨gq, j * 2 + 1, none⟩)) ?_ hHeld ?_
          · intro w9 hSw
            go_simp
          simp only [Act.put, List.setIfInBounds_toArray, List.set_cons_zero, List.set_cons_succ]
          refine tkA (i := 14) (v := .string y) ?_ hHeld ?_
          · intro w9 hSw
            go_simp
          simp only [Act.put, List.setIfInBounds_toArray, List.set_cons_zero, List.set_cons_succ]
          refine tkA (i := 15) (v := .string tx) ?_ hHeld ?_
          · intro w9 hSw
            have h9 := hcut w9
            go_simp
          simp only [Act.put, List.setIfInBounds_toArray, List.set_cons_zero, List.set_cons_succ]
          refine tkA (i := 16) (v := .agg #[.int .i64 mu, .int .i64 fl, .string tx]) ?_ hHeld ?_
          · intro w9 hSw
            go_simp
          simp only [Act.put, List.setIfInBounds_toArray, List.set_cons_zero, List.set_cons_succ]
          refine wpAnyH_ready (rs := [17]) (by kernel_rfl) (by simp) ?_
          refine AllReadyH.cons rfl (fun K hK => ?_) AllReadyH.nil
          go_simp
          have A1 : Hid (Below wr.heap.size wr (wr.alloc (.cells #[.int .i64 mu, .int .i64 fl, .string tx] 37)).drew) := (((Below.refl _ _).alloc (Nat.le_refl _) _)).drew
          have d1' := cell_later A1.out d1
          refine hK _ _ d1' (fun hHeld => ?_)
          clear hK K
          refine wpAnyH_ready (rs := [18]) (by kernel_rfl) (by simp) ?_
          refine AllReadyH.cons rfl (fun K hK => ?_) AllReadyH.nil
          refine step_append_src rfl (.tmp 50) (.tmp 67) 26 rfl w.heap.size 37 (.agg #[.int .i64 0, .int .i64 0, .string ⟨#[]⟩]) 3 32 Tryz.underlying26 infoMl rfl (by decide) (by decide) (.slice a' j c') j (cellsMl (Ms.take j)) (by rfl) (own_below ho.out A1.out) ⟨wr.heap.size, 0, none⟩ 1 1 (cellsMl [(mu, fl, tx)]) (by rfl) (by rfl) (src_oneMl rfl) (cellsMl_one _) (by omega) (by omega) (by have h9 := A1.out.size; have h7 := hbr.out.size; omega) ?_
          intro v6 w6 hown6 hgrow6 hloc6
          obtain ⟨a6, c6, rfl, _, _⟩ := own_src hown6
          have UD : (wr.alloc (.cells #[.int .i64 mu, .int .i64 fl, .string tx] 37)).drew.ownsRow w.heap.size 68 2 (.slice (some ⟨gq, 0, none⟩) m cu) m (cellsP (Ms.map (mailP u f))) := own_below HUA.out A1.out
          have U6 : Hid (w6.ownsRow w.heap.size 68 2 (.slice (some ⟨gq, 0, none⟩) m cu) m (cellsP (Ms.map (mailP u f)))) := own_grown (w := (wr.alloc (.cells #[.int .i64 mu, .int .i64 fl, .string tx] 37)).drew) UD hgrow6 (fun g h9 h7 => own_ne UD (own_below ho.out A1.out) (by decide) g h9 h7)
          have O6 : Hid (w6.ownsRow w.heap.size 37 3 (.slice a6 (j + 1) c6) (j + 1) (cellsMl (Ms.take (j + 1)))) := by
            show w6.ownsRow _ _ _ _ _ _
            rw [HTK.out]
            exact hown6
          have B6 : Hid (Below w.heap.size w w6) := (hbr.out.trans (A1.out.mono hbr.out.size)).grown hgrow6 (by have h9 := A1.out.size; have h7 := hbr.out.size; show w.heap.size ≤ (wr.alloc (.cells #[.int .i64 mu, .int .i64 fl, .string tx] 37)).drew.heap.size; omega) (fun g h9 => (ho.out.lt g h9).1)
          have d6 : w6.cell? ⟨gq, j * 2 + 1, none⟩ = some (.string y) := by
            have h9 := World.cell?_of_block (a := ⟨gq, j * 2 + 1, none⟩) (hgrow6.block gq (by have h8 := (UD.lt gq rfl).2; exact h8) (fun h7 => own_ne UD (own_below ho.out A1.out) (by decide) gq rfl h7.symm))
            rw [h9]
            exact d1'
          clear hown6 hgrow6 hloc6 UD
          refine hK _ _ d6 (fun hHeld => ?_)
          clear hK K
          refine wpAnyH_ready (rs := [19]) (by kernel_rfl) (by simp) ?_
          refine AllReadyH.cons rfl (fun K hK => ?_) AllReadyH.nil
          go_simp
          refine hK _ _ d6 (fun hHeld => ?_)
          clear hK K
          refine wpAnyH_done (by kernel_rfl) ?_ _
          refine NoPanic.normal ?_
          clear hHeld
          go_wp2_with fail
          exact ⟨⟨j + 1, a6, c6, by omega, rfl, by go_num, O6.out, U6.out, B6.out⟩, by simp [RowKit.intOf]; omega⟩
    · obtain rfl : j = m := by omega
      have hltj : ¬ (j : Int) < (j : Int) := by omega
      have HFO : Hid (wr.ownsRow w.heap.size 37 3 (.slice a' j c') Ms.length (cellsMl Ms)) := by
        have h9 := ho.out
        rw [List.take_of_length_le (by rw [HUM.out]; exact Nat.le_refl _)] at h9
        rw [HUM.out]
        exact h9
      clear ho hur
      go_wp2_with fail
      go_ret
      exact ⟨_, rfl, HFO.out, hbr.out⟩
/-- A folder's mails lie in the list in their order. -/
def SubF (u : ByteArray) (P : List PM) (g : FM) : Prop := (g.mails.map (mailP u g.name)).Sublist P
theorem sub_take {nx : Int} {u : ByteArray} {P : List PM} {S S' : SM} {q : PM} (hnx : nx ≤ 10000) (hS : ∀ g ∈ S.fs, SubF u P g) (h : takeM nx u S q = some S') : ∀ g ∈ S'.fs, SubF u (P ++ [q]) g := by
  have hold : ∀ g ∈ S.fs, SubF u (P ++ [q]) g := fun g hg => (hS g hg).trans (List.sublist_append_left P [q])
  have hput : ∀ {o : Option FM}, putM S o = some S' → (∀ g, o = some g → SubF u (P ++ [q]) g) → ∀ g ∈ S'.fs, SubF u (P ++ [q]) g := fun {o} h9 hg => by
    unfold putM at h9
    obtain ⟨g, rfl, rfl⟩ := Option.map_eq_some_iff.1 h9
    intro f hf
    rcases putF_mem hf with hf | rfl
    · exact hold f hf
    · exact hg _ rfl
  have haside : asideM S q = some S' → ∀ g ∈ S'.fs, SubF u (P ++ [q]) g := fun h9 => by cases h9; exact hold
  unfold takeM takeP at h
  split at h
  · split at h
    · unfold userM at h
      obtain ⟨_, rfl⟩ := ite_some h
      exact hold
    · exact haside h
  · rename_i a b c hG
    split at h
    · rename_i hc
      refine hput h fun g hg => ?_
      have hgf := (folder_meta hnx).1 hg
      have hgm : g.mails = [] := by rw [hgf.2.2.2]
      unfold SubF
      rw [hgm]
      exact List.nil_sublist _
    · exact haside h
  · rename_i a b c d hG
    split at h
    · rename_i hc
      refine hput h fun g hg => ?_
      unfold mailM at hg
      obtain ⟨f', hl, hg2⟩ := Option.bind_eq_some_iff.1 hg
      obtain ⟨un, m1, m2, m3, m4, m5, m6, m7, m8, hgm⟩ := mailO_some hg2
      have hfn := (lookF_mem hl).2
      have hG2 : splitL 47 q.1.data.toList = [[109], b, c, d] := by rw [hG, hc.2]
      obtain ⟨hk, hnb, hnc⟩ := key_mail hG2
      have hub : u.data.toList = b := by rw [← hc.1]; simp [bs]
      have hpp : fPairs u g = fPairs u f' ++ [q] := by
        rw [hgm]
        refine mail_pairs m1 m2 m3 m5 m6 ?_
        rw [hk, hub, hfn]
        simp [bs]
      have hgn : g.name = f'.name := by rw [hgm]; rfl
      have e : g.mails.map (mailP u g.name) = f'.mails.map (mailP u f'.name) ++ [q] := by
        unfold fPairs at hpp
        rw [List.cons_append] at hpp
        exact (List.cons.inj hpp).2
      unfold SubF
      rw [e]
      exact (hS f' (lookF_mem hl).1).append_right [q]
    · exact haside h
  · exact haside h
theorem sub_all {nx : Int} {u : ByteArray} (hnx : nx ≤ 10000) : ∀ {R P : List PM} {S S' : SM}, (∀ g ∈ S.fs, SubF u P g) → takeAll nx u S R = some S' → ∀ g ∈ S'.fs, SubF u (P ++ R) g
  | [], P, S, S', hS, h => by cases h; rw [List.append_nil]; exact hS
  | q :: R, P, S, S', hS, h => by
    unfold takeAll at h
    obtain ⟨S1, h1, h2⟩ := Option.bind_eq_some_iff.1 h
    have h3 := sub_all hnx (P := P ++ [q]) (sub_take hnx hS h1) h2
    rw [List.append_assoc] at h3
    exact h3
theorem store_sub {L : List PM} {u : ByteArray} {S : SM} (h : storeB L = true) (hS : takeAll (nextM L) u S0 L = some S) : ∀ g ∈ S.fs, SubF u L g := by
  obtain ⟨hg, nx0, hnm, n1, n2, _, _, _⟩ := store_facts h
  exact sub_all (P := []) (by omega) (fun f hf => by cases hf) hS
theorem pass_not {u f : ByteArray} {p : PM} (h : passB u f p = true) : beginsB p.1 (preK u f) = false := by
  unfold passB at h
  rw [Bool.and_eq_true] at h
  simpa using h.2
theorem fol_mails {L : List PM} {u f : ByteArray} {S : SM} {g : FM} (h : storeB L = true) (hus : (47 : UInt8) ∉ u.data.toList) (hfs : (47 : UInt8) ∉ f.data.toList) (hS : takeAll (nextM L) u S0 L = some S) (hw : S.word.toList ≠ []) (hl : lookF f S.fs = some g) : (L.filter fun x => beginsB x.1 (preK u f)) = g.mails.map (mailP u f) := by
  obtain ⟨hg, nx0, hnm, n1, n2, _, _, _⟩ := store_facts h
  obtain ⟨hgm, hgn⟩ := lookF_mem hl
  have hnd := names_all (S := S0) List.nodup_nil hS
  have hsub := store_sub h hS g hgm
  unfold SubF at hsub
  rw [hgn] at hsub
  refine up_perm (hg.2.2.sublist List.filter_sublist) (hg.2.2.sublist hsub) ?_
  refine ((desk_list h hus hS hw).filter _).trans ?_
  have e1 : beginsB vK (preK u f) = false := by
    cases hb : beginsB vK (preK u f) with
    | false => rfl
    | true =>
      obtain ⟨r, hr⟩ := begins_pre.1 hb
      simp at hr
  have e2 : beginsB (userK u) (preK u f) = false := by
    cases hb : beginsB (userK u) (preK u f) with
    | false => rfl
    | true =>
      obtain ⟨r, hr⟩ := begins_pre.1 hb
      simp [ByteArray.data_append] at hr
  rw [List.filter_cons_of_neg (by simp [e1]), List.filter_cons_of_neg (by simp [e2]), List.filter_append]
  have e3 : ((notK vK S.aside).filter fun x => beginsB x.1 (preK u f)) = [] := by
    rw [List.filter_eq_nil_iff]
    intro p hp
    rw [pass_not (aside_pass h hus hfs hS hp)]
    simp
  rw [e3, List.nil_append]
  refine ((flat_perm (drop_perm hl)).filter _).trans ?_
  have hrest := rest_pass (u := u) (f := f) (fs := dropF f S.fs) hus hfs fun x hx => ⟨drop_names hnd x hx, word_slash (name_short h hus hS ((dropF_sub f S.fs).subset hx))⟩
  rw [List.filter_eq_self] at hrest
  have e4 : ((flatF u (dropF f S.fs)).filter fun x => beginsB x.1 (preK u f)) = [] := by
    rw [List.filter_eq_nil_iff]
    intro p hp
    rw [pass_not (hrest p hp)]
    simp
  rw [flat_cons, List.filter_append, e4, List.append_nil]
  unfold fPairs
  have e5 : beginsB (folderK u g.name) (preK u f) = false := by
    cases hb : beginsB (folderK u g.name) (preK u f) with
    | false => rfl
    | true =>
      obtain ⟨r, hr⟩ := begins_pre.1 hb
      rw [folderK_data] at hr
      simp at hr
  rw [List.filter_cons_of_neg (by simp [e5]), hgn]
  have e6 : ((g.mails.map (mailP u f)).filter fun x => beginsB x.1 (preK u f)) = g.mails.map (mailP u f) := by
    rw [List.filter_eq_self]
    intro p hp
    obtain ⟨m, _, rfl⟩ := List.mem_map.1 hp
    exact begins_pre.2 ⟨d3 m.1.toNat, by simp [mailP, bs]⟩
  rw [e6]
def setM (S : SM) (g : FM) (Ms : List MMl) : SM := ⟨S.aside, S.word, putF ⟨g.name, g.val, g.next, Ms⟩ S.fs⟩
/-- What the flags' setting does. -/
def SfIs (S : SM) (f : ByteArray) (un fl q : Int) (S' : SM) : Prop :=
  (lackM S.word S.fs [f] ≠ 0 ∧ q = lackM S.word S.fs [f] ∧ S' = S) ∨ (lackM S.word S.fs [f] = 0 ∧ ∃ g, lookF f S.fs = some g ∧ (((∀ m ∈ g.mails, m.1 ≠ un) ∧ q = 5 ∧ S' = S) ∨ ∃ j, j < g.mails.length ∧ (g.mails.getD j ml0).1 = un ∧ q = 0 ∧ S' = setM S g (g.mails.set j ((g.mails.getD j ml0).1, fl, (g.mails.getD j ml0).2.2))))
theorem lack_zero {S : SM} {f : ByteArray} (h : lackM S.word S.fs [f] = 0) : ∃ g, lookF f S.fs = some g := by
  unfold lackM at h
  split at h
  · cases h
  · split at h
    · cases h
    · rename_i hb
      refine Option.isSome_iff_exists.1 ?_
      cases h9 : (lookF f S.fs).isSome with
      | true => rfl
      | false => exact absurd (by show ((lookF f S.fs).isSome && true) = false; rw [h9]; rfl) hb
def flT (L : List PM) (u f : ByteArray) (un fl : Int) : List PM × Int :=
  if (decide (1 ≤ un) && decide (un ≤ 999)) = false then (L, 5) else match getM L (mailK u f un) with
    | none => (L, 5)
    | some v => (insL (mailK u f un) (bs (itoa fl) ++ v.extract 1 v.size) L, 0)
def flR (L : List PM) (u f : ByteArray) (un fl : Int) : List PM × Int := if knownR L u f ≠ 0 then (L, knownR L u f) else flT L u f un fl
theorem swap_ins {L D : List PM} {k v v' : ByteArray} (hu : UpL L) (hp : L.Perm ((k, v) :: D)) : (insL k v' L).Perm ((k, v') :: D) := by
  refine (ins_perm hu).trans (List.Perm.cons _ ?_)
  have hnd : (L.map (·.1)).Nodup := by
    have h1 : L.Pairwise fun x y => x.1 ≠ y.1 := hu.imp fun h e => by rw [e] at h; exact ltK_irrefl _ h
    rw [List.Nodup, List.pairwise_map]
    exact h1
  have h2 : (((k, v) :: D).map (·.1)).Nodup := (hp.map _).nodup_iff.1 hnd
  rw [List.map_cons, List.nodup_cons] at h2
  refine (notK_perm hp).trans ?_
  rw [notK_skip k (k, v) D rfl, notK_self fun x hx e => h2.1 (List.mem_map.2 ⟨x, hx, e⟩)]
theorem pull_perm (v w F x : PM) (A a b r : List PM) : (v :: w :: (A ++ ((F :: (a ++ x :: b)) ++ r))).Perm (x :: (v :: w :: (A ++ ((F :: (a ++ b)) ++ r)))) := by
  have p1 : (A ++ ((F :: (a ++ x :: b)) ++ r)).Perm (x :: (A ++ ((F :: (a ++ b)) ++ r))) := by
    have p2 : ((F :: (a ++ x :: b)) ++ r).Perm (x :: ((F :: (a ++ b)) ++ r)) := by
      have p3 : (F :: (a ++ x :: b)).Perm (x :: F :: (a ++ b)) := (List.Perm.cons F List.perm_middle).trans (List.Perm.swap _ _ _)
      exact List.Perm.append_right r p3
    exact (List.Perm.append_left A p2).trans List.perm_middle
  exact (List.Perm.cons v (List.Perm.cons w p1)).trans ((List.Perm.cons v (List.Perm.swap _ _ _)).trans (List.Perm.swap _ _ _))
theorem set_split {α : Type} (d : α) : ∀ (L : List α) (j : Nat) (y : α), j < L.length → ∃ A B, L = A ++ L.getD j d :: B ∧ L.set j y = A ++ y :: B
  | [], j, _, h => by cases h
  | x :: L, 0, y, _ => ⟨[], L, rfl, rfl⟩
  | x :: L, j + 1, y, h => by
    obtain ⟨A, B, h1, h2⟩ := set_split d L j y (by simpa using h)
    refine ⟨x :: A, B, ?_, ?_⟩
    · show x :: L = x :: (A ++ L.getD j d :: B)
      rw [← h1]
    · show x :: L.set j y = x :: (A ++ y :: B)
      rw [h2]
theorem sf_fits {L : List PM} {u f : ByteArray} {un fl : Int} {S S' : SM} {q : Int} (h : storeB L = true) (hsu : shortB u = true) (hsf : shortB f = true) (f0 : 0 ≤ fl) (f1 : fl ≤ 3) (hS : takeAll (nextM L) u S0 L = some S) (hQ : SfIs S f un fl q S') : OpFits L u q (nextM L) S' (flR L u f un fl) := by
  have hus := word_slash hsu
  have hfs := word_slash hsf
  obtain ⟨hg, nx0, hnm, n1, n2, _, _, _⟩ := store_facts h
  rw [hnm] at n1 n2
  have hlk := lack_known h hus hfs hS
  unfold flR
  rcases hQ with ⟨k1, rfl, rfl⟩ | ⟨k1, g, hl, ⟨hno, rfl, rfl⟩ | ⟨j, hj, hju, rfl, rfl⟩⟩
  · rw [hlk] at k1 ⊢
    rw [if_pos k1]
    exact ⟨fun _ => rfl, fun h9 => absurd h9 k1⟩
  · rw [hlk] at k1
    rw [if_neg (by simp [k1])]
    refine ⟨fun _ => ?_, fun h9 => by cases h9⟩
    unfold flT
    by_cases hr : (decide (1 ≤ un) && decide (un ≤ 999)) = false
    · rw [if_pos hr]
    · rw [if_neg hr]
      have hcp := cp_miss (tf := f) h hus hfs hS hl hno
      unfold cpT at hcp
      rw [if_neg hr] at hcp
      cases hv : getM L (mailK u f un) with
      | none => rfl
      | some v =>
        exfalso
        have hr2 : 1 ≤ un ∧ un ≤ 999 := by
          by_cases e : 1 ≤ un ∧ un ≤ 999
          · exact e
          · exact absurd (by
              by_cases e1 : 1 ≤ un
              · have e2 : ¬ un ≤ 999 := fun h9 => e ⟨e1, h9⟩
                rw [decide_eq_false e2]; simp
              · rw [decide_eq_false e1]; rfl) hr
        have hp := (getM_mem hg.2.2).1 hv
        have hp2 : (mailK u f ((un.toNat : Nat) : Int), v) ∈ L := by rw [show ((un.toNat : Nat) : Int) = un by omega]; exact hp
        obtain ⟨m, m1, m2, _⟩ := mail_there h hus hfs hS hl (by omega) hp2
        exact hno m m1 (by omega)
  · rw [hlk] at k1
    rw [if_neg (by simp [k1])]
    obtain ⟨hw, _⟩ := known_zero h hus hfs hS k1
    obtain ⟨hgm, hgn⟩ := lookF_mem hl
    obtain ⟨m, hmd⟩ : ∃ m, g.mails.getD j ml0 = m := ⟨_, rfl⟩
    rw [hmd] at hju ⊢
    have hmm : m ∈ g.mails := by rw [← hmd]; exact mem_getD' _ _ _ hj
    obtain ⟨e1, e2, e3, e4, e5⟩ := (store_fit h hS g hgm).2.2.2.2.2 m hmm
    have hp := mail_pair h hus hS hl hmm
    have hp2 : (mailK u f ((m.1.toNat : Nat) : Int), mailV m) ∈ L := by rw [show ((m.1.toNat : Nat) : Int) = m.1 by omega]; exact hp
    obtain ⟨_, _, _, _, hpos⟩ := mail_val h hus hfs (hasU h hus hS hw) (by omega) hp2
    obtain ⟨A, B, hA, hB⟩ := set_split ml0 g.mails j (m.1, fl, m.2.2) hj
    rw [hmd] at hA
    have hflT : flT L u f un fl = (insL (mailK u f un) (mailV (m.1, fl, m.2.2)) L, 0) := by
      unfold flT
      rw [if_neg (by rw [← hju, decide_eq_true (by omega), decide_eq_true (by omega)]; decide), ← hju, (getM_mem hg.2.2).2 hp]
      show (insL (mailK u f m.1) (bs (itoa fl) ++ (mailV m).extract 1 (mailV m).size) L, (0 : Int)) = _
      rw [(mailV_parts e3 e4).1]
      rfl
    rw [hflT, hB]
    have hdl := desk_list h hus hS hw
    have hfp : ∀ m' : MMl, fPairs u ⟨g.name, g.val, g.next, A ++ m' :: B⟩ = (folderK u f, metaT g.val g.next) :: (A.map (mailP u f) ++ (mailP u f m') :: B.map (mailP u f)) := fun m' => by
      unfold fPairs
      dsimp only
      rw [hgn, List.map_append]
      rfl
    have hgg : g = ⟨g.name, g.val, g.next, A ++ m :: B⟩ := by
      cases g
      dsimp only at hA ⊢
      rw [← hA]
    have hfl1 : (flatF u S.fs).Perm (fPairs u g ++ flatF u (dropF f S.fs)) := by
      have h9 := flat_perm (u := u) (drop_perm hl)
      rw [flat_cons] at h9
      exact h9
    rw [hgg, hfp] at hfl1
    have hLD : L.Perm ((mailK u f un, mailV m) :: ((vK, bs (itoa (nextM L))) :: (userK u, S.word) :: (notK vK S.aside ++ (((folderK u f, metaT g.val g.next) :: (A.map (mailP u f) ++ B.map (mailP u f))) ++ flatF u (dropF f S.fs))))) := by
      refine hdl.trans ?_
      refine (List.Perm.cons _ (List.Perm.cons _ (List.Perm.append_left _ hfl1))).trans ?_
      rw [← hju]
      exact pull_perm _ _ _ _ _ _ _ _
    have hY := swap_ins (v' := mailV (m.1, fl, m.2.2)) hg.2.2 hLD
    have hlen : (insL (mailK u f un) (mailV (m.1, fl, m.2.2)) L).length ≤ 60 := by
      have h8 := hLD.length_eq
      have h7 := hg.1
      rw [hY.length_eq]
      simp only [List.length_cons] at h8 ⊢
      omega
    refine ⟨fun h9 => absurd rfl h9, fun _ => ⟨by omega, n2, fun z hz => ?_, insL (mailK u f un) (mailV (m.1, fl, m.2.2)) L, ins_up hg.2.2, ?_, by omega, ?_⟩⟩
    · rcases putF_mem (show z ∈ putF ⟨g.name, g.val, g.next, A ++ (m.1, fl, m.2.2) :: B⟩ S.fs from hz) with hz | rfl
      · exact store_fit h hS z hz
      · obtain ⟨t1, t2, t3, t4, t5, t6⟩ := store_fit h hS g hgm
        refine ⟨t1, t2, t3, t4, t5, fun z hz => ?_⟩
        rw [hA] at t6
        rcases List.mem_append.1 (show z ∈ A ++ (m.1, fl, m.2.2) :: B from hz) with hz | hz
        · exact t6 z (List.mem_append_left _ hz)
        · rcases List.mem_cons.1 hz with rfl | hz
          · exact ⟨e1, e2, f0, f1, e5⟩
          · exact t6 z (List.mem_append_right _ (List.mem_cons_of_mem _ hz))
    · refine List.Perm.trans ?_ hY.symm
      unfold deskP setM
      dsimp only
      have hfl2 : (flatF u (putF ⟨g.name, g.val, g.next, A ++ (m.1, fl, m.2.2) :: B⟩ S.fs)).Perm (fPairs u ⟨g.name, g.val, g.next, A ++ (m.1, fl, m.2.2) :: B⟩ ++ flatF u (dropF f S.fs)) := by
        have h9 := flat_perm (u := u) (put_perm (g := ⟨g.name, g.val, g.next, A ++ (m.1, fl, m.2.2) :: B⟩) (f := g) (fs := S.fs) (by show lookF g.name S.fs = some g; rw [hgn]; exact hl))
        rw [flat_cons] at h9
        dsimp only at h9
        rw [hgn] at h9 ⊢
        exact h9
      rw [hfp] at hfl2
      refine (List.Perm.cons _ (List.Perm.cons _ (List.Perm.append_left _ hfl2))).trans ?_
      rw [← hju]
      exact pull_perm _ _ _ _ _ _ _ _
    · unfold fitsR
      rw [if_neg (by omega)]
set_option maxHeartbeats 4000000 in
theorem l07FlagsC (b o n c : Nat) (L : List PM) (hL : L.length = n) (hc : n ≤ c) (hc9 : c ≤ maxLen) (hg : GoodL L) (u f : ByteArray) (un fl : Int) (hus : u.size ≤ 8) (hfs : f.size ≤ 8) (f0 : 0 ≤ fl) (f1 : fl ≤ 3) (hval : knownR L u f = 0 → ∀ v, 1 ≤ un → un ≤ 999 → getM L (mailK u f un) = some v → 1 ≤ v.size ∧ v.size ≤ 86) (w : World) (h : Src w (some ⟨b, o, none⟩) (cellsP L)) (R : List PM) (q : Int) (HR : Hid (flR L u f un fl = (R, q))) :
    Calls Tryz.prog 50 #[.slice (some ⟨b, o, none⟩) n c, .string u, .string f, .int .i64 un, .int .i64 fl] w fun e w' => ∃ a2 n2 c2, e = .returned (.tuple #[.slice a2 n2 c2, .int .i64 q]) ∧ LenC R n2 c2 ∧ Src w' a2 (cellsP R) ∧ Below w.heap.size w w' := by
  have hn60 := hg.1
  rw [hL] at hn60
  have HLN : Hid (LenC L n c ∧ Src w (some ⟨b, o, none⟩) (cellsP L)) := ⟨⟨hL, hc, hc9⟩, h⟩
  have HBAD : Hid (∀ (W : World) (z : Int), Below w.heap.size w W → (L, z) = (R, q) → ∃ a2 n2 c2, Ending.returned (Value.tuple #[.slice (some ⟨b, o, none⟩) n c, .int .i64 z]) = Ending.returned (.tuple #[.slice a2 n2 c2, .int .i64 q]) ∧ LenC R n2 c2 ∧ Src W a2 (cellsP R) ∧ Below w.heap.size w W) := fun W z hW he => by
    cases he
    exact ⟨_, _, _, rfl, HLN.out.1, HLN.out.2.below hW, hW⟩
  have CK := l07KnownS (some ⟨b, o, none⟩) n c L hL hg u f (by omega) (by omega) w h _ rfl
  have HR1 := HR.out
  unfold flR at HR1
  obtain ⟨k1, hk1⟩ : ∃ z, knownR L u f = z := ⟨_, rfl⟩
  rw [hk1] at CK HR1 hval
  by_cases e1 : k1 = 0
  case neg =>
    rw [if_pos e1] at HR1
    have HFH : Hid (∀ W, Below w.heap.size w W → ∃ a2 n2 c2, Ending.returned (Value.tuple #[.slice (some ⟨b, o, none⟩) n c, .int .i64 k1]) = Ending.returned (.tuple #[.slice a2 n2 c2, .int .i64 q]) ∧ LenC R n2 c2 ∧ Src W a2 (cellsP R) ∧ Below w.heap.size w W) := fun W hW => HBAD.out W k1 hW HR1
    have hki : (k1 != 0) = true := by simpa using e1
    clear hL h hg HR HR1 hk1 HBAD hval
    go_enter Tryz.func50, Tryz.ntmps50
    go_wp2_with fail
    refine CK.mono ?_
    rintro e w1 ⟨rfl, hb1⟩
    have HG : Hid (∃ a2 n2 c2, Ending.returned (Value.tuple #[.slice (some ⟨b, o, none⟩) n c, .int .i64 k1]) = Ending.returned (.tuple #[.slice a2 n2 c2, .int .i64 q]) ∧ LenC R n2 c2 ∧ Src w1 a2 (cellsP R) ∧ Below w.heap.size w w1) := HFH.out w1 hb1
    clear hb1 CK HFH
    go_wp2_with fail
    exact bodyPost_ret (v := .tuple #[.slice (some ⟨b, o, none⟩) n c, .int .i64 k1]) (by simp [results, Tryz.results50, go_sem]) rfl HG.out
  subst e1
  rw [if_neg (by decide)] at HR1
  unfold flT at HR1
  cases hrg : (decide (1 ≤ un) && decide (un ≤ 999)) with
  | false =>
    rw [if_pos hrg] at HR1
    have HFH : Hid (∀ W, Below w.heap.size w W → ∃ a2 n2 c2, Ending.returned (Value.tuple #[.slice (some ⟨b, o, none⟩) n c, .int .i64 5]) = Ending.returned (.tuple #[.slice a2 n2 c2, .int .i64 q]) ∧ LenC R n2 c2 ∧ Src W a2 (cellsP R) ∧ Below w.heap.size w W) := fun W hW => HBAD.out W 5 hW HR1
    have CI := fun W => l01InS un 1 999 false W hrg
    clear hL h hg HR HR1 hk1 HBAD hval hrg
    go_enter Tryz.func50, Tryz.ntmps50
    go_wp2_with fail
    refine CK.mono ?_
    rintro e w1 ⟨rfl, hb1⟩
    have HG : Hid (∃ a2 n2 c2, Ending.returned (Value.tuple #[.slice (some ⟨b, o, none⟩) n c, .int .i64 5]) = Ending.returned (.tuple #[.slice a2 n2 c2, .int .i64 q]) ∧ LenC R n2 c2 ∧ Src w1 a2 (cellsP R) ∧ Below w.heap.size w w1) := HFH.out w1 hb1
    clear hb1 CK HFH
    go_wp2_with fail
    refine (CI _).mono ?_
    rintro e w3 ⟨rfl, hw3⟩
    obtain rfl := hw3
    go_wp2_with fail
    exact bodyPost_ret (v := .tuple #[.slice (some ⟨b, o, none⟩) n c, .int .i64 5]) (by simp [results, Tryz.results50, go_sem]) rfl HG.out
  | true =>
    rw [if_neg (by rw [hrg]; decide)] at HR1
    have hr2 : 1 ≤ un ∧ un ≤ 999 := by
      rw [Bool.and_eq_true, decide_eq_true_eq, decide_eq_true_eq] at hrg
      exact hrg
    have CI := fun W => l01InS un 1 999 true W hrg
    obtain ⟨nn, rfl⟩ : ∃ nn : Nat, un = (nn : Int) := ⟨un.toNat, by omega⟩
    have CML := fun W => l07MailS u f nn (by omega) (by omega) (by omega) W
    have CG := fun W (hW : Below w.heap.size w W) => l01GetM (some ⟨b, o, none⟩) n c L (mailK u f (nn : Int)) W hL hg (h.below hW)
    have hval2 := fun v => hval rfl v hr2.1 hr2.2
    clear hrg hr2 hval
    cases hv : getM L (mailK u f (nn : Int)) with
    | none =>
      rw [hv] at HR1
      simp only [hv] at CG
      have HFH : Hid (∀ W, Below w.heap.size w W → ∃ a2 n2 c2, Ending.returned (Value.tuple #[.slice (some ⟨b, o, none⟩) n c, .int .i64 5]) = Ending.returned (.tuple #[.slice a2 n2 c2, .int .i64 q]) ∧ LenC R n2 c2 ∧ Src W a2 (cellsP R) ∧ Below w.heap.size w W) := fun W hW => HBAD.out W 5 hW HR1
      obtain ⟨MK, hMK⟩ : ∃ x, mailK u f (nn : Int) = x := ⟨_, rfl⟩
      simp only [hMK] at CML CG
      clear hL h hg HR HR1 hk1 HBAD hval2 hv hMK
      go_enter Tryz.func50, Tryz.ntmps50
      go_wp2_with fail
      refine CK.mono ?_
      rintro e w1 ⟨rfl, hb1⟩
      have B2 : Hid (Below w.heap.size w w1) := hb1
      clear hb1 CK
      go_wp2_with fail
      refine (CI _).mono ?_
      rintro e w3 ⟨rfl, hw3⟩
      obtain rfl := hw3
      clear CI
      go_wp2_with fail
      refine (CML _).mono ?_
      rintro e w4 ⟨rfl, hb4⟩
      have B4 : Hid (Below w.heap.size w w4) := B2.out.trans (hb4.mono B2.out.size)
      have CG4 := CG w4 B4.out
      have HG : Hid (∃ a2 n2 c2, Ending.returned (Value.tuple #[.slice (some ⟨b, o, none⟩) n c, .int .i64 5]) = Ending.returned (.tuple #[.slice a2 n2 c2, .int .i64 q]) ∧ LenC R n2 c2 ∧ Src w4 a2 (cellsP R) ∧ Below w.heap.size w w4) := HFH.out w4 B4.out
      clear hb4 CML CG HFH
      go_wp2_with fail
      refine CG4.mono ?_
      rintro e w5 ⟨rfl, hw5⟩
      obtain rfl := hw5
      clear CG4
      go_wp2_with fail
      exact bodyPost_ret (v := .tuple #[.slice (some ⟨b, o, none⟩) n c, .int .i64 5]) (by simp [results, Tryz.results50, go_sem]) rfl HG.out
    | some v =>
      rw [hv] at HR1
      simp only [hv] at CG
      obtain ⟨z1, z2⟩ := hval2 v hv
      have hts2 : (v.extract 1 v.size).size ≤ 85 := by
        rw [ByteArray.size_extract]
        omega
      have hcut : ∀ W : World, (Instr.slice 9 (.string v) (some (.int .i64 1)) none none).run Tryz.prog W = .ok (.string (v.extract 1 v.size)) W := fun W => by
        have := run_slice_string_l (P := Tryz.prog) (w := W) (t := 9) (s := v) Tryz.underlying9 .i64 1 (by omega) (by omega)
        exact this
      have CD := fun W => digitsI fl f0 (by omega) W
      have zd := itoa_small fl f0 (by omega)
      obtain ⟨tx, htx⟩ : ∃ x, v.extract 1 v.size = x := ⟨_, rfl⟩
      simp only [htx] at hcut hts2 HR1
      obtain ⟨TD, hTD⟩ : ∃ t, bs (itoa fl) = t := ⟨_, rfl⟩
      simp only [hTD] at CD zd HR1
      obtain ⟨MK, hMK⟩ : ∃ x, mailK u f (nn : Int) = x := ⟨_, rfl⟩
      simp only [hMK] at CML CG HR1
      have CP := fun W (hW : Below w.heap.size w W) => l01PutM b o n c L MK (TD ++ tx) W hL (by omega) hc hc9 hg.2.2 (h.below hW)
      obtain ⟨N2, hN2⟩ : ∃ t, insL MK (TD ++ tx) L = t := ⟨_, rfl⟩
      simp only [hN2] at CP
      rw [hN2] at HR1
      obtain ⟨rfl, rfl⟩ : N2 = R ∧ 0 = q := by cases HR1; exact ⟨rfl, rfl⟩
      clear hL h hg HR HR1 hk1 HBAD hval2 hv hMK htx hTD hN2
      go_enter Tryz.func50, Tryz.ntmps50
      go_wp2_with fail
      refine CK.mono ?_
      rintro e w1 ⟨rfl, hb1⟩
      have B2 : Hid (Below w.heap.size w w1) := hb1
      clear hb1 CK
      go_wp2_with fail
      refine (CI _).mono ?_
      rintro e w3 ⟨rfl, hw3⟩
      obtain rfl := hw3
      clear CI
      go_wp2_with fail
      refine (CML _).mono ?_
      rintro e w4 ⟨rfl, hb4⟩
      have B4 : Hid (Below w.heap.size w w4) := B2.out.trans (hb4.mono B2.out.size)
      have CG4 := CG w4 B4.out
      clear hb4 CML CG
      go_wp2_with fail
      refine CG4.mono ?_
      rintro e w5 ⟨rfl, hw5⟩
      obtain rfl := hw5
      clear CG4
      go_upto_region 10 with fail
      refine wp_region_noPanic ?_
      refine wp_region_held_drew (S := fun w' => True) (by kernel_rfl) trivial (fun hHeld => ?_)
      refine tkA (i := 0) (v := .slice (some ⟨b, o, none⟩) n c) ?_ hHeld ?_
      · intro w9 hSw
        go_simp
      simp only [Act.put, List.setIfInBounds_toArray, List.set_cons_zero, List.set_cons_succ]
      refine tkA (i := 1) (v := .string MK) ?_ hHeld ?_
      · intro w9 hSw
        go_simp
      simp only [Act.put, List.setIfInBounds_toArray, List.set_cons_zero, List.set_cons_succ]
      refine tkA (i := 2) (v := .int .i64 fl) ?_ hHeld ?_
      · intro w9 hSw
        go_simp
      simp only [Act.put, List.setIfInBounds_toArray, List.set_cons_zero, List.set_cons_succ]
      refine tkA (i := 4) (v := .string v) ?_ hHeld ?_
      · intro w9 hSw
        go_simp
      simp only [Act.put, List.setIfInBounds_toArray, List.set_cons_zero, List.set_cons_succ]
      refine tkA (i := 5) (v := .string tx) ?_ hHeld ?_
      · intro w9 hSw
        have h9 := hcut w9
        go_simp
      simp only [Act.put, List.setIfInBounds_toArray, List.set_cons_zero, List.set_cons_succ]
      refine wpAnyH_ready (rs := [3]) (by kernel_rfl) (by simp) ?_
      refine AllReadyH.cons rfl (fun K hK => ?_) AllReadyH.nil
      go_simp
      refine (CD _).mono ?_
      rintro e w6 ⟨rfl, hb6⟩
      dsimp only
      have B6 : Hid (Below w.heap.size w w6) := B4.out.drew.trans (Below.mono hb6 B4.out.size)
      have CP6 := CP w6 B6.out
      clear hb6
      refine hK _ _ trivial (fun hHeld => ?_)
      clear hK K
      refine tkA (i := 6) (v := .string (TD ++ tx)) ?_ hHeld ?_
      · intro w9 hSw
        go_simp
        omega
      simp only [Act.put, List.setIfInBounds_toArray, List.set_cons_zero, List.set_cons_succ]
      refine wpAnyH_ready (rs := [7]) (by kernel_rfl) (by simp) ?_
      refine AllReadyH.cons rfl (fun K hK => ?_) AllReadyH.nil
      go_simp
      refine CP6.mono ?_
      rintro e w7 ⟨g7, cap7, rfl, y1, y2, y3, hb7⟩
      dsimp only
      have HF : Hid (LenC N2 N2.length cap7 ∧ Src w7 (some ⟨g7, 0, none⟩) (cellsP N2) ∧ Below w.heap.size w w7) := ⟨⟨rfl, y1, y2⟩, y3, B6.out.trans (hb7.mono B6.out.size)⟩
      clear y1 y2 y3 hb7
      refine hK _ _ trivial (fun hHeld => ?_)
      clear hK K
      refine wpAnyH_ready (rs := [8]) (by kernel_rfl) (by simp) ?_
      refine AllReadyH.cons rfl (fun K hK => ?_) AllReadyH.nil
      go_simp
      refine hK _ _ trivial (fun hHeld => ?_)
      clear hK K
      refine wpAnyH_ready (rs := [9]) (by kernel_rfl) (by simp) ?_
      refine AllReadyH.cons rfl (fun K hK => ?_) AllReadyH.nil
      go_simp
      refine hK _ _ trivial (fun hHeld => ?_)
      clear hK K
      refine wpAnyH_done (by kernel_rfl) ?_ _
      refine NoPanic.normal ?_
      clear hHeld
      go_wp2_with fail
      exact bodyPost_ret (v := .tuple #[.slice (some ⟨g7, 0, none⟩) N2.length cap7, .int .i64 0]) (by simp [results, Tryz.results50, go_sem]) rfl ⟨_, _, _, rfl, HF.out⟩
/-- Pairs put into a list, one by one. -/
def insAll (X : List PM) (R : List PM) : List PM := X.foldl (fun R p => insL p.1 p.2 R) R
theorem ins_all : ∀ {X R : List PM}, UpL R → X.Pairwise (fun a b => a.1 ≠ b.1) → (∀ p ∈ X, ∀ x ∈ R, x.1 ≠ p.1) → UpL (insAll X R) ∧ (insAll X R).Perm (X ++ R)
  | [], R, hu, _, _ => ⟨hu, List.Perm.refl _⟩
  | p :: X, R, hu, hp, hx => by
    obtain ⟨h1, h2⟩ := List.pairwise_cons.1 hp
    have hi : (insL p.1 p.2 R).Perm (p :: R) := by
      have h9 := ins_perm (k := p.1) (v := p.2) hu
      rw [notK_self (hx p List.mem_cons_self)] at h9
      exact h9
    obtain ⟨k1, k2⟩ := ins_all (X := X) (R := insL p.1 p.2 R) (ins_up hu) h2 (fun q hq x hxx => by
      rcases List.mem_cons.1 (hi.mem_iff.1 hxx) with rfl | h9
      · exact h1 q hq
      · exact hx q (List.mem_cons_of_mem _ hq) x h9)
    exact ⟨k1, k2.trans ((List.Perm.append_left X hi).trans List.perm_middle)⟩
theorem insAll_step (X R : List PM) (j : Nat) (hj : j < X.length) : insAll (X.take (j + 1)) R = insL (X.getD j p0).1 (X.getD j p0).2 (insAll (X.take j) R) := by
  unfold insAll
  rw [List.take_add_one, List.getD_eq_getElem?_getD, List.getElem?_eq_getElem hj, List.foldl_append]
  rfl
theorem insAll_up (X : List PM) : ∀ {R : List PM}, UpL R → UpL (insAll X R) := by
  induction X with
  | nil => exact fun h => h
  | cons p X ih => exact fun h => ih (ins_up h)
theorem insAll_len (X : List PM) : ∀ {R : List PM}, UpL R → (insAll X R).length ≤ R.length + X.length := by
  induction X with
  | nil => exact fun h => Nat.le_refl _
  | cons p X ih =>
    intro R h
    have h1 := ih (R := insL p.1 p.2 R) (ins_up h)
    have h2 := (ins_len (k := p.1) (v := p.2) h).1
    rw [List.length_cons]
    show (insAll X (insL p.1 p.2 R)).length ≤ _
    omega
def fm0 : FM := ⟨⟨#[]⟩, 0, 0, []⟩
def rnG (f : ByteArray) : Option SM → FM
  | some S => (lookF f S.fs).getD fm0
  | none => fm0
/-- A folder of the list, as it lies on the desk. -/
def rnF (L : List PM) (u f : ByteArray) : FM := rnG f (takeAll (nextM L) u S0 L)
theorem rnF_is {L : List PM} {u f : ByteArray} {S : SM} {g : FM} (hS : takeAll (nextM L) u S0 L = some S) (hl : lookF f S.fs = some g) : rnF L u f = g := by
  unfold rnF
  rw [hS]
  show (lookF f S.fs).getD fm0 = g
  rw [hl]
  rfl
abbrev rnN (L : List PM) (u f : ByteArray) : List PM := notK (folderK u f) (emptyR L u f)
def rnT (L : List PM) (Ms : List PM) (r : List PM × Int) : List PM × Int := if r.2 ≠ 0 then (L, r.2) else (insAll Ms r.1, 0)
def rnR (L : List PM) (u f tf : ByteArray) : List PM × Int :=
  if knownR L u f ≠ 0 then (L, knownR L u f) else if f = inboxT then (L, 11) else if knownR L u tf = 0 then (L, 9) else rnT L ((rnF L u f).mails.map (mailP u tf)) (freshR (rnN L u f) L u tf (rnF L u f).next)
def rnO (nx : Int) (S : SM) (f tf : ByteArray) : Option FM → Int × Int × SM
  | none => (16, nx, S)
  | some g => if f = inboxT then (11, nx, S) else if (lookF tf S.fs).isSome = true then (9, nx, S) else if 9999 < nx then (6, nx, ⟨S.aside, S.word, dropF f S.fs⟩) else (0, nx + 1, ⟨S.aside, S.word, putF ⟨tf, nx, g.next, g.mails⟩ (dropF f S.fs)⟩)
theorem rnO_some (nx : Int) (S : SM) (f tf : ByteArray) (g : FM) : rnO nx S f tf (some g) = if f = inboxT then (11, nx, S) else if (lookF tf S.fs).isSome = true then (9, nx, S) else if 9999 < nx then (6, nx, ⟨S.aside, S.word, dropF f S.fs⟩) else (0, nx + 1, ⟨S.aside, S.word, putF ⟨tf, nx, g.next, g.mails⟩ (dropF f S.fs)⟩) := rfl
def rnM (nx : Int) (S : SM) (f tf : ByteArray) : Int × Int × SM := if S.word.toList = [] then (15, nx, S) else rnO nx S f tf (lookF f S.fs)
theorem look_drop {n m : ByteArray} : ∀ {fs : List FM}, lookF n fs = none → lookF n (dropF m fs) = none
  | [], _ => rfl
  | f :: fs, h => by
    unfold lookF at h
    by_cases e : f.name = n
    · rw [if_pos e] at h; cases h
    · rw [if_neg e] at h
      unfold dropF
      by_cases e2 : f.name = m
      · rw [if_pos e2]; exact h
      · rw [if_neg e2]
        unfold lookF
        rw [if_neg e]
        exact look_drop h
theorem pass_v (u f T : ByteArray) : passB u f (vK, T) = true := by
  unfold passB
  rw [Bool.and_eq_true, decide_eq_true_eq]
  refine ⟨(folder_not u f).symm, ?_⟩
  cases hb : beginsB vK (preK u f) with
  | false => rfl
  | true =>
    obtain ⟨r, hr⟩ := begins_pre.1 hb
    simp at hr
theorem pass_u (u f T : ByteArray) : passB u f (userK u, T) = true := by
  unfold passB
  rw [Bool.and_eq_true, decide_eq_true_eq]
  refine ⟨fun e => ?_, ?_⟩
  · have h9 := congrArg (fun x : ByteArray => x.data.toList) e
    simp [ByteArray.data_append] at h9
  · cases hb : beginsB (userK u) (preK u f) with
    | false => rfl
    | true =>
      obtain ⟨r, hr⟩ := begins_pre.1 hb
      simp [ByteArray.data_append] at hr
theorem next_drop {L : List PM} {u f : ByteArray} (h : storeB L = true) : nextM (rnN L u f) = nextM L := by
  have hu := (store_facts h).1.2.2
  obtain ⟨T, hT⟩ : ∃ T, (vK, T) ∈ L := ⟨_, v_mem h⟩
  have a1 : getM L vK = some T := (getM_mem hu).2 hT
  have a2 : getM (rnN L u f) vK = some T := by
    unfold rnN
    rw [drop_eq]
    exact (getM_mem (hu.sublist List.filter_sublist)).2 (List.mem_filter.2 ⟨hT, pass_v u f T⟩)
  unfold nextM
  rw [a1, a2]
theorem no_mails {L : List PM} {u f : ByteArray} {S : SM} (h : storeB L = true) (hus : (47 : UInt8) ∉ u.data.toList) (hfs : (47 : UInt8) ∉ f.data.toList) (hS : takeAll (nextM L) u S0 L = some S) (hw : S.word.toList ≠ []) (hl : lookF f S.fs = none) : ∀ x ∈ L, beginsB x.1 (preK u f) = false := fun x hx => by
  rcases List.mem_cons.1 ((desk_list h hus hS hw).mem_iff.1 hx) with rfl | hx
  · exact pass_not (pass_v u f _)
  rcases List.mem_cons.1 hx with rfl | hx
  · exact pass_not (pass_u u f _)
  rcases List.mem_append.1 hx with hx | hx
  · exact pass_not (aside_pass h hus hfs hS hx)
  · have hr := rest_pass (u := u) (f := f) (fs := S.fs) hus hfs fun g hg => ⟨(fun e => by
      have h9 := look_mem' hg
      rw [e, hl] at h9
      cases h9), word_slash (name_short h hus hS hg)⟩
    rw [List.filter_eq_self] at hr
    exact pass_not (hr x hx)
theorem mailK_swap {u f g : ByteArray} {a b : Int} (e : mailK u f a = mailK u f b) : mailK u g a = mailK u g b := by
  have h9 := congrArg (fun x : ByteArray => x.data.toList) e
  have h8 : d3 a.toNat = d3 b.toNat := by simpa [bs] using h9
  show bs _ = bs _
  rw [h8]
theorem mails_apart {L : List PM} {u f tf : ByteArray} {S : SM} {g : FM} (h : storeB L = true) (hS : takeAll (nextM L) u S0 L = some S) (hl : lookF f S.fs = some g) : (g.mails.map (mailP u tf)).Pairwise (fun a b => a.1 ≠ b.1) := by
  obtain ⟨hgm, hgn⟩ := lookF_mem hl
  have hsub := store_sub h hS g hgm
  unfold SubF at hsub
  have hp := (store_facts h).1.2.2.sublist hsub
  unfold UpL at hp
  rw [List.pairwise_map] at hp ⊢
  exact hp.imp fun h9 e => ltK_ne h9 (mailK_swap e)
theorem begins_mail (u f : ByteArray) (m : MMl) : beginsB (mailP u f m).1 (preK u f) = true := begins_pre.2 ⟨d3 m.1.toNat, by simp [mailP, bs]⟩
theorem rn_fits {L : List PM} {u f tf : ByteArray} {S S' : SM} {q nx' : Int} (h : storeB L = true) (hsu : shortB u = true) (hsf : shortB f = true) (hst : shortB tf = true) (hS : takeAll (nextM L) u S0 L = some S) (hQ : rnM (nextM L) S f tf = (q, nx', S')) : OpFits L u q nx' S' (rnR L u f tf) := by
  have hus := word_slash hsu
  have hfs := word_slash hsf
  have hts := word_slash hst
  obtain ⟨hg, nx0, hnm, n1, n2, _, _, _⟩ := store_facts h
  rw [hnm] at n1 n2
  obtain ⟨hwi, hwd⟩ := word_iff h hus hS
  obtain ⟨hli, hln⟩ := look_iff h hus hS hfs
  obtain ⟨hti, htn⟩ := look_iff h hus hS hts
  unfold rnM at hQ
  by_cases hw : S.word.toList = []
  · rw [if_pos hw] at hQ
    cases hQ
    have hk : knownR L u f = 15 := by unfold knownR; rw [hwi.1 hw]; rfl
    unfold rnR
    rw [hk, if_pos (by decide)]
    exact ⟨fun _ => rfl, fun h9 => by cases h9⟩
  rw [if_neg hw] at hQ
  have hs : (getM L (userK u)).isSome = true := by
    cases hv : getM L (userK u) with
    | none => exact absurd (hwi.2 hv) hw
    | some v => rfl
  cases hl : lookF f S.fs with
  | none =>
    rw [hl] at hQ
    cases hQ
    have hk : knownR L u f = 16 := by unfold knownR; rw [hs, ← hli, hl]; rfl
    unfold rnR
    rw [hk, if_pos (by decide)]
    exact ⟨fun _ => rfl, fun h9 => by cases h9⟩
  | some g =>
    rw [hl, rnO_some] at hQ
    have hk : knownR L u f = 0 := by unfold knownR; rw [hs, ← hli, hl]; rfl
    unfold rnR
    rw [hk, if_neg (by decide)]
    by_cases hi : f = inboxT
    · rw [if_pos hi] at hQ
      cases hQ
      rw [if_pos hi]
      exact ⟨fun _ => rfl, fun h9 => by cases h9⟩
    rw [if_neg hi] at hQ
    rw [if_neg hi]
    by_cases ht : (lookF tf S.fs).isSome = true
    · rw [if_pos ht] at hQ
      cases hQ
      have hk2 : knownR L u tf = 0 := by unfold knownR; rw [hs, ← hti, ht]; rfl
      rw [if_pos hk2]
      exact ⟨fun _ => rfl, fun h9 => by cases h9⟩
    rw [if_neg ht] at hQ
    have ht0 : lookF tf S.fs = none := by
      cases hv : lookF tf S.fs with
      | none => rfl
      | some z => rw [hv] at ht; exact absurd rfl ht
    have hk2 : knownR L u tf = 16 := by unfold knownR; rw [hs, ← hti, ht0]; rfl
    rw [hk2, if_neg (by decide), rnF_is hS hl]
    have hd : dropM (nextM L) S f = (0, nextM L, ⟨S.aside, S.word, dropF f S.fs⟩) := by
      unfold dropM
      rw [if_neg hw, if_neg (by rw [hl]; simp), if_neg hi]
    obtain ⟨_, _, _, Y, y1, y2, y3, y4⟩ := (drop_fits h hsu hsf hS hd).2 rfl
    have hY : Y = rnN L u f := by
      unfold dropR at y4
      rw [hk, if_neg (by decide), if_neg hi] at y4
      unfold fitsR at y4
      split at y4
      · exact absurd (Prod.mk.inj y4).2 (by decide)
      · exact (Prod.mk.inj y4).1.symm
    rw [hY] at y1 y2
    clear hY y3 y4 Y
    unfold freshR
    rw [next_drop h]
    by_cases hx : 9999 < nextM L
    · rw [if_pos hx] at hQ
      cases hQ
      rw [if_pos hx]
      exact ⟨fun _ => rfl, fun h9 => by cases h9⟩
    rw [if_neg hx] at hQ
    cases hQ
    rw [if_neg hx]
    obtain ⟨hgm, hgn⟩ := lookF_mem hl
    obtain ⟨e1, e2, e3, e4, e5, e6⟩ := store_fit h hS g hgm
    have htz := short_size' hst
    refine ⟨fun h9 => absurd rfl h9, fun _ => ⟨by omega, by omega, fun x hx => ?_, ?_⟩⟩
    · rcases putF_mem hx with hx | rfl
      · exact store_fit h hS x ((dropF_sub f S.fs).subset hx)
      · exact ⟨by show 0 ≤ nextM L; omega, n2, e3, e4, by show tf.size ≤ 1000; omega, e6⟩
    obtain ⟨V1, hV1⟩ : ∃ V, bs (itoa (nextM L + 1)) = V := ⟨_, rfl⟩
    obtain ⟨MT, hMT⟩ : ∃ V, metaT (nextM L) g.next = V := ⟨_, rfl⟩
    rw [hV1, hMT]
    obtain ⟨D, hD⟩ : ∃ D, (userK u, S.word) :: (notK vK S.aside ++ flatF u (dropF f S.fs)) = D := ⟨_, rfl⟩
    have p1 : (rnN L u f).Perm ((vK, bs (itoa (nextM L))) :: D) := by
      rw [← hD]
      exact y2.symm
    have p2 := swap_ins (v' := V1) y1 p1
    have u2 := ins_up (k := vK) (v := V1) y1
    have hNL : ∀ x ∈ insL vK V1 (rnN L u f), x.1 = vK ∨ x ∈ L := fun x hx => by
      rcases ins_mem y1 hx with rfl | hx
      · exact .inl rfl
      · have h9 := hx.1
        unfold rnN at h9
        rw [drop_eq] at h9
        exact .inr (List.mem_filter.1 h9).1
    have p3 : (insL (folderK u tf) MT (insL vK V1 (rnN L u f))).Perm ((folderK u tf, MT) :: (vK, V1) :: D) := by
      have h9 := ins_perm (k := folderK u tf) (v := MT) u2
      rw [notK_self fun x hx => ?_] at h9
      · exact h9.trans (List.Perm.cons _ p2)
      · rcases hNL x hx with e | e
        · rw [e]; exact (folder_not u tf).symm
        · exact htn ht0 x e
    have u3 := ins_up (k := folderK u tf) (v := MT) u2
    obtain ⟨Y0, hY0⟩ : ∃ Y, insL (folderK u tf) MT (insL vK V1 (rnN L u f)) = Y := ⟨_, rfl⟩
    have hno : ∀ p ∈ g.mails.map (mailP u tf), ∀ x ∈ Y0, x.1 ≠ p.1 := fun p hp x hx e => by
      rw [← hY0] at hx
      rcases ins_mem u2 hx with rfl | hx
      · exact mails_not p hp e.symm
      · obtain ⟨m, _, rfl⟩ := List.mem_map.1 hp
        rcases hNL x hx.1 with e2 | e2
        · rw [e2] at e
          exact mailK_not u tf m.1 e.symm
        · have h8 := no_mails h hus hts hS hw ht0 x e2
          rw [e, begins_mail u tf m] at h8
          cases h8
    rw [hY0] at p3 u3 ⊢
    obtain ⟨u4, p4⟩ := ins_all u3 (mails_apart (tf := tf) h hS hl) hno
    have l1 := (desk_list h hus hS hw).length_eq
    have l2 := (flat_perm (u := u) (drop_perm hl)).length_eq
    have l3 := p4.length_eq
    have l4 := p3.length_eq
    have hDl : D.length = 1 + ((notK vK S.aside).length + (flatF u (dropF f S.fs)).length) := by
      rw [← hD, List.length_cons, List.length_append]
      omega
    rw [flat_cons, List.length_append] at l2
    have l5 : (fPairs u g).length = g.mails.length + 1 := by unfold fPairs; rw [List.length_cons, List.length_map]
    rw [List.length_cons, List.length_cons, List.length_append] at l1
    rw [List.length_append, List.length_map] at l3
    rw [List.length_cons, List.length_cons] at l4
    have h60 := hg.1
    refine ⟨insAll (g.mails.map (mailP u tf)) Y0, u4, ?_, by omega, ?_⟩
    · refine List.Perm.trans ?_ p4.symm
      refine List.Perm.trans ?_ (List.Perm.append_left _ p3.symm)
      have e7 : flatF u (putF ⟨tf, nextM L, g.next, g.mails⟩ (dropF f S.fs)) = flatF u (dropF f S.fs) ++ ((folderK u tf, MT) :: g.mails.map (mailP u tf)) := by
        rw [put_none (look_drop ht0)]
        unfold flatF
        rw [List.flatMap_append, List.flatMap_cons, List.flatMap_nil, List.append_nil]
        rw [← hMT]
        rfl
      unfold deskP
      show ((vK, bs (itoa (nextM L + 1))) :: (userK u, S.word) :: (notK vK S.aside ++ flatF u (putF ⟨tf, nextM L, g.next, g.mails⟩ (dropF f S.fs)))).Perm _
      rw [e7, hV1, ← List.append_assoc]
      have e8 : (vK, V1) :: (userK u, S.word) :: ((notK vK S.aside ++ flatF u (dropF f S.fs)) ++ ((folderK u tf, MT) :: g.mails.map (mailP u tf))) = ((vK, V1) :: D) ++ ((folderK u tf, MT) :: g.mails.map (mailP u tf)) := by
        rw [← hD]
        rfl
      rw [e8]
      refine List.perm_append_comm.trans ?_
      exact List.perm_middle.symm
    · have f1 : fitsR L Y0 = (Y0, 0) := by unfold fitsR; rw [if_neg (by omega)]
      rw [f1]
      unfold rnT fitsR
      rw [if_neg (by simp), if_neg (by omega)]
end Go.Proofs.YthgbclipknfmjaaGreatDoor
