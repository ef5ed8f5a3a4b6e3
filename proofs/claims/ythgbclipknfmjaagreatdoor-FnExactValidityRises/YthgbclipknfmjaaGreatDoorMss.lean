
/-
  Mail stores: the specification's MailStoreOK. By an AI agent.
-/
import Derived.Test.YthgbclipknfmjaaGreatDoorMpm
namespace Go.Proofs.YthgbclipknfmjaaGreatDoor
open Go.ChangeShapes Go.WideShapes Go.ChangeAt Go.RowKit Go.Deep Go.Lib
set_option linter.unusedVariables false
set_option linter.unusedSimpArgs false
set_option maxRecDepth 100000

def partsK (k : ByteArray) : List (List UInt8) := splitL 47 (k.data.toList.drop 2)
def kindB (L : List PM) (next : Int) (k v : ByteArray) : Bool :=
  if k.data.toList.headD 0 = 117 then pairU L v (partsK k) else
  if k.data.toList.headD 0 = 102 then pairF L next v (partsK k) else
  if k.data.toList.headD 0 = 109 then pairE L v (partsK k) else false
def slashB (k : ByteArray) : Bool := (k.data.toList.drop 1).headD 0 == 47
def pairB (L : List PM) (next : Int) (x : PM) : Bool :=
  if x.1 = vK then x.2.toList == (bs (itoa next)).toList else (decide (3 ≤ x.1.size) && slashB x.1) && kindB L next x.1 x.2
def storeB (L : List PM) : Bool := pairsB (fK L) (fV L) L.length && (decide (1 ≤ nextM L) && decide (nextM L ≤ 10000)) && L.all (pairB L (nextM L))

theorem l07NamesS (k : ByteArray) (w : World) (h2 : 2 ≤ k.size) (hk : k.size ≤ 1048576) : Calls Tryz.prog 65 #[.string k] w fun e w' => ∃ v, e = .returned v ∧ w'.ownsRow w.heap.size 9 1 v (partsK k).length (cellsS ((partsK k).map bs)) ∧ Below w.heap.size w w' := by
  have hd : (k.extract 2 k.size).data.toList = k.data.toList.drop 2 := by
    rw [ext_data k 2 k.size (Nat.le_refl _), List.take_of_length_le (by rw [List.length_drop, bytes_len]; exact Nat.le_refl _)]
  have hz : (k.extract 2 k.size).size ≤ 1048576 := by rw [ByteArray.size_extract]; omega
  have CC := l00CutS (k.extract 2 k.size) 47 w hz
  rw [hd] at CC
  obtain ⟨q, hq⟩ : ∃ q, k.extract 2 k.size = q := ⟨_, rfl⟩
  rw [hq] at CC
  have HQ : Hid (k.extract 2 k.size = q) := hq
  have h2i : (2 : Int) ≤ (k.size : Int) := by omega
  clear hd hz hq
  go_enter Tryz.func65, Tryz.ntmps65
  go_wp2_with fail
  rw [HQ.out]
  refine CC.mono ?_
  rintro e w1 ⟨v, rfl, own, hb⟩
  have O1 : Hid (_ ∧ _) := ⟨own, hb⟩
  clear own hb
  go_wp2_with fail
  go_ret
  exact ⟨v, rfl, O1.out.1, O1.out.2⟩
theorem l07PairS (a : Option Addr) (n c : Nat) (L : List PM) (pk pv : ByteArray) (aw : Option Addr) (m cw : Nat) (next : Int) (w : World) (hL : L.length = n) (hg : GoodL L) (hk0 : 2 ≤ pk.size) (hk1 : pk.size ≤ 30) (hv : pv.size ≤ 90) (hm : (partsK pk).length = m) (h : Src w a (cellsP L)) (hw : Src w aw (cellsS ((partsK pk).map bs))) (bb : Bool) (HB : Hid (kindB L next pk pv = bb)) :
    Calls Tryz.prog 105 #[.slice a n c, .agg #[.string pk, .string pv], .slice aw m cw, .int .i64 next] w fun e w' => e = .returned (.bool bb) ∧ Below w.heap.size w w' := by
  have hh : pk.data.toList.headD 0 = pk[0] := head_at pk (by omega)
  have hG : ∀ p ∈ partsK pk, p.length ≤ 90 := fun p hp => by
    have h1 := split_sizes 47 _ p hp
    rw [List.length_drop, bytes_len] at h1
    omega
  have hG0 : partsK pk ≠ [] := splitL_ne 47 _
  have HB2 := HB.out
  unfold kindB at HB2
  rw [hh] at HB2
  by_cases h1 : pk[0] = 117
  · rw [if_pos h1] at HB2
    exact pairUser a n c L pk pv aw cw (partsK pk) m hm next w hL hg (by omega) hv hG hG0 h hw h1 bb HB2
  rw [if_neg h1] at HB2
  by_cases h2 : pk[0] = 102
  · rw [if_pos h2] at HB2
    exact pairFolder a n c L pk pv aw cw (partsK pk) m hm next w hL hg (by omega) hv hG hG0 h hw h2 bb HB2
  rw [if_neg h2] at HB2
  by_cases h3 : pk[0] = 109
  · rw [if_pos h3] at HB2
    exact pairMail a n c L pk pv aw cw (partsK pk) m hm next w hL hg (by omega) hv hG hG0 h hw h3 bb HB2
  rw [if_neg h3] at HB2
  exact pairOther a n c L pk pv aw cw (partsK pk) m hm next w hL hg (by omega) hv hG hG0 h hw h1 h2 h3 bb HB2
theorem slash_at (k : ByteArray) (h : 1 < k.size) : slashB k = (k[1] == 47) := by
  unfold slashB
  rw [bytes_drop k 1 h]
  rfl
theorem all_next (L : List PM) (f : PM → Bool) (k : Nat) (h : k < L.length) : (L.drop k).all f = (f (L.getD k p0) && (L.drop (k + 1)).all f) := by
  rw [List.drop_eq_getElem_cons h, List.all_cons, List.getD_eq_getElem?_getD, List.getElem?_eq_getElem h]
  rfl
theorem all_end (L : List PM) (f : PM → Bool) (k : Nat) (h : L.length ≤ k) : (L.drop k).all f = true := by
  rw [List.drop_of_length_le h]; rfl
set_option maxHeartbeats 4000000 in
theorem specMailStoreOK (a : Option Addr) (n c : Nat) (L : List PM) (w : World) (hL : L.length = n) (hn : n ≤ 1048576) (hs : ∀ x ∈ L, x.1.size ≤ 1048576 ∧ x.2.size ≤ 1048576) (h : Src w a (cellsP L)) (bb : Bool) (HB : Hid (storeB L = bb)) :
    Calls Tryz.prog 56 #[.slice a n c] w fun e w' => e = .returned (.bool bb) ∧ Below w.heap.size w w' := by
  have HH : Hid (Src w a (cellsP L)) := h
  have CP := specPairsOK a n c (fK L) (fV L) w hn (fun i hi => by
    have hi2 : i < L.length := by omega
    have := hs _ (List.getElem_mem hi2)
    rw [(at_fst hi2).1, (at_fst hi2).2]
    exact this) (sp_src h hL)
  rw [← hL] at CP
  obtain ⟨gb, hgb⟩ : ∃ b, pairsB (fK L) (fV L) L.length = b := ⟨_, rfl⟩
  have HB1 := HB.out
  unfold storeB at HB1
  rw [hgb] at CP HB1
  rw [hL] at CP
  have HL : Hid (L.length = n) := hL
  by_cases hbig : (4096 : Int) < (n : Int)
  · have hg0 : gb = false := by
      rw [← hgb]; exact pairsB_many _ _ _ (by omega)
    have HZ : Hid (false = bb) := by show _ = _; rw [← HB1, hg0]; rfl
    clear HB1 HB CP hgb h hs hL
    go_enter Tryz.func56, Tryz.ntmps56
    go_wp2_with fail
    go_ret
    exact ⟨ret_bool HZ.out, Below.refl _ _⟩
  cases gb with
  | false =>
    have HZ : Hid (false = bb) := HB1
    clear HB1 HB hgb h hs hL
    go_enter Tryz.func56, Tryz.ntmps56
    go_wp2_with fail
    refine CP.mono ?_
    rintro e w1 ⟨rfl, hb1⟩
    go_wp2_with fail
    go_ret
    exact ⟨ret_bool HZ.out, hb1⟩
  | true =>
    have hgood := good_of hgb
    have HG : Hid (GoodL L) := hgood
    obtain ⟨nx, hnx⟩ : ∃ z, nextM L = z := ⟨_, rfl⟩
    rw [hnx] at HB1
    obtain ⟨rb, hrb⟩ : ∃ b, (decide (1 ≤ nx) && decide (nx ≤ 10000)) = b := ⟨_, rfl⟩
    rw [hrb] at HB1
    have CN : ∀ W, Src W a (cellsP L) → Calls Tryz.prog 63 #[.slice a n c] W fun e w' => e = .returned (.int .i64 nx) ∧ w' = W := fun W h9 => by rw [← hnx]; exact l07NextS a n c L W hL hgood h9
    clear HB hgb h hs hL hgood hnx
    cases rb with
    | false =>
      have HZ : Hid (false = bb) := HB1
      clear HB1
      go_enter Tryz.func56, Tryz.ntmps56
      go_wp2_with fail
      refine CP.mono ?_
      rintro e w1 ⟨rfl, hb1⟩
      have B1 : Hid (Below w.heap.size w w1) := hb1
      clear hb1
      go_wp2_with fail
      refine (CN _ (HH.out.below B1.out)).mono ?_
      rintro e w2 ⟨rfl, hw2⟩
      obtain rfl := hw2
      go_wp2_with fail
      refine (l01InIs false _ _ _ _ hrb).mono ?_
      rintro e w3 ⟨rfl, hw3⟩
      obtain rfl := hw3
      go_wp2_with fail
      go_ret
      exact ⟨ret_bool HZ.out, B1.out⟩
    | true =>
      have HALL : Hid (L.all (pairB L nx) = bb) := HB1
      have hnx0 : 1 ≤ nx ∧ nx ≤ 10000 := by simpa using hrb
      have DN := fun W => digitsI nx (by omega) (by omega) W
      obtain ⟨T, hT⟩ : ∃ T, bs (itoa nx) = T := ⟨_, rfl⟩
      rw [hT] at DN
      have HT : Hid (bs (itoa nx) = T) := hT
      clear HB1 hT
      go_enter Tryz.func56, Tryz.ntmps56
      go_wp2_with fail
      refine CP.mono ?_
      rintro e w1 ⟨rfl, hb1⟩
      have B1 : Hid (Below w.heap.size w w1) := hb1
      clear hb1 CP
      go_wp2_with fail
      refine (CN _ (HH.out.below B1.out)).mono ?_
      rintro e w2 ⟨rfl, hw2⟩
      obtain rfl := hw2
      go_wp2_with fail
      refine (l01InIs true _ _ _ _ hrb).mono ?_
      rintro e w3 ⟨rfl, hw3⟩
      obtain rfl := hw3
      clear CN hrb
      go_wp2_with fail
      go_loopw [4] (fun iv wr => ∃ k : Nat, k ≤ n ∧ iv = .int .i64 (k : Int) ∧ Hid ((L.drop k).all (pairB L nx) = bb) ∧ Hid (Below w.heap.size w wr)) (fun i _ => n - (RowKit.intOf i).toNat)
      case atStart => exact ⟨0, by omega, rfl, HALL.out, B1.out⟩
      case round =>
        obtain ⟨k, hk, rfl, hall, hbr⟩ := hrel
        by_cases hlt : k < n
        · have hlti : (k : Int) < (n : Int) := by omega
          have hkL : k < L.length := by rw [HL.out]; exact hlt
          obtain ⟨b, o, pk, pv, rfl, hc0, hc1, hy⟩ := srcP (HH.out.below hbr.out) hkL
          have hmem : (pk, pv) ∈ L := by rw [← hy.out]; exact mem_getD L p0 k hkL
          have hsz := HG.out.2.1 _ hmem
          have hs1 : pk.size ≤ 30 := hsz.2.1
          have hs2 : pv.size ≤ 90 := hsz.2.2
          have HA2 := hall.out
          rw [all_next L _ k hkL, hy.out] at HA2
          obtain ⟨pb, hpb⟩ : ∃ x, pairB L nx (pk, pv) = x := ⟨_, rfl⟩
          rw [hpb] at HA2
          have HA3 : Hid ((pb && (L.drop (k + 1)).all (pairB L nx)) = bb) := HA2
          clear hall HA2 hmem hsz hkL
          have X0 : Hid (Box (wr.alloc (.cells #[.string pk, .string pv] 68)) wr.heap.size [.string pk, .string pv]) := Box.new rfl
          have B2 : Hid (Below w.heap.size w (wr.alloc (.cells #[.string pk, .string pv] 68))) := hbr.out.alloc hbr.out.size _
          by_cases hv : pk = vK
          · have hpb2 : (pv.toList == T.toList) = pb := by
              rw [← hpb, ← HT.out]
              show _ = if pk = vK then _ else _
              rw [if_pos hv]
            clear hpb
            subst hv
            obtain ⟨p0', _⟩ := X0.out 0 _ rfl
            obtain ⟨p1', _⟩ := X0.out 1 _ rfl
            have P1 : Hid ((wr.alloc (.cells #[.string vK, .string pv] 68)).cell? ⟨wr.heap.size, 1, none⟩ = some (.string pv)) := p1'
            go_upto_region 13 with fail
            refine wp_region_noPanic ?_
            refine wp_region_held_drew (S := fun w' => w'.cell? ⟨wr.heap.size, 1, none⟩ = some (.string pv)) (by kernel_rfl) P1.out (fun hHeld => ?_)
            refine tkA (i := 0) (v := .pointer (some ⟨wr.heap.size, 1, none⟩)) ?_ hHeld ?_
            · intro w9 hSw
              go_simp
            simp only [Act.put, List.setIfInBounds_toArray, List.set_cons_zero, List.set_cons_succ]
            refine tkA (i := 1) (v := .string pv) ?_ hHeld ?_
            · intro w9 hSw
              go_simp
            simp only [Act.put, List.setIfInBounds_toArray, List.set_cons_zero, List.set_cons_succ]
            refine tkA (i := 2) (v := .int .i64 nx) ?_ hHeld ?_
            · intro w9 hSw
              go_simp
            simp only [Act.put, List.setIfInBounds_toArray, List.set_cons_zero, List.set_cons_succ]
            refine wpAnyH_ready (rs := [3]) (by kernel_rfl) (by simp) ?_
            refine AllReadyH.cons rfl (fun K hK => ?_) AllReadyH.nil
            go_simp
            refine (DN _).mono ?_
            rintro e w5 ⟨rfl, hb5⟩
            have B5 : Hid (Below w.heap.size w w5) := B2.out.drew.trans (hb5.mono B2.out.drew.size)
            have P5 : Hid (w5.cell? ⟨wr.heap.size, 1, none⟩ = some (.string pv)) := cell_later (w := (wr.alloc (.cells #[.string vK, .string pv] 68)).drew) hb5 P1.out
            clear hb5
            dsimp only
            refine hK _ _ P5.out (fun hHeld => ?_)
            clear hK K
            refine wpAnyH_ready (rs := [4]) (by kernel_rfl) (by simp) ?_
            refine AllReadyH.cons rfl (fun K hK => ?_) AllReadyH.nil
            go_simp
            refine hK _ _ P5.out (fun hHeld => ?_)
            clear hK K
            refine wpAnyH_done (by kernel_rfl) ?_ _
            refine NoPanic.normal ?_
            clear hHeld
            cases pb with
            | false =>
              have HZ : Hid (false = bb) := HA3
              go_wp2_with fail
              go_ret
              exact ⟨ret_bool HZ.out, B5.out⟩
            | true =>
              have HZ : Hid ((L.drop (k + 1)).all (pairB L nx) = bb) := HA3
              go_wp2_with fail
              exact ⟨⟨k + 1, by omega, by go_num, HZ.out, B5.out⟩, by simp [RowKit.intOf]; omega⟩
          · have hvi : (pk.toList == (vK).toList) = false := beq_eq_false_iff_ne.2 (fun h9 => hv (toList_inj h9))
            have hv2 : ¬ pk.toList = [118] := fun h9 => hv (toList_inj (by rw [h9, ByteArray.toList_eq]))
            have hv3 : (pk.toList == [118]) = false := beq_eq_false_iff_ne.2 hv2
            have hpb2 : ((decide (3 ≤ pk.size) && slashB pk) && kindB L nx pk pv) = pb := by
              rw [← hpb]
              show _ = if pk = vK then _ else _
              rw [if_neg hv]
            obtain ⟨p0', _⟩ := X0.out 0 _ rfl
            obtain ⟨p1', _⟩ := X0.out 1 _ rfl
            clear hpb
            by_cases h3 : pk.size < 3
            · have h3i : (pk.size : Int) < 3 := by omega
              have HZ : Hid (false = bb) := by
                show _ = _
                rw [← HA3.out, ← hpb2, decide_eq_false (by omega)]
                rfl
              clear HA3 hpb2
              go_wp2_with fail
              go_ret
              exact ⟨ret_bool HZ.out, B2.out⟩
            have h3i : ¬ (pk.size : Int) < 3 := by omega
            have h1i : (1 : Int) < (pk.size : Int) := by omega
            rw [decide_eq_true (show 3 ≤ pk.size by omega), slash_at pk (by omega)] at hpb2
            by_cases h47 : pk[1] = 47
            · have h47i : ((pk[1].toNat : Int) != 47) = false := by rw [h47]; rfl
              obtain ⟨kb, hkb⟩ : ∃ x, kindB L nx pk pv = x := ⟨_, rfl⟩
              have hpb3 : kb = pb := by rw [← hpb2, ← hkb, h47]; rfl
              have HKB : Hid (kindB L nx pk pv = pb) := hkb.trans hpb3
              clear hpb2 hkb hpb3
              have CNM := l07NamesS pk (wr.alloc (.cells #[.string pk, .string pv] 68)) (by omega) (by omega)
              obtain ⟨m, hm⟩ : ∃ m, (partsK pk).length = m := ⟨_, rfl⟩
              have HM : Hid ((partsK pk).length = m) := hm
              rw [hm] at CNM
              clear hm
              go_wp2_with fail
              refine CNM.mono ?_
              rintro e w5 ⟨v, rfl, own, hb5⟩
              obtain ⟨aa, cc, rfl, hsrc, _⟩ := own_src own
              have HS : Hid (Src w5 aa (cellsS ((partsK pk).map bs))) := hsrc
              have B5 : Hid (Below w.heap.size w w5) := B2.out.trans (hb5.mono B2.out.size)
              have X5 := X0.out.below hb5
              obtain ⟨q0, _⟩ := X5 0 _ rfl
              obtain ⟨q1, _⟩ := X5 1 _ rfl
              clear own hsrc hb5 X5 X0 p0' p1' CNM
              go_wp2_with fail
              refine (l07PairS _ n c L pk pv aa m cc nx _ HL.out HG.out (by omega) hs1 hs2 HM.out (HH.out.below B5.out) HS.out pb HKB).mono ?_
              rintro e w6 ⟨rfl, hb6⟩
              have B6 : Hid (Below w.heap.size w w6) := B5.out.trans (hb6.mono B5.out.size)
              clear hb6 q0 q1
              cases pb with
              | false =>
                have HZ : Hid (false = bb) := HA3
                go_wp2_with fail
                go_ret
                exact ⟨ret_bool HZ.out, B6.out⟩
              | true =>
                have HZ : Hid ((L.drop (k + 1)).all (pairB L nx) = bb) := HA3
                go_wp2_with fail
                exact ⟨⟨k + 1, by omega, by go_num, HZ.out, B6.out⟩, by simp [RowKit.intOf]; omega⟩
            · have h47i : ((pk[1].toNat : Int) != 47) = true := by
                rw [bne_iff_ne]
                exact fun h9 => h47 (UInt8.toNat_inj.1 (by have : (47 : UInt8).toNat = 47 := rfl; omega))
              have HZ : Hid (false = bb) := by
                show _ = _
                rw [← HA3.out, ← hpb2, show (pk[1] == 47) = false from beq_eq_false_iff_ne.2 h47]
                rfl
              clear HA3 hpb2
              go_wp2_with fail
              go_ret
              exact ⟨ret_bool HZ.out, B2.out⟩
        · have HZ : Hid (true = bb) := by
            show _ = _
            rw [← hall.out, all_end L _ k (by rw [HL.out]; omega)]
          clear hall
          go_wp2_with fail
          go_ret
          exact ⟨ret_bool HZ.out, hbr.out⟩
end Go.Proofs.YthgbclipknfmjaaGreatDoor
