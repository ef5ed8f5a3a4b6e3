
/-
  The program's MailStoreOK. By an AI agent.
-/
import Derived.Test.YthgbclipknfmjaaGreatDoorHlz
namespace Go.Proofs.YthgbclipknfmjaaGreatDoor
open Go.ChangeShapes Go.WideShapes Go.ChangeAt Go.RowKit Go.Deep Go.Lib
open Go.ChangeMaps (setBlock)
set_option linter.unusedVariables false
set_option linter.unusedSimpArgs false
set_option maxRecDepth 100000

abbrev usersT : ByteArray := ⟨#[117, 47]⟩
def userN (pk : ByteArray) : ByteArray := ⟨(Lib.trimPrefix pk.data.toList [117, 47]).toArray⟩
def userI (pk : ByteArray) : Bool := Lib.hasPrefix pk.data.toList [117, 47]
def asideN (nx : Int) (u : ByteArray) (L : List PM) : Nat := ((takeAll nx u S0 L).map fun S => S.aside.length).getD 0
def knownM (nx : Int) (L0 : List PM) : Nat → List PM → Option Nat
  | t, [] => some t
  | t, p :: L => if userI p.1 = true then (if layF nx (userN p.1) S0 L0 = true then knownM nx L0 (t + (L0.length - asideN nx (userN p.1) L0)) L else none) else knownM nx L0 t L
def knownB (L : List PM) : Bool := match knownM (nextM L) L 1 L with
  | some t => decide (t = L.length)
  | none => false
def implB (L : List PM) : Bool := pairsB (fK L) (fV L) L.length && (inB (numB ((getM L vK).getD e0).data.toList) 1 10000 && knownB L)
theorem userN_size (pk : ByteArray) : (userN pk).size ≤ pk.size := by
  unfold userN
  show (Lib.trimPrefix pk.data.toList [117, 47]).toArray.size ≤ _
  rw [List.size_toArray]
  unfold Lib.trimPrefix
  split
  · rw [List.length_drop, bytes_len]; omega
  · rw [bytes_len]; exact Nat.le_refl _
theorem known_next {nx : Int} {L0 L : List PM} {t k : Nat} {pk pv : ByteArray} (hk : k < L.length) (h : L.getD k p0 = (pk, pv)) : knownM nx L0 t (L.drop k) = if userI pk = true then (if layF nx (userN pk) S0 L0 = true then knownM nx L0 (t + (L0.length - asideN nx (userN pk) L0)) (L.drop (k + 1)) else none) else knownM nx L0 t (L.drop (k + 1)) := by
  have h9 : L[k] = (pk, pv) := by
    rw [← h, List.getD_eq_getElem?_getD, List.getElem?_eq_getElem hk]
    rfl
  rw [List.drop_eq_getElem_cons hk, h9]
  rfl
theorem in_next {L : List PM} (h : inB (numB ((getM L vK).getD e0).data.toList) 1 10000 = true) {nx : Int} (hn : NumPost (numB ((getM L vK).getD e0).data.toList) nx) : nx = nextM L ∧ 1 ≤ nx ∧ nx ≤ 10000 := by
  unfold nextM
  cases hv : getM L vK with
  | none =>
    rw [hv] at h
    exact absurd h (by decide)
  | some v =>
    rw [hv] at h hn
    simp only [Option.getD_some, Option.bind_some] at h hn ⊢
    cases hm : numB v.data.toList with
    | none => rw [hm] at h; cases h
    | some m =>
      rw [hm] at h
      have h1 := hn m hm
      unfold inB at h
      simp only [Bool.and_eq_true, decide_eq_true_eq] at h
      exact ⟨h1, by omega, by omega⟩
set_option maxHeartbeats 4000000 in
theorem implMailStoreOK (a : Option Addr) (n c : Nat) (L : List PM) (w : World) (hL : L.length = n) (hn : n ≤ 1048576) (hs : ∀ x ∈ L, x.1.size ≤ 1048576 ∧ x.2.size ≤ 1048576) (h : Src w a (cellsP L)) (hG : Gl w) (h8 : 8 ≤ w.heap.size) (bb : Bool) (HB : Hid (implB L = bb)) :
    Calls Tryz.prog 21 #[.slice a n c] w fun e w' => e = .returned (.bool bb) ∧ Below w.heap.size w w' := by
  have CP := implPairsOK a n c (fK L) (fV L) w hn (fun i hi => by
    rw [(at_fst (show i < L.length by omega)).1, (at_fst (show i < L.length by omega)).2]
    exact hs _ (List.getElem_mem _)) (sp_src h hL)
  obtain ⟨pb, hpb⟩ : ∃ x, pairsB (fK L) (fV L) n = x := ⟨_, rfl⟩
  rw [hpb] at CP
  have HL : Hid (L.length = n) := hL
  have HS : Hid (Src w a (cellsP L)) := h
  have HG : Hid (Gl w) := hG
  have HB1 : Hid ((pb && (inB (numB ((getM L vK).getD e0).data.toList) 1 10000 && knownB L)) = bb) := by show _ = _; rw [← HB.out, ← hpb, ← hL]; rfl
  have HP : Hid (pairsB (fK L) (fV L) L.length = pb) := by show _ = _; rw [hL, hpb]
  clear hL hs h hG HB hpb
  cases pb with
  | false =>
    have HZ : Hid (false = bb) := HB1
    go_enter Tryz.func21, Tryz.ntmps21
    go_wp2_with fail
    refine CP.mono ?_
    rintro e w1 ⟨rfl, hb1⟩
    have B1 : Hid (Below w.heap.size w w1) := hb1
    clear hb1
    go_wp2_with fail
    go_ret
    exact ⟨ret_bool HZ.out, B1.out⟩
  | true =>
    have HGL : Hid (GoodL L) := good_of HP.out
    have hn60 : n ≤ 60 := by rw [← HL.out]; exact HGL.out.1
    obtain ⟨ib, hib⟩ : ∃ x, inB (numB ((getM L vK).getD e0).data.toList) 1 10000 = x := ⟨_, rfl⟩
    have HIB : Hid (inB (numB ((getM L vK).getD e0).data.toList) 1 10000 = ib) := hib
    have HB2 : Hid ((ib && knownB L) = bb) := by show _ = _; rw [← hib]; exact HB1.out
    clear hib HB1
    go_enter Tryz.func21, Tryz.ntmps21
    go_wp2_with fail
    refine CP.mono ?_
    rintro e w1 ⟨rfl, hb1⟩
    have B1 : Hid (Below w.heap.size w w1) := hb1
    have CD := deskI a n c L w1 HL.out HGL.out (HS.out.below hb1) (HG.out.below h8 hb1) (by have := hb1.size; omega) ib HIB
    clear hb1 CP
    go_wp2_with fail
    refine CD.mono ?_
    rintro e w2 ⟨nx, M, rfl, hnp, hM, hdk, hb2⟩
    have B2 : Hid (Below w.heap.size w w2) := B1.out.trans (hb2.mono B1.out.size)
    have hMw : w.heap.size ≤ M := by have := B1.out.size; omega
    have HDK : Hid (DeskAt w2 M ⟨a, n, c, .slice none 0 0, [], nx, ⟨#[]⟩, ⟨#[]⟩, []⟩) := hdk
    have HNP : Hid (NumPost (numB ((getM L vK).getD e0).data.toList) nx) := hnp
    clear hb2 CD hnp hM hdk
    cases ib with
    | false =>
      have HZ : Hid (false = bb) := HB2
      go_wp2_with fail
      go_ret
      exact ⟨ret_bool HZ.out, B2.out⟩
    | true =>
      obtain ⟨hnx, hnx1⟩ := in_next HIB.out HNP.out
      have HZ : Hid (knownB L = bb) := HB2
      have HK0 : Hid (knownM nx L 1 (L.drop 0) = knownM nx L 1 L) := rfl
      have HNX : Hid (nx = nextM L) := hnx
      clear hnx HIB HNP HB2
      go_wp2_with fail
      go_loopw [5, 22] (fun kv iv wr => ∃ (k t : Nat) (va : Value) (asd : List PM) (u0 wd0 : ByteArray) (X : List FX), k ≤ n ∧ iv = .int .i64 (k : Int) ∧ kv = .int .i64 (t : Int) ∧ t ≤ 1 + 60 * k ∧ Hid (knownM nx L t (L.drop k) = knownM nx L 1 L) ∧ Hid (DeskAt wr M ⟨a, n, c, va, asd, nx, u0, wd0, X⟩) ∧ Hid (Below w.heap.size w wr)) (fun _ i _ => n - (RowKit.intOf i).toNat)
      case atStart => exact ⟨0, 1, _, _, _, _, _, by omega, rfl, rfl, by omega, HK0.out, HDK.out, B2.out⟩
      case round =>
        obtain ⟨k, t, va, asd, u0, wd0, X, hk, rfl, rfl, ht, hkn, hdk, hbr⟩ := hrel
        by_cases hlt : k < n
        · have hlti : (k : Int) < (n : Int) := by omega
          have hkL : k < L.length := by rw [HL.out]; exact hlt
          obtain ⟨b, o, pk, pv, rfl, hc0, hc1, hy⟩ := srcP (HS.out.below hbr.out) hkL
          have hmem : (pk, pv) ∈ L := by rw [← hy.out]; exact mem_getD L p0 k hkL
          have hsz := HGL.out.2.1 _ hmem
          have hs1 : pk.size ≤ 30 := hsz.2.1
          have hKN := hkn.out
          rw [known_next hkL hy.out] at hKN
          have hus := userN_size pk
          obtain ⟨U, hU⟩ : ∃ U, userN pk = U := ⟨_, rfl⟩
          obtain ⟨ub, hub⟩ : ∃ x, userI pk = x := ⟨_, rfl⟩
          have CC : ∀ W, Calls Tryz.prog 60 #[.string pk, .string usersT] W fun e w' => e = .returned (.tuple #[.string U, .bool ub]) ∧ w' = W := fun W => by
            rw [← hU, ← hub]
            exact Tryz.strings_CutPrefix pk usersT W
          rw [hU] at hKN hus
          rw [hub] at hKN
          have HKN : Hid ((if ub = true then (if layF nx U S0 L = true then knownM nx L (t + (L.length - asideN nx U L)) (L.drop (k + 1)) else none) else knownM nx L t (L.drop (k + 1))) = knownM nx L 1 L) := hKN
          have HUS : Hid (U.size ≤ 30) := by show _ ≤ _; omega
          clear hkn hmem hsz hkL hKN hU hub hus
          have hMr : M + 1 < wr.heap.size := World.block_lt_of_cell? _ _ (hdk.out.1 0 _ rfl).1
          have X0 : Hid (Box (wr.alloc (.cells #[.string pk, .string pv] 68)) wr.heap.size [.string pk, .string pv]) := Box.new rfl
          have AL : Hid (Below wr.heap.size wr (wr.alloc (.cells #[.string pk, .string pv] 68))) := (Below.refl _ _).alloc (Nat.le_refl _) _
          have P1 : Hid ((wr.alloc (.cells #[.string pk, .string pv] 68)).cell? ⟨wr.heap.size, 0, none⟩ = some (.string pk)) := (X0.out 0 _ rfl).1
          go_upto_region 10 with fail
          refine wp_region_noPanic ?_
          refine wp_region_held_drew (S := fun w' => w'.cell? ⟨wr.heap.size, 0, none⟩ = some (.string pk)) (by kernel_rfl) P1.out (fun hHeld => ?_)
          refine tkA (i := 0) (v := .pointer (some ⟨wr.heap.size, 0, none⟩)) ?_ hHeld ?_
          · intro w9 hSw
            go_simp
          simp only [Act.put, List.setIfInBounds_toArray, List.set_cons_zero, List.set_cons_succ]
          refine tkA (i := 1) (v := .string pk) ?_ hHeld ?_
          · intro w9 hSw
            go_simp
          simp only [Act.put, List.setIfInBounds_toArray, List.set_cons_zero, List.set_cons_succ]
          refine wpAnyH_ready (rs := [2]) (by kernel_rfl) (by simp) ?_
          refine AllReadyH.cons rfl (fun K hK => ?_) AllReadyH.nil
          go_simp
          refine (userKeyI ⟨#[]⟩ _ (by decide)).mono ?_
          rintro e w3 ⟨rfl, hw3⟩
          obtain rfl := hw3
          dsimp only
          refine hK _ _ P1.out (fun hHeld => ?_)
          clear hK K
          refine wpAnyH_ready (rs := [3]) (by kernel_rfl) (by simp) ?_
          refine AllReadyH.cons rfl (fun K hK => ?_) AllReadyH.nil
          go_simp
          refine (CC _).mono ?_
          rintro e w4 ⟨rfl, hw4⟩
          obtain rfl := hw4
          dsimp only
          refine hK _ _ P1.out (fun hHeld => ?_)
          clear hK K
          refine tkA (i := 4) (v := .tuple #[.string U, .bool ub]) ?_ hHeld ?_
          · intro w9 hSw
            go_simp
          simp only [Act.put, List.setIfInBounds_toArray, List.set_cons_zero, List.set_cons_succ]
          refine tkA (i := 5) (v := .string U) ?_ hHeld ?_
          · intro w9 hSw
            go_simp
          simp only [Act.put, List.setIfInBounds_toArray, List.set_cons_zero, List.set_cons_succ]
          refine tkA (i := 6) (v := .bool ub) ?_ hHeld ?_
          · intro w9 hSw
            go_simp
          simp only [Act.put, List.setIfInBounds_toArray, List.set_cons_zero, List.set_cons_succ]
          refine wpAnyH_ready (rs := [7]) (by kernel_rfl) (by simp) ?_
          refine AllReadyH.cons rfl (fun K hK => ?_) AllReadyH.nil
          go_simp
          refine hK _ _ P1.out (fun hHeld => ?_)
          clear hK K
          refine wpAnyH_ready (rs := [8]) (by kernel_rfl) (by simp) ?_
          refine AllReadyH.cons rfl (fun K hK => ?_) AllReadyH.nil
          go_simp
          refine hK _ _ P1.out (fun hHeld => ?_)
          clear hK K
          refine wpAnyH_done (by kernel_rfl) ?_ _
          refine NoPanic.normal ?_
          clear hHeld
          have AL2 : Hid (Below wr.heap.size wr (wr.alloc (.cells #[.string pk, .string pv] 68)).drew) := AL.out.drew
          have D4 : Hid (DeskAt (wr.alloc (.cells #[.string pk, .string pv] 68)).drew M ⟨_, n, c, va, asd, nx, u0, wd0, X⟩) := hdk.out.later AL2.out
          have B4 : Hid (Below w.heap.size w (wr.alloc (.cells #[.string pk, .string pv] 68)).drew) := hbr.out.trans (AL2.out.mono hbr.out.size)
          clear X0 P1 AL hdk CC
          cases ub with
          | false =>
            have HK2 : Hid (knownM nx L t (L.drop (k + 1)) = knownM nx L 1 L) := HKN
            clear HKN
            go_wp2_with fail
            exact ⟨⟨k + 1, t, va, asd, u0, wd0, X, by omega, by go_num, rfl, by omega, HK2.out, D4.out, B4.out⟩, by simp [RowKit.intOf]; omega⟩
          | true =>
            obtain ⟨lb, hlb⟩ : ∃ x, layF nx U S0 L = x := ⟨_, rfl⟩
            have HK2 : Hid ((if lb = true then knownM nx L (t + (L.length - asideN nx U L)) (L.drop (k + 1)) else none) = knownM nx L 1 L) := by show _ = _; rw [← hlb]; exact HKN.out
            have HLB : Hid (layF nx U S0 L = lb) := hlb
            have CL := layI U _ M _ n c va asd nx u0 wd0 X L D4.out HL.out HGL.out (fun W hW => HS.out.below (B4.out.trans (hW.mono hMw))) (HG.out.below h8 B4.out) (by omega) (by have := HUS.out; omega) hnx1 lb HLB
            clear HKN hlb
            go_wp2_with fail
            refine CL.mono ?_
            rintro e w5 ⟨rfl, hst, hb5⟩
            have B5 : Hid (Below w.heap.size w w5) := B4.out.trans (hb5.mono hMw)
            clear hb5 CL D4 B4
            cases lb with
            | false =>
              have HN : Hid (knownM nx L 1 L = none) := HK2.out.symm
              have HZ2 : Hid (false = bb) := by show _ = _; rw [← HZ.out]; unfold knownB; rw [← HNX.out, HN.out]
              clear hst HK2
              go_wp2_with fail
              go_ret
              exact ⟨ret_bool HZ2.out, B5.out⟩
            | true =>
              obtain ⟨S, hS⟩ : ∃ S, takeAll nx U S0 L = some S := by
                have h9 := HLB.out
                unfold layF at h9
                split at h9
                · rename_i S h7
                  exact ⟨S, h7⟩
                · cases h9
              obtain ⟨⟨va', X', hD', hV', hN', hF', hA'⟩, _⟩ := hst S hS
              have HAS : Hid (asideN nx U L = S.aside.length) := by show _ = _; unfold asideN; rw [hS]; rfl
              obtain ⟨av, cv, hva, _, _⟩ := own_src hD'.2.2.1
              simp only at hva
              obtain ⟨m, hm⟩ : ∃ m, S.aside.length = m := ⟨_, rfl⟩
              rw [hm] at hva hA' HAS
              subst hva
              have HD5 : Hid (DeskAt w5 M ⟨_, n, c, .slice av m cv, S.aside, nx, U, S.word, X'⟩) := hD'
              obtain ⟨e1, _⟩ := hD'.1 1 _ rfl
              have HK3 : Hid (knownM nx L (t + (n - m)) (L.drop (k + 1)) = knownM nx L 1 L) := by
                show _ = _
                rw [← HK2.out, HAS.out, HL.out]
                rfl
              have e9 : (t : Int) + ((n : Int) - (m : Int)) = ((t + (n - m) : Nat) : Int) := by omega
              clear hst hS hD' hV' hN' hF' HK2 HAS hm
              go_wp2_with fail
              exact ⟨⟨k + 1, t + (n - m), _, _, _, _, _, by omega, by go_num, by go_num, by omega, HK3.out, HD5.out, B5.out⟩, by simp [RowKit.intOf]; omega⟩
        · obtain rfl : k = n := by omega
          have hlti : ¬ (k : Int) < (k : Int) := by omega
          have HN : Hid (knownM nx L 1 L = some t) := by
            show _ = _
            rw [← hkn.out, List.drop_of_length_le (by rw [HL.out]; exact Nat.le_refl _)]
            rfl
          have HZ2 : Hid (decide (t = k) = bb) := by show _ = _; rw [← HZ.out]; unfold knownB; rw [← HNX.out, HN.out, HL.out]
          clear hkn
          by_cases htk : t = k
          · subst htk
            rw [decide_eq_true rfl] at HZ2
            go_wp2_with fail
            go_ret
            exact ⟨ret_bool HZ2.out, hbr.out⟩
          · rw [decide_eq_false htk] at HZ2
            have htki : ¬ (t : Int) = (k : Int) := by omega
            have htkb : ((t : Int) == (k : Int)) = false := beq_eq_false_iff_ne.2 htki
            go_wp2_with fail
            go_ret
            exact ⟨ret_bool HZ2.out, hbr.out⟩
end Go.Proofs.YthgbclipknfmjaaGreatDoor
