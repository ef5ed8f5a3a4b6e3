/-
  Hlz Mok Put Putc Eqa Eqb Eqc Eqd Ask7 Usp Upi Fps Dpm Dpq in one. By an AI agent.
-/
import Derived.Test.YtbpgncgmolpkiaaGreatDoorLay
import Derived.Test.YtbpgncgmolpkiaaGreatDoorOwned
import Derived.Test.YtbpgncgmolpkiaaGreatDoorPairGeti
import Derived.Test.YtbpgncgmolpkiaaGreatDoorMss
import Derived.Test.YtbpgncgmolpkiaaGreatDoorTkh
import Derived.Test.YtbpgncgmolpkiaaGreatDoorMpr
import Derived.Carry
namespace Go.Proofs.YtbpgncgmolpkiaaGreatDoor
open Go.ChangeShapes Go.WideShapes Go.ChangeAt Go.RowKit Go.Deep Go.Lib
open Go.ChangeMaps (setBlock)
set_option linter.unusedVariables false
set_option linter.unusedSimpArgs false
set_option maxRecDepth 100000

set_option maxHeartbeats 1000000 in
theorem heldI (a : Option Addr) (n c : Nat) (L : List PM) (key : ByteArray) (w : World) (hL : L.length = n) (hn : n ≤ 1048576) (hu : UpL L) (h : Src w a (cellsP L)) :
    Calls Tryz.prog 98 #[.slice a n c, .string key] w fun e w' => e = .returned (.agg #[.string ((getM L key).getD e0), .bool (getM L key).isSome]) ∧ Below w.heap.size w w' := by
  subst hL
  obtain ⟨p, hp⟩ := place_exists (fK L) key L.length
  obtain ⟨hm1, hm2⟩ := hit_get hu hp
  have HP : Hid (IsPlace (fK L) L.length key p) := hp
  have HS : Hid (Sp w a L.length (fK L) (fV L)) := sp_src h rfl
  have A0 : Hid (Below w.heap.size w (w.alloc (.cells #[.string ⟨#[]⟩, .bool false] 113))) := (Below.refl _ _).alloc (Nat.le_refl _) _
  obtain ⟨n, hn9⟩ : ∃ n, L.length = n := ⟨_, rfl⟩
  rw [hn9] at hn hm1 hm2 HP HS ⊢
  rw [← hm1, ← hm2]
  cases hh : hitB (fK L) n key p with
  | false =>
    have hm3 : gotV (fK L) (fV L) n key p = ⟨#[]⟩ := by unfold gotV; rw [hh]; rfl
    rw [hm3]
    have HT : Hid (hitB (fK L) n key p = false) := hh
    clear hm1 hm2 hm3 hh hp h hn9
    go_enter Tryz.func98, Tryz.ntmps98
    go_wp2_with fail
    refine (pairPlace a n c (fK L) (fV L) key p _ hn HP.out (HS.out.below A0.out)).mono ?_
    rintro e w1 ⟨rfl, hb1⟩
    rw [HT.out]
    have B1 : Hid (Below w.heap.size w w1) := A0.out.trans (hb1.mono A0.out.size)
    have X1 : Box w1 w.heap.size [.string ⟨#[]⟩, .bool false] := Box.below (Box.new rfl) hb1
    obtain ⟨p0, f0⟩ := X1 0 _ rfl
    obtain ⟨p1, f1⟩ := (X1.set 0 (.string ⟨#[]⟩)) 1 _ rfl
    have X3 := (X1.set 0 (.string ⟨#[]⟩)).set 1 (.bool false)
    obtain ⟨r0, _⟩ := X3 0 _ rfl
    obtain ⟨r1, _⟩ := X3 1 _ rfl
    clear X3 X1 hb1
    have B3 : Hid (Below w.heap.size w ((w1.setCell ⟨w.heap.size, 0, none⟩ (.string ⟨#[]⟩)).setCell ⟨w.heap.size, 1, none⟩ (.bool false))) := (B1.out.setCell (Nat.le_refl _) _).setCell (Nat.le_refl _) _
    go_wp2_with fail
    exact bodyPost_ret (v := .agg #[.string ⟨#[]⟩, .bool false]) (by simp [results, Tryz.results98, go_sem, r0, r1]) rfl ⟨rfl, B3.out⟩
  | true =>
    have hm3 : gotV (fK L) (fV L) n key p = fV L p := by unfold gotV; rw [hh]; rfl
    rw [hm3]
    have HT : Hid (hitB (fK L) n key p = true) := hh
    have hlt : p < n := by unfold hitB at hh; simp at hh; exact hh.1
    have hpi : (p : Int) < (n : Int) := by omega
    have hp0 : (0 : Int) ≤ (p : Int) := by omega
    obtain ⟨x, hx⟩ : ∃ x, fV L p = x := ⟨_, rfl⟩
    have HX : Hid (fV L p = x) := hx
    obtain ⟨b, o, rfl⟩ : ∃ b o, a = some ⟨b, o, none⟩ := by
      rcases HS.out with h0 | ⟨b, o, e, _⟩
      · omega
      · exact ⟨b, o, e⟩
    rw [hx]
    clear hm1 hm2 hm3 hh hp h hn9 hx
    go_enter Tryz.func98, Tryz.ntmps98
    go_wp2_with fail
    refine (pairPlace _ n c (fK L) (fV L) key p _ hn HP.out (HS.out.below A0.out)).mono ?_
    rintro e w1 ⟨rfl, hb1⟩
    rw [HT.out]
    have B1 : Hid (Below w.heap.size w w1) := A0.out.trans (hb1.mono A0.out.size)
    have hc : w1.cell? ⟨b, o + p * 2 + 1, none⟩ = some (.string x) := by
      rcases HS.out.below B1.out with h0 | ⟨b', o', e, hcc⟩
      · omega
      · cases e
        rw [← HX.out]
        exact (hcc p hlt).2
    have X1 : Box w1 w.heap.size [.string ⟨#[]⟩, .bool false] := Box.below (Box.new rfl) hb1
    obtain ⟨p0, f0⟩ := X1 0 _ rfl
    obtain ⟨p1, f1⟩ := (X1.set 0 (.string x)) 1 _ rfl
    have X3 := (X1.set 0 (.string x)).set 1 (.bool true)
    obtain ⟨r0, _⟩ := X3 0 _ rfl
    obtain ⟨r1, _⟩ := X3 1 _ rfl
    clear X3 X1 hb1
    have B3 : Hid (Below w.heap.size w ((w1.setCell ⟨w.heap.size, 0, none⟩ (.string x)).setCell ⟨w.heap.size, 1, none⟩ (.bool true))) := (B1.out.setCell (Nat.le_refl _) _).setCell (Nat.le_refl _) _
    go_wp2_with fail
    exact bodyPost_ret (v := .agg #[.string x, .bool true]) (by simp [results, Tryz.results98, go_sem, r0, r1]) rfl ⟨rfl, B3.out⟩
theorem ret_desk {a b : Option Addr} {k l : Bool} (h1 : a = b) (h2 : k = l) : Ending.returned (.tuple #[.pointer a, .bool k]) = .returned (.tuple #[.pointer b, .bool l]) := by rw [h1, h2]
set_option maxHeartbeats 1000000 in
theorem deskI (a : Option Addr) (n c : Nat) (L : List PM) (w : World) (hL : L.length = n) (hg : GoodL L) (h : Src w a (cellsP L)) (hG : Gl w) (h8 : 8 ≤ w.heap.size) (bb : Bool) (HB : Hid (inB (numB ((getM L vK).getD e0).data.toList) 1 10000 = bb)) :
    Calls Tryz.prog 60 #[.slice a n c] w fun e w' => ∃ (nx : Int) (M : Nat), e = .returned (.tuple #[.pointer (some ⟨M + 1, 0, none⟩), .bool bb]) ∧ NumPost (numB ((getM L vK).getD e0).data.toList) nx ∧ w.heap.size ≤ M ∧ DeskAt w' M ⟨a, n, c, .slice none 0 0, [], nx, ⟨#[]⟩, ⟨#[]⟩, []⟩ ∧ Below w.heap.size w w' := by
  have CH := heldI a n c L vK w hL (by have := hg.1; omega) hg.2.2 h
  have hz := getM_size hg vK
  obtain ⟨v, hv⟩ : ∃ v, (getM L vK).getD e0 = v := ⟨_, rfl⟩
  obtain ⟨v2, hv2⟩ : ∃ v, (getM L vK).isSome = v := ⟨_, rfl⟩
  rw [hv] at CH HB hz ⊢
  rw [hv2] at CH
  have hmm := @run_makeMap Tryz.prog
  have hfl : ∀ W, (Instr.field 113 (.agg #[.string v, .bool v2]) 0).run Tryz.prog W = .ok (.string v) W := fun W => by
    kernel_rfl
  have HG : Hid (Gl w) := hG
  clear hL hg h hv hv2 hG
  go_enter Tryz.func60, Tryz.ntmps60
  go_wp2_with fail
  refine CH.mono ?_
  rintro e w1 ⟨rfl, hb1⟩
  have B1 : Hid (Below w.heap.size w w1) := hb1
  have CN := numberWithinI v 1 10000 w1 (by omega) (HG.out.below h8 hb1) (by have := hb1.size; omega) bb HB
  clear hb1 CH
  go_wp2_with fail
  refine CN.mono ?_
  rintro e w2 ⟨nx, rfl, hnp, hb2⟩
  have B2 : Hid (Below w.heap.size w w2) := B1.out.trans (hb2.mono B1.out.size)
  have HN : Hid (NumPost (numB v.data.toList) nx) := hnp
  clear hb2 CN hnp
  go_wp2_with fail
  have A2 : Below (w2.alloc (.map #[] 0)).heap.size (w2.alloc (.map #[] 0)) ((w2.alloc (.map #[] 0)).alloc (.cells #[.slice a n c, .slice none 0 0, .int .i64 nx, .string ⟨#[]⟩, .string ⟨#[]⟩, .map (some w2.heap.size)] 85)) := (Below.refl _ _).alloc (Nat.le_refl _) _
  have hm : MapIs (w2.alloc (.map #[] 0)) w2.heap.size 0 [] := ⟨heap_alloc_new w2 _, fun x hx => (by cases hx), List.nodup_nil⟩
  refine bodyPost_ret (v := .tuple #[.pointer (some ⟨w2.heap.size + 1, 0, none⟩), .bool bb]) (by simp [results, Tryz.results60, go_sem]) rfl ?_
  exact ⟨nx, w2.heap.size, rfl, HN.out, B2.out.size, ⟨Box.new (by simp), ⟨0, hm.later A2⟩, World.ownsRow_nil _ _ _ _, fun x hx => (by cases hx), List.Pairwise.nil⟩, (B2.out.alloc B2.out.size _).alloc (by have := B2.out.size; simp; omega) _⟩
end Go.Proofs.YtbpgncgmolpkiaaGreatDoor
namespace Go.Proofs.YtbpgncgmolpkiaaGreatDoor
open Go.ChangeShapes Go.WideShapes Go.ChangeAt Go.RowKit Go.Deep Go.Lib
open Go.ChangeMaps (setBlock)
set_option linter.unusedVariables false
set_option linter.unusedSimpArgs false
set_option maxRecDepth 100000

abbrev usersT : ByteArray := ⟨#[117, 47]⟩
def userN (pk : ByteArray) : ByteArray := ⟨(Lib.trimPrefix pk.data.toList [117, 47]).toArray⟩
def userI (pk : ByteArray) : Bool := Lib.hasPrefix pk.data.toList [117, 47]
def asideN (nx : Int) (u : ByteArray) (L : List PM) : Nat := ((takeAll nx u S0 L).map fun S => S.aside.length).getD 0
def knownM (nx : Int) (L0 : List PM) : Nat → List PM → Option Nat
  | t, [] => some t
  | t, p :: L => if userI p.1 = true then (if layF nx (userN p.1) S0 L0 = true then knownM nx L0 (t + (L0.length - asideN nx (userN p.1) L0)) L else none) else knownM nx L0 t L
def knownB (L : List PM) : Bool := match knownM (nextM L) L 1 L with
  | some t => decide (t = L.length)
  | none => false
def implB (L : List PM) : Bool := pairsB (fK L) (fV L) L.length && (inB (numB ((getM L vK).getD e0).data.toList) 1 10000 && knownB L)
theorem userN_size (pk : ByteArray) : (userN pk).size ≤ pk.size := by
  unfold userN
  show (Lib.trimPrefix pk.data.toList [117, 47]).toArray.size ≤ _
  rw [List.size_toArray]
  unfold Lib.trimPrefix
  split
  · rw [List.length_drop, bytes_len]; omega
  · rw [bytes_len]; exact Nat.le_refl _
theorem known_next {nx : Int} {L0 L : List PM} {t k : Nat} {pk pv : ByteArray} (hk : k < L.length) (h : L.getD k p0 = (pk, pv)) : knownM nx L0 t (L.drop k) = if userI pk = true then (if layF nx (userN pk) S0 L0 = true then knownM nx L0 (t + (L0.length - asideN nx (userN pk) L0)) (L.drop (k + 1)) else none) else knownM nx L0 t (L.drop (k + 1)) := by
  have h9 : L[k] = (pk, pv) := by
    rw [← h, List.getD_eq_getElem?_getD, List.getElem?_eq_getElem hk]
    rfl
  rw [List.drop_eq_getElem_cons hk, h9]
  rfl
theorem in_next {L : List PM} (h : inB (numB ((getM L vK).getD e0).data.toList) 1 10000 = true) {nx : Int} (hn : NumPost (numB ((getM L vK).getD e0).data.toList) nx) : nx = nextM L ∧ 1 ≤ nx ∧ nx ≤ 10000 := by
  unfold nextM
  cases hv : getM L vK with
  | none =>
    rw [hv] at h
    exact absurd h (by decide)
  | some v =>
    rw [hv] at h hn
    simp only [Option.getD_some, Option.bind_some] at h hn ⊢
    cases hm : numB v.data.toList with
    | none => rw [hm] at h; cases h
    | some m =>
      rw [hm] at h
      have h1 := hn m hm
      unfold inB at h
      simp only [Bool.and_eq_true, decide_eq_true_eq] at h
      exact ⟨h1, by omega, by omega⟩
set_option maxHeartbeats 4000000 in
theorem implMailStoreOK (a : Option Addr) (n c : Nat) (L : List PM) (w : World) (hL : L.length = n) (hn : n ≤ 1048576) (hs : ∀ x ∈ L, x.1.size ≤ 1048576 ∧ x.2.size ≤ 1048576) (h : Src w a (cellsP L)) (hG : Gl w) (h8 : 8 ≤ w.heap.size) (bb : Bool) (HB : Hid (implB L = bb)) :
    Calls Tryz.prog 58 #[.slice a n c] w fun e w' => e = .returned (.bool bb) ∧ Below w.heap.size w w' := by
  have CP := implPairsOK a n c (fK L) (fV L) w hn (fun i hi => by
    rw [(at_fst (show i < L.length by omega)).1, (at_fst (show i < L.length by omega)).2]
    exact hs _ (List.getElem_mem _)) (sp_src h hL)
  obtain ⟨pb, hpb⟩ : ∃ x, pairsB (fK L) (fV L) n = x := ⟨_, rfl⟩
  rw [hpb] at CP
  have HL : Hid (L.length = n) := hL
  have HS : Hid (Src w a (cellsP L)) := h
  have HG : Hid (Gl w) := hG
  have HB1 : Hid ((pb && (inB (numB ((getM L vK).getD e0).data.toList) 1 10000 && knownB L)) = bb) := by show _ = _; rw [← HB.out, ← hpb, ← hL]; rfl
  have HP : Hid (pairsB (fK L) (fV L) L.length = pb) := by show _ = _; rw [hL, hpb]
  clear hL hs h hG HB hpb
  cases pb with
  | false =>
    have HZ : Hid (false = bb) := HB1
    go_enter Tryz.func58, Tryz.ntmps58
    go_wp2_with fail
    refine CP.mono ?_
    rintro e w1 ⟨rfl, hb1⟩
    have B1 : Hid (Below w.heap.size w w1) := hb1
    clear hb1
    go_wp2_with fail
    go_ret
    exact ⟨ret_bool HZ.out, B1.out⟩
  | true =>
    have HGL : Hid (GoodL L) := good_of HP.out
    have hn60 : n ≤ 60 := by rw [← HL.out]; exact HGL.out.1
    obtain ⟨ib, hib⟩ : ∃ x, inB (numB ((getM L vK).getD e0).data.toList) 1 10000 = x := ⟨_, rfl⟩
    have HIB : Hid (inB (numB ((getM L vK).getD e0).data.toList) 1 10000 = ib) := hib
    have HB2 : Hid ((ib && knownB L) = bb) := by show _ = _; rw [← hib]; exact HB1.out
    clear hib HB1
    go_enter Tryz.func58, Tryz.ntmps58
    go_wp2_with fail
    refine CP.mono ?_
    rintro e w1 ⟨rfl, hb1⟩
    have B1 : Hid (Below w.heap.size w w1) := hb1
    have CD := deskI a n c L w1 HL.out HGL.out (HS.out.below hb1) (HG.out.below h8 hb1) (by have := hb1.size; omega) ib HIB
    clear hb1 CP
    go_wp2_with fail
    refine CD.mono ?_
    rintro e w2 ⟨nx, M, rfl, hnp, hM, hdk, hb2⟩
    have B2 : Hid (Below w.heap.size w w2) := B1.out.trans (hb2.mono B1.out.size)
    have hMw : w.heap.size ≤ M := by have := B1.out.size; omega
    have HDK : Hid (DeskAt w2 M ⟨a, n, c, .slice none 0 0, [], nx, ⟨#[]⟩, ⟨#[]⟩, []⟩) := hdk
    have HNP : Hid (NumPost (numB ((getM L vK).getD e0).data.toList) nx) := hnp
    clear hb2 CD hnp hM hdk
    cases ib with
    | false =>
      have HZ : Hid (false = bb) := HB2
      go_wp2_with fail
      go_ret
      exact ⟨ret_bool HZ.out, B2.out⟩
    | true =>
      obtain ⟨hnx, hnx1⟩ := in_next HIB.out HNP.out
      have HZ : Hid (knownB L = bb) := HB2
      have HK0 : Hid (knownM nx L 1 (L.drop 0) = knownM nx L 1 L) := rfl
      have HNX : Hid (nx = nextM L) := hnx
      clear hnx HIB HNP HB2
      go_wp2_with fail
      go_loopw [5, 22] (fun kv iv wr => ∃ (k t : Nat) (va : Value) (asd : List PM) (u0 wd0 : ByteArray) (X : List FX), k ≤ n ∧ iv = .int .i64 (k : Int) ∧ kv = .int .i64 (t : Int) ∧ t ≤ 1 + 60 * k ∧ Hid (knownM nx L t (L.drop k) = knownM nx L 1 L) ∧ Hid (DeskAt wr M ⟨a, n, c, va, asd, nx, u0, wd0, X⟩) ∧ Hid (Below w.heap.size w wr)) (fun _ i _ => n - (RowKit.intOf i).toNat)
      case atStart => exact ⟨0, 1, _, _, _, _, _, by omega, rfl, rfl, by omega, HK0.out, HDK.out, B2.out⟩
      case round =>
        obtain ⟨k, t, va, asd, u0, wd0, X, hk, rfl, rfl, ht, hkn, hdk, hbr⟩ := hrel
        by_cases hlt : k < n
        · have hlti : (k : Int) < (n : Int) := by omega
          have hkL : k < L.length := by rw [HL.out]; exact hlt
          obtain ⟨b, o, pk, pv, rfl, hc0, hc1, hy⟩ := srcP (HS.out.below hbr.out) hkL
          have hmem : (pk, pv) ∈ L := by rw [← hy.out]; exact mem_getD L p0 k hkL
          have hsz := HGL.out.2.1 _ hmem
          have hs1 : pk.size ≤ 30 := hsz.2.1
          have hKN := hkn.out
          rw [known_next hkL hy.out] at hKN
          have hus := userN_size pk
          obtain ⟨U, hU⟩ : ∃ U, userN pk = U := ⟨_, rfl⟩
          obtain ⟨ub, hub⟩ : ∃ x, userI pk = x := ⟨_, rfl⟩
          have CC : ∀ W, Calls Tryz.prog 95 #[.string pk, .string usersT] W fun e w' => e = .returned (.tuple #[.string U, .bool ub]) ∧ w' = W := fun W => by
            rw [← hU, ← hub]
            exact Tryz.strings_CutPrefix pk usersT W
          rw [hU] at hKN hus
          rw [hub] at hKN
          have HKN : Hid ((if ub = true then (if layF nx U S0 L = true then knownM nx L (t + (L.length - asideN nx U L)) (L.drop (k + 1)) else none) else knownM nx L t (L.drop (k + 1))) = knownM nx L 1 L) := hKN
          have HUS : Hid (U.size ≤ 30) := by show _ ≤ _; omega
          clear hkn hmem hsz hkL hKN hU hub hus
          have hMr : M + 1 < wr.heap.size := World.block_lt_of_cell? _ _ (hdk.out.1 0 _ rfl).1
          have X0 : Hid (Box (wr.alloc (.cells #[.string pk, .string pv] 47)) wr.heap.size [.string pk, .string pv]) := Box.new rfl
          have AL : Hid (Below wr.heap.size wr (wr.alloc (.cells #[.string pk, .string pv] 47))) := (Below.refl _ _).alloc (Nat.le_refl _) _
          have P1 : Hid ((wr.alloc (.cells #[.string pk, .string pv] 47)).cell? ⟨wr.heap.size, 0, none⟩ = some (.string pk)) := (X0.out 0 _ rfl).1
          go_upto_region 10 with fail
          refine wp_region_noPanic ?_
          refine wp_region_held_drew (S := fun w' => w'.cell? ⟨wr.heap.size, 0, none⟩ = some (.string pk)) (by kernel_rfl) P1.out (fun hHeld => ?_)
          refine tkA (i := 0) (v := .pointer (some ⟨wr.heap.size, 0, none⟩)) ?_ hHeld ?_
          · intro w9 hSw
            go_simp
          simp only [Act.put, List.setIfInBounds_toArray, List.set_cons_zero, List.set_cons_succ]
          refine tkA (i := 1) (v := .string pk) ?_ hHeld ?_
          · intro w9 hSw
            go_simp
          simp only [Act.put, List.setIfInBounds_toArray, List.set_cons_zero, List.set_cons_succ]
          refine wpAnyH_ready (rs := [2]) (by kernel_rfl) (by simp) ?_
          refine AllReadyH.cons rfl (fun K hK => ?_) AllReadyH.nil
          go_simp
          refine (userKeyI ⟨#[]⟩ _ (by decide)).mono ?_
          rintro e w3 ⟨rfl, hw3⟩
          obtain rfl := hw3
          dsimp only
          refine hK _ _ P1.out (fun hHeld => ?_)
          clear hK K
          refine wpAnyH_ready (rs := [3]) (by kernel_rfl) (by simp) ?_
          refine AllReadyH.cons rfl (fun K hK => ?_) AllReadyH.nil
          go_simp
          refine (CC _).mono ?_
          rintro e w4 ⟨rfl, hw4⟩
          obtain rfl := hw4
          dsimp only
          refine hK _ _ P1.out (fun hHeld => ?_)
          clear hK K
          refine tkA (i := 4) (v := .tuple #[.string U, .bool ub]) ?_ hHeld ?_
          · intro w9 hSw
            go_simp
          simp only [Act.put, List.setIfInBounds_toArray, List.set_cons_zero, List.set_cons_succ]
          refine tkA (i := 5) (v := .string U) ?_ hHeld ?_
          · intro w9 hSw
            go_simp
          simp only [Act.put, List.setIfInBounds_toArray, List.set_cons_zero, List.set_cons_succ]
          refine tkA (i := 6) (v := .bool ub) ?_ hHeld ?_
          · intro w9 hSw
            go_simp
          simp only [Act.put, List.setIfInBounds_toArray, List.set_cons_zero, List.set_cons_succ]
          refine wpAnyH_ready (rs := [7]) (by kernel_rfl) (by simp) ?_
          refine AllReadyH.cons rfl (fun K hK => ?_) AllReadyH.nil
          go_simp
          refine hK _ _ P1.out (fun hHeld => ?_)
          clear hK K
          refine wpAnyH_ready (rs := [8]) (by kernel_rfl) (by simp) ?_
          refine AllReadyH.cons rfl (fun K hK => ?_) AllReadyH.nil
          go_simp
          refine hK _ _ P1.out (fun hHeld => ?_)
          clear hK K
          refine wpAnyH_done (by kernel_rfl) ?_ _
          refine NoPanic.normal ?_
          clear hHeld
          have AL2 : Hid (Below wr.heap.size wr (wr.alloc (.cells #[.string pk, .string pv] 47)).drew) := AL.out.drew
          have D4 : Hid (DeskAt (wr.alloc (.cells #[.string pk, .string pv] 47)).drew M ⟨_, n, c, va, asd, nx, u0, wd0, X⟩) := hdk.out.later AL2.out
          have B4 : Hid (Below w.heap.size w (wr.alloc (.cells #[.string pk, .string pv] 47)).drew) := hbr.out.trans (AL2.out.mono hbr.out.size)
          clear X0 P1 AL hdk CC
          cases ub with
          | false =>
            have HK2 : Hid (knownM nx L t (L.drop (k + 1)) = knownM nx L 1 L) := HKN
            clear HKN
            go_wp2_with fail
            exact ⟨⟨k + 1, t, va, asd, u0, wd0, X, by omega, by go_num, rfl, by omega, HK2.out, D4.out, B4.out⟩, by simp [RowKit.intOf]; omega⟩
          | true =>
            obtain ⟨lb, hlb⟩ : ∃ x, layF nx U S0 L = x := ⟨_, rfl⟩
            have HK2 : Hid ((if lb = true then knownM nx L (t + (L.length - asideN nx U L)) (L.drop (k + 1)) else none) = knownM nx L 1 L) := by show _ = _; rw [← hlb]; exact HKN.out
            have HLB : Hid (layF nx U S0 L = lb) := hlb
            have CL := layI U _ M _ n c va asd nx u0 wd0 X L D4.out HL.out HGL.out (fun W hW => HS.out.below (B4.out.trans (hW.mono hMw))) (HG.out.below h8 B4.out) (by omega) (by have := HUS.out; omega) hnx1 lb HLB
            clear HKN hlb
            go_wp2_with fail
            refine CL.mono ?_
            rintro e w5 ⟨rfl, hst, hb5⟩
            have B5 : Hid (Below w.heap.size w w5) := B4.out.trans (hb5.mono hMw)
            clear hb5 CL D4 B4
            cases lb with
            | false =>
              have HN : Hid (knownM nx L 1 L = none) := HK2.out.symm
              have HZ2 : Hid (false = bb) := by show _ = _; rw [← HZ.out]; unfold knownB; rw [← HNX.out, HN.out]
              clear hst HK2
              go_wp2_with fail
              go_ret
              exact ⟨ret_bool HZ2.out, B5.out⟩
            | true =>
              obtain ⟨S, hS⟩ : ∃ S, takeAll nx U S0 L = some S := by
                have h9 := HLB.out
                unfold layF at h9
                split at h9
                · rename_i S h7
                  exact ⟨S, h7⟩
                · cases h9
              obtain ⟨⟨va', X', hD', hV', hN', hF', hA'⟩, _⟩ := hst S hS
              have HAS : Hid (asideN nx U L = S.aside.length) := by show _ = _; unfold asideN; rw [hS]; rfl
              obtain ⟨av, cv, hva, _, _⟩ := own_src hD'.2.2.1
              simp only at hva
              obtain ⟨m, hm⟩ : ∃ m, S.aside.length = m := ⟨_, rfl⟩
              rw [hm] at hva hA' HAS
              subst hva
              have HD5 : Hid (DeskAt w5 M ⟨_, n, c, .slice av m cv, S.aside, nx, U, S.word, X'⟩) := hD'
              obtain ⟨e1, _⟩ := hD'.1 1 _ rfl
              have HK3 : Hid (knownM nx L (t + (n - m)) (L.drop (k + 1)) = knownM nx L 1 L) := by
                show _ = _
                rw [← HK2.out, HAS.out, HL.out]
                rfl
              have e9 : (t : Int) + ((n : Int) - (m : Int)) = ((t + (n - m) : Nat) : Int) := by omega
              clear hst hS hD' hV' hN' hF' HK2 HAS hm
              go_wp2_with fail
              exact ⟨⟨k + 1, t + (n - m), _, _, _, _, _, by omega, by go_num, by go_num, by omega, HK3.out, HD5.out, B5.out⟩, by simp [RowKit.intOf]; omega⟩
        · obtain rfl : k = n := by omega
          have hlti : ¬ (k : Int) < (k : Int) := by omega
          have HN : Hid (knownM nx L 1 L = some t) := by
            show _ = _
            rw [← hkn.out, List.drop_of_length_le (by rw [HL.out]; exact Nat.le_refl _)]
            rfl
          have HZ2 : Hid (decide (t = k) = bb) := by show _ = _; rw [← HZ.out]; unfold knownB; rw [← HNX.out, HN.out, HL.out]
          clear hkn
          by_cases htk : t = k
          · subst htk
            rw [decide_eq_true rfl] at HZ2
            go_wp2_with fail
            go_ret
            exact ⟨ret_bool HZ2.out, hbr.out⟩
          · rw [decide_eq_false htk] at HZ2
            have htki : ¬ (t : Int) = (k : Int) := by omega
            have htkb : ((t : Int) == (k : Int)) = false := beq_eq_false_iff_ne.2 htki
            go_wp2_with fail
            go_ret
            exact ⟨ret_bool HZ2.out, hbr.out⟩
end Go.Proofs.YtbpgncgmolpkiaaGreatDoor
namespace Go.Proofs.YtbpgncgmolpkiaaGreatDoor
open Go.ChangeShapes Go.WideShapes Go.ChangeAt Go.RowKit Go.Deep
set_option linter.unusedVariables false
set_option maxRecDepth 100000

/-- The pairs L lie at a place. -/
def SrcP (w : World) (b o : Nat) (L : List (ByteArray × ByteArray)) : Prop :=
  ∀ i, i < L.length → w.cell? ⟨b, o + i * 2, none⟩ = some (.string (fstL L i)) ∧ w.cell? ⟨b, o + i * 2 + 1, none⟩ = some (.string (sndL L i))
theorem SrcP.below {w w' : World} {b o : Nat} {L : List (ByteArray × ByteArray)} (h : SrcP w b o L) (hb : Below w.heap.size w w') : SrcP w' b o L := fun i hi => by
  obtain ⟨h1, h2⟩ := h i hi
  exact ⟨cell_later hb h1, cell_later hb h2⟩
theorem SrcP.take {w : World} {b o : Nat} {L : List (ByteArray × ByteArray)} (h : SrcP w b o L) (l : Nat) : SrcP w b o (L.take l) := fun i hi => by
  rw [List.length_take] at hi
  have h1 := h i (by omega)
  have e : (L.take l).getD i pe = L.getD i pe := by rw [List.getD_eq_getElem?_getD, List.getElem?_take, if_pos (by omega), ← List.getD_eq_getElem?_getD]
  unfold fstL sndL at *
  rw [e]; exact h1
theorem SrcP.drop {w : World} {b o : Nat} {L : List (ByteArray × ByteArray)} (h : SrcP w b o L) (l : Nat) : SrcP w b (o + l * 2) (L.drop l) := fun i hi => by
  rw [List.length_drop] at hi
  have h1 := h (l + i) (by omega)
  have e : (L.drop l).getD i pe = L.getD (l + i) pe := by rw [List.getD_eq_getElem?_getD, List.getElem?_drop, ← List.getD_eq_getElem?_getD]
  unfold fstL sndL at *
  rw [e, show o + l * 2 + i * 2 = o + (l + i) * 2 from by omega]; exact h1
theorem SrcP.news {w : World} {b o : Nat} {L : List (ByteArray × ByteArray)} (h : SrcP w b o L) : ∀ j u, (cellsP L)[j]? = some u → w.cell? ((⟨b, o, none⟩ : Addr).add j) = some u := fun j u hu => by
  have hj : j < (cellsP L).length := (List.getElem?_eq_some_iff.1 hu).1
  rw [cellsP_length] at hj
  rw [add_plain]
  obtain ⟨c1, c2⟩ := cellsP_get L (j / 2) (by omega)
  obtain ⟨h1, h2⟩ := h (j / 2) (by omega)
  by_cases e : j % 2 = 0
  · rw [show j / 2 * 2 = j from by omega] at c1 h1
    rw [hu] at c1; rw [h1]; exact c1.symm
  · rw [show j / 2 * 2 + 1 = j from by omega] at c2
    rw [show o + j / 2 * 2 + 1 = o + j from by omega] at h2
    rw [hu] at c2; rw [h2]; exact c2.symm
def listP (f g : Nat → ByteArray) (n : Nat) : List (ByteArray × ByteArray) := (List.range n).map fun i => (f i, g i)
theorem listP_length (f g : Nat → ByteArray) (n : Nat) : (listP f g n).length = n := by simp [listP]
theorem listP_get (f g : Nat → ByteArray) (n i : Nat) (h : i < n) : (listP f g n).getD i pe = (f i, g i) := by
  rw [List.getD_eq_getElem?_getD]; simp [listP, h]
theorem src_of {w : World} {b o n : Nat} {f g : Nat → ByteArray} (h : Sp w (some ⟨b, o, none⟩) n f g) : SrcP w b o (listP f g n) := fun i hi => by
  rw [listP_length] at hi
  rcases h with h0 | ⟨b', o', e, hc⟩
  · omega
  · cases e
    have h1 := hc i hi
    unfold fstL sndL
    rw [listP_get f g n i hi]; exact h1
/-- A list that is given to append, written behind what is owned. -/
theorem OwnsP.more {w' : World} {base : Nat} {v' : Value} {L M : List (ByteArray × ByteArray)} {m : Nat} (hm : M.length = m) (h : w'.ownsRow base 47 2 v' (L.length + m) (cellsP L ++ cellsP M)) : OwnsP w' base v' (L ++ M) := by
  unfold OwnsP
  rw [List.length_append, cellsP_append, hm]; exact h

theorem OwnsP.one {w' : World} {base : Nat} {v' : Value} {L : List (ByteArray × ByteArray)} {x y : ByteArray} (h : w'.ownsRow base 47 2 v' (L.length + 1) (cellsP L ++ [.string x, .string y])) : OwnsP w' base v' (L ++ [(x, y)]) :=
  OwnsP.more (M := [(x, y)]) (m := 1) rfl h
theorem OwnsP.mk {w' : World} {base : Nat} {v' : Value} {L : List (ByteArray × ByteArray)} {m : Nat} (hm : (cellsP L).length = m * 2) (h : w'.ownsRow base 47 2 v' m (cellsP L)) : OwnsP w' base v' L := by
  unfold OwnsP
  rw [cellsP_length] at hm
  rw [show L.length = m from by omega]; exact h
theorem two_newP (wr : World) (x y : ByteArray) (j : Nat) (u : Value) (h : [Value.string x, .string y][j]? = some u) :
    (wr.alloc (.cells #[.string x, .string y] 47)).cell? ((⟨wr.heap.size, 0, none⟩ : Addr).add j) = some u := by
  match j, h with
  | 0, h => simp at h; subst h; simp [Addr.add]
  | 1, h => simp at h; subst h; simp [Addr.add]

set_option maxHeartbeats 400000 in
theorem copyPairs (b o m c : Nat) (L : List (ByteArray × ByteArray)) (w : World) (hm : L.length = m) (hm1 : m ≤ 1048576) (h : SrcP w b o L) :
    Calls Tryz.prog 36 #[.slice (some ⟨b, o, none⟩) m c] w fun e w' => ∃ v, e = .returned v ∧ OwnsP w' w.heap.size v L ∧ Below w.heap.size w w' := by
  obtain ⟨i0, hi, hz0, hz1, hz2⟩ := infoPair'
  have HH : Hid (SrcP w b o L) := h
  have HM : Hid (L.length = m) := hm
  have HI : Hid (Tryz.prog.info? 47 = some i0) := hi
  have HZ0 : Hid (i0.zero = some (.agg #[.string ⟨#[]⟩, .string ⟨#[]⟩])) := hz0
  have HZ1 : Hid (i0.size = 2) := hz1
  have HZ2 : Hid (i0.bytes = 32) := hz2
  clear h hm hi hz0 hz1 hz2
  go_enter Tryz.func36, Tryz.ntmps36
  go_wp2_with (at_builtin; refine wpList_append_own _ rfl _ _ 24 rfl w.heap.size 47 i0 (.agg #[.string ⟨#[]⟩, .string ⟨#[]⟩]) 2 32 Tryz.underlying24 HI.out HZ0.out HZ1.out HZ2.out rfl (by decide) _ 0 [] rfl (World.ownsRow_nil _ _ _ _) ⟨b, o, none⟩ m c (cellsP L) rfl (by rw [cellsP_length, HM.out]) HH.out.news (cellsP_one L) (by unfold maxLen; omega) (by omega) (Nat.le_refl _) ?_)
  intro v' w1 hown hgrow _
  have HO : Hid (OwnsP w1 w.heap.size v' L) := by
    show OwnsP w1 w.heap.size v' L
    unfold OwnsP; rw [HM.out]; exact hown
  have HB : Hid (Below w.heap.size w w1) := (Below.refl _ _).grown hgrow (Nat.le_refl _) (fun k e => by cases e)
  clear hown hgrow
  go_wp2_with fail
  go_ret
  exact ⟨_, rfl, HO.out, HB.out⟩

/-- What put leaves: val at key. -/
def putL (f g : Nat → ByteArray) (n : Nat) (key val : ByteArray) (p : Nat) : List (ByteArray × ByteArray) :=
  (listP f g n).take p ++ [(key, val)] ++ (listP f g n).drop (if hitB f n key p = true then p + 1 else p)
/-- Where the rest of a list begins. -/
def restO (o n q : Nat) : Nat := if n = q then o else o + q * 2
theorem rest_src {w : World} {b o n : Nat} {L : List (ByteArray × ByteArray)} (h : SrcP w b o L) (hl : L.length = n) (q : Nat) (hq : q ≤ n) : SrcP w b (restO o n q) (L.drop q) := by
  unfold restO
  by_cases e : n = q
  · intro i hi
    rw [List.length_drop] at hi
    omega
  · rw [if_neg e]; exact h.drop q

set_option maxHeartbeats 1000000 in
theorem l01Put (b o n : Nat) (f g : Nat → ByteArray) (key val : ByteArray) (p : Nat) (w : World) (hn : n ≤ 4096) (hp : IsPlace f n key p) (h : Sp w (some ⟨b, o, none⟩) n f g) :
    Calls Tryz.prog 55 #[.slice (some ⟨b, o, none⟩) n n, .string key, .string val] w fun e w' => ∃ v, e = .returned v ∧ OwnsP w' w.heap.size v (putL f g n key val p) ∧ Below w.heap.size w w' := by
  obtain ⟨i0, hi, hz0, hz1, hz2⟩ := infoPair'
  have HH : Hid (Sp w (some ⟨b, o, none⟩) n f g) := h
  have HP : Hid (IsPlace f n key p) := hp
  have HI : Hid (Tryz.prog.info? 47 = some i0) := hi
  have HZ0 : Hid (i0.zero = some (.agg #[.string ⟨#[]⟩, .string ⟨#[]⟩])) := hz0
  have HZ1 : Hid (i0.size = 2) := hz1
  have HZ2 : Hid (i0.bytes = 32) := hz2
  have hpn := hp.1
  clear h hp hi hz0 hz1 hz2
  by_cases hn0 : n = 0
  · subst hn0
    have hp0 : p = 0 := by omega
    subst hp0
    have HT : Hid (hitB f 0 key 0 = false) := by show hitB f 0 key 0 = false; rfl
    have T0 : Hid (((listP f g 0).take 0).length = 0) := by show ((listP f g 0).take 0).length = 0; have := List.length_take (i := 0) (l := listP f g 0); rw [listP_length] at this; omega
    have T1 : Hid ((cellsP ((listP f g 0).take 0)).length = 0 * 2) := by show (cellsP ((listP f g 0).take 0)).length = 0 * 2; rw [cellsP_length, T0.out]
    have T2 : Hid (((listP f g 0).take 0).length = 0) := T0
    have T5 : Hid (((listP f g 0).drop 0).length = 0) := by show ((listP f g 0).drop 0).length = 0; have := List.length_drop (i := 0) (l := listP f g 0); rw [listP_length] at this; omega
    have T3 : Hid ((cellsP ((listP f g 0).drop 0)).length = 0 * 2) := by show (cellsP ((listP f g 0).drop 0)).length = 0 * 2; rw [cellsP_length, T5.out]
    have T4 : Hid (((listP f g 0).take 0 ++ [(key, val)]).length = 0 + 1) := by show ((listP f g 0).take 0 ++ [(key, val)]).length = 0 + 1; rw [List.length_append, T0.out]; rfl
    have Q1 : Hid (((listP f g 0).take 0).length + 1 ≤ maxLen) := by show ((listP f g 0).take 0).length + 1 ≤ maxLen; rw [T0.out]; unfold maxLen; omega
    have Q2 : Hid ((((listP f g 0).take 0).length + 1) * 32 ≤ 140737488355328) := by show (((listP f g 0).take 0).length + 1) * 32 ≤ 140737488355328; rw [T0.out]; omega
    have Q3 : Hid (((listP f g 0).take 0 ++ [(key, val)]).length + 0 ≤ maxLen) := by show ((listP f g 0).take 0 ++ [(key, val)]).length + 0 ≤ maxLen; rw [T4.out]; unfold maxLen; omega
    have Q4 : Hid ((((listP f g 0).take 0 ++ [(key, val)]).length + 0) * 32 ≤ 140737488355328) := by show (((listP f g 0).take 0 ++ [(key, val)]).length + 0) * 32 ≤ 140737488355328; rw [T4.out]; omega
    have S0 : Hid (SrcP w b o (listP f g 0)) := src_of HH.out
    have N1 : Hid (∀ j u, (cellsP ((listP f g 0).take 0))[j]? = some u → (w.alloc (.cells #[] 47)).cell? ((⟨b, o, none⟩ : Addr).add j) = some u) := ((S0.out.take 0).below ((Below.refl _ _).alloc (Nat.le_refl _) _)).news
    have N3 : Hid (SrcP w b o ((listP f g 0).drop 0)) := by
      have h9 := rest_src S0.out (listP_length f g 0) 0 (by omega)
      unfold restO at h9
      first | (rw [if_pos (by omega)] at h9; exact h9) | (rw [if_neg (by omega)] at h9; exact h9)
    have EL : Hid (putL f g 0 key val 0 = (listP f g 0).take 0 ++ [(key, val)] ++ (listP f g 0).drop 0) := by show putL f g 0 key val 0 = _; unfold putL; rw [HT.out]; rfl
    go_enter Tryz.func55, Tryz.ntmps55
    go_wp2_with (first | (go_at_call 93; refine (l01At _ 0 0 f g key 0 _ (by omega) HP.out HH.out).mono ?_; rintro e w' ⟨rfl, rfl⟩) | (at_builtin; refine wpList_append_own _ rfl (.tmp 41) (.tmp 42) 24 rfl w.heap.size 47 i0 (.agg #[.string ⟨#[]⟩, .string ⟨#[]⟩]) 2 32 Tryz.underlying24 HI.out HZ0.out HZ1.out HZ2.out rfl (by decide) _ _ _ rfl O2.out ⟨b, o, none⟩ 0 0 (cellsP ((listP f g 0).drop 0)) rfl T3.out (N3.out.below B2.out).news (cellsP_one _) Q3.out Q4.out B2.out.size ?_; intro v3 w3 hown3 hgrow3 _; have B3 : Hid (Below w.heap.size w w3) := B2.out.grown hgrow3 B2.out.size O2.out.block; have O3 : Hid (OwnsP w3 w.heap.size v3 ((listP f g 0).take 0 ++ [(key, val)] ++ (listP f g 0).drop 0)) := OwnsP.more T5.out hown3; clear hown3 hgrow3) | (at_builtin; refine wpList_append_own _ rfl (.tmp 36) (.tmp 40) 24 rfl w.heap.size 47 i0 (.agg #[.string ⟨#[]⟩, .string ⟨#[]⟩]) 2 32 Tryz.underlying24 HI.out HZ0.out HZ1.out HZ2.out rfl (by decide) _ _ _ rfl (O1.out.alloc _) ⟨w1.heap.size, 0, none⟩ 1 1 [.string key, .string val] rfl rfl (two_newP w1 key val) (two_oneP key val) Q1.out Q2.out (le_alloc B1.out.size _) ?_; intro v2 w2 hown2 hgrow2 _; have B2 : Hid (Below w.heap.size w w2) := (B1.out.alloc B1.out.size _).grown hgrow2 (le_alloc B1.out.size _) O1.out.block; have O2 : Hid (OwnsP w2 w.heap.size v2 ((listP f g 0).take 0 ++ [(key, val)])) := OwnsP.one hown2; clear hown2 hgrow2) | (at_builtin; refine wpList_append_own _ rfl (.tmp 32) (.tmp 35) 24 rfl w.heap.size 47 i0 (.agg #[.string ⟨#[]⟩, .string ⟨#[]⟩]) 2 32 Tryz.underlying24 HI.out HZ0.out HZ1.out HZ2.out rfl (by decide) _ 0 [] rfl (OwnsP.made w _ (Nat.le_refl _)) ⟨b, o, none⟩ 0 0 (cellsP ((listP f g 0).take 0)) rfl T1.out N1.out (cellsP_one _) (by unfold maxLen; omega) (by omega) (by simp) ?_; intro v1 w1 hown1 hgrow1 _; have B1 : Hid (Below w.heap.size w w1) := ((Below.refl _ _).alloc (Nat.le_refl _) _).grown hgrow1 (by simp) (fun k e => by cases e; exact Nat.le_refl _); have O1 : Hid (OwnsP w1 w.heap.size v1 ((listP f g 0).take 0)) := OwnsP.mk T1.out (by simpa using hown1); clear hown1 hgrow1))
    go_ret
    exact ⟨_, rfl, by rw [EL.out]; exact O3.out, B3.out⟩
  by_cases hlt : p < n
  · have hne : ¬ n = p := by omega
    have hi1 : (p : Int) < (n : Int) := by omega
    rcases HH.out with h0 | ⟨b', o', e, hc⟩
    · omega
    cases e
    obtain ⟨hc1, hc2⟩ := hc p hlt
    clear hc hc2
    cases hq : ((f p).toList == key.toList) with
    | false =>
      have HT : Hid (hitB f n key p = false) := by show hitB f n key p = false; unfold hitB; rw [hq, decide_eq_true hlt]; rfl
      have T0 : Hid (((listP f g n).take p).length = p) := by show ((listP f g n).take p).length = p; have := List.length_take (i := p) (l := listP f g n); rw [listP_length] at this; omega
      have T1 : Hid ((cellsP ((listP f g n).take p)).length = p * 2) := by show (cellsP ((listP f g n).take p)).length = p * 2; rw [cellsP_length, T0.out]
      have T2 : Hid (((listP f g n).take p).length = p) := T0
      have T5 : Hid (((listP f g n).drop p).length = (n - p)) := by show ((listP f g n).drop p).length = (n - p); have := List.length_drop (i := p) (l := listP f g n); rw [listP_length] at this; omega
      have T3 : Hid ((cellsP ((listP f g n).drop p)).length = (n - p) * 2) := by show (cellsP ((listP f g n).drop p)).length = (n - p) * 2; rw [cellsP_length, T5.out]
      have T4 : Hid (((listP f g n).take p ++ [(key, val)]).length = p + 1) := by show ((listP f g n).take p ++ [(key, val)]).length = p + 1; rw [List.length_append, T0.out]; rfl
      have Q1 : Hid (((listP f g n).take p).length + 1 ≤ maxLen) := by show ((listP f g n).take p).length + 1 ≤ maxLen; rw [T0.out]; unfold maxLen; omega
      have Q2 : Hid ((((listP f g n).take p).length + 1) * 32 ≤ 140737488355328) := by show (((listP f g n).take p).length + 1) * 32 ≤ 140737488355328; rw [T0.out]; omega
      have Q3 : Hid (((listP f g n).take p ++ [(key, val)]).length + (n - p) ≤ maxLen) := by show ((listP f g n).take p ++ [(key, val)]).length + (n - p) ≤ maxLen; rw [T4.out]; unfold maxLen; omega
      have Q4 : Hid ((((listP f g n).take p ++ [(key, val)]).length + (n - p)) * 32 ≤ 140737488355328) := by show (((listP f g n).take p ++ [(key, val)]).length + (n - p)) * 32 ≤ 140737488355328; rw [T4.out]; omega
      have S0 : Hid (SrcP w b o (listP f g n)) := src_of HH.out
      have N1 : Hid (∀ j u, (cellsP ((listP f g n).take p))[j]? = some u → (w.alloc (.cells #[] 47)).cell? ((⟨b, o, none⟩ : Addr).add j) = some u) := ((S0.out.take p).below ((Below.refl _ _).alloc (Nat.le_refl _) _)).news
      have N3 : Hid (SrcP w b (o + p * 2) ((listP f g n).drop p)) := by
        have h9 := rest_src S0.out (listP_length f g n) p (by omega)
        unfold restO at h9
        first | (rw [if_pos (by omega)] at h9; exact h9) | (rw [if_neg (by omega)] at h9; exact h9)
      have EL : Hid (putL f g n key val p = (listP f g n).take p ++ [(key, val)] ++ (listP f g n).drop p) := by show putL f g n key val p = _; unfold putL; rw [HT.out]; rfl
      go_enter Tryz.func55, Tryz.ntmps55
      go_wp2_with (first | (go_at_call 93; refine (l01At _ n n f g key p _ (by omega) HP.out HH.out).mono ?_; rintro e w' ⟨rfl, rfl⟩) | (at_builtin; refine wpList_append_own _ rfl (.tmp 41) (.tmp 42) 24 rfl w.heap.size 47 i0 (.agg #[.string ⟨#[]⟩, .string ⟨#[]⟩]) 2 32 Tryz.underlying24 HI.out HZ0.out HZ1.out HZ2.out rfl (by decide) _ _ _ rfl O2.out ⟨b, (o + p * 2), none⟩ (n - p) (n - p) (cellsP ((listP f g n).drop p)) rfl T3.out (N3.out.below B2.out).news (cellsP_one _) Q3.out Q4.out B2.out.size ?_; intro v3 w3 hown3 hgrow3 _; have B3 : Hid (Below w.heap.size w w3) := B2.out.grown hgrow3 B2.out.size O2.out.block; have O3 : Hid (OwnsP w3 w.heap.size v3 ((listP f g n).take p ++ [(key, val)] ++ (listP f g n).drop p)) := OwnsP.more T5.out hown3; clear hown3 hgrow3) | (at_builtin; refine wpList_append_own _ rfl (.tmp 36) (.tmp 40) 24 rfl w.heap.size 47 i0 (.agg #[.string ⟨#[]⟩, .string ⟨#[]⟩]) 2 32 Tryz.underlying24 HI.out HZ0.out HZ1.out HZ2.out rfl (by decide) _ _ _ rfl (O1.out.alloc _) ⟨w1.heap.size, 0, none⟩ 1 1 [.string key, .string val] rfl rfl (two_newP w1 key val) (two_oneP key val) Q1.out Q2.out (le_alloc B1.out.size _) ?_; intro v2 w2 hown2 hgrow2 _; have B2 : Hid (Below w.heap.size w w2) := (B1.out.alloc B1.out.size _).grown hgrow2 (le_alloc B1.out.size _) O1.out.block; have O2 : Hid (OwnsP w2 w.heap.size v2 ((listP f g n).take p ++ [(key, val)])) := OwnsP.one hown2; clear hown2 hgrow2) | (at_builtin; refine wpList_append_own _ rfl (.tmp 32) (.tmp 35) 24 rfl w.heap.size 47 i0 (.agg #[.string ⟨#[]⟩, .string ⟨#[]⟩]) 2 32 Tryz.underlying24 HI.out HZ0.out HZ1.out HZ2.out rfl (by decide) _ 0 [] rfl (OwnsP.made w _ (Nat.le_refl _)) ⟨b, o, none⟩ p n (cellsP ((listP f g n).take p)) rfl T1.out N1.out (cellsP_one _) (by unfold maxLen; omega) (by omega) (by simp) ?_; intro v1 w1 hown1 hgrow1 _; have B1 : Hid (Below w.heap.size w w1) := ((Below.refl _ _).alloc (Nat.le_refl _) _).grown hgrow1 (by simp) (fun k e => by cases e; exact Nat.le_refl _); have O1 : Hid (OwnsP w1 w.heap.size v1 ((listP f g n).take p)) := OwnsP.mk T1.out (by simpa using hown1); clear hown1 hgrow1))
      go_ret
      exact ⟨_, rfl, by rw [EL.out]; exact O3.out, B3.out⟩
    | true =>
      have HT : Hid (hitB f n key p = true) := by show hitB f n key p = true; unfold hitB; rw [hq, decide_eq_true hlt]; rfl
      by_cases hlast : n = p + 1
      · subst hlast
        have T0 : Hid (((listP f g (p + 1)).take p).length = p) := by show ((listP f g (p + 1)).take p).length = p; have := List.length_take (i := p) (l := listP f g (p + 1)); rw [listP_length] at this; omega
        have T1 : Hid ((cellsP ((listP f g (p + 1)).take p)).length = p * 2) := by show (cellsP ((listP f g (p + 1)).take p)).length = p * 2; rw [cellsP_length, T0.out]
        have T2 : Hid (((listP f g (p + 1)).take p).length = p) := T0
        have T5 : Hid (((listP f g (p + 1)).drop (p + 1)).length = 0) := by show ((listP f g (p + 1)).drop (p + 1)).length = 0; have := List.length_drop (i := (p + 1)) (l := listP f g (p + 1)); rw [listP_length] at this; omega
        have T3 : Hid ((cellsP ((listP f g (p + 1)).drop (p + 1))).length = 0 * 2) := by show (cellsP ((listP f g (p + 1)).drop (p + 1))).length = 0 * 2; rw [cellsP_length, T5.out]
        have T4 : Hid (((listP f g (p + 1)).take p ++ [(key, val)]).length = p + 1) := by show ((listP f g (p + 1)).take p ++ [(key, val)]).length = p + 1; rw [List.length_append, T0.out]; rfl
        have Q1 : Hid (((listP f g (p + 1)).take p).length + 1 ≤ maxLen) := by show ((listP f g (p + 1)).take p).length + 1 ≤ maxLen; rw [T0.out]; unfold maxLen; omega
        have Q2 : Hid ((((listP f g (p + 1)).take p).length + 1) * 32 ≤ 140737488355328) := by show (((listP f g (p + 1)).take p).length + 1) * 32 ≤ 140737488355328; rw [T0.out]; omega
        have Q3 : Hid (((listP f g (p + 1)).take p ++ [(key, val)]).length + 0 ≤ maxLen) := by show ((listP f g (p + 1)).take p ++ [(key, val)]).length + 0 ≤ maxLen; rw [T4.out]; unfold maxLen; omega
        have Q4 : Hid ((((listP f g (p + 1)).take p ++ [(key, val)]).length + 0) * 32 ≤ 140737488355328) := by show (((listP f g (p + 1)).take p ++ [(key, val)]).length + 0) * 32 ≤ 140737488355328; rw [T4.out]; omega
        have S0 : Hid (SrcP w b o (listP f g (p + 1))) := src_of HH.out
        have N1 : Hid (∀ j u, (cellsP ((listP f g (p + 1)).take p))[j]? = some u → (w.alloc (.cells #[] 47)).cell? ((⟨b, o, none⟩ : Addr).add j) = some u) := ((S0.out.take p).below ((Below.refl _ _).alloc (Nat.le_refl _) _)).news
        have N3 : Hid (SrcP w b o ((listP f g (p + 1)).drop (p + 1))) := by
          have h9 := rest_src S0.out (listP_length f g (p + 1)) (p + 1) (by omega)
          unfold restO at h9
          first | (rw [if_pos (by omega)] at h9; exact h9) | (rw [if_neg (by omega)] at h9; exact h9)
        have EL : Hid (putL f g (p + 1) key val p = (listP f g (p + 1)).take p ++ [(key, val)] ++ (listP f g (p + 1)).drop (p + 1)) := by show putL f g (p + 1) key val p = _; unfold putL; rw [HT.out]; rfl
        go_enter Tryz.func55, Tryz.ntmps55
        go_wp2_with (first | (go_at_call 93; refine (l01At _ (p + 1) (p + 1) f g key p _ (by omega) HP.out HH.out).mono ?_; rintro e w' ⟨rfl, rfl⟩) | (at_builtin; refine wpList_append_own _ rfl (.tmp 41) (.tmp 42) 24 rfl w.heap.size 47 i0 (.agg #[.string ⟨#[]⟩, .string ⟨#[]⟩]) 2 32 Tryz.underlying24 HI.out HZ0.out HZ1.out HZ2.out rfl (by decide) _ _ _ rfl O2.out ⟨b, o, none⟩ 0 0 (cellsP ((listP f g (p + 1)).drop (p + 1))) rfl T3.out (N3.out.below B2.out).news (cellsP_one _) Q3.out Q4.out B2.out.size ?_; intro v3 w3 hown3 hgrow3 _; have B3 : Hid (Below w.heap.size w w3) := B2.out.grown hgrow3 B2.out.size O2.out.block; have O3 : Hid (OwnsP w3 w.heap.size v3 ((listP f g (p + 1)).take p ++ [(key, val)] ++ (listP f g (p + 1)).drop (p + 1))) := OwnsP.more T5.out hown3; clear hown3 hgrow3) | (at_builtin; refine wpList_append_own _ rfl (.tmp 36) (.tmp 40) 24 rfl w.heap.size 47 i0 (.agg #[.string ⟨#[]⟩, .string ⟨#[]⟩]) 2 32 Tryz.underlying24 HI.out HZ0.out HZ1.out HZ2.out rfl (by decide) _ _ _ rfl (O1.out.alloc _) ⟨w1.heap.size, 0, none⟩ 1 1 [.string key, .string val] rfl rfl (two_newP w1 key val) (two_oneP key val) Q1.out Q2.out (le_alloc B1.out.size _) ?_; intro v2 w2 hown2 hgrow2 _; have B2 : Hid (Below w.heap.size w w2) := (B1.out.alloc B1.out.size _).grown hgrow2 (le_alloc B1.out.size _) O1.out.block; have O2 : Hid (OwnsP w2 w.heap.size v2 ((listP f g (p + 1)).take p ++ [(key, val)])) := OwnsP.one hown2; clear hown2 hgrow2) | (at_builtin; refine wpList_append_own _ rfl (.tmp 32) (.tmp 35) 24 rfl w.heap.size 47 i0 (.agg #[.string ⟨#[]⟩, .string ⟨#[]⟩]) 2 32 Tryz.underlying24 HI.out HZ0.out HZ1.out HZ2.out rfl (by decide) _ 0 [] rfl (OwnsP.made w _ (Nat.le_refl _)) ⟨b, o, none⟩ p (p + 1) (cellsP ((listP f g (p + 1)).take p)) rfl T1.out N1.out (cellsP_one _) (by unfold maxLen; omega) (by omega) (by simp) ?_; intro v1 w1 hown1 hgrow1 _; have B1 : Hid (Below w.heap.size w w1) := ((Below.refl _ _).alloc (Nat.le_refl _) _).grown hgrow1 (by simp) (fun k e => by cases e; exact Nat.le_refl _); have O1 : Hid (OwnsP w1 w.heap.size v1 ((listP f g (p + 1)).take p)) := OwnsP.mk T1.out (by simpa using hown1); clear hown1 hgrow1))
        go_ret
        exact ⟨_, rfl, by rw [EL.out]; exact O3.out, B3.out⟩
      · have hne2 : ¬ n = p + 1 := hlast
        have T0 : Hid (((listP f g n).take p).length = p) := by show ((listP f g n).take p).length = p; have := List.length_take (i := p) (l := listP f g n); rw [listP_length] at this; omega
        have T1 : Hid ((cellsP ((listP f g n).take p)).length = p * 2) := by show (cellsP ((listP f g n).take p)).length = p * 2; rw [cellsP_length, T0.out]
        have T2 : Hid (((listP f g n).take p).length = p) := T0
        have T5 : Hid (((listP f g n).drop (p + 1)).length = (n - (p + 1))) := by show ((listP f g n).drop (p + 1)).length = (n - (p + 1)); have := List.length_drop (i := (p + 1)) (l := listP f g n); rw [listP_length] at this; omega
        have T3 : Hid ((cellsP ((listP f g n).drop (p + 1))).length = (n - (p + 1)) * 2) := by show (cellsP ((listP f g n).drop (p + 1))).length = (n - (p + 1)) * 2; rw [cellsP_length, T5.out]
        have T4 : Hid (((listP f g n).take p ++ [(key, val)]).length = p + 1) := by show ((listP f g n).take p ++ [(key, val)]).length = p + 1; rw [List.length_append, T0.out]; rfl
        have Q1 : Hid (((listP f g n).take p).length + 1 ≤ maxLen) := by show ((listP f g n).take p).length + 1 ≤ maxLen; rw [T0.out]; unfold maxLen; omega
        have Q2 : Hid ((((listP f g n).take p).length + 1) * 32 ≤ 140737488355328) := by show (((listP f g n).take p).length + 1) * 32 ≤ 140737488355328; rw [T0.out]; omega
        have Q3 : Hid (((listP f g n).take p ++ [(key, val)]).length + (n - (p + 1)) ≤ maxLen) := by show ((listP f g n).take p ++ [(key, val)]).length + (n - (p + 1)) ≤ maxLen; rw [T4.out]; unfold maxLen; omega
        have Q4 : Hid ((((listP f g n).take p ++ [(key, val)]).length + (n - (p + 1))) * 32 ≤ 140737488355328) := by show (((listP f g n).take p ++ [(key, val)]).length + (n - (p + 1))) * 32 ≤ 140737488355328; rw [T4.out]; omega
        have S0 : Hid (SrcP w b o (listP f g n)) := src_of HH.out
        have N1 : Hid (∀ j u, (cellsP ((listP f g n).take p))[j]? = some u → (w.alloc (.cells #[] 47)).cell? ((⟨b, o, none⟩ : Addr).add j) = some u) := ((S0.out.take p).below ((Below.refl _ _).alloc (Nat.le_refl _) _)).news
        have N3 : Hid (SrcP w b (o + (p + 1) * 2) ((listP f g n).drop (p + 1))) := by
          have h9 := rest_src S0.out (listP_length f g n) (p + 1) (by omega)
          unfold restO at h9
          first | (rw [if_pos (by omega)] at h9; exact h9) | (rw [if_neg (by omega)] at h9; exact h9)
        have EL : Hid (putL f g n key val p = (listP f g n).take p ++ [(key, val)] ++ (listP f g n).drop (p + 1)) := by show putL f g n key val p = _; unfold putL; rw [HT.out]; rfl
        go_enter Tryz.func55, Tryz.ntmps55
        go_wp2_with (first | (go_at_call 93; refine (l01At _ n n f g key p _ (by omega) HP.out HH.out).mono ?_; rintro e w' ⟨rfl, rfl⟩) | (at_builtin; refine wpList_append_own _ rfl (.tmp 41) (.tmp 42) 24 rfl w.heap.size 47 i0 (.agg #[.string ⟨#[]⟩, .string ⟨#[]⟩]) 2 32 Tryz.underlying24 HI.out HZ0.out HZ1.out HZ2.out rfl (by decide) _ _ _ rfl O2.out ⟨b, (o + (p + 1) * 2), none⟩ (n - (p + 1)) (n - (p + 1)) (cellsP ((listP f g n).drop (p + 1))) rfl T3.out (N3.out.below B2.out).news (cellsP_one _) Q3.out Q4.out B2.out.size ?_; intro v3 w3 hown3 hgrow3 _; have B3 : Hid (Below w.heap.size w w3) := B2.out.grown hgrow3 B2.out.size O2.out.block; have O3 : Hid (OwnsP w3 w.heap.size v3 ((listP f g n).take p ++ [(key, val)] ++ (listP f g n).drop (p + 1))) := OwnsP.more T5.out hown3; clear hown3 hgrow3) | (at_builtin; refine wpList_append_own _ rfl (.tmp 36) (.tmp 40) 24 rfl w.heap.size 47 i0 (.agg #[.string ⟨#[]⟩, .string ⟨#[]⟩]) 2 32 Tryz.underlying24 HI.out HZ0.out HZ1.out HZ2.out rfl (by decide) _ _ _ rfl (O1.out.alloc _) ⟨w1.heap.size, 0, none⟩ 1 1 [.string key, .string val] rfl rfl (two_newP w1 key val) (two_oneP key val) Q1.out Q2.out (le_alloc B1.out.size _) ?_; intro v2 w2 hown2 hgrow2 _; have B2 : Hid (Below w.heap.size w w2) := (B1.out.alloc B1.out.size _).grown hgrow2 (le_alloc B1.out.size _) O1.out.block; have O2 : Hid (OwnsP w2 w.heap.size v2 ((listP f g n).take p ++ [(key, val)])) := OwnsP.one hown2; clear hown2 hgrow2) | (at_builtin; refine wpList_append_own _ rfl (.tmp 32) (.tmp 35) 24 rfl w.heap.size 47 i0 (.agg #[.string ⟨#[]⟩, .string ⟨#[]⟩]) 2 32 Tryz.underlying24 HI.out HZ0.out HZ1.out HZ2.out rfl (by decide) _ 0 [] rfl (OwnsP.made w _ (Nat.le_refl _)) ⟨b, o, none⟩ p n (cellsP ((listP f g n).take p)) rfl T1.out N1.out (cellsP_one _) (by unfold maxLen; omega) (by omega) (by simp) ?_; intro v1 w1 hown1 hgrow1 _; have B1 : Hid (Below w.heap.size w w1) := ((Below.refl _ _).alloc (Nat.le_refl _) _).grown hgrow1 (by simp) (fun k e => by cases e; exact Nat.le_refl _); have O1 : Hid (OwnsP w1 w.heap.size v1 ((listP f g n).take p)) := OwnsP.mk T1.out (by simpa using hown1); clear hown1 hgrow1))
        go_ret
        exact ⟨_, rfl, by rw [EL.out]; exact O3.out, B3.out⟩
  · have hpe : p = n := by omega
    subst hpe
    clear hlt
    have HT : Hid (hitB f p key p = false) := by show hitB f p key p = false; unfold hitB; rw [decide_eq_false (by omega)]; rfl
    have T0 : Hid (((listP f g p).take p).length = p) := by show ((listP f g p).take p).length = p; have := List.length_take (i := p) (l := listP f g p); rw [listP_length] at this; omega
    have T1 : Hid ((cellsP ((listP f g p).take p)).length = p * 2) := by show (cellsP ((listP f g p).take p)).length = p * 2; rw [cellsP_length, T0.out]
    have T2 : Hid (((listP f g p).take p).length = p) := T0
    have T5 : Hid (((listP f g p).drop p).length = 0) := by show ((listP f g p).drop p).length = 0; have := List.length_drop (i := p) (l := listP f g p); rw [listP_length] at this; omega
    have T3 : Hid ((cellsP ((listP f g p).drop p)).length = 0 * 2) := by show (cellsP ((listP f g p).drop p)).length = 0 * 2; rw [cellsP_length, T5.out]
    have T4 : Hid (((listP f g p).take p ++ [(key, val)]).length = p + 1) := by show ((listP f g p).take p ++ [(key, val)]).length = p + 1; rw [List.length_append, T0.out]; rfl
    have Q1 : Hid (((listP f g p).take p).length + 1 ≤ maxLen) := by show ((listP f g p).take p).length + 1 ≤ maxLen; rw [T0.out]; unfold maxLen; omega
    have Q2 : Hid ((((listP f g p).take p).length + 1) * 32 ≤ 140737488355328) := by show (((listP f g p).take p).length + 1) * 32 ≤ 140737488355328; rw [T0.out]; omega
    have Q3 : Hid (((listP f g p).take p ++ [(key, val)]).length + 0 ≤ maxLen) := by show ((listP f g p).take p ++ [(key, val)]).length + 0 ≤ maxLen; rw [T4.out]; unfold maxLen; omega
    have Q4 : Hid ((((listP f g p).take p ++ [(key, val)]).length + 0) * 32 ≤ 140737488355328) := by show (((listP f g p).take p ++ [(key, val)]).length + 0) * 32 ≤ 140737488355328; rw [T4.out]; omega
    have S0 : Hid (SrcP w b o (listP f g p)) := src_of HH.out
    have N1 : Hid (∀ j u, (cellsP ((listP f g p).take p))[j]? = some u → (w.alloc (.cells #[] 47)).cell? ((⟨b, o, none⟩ : Addr).add j) = some u) := ((S0.out.take p).below ((Below.refl _ _).alloc (Nat.le_refl _) _)).news
    have N3 : Hid (SrcP w b o ((listP f g p).drop p)) := by
      have h9 := rest_src S0.out (listP_length f g p) p (by omega)
      unfold restO at h9
      first | (rw [if_pos (by omega)] at h9; exact h9) | (rw [if_neg (by omega)] at h9; exact h9)
    have EL : Hid (putL f g p key val p = (listP f g p).take p ++ [(key, val)] ++ (listP f g p).drop p) := by show putL f g p key val p = _; unfold putL; rw [HT.out]; rfl
    go_enter Tryz.func55, Tryz.ntmps55
    go_wp2_with (first | (go_at_call 93; refine (l01At _ p p f g key p _ (by omega) HP.out HH.out).mono ?_; rintro e w' ⟨rfl, rfl⟩) | (at_builtin; refine wpList_append_own _ rfl (.tmp 41) (.tmp 42) 24 rfl w.heap.size 47 i0 (.agg #[.string ⟨#[]⟩, .string ⟨#[]⟩]) 2 32 Tryz.underlying24 HI.out HZ0.out HZ1.out HZ2.out rfl (by decide) _ _ _ rfl O2.out ⟨b, o, none⟩ 0 0 (cellsP ((listP f g p).drop p)) rfl T3.out (N3.out.below B2.out).news (cellsP_one _) Q3.out Q4.out B2.out.size ?_; intro v3 w3 hown3 hgrow3 _; have B3 : Hid (Below w.heap.size w w3) := B2.out.grown hgrow3 B2.out.size O2.out.block; have O3 : Hid (OwnsP w3 w.heap.size v3 ((listP f g p).take p ++ [(key, val)] ++ (listP f g p).drop p)) := OwnsP.more T5.out hown3; clear hown3 hgrow3) | (at_builtin; refine wpList_append_own _ rfl (.tmp 36) (.tmp 40) 24 rfl w.heap.size 47 i0 (.agg #[.string ⟨#[]⟩, .string ⟨#[]⟩]) 2 32 Tryz.underlying24 HI.out HZ0.out HZ1.out HZ2.out rfl (by decide) _ _ _ rfl (O1.out.alloc _) ⟨w1.heap.size, 0, none⟩ 1 1 [.string key, .string val] rfl rfl (two_newP w1 key val) (two_oneP key val) Q1.out Q2.out (le_alloc B1.out.size _) ?_; intro v2 w2 hown2 hgrow2 _; have B2 : Hid (Below w.heap.size w w2) := (B1.out.alloc B1.out.size _).grown hgrow2 (le_alloc B1.out.size _) O1.out.block; have O2 : Hid (OwnsP w2 w.heap.size v2 ((listP f g p).take p ++ [(key, val)])) := OwnsP.one hown2; clear hown2 hgrow2) | (at_builtin; refine wpList_append_own _ rfl (.tmp 32) (.tmp 35) 24 rfl w.heap.size 47 i0 (.agg #[.string ⟨#[]⟩, .string ⟨#[]⟩]) 2 32 Tryz.underlying24 HI.out HZ0.out HZ1.out HZ2.out rfl (by decide) _ 0 [] rfl (OwnsP.made w _ (Nat.le_refl _)) ⟨b, o, none⟩ p p (cellsP ((listP f g p).take p)) rfl T1.out N1.out (cellsP_one _) (by unfold maxLen; omega) (by omega) (by simp) ?_; intro v1 w1 hown1 hgrow1 _; have B1 : Hid (Below w.heap.size w w1) := ((Below.refl _ _).alloc (Nat.le_refl _) _).grown hgrow1 (by simp) (fun k e => by cases e; exact Nat.le_refl _); have O1 : Hid (OwnsP w1 w.heap.size v1 ((listP f g p).take p)) := OwnsP.mk T1.out (by simpa using hown1); clear hown1 hgrow1))
    go_ret
    exact ⟨_, rfl, by rw [EL.out]; exact O3.out, B3.out⟩
end Go.Proofs.YtbpgncgmolpkiaaGreatDoor
namespace Go.Proofs.YtbpgncgmolpkiaaGreatDoor
open Go.ChangeShapes Go.WideShapes Go.ChangeAt Go.RowKit Go.Deep
set_option linter.unusedVariables false
set_option maxRecDepth 100000

set_option maxHeartbeats 1000000 in
theorem l01PutC (b o n c : Nat) (f g : Nat → ByteArray) (key val : ByteArray) (p : Nat) (w : World) (hn : n ≤ 4096) (hc : n ≤ c) (hc9 : c ≤ maxLen) (hp : IsPlace f n key p) (h : Sp w (some ⟨b, o, none⟩) n f g) :
    Calls Tryz.prog 55 #[.slice (some ⟨b, o, none⟩) n c, .string key, .string val] w fun e w' => ∃ v, e = .returned v ∧ OwnsP w' w.heap.size v (putL f g n key val p) ∧ Below w.heap.size w w' := by
  by_cases hcn : c = n
  · subst hcn
    exact l01Put b o c f g key val p w hn hp h
  obtain ⟨i0, hi, hz0, hz1, hz2⟩ := infoPair'
  have HH : Hid (Sp w (some ⟨b, o, none⟩) n f g) := h
  have HP : Hid (IsPlace f n key p) := hp
  have HI : Hid (Tryz.prog.info? 47 = some i0) := hi
  have HZ0 : Hid (i0.zero = some (.agg #[.string ⟨#[]⟩, .string ⟨#[]⟩])) := hz0
  have HZ1 : Hid (i0.size = 2) := hz1
  have HZ2 : Hid (i0.bytes = 32) := hz2
  have hpn := hp.1
  have hlt9 : n < c := by omega
  unfold maxLen at hc9
  clear h hp hi hz0 hz1 hz2 hcn hc
  by_cases hlt : p < n
  · have hne : ¬ c = p := by omega
    have hi1 : (p : Int) < (n : Int) := by omega
    rcases HH.out with h0 | ⟨b', o', e, hc⟩
    · omega
    cases e
    obtain ⟨hc1, hc2⟩ := hc p hlt
    clear hc hc2
    cases hq : ((f p).toList == key.toList) with
    | false =>
      have HT : Hid (hitB f n key p = false) := by show hitB f n key p = false; unfold hitB; rw [hq, decide_eq_true hlt]; rfl
      have T0 : Hid (((listP f g n).take p).length = p) := by show ((listP f g n).take p).length = p; have := List.length_take (i := p) (l := listP f g n); rw [listP_length] at this; omega
      have T1 : Hid ((cellsP ((listP f g n).take p)).length = p * 2) := by show (cellsP ((listP f g n).take p)).length = p * 2; rw [cellsP_length, T0.out]
      have T5 : Hid (((listP f g n).drop p).length = (n - p)) := by show ((listP f g n).drop p).length = (n - p); have := List.length_drop (i := p) (l := listP f g n); rw [listP_length] at this; omega
      have T3 : Hid ((cellsP ((listP f g n).drop p)).length = (n - p) * 2) := by show (cellsP ((listP f g n).drop p)).length = (n - p) * 2; rw [cellsP_length, T5.out]
      have T4 : Hid (((listP f g n).take p ++ [(key, val)]).length = p + 1) := by show ((listP f g n).take p ++ [(key, val)]).length = p + 1; rw [List.length_append, T0.out]; rfl
      have Q1 : Hid (((listP f g n).take p).length + 1 ≤ maxLen) := by show ((listP f g n).take p).length + 1 ≤ maxLen; rw [T0.out]; unfold maxLen; omega
      have Q2 : Hid ((((listP f g n).take p).length + 1) * 32 ≤ 140737488355328) := by show (((listP f g n).take p).length + 1) * 32 ≤ 140737488355328; rw [T0.out]; omega
      have Q3 : Hid (((listP f g n).take p ++ [(key, val)]).length + (n - p) ≤ maxLen) := by show ((listP f g n).take p ++ [(key, val)]).length + (n - p) ≤ maxLen; rw [T4.out]; unfold maxLen; omega
      have Q4 : Hid ((((listP f g n).take p ++ [(key, val)]).length + (n - p)) * 32 ≤ 140737488355328) := by show (((listP f g n).take p ++ [(key, val)]).length + (n - p)) * 32 ≤ 140737488355328; rw [T4.out]; omega
      have S0 : Hid (SrcP w b o (listP f g n)) := src_of HH.out
      have N1 : Hid (∀ j u, (cellsP ((listP f g n).take p))[j]? = some u → (w.alloc (.cells #[] 47)).cell? ((⟨b, o, none⟩ : Addr).add j) = some u) := ((S0.out.take p).below ((Below.refl _ _).alloc (Nat.le_refl _) _)).news
      have N3 : Hid (SrcP w b (o + p * 2) ((listP f g n).drop p)) := S0.out.drop p
      have EL : Hid (putL f g n key val p = (listP f g n).take p ++ [(key, val)] ++ (listP f g n).drop p) := by show putL f g n key val p = _; unfold putL; rw [HT.out]; rfl
      go_enter Tryz.func55, Tryz.ntmps55
      go_wp2_with (first | (go_at_call 93; refine (l01At _ n c f g key p _ (by omega) HP.out HH.out).mono ?_; rintro e w' ⟨rfl, rfl⟩) | (at_builtin; refine wpList_append_own _ rfl (.tmp 41) (.tmp 42) 24 rfl w.heap.size 47 i0 (.agg #[.string ⟨#[]⟩, .string ⟨#[]⟩]) 2 32 Tryz.underlying24 HI.out HZ0.out HZ1.out HZ2.out rfl (by decide) _ _ _ rfl O2.out ⟨b, o + p * 2, none⟩ ((n - p)) (c - p) (cellsP ((listP f g n).drop p)) rfl T3.out (N3.out.below B2.out).news (cellsP_one _) Q3.out Q4.out B2.out.size ?_; intro v3 w3 hown3 hgrow3 _; have B3 : Hid (Below w.heap.size w w3) := B2.out.grown hgrow3 B2.out.size O2.out.block; have O3 : Hid (OwnsP w3 w.heap.size v3 ((listP f g n).take p ++ [(key, val)] ++ (listP f g n).drop p)) := OwnsP.more T5.out hown3; clear hown3 hgrow3) | (at_builtin; refine wpList_append_own _ rfl (.tmp 36) (.tmp 40) 24 rfl w.heap.size 47 i0 (.agg #[.string ⟨#[]⟩, .string ⟨#[]⟩]) 2 32 Tryz.underlying24 HI.out HZ0.out HZ1.out HZ2.out rfl (by decide) _ _ _ rfl (O1.out.alloc _) ⟨w1.heap.size, 0, none⟩ 1 1 [.string key, .string val] rfl rfl (two_newP w1 key val) (two_oneP key val) Q1.out Q2.out (le_alloc B1.out.size _) ?_; intro v2 w2 hown2 hgrow2 _; have B2 : Hid (Below w.heap.size w w2) := (B1.out.alloc B1.out.size _).grown hgrow2 (le_alloc B1.out.size _) O1.out.block; have O2 : Hid (OwnsP w2 w.heap.size v2 ((listP f g n).take p ++ [(key, val)])) := OwnsP.one hown2; clear hown2 hgrow2) | (at_builtin; refine wpList_append_own _ rfl (.tmp 32) (.tmp 35) 24 rfl w.heap.size 47 i0 (.agg #[.string ⟨#[]⟩, .string ⟨#[]⟩]) 2 32 Tryz.underlying24 HI.out HZ0.out HZ1.out HZ2.out rfl (by decide) _ 0 [] rfl (OwnsP.made w _ (Nat.le_refl _)) ⟨b, o, none⟩ p c (cellsP ((listP f g n).take p)) rfl T1.out N1.out (cellsP_one _) (by unfold maxLen; omega) (by omega) (by simp) ?_; intro v1 w1 hown1 hgrow1 _; have B1 : Hid (Below w.heap.size w w1) := ((Below.refl _ _).alloc (Nat.le_refl _) _).grown hgrow1 (by simp) (fun k e => by cases e; exact Nat.le_refl _); have O1 : Hid (OwnsP w1 w.heap.size v1 ((listP f g n).take p)) := OwnsP.mk T1.out (by simpa using hown1); clear hown1 hgrow1))
      go_ret
      exact ⟨_, rfl, by rw [EL.out]; exact O3.out, B3.out⟩
    | true =>
      have HT : Hid (hitB f n key p = true) := by show hitB f n key p = true; unfold hitB; rw [hq, decide_eq_true hlt]; rfl
      have hne2 : ¬ c = p + 1 := by omega
      have T0 : Hid (((listP f g n).take p).length = p) := by show ((listP f g n).take p).length = p; have := List.length_take (i := p) (l := listP f g n); rw [listP_length] at this; omega
      have T1 : Hid ((cellsP ((listP f g n).take p)).length = p * 2) := by show (cellsP ((listP f g n).take p)).length = p * 2; rw [cellsP_length, T0.out]
      have T5 : Hid (((listP f g n).drop (p + 1)).length = (n - (p + 1))) := by show ((listP f g n).drop (p + 1)).length = (n - (p + 1)); have := List.length_drop (i := (p + 1)) (l := listP f g n); rw [listP_length] at this; omega
      have T3 : Hid ((cellsP ((listP f g n).drop (p + 1))).length = (n - (p + 1)) * 2) := by show (cellsP ((listP f g n).drop (p + 1))).length = (n - (p + 1)) * 2; rw [cellsP_length, T5.out]
      have T4 : Hid (((listP f g n).take p ++ [(key, val)]).length = p + 1) := by show ((listP f g n).take p ++ [(key, val)]).length = p + 1; rw [List.length_append, T0.out]; rfl
      have Q1 : Hid (((listP f g n).take p).length + 1 ≤ maxLen) := by show ((listP f g n).take p).length + 1 ≤ maxLen; rw [T0.out]; unfold maxLen; omega
      have Q2 : Hid ((((listP f g n).take p).length + 1) * 32 ≤ 140737488355328) := by show (((listP f g n).take p).length + 1) * 32 ≤ 140737488355328; rw [T0.out]; omega
      have Q3 : Hid (((listP f g n).take p ++ [(key, val)]).length + (n - (p + 1)) ≤ maxLen) := by show ((listP f g n).take p ++ [(key, val)]).length + (n - (p + 1)) ≤ maxLen; rw [T4.out]; unfold maxLen; omega
      have Q4 : Hid ((((listP f g n).take p ++ [(key, val)]).length + (n - (p + 1))) * 32 ≤ 140737488355328) := by show (((listP f g n).take p ++ [(key, val)]).length + (n - (p + 1))) * 32 ≤ 140737488355328; rw [T4.out]; omega
      have S0 : Hid (SrcP w b o (listP f g n)) := src_of HH.out
      have N1 : Hid (∀ j u, (cellsP ((listP f g n).take p))[j]? = some u → (w.alloc (.cells #[] 47)).cell? ((⟨b, o, none⟩ : Addr).add j) = some u) := ((S0.out.take p).below ((Below.refl _ _).alloc (Nat.le_refl _) _)).news
      have N3 : Hid (SrcP w b (o + (p + 1) * 2) ((listP f g n).drop (p + 1))) := S0.out.drop (p + 1)
      have EL : Hid (putL f g n key val p = (listP f g n).take p ++ [(key, val)] ++ (listP f g n).drop (p + 1)) := by show putL f g n key val p = _; unfold putL; rw [HT.out]; rfl
      go_enter Tryz.func55, Tryz.ntmps55
      go_wp2_with (first | (go_at_call 93; refine (l01At _ n c f g key p _ (by omega) HP.out HH.out).mono ?_; rintro e w' ⟨rfl, rfl⟩) | (at_builtin; refine wpList_append_own _ rfl (.tmp 41) (.tmp 42) 24 rfl w.heap.size 47 i0 (.agg #[.string ⟨#[]⟩, .string ⟨#[]⟩]) 2 32 Tryz.underlying24 HI.out HZ0.out HZ1.out HZ2.out rfl (by decide) _ _ _ rfl O2.out ⟨b, o + (p + 1) * 2, none⟩ ((n - (p + 1))) (c - (p + 1)) (cellsP ((listP f g n).drop (p + 1))) rfl T3.out (N3.out.below B2.out).news (cellsP_one _) Q3.out Q4.out B2.out.size ?_; intro v3 w3 hown3 hgrow3 _; have B3 : Hid (Below w.heap.size w w3) := B2.out.grown hgrow3 B2.out.size O2.out.block; have O3 : Hid (OwnsP w3 w.heap.size v3 ((listP f g n).take p ++ [(key, val)] ++ (listP f g n).drop (p + 1))) := OwnsP.more T5.out hown3; clear hown3 hgrow3) | (at_builtin; refine wpList_append_own _ rfl (.tmp 36) (.tmp 40) 24 rfl w.heap.size 47 i0 (.agg #[.string ⟨#[]⟩, .string ⟨#[]⟩]) 2 32 Tryz.underlying24 HI.out HZ0.out HZ1.out HZ2.out rfl (by decide) _ _ _ rfl (O1.out.alloc _) ⟨w1.heap.size, 0, none⟩ 1 1 [.string key, .string val] rfl rfl (two_newP w1 key val) (two_oneP key val) Q1.out Q2.out (le_alloc B1.out.size _) ?_; intro v2 w2 hown2 hgrow2 _; have B2 : Hid (Below w.heap.size w w2) := (B1.out.alloc B1.out.size _).grown hgrow2 (le_alloc B1.out.size _) O1.out.block; have O2 : Hid (OwnsP w2 w.heap.size v2 ((listP f g n).take p ++ [(key, val)])) := OwnsP.one hown2; clear hown2 hgrow2) | (at_builtin; refine wpList_append_own _ rfl (.tmp 32) (.tmp 35) 24 rfl w.heap.size 47 i0 (.agg #[.string ⟨#[]⟩, .string ⟨#[]⟩]) 2 32 Tryz.underlying24 HI.out HZ0.out HZ1.out HZ2.out rfl (by decide) _ 0 [] rfl (OwnsP.made w _ (Nat.le_refl _)) ⟨b, o, none⟩ p c (cellsP ((listP f g n).take p)) rfl T1.out N1.out (cellsP_one _) (by unfold maxLen; omega) (by omega) (by simp) ?_; intro v1 w1 hown1 hgrow1 _; have B1 : Hid (Below w.heap.size w w1) := ((Below.refl _ _).alloc (Nat.le_refl _) _).grown hgrow1 (by simp) (fun k e => by cases e; exact Nat.le_refl _); have O1 : Hid (OwnsP w1 w.heap.size v1 ((listP f g n).take p)) := OwnsP.mk T1.out (by simpa using hown1); clear hown1 hgrow1))
      go_ret
      exact ⟨_, rfl, by rw [EL.out]; exact O3.out, B3.out⟩
  · have hpe : p = n := by omega
    subst hpe
    clear hlt
    have hne : ¬ c = p := by omega
    have HT : Hid (hitB f p key p = false) := by show hitB f p key p = false; unfold hitB; rw [decide_eq_false (by omega)]; rfl
    have T0 : Hid (((listP f g p).take p).length = p) := by show ((listP f g p).take p).length = p; have := List.length_take (i := p) (l := listP f g p); rw [listP_length] at this; omega
    have T1 : Hid ((cellsP ((listP f g p).take p)).length = p * 2) := by show (cellsP ((listP f g p).take p)).length = p * 2; rw [cellsP_length, T0.out]
    have T5 : Hid (((listP f g p).drop p).length = 0) := by show ((listP f g p).drop p).length = 0; have := List.length_drop (i := p) (l := listP f g p); rw [listP_length] at this; omega
    have T3 : Hid ((cellsP ((listP f g p).drop p)).length = 0 * 2) := by show (cellsP ((listP f g p).drop p)).length = 0 * 2; rw [cellsP_length, T5.out]
    have T4 : Hid (((listP f g p).take p ++ [(key, val)]).length = p + 1) := by show ((listP f g p).take p ++ [(key, val)]).length = p + 1; rw [List.length_append, T0.out]; rfl
    have Q1 : Hid (((listP f g p).take p).length + 1 ≤ maxLen) := by show ((listP f g p).take p).length + 1 ≤ maxLen; rw [T0.out]; unfold maxLen; omega
    have Q2 : Hid ((((listP f g p).take p).length + 1) * 32 ≤ 140737488355328) := by show (((listP f g p).take p).length + 1) * 32 ≤ 140737488355328; rw [T0.out]; omega
    have Q3 : Hid (((listP f g p).take p ++ [(key, val)]).length + 0 ≤ maxLen) := by show ((listP f g p).take p ++ [(key, val)]).length + 0 ≤ maxLen; rw [T4.out]; unfold maxLen; omega
    have Q4 : Hid ((((listP f g p).take p ++ [(key, val)]).length + 0) * 32 ≤ 140737488355328) := by show (((listP f g p).take p ++ [(key, val)]).length + 0) * 32 ≤ 140737488355328; rw [T4.out]; omega
    have S0 : Hid (SrcP w b o (listP f g p)) := src_of HH.out
    have N1 : Hid (∀ j u, (cellsP ((listP f g p).take p))[j]? = some u → (w.alloc (.cells #[] 47)).cell? ((⟨b, o, none⟩ : Addr).add j) = some u) := ((S0.out.take p).below ((Below.refl _ _).alloc (Nat.le_refl _) _)).news
    have N3 : Hid (SrcP w b (o + p * 2) ((listP f g p).drop p)) := S0.out.drop p
    have EL : Hid (putL f g p key val p = (listP f g p).take p ++ [(key, val)] ++ (listP f g p).drop p) := by show putL f g p key val p = _; unfold putL; rw [HT.out]; rfl
    go_enter Tryz.func55, Tryz.ntmps55
    go_wp2_with (first | (go_at_call 93; refine (l01At _ p c f g key p _ (by omega) HP.out HH.out).mono ?_; rintro e w' ⟨rfl, rfl⟩) | (at_builtin; refine wpList_append_own _ rfl (.tmp 41) (.tmp 42) 24 rfl w.heap.size 47 i0 (.agg #[.string ⟨#[]⟩, .string ⟨#[]⟩]) 2 32 Tryz.underlying24 HI.out HZ0.out HZ1.out HZ2.out rfl (by decide) _ _ _ rfl O2.out ⟨b, o + p * 2, none⟩ (0) (c - p) (cellsP ((listP f g p).drop p)) rfl T3.out (N3.out.below B2.out).news (cellsP_one _) Q3.out Q4.out B2.out.size ?_; intro v3 w3 hown3 hgrow3 _; have B3 : Hid (Below w.heap.size w w3) := B2.out.grown hgrow3 B2.out.size O2.out.block; have O3 : Hid (OwnsP w3 w.heap.size v3 ((listP f g p).take p ++ [(key, val)] ++ (listP f g p).drop p)) := OwnsP.more T5.out hown3; clear hown3 hgrow3) | (at_builtin; refine wpList_append_own _ rfl (.tmp 36) (.tmp 40) 24 rfl w.heap.size 47 i0 (.agg #[.string ⟨#[]⟩, .string ⟨#[]⟩]) 2 32 Tryz.underlying24 HI.out HZ0.out HZ1.out HZ2.out rfl (by decide) _ _ _ rfl (O1.out.alloc _) ⟨w1.heap.size, 0, none⟩ 1 1 [.string key, .string val] rfl rfl (two_newP w1 key val) (two_oneP key val) Q1.out Q2.out (le_alloc B1.out.size _) ?_; intro v2 w2 hown2 hgrow2 _; have B2 : Hid (Below w.heap.size w w2) := (B1.out.alloc B1.out.size _).grown hgrow2 (le_alloc B1.out.size _) O1.out.block; have O2 : Hid (OwnsP w2 w.heap.size v2 ((listP f g p).take p ++ [(key, val)])) := OwnsP.one hown2; clear hown2 hgrow2) | (at_builtin; refine wpList_append_own _ rfl (.tmp 32) (.tmp 35) 24 rfl w.heap.size 47 i0 (.agg #[.string ⟨#[]⟩, .string ⟨#[]⟩]) 2 32 Tryz.underlying24 HI.out HZ0.out HZ1.out HZ2.out rfl (by decide) _ 0 [] rfl (OwnsP.made w _ (Nat.le_refl _)) ⟨b, o, none⟩ p c (cellsP ((listP f g p).take p)) rfl T1.out N1.out (cellsP_one _) (by unfold maxLen; omega) (by omega) (by simp) ?_; intro v1 w1 hown1 hgrow1 _; have B1 : Hid (Below w.heap.size w w1) := ((Below.refl _ _).alloc (Nat.le_refl _) _).grown hgrow1 (by simp) (fun k e => by cases e; exact Nat.le_refl _); have O1 : Hid (OwnsP w1 w.heap.size v1 ((listP f g p).take p)) := OwnsP.mk T1.out (by simpa using hown1); clear hown1 hgrow1))
    go_ret
    exact ⟨_, rfl, by rw [EL.out]; exact O3.out, B3.out⟩
end Go.Proofs.YtbpgncgmolpkiaaGreatDoor
namespace Go.Proofs.YtbpgncgmolpkiaaGreatDoor
open Go.ChangeShapes Go.WideShapes Go.ChangeAt Go.RowKit Go.Deep Go.Lib
set_option linter.unusedVariables false
set_option linter.unusedSimpArgs false
set_option maxRecDepth 100000

def ownerG : List (List UInt8) → Option ByteArray
  | [a, b] => if a = [117] then some (bs b) else none
  | [a, b, _] => if a = [102] then some (bs b) else none
  | [a, b, _, _] => if a = [109] then some (bs b) else none
  | _ => none
def ownerM (p : PM) : Option ByteArray := ownerG (splitL 47 p.1.data.toList)
theorem take_other {nx : Int} {u : ByteArray} {S : SM} {p : PM} {G : List (List UInt8)} (h : ownerG G ≠ some u) : takeP nx u S p G = asideM S p := by
  match G, h with
  | [], _ => rfl
  | [_], _ => rfl
  | [a, b], h => exact if_neg fun h9 => h (by show (if a = [117] then _ else _) = _; rw [if_pos h9.2, h9.1])
  | [a, b, c], h => exact if_neg fun h9 => h (by show (if a = [102] then _ else _) = _; rw [if_pos h9.2, h9.1])
  | [a, b, c, d], h => exact if_neg fun h9 => h (by show (if a = [109] then _ else _) = _; rw [if_pos h9.2, h9.1])
  | _ :: _ :: _ :: _ :: _ :: _, _ => rfl
theorem put_aside {S S' : SM} {o : Option FM} (h : putM S o = some S') : S'.aside = S.aside ∧ S'.word = S.word := by
  unfold putM at h
  obtain ⟨g, rfl, rfl⟩ := Option.map_eq_some_iff.1 h
  exact ⟨rfl, rfl⟩
theorem ite_some {α : Type} {c : Prop} [Decidable c] {x y : α} (h : (if c then some x else none) = some y) : c ∧ x = y := by
  split at h
  · cases h; exact ⟨by assumption, rfl⟩
  · cases h
theorem take_own {nx : Int} {u : ByteArray} {S S' : SM} {p : PM} {G : List (List UInt8)} (h : ownerG G = some u) (hs : takeP nx u S p G = some S') : S'.aside = S.aside := by
  match G, h, hs with
  | [], h, _ => cases h
  | [_], h, _ => cases h
  | [a, b], h, hs =>
    obtain ⟨h1, h2⟩ := ite_some h
    have h3 : takeP nx u S p [a, b] = userM u S p.2 := if_pos ⟨h2, h1⟩
    rw [h3] at hs
    unfold userM at hs
    split at hs
    · cases hs; rfl
    · cases hs
  | [a, b, c], h, hs =>
    obtain ⟨h1, h2⟩ := ite_some h
    have h3 : takeP nx u S p [a, b, c] = putM S (folderM nx (bs c) p.2) := if_pos ⟨h2, h1⟩
    rw [h3] at hs
    exact (put_aside hs).1
  | [a, b, c, d], h, hs =>
    obtain ⟨h1, h2⟩ := ite_some h
    have h3 : takeP nx u S p [a, b, c, d] = putM S (mailM S.fs (bs c) (bs d) p.2) := if_pos ⟨h2, h1⟩
    rw [h3] at hs
    exact (put_aside hs).1
  | _ :: _ :: _ :: _ :: _ :: _, h, _ => cases h
abbrev isOwn (u : ByteArray) (p : PM) : Bool := decide (ownerM p = some u)
theorem all_aside {nx : Int} {u : ByteArray} : ∀ {L : List PM} {S S' : SM}, takeAll nx u S L = some S' → S'.aside = S.aside ++ L.filter fun p => !isOwn u p
  | [], S, S', h => by cases h; simp
  | p :: L, S, S', h => by
    unfold takeAll at h
    obtain ⟨S1, h1, h2⟩ := Option.bind_eq_some_iff.1 h
    have ih := all_aside h2
    by_cases ho : ownerM p = some u
    · have h3 : S1.aside = S.aside := take_own ho h1
      rw [ih, h3, List.filter_cons_of_neg (by simp [isOwn, ho])]
    · have h3 : asideM S p = some S1 := (take_other ho).symm.trans h1
      cases h3
      rw [ih, List.filter_cons_of_pos (by simp [isOwn, ho])]
      simp
theorem len_split {α : Type} (f : α → Bool) : ∀ L : List α, (L.filter f).length + (L.filter fun x => !f x).length = L.length
  | [] => rfl
  | x :: L => by
    have ih := len_split f L
    cases h : f x with
    | true => rw [List.filter_cons_of_pos h, List.filter_cons_of_neg (by simp [h]), List.length_cons, List.length_cons]; omega
    | false => rw [List.filter_cons_of_neg (by simp [h]), List.filter_cons_of_pos (by simp [h]), List.length_cons, List.length_cons]; omega
def ownN (u : ByteArray) (L : List PM) : Nat := (L.filter (isOwn u)).length
theorem aside_own {nx : Int} {u : ByteArray} {L : List PM} (h : layF nx u S0 L = true) : L.length - asideN nx u L = ownN u L := by
  unfold layF at h
  split at h
  · rename_i S hS
    have h1 := all_aside hS
    have h2 := len_split (isOwn u) L
    unfold asideN ownN
    rw [hS]
    show L.length - S.aside.length = _
    rw [h1]
    show L.length - ([] ++ L.filter fun p => !isOwn u p).length = _
    rw [List.nil_append]
    omega
  · cases h
def sumN : List Nat → Nat
  | [] => 0
  | x :: l => x + sumN l
def usersOf (L : List PM) : List ByteArray := (L.filter fun p => userI p.1).map fun p => userN p.1
theorem known_eq {nx : Int} {L0 : List PM} : ∀ (L : List PM) (t : Nat), knownM nx L0 t L = if (usersOf L).all (fun u => layF nx u S0 L0) = true then some (t + sumN ((usersOf L).map fun u => ownN u L0)) else none
  | [], t => rfl
  | p :: L, t => by
    unfold knownM
    cases hu : userI p.1 with
    | false =>
      have h1 : usersOf (p :: L) = usersOf L := by unfold usersOf; rw [List.filter_cons_of_neg (by simp [hu])]
      rw [if_neg (by simp), h1]
      exact known_eq L t
    | true =>
      have h1 : usersOf (p :: L) = userN p.1 :: usersOf L := by unfold usersOf; rw [List.filter_cons_of_pos (by simp [hu])]; rfl
      rw [if_pos rfl, h1, List.all_cons, List.map_cons]
      cases hl : layF nx (userN p.1) S0 L0 with
      | false => simp
      | true =>
        rw [if_pos rfl, known_eq L, aside_own hl, Bool.true_and]
        show _ = if _ then some (t + (ownN (userN p.1) L0 + sumN _)) else none
        rw [Nat.add_assoc]
def own1 (Us : List ByteArray) (q : PM) : Nat := (Us.filter fun u => isOwn u q).length
theorem swap_one (q : PM) (L : List PM) : ∀ Us : List ByteArray, sumN (Us.map fun u => ownN u (q :: L)) = own1 Us q + sumN (Us.map fun u => ownN u L)
  | [] => rfl
  | u :: Us => by
    have ih := swap_one q L Us
    rw [List.map_cons, List.map_cons]
    show ownN u (q :: L) + sumN _ = _ + (ownN u L + sumN _)
    rw [ih]
    unfold ownN own1
    cases h : isOwn u q with
    | true => simp only [List.filter_cons, h, if_true, List.length_cons]; omega
    | false => simp only [List.filter_cons, h, Bool.false_eq_true, if_false]; omega
theorem swap_all (Us : List ByteArray) : ∀ L : List PM, sumN (Us.map fun u => ownN u L) = sumN (L.map (own1 Us))
  | [] => by
    induction Us with
    | nil => rfl
    | cons u Us ih => rw [List.map_cons]; show 0 + sumN _ = _; rw [ih]; rfl
  | q :: L => by rw [swap_one, swap_all Us L]; rfl
theorem own1_none {q : PM} : ∀ {Us : List ByteArray}, (∀ u ∈ Us, ownerM q ≠ some u) → own1 Us q = 0
  | Us, h => by
    unfold own1
    rw [List.length_eq_zero_iff, List.filter_eq_nil_iff]
    intro u hu
    simp [isOwn, h u hu]
theorem own1_le {q : PM} : ∀ {Us : List ByteArray}, Us.Nodup → own1 Us q ≤ 1 ∧ (own1 Us q = 1 ↔ ∃ u ∈ Us, ownerM q = some u)
  | [], _ => by simp [own1]
  | u :: Us, h => by
    obtain ⟨h1, h2⟩ := List.nodup_cons.1 h
    have ih := own1_le (q := q) h2
    by_cases ho : ownerM q = some u
    · have h3 : own1 Us q = 0 := own1_none fun z hz e => by
        rw [ho] at e
        cases e
        exact h1 hz
      have h4 : own1 (u :: Us) q = 1 := by
        unfold own1 at h3 ⊢
        rw [List.filter_cons_of_pos (by simp [isOwn, ho]), List.length_cons, h3]
      rw [h4]
      exact ⟨Nat.le_refl _, fun _ => ⟨u, List.mem_cons_self, ho⟩, fun _ => rfl⟩
    · have h4 : own1 (u :: Us) q = own1 Us q := by
        unfold own1
        rw [List.filter_cons_of_neg (by simp [isOwn, ho])]
      rw [h4]
      refine ⟨ih.1, ih.2.trans ?_⟩
      constructor
      · rintro ⟨z, hz, e⟩; exact ⟨z, List.mem_cons_of_mem _ hz, e⟩
      · rintro ⟨z, hz, e⟩
        rcases List.mem_cons.1 hz with rfl | hz
        · exact absurd e ho
        · exact ⟨z, hz, e⟩
theorem sum_full (f : PM → Nat) : ∀ L : List PM, (∀ q ∈ L, f q ≤ 1) → (sumN (L.map f) ≤ L.length ∧ (sumN (L.map f) = L.length ↔ ∀ q ∈ L, f q = 1))
  | [], _ => by simp [sumN]
  | q :: L, h => by
    obtain ⟨h1, h2⟩ := sum_full f L fun x hx => h x (List.mem_cons_of_mem _ hx)
    have h3 := h q List.mem_cons_self
    rw [List.map_cons, List.length_cons]
    show f q + sumN _ ≤ _ ∧ (f q + sumN _ = _ ↔ _)
    refine ⟨by omega, ?_⟩
    constructor
    · intro h4 x hx
      rcases List.mem_cons.1 hx with rfl | hx
      · omega
      · exact h2.1 (by omega) x hx
    · intro h4
      have h5 := h2.2 fun x hx => h4 x (List.mem_cons_of_mem _ hx)
      have h6 := h4 q List.mem_cons_self
      omega
theorem sum_add (f g : PM → Nat) : ∀ L : List PM, sumN (L.map fun q => f q + g q) = sumN (L.map f) + sumN (L.map g)
  | [] => rfl
  | q :: L => by
    have ih := sum_add f g L
    rw [List.map_cons, List.map_cons, List.map_cons]
    show (f q + g q) + sumN _ = (f q + sumN _) + (g q + sumN _)
    omega
theorem sum_one {k : ByteArray} : ∀ {L : List PM}, UpL L → (∃ q ∈ L, q.1 = k) → sumN (L.map fun q => if q.1 = k then 1 else 0) = 1
  | [], _, ⟨_, h, _⟩ => by cases h
  | q :: L, hu, hx => by
    obtain ⟨h1, h2⟩ := List.pairwise_cons.1 hu
    rw [List.map_cons]
    show (if q.1 = k then 1 else 0) + sumN _ = 1
    by_cases e : q.1 = k
    · rw [if_pos e]
      have h3 : ∀ z ∈ L, z.1 ≠ k := fun z hz e9 => by
        have h9 := h1 z hz
        rw [e, e9] at h9
        exact ltK_irrefl _ h9
      have h4 : ∀ {M : List PM}, (∀ z ∈ M, z.1 ≠ k) → sumN (M.map fun q => if q.1 = k then 1 else 0) = 0 := by
        intro M hM
        induction M with
        | nil => rfl
        | cons z M ih =>
          rw [List.map_cons]
          show (if z.1 = k then 1 else 0) + sumN _ = 0
          rw [if_neg (hM z List.mem_cons_self), ih fun y hy => hM y (List.mem_cons_of_mem _ hy)]
      rw [h4 h3]
    · rw [if_neg e]
      obtain ⟨z, hz, ez⟩ := hx
      rcases List.mem_cons.1 hz with rfl | hz
      · exact absurd ez e
      · rw [sum_one h2 ⟨z, hz, ez⟩]
theorem userI_key {k : ByteArray} (h : userI k = true) : k = userK (userN k) := by
  unfold userI Lib.hasPrefix at h
  obtain ⟨r, hr⟩ := List.isPrefixOf_iff_prefix.1 h
  have h2 : (userN k).data.toList = r := by
    unfold userN Lib.trimPrefix Lib.hasPrefix
    rw [if_pos h, ← hr]
    rfl
  apply bs_inj
  rw [← hr, show (userK (userN k)).data.toList = 117 :: 47 :: (userN k).data.toList by simp [userK, ByteArray.data_append], h2]
  rfl
theorem userI_of (u : ByteArray) : userI (userK u) = true ∧ userN (userK u) = u := by
  have h1 : (userK u).data.toList = 117 :: 47 :: u.data.toList := by simp [userK, ByteArray.data_append]
  have h2 : userI (userK u) = true := by
    unfold userI Lib.hasPrefix
    rw [h1]
    simp
  refine ⟨h2, bs_inj ?_⟩
  unfold userN Lib.trimPrefix
  unfold userI at h2
  rw [if_pos h2, h1]
  rfl
theorem users_mem {L : List PM} {u : ByteArray} : u ∈ usersOf L ↔ ∃ q ∈ L, q.1 = userK u := by
  unfold usersOf
  rw [List.mem_map]
  constructor
  · rintro ⟨q, hq, rfl⟩
    rw [List.mem_filter] at hq
    exact ⟨q, hq.1, userI_key hq.2⟩
  · rintro ⟨q, hq, e⟩
    refine ⟨q, List.mem_filter.2 ⟨hq, ?_⟩, ?_⟩
    · rw [e]; exact (userI_of u).1
    · rw [e]; exact (userI_of u).2
theorem users_nodup {L : List PM} (hu : UpL L) : (usersOf L).Nodup := by
  unfold usersOf
  rw [List.Nodup, List.pairwise_map]
  have h1 : (L.filter fun p => userI p.1).Pairwise fun x y => ltK x.1 y.1 := List.Pairwise.filter _ hu
  refine List.Pairwise.imp_of_mem ?_ h1
  intro x y hx hy hlt e
  rw [List.mem_filter] at hx hy
  rw [userI_key hx.2, userI_key hy.2, e] at hlt
  exact ltK_irrefl _ hlt
theorem owner_v {q : PM} (h : q.1 = vK) : ownerM q = none := by
  unfold ownerM
  rw [h]
  rfl
/-- What the program's count tells. -/
theorem known_iff {nx : Int} {L : List PM} (hn : nx = nextM L) (hu : UpL L) (hv : ∃ q ∈ L, q.1 = vK) :
    knownB L = true ↔ (∀ u, (∃ q ∈ L, q.1 = userK u) → layF nx u S0 L = true) ∧ ∀ q ∈ L, q.1 = vK ∨ ∃ u, ownerM q = some u ∧ ∃ z ∈ L, z.1 = userK u := by
  unfold knownB
  rw [← hn, known_eq]
  have hnd := users_nodup hu
  have h1 := sum_one hu hv
  have h2 := sum_add (own1 (usersOf L)) (fun q => if q.1 = vK then 1 else 0) L
  have hle : ∀ q ∈ L, own1 (usersOf L) q + (if q.1 = vK then 1 else 0) ≤ 1 := fun q hq => by
    by_cases e : q.1 = vK
    · rw [if_pos e, own1_none fun u hu9 h9 => by rw [owner_v e] at h9; cases h9]
      exact Nat.le_refl _
    · rw [if_neg e]; exact (own1_le hnd).1
  have h3 := sum_full (fun q => own1 (usersOf L) q + (if q.1 = vK then 1 else 0)) L hle
  have hall : (usersOf L).all (fun u => layF nx u S0 L) = true ↔ ∀ u, (∃ q ∈ L, q.1 = userK u) → layF nx u S0 L = true := by
    rw [List.all_eq_true]
    exact ⟨fun h u hx => h u (users_mem.2 hx), fun h u hx => h u (users_mem.1 hx)⟩
  have hq : (∀ q ∈ L, own1 (usersOf L) q + (if q.1 = vK then 1 else 0) = 1) ↔ ∀ q ∈ L, q.1 = vK ∨ ∃ u, ownerM q = some u ∧ ∃ z ∈ L, z.1 = userK u := by
    constructor
    · intro h q hq
      by_cases e : q.1 = vK
      · exact .inl e
      · have h9 := h q hq
        rw [if_neg e, Nat.add_zero] at h9
        obtain ⟨u, h7, h6⟩ := (own1_le hnd).2.1 h9
        exact .inr ⟨u, h6, users_mem.1 h7⟩
    · intro h q hq
      rcases h q hq with e | ⟨u, h7, h6⟩
      · rw [if_pos e, own1_none fun u hu9 h9 => by rw [owner_v e] at h9; cases h9]
      · have e : q.1 ≠ vK := fun e => by rw [owner_v e] at h7; cases h7
        rw [if_neg e, Nat.add_zero]
        exact (own1_le hnd).2.2 ⟨u, users_mem.2 h6, h7⟩
  rw [← hall, ← hq, ← h3.2, h2, h1, swap_all]
  by_cases ha : (usersOf L).all (fun u => layF nx u S0 L) = true
  · rw [if_pos ha]
    simp only [ha, true_and, decide_eq_true_eq]
    omega
  · rw [if_neg ha]
    simp [ha]
end Go.Proofs.YtbpgncgmolpkiaaGreatDoor
namespace Go.Proofs.YtbpgncgmolpkiaaGreatDoor
open Go.ChangeShapes Go.WideShapes Go.ChangeAt Go.RowKit Go.Deep Go.Lib
set_option linter.unusedVariables false
set_option linter.unusedSimpArgs false
set_option maxRecDepth 100000

theorem split_back {c : UInt8} : ∀ {l a b : List UInt8} {r : List (List UInt8)}, splitL c l = a :: b :: r → ∃ rest, l = a ++ c :: rest ∧ splitL c rest = b :: r ∧ c ∉ a
  | [], a, b, r, h => by cases h
  | x :: l, a, b, r, h => by
    unfold splitL at h
    by_cases e : x = c
    · rw [if_pos e] at h
      injection h with h1 h2
      exact ⟨l, by rw [e, ← h1]; rfl, h2, by rw [← h1]; simp⟩
    · rw [if_neg e] at h
      split at h
      · cases h
      · rename_i hd t h1
        injection h with k1 k2
        rw [k2] at h1
        obtain ⟨rest, h2, h3, h4⟩ := split_back h1
        exact ⟨rest, by rw [h2, ← k1]; rfl, h3, fun h9 => by
          rw [← k1] at h9
          rcases List.mem_cons.1 h9 with h9 | h9
          · exact e h9.symm
          · exact h4 h9⟩
theorem split_one {c : UInt8} {l a : List UInt8} (h : splitL c l = [a]) : l = a ∧ c ∉ a := by
  have h1 := splitL_length c l
  rw [h] at h1
  have h2 : c ∉ l := List.count_eq_zero.1 (by simp at h1; omega)
  have h3 := splitL_whole c l h2
  rw [h] at h3
  cases h3
  exact ⟨rfl, h2⟩
theorem dec_space : ∀ {l : List UInt8} {acc u : Nat}, decFrom acc l = some u → (32 : UInt8) ∉ l
  | [], _, _, _ => by simp
  | c :: l, acc, u, h => by
    unfold decFrom at h
    intro h9
    cases hd : digitVal c with
    | none => rw [hd] at h; cases h
    | some d =>
      rw [hd] at h
      rcases List.mem_cons.1 h9 with h9 | h9
      · rw [← h9] at hd
        rw [show digitVal 32 = none by decide] at hd
        cases hd
      · exact dec_space h h9
theorem num_space {t : List UInt8} {n : Int} (h : numB t = some n) : (32 : UInt8) ∉ t := by
  have hm : ∀ {neg : Bool} {ds : List UInt8} {n : Int}, magB neg ds = some n → (32 : UInt8) ∉ ds := by
    intro neg ds n h
    unfold magB at h
    split at h
    · cases h
    · obtain ⟨u, h1, _⟩ := Option.map_eq_some_iff.1 h
      exact dec_space h1
  match t, h with
  | [], _ => simp
  | c :: r, h =>
    have h : (if c = 45 then magB true r else magB false (c :: r)) = some n := h
    split at h
    · rename_i e
      intro h9
      rcases List.mem_cons.1 h9 with h9 | h9
      · rw [e] at h9; exact absurd h9 (by decide)
      · exact hm h h9
    · exact hm h
theorem metaN_some {a b : Option Int} {p : Int × Int} : metaN a b = some p ↔ a = some p.1 ∧ b = some p.2 ∧ 1 ≤ p.1 ∧ p.1 ≤ 9999 ∧ 1 ≤ p.2 ∧ p.2 ≤ 999 := by
  match a, b with
  | none, none => simp [metaN]
  | none, some _ => simp [metaN]
  | some _, none => simp [metaN]
  | some x, some y =>
    show (if _ then _ else _) = _ ↔ _
    constructor
    · intro h
      obtain ⟨h1, rfl⟩ := ite_some h
      exact ⟨rfl, rfl, h1.1, h1.2.1, h1.2.2.1, h1.2.2.2⟩
    · rintro ⟨h1, h2, h3, h4, h5, h6⟩
      cases h1; cases h2
      rw [if_pos ⟨h3, h4, h5, h6⟩]
theorem folderN_some {nx : Int} {name : ByteArray} {a b : Option Int} {f : FM} : folderN nx name a b = some f ↔ shortB name = true ∧ a = some f.val ∧ b = some f.next ∧ 1 ≤ f.val ∧ f.val ≤ nx - 1 ∧ 1 ≤ f.next ∧ f.next ≤ 999 ∧ f = ⟨name, f.val, f.next, []⟩ := by
  match a, b with
  | none, none => simp [folderN]
  | none, some _ => simp [folderN]
  | some _, none => simp [folderN]
  | some x, some y =>
    show (if _ then _ else _) = _ ↔ _
    constructor
    · intro h
      obtain ⟨h1, rfl⟩ := ite_some h
      exact ⟨h1.1, rfl, rfl, h1.2.1, h1.2.2.1, h1.2.2.2.1, h1.2.2.2.2, rfl⟩
    · rintro ⟨h1, h2, h3, h4, h5, h6, h7, h8⟩
      cases h2; cases h3
      rw [if_pos ⟨h1, h4, h5, h6, h7⟩]
      exact congrArg some h8.symm
theorem folder_meta {nx : Int} (hnx : nx ≤ 10000) {name v : ByteArray} {f : FM} : folderM nx name v = some f ↔ shortB name = true ∧ metaV v = some (f.val, f.next) ∧ f.val < nx ∧ f = ⟨name, f.val, f.next, []⟩ := by
  unfold folderM metaV
  rw [folderN_some]
  match hs : splitL 32 v.data.toList with
  | [] => exact absurd hs (splitL_ne 32 _)
  | [a] =>
    obtain ⟨h1, h2⟩ := split_one hs
    rw [h1, cut_no 32 a h2]
    constructor
    · rintro ⟨_, _, h, _⟩; cases h
    · rintro ⟨_, h, _⟩; cases h
  | a :: b :: r =>
    obtain ⟨rest, h1, h2, h3⟩ := split_back hs
    rw [h1, cut_yes 32 a rest h3]
    match r, h2 with
    | [], h2 =>
      obtain ⟨h4, h5⟩ := split_one h2
      subst h4
      show _ ↔ _ ∧ metaN (numB a) (numB rest) = _ ∧ _
      rw [metaN_some]
      constructor
      · rintro ⟨k1, k2, k3, k4, k5, k6, k7, k8⟩
        exact ⟨k1, ⟨k2, k3, k4, by show f.val ≤ 9999; omega, k6, k7⟩, by omega, k8⟩
      · rintro ⟨k1, ⟨k2, k3, k4, k5, k6, k7⟩, k8, k9⟩
        exact ⟨k1, k2, k3, k4, by omega, k6, k7, k9⟩
    | c :: r, h2 =>
      constructor
      · rintro ⟨_, _, h, _⟩
        have h9 := num_space h
        obtain ⟨rest2, h7, _⟩ := split_back h2
        exact absurd (by show (32 : UInt8) ∈ rest; rw [h7]; simp) h9
      · rintro ⟨_, h, _⟩; cases h
theorem meta_text {v : ByteArray} {p : Int × Int} (h : metaV v = some p) : v = metaT p.1 p.2 := by
  unfold metaV at h
  match hs : splitL 32 v.data.toList, h with
  | [a, b], h =>
    obtain ⟨h1, h2, _⟩ := metaN_some.1 h
    obtain ⟨rest, h3, h4, _⟩ := split_back hs
    obtain ⟨h5, _⟩ := split_one h4
    have h6 := (is_of_num h1).1
    have h7 := (is_of_num h2).1
    apply bs_inj
    unfold metaT
    rw [h3, h5, h6, h7]
    simp [ByteArray.data_append]
    rfl
theorem key_user {k : ByteArray} {b : List UInt8} (h : splitL 47 k.data.toList = [[117], b]) : k = userK (bs b) ∧ (47 : UInt8) ∉ b := by
  obtain ⟨r, h1, h2, _⟩ := split_back h
  obtain ⟨h3, h4⟩ := split_one h2
  refine ⟨bs_inj ?_, h4⟩
  rw [h1, h3]
  simp [userK, ByteArray.data_append]
  rfl
theorem key_folder {k : ByteArray} {b c : List UInt8} (h : splitL 47 k.data.toList = [[102], b, c]) : k = folderK (bs b) (bs c) ∧ (47 : UInt8) ∉ b ∧ (47 : UInt8) ∉ c := by
  obtain ⟨r, h1, h2, _⟩ := split_back h
  obtain ⟨r2, h3, h4, h5⟩ := split_back h2
  obtain ⟨h6, h7⟩ := split_one h4
  refine ⟨bs_inj ?_, h5, h7⟩
  rw [folderK_data, h1, h3, h6]
  rfl
theorem key_mail {k : ByteArray} {b c d : List UInt8} (h : splitL 47 k.data.toList = [[109], b, c, d]) : k.data.toList = 109 :: 47 :: (b ++ 47 :: (c ++ 47 :: d)) ∧ (47 : UInt8) ∉ b ∧ (47 : UInt8) ∉ c := by
  obtain ⟨r, h1, h2, _⟩ := split_back h
  obtain ⟨r2, h3, h4, h5⟩ := split_back h2
  obtain ⟨r3, h6, h7, h8⟩ := split_back h4
  obtain ⟨h9, _⟩ := split_one h7
  exact ⟨by rw [h1, h3, h6, h9]; rfl, h5, h8⟩
theorem parts_user {u : ByteArray} (h : (47 : UInt8) ∉ u.data.toList) : splitL 47 (userK u).data.toList = [[117], u.data.toList] := by
  have h1 : (userK u).data.toList = [117] ++ 47 :: u.data.toList := by simp [userK, ByteArray.data_append]
  rw [h1, splitL_seg 47 [117] _ (by decide), splitL_whole 47 _ h]
theorem parts_folder {u f : ByteArray} (h : (47 : UInt8) ∉ u.data.toList) (h2 : (47 : UInt8) ∉ f.data.toList) : splitL 47 (folderK u f).data.toList = [[102], u.data.toList, f.data.toList] := by
  have h1 : (folderK u f).data.toList = [102] ++ 47 :: (u.data.toList ++ 47 :: f.data.toList) := by rw [folderK_data]; rfl
  rw [h1, splitL_seg 47 [102] _ (by decide), splitL_seg 47 _ _ h, splitL_whole 47 _ h2]
/-- What an owned pair must be. -/
def okG (nx : Int) (u : ByteArray) (L : List PM) (v : ByteArray) : List (List UInt8) → Prop
  | [_, _] => shortB u = true ∧ shortB v = true
  | [_, _, c] => ∃ f, folderM nx (bs c) v = some f
  | [_, _, c, d] => ∃ w f, (folderK u (bs c), w) ∈ L ∧ folderM nx (bs c) w = some f ∧ (mailO f d v).isSome = true
  | _ => False
def isMailG (u : ByteArray) : List (List UInt8) → Bool
  | [a, b, _, _] => decide (a = [109] ∧ bs b = u)
  | _ => false
abbrev isMail (u : ByteArray) (q : PM) : Bool := isMailG u (splitL 47 q.1.data.toList)
structure Inv (nx : Int) (u : ByteArray) (P : List PM) (S : SM) : Prop where
  a : ∀ name f', lookF name S.fs = some f' → ∃ w f, (folderK u name, w) ∈ P ∧ folderM nx name w = some f ∧ f'.next = f.next
  b : ∀ name w, (47 : UInt8) ∉ name.data.toList → (folderK u name, w) ∈ P → (lookF name S.fs).isSome = true
  c : sumF S.fs = (P.filter (isMail u)).length
theorem mailO_next {f f' : FM} {d : List UInt8} {v : ByteArray} (h : f'.next = f.next) : (mailO f' d v).isSome = (mailO f d v).isSome := by
  unfold mailO
  rw [h]
  cases decFrom 0 d with
  | none => rfl
  | some n =>
    simp only [Option.bind_some]
    split <;> rfl
theorem lookF_put {g : FM} {n : ByteArray} : ∀ {fs : List FM}, lookF n (putF g fs) = if g.name = n then some g else lookF n fs
  | [] => by
    unfold putF lookF
    rfl
  | f :: fs => by
    have ih := lookF_put (g := g) (n := n) (fs := fs)
    unfold putF
    by_cases e : f.name = g.name
    · rw [if_pos e]
      unfold lookF
      by_cases h : g.name = n
      · rw [if_pos h, if_pos h]
      · rw [if_neg h, if_neg h, if_neg (by rw [e]; exact h)]
    · rw [if_neg e]
      unfold lookF
      by_cases h : f.name = n
      · rw [if_pos h, if_pos h, if_neg (by rw [← h]; exact fun h9 => e h9.symm)]
      · rw [if_neg h, if_neg h]
        exact ih
theorem sum_fresh {g : FM} : ∀ {fs : List FM}, lookF g.name fs = none → sumF (putF g fs) = sumF fs + g.mails.length
  | [], _ => by simp [putF, sumF]
  | f :: fs, h => by
    unfold lookF at h
    by_cases e : f.name = g.name
    · rw [if_pos e] at h; cases h
    · rw [if_neg e] at h
      unfold putF
      rw [if_neg e]
      unfold sumF
      have := sum_fresh h
      omega
theorem filter_snoc {α : Type} (f : α → Bool) (P : List α) (q : α) : ((P ++ [q]).filter f).length = (P.filter f).length + if f q = true then 1 else 0 := by
  rw [List.filter_append, List.length_append]
  cases h : f q <;> simp [h]
end Go.Proofs.YtbpgncgmolpkiaaGreatDoor
namespace Go.Proofs.YtbpgncgmolpkiaaGreatDoor
open Go.ChangeShapes Go.WideShapes Go.ChangeAt Go.RowKit Go.Deep Go.Lib
set_option linter.unusedVariables false
set_option linter.unusedSimpArgs false
set_option maxRecDepth 100000

theorem key_one {L : List PM} (hu : UpL L) {k v w : ByteArray} (h1 : (k, v) ∈ L) (h2 : (k, w) ∈ L) : v = w := by
  have h3 := (getM_mem hu).2 h1
  rw [(getM_mem hu).2 h2] at h3
  exact (Option.some.inj h3).symm
theorem owner_folder {u name w : ByteArray} (hus : (47 : UInt8) ∉ u.data.toList) (hn : (47 : UInt8) ∉ name.data.toList) : ownerM (folderK u name, w) = some u := by
  unfold ownerM
  rw [parts_folder hus hn]
  rfl
theorem mail_owner {u : ByteArray} {q : PM} (h : isMail u q = true) : ownerM q = some u := by
  unfold isMail at h
  unfold ownerM
  match hG : splitL 47 q.1.data.toList, h with
  | [a, b, c, d], h =>
    have h9 := of_decide_eq_true h
    show (if a = [109] then some (bs b) else none) = _
    rw [if_pos h9.1, h9.2]
theorem take_step {nx : Int} {u : ByteArray} {L P R : List PM} {q : PM} {S : SM} (hnx : nx ≤ 10000) (hu : UpL L) (hL : L = P ++ q :: R) (hus : (47 : UInt8) ∉ u.data.toList) (hI : Inv nx u P S) (ho : ownerM q = some u) :
    ((takeM nx u S q).isSome = true ↔ okG nx u L q.2 (splitL 47 q.1.data.toList)) ∧ ∀ S', takeM nx u S q = some S' → Inv nx u (P ++ [q]) S' := by
  have hpq : ∀ z ∈ P, ltK z.1 q.1 := fun z hz => by
    rw [hL] at hu
    exact (List.pairwise_append.1 hu).2.2 z hz q List.mem_cons_self
  have hqr : ∀ z ∈ R, ltK q.1 z.1 := fun z hz => by
    rw [hL] at hu
    exact (List.pairwise_cons.1 (List.pairwise_append.1 hu).2.1).1 z hz
  have hPL : ∀ z ∈ P, z ∈ L := fun z hz => by rw [hL]; exact List.mem_append_left _ hz
  unfold takeM
  unfold ownerM at ho
  match hG : splitL 47 q.1.data.toList, ho with
  | [a, b], ho =>
    obtain ⟨h1, h2⟩ := ite_some ho
    subst h1
    have h3 : takeP nx u S q [[117], b] = userM u S q.2 := if_pos ⟨h2, rfl⟩
    have hmf : isMail u q = false := by unfold isMail; rw [hG]; rfl
    rw [h3]
    unfold userM
    constructor
    · show _ ↔ shortB u = true ∧ shortB q.2 = true
      rw [← Bool.and_eq_true]
      split
      · simp_all
      · simp_all
    · intro S' hS
      obtain ⟨_, rfl⟩ := ite_some hS
      refine ⟨fun name f' hf => ?_, fun name w hn hm => ?_, ?_⟩
      · obtain ⟨w, f, k1, k2⟩ := hI.a name f' hf
        exact ⟨w, f, List.mem_append_left _ k1, k2⟩
      · rcases List.mem_append.1 hm with hm | hm
        · exact hI.b name w hn hm
        · have h9 := List.mem_singleton.1 hm
          rw [← h9, parts_folder hus hn] at hG
          cases hG
      · show sumF S.fs = _
        rw [filter_snoc, hmf, hI.c]
        simp
  | [a, b, c], ho =>
    obtain ⟨h1, h2⟩ := ite_some ho
    subst h1
    have h3 : takeP nx u S q [[102], b, c] = putM S (folderM nx (bs c) q.2) := if_pos ⟨h2, rfl⟩
    have hmf : isMail u q = false := by unfold isMail; rw [hG]; rfl
    obtain ⟨hk, hnb, hnc⟩ := key_folder hG
    rw [h2] at hk
    rw [h3]
    unfold putM
    constructor
    · rw [Option.isSome_map]
      exact Option.isSome_iff_exists
    · intro S' hS
      obtain ⟨g, hg, rfl⟩ := Option.map_eq_some_iff.1 hS
      have hgf := (folder_meta hnx).1 hg
      have hgn : g.name = bs c := by rw [hgf.2.2.2]
      have hgm : g.mails.length = 0 := by rw [hgf.2.2.2]; rfl
      have hno : lookF g.name S.fs = none := by
        rw [hgn]
        cases hl : lookF (bs c) S.fs with
        | none => rfl
        | some f' =>
          obtain ⟨w, f, k1, _⟩ := hI.a _ _ hl
          have k3 := hpq _ k1
          rw [hk] at k3
          exact absurd k3 (ltK_irrefl _)
      have hqe : (folderK u (bs c), q.2) = q := Prod.ext hk.symm rfl
      refine ⟨fun name f' hf => ?_, fun name w hn hm => ?_, ?_⟩
      · have hf2 : (if g.name = name then some g else lookF name S.fs) = some f' := lookF_put.symm.trans hf
        split at hf2
        · rename_i e
          cases hf2
          rw [hgn] at e
          subst e
          exact ⟨q.2, g, by rw [hqe]; exact List.mem_append_right _ (List.mem_singleton.2 rfl), hg, rfl⟩
        · obtain ⟨w, f, k1, k2⟩ := hI.a name f' hf2
          exact ⟨w, f, List.mem_append_left _ k1, k2⟩
      · show (lookF name (putF g S.fs)).isSome = true
        rw [lookF_put]
        split
        · rfl
        · rename_i e
          rcases List.mem_append.1 hm with hm | hm
          · exact hI.b name w hn hm
          · have h9 := List.mem_singleton.1 hm
            have h8 : folderK u name = folderK u (bs c) := by rw [← hk, ← h9]
            exact absurd (by rw [hgn, folderK_inj h8]) e
      · show sumF (putF g S.fs) = _
        rw [filter_snoc, hmf, sum_fresh hno, hgm, hI.c]
        simp
  | [a, b, c, d], ho =>
    obtain ⟨h1, h2⟩ := ite_some ho
    subst h1
    have h3 : takeP nx u S q [[109], b, c, d] = putM S (mailM S.fs (bs c) (bs d) q.2) := if_pos ⟨h2, rfl⟩
    have hmf : isMail u q = true := by
      unfold isMail
      rw [hG]
      exact decide_eq_true ⟨rfl, h2⟩
    obtain ⟨hk, hnb, hnc⟩ := key_mail hG
    rw [h3]
    unfold putM mailM
    constructor
    · rw [Option.isSome_map]
      show _ ↔ ∃ w f, (folderK u (bs c), w) ∈ L ∧ folderM nx (bs c) w = some f ∧ (mailO f d q.2).isSome = true
      constructor
      · intro h
        cases hl : lookF (bs c) S.fs with
        | none => rw [hl] at h; cases h
        | some f' =>
          rw [hl] at h
          obtain ⟨w, f, k1, k2, k3⟩ := hI.a _ _ hl
          exact ⟨w, f, hPL _ k1, k2, by rw [← mailO_next k3]; exact h⟩
      · rintro ⟨w, f, k1, k2, k3⟩
        have hP : (folderK u (bs c), w) ∈ P := by
          rw [hL] at k1
          rcases List.mem_append.1 k1 with k1 | k1
          · exact k1
          · exfalso
            have hne : ∀ k : ByteArray, k.data.toList = 109 :: 47 :: (b ++ 47 :: (c ++ 47 :: d)) → ¬ ltK k (folderK u (bs c)) ∧ k ≠ folderK u (bs c) := fun k hk => by
              refine ⟨fun h9 => ?_, fun h9 => ?_⟩
              · unfold ltK at h9
                rw [ByteArray.toList_eq, ByteArray.toList_eq, folderK_data, hk] at h9
                simp [Op.bytesLess] at h9
              · rw [h9, folderK_data] at hk
                simp at hk
            rcases List.mem_cons.1 k1 with k1 | k1
            · exact (hne _ hk).2 (by rw [← k1])
            · exact (hne _ hk).1 (hqr _ k1)
        obtain ⟨f', hl⟩ := Option.isSome_iff_exists.1 (hI.b (bs c) w hnc hP)
        obtain ⟨w', f2, m1, m2, m3⟩ := hI.a _ _ hl
        obtain rfl := key_one hu (hPL _ hP) (hPL _ m1)
        rw [k2] at m2
        cases m2
        rw [hl]
        show (mailO f' d q.2).isSome = true
        rw [mailO_next m3]
        exact k3
    · intro S' hS
      obtain ⟨g, hg, rfl⟩ := Option.map_eq_some_iff.1 hS
      obtain ⟨f', hl, hg2⟩ := Option.bind_eq_some_iff.1 hg
      obtain ⟨un, _, _, _, _, _, _, _, _, hgm⟩ := mailO_some hg2
      have hfn := (lookF_mem hl).2
      have hgn : g.name = bs c := by rw [hgm]; exact hfn
      have hgx : g.next = f'.next := by rw [hgm]; rfl
      have hgl : g.mails.length = f'.mails.length + 1 := by rw [hgm]; exact List.length_append
      have hl2 : lookF g.name S.fs = some f' := by rw [hgn]; exact hl
      refine ⟨fun name f2 hf => ?_, fun name w hn hm => ?_, ?_⟩
      · have hf2 : (if g.name = name then some g else lookF name S.fs) = some f2 := lookF_put.symm.trans hf
        split at hf2
        · rename_i e
          cases hf2
          rw [hgn] at e
          subst e
          obtain ⟨w, f, k1, k2, k3⟩ := hI.a _ _ hl
          exact ⟨w, f, List.mem_append_left _ k1, k2, hgx.trans k3⟩
        · obtain ⟨w, f, k1, k2⟩ := hI.a name f2 hf2
          exact ⟨w, f, List.mem_append_left _ k1, k2⟩
      · show (lookF name (putF g S.fs)).isSome = true
        rw [lookF_put]
        split
        · rfl
        · rcases List.mem_append.1 hm with hm | hm
          · exact hI.b name w hn hm
          · have h9 := List.mem_singleton.1 hm
            rw [← h9, parts_folder hus hn] at hG
            cases hG
      · show sumF (putF g S.fs) = _
        have h9 := sum_old hl2
        rw [filter_snoc, hmf, ← hI.c, if_pos rfl]
        omega
theorem aside_step {nx : Int} {u : ByteArray} {P : List PM} {q : PM} {S S' : SM} (hus : (47 : UInt8) ∉ u.data.toList) (hI : Inv nx u P S) (ho : ownerM q ≠ some u) (h : asideM S q = some S') : Inv nx u (P ++ [q]) S' := by
  cases h
  refine ⟨fun name f' hf => ?_, fun name w hn hm => ?_, ?_⟩
  · obtain ⟨w, f, k1, k2⟩ := hI.a name f' hf
    exact ⟨w, f, List.mem_append_left _ k1, k2⟩
  · rcases List.mem_append.1 hm with hm | hm
    · exact hI.b name w hn hm
    · have h9 := List.mem_singleton.1 hm
      exact absurd (by rw [← h9]; exact owner_folder hus hn) ho
  · have hmf : isMail u q = false := by
      cases h9 : isMail u q with
      | false => rfl
      | true => exact absurd (mail_owner h9) ho
    show sumF S.fs = _
    rw [filter_snoc, hmf, hI.c]
    simp
theorem all_step {nx : Int} {u : ByteArray} {L : List PM} (hnx : nx ≤ 10000) (hu : UpL L) (hus : (47 : UInt8) ∉ u.data.toList) : ∀ (R P : List PM) (S : SM), L = P ++ R → Inv nx u P S →
    ((takeAll nx u S R).isSome = true ↔ ∀ q ∈ R, ownerM q = some u → okG nx u L q.2 (splitL 47 q.1.data.toList)) ∧ ∀ S', takeAll nx u S R = some S' → Inv nx u L S'
  | [], P, S, hL, hI => by
    refine ⟨⟨fun _ q hq => (by cases hq), fun _ => rfl⟩, fun S' h => ?_⟩
    cases h
    rw [hL, List.append_nil]
    exact hI
  | q :: R, P, S, hL, hI => by
    have hL2 : L = (P ++ [q]) ++ R := by rw [hL]; simp
    unfold takeAll
    by_cases ho : ownerM q = some u
    · obtain ⟨h1, h2⟩ := take_step hnx hu hL hus hI ho
      cases ht : takeM nx u S q with
      | none =>
        rw [ht] at h1
        constructor
        · constructor
          · intro h; cases h
          · intro h
            exact absurd (h1.2 (h q List.mem_cons_self ho)) (by simp)
        · intro S' h; cases h
      | some S1 =>
        rw [ht] at h1
        obtain ⟨h3, h4⟩ := all_step hnx hu hus R (P ++ [q]) S1 hL2 (h2 S1 ht)
        refine ⟨h3.trans ?_, h4⟩
        constructor
        · intro h z hz hz2
          rcases List.mem_cons.1 hz with rfl | hz
          · exact h1.1 rfl
          · exact h z hz hz2
        · exact fun h z hz => h z (List.mem_cons_of_mem _ hz)
    · have ht : takeM nx u S q = asideM S q := take_other ho
      rw [ht]
      obtain ⟨h3, h4⟩ := all_step hnx hu hus R (P ++ [q]) _ hL2 (aside_step hus hI ho rfl)
      refine ⟨h3.trans ?_, h4⟩
      constructor
      · intro h z hz hz2
        rcases List.mem_cons.1 hz with rfl | hz
        · exact absurd hz2 ho
        · exact h z hz hz2
      · exact fun h z hz => h z (List.mem_cons_of_mem _ hz)
theorem lay_iff {nx : Int} {u : ByteArray} {L : List PM} (hnx : nx ≤ 10000) (hu : UpL L) (hus : (47 : UInt8) ∉ u.data.toList) :
    layF nx u S0 L = true ↔ (∀ q ∈ L, ownerM q = some u → okG nx u L q.2 (splitL 47 q.1.data.toList)) ∧ (∃ w f, (folderK u inboxT, w) ∈ L ∧ folderM nx inboxT w = some f) ∧ (L.filter (isMail u)).length ≤ 6 := by
  have hI : Inv nx u [] S0 := ⟨fun name f' hf => (by cases hf), fun name w _ hm => (by cases hm), rfl⟩
  obtain ⟨h1, h2⟩ := all_step hnx hu hus L [] S0 rfl hI
  unfold layF
  cases ht : takeAll nx u S0 L with
  | none =>
    rw [ht] at h1
    constructor
    · intro h; cases h
    · rintro ⟨h, _⟩; exact absurd (h1.2 h) (by simp)
  | some S' =>
    rw [ht] at h1
    have hI2 := h2 S' ht
    show ((lookF inboxT S'.fs).isSome && decide (sumF S'.fs ≤ 6)) = true ↔ _
    rw [Bool.and_eq_true, decide_eq_true_eq, hI2.c]
    constructor
    · rintro ⟨h3, h4⟩
      obtain ⟨f', hf⟩ := Option.isSome_iff_exists.1 h3
      obtain ⟨w, f, k1, k2, _⟩ := hI2.a _ _ hf
      exact ⟨h1.1 rfl, ⟨w, f, k1, k2⟩, h4⟩
    · rintro ⟨_, ⟨w, f, k1, k2⟩, h4⟩
      exact ⟨hI2.b _ w (by decide) k1, h4⟩
end Go.Proofs.YtbpgncgmolpkiaaGreatDoor
namespace Go.Proofs.YtbpgncgmolpkiaaGreatDoor
open Go.ChangeShapes Go.WideShapes Go.ChangeAt Go.RowKit Go.Deep Go.Lib
set_option linter.unusedVariables false
set_option linter.unusedSimpArgs false
set_option maxRecDepth 100000

theorem get_some {L : List PM} (hu : UpL L) {k : ByteArray} : (getM L k).isSome = true ↔ ∃ q ∈ L, q.1 = k := by
  constructor
  · intro h
    obtain ⟨v, hv⟩ := Option.isSome_iff_exists.1 h
    exact ⟨(k, v), (getM_mem hu).1 hv, rfl⟩
  · rintro ⟨q, hq, rfl⟩
    rw [(getM_mem hu).2 (show (q.1, q.2) ∈ L from hq)]
    rfl
theorem meta_iff {L : List PM} (hu : UpL L) {u f : ByteArray} {p : Int × Int} : metaM L u f = some p ↔ ∃ w, (folderK u f, w) ∈ L ∧ metaV w = some p := by
  unfold metaM
  rw [Option.bind_eq_some_iff]
  constructor
  · rintro ⟨w, h1, h2⟩; exact ⟨w, (getM_mem hu).1 h1, h2⟩
  · rintro ⟨w, h1, h2⟩; exact ⟨w, (getM_mem hu).2 h1, h2⟩
/-- A key of two parts or more, its first a lone byte. -/
theorem kind_of {k : ByteArray} {c0 : UInt8} {rest : List UInt8} (h : k.data.toList = c0 :: 47 :: rest) (hr : rest ≠ []) : (decide (3 ≤ k.size) && slashB k) = true ∧ k.data.toList.headD 0 = c0 ∧ partsK k = splitL 47 rest ∧ k ≠ vK := by
  have h1 : k.size = rest.length + 2 := by rw [← bytes_len, h]; rfl
  have h2 : 1 ≤ rest.length := by cases rest with
    | nil => exact absurd rfl hr
    | cons => simp
  refine ⟨?_, by rw [h]; rfl, by unfold partsK; rw [h]; rfl, fun e => ?_⟩
  · rw [decide_eq_true (by omega)]
    unfold slashB
    rw [h]
    rfl
  · rw [e] at h
    cases h
theorem kind_back {k : ByteArray} (h : (decide (3 ≤ k.size) && slashB k) = true) : ∃ c0 rest, k.data.toList = c0 :: 47 :: rest ∧ rest ≠ [] := by
  rw [Bool.and_eq_true, decide_eq_true_eq, ← bytes_len] at h
  unfold slashB at h
  obtain ⟨h1, h2⟩ := h
  match hk : k.data.toList, h1, h2 with
  | a :: b :: c :: r, _, h2 =>
    have h3 : b = 47 := by simpa using h2
    exact ⟨a, c :: r, by rw [h3], by simp⟩
theorem parts_of {k : ByteArray} {c0 : UInt8} {rest : List UInt8} (h : k.data.toList = c0 :: 47 :: rest) (hc : c0 ≠ 47) : splitL 47 k.data.toList = [c0] :: splitL 47 rest := by
  rw [h]
  exact splitL_seg 47 [c0] rest (by simp; exact fun h9 => hc h9.symm)
/-- What the specification asks of a pair, by the key's parts. -/
def askG (L : List PM) (nx : Int) (v : ByteArray) : List (List UInt8) → Prop
  | [a, b] => a = [117] ∧ b ≠ [] ∧ pairU L v [b] = true
  | [a, b, c] => a = [102] ∧ pairF L nx v [b, c] = true
  | [a, b, c, d] => a = [109] ∧ pairE L v [b, c, d] = true
  | _ => False
theorem pair_iff {L : List PM} {nx : Int} {q : PM} (hq : q.1 ≠ vK) : pairB L nx q = true ↔ askG L nx q.2 (splitL 47 q.1.data.toList) := by
  unfold pairB
  rw [if_neg hq, Bool.and_eq_true]
  constructor
  · rintro ⟨h1, h2⟩
    obtain ⟨c0, rest, hk, hr⟩ := kind_back h1
    obtain ⟨_, k2, k3, _⟩ := kind_of hk hr
    unfold kindB at h2
    rw [k2, k3] at h2
    by_cases e1 : c0 = 117
    · rw [if_pos e1] at h2
      rw [parts_of hk (by rw [e1]; decide)]
      match hs : splitL 47 rest, h2 with
      | [b], h2 =>
        refine ⟨by rw [e1], ?_, h2⟩
        rw [← (split_one hs).1]
        exact hr
    rw [if_neg e1] at h2
    by_cases e2 : c0 = 102
    · rw [if_pos e2] at h2
      rw [parts_of hk (by rw [e2]; decide)]
      match hs : splitL 47 rest, h2 with
      | [b, c], h2 => exact ⟨by rw [e2], h2⟩
    rw [if_neg e2] at h2
    by_cases e3 : c0 = 109
    · rw [if_pos e3] at h2
      rw [parts_of hk (by rw [e3]; decide)]
      match hs : splitL 47 rest, h2 with
      | [b, c, d], h2 => exact ⟨by rw [e3], h2⟩
    rw [if_neg e3] at h2
    cases h2
  · intro h
    match hs : splitL 47 q.1.data.toList, h with
    | [a, b], ⟨h1, h2, h3⟩ =>
      subst h1
      obtain ⟨rest, k1, k2, _⟩ := split_back hs
      obtain ⟨k3, _⟩ := split_one k2
      obtain ⟨m1, m2, m3, _⟩ := kind_of (c0 := 117) k1 (by rw [k3]; exact h2)
      refine ⟨m1, ?_⟩
      unfold kindB
      rw [m2, m3, if_pos rfl, k2]
      exact h3
    | [a, b, c], ⟨h1, h3⟩ =>
      subst h1
      obtain ⟨rest, k1, k2, _⟩ := split_back hs
      obtain ⟨m1, m2, m3, _⟩ := kind_of (c0 := 102) k1 (fun e => by rw [e] at k2; cases k2)
      refine ⟨m1, ?_⟩
      unfold kindB
      rw [m2, m3, if_neg (by decide), if_pos rfl, k2]
      exact h3
    | [a, b, c, d], ⟨h1, h3⟩ =>
      subst h1
      obtain ⟨rest, k1, k2, _⟩ := split_back hs
      obtain ⟨m1, m2, m3, _⟩ := kind_of (c0 := 109) k1 (fun e => by rw [e] at k2; cases k2)
      refine ⟨m1, ?_⟩
      unfold kindB
      rw [m2, m3, if_neg (by decide), if_neg (by decide), if_pos rfl, k2]
      exact h3
theorem begins_iff {k p : ByteArray} : beginsB k p = true ↔ ∃ r, k.data.toList = p.data.toList ++ r := by
  unfold beginsB
  rw [Bool.and_eq_true, decide_eq_true_eq, beq_iff_eq]
  constructor
  · rintro ⟨h1, h2⟩
    have h3 := toList_inj h2
    have h4 : (k.extract 0 p.size).data.toList = k.data.toList.take p.size := by
      rw [ext_data k 0 p.size (by omega)]
      simp
    rw [h3] at h4
    exact ⟨k.data.toList.drop p.size, by rw [h4, List.take_append_drop]⟩
  · rintro ⟨r, h⟩
    have h1 : k.size = p.size + r.length := by rw [← bytes_len k, h, List.length_append, bytes_len]
    refine ⟨by omega, ?_⟩
    rw [ByteArray.toList_eq, ByteArray.toList_eq, ext_data k 0 p.size (by omega), h]
    simp [bytes_len]
theorem mailsK_data (u : ByteArray) : (mailsK u).data.toList = 109 :: 47 :: (u.data.toList ++ [47]) := by
  simp [mailsK, ByteArray.data_append]
theorem mail_begins {u : ByteArray} {q : PM} (h : isMail u q = true) : beginsB q.1 (mailsK u) = true := by
  unfold isMail at h
  match hG : splitL 47 q.1.data.toList, h with
  | [a, b, c, d], h =>
    obtain ⟨rfl, rfl⟩ := of_decide_eq_true h
    obtain ⟨hk, _⟩ := key_mail hG
    rw [begins_iff]
    exact ⟨c ++ 47 :: d, by rw [hk, mailsK_data]; show _ = 109 :: 47 :: (b ++ [47]) ++ _; simp⟩
theorem begins_parts {u : ByteArray} (hus : (47 : UInt8) ∉ u.data.toList) {q : PM} (h : beginsB q.1 (mailsK u) = true) : ∃ r, splitL 47 q.1.data.toList = [109] :: u.data.toList :: r := by
  obtain ⟨r, hr⟩ := begins_iff.1 h
  rw [mailsK_data] at hr
  have h1 : q.1.data.toList = [109] ++ 47 :: (u.data.toList ++ 47 :: r) := by rw [hr]; simp
  rw [h1, splitL_seg 47 [109] _ (by decide), splitL_seg 47 _ _ hus]
  exact ⟨_, rfl⟩
theorem filter_le {α : Type} {f g : α → Bool} : ∀ {L : List α}, (∀ x ∈ L, f x = true → g x = true) → (L.filter f).length ≤ (L.filter g).length
  | [], _ => Nat.le_refl _
  | x :: L, h => by
    have ih := filter_le (L := L) fun y hy => h y (List.mem_cons_of_mem _ hy)
    have hx := h x List.mem_cons_self
    cases hf : f x with
    | false =>
      rw [List.filter_cons_of_neg (by simp [hf])]
      cases hg : g x with
      | false => rw [List.filter_cons_of_neg (by simp [hg])]; exact ih
      | true => rw [List.filter_cons_of_pos hg, List.length_cons]; omega
    | true =>
      rw [List.filter_cons_of_pos hf, List.filter_cons_of_pos (hx hf), List.length_cons, List.length_cons]
      omega
theorem foldB_iff {nx : Int} {v : ByteArray} : foldB nx v (metaV v) = true ↔ ∃ p, metaV v = some p ∧ p.1 < nx := by
  cases h : metaV v with
  | none => simp [foldB]
  | some p =>
    show (decide (p.1 < nx) && (v.toList == (metaT p.1 p.2).toList)) = true ↔ _
    rw [← meta_text h, Bool.and_eq_true, decide_eq_true_eq]
    simp
theorem mailN_iff {cnt : Nat} {o : Option Nat} {p : Int × Int} : mailN cnt o (some p) = true ↔ ∃ n, o = some n ∧ 1 ≤ (n : Int) ∧ (n : Int) < p.2 ∧ cnt ≤ 6 := by
  match o with
  | none => simp [mailN]
  | some n =>
    show ((decide (1 ≤ (n : Int)) && decide ((n : Int) ≤ p.2 - 1)) && decide ((cnt : Int) ≤ 6)) = true ↔ _
    simp only [Bool.and_eq_true, decide_eq_true_eq]
    constructor
    · rintro ⟨⟨h1, h2⟩, h3⟩; exact ⟨n, rfl, h1, by omega, by omega⟩
    · rintro ⟨m, h0, h1, h2, h3⟩
      cases h0
      exact ⟨⟨h1, by omega⟩, by omega⟩
theorem mailO_iff {f : FM} {d : List UInt8} {v : ByteArray} : (mailO f d v).isSome = true ↔ ∃ n, decFrom 0 d = some n ∧ d.length = 3 ∧ 1 ≤ v.size ∧ v.size ≤ 86 ∧ 48 ≤ hdV v ∧ hdV v ≤ 51 ∧ 1 ≤ (n : Int) ∧ (n : Int) < f.next := by
  constructor
  · intro h
    obtain ⟨g, hg⟩ := Option.isSome_iff_exists.1 h
    obtain ⟨u, h1, h2, h3, h4, h5, h6, h7, h8, _⟩ := mailO_some hg
    exact ⟨u, h1, h2, h3, h4, h5, h6, h7, h8⟩
  · rintro ⟨n, h1, h2⟩
    unfold mailO
    rw [h1]
    simp only [Option.bind_some]
    rw [if_pos h2]
    rfl
theorem pairE_iff {L : List PM} {v : ByteArray} {b c d : List UInt8} {p : Int × Int} (hm : metaM L (bs b) (bs c) = some p) : pairE L v [b, c, d] = true ↔ (∃ n, decFrom 0 d = some n ∧ d.length = 3 ∧ 1 ≤ v.size ∧ v.size ≤ 86 ∧ 48 ≤ hdV v ∧ hdV v ≤ 51 ∧ 1 ≤ (n : Int) ∧ (n : Int) < p.2) ∧ countM L (bs b) ≤ 6 := by
  show (d.length == 3 && (decide (1 ≤ (v.size : Int)) && decide ((v.size : Int) ≤ 86)) && (decide (48 ≤ headV v) && decide (headV v ≤ 51)) && mailN (countM L (bs b)) (decFrom 0 d) (metaM L (bs b) (bs c))) = true ↔ _
  rw [hm]
  simp only [Bool.and_eq_true, beq_iff_eq, decide_eq_true_eq, mailN_iff]
  constructor
  · rintro ⟨⟨⟨h1, h2, h3⟩, h4, h5⟩, n, k1, k2, k3, k4⟩
    exact ⟨⟨n, k1, h1, by omega, by omega, h4, h5, k2, k3⟩, k4⟩
  · rintro ⟨⟨n, k1, h1, h2, h3, h4, h5, k2, k3⟩, k4⟩
    exact ⟨⟨⟨h1, by omega, by omega⟩, h4, h5⟩, n, k1, k2, k3, k4⟩
theorem mailN_none {cnt : Nat} {o : Option Nat} : mailN cnt o none = false := by
  cases o <;> rfl
theorem pairE_meta {L : List PM} {v : ByteArray} {b c d : List UInt8} (h : pairE L v [b, c, d] = true) : ∃ p, metaM L (bs b) (bs c) = some p := by
  have h9 : (d.length == 3 && (decide (1 ≤ (v.size : Int)) && decide ((v.size : Int) ≤ 86)) && (decide (48 ≤ headV v) && decide (headV v ≤ 51)) && mailN (countM L (bs b)) (decFrom 0 d) (metaM L (bs b) (bs c))) = true := h
  cases hm : metaM L (bs b) (bs c) with
  | some p => exact ⟨p, rfl⟩
  | none =>
    rw [hm, Bool.and_eq_true] at h9
    have h7 := h9.2
    rw [mailN_none] at h7
    cases h7
theorem pairF_iff {L : List PM} {nx : Int} {v : ByteArray} {b c : List UInt8} : pairF L nx v [b, c] = true ↔ shortB (bs c) = true ∧ (getM L (userK (bs b))).isSome = true ∧ foldB nx v (metaM L (bs b) (bs c)) = true := by
  show (shortB (bs c) && (getM L (userK (bs b))).isSome && foldB nx v (metaM L (bs b) (bs c))) = true ↔ _
  rw [Bool.and_eq_true, Bool.and_eq_true, and_assoc]
theorem short_ne {b : List UInt8} (h : shortB (bs b) = true) : b ≠ [] := fun e => by
  rw [e] at h
  exact absurd h (by decide)
theorem owner_slash {q : PM} {u : ByteArray} (h : ownerM q = some u) : (47 : UInt8) ∉ u.data.toList := by
  unfold ownerM at h
  have hno := splitL_no 47 q.1.data.toList
  match hs : splitL 47 q.1.data.toList, h with
  | [a, b], h => obtain ⟨_, rfl⟩ := ite_some h; exact hno b (by rw [hs]; simp)
  | [a, b, c], h => obtain ⟨_, rfl⟩ := ite_some h; exact hno b (by rw [hs]; simp)
  | [a, b, c, d], h => obtain ⟨_, rfl⟩ := ite_some h; exact hno b (by rw [hs]; simp)
theorem folder_not (u c : ByteArray) : folderK u c ≠ vK := fun e => by
  have h := congrArg (fun x : ByteArray => x.data.toList) e
  simp only [folderK_data] at h
  cases h
theorem user_not (u : ByteArray) : userK u ≠ vK := fun e => by
  have h := congrArg (fun x : ByteArray => x.data.toList) e
  simp [userK, ByteArray.data_append] at h
theorem store_eq {L : List PM} {nx : Int} {v0 : ByteArray} (hg : GoodL L) (hv : getM L vK = some v0) (hn : numB v0.data.toList = some nx) (h1 : 1 ≤ nx) (h2 : nx ≤ 10000) : knownB L = L.all (pairB L nx) := by
  have hnm : nx = nextM L := by unfold nextM; rw [hv]; simp [hn]
  have hu := hg.2.2
  have hvm : (vK, v0) ∈ L := (getM_mem hu).1 hv
  rw [Bool.eq_iff_iff, known_iff hnm hu ⟨_, hvm, rfl⟩, List.all_eq_true]
  constructor
  · rintro ⟨K1, K2⟩ q hq
    rcases K2 q hq with e | ⟨u, ho, hz⟩
    · unfold pairB
      rw [if_pos e]
      have h3 : q.2 = v0 := key_one hu (show (vK, q.2) ∈ L by rw [← e]; exact hq) hvm
      rw [h3, (is_of_num hn).1, data_bs]
      simp
    · have hqv : q.1 ≠ vK := fun e => by rw [owner_v e] at ho; cases ho
      rw [pair_iff hqv]
      have hus := owner_slash ho
      obtain ⟨k1, ⟨w, f, k2, k3⟩, k4⟩ := (lay_iff h2 hu hus).1 (K1 u hz)
      have hok := k1 q hq ho
      unfold ownerM at ho
      match hs : splitL 47 q.1.data.toList, ho, hok with
      | [a, b], ho, hok =>
        obtain ⟨e1, e2⟩ := ite_some ho
        have hok : shortB u = true ∧ shortB q.2 = true := hok
        refine ⟨e1, short_ne (by rw [e2]; exact hok.1), ?_⟩
        show (shortB (bs b) && shortB q.2 && (metaM L (bs b) inboxT).isSome) = true
        rw [e2, hok.1, hok.2, (meta_iff hu).2 ⟨w, k2, ((folder_meta h2).1 k3).2.1⟩]
        rfl
      | [a, b, c], ho, hok =>
        obtain ⟨e1, e2⟩ := ite_some ho
        obtain ⟨g, hg'⟩ : ∃ f, folderM nx (bs c) q.2 = some f := hok
        have m := (folder_meta h2).1 hg'
        subst e1
        obtain ⟨hk, _, _⟩ := key_folder hs
        have hmm : metaM L (bs b) (bs c) = metaV q.2 := by
          unfold metaM
          rw [(getM_mem hu).2 (show (folderK (bs b) (bs c), q.2) ∈ L by rw [← hk]; exact hq)]
          rfl
        refine ⟨rfl, pairF_iff.2 ⟨m.1, (get_some hu).2 (by rw [e2]; exact hz), ?_⟩⟩
        rw [hmm, foldB_iff]
        exact ⟨_, m.2.1, m.2.2.1⟩
      | [a, b, c, d], ho, hok =>
        obtain ⟨e1, e2⟩ := ite_some ho
        obtain ⟨w2, f2, n1, n2, n3⟩ : ∃ w f, (folderK u (bs c), w) ∈ L ∧ folderM nx (bs c) w = some f ∧ (mailO f d q.2).isSome = true := hok
        have m := (folder_meta h2).1 n2
        have hmm : metaM L (bs b) (bs c) = some (f2.val, f2.next) := by rw [e2]; exact (meta_iff hu).2 ⟨w2, n1, m.2.1⟩
        refine ⟨e1, (pairE_iff hmm).2 ⟨mailO_iff.1 n3, ?_⟩⟩
        rw [e2]
        refine Nat.le_trans (filter_le ?_) k4
        intro z hz2 hb
        obtain ⟨r, hr⟩ := begins_parts hus hb
        rcases K2 z hz2 with e | ⟨u2, ho2, _⟩
        · rw [e, show splitL 47 vK.data.toList = [[118]] from rfl] at hr
          cases hr
        · unfold ownerM at ho2
          unfold isMail
          rw [hr] at ho2 ⊢
          match r, ho2 with
          | [], ho2 => cases ho2
          | [_], ho2 => cases ho2
          | [_, _], _ => exact decide_eq_true ⟨rfl, rfl⟩
          | _ :: _ :: _ :: _, ho2 => cases ho2
  · intro H
    have HA : ∀ q ∈ L, q.1 ≠ vK → askG L nx q.2 (splitL 47 q.1.data.toList) := fun q hq hv => (pair_iff hv).1 (H q hq)
    have HF : ∀ (u c w : ByteArray), (47 : UInt8) ∉ u.data.toList → (47 : UInt8) ∉ c.data.toList → (folderK u c, w) ∈ L → (∃ f, folderM nx c w = some f) ∧ ∃ z ∈ L, z.1 = userK u := by
      intro u c w hus hcs hm
      have a := HA _ hm (folder_not u c)
      simp only [parts_folder hus hcs] at a
      obtain ⟨a1, a2, a3⟩ := pairF_iff.1 a.2
      have hmm : metaM L u c = metaV w := by
        unfold metaM
        rw [(getM_mem hu).2 hm]
        rfl
      have a3 : foldB nx w (metaM L u c) = true := a3
      rw [hmm, foldB_iff] at a3
      obtain ⟨p, p1, p2⟩ := a3
      exact ⟨⟨⟨c, p.1, p.2, []⟩, (folder_meta h2).2 ⟨a1, p1, p2, rfl⟩⟩, (get_some hu).1 a2⟩
    refine ⟨fun u hz => ?_, fun q hq => ?_⟩
    · obtain ⟨z, hz1, hz2⟩ := hz
      have a := HA z hz1 (by rw [hz2]; exact user_not u)
      rw [hz2, parts_of (c0 := 117) (rest := u.data.toList) (by simp [userK, ByteArray.data_append]) (by decide)] at a
      match hs : splitL 47 u.data.toList, a with
      | [], a => exact absurd hs (splitL_ne 47 _)
      | [b], a =>
        obtain ⟨_, _, a3⟩ := a
        obtain ⟨e1, hus⟩ := split_one hs
        have hbu : bs b = u := by rw [← e1]; exact data_bs u
        rw [← e1] at hus
        have a3 : (shortB (bs b) && shortB z.2 && (metaM L (bs b) inboxT).isSome) = true := a3
        rw [Bool.and_eq_true, Bool.and_eq_true, hbu] at a3
        obtain ⟨⟨a4, a5⟩, a6⟩ := a3
        rw [lay_iff h2 hu hus]
        refine ⟨fun q hq ho => ?_, ?_, ?_⟩
        · have hqv : q.1 ≠ vK := fun e => by rw [owner_v e] at ho; cases ho
          have aq := HA q hq hqv
          unfold ownerM at ho
          match hs2 : splitL 47 q.1.data.toList, ho, aq with
          | [a, b'], ho, aq =>
            obtain ⟨e3, e4⟩ := ite_some ho
            have a7 : (shortB (bs b') && shortB q.2 && (metaM L (bs b') inboxT).isSome) = true := aq.2.2
            rw [Bool.and_eq_true, Bool.and_eq_true] at a7
            exact ⟨a4, a7.1.2⟩
          | [a, b', c], ho, aq =>
            obtain ⟨e3, e4⟩ := ite_some ho
            subst e3
            obtain ⟨hk, hb', hc'⟩ := key_folder hs2
            exact (HF (bs b') (bs c) q.2 hb' hc' (by rw [← hk]; exact hq)).1
          | [a, b', c, d], ho, aq =>
            obtain ⟨e3, e4⟩ := ite_some ho
            subst e3
            obtain ⟨_, hb', hc'⟩ := key_mail hs2
            obtain ⟨p, hp⟩ := pairE_meta aq.2
            obtain ⟨w, w1, w2⟩ := (meta_iff hu).1 hp
            obtain ⟨f, hf⟩ := (HF (bs b') (bs c) w hb' hc' w1).1
            have m := (folder_meta h2).1 hf
            rw [w2] at m
            have hpn : p.2 = f.next := by have := m.2.1; cases this; rfl
            obtain ⟨n, n1⟩ := ((pairE_iff hp).1 aq.2).1
            rw [hpn] at n1
            exact ⟨w, f, by rw [← e4]; exact w1, hf, mailO_iff.2 ⟨n, n1⟩⟩
        · obtain ⟨p, hp⟩ := Option.isSome_iff_exists.1 a6
          obtain ⟨w, w1, w2⟩ := (meta_iff hu).1 hp
          obtain ⟨f, hf⟩ := (HF u inboxT w hus (by decide) w1).1
          exact ⟨w, f, w1, hf⟩
        · cases hl : L.filter (isMail u) with
          | nil => simp
          | cons q r =>
            have hq : q ∈ L.filter (isMail u) := by rw [hl]; exact List.mem_cons_self
            rw [List.mem_filter] at hq
            have ho := mail_owner hq.2
            have hqv : q.1 ≠ vK := fun e => by rw [owner_v e] at ho; cases ho
            have aq := HA q hq.1 hqv
            have hmq := hq.2
            unfold isMail at hmq
            rw [← hl]
            refine Nat.le_trans (filter_le fun x _ => mail_begins) ?_
            match hs2 : splitL 47 q.1.data.toList, hmq, aq with
            | [a, b', c, d], hmq, aq =>
              obtain ⟨_, e4⟩ := of_decide_eq_true hmq
              obtain ⟨p, hp⟩ := pairE_meta aq.2
              have h9 := ((pairE_iff hp).1 aq.2).2
              rw [e4] at h9
              exact h9
      | b :: c :: [], a => exact absurd a.1 (by decide)
      | b :: c :: d :: [], a => exact absurd a.1 (by decide)
      | _ :: _ :: _ :: _ :: _, a => exact a.elim
    · by_cases e : q.1 = vK
      · exact .inl e
      · right
        have aq := HA q hq e
        match hs : splitL 47 q.1.data.toList, aq with
        | [a, b], aq =>
          obtain ⟨e1, _, _⟩ := aq
          subst e1
          exact ⟨bs b, by unfold ownerM; rw [hs]; rfl, q, hq, (key_user hs).1⟩
        | [a, b, c], aq =>
          obtain ⟨e1, e2⟩ := aq
          subst e1
          exact ⟨bs b, by unfold ownerM; rw [hs]; rfl, (get_some hu).1 (pairF_iff.1 e2).2.1⟩
        | [a, b, c, d], aq =>
          obtain ⟨e1, e2⟩ := aq
          subst e1
          obtain ⟨_, hb', hc'⟩ := key_mail hs
          obtain ⟨p, hp⟩ := pairE_meta e2
          obtain ⟨w, w1, _⟩ := (meta_iff hu).1 hp
          exact ⟨bs b, by unfold ownerM; rw [hs]; rfl, (HF (bs b) (bs c) w hb' hc' w1).2⟩
theorem impl_store (L : List PM) : implB L = storeB L := by
  unfold implB storeB
  cases hp : pairsB (fK L) (fV L) L.length with
  | false => rfl
  | true =>
    have hg := good_of hp
    rw [Bool.true_and, Bool.true_and]
    cases hv : getM L vK with
    | none =>
      have h1 : nextM L = 0 := by unfold nextM; rw [hv]; rfl
      rw [h1]
      rfl
    | some v0 =>
      cases hn : numB v0.data.toList with
      | none =>
        have h1 : nextM L = 0 := by unfold nextM; rw [hv]; simp [hn]
        rw [h1, Option.getD_some, hn]
        rfl
      | some nx =>
        have h1 : nextM L = nx := by unfold nextM; rw [hv]; simp [hn]
        rw [h1, Option.getD_some, hn]
        show ((decide (1 ≤ nx) && decide (nx ≤ 10000)) && knownB L) = _
        by_cases h3 : 1 ≤ nx ∧ nx ≤ 10000
        · rw [store_eq hg hv hn h3.1 h3.2]
        · have h4 : (decide (1 ≤ nx) && decide (nx ≤ 10000)) = false := by
            rw [Bool.eq_false_iff]
            simp only [ne_eq, Bool.and_eq_true, decide_eq_true_eq]
            exact h3
          rw [h4]
          rfl
end Go.Proofs.YtbpgncgmolpkiaaGreatDoor
namespace Go.Proofs.YtbpgncgmolpkiaaGreatDoor
open Go.ChangeShapes Go.WideShapes Go.ChangeAt Go.RowKit Go.Deep Go.Lib
set_option linter.unusedVariables false
set_option linter.unusedSimpArgs false
set_option maxRecDepth 100000

theorem all_dx {α : Type} (d : α) (f : α → Bool) (L : List α) (k : Nat) (hk : k < L.length) : (L.drop k).all f = (f (L.getD k d) && (L.drop (k + 1)).all f) := by
  rw [List.drop_eq_getElem_cons hk, List.getD_eq_getElem?_getD, List.getElem?_eq_getElem hk]
  rfl
theorem all_de {α : Type} (f : α → Bool) (L : List α) (k : Nat) (hk : L.length ≤ k) : (L.drop k).all f = true := by
  rw [List.drop_of_length_le hk]
  rfl
abbrev smallT (s : ByteArray) : Bool := decide (s.size ≤ 65536)
def askM (L : List PM) (Ns : List ByteArray) : Int := if 4096 < L.length ∨ Ns.all smallT = false then 2 else if storeB L = false then 1 else if Ns.all shortB = false then 17 else 0
theorem ask_small {L : List PM} {Ns : List ByteArray} (h : ¬ 4096 < L.length) : askM L Ns = if Ns.all smallT = false then 2 else if storeB L = false then 1 else if Ns.all shortB = false then 17 else 0 := by
  unfold askM
  by_cases h9 : Ns.all smallT = false
  · rw [if_pos (.inr h9), if_pos h9]
  · have h8 : ¬ (4096 < L.length ∨ Ns.all smallT = false) := fun h7 => h7.elim h h9
    rw [if_neg h8, if_neg h9]

set_option maxHeartbeats 1000000 in
theorem allShortI (b : Option Addr) (m d : Nat) (Ns : List ByteArray) (w : World) (hN : Ns.length = m) (hm : m ≤ 100) (hz : ∀ s ∈ Ns, s.size ≤ 1048576) (h2 : Src w b (cellsS Ns)) (nb : Bool) (HNB : Hid (Ns.all shortB = nb)) :
    Calls Tryz.prog 59 #[.slice b m d] w fun e w' => e = .returned (.bool nb) ∧ Below w.heap.size w w' := by
  have HN : Hid (Ns.length = m) := hN
  have HT : Hid (Src w b (cellsS Ns)) := h2
  have HY : Hid (∀ s ∈ Ns, s.size ≤ 1048576) := hz
  have HB0 : Hid ((Ns.drop 0).all shortB = nb) := HNB.out
  clear hN h2 hz HNB
  go_enter Tryz.func59, Tryz.ntmps59
  go_wp2_with fail
  go_loopw [7] (fun iv wr => ∃ j : Nat, j ≤ m ∧ iv = .int .i64 (j : Int) ∧ Hid ((Ns.drop j).all shortB = nb) ∧ Hid (Below w.heap.size w wr)) (fun i _ => m - (RowKit.intOf i).toNat)
  case atStart => exact ⟨0, by omega, rfl, HB0.out, Below.refl _ _⟩
  case round =>
    obtain ⟨j, hj, rfl, hall, hbr⟩ := hrel
    by_cases hlt : j < m
    · have hltj : (j : Int) < (m : Int) := by omega
      have hkN : j < Ns.length := by rw [HN.out]; exact hlt
      obtain ⟨b', o', t, rfl, c1, hy⟩ := srcS (HT.out.below hbr.out) hkN
      have hts : t.size ≤ maxLen := by
        have := HY.out t (by rw [← hy.out]; exact mem_getD Ns e0 j hkN)
        unfold maxLen
        omega
      have HA := hall.out
      rw [all_dx e0 shortB Ns j hkN, hy.out] at HA
      obtain ⟨st, hst⟩ : ∃ x, shortB t = x := ⟨_, rfl⟩
      rw [hst] at HA
      have HA3 : Hid ((st && (Ns.drop (j + 1)).all shortB) = nb) := HA
      clear HA hall
      go_wp2_with fail
      refine (shortIs st t _ hst hts).mono ?_
      rintro e w5 ⟨rfl, hw5⟩
      obtain rfl := hw5
      cases st with
      | false =>
        obtain rfl : false = nb := HA3.out
        go_wp2_with fail
        go_ret
        exact ⟨rfl, hbr.out⟩
      | true =>
        have HA4 : Hid ((Ns.drop (j + 1)).all shortB = nb) := HA3
        go_wp2_with fail
        exact ⟨⟨j + 1, by omega, by go_num, HA4.out, hbr.out⟩, by simp [RowKit.intOf]; omega⟩
    · obtain rfl : j = m := by omega
      have hltj : ¬ (j : Int) < (j : Int) := by omega
      obtain rfl : true = nb := by rw [← hall.out, all_de _ _ _ (by rw [HN.out]; exact Nat.le_refl _)]
      clear hall
      go_wp2_with fail
      go_ret
      exact ⟨rfl, hbr.out⟩

set_option maxHeartbeats 4000000 in
theorem l07AskS (a : Option Addr) (n c : Nat) (L : List PM) (b : Option Addr) (m d : Nat) (Ns : List ByteArray) (w : World) (hL : L.length = n) (hn : n ≤ 1048576) (hs : ∀ x ∈ L, x.1.size ≤ 1048576 ∧ x.2.size ≤ 1048576) (h : Src w a (cellsP L)) (hN : Ns.length = m) (hm : m ≤ 100) (hz : ∀ s ∈ Ns, s.size ≤ 1048576) (h2 : Src w b (cellsS Ns)) (Q : Int) (HQ : Hid (askM L Ns = Q)) :
    Calls Tryz.prog 24 #[.slice a n c, .slice b m d] w fun e w' => e = .returned (.int .i64 Q) ∧ Below w.heap.size w w' := by
  have HL : Hid (L.length = n) := hL
  have HS : Hid (Src w a (cellsP L)) := h
  have HZ : Hid (∀ x ∈ L, x.1.size ≤ 1048576 ∧ x.2.size ≤ 1048576) := hs
  have HN : Hid (Ns.length = m) := hN
  have HT : Hid (Src w b (cellsS Ns)) := h2
  have HY : Hid (∀ s ∈ Ns, s.size ≤ 1048576) := hz

  clear hL h hs hN h2 hz
  by_cases hbig : 4096 < n
  · have HZQ : Hid (2 = Q) := by show _ = _; rw [← HQ.out]; unfold askM; rw [if_pos (.inl (by rw [HL.out]; exact hbig))]
    have hbi : (4096 : Int) < (n : Int) := by omega
    go_enter Tryz.func24, Tryz.ntmps24
    go_wp2_with fail
    go_ret
    exact ⟨ret_int HZQ.out, Below.refl _ _⟩
  have hbi : ¬ (4096 : Int) < (n : Int) := by omega
  have HQ1 : Hid ((if Ns.all smallT = false then 2 else if storeB L = false then 1 else if Ns.all shortB = false then 17 else 0) = Q) := by
    show _ = _
    rw [← HQ.out, ask_small (by rw [HL.out]; exact hbig)]
  clear HQ
  obtain ⟨sb, hsb⟩ : ∃ x, storeB L = x := ⟨_, rfl⟩
  have HSB : Hid (storeB L = sb) := hsb
  rw [hsb] at HQ1
  clear hsb
  obtain ⟨tb, htb⟩ : ∃ x, Ns.all smallT = x := ⟨_, rfl⟩
  obtain ⟨nb, hnb⟩ : ∃ x, Ns.all shortB = x := ⟨_, rfl⟩
  rw [htb, hnb] at HQ1
  have HTB : Hid ((Ns.drop 0).all smallT = tb) := htb
  have HNB : Hid ((Ns.drop 0).all shortB = nb) := hnb
  clear htb hnb
  go_enter Tryz.func24, Tryz.ntmps24
  go_wp2_with fail
  go_loopw [5] (fun iv wr => ∃ k : Nat, k ≤ m ∧ iv = .int .i64 (k : Int) ∧ Hid ((Ns.drop k).all smallT = tb) ∧ Hid (Below w.heap.size w wr)) (fun i _ => m - (RowKit.intOf i).toNat)
  case atStart => exact ⟨0, by omega, rfl, HTB.out, Below.refl _ _⟩
  case round =>
    obtain ⟨k, hk, rfl, hall, hbr⟩ := hrel
    by_cases hlt : k < m
    · have hlti : (k : Int) < (m : Int) := by omega
      have hkN : k < Ns.length := by rw [HN.out]; exact hlt
      obtain ⟨b', o', t, rfl, c1, hy⟩ := srcS (HT.out.below hbr.out) hkN
      have hts : t.size ≤ 1048576 := HY.out t (by rw [← hy.out]; exact mem_getD Ns e0 k hkN)
      have HA := hall.out
      rw [all_dx e0 smallT Ns k hkN, hy.out] at HA
      by_cases hbt : 65536 < t.size
      · have hbti : (65536 : Int) < (t.size : Int) := by omega
        rw [show smallT t = false from decide_eq_false (by omega), Bool.false_and] at HA
        have HZQ : Hid (2 = Q) := by show _ = _; rw [← HQ1.out, ← HA]; rfl
        clear HA hall
        go_wp2_with fail
        go_ret
        exact ⟨ret_int HZQ.out, hbr.out⟩
      · have hbti : ¬ (65536 : Int) < (t.size : Int) := by omega
        rw [show smallT t = true from decide_eq_true (by omega), Bool.true_and] at HA
        have HA2 : Hid ((Ns.drop (k + 1)).all smallT = tb) := HA
        clear HA hall
        go_wp2_with fail
        exact ⟨⟨k + 1, by omega, by go_num, HA2.out, hbr.out⟩, by simp [RowKit.intOf]; omega⟩
    · obtain rfl : k = m := by omega
      have hlti : ¬ (k : Int) < (k : Int) := by omega
      obtain rfl : true = tb := by rw [← hall.out, all_de _ _ _ (by rw [HN.out]; exact Nat.le_refl _)]
      have HQ2 : Hid ((if sb = false then 1 else if nb = false then 17 else 0) = Q) := by show _ = _; rw [← HQ1.out]; rfl
      clear hall HTB HQ1
      go_wp2_with fail
      refine (specMailStoreOK _ n c L _ HL.out hn HZ.out (HS.out.below hbr.out) sb HSB).mono ?_
      rintro e w3 ⟨rfl, hb3⟩
      have B3 : Hid (Below w.heap.size w w3) := hbr.out.trans (hb3.mono hbr.out.size)
      clear hb3
      cases sb with
      | false =>
        have HZQ : Hid (1 = Q) := by show _ = _; rw [← HQ2.out]; rfl
        go_wp2_with fail
        go_ret
        exact ⟨ret_int HZQ.out, B3.out⟩
      | true =>
        have HQ3 : Hid ((if nb = false then 17 else 0) = Q) := by show _ = _; rw [← HQ2.out]; rfl
        clear hbr
        go_wp2_with fail
        go_loopw [6] (fun iv wr => ∃ j : Nat, j ≤ k ∧ iv = .int .i64 (j : Int) ∧ Hid ((Ns.drop j).all shortB = nb) ∧ Hid (Below w.heap.size w wr)) (fun i _ => k - (RowKit.intOf i).toNat)
        case atStart => exact ⟨0, by omega, rfl, HNB.out, B3.out⟩
        case round =>
          obtain ⟨j, hj, rfl, hall, hbr⟩ := hrel
          by_cases hlt : j < k
          · have hltj : (j : Int) < (k : Int) := by omega
            have hkN : j < Ns.length := by rw [HN.out]; exact hlt
            obtain ⟨b', o', t, rfl, c1, hy⟩ := srcS (HT.out.below hbr.out) hkN
            have hts : t.size ≤ maxLen := by
              have := HY.out t (by rw [← hy.out]; exact mem_getD Ns e0 j hkN)
              unfold maxLen
              omega
            have HA := hall.out
            rw [all_dx e0 shortB Ns j hkN, hy.out] at HA
            obtain ⟨st, hst⟩ : ∃ x, shortB t = x := ⟨_, rfl⟩
            rw [hst] at HA
            have HA3 : Hid ((st && (Ns.drop (j + 1)).all shortB) = nb) := HA
            clear HA hall
            go_wp2_with fail
            refine (l04Is st t _ hst hts).mono ?_
            rintro e w5 ⟨rfl, hw5⟩
            obtain rfl := hw5
            cases st with
            | false =>
              have HZQ : Hid (17 = Q) := by show _ = _; rw [← HQ3.out, ← HA3.out]; rfl
              go_wp2_with fail
              go_ret
              exact ⟨ret_int HZQ.out, hbr.out⟩
            | true =>
              have HA4 : Hid ((Ns.drop (j + 1)).all shortB = nb) := HA3
              go_wp2_with fail
              exact ⟨⟨j + 1, by omega, by go_num, HA4.out, hbr.out⟩, by simp [RowKit.intOf]; omega⟩
          · obtain rfl : j = k := by omega
            have hltj : ¬ (j : Int) < (j : Int) := by omega
            obtain rfl : true = nb := by rw [← hall.out, all_de _ _ _ (by rw [HN.out]; exact Nat.le_refl _)]
            have HZQ : Hid (0 = Q) := by show _ = _; rw [← HQ3.out]; rfl
            clear hall
            go_wp2_with fail
            go_ret
            exact ⟨ret_int HZQ.out, hbr.out⟩

set_option maxHeartbeats 4000000 in
theorem mailFaultI (a : Option Addr) (n c : Nat) (L : List PM) (b : Option Addr) (m d : Nat) (Ns : List ByteArray) (w : World) (hL : L.length = n) (hn : n ≤ 1048576) (hs : ∀ x ∈ L, x.1.size ≤ 1048576 ∧ x.2.size ≤ 1048576) (h : Src w a (cellsP L)) (hN : Ns.length = m) (hm : m ≤ 100) (hz : ∀ s ∈ Ns, s.size ≤ 1048576) (h2 : Src w b (cellsS Ns)) (hG : Gl w) (h8 : 8 ≤ w.heap.size) (Q : Int) (HQ : Hid (askM L Ns = Q)) :
    Calls Tryz.prog 28 #[.slice a n c, .slice b m d] w fun e w' => e = .returned (.int .i64 Q) ∧ Below w.heap.size w w' := by
  have HL : Hid (L.length = n) := hL
  have HS : Hid (Src w a (cellsP L)) := h
  have HZ : Hid (∀ x ∈ L, x.1.size ≤ 1048576 ∧ x.2.size ≤ 1048576) := hs
  have HN : Hid (Ns.length = m) := hN
  have HT : Hid (Src w b (cellsS Ns)) := h2
  have HY : Hid (∀ s ∈ Ns, s.size ≤ 1048576) := hz
  have HG : Hid (Gl w) := hG
  clear hL h hs hN h2 hz hG
  by_cases hbig : 4096 < n
  · have HZQ : Hid (2 = Q) := by show _ = _; rw [← HQ.out]; unfold askM; rw [if_pos (.inl (by rw [HL.out]; exact hbig))]
    have hbi : (4096 : Int) < (n : Int) := by omega
    go_enter Tryz.func28, Tryz.ntmps28
    go_wp2_with fail
    go_ret
    exact ⟨ret_int HZQ.out, Below.refl _ _⟩
  have hbi : ¬ (4096 : Int) < (n : Int) := by omega
  have HQ1 : Hid ((if Ns.all smallT = false then 2 else if storeB L = false then 1 else if Ns.all shortB = false then 17 else 0) = Q) := by
    show _ = _
    rw [← HQ.out, ask_small (by rw [HL.out]; exact hbig)]
  clear HQ
  obtain ⟨sb, hsb⟩ : ∃ x, storeB L = x := ⟨_, rfl⟩
  have HSB : Hid (storeB L = sb) := hsb
  rw [hsb] at HQ1
  clear hsb
  obtain ⟨tb, htb⟩ : ∃ x, Ns.all smallT = x := ⟨_, rfl⟩
  obtain ⟨nb, hnb⟩ : ∃ x, Ns.all shortB = x := ⟨_, rfl⟩
  rw [htb, hnb] at HQ1
  have HTB : Hid ((Ns.drop 0).all smallT = tb) := htb
  have HNB : Hid ((Ns.drop 0).all shortB = nb) := hnb
  clear htb hnb
  go_enter Tryz.func28, Tryz.ntmps28
  go_wp2_with fail
  go_loopw [12] (fun iv wr => ∃ k : Nat, k ≤ m ∧ iv = .int .i64 (k : Int) ∧ Hid ((Ns.drop k).all smallT = tb) ∧ Hid (Below w.heap.size w wr)) (fun i _ => m - (RowKit.intOf i).toNat)
  case atStart => exact ⟨0, by omega, rfl, HTB.out, Below.refl _ _⟩
  case round =>
    obtain ⟨k, hk, rfl, hall, hbr⟩ := hrel
    by_cases hlt : k < m
    · have hlti : (k : Int) < (m : Int) := by omega
      have hkN : k < Ns.length := by rw [HN.out]; exact hlt
      obtain ⟨b', o', t, rfl, c1, hy⟩ := srcS (HT.out.below hbr.out) hkN
      have hts : t.size ≤ 1048576 := HY.out t (by rw [← hy.out]; exact mem_getD Ns e0 k hkN)
      have HA := hall.out
      rw [all_dx e0 smallT Ns k hkN, hy.out] at HA
      by_cases hbt : 65536 < t.size
      · have hbti : (65536 : Int) < (t.size : Int) := by omega
        rw [show smallT t = false from decide_eq_false (by omega), Bool.false_and] at HA
        have HZQ : Hid (2 = Q) := by show _ = _; rw [← HQ1.out, ← HA]; rfl
        clear HA hall
        go_wp2_with fail
        go_ret
        exact ⟨ret_int HZQ.out, hbr.out⟩
      · have hbti : ¬ (65536 : Int) < (t.size : Int) := by omega
        rw [show smallT t = true from decide_eq_true (by omega), Bool.true_and] at HA
        have HA2 : Hid ((Ns.drop (k + 1)).all smallT = tb) := HA
        clear HA hall
        go_wp2_with fail
        exact ⟨⟨k + 1, by omega, by go_num, HA2.out, hbr.out⟩, by simp [RowKit.intOf]; omega⟩
    · obtain rfl : k = m := by omega
      have hlti : ¬ (k : Int) < (k : Int) := by omega
      obtain rfl : true = tb := by rw [← hall.out, all_de _ _ _ (by rw [HN.out]; exact Nat.le_refl _)]
      have HQ2 : Hid ((if sb = false then 1 else if nb = false then 17 else 0) = Q) := by show _ = _; rw [← HQ1.out]; rfl
      clear hall HTB HQ1
      go_wp2_with fail
      refine (implMailStoreOK _ n c L _ HL.out hn HZ.out (HS.out.below hbr.out) (HG.out.below h8 hbr.out) (by have := hbr.out.size; omega) sb ((impl_store L).trans HSB.out)).mono ?_
      rintro e w3 ⟨rfl, hb3⟩
      have B3 : Hid (Below w.heap.size w w3) := hbr.out.trans (hb3.mono hbr.out.size)
      clear hb3
      cases sb with
      | false =>
        have HZQ : Hid (1 = Q) := by show _ = _; rw [← HQ2.out]; rfl
        go_wp2_with fail
        go_ret
        exact ⟨ret_int HZQ.out, B3.out⟩
      | true =>
        have HQ3 : Hid ((if nb = false then 17 else 0) = Q) := by show _ = _; rw [← HQ2.out]; rfl
        have CS := allShortI b k d Ns w3 HN.out hm HY.out (HT.out.below B3.out) nb HNB
        clear hbr
        go_wp2_with fail
        refine CS.mono ?_
        rintro e w5 ⟨rfl, hb5⟩
        have B5 : Hid (Below w.heap.size w w5) := B3.out.trans (hb5.mono B3.out.size)
        clear hb5 CS
        cases nb with
        | false =>
          have HZQ : Hid (17 = Q) := by show _ = _; rw [← HQ3.out]; rfl
          go_wp2_with fail
          go_ret
          exact ⟨ret_int HZQ.out, B5.out⟩
        | true =>
          have HZQ : Hid (0 = Q) := by show _ = _; rw [← HQ3.out]; rfl
          go_wp2_with fail
          go_ret
          exact ⟨ret_int HZQ.out, B5.out⟩
end Go.Proofs.YtbpgncgmolpkiaaGreatDoor
namespace Go.Proofs.YtbpgncgmolpkiaaGreatDoor
open Go.ChangeShapes Go.WideShapes Go.ChangeAt Go.RowKit Go.Deep Go.Lib
set_option linter.unusedVariables false
set_option linter.unusedSimpArgs false
set_option maxRecDepth 100000

theorem take_word {nx : Int} {u : ByteArray} {S S' : SM} {q : PM} (hus : (47 : UInt8) ∉ u.data.toList) (h : takeM nx u S q = some S') : S'.word = if q.1 = userK u then q.2 else S.word := by
  by_cases ho : ownerM q = some u
  · unfold takeM at h
    unfold ownerM at ho
    match hG : splitL 47 q.1.data.toList, ho, h with
    | [a, b], ho, h =>
      obtain ⟨h1, h2⟩ := ite_some ho
      subst h1
      have h3 : takeP nx u S q [[117], b] = userM u S q.2 := if_pos ⟨h2, rfl⟩
      rw [h3] at h
      unfold userM at h
      obtain ⟨_, rfl⟩ := ite_some h
      rw [if_pos (by rw [(key_user hG).1, h2])]
    | [a, b, c], ho, h =>
      obtain ⟨h1, h2⟩ := ite_some ho
      have h3 : takeP nx u S q [a, b, c] = putM S (folderM nx (bs c) q.2) := if_pos ⟨h2, h1⟩
      rw [h3] at h
      rw [(put_aside h).2, if_neg fun e => by rw [e, parts_user hus] at hG; cases hG]
    | [a, b, c, d], ho, h =>
      obtain ⟨h1, h2⟩ := ite_some ho
      have h3 : takeP nx u S q [a, b, c, d] = putM S (mailM S.fs (bs c) (bs d) q.2) := if_pos ⟨h2, h1⟩
      rw [h3] at h
      rw [(put_aside h).2, if_neg fun e => by rw [e, parts_user hus] at hG; cases hG]
  · have h3 : asideM S q = some S' := (take_other ho).symm.trans h
    cases h3
    rw [if_neg fun e => ho (by unfold ownerM; rw [e, parts_user hus]; rfl)]
theorem all_word {nx : Int} {u : ByteArray} (hus : (47 : UInt8) ∉ u.data.toList) : ∀ {L : List PM} {S S' : SM}, UpL L → takeAll nx u S L = some S' → S'.word = (getM L (userK u)).getD S.word
  | [], S, S', _, h => by cases h; rfl
  | q :: L, S, S', hu, h => by
    unfold takeAll at h
    obtain ⟨S1, h1, h2⟩ := Option.bind_eq_some_iff.1 h
    obtain ⟨u1, u2⟩ := List.pairwise_cons.1 hu
    have hgm : getM (q :: L) (userK u) = if q.1 = userK u then some q.2 else getM L (userK u) := rfl
    rw [all_word hus u2 h2, take_word hus h1, hgm]
    by_cases e : q.1 = userK u
    · have h3 : getM L (userK u) = none := getM_none.2 fun x hx e9 => by
        have h9 := u1 x hx
        rw [e, e9] at h9
        exact ltK_irrefl _ h9
      rw [if_pos e, if_pos e, h3]
      rfl
    · rw [if_neg e, if_neg e]
theorem word_slash {u : ByteArray} (h : shortB u = true) : (47 : UInt8) ∉ u.data.toList := by
  unfold shortB wordB at h
  simp only [Bool.and_eq_true, decide_eq_true_eq] at h
  obtain ⟨⟨⟨⟨h1, _⟩, h2⟩, h3⟩, _⟩ := h
  match hd : u.data.toList with
  | [] => simp
  | c :: r =>
    rw [hd] at h2
    unfold okFrom at h3
    rw [hd] at h3
    rw [List.all_eq_true] at h3
    intro h9
    rcases List.mem_cons.1 h9 with h9 | h9
    · rw [← h9] at h2
      have h2 : letB (((47 : UInt8).toNat : Nat) : Int) = true := h2
      exact absurd h2 (by decide)
    · exact absurd (h3 47 (by simpa using h9)) (by decide)
/-- The facts that a right mail store gives. -/
theorem store_facts {L : List PM} (h : storeB L = true) : GoodL L ∧ ∃ nx, nx = nextM L ∧ 1 ≤ nx ∧ nx ≤ 10000 ∧ inB (numB ((getM L vK).getD e0).data.toList) 1 10000 = true ∧ (∀ u, (∃ q ∈ L, q.1 = userK u) → layF nx u S0 L = true) ∧ ∀ q ∈ L, q.1 = vK ∨ ∃ u, ownerM q = some u ∧ ∃ z ∈ L, z.1 = userK u := by
  have h2 : implB L = true := (impl_store L).trans h
  unfold implB at h2
  rw [Bool.and_eq_true, Bool.and_eq_true] at h2
  obtain ⟨h3, h4, h5⟩ := h2
  have hg := good_of h3
  cases hv : getM L vK with
  | none => rw [hv] at h4; exact absurd h4 (by decide)
  | some v0 =>
    have h4' := h4
    rw [hv, Option.getD_some] at h4
    cases hn : numB v0.data.toList with
    | none => rw [hn] at h4; cases h4
    | some nx =>
      have hnm : nx = nextM L := by unfold nextM; rw [hv]; simp [hn]
      rw [hn] at h4
      have h6 : (decide (1 ≤ nx) && decide (nx ≤ 10000)) = true := h4
      rw [Bool.and_eq_true, decide_eq_true_eq, decide_eq_true_eq] at h6
      obtain ⟨k1, k2⟩ := (known_iff hnm hg.2.2 ⟨_, (getM_mem hg.2.2).1 hv, rfl⟩).1 h5
      rw [hv] at h4'
      exact ⟨hg, nx, hnm, h6.1, h6.2, h4', k1, k2⟩
theorem take_all {L : List PM} {u : ByteArray} (h : storeB L = true) (hus : (47 : UInt8) ∉ u.data.toList) : ∃ S, takeAll (nextM L) u S0 L = some S ∧ S.word = (getM L (userK u)).getD e0 ∧ Inv (nextM L) u L S := by
  obtain ⟨hg, nx, hnm, _, h2, _, k1, k2⟩ := store_facts h
  rw [← hnm]
  have hI : Inv nx u [] S0 := ⟨fun name f' hf => (by cases hf), fun name w _ hm => (by cases hm), rfl⟩
  obtain ⟨m1, m2⟩ := all_step h2 hg.2.2 hus L [] S0 rfl hI
  have hs : (takeAll nx u S0 L).isSome = true := m1.2 fun q hq ho => by
    rcases k2 q hq with e | ⟨u2, ho2, hz⟩
    · rw [owner_v e] at ho; cases ho
    · rw [ho] at ho2
      cases ho2
      exact ((lay_iff h2 hg.2.2 hus).1 (k1 u hz)).1 q hq ho
  obtain ⟨S, hS⟩ := Option.isSome_iff_exists.1 hs
  exact ⟨S, hS, all_word hus hg.2.2 hS, m2 S hS⟩
theorem word_some {L : List PM} (h : storeB L = true) {u v : ByteArray} (hus : (47 : UInt8) ∉ u.data.toList) (hv : getM L (userK u) = some v) : v.toList ≠ [] := by
  obtain ⟨hg, nx, hnm, _, h2, _, k1, k2⟩ := store_facts h
  have hm := (getM_mem hg.2.2).1 hv
  have h3 := ((lay_iff h2 hg.2.2 hus).1 (k1 u ⟨_, hm, rfl⟩)).1 _ hm (by unfold ownerM; rw [parts_user hus]; rfl)
  have h4 : shortB v = true := by
    simp only [parts_user hus] at h3
    exact h3.2
  intro e
  rw [ByteArray.toList_eq] at e
  have h5 : v = ⟨#[]⟩ := bs_inj e
  rw [h5] at h4
  exact absurd h4 (by decide)
end Go.Proofs.YtbpgncgmolpkiaaGreatDoor
namespace Go.Proofs.YtbpgncgmolpkiaaGreatDoor
open Go.ChangeShapes Go.WideShapes Go.ChangeAt Go.RowKit Go.Deep Go.Lib
set_option linter.unusedVariables false
set_option linter.unusedSimpArgs false
set_option maxRecDepth 100000

theorem src_1S {w : World} {s : ByteArray} {B ty : Nat} (hB : B = w.heap.size) : Src (w.alloc (.cells #[.string s] ty)) (some ⟨B, 0, none⟩) (cellsS [s]) := by
  have hb : Box (w.alloc (.cells #[.string s] ty)) B [.string s] := Box.new hB
  refine .inr ⟨B, 0, rfl, fun j hj => ?_⟩
  have hj4 : j < 1 := hj
  rw [Nat.zero_add]
  match j, hj4 with
  | 0, _ => exact (hb 0 _ rfl).1
def lackM (wd : ByteArray) (fs : List FM) (Ns : List ByteArray) : Int := if wd.toList = [] then 15 else if Ns.all (fun s => (lookF s fs).isSome) = false then 16 else 0
set_option maxHeartbeats 2000000 in
theorem lacksI (w : World) (M : Nat) (a : Option Addr) (n c : Nat) (nx : Int) (u : ByteArray) (S : SM) (k0 : Nat) (hS : StAt w M a n c nx u S k0) (hu : u.size ≤ 1000) (b : Option Addr) (m d : Nat) (Ns : List ByteArray) (hN : Ns.length = m) (hm : m ≤ 100) (hz : ∀ s ∈ Ns, s.size ≤ 1048576) (h2 : Src w b (cellsS Ns)) (Q : Int) (HQ : Hid (lackM S.word S.fs Ns = Q)) :
    Calls Tryz.prog 35 #[.pointer (some ⟨M + 1, 0, none⟩), .slice b m d] w fun e w' => e = .returned (.int .i64 Q) ∧ Below w.heap.size w w' := by
  obtain ⟨va, X, hD, hV, _⟩ := hS
  obtain ⟨e4a, _⟩ := hD.1 4 _ rfl
  obtain ⟨wd, hwd⟩ : ∃ t, S.word = t := ⟨_, rfl⟩
  have e4 : w.cell? ⟨M + 1, 4, none⟩ = some (.string wd) := by rw [← hwd]; exact e4a
  rw [hwd] at HQ
  clear e4a
  by_cases hw : wd.toList = []
  · have HZ : Hid (15 = Q) := by show _ = _; rw [← HQ.out]; unfold lackM; rw [if_pos hw]
    clear hD hV h2 hz
    go_enter Tryz.func35, Tryz.ntmps35
    go_wp2_with fail
    go_ret
    exact ⟨ret_int HZ.out, Below.refl _ _⟩
  have hwb : (wd.toList == []) = false := beq_eq_false_iff_ne.2 hw
  obtain ⟨nb, hnb⟩ : ∃ x, Ns.all (fun s => (lookF s S.fs).isSome) = x := ⟨_, rfl⟩
  have HQ1 : Hid ((if nb = false then 16 else 0) = Q) := by show _ = _; rw [← HQ.out]; unfold lackM; rw [if_neg hw, hnb]
  have HNB : Hid ((Ns.drop 0).all (fun s => (lookF s S.fs).isSome) = nb) := hnb
  have HD : Hid (DeskAt w M ⟨a, n, c, va, S.aside, nx, u, S.word, X⟩) := hD
  have HV : Hid (View u X S.fs) := hV
  have HN : Hid (Ns.length = m) := hN
  have HT : Hid (Src w b (cellsS Ns)) := h2
  have HY : Hid (∀ s ∈ Ns, s.size ≤ 1048576) := hz
  clear hnb hD hV hN h2 hz HQ hwd
  go_enter Tryz.func35, Tryz.ntmps35
  go_wp2_with fail
  go_loopw [14] (fun iv wr => ∃ j : Nat, j ≤ m ∧ iv = .int .i64 (j : Int) ∧ Hid ((Ns.drop j).all (fun s => (lookF s S.fs).isSome) = nb) ∧ Hid (Below w.heap.size w wr)) (fun i _ => m - (RowKit.intOf i).toNat)
  case atStart => exact ⟨0, by omega, rfl, HNB.out, Below.refl _ _⟩
  case round =>
    obtain ⟨j, hj, rfl, hall, hbr⟩ := hrel
    by_cases hlt : j < m
    · have hltj : (j : Int) < (m : Int) := by omega
      have hkN : j < Ns.length := by rw [HN.out]; exact hlt
      obtain ⟨b', o', t, rfl, c1, hy⟩ := srcS (HT.out.below hbr.out) hkN
      have hts : t.size ≤ 1048576 := HY.out t (by rw [← hy.out]; exact mem_getD Ns e0 j hkN)
      have HA := hall.out
      rw [all_dx e0 _ Ns j hkN, hy.out] at HA
      obtain ⟨st, hst⟩ : ∃ x, (lookF t S.fs).isSome = x := ⟨_, rfl⟩
      rw [hst] at HA
      have HA3 : Hid ((st && (Ns.drop (j + 1)).all (fun s => (lookF s S.fs).isSome)) = nb) := HA
      have CH := hasI t wr M _ hts (by show u.size ≤ 1048576; omega) (HD.out.later hbr.out) st (HV.out.some t st hst)
      clear HA hall hst
      go_wp2_with fail
      refine CH.mono ?_
      rintro e w5 ⟨rfl, hb5⟩
      have B5 : Hid (Below w.heap.size w w5) := hbr.out.trans (hb5.mono hbr.out.size)
      clear hb5 CH
      cases st with
      | false =>
        have HZ : Hid (16 = Q) := by show _ = _; rw [← HQ1.out, ← HA3.out]; rfl
        go_wp2_with fail
        go_ret
        exact ⟨ret_int HZ.out, B5.out⟩
      | true =>
        have HA4 : Hid ((Ns.drop (j + 1)).all (fun s => (lookF s S.fs).isSome) = nb) := HA3
        go_wp2_with fail
        exact ⟨⟨j + 1, by omega, by go_num, HA4.out, B5.out⟩, by simp [RowKit.intOf]; omega⟩
    · obtain rfl : j = m := by omega
      have hltj : ¬ (j : Int) < (j : Int) := by omega
      obtain rfl : true = nb := by rw [← hall.out, all_de _ _ _ (by rw [HN.out]; exact Nat.le_refl _)]
      have HZ : Hid (0 = Q) := by show _ = _; rw [← HQ1.out]; rfl
      clear hall
      go_wp2_with fail
      go_ret
      exact ⟨ret_int HZ.out, hbr.out⟩
theorem deskWithI (a : Option Addr) (n c : Nat) (L : List PM) (u : ByteArray) (w : World) (hL : L.length = n) (h : Src w a (cellsP L)) (hG : Gl w) (h8 : 8 ≤ w.heap.size) (hst : storeB L = true) (hus : (47 : UInt8) ∉ u.data.toList) (hu : u.size ≤ 1000) :
    Calls Tryz.prog 29 #[.slice a n c, .string u] w fun e w' => ∃ M S, e = .returned (.pointer (some ⟨M + 1, 0, none⟩)) ∧ takeAll (nextM L) u S0 L = some S ∧ StAt w' M a n c (nextM L) u S n ∧ w.heap.size ≤ M ∧ Below w.heap.size w w' := by
  obtain ⟨hg, nx0, hnm, n1, n2, hin, _, _⟩ := store_facts hst
  obtain ⟨S, hS, _⟩ := take_all hst hus
  have HS : Hid (takeAll (nextM L) u S0 L = some S) := hS
  have CD := deskI a n c L w hL hg h hG h8 true hin
  have HF : Hid (GoodL L ∧ L.length = n ∧ Src w a (cellsP L) ∧ Gl w ∧ inB (numB ((getM L vK).getD e0).data.toList) 1 10000 = true) := ⟨hg, hL, h, hG, hin⟩
  clear hg hL h hG hin hst hS hnm
  go_enter Tryz.func29, Tryz.ntmps29
  go_wp2_with fail
  refine CD.mono ?_
  rintro e w1 ⟨nx, M, rfl, hnp, hM, hdk, hb1⟩
  obtain ⟨hnx, hnx1⟩ := in_next HF.out.2.2.2.2 hnp
  subst hnx
  have CL := layI u w1 M a n c _ _ _ _ _ _ L hdk HF.out.2.1 HF.out.1 (fun W hW => HF.out.2.2.1.below (hb1.trans (hW.mono hM))) (HF.out.2.2.2.1.below h8 hb1) (by omega) hu hnx1 _ rfl
  have B1 : Hid (Below w.heap.size w w1) := hb1
  obtain ⟨lb, hlb⟩ : ∃ x, layF (nextM L) u S0 L = x := ⟨_, rfl⟩
  rw [hlb] at CL
  clear hb1 hdk hnp CD hlb
  go_wp2_with fail
  refine CL.mono ?_
  rintro e w2 ⟨rfl, hst2, hb2⟩
  have HST : Hid (StAt w2 M a n c (nextM L) u S n) := (hst2 S HS.out).1
  have B2 : Hid (Below w.heap.size w w2) := B1.out.trans (hb2.mono hM)
  clear hst2 hb2 CL
  go_wp2_with fail
  go_ret
  exact ⟨M, S, rfl, HS.out, HST.out, hM, B2.out⟩
def passG (o : Option ByteArray) : ByteArray × Int := match o with
  | some v => (v, 0)
  | none => (⟨#[]⟩, 15)
def passM (L : List PM) (u : ByteArray) : ByteArray × Int := if askM L [u] = 0 then passG (getM L (userK u)) else (⟨#[]⟩, askM L [u])
theorem ask_zero {L : List PM} {u : ByteArray} (h : askM L [u] = 0) : storeB L = true ∧ shortB u = true := by
  unfold askM at h
  split at h
  · cases h
  · split at h
    · cases h
    · rename_i h1
      split at h
      · cases h
      · rename_i h2
        refine ⟨by simpa using h1, ?_⟩
        simpa using h2
theorem ret_word {a b : ByteArray} {k l : Int} (h1 : a = b) (h2 : k = l) : Ending.returned (.tuple #[.string a, .int .i64 k]) = .returned (.tuple #[.string b, .int .i64 l]) := by rw [h1, h2]
theorem short_size {u : ByteArray} (h : shortB u = true) : u.size ≤ 8 := by
  unfold shortB at h
  rw [Bool.and_eq_true, decide_eq_true_eq] at h
  exact h.2
end Go.Proofs.YtbpgncgmolpkiaaGreatDoor
namespace Go.Proofs.YtbpgncgmolpkiaaGreatDoor
open Go.ChangeShapes Go.WideShapes Go.ChangeAt Go.RowKit Go.Deep Go.Lib
set_option linter.unusedVariables false
set_option linter.unusedSimpArgs false
set_option maxRecDepth 100000

abbrev mailK (u f : ByteArray) (n : Int) : ByteArray := bs (109 :: 47 :: (u.data.toList ++ 47 :: (f.data.toList ++ 47 :: d3 n.toNat)))
def mailV (m : MMl) : ByteArray := bs (itoa m.2.1) ++ m.2.2
def mailP (u f : ByteArray) (m : MMl) : PM := (mailK u f m.1, mailV m)
def fPairs (u : ByteArray) (f : FM) : List PM := (folderK u f.name, metaT f.val f.next) :: f.mails.map (mailP u f.name)
/-- A folder whose numbers are small. -/
def FitF (f : FM) : Prop := 0 ≤ f.val ∧ f.val ≤ 10000 ∧ 0 ≤ f.next ∧ f.next ≤ 10000 ∧ f.name.size ≤ 1000 ∧ ∀ m ∈ f.mails, 0 ≤ m.1 ∧ m.1 < 1000 ∧ 0 ≤ m.2.1 ∧ m.2.1 ≤ 3 ∧ m.2.2.size ≤ 1000
theorem own_lit {w : World} {base t s n B : Nat} {cs : Array Value} {xs : List Value} (hB : B = w.heap.size) (hb : base ≤ w.heap.size) (hc : cs.toList = xs) (hl : xs.length = n * s) (hm : n ≤ 65536) : (w.alloc (.cells cs t)).ownsRow base t s (.slice (some ⟨B, 0, none⟩) n n) n xs := by
  subst hB
  have hsz : cs.size = n * s := by rw [← Array.length_toList, hc, hl]
  refine ⟨hl, .inr ⟨w.heap.size, n, cs, rfl, hb, heap_alloc_new _ _, Nat.le_refl _, by unfold maxLen; omega, hsz, ?_⟩⟩
  rw [hc, List.take_of_length_le (by omega)]
theorem itoaI (n : Int) (h0 : 0 ≤ n) (h1 : n ≤ 10000) (w : World) (hg : Gl w) : Calls Tryz.prog 69 #[.int .i64 n] w fun e w' => e = .returned (.string (bs (itoa n))) ∧ Below w.heap.size w w' := by
  refine (Tryz.strconv_Itoa n (by omega) (by omega) w hg.2.2.2).mono ?_
  rintro e w1 ⟨rfl, k, os, hw1⟩
  exact ⟨rfl, by rw [hw1]; exact below_grow' w k os⟩
theorem trim_f (t : ByteArray) (w : World) : ∃ q : ByteArray, q.data.toList = trimPrefix t.data.toList [102] ∧ Calls Tryz.prog 122 #[.string t, .string ⟨#[102]⟩] w fun e w' => e = .returned (.string q) ∧ w' = w :=
  ⟨_, rfl, Tryz.strings_TrimPrefix t ⟨#[102]⟩ w⟩
theorem size_of {q : ByteArray} : q.size = q.data.toList.length := by simp
set_option maxHeartbeats 1000000 in
theorem mailKeyI (u f : ByteArray) (n : Nat) (hn : n < 1000) (hu : u.size ≤ 1000) (hf : f.size ≤ 1000) (w : World) (hg : Gl w) : Calls Tryz.prog 102 #[.string (folderK u f), .int .i64 (n : Int)] w fun e w' => e = .returned (.string (mailK u f (n : Int))) ∧ Below w.heap.size w w' := by
  obtain ⟨q, hq, CT⟩ := trim_f (folderK u f) w
  have hqd : q.data.toList = 47 :: (u.data.toList ++ 47 :: f.data.toList) := by
    rw [hq, folderK_data]
    simp [trimPrefix, hasPrefix, List.isPrefixOf]
  have hqs : q.size ≤ 2100 := by
    rw [size_of, hqd]
    rw [size_of] at hu hf
    simp only [List.length_cons, List.length_append]
    omega
  have CU := uidTextI n hn w hg
  have hts : (bs (d3 n)).size = 3 := by rw [size_of]; exact (d3_is n hn).1
  obtain ⟨t, ht⟩ : ∃ t, bs (d3 n) = t := ⟨_, rfl⟩
  have HE : Hid (((⟨#[109]⟩ ++ q) ++ ⟨#[47]⟩) ++ t = mailK u f (n : Int)) := by
    show _ = _
    apply bs_inj
    rw [← ht]
    simp only [ByteArray.data_append, Array.toList_append, hqd]
    show _ = 109 :: 47 :: (u.data.toList ++ 47 :: (f.data.toList ++ 47 :: d3 n))
    simp
    rfl
  rw [ht] at CU hts
  obtain ⟨K, hK⟩ : ∃ K, folderK u f = K := ⟨_, rfl⟩
  rw [hK] at CT ⊢
  obtain ⟨G, hG⟩ : ∃ G, mailK u f (n : Int) = G := ⟨_, rfl⟩
  rw [hG] at HE ⊢
  clear hq hqd hK ht hG
  go_enter Tryz.func102, Tryz.ntmps102
  go_wp2_with fail
  refine CT.mono ?_
  rintro e w1 ⟨rfl, hw1⟩
  obtain rfl := hw1
  clear CT
  go_wp2_with fail
  refine CU.mono ?_
  rintro e w2 ⟨rfl, hb2⟩
  have B2 : Hid (Below w1.heap.size w1 w2) := hb2
  clear hb2 CU
  go_wp2_with fail
  go_ret
  exact ⟨by rw [← HE.out]; rfl, B2.out⟩
theorem map_take {α β : Type} (f : α → β) (d : α) (L : List α) (j : Nat) (hj : j < L.length) : (L.take (j + 1)).map f = (L.take j).map f ++ [f (L.getD j d)] := by
  rw [List.take_add_one, List.getD_eq_getElem?_getD, List.getElem?_eq_getElem hj]
  simp only [Option.toList_some, List.map_append, List.map_cons, List.map_nil, Option.getD_some]
theorem mem_getD' {α : Type} (L : List α) (d : α) (j : Nat) (hj : j < L.length) : L.getD j d ∈ L := by
  rw [List.getD_eq_getElem?_getD, List.getElem?_eq_getElem hj]
  exact List.getElem_mem _
set_option maxHeartbeats 4000000 in
theorem folPairsI (u : ByteArray) (f : FM) (ax : Option Addr) (ml cx : Nat) (hml : f.mails.length = ml) (hm : ml ≤ 1000) (hf : FitF f) (hu : u.size ≤ 1000) (w : World) (hs : Src w ax (cellsMl f.mails)) (hg : Gl w) (h8 : 8 ≤ w.heap.size) :
    Calls Tryz.prog 71 #[.agg #[.string f.name, .int .i64 f.val, .int .i64 f.next, .slice ax ml cx], .string (folderK u f.name)] w fun e w' => ∃ v, e = .returned v ∧ w'.ownsRow w.heap.size 47 2 v (ml + 1) (cellsP (fPairs u f)) ∧ Below w.heap.size w w' := by
  obtain ⟨fv0, fv1, fx0, fx1, hfn, hfm⟩ := hf
  have hks : (folderK u f.name).size ≤ 2100 := by
    rw [size_of, folderK_data]
    rw [size_of] at hu hfn
    simp only [List.length_cons, List.length_append]
    omega
  have HMK : Hid (∀ (n : Nat) (W : World), n < 1000 → Gl W → Calls Tryz.prog 102 #[.string (folderK u f.name), .int .i64 (n : Int)] W fun e w' => e = .returned (.string (mailK u f.name (n : Int))) ∧ Below W.heap.size W w') := fun n W hn hgW => mailKeyI u f.name n hn hu hfn W hgW
  have HFP : Hid (fPairs u f = (folderK u f.name, metaT f.val f.next) :: f.mails.map (mailP u f.name)) := rfl
  have HMT : Hid (metaT f.val f.next = (bs (itoa f.val) ++ ⟨#[32]⟩) ++ bs (itoa f.next)) := rfl
  have zv := itoa_small f.val fv0 fv1
  have zn := itoa_small f.next fx0 fx1
  obtain ⟨nm, hnm⟩ : ∃ x, f.name = x := ⟨_, rfl⟩
  obtain ⟨fv, hfv⟩ : ∃ x, f.val = x := ⟨_, rfl⟩
  obtain ⟨fx, hfx⟩ : ∃ x, f.next = x := ⟨_, rfl⟩
  obtain ⟨Ms, hMs⟩ : ∃ x, f.mails = x := ⟨_, rfl⟩
  rw [hfv] at zv HMT HFP fv0 fv1 ⊢
  rw [hfx] at zn HMT HFP fx0 fx1 ⊢
  rw [hnm] at hks HMK HFP ⊢
  rw [hMs] at hml hfm hs HFP
  obtain ⟨key, hkey⟩ : ∃ x, folderK u nm = x := ⟨_, rfl⟩
  rw [hkey] at hks HMK HFP ⊢
  obtain ⟨MT, hMT⟩ : ∃ x, metaT fv fx = x := ⟨_, rfl⟩
  rw [hMT] at HMT HFP
  have CV := fun W (hW : Gl W) => itoaI fv fv0 fv1 W hW
  have CN := fun W (hW : Gl W) => itoaI fx fx0 fx1 W hW
  obtain ⟨TV, hTV⟩ : ∃ x, bs (itoa fv) = x := ⟨_, rfl⟩
  obtain ⟨TN, hTN⟩ : ∃ x, bs (itoa fx) = x := ⟨_, rfl⟩
  simp only [hTV] at CV zv HMT
  simp only [hTN] at CN zn HMT
  have HL : Hid (Ms.length = ml) := hml
  have HFM : Hid (∀ m ∈ Ms, 0 ≤ m.1 ∧ m.1 < 1000 ∧ 0 ≤ m.2.1 ∧ m.2.1 ≤ 3 ∧ m.2.2.size ≤ 1000) := hfm
  have HS : Hid (Src w ax (cellsMl Ms)) := hs
  have HG : Hid (Gl w) := hg
  have H8 : Hid (8 ≤ w.heap.size) := h8
  obtain ⟨w0, hw0⟩ : ∃ W, w.alloc (.cells #[.string nm, .int .i64 fv, .int .i64 fx, .slice ax ml cx] 59) = W := ⟨_, rfl⟩
  have X0 : Hid (Box w0 w.heap.size [.string nm, .int .i64 fv, .int .i64 fx, .slice ax ml cx]) := by show Box _ _ _; rw [← hw0]; exact Box.new rfl
  have B0 : Hid (Below w.heap.size w w0) := by show Below _ _ _; rw [← hw0]; exact (Below.refl _ _).alloc (Nat.le_refl _) _
  have Z0 : Hid (w0.heap.size = w.heap.size + 1) := by show _ = _; rw [← hw0]; simp
  clear hml hfm hs hg h8 hnm hfv hfx hMs hkey hMT hTV hTN fv0 fv1 fx0 fx1 hfn
  go_enter Tryz.func71, Tryz.ntmps71
  go_upto_region 1 with fail
  clear hw0
  go_cut [5] from 8 to 18 (fun ps wx => ∃ p : Nat, ps = .slice (some ⟨p, 0, none⟩) 1 1 ∧ Hid (wx.ownsRow (w.heap.size + 1) 47 2 (.slice (some ⟨p, 0, none⟩) 1 1) 1 (cellsP [(key, MT)])) ∧ Hid (Below w0.heap.size w0 wx))
  case first =>
    obtain ⟨c1, _⟩ := X0.out 1 _ rfl
    obtain ⟨c2, _⟩ := X0.out 2 _ rfl
    refine wp_region_noPanic ?_
    refine wp_region_held_drew (S := fun w' => w'.cell? ⟨w.heap.size, 1, none⟩ = some (.int .i64 fv) ∧ w'.cell? ⟨w.heap.size, 2, none⟩ = some (.int .i64 fx)) (by kernel_rfl) ⟨c1, c2⟩ (fun hHeld => ?_)
    refine tkA (i := 0) (v := .string key) ?_ hHeld ?_
    · intro w9 hSw
      obtain ⟨z0, z1⟩ := hSw
      go_simp
    simp only [Act.put, List.setIfInBounds_toArray, List.set_cons_zero, List.set_cons_succ]
    refine tkA (i := 1) (v := .pointer (some ⟨w.heap.size, 1, none⟩)) ?_ hHeld ?_
    · intro w9 hSw
      obtain ⟨z0, z1⟩ := hSw
      go_simp
    simp only [Act.put, List.setIfInBounds_toArray, List.set_cons_zero, List.set_cons_succ]
    refine tkA (i := 2) (v := .int .i64 fv) ?_ hHeld ?_
    · intro w9 hSw
      obtain ⟨z0, z1⟩ := hSw
      go_simp
    simp only [Act.put, List.setIfInBounds_toArray, List.set_cons_zero, List.set_cons_succ]
    refine tkA (i := 5) (v := .pointer (some ⟨w.heap.size, 2, none⟩)) ?_ hHeld ?_
    · intro w9 hSw
      obtain ⟨z0, z1⟩ := hSw
      go_simp
    simp only [Act.put, List.setIfInBounds_toArray, List.set_cons_zero, List.set_cons_succ]
    refine tkA (i := 6) (v := .int .i64 fx) ?_ hHeld ?_
    · intro w9 hSw
      obtain ⟨z0, z1⟩ := hSw
      go_simp
    simp only [Act.put, List.setIfInBounds_toArray, List.set_cons_zero, List.set_cons_succ]
    refine wpAnyH_ready (rs := [3]) (by kernel_rfl) (by simp) ?_
    refine AllReadyH.cons rfl (fun K hK => ?_) AllReadyH.nil
    go_simp
    refine (CV _ (HG.out.below H8.out (B0.out.trans (((Below.refl w0.heap.size w0).drew).mono B0.out.size)))).mono ?_
    rintro e wa1 ⟨rfl, hb1⟩
    dsimp only
    have B1 : Hid (Below w0.heap.size w0 wa1) := Below.trans ((Below.refl w0.heap.size w0).drew) (hb1.mono ((Below.refl w0.heap.size w0).drew).size)
    have X1 : Hid (Box wa1 w.heap.size [.string nm, .int .i64 fv, .int .i64 fx, .slice ax ml cx]) := X0.out.below B1.out
    clear hb1
    refine hK _ _ ⟨(X1.out 1 _ rfl).1, (X1.out 2 _ rfl).1⟩ (fun hHeld => ?_)
    clear hK K
    refine tkA (i := 4) (v := .string (TV ++ ⟨#[32]⟩)) ?_ hHeld ?_
    · intro w9 hSw
      obtain ⟨z0, z1⟩ := hSw
      go_simp
      omega
    simp only [Act.put, List.setIfInBounds_toArray, List.set_cons_zero, List.set_cons_succ]
    refine wpAnyH_ready (rs := [7]) (by kernel_rfl) (by simp) ?_
    refine AllReadyH.cons rfl (fun K hK => ?_) AllReadyH.nil
    go_simp
    refine (CN _ (HG.out.below H8.out (B0.out.trans ((B1.out).mono B0.out.size)))).mono ?_
    rintro e wa2 ⟨rfl, hb2⟩
    dsimp only
    have B2 : Hid (Below w0.heap.size w0 wa2) := Below.trans (B1.out) (hb2.mono (B1.out).size)
    have X2 : Hid (Box wa2 w.heap.size [.string nm, .int .i64 fv, .int .i64 fx, .slice ax ml cx]) := X0.out.below B2.out
    clear hb2
    refine hK _ _ ⟨(X2.out 1 _ rfl).1, (X2.out 2 _ rfl).1⟩ (fun hHeld => ?_)
    clear hK K
    refine tkA (i := 8) (v := .string ((TV ++ ⟨#[32]⟩) ++ TN)) ?_ hHeld ?_
    · intro w9 hSw
      obtain ⟨z0, z1⟩ := hSw
      go_simp
      omega
    simp only [Act.put, List.setIfInBounds_toArray, List.set_cons_zero, List.set_cons_succ]
    refine tkA (i := 9) (v := .agg #[.string key, .string ((TV ++ ⟨#[32]⟩) ++ TN)]) ?_ hHeld ?_
    · intro w9 hSw
      obtain ⟨z0, z1⟩ := hSw
      go_simp
    simp only [Act.put, List.setIfInBounds_toArray, List.set_cons_zero, List.set_cons_succ]
    refine wpAnyH_ready (rs := [10]) (by kernel_rfl) (by simp) ?_
    refine AllReadyH.cons rfl (fun K hK => ?_) AllReadyH.nil
    go_simp
    have A3 : Hid (Below w0.heap.size w0 (wa2.alloc (.cells #[.string key, .string ((TV ++ ⟨#[32]⟩) ++ TN)] 47))) := Below.alloc (B2.out) (B2.out).size _
    have O3 : Hid ((wa2.alloc (.cells #[.string key, .string ((TV ++ ⟨#[32]⟩) ++ TN)] 47)).ownsRow (w.heap.size + 1) 47 2 (.slice (some ⟨wa2.heap.size, 0, none⟩) 1 1) 1 (cellsP [(key, MT)])) := own_lit rfl (by have h9 := (B2.out).size; have h7 := Z0.out; omega) (by rw [HMT.out]; rfl) rfl (by omega)
    have X3 : Hid (Box (wa2.alloc (.cells #[.string key, .string ((TV ++ ⟨#[32]⟩) ++ TN)] 47)) w.heap.size [.string nm, .int .i64 fv, .int .i64 fx, .slice ax ml cx]) := X0.out.below A3.out
    refine hK _ _ ⟨(X3.out 1 _ rfl).1, (X3.out 2 _ rfl).1⟩ (fun hHeld => ?_)
    clear hK K
    refine wpAnyH_ready (rs := [11]) (by kernel_rfl) (by simp) ?_
    refine AllReadyH.cons rfl (fun K hK => ?_) AllReadyH.nil
    go_simp
    refine hK _ _ ⟨(X3.out 1 _ rfl).1, (X3.out 2 _ rfl).1⟩ (fun hHeld => ?_)
    clear hK K
    refine wpAnyH_done (by kernel_rfl) ?_ _
    refine NoPanic.normal ?_
    clear hHeld
    go_wp2_with fail
    go_meet
    exact ⟨_, rfl, O3.out, A3.out⟩
  case rest =>
    obtain ⟨p, rfl, ho, hbc⟩ := hcut
    obtain ⟨c3, _⟩ := X0.out.below hbc.out 3 _ rfl
    have BC : Hid (Below w.heap.size w wc) := B0.out.trans (hbc.out.mono B0.out.size)
    have HO : Hid (wc.ownsRow (w.heap.size + 1) 47 2 (.slice (some ⟨p, 0, none⟩) 1 1) 1 (cellsP ((key, MT) :: (Ms.take 0).map (mailP u nm)))) := ho.out
    have ZC : Hid (w.heap.size < wc.heap.size) := by have h9 := hbc.out.size; have h7 := Z0.out; show _ < _; omega
    clear ho hbc CV CN
    go_wp2_with fail
    go_loopw [5, 22] (fun v iv wr => ∃ (j : Nat) (a' : Option Addr) (c' : Nat), j ≤ ml ∧ v = .slice a' (j + 1) c' ∧ iv = .int .i64 (j : Int) ∧ Hid (wr.ownsRow (w.heap.size + 1) 47 2 (.slice a' (j + 1) c') (j + 1) (cellsP ((key, MT) :: (Ms.take j).map (mailP u nm)))) ∧ Hid (Below w.heap.size w wr) ∧ Hid (w.heap.size < wr.heap.size)) (fun _ i _ => ml - (RowKit.intOf i).toNat)
    case atStart => exact ⟨0, _, _, Nat.zero_le _, rfl, rfl, HO.out, BC.out, ZC.out⟩
    case round =>
      obtain ⟨j, a', c', hj, rfl, rfl, ho, hbr, hzr⟩ := hrel
      by_cases hlt : j < ml
      · have hltj : (j : Int) < (ml : Int) := by omega
        have hjl : j < Ms.length := by rw [HL.out]; exact hlt
        obtain ⟨b, o, x0, x1, x2, rfl, d0, d1, d2, hx⟩ := srcMl (HS.out.below hbr.out) hjl
        have hmem := HFM.out _ (mem_getD' Ms ml0 j hjl)
        rw [hx.out] at hmem
        dsimp only at hmem
        obtain ⟨m0, m1, m2, m3, m4⟩ := hmem
        have HTK : Hid ((Ms.take (j + 1)).map (mailP u nm) = (Ms.take j).map (mailP u nm) ++ [mailP u nm (x0, x1, x2)]) := by show _ = _; rw [map_take _ ml0 Ms j hjl, hx.out]
        obtain ⟨n0, rfl⟩ : ∃ n0 : Nat, x0 = (n0 : Int) := ⟨x0.toNat, by omega⟩
        have CK := fun W (hW : Gl W) => HMK.out n0 W (by omega) hW
        have CD := fun W (hW : Gl W) => itoaI x1 m2 (by omega) W hW
        have zd := itoa_small x1 m2 (by omega)
        have HMP : Hid (mailP u nm ((n0 : Int), x1, x2) = (mailK u nm (n0 : Int), bs (itoa x1) ++ x2)) := rfl
        obtain ⟨TK, hTK⟩ : ∃ x, mailK u nm (n0 : Int) = x := ⟨_, rfl⟩
        obtain ⟨TD, hTD⟩ : ∃ x, bs (itoa x1) = x := ⟨_, rfl⟩
        simp only [hTK] at CK HMP
        simp only [hTD] at CD HMP zd
        obtain ⟨w1, hw1⟩ : ∃ W, wr.alloc (.cells #[.int .i64 (n0 : Int), .int .i64 x1, .string x2] 62) = W := ⟨_, rfl⟩
        have XQ : Hid (Box w1 wr.heap.size [.int .i64 (n0 : Int), .int .i64 x1, .string x2]) := by show Box _ _ _; rw [← hw1]; exact Box.new rfl
        have RQ : Hid (Below wr.heap.size wr w1) := by show Below _ _ _; rw [← hw1]; exact (Below.refl _ _).alloc (Nat.le_refl _) _
        have BQ : Hid (Below w.heap.size w w1) := hbr.out.trans (RQ.out.mono hbr.out.size)
        have OQ : Hid (w1.ownsRow (w.heap.size + 1) 47 2 (.slice a' (j + 1) c') (j + 1) (cellsP ((key, MT) :: (Ms.take j).map (mailP u nm)))) := own_below ho.out RQ.out
        have ZQ : Hid (w.heap.size < w1.heap.size) := by have h9 := RQ.out.size; have h7 := hzr.out; show _ < _; omega
        have HRB : Hid (∀ g, Value.ownBlock (.slice a' (j + 1) c') = some g → g < wr.heap.size) := fun g h9 => (ho.out.lt g h9).2
        clear hx m0 m1 m2 m3 hTK hTD ho
        go_upto_region 5 with fail
        clear hw1
        obtain ⟨e0', _⟩ := XQ.out 0 _ rfl
        obtain ⟨e1', _⟩ := XQ.out 1 _ rfl
        obtain ⟨e2', _⟩ := XQ.out 2 _ rfl
        refine wp_region_noPanic ?_
        refine wp_region_held_drew (S := fun w' => w'.cell? ⟨wr.heap.size, 0, none⟩ = some (.int .i64 (n0 : Int)) ∧ w'.cell? ⟨wr.heap.size, 1, none⟩ = some (.int .i64 x1) ∧ w'.cell? ⟨wr.heap.size, 2, none⟩ = some (.string x2)) (by kernel_rfl) ⟨e0', e1', e2'⟩ (fun hHeld => ?_)
        refine tkA (i := 0) (v := .slice a' (j + 1) c') ?_ hHeld ?_
        · intro w9 hSw
          obtain ⟨z0, z1, z2⟩ := hSw
          go_simp
        simp only [Act.put, List.setIfInBounds_toArray, List.set_cons_zero, List.set_cons_succ]
        refine tkA (i := 1) (v := .string key) ?_ hHeld ?_
        · intro w9 hSw
          obtain ⟨z0, z1, z2⟩ := hSw
          go_simp
        simp only [Act.put, List.setIfInBounds_toArray, List.set_cons_zero, List.set_cons_succ]
        refine tkA (i := 2) (v := .pointer (some ⟨wr.heap.size, 0, none⟩)) ?_ hHeld ?_
        · intro w9 hSw
          obtain ⟨z0, z1, z2⟩ := hSw
          go_simp
        simp only [Act.put, List.setIfInBounds_toArray, List.set_cons_zero, List.set_cons_succ]
        refine tkA (i := 3) (v := .int .i64 (n0 : Int)) ?_ hHeld ?_
        · intro w9 hSw
          obtain ⟨z0, z1, z2⟩ := hSw
          go_simp
        simp only [Act.put, List.setIfInBounds_toArray, List.set_cons_zero, List.set_cons_succ]
        refine tkA (i := 5) (v := .pointer (some ⟨wr.heap.size, 1, none⟩)) ?_ hHeld ?_
        · intro w9 hSw
          obtain ⟨z0, z1, z2⟩ := hSw
          go_simp
        simp only [Act.put, List.setIfInBounds_toArray, List.set_cons_zero, List.set_cons_succ]
        refine tkA (i := 6) (v := .int .i64 x1) ?_ hHeld ?_
        · intro w9 hSw
          obtain ⟨z0, z1, z2⟩ := hSw
          go_simp
        simp only [Act.put, List.setIfInBounds_toArray, List.set_cons_zero, List.set_cons_succ]
        refine tkA (i := 8) (v := .pointer (some ⟨wr.heap.size, 2, none⟩)) ?_ hHeld ?_
        · intro w9 hSw
          obtain ⟨z0, z1, z2⟩ := hSw
          go_simp
        simp only [Act.put, List.setIfInBounds_toArray, List.set_cons_zero, List.set_cons_succ]
        refine tkA (i := 9) (v := .string x2) ?_ hHeld ?_
        · intro w9 hSw
          obtain ⟨z0, z1, z2⟩ := hSw
          go_simp
        simp only [Act.put, List.setIfInBounds_toArray, List.set_cons_zero, List.set_cons_succ]
        refine wpAnyH_ready (rs := [4]) (by kernel_rfl) (by simp) ?_
        refine AllReadyH.cons rfl (fun K hK => ?_) AllReadyH.nil
        go_simp
        refine (CK _ (HG.out.below H8.out (BQ.out.trans (((Below.refl w1.heap.size w1).drew).mono BQ.out.size)))).mono ?_
        rintro e wa1 ⟨rfl, hb1⟩
        dsimp only
        have B1 : Hid (Below w1.heap.size w1 wa1) := Below.trans ((Below.refl w1.heap.size w1).drew) (hb1.mono ((Below.refl w1.heap.size w1).drew).size)
        have X1 : Hid (Box wa1 wr.heap.size [.int .i64 (n0 : Int), .int .i64 x1, .string x2]) := XQ.out.below B1.out
        clear hb1
        refine hK _ _ ⟨(X1.out 0 _ rfl).1, (X1.out 1 _ rfl).1, (X1.out 2 _ rfl).1⟩ (fun hHeld => ?_)
        clear hK K
        refine wpAnyH_ready (rs := [7]) (by kernel_rfl) (by simp) ?_
        refine AllReadyH.cons rfl (fun K hK => ?_) AllReadyH.nil
        go_simp
        refine (CD _ (HG.out.below H8.out (BQ.out.trans ((B1.out).mono BQ.out.size)))).mono ?_
        rintro e wa2 ⟨rfl, hb2⟩
        dsimp only
        have B2 : Hid (Below w1.heap.size w1 wa2) := Below.trans (B1.out) (hb2.mono (B1.out).size)
        have X2 : Hid (Box wa2 wr.heap.size [.int .i64 (n0 : Int), .int .i64 x1, .string x2]) := XQ.out.below B2.out
        clear hb2
        refine hK _ _ ⟨(X2.out 0 _ rfl).1, (X2.out 1 _ rfl).1, (X2.out 2 _ rfl).1⟩ (fun hHeld => ?_)
        clear hK K
        refine tkA (i := 10) (v := .string (TD ++ x2)) ?_ hHeld ?_
        · intro w9 hSw
          obtain ⟨z0, z1, z2⟩ := hSw
          go_simp
          omega
        simp only [Act.put, List.setIfInBounds_toArray, List.set_cons_zero, List.set_cons_succ]
        refine tkA (i := 11) (v := .agg #[.string TK, .string (TD ++ x2)]) ?_ hHeld ?_
        · intro w9 hSw
          obtain ⟨z0, z1, z2⟩ := hSw
          go_simp
        simp only [Act.put, List.setIfInBounds_toArray, List.set_cons_zero, List.set_cons_succ]
        refine wpAnyH_ready (rs := [12]) (by kernel_rfl) (by simp) ?_
        refine AllReadyH.cons rfl (fun K hK => ?_) AllReadyH.nil
        go_simp
        have A3 : Hid (Below w1.heap.size w1 (wa2.alloc (.cells #[.string TK, .string (TD ++ x2)] 47))) := Below.alloc (B2.out) (B2.out).size _
        have X3 : Hid (Box (wa2.alloc (.cells #[.string TK, .string (TD ++ x2)] 47)) wr.heap.size [.int .i64 (n0 : Int), .int .i64 x1, .string x2]) := XQ.out.below A3.out
        refine hK _ _ ⟨(X3.out 0 _ rfl).1, (X3.out 1 _ rfl).1, (X3.out 2 _ rfl).1⟩ (fun hHeld => ?_)
        clear hK K
        refine wpAnyH_ready (rs := [13]) (by kernel_rfl) (by simp) ?_
        refine AllReadyH.cons rfl (fun K hK => ?_) AllReadyH.nil
        refine step_append_src rfl (.tmp 26) (.tmp 38) 24 rfl (w.heap.size + 1) 47 (.agg #[.string ⟨#[]⟩, .string ⟨#[]⟩]) 2 32 Tryz.underlying24 infoP rfl (by decide) (by decide) (.slice a' (j + 1) c') (j + 1) (cellsP ((key, MT) :: (Ms.take j).map (mailP u nm))) (by rfl) (own_below OQ.out A3.out) ⟨wa2.heap.size, 0, none⟩ 1 1 (cellsP [(TK, TD ++ x2)]) (by rfl) (by rfl) (src_oneP rfl) (cellsP_one _) (by omega) (by omega) (by have h9 := A3.out.size; have h7 := ZQ.out; show w.heap.size + 1 ≤ (wa2.alloc (.cells #[.string TK, .string (TD ++ x2)] 47)).heap.size; omega) ?_
        intro v6 w6 hown6 hgrow6 hloc6
        obtain ⟨a6, c6, rfl, _, hl6⟩ := own_src hown6
        have B4 : Hid (Below w.heap.size w w6) := (BQ.out.trans (A3.out.mono BQ.out.size)).grown hgrow6 (by have h9 := A3.out.size; have h7 := ZQ.out; show w.heap.size ≤ (wa2.alloc (.cells #[.string TK, .string (TD ++ x2)] 47)).heap.size; omega) (fun g h9 => by have h7 := (OQ.out.lt g h9).1; omega)
        have Z4 : Hid (w.heap.size < w6.heap.size) := by have h9 := hgrow6.size; have h8 := A3.out.size; have h7 := ZQ.out; have h6 : (wa2.alloc (.cells #[.string TK, .string (TD ++ x2)] 47)).heap.size ≤ w6.heap.size := h9; show _ < _; omega
        have X4 : Hid (Box w6 wr.heap.size [.int .i64 (n0 : Int), .int .i64 x1, .string x2]) := Box.grown (w := (wa2.alloc (.cells #[.string TK, .string (TD ++ x2)] 47))) X3.out hgrow6 (fun h9 => by
          have h7 := HRB.out _ h9
          omega)
        have O4 : Hid (w6.ownsRow (w.heap.size + 1) 47 2 (.slice a6 (j + 1 + 1) c6) (j + 1 + 1) (cellsP ((key, MT) :: (Ms.take (j + 1)).map (mailP u nm)))) := by
          show w6.ownsRow _ _ _ _ _ _
          rw [HTK.out, HMP.out, ← List.cons_append, cellsP_append]
          exact hown6
        clear hown6 hgrow6 hloc6 hl6
        refine hK _ _ ⟨(X4.out 0 _ rfl).1, (X4.out 1 _ rfl).1, (X4.out 2 _ rfl).1⟩ (fun hHeld => ?_)
        clear hK K
        refine wpAnyH_ready (rs := [14]) (by kernel_rfl) (by simp) ?_
        refine AllReadyH.cons rfl (fun K hK => ?_) AllReadyH.nil
        go_simp
        refine hK _ _ ⟨(X4.out 0 _ rfl).1, (X4.out 1 _ rfl).1, (X4.out 2 _ rfl).1⟩ (fun hHeld => ?_)
        clear hK K
        refine wpAnyH_done (by kernel_rfl) ?_ _
        refine NoPanic.normal ?_
        clear hHeld
        go_wp2_with fail
        exact ⟨⟨j + 1, _, _, by omega, rfl, by go_num, O4.out, B4.out, Z4.out⟩, by simp [RowKit.intOf]; omega⟩
      · obtain rfl : j = ml := by omega
        have hltj : ¬ (j : Int) < (j : Int) := by omega
        have HFO : Hid (wr.ownsRow w.heap.size 47 2 (.slice a' (j + 1) c') (j + 1) (cellsP (fPairs u f))) := by
          show wr.ownsRow _ _ _ _ _ _
          rw [HFP.out]
          have h9 := ho.out
          rw [List.take_of_length_le (by rw [HL.out]; exact Nat.le_refl _)] at h9
          exact own_mono h9 (by omega)
        clear ho
        go_wp2_with fail
        go_ret
        exact ⟨_, rfl, HFO.out, hbr.out⟩
end Go.Proofs.YtbpgncgmolpkiaaGreatDoor
namespace Go.Proofs.YtbpgncgmolpkiaaGreatDoor
open Go.ChangeShapes Go.WideShapes Go.ChangeAt Go.RowKit Go.Deep Go.Lib
set_option linter.unusedVariables false
set_option linter.unusedSimpArgs false
set_option maxRecDepth 100000

def wordL (u wd : ByteArray) : List PM := if wd.toList = [] then [] else [(userK u, wd)]
abbrev flatF (u : ByteArray) (fs : List FM) : List PM := fs.flatMap (fPairs u)
def deskX (u : ByteArray) (S : SM) : List PM := S.aside ++ (wordL u S.word ++ flatF u S.fs)
abbrev notK (k : ByteArray) (L : List PM) : List PM := L.filter fun p => decide (p.1 ≠ k)
/-- What a desk's pairs gives, ahead of the sorting. -/
def deskP (nx : Int) (u : ByteArray) (S : SM) : List PM := (vK, bs (itoa nx)) :: (userK u, S.word) :: (notK vK S.aside ++ flatF u S.fs)
def dropF (n : ByteArray) : List FM → List FM
  | [] => []
  | f :: fs => if f.name = n then fs else f :: dropF n fs
theorem put_none {g : FM} : ∀ {fs : List FM}, lookF g.name fs = none → putF g fs = fs ++ [g]
  | [], _ => rfl
  | f :: fs, h => by
    unfold lookF at h
    by_cases e : f.name = g.name
    · rw [if_pos e] at h; cases h
    · rw [if_neg e] at h
      unfold putF
      rw [if_neg e, put_none h]
      rfl
theorem put_perm {g f : FM} : ∀ {fs : List FM}, lookF g.name fs = some f → (putF g fs).Perm (g :: dropF g.name fs)
  | [], h => by cases h
  | x :: fs, h => by
    unfold lookF at h
    unfold putF dropF
    by_cases e : x.name = g.name
    · rw [if_pos e, if_pos e]
    · rw [if_neg e] at h
      rw [if_neg e, if_neg e]
      exact (List.Perm.cons x (put_perm h)).trans (List.Perm.swap _ _ _)
theorem drop_perm {n : ByteArray} {f : FM} : ∀ {fs : List FM}, lookF n fs = some f → fs.Perm (f :: dropF n fs)
  | [], h => by cases h
  | x :: fs, h => by
    unfold lookF at h
    unfold dropF
    by_cases e : x.name = n
    · rw [if_pos e] at h
      cases h
      rw [if_pos e]
    · rw [if_neg e] at h
      rw [if_neg e]
      exact (List.Perm.cons x (drop_perm h)).trans (List.Perm.swap _ _ _)
theorem flat_perm {u : ByteArray} {fs gs : List FM} (h : fs.Perm gs) : (flatF u fs).Perm (flatF u gs) := List.Perm.flatMap_right _ h
theorem flat_cons (u : ByteArray) (f : FM) (fs : List FM) : flatF u (f :: fs) = fPairs u f ++ flatF u fs := List.flatMap_cons
theorem digit_one {c : UInt8} (h : 48 ≤ (c.toNat : Int)) (h2 : (c.toNat : Int) ≤ 51) : itoa ((c.toNat : Int) - 48) = [c] := by
  unfold itoa
  rw [if_neg (by omega)]
  unfold decDigits
  rw [dif_pos (by omega)]
  have e : 48 + ((c.toNat : Int) - 48).toNat = c.toNat := by omega
  rw [e]
  simp
theorem mailV_back {v : ByteArray} {n : Int} (h1 : 1 ≤ v.size) (h : 48 ≤ hdV v) (h2 : hdV v ≤ 51) : mailV (n, hdV v - 48, v.extract 1 v.size) = v := by
  unfold mailV
  unfold hdV at h h2 ⊢
  apply bs_inj
  have hne : v.data.toList ≠ [] := fun e => by
    have h9 : v.data.toList.length = v.size := by simp
    rw [e] at h9
    simp at h9
    omega
  match hv : v.data.toList, hne with
  | c :: r, _ =>
    rw [hv] at h h2
    have h' : 48 ≤ (c.toNat : Int) := h
    have h2' : (c.toNat : Int) ≤ 51 := h2
    rw [ByteArray.data_append]
    simp only [Array.toList_append]
    show (bs (itoa ((c.toNat : Int) - 48))).data.toList ++ (v.extract 1 v.size).data.toList = c :: r
    rw [digit_one h' h2', ByteArray.data_extract]
    show [c] ++ (v.data.extract 1 v.size).toList = c :: r
    rw [Array.toList_extract, hv]
    have h9 : v.size = (c :: r).length := by rw [← hv]; simp
    rw [h9]
    simp [List.extract]
theorem mail_pairs {u : ByteArray} {f : FM} {d : List UInt8} {q : PM} {un : Nat} (hd : decFrom 0 d = some un) (hl : d.length = 3) (h1 : 1 ≤ q.2.size) (h2 : 48 ≤ hdV q.2) (h3 : hdV q.2 ≤ 51)
    (hk : q.1.data.toList = 109 :: 47 :: (u.data.toList ++ 47 :: (f.name.data.toList ++ 47 :: d))) : fPairs u (mailU f un q.2) = fPairs u f ++ [q] := by
  obtain ⟨_, hd3⟩ := d3_back hl hd
  unfold fPairs mailU
  simp only [List.map_append, List.map_cons, List.map_nil]
  rw [List.cons_append]
  congr 2
  congr 1
  refine Prod.ext ?_ (mailV_back h1 h2 h3)
  apply bs_inj
  rw [hk, hd3]
  rfl
theorem up_mem {X Y : List PM} (hX : UpL X) (hY : UpL Y) (h : ∀ q, q ∈ X ↔ q ∈ Y) : X = Y := by
  induction X generalizing Y with
  | nil =>
    cases Y with
    | nil => rfl
    | cons y Y => exact absurd ((h y).2 List.mem_cons_self) (by simp)
  | cons x X ih =>
    cases Y with
    | nil => exact absurd ((h x).1 List.mem_cons_self) (by simp)
    | cons y Y =>
      have hx := List.pairwise_cons.1 hX
      have hy := List.pairwise_cons.1 hY
      have e : x = y := by
        rcases List.mem_cons.1 ((h x).1 List.mem_cons_self) with e | e
        · exact e
        · rcases List.mem_cons.1 ((h y).2 List.mem_cons_self) with e2 | e2
          · exact e2.symm
          · exact absurd (bl_trans _ _ _ (hy.1 x e) (hx.1 y e2)) (ltK_irrefl _)
      subst e
      rw [ih hx.2 hy.2 fun q => ?_]
      constructor
      · intro hq
        rcases List.mem_cons.1 ((h q).1 (List.mem_cons_of_mem _ hq)) with e | e
        · subst e
          exact absurd (hx.1 q hq) (ltK_irrefl _)
        · exact e
      · intro hq
        rcases List.mem_cons.1 ((h q).2 (List.mem_cons_of_mem _ hq)) with e | e
        · subst e
          exact absurd (hy.1 q hq) (ltK_irrefl _)
        · exact e
theorem up_perm {X Y : List PM} (hX : UpL X) (hY : UpL Y) (h : X.Perm Y) : X = Y := up_mem hX hY fun _ => h.mem_iff
theorem take_perm {nx : Int} {u : ByteArray} {L P R : List PM} {q : PM} {S S' : SM} (hnx : nx ≤ 10000) (hu : UpL L) (hL : L = P ++ q :: R) (hus : (47 : UInt8) ∉ u.data.toList) (hI : Inv nx u P S) (hW : S.word.toList = [] ∨ ∃ z ∈ P, z.1 = userK u) (h : takeM nx u S q = some S') : (deskX u S').Perm (deskX u S ++ [q]) := by
  have hpq : ∀ z ∈ P, ltK z.1 q.1 := fun z hz => by
    rw [hL] at hu
    exact (List.pairwise_append.1 hu).2.2 z hz q List.mem_cons_self
  by_cases ho : ownerM q = some u
  · unfold takeM at h
    unfold ownerM at ho
    match hG : splitL 47 q.1.data.toList, ho with
    | [a, b], ho =>
      obtain ⟨h1, h2⟩ := ite_some ho
      subst h1
      have h3 : takeP nx u S q [[117], b] = userM u S q.2 := if_pos ⟨h2, rfl⟩
      rw [hG, h3] at h
      obtain ⟨h4, rfl⟩ := ite_some h
      have hk := (key_user hG).1
      rw [h2] at hk
      have hw : S.word.toList = [] := by
        rcases hW with hW | ⟨z, hz, hz2⟩
        · exact hW
        · have h9 := hpq z hz
          rw [hz2, hk] at h9
          exact absurd h9 (ltK_irrefl _)
      have hs : q.2.toList ≠ [] := fun e => by
        rw [Bool.and_eq_true] at h4
        have h9 := short_ne (b := q.2.data.toList) (by rw [data_bs]; exact h4.2)
        exact h9 (by rw [← ByteArray.toList_eq]; exact e)
      unfold deskX
      show (S.aside ++ (wordL u q.2 ++ flatF u S.fs)).Perm _
      unfold wordL
      rw [if_pos hw, if_neg hs, List.nil_append, List.append_assoc]
      refine List.Perm.append_left _ ?_
      have hqe : (userK u, q.2) = q := Prod.ext hk.symm rfl
      rw [hqe]
      exact (List.perm_append_comm (l₁ := [q]))
    | [a, b, c], ho =>
      obtain ⟨h1, h2⟩ := ite_some ho
      subst h1
      have h3 : takeP nx u S q [[102], b, c] = putM S (folderM nx (bs c) q.2) := if_pos ⟨h2, rfl⟩
      rw [hG, h3] at h
      obtain ⟨hk, hnb, hnc⟩ := key_folder hG
      rw [h2] at hk
      unfold putM at h
      obtain ⟨g, hg, rfl⟩ := Option.map_eq_some_iff.1 h
      have hgf := (folder_meta hnx).1 hg
      have hgn : g.name = bs c := by rw [hgf.2.2.2]
      have hno : lookF g.name S.fs = none := by
        rw [hgn]
        cases hl : lookF (bs c) S.fs with
        | none => rfl
        | some f' =>
          obtain ⟨w, f, k1, _⟩ := hI.a _ _ hl
          have k3 := hpq _ k1
          rw [hk] at k3
          exact absurd k3 (ltK_irrefl _)
      have hgp : fPairs u g = [q] := by
        have hm : g.mails = [] := by rw [hgf.2.2.2]
        unfold fPairs
        rw [hm, hgn]
        simp only [List.map_nil]
        congr 1
        exact Prod.ext hk.symm (meta_text hgf.2.1).symm
      unfold deskX
      show (S.aside ++ (wordL u S.word ++ flatF u (putF g S.fs))).Perm _
      rw [put_none hno]
      unfold flatF
      rw [List.flatMap_append, List.flatMap_cons, List.flatMap_nil, hgp, List.append_nil, List.append_assoc, List.append_assoc]
    | [a, b, c, d], ho =>
      obtain ⟨h1, h2⟩ := ite_some ho
      subst h1
      have h3 : takeP nx u S q [[109], b, c, d] = putM S (mailM S.fs (bs c) (bs d) q.2) := if_pos ⟨h2, rfl⟩
      rw [hG, h3] at h
      obtain ⟨hk, hnb, hnc⟩ := key_mail hG
      unfold putM mailM at h
      obtain ⟨g, hg, rfl⟩ := Option.map_eq_some_iff.1 h
      obtain ⟨f', hl, hg2⟩ := Option.bind_eq_some_iff.1 hg
      obtain ⟨un, m1, m2, m3, m4, m5, m6, m7, m8, hgm⟩ := mailO_some hg2
      have hfn := (lookF_mem hl).2
      have hgn : g.name = f'.name := by rw [hgm]; rfl
      have hub : u.data.toList = b := by rw [← h2]; simp [bs]
      have hpp : fPairs u g = fPairs u f' ++ [q] := by
        rw [hgm]
        refine mail_pairs m1 m2 m3 m5 m6 ?_
        rw [hk, hub, hfn]
        simp [bs]
      have hl2 : lookF g.name S.fs = some f' := by rw [hgn, hfn]; exact hl
      unfold deskX
      show (S.aside ++ (wordL u S.word ++ flatF u (putF g S.fs))).Perm _
      rw [List.append_assoc, List.append_assoc]
      refine List.Perm.append_left _ (List.Perm.append_left _ ?_)
      refine (flat_perm (put_perm hl2)).trans ?_
      refine List.Perm.trans ?_ (List.Perm.append_right [q] (flat_perm (drop_perm hl2)).symm)
      rw [flat_cons, flat_cons, hpp, List.append_assoc, List.append_assoc]
      exact List.Perm.append_left _ List.perm_append_comm
  · have ht : takeM nx u S q = asideM S q := take_other ho
    rw [ht] at h
    cases h
    unfold deskX
    show (S.aside ++ [q] ++ (wordL u S.word ++ flatF u S.fs)).Perm _
    rw [List.append_assoc, List.append_assoc]
    exact List.Perm.append_left _ List.perm_append_comm
theorem all_perm {nx : Int} {u : ByteArray} {L : List PM} (hnx : nx ≤ 10000) (hu : UpL L) (hus : (47 : UInt8) ∉ u.data.toList) : ∀ (R P : List PM) (S S' : SM), L = P ++ R → Inv nx u P S → (S.word.toList = [] ∨ ∃ z ∈ P, z.1 = userK u) → takeAll nx u S R = some S' → (deskX u S').Perm (deskX u S ++ R)
  | [], P, S, S', hL, hI, hW, h => by
    cases h
    rw [List.append_nil]
  | q :: R, P, S, S', hL, hI, hW, h => by
    have hL2 : L = (P ++ [q]) ++ R := by rw [hL]; simp
    unfold takeAll at h
    obtain ⟨S1, h1, h2⟩ := Option.bind_eq_some_iff.1 h
    have hI2 : Inv nx u (P ++ [q]) S1 := by
      by_cases ho : ownerM q = some u
      · exact (take_step hnx hu hL hus hI ho).2 S1 h1
      · have ht : takeM nx u S q = asideM S q := take_other ho
        rw [ht] at h1
        exact aside_step hus hI ho h1
    have hW2 : S1.word.toList = [] ∨ ∃ z ∈ P ++ [q], z.1 = userK u := by
      rw [take_word hus h1]
      by_cases e : q.1 = userK u
      · exact .inr ⟨q, by simp, e⟩
      · rw [if_neg e]
        rcases hW with hW | ⟨z, hz, hz2⟩
        · exact .inl hW
        · exact .inr ⟨z, List.mem_append_left _ hz, hz2⟩
    have h3 := all_perm hnx hu hus R (P ++ [q]) S1 S' hL2 hI2 hW2 h2
    refine h3.trans ?_
    have h4 := List.Perm.append_right R (take_perm hnx hu hL hus hI hW h1)
    rw [List.append_assoc] at h4
    exact h4
theorem take_desk {L : List PM} {u : ByteArray} {S : SM} (h : storeB L = true) (hus : (47 : UInt8) ∉ u.data.toList) (hS : takeAll (nextM L) u S0 L = some S) : (deskX u S).Perm L := by
  obtain ⟨hg, nx0, hnm, n1, n2, _, _, _⟩ := store_facts h
  have hI : Inv (nextM L) u [] S0 := ⟨fun name f' hf => (by cases hf), fun name w _ hm => (by cases hm), rfl⟩
  have h1 := all_perm (nx := nextM L) (by omega) hg.2.2 hus L [] S0 S rfl hI (.inl (by rw [ByteArray.toList_eq])) hS
  have h2 : deskX u S0 = [] := by
    unfold deskX wordL
    rw [if_pos (by rw [ByteArray.toList_eq])]
    rfl
  rw [h2, List.nil_append] at h1
  exact h1
end Go.Proofs.YtbpgncgmolpkiaaGreatDoor
namespace Go.Proofs.YtbpgncgmolpkiaaGreatDoor
open Go.ChangeShapes Go.WideShapes Go.ChangeAt Go.RowKit Go.Deep Go.Lib
set_option linter.unusedVariables false
set_option linter.unusedSimpArgs false
set_option maxRecDepth 100000

/-- A pair put into a rising list. -/
def insL (k v : ByteArray) : List PM → List PM
  | [] => [(k, v)]
  | x :: L => if Op.bytesLess x.1.toList k.toList = true then x :: insL k v L else if x.1 = k then (k, v) :: L else (k, v) :: x :: L
theorem bl_total' : ∀ x y : List UInt8, Op.bytesLess x y = false → x ≠ y → Op.bytesLess y x = true
  | [], [], _, h => absurd rfl h
  | [], b :: y, h, _ => by simp [Op.bytesLess] at h
  | a :: x, [], _, _ => by simp [Op.bytesLess]
  | a :: x, b :: y, h, hn => by
    have ih := bl_total' x y
    unfold Op.bytesLess at h ⊢
    by_cases e : a = b
    · subst e
      simp at h ⊢
      exact ih h (fun e => hn (by rw [e]))
    · simp at h ⊢
      have hne : a.toNat ≠ b.toNat := fun e2 => e (UInt8.toNat_inj.1 e2)
      have h1 := UInt8.le_iff_toNat_le.1 h.1
      exact .inl (UInt8.lt_iff_toNat_lt.2 (by omega))
theorem notK_self {k : ByteArray} {L : List PM} (h : ∀ x ∈ L, x.1 ≠ k) : notK k L = L := by
  unfold notK
  rw [List.filter_eq_self]
  exact fun x hx => decide_eq_true (h x hx)
theorem notK_cons (k : ByteArray) (x : PM) (L : List PM) (h : x.1 ≠ k) : notK k (x :: L) = x :: notK k L := by
  exact List.filter_cons_of_pos (decide_eq_true h)
theorem notK_skip (k : ByteArray) (x : PM) (L : List PM) (h : x.1 = k) : notK k (x :: L) = notK k L := by
  unfold notK
  rw [List.filter_cons_of_neg (by simp [h])]
theorem notK_app (k : ByteArray) (A B : List PM) : notK k (A ++ B) = notK k A ++ notK k B := List.filter_append ..
theorem notK_perm {k : ByteArray} {A B : List PM} (h : A.Perm B) : (notK k A).Perm (notK k B) := h.filter _
theorem notK_sub {k : ByteArray} {L : List PM} {x : PM} (h : x ∈ notK k L) : x ∈ L ∧ x.1 ≠ k := by
  obtain ⟨h1, h2⟩ := List.mem_filter.1 h
  exact ⟨h1, of_decide_eq_true h2⟩
theorem ltK_ne {x y : ByteArray} (h : ltK x y) : x ≠ y := fun e => by rw [e] at h; exact ltK_irrefl _ h
theorem lt_of_not {x k : ByteArray} (h : ¬ Op.bytesLess x.toList k.toList = true) (hn : x ≠ k) : ltK k x := bl_total' _ _ (by simpa using h) fun e => hn (toList_inj e)
theorem ins_perm {k v : ByteArray} : ∀ {L : List PM}, UpL L → (insL k v L).Perm ((k, v) :: notK k L)
  | [], _ => List.Perm.refl _
  | x :: L, hu => by
    obtain ⟨h1, h2⟩ := List.pairwise_cons.1 hu
    unfold insL
    by_cases e : Op.bytesLess x.1.toList k.toList = true
    · rw [if_pos e, notK_cons k x L (ltK_ne e)]
      exact (List.Perm.cons x (ins_perm h2)).trans (List.Perm.swap _ _ _)
    · rw [if_neg e]
      by_cases e2 : x.1 = k
      · rw [if_pos e2, notK_skip k x L e2, notK_self fun y hy => by rw [← e2]; exact (ltK_ne (h1 y hy)).symm]
      · rw [if_neg e2, notK_self fun y hy => ?_]
        rcases List.mem_cons.1 hy with rfl | hy
        · exact e2
        · exact (ltK_ne (bl_trans _ _ _ (lt_of_not e e2) (h1 y hy))).symm
theorem ins_mem {k v : ByteArray} {q : PM} {L : List PM} (hu : UpL L) (h : q ∈ insL k v L) : q = (k, v) ∨ (q ∈ L ∧ q.1 ≠ k) := by
  rcases List.mem_cons.1 ((ins_perm hu).mem_iff.1 h) with h | h
  · exact .inl h
  · exact .inr (notK_sub h)
theorem ins_up {k v : ByteArray} : ∀ {L : List PM}, UpL L → UpL (insL k v L)
  | [], _ => List.pairwise_singleton _ _
  | x :: L, hu => by
    obtain ⟨h1, h2⟩ := List.pairwise_cons.1 hu
    unfold insL
    by_cases e : Op.bytesLess x.1.toList k.toList = true
    · rw [if_pos e]
      refine List.pairwise_cons.2 ⟨fun y hy => ?_, ins_up h2⟩
      rcases ins_mem h2 hy with rfl | hy
      · exact e
      · exact h1 y hy.1
    · rw [if_neg e]
      by_cases e2 : x.1 = k
      · rw [if_pos e2]
        exact List.pairwise_cons.2 ⟨fun y hy => by show ltK k y.1; rw [← e2]; exact h1 y hy, h2⟩
      · rw [if_neg e2]
        refine List.pairwise_cons.2 ⟨fun y hy => ?_, hu⟩
        rcases List.mem_cons.1 hy with rfl | hy
        · exact lt_of_not e e2
        · exact bl_trans _ _ _ (lt_of_not e e2) (h1 y hy)
theorem ins_len {k v : ByteArray} {L : List PM} (hu : UpL L) : (insL k v L).length ≤ L.length + 1 ∧ 1 ≤ (insL k v L).length := by
  rw [(ins_perm hu).length_eq, List.length_cons]
  have h9 : (notK k L).length ≤ L.length := List.length_filter_le _ L
  omega
/-- A list of pairs that is not too great. -/
def GoodW (L : List PM) : Prop := L.length ≤ 64 ∧ (∀ x ∈ L, 1 ≤ x.1.size ∧ x.1.size ≤ 30 ∧ x.2.size ≤ 90) ∧ UpL L
theorem ins_good {k v : ByteArray} {L : List PM} (hu : UpL L) (hz : ∀ x ∈ L, 1 ≤ x.1.size ∧ x.1.size ≤ 30 ∧ x.2.size ≤ 90) (hl : L.length ≤ 63) (hk : 1 ≤ k.size ∧ k.size ≤ 30) (hv : v.size ≤ 90) : GoodW (insL k v L) :=
  ⟨by have := (ins_len (k := k) (v := v) hu).1; omega, fun x hx => by
    rcases ins_mem hu hx with rfl | hx
    · exact ⟨hk.1, hk.2, hv⟩
    · exact hz x hx.1, ins_up hu⟩
theorem put_ins {k v : ByteArray} : ∀ {L : List PM} {p : Nat}, UpL L → IsPlace (fK L) L.length k p → L.take p ++ [(k, v)] ++ L.drop (if hitB (fK L) L.length k p = true then p + 1 else p) = insL k v L
  | [], p, _, hp => by
    obtain rfl : p = 0 := by have := hp.1; simpa using this
    unfold insL hitB
    simp
  | x :: L, 0, hu, hp => by
    have h0 : ¬ Op.bytesLess x.1.toList k.toList = true := by
      have := hp.2.2 (by simp)
      intro h
      have h2 : Op.bytesLess x.1.toList k.toList = false := this
      rw [h] at h2
      cases h2
    unfold insL
    rw [if_neg h0]
    have hh : hitB (fK (x :: L)) (x :: L).length k 0 = (x.1.toList == k.toList) := by
      unfold hitB
      rw [decide_eq_true (by simp)]
      rfl
    rw [hh]
    by_cases e : x.1 = k
    · rw [if_pos e, if_pos (by rw [e]; simp)]
      rfl
    · rw [if_neg e, if_neg (by simpa using fun h9 => e (toList_inj h9))]
      rfl
  | x :: L, p + 1, hu, hp => by
    obtain ⟨h1, h2⟩ := List.pairwise_cons.1 hu
    have hf : ∀ i, fK (x :: L) (i + 1) = fK L i := fun i => rfl
    have e : Op.bytesLess x.1.toList k.toList = true := hp.2.1 0 (by omega)
    have hp2 : IsPlace (fK L) L.length k p := by
      refine ⟨by have := hp.1; simp at this; omega, fun j hj => ?_, fun hlt => ?_⟩
      · have := hp.2.1 (j + 1) (by omega)
        rw [hf] at this
        exact this
      · have := hp.2.2 (by simp; omega)
        rw [hf] at this
        exact this
    have hh : hitB (fK (x :: L)) (x :: L).length k (p + 1) = hitB (fK L) L.length k p := by
      unfold hitB
      rw [hf]
      simp
    have ih := put_ins (v := v) h2 hp2
    unfold insL
    rw [if_pos e, ← ih, hh]
    by_cases h : hitB (fK L) L.length k p = true
    · rw [if_pos h, if_pos h]
      rfl
    · rw [if_neg h, if_neg h]
      rfl
theorem mailK_not (u f : ByteArray) (n : Int) : mailK u f n ≠ vK := fun e => by
  have h := congrArg (fun x : ByteArray => x.data.toList) e
  simp [bs] at h
theorem flat_mem {u : ByteArray} {fs : List FM} {q : PM} (h : q ∈ flatF u fs) : ∃ f ∈ fs, q ∈ fPairs u f := List.mem_flatMap.1 h
theorem flat_not (u : ByteArray) (fs : List FM) : notK vK (flatF u fs) = flatF u fs := notK_self fun x hx => by
  obtain ⟨f, _, hf⟩ := flat_mem hx
  unfold fPairs at hf
  rcases List.mem_cons.1 hf with rfl | hf
  · exact folder_not _ _
  · obtain ⟨m, _, rfl⟩ := List.mem_map.1 hf
    exact mailK_not _ _ _
theorem word_not (u wd : ByteArray) : notK vK (wordL u wd) = wordL u wd := notK_self fun x hx => by
  unfold wordL at hx
  split at hx
  · cases hx
  · rw [List.mem_singleton.1 hx]
    exact user_not u
theorem rest_perm {L : List PM} {u : ByteArray} {S : SM} (h : storeB L = true) (hus : (47 : UInt8) ∉ u.data.toList) (hS : takeAll (nextM L) u S0 L = some S) : (notK vK L).Perm (wordL u S.word ++ (notK vK S.aside ++ flatF u S.fs)) := by
  have h1 := (notK_perm (k := vK) (take_desk h hus hS)).symm
  unfold deskX at h1
  rw [notK_app, notK_app, word_not, flat_not] at h1
  refine h1.trans ?_
  rw [← List.append_assoc, ← List.append_assoc]
  exact List.Perm.append_right _ List.perm_append_comm
theorem look_known {L : List PM} {u name : ByteArray} {S : SM} {f : FM} (h : storeB L = true) (hus : (47 : UInt8) ∉ u.data.toList) (hS : takeAll (nextM L) u S0 L = some S) (hl : lookF name S.fs = some f) : ∃ w, (folderK u name, w) ∈ L ∧ (metaV w).isSome = true ∧ shortB name = true := by
  obtain ⟨S', k1, _, hI⟩ := take_all h hus
  rw [hS] at k1
  cases k1
  obtain ⟨w, f2, k2, k3, _⟩ := hI.a _ _ hl
  obtain ⟨_, nx0, hnm, n1, n2, _, _, _⟩ := store_facts h
  have k4 := (folder_meta (by omega)).1 k3
  exact ⟨w, k2, by rw [k4.2.1]; rfl, k4.1⟩
theorem look_there {L : List PM} {u name w : ByteArray} {S : SM} (h : storeB L = true) (hus : (47 : UInt8) ∉ u.data.toList) (hS : takeAll (nextM L) u S0 L = some S) (hn : (47 : UInt8) ∉ name.data.toList) (hm : (folderK u name, w) ∈ L) : (lookF name S.fs).isSome = true := by
  obtain ⟨S', k1, _, hI⟩ := take_all h hus
  rw [hS] at k1
  cases k1
  exact hI.b name w hn hm
theorem user_of_folder {L : List PM} {u name w : ByteArray} (h : storeB L = true) (hus : (47 : UInt8) ∉ u.data.toList) (hn : (47 : UInt8) ∉ name.data.toList) (hm : (folderK u name, w) ∈ L) : ∃ z ∈ L, z.1 = userK u := by
  obtain ⟨_, nx0, _, _, _, _, _, k⟩ := store_facts h
  rcases k _ hm with k | ⟨u', k1, k2⟩
  · exact absurd k (folder_not _ _)
  · rw [owner_folder hus hn] at k1
    cases k1
    exact k2
theorem no_folders {L : List PM} {u : ByteArray} {S : SM} (h : storeB L = true) (hus : (47 : UInt8) ∉ u.data.toList) (hS : takeAll (nextM L) u S0 L = some S) (hno : getM L (userK u) = none) : S.fs = [] := by
  cases hf : S.fs with
  | nil => rfl
  | cons f fs =>
    exfalso
    have hl : lookF f.name S.fs = some f := by rw [hf]; unfold lookF; rw [if_pos rfl]
    obtain ⟨w, k1, _, k3⟩ := look_known h hus hS hl
    obtain ⟨z, z1, z2⟩ := user_of_folder h hus (word_slash k3) k1
    exact getM_none.1 hno z z1 z2
/-- A folder more, on the desk and in the list. -/
theorem fresh_perm {L1 : List PM} {u name wd : ByteArray} {sd : List PM} {fs : List FM} {nx next : Int} (hu : UpL L1) (h1 : (notK vK L1).Perm ((userK u, wd) :: (notK vK sd ++ flatF u fs))) (hl : lookF name fs = none) (hn : ∀ x ∈ L1, x.1 ≠ folderK u name) :
    (deskP (nx + 1) u ⟨sd, wd, putF ⟨name, nx, next, []⟩ fs⟩).Perm (insL (folderK u name) (metaT nx next) (insL vK (bs (itoa (nx + 1))) L1)) := by
  have h2 := ins_perm (k := vK) (v := bs (itoa (nx + 1))) hu
  have h3 := ins_perm (k := folderK u name) (v := metaT nx next) (ins_up (k := vK) (v := bs (itoa (nx + 1))) hu)
  refine List.Perm.trans ?_ h3.symm
  have h4 : notK (folderK u name) (insL vK (bs (itoa (nx + 1))) L1) = insL vK (bs (itoa (nx + 1))) L1 := notK_self fun x hx => by
    rcases ins_mem hu hx with rfl | hx
    · exact (folder_not u name).symm
    · exact hn x hx.1
  rw [h4]
  refine List.Perm.trans ?_ (List.Perm.cons _ h2.symm)
  unfold deskP
  have h5 : flatF u (putF ⟨name, nx, next, []⟩ fs) = flatF u fs ++ [(folderK u name, metaT nx next)] := by
    rw [put_none hl]
    unfold flatF
    rw [List.flatMap_append]
    rfl
  show ((vK, bs (itoa (nx + 1))) :: (userK u, wd) :: (notK vK sd ++ flatF u (putF ⟨name, nx, next, []⟩ fs))).Perm _
  rw [h5]
  refine List.Perm.trans ?_ (List.Perm.swap _ _ _)
  refine List.Perm.cons _ ?_
  refine List.Perm.trans ?_ (List.Perm.cons _ h1.symm)
  rw [← List.append_assoc]
  exact (List.Perm.cons (userK u, wd) List.perm_append_comm).trans (List.Perm.swap _ _ _)
theorem short_size' {u : ByteArray} (h : shortB u = true) : u.size ≤ 8 := by
  unfold shortB at h
  rw [Bool.and_eq_true, decide_eq_true_eq] at h
  exact h.2
theorem fit_take {nx : Int} {u : ByteArray} {S S' : SM} {q : PM} (hnx : nx ≤ 10000) (hz : q.1.size ≤ 1000 ∧ q.2.size ≤ 1000) (hS : ∀ f ∈ S.fs, FitF f) (h : takeM nx u S q = some S') : ∀ f ∈ S'.fs, FitF f := by
  have hput : ∀ {o : Option FM}, putM S o = some S' → (∀ g, o = some g → FitF g) → ∀ f ∈ S'.fs, FitF f := fun {o} h9 hg => by
    unfold putM at h9
    obtain ⟨g, rfl, rfl⟩ := Option.map_eq_some_iff.1 h9
    intro f hf
    rcases putF_mem hf with hf | rfl
    · exact hS f hf
    · exact hg _ rfl
  have haside : asideM S q = some S' → ∀ f ∈ S'.fs, FitF f := fun h9 => by cases h9; exact hS
  unfold takeM takeP at h
  split at h
  · split at h
    · unfold userM at h
      obtain ⟨_, rfl⟩ := ite_some h
      exact hS
    · exact haside h
  · rename_i a b c hG
    split at h
    · rename_i hc
      refine hput h fun g hg => ?_
      have hgf := (folder_meta hnx).1 hg
      obtain ⟨k1, k2, k3, k4⟩ := hgf
      have hm := metaV_range k2
      have hsz := short_size' k1
      rw [k4]
      exact ⟨by show 0 ≤ g.val; omega, by show g.val ≤ 10000; omega, by show 0 ≤ g.next; omega, by show g.next ≤ 10000; omega, by show (bs c).size ≤ 1000; omega, fun m hm => by cases hm⟩
    · exact haside h
  · rename_i a b c d hG
    split at h
    · refine hput h fun g hg => ?_
      unfold mailM at hg
      obtain ⟨f', hl, hg2⟩ := Option.bind_eq_some_iff.1 hg
      obtain ⟨un, m1, m2, m3, m4, m5, m6, m7, m8, hgm⟩ := mailO_some hg2
      obtain ⟨e1, e2, e3, e4, e5, e6⟩ := hS f' (lookF_mem hl).1
      rw [hgm]
      refine ⟨e1, e2, e3, e4, e5, fun m hm => ?_⟩
      rcases List.mem_append.1 (show m ∈ f'.mails ++ [((un : Int), hdV q.2 - 48, q.2.extract 1 q.2.size)] from hm) with hm | hm
      · exact e6 m hm
      · rw [List.mem_singleton.1 hm]
        have hu1 := (d3_back m2 m1).1
        refine ⟨by show 0 ≤ (un : Int); omega, by show (un : Int) < 1000; omega, by show 0 ≤ hdV q.2 - 48; omega, by show hdV q.2 - 48 ≤ 3; omega, ?_⟩
        show (q.2.extract 1 q.2.size).size ≤ 1000
        rw [ByteArray.size_extract]
        omega
    · exact haside h
  · exact haside h
theorem fit_all {nx : Int} {u : ByteArray} (hnx : nx ≤ 10000) : ∀ {L : List PM} {S S' : SM}, (∀ q ∈ L, q.1.size ≤ 1000 ∧ q.2.size ≤ 1000) → (∀ f ∈ S.fs, FitF f) → takeAll nx u S L = some S' → ∀ f ∈ S'.fs, FitF f
  | [], S, S', _, hS, h => by cases h; exact hS
  | q :: L, S, S', hz, hS, h => by
    unfold takeAll at h
    obtain ⟨S1, h1, h2⟩ := Option.bind_eq_some_iff.1 h
    exact fit_all hnx (fun x hx => hz x (List.mem_cons_of_mem _ hx)) (fit_take hnx (hz q List.mem_cons_self) hS h1) h2
theorem store_fit {L : List PM} {u : ByteArray} {S : SM} (h : storeB L = true) (hS : takeAll (nextM L) u S0 L = some S) : ∀ f ∈ S.fs, FitF f := by
  obtain ⟨hg, nx0, hnm, n1, n2, _, _, _⟩ := store_facts h
  exact fit_all (by omega) (fun q hq => by have := hg.2.1 q hq; omega) (fun f hf => by cases hf) hS
end Go.Proofs.YtbpgncgmolpkiaaGreatDoor
