/-
  Apl Plc in one. By an AI agent.
-/
import Derived.Test.YtddnecljdecamaaGreatDoorQ26
import Derived.Test.YtddnecljdecamaaGreatDoorQ27
namespace Go.Proofs.YtddnecljdecamaaGreatDoor
open Go.ChangeShapes Go.WideShapes Go.ChangeAt Go.RowKit Go.Deep Go.Lib
set_option linter.unusedVariables false
set_option linter.unusedSimpArgs false
set_option maxRecDepth 100000

set_option maxHeartbeats 4000000 in
theorem appendedI (w : World) (M : Nat) (a : Option Addr) (n c : Nat) (nx : Int) (u : ByteArray) (S : SM) (k : Nat) (hS : StAt w M a n c nx u S k) (f : ByteArray) (g : FM) (hl : lookF f S.fs = some g) (hfz : f.size ≤ 1000) (hu : u.size ≤ 1000) (x0 fl : Int) (t : ByteArray) (hsum : sumF S.fs ≤ 60) (hk : k ≤ 999) (n0 : 0 ≤ nx) (n1 : nx ≤ 10000) (L : List PM) (hL : L.length = n) (hn60 : n ≤ 60) (h : Src w a (cellsP L)) (hG : Gl w) (h8 : 8 ≤ M) (ha : ∀ ad, a = some ad → ad.block < M) (A : List PM × Int × Int) (HAF : ∀ q S', apM S g fl t = (q, S') → AppFits L nx u g.next q S' A) (R : List PM) (q1 q2 : Int) (HA : Hid (A = (R, q1, q2))) :
    Calls Tryz.prog 47 #[.pointer (some ⟨M + 1, 0, none⟩), .string f, .agg #[.int .i64 x0, .int .i64 fl, .string t]] w fun e w' => ∃ v, e = .returned (.tuple #[v, .int .i64 q1, .int .i64 q2]) ∧ w'.ownsRow w.heap.size 68 2 v R.length (cellsP R) ∧ Below M w w' := by
  have hSS := hS
  obtain ⟨va, X, hD, hV, hN, hf, hkk⟩ := hSS
  have hM1 : M + 1 < w.heap.size := World.block_lt_of_cell? _ _ (hD.1 0 _ rfl).1
  obtain ⟨w0, hw0⟩ : ∃ W, w.alloc (.cells #[.int .i64 x0, .int .i64 fl, .string t] 36) = W := ⟨_, rfl⟩
  have A0 : Below w.heap.size w w0 := by rw [← hw0]; exact (Below.refl _ _).alloc (Nat.le_refl _) _
  have X0 : Hid (Box w0 w.heap.size [.int .i64 x0, .int .i64 fl, .string t]) := by show Box _ _ _; rw [← hw0]; exact Box.new rfl
  have HA0 : Hid (Below w.heap.size w w0) := A0
  obtain ⟨x, hx, hxg⟩ : ∃ x, lookX (folderK u f) X = some x ∧ fmX x = g := by
    have h9 := hV.look f
    rw [hl] at h9
    obtain ⟨x, h1, h2⟩ := Option.map_eq_some_iff.1 h9
    exact ⟨x, h1, h2⟩
  obtain ⟨ax, cx, hxv, _, _⟩ := own_src (hD.2.2.2.1 x (look_mem hx))
  have CT := atI f w0 M _ (by omega) (by show u.size ≤ 1048576; omega) (hD.later A0)
  have hat : atX (lookX (folderK u f) X) = .agg #[.string x.name, .int .i64 x.val, .int .i64 x.next, .slice ax x.mails.length cx] := by
    rw [hx]
    show valX x = _
    unfold valX
    rw [hxv]
  simp only [hat] at CT
  have hgx : x.next = g.next := by rw [← hxg]
  rw [hgx] at CT
  obtain ⟨q, S', hop⟩ : ∃ q S', apM S g fl t = (q, S') := ⟨_, _, rfl⟩
  have HOF : Hid (AppFits L nx u g.next q S' A) := HAF q S' hop
  have CA := fun W (hW : Below w.heap.size w W) => appendMailI W M a n c nx u S k (hS.later hW) f g hl hfz hu x0 fl t hsum (by omega) q S' hop
  obtain ⟨gx, hgx2⟩ : ∃ z, g.next = z := ⟨_, rfl⟩
  rw [hgx2] at CT HOF
  obtain ⟨xn, hxn⟩ : ∃ z, x.name = z := ⟨_, rfl⟩
  obtain ⟨xv, hxv2⟩ : ∃ z, x.val = z := ⟨_, rfl⟩
  obtain ⟨ml, hml⟩ : ∃ z, x.mails.length = z := ⟨_, rfl⟩
  rw [hxn, hxv2, hml] at CT
  have HS : Hid (Src w a (cellsP L) ∧ L.length = n ∧ Gl w) := ⟨h, hL, hG⟩
  have HSM : Hid (∀ W, Below M w W → Src W a (cellsP L)) := fun W hW => by
    rcases h with h | ⟨b, o, rfl, hc⟩
    · exact .inl h
    · refine .inr ⟨b, o, rfl, fun j hj => ?_⟩
      have hb : b < M := ha _ rfl
      rw [World.cell?_of_block (a := ⟨b, o + j, none⟩) (hW.block b hb)]
      exact hc j hj
  clear hD hV hN hf hkk hat hx hxg hxv hgx hop HAF hS A0 hgx2 hxn hxv2 hml h hL hG
  have hfl : ∀ W, (Instr.field 28 (.agg #[.string xn, .int .i64 xv, .int .i64 gx, .slice ax ml cx]) 2).run Tryz.prog W = .ok (.int .i64 gx) W := fun W => by
    kernel_rfl
  go_enter Tryz.func47, Tryz.ntmps47
  go_wp2_with fail
  refine CT.mono ?_
  rintro e w1 ⟨rfl, hb1⟩
  have X1 : Hid (Box w1 w.heap.size [.int .i64 x0, .int .i64 fl, .string t]) := X0.out.below hb1
  have B1 : Hid (Below w.heap.size w w1) := HA0.out.trans (hb1.mono HA0.out.size)
  have CA1 := CA w1 B1.out
  obtain ⟨e0', _⟩ := X1.out 0 _ rfl
  obtain ⟨e1', _⟩ := X1.out 1 _ rfl
  obtain ⟨e2', _⟩ := X1.out 2 _ rfl
  clear hb1 CT CA
  go_wp2_with fail
  refine CA1.mono ?_
  rintro e w2 ⟨rfl, hst2, hb2⟩
  have B2 : Hid (Below M w w2) := (B1.out.mono (by omega)).trans hb2
  have Z2 : Hid (w.heap.size ≤ w2.heap.size) := B2.out.size
  have HST2 : Hid (StAt w2 M a n c nx u S' (k + 1)) := hst2
  clear hst2 hb2 CA1 e0' e1' e2'
  by_cases hq : q = 0
  · subst hq
    obtain ⟨k3, Y, k4, k5, k6, k7⟩ := HOF.out.2 rfl
    rw [HA.out] at k7
    by_cases h60 : 60 < Y.length
    · rw [if_pos h60] at k7
      obtain ⟨rfl, rfl, rfl⟩ : R = L ∧ q1 = 0 ∧ q2 = 7 := by cases k7; exact ⟨rfl, rfl, rfl⟩
      have CE := doneOk w2 M a n c nx u S' (k + 1) HST2.out hu n0 n1 k3 (by omega) (HS.out.2.2.below h8 B2.out) h8 Y k4 k5 _ rfl k6 R HS.out.2.1 hn60 (HSM.out w2 B2.out) R 7 (by show _ = _; rw [if_pos h60])
      clear k3 k4 k5 k6 k7 HOF
      go_wp2_with fail
      refine CE.mono ?_
      rintro e w6 ⟨v6, rfl, ho6, hb6⟩
      obtain ⟨a6, c6, rfl, _, _⟩ := own_src ho6
      have HF : Hid (w6.ownsRow w.heap.size 68 2 (.slice a6 R.length c6) R.length (cellsP R) ∧ Below M w w6) := ⟨own_mono ho6 Z2.out, B2.out.trans (hb6.mono (by have := Z2.out; omega))⟩
      clear CE ho6 hb6
      go_wp2_with fail
      exact bodyPost_ret (v := .tuple #[.slice a6 R.length c6, .int .i64 0, .int .i64 7]) (by simp [results, Tryz.results47, go_sem]) rfl ⟨_, rfl, HF.out⟩
    · rw [if_neg h60] at k7
      obtain ⟨rfl, rfl, rfl⟩ : R = Y ∧ q1 = gx ∧ q2 = 0 := by cases k7; exact ⟨rfl, rfl, rfl⟩
      have CE := doneOk w2 M a n c nx u S' (k + 1) HST2.out hu n0 n1 k3 (by omega) (HS.out.2.2.below h8 B2.out) h8 R k4 k5 _ rfl k6 L HS.out.2.1 hn60 (HSM.out w2 B2.out) R 0 (by show _ = _; rw [if_neg h60])
      clear k3 k4 k5 k6 k7 HOF
      go_wp2_with fail
      refine CE.mono ?_
      rintro e w6 ⟨v6, rfl, ho6, hb6⟩
      obtain ⟨a6, c6, rfl, _, _⟩ := own_src ho6
      have HF : Hid (w6.ownsRow w.heap.size 68 2 (.slice a6 R.length c6) R.length (cellsP R) ∧ Below M w w6) := ⟨own_mono ho6 Z2.out, B2.out.trans (hb6.mono (by have := Z2.out; omega))⟩
      clear CE ho6 hb6
      go_wp2_with fail
      exact bodyPost_ret (v := .tuple #[.slice a6 R.length c6, .int .i64 q1, .int .i64 0]) (by simp [results, Tryz.results47, go_sem]) rfl ⟨_, rfl, HF.out⟩
  · have k7 := HOF.out.1 hq
    rw [HA.out] at k7
    obtain ⟨hk1, hk2, hk3⟩ : R = L ∧ 0 = q1 ∧ q = q2 := by cases k7; exact ⟨rfl, rfl, rfl⟩
    have e0c : w2.cell? ⟨M + 1, 0, none⟩ = some (.slice a n c) := by
      obtain ⟨_, _, hD, _⟩ := HST2.out
      exact (hD.1 0 _ rfl).1
    have CE := doneBad q hq w2 M a n c L HS.out.2.1 hn60 e0c (HSM.out w2 B2.out)
    have HK : Hid (R = L ∧ 0 = q1 ∧ q = q2) := ⟨hk1, hk2, hk3⟩
    have hqi : (q != 0) = true := by simpa using hq
    clear k7 HOF hk1 hk2 hk3 e0c
    go_wp2_with fail
    refine CE.mono ?_
    rintro e w6 ⟨v6, rfl, ho6, hb6⟩
    obtain ⟨a6, c6, rfl, _, _⟩ := own_src ho6
    have HF : Hid (w6.ownsRow w.heap.size 68 2 (.slice a6 n c6) R.length (cellsP R) ∧ Below M w w6) := ⟨by rw [HK.out.1, HS.out.2.1]; exact own_mono ho6 Z2.out, B2.out.trans (hb6.mono (by have := Z2.out; omega))⟩
    have HK2 : Hid (0 = q1 ∧ q = q2) := HK.out.2
    clear CE ho6 hb6
    go_wp2_with fail
    exact bodyPost_ret (v := .tuple #[.slice a6 n c6, .int .i64 0, .int .i64 q]) (by simp [results, Tryz.results47, go_sem]) rfl ⟨_, by rw [HK2.out.1, HK2.out.2], HF.out⟩
theorem lack_known {L : List PM} {u f : ByteArray} {S : SM} (h : storeB L = true) (hus : (47 : UInt8) ∉ u.data.toList) (hfs : (47 : UInt8) ∉ f.data.toList) (hS : takeAll (nextM L) u S0 L = some S) : lackM S.word S.fs [f] = knownR L u f := by
  obtain ⟨hwi, _⟩ := word_iff h hus hS
  obtain ⟨hli, _⟩ := look_iff h hus hS hfs
  unfold lackM knownR
  by_cases hw : S.word.toList = []
  · rw [if_pos hw, hwi.1 hw]
    rfl
  · have hs : (getM L (userK u)).isSome = true := by
      cases hv : getM L (userK u) with
      | none => exact absurd (hwi.2 hv) hw
      | some v => rfl
    have hall : [f].all (fun s => (lookF s S.fs).isSome) = (lookF f S.fs).isSome := by simp
    rw [if_neg hw, hs, hall, hli]
    rfl
theorem known_zero {L : List PM} {u f : ByteArray} {S : SM} (h : storeB L = true) (hus : (47 : UInt8) ∉ u.data.toList) (hfs : (47 : UInt8) ∉ f.data.toList) (hS : takeAll (nextM L) u S0 L = some S) (hk : knownR L u f = 0) : S.word.toList ≠ [] ∧ ∃ g, lookF f S.fs = some g := by
  rw [← lack_known h hus hfs hS] at hk
  unfold lackM at hk
  split at hk
  · cases hk
  · rename_i hw
    split at hk
    · cases hk
    · rename_i hb
      refine ⟨hw, Option.isSome_iff_exists.1 ?_⟩
      cases h9 : (lookF f S.fs).isSome with
      | true => rfl
      | false => exact absurd (by show ((lookF f S.fs).isSome && true) = false; rw [h9]; rfl) hb
theorem app_small {L : List PM} (hg : GoodL L) (u f t : ByteArray) (fl : Int) : (appR L u f t fl).1.length ≤ 4000 := by
  have h1 := hg.1
  have h2 := (app_len hg u f t fl).1
  unfold appR
  split
  · show L.length ≤ 4000; omega
  · split
    · show L.length ≤ 4000; omega
    · split
      · show L.length ≤ 4000; omega
      · split
        · show L.length ≤ 4000; omega
        · show (appY L u f t fl).length ≤ 4000; omega
theorem l01InS (n lo hi : Int) (b : Bool) (w : World) (h : (decide (lo ≤ n) && decide (n ≤ hi)) = b) : Calls Tryz.prog 49 #[.int .i64 n, .int .i64 lo, .int .i64 hi] w fun e w' => e = .returned (.bool b) ∧ w' = w := by
  by_cases h1 : lo ≤ n
  · by_cases h2 : n ≤ hi
    · obtain rfl : true = b := by rw [← h, decide_eq_true h1, decide_eq_true h2]; rfl
      clear h
      go_enter Tryz.func49, Tryz.ntmps49
      go_wp2_with fail
      go_ret
      exact ⟨rfl, rfl⟩
    · obtain rfl : false = b := by rw [← h, decide_eq_false h2]; simp
      clear h
      go_enter Tryz.func49, Tryz.ntmps49
      go_wp2_with fail
      go_ret
      exact ⟨rfl, rfl⟩
  · obtain rfl : false = b := by rw [← h, decide_eq_false h1]; rfl
    clear h
    go_enter Tryz.func49, Tryz.ntmps49
    go_wp2_with fail
    go_ret
    exact ⟨rfl, rfl⟩
end Go.Proofs.YtddnecljdecamaaGreatDoor
namespace Go.Proofs.YtddnecljdecamaaGreatDoor
open Go.ChangeShapes Go.WideShapes Go.ChangeAt Go.RowKit Go.Deep Go.Lib
set_option linter.unusedVariables false
set_option linter.unusedSimpArgs false
set_option maxRecDepth 100000

set_option maxHeartbeats 1000000 in
theorem place1I (x y : Int) (t : ByteArray) (un : Int) (B : Nat) (w : World) (hB : Box w B [.int .i64 un]) (bb : Bool) (hb : (x == un) = bb) :
    Calls Tryz.prog 119 #[.agg #[.int .i64 x, .int .i64 y, .string t], .pointer (some ⟨B, 0, none⟩)] w fun e w' => e = .returned (.bool bb) ∧ Below w.heap.size w w' := by
  have c0 := (hB.below ((Below.refl _ _).alloc (Nat.le_refl _) (.cells #[.int .i64 x, .int .i64 y, .string t] 36)) 0 _ rfl).1
  clear hB
  go_enter Tryz.func119, Tryz.ntmps119
  go_wp2_with fail
  go_ret
  exact ⟨rfl, (Below.refl _ _).alloc (Nat.le_refl _) _⟩
/-- Where a uid is first. -/
def PlaceIs (Ms : List MMl) (un at' : Int) : Prop := (∃ i : Nat, i < Ms.length ∧ at' = (i : Int) ∧ (Ms.getD i ml0).1 = un) ∨ (at' = -1 ∧ ∀ m ∈ Ms, m.1 ≠ un)
set_option maxHeartbeats 2000000 in
theorem indexMailsI (a : Option Addr) (n c : Nat) (Ms : List MMl) (un : Int) (B : Nat) (w : World) (hL : Ms.length = n) (hn : n ≤ 1000) (hB : Box w B [.int .i64 un]) (h : Src w a (cellsMl Ms)) :
    Calls Tryz.prog 111 #[.slice a n c, .func (.func 119) #[] #[.pointer (some ⟨B, 0, none⟩)]] w fun e w' => ∃ i, e = .returned (.int .i64 i) ∧ PlaceIs Ms un i ∧ -1 ≤ i ∧ Below w.heap.size w w' := by
  have HH : Hid (Src w a (cellsMl Ms)) := h
  have HL : Hid (Ms.length = n) := hL
  have HC : ∀ (x y : Int) (t : ByteArray) (W : World) (bb : Bool), Below w.heap.size w W → (x == un) = bb → Calls Tryz.prog 119 #[.agg #[.int .i64 x, .int .i64 y, .string t], .pointer (some ⟨B, 0, none⟩)] W fun e w' => e = .returned (.bool bb) ∧ Below W.heap.size W w' := fun x y t W bb hW hb => place1I x y t un B W (hB.below hW) bb hb
  clear h hL hB
  go_enter Tryz.func111, Tryz.ntmps111
  go_wp2_with fail
  go_loopw [8] (fun i wr => ∃ k : Nat, k ≤ n ∧ i = .int .i64 (k : Int) ∧ Hid (∀ j, j < k → (Ms.getD j ml0).1 ≠ un) ∧ Hid (Below w.heap.size w wr)) (fun i _ => n - (RowKit.intOf i).toNat)
  case atStart => exact ⟨0, by omega, rfl, fun j hj => absurd hj (by omega), Below.refl _ _⟩
  case round =>
    obtain ⟨k, hk, rfl, hno, hb⟩ := hrel
    by_cases hlt : k < n
    · have hlti : (k : Int) < (n : Int) := by omega
      have hkL : k < Ms.length := by rw [HL.out]; exact hlt
      obtain ⟨b, q, x, y, t, rfl, hc0, hc1, hc2, hy⟩ := srcMl (HH.out.below hb.out) hkL
      cases hbb : (x == un) with
      | true =>
        have HP : Hid (PlaceIs Ms un (k : Int) ∧ (-1 : Int) ≤ (k : Int)) := ⟨.inl ⟨k, hkL, rfl, by rw [hy.out]; exact eq_of_beq hbb⟩, by omega⟩
        have C1 := HC x y t wr true hb.out hbb
        clear hy hbb HC
        go_wp2_with fail
        refine C1.mono ?_
        rintro e w5 ⟨rfl, hb5⟩
        have B5 : Hid (Below w.heap.size w w5) := hb.out.trans (hb5.mono hb.out.size)
        clear hb5 C1
        go_wp2_with fail
        go_ret
        exact ⟨_, rfl, HP.out.1, HP.out.2, B5.out⟩
      | false =>
        have HN : Hid (∀ j, j < k + 1 → (Ms.getD j ml0).1 ≠ un) := fun j hj => by
          by_cases e : j = k
          · rw [e, hy.out]
            exact fun h9 => by
              have h8 : (x == un) = true := by rw [show x = un from h9]; simp
              rw [hbb] at h8
              cases h8
          · exact hno.out j (by omega)
        have C1 := HC x y t wr false hb.out hbb
        clear hy hbb
        go_wp2_with fail
        refine C1.mono ?_
        rintro e w5 ⟨rfl, hb5⟩
        have B5 : Hid (Below w.heap.size w w5) := hb.out.trans (hb5.mono hb.out.size)
        clear hb5 C1
        go_wp2_with fail
        exact ⟨⟨k + 1, by omega, by go_num, HN.out, B5.out⟩, by simp [RowKit.intOf]; omega⟩
    · obtain rfl : k = n := by omega
      have hlti : ¬ (k : Int) < (k : Int) := by omega
      have HP : Hid (PlaceIs Ms un (-1)) := .inr ⟨rfl, fun m hm => by
        obtain ⟨j, hj, rfl⟩ := List.mem_iff_getElem.1 hm
        have h9 := hno.out j (by rw [HL.out] at hj; exact hj)
        rw [List.getD_eq_getElem?_getD, List.getElem?_eq_getElem hj] at h9
        exact h9⟩
      clear HC
      go_wp2_with fail
      go_ret
      exact ⟨_, rfl, HP.out, by omega, hb.out⟩
set_option maxHeartbeats 2000000 in
theorem placeI (nm : ByteArray) (vl nx : Int) (ax : Option Addr) (ml cx : Nat) (Ms : List MMl) (un : Int) (w : World) (hL : Ms.length = ml) (hn : ml ≤ 1000) (h : Src w ax (cellsMl Ms)) :
    Calls Tryz.prog 71 #[.agg #[.string nm, .int .i64 vl, .int .i64 nx, .slice ax ml cx], .int .i64 un] w fun e w' => ∃ i : Int, e = .returned (.tuple #[.int .i64 i, .bool (decide (0 ≤ i))]) ∧ PlaceIs Ms un i ∧ -1 ≤ i ∧ Below w.heap.size w w' := by
  obtain ⟨w0, hw0⟩ : ∃ W, w.alloc (.cells #[.string nm, .int .i64 vl, .int .i64 nx, .slice ax ml cx] 28) = W := ⟨_, rfl⟩
  have A0 : Below w.heap.size w w0 := by rw [← hw0]; exact (Below.refl _ _).alloc (Nat.le_refl _) _
  have X0 : Box w0 w.heap.size [.string nm, .int .i64 vl, .int .i64 nx, .slice ax ml cx] := by rw [← hw0]; exact Box.new rfl
  obtain ⟨w1, hw1⟩ : ∃ W, w0.alloc (.cells #[.int .i64 un] 3) = W := ⟨_, rfl⟩
  have A1 : Below w0.heap.size w0 w1 := by rw [← hw1]; exact (Below.refl _ _).alloc (Nat.le_refl _) _
  have X1 : Box w1 w0.heap.size [.int .i64 un] := by rw [← hw1]; exact Box.new rfl
  have BB : Hid (Below w.heap.size w w1) := A0.trans (A1.mono A0.size)
  obtain ⟨c3, _⟩ := (X0.below A1) 3 _ rfl
  have hz : w0.heap.size = w.heap.size + 1 := by rw [← hw0]; simp
  have CI := indexMailsI ax ml cx Ms un w0.heap.size w1 hL hn X1 (h.below BB.out)
  clear h hL A0 X0 A1 X1 hz
  go_enter Tryz.func71, Tryz.ntmps71
  go_wp2_with fail
  refine CI.mono ?_
  rintro e w2 ⟨i, rfl, hp, hi, hb2⟩
  have HF : Hid (PlaceIs Ms un i ∧ -1 ≤ i ∧ Below w.heap.size w w2) := ⟨hp, hi, BB.out.trans (hb2.mono BB.out.size)⟩
  clear hp hi hb2 CI
  go_wp2_with fail
  exact bodyPost_ret (v := .tuple #[.int .i64 i, .bool (decide (0 ≤ i))]) (by simp [results, Tryz.results71, go_sem]) rfl ⟨i, rfl, HF.out⟩
end Go.Proofs.YtddnecljdecamaaGreatDoor
