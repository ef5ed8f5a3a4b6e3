/-
  Apl Plc in one. By an AI agent.
-/
import Derived.Test.YtddnecljdecamaaGreatDoorQ26
import Derived.Test.YtddnecljdecamaaGreatDoorQ27
namespace Go.Proofs.YtddnecljdecamaaGreatDoor
open Go.ChangeShapes Go.WideShapes Go.ChangeAt Go.RowKit Go.Deep Go.Lib
set_option linter.unusedVariables false
set_option linter.unusedSimpArgs false
set_option maxRecDepth 100000

set_option maxHeartbeats 4000000 in
theorem appendedI (w : World) (M : Nat) (a : Option Addr) (n c : Nat) (nx : Int) (u : ByteArray) (S : SM) (k : Nat) (hS : StAt w M a n c nx u S k) (f : ByteArray) (g : FM) (hl : lookF f S.fs = some g) (hfz : f.size ≤ 1000) (hu : u.size ≤ 1000) (x0 fl : Int) (t : ByteArray) (hsum : sumF S.fs ≤ 60) (hk : k ≤ 999) (n0 : 0 ≤ nx) (n1 : nx ≤ 10000) (L : List PM) (hL : L.length = n) (hn60 : n ≤ 60) (h : Src w a (cellsP L)) (hG : Gl w) (h8 : 8 ≤ M) (ha : ∀ ad, a = some ad → ad.block < M) (A : List PM × Int × Int) (HAF : ∀ q S', apM S g fl t = (q, S') → AppFits L nx u g.next q S' A) (R : List PM) (q1 q2 : Int) (HA : Hid (A = (R, q1, q2))) :
    Calls Tryz.prog 47 #[.pointer (some ⟨M + 1, 0, none⟩), .string f, .agg #[.int .i64 x0, .int .i64 fl, .string t]] w fun e w' => ∃ v, e = .returned (.tuple #[v, .int .i64 q1, .int .i64 q2]) ∧ w'.ownsRow w.heap.size 68 2 v R.length (cellsP R) ∧ Below M w w' := by
  have hSS := hS
  obtain ⟨va, X, hD, hV, hN, hf, hkk⟩ := hSS
  have hM1 : M + 1 < w.heap.size := World.block_lt_of_cell? _ _ (hD.1 0 _ rfl).1
  obtain ⟨w0, hw0⟩ : ∃ W, w.alloc (.cells #[.int .i64 x0, .int .i64 fl, .string t] 36) = W := ⟨_, rfl⟩
  have A0 : Below w.heap.size w w0 := by rw [← hw0]; exact (Below.refl _ _).alloc (Nat.le_refl _) _
  have X0 : Hid (Box w0 w.heap.size [.int .i64 x0, .int .i64 fl, .string t]) := by show Box _ _ _; rw [← hw0]; exact Box.new rfl
  have HA0 : Hid (Below w.heap.size w w0) := A0
  obtain ⟨x, hx, hxg⟩ : ∃ x, lookX (folderK u f) X = some x ∧ fmX x = g := by
    have h9 := hV.look f
    rw [hl] at h9
    obtain ⟨x, h1, h2⟩ := Option.map_eq_some_iff.1 h9
    exact ⟨x, h1, h2⟩
  obtain ⟨ax, cx, hxv, _, _⟩ := own_src (hD.2.2.2.1 x (look_mem hx))
  have CT := atI f w0 M _ (by omega) (by show u.size ≤ 1048576; omega) (hD.later A0)
  have hat : atX (lookX (folderK u f) X) = .agg #[.string x.name, .int .i64 x.val, .int .i64 x.next, .slice ax x.mails.length cx] := by
    rw [hx]
    show valX x = _
    unfold valX
    rw [hxv]
  simp only [hat] at CT
  have hgx : x.next = g.next := by rw [← hxg]
  rw [hgx] at CT
  obtain ⟨q, S', hop⟩ : ∃ q S', apM S g fl t = (q, S') := ⟨_, _, rfl⟩
  have HOF : Hid (AppFits L nx u g.next q S' A) := HAF q S' hop
  have CA := fun W (hW : Below w.heap.size w W) => appendMailI W M a n c nx u S k (hS.later hW) f g hl hfz hu x0 fl t hsum (by omega) q S' hop
  obtain ⟨gx, hgx2⟩ : ∃ z, g.next = z := ⟨_, rfl⟩
  rw [hgx2] at CT HOF
  obtain ⟨xn, hxn⟩ : ∃ z, x.name = z := ⟨_, rfl⟩
  obtain ⟨xv, hxv2⟩ : ∃ z, x.val = z := ⟨_, rfl⟩
  obtain ⟨ml, hml⟩ : ∃ z, x.mails.length = z := ⟨_, rfl⟩
  rw [hxn, hxv2, hml] at CT
  have HS : Hid (Src w a (cellsP L) ∧ L.length = n ∧ Gl w) := ⟨h, hL, hG⟩
  have HSM : Hid (∀ W, Below M w W → Src W a (cellsP L)) := fun W hW => by
    rcases h with h | ⟨b, o, rfl, hc⟩
    · exact .inl h
    · refine .inr ⟨b, o, rfl, fun j hj => ?_⟩
      have hb : b < M := ha _ rfl
      rw [World.cell?_of_block (a := ⟨b, o + j, none⟩) (hW.block b hb)]
      exact hc j hj
  clear hD hV hN hf hkk hat hx hxg hxv hgx hop HAF hS A0 hgx2 hxn hxv2 hml h hL hG
  have hfl : ∀ W, (Instr.field 28 (.agg #[.string xn, .int .i64 xv, .int .i64 gx, .slice ax ml cx]) 2).run Tryz.prog W = .ok (.int .i64 gx) W := fun W => by
    kernel_rfl
  go_enter Tryz.func47, Tryz.ntmps47
  go_wp2_with fail
  refine CT.mono ?_
  rintro e w1 ⟨rfl, hb1⟩
  have X1 : Hid (Box w1 w.heap.size [.int .i64 x0, .int .i64 fl, .string t]) := X0.out.below hb1
  have B1 : Hid (Below w.heap.size w w1) := HA0.out.trans (hb1.mono HA0.out.size)
  have CA1 := CA w1 B1.out
  obtain ⟨e0', _⟩ := X1.out 0 _ rfl
  obtain ⟨e1', _⟩ := X1.out 1 _ rfl
  obtain ⟨e2', _⟩ := X1.out 2 _ rfl
  clear hb1 CT CA
  go_wp2_with fail
  refine CA1.mono ?_
  rintro e w2 ⟨rfl, hst2, hb2⟩
  have B2 : Hid (Below M w w2) := (B1.out.mono (by omega)).trans hb2
  have Z2 : Hid (w.heap.size ≤ w2.heap.size) := B2.out.size
  have HST2 : Hid (StAt w2 M a n c nx u S' (k + 1)) := hst2
  clear hst2 hb2 CA1 e0' e1' e2'
  by_cases hq : q = 0
  · subst hq
    obtain ⟨k3, Y, k4, k5, k6, k7⟩ := HOF.out.2 rfl
    rw [HA.out] at k7
    by_cases h60 : 60 < Y.length
    · rw [if_pos h60] at k7
      obtain ⟨rfl, rfl, rfl⟩ : R = L ∧ q1 = 0 ∧ q2 = 7 := by cases k7; exact ⟨rfl, rfl, rfl⟩
      have CE := doneOk w2 M a n c nx u S' (k + 1) HST2.out hu n0 n1 k3 (by omega) (HS.out.2.2.below h8 B2.out) h8 Y k4 k5 _ rfl k6 R HS.out.2.1 hn60 (HSM.out w2 B2.out) R 7 (by show _ = _; rw [if_pos h60])
      clear k3 k4 k5 k6 k7 HOF
      go_wp2_with fail
      refine CE.mono ?_
      rintro e w6 ⟨v6, rfl, ho6, hb6⟩
      obtain ⟨a6, c6, rfl, _, _⟩ := own_src ho6
      have HF : Hid (w6.ownsRow w.heap.size 68 2 (.slice a6 R.length c6) R.length (cellsP R) ∧ Below M w w6) := ⟨own_mono ho6 Z2.out, B2.out.trans (hb6.mono (by have := Z2.out; omega))⟩
      clear CE ho6 hb6
      go_wp2_with fail
      exact bodyPost_ret (v := .tuple #[.slice a6 R.length c6, .int .i64 0, .int .i64 7]) (by simp [results, Tryz.results47, go_sem]) rfl ⟨_, rfl, HF.out⟩
    · rw [if_neg h60] at k7
      obtain ⟨rfl, rfl, rfl⟩ : R = Y ∧ q1 = gx ∧ q2 = 0 := by cases k7; exact ⟨rfl, rfl, rfl⟩
      have CE := doneOk w2 M a n c nx u S' (k + 1) HST2.out hu n0 n1 k3 (by omega) (HS.out.2.2.below h8 B2.out) h8 R k4 k5 _ rfl k6 L HS.out.2.1 hn60 (HSM.out w2 B2.out) R 0 (by show _ = _; rw [if_neg h60])
      clear k3 k4 k5 k6 k7 HOF
      go_wp2_with fail
      refine CE.mono ?_
      rintro e w6 ⟨v6, rfl, ho6, hb6⟩
      obtain ⟨a6, c6, rfl, _, _⟩ := own_src ho6
      have HF : Hid (w6.ownsRow w.heap.size 68 2 (.slice a6 R.length c6) R.length (cellsP R) ∧ Below M w w6) := ⟨own_mono ho6 Z2.out, B2.out.trans (hb6.mono (by have := Z2.out; omega))⟩
      clear CE ho6 hb6
      go_wp2_with fail
      exact bodyPost_ret (v := .tuple #[.slice a6 R.length c6, .int .i64 q1, .int .i64 0]) (by simp [results, Tryz.results47, go_sem]) rfl ⟨_, rfl, HF.out⟩
  · have k7 := HOF.out.1 hq
    rw [HA.out] at k7
    obtain ⟨hk1, hk2, hk3⟩ : R = L ∧ 0 = q1 ∧ q = q2 := by cases k7; exact ⟨rfl, rfl, rfl⟩
    have e0c : w2.cell? ⟨M + 1, 0, none⟩ = some (.slice a n c) := by
      obtain ⟨_, _, hD, _⟩ := HST2.out
      exact (hD.1 0 _ rfl).1
    have CE := doneBad q hq w2 M a n c L HS.out.2.1 hn60 e0c (HSM.out w2 B2.out)
    have HK : Hid (R = L ∧ 0 = q1 ∧ q = q2) := ⟨hk1, hk2, hk3⟩
    have hqi : (q != 0) = true := by simpa using hq
    clear k7 HOF hk1 hk2 hk3 e0c
    go_wp2_with fail
    refine CE.mono ?_
    rintro e w6 ⟨v6, rfl, ho6, hb6⟩
    obtain ⟨a6, c6, rfl, _, _⟩ := own_src ho6
    have HF : Hid (w6.ownsRow w.heap.size 68 2 (.slice a6 n c6) R.length (cellsP R) ∧ Below M w w6) := ⟨by rw [HK.out.1, HS.out.2.1]; exact own_mono ho6 Z2.out, B2.out.trans (hb6.mono (by have := Z2.out; omega))⟩
    have HK2 : Hid (0 = q1 ∧ q = q2) := HK.out.2
    clear CE ho6 hb6
    go_wp2_with fail
    exact bodyPost_ret (v := .tuple #[.slice a6 n c6, .int .i64 0, .int .i64 q]) (by simp [results, Tryz.results47, go_sem]) rfl ⟨_, by rw [HK2.out.1, HK2.out.2], HF.out⟩
theorem lack_known {L : List PM} {u f : ByteArray} {S : SM} (h : storeB L = true) (hus : (47 : UInt8) ∉ u.data.toList) (hfs : (47 : UInt8) ∉ f.data.toList) (hS : takeAll (nextM L) u S0 L = some S) : lackM S.word S.fs [f] = knownR L u f := by
  obtain ⟨hwi, _⟩ := word_iff h hus hS
  obtain ⟨hli, _⟩ := look_iff h hus hS hfs
  unfold lackM knownR
  by_cases hw : S.word.toList = []
  · rw [if_pos hw, hwi.1 hw]
    rfl
  · have hs : (getM L (userK u)).isSome = true := by
      cases hv : getM L (userK u) with
      | none => exact absurd (hwi.2 hv) hw
      | some v => rfl
    have hall : [f].all (fun s => (lookF s S.fs).isSome) = (lookF f S.fs).isSome := by simp
    rw [if_neg hw, hs, hall, hli]
    rfl
theorem known_zero {L : List PM} {u f : ByteArray} {S : SM} (h : storeB L = true) (hus : (47 : UInt8) ∉ u.data.toList) (hfs : (47 : UInt8) ∉ f.data.toList) (hS : takeAll (nextM L) u S0 L = some S) (hk : knownR L u f = 0) : S.word.toList ≠ [] ∧ ∃ g, lookF f S.fs = some g := by
  rw [← lack_known h hus hfs hS] at hk
  unfold lackM at hk
  split at hk
  · cases hk
  · rename_i hw
    split at hk
    · cases hk
    · rename_i hb
      refine ⟨hw, Option.isSome_iff_exists.1 ?_⟩
      cases h9 : (lookF f S.fs).isSome with
      | true => rfl
      | false => exact absurd (by show ((lookF f S.fs).isSome && true) = false; rw [h9]; rfl) hb
def flagB (fl : Int) : Bool := decide (0 ≤ fl) && decide (fl ≤ 3)
def amR (L : List PM) (u f t : ByteArray) (fl : Int) : List PM × Int × Int :=
  if 65536 < t.size then ([], 0, 2) else if askM L [u, f] ≠ 0 then ([], 0, askM L [u, f]) else if 85 < t.size ∨ flagB fl = false then ([], 0, 4) else appR L u f t fl
theorem am_bad {L : List PM} {u f t : ByteArray} {fl : Int} {R : List PM} {q1 q2 : Int} (h : amR L u f t fl = (R, q1, q2)) (h1 : 65536 < t.size ∨ askM L [u, f] = 2) : [] = R ∧ 0 = q1 ∧ 2 = q2 := by
  unfold amR at h
  by_cases e : 65536 < t.size
  · rw [if_pos e] at h
    cases h
    exact ⟨rfl, rfl, rfl⟩
  · rcases h1 with h1 | h1
    · exact absurd h1 e
    · rw [if_neg e, if_pos (by rw [h1]; decide), h1] at h
      cases h
      exact ⟨rfl, rfl, rfl⟩
theorem app_small {L : List PM} (hg : GoodL L) (u f t : ByteArray) (fl : Int) : (appR L u f t fl).1.length ≤ 4000 := by
  have h1 := hg.1
  have h2 := (app_len hg u f t fl).1
  unfold appR
  split
  · show L.length ≤ 4000; omega
  · split
    · show L.length ≤ 4000; omega
    · split
      · show L.length ≤ 4000; omega
      · split
        · show L.length ≤ 4000; omega
        · show (appY L u f t fl).length ≤ 4000; omega
theorem l01InS (n lo hi : Int) (b : Bool) (w : World) (h : (decide (lo ≤ n) && decide (n ≤ hi)) = b) : Calls Tryz.prog 49 #[.int .i64 n, .int .i64 lo, .int .i64 hi] w fun e w' => e = .returned (.bool b) ∧ w' = w := by
  by_cases h1 : lo ≤ n
  · by_cases h2 : n ≤ hi
    · obtain rfl : true = b := by rw [← h, decide_eq_true h1, decide_eq_true h2]; rfl
      clear h
      go_enter Tryz.func49, Tryz.ntmps49
      go_wp2_with fail
      go_ret
      exact ⟨rfl, rfl⟩
    · obtain rfl : false = b := by rw [← h, decide_eq_false h2]; simp
      clear h
      go_enter Tryz.func49, Tryz.ntmps49
      go_wp2_with fail
      go_ret
      exact ⟨rfl, rfl⟩
  · obtain rfl : false = b := by rw [← h, decide_eq_false h1]; rfl
    clear h
    go_enter Tryz.func49, Tryz.ntmps49
    go_wp2_with fail
    go_ret
    exact ⟨rfl, rfl⟩
set_option maxHeartbeats 4000000 in
theorem specAppendMail (a : Option Addr) (n c : Nat) (L : List PM) (x y t : ByteArray) (fl : Int) (w : World) (hL : L.length = n) (hn : n ≤ 1048576) (hc : n ≤ c) (hc9 : c ≤ maxLen) (hs : ∀ x ∈ L, x.1.size ≤ 1048576 ∧ x.2.size ≤ 1048576) (h : Src w a (cellsP L)) (hx : x.size ≤ 1048576) (hy : y.size ≤ 1048576) (ht : t.size ≤ 1048576) (R : List PM) (Q1 Q2 : Int) (HQ : Hid (amR L x y t fl = (R, Q1, Q2))) :
    Calls Tryz.prog 14 #[.slice a n c, .string x, .string y, .string t, .int .i64 fl] w fun e w' => ∃ v, e = .returned (.tuple #[v, .int .i64 Q1, .int .i64 Q2]) ∧ w'.ownsRow w.heap.size 68 2 v R.length (cellsP R) ∧ Below w.heap.size w w' := by
  have HLN : Hid (L.length = n) := hL
  have HS : Hid (Src w a (cellsP L)) := h
  have AL : Hid (Below w.heap.size w (w.alloc (.cells #[.string x, .string y] 9))) := (Below.refl _ _).alloc (Nat.le_refl _) _
  obtain ⟨q, hq⟩ : ∃ q, askM L [x, y] = q := ⟨_, rfl⟩
  have HQQ : Hid (askM L [x, y] = q) := hq
  have CA := l07AskS a n c L (some ⟨w.heap.size, 0, none⟩) 2 2 [x, y] (w.alloc (.cells #[.string x, .string y] 9)) hL hn hs (HS.out.below AL.out) rfl (by omega) (fun s hs => by
    rcases List.mem_cons.1 hs with rfl | hs
    · exact hx
    · rw [List.mem_singleton.1 hs]; exact hy) (src_2S rfl) q hq
  have EM : Hid (∀ W, Below w.heap.size w W → (W.alloc (.cells #[] 68)).ownsRow w.heap.size 68 2 (.slice (some ⟨W.heap.size, 0, none⟩) 0 0) ([] : List PM).length (cellsP []) ∧ Below w.heap.size w (W.alloc (.cells #[] 68))) := fun W hW => ⟨own_empty rfl hW.size, hW.alloc hW.size _⟩
  have EM0 := EM.out w (Below.refl _ _)
  have HE0 : Hid ((w.alloc (.cells #[] 68)).ownsRow w.heap.size 68 2 (.slice (some ⟨w.heap.size, 0, none⟩) 0 0) ([] : List PM).length (cellsP []) ∧ Below w.heap.size w (w.alloc (.cells #[] 68))) := EM0
  clear hL h hs hq EM0
  by_cases h1 : 4096 < n
  · have h1i : (4096 : Int) < (n : Int) := by omega
    obtain ⟨rfl, rfl, rfl⟩ := am_bad HQ.out (.inr (by unfold askM; rw [if_pos (.inl (by rw [HLN.out]; exact h1))]))
    go_enter Tryz.func14, Tryz.ntmps14
    go_wp2_with fail
    exact bodyPost_ret (v := .tuple #[.slice (some ⟨w.heap.size, 0, none⟩) 0 0, .int .i64 0, .int .i64 2]) (by simp [results, Tryz.results14, go_sem]) rfl ⟨_, rfl, HE0.out⟩
  have h1i : ¬ (4096 : Int) < (n : Int) := by omega
  by_cases h2 : 65536 < x.size
  · have h2i : (65536 : Int) < (x.size : Int) := by omega
    obtain ⟨rfl, rfl, rfl⟩ := am_bad HQ.out (.inr (by
      unfold askM
      rw [if_pos (.inr (by show (smallT x && _) = false; rw [show smallT x = false from decide_eq_false (by omega)]; rfl))]))
    go_enter Tryz.func14, Tryz.ntmps14
    go_wp2_with fail
    exact bodyPost_ret (v := .tuple #[.slice (some ⟨w.heap.size, 0, none⟩) 0 0, .int .i64 0, .int .i64 2]) (by simp [results, Tryz.results14, go_sem]) rfl ⟨_, rfl, HE0.out⟩
  have h2i : ¬ (65536 : Int) < (x.size : Int) := by omega
  by_cases h3 : 65536 < y.size
  · have h3i : (65536 : Int) < (y.size : Int) := by omega
    obtain ⟨rfl, rfl, rfl⟩ := am_bad HQ.out (.inr (by
      unfold askM
      rw [if_pos (.inr (by show (smallT x && (smallT y && true)) = false; rw [show smallT y = false from decide_eq_false (by omega)]; simp))]))
    go_enter Tryz.func14, Tryz.ntmps14
    go_wp2_with fail
    exact bodyPost_ret (v := .tuple #[.slice (some ⟨w.heap.size, 0, none⟩) 0 0, .int .i64 0, .int .i64 2]) (by simp [results, Tryz.results14, go_sem]) rfl ⟨_, rfl, HE0.out⟩
  have h3i : ¬ (65536 : Int) < (y.size : Int) := by omega
  by_cases h4 : 65536 < t.size
  · have h4i : (65536 : Int) < (t.size : Int) := by omega
    obtain ⟨rfl, rfl, rfl⟩ := am_bad HQ.out (.inl h4)
    go_enter Tryz.func14, Tryz.ntmps14
    go_wp2_with fail
    exact bodyPost_ret (v := .tuple #[.slice (some ⟨w.heap.size, 0, none⟩) 0 0, .int .i64 0, .int .i64 2]) (by simp [results, Tryz.results14, go_sem]) rfl ⟨_, rfl, HE0.out⟩
  have h4i : ¬ (65536 : Int) < (t.size : Int) := by omega
  have HQ1 := HQ.out
  unfold amR at HQ1
  rw [if_neg h4, HQQ.out] at HQ1
  by_cases hq0 : q = 0
  · subst hq0
    rw [if_neg (by decide)] at HQ1
    obtain ⟨hst, hsx, hsy⟩ := ask_zero2 HQQ.out
    have hgl := (store_facts hst).1
    obtain ⟨b, o, rfl⟩ := store_src hst HS.out
    have zx := short_size' hsx
    have zy := short_size' hsy
    by_cases h5 : 85 < t.size
    · have h5i : (85 : Int) < (t.size : Int) := by omega
      rw [if_pos (.inl h5)] at HQ1
      obtain ⟨rfl, rfl, rfl⟩ : [] = R ∧ 0 = Q1 ∧ 4 = Q2 := by cases HQ1; exact ⟨rfl, rfl, rfl⟩
      clear HQ1 HQ hst hsx hsy hgl
      go_enter Tryz.func14, Tryz.ntmps14
      go_wp2_with fail
      refine CA.mono ?_
      rintro e w3 ⟨rfl, hb3⟩
      have B3 : Hid (Below w.heap.size w w3) := AL.out.trans (hb3.mono AL.out.size)
      have HE3 : Hid ((w3.alloc (.cells #[] 68)).ownsRow w.heap.size 68 2 (.slice (some ⟨w3.heap.size, 0, none⟩) 0 0) ([] : List PM).length (cellsP []) ∧ Below w.heap.size w (w3.alloc (.cells #[] 68))) := EM.out w3 B3.out
      clear hb3 CA
      go_wp2_with fail
      exact bodyPost_ret (v := .tuple #[.slice (some ⟨w3.heap.size, 0, none⟩) 0 0, .int .i64 0, .int .i64 4]) (by simp [results, Tryz.results14, go_sem]) rfl ⟨_, rfl, HE3.out⟩
    have h5i : ¬ (85 : Int) < (t.size : Int) := by omega
    cases hfb : flagB fl with
    | false =>
      rw [if_pos (.inr hfb)] at HQ1
      obtain ⟨rfl, rfl, rfl⟩ : [] = R ∧ 0 = Q1 ∧ 4 = Q2 := by cases HQ1; exact ⟨rfl, rfl, rfl⟩
      have CI := fun W => l01InS fl 0 3 false W hfb
      clear HQ1 HQ hst hsx hsy hgl
      go_enter Tryz.func14, Tryz.ntmps14
      go_wp2_with fail
      refine CA.mono ?_
      rintro e w3 ⟨rfl, hb3⟩
      have B3 : Hid (Below w.heap.size w w3) := AL.out.trans (hb3.mono AL.out.size)
      have HE3 : Hid ((w3.alloc (.cells #[] 68)).ownsRow w.heap.size 68 2 (.slice (some ⟨w3.heap.size, 0, none⟩) 0 0) ([] : List PM).length (cellsP []) ∧ Below w.heap.size w (w3.alloc (.cells #[] 68))) := EM.out w3 B3.out
      clear hb3 CA
      go_wp2_with fail
      refine (CI _).mono ?_
      rintro e w4 ⟨rfl, hw4⟩
      obtain rfl := hw4
      go_wp2_with fail
      exact bodyPost_ret (v := .tuple #[.slice (some ⟨w4.heap.size, 0, none⟩) 0 0, .int .i64 0, .int .i64 4]) (by simp [results, Tryz.results14, go_sem]) rfl ⟨_, rfl, HE3.out⟩
    | true =>
      rw [if_neg (by rintro (h9 | h9); exact h5 h9; rw [hfb] at h9; cases h9)] at HQ1
      have hfr : 0 ≤ fl ∧ fl ≤ 3 := by
        have h9 := hfb
        unfold flagB at h9
        simpa using h9
      have CI := fun W => l01InS fl 0 3 true W hfb
      have CP := fun W (hW : Below w.heap.size w W) => l07AppendS b o n c L HLN.out hc hc9 hgl x y t fl zx zy (by omega) hfr.1 hfr.2 W (HS.out.below hW) R Q1 Q2 HQ1
      have hln : R.length ≤ 4000 := by
        have h9 := app_small hgl x y t fl
        rw [HQ1] at h9
        exact h9
      clear HQ1 HQ hst hsx hsy hgl hfb
      go_enter Tryz.func14, Tryz.ntmps14
      go_wp2_with fail
      refine CA.mono ?_
      rintro e w3 ⟨rfl, hb3⟩
      have B3 : Hid (Below w.heap.size w w3) := AL.out.trans (hb3.mono AL.out.size)
      clear hb3 CA
      go_wp2_with fail
      refine (CI _).mono ?_
      rintro e w4 ⟨rfl, hw4⟩
      obtain rfl := hw4
      have CP4 := CP w4 B3.out
      clear CP CI
      go_wp2_with fail
      refine CP4.mono ?_
      rintro e w5 ⟨a5, n5, c5, rfl, k1, k2, hb5⟩
      have B5 : Hid (Below w.heap.size w w5) := B3.out.trans (hb5.mono B3.out.size)
      have CO := l07OwnS a5 n5 c5 R w5 k1 (by omega) k2
      have HN5 : Hid (R.length = n5) := k1
      clear hb5 CP4 k1 k2
      go_wp2_with fail
      refine CO.mono ?_
      rintro e w6 ⟨v6, rfl, ho6, hb6⟩
      obtain ⟨a6, c6, rfl, _, _⟩ := own_src ho6
      have HF : Hid (w6.ownsRow w.heap.size 68 2 (.slice a6 n5 c6) R.length (cellsP R) ∧ Below w.heap.size w w6) := ⟨by rw [HN5.out]; exact own_mono ho6 B5.out.size, B5.out.trans (hb6.mono B5.out.size)⟩
      clear ho6 hb6 CO
      go_wp2_with fail
      exact bodyPost_ret (v := .tuple #[.slice a6 n5 c6, .int .i64 Q1, .int .i64 Q2]) (by simp [results, Tryz.results14, go_sem]) rfl ⟨_, rfl, HF.out⟩
  · rw [if_pos hq0] at HQ1
    obtain ⟨rfl, rfl, rfl⟩ : [] = R ∧ 0 = Q1 ∧ q = Q2 := by cases HQ1; exact ⟨rfl, rfl, rfl⟩
    have hqi : (q != 0) = true := by simpa using hq0
    clear HQ1 HQ
    go_enter Tryz.func14, Tryz.ntmps14
    go_wp2_with fail
    refine CA.mono ?_
    rintro e w3 ⟨rfl, hb3⟩
    have B3 : Hid (Below w.heap.size w w3) := AL.out.trans (hb3.mono AL.out.size)
    have HE3 : Hid ((w3.alloc (.cells #[] 68)).ownsRow w.heap.size 68 2 (.slice (some ⟨w3.heap.size, 0, none⟩) 0 0) ([] : List PM).length (cellsP []) ∧ Below w.heap.size w (w3.alloc (.cells #[] 68))) := EM.out w3 B3.out
    clear hb3 CA
    go_wp2_with fail
    exact bodyPost_ret (v := .tuple #[.slice (some ⟨w3.heap.size, 0, none⟩) 0 0, .int .i64 0, .int .i64 q]) (by simp [results, Tryz.results14, go_sem]) rfl ⟨_, rfl, HE3.out⟩
set_option maxHeartbeats 4000000 in
theorem implAppendMail (a : Option Addr) (n c : Nat) (L : List PM) (x y t : ByteArray) (fl : Int) (w : World) (hL : L.length = n) (hn : n ≤ 1048576) (hs : ∀ x ∈ L, x.1.size ≤ 1048576 ∧ x.2.size ≤ 1048576) (h : Src w a (cellsP L)) (hx : x.size ≤ 1048576) (hy : y.size ≤ 1048576) (ht : t.size ≤ 1048576) (hG : Gl w) (h8 : 8 ≤ w.heap.size) (R : List PM) (Q1 Q2 : Int) (HQ : Hid (amR L x y t fl = (R, Q1, Q2))) :
    Calls Tryz.prog 13 #[.slice a n c, .string x, .string y, .string t, .int .i64 fl] w fun e w' => ∃ v, e = .returned (.tuple #[v, .int .i64 Q1, .int .i64 Q2]) ∧ w'.ownsRow w.heap.size 68 2 v R.length (cellsP R) ∧ Below w.heap.size w w' := by
  have HLN : Hid (L.length = n) := hL
  have HS : Hid (Src w a (cellsP L)) := h
  have HG : Hid (Gl w) := hG
  by_cases h4 : 65536 < t.size
  · have h4i : (65536 : Int) < (t.size : Int) := by omega
    obtain ⟨rfl, rfl, rfl⟩ := am_bad HQ.out (.inl h4)
    clear hL h hs hG HQ
    go_enter Tryz.func13, Tryz.ntmps13
    go_wp2_with fail
    exact bodyPost_ret (v := .tuple #[.slice none 0 0, .int .i64 0, .int .i64 2]) (by simp [results, Tryz.results13, go_sem]) rfl ⟨_, rfl, World.ownsRow_nil _ _ _ _, Below.refl _ _⟩
  have h4i : ¬ (65536 : Int) < (t.size : Int) := by omega
  have AL : Hid (Below w.heap.size w (w.alloc (.cells #[.string x, .string y] 9))) := (Below.refl _ _).alloc (Nat.le_refl _) _
  obtain ⟨q, hq⟩ : ∃ q, askM L [x, y] = q := ⟨_, rfl⟩
  have HQQ : Hid (askM L [x, y] = q) := hq
  have CA := mailFaultI a n c L (some ⟨w.heap.size, 0, none⟩) 2 2 [x, y] (w.alloc (.cells #[.string x, .string y] 9)) hL hn hs (HS.out.below AL.out) rfl (by omega) (fun s hs => by
    rcases List.mem_cons.1 hs with rfl | hs
    · exact hx
    · rw [List.mem_singleton.1 hs]; exact hy) (src_2S rfl) (hG.below h8 AL.out) (by have := AL.out.size; omega) q hq
  have HQ1 := HQ.out
  unfold amR at HQ1
  rw [if_neg h4, HQQ.out] at HQ1
  clear hL h hs hq HQ hG
  by_cases hq0 : q = 0
  · subst hq0
    rw [if_neg (by decide)] at HQ1
    obtain ⟨hst, hsx, hsy⟩ := ask_zero2 HQQ.out
    have hus := word_slash hsx
    have hfs := word_slash hsy
    have hu8 := short_size hsx
    have hy8 := short_size hsy
    obtain ⟨hgl, nx0, hnm, n1, n2, _⟩ := store_facts hst
    rw [hnm] at n1 n2
    have hn60 := hgl.1
    rw [HLN.out] at hn60
    by_cases h5 : 85 < t.size
    · have h5i : (85 : Int) < (t.size : Int) := by omega
      rw [if_pos (.inl h5)] at HQ1
      obtain ⟨rfl, rfl, rfl⟩ : [] = R ∧ 0 = Q1 ∧ 4 = Q2 := by cases HQ1; exact ⟨rfl, rfl, rfl⟩
      clear HQ1 hst hsx hsy hgl hnm n1 n2
      go_enter Tryz.func13, Tryz.ntmps13
      go_wp2_with fail
      refine CA.mono ?_
      rintro e w3 ⟨rfl, hb3⟩
      have B3 : Hid (Below w.heap.size w w3) := AL.out.trans (hb3.mono AL.out.size)
      clear hb3 CA
      go_wp2_with fail
      exact bodyPost_ret (v := .tuple #[.slice none 0 0, .int .i64 0, .int .i64 4]) (by simp [results, Tryz.results13, go_sem]) rfl ⟨_, rfl, World.ownsRow_nil _ _ _ _, B3.out⟩
    have h5i : ¬ (85 : Int) < (t.size : Int) := by omega
    cases hfb : flagB fl with
    | false =>
      rw [if_pos (.inr hfb)] at HQ1
      obtain ⟨rfl, rfl, rfl⟩ : [] = R ∧ 0 = Q1 ∧ 4 = Q2 := by cases HQ1; exact ⟨rfl, rfl, rfl⟩
      have CI := fun W => flagsIs false fl W hfb
      clear HQ1 hst hsx hsy hgl hnm n1 n2 hfb
      go_enter Tryz.func13, Tryz.ntmps13
      go_wp2_with fail
      refine CA.mono ?_
      rintro e w3 ⟨rfl, hb3⟩
      have B3 : Hid (Below w.heap.size w w3) := AL.out.trans (hb3.mono AL.out.size)
      clear hb3 CA
      go_wp2_with fail
      refine (CI _).mono ?_
      rintro e w4 ⟨rfl, hw4⟩
      obtain rfl := hw4
      go_wp2_with fail
      exact bodyPost_ret (v := .tuple #[.slice none 0 0, .int .i64 0, .int .i64 4]) (by simp [results, Tryz.results13, go_sem]) rfl ⟨_, rfl, World.ownsRow_nil _ _ _ _, B3.out⟩
    | true =>
      rw [if_neg (by rintro (h9 | h9); exact h5 h9; rw [hfb] at h9; cases h9)] at HQ1
      have hfr : 0 ≤ fl ∧ fl ≤ 3 := by
        have h9 := hfb
        unfold flagB at h9
        simpa using h9
      have CI := fun W => flagsIs true fl W hfb
      have CD := fun W (hW : Below w.heap.size w W) => deskWithI a n c L x W HLN.out (HS.out.below hW) (HG.out.below h8 hW) (by have := hW.size; omega) hst hus (by omega)
      have HFA : Hid (∀ S, takeAll (nextM L) x S0 L = some S → lackM S.word S.fs [y] = knownR L x y ∧ (knownR L x y = 0 → S.word.toList ≠ [] ∧ ∃ g, lookF y S.fs = some g) ∧ sumF S.fs ≤ 60 ∧ ∀ g, S.word.toList ≠ [] → lookF y S.fs = some g → ∀ q S', apM S g fl t = (q, S') → AppFits L (nextM L) x g.next q S' (appT L x y t fl)) := fun S hS =>
        ⟨lack_known hst hus hfs hS, fun h9 => known_zero hst hus hfs hS h9, by
          rw [sum_count hst hus hS]
          unfold countM
          exact Nat.le_trans (List.length_filter_le _ _) hgl.1, fun g h7 h9 q S' hop => app_fits hst hsx hsy (by omega) hfr.1 hfr.2 hS h7 h9 hop⟩
      have HAR : Hid (appR L x y t fl = (R, Q1, Q2)) := HQ1
      have HBL : Hid (∀ ad, a = some ad → ad.block < w.heap.size) := fun ad e => by
        obtain ⟨b, o, rfl⟩ := store_src hst HS.out
        cases e
        rcases HS.out with h9 | ⟨b', o', e9, hc⟩
        · have h7 := cellsP_length L
          rw [h9] at h7
          have h6 : L = [] := List.eq_nil_of_length_eq_zero (by simp at h7; omega)
          rw [h6] at n1
          have h5' : nextM [] = 0 := rfl
          omega
        · cases e9
          have hl0 : 0 < (cellsP L).length := by
            rw [cellsP_length]
            have : L ≠ [] := fun e => by
              rw [e] at n1
              have h5' : nextM [] = 0 := rfl
              omega
            have := List.length_pos_iff.2 this
            omega
          exact World.block_lt_of_cell? _ _ (hc 0 hl0)
      obtain ⟨nx, hnx⟩ : ∃ z, nextM L = z := ⟨_, rfl⟩
      simp only [hnx] at CD HFA n1 n2
      clear HQ1 hst hsx hsy hgl hnm hfb hnx
      go_enter Tryz.func13, Tryz.ntmps13
      go_wp2_with fail
      refine CA.mono ?_
      rintro e w3 ⟨rfl, hb3⟩
      have B3 : Hid (Below w.heap.size w w3) := AL.out.trans (hb3.mono AL.out.size)
      clear hb3 CA
      go_wp2_with fail
      refine (CI _).mono ?_
      rintro e w4 ⟨rfl, hw4⟩
      obtain rfl := hw4
      clear CI
      go_wp2_with fail
      refine (CD _ B3.out).mono ?_
      rintro e w5 ⟨M, S, rfl, hS, hSt, hM, hb5⟩
      have B5 : Hid (Below w.heap.size w w5) := B3.out.trans (hb5.mono B3.out.size)
      have hM2 : w.heap.size ≤ M := by have h9 := B3.out.size; omega
      obtain ⟨k1, k2, k3, k4⟩ := HFA.out S hS
      have AL5 : Hid (Below w5.heap.size w5 (w5.alloc (.cells #[.string y] 9))) := (Below.refl _ _).alloc (Nat.le_refl _) _
      have CL := lacksI (w5.alloc (.cells #[.string y] 9)) M a n c nx x S n (hSt.later AL5.out) (by omega) (some ⟨w5.heap.size, 0, none⟩) 1 1 [y] rfl (by omega) (fun s hs => by rw [List.mem_singleton.1 hs]; omega) (src_1S rfl) _ k1
      have HST5 : Hid (StAt w5 M a n c nx x S n) := hSt
      have hMw : M + 1 < w5.heap.size := by
        obtain ⟨_, _, hD, _⟩ := hSt
        exact World.block_lt_of_cell? _ _ (hD.1 0 _ rfl).1
      have HK : Hid ((knownR L x y = 0 → S.word.toList ≠ [] ∧ ∃ g, lookF y S.fs = some g) ∧ sumF S.fs ≤ 60 ∧ ∀ g, S.word.toList ≠ [] → lookF y S.fs = some g → ∀ q S', apM S g fl t = (q, S') → AppFits L nx x g.next q S' (appT L x y t fl)) := ⟨k2, k3, k4⟩
      obtain ⟨kk, hkk⟩ : ∃ z, knownR L x y = z := ⟨_, rfl⟩
      rw [hkk] at CL HK
      have HKK : Hid (knownR L x y = kk) := hkk
      clear hS hSt hb5 CD k1 k2 k3 k4 HFA hkk
      go_wp2_with fail
      refine CL.mono ?_
      rintro e w6 ⟨rfl, hb6⟩
      have R6 : Hid (Below w5.heap.size w5 w6) := AL5.out.trans (hb6.mono AL5.out.size)
      have B6 : Hid (Below w.heap.size w w6) := B5.out.trans (R6.out.mono B5.out.size)
      clear hb6 CL
      by_cases hk0 : kk = 0
      · subst hk0
        obtain ⟨hw, g, hl⟩ := HK.out.1 rfl
        have CE := appendedI w6 M a n c nx x S n (HST5.out.later R6.out) y g hl (by omega) (by omega) 0 fl t HK.out.2.1 (by omega) (by omega) n2 L HLN.out hn60 (HS.out.below B6.out) (HG.out.below h8 B6.out) (by omega) (fun ad e => by have h9 := HBL.out ad e; omega) (appT L x y t fl) (HK.out.2.2 g hw hl) R Q1 Q2 (by show _ = _; rw [← appR_T HKK.out]; exact HAR.out)
        clear HK hw hl
        go_wp2_with fail
        refine CE.mono ?_
        rintro e w7 ⟨v7, rfl, ho7, hb7⟩
        obtain ⟨a7, c7, rfl, _, _⟩ := own_src ho7
        have HF : Hid (w7.ownsRow w.heap.size 68 2 (.slice a7 R.length c7) R.length (cellsP R) ∧ Below w.heap.size w w7) := ⟨own_mono ho7 B6.out.size, B6.out.trans (hb7.mono hM2)⟩
        clear CE ho7 hb7
        go_wp2_with fail
        exact bodyPost_ret (v := .tuple #[.slice a7 R.length c7, .int .i64 Q1, .int .i64 Q2]) (by simp [results, Tryz.results13, go_sem]) rfl ⟨_, rfl, HF.out⟩
      · have hki : (kk != 0) = true := by simpa using hk0
        obtain ⟨hR, hq1, hq2⟩ : R = L ∧ 0 = Q1 ∧ kk = Q2 := by
          have h9 := HAR.out
          unfold appR at h9
          rw [HKK.out, if_pos hk0] at h9
          cases h9
          exact ⟨rfl, rfl, rfl⟩
        have CC := copyListI a n c L w6 HLN.out (by omega) (HS.out.below B6.out)
        have HRR : Hid (R = L ∧ 0 = Q1 ∧ kk = Q2) := ⟨hR, hq1, hq2⟩
        clear HK hR hq1 hq2
        go_wp2_with fail
        refine CC.mono ?_
        rintro e w7 ⟨v7, rfl, ho7, hb7⟩
        obtain ⟨a7, c7, rfl, _, _⟩ := own_src ho7
        have HF : Hid (w7.ownsRow w.heap.size 68 2 (.slice a7 n c7) R.length (cellsP R) ∧ Below w.heap.size w w7) := ⟨by rw [HRR.out.1, HLN.out]; exact own_mono ho7 B6.out.size, B6.out.trans (hb7.mono B6.out.size)⟩
        have HR2 : Hid (0 = Q1 ∧ kk = Q2) := HRR.out.2
        clear CC ho7 hb7
        go_wp2_with fail
        exact bodyPost_ret (v := .tuple #[.slice a7 n c7, .int .i64 0, .int .i64 kk]) (by simp [results, Tryz.results13, go_sem]) rfl ⟨_, by rw [HR2.out.1, HR2.out.2], HF.out⟩
  · rw [if_pos hq0] at HQ1
    obtain ⟨rfl, rfl, rfl⟩ : [] = R ∧ 0 = Q1 ∧ q = Q2 := by cases HQ1; exact ⟨rfl, rfl, rfl⟩
    have hqi : (q != 0) = true := by simpa using hq0
    clear HQ1
    go_enter Tryz.func13, Tryz.ntmps13
    go_wp2_with fail
    refine CA.mono ?_
    rintro e w3 ⟨rfl, hb3⟩
    have B3 : Hid (Below w.heap.size w w3) := AL.out.trans (hb3.mono AL.out.size)
    clear hb3 CA
    go_wp2_with fail
    exact bodyPost_ret (v := .tuple #[.slice none 0 0, .int .i64 0, .int .i64 q]) (by simp [results, Tryz.results13, go_sem]) rfl ⟨_, rfl, World.ownsRow_nil _ _ _ _, B3.out⟩
end Go.Proofs.YtddnecljdecamaaGreatDoor
namespace Go.Proofs.YtddnecljdecamaaGreatDoor
open Go.ChangeShapes Go.WideShapes Go.ChangeAt Go.RowKit Go.Deep Go.Lib
set_option linter.unusedVariables false
set_option linter.unusedSimpArgs false
set_option maxRecDepth 100000

set_option maxHeartbeats 1000000 in
theorem place1I (x y : Int) (t : ByteArray) (un : Int) (B : Nat) (w : World) (hB : Box w B [.int .i64 un]) (bb : Bool) (hb : (x == un) = bb) :
    Calls Tryz.prog 119 #[.agg #[.int .i64 x, .int .i64 y, .string t], .pointer (some ⟨B, 0, none⟩)] w fun e w' => e = .returned (.bool bb) ∧ Below w.heap.size w w' := by
  have c0 := (hB.below ((Below.refl _ _).alloc (Nat.le_refl _) (.cells #[.int .i64 x, .int .i64 y, .string t] 36)) 0 _ rfl).1
  clear hB
  go_enter Tryz.func119, Tryz.ntmps119
  go_wp2_with fail
  go_ret
  exact ⟨rfl, (Below.refl _ _).alloc (Nat.le_refl _) _⟩
/-- Where a uid is first. -/
def PlaceIs (Ms : List MMl) (un at' : Int) : Prop := (∃ i : Nat, i < Ms.length ∧ at' = (i : Int) ∧ (Ms.getD i ml0).1 = un) ∨ (at' = -1 ∧ ∀ m ∈ Ms, m.1 ≠ un)
set_option maxHeartbeats 2000000 in
theorem indexMailsI (a : Option Addr) (n c : Nat) (Ms : List MMl) (un : Int) (B : Nat) (w : World) (hL : Ms.length = n) (hn : n ≤ 1000) (hB : Box w B [.int .i64 un]) (h : Src w a (cellsMl Ms)) :
    Calls Tryz.prog 111 #[.slice a n c, .func (.func 119) #[] #[.pointer (some ⟨B, 0, none⟩)]] w fun e w' => ∃ i, e = .returned (.int .i64 i) ∧ PlaceIs Ms un i ∧ -1 ≤ i ∧ Below w.heap.size w w' := by
  have HH : Hid (Src w a (cellsMl Ms)) := h
  have HL : Hid (Ms.length = n) := hL
  have HC : ∀ (x y : Int) (t : ByteArray) (W : World) (bb : Bool), Below w.heap.size w W → (x == un) = bb → Calls Tryz.prog 119 #[.agg #[.int .i64 x, .int .i64 y, .string t], .pointer (some ⟨B, 0, none⟩)] W fun e w' => e = .returned (.bool bb) ∧ Below W.heap.size W w' := fun x y t W bb hW hb => place1I x y t un B W (hB.below hW) bb hb
  clear h hL hB
  go_enter Tryz.func111, Tryz.ntmps111
  go_wp2_with fail
  go_loopw [8] (fun i wr => ∃ k : Nat, k ≤ n ∧ i = .int .i64 (k : Int) ∧ Hid (∀ j, j < k → (Ms.getD j ml0).1 ≠ un) ∧ Hid (Below w.heap.size w wr)) (fun i _ => n - (RowKit.intOf i).toNat)
  case atStart => exact ⟨0, by omega, rfl, fun j hj => absurd hj (by omega), Below.refl _ _⟩
  case round =>
    obtain ⟨k, hk, rfl, hno, hb⟩ := hrel
    by_cases hlt : k < n
    · have hlti : (k : Int) < (n : Int) := by omega
      have hkL : k < Ms.length := by rw [HL.out]; exact hlt
      obtain ⟨b, q, x, y, t, rfl, hc0, hc1, hc2, hy⟩ := srcMl (HH.out.below hb.out) hkL
      cases hbb : (x == un) with
      | true =>
        have HP : Hid (PlaceIs Ms un (k : Int) ∧ (-1 : Int) ≤ (k : Int)) := ⟨.inl ⟨k, hkL, rfl, by rw [hy.out]; exact eq_of_beq hbb⟩, by omega⟩
        have C1 := HC x y t wr true hb.out hbb
        clear hy hbb HC
        go_wp2_with fail
        refine C1.mono ?_
        rintro e w5 ⟨rfl, hb5⟩
        have B5 : Hid (Below w.heap.size w w5) := hb.out.trans (hb5.mono hb.out.size)
        clear hb5 C1
        go_wp2_with fail
        go_ret
        exact ⟨_, rfl, HP.out.1, HP.out.2, B5.out⟩
      | false =>
        have HN : Hid (∀ j, j < k + 1 → (Ms.getD j ml0).1 ≠ un) := fun j hj => by
          by_cases e : j = k
          · rw [e, hy.out]
            exact fun h9 => by
              have h8 : (x == un) = true := by rw [show x = un from h9]; simp
              rw [hbb] at h8
              cases h8
          · exact hno.out j (by omega)
        have C1 := HC x y t wr false hb.out hbb
        clear hy hbb
        go_wp2_with fail
        refine C1.mono ?_
        rintro e w5 ⟨rfl, hb5⟩
        have B5 : Hid (Below w.heap.size w w5) := hb.out.trans (hb5.mono hb.out.size)
        clear hb5 C1
        go_wp2_with fail
        exact ⟨⟨k + 1, by omega, by go_num, HN.out, B5.out⟩, by simp [RowKit.intOf]; omega⟩
    · obtain rfl : k = n := by omega
      have hlti : ¬ (k : Int) < (k : Int) := by omega
      have HP : Hid (PlaceIs Ms un (-1)) := .inr ⟨rfl, fun m hm => by
        obtain ⟨j, hj, rfl⟩ := List.mem_iff_getElem.1 hm
        have h9 := hno.out j (by rw [HL.out] at hj; exact hj)
        rw [List.getD_eq_getElem?_getD, List.getElem?_eq_getElem hj] at h9
        exact h9⟩
      clear HC
      go_wp2_with fail
      go_ret
      exact ⟨_, rfl, HP.out, by omega, hb.out⟩
set_option maxHeartbeats 2000000 in
theorem placeI (nm : ByteArray) (vl nx : Int) (ax : Option Addr) (ml cx : Nat) (Ms : List MMl) (un : Int) (w : World) (hL : Ms.length = ml) (hn : ml ≤ 1000) (h : Src w ax (cellsMl Ms)) :
    Calls Tryz.prog 71 #[.agg #[.string nm, .int .i64 vl, .int .i64 nx, .slice ax ml cx], .int .i64 un] w fun e w' => ∃ i : Int, e = .returned (.tuple #[.int .i64 i, .bool (decide (0 ≤ i))]) ∧ PlaceIs Ms un i ∧ -1 ≤ i ∧ Below w.heap.size w w' := by
  obtain ⟨w0, hw0⟩ : ∃ W, w.alloc (.cells #[.string nm, .int .i64 vl, .int .i64 nx, .slice ax ml cx] 28) = W := ⟨_, rfl⟩
  have A0 : Below w.heap.size w w0 := by rw [← hw0]; exact (Below.refl _ _).alloc (Nat.le_refl _) _
  have X0 : Box w0 w.heap.size [.string nm, .int .i64 vl, .int .i64 nx, .slice ax ml cx] := by rw [← hw0]; exact Box.new rfl
  obtain ⟨w1, hw1⟩ : ∃ W, w0.alloc (.cells #[.int .i64 un] 3) = W := ⟨_, rfl⟩
  have A1 : Below w0.heap.size w0 w1 := by rw [← hw1]; exact (Below.refl _ _).alloc (Nat.le_refl _) _
  have X1 : Box w1 w0.heap.size [.int .i64 un] := by rw [← hw1]; exact Box.new rfl
  have BB : Hid (Below w.heap.size w w1) := A0.trans (A1.mono A0.size)
  obtain ⟨c3, _⟩ := (X0.below A1) 3 _ rfl
  have hz : w0.heap.size = w.heap.size + 1 := by rw [← hw0]; simp
  have CI := indexMailsI ax ml cx Ms un w0.heap.size w1 hL hn X1 (h.below BB.out)
  clear h hL A0 X0 A1 X1 hz
  go_enter Tryz.func71, Tryz.ntmps71
  go_wp2_with fail
  refine CI.mono ?_
  rintro e w2 ⟨i, rfl, hp, hi, hb2⟩
  have HF : Hid (PlaceIs Ms un i ∧ -1 ≤ i ∧ Below w.heap.size w w2) := ⟨hp, hi, BB.out.trans (hb2.mono BB.out.size)⟩
  clear hp hi hb2 CI
  go_wp2_with fail
  exact bodyPost_ret (v := .tuple #[.int .i64 i, .bool (decide (0 ≤ i))]) (by simp [results, Tryz.results71, go_sem]) rfl ⟨i, rfl, HF.out⟩
end Go.Proofs.YtddnecljdecamaaGreatDoor
