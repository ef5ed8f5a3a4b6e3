/-
  Ltw Ltx in one. By an AI agent.
-/
import Derived.Test.YtddnecljdecamaaGreatDoorQ24
import Derived.Test.YtddnecljdecamaaGreatDoorQ25
namespace Go.Proofs.YtddnecljdecamaaGreatDoor
open Go.ChangeShapes Go.WideShapes Go.ChangeAt Go.RowKit Go.Deep Go.Lib
set_option linter.unusedVariables false
set_option linter.unusedSimpArgs false
set_option maxRecDepth 100000

theorem src_2S {w : World} {s t : ByteArray} {B ty : Nat} (hB : B = w.heap.size) : Src (w.alloc (.cells #[.string s, .string t] ty)) (some ⟨B, 0, none⟩) (cellsS [s, t]) := by
  have hb : Box (w.alloc (.cells #[.string s, .string t] ty)) B [.string s, .string t] := Box.new hB
  refine .inr ⟨B, 0, rfl, fun j hj => ?_⟩
  have hj4 : j < 2 := hj
  rw [Nat.zero_add]
  match j, hj4 with
  | 0, _ => exact (hb 0 _ rfl).1
  | 1, _ => exact (hb 1 _ rfl).1
theorem ask_zero2 {L : List PM} {x y : ByteArray} (h : askM L [x, y] = 0) : storeB L = true ∧ shortB x = true ∧ shortB y = true := by
  unfold askM at h
  split at h
  · cases h
  · split at h
    · cases h
    · rename_i h1
      split at h
      · cases h
      · rename_i h2
        refine ⟨by simpa using h1, ?_⟩
        simpa using h2
def lawM2 (A : List PM × Int) (k : Int) : List PM × Int := if k = 0 then A else ([], k)
theorem store_src {L : List PM} {w : World} {a : Option Addr} (h : storeB L = true) (hs : Src w a (cellsP L)) : ∃ b o, a = some ⟨b, o, none⟩ := by
  obtain ⟨hg, nx0, hnm, n1, n2, _, _, _⟩ := store_facts h
  have hne : L ≠ [] := fun e => by
    rw [hnm, e] at n1
    have h9 : nextM [] = 0 := rfl
    omega
  rcases hs with hs | ⟨b, o, rfl, _⟩
  · have h9 := cellsP_length L
    rw [hs] at h9
    have : L.length = 0 := by simp at h9; omega
    exact absurd (List.eq_nil_of_length_eq_zero this) hne
  · exact ⟨b, o, rfl⟩
theorem fits_len {W Y : List PM} (h1 : W.length ≤ 4000) (h2 : Y.length ≤ 4000) : (fitsR W Y).1.length ≤ 4000 := by
  unfold fitsR
  split
  · exact h1
  · exact h2
theorem fresh_len {N W : List PM} {u f : ByteArray} {next : Int} (hN : UpL N) (hn : N.length ≤ 64) (hW : W.length ≤ 4000) : (freshR N W u f next).1.length ≤ 4000 := by
  unfold freshR
  split
  · exact hW
  · have a1 := (ins_len (k := vK) (v := bs (itoa (nextM N + 1))) hN).1
    have a2 := (ins_len (k := folderK u f) (v := metaT (nextM N) next) (ins_up (k := vK) (v := bs (itoa (nextM N + 1))) hN)).1
    exact fits_len hW (by omega)
theorem addR_len {L : List PM} (hg : GoodL L) (u p : ByteArray) : (addR L u p).1.length ≤ 4000 := by
  have := hg.1
  unfold addR
  split
  · show L.length ≤ 4000; omega
  · have a1 := (ins_len (k := userK u) (v := p) hg.2.2).1
    exact fresh_len (ins_up hg.2.2) (by omega) (by omega)
theorem mkR_len {L : List PM} (hg : GoodL L) (u p : ByteArray) : (mkR L u p).1.length ≤ 4000 := by
  have := hg.1
  unfold mkR
  split
  · show L.length ≤ 4000; omega
  · split
    · show L.length ≤ 4000; omega
    · exact fresh_len hg.2.2 (by omega) (by omega)
set_option maxHeartbeats 2000000 in
theorem specAddUser (a : Option Addr) (n c : Nat) (L : List PM) (x y : ByteArray) (w : World) (hL : L.length = n) (hn : n ≤ 1048576) (hc : n ≤ c) (hc9 : c ≤ maxLen) (hs : ∀ x ∈ L, x.1.size ≤ 1048576 ∧ x.2.size ≤ 1048576) (h : Src w a (cellsP L)) (hx : x.size ≤ 1048576) (hy : y.size ≤ 1048576) (R : List PM) (Q : Int) (HQ : Hid (lawM2 (addR L x y) (askM L [x, y]) = (R, Q))) :
    Calls Tryz.prog 35 #[.slice a n c, .string x, .string y] w fun e w' => ∃ v, e = .returned (.tuple #[v, .int .i64 Q]) ∧ w'.ownsRow w.heap.size 68 2 v R.length (cellsP R) ∧ Below w.heap.size w w' := by
  have HLN : Hid (L.length = n) := hL
  have HS : Hid (Src w a (cellsP L)) := h
  have AL : Hid (Below w.heap.size w (w.alloc (.cells #[.string x, .string y] 9))) := (Below.refl _ _).alloc (Nat.le_refl _) _
  obtain ⟨q, hq⟩ : ∃ q, askM L [x, y] = q := ⟨_, rfl⟩
  have HQQ : Hid (askM L [x, y] = q) := hq
  have HQ1 : Hid (lawM2 (addR L x y) q = (R, Q)) := by show _ = _; rw [← hq]; exact HQ.out
  have CA := l07AskS a n c L (some ⟨w.heap.size, 0, none⟩) 2 2 [x, y] (w.alloc (.cells #[.string x, .string y] 9)) hL hn hs (HS.out.below AL.out) rfl (by omega) (fun s hs => by
    rcases List.mem_cons.1 hs with rfl | hs
    · exact hx
    · rw [List.mem_singleton.1 hs]; exact hy) (src_2S rfl) q hq
  have EM : Hid ((w.alloc (.cells #[] 68)).ownsRow w.heap.size 68 2 (.slice (some ⟨w.heap.size, 0, none⟩) 0 0) ([] : List PM).length (cellsP []) ∧ Below w.heap.size w (w.alloc (.cells #[] 68))) := ⟨own_empty rfl (Nat.le_refl _), (Below.refl _ _).alloc (Nat.le_refl _) _⟩
  have HBAD : Hid (q = 2 → [] = R ∧ 2 = Q) := fun h9 => by
    have h7 := HQ1.out
    unfold lawM2 at h7
    rw [h9, if_neg (by decide)] at h7
    cases h7
    exact ⟨rfl, rfl⟩
  clear hL h hs hq HQ
  by_cases h1 : 4096 < n
  · have h1i : (4096 : Int) < (n : Int) := by omega
    obtain ⟨rfl, rfl⟩ := HBAD.out (by rw [← HQQ.out]; unfold askM; rw [if_pos (.inl (by rw [HLN.out]; exact h1))])
    go_enter Tryz.func35, Tryz.ntmps35
    go_wp2_with fail
    exact bodyPost_ret (v := .tuple #[.slice (some ⟨w.heap.size, 0, none⟩) 0 0, .int .i64 2]) (by simp [results, Tryz.results35, go_sem]) rfl ⟨_, rfl, EM.out⟩
  have h1i : ¬ (4096 : Int) < (n : Int) := by omega
  by_cases h2 : 65536 < x.size
  · have h2i : (65536 : Int) < (x.size : Int) := by omega
    obtain ⟨rfl, rfl⟩ := HBAD.out (by
      rw [← HQQ.out]
      unfold askM
      rw [if_pos (.inr (by show (smallT x && _) = false; rw [show smallT x = false from decide_eq_false (by omega)]; rfl))])
    go_enter Tryz.func35, Tryz.ntmps35
    go_wp2_with fail
    exact bodyPost_ret (v := .tuple #[.slice (some ⟨w.heap.size, 0, none⟩) 0 0, .int .i64 2]) (by simp [results, Tryz.results35, go_sem]) rfl ⟨_, rfl, EM.out⟩
  have h2i : ¬ (65536 : Int) < (x.size : Int) := by omega
  by_cases h3 : 65536 < y.size
  · have h3i : (65536 : Int) < (y.size : Int) := by omega
    obtain ⟨rfl, rfl⟩ := HBAD.out (by
      rw [← HQQ.out]
      unfold askM
      rw [if_pos (.inr (by show (smallT x && (smallT y && true)) = false; rw [show smallT y = false from decide_eq_false (by omega)]; simp))])
    go_enter Tryz.func35, Tryz.ntmps35
    go_wp2_with fail
    exact bodyPost_ret (v := .tuple #[.slice (some ⟨w.heap.size, 0, none⟩) 0 0, .int .i64 2]) (by simp [results, Tryz.results35, go_sem]) rfl ⟨_, rfl, EM.out⟩
  have h3i : ¬ (65536 : Int) < (y.size : Int) := by omega
  by_cases hq0 : q = 0
  · subst hq0
    obtain ⟨hst, hsx, hsy⟩ := ask_zero2 HQQ.out
    obtain ⟨hgl, nx0, hnm, n1, _⟩ := store_facts hst
    obtain ⟨b, o, rfl⟩ := store_src hst HS.out
    have zx := short_size' hsx
    have zy := short_size' hsy
    have HQ2 : Hid (addR L x y = (R, Q)) := by have h9 := HQ1.out; unfold lawM2 at h9; rw [if_pos rfl] at h9; exact h9
    have CI := fun W (hW : Below w.heap.size w W) => l07AddUserS b o n c L HLN.out hc hc9 hgl x y zx zy (by omega) W (HS.out.below hW) R Q HQ2.out
    have hln : R.length ≤ 4000 := by
      have h9 := addR_len hgl x y
      rw [HQ2.out] at h9
      exact h9
    clear hst hsx hsy hgl HQ1 HBAD hnm n1
    go_enter Tryz.func35, Tryz.ntmps35
    go_wp2_with fail
    refine CA.mono ?_
    rintro e w3 ⟨rfl, hb3⟩
    have B3 : Hid (Below w.heap.size w w3) := AL.out.trans (hb3.mono AL.out.size)
    have CI3 := CI w3 B3.out
    clear hb3 CA CI
    go_wp2_with fail
    refine CI3.mono ?_
    rintro e w4 ⟨a4, n4, c4, rfl, k1, k2, hb4⟩
    have B4 : Hid (Below w.heap.size w w4) := B3.out.trans (hb4.mono B3.out.size)
    have CO := l07OwnS a4 n4 c4 R w4 k1 (by omega) k2
    have HN4 : Hid (R.length = n4) := k1
    clear hb4 CI3 k1 k2
    go_wp2_with fail
    refine CO.mono ?_
    rintro e w5 ⟨v5, rfl, ho5, hb5⟩
    obtain ⟨a5, c5, rfl, _, _⟩ := own_src ho5
    have HF : Hid (w5.ownsRow w.heap.size 68 2 (.slice a5 n4 c5) R.length (cellsP R) ∧ Below w.heap.size w w5) := ⟨by rw [HN4.out]; exact own_mono ho5 B4.out.size, B4.out.trans (hb5.mono B4.out.size)⟩
    clear ho5 hb5 CO
    go_wp2_with fail
    exact bodyPost_ret (v := .tuple #[.slice a5 n4 c5, .int .i64 Q]) (by simp [results, Tryz.results35, go_sem]) rfl ⟨_, rfl, HF.out⟩
  · obtain ⟨rfl, rfl⟩ : [] = R ∧ q = Q := by
      have h9 := HQ1.out
      unfold lawM2 at h9
      rw [if_neg hq0] at h9
      cases h9
      exact ⟨rfl, rfl⟩
    have hqi : (q != 0) = true := by simpa using hq0
    go_enter Tryz.func35, Tryz.ntmps35
    go_wp2_with fail
    refine CA.mono ?_
    rintro e w3 ⟨rfl, hb3⟩
    have B3 : Hid (Below w.heap.size w w3) := AL.out.trans (hb3.mono AL.out.size)
    have EM3 : Hid ((w3.alloc (.cells #[] 68)).ownsRow w.heap.size 68 2 (.slice (some ⟨w3.heap.size, 0, none⟩) 0 0) ([] : List PM).length (cellsP []) ∧ Below w.heap.size w (w3.alloc (.cells #[] 68))) := ⟨own_empty rfl B3.out.size, B3.out.alloc B3.out.size _⟩
    clear hb3 CA
    go_wp2_with fail
    exact bodyPost_ret (v := .tuple #[.slice (some ⟨w3.heap.size, 0, none⟩) 0 0, .int .i64 q]) (by simp [results, Tryz.results35, go_sem]) rfl ⟨_, rfl, EM3.out⟩
set_option maxHeartbeats 2000000 in
theorem implAddUser (a : Option Addr) (n c : Nat) (L : List PM) (x y : ByteArray) (w : World) (hL : L.length = n) (hn : n ≤ 1048576) (hs : ∀ x ∈ L, x.1.size ≤ 1048576 ∧ x.2.size ≤ 1048576) (h : Src w a (cellsP L)) (hx : x.size ≤ 1048576) (hy : y.size ≤ 1048576) (hG : Gl w) (h8 : 8 ≤ w.heap.size) (R : List PM) (Q : Int) (HQ : Hid (lawM2 (addR L x y) (askM L [x, y]) = (R, Q))) :
    Calls Tryz.prog 34 #[.slice a n c, .string x, .string y] w fun e w' => ∃ v, e = .returned (.tuple #[v, .int .i64 Q]) ∧ w'.ownsRow w.heap.size 68 2 v R.length (cellsP R) ∧ Below w.heap.size w w' := by
  have HLN : Hid (L.length = n) := hL
  have HS : Hid (Src w a (cellsP L)) := h
  have HG : Hid (Gl w) := hG
  have AL : Hid (Below w.heap.size w (w.alloc (.cells #[.string x, .string y] 9))) := (Below.refl _ _).alloc (Nat.le_refl _) _
  obtain ⟨q, hq⟩ : ∃ q, askM L [x, y] = q := ⟨_, rfl⟩
  have HQQ : Hid (askM L [x, y] = q) := hq
  have HQ1 : Hid (lawM2 (addR L x y) q = (R, Q)) := by show _ = _; rw [← hq]; exact HQ.out
  have CA := mailFaultI a n c L (some ⟨w.heap.size, 0, none⟩) 2 2 [x, y] (w.alloc (.cells #[.string x, .string y] 9)) hL hn hs (HS.out.below AL.out) rfl (by omega) (fun s hs => by
    rcases List.mem_cons.1 hs with rfl | hs
    · exact hx
    · rw [List.mem_singleton.1 hs]; exact hy) (src_2S rfl) (hG.below h8 AL.out) (by have := AL.out.size; omega) q hq
  clear hL h hs hq HQ hG
  by_cases hq0 : q = 0
  · subst hq0
    obtain ⟨hst, hsx, hsy⟩ := ask_zero2 HQQ.out
    have hus := word_slash hsx
    have hu8 := short_size hsx
    have hy8 := short_size hsy
    obtain ⟨hgl, nx0, hnm, n1, n2, _⟩ := store_facts hst
    have hn60 := hgl.1
    rw [HLN.out] at hn60
    have HQ2 : Hid (addR L x y = (R, Q)) := by have h9 := HQ1.out; unfold lawM2 at h9; rw [if_pos rfl] at h9; exact h9
    have CD := fun W (hW : Below w.heap.size w W) => deskWithI a n c L x W HLN.out (HS.out.below hW) (HG.out.below h8 hW) (by have := hW.size; omega) hst hus (by omega)
    have HFI : Hid (∀ S S' q nx', takeAll (nextM L) x S0 L = some S → addM (nextM L) S y = (q, nx', S') → OpFits L x q nx' S' (addR L x y)) := fun S S' q nx' k1 k2 => add_fits hst hsx k1 k2
    rw [hnm] at n1 n2
    obtain ⟨nx, hnx⟩ : ∃ t, nextM L = t := ⟨_, rfl⟩
    simp only [hnx] at CD HFI n1 n2
    clear hst hsx hsy HQ1 hgl hnm hnx
    go_enter Tryz.func34, Tryz.ntmps34
    go_wp2_with fail
    refine CA.mono ?_
    rintro e w3 ⟨rfl, hb3⟩
    have B3 : Hid (Below w.heap.size w w3) := AL.out.trans (hb3.mono AL.out.size)
    clear hb3 CA
    go_wp2_with fail
    refine (CD _ B3.out).mono ?_
    rintro e w4 ⟨M, S, rfl, hS, hSt, hM, hb4⟩
    have B4 : Hid (Below w.heap.size w w4) := B3.out.trans (hb4.mono B3.out.size)
    have hM2 : w.heap.size ≤ M := by have h9 := B3.out.size; omega
    obtain ⟨q1, nx1, S1, hop⟩ : ∃ q1 nx1 S1, addM nx S y = (q1, nx1, S1) := ⟨_, _, _, rfl⟩
    have HOF : Hid (OpFits L x q1 nx1 S1 (addR L x y)) := HFI.out S S1 q1 nx1 hS hop
    have COP := addUserI w4 M a n c nx x S n hSt y (by omega) (by omega) n2 q1 nx1 S1 hop
    clear hb4 hS hSt CD hM hop HFI
    go_wp2_with fail
    refine COP.mono ?_
    rintro e w5 ⟨rfl, hst5, hb5⟩
    have B5 : Hid (Below w.heap.size w w5) := B4.out.trans (hb5.mono hM2)
    have HST5 : Hid (StAt w5 M a n c nx1 x S1 n) := hst5
    clear COP hb5 hst5
    by_cases hq1 : q1 = 0
    · subst hq1
      obtain ⟨k1, k2, k3, Y, k4, k5, k6, k7⟩ := HOF.out.2 rfl
      rw [HQ2.out] at k7
      have CE := doneOk w5 M a n c nx1 x S1 n HST5.out (by omega) k1 k2 k3 (by omega) (HG.out.below h8 B5.out) (by omega) Y k4 k5 _ rfl k6 L HLN.out hn60 (HS.out.below B5.out) R Q (by show _ = _; rw [k7]; rfl)
      clear k1 k2 k3 k4 k5 k6 k7 HOF
      go_wp2_with fail
      refine CE.mono ?_
      rintro e w6 ⟨v6, rfl, ho6, hb6⟩
      obtain ⟨a6, c6, rfl, _, _⟩ := own_src ho6
      have HF : Hid (w6.ownsRow w.heap.size 68 2 (.slice a6 R.length c6) R.length (cellsP R) ∧ Below w.heap.size w w6) := ⟨own_mono ho6 B5.out.size, B5.out.trans (hb6.mono B5.out.size)⟩
      clear CE ho6 hb6
      go_wp2_with fail
      exact bodyPost_ret (v := .tuple #[.slice a6 R.length c6, .int .i64 Q]) (by simp [results, Tryz.results34, go_sem]) rfl ⟨_, rfl, HF.out⟩
    · have k7 := HOF.out.1 hq1
      rw [HQ2.out] at k7
      obtain ⟨hk1, hk2⟩ : R = L ∧ Q = q1 := by cases k7; exact ⟨rfl, rfl⟩
      have e0c : w5.cell? ⟨M + 1, 0, none⟩ = some (.slice a n c) := by
        obtain ⟨_, _, hD, _⟩ := HST5.out
        exact (hD.1 0 _ rfl).1
      have CE := doneBad q1 hq1 w5 M a n c L HLN.out hn60 e0c (HS.out.below B5.out)
      have HK : Hid (R = L ∧ q1 = Q) := ⟨hk1, hk2.symm⟩
      clear k7 HOF hk1 hk2 e0c
      go_wp2_with fail
      refine CE.mono ?_
      rintro e w6 ⟨v6, rfl, ho6, hb6⟩
      obtain ⟨a6, c6, rfl, _, _⟩ := own_src ho6
      have HF : Hid (w6.ownsRow w.heap.size 68 2 (.slice a6 n c6) R.length (cellsP R) ∧ Below w.heap.size w w6) := ⟨by rw [HK.out.1, HLN.out]; exact own_mono ho6 B5.out.size, B5.out.trans (hb6.mono B5.out.size)⟩
      have HK2 : Hid (q1 = Q) := HK.out.2
      clear CE ho6 hb6
      go_wp2_with fail
      exact bodyPost_ret (v := .tuple #[.slice a6 n c6, .int .i64 q1]) (by simp [results, Tryz.results34, go_sem]) rfl ⟨_, by rw [HK2.out], HF.out⟩
  · obtain ⟨rfl, rfl⟩ : [] = R ∧ q = Q := by
      have h9 := HQ1.out
      unfold lawM2 at h9
      rw [if_neg hq0] at h9
      cases h9
      exact ⟨rfl, rfl⟩
    have hqi : (q != 0) = true := by simpa using hq0
    go_enter Tryz.func34, Tryz.ntmps34
    go_wp2_with fail
    refine CA.mono ?_
    rintro e w3 ⟨rfl, hb3⟩
    have B3 : Hid (Below w.heap.size w w3) := AL.out.trans (hb3.mono AL.out.size)
    clear hb3 CA
    go_wp2_with fail
    exact bodyPost_ret (v := .tuple #[.slice none 0 0, .int .i64 q]) (by simp [results, Tryz.results34, go_sem]) rfl ⟨_, rfl, World.ownsRow_nil _ _ _ _, B3.out⟩
set_option maxHeartbeats 2000000 in
theorem specMakeFolder (a : Option Addr) (n c : Nat) (L : List PM) (x y : ByteArray) (w : World) (hL : L.length = n) (hn : n ≤ 1048576) (hc : n ≤ c) (hc9 : c ≤ maxLen) (hs : ∀ x ∈ L, x.1.size ≤ 1048576 ∧ x.2.size ≤ 1048576) (h : Src w a (cellsP L)) (hx : x.size ≤ 1048576) (hy : y.size ≤ 1048576) (R : List PM) (Q : Int) (HQ : Hid (lawM2 (mkR L x y) (askM L [x, y]) = (R, Q))) :
    Calls Tryz.prog 18 #[.slice a n c, .string x, .string y] w fun e w' => ∃ v, e = .returned (.tuple #[v, .int .i64 Q]) ∧ w'.ownsRow w.heap.size 68 2 v R.length (cellsP R) ∧ Below w.heap.size w w' := by
  have HLN : Hid (L.length = n) := hL
  have HS : Hid (Src w a (cellsP L)) := h
  have AL : Hid (Below w.heap.size w (w.alloc (.cells #[.string x, .string y] 9))) := (Below.refl _ _).alloc (Nat.le_refl _) _
  obtain ⟨q, hq⟩ : ∃ q, askM L [x, y] = q := ⟨_, rfl⟩
  have HQQ : Hid (askM L [x, y] = q) := hq
  have HQ1 : Hid (lawM2 (mkR L x y) q = (R, Q)) := by show _ = _; rw [← hq]; exact HQ.out
  have CA := l07AskS a n c L (some ⟨w.heap.size, 0, none⟩) 2 2 [x, y] (w.alloc (.cells #[.string x, .string y] 9)) hL hn hs (HS.out.below AL.out) rfl (by omega) (fun s hs => by
    rcases List.mem_cons.1 hs with rfl | hs
    · exact hx
    · rw [List.mem_singleton.1 hs]; exact hy) (src_2S rfl) q hq
  have EM : Hid ((w.alloc (.cells #[] 68)).ownsRow w.heap.size 68 2 (.slice (some ⟨w.heap.size, 0, none⟩) 0 0) ([] : List PM).length (cellsP []) ∧ Below w.heap.size w (w.alloc (.cells #[] 68))) := ⟨own_empty rfl (Nat.le_refl _), (Below.refl _ _).alloc (Nat.le_refl _) _⟩
  have HBAD : Hid (q = 2 → [] = R ∧ 2 = Q) := fun h9 => by
    have h7 := HQ1.out
    unfold lawM2 at h7
    rw [h9, if_neg (by decide)] at h7
    cases h7
    exact ⟨rfl, rfl⟩
  clear hL h hs hq HQ
  by_cases h1 : 4096 < n
  · have h1i : (4096 : Int) < (n : Int) := by omega
    obtain ⟨rfl, rfl⟩ := HBAD.out (by rw [← HQQ.out]; unfold askM; rw [if_pos (.inl (by rw [HLN.out]; exact h1))])
    go_enter Tryz.func18, Tryz.ntmps18
    go_wp2_with fail
    exact bodyPost_ret (v := .tuple #[.slice (some ⟨w.heap.size, 0, none⟩) 0 0, .int .i64 2]) (by simp [results, Tryz.results18, go_sem]) rfl ⟨_, rfl, EM.out⟩
  have h1i : ¬ (4096 : Int) < (n : Int) := by omega
  by_cases h2 : 65536 < x.size
  · have h2i : (65536 : Int) < (x.size : Int) := by omega
    obtain ⟨rfl, rfl⟩ := HBAD.out (by
      rw [← HQQ.out]
      unfold askM
      rw [if_pos (.inr (by show (smallT x && _) = false; rw [show smallT x = false from decide_eq_false (by omega)]; rfl))])
    go_enter Tryz.func18, Tryz.ntmps18
    go_wp2_with fail
    exact bodyPost_ret (v := .tuple #[.slice (some ⟨w.heap.size, 0, none⟩) 0 0, .int .i64 2]) (by simp [results, Tryz.results18, go_sem]) rfl ⟨_, rfl, EM.out⟩
  have h2i : ¬ (65536 : Int) < (x.size : Int) := by omega
  by_cases h3 : 65536 < y.size
  · have h3i : (65536 : Int) < (y.size : Int) := by omega
    obtain ⟨rfl, rfl⟩ := HBAD.out (by
      rw [← HQQ.out]
      unfold askM
      rw [if_pos (.inr (by show (smallT x && (smallT y && true)) = false; rw [show smallT y = false from decide_eq_false (by omega)]; simp))])
    go_enter Tryz.func18, Tryz.ntmps18
    go_wp2_with fail
    exact bodyPost_ret (v := .tuple #[.slice (some ⟨w.heap.size, 0, none⟩) 0 0, .int .i64 2]) (by simp [results, Tryz.results18, go_sem]) rfl ⟨_, rfl, EM.out⟩
  have h3i : ¬ (65536 : Int) < (y.size : Int) := by omega
  by_cases hq0 : q = 0
  · subst hq0
    obtain ⟨hst, hsx, hsy⟩ := ask_zero2 HQQ.out
    obtain ⟨hgl, nx0, hnm, n1, _⟩ := store_facts hst
    obtain ⟨b, o, rfl⟩ := store_src hst HS.out
    have zx := short_size' hsx
    have zy := short_size' hsy
    have HQ2 : Hid (mkR L x y = (R, Q)) := by have h9 := HQ1.out; unfold lawM2 at h9; rw [if_pos rfl] at h9; exact h9
    have CI := fun W (hW : Below w.heap.size w W) => l07MakeFolderS b o n c L HLN.out hc hc9 hgl x y zx zy (by omega) W (HS.out.below hW) R Q HQ2.out
    have hln : R.length ≤ 4000 := by
      have h9 := mkR_len hgl x y
      rw [HQ2.out] at h9
      exact h9
    clear hst hsx hsy hgl HQ1 HBAD hnm n1
    go_enter Tryz.func18, Tryz.ntmps18
    go_wp2_with fail
    refine CA.mono ?_
    rintro e w3 ⟨rfl, hb3⟩
    have B3 : Hid (Below w.heap.size w w3) := AL.out.trans (hb3.mono AL.out.size)
    have CI3 := CI w3 B3.out
    clear hb3 CA CI
    go_wp2_with fail
    refine CI3.mono ?_
    rintro e w4 ⟨a4, n4, c4, rfl, k1, k2, hb4⟩
    have B4 : Hid (Below w.heap.size w w4) := B3.out.trans (hb4.mono B3.out.size)
    have CO := l07OwnS a4 n4 c4 R w4 k1 (by omega) k2
    have HN4 : Hid (R.length = n4) := k1
    clear hb4 CI3 k1 k2
    go_wp2_with fail
    refine CO.mono ?_
    rintro e w5 ⟨v5, rfl, ho5, hb5⟩
    obtain ⟨a5, c5, rfl, _, _⟩ := own_src ho5
    have HF : Hid (w5.ownsRow w.heap.size 68 2 (.slice a5 n4 c5) R.length (cellsP R) ∧ Below w.heap.size w w5) := ⟨by rw [HN4.out]; exact own_mono ho5 B4.out.size, B4.out.trans (hb5.mono B4.out.size)⟩
    clear ho5 hb5 CO
    go_wp2_with fail
    exact bodyPost_ret (v := .tuple #[.slice a5 n4 c5, .int .i64 Q]) (by simp [results, Tryz.results18, go_sem]) rfl ⟨_, rfl, HF.out⟩
  · obtain ⟨rfl, rfl⟩ : [] = R ∧ q = Q := by
      have h9 := HQ1.out
      unfold lawM2 at h9
      rw [if_neg hq0] at h9
      cases h9
      exact ⟨rfl, rfl⟩
    have hqi : (q != 0) = true := by simpa using hq0
    go_enter Tryz.func18, Tryz.ntmps18
    go_wp2_with fail
    refine CA.mono ?_
    rintro e w3 ⟨rfl, hb3⟩
    have B3 : Hid (Below w.heap.size w w3) := AL.out.trans (hb3.mono AL.out.size)
    have EM3 : Hid ((w3.alloc (.cells #[] 68)).ownsRow w.heap.size 68 2 (.slice (some ⟨w3.heap.size, 0, none⟩) 0 0) ([] : List PM).length (cellsP []) ∧ Below w.heap.size w (w3.alloc (.cells #[] 68))) := ⟨own_empty rfl B3.out.size, B3.out.alloc B3.out.size _⟩
    clear hb3 CA
    go_wp2_with fail
    exact bodyPost_ret (v := .tuple #[.slice (some ⟨w3.heap.size, 0, none⟩) 0 0, .int .i64 q]) (by simp [results, Tryz.results18, go_sem]) rfl ⟨_, rfl, EM3.out⟩
set_option maxHeartbeats 2000000 in
theorem implMakeFolder (a : Option Addr) (n c : Nat) (L : List PM) (x y : ByteArray) (w : World) (hL : L.length = n) (hn : n ≤ 1048576) (hs : ∀ x ∈ L, x.1.size ≤ 1048576 ∧ x.2.size ≤ 1048576) (h : Src w a (cellsP L)) (hx : x.size ≤ 1048576) (hy : y.size ≤ 1048576) (hG : Gl w) (h8 : 8 ≤ w.heap.size) (R : List PM) (Q : Int) (HQ : Hid (lawM2 (mkR L x y) (askM L [x, y]) = (R, Q))) :
    Calls Tryz.prog 17 #[.slice a n c, .string x, .string y] w fun e w' => ∃ v, e = .returned (.tuple #[v, .int .i64 Q]) ∧ w'.ownsRow w.heap.size 68 2 v R.length (cellsP R) ∧ Below w.heap.size w w' := by
  have HLN : Hid (L.length = n) := hL
  have HS : Hid (Src w a (cellsP L)) := h
  have HG : Hid (Gl w) := hG
  have AL : Hid (Below w.heap.size w (w.alloc (.cells #[.string x, .string y] 9))) := (Below.refl _ _).alloc (Nat.le_refl _) _
  obtain ⟨q, hq⟩ : ∃ q, askM L [x, y] = q := ⟨_, rfl⟩
  have HQQ : Hid (askM L [x, y] = q) := hq
  have HQ1 : Hid (lawM2 (mkR L x y) q = (R, Q)) := by show _ = _; rw [← hq]; exact HQ.out
  have CA := mailFaultI a n c L (some ⟨w.heap.size, 0, none⟩) 2 2 [x, y] (w.alloc (.cells #[.string x, .string y] 9)) hL hn hs (HS.out.below AL.out) rfl (by omega) (fun s hs => by
    rcases List.mem_cons.1 hs with rfl | hs
    · exact hx
    · rw [List.mem_singleton.1 hs]; exact hy) (src_2S rfl) (hG.below h8 AL.out) (by have := AL.out.size; omega) q hq
  clear hL h hs hq HQ hG
  by_cases hq0 : q = 0
  · subst hq0
    obtain ⟨hst, hsx, hsy⟩ := ask_zero2 HQQ.out
    have hus := word_slash hsx
    have hu8 := short_size hsx
    have hy8 := short_size hsy
    obtain ⟨hgl, nx0, hnm, n1, n2, _⟩ := store_facts hst
    have hn60 := hgl.1
    rw [HLN.out] at hn60
    have HQ2 : Hid (mkR L x y = (R, Q)) := by have h9 := HQ1.out; unfold lawM2 at h9; rw [if_pos rfl] at h9; exact h9
    have CD := fun W (hW : Below w.heap.size w W) => deskWithI a n c L x W HLN.out (HS.out.below hW) (HG.out.below h8 hW) (by have := hW.size; omega) hst hus (by omega)
    have HFI : Hid (∀ S S' q nx', takeAll (nextM L) x S0 L = some S → mkM (nextM L) S y = (q, nx', S') → OpFits L x q nx' S' (mkR L x y)) := fun S S' q nx' k1 k2 => mk_fits hst hsx hsy k1 k2
    rw [hnm] at n1 n2
    obtain ⟨nx, hnx⟩ : ∃ t, nextM L = t := ⟨_, rfl⟩
    simp only [hnx] at CD HFI n1 n2
    clear hst hsx hsy HQ1 hgl hnm hnx
    go_enter Tryz.func17, Tryz.ntmps17
    go_wp2_with fail
    refine CA.mono ?_
    rintro e w3 ⟨rfl, hb3⟩
    have B3 : Hid (Below w.heap.size w w3) := AL.out.trans (hb3.mono AL.out.size)
    clear hb3 CA
    go_wp2_with fail
    refine (CD _ B3.out).mono ?_
    rintro e w4 ⟨M, S, rfl, hS, hSt, hM, hb4⟩
    have B4 : Hid (Below w.heap.size w w4) := B3.out.trans (hb4.mono B3.out.size)
    have hM2 : w.heap.size ≤ M := by have h9 := B3.out.size; omega
    obtain ⟨q1, nx1, S1, hop⟩ : ∃ q1 nx1 S1, mkM nx S y = (q1, nx1, S1) := ⟨_, _, _, rfl⟩
    have HOF : Hid (OpFits L x q1 nx1 S1 (mkR L x y)) := HFI.out S S1 q1 nx1 hS hop
    have COP := makeFolderI w4 M a n c nx x S n hSt y (by omega) (by omega) (by omega) n2 q1 nx1 S1 hop
    clear hb4 hS hSt CD hM hop HFI
    go_wp2_with fail
    refine COP.mono ?_
    rintro e w5 ⟨rfl, hst5, hb5⟩
    have B5 : Hid (Below w.heap.size w w5) := B4.out.trans (hb5.mono hM2)
    have HST5 : Hid (StAt w5 M a n c nx1 x S1 n) := hst5
    clear COP hb5 hst5
    by_cases hq1 : q1 = 0
    · subst hq1
      obtain ⟨k1, k2, k3, Y, k4, k5, k6, k7⟩ := HOF.out.2 rfl
      rw [HQ2.out] at k7
      have CE := doneOk w5 M a n c nx1 x S1 n HST5.out (by omega) k1 k2 k3 (by omega) (HG.out.below h8 B5.out) (by omega) Y k4 k5 _ rfl k6 L HLN.out hn60 (HS.out.below B5.out) R Q (by show _ = _; rw [k7]; rfl)
      clear k1 k2 k3 k4 k5 k6 k7 HOF
      go_wp2_with fail
      refine CE.mono ?_
      rintro e w6 ⟨v6, rfl, ho6, hb6⟩
      obtain ⟨a6, c6, rfl, _, _⟩ := own_src ho6
      have HF : Hid (w6.ownsRow w.heap.size 68 2 (.slice a6 R.length c6) R.length (cellsP R) ∧ Below w.heap.size w w6) := ⟨own_mono ho6 B5.out.size, B5.out.trans (hb6.mono B5.out.size)⟩
      clear CE ho6 hb6
      go_wp2_with fail
      exact bodyPost_ret (v := .tuple #[.slice a6 R.length c6, .int .i64 Q]) (by simp [results, Tryz.results17, go_sem]) rfl ⟨_, rfl, HF.out⟩
    · have k7 := HOF.out.1 hq1
      rw [HQ2.out] at k7
      obtain ⟨hk1, hk2⟩ : R = L ∧ Q = q1 := by cases k7; exact ⟨rfl, rfl⟩
      have e0c : w5.cell? ⟨M + 1, 0, none⟩ = some (.slice a n c) := by
        obtain ⟨_, _, hD, _⟩ := HST5.out
        exact (hD.1 0 _ rfl).1
      have CE := doneBad q1 hq1 w5 M a n c L HLN.out hn60 e0c (HS.out.below B5.out)
      have HK : Hid (R = L ∧ q1 = Q) := ⟨hk1, hk2.symm⟩
      clear k7 HOF hk1 hk2 e0c
      go_wp2_with fail
      refine CE.mono ?_
      rintro e w6 ⟨v6, rfl, ho6, hb6⟩
      obtain ⟨a6, c6, rfl, _, _⟩ := own_src ho6
      have HF : Hid (w6.ownsRow w.heap.size 68 2 (.slice a6 n c6) R.length (cellsP R) ∧ Below w.heap.size w w6) := ⟨by rw [HK.out.1, HLN.out]; exact own_mono ho6 B5.out.size, B5.out.trans (hb6.mono B5.out.size)⟩
      have HK2 : Hid (q1 = Q) := HK.out.2
      clear CE ho6 hb6
      go_wp2_with fail
      exact bodyPost_ret (v := .tuple #[.slice a6 n c6, .int .i64 q1]) (by simp [results, Tryz.results17, go_sem]) rfl ⟨_, by rw [HK2.out], HF.out⟩
  · obtain ⟨rfl, rfl⟩ : [] = R ∧ q = Q := by
      have h9 := HQ1.out
      unfold lawM2 at h9
      rw [if_neg hq0] at h9
      cases h9
      exact ⟨rfl, rfl⟩
    have hqi : (q != 0) = true := by simpa using hq0
    go_enter Tryz.func17, Tryz.ntmps17
    go_wp2_with fail
    refine CA.mono ?_
    rintro e w3 ⟨rfl, hb3⟩
    have B3 : Hid (Below w.heap.size w w3) := AL.out.trans (hb3.mono AL.out.size)
    clear hb3 CA
    go_wp2_with fail
    exact bodyPost_ret (v := .tuple #[.slice none 0 0, .int .i64 q]) (by simp [results, Tryz.results17, go_sem]) rfl ⟨_, rfl, World.ownsRow_nil _ _ _ _, B3.out⟩
end Go.Proofs.YtddnecljdecamaaGreatDoor
namespace Go.Proofs.YtddnecljdecamaaGreatDoor
open Go.ChangeShapes Go.WideShapes Go.ChangeAt Go.RowKit Go.Deep Go.Lib
set_option linter.unusedVariables false
set_option linter.unusedSimpArgs false
set_option maxRecDepth 100000

theorem dropR_len {L : List PM} (hg : GoodL L) (u p : ByteArray) : (dropR L u p).1.length ≤ 4000 := by
  have := hg.1
  unfold dropR
  split
  · show L.length ≤ 4000; omega
  · split
    · show L.length ≤ 4000; omega
    · show (notK (folderK u p) (emptyR L u p)).length ≤ 4000
      rw [drop_eq]
      have := List.length_filter_le (passB u p) L
      omega
set_option maxHeartbeats 2000000 in
theorem implDropFolder (a : Option Addr) (n c : Nat) (L : List PM) (x y : ByteArray) (w : World) (hL : L.length = n) (hn : n ≤ 1048576) (hs : ∀ x ∈ L, x.1.size ≤ 1048576 ∧ x.2.size ≤ 1048576) (h : Src w a (cellsP L)) (hx : x.size ≤ 1048576) (hy : y.size ≤ 1048576) (hG : Gl w) (h8 : 8 ≤ w.heap.size) (R : List PM) (Q : Int) (HQ : Hid (lawM2 (dropR L x y) (askM L [x, y]) = (R, Q))) :
    Calls Tryz.prog 20 #[.slice a n c, .string x, .string y] w fun e w' => ∃ v, e = .returned (.tuple #[v, .int .i64 Q]) ∧ w'.ownsRow w.heap.size 68 2 v R.length (cellsP R) ∧ Below w.heap.size w w' := by
  have HLN : Hid (L.length = n) := hL
  have HS : Hid (Src w a (cellsP L)) := h
  have HG : Hid (Gl w) := hG
  have AL : Hid (Below w.heap.size w (w.alloc (.cells #[.string x, .string y] 9))) := (Below.refl _ _).alloc (Nat.le_refl _) _
  obtain ⟨q, hq⟩ : ∃ q, askM L [x, y] = q := ⟨_, rfl⟩
  have HQQ : Hid (askM L [x, y] = q) := hq
  have HQ1 : Hid (lawM2 (dropR L x y) q = (R, Q)) := by show _ = _; rw [← hq]; exact HQ.out
  have CA := mailFaultI a n c L (some ⟨w.heap.size, 0, none⟩) 2 2 [x, y] (w.alloc (.cells #[.string x, .string y] 9)) hL hn hs (HS.out.below AL.out) rfl (by omega) (fun s hs => by
    rcases List.mem_cons.1 hs with rfl | hs
    · exact hx
    · rw [List.mem_singleton.1 hs]; exact hy) (src_2S rfl) (hG.below h8 AL.out) (by have := AL.out.size; omega) q hq
  clear hL h hs hq HQ hG
  by_cases hq0 : q = 0
  · subst hq0
    obtain ⟨hst, hsx, hsy⟩ := ask_zero2 HQQ.out
    have hus := word_slash hsx
    have hu8 := short_size hsx
    have hy8 := short_size hsy
    obtain ⟨hgl, nx0, hnm, n1, n2, _⟩ := store_facts hst
    have hn60 := hgl.1
    rw [HLN.out] at hn60
    have HQ2 : Hid (dropR L x y = (R, Q)) := by have h9 := HQ1.out; unfold lawM2 at h9; rw [if_pos rfl] at h9; exact h9
    have CD := fun W (hW : Below w.heap.size w W) => deskWithI a n c L x W HLN.out (HS.out.below hW) (HG.out.below h8 hW) (by have := hW.size; omega) hst hus (by omega)
    have HFI : Hid (∀ S S' q nx', takeAll (nextM L) x S0 L = some S → dropM (nextM L) S y = (q, nx', S') → OpFits L x q nx' S' (dropR L x y)) := fun S S' q nx' k1 k2 => drop_fits hst hsx hsy k1 k2
    rw [hnm] at n1 n2
    obtain ⟨nx, hnx⟩ : ∃ t, nextM L = t := ⟨_, rfl⟩
    simp only [hnx] at CD HFI n1 n2
    clear hst hsx hsy HQ1 hgl hnm hnx
    go_enter Tryz.func20, Tryz.ntmps20
    go_wp2_with fail
    refine CA.mono ?_
    rintro e w3 ⟨rfl, hb3⟩
    have B3 : Hid (Below w.heap.size w w3) := AL.out.trans (hb3.mono AL.out.size)
    clear hb3 CA
    go_wp2_with fail
    refine (CD _ B3.out).mono ?_
    rintro e w4 ⟨M, S, rfl, hS, hSt, hM, hb4⟩
    have B4 : Hid (Below w.heap.size w w4) := B3.out.trans (hb4.mono B3.out.size)
    have hM2 : w.heap.size ≤ M := by have h9 := B3.out.size; omega
    obtain ⟨q1, nx1, S1, hop⟩ : ∃ q1 nx1 S1, dropM nx S y = (q1, nx1, S1) := ⟨_, _, _, rfl⟩
    have HOF : Hid (OpFits L x q1 nx1 S1 (dropR L x y)) := HFI.out S S1 q1 nx1 hS hop
    have COP := dropFolderI w4 M a n c nx x S n hSt y (by omega) (by omega) (by omega) n2 q1 nx1 S1 hop
    clear hb4 hS hSt CD hM hop HFI
    go_wp2_with fail
    refine COP.mono ?_
    rintro e w5 ⟨rfl, hst5, hb5⟩
    have B5 : Hid (Below w.heap.size w w5) := B4.out.trans (hb5.mono hM2)
    have HST5 : Hid (StAt w5 M a n c nx1 x S1 n) := hst5
    clear COP hb5 hst5
    by_cases hq1 : q1 = 0
    · subst hq1
      obtain ⟨k1, k2, k3, Y, k4, k5, k6, k7⟩ := HOF.out.2 rfl
      rw [HQ2.out] at k7
      have CE := doneOk w5 M a n c nx1 x S1 n HST5.out (by omega) k1 k2 k3 (by omega) (HG.out.below h8 B5.out) (by omega) Y k4 k5 _ rfl k6 L HLN.out hn60 (HS.out.below B5.out) R Q (by show _ = _; rw [k7]; rfl)
      clear k1 k2 k3 k4 k5 k6 k7 HOF
      go_wp2_with fail
      refine CE.mono ?_
      rintro e w6 ⟨v6, rfl, ho6, hb6⟩
      obtain ⟨a6, c6, rfl, _, _⟩ := own_src ho6
      have HF : Hid (w6.ownsRow w.heap.size 68 2 (.slice a6 R.length c6) R.length (cellsP R) ∧ Below w.heap.size w w6) := ⟨own_mono ho6 B5.out.size, B5.out.trans (hb6.mono B5.out.size)⟩
      clear CE ho6 hb6
      go_wp2_with fail
      exact bodyPost_ret (v := .tuple #[.slice a6 R.length c6, .int .i64 Q]) (by simp [results, Tryz.results20, go_sem]) rfl ⟨_, rfl, HF.out⟩
    · have k7 := HOF.out.1 hq1
      rw [HQ2.out] at k7
      obtain ⟨hk1, hk2⟩ : R = L ∧ Q = q1 := by cases k7; exact ⟨rfl, rfl⟩
      have e0c : w5.cell? ⟨M + 1, 0, none⟩ = some (.slice a n c) := by
        obtain ⟨_, _, hD, _⟩ := HST5.out
        exact (hD.1 0 _ rfl).1
      have CE := doneBad q1 hq1 w5 M a n c L HLN.out hn60 e0c (HS.out.below B5.out)
      have HK : Hid (R = L ∧ q1 = Q) := ⟨hk1, hk2.symm⟩
      clear k7 HOF hk1 hk2 e0c
      go_wp2_with fail
      refine CE.mono ?_
      rintro e w6 ⟨v6, rfl, ho6, hb6⟩
      obtain ⟨a6, c6, rfl, _, _⟩ := own_src ho6
      have HF : Hid (w6.ownsRow w.heap.size 68 2 (.slice a6 n c6) R.length (cellsP R) ∧ Below w.heap.size w w6) := ⟨by rw [HK.out.1, HLN.out]; exact own_mono ho6 B5.out.size, B5.out.trans (hb6.mono B5.out.size)⟩
      have HK2 : Hid (q1 = Q) := HK.out.2
      clear CE ho6 hb6
      go_wp2_with fail
      exact bodyPost_ret (v := .tuple #[.slice a6 n c6, .int .i64 q1]) (by simp [results, Tryz.results20, go_sem]) rfl ⟨_, by rw [HK2.out], HF.out⟩
  · obtain ⟨rfl, rfl⟩ : [] = R ∧ q = Q := by
      have h9 := HQ1.out
      unfold lawM2 at h9
      rw [if_neg hq0] at h9
      cases h9
      exact ⟨rfl, rfl⟩
    have hqi : (q != 0) = true := by simpa using hq0
    go_enter Tryz.func20, Tryz.ntmps20
    go_wp2_with fail
    refine CA.mono ?_
    rintro e w3 ⟨rfl, hb3⟩
    have B3 : Hid (Below w.heap.size w w3) := AL.out.trans (hb3.mono AL.out.size)
    clear hb3 CA
    go_wp2_with fail
    exact bodyPost_ret (v := .tuple #[.slice none 0 0, .int .i64 q]) (by simp [results, Tryz.results20, go_sem]) rfl ⟨_, rfl, World.ownsRow_nil _ _ _ _, B3.out⟩
end Go.Proofs.YtddnecljdecamaaGreatDoor
