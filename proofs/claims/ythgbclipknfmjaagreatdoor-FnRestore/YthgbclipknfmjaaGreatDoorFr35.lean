/-
  Ltf Lsq Byargs Shq Shr in one. By an AI agent.
-/
import Derived.Test.YthgbclipknfmjaaGreatDoorFr31
import Derived.Test.YthgbclipknfmjaaGreatDoorFr32
import Derived.Test.YthgbclipknfmjaaGreatDoorFr34
import Derived.Test.YthgbclipknfmjaaGreatDoorFr29
import Derived.Test.YthgbclipknfmjaaGreatDoorFr33
import Derived.Test.YthgbclipknfmjaaGreatDoorFr06
import Derived.Lib.SmallJoins
import Derived.SliceStrings
import Derived.ChangeSlices
import Derived.Deep.SlicePairs
import Derived.Deep.Slices
import Derived.Handed
import Derived.HandedShaped
import Derived.LaidLaws
import Derived.LaidMore
import Derived.Lib.LaidTab
import Derived.FnData
namespace Go.Proofs.YthgbclipknfmjaaGreatDoor
open Go.ChangeShapes Go.WideShapes Go.ChangeAt Go.RowKit Go.Deep Go.Lib
set_option linter.unusedVariables false
set_option linter.unusedSimpArgs false
set_option maxRecDepth 100000

theorem rask_two {N L : List PM} {Ns : List ByteArray} (h : askM N Ns = 2) : raskM N L Ns = 2 := by
  unfold raskM
  split
  · rfl
  · rw [h, if_pos (by decide)]
theorem rask_ask {N L : List PM} {Ns : List ByteArray} {k : Int} (hl : ¬ 4096 < L.length) (h : askM N Ns = k) : raskM N L Ns = if k ≠ 0 then k else if storeB L = false then 1 else 0 := by
  unfold raskM
  rw [if_neg hl, h]
theorem empty_same {N : List PM} {u f : ByteArray} (h : storeB N = true) : nextM (emptyR N u f) = nextM N := by
  have hu := (store_facts h).1.2.2
  obtain ⟨T, hT⟩ : ∃ T, (vK, T) ∈ N := ⟨_, v_mem h⟩
  have a1 : getM N vK = some T := (getM_mem hu).2 hT
  have a2 : getM (emptyR N u f) vK = some T := (getM_mem (show UpL (emptyR N u f) from hu.sublist List.filter_sublist)).2 (List.mem_filter.2 ⟨hT, by rw [pass_not (pass_v u f T)]; rfl⟩)
  unfold nextM
  rw [a1, a2]
theorem rsR_len {N L : List PM} {u f : ByteArray} (h : storeB N = true) (h2 : storeB L = true) (hsu : shortB u = true) (hsf : shortB f = true) : (rsR N L u f).1.length ≤ 4000 := by
  have hus := word_slash hsu
  obtain ⟨S, hS, _, _⟩ := take_all h hus
  obtain ⟨T, hT, _, _⟩ := take_all h2 hus
  obtain ⟨q, nx', S', hq⟩ : ∃ q nx' S', rfM (nextM N) u S f T = (q, nx', S') := ⟨_, _, _, rfl⟩
  have hf := rf_fits h h2 hsu hsf hS hT hq
  have h60 := (store_facts h).1.1
  by_cases e : q = 0
  · obtain ⟨_, _, _, Y, _, _, h4, h5⟩ := hf.2 e
    rw [h5]
    unfold fitsR
    split
    · show N.length ≤ 4000; omega
    · exact h4
  · rw [hf.1 e]
    show N.length ≤ 4000
    omega
set_option maxHeartbeats 4000000 in
theorem specRestoreFolder (a : Option Addr) (n c : Nat) (N : List PM) (a2 : Option Addr) (n2 c2 : Nat) (L : List PM) (x y : ByteArray) (w : World) (hN : N.length = n) (hn : n ≤ 1048576) (hc : n ≤ c) (hc9 : c ≤ maxLen) (hs : ∀ x ∈ N, x.1.size ≤ 1048576 ∧ x.2.size ≤ 1048576) (h : Src w a (cellsP N)) (hL : L.length = n2) (hn2 : n2 ≤ 1048576) (hs2 : ∀ x ∈ L, x.1.size ≤ 1048576 ∧ x.2.size ≤ 1048576) (h2 : Src w a2 (cellsP L)) (hx : x.size ≤ 1048576) (hy : y.size ≤ 1048576) (R : List PM) (Q : Int) (HQ : Hid (lawM2 (rsR N L x y) (raskM N L [x, y]) = (R, Q))) :
    Calls Tryz.prog 20 #[.slice a n c, .slice a2 n2 c2, .string x, .string y] w fun e w' => ∃ v, e = .returned (.tuple #[v, .int .i64 Q]) ∧ w'.ownsRow w.heap.size 68 2 v R.length (cellsP R) ∧ Below w.heap.size w w' := by
  have HLN : Hid (N.length = n) := hN
  have HS : Hid (Src w a (cellsP N)) := h
  have HLL : Hid (L.length = n2) := hL
  have HS2 : Hid (Src w a2 (cellsP L)) := h2
  have AL : Hid (Below w.heap.size w (w.alloc (.cells #[.string x, .string y] 9))) := (Below.refl _ _).alloc (Nat.le_refl _) _
  obtain ⟨q, hq⟩ : ∃ q, raskM N L [x, y] = q := ⟨_, rfl⟩
  have HQQ : Hid (raskM N L [x, y] = q) := hq
  obtain ⟨k, hk⟩ : ∃ k, askM N [x, y] = k := ⟨_, rfl⟩
  have HKK : Hid (askM N [x, y] = k) := hk
  have HQ1 : Hid (lawM2 (rsR N L x y) q = (R, Q)) := by show _ = _; rw [← hq]; exact HQ.out
  have CA := l07AskS a n c N (some ⟨w.heap.size, 0, none⟩) 2 2 [x, y] (w.alloc (.cells #[.string x, .string y] 9)) hN hn hs (HS.out.below AL.out) rfl (by omega) (fun s hs => by
    rcases List.mem_cons.1 hs with rfl | hs
    · exact hx
    · rw [List.mem_singleton.1 hs]; exact hy) (src_2S rfl) k hk
  obtain ⟨sb, hsb⟩ : ∃ t, storeB L = t := ⟨_, rfl⟩
  have HSB : Hid (storeB L = sb) := hsb
  have CM := fun W (hW : Below w.heap.size w W) => specMailStoreOK a2 n2 c2 L W hL hn2 hs2 (h2.below hW) sb hsb
  have EM : Hid ((w.alloc (.cells #[] 68)).ownsRow w.heap.size 68 2 (.slice (some ⟨w.heap.size, 0, none⟩) 0 0) ([] : List PM).length (cellsP []) ∧ Below w.heap.size w (w.alloc (.cells #[] 68))) := ⟨own_empty rfl (Nat.le_refl _), (Below.refl _ _).alloc (Nat.le_refl _) _⟩
  have HBAD : Hid (q ≠ 0 → [] = R ∧ q = Q) := fun h9 => by
    have h7 := HQ1.out
    unfold lawM2 at h7
    rw [if_neg h9] at h7
    cases h7
    exact ⟨rfl, rfl⟩
  have HTWO : Hid (askM N [x, y] = 2 → [] = R ∧ 2 = Q) := fun h9 => by
    have h7 := rask_two (L := L) h9
    rw [HQQ.out] at h7
    have h6 := HBAD.out (by rw [h7]; decide)
    rw [h7] at h6
    exact h6
  clear hN h hs hL h2 hs2 hq HQ hk hsb
  by_cases h1 : 4096 < n
  · have h1i : (4096 : Int) < (n : Int) := by omega
    obtain ⟨rfl, rfl⟩ := HTWO.out (by unfold askM; rw [if_pos (.inl (by rw [HLN.out]; exact h1))])
    go_enter Tryz.func20, Tryz.ntmps20
    go_wp2_with fail
    exact bodyPost_ret (v := .tuple #[.slice (some ⟨w.heap.size, 0, none⟩) 0 0, .int .i64 2]) (by simp [results, Tryz.results20, go_sem]) rfl ⟨_, rfl, EM.out⟩
  have h1i : ¬ (4096 : Int) < (n : Int) := by omega
  by_cases h2 : 65536 < x.size
  · have h2i : (65536 : Int) < (x.size : Int) := by omega
    obtain ⟨rfl, rfl⟩ := HTWO.out (by
      unfold askM
      rw [if_pos (.inr (by show (smallT x && _) = false; rw [show smallT x = false from decide_eq_false (by omega)]; rfl))])
    go_enter Tryz.func20, Tryz.ntmps20
    go_wp2_with fail
    exact bodyPost_ret (v := .tuple #[.slice (some ⟨w.heap.size, 0, none⟩) 0 0, .int .i64 2]) (by simp [results, Tryz.results20, go_sem]) rfl ⟨_, rfl, EM.out⟩
  have h2i : ¬ (65536 : Int) < (x.size : Int) := by omega
  by_cases h3 : 65536 < y.size
  · have h3i : (65536 : Int) < (y.size : Int) := by omega
    obtain ⟨rfl, rfl⟩ := HTWO.out (by
      unfold askM
      rw [if_pos (.inr (by show (smallT x && (smallT y && true)) = false; rw [show smallT y = false from decide_eq_false (by omega)]; simp))])
    go_enter Tryz.func20, Tryz.ntmps20
    go_wp2_with fail
    exact bodyPost_ret (v := .tuple #[.slice (some ⟨w.heap.size, 0, none⟩) 0 0, .int .i64 2]) (by simp [results, Tryz.results20, go_sem]) rfl ⟨_, rfl, EM.out⟩
  have h3i : ¬ (65536 : Int) < (y.size : Int) := by omega
  by_cases h4 : 4096 < n2
  · have h4i : (4096 : Int) < (n2 : Int) := by omega
    have h9 : raskM N L [x, y] = 2 := by unfold raskM; rw [if_pos (by rw [HLL.out]; exact h4)]
    rw [HQQ.out] at h9
    subst h9
    obtain ⟨rfl, rfl⟩ := HBAD.out (by decide)
    go_enter Tryz.func20, Tryz.ntmps20
    go_wp2_with fail
    exact bodyPost_ret (v := .tuple #[.slice (some ⟨w.heap.size, 0, none⟩) 0 0, .int .i64 2]) (by simp [results, Tryz.results20, go_sem]) rfl ⟨_, rfl, EM.out⟩
  have h4i : ¬ (4096 : Int) < (n2 : Int) := by omega
  have hqk : q = if k ≠ 0 then k else if storeB L = false then 1 else 0 := by rw [← HQQ.out]; exact rask_ask (by rw [HLL.out]; exact h4) HKK.out
  by_cases hk0 : k = 0
  case neg =>
    rw [if_pos hk0] at hqk
    subst hqk
    obtain ⟨rfl, rfl⟩ := HBAD.out hk0
    have hqi : (q != 0) = true := by simpa using hk0
    clear CM
    go_enter Tryz.func20, Tryz.ntmps20
    go_wp2_with fail
    refine CA.mono ?_
    rintro e w3 ⟨rfl, hb3⟩
    have B3 : Hid (Below w.heap.size w w3) := AL.out.trans (hb3.mono AL.out.size)
    have EM3 : Hid ((w3.alloc (.cells #[] 68)).ownsRow w.heap.size 68 2 (.slice (some ⟨w3.heap.size, 0, none⟩) 0 0) ([] : List PM).length (cellsP []) ∧ Below w.heap.size w (w3.alloc (.cells #[] 68))) := ⟨own_empty rfl B3.out.size, B3.out.alloc B3.out.size _⟩
    clear hb3 CA
    go_wp2_with fail
    exact bodyPost_ret (v := .tuple #[.slice (some ⟨w3.heap.size, 0, none⟩) 0 0, .int .i64 q]) (by simp [results, Tryz.results20, go_sem]) rfl ⟨_, rfl, EM3.out⟩
  subst hk0
  rw [if_neg (by simp), HSB.out] at hqk
  cases sb with
  | false =>
    rw [if_pos rfl] at hqk
    subst hqk
    obtain ⟨rfl, rfl⟩ := HBAD.out (by decide)
    go_enter Tryz.func20, Tryz.ntmps20
    go_wp2_with fail
    refine CA.mono ?_
    rintro e w3 ⟨rfl, hb3⟩
    have B3 : Hid (Below w.heap.size w w3) := AL.out.trans (hb3.mono AL.out.size)
    have CM3 := CM w3 B3.out
    clear hb3 CA CM
    go_wp2_with fail
    refine CM3.mono ?_
    rintro e w4 ⟨rfl, hb4⟩
    have B4 : Hid (Below w.heap.size w w4) := B3.out.trans (hb4.mono B3.out.size)
    have EM4 : Hid ((w4.alloc (.cells #[] 68)).ownsRow w.heap.size 68 2 (.slice (some ⟨w4.heap.size, 0, none⟩) 0 0) ([] : List PM).length (cellsP []) ∧ Below w.heap.size w (w4.alloc (.cells #[] 68))) := ⟨own_empty rfl B4.out.size, B4.out.alloc B4.out.size _⟩
    clear hb4 CM3
    go_wp2_with fail
    exact bodyPost_ret (v := .tuple #[.slice (some ⟨w4.heap.size, 0, none⟩) 0 0, .int .i64 1]) (by simp [results, Tryz.results20, go_sem]) rfl ⟨_, rfl, EM4.out⟩
  | true =>
  rw [if_neg (by decide)] at hqk
  subst hqk
  obtain ⟨hst, hsx, hsy⟩ := ask_zero2 HKK.out
  obtain ⟨hgl, nx0, hnm, n1, _⟩ := store_facts hst
  obtain ⟨b, o, rfl⟩ := store_src hst HS.out
  have HQ2 : Hid (rsR N L x y = (R, Q)) := by have h9 := HQ1.out; unfold lawM2 at h9; rw [if_pos rfl] at h9; exact h9
  have CI := fun W (hW : Below w.heap.size w W) => l08RestoreS b o n c N HLN.out hc hc9 hgl a2 n2 c2 L HLL.out HSB.out x y hsx hsy (by omega) ⟨_, v_mem hst, pass_not (pass_v x y _)⟩ (empty_same hst) W (HS.out.below hW) (HS2.out.below hW) R Q HQ2.out
  have hln : R.length ≤ 4000 := by
    have h9 := rsR_len hst HSB.out hsx hsy
    rw [HQ2.out] at h9
    exact h9
  clear hst hsx hsy hgl HQ1 HBAD hnm n1 HTWO
  go_enter Tryz.func20, Tryz.ntmps20
  go_wp2_with fail
  refine CA.mono ?_
  rintro e w3 ⟨rfl, hb3⟩
  have B3 : Hid (Below w.heap.size w w3) := AL.out.trans (hb3.mono AL.out.size)
  have CM3 := CM w3 B3.out
  clear hb3 CA CM
  go_wp2_with fail
  refine CM3.mono ?_
  rintro e w4 ⟨rfl, hb4⟩
  have B4 : Hid (Below w.heap.size w w4) := B3.out.trans (hb4.mono B3.out.size)
  have CI4 := CI w4 B4.out
  clear hb4 CM3 CI
  go_wp2_with fail
  refine CI4.mono ?_
  rintro e w5 ⟨a5, n5, c5, rfl, k1, k2, hb5, _⟩
  have B5 : Hid (Below w.heap.size w w5) := B4.out.trans (hb5.mono B4.out.size)
  have CO := l07OwnS a5 n5 c5 R w5 k1 (by omega) k2
  have HN5 : Hid (R.length = n5) := k1
  clear hb5 CI4 k1 k2
  go_wp2_with fail
  refine CO.mono ?_
  rintro e w6 ⟨v6, rfl, ho6, hb6⟩
  obtain ⟨a6, c6, rfl, _, _⟩ := own_src ho6
  have HF : Hid (w6.ownsRow w.heap.size 68 2 (.slice a6 n5 c6) R.length (cellsP R) ∧ Below w.heap.size w w6) := ⟨by rw [HN5.out]; exact own_mono ho6 B5.out.size, B5.out.trans (hb6.mono B5.out.size)⟩
  clear ho6 hb6 CO
  go_wp2_with fail
  exact bodyPost_ret (v := .tuple #[.slice a6 n5 c6, .int .i64 Q]) (by simp [results, Tryz.results20, go_sem]) rfl ⟨_, rfl, HF.out⟩
set_option maxHeartbeats 4000000 in
theorem implRestoreFolder (a : Option Addr) (n c : Nat) (N : List PM) (a2 : Option Addr) (n2 c2 : Nat) (L : List PM) (x y : ByteArray) (w : World) (hN : N.length = n) (hn : n ≤ 1048576) (hs : ∀ x ∈ N, x.1.size ≤ 1048576 ∧ x.2.size ≤ 1048576) (h : Src w a (cellsP N)) (hL : L.length = n2) (hn2 : n2 ≤ 1048576) (hs2 : ∀ x ∈ L, x.1.size ≤ 1048576 ∧ x.2.size ≤ 1048576) (h2 : Src w a2 (cellsP L)) (hx : x.size ≤ 1048576) (hy : y.size ≤ 1048576) (hG : Gl w) (h8 : 8 ≤ w.heap.size) (R : List PM) (Q : Int) (HQ : Hid (lawM2 (rsR N L x y) (raskM N L [x, y]) = (R, Q))) :
    Calls Tryz.prog 19 #[.slice a n c, .slice a2 n2 c2, .string x, .string y] w fun e w' => ∃ v, e = .returned (.tuple #[v, .int .i64 Q]) ∧ w'.ownsRow w.heap.size 68 2 v R.length (cellsP R) ∧ Below w.heap.size w w' := by
  have HLN : Hid (N.length = n) := hN
  have HS : Hid (Src w a (cellsP N)) := h
  have HLL : Hid (L.length = n2) := hL
  have HS2 : Hid (Src w a2 (cellsP L)) := h2
  have HG : Hid (Gl w) := hG
  have AL : Hid (Below w.heap.size w (w.alloc (.cells #[.string x, .string y] 9))) := (Below.refl _ _).alloc (Nat.le_refl _) _
  obtain ⟨q, hq⟩ : ∃ q, raskM N L [x, y] = q := ⟨_, rfl⟩
  have HQQ : Hid (raskM N L [x, y] = q) := hq
  have HQ1 : Hid (lawM2 (rsR N L x y) q = (R, Q)) := by show _ = _; rw [← hq]; exact HQ.out
  have CA := restoreFaultI a n c N a2 n2 c2 L (some ⟨w.heap.size, 0, none⟩) 2 2 [x, y] (w.alloc (.cells #[.string x, .string y] 9)) hN hn hs (HS.out.below AL.out) hL hn2 hs2 (HS2.out.below AL.out) rfl (by omega) (fun s hs => by
    rcases List.mem_cons.1 hs with rfl | hs
    · exact hx
    · rw [List.mem_singleton.1 hs]; exact hy) (src_2S rfl) (hG.below h8 AL.out) (by have := AL.out.size; omega) q hq
  clear hN h hs hL h2 hs2 hq HQ hG
  by_cases hq0 : q = 0
  · subst hq0
    obtain ⟨hask, hst2⟩ := rask_zero HQQ.out
    obtain ⟨hst, hsx, hsy⟩ := ask_zero2 hask
    have hus := word_slash hsx
    have hfs := word_slash hsy
    have hu8 := short_size hsx
    have hy8 := short_size hsy
    obtain ⟨hgl, nx0, hnm, n1, n2', _⟩ := store_facts hst
    have hn60 := hgl.1
    rw [HLN.out] at hn60
    have hm60 := (store_facts hst2).1.1
    rw [HLL.out] at hm60
    have HQ2 : Hid (rsR N L x y = (R, Q)) := by have h9 := HQ1.out; unfold lawM2 at h9; rw [if_pos rfl] at h9; exact h9
    have CD := fun W (hW : Below w.heap.size w W) => deskWithI a n c N x W HLN.out (HS.out.below hW) (HG.out.below h8 hW) (by have := hW.size; omega) hst hus (by omega)
    have CD2 := fun W (hW : Below w.heap.size w W) => deskWithI a2 n2 c2 L x W HLL.out (HS2.out.below hW) (HG.out.below h8 hW) (by have := hW.size; omega) hst2 hus (by omega)
    rw [hnm] at n1 n2'
    have HFI : Hid (∀ S T, takeAll (nextM N) x S0 N = some S → takeAll (nextM L) x S0 L = some T → (S.word.toList ≠ [] → Lies N (nextM N) x S) ∧ (∀ g, lookF y T.fs = some g → (g.mails.map (mailP x y)).Pairwise (fun a b => a.1 ≠ b.1)) ∧ (∀ f ∈ S.fs, FitF f) ∧ (∀ f ∈ T.fs, FitF f) ∧ ∀ S' q nx', rfM (nextM N) x S y T = (q, nx', S') → OpFits N x q nx' S' (rsR N L x y)) := fun S T k1 k2 => ⟨fun hw => lies_of hst hus k1 hw, fun g hg => mails_apart (tf := y) hst2 k2 hg, store_fit hst k1, store_fit hst2 k2, fun S' q nx' k3 => rf_fits hst hst2 hsx hsy k1 k2 k3⟩
    have HUS : Hid ((47 : UInt8) ∉ x.data.toList ∧ (47 : UInt8) ∉ y.data.toList) := ⟨hus, hfs⟩
    obtain ⟨nx, hnx⟩ : ∃ t, nextM N = t := ⟨_, rfl⟩
    obtain ⟨ny, hny⟩ : ∃ t, nextM L = t := ⟨_, rfl⟩
    simp only [hnx] at CD n1 n2'
    simp only [hny] at CD2
    rw [hnx, hny] at HFI
    clear hst hst2 hsx hsy HQ1 hgl hnm hnx hny hus hfs hask
    go_enter Tryz.func19, Tryz.ntmps19
    go_wp2_with fail
    refine CA.mono ?_
    rintro e w3 ⟨rfl, hb3⟩
    have B3 : Hid (Below w.heap.size w w3) := AL.out.trans (hb3.mono AL.out.size)
    clear hb3 CA
    go_wp2_with fail
    refine (CD _ B3.out).mono ?_
    rintro e w4 ⟨M, S, rfl, hS, hSt, hM, hb4⟩
    have B4 : Hid (Below w.heap.size w w4) := B3.out.trans (hb4.mono B3.out.size)
    have hM2 : w.heap.size ≤ M := by have h9 := B3.out.size; omega
    have HS4 : Hid (takeAll nx x S0 N = some S ∧ StAt w4 M a n c nx x S n) := ⟨hS, hSt⟩
    clear hb4 hS hSt CD hM
    go_wp2_with fail
    refine (CD2 _ B4.out).mono ?_
    rintro e w5 ⟨O, T, rfl, hT, hTt, hO, hb5⟩
    have B5 : Hid (Below w.heap.size w w5) := B4.out.trans (hb5.mono B4.out.size)
    obtain ⟨va, X, hD, hV, hN, hf, hk⟩ := HS4.out.2
    obtain ⟨vb, Z, hE, hW, hNt, hft, hkt⟩ := hTt
    obtain ⟨k1, k2, k3, k4, k5⟩ := HFI.out S T HS4.out.1 hT
    have hM4 : M + 1 < w4.heap.size := World.block_lt_of_cell? _ _ (hD.1 0 _ rfl).1
    obtain ⟨q1, nx1, S1, hop⟩ : ∃ q1 nx1 S1, rfM nx x S y T = (q1, nx1, S1) := ⟨_, _, _, rfl⟩
    have HOF : Hid (OpFits N x q1 nx1 S1 (rsR N L x y)) := k5 S1 q1 nx1 hop
    have COP := restoreFolderI w5 M a n c nx x S 60 va X (hD.later hb5) hV hN (fun f hf9 => by have := hf f hf9; omega) (by omega) (by omega) O a2 n2 c2 ny T vb Z hE hW (fun f hf9 => by have := hft f hf9; omega) (by omega) (fun z hz y9 hy9 => Nat.lt_of_lt_of_le (own_lt (hD.2.2.2.1 z hz) hy9) hO) y (by omega) N k1 (by rw [HLN.out]; exact hn60) HUS.out.1 (by omega) HUS.out.2 k2 k3 k4 (by omega) n2' (HG.out.below h8 B5.out) (by omega) q1 nx1 S1 hop
    clear hb5 hT CD2 hO hop HFI hD hV hN hf hk hE hW hNt hft hkt k1 k2 k3 k4 k5 HS4
    go_wp2_with fail
    refine COP.mono ?_
    rintro e w6 ⟨rfl, hst6, hb6⟩
    have B6 : Hid (Below w.heap.size w w6) := B5.out.trans (hb6.mono hM2)
    have HST6 : Hid (StAt w6 M a n c nx1 x S1 60) := hst6
    clear COP hb6 hst6
    by_cases hq1 : q1 = 0
    · subst hq1
      obtain ⟨k1, k2, k3, Y, k4, k5, k6, k7⟩ := HOF.out.2 rfl
      rw [HQ2.out] at k7
      have CE := doneOk w6 M a n c nx1 x S1 60 HST6.out (by omega) k1 k2 k3 (by omega) (HG.out.below h8 B6.out) (by omega) Y k4 k5 _ rfl k6 N HLN.out hn60 (HS.out.below B6.out) R Q (by show _ = _; rw [k7]; rfl)
      clear k1 k2 k3 k4 k5 k6 k7 HOF
      go_wp2_with fail
      refine CE.mono ?_
      rintro e w7 ⟨v7, rfl, ho7, hb7⟩
      obtain ⟨a7, c7, rfl, _, _⟩ := own_src ho7
      have HF : Hid (w7.ownsRow w.heap.size 68 2 (.slice a7 R.length c7) R.length (cellsP R) ∧ Below w.heap.size w w7) := ⟨own_mono ho7 B6.out.size, B6.out.trans (hb7.mono B6.out.size)⟩
      clear CE ho7 hb7
      go_wp2_with fail
      exact bodyPost_ret (v := .tuple #[.slice a7 R.length c7, .int .i64 Q]) (by simp [results, Tryz.results19, go_sem]) rfl ⟨_, rfl, HF.out⟩
    · have k7 := HOF.out.1 hq1
      rw [HQ2.out] at k7
      obtain ⟨hk1, hk2⟩ : R = N ∧ Q = q1 := by cases k7; exact ⟨rfl, rfl⟩
      have e0c : w6.cell? ⟨M + 1, 0, none⟩ = some (.slice a n c) := by
        obtain ⟨_, _, hD, _⟩ := HST6.out
        exact (hD.1 0 _ rfl).1
      have CE := doneBad q1 hq1 w6 M a n c N HLN.out hn60 e0c (HS.out.below B6.out)
      have HK : Hid (R = N ∧ q1 = Q) := ⟨hk1, hk2.symm⟩
      clear k7 HOF hk1 hk2 e0c
      go_wp2_with fail
      refine CE.mono ?_
      rintro e w7 ⟨v7, rfl, ho7, hb7⟩
      obtain ⟨a7, c7, rfl, _, _⟩ := own_src ho7
      have HF : Hid (w7.ownsRow w.heap.size 68 2 (.slice a7 n c7) R.length (cellsP R) ∧ Below w.heap.size w w7) := ⟨by rw [HK.out.1, HLN.out]; exact own_mono ho7 B6.out.size, B6.out.trans (hb7.mono B6.out.size)⟩
      have HK2 : Hid (q1 = Q) := HK.out.2
      clear CE ho7 hb7
      go_wp2_with fail
      exact bodyPost_ret (v := .tuple #[.slice a7 n c7, .int .i64 q1]) (by simp [results, Tryz.results19, go_sem]) rfl ⟨_, by rw [HK2.out], HF.out⟩
  · obtain ⟨rfl, rfl⟩ : [] = R ∧ q = Q := by
      have h9 := HQ1.out
      unfold lawM2 at h9
      rw [if_neg hq0] at h9
      cases h9
      exact ⟨rfl, rfl⟩
    have hqi : (q != 0) = true := by simpa using hq0
    go_enter Tryz.func19, Tryz.ntmps19
    go_wp2_with fail
    refine CA.mono ?_
    rintro e w3 ⟨rfl, hb3⟩
    have B3 : Hid (Below w.heap.size w w3) := AL.out.trans (hb3.mono AL.out.size)
    clear hb3 CA
    go_wp2_with fail
    exact bodyPost_ret (v := .tuple #[.slice none 0 0, .int .i64 q]) (by simp [results, Tryz.results19, go_sem]) rfl ⟨_, rfl, World.ownsRow_nil _ _ _ _, B3.out⟩
theorem fs_len {L : List PM} {u : ByteArray} (hst : storeB L = true) (hus : (47 : UInt8) ∉ u.data.toList) {S : SM} (hI : Inv (nextM L) u L S) (hn : (S.fs.map (·.name)).Nodup) : S.fs.length ≤ 60 := by
  have hg := (store_facts hst).1
  have hup := listS_up (u := u) hg.2.2
  have hnd : (listS L u).Nodup := hup.imp fun {a b} h e => by rw [e] at h; exact ltK_irrefl _ h
  have hp := ((List.perm_ext_iff_of_nodup hn hnd).2 (folders_mem hst hus hI)).length_eq
  rw [List.length_map] at hp
  have h1 : (listS L u).length ≤ L.length := by unfold listS; rw [List.length_map]; exact List.length_filter_le _ _
  have h2 := hg.1
  omega
set_option maxHeartbeats 2000000 in
theorem implListFolders (a : Option Addr) (n c : Nat) (L : List PM) (u : ByteArray) (w : World) (hL : L.length = n) (hn : n ≤ 1048576) (hs : ∀ x ∈ L, x.1.size ≤ 1048576 ∧ x.2.size ≤ 1048576) (h : Src w a (cellsP L)) (hu : u.size ≤ 1048576) (hG : Gl w) (h8 : 8 ≤ w.heap.size) (T : List ByteArray) (Q : Int) (HQ : Hid (flM L u = (T, Q))) :
    Calls Tryz.prog 23 #[.slice a n c, .string u] w fun e w' => ∃ v, e = .returned (.tuple #[v, .int .i64 Q]) ∧ w'.ownsRow w.heap.size 9 1 v T.length (cellsS T) ∧ Below w.heap.size w w' := by
  have HLN : Hid (L.length = n) := hL
  have HS : Hid (Src w a (cellsP L)) := h
  have HG : Hid (Gl w) := hG
  have AL : Hid (Below w.heap.size w (w.alloc (.cells #[.string u] 9))) := (Below.refl _ _).alloc (Nat.le_refl _) _
  obtain ⟨q, hq⟩ : ∃ q, askM L [u] = q := ⟨_, rfl⟩
  have HQQ : Hid (askM L [u] = q) := hq
  have HQ1 : Hid ((if q = 0 then listG L u (getM L (userK u)).isSome else ([], q)) = (T, Q)) := by show _ = _; rw [← HQ.out]; unfold flM; rw [hq]
  have CA := mailFaultI a n c L (some ⟨w.heap.size, 0, none⟩) 1 1 [u] (w.alloc (.cells #[.string u] 9)) hL hn hs (HS.out.below AL.out) rfl (by omega) (fun s hs => by rw [List.mem_singleton.1 hs]; exact hu) (src_1S rfl) (hG.below h8 AL.out) (by have := AL.out.size; omega) q hq
  clear hL h hs hq HQ hG
  by_cases hq0 : q = 0
  · subst hq0
    obtain ⟨hst, hsh⟩ := ask_zero HQQ.out
    have hus := word_slash hsh
    have hu8 := short_size hsh
    have HQ2 : Hid (listG L u (getM L (userK u)).isSome = (T, Q)) := by have h9 := HQ1.out; rw [if_pos rfl] at h9; exact h9
    have HW : Hid (∀ S, takeAll (nextM L) u S0 L = some S → (S.fs.map (·.name)).Nodup → (∀ R : List ByteArray, R.Perm (S.fs.map (·.name)) → ((R.map (·.data.toList)).mergeSort fun x y => decide (x ≤ y)) = T.map (·.data.toList)) ∧ lackM S.word S.fs [] = Q ∧ S.fs.length ≤ 60) := fun S hS hnd => by
      obtain ⟨S', k1, k2, k3⟩ := take_all hst hus
      rw [hS] at k1
      cases k1
      have h9 := HQ2.out
      have hfl := fs_len hst hus k3 hnd
      unfold lackM
      rw [k2]
      cases hv : getM L (userK u) with
      | none =>
        rw [hv] at h9
        cases h9
        have h0 : (e0 : ByteArray).toList = [] := by rw [ByteArray.toList_eq]
        refine ⟨fun R hR => ?_, if_pos h0, hfl⟩
        rw [sort_eq hst hus k3 hnd hR, none_left hst hus hv]
      | some v =>
        rw [hv] at h9
        cases h9
        exact ⟨fun R hR => sort_eq hst hus k3 hnd hR, if_neg (word_some hst hus hv), hfl⟩
    have CD := fun W (hW : Below w.heap.size w W) => deskWithI a n c L u W HLN.out (HS.out.below hW) (HG.out.below h8 hW) (by have := hW.size; omega) hst hus (by omega)
    clear hst hsh HQ1
    go_enter Tryz.func23, Tryz.ntmps23
    go_wp2_with fail
    refine CA.mono ?_
    rintro e w3 ⟨rfl, hb3⟩
    have B3 : Hid (Below w.heap.size w w3) := AL.out.trans (hb3.mono AL.out.size)
    clear hb3 CA
    go_wp2_with fail
    refine (CD _ B3.out).mono ?_
    rintro e w4 ⟨M, S, rfl, hS, hSt, hM, hb4⟩
    have B4 : Hid (Below w.heap.size w w4) := B3.out.trans (hb4.mono B3.out.size)
    obtain ⟨k1, k2, k60⟩ := HW.out S hS (by obtain ⟨_, _, _, _, h9, _⟩ := hSt; exact h9)
    have CL := fun W (hW : Below w4.heap.size w4 W) => lacksI W M a n c _ u S n (hSt.later hW) (by omega) none 0 0 [] rfl (by omega) (fun s hs => by cases hs) (.inl rfl) Q k2
    obtain ⟨va, X, hD, hV, hSr⟩ := hSt
    have CN := namesI w4 M _ hD (by have h9 := congrArg List.length hV; rw [List.length_map, List.length_map] at h9; show X.length ≤ 60; omega)
    rw [leftN_view hV] at CN
    have HK : Hid (∀ R : List ByteArray, R.Perm (S.fs.map (·.name)) → ((R.map (·.data.toList)).mergeSort fun x y => decide (x ≤ y)) = T.map (·.data.toList)) := k1
    clear hb4 hS hD hV hSr k1 k2 k60 CD hM
    go_wp2_with fail
    refine CN.mono ?_
    rintro e w5 ⟨v5, rfl, ⟨R, hR, hown5⟩, hb5⟩
    have HO5 : Hid (w5.ownsRow w.heap.size 9 1 v5 T.length (cellsS T)) := by
      have h9 := HK.out R hR
      rw [h9] at hown5
      have h7 : R.length = T.length := by
        have h5 := congrArg List.length h9
        rw [List.length_mergeSort, List.length_map, List.length_map] at h5
        exact h5
      have h6 : (T.map (·.data.toList)).map encStr = cellsS T := by
        unfold cellsS
        rw [List.map_map]
        exact List.map_congr_left fun x _ => rfl
      rw [h7, h6] at hown5
      exact own_mono hown5 B4.out.size
    have B5 : Hid (Below w.heap.size w w5) := B4.out.trans (hb5.mono B4.out.size)
    have CL5 := CL w5 hb5
    clear hb5 hown5 hR CN CL
    go_wp2_with fail
    refine CL5.mono ?_
    rintro e w6 ⟨rfl, hb6⟩
    have HO6 : Hid (w6.ownsRow w.heap.size 9 1 v5 T.length (cellsS T)) := own_below HO5.out hb6
    have B6 : Hid (Below w.heap.size w w6) := B5.out.trans (hb6.mono B5.out.size)
    clear hb6 CL5
    go_wp2_with fail
    exact bodyPost_ret (v := .tuple #[v5, .int .i64 Q]) (by simp [results, Tryz.results23, go_sem]) rfl ⟨_, rfl, HO6.out, B6.out⟩
  · obtain ⟨rfl, rfl⟩ : ([] : List ByteArray) = T ∧ q = Q := by
      have h9 := HQ1.out
      rw [if_neg hq0] at h9
      cases h9
      exact ⟨rfl, rfl⟩
    have hqi : (q != 0) = true := by simpa using hq0
    go_enter Tryz.func23, Tryz.ntmps23
    go_wp2_with fail
    refine CA.mono ?_
    rintro e w3 ⟨rfl, hb3⟩
    have B3 : Hid (Below w.heap.size w w3) := AL.out.trans (hb3.mono AL.out.size)
    clear hb3 CA
    go_wp2_with fail
    exact bodyPost_ret (v := .tuple #[.slice none 0 0, .int .i64 q]) (by simp [results, Tryz.results23, go_sem]) rfl ⟨_, rfl, World.ownsRow_nil _ _ _ _, B3.out⟩
end Go.Proofs.YthgbclipknfmjaaGreatDoor
namespace Go.Proofs.YthgbclipknfmjaaGreatDoor
open Go.ChangeShapes Go.WideShapes Go.ChangeAt Go.RowKit Go.Deep
set_option linter.unusedVariables false
theorem src_of_row {W : World} {x : Addr} {zs : List Value} {n : Nat} (hn : n ≤ zs.length) (hc : ∀ i, i < zs.length → W.cell? (x.add i) = some (zs.getD i undef)) : Src W (some x) (zs.take n) := by
  by_cases h0 : n = 0
  · subst h0; exact .inl (by simp)
  obtain ⟨b, o, spot⟩ := x
  have h1 := hc 0 (by omega)
  have hspot : spot = none := by simpa [Addr.add] using World.cell?_spot h1
  subst hspot
  refine .inr ⟨b, o, rfl, fun j hj => ?_⟩
  have hj2 : j < n := by simp at hj; omega
  have h2 := hc j (by omega)
  have e1 : (zs.take n).getD j undef = zs.getD j undef := by
    rw [List.getD_eq_getElem?_getD, List.getElem?_take, if_pos hj2, ← List.getD_eq_getElem?_getD]
  rw [e1, ← h2]
  congr 1
  unfold Addr.add
  split
  · rename_i h0; subst h0; rfl
  · rfl
section
variable {H : Type} {enc : TypeId × Value → H} {W : World} {v : Value} {fuel : Nat} {x : DataW H × List MemPlace}
theorem bytes_arg (h : DataW.trod enc Tryz.prog W 0 (fun _ => true) true fuel 22 [v] = some x) :
    ∃ (L : List Nat) (a : Option Addr) (c : Nat), v = .slice a L.length c ∧ Src W a (cellsB L) ∧ L.length ≤ maxLen ∧ ∀ s ∈ L, s < 256 := by
  rcases open_ints Tryz.underlying22 Tryz.underlying5 (by kernel_rfl) h with ⟨hcs, _⟩ | ⟨ad, len, cap, zs, hcs, _, hl, hm, hz, _, hcell, hwz⟩
  · simp only [List.cons.injEq, and_true] at hcs
    exact ⟨[], none, 0, hcs, .inl rfl, by simp, fun s hs => by cases hs⟩
  · simp only [List.cons.injEq, and_true] at hcs
    rw [if_pos rfl] at hz
    have hbd : ∀ n ∈ zs, 0 ≤ n ∧ n < 256 := fun n hn => by have := bounds_u8 (hwz n hn); omega
    let f : Int → Nat := fun z => z.toNat
    have hcb : cellsB (zs.map f) = zs.map (Value.int .u8) := by
      unfold cellsB
      rw [List.map_map]
      refine List.map_congr_left fun n hn => ?_
      show Value.int .u8 ((n.toNat : Nat) : Int) = _
      rw [Int.toNat_of_nonneg (hbd n hn).1]
    have hlen : ((zs.map f).take len).length = len := by simp; omega
    refine ⟨(zs.map f).take len, some ad, cap, by rw [hlen]; exact hcs, ?_, by rw [hlen]; omega, fun s hs => ?_⟩
    · have := src_of_row (W := W) (x := ad) (zs := cellsB (zs.map f)) (n := len) (by rw [cellsB_length]; simp; omega) (fun i hi => by
        rw [cellsB_length, List.length_map] at hi
        rw [hcell i hi, hcb, getD_some (u := Value.int .u8 (zs.getD i 0))]
        simp [hi])
      rw [show cellsB ((zs.map f).take len) = (cellsB (zs.map f)).take len from by simp [cellsB, List.map_take]]
      exact this
    · have h1 := List.mem_of_mem_take hs
      rw [List.mem_map] at h1
      obtain ⟨n, hn, rfl⟩ := h1
      have := hbd n hn
      show n.toNat < 256
      omega
end
set_option maxRecDepth 100000
section
variable {H : Type} {enc : TypeId × Value → H} {W : World} {v : Value} {d : DataW H} {p : List MemPlace} {base : Nat}
theorem bytes_in (hv : Value.okWide Tryz.prog W .any base 22 v) (h : DataW.Trod enc Tryz.prog W 0 (fun _ => true) true 22 v d p) :
    ∃ (A : Option Addr) (C : Nat) (L : List Nat), v = .slice A L.length C ∧ Src W A (cellsB L) ∧ L.length ≤ maxLen ∧ ∀ s ∈ L, s < 256 := by
  obtain ⟨a, len, cap, rfl⟩ := okWide_slice Tryz.underlying22 hv
  obtain ⟨fuel, hf⟩ := h
  obtain ⟨L, b, c, e, sl, ml⟩ := bytes_arg (show DataW.trod _ _ _ _ _ _ _ _ [.slice a len cap] = _ by simpa [Value.cells] using hf)
  exact ⟨b, c, L, e, sl, ml⟩
end
end Go.Proofs.YthgbclipknfmjaaGreatDoor
namespace Go.Proofs.YthgbclipknfmjaaGreatDoor
open Go.RowKit
set_option linter.unusedVariables false

theorem lift_shaped {H : Type} {enc : TypeId × Value → H} {a : Assume} {C : Checked} {os : Os} {f : FuncId} {fn : Func} {s : ChangeSpec} {X : World → Array Value → Prop}
    (hX : ∀ (w w' : World) (args : Array Value), w.heap = w'.heap → X w args → X w' args)
    (own : ownKnob C.prog.godebug = none) (started : os.Started) (noInit : C.prog.inits.idxOf? f = none) (hfn : C.prog.funcs[f]? = some fn)
    (wit : ∃ (w : World) (tape : Tape) (i : Input), w.os = os ∧ (w.forCall tape i).Shaped C.prog ∧ i.vars = [] ∧ Input.okWide C.prog (w.forCall tape i) .any w.heap.size f i ∧
      ((s.pre enc C.prog fn [] false (w.forCall tape i).memory i.args ∧ X (w.forCall tape i).memory i.args) ∧ sizedMet enc C.prog fn (OpenSpec.ofChange s) false (w.forCall tape i).memory i.args) ∧ a.holds C.prog (lone (Frame.enter C.prog f i.args .normal) [] (w.forCall tape i)))
    (con : ∀ (W : World) (base : Nat) (args : Array Value) (ds gs : List (DataW H)) (before : List MemPlace),
      (∀ (j : Nat) t v, fn.params[j]? = some t → args[j]? = some v → Value.okWide C.prog W .any base t v) →
      DataW.Whole enc C.prog fn.params.toList s.vars false W args.toList ds gs before → W.ShapedOpen C.prog → X W args →
      Calls C.prog f args W fun e W' => ∃ v, e = .returned v ∧ s.post enc C.prog fn false true false false W args v W') :
    ReturnsInHanded a C os f .any (fun w args => (s.pre enc C.prog fn [] false w args ∧ X w args) ∧ sizedMet enc C.prog fn (OpenSpec.ofChange s) false w args) (s.post enc C.prog fn false true false false) := by
  refine returnsInHanded_of_calls own started noInit wit ?_
  intro w tape i _ shape _ good hpre _
  obtain ⟨_, _, _, g, hg, _, _, _, _, vals⟩ := good
  obtain rfl : g = fn := Option.some.inj (hg.symm.trans hfn)
  obtain ⟨⟨⟨ds, gs, before, whole, _⟩, hXw⟩, _⟩ := hpre
  exact (con (w.forCall tape i) w.heap.size i.args ds gs before vals (DataW.Whole.of_heap (w' := w.forCall tape i) (by rfl) whole) shape (hX _ (w.forCall tape i) _ (by rfl) hXw)).mono fun e W' ⟨v, he, hp⟩ => by
    subst he
    exact ChangeSpec.post_blind hp
theorem tab_cells {W : World} {n : String} {cs : Array Value} {g : Nat} (hg : Tryz.prog.globalNamed n = some g) (h : W.var? Tryz.prog n = some cs) : g < W.heap.size := by
  simp only [World.var?, hg, Option.bind_some] at h
  cases hh : W.heap[g]? with
  | none => rw [hh] at h; cases h
  | some o => exact (Array.getElem?_eq_some_iff.1 hh).1
theorem err_cell {W : World} {n : String} {g : Nat} {t : TypeId} {ms : Array (String × TypeId)} {cs : Array Value} {fuel : Nat} {name : String} {d : DataW Unit} {p : List MemPlace} (hg : Tryz.prog.globalNamed n = some g) (ht : Tryz.prog.underlying t = some (.interface ms)) (hv : W.var? Tryz.prog n = some cs) (hd : DataW.trod (fun _ => ()) Tryz.prog W 0 (fun _ => true) false fuel t cs.toList = some (.iface name d, p)) :
    ∃ ev, W.cell? ⟨g, 0, none⟩ = some ev ∧ (ev = .nilIface ∨ ∃ te pe, ev = .iface te pe) := by
  obtain ⟨f1, u, v, h1, _, _⟩ := iface_of_trod ht hd
  refine ⟨.iface u v, ?_, .inr ⟨u, v, rfl⟩⟩
  rw [World.var?_cell hg hv 0, ← Array.getElem?_toList, h1]
  rfl
theorem gl_of {W : World} (hS : W.ShapedOpen Tryz.prog) (h : laidMetH Tryz.prog Rows.fnExactValidityRisesRow.laid W) : Gl W ∧ 8 ≤ W.heap.size := by
  rw [MakeChecks.laidMetH_plain _ _ _ (by kernel_rfl)] at h
  obtain ⟨ps, h0, _⟩ := h
  obtain ⟨g0, t0, cs0, f0, p0, q0, hg0, ht0, hv0, hd0, h1, _⟩ := h0
  obtain ⟨g1, t1, cs1, f1, p1, q1, hg1, ht1, hv1, hd1, h2, _⟩ := h1
  obtain ⟨g2, t2, cs2, f2, p2, q2, hg2, ht2, hv2, hd2, h3, _⟩ := h2
  obtain ⟨g3, t3, cs3, f3, p3, q3, hg3, ht3, hv3, hd3, h4, _⟩ := h3
  obtain ⟨g4, t4, cs4, f4, p4, q4, hg4, ht4, hv4, hd4, h5, _⟩ := h4
  obtain ⟨g5, t5, cs5, f5, p5, q5, hg5, ht5, hv5, hd5, h6, _⟩ := h5
  have e1 : Tryz.prog.globalNamed "unicode/utf8.acceptRanges" = some 7 := by kernel_rfl
  have e2 : Tryz.prog.globalNamed "internal/strconv.uint64pow10" = some 1 := by kernel_rfl
  have e4 : Tryz.prog.globalNamed "strconv.ErrRange" = some 3 := by kernel_rfl
  have e5 : Tryz.prog.globalNamed "strconv.ErrSyntax" = some 2 := by kernel_rfl
  obtain rfl := Option.some.inj (e2.symm.trans hg2)
  obtain rfl := Option.some.inj (e4.symm.trans hg4)
  obtain rfl := Option.some.inj (e5.symm.trans hg5)
  have k2 : (Tryz.prog.globals[1]?).map (·.type) = some t2 := ht2
  have k4 : (Tryz.prog.globals[3]?).map (·.type) = some t4 := ht4
  have k5 : (Tryz.prog.globals[2]?).map (·.type) = some t5 := ht5
  refine ⟨⟨?_, ?_, Tryz.laysM146.s1_3 W hS, ?_⟩, ?_⟩
  · obtain rfl := Option.some.inj ((show (Tryz.prog.globals[2]?).map (·.type) = some 173 by kernel_rfl).symm.trans k5)
    exact err_cell e5 Tryz.underlying173 hv5 hd5
  · obtain rfl := Option.some.inj ((show (Tryz.prog.globals[3]?).map (·.type) = some 173 by kernel_rfl).symm.trans k4)
    exact err_cell e4 Tryz.underlying173 hv4 hd4
  · obtain rfl := Option.some.inj ((show (Tryz.prog.globals[1]?).map (·.type) = some 197 by kernel_rfl).symm.trans k2)
    unfold Lib.TabIs
    have e : (Rows.laid_internal_strconv_uint64pow10 : DataW Unit) = Lib.tabData .u64 Lib.pow10Tab := by rfl
    have hd2' : DataW.trod (fun _ => ()) Tryz.prog W 0 (fun _ => true) false f2 197 cs2.toList = some (Lib.tabData .u64 Lib.pow10Tab, p2) := by rw [← e]; exact hd2
    rw [hv2, ← Lib.cells_of_tab Tryz.underlying197 Tryz.underlying171 (by kernel_rfl) (by kernel_rfl) hd2']
  · exact tab_cells e1 hv3
end Go.Proofs.YthgbclipknfmjaaGreatDoor
namespace Go.Proofs.YthgbclipknfmjaaGreatDoor
theorem gl_row {W : World} {l : List (String × DataW Unit)} (e : l = Rows.fnExactValidityRisesRow.laid) (hS : W.ShapedOpen Tryz.prog) (h : laidMetH Tryz.prog l W) : Gl W ∧ 8 ≤ W.heap.size := gl_of hS (by rw [← e]; exact h)
end Go.Proofs.YthgbclipknfmjaaGreatDoor
