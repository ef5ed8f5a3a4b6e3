/-
  Upi Dne in one. By an AI agent.
-/
import Derived.Test.YtddnecljdecamaaGreatDoorQ16
import Derived.Test.YtddnecljdecamaaGreatDoorQ20
import Derived.Test.YtddnecljdecamaaGreatDoorQ19
namespace Go.Proofs.YtddnecljdecamaaGreatDoor
open Go.ChangeShapes Go.WideShapes Go.ChangeAt Go.RowKit Go.Deep Go.Lib
set_option linter.unusedVariables false
set_option linter.unusedSimpArgs false
set_option maxRecDepth 100000

theorem src_1S {w : World} {s : ByteArray} {B ty : Nat} (hB : B = w.heap.size) : Src (w.alloc (.cells #[.string s] ty)) (some ⟨B, 0, none⟩) (cellsS [s]) := by
  have hb : Box (w.alloc (.cells #[.string s] ty)) B [.string s] := Box.new hB
  refine .inr ⟨B, 0, rfl, fun j hj => ?_⟩
  have hj4 : j < 1 := hj
  rw [Nat.zero_add]
  match j, hj4 with
  | 0, _ => exact (hb 0 _ rfl).1
def lackM (wd : ByteArray) (fs : List FM) (Ns : List ByteArray) : Int := if wd.toList = [] then 15 else if Ns.all (fun s => (lookF s fs).isSome) = false then 16 else 0
set_option maxHeartbeats 2000000 in
theorem lacksI (w : World) (M : Nat) (a : Option Addr) (n c : Nat) (nx : Int) (u : ByteArray) (S : SM) (k0 : Nat) (hS : StAt w M a n c nx u S k0) (hu : u.size ≤ 1000) (b : Option Addr) (m d : Nat) (Ns : List ByteArray) (hN : Ns.length = m) (hm : m ≤ 100) (hz : ∀ s ∈ Ns, s.size ≤ 1048576) (h2 : Src w b (cellsS Ns)) (Q : Int) (HQ : Hid (lackM S.word S.fs Ns = Q)) :
    Calls Tryz.prog 44 #[.pointer (some ⟨M + 1, 0, none⟩), .slice b m d] w fun e w' => e = .returned (.int .i64 Q) ∧ Below w.heap.size w w' := by
  obtain ⟨va, X, hD, hV, _⟩ := hS
  obtain ⟨e4a, _⟩ := hD.1 4 _ rfl
  obtain ⟨wd, hwd⟩ : ∃ t, S.word = t := ⟨_, rfl⟩
  have e4 : w.cell? ⟨M + 1, 4, none⟩ = some (.string wd) := by rw [← hwd]; exact e4a
  rw [hwd] at HQ
  clear e4a
  by_cases hw : wd.toList = []
  · have HZ : Hid (15 = Q) := by show _ = _; rw [← HQ.out]; unfold lackM; rw [if_pos hw]
    clear hD hV h2 hz
    go_enter Tryz.func44, Tryz.ntmps44
    go_wp2_with fail
    go_ret
    exact ⟨ret_int HZ.out, Below.refl _ _⟩
  have hwb : (wd.toList == []) = false := beq_eq_false_iff_ne.2 hw
  obtain ⟨nb, hnb⟩ : ∃ x, Ns.all (fun s => (lookF s S.fs).isSome) = x := ⟨_, rfl⟩
  have HQ1 : Hid ((if nb = false then 16 else 0) = Q) := by show _ = _; rw [← HQ.out]; unfold lackM; rw [if_neg hw, hnb]
  have HNB : Hid ((Ns.drop 0).all (fun s => (lookF s S.fs).isSome) = nb) := hnb
  have HD : Hid (DeskAt w M ⟨a, n, c, va, S.aside, nx, u, S.word, X⟩) := hD
  have HV : Hid (View u X S.fs) := hV
  have HN : Hid (Ns.length = m) := hN
  have HT : Hid (Src w b (cellsS Ns)) := h2
  have HY : Hid (∀ s ∈ Ns, s.size ≤ 1048576) := hz
  clear hnb hD hV hN h2 hz HQ hwd
  go_enter Tryz.func44, Tryz.ntmps44
  go_wp2_with fail
  go_loopw [14] (fun iv wr => ∃ j : Nat, j ≤ m ∧ iv = .int .i64 (j : Int) ∧ Hid ((Ns.drop j).all (fun s => (lookF s S.fs).isSome) = nb) ∧ Hid (Below w.heap.size w wr)) (fun i _ => m - (RowKit.intOf i).toNat)
  case atStart => exact ⟨0, by omega, rfl, HNB.out, Below.refl _ _⟩
  case round =>
    obtain ⟨j, hj, rfl, hall, hbr⟩ := hrel
    by_cases hlt : j < m
    · have hltj : (j : Int) < (m : Int) := by omega
      have hkN : j < Ns.length := by rw [HN.out]; exact hlt
      obtain ⟨b', o', t, rfl, c1, hy⟩ := srcS (HT.out.below hbr.out) hkN
      have hts : t.size ≤ 1048576 := HY.out t (by rw [← hy.out]; exact mem_getD Ns e0 j hkN)
      have HA := hall.out
      rw [all_dx e0 _ Ns j hkN, hy.out] at HA
      obtain ⟨st, hst⟩ : ∃ x, (lookF t S.fs).isSome = x := ⟨_, rfl⟩
      rw [hst] at HA
      have HA3 : Hid ((st && (Ns.drop (j + 1)).all (fun s => (lookF s S.fs).isSome)) = nb) := HA
      have CH := hasI t wr M _ hts (by show u.size ≤ 1048576; omega) (HD.out.later hbr.out) st (HV.out.some t st hst)
      clear HA hall hst
      go_wp2_with fail
      refine CH.mono ?_
      rintro e w5 ⟨rfl, hb5⟩
      have B5 : Hid (Below w.heap.size w w5) := hbr.out.trans (hb5.mono hbr.out.size)
      clear hb5 CH
      cases st with
      | false =>
        have HZ : Hid (16 = Q) := by show _ = _; rw [← HQ1.out, ← HA3.out]; rfl
        go_wp2_with fail
        go_ret
        exact ⟨ret_int HZ.out, B5.out⟩
      | true =>
        have HA4 : Hid ((Ns.drop (j + 1)).all (fun s => (lookF s S.fs).isSome) = nb) := HA3
        go_wp2_with fail
        exact ⟨⟨j + 1, by omega, by go_num, HA4.out, B5.out⟩, by simp [RowKit.intOf]; omega⟩
    · obtain rfl : j = m := by omega
      have hltj : ¬ (j : Int) < (j : Int) := by omega
      obtain rfl : true = nb := by rw [← hall.out, all_de _ _ _ (by rw [HN.out]; exact Nat.le_refl _)]
      have HZ : Hid (0 = Q) := by show _ = _; rw [← HQ1.out]; rfl
      clear hall
      go_wp2_with fail
      go_ret
      exact ⟨ret_int HZ.out, hbr.out⟩
theorem deskWithI (a : Option Addr) (n c : Nat) (L : List PM) (u : ByteArray) (w : World) (hL : L.length = n) (h : Src w a (cellsP L)) (hG : Gl w) (h8 : 8 ≤ w.heap.size) (hst : storeB L = true) (hus : (47 : UInt8) ∉ u.data.toList) (hu : u.size ≤ 1000) :
    Calls Tryz.prog 42 #[.slice a n c, .string u] w fun e w' => ∃ M S, e = .returned (.pointer (some ⟨M + 1, 0, none⟩)) ∧ takeAll (nextM L) u S0 L = some S ∧ StAt w' M a n c (nextM L) u S n ∧ w.heap.size ≤ M ∧ Below w.heap.size w w' := by
  obtain ⟨hg, nx0, hnm, n1, n2, hin, _, _⟩ := store_facts hst
  obtain ⟨S, hS, _⟩ := take_all hst hus
  have HS : Hid (takeAll (nextM L) u S0 L = some S) := hS
  have CD := deskI a n c L w hL hg h hG h8 true hin
  have HF : Hid (GoodL L ∧ L.length = n ∧ Src w a (cellsP L) ∧ Gl w ∧ inB (numB ((getM L vK).getD e0).data.toList) 1 10000 = true) := ⟨hg, hL, h, hG, hin⟩
  clear hg hL h hG hin hst hS hnm
  go_enter Tryz.func42, Tryz.ntmps42
  go_wp2_with fail
  refine CD.mono ?_
  rintro e w1 ⟨nx, M, rfl, hnp, hM, hdk, hb1⟩
  obtain ⟨hnx, hnx1⟩ := in_next HF.out.2.2.2.2 hnp
  subst hnx
  have CL := layI u w1 M a n c _ _ _ _ _ _ L hdk HF.out.2.1 HF.out.1 (fun W hW => HF.out.2.2.1.below (hb1.trans (hW.mono hM))) (HF.out.2.2.2.1.below h8 hb1) (by omega) hu hnx1 _ rfl
  have B1 : Hid (Below w.heap.size w w1) := hb1
  obtain ⟨lb, hlb⟩ : ∃ x, layF (nextM L) u S0 L = x := ⟨_, rfl⟩
  rw [hlb] at CL
  clear hb1 hdk hnp CD hlb
  go_wp2_with fail
  refine CL.mono ?_
  rintro e w2 ⟨rfl, hst2, hb2⟩
  have HST : Hid (StAt w2 M a n c (nextM L) u S n) := (hst2 S HS.out).1
  have B2 : Hid (Below w.heap.size w w2) := B1.out.trans (hb2.mono hM)
  clear hst2 hb2 CL
  go_wp2_with fail
  go_ret
  exact ⟨M, S, rfl, HS.out, HST.out, hM, B2.out⟩
def passG (o : Option ByteArray) : ByteArray × Int := match o with
  | some v => (v, 0)
  | none => (⟨#[]⟩, 15)
def passM (L : List PM) (u : ByteArray) : ByteArray × Int := if askM L [u] = 0 then passG (getM L (userK u)) else (⟨#[]⟩, askM L [u])
theorem ask_zero {L : List PM} {u : ByteArray} (h : askM L [u] = 0) : storeB L = true ∧ shortB u = true := by
  unfold askM at h
  split at h
  · cases h
  · split at h
    · cases h
    · rename_i h1
      split at h
      · cases h
      · rename_i h2
        refine ⟨by simpa using h1, ?_⟩
        simpa using h2
theorem ret_word {a b : ByteArray} {k l : Int} (h1 : a = b) (h2 : k = l) : Ending.returned (.tuple #[.string a, .int .i64 k]) = .returned (.tuple #[.string b, .int .i64 l]) := by rw [h1, h2]
theorem short_size {u : ByteArray} (h : shortB u = true) : u.size ≤ 8 := by
  unfold shortB at h
  rw [Bool.and_eq_true, decide_eq_true_eq] at h
  exact h.2
set_option maxHeartbeats 2000000 in
theorem specUserPass (a : Option Addr) (n c : Nat) (L : List PM) (u : ByteArray) (w : World) (hL : L.length = n) (hn : n ≤ 1048576) (hs : ∀ x ∈ L, x.1.size ≤ 1048576 ∧ x.2.size ≤ 1048576) (h : Src w a (cellsP L)) (hu : u.size ≤ 1048576) (T : ByteArray) (Q : Int) (HQ : Hid (passM L u = (T, Q))) :
    Calls Tryz.prog 22 #[.slice a n c, .string u] w fun e w' => e = .returned (.tuple #[.string T, .int .i64 Q]) ∧ Below w.heap.size w w' := by
  have HLN : Hid (L.length = n) := hL
  have HS : Hid (Src w a (cellsP L)) := h
  have AL : Hid (Below w.heap.size w (w.alloc (.cells #[.string u] 9))) := (Below.refl _ _).alloc (Nat.le_refl _) _
  obtain ⟨q, hq⟩ : ∃ q, askM L [u] = q := ⟨_, rfl⟩
  have HQQ : Hid (askM L [u] = q) := hq
  have HQ1 : Hid ((if q = 0 then passG (getM L (userK u)) else (⟨#[]⟩, q)) = (T, Q)) := by show _ = _; rw [← HQ.out]; unfold passM; rw [hq]
  have CA := l07AskS a n c L (some ⟨w.heap.size, 0, none⟩) 1 1 [u] (w.alloc (.cells #[.string u] 9)) hL hn hs (HS.out.below AL.out) rfl (by omega) (fun s hs => by rw [List.mem_singleton.1 hs]; exact hu) (src_1S rfl) q hq
  clear hL h hs hq HQ
  by_cases h1 : 4096 < n
  · have h1i : (4096 : Int) < (n : Int) := by omega
    obtain ⟨rfl, rfl⟩ : (⟨#[]⟩ : ByteArray) = T ∧ 2 = Q := by
      have h9 : q = 2 := by rw [← HQQ.out]; unfold askM; rw [if_pos (.inl (by rw [HLN.out]; exact h1))]
      have h7 := HQ1.out
      rw [h9, if_neg (by decide)] at h7
      cases h7
      exact ⟨rfl, rfl⟩
    go_enter Tryz.func22, Tryz.ntmps22
    go_wp2_with fail
    exact bodyPost_ret (v := .tuple #[.string ⟨#[]⟩, .int .i64 2]) (by simp [results, Tryz.results22, go_sem]) rfl ⟨rfl, Below.refl _ _⟩
  have h1i : ¬ (4096 : Int) < (n : Int) := by omega
  by_cases h2 : 65536 < u.size
  · have h2i : (65536 : Int) < (u.size : Int) := by omega
    obtain ⟨rfl, rfl⟩ : (⟨#[]⟩ : ByteArray) = T ∧ 2 = Q := by
      have h9 : q = 2 := by
        rw [← HQQ.out]
        unfold askM
        rw [if_pos (.inr (by show (smallT u && true) = false; rw [show smallT u = false from decide_eq_false (by omega)]; rfl))]
      have h7 := HQ1.out
      rw [h9, if_neg (by decide)] at h7
      cases h7
      exact ⟨rfl, rfl⟩
    go_enter Tryz.func22, Tryz.ntmps22
    go_wp2_with fail
    exact bodyPost_ret (v := .tuple #[.string ⟨#[]⟩, .int .i64 2]) (by simp [results, Tryz.results22, go_sem]) rfl ⟨rfl, Below.refl _ _⟩
  have h2i : ¬ (65536 : Int) < (u.size : Int) := by omega
  by_cases hq0 : q = 0
  · subst hq0
    obtain ⟨hst, hsh⟩ := ask_zero HQQ.out
    have hgl := (store_facts hst).1
    have HQ2 : Hid (passG (getM L (userK u)) = (T, Q)) := by have h9 := HQ1.out; rw [if_pos rfl] at h9; exact h9
    have CG := fun W (hW : Below w.heap.size w W) => l01GetM a n c L (userK u) W HLN.out hgl (HS.out.below hW)
    obtain ⟨tv, htv⟩ : ∃ t, (getM L (userK u)).getD e0 = t := ⟨_, rfl⟩
    obtain ⟨tb, htb⟩ : ∃ t, (getM L (userK u)).isSome = t := ⟨_, rfl⟩
    simp only [htv, htb] at CG
    have HGT : Hid ((getM L (userK u)).getD e0 = tv ∧ (getM L (userK u)).isSome = tb) := ⟨htv, htb⟩
    clear hst hsh hgl HQ1 htv htb
    go_enter Tryz.func22, Tryz.ntmps22
    go_wp2_with fail
    refine CA.mono ?_
    rintro e w3 ⟨rfl, hb3⟩
    have B3 : Hid (Below w.heap.size w w3) := AL.out.trans (hb3.mono AL.out.size)
    clear hb3 CA
    go_wp2_with fail
    refine (l07UserS u _ (by omega)).mono ?_
    rintro e w4 ⟨rfl, hw4⟩
    obtain rfl := hw4
    obtain ⟨KU, hKU⟩ : ∃ t, userK u = t := ⟨_, rfl⟩
    simp only [hKU] at CG ⊢
    go_wp2_with fail
    refine (CG _ B3.out).mono ?_
    rintro e w5 ⟨rfl, hw5⟩
    obtain rfl := hw5
    cases tb with
    | false =>
      obtain ⟨rfl, rfl⟩ : (⟨#[]⟩ : ByteArray) = T ∧ 15 = Q := by
        have h9 := HQ2.out
        have h8 : getM L (userK u) = none := by
          cases hh : getM L (userK u) with
          | none => rfl
          | some v => have h7 := HGT.out.2; rw [hh] at h7; cases h7
        rw [h8] at h9
        cases h9
        exact ⟨rfl, rfl⟩
      go_wp2_with fail
      exact bodyPost_ret (v := .tuple #[.string ⟨#[]⟩, .int .i64 15]) (by simp [results, Tryz.results22, go_sem]) rfl ⟨rfl, B3.out⟩
    | true =>
      obtain ⟨rfl, rfl⟩ : tv = T ∧ 0 = Q := by
        have h9 := HQ2.out
        obtain ⟨v, hv⟩ := Option.isSome_iff_exists.1 HGT.out.2
        have h8 := HGT.out.1
        rw [hv] at h9 h8
        cases h9
        exact ⟨h8.symm, rfl⟩
      go_wp2_with fail
      exact bodyPost_ret (v := .tuple #[.string tv, .int .i64 0]) (by simp [results, Tryz.results22, go_sem]) rfl ⟨rfl, B3.out⟩
  · obtain ⟨rfl, rfl⟩ : (⟨#[]⟩ : ByteArray) = T ∧ q = Q := by
      have h9 := HQ1.out
      rw [if_neg hq0] at h9
      cases h9
      exact ⟨rfl, rfl⟩
    have hqi : (q != 0) = true := by simpa using hq0
    go_enter Tryz.func22, Tryz.ntmps22
    go_wp2_with fail
    refine CA.mono ?_
    rintro e w3 ⟨rfl, hb3⟩
    have B3 : Hid (Below w.heap.size w w3) := AL.out.trans (hb3.mono AL.out.size)
    clear hb3 CA
    go_wp2_with fail
    exact bodyPost_ret (v := .tuple #[.string ⟨#[]⟩, .int .i64 q]) (by simp [results, Tryz.results22, go_sem]) rfl ⟨rfl, B3.out⟩
set_option maxHeartbeats 2000000 in
theorem implUserPass (a : Option Addr) (n c : Nat) (L : List PM) (u : ByteArray) (w : World) (hL : L.length = n) (hn : n ≤ 1048576) (hs : ∀ x ∈ L, x.1.size ≤ 1048576 ∧ x.2.size ≤ 1048576) (h : Src w a (cellsP L)) (hu : u.size ≤ 1048576) (hG : Gl w) (h8 : 8 ≤ w.heap.size) (T : ByteArray) (Q : Int) (HQ : Hid (passM L u = (T, Q))) :
    Calls Tryz.prog 21 #[.slice a n c, .string u] w fun e w' => e = .returned (.tuple #[.string T, .int .i64 Q]) ∧ Below w.heap.size w w' := by
  have HLN : Hid (L.length = n) := hL
  have HS : Hid (Src w a (cellsP L)) := h
  have HG : Hid (Gl w) := hG
  have AL : Hid (Below w.heap.size w (w.alloc (.cells #[.string u] 9))) := (Below.refl _ _).alloc (Nat.le_refl _) _
  obtain ⟨q, hq⟩ : ∃ q, askM L [u] = q := ⟨_, rfl⟩
  have HQQ : Hid (askM L [u] = q) := hq
  have HQ1 : Hid ((if q = 0 then passG (getM L (userK u)) else (⟨#[]⟩, q)) = (T, Q)) := by show _ = _; rw [← HQ.out]; unfold passM; rw [hq]
  have CA := mailFaultI a n c L (some ⟨w.heap.size, 0, none⟩) 1 1 [u] (w.alloc (.cells #[.string u] 9)) hL hn hs (HS.out.below AL.out) rfl (by omega) (fun s hs => by rw [List.mem_singleton.1 hs]; exact hu) (src_1S rfl) (hG.below h8 AL.out) (by have := AL.out.size; omega) q hq
  clear hL h hs hq HQ hG
  by_cases hq0 : q = 0
  · subst hq0
    obtain ⟨hst, hsh⟩ := ask_zero HQQ.out
    have hus := word_slash hsh
    have hu8 := short_size hsh
    have HQ2 : Hid (passG (getM L (userK u)) = (T, Q)) := by have h9 := HQ1.out; rw [if_pos rfl] at h9; exact h9
    have HW : Hid (∀ S, takeAll (nextM L) u S0 L = some S → S.word = T ∧ lackM S.word S.fs [] = Q) := fun S hS => by
      obtain ⟨S', k1, k2, _⟩ := take_all hst hus
      rw [hS] at k1
      cases k1
      have h9 := HQ2.out
      unfold lackM
      rw [k2]
      cases hv : getM L (userK u) with
      | none =>
        rw [hv] at h9
        cases h9
        have h0 : (e0 : ByteArray).toList = [] := by rw [ByteArray.toList_eq]
        exact ⟨rfl, if_pos h0⟩
      | some v =>
        rw [hv] at h9
        cases h9
        exact ⟨rfl, if_neg (word_some hst hus hv)⟩
    have CD := fun W (hW : Below w.heap.size w W) => deskWithI a n c L u W HLN.out (HS.out.below hW) (HG.out.below h8 hW) (by have := hW.size; omega) hst hus (by omega)
    clear hst hsh HQ1
    go_enter Tryz.func21, Tryz.ntmps21
    go_wp2_with fail
    refine CA.mono ?_
    rintro e w3 ⟨rfl, hb3⟩
    have B3 : Hid (Below w.heap.size w w3) := AL.out.trans (hb3.mono AL.out.size)
    clear hb3 CA
    go_wp2_with fail
    refine (CD _ B3.out).mono ?_
    rintro e w4 ⟨M, S, rfl, hS, hSt, hM, hb4⟩
    have B4 : Hid (Below w.heap.size w w4) := B3.out.trans (hb4.mono B3.out.size)
    obtain ⟨k1, k2⟩ := HW.out S hS
    have CL := fun W (hW : Below w4.heap.size w4 W) => lacksI W M a n c _ u S n (hSt.later hW) (by omega) none 0 0 [] rfl (by omega) (fun s hs => by cases hs) (.inl rfl) Q k2
    have e4 : w4.cell? ⟨M + 1, 4, none⟩ = some (.string T) := by
      obtain ⟨_, _, hD, _⟩ := hSt
      rw [← k1]
      exact (hD.1 4 _ rfl).1
    clear hb4 hS hSt k1 k2 CD hM
    go_upto_region 5 with fail
    refine wp_region_noPanic ?_
    refine wp_region_held_drew (S := fun w' => True) (by kernel_rfl) trivial (fun hHeld => ?_)
    refine tkA (i := 0) (v := .pointer (some ⟨M + 1, 0, none⟩)) ?_ hHeld ?_
    · intro w9 hSw
      go_simp
    simp only [Act.put, List.setIfInBounds_toArray, List.set_cons_zero, List.set_cons_succ]
    refine tkA (i := 1) (v := .pointer (some ⟨M + 1, 0, none⟩)) ?_ hHeld ?_
    · intro w9 hSw
      go_simp
    simp only [Act.put, List.setIfInBounds_toArray, List.set_cons_zero, List.set_cons_succ]
    refine tkA (i := 2) (v := .pointer (some ⟨M + 1, 4, none⟩)) ?_ hHeld ?_
    · intro w9 hSw
      go_simp
    simp only [Act.put, List.setIfInBounds_toArray, List.set_cons_zero, List.set_cons_succ]
    refine tkA (i := 4) (v := .pointer (some ⟨M + 1, 0, none⟩)) ?_ hHeld ?_
    · intro w9 hSw
      go_simp
    simp only [Act.put, List.setIfInBounds_toArray, List.set_cons_zero, List.set_cons_succ]
    refine wpAnyH_ready (rs := [3, 5]) (by kernel_rfl) (by simp) ?_
    refine AllReadyH.cons rfl (fun K hK => ?_) (AllReadyH.cons rfl (fun K hK => ?_) AllReadyH.nil)
    · skip
      go_simp
      refine hK _ _ trivial (fun hHeld => ?_)
      clear hK K
      refine wpAnyH_ready (rs := [5]) (by kernel_rfl) (by simp) ?_
      refine AllReadyH.cons rfl (fun K hK => ?_) AllReadyH.nil
      go_simp
      refine (CL _ ((Below.refl _ _).drew)).mono ?_
      rintro e w5 ⟨rfl, hb5⟩
      have B5 : Hid (Below w.heap.size w w5) := B4.out.drew.trans (Below.mono hb5 B4.out.size)
      have e5 : w5.cell? ⟨M + 1, 4, none⟩ = some (.string T) := cell_later (w := w4.drew) hb5 e4
      clear hb5
      dsimp only
      refine hK _ _ trivial (fun hHeld => ?_)
      clear hK K
      refine wpAnyH_ready (rs := [6]) (by kernel_rfl) (by simp) ?_
      refine AllReadyH.cons rfl (fun K hK => ?_) AllReadyH.nil
      go_simp
      refine hK _ _ trivial (fun hHeld => ?_)
      clear hK K
      refine wpAnyH_ready (rs := [7]) (by kernel_rfl) (by simp) ?_
      refine AllReadyH.cons rfl (fun K hK => ?_) AllReadyH.nil
      go_simp
      refine hK _ _ trivial (fun hHeld => ?_)
      clear hK K
      refine wpAnyH_done (by kernel_rfl) ?_ _
      refine NoPanic.normal ?_
      clear hHeld
      go_wp2_with fail
      exact bodyPost_ret (v := .tuple #[.string T, .int .i64 Q]) (by simp [results, Tryz.results21, go_sem]) rfl ⟨rfl, B5.out⟩
    · skip
      go_simp
      refine (CL _ ((Below.refl _ _).drew)).mono ?_
      rintro e w5 ⟨rfl, hb5⟩
      have B5 : Hid (Below w.heap.size w w5) := B4.out.drew.trans (Below.mono hb5 B4.out.size)
      have e5 : w5.cell? ⟨M + 1, 4, none⟩ = some (.string T) := cell_later (w := w4.drew) hb5 e4
      clear hb5
      dsimp only
      refine hK _ _ trivial (fun hHeld => ?_)
      clear hK K
      refine wpAnyH_ready (rs := [3]) (by kernel_rfl) (by simp) ?_
      refine AllReadyH.cons rfl (fun K hK => ?_) AllReadyH.nil
      go_simp
      refine hK _ _ trivial (fun hHeld => ?_)
      clear hK K
      refine wpAnyH_ready (rs := [6]) (by kernel_rfl) (by simp) ?_
      refine AllReadyH.cons rfl (fun K hK => ?_) AllReadyH.nil
      go_simp
      refine hK _ _ trivial (fun hHeld => ?_)
      clear hK K
      refine wpAnyH_ready (rs := [7]) (by kernel_rfl) (by simp) ?_
      refine AllReadyH.cons rfl (fun K hK => ?_) AllReadyH.nil
      go_simp
      refine hK _ _ trivial (fun hHeld => ?_)
      clear hK K
      refine wpAnyH_done (by kernel_rfl) ?_ _
      refine NoPanic.normal ?_
      clear hHeld
      go_wp2_with fail
      exact bodyPost_ret (v := .tuple #[.string T, .int .i64 Q]) (by simp [results, Tryz.results21, go_sem]) rfl ⟨rfl, B5.out⟩
  · obtain ⟨rfl, rfl⟩ : (⟨#[]⟩ : ByteArray) = T ∧ q = Q := by
      have h9 := HQ1.out
      rw [if_neg hq0] at h9
      cases h9
      exact ⟨rfl, rfl⟩
    have hqi : (q != 0) = true := by simpa using hq0
    go_enter Tryz.func21, Tryz.ntmps21
    go_wp2_with fail
    refine CA.mono ?_
    rintro e w3 ⟨rfl, hb3⟩
    have B3 : Hid (Below w.heap.size w w3) := AL.out.trans (hb3.mono AL.out.size)
    clear hb3 CA
    go_wp2_with fail
    exact bodyPost_ret (v := .tuple #[.string ⟨#[]⟩, .int .i64 q]) (by simp [results, Tryz.results21, go_sem]) rfl ⟨rfl, B3.out⟩
end Go.Proofs.YtddnecljdecamaaGreatDoor
namespace Go.Proofs.YtddnecljdecamaaGreatDoor
open Go.ChangeShapes Go.WideShapes Go.ChangeAt Go.RowKit Go.Deep Go.Lib
set_option linter.unusedVariables false
set_option linter.unusedSimpArgs false
set_option maxRecDepth 100000

set_option maxHeartbeats 400000 in
theorem copyListI (a : Option Addr) (n c : Nat) (L : List PM) (w : World) (hL : L.length = n) (hn : n ≤ 1048576) (h : Src w a (cellsP L)) :
    Calls Tryz.prog 46 #[.slice a n c] w fun e w' => ∃ v, e = .returned v ∧ w'.ownsRow w.heap.size 68 2 v n (cellsP L) ∧ Below w.heap.size w w' := by
  have HH : Hid (Src w a (cellsP L)) := h
  have HL : Hid ((cellsP L).length = n * 2) := by show _ = _; rw [cellsP_length, hL]
  clear h hL
  go_enter Tryz.func46, Tryz.ntmps46
  go_wp2_with (at_builtin; refine wpList_append_src _ rfl _ _ 23 rfl w.heap.size 68 (.agg #[.string ⟨#[]⟩, .string ⟨#[]⟩]) 2 32 Tryz.underlying23 infoP rfl (by decide) (by decide) _ 0 [] rfl (World.ownsRow_nil _ _ _ _) a n c (cellsP L) rfl HL.out HH.out (cellsP_one L) (by omega) (Nat.le_refl _) ?_)
  intro v' w1 hown hgrow
  have HO : Hid (w1.ownsRow w.heap.size 68 2 v' n (cellsP L)) := by simpa [Hid] using hown
  have HB : Hid (Below w.heap.size w w1) := (Below.refl _ _).grown hgrow (Nat.le_refl _) (fun k e => by cases e)
  clear hown hgrow
  go_wp2_with fail
  go_ret
  exact ⟨_, rfl, HO.out, HB.out⟩
set_option maxHeartbeats 1000000 in
theorem doneBad (q : Int) (hq : q ≠ 0) (w : World) (M : Nat) (a : Option Addr) (n c : Nat) (L : List PM) (hL : L.length = n) (hn : n ≤ 60) (hc : w.cell? ⟨M + 1, 0, none⟩ = some (.slice a n c)) (h : Src w a (cellsP L)) :
    Calls Tryz.prog 57 #[.pointer (some ⟨M + 1, 0, none⟩), .int .i64 q] w fun e w' => ∃ v, e = .returned (.tuple #[v, .int .i64 q]) ∧ w'.ownsRow w.heap.size 68 2 v n (cellsP L) ∧ Below w.heap.size w w' := by
  have hqi : (q != 0) = true := by simpa using hq
  have CC := copyListI a n c L w hL (by omega) h
  clear h hL
  go_enter Tryz.func57, Tryz.ntmps57
  go_wp2_with fail
  refine CC.mono ?_
  rintro e w1 ⟨v, rfl, ho, hb⟩
  obtain ⟨av, cv, rfl, _, _⟩ := own_src ho
  have HO : Hid (w1.ownsRow w.heap.size 68 2 (.slice av n cv) n (cellsP L)) := ho
  have HB : Hid (Below w.heap.size w w1) := hb
  clear ho hb CC
  go_wp2_with fail
  exact bodyPost_ret (v := .tuple #[.slice av n cv, .int .i64 q]) (by simp [results, Tryz.results57, go_sem]) rfl ⟨_, rfl, HO.out, HB.out⟩
set_option maxHeartbeats 1000000 in
theorem doneOk (w : World) (M : Nat) (a : Option Addr) (n c : Nat) (nx : Int) (u : ByteArray) (S : SM) (k0 : Nat) (hS : StAt w M a n c nx u S k0) (hu : u.size ≤ 1000) (hn0 : 0 ≤ nx) (hn1 : nx ≤ 10000) (hF : ∀ f ∈ S.fs, FitF f) (hk : k0 ≤ 1000) (hg : Gl w) (h8 : 8 ≤ M) (Y : List PM) (hY : UpL Y) (hP : (deskP nx u S).Perm Y) (ny : Nat) (hny : Y.length = ny) (hl : ny ≤ 4000)
    (L : List PM) (hL : L.length = n) (hn : n ≤ 60) (h : Src w a (cellsP L)) (R : List PM) (q : Int) (HR : Hid ((if 60 < ny then (L, 7) else (Y, 0)) = (R, q))) :
    Calls Tryz.prog 57 #[.pointer (some ⟨M + 1, 0, none⟩), .int .i64 0] w fun e w' => ∃ v, e = .returned (.tuple #[v, .int .i64 q]) ∧ w'.ownsRow w.heap.size 68 2 v R.length (cellsP R) ∧ Below w.heap.size w w' := by
  have CP := fun W (hW : Below w.heap.size w W) => pairsI W M a n c nx u S k0 (hS.later hW) hu hn0 hn1 hF hk (hg.below (by
    obtain ⟨_, _, hD, _⟩ := hS
    have h9 : M + 1 < w.heap.size := World.block_lt_of_cell? _ _ (hD.1 0 _ rfl).1
    omega) hW) h8 Y hY hP ny hny hl
  have hc : w.cell? ⟨M + 1, 0, none⟩ = some (.slice a n c) := by
    obtain ⟨_, _, hD, _⟩ := hS
    exact (hD.1 0 _ rfl).1
  have CF : ∀ b, decide ((60 : Int) < (ny : Int)) = b → Calls Tryz.prog 105 #[.pointer (some ⟨M + 1, 0, none⟩)] w fun e w' => e = .returned (.bool b) ∧ Below w.heap.size w w' := by
    intro b hb
    have C1 := CP w (Below.refl _ _)
    have HB : Hid (decide ((60 : Int) < (ny : Int)) = b) := hb
    clear CP hS h hc hb
    go_enter Tryz.func105, Tryz.ntmps105
    go_wp2_with fail
    refine C1.mono ?_
    rintro e w1 ⟨g, cap, rfl, ho, hb1⟩
    have B1 : Hid (Below w.heap.size w w1) := hb1
    clear ho hb1 C1
    go_wp2_with fail
    go_ret
    exact ⟨by rw [← HB.out]; rfl, B1.out⟩
  have CC := fun W (hW : Below w.heap.size w W) => copyListI a n c L W hL (by omega) (h.below hW)
  have HLN : Hid (L.length = n) := hL
  have HYN : Hid (Y.length = ny) := hny
  clear h hL hS hF hY hP hny
  by_cases hb : 60 < ny
  · have C1 := CF true (decide_eq_true (by omega))
    have HQ : Hid (R = L ∧ q = 7) := by
      have h9 := HR.out
      rw [if_pos hb] at h9
      cases h9
      exact ⟨rfl, rfl⟩
    clear CF CP HR
    go_enter Tryz.func57, Tryz.ntmps57
    go_wp2_with fail
    refine C1.mono ?_
    rintro e w1 ⟨rfl, hb1⟩
    have d0 := cell_later hb1 hc
    have CC1 := CC w1 hb1
    have B1 : Hid (Below w.heap.size w w1) := hb1
    clear hb1 C1 CC
    go_wp2_with fail
    refine CC1.mono ?_
    rintro e w2 ⟨v, rfl, ho, hb2⟩
    obtain ⟨av, cv, rfl, _, _⟩ := own_src ho
    have HO : Hid (w2.ownsRow w.heap.size 68 2 (.slice av n cv) R.length (cellsP R)) := by
      show w2.ownsRow _ _ _ _ _ _
      rw [HQ.out.1, HLN.out]
      exact own_mono ho B1.out.size
    have B2 : Hid (Below w.heap.size w w2) := B1.out.trans (hb2.mono B1.out.size)
    have HQ2 : Hid (7 = q) := HQ.out.2.symm
    clear ho hb2 CC1
    go_wp2_with fail
    exact bodyPost_ret (v := .tuple #[.slice av n cv, .int .i64 7]) (by simp [results, Tryz.results57, go_sem]) rfl ⟨_, by rw [HQ2.out], HO.out, B2.out⟩
  · have C1 := CF false (decide_eq_false (by omega))
    have HQ : Hid (R = Y ∧ q = 0) := by
      have h9 := HR.out
      rw [if_neg hb] at h9
      cases h9
      exact ⟨rfl, rfl⟩
    clear CF CC HR
    go_enter Tryz.func57, Tryz.ntmps57
    go_wp2_with fail
    refine C1.mono ?_
    rintro e w1 ⟨rfl, hb1⟩
    have CC1 := CP w1 hb1
    have B1 : Hid (Below w.heap.size w w1) := hb1
    clear hb1 C1 CP
    go_wp2_with fail
    refine CC1.mono ?_
    rintro e w2 ⟨g, cap, rfl, ho, hb2⟩
    have HO : Hid (w2.ownsRow w.heap.size 68 2 (.slice (some ⟨g, 0, none⟩) ny cap) R.length (cellsP R)) := by
      show w2.ownsRow _ _ _ _ _ _
      rw [HQ.out.1, HYN.out]
      exact own_mono ho B1.out.size
    have B2 : Hid (Below w.heap.size w w2) := B1.out.trans (hb2.mono B1.out.size)
    have HQ2 : Hid (0 = q) := HQ.out.2.symm
    clear ho hb2 CC1
    go_wp2_with fail
    exact bodyPost_ret (v := .tuple #[.slice (some ⟨g, 0, none⟩) ny cap, .int .i64 0]) (by simp [results, Tryz.results57, go_sem]) rfl ⟨_, by rw [HQ2.out], HO.out, B2.out⟩
/-- A desk with a field of its own set. -/
theorem desk_set {w : World} {M : Nat} {D D' : DK} (h : DeskAt w M D) (i : Nat) (v : Value) (hc : cellsD M D' = (cellsD M D).set i v) (h1 : D'.va = D.va) (h2 : D'.aside = D.aside) (h3 : D'.X = D.X) : DeskAt (w.setCell ⟨M + 1, i, none⟩ v) M D' := by
  obtain ⟨k1, ⟨cl, k2⟩, k3, k4⟩ := h
  refine ⟨by rw [hc]; exact k1.set i v, ⟨cl, by rw [h3]; exact k2.setCell _ _ (by show M ≠ M + 1; omega)⟩, by rw [h1, h2]; exact own_setLow k3 (by show M + 1 < M + 2; omega) v, ?_⟩
  rw [h3]
  exact ⟨fun x hx => own_setLow (k4.1 x hx) (by show M + 1 < M + 2; omega) v, k4.2⟩
theorem nodup_keys {u : ByteArray} {fs : List FM} (h : (fs.map (·.name)).Nodup) : (fs.map fun f => folderK u f.name).Nodup := by
  rw [List.Nodup, List.pairwise_map] at h ⊢
  exact h.imp fun h9 e => h9 (folderK_inj e)
set_option maxHeartbeats 2000000 in
theorem freshI (nm : ByteArray) (v0 nx0 : Int) (ax : Option Addr) (ml cx : Nat) (Ms : List MMl) (hMs : Ms.length = ml) (w : World) (M : Nat) (a : Option Addr) (n c : Nat) (va : Value) (sd : List PM) (nx : Int) (u wd : ByteArray) (X : List FX) (fs : List FM) (hD : DeskAt w M ⟨a, n, c, va, sd, nx, u, wd, X⟩) (hV : View u X fs) (hN : (fs.map (·.name)).Nodup) (hu : u.size ≤ 1000) (hnm : nm.size ≤ 1000) (hnx : 0 ≤ nx) (hnx1 : nx ≤ 10000)
    (hrow : w.ownsRow (M + 2) 36 3 (.slice ax ml cx) ml (cellsMl Ms)) (hap : ∀ z ∈ X, z.k ≠ folderK u nm → ∀ g, z.v.ownBlock = some g → Value.ownBlock (.slice ax ml cx) ≠ some g) :
    Calls Tryz.prog 106 #[.pointer (some ⟨M + 1, 0, none⟩), .agg #[.string nm, .int .i64 v0, .int .i64 nx0, .slice ax ml cx]] w fun e w' => Below M w w' ∧ ((9999 < nx ∧ e = .returned (.int .i64 6) ∧ DeskAt w' M ⟨a, n, c, va, sd, nx, u, wd, X⟩) ∨ (¬ 9999 < nx ∧ e = .returned (.int .i64 0) ∧ ∃ X', DeskAt w' M ⟨a, n, c, va, sd, nx + 1, u, wd, X'⟩ ∧ View u X' (putF ⟨nm, nx, nx0, Ms⟩ fs))) := by
  have hM1 : M + 1 < w.heap.size := World.block_lt_of_cell? _ _ (hD.1 0 _ rfl).1
  obtain ⟨c2, f2⟩ := hD.1 2 _ rfl
  have hKN : (X.map (·.k)).Nodup := by
    rw [hV.keys]
    exact nodup_keys hN
  by_cases hb : 9999 < nx
  · have HD : Hid (DeskAt (w.alloc (.cells #[.string nm, .int .i64 v0, .int .i64 nx0, .slice ax ml cx] 28)) M ⟨a, n, c, va, sd, nx, u, wd, X⟩) := hD.later ((Below.refl _ _).alloc (Nat.le_refl _) _)
    have HB : Hid (Below M w (w.alloc (.cells #[.string nm, .int .i64 v0, .int .i64 nx0, .slice ax ml cx] 28))) := (Below.refl _ _).alloc (by omega) _
    clear hD hV hN hrow hap hKN
    go_enter Tryz.func106, Tryz.ntmps106
    go_wp2_with fail
    go_ret
    exact ⟨HB.out, .inl ⟨rfl, HD.out⟩⟩
  · obtain ⟨w1, hw1⟩ : ∃ W, w.alloc (.cells #[.string nm, .int .i64 nx, .int .i64 nx0, .slice ax ml cx] 28) = W := ⟨_, rfl⟩
    have B1 : Below w.heap.size w w1 := by rw [← hw1]; exact (Below.refl _ _).alloc (Nat.le_refl _) _
    have D2 : DeskAt (w1.setCell ⟨M + 1, 2, none⟩ (.int .i64 (nx + 1))) M ⟨a, n, c, va, sd, nx + 1, u, wd, X⟩ := desk_set (hD.later B1) 2 (.int .i64 (nx + 1)) rfl rfl rfl rfl
    have X1 : Box w1 w.heap.size [.string nm, .int .i64 nx, .int .i64 nx0, .slice ax ml cx] := by rw [← hw1]; exact Box.new rfl
    have R2 : (w1.setCell ⟨M + 1, 2, none⟩ (.int .i64 (nx + 1))).ownsRow (M + 2) 36 3 (.slice ax ml cx) ml (cellsMl Ms) := own_setLow (own_below hrow B1) (by show M + 1 < M + 2; omega) _
    have HB2 : Hid (Below M w (w1.setCell ⟨M + 1, 2, none⟩ (.int .i64 (nx + 1)))) := (B1.mono (by omega)).setCell (by show M ≤ M + 1; omega) _
    have CP := putI ⟨folderK u nm, 0, nm, nx, nx0, .slice ax ml cx, Ms⟩ nm nx nx0 ax ml cx (w1.setCell ⟨M + 1, 2, none⟩ (.int .i64 (nx + 1))) M ⟨a, n, c, va, sd, nx + 1, u, wd, X⟩ rfl (by omega) (by show u.size ≤ 1048576; omega) D2.head (fun clock => rows_set D2.2.2.2 (by show World.ownsRow _ _ _ _ _ Ms.length _; rw [hMs]; exact R2) hKN (fun x hx hk => hap x hx hk) clock)
    obtain ⟨g2, fz2⟩ := (hD.later B1).1 2 _ rfl
    have HX : Hid (Box (w1.setCell ⟨M + 1, 2, none⟩ (.int .i64 (nx + 1))) w.heap.size [.string nm, .int .i64 nx, .int .i64 nx0, .slice ax ml cx]) := X1.other _ (by show w.heap.size ≠ M + 1; omega) _
    obtain ⟨e0', _⟩ := HX.out 0 _ rfl
    obtain ⟨e1', _⟩ := HX.out 1 _ rfl
    obtain ⟨e2', _⟩ := HX.out 2 _ rfl
    obtain ⟨e3', _⟩ := HX.out 3 _ rfl
    have HV : Hid (View u X fs) := hV
    clear hD hV hN hrow hap D2 R2 B1 X1 hKN
    go_enter Tryz.func106, Tryz.ntmps106
    go_wp2_with fail
    refine CP.mono ?_
    rintro e w4 ⟨rfl, ⟨clock, hd4⟩, hb4⟩
    have HB4 : Hid (Below M w w4) := HB2.out.trans hb4
    have HD4 : Hid (∃ X', DeskAt w4 M ⟨a, n, c, va, sd, nx + 1, u, wd, X'⟩ ∧ View u X' (putF ⟨nm, nx, nx0, Ms⟩ fs)) := ⟨_, hd4, HV.out.put (y := ⟨folderK u nm, 0, nm, nx, nx0, .slice ax ml cx, Ms⟩) rfl clock⟩
    clear hd4 hb4 CP
    go_wp2_with fail
    go_ret
    exact ⟨HB4.out, .inr ⟨rfl, HD4.out⟩⟩
end Go.Proofs.YtddnecljdecamaaGreatDoor
