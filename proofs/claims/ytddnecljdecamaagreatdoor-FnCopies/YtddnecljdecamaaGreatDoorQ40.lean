/-
  Cpl Rnf Ltrc in one. By an AI agent.
-/
import Derived.Test.YtddnecljdecamaaGreatDoorQ29
import Derived.Test.YtddnecljdecamaaGreatDoorQ31
import Derived.Test.YtddnecljdecamaaGreatDoorQ34
import Derived.Test.YtddnecljdecamaaGreatDoorQ27
namespace Go.Proofs.YtddnecljdecamaaGreatDoor
open Go.ChangeShapes Go.WideShapes Go.ChangeAt Go.RowKit Go.Deep Go.Lib
set_option linter.unusedVariables false
set_option linter.unusedSimpArgs false
set_option maxRecDepth 100000

theorem src_3S {w : World} {s t r : ByteArray} {B ty : Nat} (hB : B = w.heap.size) : Src (w.alloc (.cells #[.string s, .string t, .string r] ty)) (some ⟨B, 0, none⟩) (cellsS [s, t, r]) := by
  have hb : Box (w.alloc (.cells #[.string s, .string t, .string r] ty)) B [.string s, .string t, .string r] := Box.new hB
  refine .inr ⟨B, 0, rfl, fun j hj => ?_⟩
  have hj4 : j < 3 := hj
  rw [Nat.zero_add]
  match j, hj4 with
  | 0, _ => exact (hb 0 _ rfl).1
  | 1, _ => exact (hb 1 _ rfl).1
  | 2, _ => exact (hb 2 _ rfl).1
theorem ask_zero3 {L : List PM} {x y z : ByteArray} (h : askM L [x, y, z] = 0) : storeB L = true ∧ shortB x = true ∧ shortB y = true ∧ shortB z = true := by
  unfold askM at h
  split at h
  · cases h
  · split at h
    · cases h
    · rename_i h1
      split at h
      · cases h
      · rename_i h2
        refine ⟨by simpa using h1, ?_⟩
        simpa using h2
def cmR (L : List PM) (u f : ByteArray) (un : Int) (tf : ByteArray) : List PM × Int × Int := if askM L [u, f, tf] ≠ 0 then ([], 0, askM L [u, f, tf]) else cpR L u f un tf
theorem cp_small {L : List PM} (hg : GoodL L) (u f : ByteArray) (un : Int) (tf : ByteArray) : (cpR L u f un tf).1.length ≤ 4000 := by
  have h1 := hg.1
  unfold cpR cpT
  split
  · show L.length ≤ 4000; omega
  · split
    · show L.length ≤ 4000; omega
    · split
      · show L.length ≤ 4000; omega
      · split
        · show L.length ≤ 4000; omega
        · exact app_small hg _ _ _ _
theorem cmR_small {L R : List PM} {u f tf : ByteArray} {un q1 q2 : Int} (h : cmR L u f un tf = (R, q1, q2)) : R.length ≤ 1048576 := by
  unfold cmR at h
  split at h
  · cases h; simp
  · rename_i h0
    have hk : askM L [u, f, tf] = 0 := by
      by_cases e : askM L [u, f, tf] = 0
      · exact e
      · exact absurd e h0
    have h9 := cp_small (store_facts (ask_zero3 hk).1).1 u f un tf
    rw [h] at h9
    have h8 : R.length ≤ 4000 := h9
    omega
theorem cm_bad {L : List PM} {u f tf : ByteArray} {un : Int} {R : List PM} {q1 q2 : Int} (h : cmR L u f un tf = (R, q1, q2)) (h1 : askM L [u, f, tf] = 2) : [] = R ∧ 0 = q1 ∧ 2 = q2 := by
  unfold cmR at h
  rw [if_pos (by rw [h1]; decide), h1] at h
  cases h
  exact ⟨rfl, rfl, rfl⟩
theorem user_known {L : List PM} {u f : ByteArray} (h : storeB L = true) (hk : knownR L u f = 0) : ∃ q ∈ L, q.1 = userK u := by
  unfold knownR at hk
  split at hk
  · cases hk
  · rename_i h9
    cases hv : getM L (userK u) with
    | none => rw [hv] at h9; exact absurd rfl h9
    | some v => exact ⟨_, (getM_mem (store_facts h).1.2.2).1 hv, rfl⟩
set_option maxHeartbeats 4000000 in
theorem specCopyMail (a : Option Addr) (n c : Nat) (L : List PM) (x y : ByteArray) (un : Int) (t : ByteArray) (w : World) (hL : L.length = n) (hn : n ≤ 1048576) (hc : n ≤ c) (hc9 : c ≤ maxLen) (hs : ∀ x ∈ L, x.1.size ≤ 1048576 ∧ x.2.size ≤ 1048576) (h : Src w a (cellsP L)) (hx : x.size ≤ 1048576) (hy : y.size ≤ 1048576) (ht : t.size ≤ 1048576) (R : List PM) (Q1 Q2 : Int) (HQ : Hid (cmR L x y un t = (R, Q1, Q2))) :
    Calls Tryz.prog 30 #[.slice a n c, .string x, .string y, .int .i64 un, .string t] w fun e w' => ∃ v, e = .returned (.tuple #[v, .int .i64 Q1, .int .i64 Q2]) ∧ w'.ownsRow w.heap.size 68 2 v R.length (cellsP R) ∧ Below w.heap.size w w' := by
  have HLN : Hid (L.length = n) := hL
  have HS : Hid (Src w a (cellsP L)) := h
  have AL : Hid (Below w.heap.size w (w.alloc (.cells #[.string x, .string y, .string t] 9))) := (Below.refl _ _).alloc (Nat.le_refl _) _
  obtain ⟨q, hq⟩ : ∃ q, askM L [x, y, t] = q := ⟨_, rfl⟩
  have HQQ : Hid (askM L [x, y, t] = q) := hq
  have CA := l07AskS a n c L (some ⟨w.heap.size, 0, none⟩) 3 3 [x, y, t] (w.alloc (.cells #[.string x, .string y, .string t] 9)) hL hn hs (HS.out.below AL.out) rfl (by omega) (fun s hs => by
    rcases List.mem_cons.1 hs with rfl | hs
    · exact hx
    · rcases List.mem_cons.1 hs with rfl | hs
      · exact hy
      · rw [List.mem_singleton.1 hs]; exact ht) (src_3S rfl) q hq
  have EM : Hid (∀ W, Below w.heap.size w W → (W.alloc (.cells #[] 68)).ownsRow w.heap.size 68 2 (.slice (some ⟨W.heap.size, 0, none⟩) 0 0) ([] : List PM).length (cellsP []) ∧ Below w.heap.size w (W.alloc (.cells #[] 68))) := fun W hW => ⟨own_empty rfl hW.size, hW.alloc hW.size _⟩
  have HE0 : Hid ((w.alloc (.cells #[] 68)).ownsRow w.heap.size 68 2 (.slice (some ⟨w.heap.size, 0, none⟩) 0 0) ([] : List PM).length (cellsP []) ∧ Below w.heap.size w (w.alloc (.cells #[] 68))) := EM.out w (Below.refl _ _)
  clear hL h hs hq
  by_cases h1 : 4096 < n
  · have h1i : (4096 : Int) < (n : Int) := by omega
    obtain ⟨rfl, rfl, rfl⟩ := cm_bad HQ.out (by unfold askM; rw [if_pos (.inl (by rw [HLN.out]; exact h1))])
    go_enter Tryz.func30, Tryz.ntmps30
    go_wp2_with fail
    exact bodyPost_ret (v := .tuple #[.slice (some ⟨w.heap.size, 0, none⟩) 0 0, .int .i64 0, .int .i64 2]) (by simp [results, Tryz.results30, go_sem]) rfl ⟨_, rfl, HE0.out⟩
  have h1i : ¬ (4096 : Int) < (n : Int) := by omega
  by_cases h2 : 65536 < x.size
  · have h2i : (65536 : Int) < (x.size : Int) := by omega
    obtain ⟨rfl, rfl, rfl⟩ := cm_bad HQ.out (by
      unfold askM
      rw [if_pos (.inr (by show (smallT x && _) = false; rw [show smallT x = false from decide_eq_false (by omega)]; rfl))])
    go_enter Tryz.func30, Tryz.ntmps30
    go_wp2_with fail
    exact bodyPost_ret (v := .tuple #[.slice (some ⟨w.heap.size, 0, none⟩) 0 0, .int .i64 0, .int .i64 2]) (by simp [results, Tryz.results30, go_sem]) rfl ⟨_, rfl, HE0.out⟩
  have h2i : ¬ (65536 : Int) < (x.size : Int) := by omega
  by_cases h3 : 65536 < y.size
  · have h3i : (65536 : Int) < (y.size : Int) := by omega
    obtain ⟨rfl, rfl, rfl⟩ := cm_bad HQ.out (by
      unfold askM
      rw [if_pos (.inr (by show (smallT x && (smallT y && _)) = false; rw [show smallT y = false from decide_eq_false (by omega)]; simp))])
    go_enter Tryz.func30, Tryz.ntmps30
    go_wp2_with fail
    exact bodyPost_ret (v := .tuple #[.slice (some ⟨w.heap.size, 0, none⟩) 0 0, .int .i64 0, .int .i64 2]) (by simp [results, Tryz.results30, go_sem]) rfl ⟨_, rfl, HE0.out⟩
  have h3i : ¬ (65536 : Int) < (y.size : Int) := by omega
  by_cases h4 : 65536 < t.size
  · have h4i : (65536 : Int) < (t.size : Int) := by omega
    obtain ⟨rfl, rfl, rfl⟩ := cm_bad HQ.out (by
      unfold askM
      rw [if_pos (.inr (by show (smallT x && (smallT y && (smallT t && true))) = false; rw [show smallT t = false from decide_eq_false (by omega)]; simp))])
    go_enter Tryz.func30, Tryz.ntmps30
    go_wp2_with fail
    exact bodyPost_ret (v := .tuple #[.slice (some ⟨w.heap.size, 0, none⟩) 0 0, .int .i64 0, .int .i64 2]) (by simp [results, Tryz.results30, go_sem]) rfl ⟨_, rfl, HE0.out⟩
  have h4i : ¬ (65536 : Int) < (t.size : Int) := by omega
  have HQ1 := HQ.out
  unfold cmR at HQ1
  rw [HQQ.out] at HQ1
  by_cases hq0 : q = 0
  · subst hq0
    rw [if_neg (by decide)] at HQ1
    obtain ⟨hst, hsx, hsy, hsz⟩ := ask_zero3 HQQ.out
    have hgl := (store_facts hst).1
    obtain ⟨b, o, rfl⟩ := store_src hst HS.out
    have CP := fun W (hW : Below w.heap.size w W) => l07CopyS b o n c L HLN.out hc hc9 hgl x y t un (short_size' hsx) (short_size' hsy) (short_size' hsz) (fun hk v v1 v2 hv => by
      have hp := (getM_mem hgl.2.2).1 hv
      have hp2 : (mailK x y ((un.toNat : Nat) : Int), v) ∈ L := by rw [show ((un.toNat : Nat) : Int) = un by omega]; exact hp
      obtain ⟨m1, m2, m3, m4, _⟩ := mail_val hst (word_slash hsx) (word_slash hsy) (user_known hst hk) (by omega) hp2
      exact ⟨m1, m2, m3, m4⟩) W (HS.out.below hW) R Q1 Q2 HQ1
    have hln : R.length ≤ 4000 := by
      have h9 := cp_small hgl x y un t
      rw [HQ1] at h9
      exact h9
    clear HQ1 HQ hst hsx hsy hsz hgl
    go_enter Tryz.func30, Tryz.ntmps30
    go_wp2_with fail
    refine CA.mono ?_
    rintro e w3 ⟨rfl, hb3⟩
    have B3 : Hid (Below w.heap.size w w3) := AL.out.trans (hb3.mono AL.out.size)
    have CP4 := CP w3 B3.out
    clear hb3 CA CP
    go_wp2_with fail
    refine CP4.mono ?_
    rintro e w5 ⟨a5, n5, c5, rfl, k1, k2, hb5⟩
    have B5 : Hid (Below w.heap.size w w5) := B3.out.trans (hb5.mono B3.out.size)
    have CO := l07OwnS a5 n5 c5 R w5 k1 (by omega) k2
    have HN5 : Hid (R.length = n5) := k1
    clear hb5 CP4 k1 k2
    go_wp2_with fail
    refine CO.mono ?_
    rintro e w6 ⟨v6, rfl, ho6, hb6⟩
    obtain ⟨a6, c6, rfl, _, _⟩ := own_src ho6
    have HF : Hid (w6.ownsRow w.heap.size 68 2 (.slice a6 n5 c6) R.length (cellsP R) ∧ Below w.heap.size w w6) := ⟨by rw [HN5.out]; exact own_mono ho6 B5.out.size, B5.out.trans (hb6.mono B5.out.size)⟩
    clear ho6 hb6 CO
    go_wp2_with fail
    exact bodyPost_ret (v := .tuple #[.slice a6 n5 c6, .int .i64 Q1, .int .i64 Q2]) (by simp [results, Tryz.results30, go_sem]) rfl ⟨_, rfl, HF.out⟩
  · rw [if_pos hq0] at HQ1
    obtain ⟨rfl, rfl, rfl⟩ : [] = R ∧ 0 = Q1 ∧ q = Q2 := by cases HQ1; exact ⟨rfl, rfl, rfl⟩
    have hqi : (q != 0) = true := by simpa using hq0
    clear HQ1 HQ
    go_enter Tryz.func30, Tryz.ntmps30
    go_wp2_with fail
    refine CA.mono ?_
    rintro e w3 ⟨rfl, hb3⟩
    have B3 : Hid (Below w.heap.size w w3) := AL.out.trans (hb3.mono AL.out.size)
    have HE3 : Hid ((w3.alloc (.cells #[] 68)).ownsRow w.heap.size 68 2 (.slice (some ⟨w3.heap.size, 0, none⟩) 0 0) ([] : List PM).length (cellsP []) ∧ Below w.heap.size w (w3.alloc (.cells #[] 68))) := EM.out w3 B3.out
    clear hb3 CA
    go_wp2_with fail
    exact bodyPost_ret (v := .tuple #[.slice (some ⟨w3.heap.size, 0, none⟩) 0 0, .int .i64 0, .int .i64 q]) (by simp [results, Tryz.results30, go_sem]) rfl ⟨_, rfl, HE3.out⟩
theorem store_block {L : List PM} {w : World} {a : Option Addr} (hst : storeB L = true) (hs : Src w a (cellsP L)) : ∀ ad, a = some ad → ad.block < w.heap.size := fun ad e => by
  obtain ⟨hgl, nx0, hnm, n1, n2, _⟩ := store_facts hst
  rw [hnm] at n1
  have hne : L ≠ [] := fun e => by
    rw [e] at n1
    have h5' : nextM [] = 0 := rfl
    omega
  have hl0 : 0 < (cellsP L).length := by
    rw [cellsP_length]
    have := List.length_pos_iff.2 hne
    omega
  rcases hs with h9 | ⟨b', o', e9, hc⟩
  · rw [h9] at hl0
    simp at hl0
  · rw [e9] at e
    cases e
    exact World.block_lt_of_cell? _ _ (hc 0 hl0)
set_option maxHeartbeats 4000000 in
theorem implCopyMail (a : Option Addr) (n c : Nat) (L : List PM) (x y : ByteArray) (un : Int) (t : ByteArray) (w : World) (hL : L.length = n) (hn : n ≤ 1048576) (hs : ∀ x ∈ L, x.1.size ≤ 1048576 ∧ x.2.size ≤ 1048576) (h : Src w a (cellsP L)) (hx : x.size ≤ 1048576) (hy : y.size ≤ 1048576) (ht : t.size ≤ 1048576) (hG : Gl w) (h8 : 8 ≤ w.heap.size) (R : List PM) (Q1 Q2 : Int) (HQ : Hid (cmR L x y un t = (R, Q1, Q2))) :
    Calls Tryz.prog 29 #[.slice a n c, .string x, .string y, .int .i64 un, .string t] w fun e w' => ∃ v, e = .returned (.tuple #[v, .int .i64 Q1, .int .i64 Q2]) ∧ w'.ownsRow w.heap.size 68 2 v R.length (cellsP R) ∧ Below w.heap.size w w' := by
  have HLN : Hid (L.length = n) := hL
  have HS : Hid (Src w a (cellsP L)) := h
  have HG : Hid (Gl w) := hG
  have AL : Hid (Below w.heap.size w (w.alloc (.cells #[.string x, .string y, .string t] 9))) := (Below.refl _ _).alloc (Nat.le_refl _) _
  obtain ⟨q, hq⟩ : ∃ q, askM L [x, y, t] = q := ⟨_, rfl⟩
  have HQQ : Hid (askM L [x, y, t] = q) := hq
  have CA := mailFaultI a n c L (some ⟨w.heap.size, 0, none⟩) 3 3 [x, y, t] (w.alloc (.cells #[.string x, .string y, .string t] 9)) hL hn hs (HS.out.below AL.out) rfl (by omega) (fun s hs => by
    rcases List.mem_cons.1 hs with rfl | hs
    · exact hx
    · rcases List.mem_cons.1 hs with rfl | hs
      · exact hy
      · rw [List.mem_singleton.1 hs]; exact ht) (src_3S rfl) (hG.below h8 AL.out) (by have := AL.out.size; omega) q hq
  have HQ1 := HQ.out
  unfold cmR at HQ1
  rw [HQQ.out] at HQ1
  clear hL h hs hq HQ hG
  by_cases hq0 : q = 0
  case neg =>
    rw [if_pos hq0] at HQ1
    obtain ⟨rfl, rfl, rfl⟩ : [] = R ∧ 0 = Q1 ∧ q = Q2 := by cases HQ1; exact ⟨rfl, rfl, rfl⟩
    have hqi : (q != 0) = true := by simpa using hq0
    clear HQ1
    go_enter Tryz.func29, Tryz.ntmps29
    go_wp2_with fail
    refine CA.mono ?_
    rintro e w3 ⟨rfl, hb3⟩
    have B3 : Hid (Below w.heap.size w w3) := AL.out.trans (hb3.mono AL.out.size)
    clear hb3 CA
    go_wp2_with fail
    exact bodyPost_ret (v := .tuple #[.slice none 0 0, .int .i64 0, .int .i64 q]) (by simp [results, Tryz.results29, go_sem]) rfl ⟨_, rfl, World.ownsRow_nil _ _ _ _, B3.out⟩
  subst hq0
  rw [if_neg (by decide)] at HQ1
  obtain ⟨hst, hsx, hsy, hsz⟩ := ask_zero3 HQQ.out
  have hus := word_slash hsx
  have hfs := word_slash hsy
  have hzs := word_slash hsz
  have hu8 := short_size hsx
  have hy8 := short_size hsy
  have hz8 := short_size hsz
  obtain ⟨hgl, nx0, hnm, n1, n2, _⟩ := store_facts hst
  rw [hnm] at n1 n2
  have hn60 := hgl.1
  rw [HLN.out] at hn60
  have CD := fun W (hW : Below w.heap.size w W) => deskWithI a n c L x W HLN.out (HS.out.below hW) (HG.out.below h8 hW) (by have := hW.size; omega) hst hus (by omega)
  have HFA : Hid (∀ S, takeAll (nextM L) x S0 L = some S → lackM S.word S.fs [y, t] = (if knownR L x y ≠ 0 then knownR L x y else knownR L x t) ∧ sumF S.fs ≤ 60 ∧ (knownR L x y = 0 → knownR L x t = 0 → S.word.toList ≠ [] ∧ ∃ g, lookF y S.fs = some g ∧ ∃ g2, lookF t S.fs = some g2 ∧ (∀ m ∈ g.mails, cpT L x y m.1 t = appR L x t m.2.2 m.2.1 ∧ ∀ q S', apM S g2 m.2.1 m.2.2 = (q, S') → AppFits L (nextM L) x g2.next q S' (appT L x t m.2.2 m.2.1)) ∧ ((∀ m ∈ g.mails, m.1 ≠ un) → cpT L x y un t = (L, 0, 5)))) := fun S hS =>
    ⟨known2 hst hus hfs hzs hS, by
      rw [sum_count hst hus hS]
      unfold countM
      exact Nat.le_trans (List.length_filter_le _ _) hgl.1, fun k1 k2 => by
      obtain ⟨hw, g, hl⟩ := known_zero hst hus hfs hS k1
      obtain ⟨_, g2, hl2⟩ := known_zero hst hus hzs hS k2
      refine ⟨hw, g, hl, g2, hl2, fun m hm => ?_, fun hm => cp_miss hst hus hfs hS hl hm⟩
      obtain ⟨e1, e2, e3, e4⟩ := cp_hit (tf := t) hst hus hfs hS hw hl hm
      exact ⟨e1, fun q S' hop => app_fits hst hsx hsz e4 e2 e3 hS hw hl2 hop⟩⟩
  have HAR : Hid (cpR L x y un t = (R, Q1, Q2)) := HQ1
  have HBL : Hid (∀ ad, a = some ad → ad.block < w.heap.size) := store_block hst HS.out
  obtain ⟨nx, hnx⟩ : ∃ z, nextM L = z := ⟨_, rfl⟩
  simp only [hnx] at CD HFA n1 n2
  clear HQ1 hst hsx hsy hsz hgl hnm hnx
  go_enter Tryz.func29, Tryz.ntmps29
  go_wp2_with fail
  refine CA.mono ?_
  rintro e w3 ⟨rfl, hb3⟩
  have B3 : Hid (Below w.heap.size w w3) := AL.out.trans (hb3.mono AL.out.size)
  clear hb3 CA
  go_wp2_with fail
  refine (CD _ B3.out).mono ?_
  rintro e w5 ⟨M, S, rfl, hS, hSt, hM, hb5⟩
  have B5 : Hid (Below w.heap.size w w5) := B3.out.trans (hb5.mono B3.out.size)
  have hM2 : w.heap.size ≤ M := by have h9 := B3.out.size; omega
  obtain ⟨k1, k3, k4⟩ := HFA.out S hS
  have AL5 : Hid (Below w5.heap.size w5 (w5.alloc (.cells #[.string y, .string t] 9))) := (Below.refl _ _).alloc (Nat.le_refl _) _
  have CL := lacksI (w5.alloc (.cells #[.string y, .string t] 9)) M a n c nx x S n (hSt.later AL5.out) (by omega) (some ⟨w5.heap.size, 0, none⟩) 2 2 [y, t] rfl (by omega) (fun s hs => by
    rcases List.mem_cons.1 hs with rfl | hs
    · omega
    · rw [List.mem_singleton.1 hs]; omega) (src_2S rfl) _ k1
  have HST5 : Hid (StAt w5 M a n c nx x S n) := hSt
  have hMw : M + 1 < w5.heap.size := by
    obtain ⟨_, _, hD, _⟩ := hSt
    exact World.block_lt_of_cell? _ _ (hD.1 0 _ rfl).1
  obtain ⟨kk, hkk⟩ : ∃ z, (if knownR L x y ≠ 0 then knownR L x y else knownR L x t) = z := ⟨_, rfl⟩
  rw [hkk] at CL
  have HK : Hid (sumF S.fs ≤ 60 ∧ (knownR L x y = 0 → knownR L x t = 0 → S.word.toList ≠ [] ∧ ∃ g, lookF y S.fs = some g ∧ ∃ g2, lookF t S.fs = some g2 ∧ (∀ m ∈ g.mails, cpT L x y m.1 t = appR L x t m.2.2 m.2.1 ∧ ∀ q S', apM S g2 m.2.1 m.2.2 = (q, S') → AppFits L nx x g2.next q S' (appT L x t m.2.2 m.2.1)) ∧ ((∀ m ∈ g.mails, m.1 ≠ un) → cpT L x y un t = (L, 0, 5)))) := ⟨k3, k4⟩
  have HKK : Hid ((if knownR L x y ≠ 0 then knownR L x y else knownR L x t) = kk) := hkk
  clear hS hSt hb5 CD k1 k3 k4 HFA hkk
  go_wp2_with fail
  refine CL.mono ?_
  rintro e w6 ⟨rfl, hb6⟩
  have R6 : Hid (Below w5.heap.size w5 w6) := AL5.out.trans (hb6.mono AL5.out.size)
  have B6 : Hid (Below w.heap.size w w6) := B5.out.trans (R6.out.mono B5.out.size)
  clear hb6 CL
  by_cases hk0 : kk = 0
  case neg =>
    have hki : (kk != 0) = true := by simpa using hk0
    have HRR : Hid (R = L ∧ 0 = Q1 ∧ kk = Q2) := by
      have h9 := HAR.out
      have h7 := HKK.out
      unfold cpR at h9
      by_cases e1 : knownR L x y = 0
      · rw [if_neg (by simp [e1])] at h7 h9
        rw [h7, if_pos hk0] at h9
        cases h9
        exact ⟨rfl, rfl, rfl⟩
      · rw [if_pos e1] at h7 h9
        rw [h7] at h9
        cases h9
        exact ⟨rfl, rfl, rfl⟩
    have CC := copyListI a n c L w6 HLN.out (by omega) (HS.out.below B6.out)
    clear HK
    go_wp2_with fail
    refine CC.mono ?_
    rintro e w7 ⟨v7, rfl, ho7, hb7⟩
    obtain ⟨a7, c7, rfl, _, _⟩ := own_src ho7
    have HF : Hid (w7.ownsRow w.heap.size 68 2 (.slice a7 n c7) R.length (cellsP R) ∧ Below w.heap.size w w7) := ⟨by rw [HRR.out.1, HLN.out]; exact own_mono ho7 B6.out.size, B6.out.trans (hb7.mono B6.out.size)⟩
    have HR2 : Hid (0 = Q1 ∧ kk = Q2) := HRR.out.2
    clear CC ho7 hb7
    go_wp2_with fail
    exact bodyPost_ret (v := .tuple #[.slice a7 n c7, .int .i64 0, .int .i64 kk]) (by simp [results, Tryz.results29, go_sem]) rfl ⟨_, by rw [HR2.out.1, HR2.out.2], HF.out⟩
  subst hk0
  obtain ⟨e1, e2⟩ : knownR L x y = 0 ∧ knownR L x t = 0 := by
    have h7 := HKK.out
    by_cases e1 : knownR L x y = 0
    · rw [if_neg (by simp [e1])] at h7
      exact ⟨e1, h7⟩
    · rw [if_pos e1] at h7
      exact absurd h7 e1
  obtain ⟨hw, g, hl, g2, hl2, hhit, hmiss⟩ := HK.out.2 e1 e2
  have hsum := HK.out.1
  have HT : Hid (cpT L x y un t = (R, Q1, Q2)) := by
    have h9 := HAR.out
    unfold cpR at h9
    rw [if_neg (by simp [e1]), if_neg (by simp [e2])] at h9
    exact h9
  have HHM : Hid ((∀ m ∈ g.mails, cpT L x y m.1 t = appR L x t m.2.2 m.2.1 ∧ ∀ q S', apM S g2 m.2.1 m.2.2 = (q, S') → AppFits L nx x g2.next q S' (appT L x t m.2.2 m.2.1)) ∧ ((∀ m ∈ g.mails, m.1 ≠ un) → cpT L x y un t = (L, 0, 5)) ∧ knownR L x t = 0) := ⟨hhit, hmiss, e2⟩
  have HST6 : Hid (StAt w6 M a n c nx x S n) := HST5.out.later R6.out
  obtain ⟨va, X, hD, hV, hN, hf, hkk⟩ := HST6.out
  obtain ⟨xf, hx1, hxg⟩ : ∃ z, lookX (folderK x y) X = some z ∧ fmX z = g := by
    have h9 := hV.look y
    rw [hl] at h9
    obtain ⟨z, h1, h2⟩ := Option.map_eq_some_iff.1 h9
    exact ⟨z, h1, h2⟩
  obtain ⟨ax, cx, hxv, hsm, _⟩ := own_src (hD.2.2.2.1 xf (look_mem hx1))
  have CT := atI y w6 M _ (by omega) (by show x.size ≤ 1048576; omega) hD
  have hat : atX (lookX (folderK x y) X) = .agg #[.string xf.name, .int .i64 xf.val, .int .i64 xf.next, .slice ax xf.mails.length cx] := by
    rw [hx1]
    show valX xf = _
    unfold valX
    rw [hxv]
  simp only [hat] at CT
  have hxm : xf.mails = g.mails := by rw [← hxg]
  have hgl9 := (hf g (lookF_mem hl).1).2.2
  rw [hxm] at CT hsm
  obtain ⟨Ms, hMs⟩ : ∃ z, g.mails = z := ⟨_, rfl⟩
  rw [hMs] at CT hsm HHM hgl9
  obtain ⟨ml, hml⟩ : ∃ z, Ms.length = z := ⟨_, rfl⟩
  rw [hml] at CT hgl9
  have HSM : Hid (Src w6 ax (cellsMl Ms) ∧ Ms.length = ml) := ⟨hsm, hml⟩
  have HL2 : Hid (lookF t S.fs = some g2) := hl2
  obtain ⟨xn, hxn⟩ : ∃ z, xf.name = z := ⟨_, rfl⟩
  obtain ⟨xv, hxv2⟩ : ∃ z, xf.val = z := ⟨_, rfl⟩
  obtain ⟨xx, hxx⟩ : ∃ z, xf.next = z := ⟨_, rfl⟩
  rw [hxn, hxv2, hxx] at CT
  clear hD hV hN hf hkk hx1 hxg hxv hsm hat hxm hMs hml hxn hxv2 hxx hl hl2 hhit hmiss HK HKK e1 e2 HAR hw
  go_wp2_with fail
  refine CT.mono ?_
  rintro e w7 ⟨rfl, hb7⟩
  have R7 : Hid (Below w6.heap.size w6 w7) := hb7
  clear hb7 CT
  obtain ⟨w8, hw8⟩ : ∃ W, w7.alloc (.cells #[.string xn, .int .i64 xv, .int .i64 xx, .slice ax ml cx] 28) = W := ⟨_, rfl⟩
  have A8 : Below w7.heap.size w7 w8 := by rw [← hw8]; exact (Below.refl _ _).alloc (Nat.le_refl _) _
  have X8 : Hid (Box w8 w7.heap.size [.string xn, .int .i64 xv, .int .i64 xx, .slice ax ml cx]) := by show Box _ _ _; rw [← hw8]; exact Box.new rfl
  have R8 : Hid (Below w6.heap.size w6 w8) := R7.out.trans (A8.mono R7.out.size)
  have CPL := placeI xn xv xx ax ml cx Ms un w8 HSM.out.2 (by omega) (HSM.out.1.below R8.out)
  clear A8
  obtain ⟨y0, _⟩ := X8.out 0 _ rfl
  obtain ⟨y1, _⟩ := X8.out 1 _ rfl
  obtain ⟨y2, _⟩ := X8.out 2 _ rfl
  obtain ⟨y3, _⟩ := X8.out 3 _ rfl
  go_wp2_with fail
  refine CPL.mono ?_
  rintro e w9 ⟨i, rfl, hpl, hi1, hb9⟩
  have R9 : Hid (Below w6.heap.size w6 w9) := R8.out.trans (hb9.mono R8.out.size)
  have X9 : Hid (Box w9 w7.heap.size [.string xn, .int .i64 xv, .int .i64 xx, .slice ax ml cx]) := X8.out.below hb9
  have B9 : Hid (Below w.heap.size w w9) := B6.out.trans (R9.out.mono B6.out.size)
  clear hb9 CPL
  rcases hpl with ⟨j, hj, rfl, hju⟩ | ⟨rfl, hno⟩
  · have hj0 : (0 : Int) ≤ (j : Int) := by omega
    have hjm : j < ml := by rw [← HSM.out.2]; exact hj
    have hjmi : (j : Int) < (ml : Int) := by omega
    obtain ⟨bb, oo, x0, x1, x2, rfl, d0, d1, d2, hxj⟩ := srcMl (HSM.out.1.below R9.out) hj
    obtain ⟨c3, _⟩ := X9.out 3 _ rfl
    have hmem : (x0, x1, x2) ∈ Ms := by rw [← hxj.out]; exact mem_getD' Ms ml0 j hj
    obtain ⟨hcp, haf⟩ := HHM.out.1 _ hmem
    have hx0 : x0 = un := by rw [hxj.out] at hju; exact hju
    dsimp only at hcp haf
    have hA : appT L x t x2 x1 = (R, Q1, Q2) := by
      rw [← appR_T HHM.out.2.2, ← hcp, hx0]
      exact HT.out
    have CE := appendedI w9 M (a := a) n c nx x S n (HST6.out.later R9.out) t g2 HL2.out (by omega) (by omega) x0 x1 x2 hsum (by omega) (by omega) n2 L HLN.out hn60 (HS.out.below B9.out) (HG.out.below h8 B9.out) (by omega) (fun ad e => by have h9 := HBL.out ad e; omega) (appT L x t x2 x1) haf R Q1 Q2 hA
    clear hju hxj hmem hcp haf hx0 hA HHM
    go_wp2_with fail
    refine CE.mono ?_
    rintro e w10 ⟨v10, rfl, ho10, hb10⟩
    obtain ⟨a10, c10, rfl, _, _⟩ := own_src ho10
    have HF : Hid (w10.ownsRow w.heap.size 68 2 (.slice a10 R.length c10) R.length (cellsP R) ∧ Below w.heap.size w w10) := ⟨own_mono ho10 B9.out.size, B9.out.trans (hb10.mono hM2)⟩
    clear CE ho10 hb10
    go_wp2_with fail
    exact bodyPost_ret (v := .tuple #[.slice a10 R.length c10, .int .i64 Q1, .int .i64 Q2]) (by simp [results, Tryz.results29, go_sem]) rfl ⟨_, rfl, HF.out⟩
  · have h5 := HHM.out.2.1 hno
    rw [HT.out] at h5
    have HRR : Hid (R = L ∧ 0 = Q1 ∧ 5 = Q2) := by cases h5; exact ⟨rfl, rfl, rfl⟩
    have hdec : decide ((0 : Int) ≤ -1) = false := by decide
    have CC := copyListI a n c L w9 HLN.out (by omega) (HS.out.below B9.out)
    clear h5 hno HHM
    go_wp2_with fail
    refine CC.mono ?_
    rintro e w10 ⟨v7, rfl, ho7, hb7⟩
    obtain ⟨a7, c7, rfl, _, _⟩ := own_src ho7
    have HF : Hid (w10.ownsRow w.heap.size 68 2 (.slice a7 n c7) R.length (cellsP R) ∧ Below w.heap.size w w10) := ⟨by rw [HRR.out.1, HLN.out]; exact own_mono ho7 B9.out.size, B9.out.trans (hb7.mono B9.out.size)⟩
    have HR2 : Hid (0 = Q1 ∧ 5 = Q2) := HRR.out.2
    clear CC ho7 hb7
    go_wp2_with fail
    exact bodyPost_ret (v := .tuple #[.slice a7 n c7, .int .i64 0, .int .i64 5]) (by simp [results, Tryz.results29, go_sem]) rfl ⟨_, by rw [HR2.out.1, HR2.out.2], HF.out⟩
end Go.Proofs.YtddnecljdecamaaGreatDoor
namespace Go.Proofs.YtddnecljdecamaaGreatDoor
open Go.ChangeShapes Go.WideShapes Go.ChangeAt Go.RowKit Go.Deep Go.Lib
open Go.ChangeMaps (setBlock)
set_option linter.unusedVariables false
set_option linter.unusedSimpArgs false
set_option maxRecDepth 100000

theorem st_putG {w : World} {M : Nat} {a : Option Addr} {n c : Nat} {va : Value} {sd : List PM} {nx' : Int} {u wd : ByteArray} {X : List FX} {fs : List FM} {k : Nat} {g : FM} (hD : DeskAt w M ⟨a, n, c, va, sd, nx', u, wd, X⟩) (hV : View u X (putF g fs)) (hN : (fs.map (·.name)).Nodup) (hf : ∀ f ∈ fs, 1 ≤ f.next ∧ f.next ≤ 999 ∧ f.mails.length ≤ k) (hg : 1 ≤ g.next ∧ g.next ≤ 999 ∧ g.mails.length ≤ k) (hk : sd.length ≤ k) : StAt w M a n c nx' u ⟨sd, wd, putF g fs⟩ k :=
  ⟨va, X, hD, hV, putF_names hN, fun x hx => by
    rcases putF_mem hx with hx | rfl
    · exact hf x hx
    · exact hg, hk⟩
theorem drop_keys {u f : ByteArray} {X : List FX} {fs : List FM} (hV : View u X fs) (hN : (fs.map (·.name)).Nodup) : ∀ z ∈ dropX (folderK u f) X, z.k ≠ folderK u f := fun z hz e => by
  have h1 : z.k ∈ (dropX (folderK u f) X).map (·.k) := List.mem_map.2 ⟨z, hz, rfl⟩
  rw [hV.drop.keys] at h1
  obtain ⟨g, hg, hge⟩ := List.mem_map.1 h1
  have h2 : folderK u g.name = folderK u f := hge.trans e
  exact drop_names hN g hg (folderK_inj h2)
theorem at_some {w : World} {M : Nat} {D : DK} {u f : ByteArray} {fs : List FM} {g : FM} (hD : DeskAt w M D) (hV : View u D.X fs) (hl : lookF f fs = some g) : ∃ ax cx, atX (lookX (folderK u f) D.X) = .agg #[.string g.name, .int .i64 g.val, .int .i64 g.next, .slice ax g.mails.length cx] ∧ w.ownsRow (M + 2) 36 3 (.slice ax g.mails.length cx) g.mails.length (cellsMl g.mails) ∧ ∀ z ∈ D.X, z.k ≠ folderK u f → ∀ y, z.v.ownBlock = some y → Value.ownBlock (.slice ax g.mails.length cx) ≠ some y := by
  have hlx := hV.look f
  rw [hl] at hlx
  obtain ⟨x, hx1, hx2⟩ := Option.map_eq_some_iff.1 hlx
  subst hx2
  have ho := hD.2.2.2.1 x (look_mem hx1)
  obtain ⟨ax, cx, hv, _, _⟩ := own_src ho
  refine ⟨ax, cx, ?_, ?_, fun z hz hk => ?_⟩
  · rw [hx1]
    show valX x = _
    unfold valX
    rw [hv]
  · rw [hv] at ho
    exact ho
  · have h9 := rows_apart hD.2.2.2 hx1 hz hk
    rw [hv] at h9
    exact h9
set_option maxHeartbeats 8000000 in
theorem renameFolderI (w : World) (M : Nat) (a : Option Addr) (n c : Nat) (nx : Int) (u : ByteArray) (S : SM) (k : Nat) (hS : StAt w M a n c nx u S k) (f tf : ByteArray) (hfz : f.size ≤ 1000) (htz : tf.size ≤ 1000) (hu : u.size ≤ 1000) (n0 : 0 ≤ nx) (n1 : nx ≤ 10000) (q nx' : Int) (S' : SM) (HQ : Hid (rnM nx S f tf = (q, nx', S'))) :
    Calls Tryz.prog 73 #[.pointer (some ⟨M + 1, 0, none⟩), .string f, .string tf] w fun e w' => e = .returned (.int .i64 q) ∧ StAt w' M a n c nx' u S' k ∧ Below M w w' := by
  have hq9 := HQ.out
  unfold rnM at hq9
  have AL : Below w.heap.size w (w.alloc (.cells #[.string f] 9)) := (Below.refl _ _).alloc (Nat.le_refl _) _
  have HST : Hid (StAt (w.alloc (.cells #[.string f] 9)) M a n c nx u S k) := hS.later AL
  have hM : M ≤ w.heap.size := by
    obtain ⟨_, _, hD, _⟩ := hS
    have h9 : M + 1 < w.heap.size := World.block_lt_of_cell? _ _ (hD.1 0 _ rfl).1
    omega
  have HAL : Hid (Below w.heap.size w (w.alloc (.cells #[.string f] 9))) := AL
  obtain ⟨lq, hlq⟩ : ∃ x, lackM S.word S.fs [f] = x := ⟨_, rfl⟩
  have CL := lacksI (w.alloc (.cells #[.string f] 9)) M a n c nx u S k HST.out hu (some ⟨w.heap.size, 0, none⟩) 1 1 [f] rfl (by omega) (fun s hs => by rw [List.mem_singleton.1 hs]; omega) (src_1S rfl) lq hlq
  have hbad : ∀ z : Int, z ≠ 0 → lq = z → (q, nx', S') = (z, nx, S) → Calls Tryz.prog 73 #[.pointer (some ⟨M + 1, 0, none⟩), .string f, .string tf] w fun e w' => e = .returned (.int .i64 q) ∧ StAt w' M a n c nx' u S' k ∧ Below M w w' := by
    intro z hz hl he
    cases he
    subst hl
    have hzi : (lq != 0) = true := by simpa using hz
    clear HQ hq9 hlq hS AL
    go_enter Tryz.func73, Tryz.ntmps73
    go_wp2_with fail
    refine CL.mono ?_
    rintro e w1 ⟨rfl, hb1⟩
    have HF : Hid (StAt w1 M a n c nx u S k ∧ Below M w w1) := ⟨HST.out.later hb1, (HAL.out.trans (hb1.mono HAL.out.size)).mono hM⟩
    clear CL hb1
    go_wp2_with fail
    go_ret
    exact ⟨rfl, HF.out.1, HF.out.2⟩
  by_cases hw : S.word.toList = []
  · rw [if_pos hw] at hq9
    exact hbad 15 (by decide) (by rw [← hlq]; unfold lackM; rw [if_pos hw]) hq9.symm
  rw [if_neg hw] at hq9
  cases hl : lookF f S.fs with
  | none =>
    rw [hl] at hq9
    exact hbad 16 (by decide) (by rw [← hlq]; unfold lackM; rw [if_neg hw, if_pos (by show ((lookF f S.fs).isSome && true) = false; rw [hl]; rfl)]) hq9.symm
  | some g =>
  rw [hl, rnO_some] at hq9
  obtain rfl : 0 = lq := by rw [← hlq]; unfold lackM; rw [if_neg hw, if_neg (by show ¬ ((lookF f S.fs).isSome && true) = false; rw [hl]; simp)]
  clear hbad hlq
  by_cases hi : f = inboxT
  · rw [if_pos hi] at hq9
    cases hq9
    have hib : (f.toList == [105, 110, 98, 111, 120]) = true := by rw [hi, ByteArray.toList_eq]; rfl
    clear HQ hS AL hi hl hw
    go_enter Tryz.func73, Tryz.ntmps73
    go_wp2_with fail
    refine CL.mono ?_
    rintro e w1 ⟨rfl, hb1⟩
    have HF : Hid (StAt w1 M a n c nx u S k ∧ Below M w w1) := ⟨HST.out.later hb1, (HAL.out.trans (hb1.mono HAL.out.size)).mono hM⟩
    clear CL hb1
    go_wp2_with fail
    go_ret
    exact ⟨rfl, HF.out.1, HF.out.2⟩
  rw [if_neg hi] at hq9
  have hib : (f.toList == [105, 110, 98, 111, 120]) = false := by
    refine beq_eq_false_iff_ne.2 fun e => hi ?_
    refine bs_inj ?_
    rw [← ByteArray.toList_eq, e]
  obtain ⟨tb, htb⟩ : ∃ t, (lookF tf S.fs).isSome = t := ⟨_, rfl⟩
  rw [htb] at hq9
  have HTB : Hid ((lookF tf S.fs).isSome = tb) := htb
  have HLS : Hid (lookF f S.fs = some g) := hl
  have HQ9 : Hid ((if tb = true then (9, nx, S) else if 9999 < nx then (6, nx, (⟨S.aside, S.word, dropF f S.fs⟩ : SM)) else (0, nx + 1, ⟨S.aside, S.word, putF ⟨tf, nx, g.next, g.mails⟩ (dropF f S.fs)⟩)) = (q, nx', S')) := hq9
  clear HQ hS AL hi hl hw htb hq9
  go_enter Tryz.func73, Tryz.ntmps73
  go_wp2_with fail
  refine CL.mono ?_
  rintro e w1 ⟨rfl, hb1⟩
  have B1 : Hid (Below M w w1) := (HAL.out.trans (hb1.mono HAL.out.size)).mono hM
  obtain ⟨va, X, hD, hV, hN, hf, hk⟩ := HST.out.later hb1
  have CH := hasI tf w1 M _ (by omega) (by show u.size ≤ 1048576; omega) hD tb (hV.some tf tb HTB.out)
  have HVN : Hid (View u X S.fs ∧ (S.fs.map (·.name)).Nodup ∧ (∀ f ∈ S.fs, 1 ≤ f.next ∧ f.next ≤ 999 ∧ f.mails.length ≤ k) ∧ S.aside.length ≤ k) := ⟨hV, hN, hf, hk⟩
  have HD1 : Hid (DeskAt w1 M ⟨a, n, c, va, S.aside, nx, u, S.word, X⟩) := hD
  clear hD hV hN hf hk CL hb1 HST HAL
  go_wp2_with fail
  refine CH.mono ?_
  rintro e w2 ⟨rfl, hb2⟩
  have hM1 : M ≤ w1.heap.size := by
    have h9 : M + 1 < w1.heap.size := World.block_lt_of_cell? _ _ (HD1.out.1 0 _ rfl).1
    omega
  have B2 : Hid (Below M w w2) := B1.out.trans (hb2.mono hM1)
  have HD2 : Hid (DeskAt w2 M ⟨a, n, c, va, S.aside, nx, u, S.word, X⟩) := HD1.out.later hb2
  clear hb2 CH HD1 hM1
  cases tb with
  | true =>
    have HF : Hid (StAt w2 M a n c nx u S k ∧ Below M w w2) := ⟨⟨va, X, HD2.out, HVN.out⟩, B2.out⟩
    have hq := HQ9.out
    rw [if_pos rfl] at hq
    cases hq
    go_wp2_with fail
    go_ret
    exact ⟨rfl, HF.out.1, HF.out.2⟩
  | false =>
  have HQ8 : Hid ((if 9999 < nx then (6, nx, (⟨S.aside, S.word, dropF f S.fs⟩ : SM)) else (0, nx + 1, ⟨S.aside, S.word, putF ⟨tf, nx, g.next, g.mails⟩ (dropF f S.fs)⟩)) = (q, nx', S')) := by have h9 := HQ9.out; rw [if_neg (by decide)] at h9; exact h9
  clear HQ9
  obtain ⟨ax, cx, hat, hown, hap⟩ := at_some HD2.out HVN.out.1 HLS.out
  have CT := atI f w2 M ⟨a, n, c, va, S.aside, nx, u, S.word, X⟩ (by omega) (by show u.size ≤ 1048576; omega) HD2.out
  have CT2 : Calls Tryz.prog 43 #[.pointer (some ⟨M + 1, 0, none⟩), .string f] w2 fun e w' => e = .returned (.agg #[.string g.name, .int .i64 g.val, .int .i64 g.next, .slice ax g.mails.length cx]) ∧ Below w2.heap.size w2 w' := by rw [← hat]; exact CT
  have hgb : 1 ≤ g.next ∧ g.next ≤ 999 ∧ g.mails.length ≤ k := HVN.out.2.2.1 g (lookF_mem HLS.out).1
  have HGB : Hid (1 ≤ g.next ∧ g.next ≤ 999 ∧ g.mails.length ≤ k) := hgb
  have HAP : Hid (∀ z ∈ X, z.k ≠ folderK u f → ∀ y, z.v.ownBlock = some y → Value.ownBlock (.slice ax g.mails.length cx) ≠ some y) := hap
  obtain ⟨ml, hml⟩ : ∃ t, g.mails.length = t := ⟨_, rfl⟩
  obtain ⟨gn, hgn⟩ : ∃ t, g.next = t := ⟨_, rfl⟩
  obtain ⟨gv, hgv⟩ : ∃ t, g.val = t := ⟨_, rfl⟩
  obtain ⟨nm, hnm⟩ : ∃ t, g.name = t := ⟨_, rfl⟩
  have HML : Hid (g.mails.length = ml) := hml
  have HGN : Hid (g.next = gn) := hgn
  rw [hml, hgn, hgv, hnm] at CT2
  rw [hml] at hown
  rw [hml] at HAP
  have HO2 : Hid (w2.ownsRow (M + 2) 36 3 (.slice ax ml cx) ml (cellsMl g.mails)) := hown
  clear hat hown hap CT hgb hml hgn hgv hnm
  go_wp2_with fail
  refine CT2.mono ?_
  rintro e w3 ⟨rfl, hb3⟩
  have hM2 : M + 2 ≤ w2.heap.size := by
    have h9 : M + 1 < w2.heap.size := World.block_lt_of_cell? _ _ (HD2.out.1 0 _ rfl).1
    omega
  obtain ⟨w4, hw4⟩ : ∃ W, w3.alloc (.cells #[.string tf, .int .i64 gv, .int .i64 gn, .slice ax ml cx] 28) = W := ⟨_, rfl⟩
  have A4 : Below w3.heap.size w3 w4 := by rw [← hw4]; exact (Below.refl _ _).alloc (Nat.le_refl _) _
  have B24 : Below w2.heap.size w2 w4 := hb3.trans (A4.mono hb3.size)
  have HD4 : DeskAt w4 M ⟨a, n, c, va, S.aside, nx, u, S.word, X⟩ := HD2.out.later B24
  have HO4 : w4.ownsRow (M + 2) 36 3 (.slice ax ml cx) ml (cellsMl g.mails) := own_below HO2.out B24
  have X4 : Box w4 w3.heap.size [.string tf, .int .i64 gv, .int .i64 gn, .slice ax ml cx] := by rw [← hw4]; exact Box.new rfl
  have B4 : Hid (Below M w w4) := B2.out.trans (B24.mono (by omega))
  have hne : w3.heap.size ≠ M := by
    have h9 := hb3.size
    omega
  have CD := dropI f w4 M _ (by omega) (by show u.size ≤ 1048576; omega) HD4 (HVN.out.1.some f true (by rw [HLS.out]; rfl))
  have HX4 : Hid (Box w4 w3.heap.size [.string tf, .int .i64 gv, .int .i64 gn, .slice ax ml cx] ∧ w4.ownsRow (M + 2) 36 3 (.slice ax ml cx) ml (cellsMl g.mails) ∧ w3.heap.size ≠ M) := ⟨X4, HO4, hne⟩
  clear hb3 A4 B24 HD4 HO4 X4 hne CT2 HO2 HD2 hM2
  go_wp2_with fail
  refine CD.mono ?_
  rintro e w5 ⟨rfl, hd5, hb5, hown5, hbox5⟩
  have B5 : Hid (Below M w w5) := B4.out.trans hb5
  have X5 : Hid (Box w5 w3.heap.size [.string tf, .int .i64 gv, .int .i64 gn, .slice ax ml cx]) := hbox5 _ _ HX4.out.2.2 HX4.out.1
  have CF := freshI tf gv gn ax ml cx g.mails HML.out w5 M a n c va S.aside nx u S.word (dropX (folderK u f) X) (dropF f S.fs) hd5 HVN.out.1.drop (HVN.out.2.1.sublist ((dropF_sub f S.fs).map _)) hu htz n0 n1 (hown5 _ _ _ _ _ HX4.out.2.1) (fun z hz _ y hy => HAP.out z ((dropX_sub _ X).subset hz) (drop_keys HVN.out.1 HVN.out.2.1 z hz) y hy)
  obtain ⟨x50, _⟩ := X5.out 0 _ rfl
  obtain ⟨x51, _⟩ := X5.out 1 _ rfl
  obtain ⟨x52, _⟩ := X5.out 2 _ rfl
  obtain ⟨x53, _⟩ := X5.out 3 _ rfl
  clear hd5 hb5 hown5 hbox5 CD HX4 hw4
  go_wp2_with fail
  refine CF.mono ?_
  rintro e w6 ⟨hb6, ⟨h9, rfl, hd6⟩ | ⟨h9, rfl, X', hd6, hv6⟩⟩
  · have HF : Hid (StAt w6 M a n c nx u ⟨S.aside, S.word, dropF f S.fs⟩ k ∧ Below M w w6) := ⟨⟨va, _, hd6, HVN.out.1.drop, HVN.out.2.1.sublist ((dropF_sub f S.fs).map _), fun x hx => HVN.out.2.2.1 x ((dropF_sub f S.fs).subset hx), HVN.out.2.2.2⟩, B5.out.trans hb6⟩
    have hq := HQ8.out
    rw [if_pos h9] at hq
    cases hq
    clear CF hd6 hb6 HQ8
    go_wp2_with fail
    go_ret
    exact ⟨rfl, HF.out.1, HF.out.2⟩
  · have HF : Hid (StAt w6 M a n c (nx + 1) u ⟨S.aside, S.word, putF ⟨tf, nx, g.next, g.mails⟩ (dropF f S.fs)⟩ k ∧ Below M w w6) := by
      have e9 := HGN.out
      rw [← e9] at hv6
      exact ⟨st_putG hd6 hv6 (HVN.out.2.1.sublist ((dropF_sub f S.fs).map _)) (fun x hx => HVN.out.2.2.1 x ((dropF_sub f S.fs).subset hx)) HGB.out HVN.out.2.2.2, B5.out.trans hb6⟩
    have hq := HQ8.out
    rw [if_neg (by omega)] at hq
    cases hq
    clear CF hd6 hb6 HQ8 hv6
    go_wp2_with fail
    go_ret
    exact ⟨rfl, HF.out.1, HF.out.2⟩
end Go.Proofs.YtddnecljdecamaaGreatDoor
namespace Go.Proofs.YtddnecljdecamaaGreatDoor
open Go.ChangeShapes Go.WideShapes Go.ChangeAt Go.RowKit Go.Deep Go.Lib
set_option linter.unusedVariables false
set_option linter.unusedSimpArgs false
set_option maxRecDepth 100000

theorem rnR_len {L : List PM} {u f tf : ByteArray} (h : storeB L = true) (hsu : shortB u = true) (hsf : shortB f = true) (hst : shortB tf = true) : (rnR L u f tf).1.length ≤ 4000 := by
  have hus := word_slash hsu
  obtain ⟨S, hS, _, _⟩ := take_all h hus
  obtain ⟨q, nx', S', hq⟩ : ∃ q nx' S', rnM (nextM L) S f tf = (q, nx', S') := ⟨_, _, _, rfl⟩
  have hf := rn_fits h hsu hsf hst hS hq
  have h60 := (store_facts h).1.1
  by_cases e : q = 0
  · obtain ⟨_, _, _, Y, _, _, h4, h5⟩ := hf.2 e
    rw [h5]
    unfold fitsR
    split
    · show L.length ≤ 4000; omega
    · exact h4
  · rw [hf.1 e]
    show L.length ≤ 4000
    omega
set_option maxHeartbeats 2000000 in
theorem specRenameFolder (a : Option Addr) (n c : Nat) (L : List PM) (x y z : ByteArray) (w : World) (hL : L.length = n) (hn : n ≤ 1048576) (hc : n ≤ c) (hc9 : c ≤ maxLen) (hs : ∀ x ∈ L, x.1.size ≤ 1048576 ∧ x.2.size ≤ 1048576) (h : Src w a (cellsP L)) (hx : x.size ≤ 1048576) (hy : y.size ≤ 1048576) (hz : z.size ≤ 1048576) (R : List PM) (Q : Int) (HQ : Hid (lawM2 (rnR L x y z) (askM L [x, y, z]) = (R, Q))) :
    Calls Tryz.prog 32 #[.slice a n c, .string x, .string y, .string z] w fun e w' => ∃ v, e = .returned (.tuple #[v, .int .i64 Q]) ∧ w'.ownsRow w.heap.size 68 2 v R.length (cellsP R) ∧ Below w.heap.size w w' := by
  have HLN : Hid (L.length = n) := hL
  have HS : Hid (Src w a (cellsP L)) := h
  have AL : Hid (Below w.heap.size w (w.alloc (.cells #[.string x, .string y, .string z] 9))) := (Below.refl _ _).alloc (Nat.le_refl _) _
  obtain ⟨q, hq⟩ : ∃ q, askM L [x, y, z] = q := ⟨_, rfl⟩
  have HQQ : Hid (askM L [x, y, z] = q) := hq
  have HQ1 : Hid (lawM2 (rnR L x y z) q = (R, Q)) := by show _ = _; rw [← hq]; exact HQ.out
  have CA := l07AskS a n c L (some ⟨w.heap.size, 0, none⟩) 3 3 [x, y, z] (w.alloc (.cells #[.string x, .string y, .string z] 9)) hL hn hs (HS.out.below AL.out) rfl (by omega) (fun s hs => by
    rcases List.mem_cons.1 hs with rfl | hs
    · exact hx
    · rcases List.mem_cons.1 hs with rfl | hs
      · exact hy
      · rw [List.mem_singleton.1 hs]; exact hz) (src_3S rfl) q hq
  have EM : Hid ((w.alloc (.cells #[] 68)).ownsRow w.heap.size 68 2 (.slice (some ⟨w.heap.size, 0, none⟩) 0 0) ([] : List PM).length (cellsP []) ∧ Below w.heap.size w (w.alloc (.cells #[] 68))) := ⟨own_empty rfl (Nat.le_refl _), (Below.refl _ _).alloc (Nat.le_refl _) _⟩
  have HBAD : Hid (q = 2 → [] = R ∧ 2 = Q) := fun h9 => by
    have h7 := HQ1.out
    unfold lawM2 at h7
    rw [h9, if_neg (by decide)] at h7
    cases h7
    exact ⟨rfl, rfl⟩
  clear hL h hs hq HQ
  by_cases h1 : 4096 < n
  · have h1i : (4096 : Int) < (n : Int) := by omega
    obtain ⟨rfl, rfl⟩ := HBAD.out (by rw [← HQQ.out]; unfold askM; rw [if_pos (.inl (by rw [HLN.out]; exact h1))])
    go_enter Tryz.func32, Tryz.ntmps32
    go_wp2_with fail
    exact bodyPost_ret (v := .tuple #[.slice (some ⟨w.heap.size, 0, none⟩) 0 0, .int .i64 2]) (by simp [results, Tryz.results32, go_sem]) rfl ⟨_, rfl, EM.out⟩
  have h1i : ¬ (4096 : Int) < (n : Int) := by omega
  by_cases h2 : 65536 < x.size
  · have h2i : (65536 : Int) < (x.size : Int) := by omega
    obtain ⟨rfl, rfl⟩ := HBAD.out (by
      rw [← HQQ.out]
      unfold askM
      rw [if_pos (.inr (by show (smallT x && _) = false; rw [show smallT x = false from decide_eq_false (by omega)]; rfl))])
    go_enter Tryz.func32, Tryz.ntmps32
    go_wp2_with fail
    exact bodyPost_ret (v := .tuple #[.slice (some ⟨w.heap.size, 0, none⟩) 0 0, .int .i64 2]) (by simp [results, Tryz.results32, go_sem]) rfl ⟨_, rfl, EM.out⟩
  have h2i : ¬ (65536 : Int) < (x.size : Int) := by omega
  by_cases h3 : 65536 < y.size
  · have h3i : (65536 : Int) < (y.size : Int) := by omega
    obtain ⟨rfl, rfl⟩ := HBAD.out (by
      rw [← HQQ.out]
      unfold askM
      rw [if_pos (.inr (by show (smallT x && (smallT y && (smallT z && true))) = false; rw [show smallT y = false from decide_eq_false (by omega)]; simp))])
    go_enter Tryz.func32, Tryz.ntmps32
    go_wp2_with fail
    exact bodyPost_ret (v := .tuple #[.slice (some ⟨w.heap.size, 0, none⟩) 0 0, .int .i64 2]) (by simp [results, Tryz.results32, go_sem]) rfl ⟨_, rfl, EM.out⟩
  have h3i : ¬ (65536 : Int) < (y.size : Int) := by omega
  by_cases h4 : 65536 < z.size
  · have h4i : (65536 : Int) < (z.size : Int) := by omega
    obtain ⟨rfl, rfl⟩ := HBAD.out (by
      rw [← HQQ.out]
      unfold askM
      rw [if_pos (.inr (by show (smallT x && (smallT y && (smallT z && true))) = false; rw [show smallT z = false from decide_eq_false (by omega)]; simp))])
    go_enter Tryz.func32, Tryz.ntmps32
    go_wp2_with fail
    exact bodyPost_ret (v := .tuple #[.slice (some ⟨w.heap.size, 0, none⟩) 0 0, .int .i64 2]) (by simp [results, Tryz.results32, go_sem]) rfl ⟨_, rfl, EM.out⟩
  have h4i : ¬ (65536 : Int) < (z.size : Int) := by omega
  by_cases hq0 : q = 0
  · subst hq0
    obtain ⟨hst, hsx, hsy, hsz⟩ := ask_zero3 HQQ.out
    obtain ⟨hgl, nx0, hnm, n1, _⟩ := store_facts hst
    obtain ⟨b, o, rfl⟩ := store_src hst HS.out
    have zx := short_size' hsx
    have zy := short_size' hsy
    have zz := short_size' hsz
    have HQ2 : Hid (rnR L x y z = (R, Q)) := by have h9 := HQ1.out; unfold lawM2 at h9; rw [if_pos rfl] at h9; exact h9
    have CI := fun W (hW : Below w.heap.size w W) => l07RenameS b o n c L HLN.out hc hc9 hgl hst x y z hsx hsy hsz (by omega) W (HS.out.below hW) R Q HQ2.out
    have hln : R.length ≤ 4000 := by
      have h9 := rnR_len hst hsx hsy hsz
      rw [HQ2.out] at h9
      exact h9
    clear hst hsx hsy hsz hgl HQ1 HBAD hnm n1
    go_enter Tryz.func32, Tryz.ntmps32
    go_wp2_with fail
    refine CA.mono ?_
    rintro e w3 ⟨rfl, hb3⟩
    have B3 : Hid (Below w.heap.size w w3) := AL.out.trans (hb3.mono AL.out.size)
    have CI3 := CI w3 B3.out
    clear hb3 CA CI
    go_wp2_with fail
    refine CI3.mono ?_
    rintro e w4 ⟨a4, n4, c4, rfl, k1, k2, hb4⟩
    have B4 : Hid (Below w.heap.size w w4) := B3.out.trans (hb4.mono B3.out.size)
    have CO := l07OwnS a4 n4 c4 R w4 k1 (by omega) k2
    have HN4 : Hid (R.length = n4) := k1
    clear hb4 CI3 k1 k2
    go_wp2_with fail
    refine CO.mono ?_
    rintro e w5 ⟨v5, rfl, ho5, hb5⟩
    obtain ⟨a5, c5, rfl, _, _⟩ := own_src ho5
    have HF : Hid (w5.ownsRow w.heap.size 68 2 (.slice a5 n4 c5) R.length (cellsP R) ∧ Below w.heap.size w w5) := ⟨by rw [HN4.out]; exact own_mono ho5 B4.out.size, B4.out.trans (hb5.mono B4.out.size)⟩
    clear ho5 hb5 CO
    go_wp2_with fail
    exact bodyPost_ret (v := .tuple #[.slice a5 n4 c5, .int .i64 Q]) (by simp [results, Tryz.results32, go_sem]) rfl ⟨_, rfl, HF.out⟩
  · obtain ⟨rfl, rfl⟩ : [] = R ∧ q = Q := by
      have h9 := HQ1.out
      unfold lawM2 at h9
      rw [if_neg hq0] at h9
      cases h9
      exact ⟨rfl, rfl⟩
    have hqi : (q != 0) = true := by simpa using hq0
    go_enter Tryz.func32, Tryz.ntmps32
    go_wp2_with fail
    refine CA.mono ?_
    rintro e w3 ⟨rfl, hb3⟩
    have B3 : Hid (Below w.heap.size w w3) := AL.out.trans (hb3.mono AL.out.size)
    have EM3 : Hid ((w3.alloc (.cells #[] 68)).ownsRow w.heap.size 68 2 (.slice (some ⟨w3.heap.size, 0, none⟩) 0 0) ([] : List PM).length (cellsP []) ∧ Below w.heap.size w (w3.alloc (.cells #[] 68))) := ⟨own_empty rfl B3.out.size, B3.out.alloc B3.out.size _⟩
    clear hb3 CA
    go_wp2_with fail
    exact bodyPost_ret (v := .tuple #[.slice (some ⟨w3.heap.size, 0, none⟩) 0 0, .int .i64 q]) (by simp [results, Tryz.results32, go_sem]) rfl ⟨_, rfl, EM3.out⟩
set_option maxHeartbeats 2000000 in
theorem implRenameFolder (a : Option Addr) (n c : Nat) (L : List PM) (x y z : ByteArray) (w : World) (hL : L.length = n) (hn : n ≤ 1048576) (hs : ∀ x ∈ L, x.1.size ≤ 1048576 ∧ x.2.size ≤ 1048576) (h : Src w a (cellsP L)) (hx : x.size ≤ 1048576) (hy : y.size ≤ 1048576) (hz : z.size ≤ 1048576) (hG : Gl w) (h8 : 8 ≤ w.heap.size) (R : List PM) (Q : Int) (HQ : Hid (lawM2 (rnR L x y z) (askM L [x, y, z]) = (R, Q))) :
    Calls Tryz.prog 31 #[.slice a n c, .string x, .string y, .string z] w fun e w' => ∃ v, e = .returned (.tuple #[v, .int .i64 Q]) ∧ w'.ownsRow w.heap.size 68 2 v R.length (cellsP R) ∧ Below w.heap.size w w' := by
  have HLN : Hid (L.length = n) := hL
  have HS : Hid (Src w a (cellsP L)) := h
  have HG : Hid (Gl w) := hG
  have AL : Hid (Below w.heap.size w (w.alloc (.cells #[.string x, .string y, .string z] 9))) := (Below.refl _ _).alloc (Nat.le_refl _) _
  obtain ⟨q, hq⟩ : ∃ q, askM L [x, y, z] = q := ⟨_, rfl⟩
  have HQQ : Hid (askM L [x, y, z] = q) := hq
  have HQ1 : Hid (lawM2 (rnR L x y z) q = (R, Q)) := by show _ = _; rw [← hq]; exact HQ.out
  have CA := mailFaultI a n c L (some ⟨w.heap.size, 0, none⟩) 3 3 [x, y, z] (w.alloc (.cells #[.string x, .string y, .string z] 9)) hL hn hs (HS.out.below AL.out) rfl (by omega) (fun s hs => by
    rcases List.mem_cons.1 hs with rfl | hs
    · exact hx
    · rcases List.mem_cons.1 hs with rfl | hs
      · exact hy
      · rw [List.mem_singleton.1 hs]; exact hz) (src_3S rfl) (hG.below h8 AL.out) (by have := AL.out.size; omega) q hq
  clear hL h hs hq HQ hG
  by_cases hq0 : q = 0
  · subst hq0
    obtain ⟨hst, hsx, hsy, hsz⟩ := ask_zero3 HQQ.out
    have hus := word_slash hsx
    have hu8 := short_size hsx
    have hy8 := short_size hsy
    have hz8 := short_size hsz
    obtain ⟨hgl, nx0, hnm, n1, n2, _⟩ := store_facts hst
    have hn60 := hgl.1
    rw [HLN.out] at hn60
    have HQ2 : Hid (rnR L x y z = (R, Q)) := by have h9 := HQ1.out; unfold lawM2 at h9; rw [if_pos rfl] at h9; exact h9
    have CD := fun W (hW : Below w.heap.size w W) => deskWithI a n c L x W HLN.out (HS.out.below hW) (HG.out.below h8 hW) (by have := hW.size; omega) hst hus (by omega)
    have HFI : Hid (∀ S S' q nx', takeAll (nextM L) x S0 L = some S → rnM (nextM L) S y z = (q, nx', S') → OpFits L x q nx' S' (rnR L x y z)) := fun S S' q nx' k1 k2 => rn_fits hst hsx hsy hsz k1 k2
    rw [hnm] at n1 n2
    obtain ⟨nx, hnx⟩ : ∃ t, nextM L = t := ⟨_, rfl⟩
    simp only [hnx] at CD HFI n1 n2
    clear hst hsx hsy hsz HQ1 hgl hnm hnx
    go_enter Tryz.func31, Tryz.ntmps31
    go_wp2_with fail
    refine CA.mono ?_
    rintro e w3 ⟨rfl, hb3⟩
    have B3 : Hid (Below w.heap.size w w3) := AL.out.trans (hb3.mono AL.out.size)
    clear hb3 CA
    go_wp2_with fail
    refine (CD _ B3.out).mono ?_
    rintro e w4 ⟨M, S, rfl, hS, hSt, hM, hb4⟩
    have B4 : Hid (Below w.heap.size w w4) := B3.out.trans (hb4.mono B3.out.size)
    have hM2 : w.heap.size ≤ M := by have h9 := B3.out.size; omega
    obtain ⟨q1, nx1, S1, hop⟩ : ∃ q1 nx1 S1, rnM nx S y z = (q1, nx1, S1) := ⟨_, _, _, rfl⟩
    have HOF : Hid (OpFits L x q1 nx1 S1 (rnR L x y z)) := HFI.out S S1 q1 nx1 hS hop
    have COP := renameFolderI w4 M a n c nx x S n hSt y z (by omega) (by omega) (by omega) (by omega) n2 q1 nx1 S1 hop
    clear hb4 hS hSt CD hM hop HFI
    go_wp2_with fail
    refine COP.mono ?_
    rintro e w5 ⟨rfl, hst5, hb5⟩
    have B5 : Hid (Below w.heap.size w w5) := B4.out.trans (hb5.mono hM2)
    have HST5 : Hid (StAt w5 M a n c nx1 x S1 n) := hst5
    clear COP hb5 hst5
    by_cases hq1 : q1 = 0
    · subst hq1
      obtain ⟨k1, k2, k3, Y, k4, k5, k6, k7⟩ := HOF.out.2 rfl
      rw [HQ2.out] at k7
      have CE := doneOk w5 M a n c nx1 x S1 n HST5.out (by omega) k1 k2 k3 (by omega) (HG.out.below h8 B5.out) (by omega) Y k4 k5 _ rfl k6 L HLN.out hn60 (HS.out.below B5.out) R Q (by show _ = _; rw [k7]; rfl)
      clear k1 k2 k3 k4 k5 k6 k7 HOF
      go_wp2_with fail
      refine CE.mono ?_
      rintro e w6 ⟨v6, rfl, ho6, hb6⟩
      obtain ⟨a6, c6, rfl, _, _⟩ := own_src ho6
      have HF : Hid (w6.ownsRow w.heap.size 68 2 (.slice a6 R.length c6) R.length (cellsP R) ∧ Below w.heap.size w w6) := ⟨own_mono ho6 B5.out.size, B5.out.trans (hb6.mono B5.out.size)⟩
      clear CE ho6 hb6
      go_wp2_with fail
      exact bodyPost_ret (v := .tuple #[.slice a6 R.length c6, .int .i64 Q]) (by simp [results, Tryz.results31, go_sem]) rfl ⟨_, rfl, HF.out⟩
    · have k7 := HOF.out.1 hq1
      rw [HQ2.out] at k7
      obtain ⟨hk1, hk2⟩ : R = L ∧ Q = q1 := by cases k7; exact ⟨rfl, rfl⟩
      have e0c : w5.cell? ⟨M + 1, 0, none⟩ = some (.slice a n c) := by
        obtain ⟨_, _, hD, _⟩ := HST5.out
        exact (hD.1 0 _ rfl).1
      have CE := doneBad q1 hq1 w5 M a n c L HLN.out hn60 e0c (HS.out.below B5.out)
      have HK : Hid (R = L ∧ q1 = Q) := ⟨hk1, hk2.symm⟩
      clear k7 HOF hk1 hk2 e0c
      go_wp2_with fail
      refine CE.mono ?_
      rintro e w6 ⟨v6, rfl, ho6, hb6⟩
      obtain ⟨a6, c6, rfl, _, _⟩ := own_src ho6
      have HF : Hid (w6.ownsRow w.heap.size 68 2 (.slice a6 n c6) R.length (cellsP R) ∧ Below w.heap.size w w6) := ⟨by rw [HK.out.1, HLN.out]; exact own_mono ho6 B5.out.size, B5.out.trans (hb6.mono B5.out.size)⟩
      have HK2 : Hid (q1 = Q) := HK.out.2
      clear CE ho6 hb6
      go_wp2_with fail
      exact bodyPost_ret (v := .tuple #[.slice a6 n c6, .int .i64 q1]) (by simp [results, Tryz.results31, go_sem]) rfl ⟨_, by rw [HK2.out], HF.out⟩
  · obtain ⟨rfl, rfl⟩ : [] = R ∧ q = Q := by
      have h9 := HQ1.out
      unfold lawM2 at h9
      rw [if_neg hq0] at h9
      cases h9
      exact ⟨rfl, rfl⟩
    have hqi : (q != 0) = true := by simpa using hq0
    go_enter Tryz.func31, Tryz.ntmps31
    go_wp2_with fail
    refine CA.mono ?_
    rintro e w3 ⟨rfl, hb3⟩
    have B3 : Hid (Below w.heap.size w w3) := AL.out.trans (hb3.mono AL.out.size)
    clear hb3 CA
    go_wp2_with fail
    exact bodyPost_ret (v := .tuple #[.slice none 0 0, .int .i64 q]) (by simp [results, Tryz.results31, go_sem]) rfl ⟨_, rfl, World.ownsRow_nil _ _ _ _, B3.out⟩
end Go.Proofs.YtddnecljdecamaaGreatDoor
