/-
  Mlp Fdp Sfw Dlf in one. By an AI agent.
-/
import Derived.Test.YthgbclipknfmjaaGreatDoorFl25
import Derived.Test.YthgbclipknfmjaaGreatDoorFl27
import Derived.Test.YthgbclipknfmjaaGreatDoorFl21
import Derived.Test.YthgbclipknfmjaaGreatDoorFl23
import Derived.Test.YthgbclipknfmjaaGreatDoorFl24
import Derived.Test.YthgbclipknfmjaaGreatDoorFl18
import Derived.Lib.SliceRun
namespace Go.Proofs.YthgbclipknfmjaaGreatDoor
open Go.ChangeShapes Go.WideShapes Go.ChangeAt Go.RowKit Go.Deep Go.Lib
set_option linter.unusedVariables false
set_option linter.unusedSimpArgs false
set_option maxRecDepth 100000

theorem flat_len (u : ByteArray) : ∀ fs : List FM, (flatF u fs).length = fs.length + sumF fs
  | [] => rfl
  | f :: fs => by
    have ih := flat_len u fs
    show (fPairs u f ++ flatF u fs).length = (fs.length + 1) + (f.mails.length + sumF fs)
    rw [List.length_append, ih]
    unfold fPairs
    simp
    omega
theorem put_len {g f : FM} : ∀ {fs : List FM}, lookF g.name fs = some f → (putF g fs).length = fs.length
  | [], h => by cases h
  | x :: fs, h => by
    unfold lookF at h
    unfold putF
    by_cases e : x.name = g.name
    · rw [if_pos e]
      rfl
    · rw [if_neg e] at h ⊢
      show (putF g fs).length + 1 = fs.length + 1
      rw [put_len h]
theorem put_self {g : FM} : ∀ {fs : List FM}, g ∈ putF g fs
  | [] => List.mem_cons_self
  | x :: fs => by
    unfold putF
    split
    · exact List.mem_cons_self
    · exact List.mem_cons_of_mem _ put_self
/-- What a drawn store tells of a folder. -/
theorem fa_drawn {k : Nat} {L : List PM} {u f : ByteArray} (h : Drawn k L) (hu : u = annT ∨ u = bobT) (hsf : shortB f = true) : (knownR L u f = 16 ∧ faM L u f = (z4, 16)) ∨ ∃ S g, takeAll (nextM L) u S0 L = some S ∧ S.word.toList ≠ [] ∧ lookF f S.fs = some g ∧ g.name = f ∧ knownR L u f = 0 ∧ faM L u f = ((f, g.val, g.next, g.mails), 0) ∧ Rise g.mails ∧ g.next ≤ 1 + (k : Int) ∧ FitS (nextM L) u S ∧ (S.fs.map (·.name)).Nodup := by
  obtain ⟨hsu, S, hS, hw, hF, hnd, n1⟩ := h.desk hu
  have hus := word_slash hsu
  have hfs := word_slash hsf
  have hk : knownR L u f ≠ 15 := fun e => by
    unfold knownR at e
    rw [(h.us u hus).2 hu, if_neg (by decide)] at e
    split at e <;> cases e
  by_cases h0 : knownR L u f = 0
  · right
    obtain ⟨_, g, hl⟩ := known_zero h.st hus hfs hS h0
    obtain ⟨hgm, hgn⟩ := lookF_mem hl
    have hfn : g.next ≤ 1 + (k : Int) := by
      obtain ⟨w, k1, k2⟩ := (meta_iff (store_facts h.st).1.2.2).1 (look_meta h.st hS hl)
      exact h.fn _ k1 u f rfl _ k2
    refine ⟨S, g, hS, hw, hl, hgn, h0, ?_, rise_store h.st hus hS hw hgm, hfn, hF, hnd⟩
    unfold faM
    rw [ask_ok h.st (by simp [hsu, hsf]), if_pos rfl, h0, if_pos rfl, hS]
    show (faG (lookF f S.fs), (0 : Int)) = _
    rw [hl]
    show ((g.name, g.val, g.next, g.mails), (0 : Int)) = _
    rw [hgn]
  · left
    have h16 : knownR L u f = 16 := by
      rcases known_cases L u f with h9 | h9 | h9
      · exact absurd h9 hk
      · exact h9
      · exact absurd h9 h0
    refine ⟨h16, ?_⟩
    unfold faM
    rw [ask_ok h.st (by simp [hsu, hsf]), if_pos rfl, h16, if_neg (by decide)]
end Go.Proofs.YthgbclipknfmjaaGreatDoor
namespace Go.Proofs.YthgbclipknfmjaaGreatDoor
open Go.ChangeShapes Go.WideShapes Go.ChangeAt Go.RowKit Go.Deep Go.Lib
set_option linter.unusedVariables false
set_option linter.unusedSimpArgs false
set_option maxRecDepth 100000

/-- A store's desk. -/
structure DeskS (N : List PM) (u : ByteArray) (S : SM) : Prop where
  st : storeB N = true
  tk : takeAll (nextM N) u S0 N = some S
  wd : S.word.toList ≠ []
  fit : FitS (nextM N) u S
  nd : (S.fs.map (·.name)).Nodup
  n1 : 1 ≤ nextM N
/-- What a list is that a desk's operation left. -/
structure LeftS (N Y : List PM) (u : ByteArray) (S S' : SM) : Prop where
  st : storeB Y = true
  up : UpL Y
  pm : (deskP (nextM Y) u S').Perm Y
  fit : FitS (nextM Y) u S'
  nd : (S'.fs.map (·.name)).Nodup
  wd : S'.word.toList ≠ []
  asd : S'.aside = S.aside
theorem LeftS.desk {N Y : List PM} {u : ByteArray} {S S' : SM} (h : LeftS N Y u S S') : ∃ S2, DeskS Y u S2 := by
  have hus := word_slash h.fit.us
  obtain ⟨S2, hS2, _, _⟩ := take_all h.st hus
  have hw : S2.word.toList ≠ [] := fun e => by
    have h1 := (word_iff h.st hus hS2).1.1 e
    rw [desk_user h.up h.pm] at h1
    cases h1
  obtain ⟨_, nx0, hnm, n1, _⟩ := store_facts h.st
  rw [hnm] at n1
  exact ⟨S2, h.st, hS2, hw, store_fits h.st hus hS2 hw, names_of hS2, n1⟩
theorem LeftS.fa {N Y : List PM} {u : ByteArray} {S S' : SM} {g : FM} (hD : DeskS N u S) (h : LeftS N Y u S S') (hg : g ∈ S'.fs) (hr : Rise g.mails) : faM Y u g.name = ((g.name, g.val, g.next, g.mails), 0) :=
  fa_exact hD.st hD.tk h.asd h.st h.fit h.nd h.up h.pm h.wd hg hr
theorem left_of {N Y : List PM} {u : ByteArray} {nx' : Int} {S S' : SM} (hD : DeskS N u S) (hT : StepS (fun _ => True) (nextM N) nx' u S S') (h9 : nx' ≤ 10000) (up : UpL Y) (pm : (deskP nx' u S').Perm Y) (h6 : Y.length ≤ 60) : LeftS N Y u S S' ∧ nextM Y = nx' := by
  have hl := lies_left hD.st hD.tk hT.aside hT.nd hT.fit up pm
  have hn := lies_next hl (by have := hT.n0; have := hD.n1; omega) h9
  have hst := store_left hD.st hD.tk hT.aside hT.nd hT.fit hT.n0 h9 up pm h6
  exact ⟨⟨hst, up, by rw [hn]; exact pm, by rw [hn]; exact hT.fit, hT.nd, by rw [hT.word]; exact hD.wd, hT.aside⟩, hn⟩
end Go.Proofs.YthgbclipknfmjaaGreatDoor
namespace Go.Proofs.YthgbclipknfmjaaGreatDoor
open Go.ChangeShapes Go.WideShapes Go.ChangeAt Go.RowKit Go.Deep Go.Lib
set_option linter.unusedVariables false
set_option linter.unusedSimpArgs false
set_option maxRecDepth 100000

def sfR (L : List PM) (u f : ByteArray) (un fl : Int) : List PM × Int := if askM L [u, f] ≠ 0 then ([], askM L [u, f]) else if flagB fl = false then ([], 4) else flR L u f un fl
theorem fl_len {L : List PM} (hg : GoodL L) (u f : ByteArray) (un fl : Int) : (flR L u f un fl).1.length ≤ 4000 := by
  have h1 := hg.1
  unfold flR flT
  split
  · show L.length ≤ 4000; omega
  · split
    · show L.length ≤ 4000; omega
    · split
      · show L.length ≤ 4000; omega
      · rename_i v _
        have h2 := (ins_len (k := mailK u f un) (v := bs (itoa fl) ++ v.extract 1 v.size) hg.2.2).1
        show (insL _ _ L).length ≤ 4000
        omega
theorem sf_bad {L : List PM} {u f : ByteArray} {un fl : Int} {R : List PM} {q : Int} (h : sfR L u f un fl = (R, q)) (h1 : askM L [u, f] = 2) : [] = R ∧ 2 = q := by
  unfold sfR at h
  rw [if_pos (by rw [h1]; decide), h1] at h
  cases h
  exact ⟨rfl, rfl⟩
set_option maxHeartbeats 4000000 in
theorem specSetFlags (a : Option Addr) (n c : Nat) (L : List PM) (x y : ByteArray) (un fl : Int) (w : World) (hL : L.length = n) (hn : n ≤ 1048576) (hc : n ≤ c) (hc9 : c ≤ maxLen) (hs : ∀ x ∈ L, x.1.size ≤ 1048576 ∧ x.2.size ≤ 1048576) (h : Src w a (cellsP L)) (hx : x.size ≤ 1048576) (hy : y.size ≤ 1048576) (R : List PM) (Q : Int) (HQ : Hid (sfR L x y un fl = (R, Q))) :
    Calls Tryz.prog 14 #[.slice a n c, .string x, .string y, .int .i64 un, .int .i64 fl] w fun e w' => ∃ v, e = .returned (.tuple #[v, .int .i64 Q]) ∧ w'.ownsRow w.heap.size 68 2 v R.length (cellsP R) ∧ Below w.heap.size w w' := by
  have HLN : Hid (L.length = n) := hL
  have HS : Hid (Src w a (cellsP L)) := h
  have AL : Hid (Below w.heap.size w (w.alloc (.cells #[.string x, .string y] 9))) := (Below.refl _ _).alloc (Nat.le_refl _) _
  obtain ⟨q, hq⟩ : ∃ q, askM L [x, y] = q := ⟨_, rfl⟩
  have HQQ : Hid (askM L [x, y] = q) := hq
  have CA := l07AskS a n c L (some ⟨w.heap.size, 0, none⟩) 2 2 [x, y] (w.alloc (.cells #[.string x, .string y] 9)) hL hn hs (HS.out.below AL.out) rfl (by omega) (fun s hs => by
    rcases List.mem_cons.1 hs with rfl | hs
    · exact hx
    · rw [List.mem_singleton.1 hs]; exact hy) (src_2S rfl) q hq
  have EM : Hid (∀ W, Below w.heap.size w W → (W.alloc (.cells #[] 68)).ownsRow w.heap.size 68 2 (.slice (some ⟨W.heap.size, 0, none⟩) 0 0) ([] : List PM).length (cellsP []) ∧ Below w.heap.size w (W.alloc (.cells #[] 68))) := fun W hW => ⟨own_empty rfl hW.size, hW.alloc hW.size _⟩
  have HE0 : Hid ((w.alloc (.cells #[] 68)).ownsRow w.heap.size 68 2 (.slice (some ⟨w.heap.size, 0, none⟩) 0 0) ([] : List PM).length (cellsP []) ∧ Below w.heap.size w (w.alloc (.cells #[] 68))) := EM.out w (Below.refl _ _)
  clear hL h hs hq
  by_cases h1 : 4096 < n
  · have h1i : (4096 : Int) < (n : Int) := by omega
    obtain ⟨rfl, rfl⟩ := sf_bad HQ.out (by unfold askM; rw [if_pos (.inl (by rw [HLN.out]; exact h1))])
    go_enter Tryz.func14, Tryz.ntmps14
    go_wp2_with fail
    exact bodyPost_ret (v := .tuple #[.slice (some ⟨w.heap.size, 0, none⟩) 0 0, .int .i64 2]) (by simp [results, Tryz.results14, go_sem]) rfl ⟨_, rfl, HE0.out⟩
  have h1i : ¬ (4096 : Int) < (n : Int) := by omega
  by_cases h2 : 65536 < x.size
  · have h2i : (65536 : Int) < (x.size : Int) := by omega
    obtain ⟨rfl, rfl⟩ := sf_bad HQ.out (by
      unfold askM
      rw [if_pos (.inr (by show (smallT x && _) = false; rw [show smallT x = false from decide_eq_false (by omega)]; rfl))])
    go_enter Tryz.func14, Tryz.ntmps14
    go_wp2_with fail
    exact bodyPost_ret (v := .tuple #[.slice (some ⟨w.heap.size, 0, none⟩) 0 0, .int .i64 2]) (by simp [results, Tryz.results14, go_sem]) rfl ⟨_, rfl, HE0.out⟩
  have h2i : ¬ (65536 : Int) < (x.size : Int) := by omega
  by_cases h3 : 65536 < y.size
  · have h3i : (65536 : Int) < (y.size : Int) := by omega
    obtain ⟨rfl, rfl⟩ := sf_bad HQ.out (by
      unfold askM
      rw [if_pos (.inr (by show (smallT x && (smallT y && true)) = false; rw [show smallT y = false from decide_eq_false (by omega)]; simp))])
    go_enter Tryz.func14, Tryz.ntmps14
    go_wp2_with fail
    exact bodyPost_ret (v := .tuple #[.slice (some ⟨w.heap.size, 0, none⟩) 0 0, .int .i64 2]) (by simp [results, Tryz.results14, go_sem]) rfl ⟨_, rfl, HE0.out⟩
  have h3i : ¬ (65536 : Int) < (y.size : Int) := by omega
  have HQ1 := HQ.out
  unfold sfR at HQ1
  rw [HQQ.out] at HQ1
  by_cases hq0 : q = 0
  · subst hq0
    rw [if_neg (by decide)] at HQ1
    obtain ⟨hst, hsx, hsy⟩ := ask_zero2 HQQ.out
    have hgl := (store_facts hst).1
    obtain ⟨b, o, rfl⟩ := store_src hst HS.out
    cases hfb : flagB fl with
    | false =>
      rw [if_pos hfb] at HQ1
      obtain ⟨rfl, rfl⟩ : [] = R ∧ 4 = Q := by cases HQ1; exact ⟨rfl, rfl⟩
      have CI := fun W => l01InS fl 0 3 false W hfb
      clear HQ1 HQ hst hsx hsy hgl hfb
      go_enter Tryz.func14, Tryz.ntmps14
      go_wp2_with fail
      refine CA.mono ?_
      rintro e w3 ⟨rfl, hb3⟩
      have B3 : Hid (Below w.heap.size w w3) := AL.out.trans (hb3.mono AL.out.size)
      have HE3 : Hid ((w3.alloc (.cells #[] 68)).ownsRow w.heap.size 68 2 (.slice (some ⟨w3.heap.size, 0, none⟩) 0 0) ([] : List PM).length (cellsP []) ∧ Below w.heap.size w (w3.alloc (.cells #[] 68))) := EM.out w3 B3.out
      clear hb3 CA
      go_wp2_with fail
      refine (CI _).mono ?_
      rintro e w4 ⟨rfl, hw4⟩
      obtain rfl := hw4
      go_wp2_with fail
      exact bodyPost_ret (v := .tuple #[.slice (some ⟨w4.heap.size, 0, none⟩) 0 0, .int .i64 4]) (by simp [results, Tryz.results14, go_sem]) rfl ⟨_, rfl, HE3.out⟩
    | true =>
      rw [if_neg (by rw [hfb]; decide)] at HQ1
      have hfr : 0 ≤ fl ∧ fl ≤ 3 := by
        have h9 := hfb
        unfold flagB at h9
        simpa using h9
      have CI := fun W => l01InS fl 0 3 true W hfb
      have CP := fun W (hW : Below w.heap.size w W) => l07FlagsS b o n c L HLN.out hc hc9 hgl x y un fl (short_size' hsx) (short_size' hsy) hfr.1 hfr.2 (fun hk v v1 v2 hv => by
        have hp := (getM_mem hgl.2.2).1 hv
        have hp2 : (mailK x y ((un.toNat : Nat) : Int), v) ∈ L := by rw [show ((un.toNat : Nat) : Int) = un by omega]; exact hp
        have hU : ∃ q ∈ L, q.1 = userK x := by
          unfold knownR at hk
          split at hk
          · cases hk
          · rename_i h9
            cases hv2 : getM L (userK x) with
            | none => rw [hv2] at h9; exact absurd rfl h9
            | some v => exact ⟨_, (getM_mem hgl.2.2).1 hv2, rfl⟩
        obtain ⟨m1, m2, _⟩ := mail_val hst (word_slash hsx) (word_slash hsy) hU (by omega) hp2
        exact ⟨m1, m2⟩) W (HS.out.below hW) R Q HQ1
      have hln : R.length ≤ 4000 := by
        have h9 := fl_len hgl x y un fl
        rw [HQ1] at h9
        exact h9
      clear HQ1 HQ hst hsx hsy hgl hfb
      go_enter Tryz.func14, Tryz.ntmps14
      go_wp2_with fail
      refine CA.mono ?_
      rintro e w3 ⟨rfl, hb3⟩
      have B3 : Hid (Below w.heap.size w w3) := AL.out.trans (hb3.mono AL.out.size)
      clear hb3 CA
      go_wp2_with fail
      refine (CI _).mono ?_
      rintro e w4 ⟨rfl, hw4⟩
      obtain rfl := hw4
      have CP4 := CP w4 B3.out
      clear CP CI
      go_wp2_with fail
      refine CP4.mono ?_
      rintro e w5 ⟨a5, n5, c5, rfl, k1, k2, hb5⟩
      have B5 : Hid (Below w.heap.size w w5) := B3.out.trans (hb5.mono B3.out.size)
      have CO := l07OwnS a5 n5 c5 R w5 k1 (by omega) k2
      have HN5 : Hid (R.length = n5) := k1
      clear hb5 CP4 k1 k2
      go_wp2_with fail
      refine CO.mono ?_
      rintro e w6 ⟨v6, rfl, ho6, hb6⟩
      obtain ⟨a6, c6, rfl, _, _⟩ := own_src ho6
      have HF : Hid (w6.ownsRow w.heap.size 68 2 (.slice a6 n5 c6) R.length (cellsP R) ∧ Below w.heap.size w w6) := ⟨by rw [HN5.out]; exact own_mono ho6 B5.out.size, B5.out.trans (hb6.mono B5.out.size)⟩
      clear ho6 hb6 CO
      go_wp2_with fail
      exact bodyPost_ret (v := .tuple #[.slice a6 n5 c6, .int .i64 Q]) (by simp [results, Tryz.results14, go_sem]) rfl ⟨_, rfl, HF.out⟩
  · rw [if_pos hq0] at HQ1
    obtain ⟨rfl, rfl⟩ : [] = R ∧ q = Q := by cases HQ1; exact ⟨rfl, rfl⟩
    have hqi : (q != 0) = true := by simpa using hq0
    clear HQ1 HQ
    go_enter Tryz.func14, Tryz.ntmps14
    go_wp2_with fail
    refine CA.mono ?_
    rintro e w3 ⟨rfl, hb3⟩
    have B3 : Hid (Below w.heap.size w w3) := AL.out.trans (hb3.mono AL.out.size)
    have HE3 : Hid ((w3.alloc (.cells #[] 68)).ownsRow w.heap.size 68 2 (.slice (some ⟨w3.heap.size, 0, none⟩) 0 0) ([] : List PM).length (cellsP []) ∧ Below w.heap.size w (w3.alloc (.cells #[] 68))) := EM.out w3 B3.out
    clear hb3 CA
    go_wp2_with fail
    exact bodyPost_ret (v := .tuple #[.slice (some ⟨w3.heap.size, 0, none⟩) 0 0, .int .i64 q]) (by simp [results, Tryz.results14, go_sem]) rfl ⟨_, rfl, HE3.out⟩
set_option maxHeartbeats 4000000 in
theorem implSetFlags (a : Option Addr) (n c : Nat) (L : List PM) (x y : ByteArray) (un fl : Int) (w : World) (hL : L.length = n) (hn : n ≤ 1048576) (hs : ∀ x ∈ L, x.1.size ≤ 1048576 ∧ x.2.size ≤ 1048576) (h : Src w a (cellsP L)) (hx : x.size ≤ 1048576) (hy : y.size ≤ 1048576) (hG : Gl w) (h8 : 8 ≤ w.heap.size) (R : List PM) (Q : Int) (HQ : Hid (sfR L x y un fl = (R, Q))) :
    Calls Tryz.prog 12 #[.slice a n c, .string x, .string y, .int .i64 un, .int .i64 fl] w fun e w' => ∃ v, e = .returned (.tuple #[v, .int .i64 Q]) ∧ w'.ownsRow w.heap.size 68 2 v R.length (cellsP R) ∧ Below w.heap.size w w' := by
  have HLN : Hid (L.length = n) := hL
  have HS : Hid (Src w a (cellsP L)) := h
  have HG : Hid (Gl w) := hG
  have AL : Hid (Below w.heap.size w (w.alloc (.cells #[.string x, .string y] 9))) := (Below.refl _ _).alloc (Nat.le_refl _) _
  obtain ⟨q, hq⟩ : ∃ q, askM L [x, y] = q := ⟨_, rfl⟩
  have HQQ : Hid (askM L [x, y] = q) := hq
  have CA := mailFaultI a n c L (some ⟨w.heap.size, 0, none⟩) 2 2 [x, y] (w.alloc (.cells #[.string x, .string y] 9)) hL hn hs (HS.out.below AL.out) rfl (by omega) (fun s hs => by
    rcases List.mem_cons.1 hs with rfl | hs
    · exact hx
    · rw [List.mem_singleton.1 hs]; exact hy) (src_2S rfl) (hG.below h8 AL.out) (by have := AL.out.size; omega) q hq
  have HQ1 := HQ.out
  unfold sfR at HQ1
  rw [HQQ.out] at HQ1
  clear hL h hs hq HQ hG
  by_cases hq0 : q = 0
  case neg =>
    rw [if_pos hq0] at HQ1
    obtain ⟨rfl, rfl⟩ : [] = R ∧ q = Q := by cases HQ1; exact ⟨rfl, rfl⟩
    have hqi : (q != 0) = true := by simpa using hq0
    clear HQ1
    go_enter Tryz.func12, Tryz.ntmps12
    go_wp2_with fail
    refine CA.mono ?_
    rintro e w3 ⟨rfl, hb3⟩
    have B3 : Hid (Below w.heap.size w w3) := AL.out.trans (hb3.mono AL.out.size)
    clear hb3 CA
    go_wp2_with fail
    exact bodyPost_ret (v := .tuple #[.slice none 0 0, .int .i64 q]) (by simp [results, Tryz.results12, go_sem]) rfl ⟨_, rfl, World.ownsRow_nil _ _ _ _, B3.out⟩
  subst hq0
  rw [if_neg (by decide)] at HQ1
  obtain ⟨hst, hsx, hsy⟩ := ask_zero2 HQQ.out
  have hus := word_slash hsx
  have hu8 := short_size hsx
  have hy8 := short_size hsy
  obtain ⟨hgl, nx0, hnm, n1, n2, _⟩ := store_facts hst
  rw [hnm] at n1 n2
  have hn60 := hgl.1
  rw [HLN.out] at hn60
  cases hfb : flagB fl with
  | false =>
    rw [if_pos hfb] at HQ1
    obtain ⟨rfl, rfl⟩ : [] = R ∧ 4 = Q := by cases HQ1; exact ⟨rfl, rfl⟩
    have CI := fun W => flagsIs false fl W hfb
    clear HQ1 hst hsx hsy hgl hnm n1 n2 hfb
    go_enter Tryz.func12, Tryz.ntmps12
    go_wp2_with fail
    refine CA.mono ?_
    rintro e w3 ⟨rfl, hb3⟩
    have B3 : Hid (Below w.heap.size w w3) := AL.out.trans (hb3.mono AL.out.size)
    clear hb3 CA
    go_wp2_with fail
    refine (CI _).mono ?_
    rintro e w4 ⟨rfl, hw4⟩
    obtain rfl := hw4
    go_wp2_with fail
    exact bodyPost_ret (v := .tuple #[.slice none 0 0, .int .i64 4]) (by simp [results, Tryz.results12, go_sem]) rfl ⟨_, rfl, World.ownsRow_nil _ _ _ _, B3.out⟩
  | true =>
    rw [if_neg (by rw [hfb]; decide)] at HQ1
    have hfr : 0 ≤ fl ∧ fl ≤ 3 := by
      have h9 := hfb
      unfold flagB at h9
      simpa using h9
    have CI := fun W => flagsIs true fl W hfb
    have CD := fun W (hW : Below w.heap.size w W) => deskWithI a n c L x W HLN.out (HS.out.below hW) (HG.out.below h8 hW) (by have := hW.size; omega) hst hus (by omega)
    have HFI : Hid (∀ S S' q, takeAll (nextM L) x S0 L = some S → SfIs S y un fl q S' → OpFits L x q (nextM L) S' (flR L x y un fl)) := fun S S' q k1 k2 => sf_fits hst hsx hsy hfr.1 hfr.2 k1 k2
    have HQ2 : Hid (flR L x y un fl = (R, Q)) := HQ1
    obtain ⟨nx, hnx⟩ : ∃ t, nextM L = t := ⟨_, rfl⟩
    simp only [hnx] at CD HFI n1 n2
    clear HQ1 hst hsx hsy hgl hnm hfb hnx
    go_enter Tryz.func12, Tryz.ntmps12
    go_wp2_with fail
    refine CA.mono ?_
    rintro e w3 ⟨rfl, hb3⟩
    have B3 : Hid (Below w.heap.size w w3) := AL.out.trans (hb3.mono AL.out.size)
    clear hb3 CA
    go_wp2_with fail
    refine (CI _).mono ?_
    rintro e w4' ⟨rfl, hw4⟩
    obtain rfl := hw4
    clear CI
    go_wp2_with fail
    refine (CD _ B3.out).mono ?_
    rintro e w4 ⟨M, S, rfl, hS, hSt, hM, hb4⟩
    have B4 : Hid (Below w.heap.size w w4) := B3.out.trans (hb4.mono B3.out.size)
    have hM2 : w.heap.size ≤ M := by have h9 := B3.out.size; omega
    have COP := setFlagsI w4 M a n c nx x S n hSt y (by omega) (by omega) un fl (by omega)
    have HTK : Hid (takeAll nx x S0 L = some S) := hS
    clear hb4 hS hSt CD hM
    go_wp2_with fail
    refine COP.mono ?_
    rintro e w5 ⟨q1, S1, rfl, hsf, hst5, hb5⟩
    have B5 : Hid (Below w.heap.size w w5) := B4.out.trans (hb5.mono hM2)
    have HST5 : Hid (StAt w5 M a n c nx x S1 n) := hst5
    have HOF : Hid (OpFits L x q1 nx S1 (flR L x y un fl)) := HFI.out S S1 q1 HTK.out hsf
    clear COP hb5 hst5 hsf
    by_cases hq1 : q1 = 0
    · subst hq1
      obtain ⟨k1, k2, k3, Y, k4, k5, k6, k7⟩ := HOF.out.2 rfl
      rw [HQ2.out] at k7
      have CE := doneOk w5 M a n c nx x S1 n HST5.out (by omega) k1 k2 k3 (by omega) (HG.out.below h8 B5.out) (by omega) Y k4 k5 _ rfl k6 L HLN.out hn60 (HS.out.below B5.out) R Q (by show _ = _; rw [k7]; rfl)
      clear k1 k2 k3 k4 k5 k6 k7 HOF
      go_wp2_with fail
      refine CE.mono ?_
      rintro e w6 ⟨v6, rfl, ho6, hb6⟩
      obtain ⟨a6, c6, rfl, _, _⟩ := own_src ho6
      have HF : Hid (w6.ownsRow w.heap.size 68 2 (.slice a6 R.length c6) R.length (cellsP R) ∧ Below w.heap.size w w6) := ⟨own_mono ho6 B5.out.size, B5.out.trans (hb6.mono B5.out.size)⟩
      clear CE ho6 hb6
      go_wp2_with fail
      exact bodyPost_ret (v := .tuple #[.slice a6 R.length c6, .int .i64 Q]) (by simp [results, Tryz.results12, go_sem]) rfl ⟨_, rfl, HF.out⟩
    · have k7 := HOF.out.1 hq1
      rw [HQ2.out] at k7
      obtain ⟨hk1, hk2⟩ : R = L ∧ Q = q1 := by cases k7; exact ⟨rfl, rfl⟩
      have e0c : w5.cell? ⟨M + 1, 0, none⟩ = some (.slice a n c) := by
        obtain ⟨_, _, hD, _⟩ := HST5.out
        exact (hD.1 0 _ rfl).1
      have CE := doneBad q1 hq1 w5 M a n c L HLN.out hn60 e0c (HS.out.below B5.out)
      have HK : Hid (R = L ∧ q1 = Q) := ⟨hk1, hk2.symm⟩
      clear k7 HOF hk1 hk2 e0c
      go_wp2_with fail
      refine CE.mono ?_
      rintro e w6 ⟨v6, rfl, ho6, hb6⟩
      obtain ⟨a6, c6, rfl, _, _⟩ := own_src ho6
      have HF : Hid (w6.ownsRow w.heap.size 68 2 (.slice a6 n c6) R.length (cellsP R) ∧ Below w.heap.size w w6) := ⟨by rw [HK.out.1, HLN.out]; exact own_mono ho6 B5.out.size, B5.out.trans (hb6.mono B5.out.size)⟩
      have HK2 : Hid (q1 = Q) := HK.out.2
      clear CE ho6 hb6
      go_wp2_with fail
      exact bodyPost_ret (v := .tuple #[.slice a6 n c6, .int .i64 q1]) (by simp [results, Tryz.results12, go_sem]) rfl ⟨_, by rw [HK2.out], HF.out⟩
end Go.Proofs.YthgbclipknfmjaaGreatDoor
namespace Go.Proofs.YthgbclipknfmjaaGreatDoor
open Go.ChangeShapes Go.WideShapes Go.ChangeAt Go.RowKit Go.Deep Go.Lib
set_option linter.unusedVariables false
set_option linter.unusedSimpArgs false
set_option maxRecDepth 100000

theorem own_past {w : World} {base e s n g cap : Nat} {xs : List Value} (h : w.ownsRow base e s (.slice (some ⟨g, 0, none⟩) n cap) n xs) (p : Nat) (hp : n * s ≤ p) (u : Value) : (w.setCell ⟨g, p, none⟩ u).ownsRow base e s (.slice (some ⟨g, 0, none⟩) n cap) n xs := by
  obtain ⟨hl, ⟨hv, _⟩ | ⟨g', cap', cur, hv, hb, hg, hc1, hc2, hs, ht⟩⟩ := h
  · cases hv
  · cases hv
    refine ⟨hl, .inr ⟨g, cap, cur.setIfInBounds p u, rfl, hb, ?_, hc1, hc2, by simpa using hs, ?_⟩⟩
    · simp [World.setCell, Array.getElem?_modify, hg]
    · rw [Array.toList_setIfInBounds, List.take_set, ht, List.set_eq_of_length_le (by omega)]
theorem own_pasts {base e s n g cap : Nat} {xs : List Value} : ∀ (zs : List Value) (o : Nat) (w : World), w.ownsRow base e s (.slice (some ⟨g, 0, none⟩) n cap) n xs → n * s ≤ o → (w.setCells g o zs).ownsRow base e s (.slice (some ⟨g, 0, none⟩) n cap) n xs
  | [], _, _, h, _ => h
  | z :: zs, o, w, h, ho => own_pasts zs (o + 1) _ (own_past h o ho z) (by omega)
theorem own_short {w : World} {base e s n g cap k : Nat} {xs : List Value} (h : w.ownsRow base e s (.slice (some ⟨g, 0, none⟩) n cap) n xs) (hk : k ≤ n) : w.ownsRow base e s (.slice (some ⟨g, 0, none⟩) k cap) k (xs.take (k * s)) := by
  obtain ⟨hl, ⟨hv, _⟩ | ⟨g', cap', cur, hv, hb, hg, hc1, hc2, hs, ht⟩⟩ := h
  · cases hv
  · cases hv
    have hks : k * s ≤ n * s := Nat.mul_le_mul_right s hk
    refine ⟨by rw [List.length_take]; omega, .inr ⟨g, cap, cur, rfl, hb, hg, by omega, hc2, hs, ?_⟩⟩
    rw [← ht, List.take_take, Nat.min_eq_left hks]
theorem gb_sets {w : World} {B : Nat} : ∀ (zs : List Value) (o : Nat) (a : World), w.grownBy a (some B) → w.grownBy (a.setCells B o zs) (some B)
  | [], _, _, h => h
  | z :: zs, o, a, h => gb_sets zs (o + 1) _ (gb_set h o z)
theorem cells_take (L : List MMl) (k : Nat) : (cellsMl L).take (k * 3) = cellsMl (L.take k) := by
  induction L generalizing k with
  | nil => simp [cellsMl]
  | cons m L ih =>
    cases k with
    | zero => simp [cellsMl]
    | succ k =>
      have e : (k + 1) * 3 = k * 3 + 1 + 1 + 1 := by omega
      rw [e]
      show ((Value.int .i64 m.1 :: Value.int .i64 m.2.1 :: Value.string m.2.2 :: cellsMl L).take (k * 3 + 1 + 1 + 1)) = cellsMl (m :: L.take k)
      simp only [List.take_succ_cons]
      rw [ih k]
      rfl
theorem cells_put (L : List MMl) (p : Nat) (m : MMl) (hp : p < L.length) : (((cellsMl L).set (p * 3) (.int .i64 m.1)).set (p * 3 + 1) (.int .i64 m.2.1)).set (p * 3 + 2) (.string m.2.2) = cellsMl (L.set p m) := by
  induction L generalizing p with
  | nil => simp at hp
  | cons x L ih =>
    cases p with
    | zero => rfl
    | succ p =>
      have e : (p + 1) * 3 = p * 3 + 1 + 1 + 1 := by omega
      have e1 : (p + 1) * 3 + 1 = p * 3 + 1 + 1 + 1 + 1 := by omega
      have e2 : (p + 1) * 3 + 2 = p * 3 + 2 + 1 + 1 + 1 := by omega
      have h9 := ih p (by simpa using hp)
      show ((((Value.int .i64 x.1 :: Value.int .i64 x.2.1 :: Value.string x.2.2 :: cellsMl L).set ((p + 1) * 3) (.int .i64 m.1)).set ((p + 1) * 3 + 1) (.int .i64 m.2.1)).set ((p + 1) * 3 + 2) (.string m.2.2)) = Value.int .i64 x.1 :: Value.int .i64 x.2.1 :: Value.string x.2.2 :: cellsMl (L.set p m)
      rw [e, show p * 3 + 1 + 1 + 1 + 2 = p * 3 + 2 + 1 + 1 + 1 from by omega, ← h9]
      rfl
theorem run_clear_rows {P : Program} (w : World) (t e ty : TypeId) (z : Value) (ht : P.underlying t = some (.slice e)) (hv : ∀ w, (zeroValue e).run P w = .ok z w) (b o n c : Nat) (hn : 0 < n) (L : List Value) (hz : (Builtin.zeroCells z.cells n).toList = L) (h1 : ∀ v ∈ L, v.oneCell' = true)
    (hc : ∀ j, j < L.length → (w.cell? ⟨b, o + j, none⟩).isSome = true) (hf : ∀ j, j < L.length → w.frozen? ⟨b, o + j, none⟩ = false) :
    (Builtin.clear_ #[t] ty #[.slice (some ⟨b, o, none⟩) n c]).run P w = .ok (.tuple #[]) (w.setCells b o L) := by
  have hst := run_storeCells_cells (P := P) b o L 0 w (by simpa using hc) (by simpa using hf) h1
  simp only [Nat.add_zero] at hst
  obtain ⟨m, rfl⟩ : ∃ m, n = m + 1 := ⟨n - 1, by omega⟩
  simp [Builtin.clear_, run_underlying ht, hv, hz, hst]
abbrev zM : Value := .agg #[.int .i64 0, .int .i64 0, .string ⟨#[]⟩]
theorem zero_mails (n : Nat) : (Builtin.zeroCells zM.cells n).toList.length = n * 3 ∧ ∀ v ∈ (Builtin.zeroCells zM.cells n).toList, v.oneCell' = true := by
  have hc : zM.cells = #[.int .i64 0, .int .i64 0, .string ⟨#[]⟩] := rfl
  rw [hc]
  unfold Builtin.zeroCells
  constructor
  · simp
  · intro v hv
    simp only [Array.toList_map, List.mem_map] at hv
    obtain ⟨i, _, rfl⟩ := hv
    have h3 : i % 3 = 0 ∨ i % 3 = 1 ∨ i % 3 = 2 := by omega
    show (#[Value.int .i64 0, .int .i64 0, .string ⟨#[]⟩][i % 3]!).oneCell' = true
    rcases h3 with h | h | h <;> rw [h] <;> rfl
set_option maxHeartbeats 1000000 in
theorem deletedI (x y : Int) (t : ByteArray) (h0 : 0 ≤ y) (h3 : y ≤ 3) (w : World) (bb : Bool) (hb : delB (x, y, t) = bb) :
    Calls Tryz.prog 41 #[.agg #[.int .i64 x, .int .i64 y, .string t]] w fun e w' => e = .returned (.bool bb) ∧ Below w.heap.size w w' := by
  have hy : y = 0 ∨ y = 1 ∨ y = 2 ∨ y = 3 := by omega
  have AL : Hid (Below w.heap.size w (w.alloc (.cells #[.int .i64 x, .int .i64 y, .string t] 37))) := (Below.refl _ _).alloc (Nat.le_refl _) _
  rcases hy with rfl | rfl | rfl | rfl
  · obtain rfl : false = bb := hb
    go_enter Tryz.func41, Tryz.ntmps41
    go_wp2_with fail
    go_ret
    exact ⟨rfl, AL.out⟩
  · obtain rfl : false = bb := hb
    go_enter Tryz.func41, Tryz.ntmps41
    go_wp2_with fail
    go_ret
    exact ⟨rfl, AL.out⟩
  · obtain rfl : true = bb := hb
    go_enter Tryz.func41, Tryz.ntmps41
    go_wp2_with fail
    go_ret
    exact ⟨rfl, AL.out⟩
  · obtain rfl : true = bb := hb
    go_enter Tryz.func41, Tryz.ntmps41
    go_wp2_with fail
    go_ret
    exact ⟨rfl, AL.out⟩
/-- Where the first mail is that goes. -/
def FirstIs (Ms : List MMl) (i : Int) : Prop := (∃ k : Nat, k < Ms.length ∧ i = (k : Int) ∧ delB (Ms.getD k ml0) = true ∧ ∀ j, j < k → delB (Ms.getD j ml0) = false) ∨ (i = -1 ∧ ∀ m ∈ Ms, delB m = false)
set_option maxHeartbeats 2000000 in
theorem indexDelI (a : Option Addr) (n c : Nat) (Ms : List MMl) (w : World) (hL : Ms.length = n) (hn : n ≤ 1000) (hM : ∀ m ∈ Ms, 0 ≤ m.2.1 ∧ m.2.1 ≤ 3) (h : Src w a (cellsMl Ms)) :
    Calls Tryz.prog 81 #[.slice a n c, .func (.func 41) #[] #[]] w fun e w' => ∃ i, e = .returned (.int .i64 i) ∧ FirstIs Ms i ∧ Below w.heap.size w w' := by
  have HH : Hid (Src w a (cellsMl Ms)) := h
  have HL : Hid (Ms.length = n) := hL
  have HM : Hid (∀ m ∈ Ms, 0 ≤ m.2.1 ∧ m.2.1 ≤ 3) := hM
  clear h hL hM
  go_enter Tryz.func81, Tryz.ntmps81
  go_wp2_with fail
  go_loopw [8] (fun i wr => ∃ k : Nat, k ≤ n ∧ i = .int .i64 (k : Int) ∧ Hid (∀ j, j < k → delB (Ms.getD j ml0) = false) ∧ Hid (Below w.heap.size w wr)) (fun i _ => n - (RowKit.intOf i).toNat)
  case atStart => exact ⟨0, by omega, rfl, fun j hj => absurd hj (by omega), Below.refl _ _⟩
  case round =>
    obtain ⟨k, hk, rfl, hno, hb⟩ := hrel
    by_cases hlt : k < n
    · have hlti : (k : Int) < (n : Int) := by omega
      have hkL : k < Ms.length := by rw [HL.out]; exact hlt
      obtain ⟨b, q, x, y, t, rfl, hc0, hc1, hc2, hy⟩ := srcMl (HH.out.below hb.out) hkL
      have hr := HM.out (Ms.getD k ml0) (mem_getD' Ms ml0 k hkL)
      rw [hy.out] at hr
      dsimp only at hr
      cases hbb : delB (x, y, t) with
      | true =>
        have HP : Hid (FirstIs Ms (k : Int)) := .inl ⟨k, hkL, rfl, by rw [hy.out]; exact hbb, hno.out⟩
        have C1 := fun W => deletedI x y t hr.1 hr.2 W true hbb
        clear hy hbb hr
        go_wp2_with fail
        refine (C1 _).mono ?_
        rintro e w5 ⟨rfl, hb5⟩
        have B5 : Hid (Below w.heap.size w w5) := hb.out.trans (hb5.mono hb.out.size)
        clear hb5 C1
        go_wp2_with fail
        go_ret
        exact ⟨_, rfl, HP.out, B5.out⟩
      | false =>
        have HN : Hid (∀ j, j < k + 1 → delB (Ms.getD j ml0) = false) := fun j hj => by
          by_cases e : j = k
          · rw [e, hy.out]
            exact hbb
          · exact hno.out j (by omega)
        have C1 := fun W => deletedI x y t hr.1 hr.2 W false hbb
        clear hy hbb hr
        go_wp2_with fail
        refine (C1 _).mono ?_
        rintro e w5 ⟨rfl, hb5⟩
        have B5 : Hid (Below w.heap.size w w5) := hb.out.trans (hb5.mono hb.out.size)
        clear hb5 C1
        go_wp2_with fail
        exact ⟨⟨k + 1, by omega, by go_num, HN.out, B5.out⟩, by simp [RowKit.intOf]; omega⟩
    · obtain rfl : k = n := by omega
      have hlti : ¬ (k : Int) < (k : Int) := by omega
      have HP : Hid (FirstIs Ms (-1)) := .inr ⟨rfl, fun m hm => by
        obtain ⟨j, hj, rfl⟩ := List.mem_iff_getElem.1 hm
        have h9 := hno.out j (by rw [HL.out] at hj; exact hj)
        rw [List.getD_eq_getElem?_getD, List.getElem?_eq_getElem hj] at h9
        exact h9⟩
      go_wp2_with fail
      go_ret
      exact ⟨_, rfl, HP.out, hb.out⟩
theorem keep_next {Ms : List MMl} {j : Nat} (hj : j < Ms.length) : keepM (Ms.take (j + 1)) = keepM (Ms.take j) ++ (if delB (Ms.getD j ml0) = true then [] else [Ms.getD j ml0]) := by
  unfold keepM
  rw [take_next hj, List.filter_append]
  congr 1
  cases h : delB (Ms.getD j ml0) with
  | true => rw [List.filter_cons_of_neg (by rw [h]; simp), if_pos rfl]; rfl
  | false => rw [List.filter_cons_of_pos (by rw [h]; rfl), if_neg (by simp)]; rfl
theorem keep_first {Ms : List MMl} : ∀ (k : Nat), k ≤ Ms.length → (∀ j, j < k → delB (Ms.getD j ml0) = false) → keepM (Ms.take k) = Ms.take k
  | 0, _, _ => rfl
  | k + 1, hk, h => by
    rw [keep_next (by omega), keep_first k (by omega) (fun j hj => h j (by omega)), h k (by omega), if_neg (by simp), take_next (by omega)]
/-- What a row of mails is while some of them go. -/
def RowIs (Ms A : List MMl) (p j : Nat) : Prop := A.length = Ms.length ∧ A.take p = keepM (Ms.take j) ∧ A.drop j = Ms.drop j ∧ p ≤ A.length
theorem row_get {Ms A : List MMl} {p j : Nat} (h : RowIs Ms A p j) (hj : j < Ms.length) : A.getD j ml0 = Ms.getD j ml0 := by
  have h1 : (A.drop j)[0]? = (Ms.drop j)[0]? := by rw [h.2.2.1]
  rw [List.getElem?_drop, List.getElem?_drop] at h1
  rw [List.getD_eq_getElem?_getD, List.getD_eq_getElem?_getD]
  rw [Nat.add_zero] at h1
  rw [h1]
theorem drop_next {A B : List MMl} {j : Nat} (h : A.drop j = B.drop j) : A.drop (j + 1) = B.drop (j + 1) := by
  rw [← List.drop_drop, ← List.drop_drop, h]
theorem row_del {Ms A : List MMl} {p j : Nat} (h : RowIs Ms A p j) (hj : j < Ms.length) (hd : delB (Ms.getD j ml0) = true) : RowIs Ms A p (j + 1) := by
  refine ⟨h.1, ?_, drop_next h.2.2.1, h.2.2.2⟩
  rw [keep_next hj, hd, if_pos rfl, List.append_nil]
  exact h.2.1
theorem row_keep {Ms A : List MMl} {p j : Nat} (h : RowIs Ms A p j) (hj : j < Ms.length) (hp : p < j) (hd : delB (Ms.getD j ml0) = false) : RowIs Ms (A.set p (Ms.getD j ml0)) (p + 1) (j + 1) := by
  have hl := h.1
  refine ⟨by rw [List.length_set]; exact h.1, ?_, ?_, by rw [List.length_set]; omega⟩
  · rw [keep_next hj, hd, if_neg (by simp), ← h.2.1]
    rw [List.take_add_one, List.take_set_of_le (Nat.le_refl _), List.getElem?_set_self (by omega)]
    rfl
  · rw [List.drop_set_of_lt (by omega)]
    exact drop_next h.2.2.1
theorem cut_row {B c p : Nat} (hp : p < c) : cutP (some ⟨B, 0, none⟩) c p 3 = some ⟨B, p * 3, none⟩ := by
  unfold cutP
  rw [if_neg (by omega)]
  simp only [Option.map_some, Addr.add]
  split
  · rename_i h0; rw [h0]
  · rw [Nat.zero_add]
set_option maxHeartbeats 8000000 in
theorem deleteI (B ml cx base : Nat) (Ms : List MMl) (hml : Ms.length = ml) (hm : ml ≤ 60) (hM : ∀ m ∈ Ms, 0 ≤ m.2.1 ∧ m.2.1 ≤ 3) (w : World) (ho : w.ownsRow base 37 3 (.slice (some ⟨B, 0, none⟩) ml cx) ml (cellsMl Ms)) (k : Nat) (hk : (keepM Ms).length = k) :
    Calls Tryz.prog 42 #[.slice (some ⟨B, 0, none⟩) ml cx, .func (.func 41) #[] #[]] w fun e w' => e = .returned (.slice (some ⟨B, 0, none⟩) k cx) ∧ w'.ownsRow base 37 3 (.slice (some ⟨B, 0, none⟩) k cx) k (cellsMl (keepM Ms)) ∧ w.grownBy w' (some B) := by
  have hsr : Src w (some ⟨B, 0, none⟩) (cellsMl Ms) := by
    obtain ⟨a9, c9, e9, s9, _⟩ := own_src ho
    cases e9
    exact s9
  have CI := indexDelI (some ⟨B, 0, none⟩) ml cx Ms w hml (by omega) hM hsr
  have hcx := (own_capx ho).1
  have HO : Hid (w.ownsRow base 37 3 (.slice (some ⟨B, 0, none⟩) ml cx) ml (cellsMl Ms)) := ho
  have HML : Hid (Ms.length = ml) := hml
  have HM : Hid (∀ m ∈ Ms, 0 ≤ m.2.1 ∧ m.2.1 ≤ 3) := hM
  have HK : Hid ((keepM Ms).length = k) := hk
  clear ho hml hM hk hsr
  go_enter Tryz.func42, Tryz.ntmps42
  go_wp2_with fail
  refine CI.mono ?_
  rintro e w1 ⟨i, rfl, hfi, hb1⟩
  have O1 : Hid (w1.ownsRow base 37 3 (.slice (some ⟨B, 0, none⟩) ml cx) ml (cellsMl Ms)) := own_below HO.out hb1
  have G1 : Hid (w.grownBy w1 (some B)) := gb_below (gb_refl w (some B)) hb1
  clear hb1 CI HO
  rcases hfi with ⟨k0, hk0, rfl, hd0, hf0⟩ | ⟨rfl, hall⟩
  case inr =>
    have hkm : keepM Ms = Ms := by
      unfold keepM
      rw [List.filter_eq_self]
      intro m hm9
      rw [hall m hm9]
      rfl
    have HF : Hid (ml = k ∧ w1.ownsRow base 37 3 (.slice (some ⟨B, 0, none⟩) k cx) k (cellsMl (keepM Ms))) := by
      have h9 := HK.out
      rw [hkm, HML.out] at h9
      subst h9
      rw [hkm]
      exact ⟨rfl, O1.out⟩
    have HKE : Hid (Ending.returned (Value.slice (some ⟨B, 0, none⟩) ml cx) = Ending.returned (Value.slice (some ⟨B, 0, none⟩) k cx)) := by
      show _ = _
      rw [HF.out.1]
    clear hall hkm O1
    go_wp2_with fail
    go_ret
    exact ⟨HKE.out, HF.out.2, G1.out⟩
  have hk0m : k0 < ml := by rw [← HML.out]; exact hk0
  have hne : ((k0 : Int) == -1) = false := by
    rw [beq_eq_false_iff_ne]
    omega
  have HR0 : Hid (RowIs Ms Ms k0 (k0 + 1)) := ⟨rfl, by rw [keep_next hk0, hd0, if_pos rfl, List.append_nil, keep_first k0 (by omega) hf0], rfl, by omega⟩
  clear hd0 hf0 hk0
  go_wp2_with fail
  go_loopw [5, 6] (fun iv jv wr => ∃ (p j : Nat) (A : List MMl), p < j ∧ j ≤ ml ∧ iv = .int .i64 (p : Int) ∧ jv = .int .i64 (j : Int) ∧ Hid (RowIs Ms A p j) ∧ Hid (wr.ownsRow base 37 3 (.slice (some ⟨B, 0, none⟩) ml cx) ml (cellsMl A)) ∧ Hid (w.grownBy wr (some B))) (fun _ j _ => ml - (RowKit.intOf j).toNat)
  case atStart => exact ⟨k0, k0 + 1, Ms, by omega, by omega, rfl, by go_num, HR0.out, O1.out, G1.out⟩
  case round =>
    obtain ⟨p, j, A, hpj, hj, rfl, rfl, hrow, hoA, hgr⟩ := hrel
    by_cases hlt : j < ml
    · have hlti : (j : Int) < (ml : Int) := by omega
      have hjM : j < Ms.length := by rw [HML.out]; exact hlt
      have hAl : A.length = ml := by rw [hrow.out.1]; exact HML.out
      have hsA : Src wr (some ⟨B, 0, none⟩) (cellsMl A) := by
        obtain ⟨a9, c9, e9, s9, _⟩ := own_src hoA.out
        cases e9
        exact s9
      obtain ⟨b9, o9, x0, x1, x2, e9, m0, m1, m2, hx⟩ := srcMl hsA (show j < A.length by omega)
      cases e9
      rw [Nat.zero_add] at m0 m1 m2
      have hxM : Ms.getD j ml0 = (x0, x1, x2) := by rw [← row_get hrow.out hjM]; exact hx.out
      have hr := HM.out (Ms.getD j ml0) (mem_getD' Ms ml0 j hjM)
      rw [hxM] at hr
      dsimp only at hr
      obtain ⟨wa, hwa⟩ : ∃ W, wr.alloc (.cells #[.int .i64 x0, .int .i64 x1, .string x2] 37) = W := ⟨_, rfl⟩
      have AA : Below wr.heap.size wr wa := by rw [← hwa]; exact (Below.refl _ _).alloc (Nat.le_refl _) _
      have XA : Box wa wr.heap.size [.int .i64 x0, .int .i64 x1, .string x2] := by rw [← hwa]; exact Box.new rfl
      obtain ⟨z0, _⟩ := XA 0 _ rfl
      obtain ⟨z1, _⟩ := XA 1 _ rfl
      obtain ⟨z2, _⟩ := XA 2 _ rfl
      have HXA : Hid (Box wa wr.heap.size [.int .i64 x0, .int .i64 x1, .string x2]) := XA
      have OA : Hid (wa.ownsRow base 37 3 (.slice (some ⟨B, 0, none⟩) ml cx) ml (cellsMl A)) := own_below hoA.out AA
      have GA : Hid (w.grownBy wa (some B)) := gb_below hgr.out AA
      obtain ⟨bb, hbb⟩ : ∃ t, delB (x0, x1, x2) = t := ⟨_, rfl⟩
      have CD := deletedI x0 x1 x2 hr.1 hr.2 wa bb hbb
      have HBM : Hid (Ms.getD j ml0 = (x0, x1, x2) ∧ delB (x0, x1, x2) = bb ∧ j < Ms.length ∧ A.length = ml) := ⟨hxM, hbb, hjM, hAl⟩
      clear hsA hx hxM hr hbb AA XA hjM hAl hoA hgr
      go_wp2_with fail
      refine CD.mono ?_
      rintro e w5 ⟨rfl, hb5⟩
      have O5 : Hid (w5.ownsRow base 37 3 (.slice (some ⟨B, 0, none⟩) ml cx) ml (cellsMl A)) := own_below OA.out hb5
      have G5 : Hid (w.grownBy w5 (some B)) := gb_below GA.out hb5
      have X5 : Hid (Box w5 wr.heap.size [.int .i64 x0, .int .i64 x1, .string x2]) := HXA.out.below hb5
      clear CD hb5 OA GA HXA z0 z1 z2 m0 m1 m2 hwa
      cases bb with
      | true =>
        have HR1 : Hid (RowIs Ms A p (j + 1)) := row_del hrow.out HBM.out.2.2.1 (by rw [HBM.out.1]; exact HBM.out.2.1)
        go_wp2_with fail
        exact ⟨⟨p, j + 1, A, by omega, by omega, rfl, by go_num, HR1.out, O5.out, G5.out⟩, by simp [RowKit.intOf]; omega⟩
      | false =>
        have hpm : (p : Int) < (ml : Int) := by omega
        have hpA : p < A.length := by rw [HBM.out.2.2.2]; omega
        have HR1 : Hid (RowIs Ms (A.set p (x0, x1, x2)) (p + 1) (j + 1)) := by
          have h9 := row_keep hrow.out HBM.out.2.2.1 hpj (by rw [HBM.out.1]; exact HBM.out.2.1)
          rw [HBM.out.1] at h9
          exact h9
        have hcl : (cellsMl A).length = ml * 3 := by rw [cellsMl_length, HBM.out.2.2.2]
        obtain ⟨y0, f0, f0'⟩ := own_cellX O5.out (i := p * 3) (by omega)
        have O6 := own_set O5.out (p * 3) (by omega) (.int .i64 x0)
        obtain ⟨y1, f1, f1'⟩ := own_cellX O6 (i := p * 3 + 1) (by rw [List.length_set]; omega)
        have O7 := own_set O6 (p * 3 + 1) (by rw [List.length_set]; omega) (.int .i64 x1)
        obtain ⟨y2, f2, f2'⟩ := own_cellX O7 (i := p * 3 + 2) (by rw [List.length_set, List.length_set]; omega)
        have O8 := own_set O7 (p * 3 + 2) (by rw [List.length_set, List.length_set]; omega) (.string x2)
        have HO8 : Hid ((((w5.setCell ⟨B, p * 3, none⟩ (.int .i64 x0)).setCell ⟨B, p * 3 + 1, none⟩ (.int .i64 x1)).setCell ⟨B, p * 3 + 2, none⟩ (.string x2)).ownsRow base 37 3 (.slice (some ⟨B, 0, none⟩) ml cx) ml (cellsMl (A.set p (x0, x1, x2)))) := own_congr O8 (cells_put A p (x0, x1, x2) hpA)
        have HG8 : Hid (w.grownBy (((w5.setCell ⟨B, p * 3, none⟩ (.int .i64 x0)).setCell ⟨B, p * 3 + 1, none⟩ (.int .i64 x1)).setCell ⟨B, p * 3 + 2, none⟩ (.string x2)) (some B)) := gb_set (gb_set (gb_set G5.out _ _) _ _) _ _
        obtain ⟨z0, _⟩ := X5.out 0 _ rfl
        obtain ⟨z1, _⟩ := X5.out 1 _ rfl
        obtain ⟨z2, _⟩ := X5.out 2 _ rfl
        clear O6 O7 O8 hcl
        go_wp2_with fail
        exact ⟨⟨p + 1, j + 1, A.set p (x0, x1, x2), by omega, by omega, by go_num, by go_num, HR1.out, HO8.out, HG8.out⟩, by simp [RowKit.intOf]; omega⟩
    · obtain rfl : j = ml := by omega
      have hlti : ¬ (j : Int) < (j : Int) := by omega
      have hAl : A.length = j := by rw [hrow.out.1]; exact HML.out
      have hkA : A.take p = keepM Ms := by
        rw [hrow.out.2.1, List.take_of_length_le (by rw [HML.out]; exact Nat.le_refl _)]
      have hpk : p = k := by
        rw [← HK.out, ← hkA, List.length_take]
        omega
      have hcut : ∀ W, (Instr.slice 26 (.slice (some ⟨B, 0, none⟩) j cx) (some (.int .i64 (p : Int))) none none).run Tryz.prog W = .ok (.slice (some ⟨B, p * 3, none⟩) (j - p) (cx - p)) W := fun W => by
        rw [cut_l Tryz.underlying26 Tryz.sizeOf37 (some ⟨B, 0, none⟩) j cx p (by omega) W, cut_row (by omega)]
      have hcut2 : ∀ W, (Instr.slice 26 (.slice (some ⟨B, 0, none⟩) j cx) none (some (.int .i64 (p : Int))) none).run Tryz.prog W = .ok (.slice (some ⟨B, 0, none⟩) p cx) W := fun W => cut_h Tryz.underlying26 Tryz.sizeOf37 (some ⟨B, 0, none⟩) j cx p (by omega) W
      obtain ⟨zl, zo⟩ := zero_mails (j - p)
      obtain ⟨Z, hZ⟩ : ∃ t, (Builtin.zeroCells zM.cells (j - p)).toList = t := ⟨_, rfl⟩
      rw [hZ] at zl zo
      have hclr : ∀ ty, (Builtin.clear_ #[26] ty #[.slice (some ⟨B, p * 3, none⟩) (j - p) (cx - p)]).run Tryz.prog wr = .ok (.tuple #[]) (wr.setCells B (p * 3) Z) := fun ty => run_clear_rows wr 26 37 ty zM Tryz.underlying26 Tryz.zeroValue37 B (p * 3) (j - p) (cx - p) (by omega) Z hZ zo (fun q hq => by
        rw [(own_cell hoA.out (i := p * 3 + q) (by rw [cellsMl_length, hAl]; omega)).1]
        rfl) (fun q hq => (own_cell hoA.out (i := p * 3 + q) (by rw [cellsMl_length, hAl]; omega)).2)
      have HF : Hid ((wr.setCells B (p * 3) Z).ownsRow base 37 3 (.slice (some ⟨B, 0, none⟩) k cx) k (cellsMl (keepM Ms)) ∧ w.grownBy (wr.setCells B (p * 3) Z) (some B)) := by
        have h9 := own_short hoA.out (k := p) (by omega)
        rw [cells_take, hkA] at h9
        rw [← hpk]
        exact ⟨own_pasts Z (p * 3) wr h9 (Nat.le_refl _), gb_sets Z (p * 3) wr hgr.out⟩
      have HKE : Hid (Ending.returned (Value.slice (some ⟨B, 0, none⟩) p cx) = Ending.returned (Value.slice (some ⟨B, 0, none⟩) k cx)) := by
        show _ = _
        rw [hpk]
      clear hAl hkA hpk hZ zl zo hrow hoA hgr
      go_wp2_with fail
      go_ret
      exact ⟨HKE.out, HF.out.1, HF.out.2⟩
end Go.Proofs.YthgbclipknfmjaaGreatDoor
