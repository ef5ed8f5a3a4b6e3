/-
  Opi Drp in one. By an AI agent.
-/
import Derived.Test.YtddnecljdecamaaGreatDoorQ23
import Derived.Test.YtddnecljdecamaaGreatDoorQ21
namespace Go.Proofs.YtddnecljdecamaaGreatDoor
open Go.ChangeShapes Go.WideShapes Go.ChangeAt Go.RowKit Go.Deep Go.Lib
set_option linter.unusedVariables false
set_option linter.unusedSimpArgs false
set_option maxRecDepth 100000

def addM (nx : Int) (S : SM) (p : ByteArray) : Int × Int × SM := if S.word.toList ≠ [] then (9, nx, S) else if 9999 < nx then (6, nx, ⟨S.aside, p, S.fs⟩) else (0, nx + 1, ⟨S.aside, p, putF ⟨inboxT, nx, 1, []⟩ S.fs⟩)
def mkM (nx : Int) (S : SM) (f : ByteArray) : Int × Int × SM := if S.word.toList = [] then (15, nx, S) else if (lookF f S.fs).isSome = true then (9, nx, S) else if 9999 < nx then (6, nx, S) else (0, nx + 1, ⟨S.aside, S.word, putF ⟨f, nx, 1, []⟩ S.fs⟩)
theorem st_fresh {w : World} {M : Nat} {a : Option Addr} {n c : Nat} {va : Value} {sd : List PM} {nx nx' : Int} {u wd : ByteArray} {X : List FX} {fs : List FM} {k : Nat} {nm : ByteArray} (hD : DeskAt w M ⟨a, n, c, va, sd, nx', u, wd, X⟩) (hV : View u X (putF ⟨nm, nx, 1, []⟩ fs)) (hN : (fs.map (·.name)).Nodup) (hf : ∀ f ∈ fs, 1 ≤ f.next ∧ f.next ≤ 999 ∧ f.mails.length ≤ k) (hk : sd.length ≤ k) : StAt w M a n c nx' u ⟨sd, wd, putF ⟨nm, nx, 1, []⟩ fs⟩ k :=
  ⟨va, X, hD, hV, putF_names hN, fun g hg => by
    rcases putF_mem hg with hg | rfl
    · exact hf g hg
    · exact ⟨by show (1 : Int) ≤ 1; omega, by show (1 : Int) ≤ 999; omega, by show 0 ≤ k; omega⟩, hk⟩
set_option maxHeartbeats 2000000 in
theorem addUserI (w : World) (M : Nat) (a : Option Addr) (n c : Nat) (nx : Int) (u : ByteArray) (S : SM) (k : Nat) (hS : StAt w M a n c nx u S k) (p : ByteArray) (hu : u.size ≤ 1000) (n0 : 0 ≤ nx) (n1 : nx ≤ 10000) (q nx' : Int) (S' : SM) (HQ : Hid (addM nx S p = (q, nx', S'))) :
    Calls Tryz.prog 80 #[.pointer (some ⟨M + 1, 0, none⟩), .string p] w fun e w' => e = .returned (.int .i64 q) ∧ StAt w' M a n c nx' u S' k ∧ Below M w w' := by
  obtain ⟨va, X, hD, hV, hN, hf, hk⟩ := hS
  obtain ⟨e4, _⟩ := hD.1 4 _ rfl
  have HST : Hid (StAt w M a n c nx u S k) := ⟨va, X, hD, hV, hN, hf, hk⟩
  have e4' : w.cell? ⟨M + 1, 4, none⟩ = some (.string S.word) := e4
  have hM1 : M + 1 < w.heap.size := World.block_lt_of_cell? _ _ e4'
  have hq9 := HQ.out
  unfold addM at hq9
  obtain ⟨sd, wd, fs⟩ := S
  dsimp only at e4' hV hN hf hk hq9 hD
  by_cases hw : wd.toList = []
  · have hwb : (wd.toList == []) = true := by rw [hw]; rfl
    rw [if_neg (by simp [hw])] at hq9
    have D2 : DeskAt (w.setCell ⟨M + 1, 4, none⟩ (.string p)) M ⟨a, n, c, va, sd, nx, u, p, X⟩ := desk_set hD 4 (.string p) rfl rfl rfl rfl
    have B2 : Hid (Below M w (w.setCell ⟨M + 1, 4, none⟩ (.string p))) := (Below.refl _ _).setCell (by show M ≤ M + 1; omega) _
    have CF := freshI inboxT 0 1 none 0 0 [] rfl (w.setCell ⟨M + 1, 4, none⟩ (.string p)) M a n c va sd nx u p X fs D2 hV hN hu (by decide) n0 n1 (World.ownsRow_nil _ _ _ _) (fun z _ _ g _ h9 => by cases h9)
    have HN : Hid ((fs.map (·.name)).Nodup ∧ (∀ f ∈ fs, 1 ≤ f.next ∧ f.next ≤ 999 ∧ f.mails.length ≤ k) ∧ sd.length ≤ k ∧ View u X fs) := ⟨hN, hf, hk, hV⟩
    have HQ9 : Hid ((if 9999 < nx then (6, nx, (⟨sd, p, fs⟩ : SM)) else (0, nx + 1, ⟨sd, p, putF ⟨inboxT, nx, 1, []⟩ fs⟩)) = (q, nx', S')) := hq9
    obtain ⟨_, z4⟩ := hD.1 4 _ rfl
    clear hD hV hN hf hk hq9 HQ D2 HST e4
    go_enter Tryz.func80, Tryz.ntmps80
    go_wp2_with fail
    refine CF.mono ?_
    rintro e w3 ⟨hb3, ⟨h9, rfl, hd3⟩ | ⟨h9, rfl, X', hd3, hv3⟩⟩
    · have HF : Hid (StAt w3 M a n c nx u ⟨sd, p, fs⟩ k ∧ Below M w w3) := ⟨⟨va, X, hd3, HN.out.2.2.2, HN.out.1, HN.out.2.1, HN.out.2.2.1⟩, B2.out.trans hb3⟩
      have hq := HQ9.out
      rw [if_pos h9] at hq
      cases hq
      clear CF hd3 hb3 HQ9
      go_wp2_with fail
      go_ret
      exact ⟨rfl, HF.out.1, HF.out.2⟩
    · have HF : Hid (StAt w3 M a n c (nx + 1) u ⟨sd, p, putF ⟨inboxT, nx, 1, []⟩ fs⟩ k ∧ Below M w w3) := ⟨st_fresh hd3 hv3 HN.out.1 HN.out.2.1 HN.out.2.2.1, B2.out.trans hb3⟩
      have hq := HQ9.out
      rw [if_neg (by omega)] at hq
      cases hq
      clear CF hd3 hb3 HQ9 hv3
      go_wp2_with fail
      go_ret
      exact ⟨rfl, HF.out.1, HF.out.2⟩
  · have hwb : (wd.toList == []) = false := beq_eq_false_iff_ne.2 hw
    rw [if_pos (by simpa using hw)] at hq9
    cases hq9
    clear hD hV hN hf hk HQ e4
    go_enter Tryz.func80, Tryz.ntmps80
    go_wp2_with fail
    go_ret
    exact ⟨rfl, HST.out, Below.refl _ _⟩
set_option maxHeartbeats 2000000 in
theorem makeFolderI (w : World) (M : Nat) (a : Option Addr) (n c : Nat) (nx : Int) (u : ByteArray) (S : SM) (k : Nat) (hS : StAt w M a n c nx u S k) (f : ByteArray) (hfz : f.size ≤ 1000) (hu : u.size ≤ 1000) (n0 : 0 ≤ nx) (n1 : nx ≤ 10000) (q nx' : Int) (S' : SM) (HQ : Hid (mkM nx S f = (q, nx', S'))) :
    Calls Tryz.prog 58 #[.pointer (some ⟨M + 1, 0, none⟩), .string f] w fun e w' => e = .returned (.int .i64 q) ∧ StAt w' M a n c nx' u S' k ∧ Below M w w' := by
  have hq9 := HQ.out
  unfold mkM at hq9
  have HST : Hid (StAt w M a n c nx u S k) := hS
  have hM : M ≤ w.heap.size := by
    obtain ⟨_, _, hD, _⟩ := hS
    have h9 : M + 1 < w.heap.size := World.block_lt_of_cell? _ _ (hD.1 0 _ rfl).1
    omega
  obtain ⟨lq, hlq⟩ : ∃ x, lackM S.word S.fs [] = x := ⟨_, rfl⟩
  have CL := lacksI w M a n c nx u S k hS hu none 0 0 [] rfl (by omega) (fun s hs => by cases hs) (.inl rfl) lq hlq
  by_cases hw : S.word.toList = []
  · rw [if_pos hw] at hq9
    cases hq9
    obtain rfl : 15 = lq := by rw [← hlq]; unfold lackM; rw [if_pos hw]
    clear hS HQ hlq
    go_enter Tryz.func58, Tryz.ntmps58
    go_wp2_with fail
    refine CL.mono ?_
    rintro e w1 ⟨rfl, hb1⟩
    have HF : Hid (StAt w1 M a n c nx u S k ∧ Below M w w1) := ⟨HST.out.later hb1, hb1.mono hM⟩
    clear CL hb1
    go_wp2_with fail
    go_ret
    exact ⟨rfl, HF.out.1, HF.out.2⟩
  · rw [if_neg hw] at hq9
    obtain rfl : 0 = lq := by rw [← hlq]; unfold lackM; rw [if_neg hw]; rfl
    have HQ9 : Hid ((if (lookF f S.fs).isSome = true then (9, nx, S) else if 9999 < nx then (6, nx, S) else (0, nx + 1, ⟨S.aside, S.word, putF ⟨f, nx, 1, []⟩ S.fs⟩)) = (q, nx', S')) := hq9
    clear hlq hq9 HQ hS
    obtain ⟨st, hst⟩ : ∃ x, (lookF f S.fs).isSome = x := ⟨_, rfl⟩
    rw [hst] at HQ9
    have HST2 : Hid ((lookF f S.fs).isSome = st) := hst
    clear hst
    go_enter Tryz.func58, Tryz.ntmps58
    go_wp2_with fail
    refine CL.mono ?_
    rintro e w1 ⟨rfl, hb1⟩
    have B1 : Hid (Below w.heap.size w w1) := hb1
    obtain ⟨va, X, hD, hV, hN, hf, hk⟩ := HST.out.later hb1
    have CH := hasI f w1 M _ (by omega) (by show u.size ≤ 1048576; omega) hD st (hV.some f st HST2.out)
    have H1 : Hid (DeskAt w1 M ⟨a, n, c, va, S.aside, nx, u, S.word, X⟩ ∧ View u X S.fs ∧ (S.fs.map (·.name)).Nodup ∧ (∀ f ∈ S.fs, 1 ≤ f.next ∧ f.next ≤ 999 ∧ f.mails.length ≤ k) ∧ S.aside.length ≤ k) := ⟨hD, hV, hN, hf, hk⟩
    clear hD hV hN hf hk hb1 CL
    go_wp2_with fail
    refine CH.mono ?_
    rintro e w2 ⟨rfl, hb2⟩
    have B2 : Hid (Below w.heap.size w w2) := B1.out.trans (hb2.mono B1.out.size)
    have H2 : Hid (DeskAt w2 M ⟨a, n, c, va, S.aside, nx, u, S.word, X⟩) := H1.out.1.later hb2
    clear hb2 CH
    cases st with
    | true =>
      have hq := HQ9.out
      rw [if_pos rfl] at hq
      cases hq
      have HF : Hid (StAt w2 M a n c nx u S k) := ⟨va, X, H2.out, H1.out.2⟩
      go_wp2_with fail
      go_ret
      exact ⟨rfl, HF.out, B2.out.mono hM⟩
    | false =>
      have CF := freshI f 0 1 none 0 0 [] rfl w2 M a n c va S.aside nx u S.word X S.fs H2.out H1.out.2.1 H1.out.2.2.1 hu hfz n0 n1 (World.ownsRow_nil _ _ _ _) (fun z _ _ g _ h9 => by cases h9)
      have HQ8 : Hid ((if 9999 < nx then (6, nx, S) else (0, nx + 1, ⟨S.aside, S.word, putF ⟨f, nx, 1, []⟩ S.fs⟩)) = (q, nx', S')) := by have h9 := HQ9.out; rw [if_neg (by decide)] at h9; exact h9
      clear HQ9
      go_wp2_with fail
      refine CF.mono ?_
      rintro e w3 ⟨hb3, ⟨h9, rfl, hd3⟩ | ⟨h9, rfl, X', hd3, hv3⟩⟩
      · have HF : Hid (StAt w3 M a n c nx u S k ∧ Below M w w3) := ⟨⟨va, X, hd3, H1.out.2⟩, (B2.out.mono hM).trans hb3⟩
        have hq := HQ8.out
        rw [if_pos h9] at hq
        cases hq
        clear CF hd3 hb3 HQ8
        go_wp2_with fail
        go_ret
        exact ⟨rfl, HF.out.1, HF.out.2⟩
      · have HF : Hid (StAt w3 M a n c (nx + 1) u ⟨S.aside, S.word, putF ⟨f, nx, 1, []⟩ S.fs⟩ k ∧ Below M w w3) := ⟨st_fresh hd3 hv3 H1.out.2.2.1 H1.out.2.2.2.1 H1.out.2.2.2.2, (B2.out.mono hM).trans hb3⟩
        have hq := HQ8.out
        rw [if_neg (by omega)] at hq
        cases hq
        clear CF hd3 hb3 HQ8 hv3
        go_wp2_with fail
        go_ret
        exact ⟨rfl, HF.out.1, HF.out.2⟩
/-- What a change on the desk must be, held against the list that is asked for. -/
def OpFits (L : List PM) (u : ByteArray) (q nx' : Int) (S' : SM) (A : List PM × Int) : Prop :=
  (q ≠ 0 → A = (L, q)) ∧ (q = 0 → 0 ≤ nx' ∧ nx' ≤ 10000 ∧ (∀ f ∈ S'.fs, FitF f) ∧ ∃ Y, UpL Y ∧ (deskP nx' u S').Perm Y ∧ Y.length ≤ 4000 ∧ A = fitsR L Y)
theorem fit_new {nm : ByteArray} {nx : Int} {fs : List FM} (hn : nm.size ≤ 1000) (h0 : 0 ≤ nx) (h1 : nx ≤ 10000) (hF : ∀ f ∈ fs, FitF f) : ∀ f ∈ putF ⟨nm, nx, 1, []⟩ fs, FitF f := fun f hf => by
  rcases putF_mem hf with hf | rfl
  · exact hF f hf
  · exact ⟨h0, h1, by show (0 : Int) ≤ 1; omega, by show (1 : Int) ≤ 10000; omega, hn, fun m hm => by cases hm⟩
theorem word_iff {L : List PM} {u : ByteArray} {S : SM} (h : storeB L = true) (hus : (47 : UInt8) ∉ u.data.toList) (hS : takeAll (nextM L) u S0 L = some S) : (S.word.toList = [] ↔ getM L (userK u) = none) ∧ S.word = (getM L (userK u)).getD e0 := by
  obtain ⟨S', k1, k2, _⟩ := take_all h hus
  rw [hS] at k1
  cases k1
  refine ⟨?_, k2⟩
  rw [k2]
  cases hv : getM L (userK u) with
  | none => exact ⟨fun _ => rfl, fun _ => by show (e0 : ByteArray).toList = []; rw [ByteArray.toList_eq]⟩
  | some v => exact ⟨fun h9 => absurd h9 (word_some h hus hv), fun h9 => by cases h9⟩
theorem look_iff {L : List PM} {u f : ByteArray} {S : SM} (h : storeB L = true) (hus : (47 : UInt8) ∉ u.data.toList) (hS : takeAll (nextM L) u S0 L = some S) (hf : (47 : UInt8) ∉ f.data.toList) : (lookF f S.fs).isSome = (metaM L u f).isSome ∧ (lookF f S.fs = none → ∀ x ∈ L, x.1 ≠ folderK u f) := by
  have hg := (store_facts h).1
  constructor
  · rw [Bool.eq_iff_iff]
    constructor
    · intro h1
      obtain ⟨g, hg1⟩ := Option.isSome_iff_exists.1 h1
      obtain ⟨w, k1, k2, _⟩ := look_known h hus hS hg1
      unfold metaM
      rw [(getM_mem hg.2.2).2 k1]
      exact k2
    · intro h1
      obtain ⟨p, hp⟩ := Option.isSome_iff_exists.1 h1
      obtain ⟨w, k1, _⟩ := (meta_iff hg.2.2).1 hp
      exact look_there h hus hS hf k1
  · intro h1 x hx e
    have h2 := look_there (w := x.2) h hus hS hf (by rw [← e]; exact hx)
    rw [h1] at h2
    cases h2
theorem add_fits {L : List PM} {u p : ByteArray} {S S' : SM} {q nx' : Int} (h : storeB L = true) (hsu : shortB u = true) (hS : takeAll (nextM L) u S0 L = some S) (hQ : addM (nextM L) S p = (q, nx', S')) : OpFits L u q nx' S' (addR L u p) := by
  have hus := word_slash hsu
  obtain ⟨hg, nx0, hnm, n1, n2, _, _, _⟩ := store_facts h
  rw [hnm] at n1 n2
  obtain ⟨hwi, _⟩ := word_iff h hus hS
  unfold addM at hQ
  unfold addR
  by_cases hw : S.word.toList = []
  · have hno := hwi.1 hw
    rw [if_neg (by simp [hw])] at hQ
    rw [hno, if_neg (by simp)]
    unfold freshR
    rw [next_ins hg.2.2 (user_not u).symm]
    by_cases hx : 9999 < nextM L
    · rw [if_pos hx] at hQ
      cases hQ
      rw [if_pos hx]
      exact ⟨fun _ => rfl, fun h9 => by cases h9⟩
    · rw [if_neg hx] at hQ
      cases hQ
      rw [if_neg hx]
      refine ⟨fun h9 => absurd rfl h9, fun _ => ⟨by omega, by omega, fit_new (by decide) (by omega) n2 (store_fit h hS), ?_⟩⟩
      have hfs := no_folders h hus hS hno
      have hno2 := getM_none.1 hno
      have hu1 := ins_up (k := userK u) (v := p) hg.2.2
      refine ⟨_, ins_up (ins_up hu1), fresh_perm hu1 ?_ ?_ ?_, ?_, rfl⟩
      · refine (notK_perm (ins_perm hg.2.2)).trans ?_
        rw [notK_cons vK _ _ (user_not u), notK_self hno2]
        refine List.Perm.cons _ ?_
        have h1 := rest_perm h hus hS
        unfold wordL at h1
        rw [if_pos hw, List.nil_append] at h1
        exact h1
      · rw [hfs]; rfl
      · intro x hx2
        rcases ins_mem hg.2.2 hx2 with rfl | hx2
        · exact fun e => by
            have h9 := congrArg (fun x : ByteArray => x.data.toList) e
            simp [ByteArray.data_append] at h9
        · intro e
          obtain ⟨z, z1, z2⟩ := user_of_folder (name := inboxT) (w := x.2) h hus (by decide) (by rw [← e]; exact hx2.1)
          exact hno2 z z1 z2
      · have a1 := (ins_len (k := userK u) (v := p) hg.2.2).1
        have a2 := (ins_len (k := vK) (v := bs (itoa (nextM L + 1))) hu1).1
        have a3 := (ins_len (k := folderK u inboxT) (v := metaT (nextM L) 1) (ins_up (k := vK) (v := bs (itoa (nextM L + 1))) hu1)).1
        have := hg.1
        omega
  · rw [if_pos (by simpa using hw)] at hQ
    cases hQ
    have hs : (getM L (userK u)).isSome = true := by
      cases hv : getM L (userK u) with
      | none => exact absurd (hwi.2 hv) hw
      | some v => rfl
    rw [if_pos hs]
    exact ⟨fun _ => rfl, fun h9 => by cases h9⟩
theorem mk_fits {L : List PM} {u f : ByteArray} {S S' : SM} {q nx' : Int} (h : storeB L = true) (hsu : shortB u = true) (hsf : shortB f = true) (hS : takeAll (nextM L) u S0 L = some S) (hQ : mkM (nextM L) S f = (q, nx', S')) : OpFits L u q nx' S' (mkR L u f) := by
  have hus := word_slash hsu
  have hfs := word_slash hsf
  obtain ⟨hg, nx0, hnm, n1, n2, _, _, _⟩ := store_facts h
  rw [hnm] at n1 n2
  obtain ⟨hwi, hwd⟩ := word_iff h hus hS
  obtain ⟨hli, hln⟩ := look_iff h hus hS hfs
  have hfz := short_size' hsf
  unfold mkM at hQ
  by_cases hw : S.word.toList = []
  · rw [if_pos hw] at hQ
    cases hQ
    have hk : knownR L u f = 15 := by unfold knownR; rw [hwi.1 hw]; rfl
    unfold mkR
    rw [hk, if_pos rfl]
    exact ⟨fun _ => rfl, fun h9 => by cases h9⟩
  · rw [if_neg hw] at hQ
    have hs : (getM L (userK u)).isSome = true := by
      cases hv : getM L (userK u) with
      | none => exact absurd (hwi.2 hv) hw
      | some v => rfl
    by_cases hl : (lookF f S.fs).isSome = true
    · rw [if_pos hl] at hQ
      cases hQ
      have hk : knownR L u f = 0 := by unfold knownR; rw [hs, ← hli, hl]; rfl
      unfold mkR
      rw [hk, if_neg (by decide), if_pos rfl]
      exact ⟨fun _ => rfl, fun h9 => by cases h9⟩
    · rw [if_neg hl] at hQ
      have hl0 : lookF f S.fs = none := by
        cases hv : lookF f S.fs with
        | none => rfl
        | some g => rw [hv] at hl; exact absurd rfl hl
      have hk : knownR L u f = 16 := by unfold knownR; rw [hs, ← hli, hl0]; rfl
      unfold mkR
      rw [hk, if_neg (by decide), if_neg (by decide)]
      unfold freshR
      by_cases hx : 9999 < nextM L
      · rw [if_pos hx] at hQ
        cases hQ
        rw [if_pos hx]
        exact ⟨fun _ => rfl, fun h9 => by cases h9⟩
      · rw [if_neg hx] at hQ
        cases hQ
        rw [if_neg hx]
        refine ⟨fun h9 => absurd rfl h9, fun _ => ⟨by omega, by omega, fit_new (by omega) (by omega) n2 (store_fit h hS), ?_⟩⟩
        refine ⟨_, ins_up (ins_up hg.2.2), fresh_perm hg.2.2 ?_ hl0 (hln hl0), ?_, rfl⟩
        · have h1 := rest_perm h hus hS
          unfold wordL at h1
          rw [if_neg hw] at h1
          exact h1
        · have a2 := (ins_len (k := vK) (v := bs (itoa (nextM L + 1))) hg.2.2).1
          have a3 := (ins_len (k := folderK u f) (v := metaT (nextM L) 1) (ins_up (k := vK) (v := bs (itoa (nextM L + 1))) hg.2.2)).1
          have := hg.1
          omega
end Go.Proofs.YtddnecljdecamaaGreatDoor
namespace Go.Proofs.YtddnecljdecamaaGreatDoor
open Go.ChangeShapes Go.WideShapes Go.ChangeAt Go.RowKit Go.Deep Go.Lib
open Go.ChangeMaps (setBlock)
set_option linter.unusedVariables false
set_option linter.unusedSimpArgs false
set_option maxRecDepth 100000

def dropX (k : ByteArray) : List FX → List FX
  | [] => []
  | x :: X => if x.k = k then X else x :: dropX k X
theorem dropX_some (k : ByteArray) (x : FX) (B : List FX) (hx : x.k = k) : ∀ A : List FX, (∀ z ∈ A, z.k ≠ k) → dropX k (A ++ x :: B) = A ++ B
  | [], _ => by rw [List.nil_append, dropX, if_pos hx]; rfl
  | z :: A, h => by
    rw [List.cons_append, dropX, if_neg (h z List.mem_cons_self), dropX_some k x B hx A (fun u hu => h u (List.mem_cons_of_mem _ hu))]
    rfl
theorem dropX_sub (k : ByteArray) : ∀ X : List FX, (dropX k X).Sublist X
  | [] => List.Sublist.refl _
  | x :: X => by
    unfold dropX
    split
    · exact List.sublist_cons_self _ _
    · exact (dropX_sub k X).cons_cons x
theorem View.drop {u n : ByteArray} : ∀ {X : List FX} {fs : List FM}, View u X fs → View u (dropX (folderK u n) X) (dropF n fs)
  | [], [], _ => rfl
  | [], _ :: _, h => by cases h
  | _ :: _, [], h => by cases h
  | x :: X, f :: fs, h => by
    unfold View at h
    simp only [List.map_cons, List.cons.injEq, Prod.mk.injEq] at h
    obtain ⟨⟨h1, h2⟩, h3⟩ := h
    have ih := View.drop (u := u) (n := n) (X := X) (fs := fs) h3
    unfold dropX dropF
    by_cases e : f.name = n
    · rw [if_pos e, if_pos (by rw [h1, e])]
      exact h3
    · rw [if_neg e, if_neg (fun e2 => e (folderK_inj (h1.symm.trans e2)))]
      unfold View at ih ⊢
      simp only [List.map_cons]
      rw [ih, h1, h2]
theorem run_del {w : World} {M clock : Nat} {X : List FX} (h : MapIs w M clock X) (k : ByteArray) (hx : (lookX k X).isSome = true) (ty : TypeId) :
    (Builtin.delete_ #[78, 9] ty #[.map (some M), .string k]).run Tryz.prog w = .ok (.tuple #[]) (setBlock w M (.map ((dropX k X).map entX).toArray clock)) ∧ MapIs (setBlock w M (.map ((dropX k X).map entX).toArray clock)) M clock (dropX k X) := by
  obtain ⟨hb, h2, h3⟩ := h
  have hlt : M < w.heap.size := (Array.getElem?_eq_some_iff.1 hb).1
  constructor
  · obtain ⟨x, hl⟩ := Option.isSome_iff_exists.1 hx
    obtain ⟨A, B, rfl, k3, k4⟩ := lookX_some hl
    have h1 := MapKept.run_findKey (P := Tryz.prog) (w := w) Tryz.underlying9 (find_yes k x B k4 A 0 k3)
    have e : ((A ++ B).map entX).toArray = ((A ++ x :: B).map entX).toArray.eraseIdxIfInBounds (0 + A.length) := by
      unfold Array.eraseIdxIfInBounds
      rw [dif_pos (by simp)]
      apply Array.ext'
      rw [Array.toList_eraseIdx]
      simp [List.eraseIdx_append_of_length_le]
    rw [dropX_some k x B k4 A k3, e]
    generalize (A ++ x :: B).map entX = E at hb h1 ⊢
    simp [Builtin.delete_, run_underlying Tryz.underlying78, MapKept.run_getObj_map hb, MapKept.run_checkKey (P := Tryz.prog) Tryz.underlying9 (isKeyS k), h1, MapKept.run_setObj_map _ hb, Result.andThen, setBlock]
  · refine ⟨sb_same _ _ _ hlt, fun z hz => h2 z ((dropX_sub k X).subset hz), ?_⟩
    exact h3.sublist ((dropX_sub k X).map _)
theorem rows_drop {w : World} {M : Nat} {X : List FX} (h : Rows w M X) (k : ByteArray) : Rows w M (dropX k X) := ⟨fun x hx => h.1 x ((dropX_sub k X).subset hx), h.2.sublist (dropX_sub k X)⟩
set_option maxHeartbeats 2000000 in
theorem dropI (f : ByteArray) (w : World) (M : Nat) (D : DK) (hf : f.size ≤ 1048576) (hu : D.user.size ≤ 1048576) (hD : DeskAt w M D) (hx : (lookX (folderK D.user f) D.X).isSome = true) :
    Calls Tryz.prog 109 #[.pointer (some ⟨M + 1, 0, none⟩), .string f] w fun e w' => e = .returned (.tuple #[]) ∧ DeskAt w' M { D with X := dropX (folderK D.user f) D.X } ∧ Below M w w' ∧ (∀ t s v n xs, w.ownsRow (M + 2) t s v n xs → w'.ownsRow (M + 2) t s v n xs) ∧ ∀ B vs, B ≠ M → Box w B vs → Box w' B vs := by
  obtain ⟨hbox, ⟨clock, hmap⟩, hasd, hrows⟩ := hD
  obtain ⟨p3, _⟩ := hbox 3 _ rfl
  obtain ⟨p5, _⟩ := hbox 5 _ rfl
  have hlt : M < w.heap.size := (Array.getElem?_eq_some_iff.1 hmap.1).1
  have m1 : MapIs w.drew M clock D.X := hmap
  obtain ⟨hdel, hmi⟩ := run_del m1 (folderK D.user f) hx 0
  obtain ⟨O, hO⟩ : ∃ O, (.map ((dropX (folderK D.user f) D.X).map entX).toArray clock : Obj) = O := ⟨_, rfl⟩
  rw [hO] at hdel hmi
  have CK := fun W => folderKeyI D.user f W hu hf
  obtain ⟨K9, hK9⟩ : ∃ K, folderK D.user f = K := ⟨_, rfl⟩
  have HF : Hid (DeskAt (setBlock w.drew M O) M { D with X := dropX (folderK D.user f) D.X }) :=
    ⟨box_sb (w := w.drew) hbox O (by omega), ⟨clock, hmi⟩, own_sb (w := w.drew) hasd O (by omega), fun x hx => own_sb (w := w.drew) ((rows_drop hrows _).1 x hx) O (by omega), (rows_drop hrows _).2⟩
  have HB : Hid (Below M w (setBlock w.drew M O)) := (Below.refl _ _).drew.trans (sb_below _ M O)
  have HOW : Hid ((∀ t s v n xs, w.ownsRow (M + 2) t s v n xs → (setBlock w.drew M O).ownsRow (M + 2) t s v n xs) ∧ ∀ B vs, B ≠ M → Box w B vs → Box (setBlock w.drew M O) B vs) := ⟨fun t s v n xs h9 => own_sb (w := w.drew) h9 O (by omega), fun B vs h9 h8 => box_sb (w := w.drew) h8 O h9⟩
  have HS : Hid ((setBlock w.drew M O).cell? ⟨M + 1, 3, none⟩ = some (.string D.user) ∧ (setBlock w.drew M O).cell? ⟨M + 1, 5, none⟩ = some (.map (some M))) := by
    have hx := box_sb (w := w.drew) (M := M) hbox O (by omega)
    exact ⟨(hx 3 _ rfl).1, (hx 5 _ rfl).1⟩
  rw [hK9] at hdel
  simp only [hK9] at CK
  obtain ⟨us, hus⟩ : ∃ x, D.user = x := ⟨_, rfl⟩
  have p3' : w.cell? ⟨M + 1, 3, none⟩ = some (.string us) := by rw [← hus]; exact p3
  rw [hus] at HS
  simp only [hus] at CK
  clear hbox hmap hasd hrows m1 hmi hO hK9 hx hus p3
  go_enter Tryz.func109, Tryz.ntmps109
  go_wp2_with fail
  refine wp_region_noPanic ?_
  refine wp_region_held_drew (S := fun w' => w'.cell? ⟨M + 1, 3, none⟩ = some (.string us) ∧ w'.cell? ⟨M + 1, 5, none⟩ = some (.map (some M))) (by kernel_rfl) ⟨p3', p5⟩ (fun hHeld => ?_)
  refine tkA (i := 0) (v := .pointer (some ⟨M + 1, 0, none⟩)) ?_ hHeld ?_
  · intro w9 hSw
    obtain ⟨z0, z1⟩ := hSw
    go_simp
  simp only [Act.put, List.setIfInBounds_toArray, List.set_cons_zero, List.set_cons_succ]
  refine tkA (i := 1) (v := .pointer (some ⟨M + 1, 0, none⟩)) ?_ hHeld ?_
  · intro w9 hSw
    obtain ⟨z0, z1⟩ := hSw
    go_simp
  simp only [Act.put, List.setIfInBounds_toArray, List.set_cons_zero, List.set_cons_succ]
  refine tkA (i := 2) (v := .pointer (some ⟨M + 1, 5, none⟩)) ?_ hHeld ?_
  · intro w9 hSw
    obtain ⟨z0, z1⟩ := hSw
    go_simp
  simp only [Act.put, List.setIfInBounds_toArray, List.set_cons_zero, List.set_cons_succ]
  refine tkA (i := 3) (v := .map (some M)) ?_ hHeld ?_
  · intro w9 hSw
    obtain ⟨z0, z1⟩ := hSw
    go_simp
  simp only [Act.put, List.setIfInBounds_toArray, List.set_cons_zero, List.set_cons_succ]
  refine tkA (i := 4) (v := .pointer (some ⟨M + 1, 0, none⟩)) ?_ hHeld ?_
  · intro w9 hSw
    obtain ⟨z0, z1⟩ := hSw
    go_simp
  simp only [Act.put, List.setIfInBounds_toArray, List.set_cons_zero, List.set_cons_succ]
  refine tkA (i := 5) (v := .pointer (some ⟨M + 1, 0, none⟩)) ?_ hHeld ?_
  · intro w9 hSw
    obtain ⟨z0, z1⟩ := hSw
    go_simp
  simp only [Act.put, List.setIfInBounds_toArray, List.set_cons_zero, List.set_cons_succ]
  refine tkA (i := 6) (v := .pointer (some ⟨M + 1, 3, none⟩)) ?_ hHeld ?_
  · intro w9 hSw
    obtain ⟨z0, z1⟩ := hSw
    go_simp
  simp only [Act.put, List.setIfInBounds_toArray, List.set_cons_zero, List.set_cons_succ]
  refine tkA (i := 7) (v := .string us) ?_ hHeld ?_
  · intro w9 hSw
    obtain ⟨z0, z1⟩ := hSw
    go_simp
  simp only [Act.put, List.setIfInBounds_toArray, List.set_cons_zero, List.set_cons_succ]
  refine tkA (i := 8) (v := .string f) ?_ hHeld ?_
  · intro w9 hSw
    obtain ⟨z0, z1⟩ := hSw
    go_simp
  simp only [Act.put, List.setIfInBounds_toArray, List.set_cons_zero, List.set_cons_succ]
  refine wpAnyH_ready (rs := [9]) (by kernel_rfl) (by simp) ?_
  refine AllReadyH.cons rfl (fun K hK => ?_) AllReadyH.nil
  go_simp
  refine (CK _).mono ?_
  rintro e wk ⟨rfl, hwk⟩
  obtain rfl := hwk.symm
  dsimp only
  refine hK _ _ ⟨p3', p5⟩ (fun hHeld => ?_)
  clear hK K
  refine wpAnyH_ready (rs := [10]) (by kernel_rfl) (by simp) ?_
  refine AllReadyH.cons rfl (fun K hK => ?_) AllReadyH.nil
  go_simp
  refine hK _ _ HS.out (fun hHeld => ?_)
  clear hK K
  refine wpAnyH_done (by kernel_rfl) ?_ _
  refine NoPanic.normal ?_
  clear hHeld
  go_wp2_with fail
  go_end0
  exact ⟨rfl, HF.out, HB.out, HOW.out⟩
def dropM (nx : Int) (S : SM) (f : ByteArray) : Int × Int × SM := if S.word.toList = [] then (15, nx, S) else if (lookF f S.fs).isSome = false then (16, nx, S) else if f = inboxT then (11, nx, S) else (0, nx, ⟨S.aside, S.word, dropF f S.fs⟩)
theorem dropF_sub (n : ByteArray) : ∀ fs : List FM, (dropF n fs).Sublist fs
  | [] => List.Sublist.refl _
  | x :: X => by
    unfold dropF
    split
    · exact List.sublist_cons_self _ _
    · exact (dropF_sub n X).cons_cons x
set_option maxHeartbeats 2000000 in
theorem dropFolderI (w : World) (M : Nat) (a : Option Addr) (n c : Nat) (nx : Int) (u : ByteArray) (S : SM) (k : Nat) (hS : StAt w M a n c nx u S k) (f : ByteArray) (hfz : f.size ≤ 1000) (hu : u.size ≤ 1000) (n0 : 0 ≤ nx) (n1 : nx ≤ 10000) (q nx' : Int) (S' : SM) (HQ : Hid (dropM nx S f = (q, nx', S'))) :
    Calls Tryz.prog 61 #[.pointer (some ⟨M + 1, 0, none⟩), .string f] w fun e w' => e = .returned (.int .i64 q) ∧ StAt w' M a n c nx' u S' k ∧ Below M w w' := by
  have hq9 := HQ.out
  unfold dropM at hq9
  have AL : Below w.heap.size w (w.alloc (.cells #[.string f] 9)) := (Below.refl _ _).alloc (Nat.le_refl _) _
  have HST : Hid (StAt (w.alloc (.cells #[.string f] 9)) M a n c nx u S k) := hS.later AL
  have hM : M ≤ w.heap.size := by
    obtain ⟨_, _, hD, _⟩ := hS
    have h9 : M + 1 < w.heap.size := World.block_lt_of_cell? _ _ (hD.1 0 _ rfl).1
    omega
  have HAL : Hid (Below w.heap.size w (w.alloc (.cells #[.string f] 9))) := AL
  obtain ⟨lq, hlq⟩ : ∃ x, lackM S.word S.fs [f] = x := ⟨_, rfl⟩
  have CL := lacksI (w.alloc (.cells #[.string f] 9)) M a n c nx u S k HST.out hu (some ⟨w.heap.size, 0, none⟩) 1 1 [f] rfl (by omega) (fun s hs => by rw [List.mem_singleton.1 hs]; omega) (src_1S rfl) lq hlq
  have hbad : ∀ z : Int, z ≠ 0 → lq = z → (q, nx', S') = (z, nx, S) → Calls Tryz.prog 61 #[.pointer (some ⟨M + 1, 0, none⟩), .string f] w fun e w' => e = .returned (.int .i64 q) ∧ StAt w' M a n c nx' u S' k ∧ Below M w w' := by
    intro z hz hl he
    cases he
    subst hl
    have hzi : (lq != 0) = true := by simpa using hz
    clear HQ hq9 hlq hS AL
    go_enter Tryz.func61, Tryz.ntmps61
    go_wp2_with fail
    refine CL.mono ?_
    rintro e w1 ⟨rfl, hb1⟩
    have HF : Hid (StAt w1 M a n c nx u S k ∧ Below M w w1) := ⟨HST.out.later hb1, (HAL.out.trans (hb1.mono HAL.out.size)).mono hM⟩
    clear CL hb1
    go_wp2_with fail
    go_ret
    exact ⟨rfl, HF.out.1, HF.out.2⟩
  by_cases hw : S.word.toList = []
  · rw [if_pos hw] at hq9
    exact hbad 15 (by decide) (by rw [← hlq]; unfold lackM; rw [if_pos hw]) hq9.symm
  rw [if_neg hw] at hq9
  by_cases hl : (lookF f S.fs).isSome = false
  · rw [if_pos hl] at hq9
    exact hbad 16 (by decide) (by rw [← hlq]; unfold lackM; rw [if_neg hw, if_pos (by show ((lookF f S.fs).isSome && true) = false; rw [hl]; rfl)]) hq9.symm
  rw [if_neg hl] at hq9
  have hlt : (lookF f S.fs).isSome = true := by
    cases h9 : (lookF f S.fs).isSome with
    | true => rfl
    | false => exact absurd h9 hl
  obtain rfl : 0 = lq := by rw [← hlq]; unfold lackM; rw [if_neg hw, if_neg (by show ¬ ((lookF f S.fs).isSome && true) = false; rw [hlt]; decide)]
  clear hbad hlq
  by_cases hi : f = inboxT
  · rw [if_pos hi] at hq9
    cases hq9
    have hib : (f.toList == [105, 110, 98, 111, 120]) = true := by rw [hi, ByteArray.toList_eq]; rfl
    clear HQ hS AL hi hl hlt hw
    go_enter Tryz.func61, Tryz.ntmps61
    go_wp2_with fail
    refine CL.mono ?_
    rintro e w1 ⟨rfl, hb1⟩
    have HF : Hid (StAt w1 M a n c nx u S k ∧ Below M w w1) := ⟨HST.out.later hb1, (HAL.out.trans (hb1.mono HAL.out.size)).mono hM⟩
    clear CL hb1
    go_wp2_with fail
    go_ret
    exact ⟨rfl, HF.out.1, HF.out.2⟩
  · rw [if_neg hi] at hq9
    cases hq9
    have hib : (f.toList == [105, 110, 98, 111, 120]) = false := by
      refine beq_eq_false_iff_ne.2 fun e => hi ?_
      refine bs_inj ?_
      rw [← ByteArray.toList_eq, e]
    have HLT : Hid ((lookF f S.fs).isSome = true) := hlt
    clear HQ hS AL hi hl hlt hw
    go_enter Tryz.func61, Tryz.ntmps61
    go_wp2_with fail
    refine CL.mono ?_
    rintro e w1 ⟨rfl, hb1⟩
    have B1 : Hid (Below M w w1) := (HAL.out.trans (hb1.mono HAL.out.size)).mono hM
    obtain ⟨va, X, hD, hV, hN, hf, hk⟩ := HST.out.later hb1
    have CX := dropI f w1 M _ (by omega) (by show u.size ≤ 1048576; omega) hD (hV.some f true HLT.out)
    have HF : Hid (∀ w2, DeskAt w2 M ⟨a, n, c, va, S.aside, nx, u, S.word, dropX (folderK u f) X⟩ → StAt w2 M a n c nx u ⟨S.aside, S.word, dropF f S.fs⟩ k) := fun w2 h2 =>
      ⟨va, _, h2, hV.drop, hN.sublist ((dropF_sub f S.fs).map _), fun g hg => hf g ((dropF_sub f S.fs).subset hg), hk⟩
    clear hD hV hN hf hk hb1 CL
    go_wp2_with fail
    refine CX.mono ?_
    rintro e w2 ⟨rfl, hd2, hb2, _⟩
    have HF2 : Hid (StAt w2 M a n c nx u ⟨S.aside, S.word, dropF f S.fs⟩ k ∧ Below M w w2) := ⟨HF.out w2 hd2, B1.out.trans hb2⟩
    clear CX hd2 hb2 HF
    go_wp2_with fail
    go_ret
    exact ⟨rfl, HF2.out.1, HF2.out.2⟩
end Go.Proofs.YtddnecljdecamaaGreatDoor
