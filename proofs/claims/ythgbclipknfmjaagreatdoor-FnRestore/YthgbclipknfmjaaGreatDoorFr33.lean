/-
  Rfp Lists4 Draws Draws2 Dmw in one. By an AI agent.
-/
import Derived.Test.YthgbclipknfmjaaGreatDoorFr30
import Derived.Test.YthgbclipknfmjaaGreatDoorFr31
import Derived.Test.YthgbclipknfmjaaGreatDoorFr32
import Derived.Test.YthgbclipknfmjaaGreatDoorFr01
import Derived.Test.YthgbclipknfmjaaGreatDoorFr27
import Derived.Test.YthgbclipknfmjaaGreatDoorFr19
namespace Go.Proofs.YthgbclipknfmjaaGreatDoor
open Go.ChangeShapes Go.WideShapes Go.ChangeAt Go.RowKit Go.Deep Go.Lib
set_option linter.unusedVariables false
set_option linter.unusedSimpArgs false
set_option maxRecDepth 100000

/-- Others' pairs are as they were. -/
theorem left_same {N Y : List PM} {u : ByteArray} {S S' : SM} (hD : DeskS N u S) (hL : LeftS N Y u S S') : ∀ p : PM, p.1 ≠ vK → ownerM p ≠ some u → (p ∈ Y ↔ p ∈ N) := by
  intro p hk ho
  have hus := word_slash hL.fit.us
  constructor
  · intro hp
    rcases desk_mem hL.pm hp with h8 | h8 | h8 | ⟨g', hg', h8 | ⟨m2, hm2, h8⟩⟩
    · exact absurd (congrArg Prod.fst h8) hk
    · rw [h8] at ho
      exact absurd (owner_user hus) ho
    · rw [hL.asd] at h8
      exact ((aside_is hD.tk p hk).1 h8).1
    · rw [h8] at ho
      exact absurd (owner_folderK hus (word_slash (hL.fit.fs g' hg').1)) ho
    · rw [h8] at ho
      obtain ⟨g1, g2, g3, g4, g5, g6, g7⟩ := hL.fit.fs g' hg'
      have := g7 m2 hm2
      exact absurd (owner_mail hus (word_slash g1) (by omega)) ho
  · intro hp
    rw [← hL.pm.mem_iff]
    unfold deskP
    refine List.mem_cons_of_mem _ (List.mem_cons_of_mem _ (List.mem_append_left _ ?_))
    rw [hL.asd]
    exact (aside_is hD.tk p hk).2 ⟨hp, ho⟩
/-- What is told of a folder that lies on the desk. -/
theorem fa_look {L : List PM} {u f : ByteArray} {S : SM} {g : FM} (h : storeB L = true) (hsu : shortB u = true) (hsf : shortB f = true) (hS : takeAll (nextM L) u S0 L = some S) (hw : S.word.toList ≠ []) (hl : lookF f S.fs = some g) : faM L u f = ((f, g.val, g.next, g.mails), 0) := by
  have hus := word_slash hsu
  have hk0 : knownR L u f = 0 := by
    unfold knownR
    have h1 : (getM L (userK u)).isSome = true := by
      cases hv : getM L (userK u) with
      | none => exact absurd ((word_iff h hus hS).1.2 hv) hw
      | some v => rfl
    rw [h1, look_meta h hS hl]
    rfl
  obtain ⟨hgm, hgn⟩ := lookF_mem hl
  unfold faM
  rw [ask_ok h (by simp [hsu, hsf]), if_pos rfl, hk0, if_pos rfl, hS]
  show (faG (lookF f S.fs), (0 : Int)) = _
  rw [hl]
  show ((g.name, g.val, g.next, g.mails), (0 : Int)) = _
  rw [hgn]
/-- Another user's folder is as it was. -/
theorem fa_other {N Y : List PM} {u v f : ByteArray} {S : SM} {g : FM} (hN : storeB N = true) (hY : storeB Y = true) (hsame : ∀ p : PM, p.1 ≠ vK → ownerM p ≠ some u → (p ∈ Y ↔ p ∈ N)) (hsv : shortB v = true) (hne : v ≠ u) (hsf : shortB f = true) (hS : takeAll (nextM N) v S0 N = some S) (hw : S.word.toList ≠ []) (hl : lookF f S.fs = some g) :
    faM N v f = ((f, g.val, g.next, g.mails), 0) ∧ faM Y v f = ((f, g.val, g.next, g.mails), 0) := by
  refine ⟨fa_look hN hsv hsf hS hw hl, ?_⟩
  have hvs := word_slash hsv
  have hfs := word_slash hsf
  have upN := (store_facts hN).1.2.2
  have upY := (store_facts hY).1.2.2
  have hgu : getM Y (userK v) = getM N (userK v) := getM_same upY upN fun w => hsame _ (fun e => by
    have h6 := congrArg (fun x : ByteArray => x.data.toList) (show userK v = vK from e)
    simp only [userK_data] at h6
    cases h6) (fun e => by rw [owner_user hvs] at e; exact hne (Option.some.inj e))
  have hgf : getM Y (folderK v f) = getM N (folderK v f) := getM_same upY upN fun w => hsame _ (folder_nv v f) (fun e => by rw [owner_folderK hvs hfs] at e; exact hne (Option.some.inj e))
  have hm : metaM Y v f = metaM N v f := by unfold metaM; rw [hgf]
  have hmN := look_meta hN hS hl
  have hus1 : (getM N (userK v)).isSome = true := by
    cases hv : getM N (userK v) with
    | none => exact absurd ((word_iff hN hvs hS).1.2 hv) hw
    | some v => rfl
  have hk0 : knownR Y v f = 0 := by
    unfold knownR
    rw [hgu, hus1, hm, hmN]
    rfl
  obtain ⟨S2, hS2, _, _⟩ := take_all hY hvs
  obtain ⟨hw2, g2, hl2⟩ := known_zero hY hvs hfs hS2 hk0
  have hmY := look_meta hY hS2 hl2
  rw [hm, hmN] at hmY
  injection hmY with hmY
  injection hmY with e1 e2
  have f1 := fol_mails hN hvs hfs hS hw hl
  have f2 := fol_mails hY hvs hfs hS2 hw2 hl2
  have hfe : (Y.filter fun x => beginsB x.1 (preK v f)) = N.filter fun x => beginsB x.1 (preK v f) := by
    refine up_same (upY.sublist List.filter_sublist) (upN.sublist List.filter_sublist) fun p => ?_
    rw [List.mem_filter, List.mem_filter]
    have hb : beginsB p.1 (preK v f) = true → (p ∈ Y ↔ p ∈ N) := fun hb => by
      obtain ⟨r, hr⟩ := begins_pre.1 hb
      have h6 : beginsB p.1 (mailsK v) = true := begins_iff.2 ⟨f.data.toList ++ 47 :: r, by rw [hr, mailsK_data]; simp⟩
      obtain ⟨k1, k2⟩ := owner_mails hvs hne h6
      exact hsame p k1 k2
    constructor
    · rintro ⟨h1, h2⟩
      exact ⟨(hb h2).1 h1, h2⟩
    · rintro ⟨h1, h2⟩
      exact ⟨(hb h2).2 h1, h2⟩
  have hF := store_fits hN hvs hS hw
  have hF2 := store_fits hY hvs hS2 hw2
  have hb1 : ∀ m ∈ g.mails, 0 ≤ m.1 ∧ m.1 < 1000 ∧ 0 ≤ m.2.1 ∧ m.2.1 ≤ 3 := fun m hm => by
    obtain ⟨g1, g2, g3, g4, g5, g6, g7⟩ := hF.fs g (lookF_mem hl).1
    have := g7 m hm
    omega
  have hb2 : ∀ m ∈ g2.mails, 0 ≤ m.1 ∧ m.1 < 1000 ∧ 0 ≤ m.2.1 ∧ m.2.1 ≤ 3 := fun m hm => by
    obtain ⟨g1, g2, g3, g4, g5, g6, g7⟩ := hF2.fs _ (lookF_mem hl2).1
    have := g7 m hm
    omega
  have he : g2.mails = g.mails := map_inj hb2 hb1 (by rw [← f1, ← f2, hfe])
  rw [fa_look hY hsv hsf hS2 hw2 hl2, he, ← e1, ← e2]
theorem put_other {g x : FM} : ∀ {fs : List FM}, x ∈ fs → x.name ≠ g.name → x ∈ putF g fs
  | y :: fs, h, hne => by
    unfold putF
    by_cases e : y.name = g.name
    · rw [if_pos e]
      rcases List.mem_cons.1 h with h9 | h9
      · rw [h9] at hne
        exact absurd e hne
      · exact List.mem_cons_of_mem _ h9
    · rw [if_neg e]
      rcases List.mem_cons.1 h with h9 | h9
      · rw [h9]
        exact List.mem_cons_self
      · exact List.mem_cons_of_mem _ (put_other h9 hne)
theorem name_there {L : List PM} {u n : ByteArray} {S : SM} (h : storeB L = true) (hus : (47 : UInt8) ∉ u.data.toList) (hS : takeAll (nextM L) u S0 L = some S) (hw : S.word.toList ≠ []) (hn : n ∈ listS L u) : ∃ g, lookF n S.fs = some g ∧ g.name = n ∧ shortB n = true := by
  obtain ⟨S', hS', _, hI⟩ := take_all h hus
  rw [hS] at hS'
  cases hS'
  have hm := ((folders_mem h hus hI) n).2 hn
  obtain ⟨g, hg⟩ := Option.isSome_iff_exists.1 (lookF_iff.2 hm)
  obtain ⟨hgm, hgn⟩ := lookF_mem hg
  have hF := store_fits h hus hS hw
  exact ⟨g, hg, hgn, by rw [← hgn]; exact (hF.fs g hgm).1⟩
/-- What is asked of a folder that is restored. -/
def RstIs (N L R : List PM) (u f : ByteArray) (q : Int) : Prop :=
  storeB R = true ∧ ((q ≠ 0 ∧ R = N ∧ (q = (faM L u f).2 ∨ q = 12 ∨ q = 7)) ∨ (q = 0 ∧ ∃ vo vn nx Ms, faM L u f = ((f, vo, nx, Ms), 0) ∧ faM R u f = ((f, vn, nx, Ms), 0) ∧ vo < vn ∧ (∀ nm va nb Ns, faM N u f = ((nm, va, nb, Ns), 0) → va < vn) ∧ Ms.length ≤ 6 ∧ RiseP N R ∧ ∀ v n, (v = annT ∨ v = bobT) → n ∈ listS N v → ¬ (v = u ∧ n = f) → ∃ va nb Ns, Ns.length ≤ 60 ∧ faM N v n = ((n, va, nb, Ns), 0) ∧ faM R v n = ((n, va, nb, Ns), 0)))
theorem rst_is {k k2 : Nat} {N L R : List PM} {u f : ByteArray} {q : Int} (hk : k ≤ 900) (h : Drawn k N) (h2 : Drawn k2 L) (hnm : nextM L ≤ nextM N) (hu : u = annT ∨ u = bobT) (hsf : shortB f = true) (hR : lawM2 (rsR N L u f) (raskM N L [u, f]) = (R, q)) : RstIs N L R u f q := by
  obtain ⟨hsu, S, hS, hw, hF, hnd, n1⟩ := h.desk hu
  have hus := word_slash hsu
  have hfs := word_slash hsf
  have hD : DeskS N u S := ⟨h.st, hS, hw, hF, hnd, n1⟩
  have h25 := h.nx
  have hr0 : raskM N L [u, f] = 0 := by
    unfold raskM
    have h60 := (store_facts h2.st).1.1
    rw [if_neg (by omega), ask_ok h.st (by simp [hsu, hsf]), if_neg (by decide), h2.st, if_neg (by decide)]
  unfold lawM2 at hR
  rw [hr0, if_pos rfl] at hR
  have hns : (getM N (userK u)).isSome = true := (h.us u hus).2 hu
  rcases fa_drawn h2 hu hsf with ⟨h16, hfa⟩ | ⟨T, g, hT, hwT, hl, hgn, h0, hfa, hri, hfn, hFT, hndT⟩
  · obtain ⟨_, T, hT, hwT, hFT, _, _⟩ := h2.desk hu
    have hnone : lookF f T.fs = none := by
      cases hv : lookF f T.fs with
      | none => rfl
      | some g =>
        rw [fa_look h2.st hsu hsf hT hwT hv] at hfa
        injection hfa with _ h9
        cases h9
    unfold rsR at hR
    rw [hns, if_neg (by decide), old_look hT, hnone] at hR
    have hR2 : (N, (16 : Int)) = (R, q) := hR
    injection hR2 with e1 e2
    subst e1 e2
    exact ⟨h.st, .inl ⟨by decide, rfl, .inl (by rw [hfa])⟩⟩
  · obtain ⟨hgm, _⟩ := lookF_mem hl
    obtain ⟨g1, g2, g3, g4, g5, g6, g7⟩ := hFT.fs g hgm
    obtain ⟨q2, nx', S', hQ⟩ : ∃ q2 nx' S', rsM (nextM N) u S g = (q2, nx', S') := ⟨_, _, _, rfl⟩
    have hQ2 : rfM (nextM N) u S f T = (q2, nx', S') := by
      unfold rfM
      rw [if_neg hw, hl]
      exact hQ
    have hO := rf_fits h.st h2.st hsu hsf hS hT hQ2
    unfold rsM at hQ
    rw [if_neg (by omega)] at hQ
    split at hQ
    · cases hQ
      rw [hO.1 (by decide)] at hR
      cases hR
      exact ⟨h.st, .inl ⟨by decide, rfl, .inr (.inr rfl)⟩⟩
    split at hQ
    · cases hQ
      rw [hO.1 (by decide)] at hR
      cases hR
      exact ⟨h.st, .inl ⟨by decide, rfl, .inr (.inl rfl)⟩⟩
    rename_i h6s
    split at hQ
    · cases hQ
      rw [hO.1 (by decide)] at hR
      cases hR
      exact ⟨h.st, .inl ⟨by decide, rfl, .inr (.inr rfl)⟩⟩
    rename_i h60s
    cases hQ
    obtain ⟨_, j1, _, Y, up, pm, _, j5⟩ := hO.2 rfl
    have l1 := pm.length_eq
    have h6Y : Y.length ≤ 60 := by rw [← l1]; omega
    unfold fitsR at j5
    rw [if_neg (by omega)] at j5
    rw [hR] at j5
    injection j5 with j6 j7
    subst j6 j7
    obtain ⟨G, hG⟩ : ∃ G : FM, (⟨g.name, nextM N, g.next, g.mails⟩ : FM) = G := ⟨_, rfl⟩
    have hfit : FitS (nextM N + 1) u (S2F (nextM N) S g) := fit_put hF (by omega) (fun _ h => h) (.inl hF.ib) ⟨g1, by show (1 : Int) ≤ nextM N; omega, by show nextM N ≤ 9999; omega, by show nextM N < nextM N + 1; omega, g5, g6, g7⟩ (by
      have h9 : ¬ 6 < sumF (putF ⟨g.name, nextM N, g.next, g.mails⟩ S.fs) := h6s
      omega)
    have hnd' : ((S2F (nextM N) S g).fs.map (·.name)).Nodup := putF_names hnd
    have hli := lies_left (S' := S2F (nextM N) S g) h.st hS rfl hnd' hfit up pm
    have hn : nextM R = nextM N + 1 := lies_next hli (by omega) (by omega)
    have hst := store_left (S' := S2F (nextM N) S g) h.st hS rfl hnd' hfit (by omega) (by omega) up pm h6Y
    have hL : LeftS N R u S (S2F (nextM N) S g) := ⟨hst, up, by rw [hn]; exact pm, by rw [hn]; exact hfit, hnd', hw, rfl⟩
    have hmem : (⟨g.name, nextM N, g.next, g.mails⟩ : FM) ∈ (S2F (nextM N) S g).fs := put_self
    have hfo : faM R u g.name = ((g.name, nextM N, g.next, g.mails), 0) := hL.fa hD hmem hri
    rw [hgn] at hfo
    refine ⟨hst, .inr ⟨rfl, g.val, nextM N, g.next, g.mails, hfa, hfo, by omega, fun nm va nb Ns hfn => ?_, ?_, left_rises hD hL (by omega) (fun x hx => ?_), fun v n hv hn9 hno => ?_⟩⟩
    · rcases fa_drawn h hu hsf with ⟨_, hfa3⟩ | ⟨S9, g9, hS9, _, hl9, _, _, hfa3, _, _, hF9, _⟩
      · rw [hfn] at hfa3
        injection hfa3 with _ h9
        cases h9
      · rw [hfn] at hfa3
        injection hfa3 with h9 _
        injection h9 with _ h9
        injection h9 with h9 _
        rw [h9]
        exact (hF9.fs g9 (lookF_mem hl9).1).2.2.2.1
    · have h9 := sum_dropF hl
      have := hFT.sm
      omega
    · rcases putF_mem hx with h9 | h9
      · exact .inr ⟨x.next, look_meta h.st hS (look_self hnd h9), Int.le_refl _⟩
      · rw [h9]
        exact .inl (Int.le_refl _)
    · by_cases e : v = u
      · subst e
        obtain ⟨x, hx, hxn, hsn⟩ := name_there h.st hus hS hw hn9
        obtain ⟨hxm, _⟩ := lookF_mem hx
        have hnf : x.name ≠ g.name := fun e9 => hno ⟨rfl, by rw [← hxn, e9, hgn]⟩
        have hx2 : x ∈ (S2F (nextM N) S g).fs := put_other hxm hnf
        have hfx := hL.fa hD hx2 (rise_store h.st hus hS hw hxm)
        rw [hxn] at hfx
        refine ⟨x.val, x.next, x.mails, ?_, fa_look h.st hsu hsn hS hw hx, hfx⟩
        have h9 := sum_dropF hx
        have := hF.sm
        omega
      · obtain ⟨hsv, Sv, hSv, hwv, hFv, _, _⟩ := h.desk hv
        obtain ⟨x, hx, hxn, hsn⟩ := name_there h.st (word_slash hsv) hSv hwv hn9
        have h8 := fa_other h.st hst (left_same hD hL) hsv e hsn hSv hwv hx
        refine ⟨x.val, x.next, x.mails, ?_, h8.1, h8.2⟩
        have h9 := sum_dropF hx
        have := hFv.sm
        omega
end Go.Proofs.YthgbclipknfmjaaGreatDoor
namespace Go.Proofs.YthgbclipknfmjaaGreatDoor
open Go.ChangeShapes Go.WideShapes Go.ChangeAt Go.RowKit Go.Deep
set_option linter.unusedVariables false

def cellsB (L : List Nat) : List Value := L.map fun x => .int .u8 ((x : Nat) : Int)
theorem cellsB_length (L : List Nat) : (cellsB L).length = L.length := by simp [cellsB]
theorem cellsB_get (L : List Nat) (i : Nat) (h : i < L.length) : (cellsB L)[i]? = some (.int .u8 ((L.getD i 0 : Nat) : Int)) := by
  simp [cellsB, h]
theorem cellsB_one (L : List Nat) : ∀ u ∈ cellsB L, u.oneCell' = true := by
  intro u hu
  simp only [cellsB, List.mem_map] at hu
  obtain ⟨x, _, rfl⟩ := hu
  rfl
theorem infoB : (Tryz.prog.info? 5).map (fun i => (i.zero, i.size, i.bytes)) = some (some (.int .u8 0), 1, 1) := by kernel_rfl
end Go.Proofs.YthgbclipknfmjaaGreatDoor
namespace Go.Proofs.YthgbclipknfmjaaGreatDoor
open Go.ChangeShapes Go.WideShapes Go.ChangeAt Go.RowKit Go.Deep
set_option linter.unusedVariables false
set_option maxRecDepth 100000

/-- A block holds three cells, no more. -/
def NoMore (w : World) (P : Nat) : Prop := ∀ i, 3 ≤ i → w.cell? ⟨P, i, none⟩ = none
theorem NoMore.set {w : World} {P : Nat} (h : NoMore w P) (j : Nat) (hj : j < 3) (v : Value) : NoMore (w.setCell ⟨P, j, none⟩ v) P := fun i hi => by
  rw [World.cell?_setCell_other _ _ _ _ (fun e => by cases e; omega)]
  exact h i hi
theorem NoMore.drewN {w : World} {P : Nat} (h : NoMore w P) (n : Nat) : NoMore (w.drewN n) P := h
/-- A source at block P: its code, its place, its seed. -/
def Draw (w : World) (P : Nat) (ca : Option Addr) (n cc K : Nat) : Prop :=
  ∃ at_ seed : Nat, Box w P [.slice ca n cc, .int .i64 (at_ : Int), .int .i64 (seed : Int)] ∧ at_ ≤ K ∧ seed < 2147483648 ∧ NoMore w P
theorem turned_set {lo hi : Nat} (w : World) (p : Addr) (h1 : lo ≤ p.block) (h2 : p.block < hi) (u : Value) : Turned lo hi w (w.setCell p u) :=
  ⟨rfl, rfl, rfl, by simp, fun k hk hr => Below.heap_setCell _ _ _ _ (by intro e; omega)⟩
theorem turned_drewN {lo hi : Nat} {w w' : World} (h : Turned lo hi w w') (n : Nat) : Turned lo hi w (w'.drewN n) := ⟨h.os, h.tape, h.output, h.size, h.block⟩
theorem tmod_nat (a b : Nat) : Int.tmod (a : Int) (b : Int) = ((a % b : Nat) : Int) := by
  rw [Int.tmod_eq_emod_of_nonneg (by omega)]; simp
set_option maxHeartbeats 2000000 in
theorem drawByte (P n cc K : Nat) (ca : Option Addr) (C : List Nat) (w : World) (hC : C.length = n) (hn : n ≤ 1048577) (h8 : ∀ x ∈ C, x < 256) (hs : Src w ca (cellsB C)) (hP : 0 < n → ∀ a, ca = some a → a.block ≠ P) (hK : K ≤ 1000000000) (hx : Draw w P ca n cc K) :
    Calls Tryz.prog 126 #[.pointer (some ⟨P, 0, none⟩)] w fun e w' => ∃ x : Nat, e = .returned (.int .i64 (x : Int)) ∧ x < 256 ∧ Turned P (P + 1) w w' ∧ Draw w' P ca n cc (K + 1) := by
  obtain ⟨at_, seed, hbox, hat, hsd, hnm⟩ := hx
  have HNM : Hid (NoMore w P) := hnm
  clear hnm
  have HB : Hid (Box w P [.slice ca n cc, .int .i64 (at_ : Int), .int .i64 (seed : Int)]) := hbox
  have HC : Hid (C.length = n ∧ (∀ x ∈ C, x < 256) ∧ Src w ca (cellsB C) ∧ (0 < n → ∀ a, ca = some a → a.block ≠ P)) := ⟨hC, h8, hs, hP⟩
  obtain ⟨c0, c0f⟩ := hbox 0 _ rfl
  obtain ⟨c1, c1f⟩ := hbox 1 _ rfl
  obtain ⟨c2, c2f⟩ := hbox 2 _ rfl
  have T0 : Hid (Turned P (P + 1) w (w.setCell ⟨P, 1, none⟩ (.int .i64 ((at_ : Int) + 1)))) := turned_set w ⟨P, 1, none⟩ (by dsimp only; omega) (by dsimp only; omega) _
  have B1 : Hid (Box (w.setCell ⟨P, 1, none⟩ (.int .i64 ((at_ : Int) + 1))) P [.slice ca n cc, .int .i64 ((at_ : Int) + 1), .int .i64 (seed : Int)]) := hbox.set 1 _
  obtain ⟨d0, d0f⟩ := B1.out 0 _ rfl
  obtain ⟨d1, d1f⟩ := B1.out 1 _ rfl
  obtain ⟨d2, d2f⟩ := B1.out 2 _ rfl
  clear hC h8 hs hP hbox
  by_cases t1 : at_ < n
  · have hle : (at_ : Int) + 1 ≤ (n : Int) := by omega
    have hdec : decide ((at_ : Int) + 1 ≤ (n : Int)) = true := decide_eq_true hle
    obtain ⟨b, o, rfl, hcell⟩ : ∃ b o, ca = some ⟨b, o, none⟩ ∧ (w.setCell ⟨P, 1, none⟩ (.int .i64 ((at_ : Int) + 1))).cell? ⟨b, o + at_, none⟩ = some (.int .u8 ((C.getD at_ 0 : Nat) : Int)) := by
      rcases HC.out.2.2.1 with h | ⟨b, o, rfl, hc⟩
      · have h2 := cellsB_length C
        rw [h] at h2
        simp only [List.length_nil] at h2
        have := HC.out.1
        omega
      · refine ⟨b, o, rfl, ?_⟩
        have hne := HC.out.2.2.2 (by omega) _ rfl
        rw [World.cell?_setCell_other _ _ _ _ (fun e => hne (congrArg Addr.block e).symm), hc at_ (by rw [cellsB_length, HC.out.1]; exact t1), getD_some (cellsB_get C at_ (by rw [HC.out.1]; exact t1))]
    obtain ⟨y, hy⟩ : ∃ y, C.getD at_ 0 = y := ⟨_, rfl⟩
    rw [hy] at hcell
    have hy8 : y < 256 := by
      rw [← hy, List.getD_eq_getElem?_getD, List.getElem?_eq_getElem (by rw [HC.out.1]; exact t1)]
      exact HC.out.2.1 _ (List.getElem_mem _)
    obtain ⟨s2, hs2⟩ : ∃ s2, (seed * 31 + y + 7) % 2147483648 = s2 := ⟨_, rfl⟩
    have hs2l : s2 < 2147483648 := by rw [← hs2]; exact Nat.mod_lt _ (by omega)
    have R : Int.tmod ((seed : Int) * 31 + (y : Int) + 7) 2147483648 = (s2 : Int) := by
      have h9 := tmod_nat (seed * 31 + y + 7) 2147483648
      rw [hs2] at h9
      have e9 : (((seed * 31 + y + 7 : Nat)) : Int) = (seed : Int) * 31 + (y : Int) + 7 := by omega
      rw [e9] at h9
      exact h9
    have i0 : (0 : Int) ≤ (at_ : Int) + 1 - 1 := by omega
    have i1 : (at_ : Int) + 1 - 1 < (n : Int) := by omega
    have i2 : (at_ : Int) + 1 - 1 = (at_ : Int) := by omega
    have FACTS : Hid (∀ N W2, ((w.setCell ⟨P, 1, none⟩ (.int .i64 ((at_ : Int) + 1))).drewN N).setCell ⟨P, 2, none⟩ (.int .i64 (s2 : Int)) = W2 → Box W2 P [.slice (some ⟨b, o, none⟩) n cc, .int .i64 ((at_ : Int) + 1), .int .i64 (s2 : Int)] ∧ W2.cell? ⟨b, o + at_, none⟩ = some (.int .u8 (y : Int)) ∧ Turned P (P + 1) w W2) := fun N W2 e => by
      subst e
      have hne : b ≠ P := HC.out.2.2.2 (by omega) _ rfl
      refine ⟨Box.set (w := (w.setCell ⟨P, 1, none⟩ (.int .i64 ((at_ : Int) + 1))).drewN N) B1.out 2 _, ?_, (turned_drewN T0.out N).trans (turned_set _ ⟨P, 2, none⟩ (by dsimp only; omega) (by dsimp only; omega) _)⟩
      rw [World.cell?_setCell_other _ _ _ _ (fun e => hne (congrArg Addr.block e).symm)]
      exact hcell
    clear hs2 hy
    go_enter Tryz.func126, Tryz.ntmps126
    go_wp2_with fail
    go_quiet (fail)
    go_wp2_with fail
    go_region
    all_goals go_wp2_with fail
    all_goals
      generalize hW : World.setCell (World.drewN _ _) _ _ = W2
      obtain ⟨g1, g2, g3⟩ := FACTS.out _ _ hW
      have G1 : Hid (Box W2 P [.slice (some ⟨b, o, none⟩) n cc, .int .i64 ((at_ : Int) + 1), .int .i64 (s2 : Int)]) := g1
      have G3 : Hid (Turned P (P + 1) w W2) := g3
      have G4 : Hid (NoMore W2 P) := by show NoMore _ _; rw [← hW]; exact NoMore.set ((NoMore.set HNM.out 1 (by omega) _).drewN _) 2 (by omega) _
      obtain ⟨f0, _⟩ := g1 0 _ rfl
      obtain ⟨f1, _⟩ := g1 1 _ rfl
      clear hW g1 g3 c0 c1 c2 d0 d1 d2 c0f c1f c2f d0f d1f d2f hcell
      go_quiet (fail)
      go_wp2_with fail
      go_ret
      exact ⟨y, rfl, hy8, turned_drewN G3.out _, at_ + 1, s2, G1.out, by omega, hs2l, G4.out⟩
  have hle : ¬ (at_ : Int) + 1 ≤ (n : Int) := by omega
  have hdec : decide ((at_ : Int) + 1 ≤ (n : Int)) = false := decide_eq_false hle
  by_cases t2 : (3000 : Int) < (at_ : Int) + 1
  · go_enter Tryz.func126, Tryz.ntmps126
    go_wp2_with fail
    go_quiet (fail)
    go_wp2_with fail
    go_ret
    exact ⟨0, rfl, by omega, turned_drewN T0.out _, at_ + 1, seed, B1.out, by omega, hsd, (NoMore.set HNM.out 1 (by omega) _).drewN _⟩
  obtain ⟨s2, hs2⟩ : ∃ s2, (seed * 1103515245 + 12345) % 2147483648 = s2 := ⟨_, rfl⟩
  have hs2l : s2 < 2147483648 := by rw [← hs2]; exact Nat.mod_lt _ (by omega)
  have R : Int.tmod ((seed : Int) * 1103515245 + 12345) 2147483648 = (s2 : Int) := by
    have h9 := tmod_nat (seed * 1103515245 + 12345) 2147483648
    rw [hs2] at h9
    have e9 : (((seed * 1103515245 + 12345 : Nat)) : Int) = (seed : Int) * 1103515245 + 12345 := by omega
    rw [e9] at h9
    exact h9
  obtain ⟨x, hx9⟩ : ∃ x, s2 / 65536 % 256 = x := ⟨_, rfl⟩
  have hxl : x < 256 := by rw [← hx9]; exact Nat.mod_lt _ (by omega)
  have Q : (s2 : Int) / 65536 % 256 = (x : Int) := by rw [← hx9]; omega
  clear hs2 hx9
  go_enter Tryz.func126, Tryz.ntmps126
  go_wp2_with fail
  go_quiet (fail)
  go_wp2_with fail
  go_ret
  exact ⟨x, by show Ending.returned (.int .i64 ((s2 : Int) / 65536 % 256)) = _; rw [Q], hxl, (turned_drewN T0.out _).trans (turned_set _ ⟨P, 2, none⟩ (by dsimp only; omega) (by dsimp only; omega) _), at_ + 1, s2, Box.set (w := (w.setCell ⟨P, 1, none⟩ (.int .i64 ((at_ : Int) + 1))).drewN _) B1.out 2 _, by omega, hs2l, NoMore.set ((NoMore.set HNM.out 1 (by omega) _).drewN _) 2 (by omega) _⟩

theorem Src.turned {w w' : World} {lo hi : Nat} {a : Option Addr} {xs : List Value} (h : Src w a xs) (ht : Turned lo hi w w') (hP : 0 < xs.length → ∀ ad, a = some ad → ad.block < lo ∨ hi ≤ ad.block) : Src w' a xs := by
  rcases h with h | ⟨b, o, rfl, hc⟩
  · exact .inl h
  · refine .inr ⟨b, o, rfl, fun j hj => ?_⟩
    have h1 := hc j hj
    have hlt := World.block_lt_of_cell? _ _ h1
    dsimp only at hlt
    rw [← h1]
    exact World.cell?_of_block (a := ⟨b, o + j, none⟩) (ht.block b hlt (hP (by omega) _ rfl))
/-- A source with its code. -/
def DrawOK (w : World) (P : Nat) (ca : Option Addr) (n cc K : Nat) (C : List Nat) : Prop :=
  Draw w P ca n cc K ∧ C.length = n ∧ n ≤ 1048577 ∧ (∀ x ∈ C, x < 256) ∧ Src w ca (cellsB C) ∧ (0 < n → ∀ a, ca = some a → a.block ≠ P)
theorem DrawOK.byte {w : World} {P n cc K : Nat} {ca : Option Addr} {C : List Nat} (h : DrawOK w P ca n cc K C) (hK : K ≤ 1000000000) :
    Calls Tryz.prog 126 #[.pointer (some ⟨P, 0, none⟩)] w fun e w' => ∃ x : Nat, e = .returned (.int .i64 (x : Int)) ∧ x < 256 ∧ Turned P (P + 1) w w' ∧ DrawOK w' P ca n cc (K + 1) C := by
  obtain ⟨h1, h2, h3, h4, h5, h6⟩ := h
  refine (drawByte P n cc K ca C w h2 h3 h4 h5 h6 hK h1).mono ?_
  rintro e w' ⟨x, rfl, hx, ht, hd⟩
  exact ⟨x, rfl, hx, ht, hd, h2, h3, h4, h5.turned ht (fun hl ad e => by have := h6 (by rw [cellsB_length] at hl; omega) ad e; omega), h6⟩
set_option maxHeartbeats 1000000 in
theorem drawNext (P n cc K m : Nat) (ca : Option Addr) (C : List Nat) (w : World) (hm : 1 ≤ m) (hm2 : m ≤ 1000000) (hK : K ≤ 999999990) (h : DrawOK w P ca n cc K C) :
    Calls Tryz.prog 75 #[.pointer (some ⟨P, 0, none⟩), .int .i64 (m : Int)] w fun e w' => ∃ x : Nat, e = .returned (.int .i64 (x : Int)) ∧ x < m ∧ Turned P (P + 1) w w' ∧ DrawOK w' P ca n cc (K + 3) C := by
  have mono : ∀ {w9 : World} {K1 K2 : Nat}, K1 ≤ K2 → DrawOK w9 P ca n cc K1 C → DrawOK w9 P ca n cc K2 C := fun hk ⟨⟨a, s, h1, h2, h3⟩, h4⟩ => ⟨⟨a, s, h1, by omega, h3⟩, h4⟩
  have MO : Hid (∀ {w9 : World} {K1 K2 : Nat}, K1 ≤ K2 → DrawOK w9 P ca n cc K1 C → DrawOK w9 P ca n cc K2 C) := mono
  have H : Hid (DrawOK w P ca n cc K C) := h
  clear mono h
  by_cases t1 : (m : Int) ≤ 1
  · go_enter Tryz.func75, Tryz.ntmps75
    go_wp2_with fail
    go_ret
    exact ⟨0, rfl, by omega, Turned.of_below (Below.refl _ _), MO.out (by omega) H.out⟩
  have hmz : ¬ (m : Int) = 0 := by omega
  have hmz2 : ¬ m = 0 := by omega
  by_cases t2 : (m : Int) ≤ 256
  · go_enter Tryz.func75, Tryz.ntmps75
    go_wp2_with fail
    refine (H.out.byte (by omega)).mono ?_
    rintro e w1 ⟨x, rfl, hx, ht, hd⟩
    have R : Int.tmod (x : Int) (m : Int) = ((x % m : Nat) : Int) := tmod_nat x m
    obtain ⟨y, hy⟩ : ∃ y, x % m = y := ⟨_, rfl⟩
    rw [hy] at R
    have hyl : Hid (y < m) := by show y < m; rw [← hy]; exact Nat.mod_lt _ (by omega)
    have TT : Hid (Turned P (P + 1) w w1 ∧ DrawOK w1 P ca n cc (K + 1) C) := ⟨ht, hd⟩
    clear ht hd hy
    go_wp2_with fail
    go_ret
    exact ⟨y, rfl, hyl.out, TT.out.1, MO.out (by omega) TT.out.2⟩
  go_enter Tryz.func75, Tryz.ntmps75
  go_wp2_with fail
  refine (H.out.byte (by omega)).mono ?_
  rintro e w1 ⟨x1, rfl, hx1, ht1, hd1⟩
  have T1 : Hid (Turned P (P + 1) w w1 ∧ DrawOK w1 P ca n cc (K + 1) C) := ⟨ht1, hd1⟩
  clear ht1 hd1
  go_wp2_with fail
  refine (T1.out.2.byte (by omega)).mono ?_
  rintro e w2 ⟨x2, rfl, hx2, ht2, hd2⟩
  have T2 : Hid (Turned P (P + 1) w w2 ∧ DrawOK w2 P ca n cc (K + 1 + 1) C) := ⟨T1.out.1.trans ht2, hd2⟩
  clear ht2 hd2
  go_wp2_with fail
  refine (T2.out.2.byte (by omega)).mono ?_
  rintro e w3 ⟨x3, rfl, hx3, ht3, hd3⟩
  have T3 : Hid (Turned P (P + 1) w w3 ∧ DrawOK w3 P ca n cc (K + 1 + 1 + 1) C) := ⟨T2.out.1.trans ht3, hd3⟩
  clear ht3 hd3
  have R : Int.tmod ((x1 : Int) * 65536 + (x2 : Int) * 256 + (x3 : Int)) (m : Int) = (((x1 * 65536 + x2 * 256 + x3) % m : Nat) : Int) := by
    have h9 := tmod_nat (x1 * 65536 + x2 * 256 + x3) m
    have e9 : (((x1 * 65536 + x2 * 256 + x3 : Nat)) : Int) = (x1 : Int) * 65536 + (x2 : Int) * 256 + (x3 : Int) := by omega
    rw [e9] at h9
    exact h9
  obtain ⟨y, hy⟩ : ∃ y, (x1 * 65536 + x2 * 256 + x3) % m = y := ⟨_, rfl⟩
  rw [hy] at R
  have hyl : Hid (y < m) := by show y < m; rw [← hy]; exact Nat.mod_lt _ (by omega)
  clear hy
  go_wp2_with fail
  go_ret
  exact ⟨y, rfl, hyl.out, T3.out.1, T3.out.2⟩
set_option maxHeartbeats 1000000 in
theorem drawPick (P n cc K : Nat) (ca : Option Addr) (C : List Nat) (b o l c : Nat) (L : List ByteArray) (w : World) (hL : L.length = l) (hl : 1 ≤ l) (hl2 : l ≤ 1000) (hK : K ≤ 999999990) (hb : b ≠ P) (hs : Src w (some ⟨b, o, none⟩) (cellsS L)) (h : DrawOK w P ca n cc K C) :
    Calls Tryz.prog 77 #[.pointer (some ⟨P, 0, none⟩), .slice (some ⟨b, o, none⟩) l c] w fun e w' => ∃ s : ByteArray, e = .returned (.string s) ∧ s ∈ L ∧ Turned P (P + 1) w w' ∧ DrawOK w' P ca n cc (K + 3) C := by
  have H : Hid (DrawOK w P ca n cc K C) := h
  have HS : Hid (Src w (some ⟨b, o, none⟩) (cellsS L) ∧ L.length = l) := ⟨hs, hL⟩
  have hl0 : ((l : Int) == 0) = false := by simp; omega
  clear h hs hL
  go_enter Tryz.func77, Tryz.ntmps77
  go_wp2_with fail
  refine (drawNext P n cc K l ca C _ hl (by omega) hK H.out).mono ?_
  rintro e w1 ⟨x, rfl, hx, ht, hd⟩
  have T1 : Hid (Turned P (P + 1) w w1 ∧ DrawOK w1 P ca n cc (K + 3) C) := ⟨ht, hd⟩
  obtain ⟨b', o', y, e', yc, hy⟩ := srcS (HS.out.1.turned ht (fun _ ad e => by cases e; dsimp only; omega)) (i := x) (by rw [HS.out.2]; exact hx)
  cases e'
  have HY : Hid (y ∈ L) := by
    rw [← hy.out, List.getD_eq_getElem?_getD, List.getElem?_eq_getElem (by rw [HS.out.2]; exact hx)]
    exact List.getElem_mem _
  have i0 : (0 : Int) ≤ (x : Int) := by omega
  have i1 : (x : Int) < (l : Int) := by omega
  clear ht hd
  go_wp2_with fail
  go_ret
  exact ⟨y, rfl, HY.out, T1.out.1, T1.out.2⟩
theorem none_new {w : World} (vs : Array Value) (t : TypeId) (i : Nat) (hi : vs.size ≤ i) : (w.alloc (.cells vs t)).cell? ⟨w.heap.size, i, none⟩ = none := by
  rw [World.cell?_alloc_at _ _ _ _ rfl]
  exact Array.getElem?_eq_none hi
theorem NoMore.below {w w' : World} {P : Nat} (h : NoMore w P) (hP : P < w.heap.size) (hb : Below w.heap.size w w') : NoMore w' P := fun i hi => by
  rw [← h i hi]
  exact World.cell?_of_block (a := ⟨P, i, none⟩) (hb.block P hP)
set_option maxHeartbeats 1000000 in
theorem l00Source (ca : Option Addr) (n cc : Nat) (C : List Nat) (w : World) (hC : C.length = n) (hn : n ≤ 1048577) (h8 : ∀ x ∈ C, x < 256) (hs : Src w ca (cellsB C)) :
    Calls Tryz.prog 32 #[.slice ca n cc] w fun e w' => e = .returned (.pointer (some ⟨w.heap.size, 0, none⟩)) ∧ w'.heap.size = w.heap.size + 1 ∧ Below w.heap.size w w' ∧ DrawOK w' w.heap.size ca n cc 0 C := by
  obtain ⟨s, hs9⟩ : ∃ s, n % 1000 = s := ⟨_, rfl⟩
  have hsl : s < 1000 := by rw [← hs9]; exact Nat.mod_lt _ (by omega)
  have R : Int.tmod (n : Int) 1000 = (s : Int) := by rw [← hs9]; exact tmod_nat n 1000
  have HC : Hid (C.length = n ∧ (∀ x ∈ C, x < 256) ∧ Src w ca (cellsB C)) := ⟨hC, h8, hs⟩
  clear hC h8 hs hs9
  go_enter Tryz.func32, Tryz.ntmps32
  go_wp2_with fail
  go_ret
  refine ⟨rfl, by simp, (Below.refl _ _).alloc (Nat.le_refl _) _, ⟨0, s, Box.new rfl, by omega, by omega, fun i hi => none_new _ _ i hi⟩, HC.out.1, hn, HC.out.2.1, HC.out.2.2.below ((Below.refl _ _).alloc (Nat.le_refl _) _), fun h0 a e => ?_⟩
  rcases HC.out.2.2 with h | ⟨b, o, e2, hc⟩
  · have h2 := cellsB_length C
    rw [h] at h2
    simp only [List.length_nil] at h2
    have := HC.out.1
    omega
  · rw [e2] at e
    cases e
    have h1 := World.block_lt_of_cell? _ _ (hc 0 (by rw [cellsB_length, HC.out.1]; omega))
    dsimp only at h1 ⊢
    omega
theorem DrawOK.below {w w' : World} {P n cc K : Nat} {ca : Option Addr} {C : List Nat} (h : DrawOK w P ca n cc K C) (hb : Below w.heap.size w w') : DrawOK w' P ca n cc K C := by
  obtain ⟨⟨a, s, h1, h2, h3⟩, h4, h5, h6, h7, h8⟩ := h
  exact ⟨⟨a, s, h1.below hb, h2, h3.1, h3.2.below (World.block_lt_of_cell? _ _ (h1 0 _ rfl).1) hb⟩, h4, h5, h6, h7.below hb, h8⟩
/-- A list of texts lies elsewhere than the source. -/
theorem DrawOK.apart {w : World} {P n cc K : Nat} {ca : Option Addr} {C : List Nat} (h : DrawOK w P ca n cc K C) {b o : Nat} {s : ByteArray} (hc : w.cell? ⟨b, o, none⟩ = some (.string s)) : b ≠ P := fun e => by
  subst e
  obtain ⟨⟨a, z, h1, _, _, h4⟩, _⟩ := h
  by_cases ho : 3 ≤ o
  · rw [h4 o ho] at hc
    cases hc
  · match o, ho with
    | 0, _ => rw [(h1 0 _ rfl).1] at hc; cases hc
    | 1, _ => rw [(h1 1 _ rfl).1] at hc; cases hc
    | 2, _ => rw [(h1 2 _ rfl).1] at hc; cases hc
    | k + 3, ho => exact absurd (by omega) ho
theorem DrawOK.lt {w : World} {P n cc K : Nat} {ca : Option Addr} {C : List Nat} (h : DrawOK w P ca n cc K C) : P < w.heap.size := by
  obtain ⟨⟨a, s, h1, h2, h3⟩, h4⟩ := h
  exact World.block_lt_of_cell? _ _ (h1 0 _ rfl).1
theorem DrawOK.grown {w w' : World} {P n cc K : Nat} {ca : Option Addr} {C : List Nat} {row : Option Nat} (h : DrawOK w P ca n cc K C) (hg : w.grownBy w' row) (hP : row ≠ some P) (hc : 0 < n → ∀ a, ca = some a → row ≠ some a.block) : DrawOK w' P ca n cc K C := by
  obtain ⟨⟨a, s, h1, h2, h3⟩, h4, h5, h6, h7, h8⟩ := h
  refine ⟨⟨a, s, h1.grown hg hP, h2, h3.1, fun i hi => by rw [← h3.2 i hi]; exact World.cell?_of_block (a := ⟨P, i, none⟩) (hg.block P (World.block_lt_of_cell? _ _ (h1 0 _ rfl).1) (fun e => hP e.symm))⟩, h4, h5, h6, ?_, h8⟩
  rcases h7 with h7 | ⟨b, o, rfl, h9⟩
  · exact .inl h7
  · refine .inr ⟨b, o, rfl, fun j hj => ?_⟩
    have h10 := h9 j hj
    rw [← h10]
    exact World.cell?_of_block (a := ⟨b, o + j, none⟩) (hg.block b (World.block_lt_of_cell? _ _ h10) (fun e => hc (by rw [cellsB_length, h4] at hj; omega) _ rfl e.symm))
theorem src_list {w : World} {L : List ByteArray} {B ty : Nat} (hB : B = w.heap.size) (cs : Array Value) (hcs : cs.toList = cellsS L) : Src (w.alloc (.cells cs ty)) (some ⟨B, 0, none⟩) (cellsS L) := by
  obtain rfl : cs = (cellsS L).toArray := by rw [← hcs]
  have hb : Box (w.alloc (.cells (cellsS L).toArray ty)) B (cellsS L) := Box.new hB
  refine .inr ⟨B, 0, rfl, fun j hj => ?_⟩
  rw [Nat.zero_add]
  exact (hb j _ (by rw [List.getD_eq_getElem?_getD, List.getElem?_eq_getElem hj]; rfl)).1
theorem DrawOK.more {w : World} {P n cc K1 K2 : Nat} {ca : Option Addr} {C : List Nat} (h : DrawOK w P ca n cc K1 C) (hk : K1 ≤ K2) : DrawOK w P ca n cc K2 C := by
  obtain ⟨⟨a, s, h1, h2, h3⟩, h4⟩ := h
  exact ⟨⟨a, s, h1, by omega, h3⟩, h4⟩
end Go.Proofs.YthgbclipknfmjaaGreatDoor
namespace Go.Proofs.YthgbclipknfmjaaGreatDoor
open Go.ChangeShapes Go.WideShapes Go.ChangeAt Go.RowKit Go.Deep Go.Lib
set_option linter.unusedVariables false
set_option linter.unusedSimpArgs false
set_option maxRecDepth 100000

def drawUs : List ByteArray := [⟨#[97, 110, 110]⟩, ⟨#[98, 111, 98]⟩]
theorem users_are : ∀ s ∈ drawUs, s = annT ∨ s = bobT := by
  intro s hs
  simp [drawUs] at hs
  exact hs
def drawFs : List ByteArray := [⟨#[105, 110, 98, 111, 120]⟩, ⟨#[105, 110, 98, 111, 120]⟩, ⟨#[119, 111, 114, 107]⟩, ⟨#[111, 108, 100]⟩]
theorem folds_are : ∀ s ∈ drawFs, FoldN s := by
  intro s hs
  simp [drawFs] at hs
  exact hs
set_option maxHeartbeats 2000000 in
theorem userDr (P n cc K : Nat) (ca : Option Addr) (C : List Nat) (w : World) (hK : K ≤ 999000000) (h : DrawOK w P ca n cc K C) :
    Calls Tryz.prog 34 #[.pointer (some ⟨P, 0, none⟩)] w fun e w' => ∃ s : ByteArray, e = .returned (.string s) ∧ (s = annT ∨ s = bobT) ∧ Turned P (P + 1) w w' ∧ DrawOK w' P ca n cc (K + 3) C := by
  have H : Hid (DrawOK w P ca n cc K C) := h
  have PL : Hid (P < w.heap.size) := h.lt
  clear h
  go_enter Tryz.func34, Tryz.ntmps34
  go_wp2_with fail
  have B4 : Hid (Below w.heap.size w (w.alloc (.cells #[.string ⟨#[97, 110, 110]⟩, .string ⟨#[98, 111, 98]⟩] 9))) := (Below.refl _ _).alloc (Nat.le_refl _) _
  refine (drawPick P n cc K ca C w.heap.size 0 2 2 drawUs _ rfl (by omega) (by omega) (by omega) (by have := PL.out; omega) (src_list rfl _ rfl) (H.out.below B4.out)).mono ?_
  rintro e w1 ⟨s, rfl, hs, ht, hd⟩
  have T1 : Hid (Turned P (P + 1) w w1 ∧ DrawOK w1 P ca n cc (K + 3) C ∧ (s = annT ∨ s = bobT)) := ⟨(Turned.of_below B4.out).trans ht, hd, users_are s hs⟩
  clear ht hd hs
  go_wp2_with fail
  go_ret
  exact ⟨s, rfl, T1.out.2.2, T1.out.1, T1.out.2.1⟩
set_option maxHeartbeats 2000000 in
theorem folderDr (P n cc K : Nat) (ca : Option Addr) (C : List Nat) (w : World) (hK : K ≤ 999000000) (h : DrawOK w P ca n cc K C) :
    Calls Tryz.prog 35 #[.pointer (some ⟨P, 0, none⟩)] w fun e w' => ∃ s : ByteArray, e = .returned (.string s) ∧ FoldN s ∧ Turned P (P + 1) w w' ∧ DrawOK w' P ca n cc (K + 3) C := by
  have H : Hid (DrawOK w P ca n cc K C) := h
  have PL : Hid (P < w.heap.size) := h.lt
  clear h
  go_enter Tryz.func35, Tryz.ntmps35
  go_wp2_with fail
  have B4 : Hid (Below w.heap.size w (w.alloc (.cells #[.string ⟨#[105, 110, 98, 111, 120]⟩, .string ⟨#[105, 110, 98, 111, 120]⟩, .string ⟨#[119, 111, 114, 107]⟩, .string ⟨#[111, 108, 100]⟩] 9))) := (Below.refl _ _).alloc (Nat.le_refl _) _
  refine (drawPick P n cc K ca C w.heap.size 0 4 4 drawFs _ rfl (by omega) (by omega) (by omega) (by have := PL.out; omega) (src_list rfl _ rfl) (H.out.below B4.out)).mono ?_
  rintro e w1 ⟨s, rfl, hs, ht, hd⟩
  have T1 : Hid (Turned P (P + 1) w w1 ∧ DrawOK w1 P ca n cc (K + 3) C ∧ FoldN s) := ⟨(Turned.of_below B4.out).trans ht, hd, folds_are s hs⟩
  clear ht hd hs
  go_wp2_with fail
  go_ret
  exact ⟨s, rfl, T1.out.2.2, T1.out.1, T1.out.2.1⟩
def drawTs : List ByteArray := [⟨#[83, 117, 98, 106, 101, 99, 116, 58, 32, 111, 110, 101, 10, 10, 98, 111, 100, 121]⟩, ⟨#[83, 117, 98, 106, 101, 99, 116, 58, 32, 116, 119, 111, 10, 70, 114, 111, 109, 58, 32, 97, 110, 110, 10, 10]⟩, ⟨#[10]⟩, ⟨#[10, 98, 111, 100, 121, 10, 109, 111, 114, 101]⟩, ⟨#[110, 111, 32, 104, 101, 97, 100]⟩, ⟨#[]⟩]
theorem texts_small : ∀ s ∈ drawTs, s.size ≤ 85 := by
  intro s hs
  simp [drawTs] at hs
  rcases hs with rfl | rfl | rfl | rfl | rfl | rfl <;> decide
set_option maxHeartbeats 2000000 in
theorem mailTextDr (P n cc K : Nat) (ca : Option Addr) (C : List Nat) (w : World) (hK : K ≤ 999000000) (h : DrawOK w P ca n cc K C) :
    Calls Tryz.prog 102 #[.pointer (some ⟨P, 0, none⟩)] w fun e w' => ∃ s : ByteArray, e = .returned (.string s) ∧ s.size ≤ 85 ∧ Turned P (P + 1) w w' ∧ DrawOK w' P ca n cc (K + 3) C := by
  have H : Hid (DrawOK w P ca n cc K C) := h
  have PL : Hid (P < w.heap.size) := h.lt
  clear h
  go_enter Tryz.func102, Tryz.ntmps102
  go_wp2_with fail
  have B4 : Hid (Below w.heap.size w (w.alloc (.cells #[.string ⟨#[83, 117, 98, 106, 101, 99, 116, 58, 32, 111, 110, 101, 10, 10, 98, 111, 100, 121]⟩, .string ⟨#[83, 117, 98, 106, 101, 99, 116, 58, 32, 116, 119, 111, 10, 70, 114, 111, 109, 58, 32, 97, 110, 110, 10, 10]⟩, .string ⟨#[10]⟩, .string ⟨#[10, 98, 111, 100, 121, 10, 109, 111, 114, 101]⟩, .string ⟨#[110, 111, 32, 104, 101, 97, 100]⟩, .string ⟨#[]⟩] 9))) := (Below.refl _ _).alloc (Nat.le_refl _) _
  refine (drawPick P n cc K ca C w.heap.size 0 6 6 drawTs _ rfl (by omega) (by omega) (by omega) (by have := PL.out; omega) (src_list rfl _ rfl) (H.out.below B4.out)).mono ?_
  rintro e w1 ⟨s, rfl, hs, ht, hd⟩
  have T1 : Hid (Turned P (P + 1) w w1 ∧ DrawOK w1 P ca n cc (K + 3) C ∧ s.size ≤ 85) := ⟨(Turned.of_below B4.out).trans ht, hd, texts_small s hs⟩
  clear ht hd hs
  go_wp2_with fail
  go_ret
  exact ⟨s, rfl, T1.out.2.2, T1.out.1, T1.out.2.1⟩
/-- Where the draw of a store stands. -/
def DW (P n cc K : Nat) (ca : Option Addr) (C : List Nat) (b o : Nat) (L : List PM) (w w' : World) : Prop := Turned P (P + 1) w w' ∧ DrawOK w' P ca n cc K C ∧ Src w' (some ⟨b, o, none⟩) (cellsP L)
theorem src_first {w : World} {b o : Nat} {L : List PM} (hs : Src w (some ⟨b, o, none⟩) (cellsP L)) (hne : L ≠ []) : ∃ s, w.cell? ⟨b, o, none⟩ = some (.string s) := by
  match L, hne with
  | p :: R, _ =>
    rcases hs with h | ⟨b', o', e, hc⟩
    · cases h
    · cases e
      have h0 := hc 0 (by rw [cellsP_length]; simp)
      exact ⟨_, h0⟩
theorem DW.step {P n cc K1 K2 : Nat} {ca : Option Addr} {C : List Nat} {b o : Nat} {L : List PM} {w wi wj : World} (h : DW P n cc K1 ca C b o L w wi) (hne : L ≠ []) (ht : Turned P (P + 1) wi wj) (hd : DrawOK wj P ca n cc K2 C) : DW P n cc K2 ca C b o L w wj := by
  obtain ⟨h1, h2, h3⟩ := h
  obtain ⟨s, hc⟩ := src_first h3 hne
  have hb := h2.apart hc
  exact ⟨h1.trans ht, hd, h3.turned ht (fun _ ad e => by cases e; show b < P ∨ P + 1 ≤ b; omega)⟩
theorem Drawn.ne {k : Nat} {L : List PM} (h : Drawn k L) : L ≠ [] := fun e => by
  have h1 := (h.us annT (by decide)).2 (.inl rfl)
  rw [e] at h1
  cases h1
/-- What the work leaves. -/
def WorkT (k : Nat) (L : List PM) (P : Nat) (w w' : World) (v : Value) : Prop := ∃ a2 n2 c2 L', v = .slice a2 n2 c2 ∧ LenC L' n2 c2 ∧ Src w' a2 (cellsP L') ∧ (Drawn (k + 1) L' ∧ nextM L ≤ nextM L') ∧ Turned P (P + 1) w w'
theorem DW.work {k P n cc K : Nat} {ca : Option Addr} {C : List Nat} {b o : Nat} {L : List PM} {w wi w' : World} {v : Value} (h : DW P n cc K ca C b o L w wi) (hw : WorkD k L wi w' v) {K2 : Nat} (hK : K ≤ K2) : WorkT k L P w w' v ∧ DrawOK w' P ca n cc K2 C := by
  obtain ⟨a2, n2, c2, L', rfl, h1, h2, h3, h4⟩ := hw
  exact ⟨⟨a2, n2, c2, L', rfl, h1, h2, h3, h.1.trans (Turned.of_below h4)⟩, (h.2.1.below h4).more hK⟩
set_option maxHeartbeats 8000000 in
theorem workDr (P n cc K k : Nat) (ca : Option Addr) (C : List Nat) (b o m c : Nat) (L : List PM) (w : World) (hK : K ≤ 990000000) (h : DrawOK w P ca n cc K C) (hD : Drawn k L) (hL : LenC L m c) (hs : Src w (some ⟨b, o, none⟩) (cellsP L)) :
    Calls Tryz.prog 53 #[.pointer (some ⟨P, 0, none⟩), .slice (some ⟨b, o, none⟩) m c] w fun e w' => ∃ v, e = .returned v ∧ WorkT k L P w w' v ∧ DrawOK w' P ca n cc (K + 30) C := by
  have HD : Hid (Drawn k L ∧ LenC L m c ∧ L ≠ []) := ⟨hD, hL, hD.ne⟩
  have S0' : Hid (DW P n cc K ca C b o L w w) := ⟨Turned.of_below (Below.refl _ _), h, hs⟩
  clear h hD hL hs
  go_enter Tryz.func53, Tryz.ntmps53
  go_wp2_with fail
  refine (userDr P n cc K ca C w (by omega) S0'.out.2.1).mono ?_
  rintro e w1 ⟨u, rfl, hu, ht1, hd1⟩
  have S1 : Hid (DW P n cc (K + 3) ca C b o L w w1) := S0'.out.step HD.out.2.2 ht1 hd1
  have HU : Hid (u = annT ∨ u = bobT) := hu
  clear ht1 hd1 hu S0'
  go_wp2_with fail
  refine (folderDr P n cc (K + 3) ca C w1 (by omega) S1.out.2.1).mono ?_
  rintro e w2 ⟨f, rfl, hf, ht2, hd2⟩
  have S2 : Hid (DW P n cc (K + 6) ca C b o L w w2) := S1.out.step HD.out.2.2 ht2 hd2
  have HF : Hid (FoldN f) := hf
  clear ht2 hd2 hf S1
  go_wp2_with fail
  refine (drawNext P n cc (K + 6) 9 ca C w2 (by omega) (by omega) (by omega) S2.out.2.1).mono ?_
  rintro e w3 ⟨x, rfl, hx, ht3, hd3⟩
  have S3 : Hid (DW P n cc (K + 9) ca C b o L w w3) := S2.out.step HD.out.2.2 ht3 hd3
  clear ht3 hd3 S2
  have hcase : x = 0 ∨ x = 1 ∨ x = 2 ∨ x = 3 ∨ x = 4 ∨ x = 5 ∨ 6 ≤ x := by omega
  rcases hcase with rfl | rfl | rfl | rfl | rfl | rfl | h6
  · go_wp2_with fail
    refine (mkD b o m c k L HD.out.1 HD.out.2.1 u f HU.out HF.out w3 S3.out.2.2).mono ?_
    rintro e w4 ⟨v, q, rfl, hw⟩
    have E4 : Hid (WorkT k L P w w4 v ∧ DrawOK w4 P ca n cc (K + 30) C) := S3.out.work hw (by omega)
    clear hw
    go_wp2_with fail
    go_ret
    exact ⟨v, rfl, E4.out⟩
  · go_wp2_with fail
    refine (dropD b o m c k L HD.out.1 HD.out.2.1 u f HU.out (fold_short HF.out) w3 S3.out.2.2).mono ?_
    rintro e w4 ⟨v, q, rfl, hw⟩
    have E4 : Hid (WorkT k L P w w4 v ∧ DrawOK w4 P ca n cc (K + 30) C) := S3.out.work hw (by omega)
    clear hw
    go_wp2_with fail
    go_ret
    exact ⟨v, rfl, E4.out⟩
  · go_wp2_with fail
    refine (folderDr P n cc (K + 9) ca C w3 (by omega) S3.out.2.1).mono ?_
    rintro e w5 ⟨tf, rfl, hf5, ht5, hd5⟩
    have S5 : Hid (DW P n cc (K + 12) ca C b o L w w5) := S3.out.step HD.out.2.2 ht5 hd5
    have HF5 : Hid (FoldN tf) := hf5
    clear ht5 hd5 hf5 S3
    go_wp2_with fail
    refine (rnD b o m c k L HD.out.1 HD.out.2.1 u f tf HU.out (fold_short HF.out) HF5.out w5 S5.out.2.2).mono ?_
    rintro e w4 ⟨v, q, rfl, hw⟩
    have E4 : Hid (WorkT k L P w w4 v ∧ DrawOK w4 P ca n cc (K + 30) C) := S5.out.work hw (by omega)
    clear hw
    go_wp2_with fail
    go_ret
    exact ⟨v, rfl, E4.out⟩
  · go_wp2_with fail
    refine (drawNext P n cc (K + 9) 4 ca C w3 (by omega) (by omega) (by omega) S3.out.2.1).mono ?_
    rintro e w5 ⟨y, rfl, hy, ht5, hd5⟩
    have S5 : Hid (DW P n cc (K + 12) ca C b o L w w5) := S3.out.step HD.out.2.2 ht5 hd5
    clear ht5 hd5 S3
    go_wp2_with fail
    refine (drawNext P n cc (K + 12) 4 ca C w5 (by omega) (by omega) (by omega) S5.out.2.1).mono ?_
    rintro e w6 ⟨z, rfl, hz, ht6, hd6⟩
    have S6 : Hid (DW P n cc (K + 15) ca C b o L w w6) := S5.out.step HD.out.2.2 ht6 hd6
    clear ht6 hd6 S5
    go_wp2_with fail
    refine (flD b o m c k L HD.out.1 HD.out.2.1 u f _ (z : Int) HU.out (fold_short HF.out) (by omega) (by omega) w6 S6.out.2.2).mono ?_
    rintro e w4 ⟨v, q, rfl, hw⟩
    have E4 : Hid (WorkT k L P w w4 v ∧ DrawOK w4 P ca n cc (K + 30) C) := S6.out.work hw (by omega)
    clear hw
    go_wp2_with fail
    go_ret
    exact ⟨v, rfl, E4.out⟩
  · go_wp2_with fail
    refine (exD b o m c k L HD.out.1 HD.out.2.1 u f HU.out (fold_short HF.out) w3 S3.out.2.2).mono ?_
    rintro e w4 ⟨v, x, q, rfl, hw⟩
    have E4 : Hid (WorkT k L P w w4 v ∧ DrawOK w4 P ca n cc (K + 30) C) := S3.out.work hw (by omega)
    clear hw
    go_wp2_with fail
    go_ret
    exact ⟨v, rfl, E4.out⟩
  · go_wp2_with fail
    refine (drawNext P n cc (K + 9) 4 ca C w3 (by omega) (by omega) (by omega) S3.out.2.1).mono ?_
    rintro e w5 ⟨y, rfl, hy, ht5, hd5⟩
    have S5 : Hid (DW P n cc (K + 12) ca C b o L w w5) := S3.out.step HD.out.2.2 ht5 hd5
    clear ht5 hd5 S3
    go_wp2_with fail
    refine (folderDr P n cc (K + 12) ca C w5 (by omega) S5.out.2.1).mono ?_
    rintro e w6 ⟨tf, rfl, hf6, ht6, hd6⟩
    have S6 : Hid (DW P n cc (K + 15) ca C b o L w w6) := S5.out.step HD.out.2.2 ht6 hd6
    have HF6 : Hid (FoldN tf) := hf6
    clear ht6 hd6 hf6 S5
    go_wp2_with fail
    refine (cpD b o m c k L HD.out.1 HD.out.2.1 u f _ tf HU.out (fold_short HF.out) (fold_short HF6.out) w6 S6.out.2.2).mono ?_
    rintro e w4 ⟨v, x, q, rfl, hw⟩
    have E4 : Hid (WorkT k L P w w4 v ∧ DrawOK w4 P ca n cc (K + 30) C) := S6.out.work hw (by omega)
    clear hw
    go_wp2_with fail
    go_ret
    exact ⟨v, rfl, E4.out⟩
  · have x0 : ((x : Int) == 0) = false := beq_eq_false_iff_ne.2 (by omega)
    have x1 : ((x : Int) == 1) = false := beq_eq_false_iff_ne.2 (by omega)
    have x2 : ((x : Int) == 2) = false := beq_eq_false_iff_ne.2 (by omega)
    have x3 : ((x : Int) == 3) = false := beq_eq_false_iff_ne.2 (by omega)
    have x4 : ((x : Int) == 4) = false := beq_eq_false_iff_ne.2 (by omega)
    have x5 : ((x : Int) == 5) = false := beq_eq_false_iff_ne.2 (by omega)
    go_wp2_with fail
    refine (mailTextDr P n cc (K + 9) ca C w3 (by omega) S3.out.2.1).mono ?_
    rintro e w5 ⟨t, rfl, ht85, ht5, hd5⟩
    have S5 : Hid (DW P n cc (K + 12) ca C b o L w w5) := S3.out.step HD.out.2.2 ht5 hd5
    clear ht5 hd5 S3
    go_wp2_with fail
    refine (drawNext P n cc (K + 12) 4 ca C w5 (by omega) (by omega) (by omega) S5.out.2.1).mono ?_
    rintro e w6 ⟨z, rfl, hz, ht6, hd6⟩
    have S6 : Hid (DW P n cc (K + 15) ca C b o L w w6) := S5.out.step HD.out.2.2 ht6 hd6
    clear ht6 hd6 S5
    go_wp2_with fail
    refine (appD b o m c k L HD.out.1 HD.out.2.1 u f t (z : Int) HU.out (fold_short HF.out) (by omega) (by omega) ht85 w6 S6.out.2.2).mono ?_
    rintro e w4 ⟨v, x, q, rfl, hw⟩
    have E4 : Hid (WorkT k L P w w4 v ∧ DrawOK w4 P ca n cc (K + 30) C) := S6.out.work hw (by omega)
    clear hw
    go_wp2_with fail
    go_ret
    exact ⟨v, rfl, E4.out⟩
end Go.Proofs.YthgbclipknfmjaaGreatDoor
