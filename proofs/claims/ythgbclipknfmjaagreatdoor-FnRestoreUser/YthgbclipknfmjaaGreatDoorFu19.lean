/-
  Wkd Mlp Lsf in one. By an AI agent.
-/
import Derived.Test.YthgbclipknfmjaaGreatDoorFu17
import Derived.Test.YthgbclipknfmjaaGreatDoorFu18
import Derived.Test.YthgbclipknfmjaaGreatDoorFu15
import Derived.Test.YthgbclipknfmjaaGreatDoorFu14
namespace Go.Proofs.YthgbclipknfmjaaGreatDoor
open Go.ChangeShapes Go.WideShapes Go.ChangeAt Go.RowKit Go.Deep Go.Lib
set_option linter.unusedVariables false
set_option linter.unusedSimpArgs false
set_option maxRecDepth 100000

theorem Drawn.desk {k : Nat} {L : List PM} {u : ByteArray} (h : Drawn k L) (hu : u = annT ∨ u = bobT) : shortB u = true ∧ ∃ S, takeAll (nextM L) u S0 L = some S ∧ S.word.toList ≠ [] ∧ FitS (nextM L) u S ∧ (S.fs.map (·.name)).Nodup ∧ 1 ≤ nextM L := by
  have hsu : shortB u = true := by rcases hu with rfl | rfl <;> kernel_rfl
  have hus := word_slash hsu
  obtain ⟨S, hS, _, _⟩ := take_all h.st hus
  have hw : S.word.toList ≠ [] := fun e => by
    have h1 := (word_iff h.st hus hS).1.1 e
    have h2 := (h.us u hus).2 hu
    rw [h1] at h2
    cases h2
  obtain ⟨_, nx0, hnm, n1, _⟩ := store_facts h.st
  rw [hnm] at n1
  exact ⟨hsu, S, hS, hw, store_fits h.st hus hS hw, names_of hS, n1⟩
theorem op_drawn {k : Nat} {N : List PM} {u : ByteArray} {S S' : SM} {q nx' : Int} {A : List PM × Int} (h : Drawn k N) (hS : takeAll (nextM N) u S0 N = some S) (hw : S.word.toList ≠ []) (hO : OpFits N u q nx' S' A) (hT : q = 0 → StepS FoldN (nextM N) nx' u S S') : Drawn (k + 1) A.1 := by
  by_cases e : q = 0
  · obtain ⟨_, j1, _, Y, j2, j3, _, j5⟩ := hO.2 e
    rw [j5]
    unfold fitsR
    split
    · exact h.more
    · rename_i h9
      exact drawn_step (Y := Y) h hS hw (hT e) j1 j2 j3 (by omega)
  · rw [hO.1 e]
    exact h.more
theorem step_mono {k : Nat} {N Y : List PM} {u : ByteArray} {nx' : Int} {S S' : SM} (h : Drawn k N) (hS : takeAll (nextM N) u S0 N = some S) (hT : StepS FoldN (nextM N) nx' u S S') (h9 : nx' ≤ 10000) (up : UpL Y) (pm : (deskP nx' u S').Perm Y) : nextM N ≤ nextM Y := by
  obtain ⟨hgN, nx0, hnm, n1, n2, _⟩ := store_facts h.st
  rw [hnm] at n1
  have hl := lies_left h.st hS hT.aside hT.nd hT.fit up pm
  have hnY : nextM Y = nx' := lies_next hl (by have := hT.n0; omega) h9
  have := hT.n0
  omega
theorem op_mono {k : Nat} {N : List PM} {u : ByteArray} {S S' : SM} {q nx' : Int} {A : List PM × Int} (h : Drawn k N) (hS : takeAll (nextM N) u S0 N = some S) (hw : S.word.toList ≠ []) (hO : OpFits N u q nx' S' A) (hT : q = 0 → StepS FoldN (nextM N) nx' u S S') : nextM N ≤ nextM A.1 := by
  by_cases e : q = 0
  · obtain ⟨_, j1, _, Y, j2, j3, _, j5⟩ := hO.2 e
    rw [j5]
    unfold fitsR
    split
    · exact Int.le_refl _
    · exact step_mono h hS (hT e) j1 j2 j3
  · rw [hO.1 e]
    exact Int.le_refl _
theorem mk_drawn {k : Nat} {L : List PM} {u f : ByteArray} (h : Drawn k L) (hu : u = annT ∨ u = bobT) (hp : FoldN f) : Drawn (k + 1) (mkR L u f).1 := by
  obtain ⟨hsu, S, hS, hw, hF, hnd, n1⟩ := h.desk hu
  obtain ⟨q, nx', S', hQ⟩ : ∃ q nx' S', mkM (nextM L) S f = (q, nx', S') := ⟨_, _, _, rfl⟩
  exact op_drawn h hS hw (mk_fits h.st hsu (fold_short hp) hS hQ) (fun e => by subst e; exact step_mk n1 hF hnd (fold_short hp) hp hQ)
theorem drop_drawn {k : Nat} {L : List PM} {u f : ByteArray} (h : Drawn k L) (hu : u = annT ∨ u = bobT) (hsf : shortB f = true) : Drawn (k + 1) (dropR L u f).1 := by
  obtain ⟨hsu, S, hS, hw, hF, hnd, n1⟩ := h.desk hu
  obtain ⟨q, nx', S', hQ⟩ : ∃ q nx' S', dropM (nextM L) S f = (q, nx', S') := ⟨_, _, _, rfl⟩
  exact op_drawn h hS hw (drop_fits h.st hsu hsf hS hQ) (fun e => by subst e; exact step_drop hF hnd hQ)
theorem rn_drawn {k : Nat} {L : List PM} {u f tf : ByteArray} (h : Drawn k L) (hu : u = annT ∨ u = bobT) (hsf : shortB f = true) (hp : FoldN tf) : Drawn (k + 1) (rnR L u f tf).1 := by
  obtain ⟨hsu, S, hS, hw, hF, hnd, n1⟩ := h.desk hu
  obtain ⟨q, nx', S', hQ⟩ : ∃ q nx' S', rnM (nextM L) S f tf = (q, nx', S') := ⟨_, _, _, rfl⟩
  exact op_drawn h hS hw (rn_fits h.st hsu hsf (fold_short hp) hS hQ) (fun e => by subst e; exact step_rn n1 hF hnd (fold_short hp) hp hQ)
theorem sf_is (S : SM) (f : ByteArray) (un fl : Int) : ∃ q S', SfIs S f un fl q S' := by
  by_cases e : lackM S.word S.fs [f] = 0
  · obtain ⟨g, hg⟩ := lack_zero e
    by_cases hm : ∀ m ∈ g.mails, m.1 ≠ un
    · exact ⟨5, S, .inr ⟨e, g, hg, .inl ⟨hm, rfl, rfl⟩⟩⟩
    · have : ∃ m ∈ g.mails, m.1 = un := Classical.byContradiction fun h9 => hm fun m h1 h2 => h9 ⟨m, h1, h2⟩
      obtain ⟨m, h1, h2⟩ := this
      obtain ⟨j, hj, h3⟩ := List.getElem_of_mem h1
      have h4 : g.mails.getD j ml0 = m := by rw [List.getD_eq_getElem?_getD, List.getElem?_eq_getElem hj]; exact h3
      exact ⟨0, _, .inr ⟨e, g, hg, .inr ⟨j, hj, by rw [h4]; exact h2, rfl, rfl⟩⟩⟩
  · exact ⟨_, S, .inl ⟨e, rfl, rfl⟩⟩
theorem fl_drawn {k : Nat} {L : List PM} {u f : ByteArray} {un fl : Int} (h : Drawn k L) (hu : u = annT ∨ u = bobT) (hsf : shortB f = true) (f0 : 0 ≤ fl) (f1 : fl ≤ 3) : Drawn (k + 1) (flR L u f un fl).1 := by
  obtain ⟨hsu, S, hS, hw, hF, hnd, n1⟩ := h.desk hu
  obtain ⟨q, S', hQ⟩ := sf_is S f un fl
  exact op_drawn h hS hw (sf_fits h.st hsu hsf f0 f1 hS hQ) (fun e => by subst e; exact step_sf hF hnd f0 f1 hQ)
theorem ex_drawn {k : Nat} {L : List PM} {u f : ByteArray} (h : Drawn k L) (hu : u = annT ∨ u = bobT) (hsf : shortB f = true) : Drawn (k + 1) (exR L u f).1 := by
  obtain ⟨hsu, S, hS, hw, hF, hnd, n1⟩ := h.desk hu
  unfold exR
  split
  · exact h.more
  · rename_i h9
    obtain ⟨_, g, hl⟩ := known_zero h.st (word_slash hsu) (word_slash hsf) hS (Classical.not_not.1 h9)
    obtain ⟨k1, k2, k3, _, _⟩ := ex_fits h.st (word_slash hsu) (word_slash hsf) hS hw hl
    obtain ⟨_, nx0, hnm, _, n2, _⟩ := store_facts h.st
    rw [hnm] at n2
    exact drawn_step h hS hw (step_ex hF hnd hl) n2 k1 k2 k3
theorem app_drawn {k : Nat} {L : List PM} {u f t : ByteArray} {fl : Int} (h : Drawn k L) (hu : u = annT ∨ u = bobT) (hsf : shortB f = true) (f0 : 0 ≤ fl) (f1 : fl ≤ 3) (ht : t.size ≤ 85) : Drawn (k + 1) (appR L u f t fl).1 := by
  obtain ⟨hsu, S, hS, hw, hF, hnd, n1⟩ := h.desk hu
  by_cases h9 : knownR L u f = 0
  · rw [appR_T h9]
    obtain ⟨_, g, hl⟩ := known_zero h.st (word_slash hsu) (word_slash hsf) hS h9
    obtain ⟨q, S', hQ⟩ : ∃ q S', apM S g fl t = (q, S') := ⟨_, _, rfl⟩
    have hO := app_fits h.st hsu hsf (by omega) f0 f1 hS hw hl hQ
    by_cases e : q = 0
    · obtain ⟨_, Y, j2, j3, _, j5⟩ := hO.2 e
      rw [j5]
      split
      · exact h.more
      · rename_i h60
        subst e
        obtain ⟨_, nx0, hnm, _, n2, _⟩ := store_facts h.st
        rw [hnm] at n2
        exact drawn_step (Y := Y) h hS hw (step_app hF hnd f0 f1 ht hl hQ) n2 j2 j3 (by omega)
    · rw [hO.1 e]
      exact h.more
  · unfold appR
    rw [if_pos h9]
    exact h.more
theorem known_user {L : List PM} {u f : ByteArray} (h : storeB L = true) (hk : knownR L u f = 0) : ∃ q ∈ L, q.1 = userK u := by
  unfold knownR at hk
  split at hk
  · cases hk
  · rename_i h9
    cases hv : getM L (userK u) with
    | none => rw [hv] at h9; exact absurd rfl h9
    | some v => exact ⟨_, (getM_mem (store_facts h).1.2.2).1 hv, rfl⟩
theorem cp_val {L : List PM} {u f : ByteArray} {un : Int} (hst : storeB L = true) (hsu : shortB u = true) (hsf : shortB f = true) (hk : knownR L u f = 0) : ∀ v, 1 ≤ un → un ≤ 999 → getM L (mailK u f un) = some v → 1 ≤ v.size ∧ v.size ≤ 86 ∧ 48 ≤ hdV v ∧ hdV v ≤ 51 := fun v v1 v2 hv => by
  have hp := (getM_mem (store_facts hst).1.2.2).1 hv
  have hp2 : (mailK u f ((un.toNat : Nat) : Int), v) ∈ L := by rw [show ((un.toNat : Nat) : Int) = un by omega]; exact hp
  obtain ⟨m1, m2, m3, m4, _⟩ := mail_val hst (word_slash hsu) (word_slash hsf) (known_user hst hk) (by omega) hp2
  exact ⟨m1, m2, m3, m4⟩
theorem cp_drawn {k : Nat} {L : List PM} {u f tf : ByteArray} {un : Int} (h : Drawn k L) (hu : u = annT ∨ u = bobT) (hsf : shortB f = true) (hst : shortB tf = true) : Drawn (k + 1) (cpR L u f un tf).1 := by
  have hsu := (h.desk hu).1
  unfold cpR
  split
  · exact h.more
  rename_i h1
  split
  · exact h.more
  unfold cpT
  split
  · exact h.more
  rename_i h3
  rw [Bool.not_eq_false, Bool.and_eq_true, decide_eq_true_eq, decide_eq_true_eq] at h3
  cases hv : getM L (mailK u f un) with
  | none => exact h.more
  | some v =>
    obtain ⟨m1, m2, m3, m4⟩ := cp_val h.st hsu hsf (Classical.not_not.1 h1) v h3.1 h3.2 hv
    exact app_drawn h hu hst (by omega) (by omega) (by rw [ByteArray.size_extract]; omega)
theorem mk_mono {k : Nat} {L : List PM} {u f : ByteArray} (h : Drawn k L) (hu : u = annT ∨ u = bobT) (hp : FoldN f) : nextM L ≤ nextM (mkR L u f).1 := by
  obtain ⟨hsu, S, hS, hw, hF, hnd, n1⟩ := h.desk hu
  obtain ⟨q, nx', S', hQ⟩ : ∃ q nx' S', mkM (nextM L) S f = (q, nx', S') := ⟨_, _, _, rfl⟩
  exact op_mono h hS hw (mk_fits h.st hsu (fold_short hp) hS hQ) (fun e => by subst e; exact step_mk n1 hF hnd (fold_short hp) hp hQ)
theorem drop_mono {k : Nat} {L : List PM} {u f : ByteArray} (h : Drawn k L) (hu : u = annT ∨ u = bobT) (hsf : shortB f = true) : nextM L ≤ nextM (dropR L u f).1 := by
  obtain ⟨hsu, S, hS, hw, hF, hnd, n1⟩ := h.desk hu
  obtain ⟨q, nx', S', hQ⟩ : ∃ q nx' S', dropM (nextM L) S f = (q, nx', S') := ⟨_, _, _, rfl⟩
  exact op_mono h hS hw (drop_fits h.st hsu hsf hS hQ) (fun e => by subst e; exact step_drop hF hnd hQ)
theorem rn_mono {k : Nat} {L : List PM} {u f tf : ByteArray} (h : Drawn k L) (hu : u = annT ∨ u = bobT) (hsf : shortB f = true) (hp : FoldN tf) : nextM L ≤ nextM (rnR L u f tf).1 := by
  obtain ⟨hsu, S, hS, hw, hF, hnd, n1⟩ := h.desk hu
  obtain ⟨q, nx', S', hQ⟩ : ∃ q nx' S', rnM (nextM L) S f tf = (q, nx', S') := ⟨_, _, _, rfl⟩
  exact op_mono h hS hw (rn_fits h.st hsu hsf (fold_short hp) hS hQ) (fun e => by subst e; exact step_rn n1 hF hnd (fold_short hp) hp hQ)
theorem fl_mono {k : Nat} {L : List PM} {u f : ByteArray} {un fl : Int} (h : Drawn k L) (hu : u = annT ∨ u = bobT) (hsf : shortB f = true) (f0 : 0 ≤ fl) (f1 : fl ≤ 3) : nextM L ≤ nextM (flR L u f un fl).1 := by
  obtain ⟨hsu, S, hS, hw, hF, hnd, n1⟩ := h.desk hu
  obtain ⟨q, S', hQ⟩ := sf_is S f un fl
  exact op_mono h hS hw (sf_fits h.st hsu hsf f0 f1 hS hQ) (fun e => by subst e; exact step_sf hF hnd f0 f1 hQ)
theorem ex_mono {k : Nat} {L : List PM} {u f : ByteArray} (h : Drawn k L) (hu : u = annT ∨ u = bobT) (hsf : shortB f = true) : nextM L ≤ nextM (exR L u f).1 := by
  obtain ⟨hsu, S, hS, hw, hF, hnd, n1⟩ := h.desk hu
  unfold exR
  split
  · exact Int.le_refl _
  · rename_i h9
    obtain ⟨_, g, hl⟩ := known_zero h.st (word_slash hsu) (word_slash hsf) hS (Classical.not_not.1 h9)
    obtain ⟨k1, k2, k3, _, _⟩ := ex_fits h.st (word_slash hsu) (word_slash hsf) hS hw hl
    obtain ⟨_, nx0, hnm, _, n2, _⟩ := store_facts h.st
    rw [hnm] at n2
    exact step_mono h hS (step_ex hF hnd hl) n2 k1 k2
theorem app_mono {k : Nat} {L : List PM} {u f t : ByteArray} {fl : Int} (h : Drawn k L) (hu : u = annT ∨ u = bobT) (hsf : shortB f = true) (f0 : 0 ≤ fl) (f1 : fl ≤ 3) (ht : t.size ≤ 85) : nextM L ≤ nextM (appR L u f t fl).1 := by
  obtain ⟨hsu, S, hS, hw, hF, hnd, n1⟩ := h.desk hu
  by_cases h9 : knownR L u f = 0
  · rw [appR_T h9]
    obtain ⟨_, g, hl⟩ := known_zero h.st (word_slash hsu) (word_slash hsf) hS h9
    obtain ⟨q, S', hQ⟩ : ∃ q S', apM S g fl t = (q, S') := ⟨_, _, rfl⟩
    have hO := app_fits h.st hsu hsf (by omega) f0 f1 hS hw hl hQ
    by_cases e : q = 0
    · obtain ⟨_, Y, j2, j3, _, j5⟩ := hO.2 e
      rw [j5]
      split
      · exact Int.le_refl _
      · rename_i h60
        subst e
        obtain ⟨_, nx0, hnm, _, n2, _⟩ := store_facts h.st
        rw [hnm] at n2
        exact step_mono h hS (step_app hF hnd f0 f1 ht hl hQ) n2 j2 j3
    · rw [hO.1 e]
      exact Int.le_refl _
  · unfold appR
    rw [if_pos h9]
    exact Int.le_refl _
theorem cp_mono {k : Nat} {L : List PM} {u f tf : ByteArray} {un : Int} (h : Drawn k L) (hu : u = annT ∨ u = bobT) (hsf : shortB f = true) (hst : shortB tf = true) : nextM L ≤ nextM (cpR L u f un tf).1 := by
  have hsu := (h.desk hu).1
  unfold cpR
  split
  · exact Int.le_refl _
  rename_i h1
  split
  · exact Int.le_refl _
  unfold cpT
  split
  · exact Int.le_refl _
  rename_i h3
  rw [Bool.not_eq_false, Bool.and_eq_true, decide_eq_true_eq, decide_eq_true_eq] at h3
  cases hv : getM L (mailK u f un) with
  | none => exact Int.le_refl _
  | some v =>
    obtain ⟨m1, m2, m3, m4⟩ := cp_val h.st hsu hsf (Classical.not_not.1 h1) v h3.1 h3.2 hv
    exact app_mono h hu hst (by omega) (by omega) (by rw [ByteArray.size_extract]; omega)
/-- What an operation of the draw leaves. -/
def WorkD (k : Nat) (L : List PM) (W W' : World) (v : Value) : Prop := ∃ a2 n2 c2 L', v = .slice a2 n2 c2 ∧ LenC L' n2 c2 ∧ Src W' a2 (cellsP L') ∧ (Drawn (k + 1) L' ∧ nextM L ≤ nextM L') ∧ Below W.heap.size W W'
theorem mkD (b o n c k : Nat) (L : List PM) (h : Drawn k L) (hL : LenC L n c) (u f : ByteArray) (hu : u = annT ∨ u = bobT) (hp : FoldN f) (W : World) (hs : Src W (some ⟨b, o, none⟩) (cellsP L)) :
    Calls Tryz.prog 97 #[.slice (some ⟨b, o, none⟩) n c, .string u, .string f] W fun e W' => ∃ v q, e = .returned (.tuple #[v, .int .i64 q]) ∧ WorkD k L W W' v := by
  obtain ⟨hsu, S, hS, hw, hF, hnd, n1⟩ := h.desk hu
  obtain ⟨R, q, hR⟩ : ∃ R q, mkR L u f = (R, q) := ⟨_, _, rfl⟩
  have hd := And.intro (mk_drawn h hu hp) (mk_mono h hu hp)
  rw [hR] at hd
  refine (l07MakeFolderC b o n c L hL.1 hL.2.1 hL.2.2 (store_facts h.st).1 u f (short_size' hsu) (short_size' (fold_short hp)) (by omega) W hs R q hR).mono ?_
  rintro e W' ⟨a2, n2, c2, rfl, h1, h2, h3⟩
  exact ⟨_, _, rfl, a2, n2, c2, R, rfl, h1, h2, hd, h3⟩
theorem dropD (b o n c k : Nat) (L : List PM) (h : Drawn k L) (hL : LenC L n c) (u f : ByteArray) (hu : u = annT ∨ u = bobT) (hsf : shortB f = true) (W : World) (hs : Src W (some ⟨b, o, none⟩) (cellsP L)) :
    Calls Tryz.prog 98 #[.slice (some ⟨b, o, none⟩) n c, .string u, .string f] W fun e W' => ∃ v q, e = .returned (.tuple #[v, .int .i64 q]) ∧ WorkD k L W W' v := by
  obtain ⟨hsu, S, hS, hw, hF, hnd, n1⟩ := h.desk hu
  obtain ⟨R, q, hR⟩ : ∃ R q, dropR L u f = (R, q) := ⟨_, _, rfl⟩
  have hd := And.intro (drop_drawn h hu hsf) (drop_mono h hu hsf)
  rw [hR] at hd
  refine (l07DropFolderC b o n c L hL.1 hL.2.1 hL.2.2 (store_facts h.st).1 u f (short_size' hsu) (short_size' hsf) (by omega) W hs R q hR).mono ?_
  rintro e W' ⟨a2, n2, c2, rfl, h1, h2, h3⟩
  exact ⟨_, _, rfl, a2, n2, c2, R, rfl, h1, h2, hd, h3⟩
theorem rnD (b o n c k : Nat) (L : List PM) (h : Drawn k L) (hL : LenC L n c) (u f tf : ByteArray) (hu : u = annT ∨ u = bobT) (hsf : shortB f = true) (hp : FoldN tf) (W : World) (hs : Src W (some ⟨b, o, none⟩) (cellsP L)) :
    Calls Tryz.prog 99 #[.slice (some ⟨b, o, none⟩) n c, .string u, .string f, .string tf] W fun e W' => ∃ v q, e = .returned (.tuple #[v, .int .i64 q]) ∧ WorkD k L W W' v := by
  obtain ⟨hsu, S, hS, hw, hF, hnd, n1⟩ := h.desk hu
  obtain ⟨R, q, hR⟩ : ∃ R q, rnR L u f tf = (R, q) := ⟨_, _, rfl⟩
  have hd := And.intro (rn_drawn h hu hsf hp) (rn_mono h hu hsf hp)
  rw [hR] at hd
  refine (l07RenameC b o n c L hL.1 hL.2.1 hL.2.2 (store_facts h.st).1 h.st u f tf hsu hsf (fold_short hp) (by omega) W hs R q hR).mono ?_
  rintro e W' ⟨a2, n2, c2, rfl, h1, h2, h3⟩
  exact ⟨_, _, rfl, a2, n2, c2, R, rfl, h1, h2, hd, h3⟩
theorem flD (b o n c k : Nat) (L : List PM) (h : Drawn k L) (hL : LenC L n c) (u f : ByteArray) (un fl : Int) (hu : u = annT ∨ u = bobT) (hsf : shortB f = true) (f0 : 0 ≤ fl) (f1 : fl ≤ 3) (W : World) (hs : Src W (some ⟨b, o, none⟩) (cellsP L)) :
    Calls Tryz.prog 50 #[.slice (some ⟨b, o, none⟩) n c, .string u, .string f, .int .i64 un, .int .i64 fl] W fun e W' => ∃ v q, e = .returned (.tuple #[v, .int .i64 q]) ∧ WorkD k L W W' v := by
  obtain ⟨hsu, S, hS, hw, hF, hnd, n1⟩ := h.desk hu
  obtain ⟨R, q, hR⟩ : ∃ R q, flR L u f un fl = (R, q) := ⟨_, _, rfl⟩
  have hd := And.intro (fl_drawn (un := un) h hu hsf f0 f1) (fl_mono (un := un) h hu hsf f0 f1)
  rw [hR] at hd
  refine (l07FlagsC b o n c L hL.1 hL.2.1 hL.2.2 (store_facts h.st).1 u f un fl (short_size' hsu) (short_size' hsf) f0 f1 (fun hk v v1 v2 hv => ⟨(cp_val h.st hsu hsf hk v v1 v2 hv).1, (cp_val h.st hsu hsf hk v v1 v2 hv).2.1⟩) W hs R q hR).mono ?_
  rintro e W' ⟨a2, n2, c2, rfl, h1, h2, h3⟩
  exact ⟨_, _, rfl, a2, n2, c2, R, rfl, h1, h2, hd, h3⟩
theorem exD (b o n c k : Nat) (L : List PM) (h : Drawn k L) (hL : LenC L n c) (u f : ByteArray) (hu : u = annT ∨ u = bobT) (hsf : shortB f = true) (W : World) (hs : Src W (some ⟨b, o, none⟩) (cellsP L)) :
    Calls Tryz.prog 52 #[.slice (some ⟨b, o, none⟩) n c, .string u, .string f] W fun e W' => ∃ v x q, e = .returned (.tuple #[v, x, .int .i64 q]) ∧ WorkD k L W W' v := by
  obtain ⟨hsu, S, hS, hw, hF, hnd, n1⟩ := h.desk hu
  obtain ⟨R, G, q, hR⟩ : ∃ R G q, exR L u f = (R, G, q) := ⟨_, _, _, rfl⟩
  have hd := And.intro (ex_drawn h hu hsf) (ex_mono h hu hsf)
  rw [hR] at hd
  refine (l07ExpungeC b o n c L hL.1 (store_facts h.st).1 h.st u f hsu hsf W hs R G q hR).mono ?_
  rintro e W' ⟨a2, n2, c2, v, rfl, h1, h2, _, h3⟩
  exact ⟨_, _, _, rfl, a2, n2, c2, R, rfl, ⟨h1.1, h1.2 hL.2⟩, h2, hd, h3⟩
theorem appD (b o n c k : Nat) (L : List PM) (h : Drawn k L) (hL : LenC L n c) (u f t : ByteArray) (fl : Int) (hu : u = annT ∨ u = bobT) (hsf : shortB f = true) (f0 : 0 ≤ fl) (f1 : fl ≤ 3) (ht : t.size ≤ 85) (W : World) (hs : Src W (some ⟨b, o, none⟩) (cellsP L)) :
    Calls Tryz.prog 101 #[.slice (some ⟨b, o, none⟩) n c, .string u, .string f, .string t, .int .i64 fl] W fun e W' => ∃ v x q, e = .returned (.tuple #[v, x, .int .i64 q]) ∧ WorkD k L W W' v := by
  obtain ⟨hsu, S, hS, hw, hF, hnd, n1⟩ := h.desk hu
  obtain ⟨R, q1, q2, hR⟩ : ∃ R q1 q2, appR L u f t fl = (R, q1, q2) := ⟨_, _, _, rfl⟩
  have hd := And.intro (app_drawn h hu hsf f0 f1 ht) (app_mono h hu hsf f0 f1 ht)
  rw [hR] at hd
  refine (l07AppendC b o n c L hL.1 hL.2.1 hL.2.2 (store_facts h.st).1 u f t fl (short_size' hsu) (short_size' hsf) ht f0 f1 W hs R q1 q2 hR).mono ?_
  rintro e W' ⟨a2, n2, c2, rfl, h1, h2, h3⟩
  exact ⟨_, _, _, rfl, a2, n2, c2, R, rfl, h1, h2, hd, h3⟩
theorem cpD (b o n c k : Nat) (L : List PM) (h : Drawn k L) (hL : LenC L n c) (u f : ByteArray) (un : Int) (tf : ByteArray) (hu : u = annT ∨ u = bobT) (hsf : shortB f = true) (hst : shortB tf = true) (W : World) (hs : Src W (some ⟨b, o, none⟩) (cellsP L)) :
    Calls Tryz.prog 100 #[.slice (some ⟨b, o, none⟩) n c, .string u, .string f, .int .i64 un, .string tf] W fun e W' => ∃ v x q, e = .returned (.tuple #[v, x, .int .i64 q]) ∧ WorkD k L W W' v := by
  obtain ⟨hsu, S, hS, hw, hF, hnd, n1⟩ := h.desk hu
  obtain ⟨R, q1, q2, hR⟩ : ∃ R q1 q2, cpR L u f un tf = (R, q1, q2) := ⟨_, _, _, rfl⟩
  have hd := And.intro (cp_drawn (un := un) h hu hsf hst) (cp_mono (un := un) h hu hsf hst)
  rw [hR] at hd
  refine (l07CopyC b o n c L hL.1 hL.2.1 hL.2.2 (store_facts h.st).1 u f tf un (short_size' hsu) (short_size' hsf) (short_size' hst) (fun hk => cp_val h.st hsu hsf hk) W hs R q1 q2 hR).mono ?_
  rintro e W' ⟨a2, n2, c2, rfl, h1, h2, h3⟩
  exact ⟨_, _, _, rfl, a2, n2, c2, R, rfl, h1, h2, hd, h3⟩
theorem flat_len (u : ByteArray) : ∀ fs : List FM, (flatF u fs).length = fs.length + sumF fs
  | [] => rfl
  | f :: fs => by
    have ih := flat_len u fs
    show (fPairs u f ++ flatF u fs).length = (fs.length + 1) + (f.mails.length + sumF fs)
    rw [List.length_append, ih]
    unfold fPairs
    simp
    omega
theorem put_self {g : FM} : ∀ {fs : List FM}, g ∈ putF g fs
  | [] => List.mem_cons_self
  | x :: fs => by
    unfold putF
    split
    · exact List.mem_cons_self
    · exact List.mem_cons_of_mem _ put_self
theorem under_eq (L : List PM) (k : ByteArray) : ∀ n, n ≤ L.length → under (fK L) (fV L) k n = (L.take n).filter fun x => beginsB x.1 k := by
  intro n
  induction n with
  | zero => intro _; rfl
  | succ n ih =>
    intro hn
    have h1 := ih (by omega)
    have hlt : n < L.length := by omega
    rw [List.take_add_one, List.getElem?_eq_getElem hlt, List.filter_append]
    cases hb : beginsB (fK L n) k with
    | true =>
      rw [under_hit _ _ _ _ hb, h1, (at_fst hlt).1, (at_fst hlt).2]
      rw [(at_fst hlt).1] at hb
      simp [hb]
    | false =>
      rw [under_miss _ _ _ _ hb, h1]
      rw [(at_fst hlt).1] at hb
      simp [hb]
abbrev foldersK (u : ByteArray) : ByteArray := folderK u ⟨#[]⟩
def behind (u : ByteArray) (x : PM) : ByteArray := x.1.extract (foldersK u).size x.1.size
def listS (L : List PM) (u : ByteArray) : List ByteArray := (L.filter fun x => beginsB x.1 (foldersK u)).map (behind u)
set_option maxHeartbeats 2000000 in
theorem l07ListS (a : Option Addr) (n c : Nat) (L : List PM) (u : ByteArray) (w : World) (hL : L.length = n) (hg : GoodL L) (hu : u.size ≤ 1000) (h : Src w a (cellsP L)) :
    Calls Tryz.prog 123 #[.slice a n c, .string u] w fun e w' => ∃ v, e = .returned v ∧ w'.ownsRow w.heap.size 9 1 v (listS L u).length (cellsS (listS L u)) ∧ Below w.heap.size w w' := by
  have hz : (foldersK u).size = u.size + 3 := by unfold foldersK folderK; simp only [ByteArray.size_append]; show 2 + u.size + 1 + 0 = _; omega
  obtain ⟨F, hF⟩ : ∃ F, L.filter (fun x => beginsB x.1 (foldersK u)) = F := ⟨_, rfl⟩
  obtain ⟨m, hm⟩ : ∃ m, F.length = m := ⟨_, rfl⟩
  have hmn : m ≤ 60 := by rw [← hm, ← hF]; exact Nat.le_trans (List.length_filter_le _ _) hg.1
  have CU : ∀ W, Below w.heap.size w W → Calls Tryz.prog 64 #[.slice a n c, .string (foldersK u)] W fun e w' => ∃ v, e = .returned v ∧ w'.ownsRow W.heap.size 68 2 v m (cellsP F) ∧ Below W.heap.size W w' := fun W hW => by
    have h9 := l01Under a n c (fK L) (fV L) (foldersK u) W (by have := hg.1; omega) (by omega) (fun i hi => by
      have hi2 : i < L.length := by omega
      have := hg.2.1 _ (List.getElem_mem hi2)
      rw [(at_fst hi2).1, (at_fst hi2).2]
      omega) (sp_src (h.below hW) hL)
    rw [under_eq L _ n (by omega), ← hL, List.take_of_length_le (Nat.le_refl _), hF] at h9
    rw [← hm, ← hL]
    exact h9
  have HFM : Hid (F.length = m ∧ ∀ x ∈ F, (foldersK u).size ≤ x.1.size ∧ x.1.size ≤ 30) := ⟨hm, fun x hx => by
    rw [← hF, List.mem_filter] at hx
    have h9 := hg.2.1 _ hx.1
    have h7 := hx.2
    unfold beginsB at h7
    rw [Bool.and_eq_true, decide_eq_true_eq] at h7
    omega⟩
  have HR : Hid (listS L u = F.map (behind u)) := by show _ = _; unfold listS; rw [hF]
  rw [HR.out]
  obtain ⟨K, hK⟩ : ∃ K, foldersK u = K := ⟨_, rfl⟩
  have HK : Hid (foldersK u = K) := hK
  rw [hK] at CU HFM hz
  have CF : ∀ W, Calls Tryz.prog 120 #[.string u, .string ⟨#[]⟩] W fun e w' => e = .returned (.string K) ∧ w' = W := fun W => by
    rw [← hK]
    exact l07FolderS u ⟨#[]⟩ W (by omega) (by decide)
  have A0 : Hid (Below w.heap.size w (w.alloc (.cells #[] 9))) := (Below.refl _ _).alloc (Nat.le_refl _) _
  clear h hg hL hF hm hK hz
  go_enter Tryz.func123, Tryz.ntmps123
  go_wp2_with fail
  have O0 : Hid ((w.alloc (.cells #[] 9)).ownsRow w.heap.size 9 1 (.slice (some ⟨w.heap.size, 0, none⟩) 0 0) ([] : List ByteArray).length (cellsS [])) := own_empty (by simp) (by simp)
  refine (CF _).mono ?_
  rintro e w1 ⟨rfl, hw1⟩
  obtain rfl := hw1
  go_wp2_with fail
  refine (CU _ A0.out).mono ?_
  rintro e w2 ⟨v2, rfl, own2, hb2⟩
  obtain ⟨ab, cb, rfl, sr2, _⟩ := own_src own2
  have B2 : Hid (Below w.heap.size w w2) := A0.out.trans (hb2.mono A0.out.size)
  have O2 : Hid (w2.ownsRow w.heap.size 9 1 (.slice (some ⟨w.heap.size, 0, none⟩) 0 0) ([] : List ByteArray).length (cellsS [])) := own_below O0.out hb2
  have HS2 : Hid (w2.ownsRow w.heap.size 68 2 (.slice ab m cb) m (cellsP F)) := own_mono own2 A0.out.size
  clear own2 sr2 hb2 O0 A0 CU CF
  go_wp2_with fail
  go_loopw [5, 8] (fun lv iv wr => ∃ (k : Nat) (v : Value), k ≤ m ∧ iv = .int .i64 (k : Int) ∧ v = lv ∧ Hid (wr.ownsRow w.heap.size 9 1 v ((F.take k).map (behind u)).length (cellsS ((F.take k).map (behind u)))) ∧ Hid (wr.ownsRow w.heap.size 68 2 (.slice ab m cb) m (cellsP F)) ∧ Hid (Below w.heap.size w wr)) (fun _ i _ => m - (RowKit.intOf i).toNat)
  case atStart => exact ⟨0, _, by omega, rfl, rfl, O2.out, HS2.out, B2.out⟩
  case round =>
    obtain ⟨k, v, hk, rfl, rfl, hown, hsr, hbr⟩ := hrel
    by_cases hlt : k < m
    · have hlti : (k : Int) < (m : Int) := by omega
      have hkF : k < F.length := by rw [HFM.out.1]; exact hlt
      obtain ⟨a9, c9, e9, s9, _⟩ := own_src hsr.out
      cases e9
      obtain ⟨b, o, pk, pv, rfl, hc0, hc1, hy⟩ := srcP s9 hkF
      clear s9
      have hmem : (pk, pv) ∈ F := by rw [← hy.out]; exact mem_getD F p0 k hkF
      have hsz := HFM.out.2 _ hmem
      have hs1 : K.size ≤ pk.size := hsz.1
      have hsi : (K.size : Int) ≤ (pk.size : Int) := by omega
      have hs0 : (0 : Int) ≤ (K.size : Int) := by omega
      have HT : Hid ((F.take (k + 1)).map (behind u) = (F.take k).map (behind u) ++ [pk.extract K.size pk.size]) := by
        show _ = _
        have h9 : F[k] = (pk, pv) := by
          rw [← hy.out, List.getD_eq_getElem?_getD, List.getElem?_eq_getElem hkF]
          rfl
        rw [List.take_add_one, List.getElem?_eq_getElem hkF, h9, List.map_append]
        unfold behind
        rw [HK.out]
        rfl
      have hlen : ((F.take k).map (behind u)).length = k := by rw [List.length_map, List.length_take]; omega
      have hcut : ∀ W : World, (Instr.slice 9 (.string pk) (some (.int .i64 (K.size : Int))) none none).run Tryz.prog W = .ok (.string (pk.extract K.size pk.size)) W := fun W => by
        have := run_slice_string_l (P := Tryz.prog) (w := W) (t := 9) (s := pk) Tryz.underlying9 .i64 (K.size : Int) hs0 hsi
        exact this
      obtain ⟨tx, htx⟩ : ∃ t, pk.extract K.size pk.size = t := ⟨_, rfl⟩
      rw [htx] at HT
      simp only [htx] at hcut
      obtain ⟨R, hR⟩ : ∃ R, (F.take k).map (behind u) = R := ⟨_, rfl⟩
      rw [hR] at HT hown hlen
      clear hmem hsz htx hR hy
      go_wp2_with (at_builtin; refine wpList_append_src _ rfl _ _ 47 rfl w.heap.size 9 (.string ⟨#[]⟩) 1 16 Tryz.underlying47 infoS rfl (by decide) (by decide) _ R.length (cellsS R) rfl (hown.out.alloc _) (some ⟨wr.heap.size, 0, none⟩) 1 1 (cellsS [tx]) rfl rfl (src_oneC rfl) (cellsS_one _) (by omega) (le_alloc hbr.out.size _) ?_)
      intro v1 w1 hown1 hgrow1
      have HO1 : Hid (w1.ownsRow w.heap.size 9 1 v1 ((F.take (k + 1)).map (behind u)).length (cellsS ((F.take (k + 1)).map (behind u)))) := by
        show w1.ownsRow _ _ _ _ _ _
        rw [HT.out, cellsS_append, List.length_append, hlen]
        exact hown1
      have HB1 : Hid (Below w.heap.size w w1) := (hbr.out.alloc hbr.out.size _).grown hgrow1 (le_alloc hbr.out.size _) (fun g e => (hown.out.lt g e).1)
      have HS1 : Hid (w1.ownsRow w.heap.size 68 2 (.slice (some ⟨b, o, none⟩) m cb) m (cellsP F)) := own_grown (w := wr.alloc (.cells #[.string tx] 9)) (hsr.out.alloc _) hgrow1 (fun g h9 h7 => own_ne hsr.out hown.out (by decide) g h9 h7)
      clear hown1 hgrow1
      go_wp2_with fail
      exact ⟨⟨k + 1, _, by omega, by go_num, rfl, HO1.out, HS1.out, HB1.out⟩, by simp [RowKit.intOf]; omega⟩
    · obtain rfl : k = m := by omega
      have hlti : ¬ (k : Int) < (k : Int) := by omega
      have HO : Hid (wr.ownsRow w.heap.size 9 1 v F.length (cellsS (F.map (behind u)))) := by
        have h9 := hown.out
        rw [List.take_of_length_le (by rw [HFM.out.1]; exact Nat.le_refl _), List.length_map] at h9
        exact h9
      clear hown
      go_wp2_with fail
      go_ret
      exact ⟨v, rfl, HO.out, hbr.out⟩
end Go.Proofs.YthgbclipknfmjaaGreatDoor
