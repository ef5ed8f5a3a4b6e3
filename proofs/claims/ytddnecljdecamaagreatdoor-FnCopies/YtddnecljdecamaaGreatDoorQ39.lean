/-
  Lsf Fdp in one. By an AI agent.
-/
import Derived.Test.YtddnecljdecamaaGreatDoorQ23
import Derived.Test.YtddnecljdecamaaGreatDoorQ37
namespace Go.Proofs.YtddnecljdecamaaGreatDoor
open Go.ChangeShapes Go.WideShapes Go.ChangeAt Go.RowKit Go.Deep Go.Lib
set_option linter.unusedVariables false
set_option linter.unusedSimpArgs false
set_option maxRecDepth 100000

theorem under_eq (L : List PM) (k : ByteArray) : ∀ n, n ≤ L.length → under (fK L) (fV L) k n = (L.take n).filter fun x => beginsB x.1 k := by
  intro n
  induction n with
  | zero => intro _; rfl
  | succ n ih =>
    intro hn
    have h1 := ih (by omega)
    have hlt : n < L.length := by omega
    rw [List.take_add_one, List.getElem?_eq_getElem hlt, List.filter_append]
    cases hb : beginsB (fK L n) k with
    | true =>
      rw [under_hit _ _ _ _ hb, h1, (at_fst hlt).1, (at_fst hlt).2]
      rw [(at_fst hlt).1] at hb
      simp [hb]
    | false =>
      rw [under_miss _ _ _ _ hb, h1]
      rw [(at_fst hlt).1] at hb
      simp [hb]
abbrev foldersK (u : ByteArray) : ByteArray := folderK u ⟨#[]⟩
def behind (u : ByteArray) (x : PM) : ByteArray := x.1.extract (foldersK u).size x.1.size
def listS (L : List PM) (u : ByteArray) : List ByteArray := (L.filter fun x => beginsB x.1 (foldersK u)).map (behind u)
end Go.Proofs.YtddnecljdecamaaGreatDoor
namespace Go.Proofs.YtddnecljdecamaaGreatDoor
open Go.ChangeShapes Go.WideShapes Go.ChangeAt Go.RowKit Go.Deep Go.Lib
set_option linter.unusedVariables false
set_option linter.unusedSimpArgs false
set_option maxRecDepth 100000

/-- A store's desk. -/
structure DeskS (N : List PM) (u : ByteArray) (S : SM) : Prop where
  st : storeB N = true
  tk : takeAll (nextM N) u S0 N = some S
  wd : S.word.toList ≠ []
  fit : FitS (nextM N) u S
  nd : (S.fs.map (·.name)).Nodup
  n1 : 1 ≤ nextM N
/-- What a list is that a desk's operation left. -/
structure LeftS (N Y : List PM) (u : ByteArray) (S S' : SM) : Prop where
  st : storeB Y = true
  up : UpL Y
  pm : (deskP (nextM Y) u S').Perm Y
  fit : FitS (nextM Y) u S'
  nd : (S'.fs.map (·.name)).Nodup
  wd : S'.word.toList ≠ []
  asd : S'.aside = S.aside
theorem LeftS.desk {N Y : List PM} {u : ByteArray} {S S' : SM} (h : LeftS N Y u S S') : ∃ S2, DeskS Y u S2 := by
  have hus := word_slash h.fit.us
  obtain ⟨S2, hS2, _, _⟩ := take_all h.st hus
  have hw : S2.word.toList ≠ [] := fun e => by
    have h1 := (word_iff h.st hus hS2).1.1 e
    rw [desk_user h.up h.pm] at h1
    cases h1
  obtain ⟨_, nx0, hnm, n1, _⟩ := store_facts h.st
  rw [hnm] at n1
  exact ⟨S2, h.st, hS2, hw, store_fits h.st hus hS2 hw, names_of hS2, n1⟩
theorem LeftS.fa {N Y : List PM} {u : ByteArray} {S S' : SM} {g : FM} (hD : DeskS N u S) (h : LeftS N Y u S S') (hg : g ∈ S'.fs) (hr : Rise g.mails) : faM Y u g.name = ((g.name, g.val, g.next, g.mails), 0) :=
  fa_exact hD.st hD.tk h.asd h.st h.fit h.nd h.up h.pm h.wd hg hr
theorem put_len0 {g : FM} : ∀ {fs : List FM}, lookF g.name fs = none → (putF g fs).length = fs.length + 1
  | [], _ => rfl
  | x :: fs, h => by
    unfold lookF at h
    unfold putF
    by_cases e : x.name = g.name
    · rw [if_pos e] at h
      cases h
    · rw [if_neg e] at h ⊢
      show (putF g fs).length + 1 = fs.length + 1 + 1
      rw [put_len0 h]
theorem drop_len0 {f : ByteArray} {g : FM} : ∀ {fs : List FM}, lookF f fs = some g → (dropF f fs).length + 1 = fs.length
  | [], h => by cases h
  | x :: fs, h => by
    unfold lookF at h
    unfold dropF
    by_cases e : x.name = f
    · rw [if_pos e]
      rfl
    · rw [if_neg e] at h ⊢
      show (dropF f fs).length + 1 + 1 = fs.length + 1
      rw [drop_len0 h]
theorem left_of {N Y : List PM} {u : ByteArray} {nx' : Int} {S S' : SM} (hD : DeskS N u S) (hT : StepS (fun _ => True) (nextM N) nx' u S S') (h9 : nx' ≤ 10000) (up : UpL Y) (pm : (deskP nx' u S').Perm Y) (h6 : Y.length ≤ 60) : LeftS N Y u S S' ∧ nextM Y = nx' := by
  have hl := lies_left hD.st hD.tk hT.aside hT.nd hT.fit up pm
  have hn := lies_next hl (by have := hT.n0; have := hD.n1; omega) h9
  have hst := store_left hD.st hD.tk hT.aside hT.nd hT.fit hT.n0 h9 up pm h6
  exact ⟨⟨hst, up, by rw [hn]; exact pm, by rw [hn]; exact hT.fit, hT.nd, by rw [hT.word]; exact hD.wd, hT.aside⟩, hn⟩
end Go.Proofs.YtddnecljdecamaaGreatDoor
