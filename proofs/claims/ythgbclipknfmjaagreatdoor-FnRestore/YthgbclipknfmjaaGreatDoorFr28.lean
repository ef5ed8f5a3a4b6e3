/-
  Mlp Lsf in one. By an AI agent.
-/
import Derived.Test.YthgbclipknfmjaaGreatDoorFr25
import Derived.Test.YthgbclipknfmjaaGreatDoorFr27
import Derived.Test.YthgbclipknfmjaaGreatDoorFr21
import Derived.Test.YthgbclipknfmjaaGreatDoorFr20
namespace Go.Proofs.YthgbclipknfmjaaGreatDoor
open Go.ChangeShapes Go.WideShapes Go.ChangeAt Go.RowKit Go.Deep Go.Lib
set_option linter.unusedVariables false
set_option linter.unusedSimpArgs false
set_option maxRecDepth 100000

theorem flat_len (u : ByteArray) : ∀ fs : List FM, (flatF u fs).length = fs.length + sumF fs
  | [] => rfl
  | f :: fs => by
    have ih := flat_len u fs
    show (fPairs u f ++ flatF u fs).length = (fs.length + 1) + (f.mails.length + sumF fs)
    rw [List.length_append, ih]
    unfold fPairs
    simp
    omega
theorem put_self {g : FM} : ∀ {fs : List FM}, g ∈ putF g fs
  | [] => List.mem_cons_self
  | x :: fs => by
    unfold putF
    split
    · exact List.mem_cons_self
    · exact List.mem_cons_of_mem _ put_self
/-- What a drawn store tells of a folder. -/
theorem fa_drawn {k : Nat} {L : List PM} {u f : ByteArray} (h : Drawn k L) (hu : u = annT ∨ u = bobT) (hsf : shortB f = true) : (knownR L u f = 16 ∧ faM L u f = (z4, 16)) ∨ ∃ S g, takeAll (nextM L) u S0 L = some S ∧ S.word.toList ≠ [] ∧ lookF f S.fs = some g ∧ g.name = f ∧ knownR L u f = 0 ∧ faM L u f = ((f, g.val, g.next, g.mails), 0) ∧ Rise g.mails ∧ g.next ≤ 1 + (k : Int) ∧ FitS (nextM L) u S ∧ (S.fs.map (·.name)).Nodup := by
  obtain ⟨hsu, S, hS, hw, hF, hnd, n1⟩ := h.desk hu
  have hus := word_slash hsu
  have hfs := word_slash hsf
  have hk : knownR L u f ≠ 15 := fun e => by
    unfold knownR at e
    rw [(h.us u hus).2 hu, if_neg (by decide)] at e
    split at e <;> cases e
  by_cases h0 : knownR L u f = 0
  · right
    obtain ⟨_, g, hl⟩ := known_zero h.st hus hfs hS h0
    obtain ⟨hgm, hgn⟩ := lookF_mem hl
    have hfn : g.next ≤ 1 + (k : Int) := by
      obtain ⟨w, k1, k2⟩ := (meta_iff (store_facts h.st).1.2.2).1 (look_meta h.st hS hl)
      exact h.fn _ k1 u f rfl _ k2
    refine ⟨S, g, hS, hw, hl, hgn, h0, ?_, rise_store h.st hus hS hw hgm, hfn, hF, hnd⟩
    unfold faM
    rw [ask_ok h.st (by simp [hsu, hsf]), if_pos rfl, h0, if_pos rfl, hS]
    show (faG (lookF f S.fs), (0 : Int)) = _
    rw [hl]
    show ((g.name, g.val, g.next, g.mails), (0 : Int)) = _
    rw [hgn]
  · left
    have h16 : knownR L u f = 16 := by
      rcases known_cases L u f with h9 | h9 | h9
      · exact absurd h9 hk
      · exact h9
      · exact absurd h9 h0
    refine ⟨h16, ?_⟩
    unfold faM
    rw [ask_ok h.st (by simp [hsu, hsf]), if_pos rfl, h16, if_neg (by decide)]
abbrev foldersK (u : ByteArray) : ByteArray := folderK u ⟨#[]⟩
def behind (u : ByteArray) (x : PM) : ByteArray := x.1.extract (foldersK u).size x.1.size
def listS (L : List PM) (u : ByteArray) : List ByteArray := (L.filter fun x => beginsB x.1 (foldersK u)).map (behind u)
end Go.Proofs.YthgbclipknfmjaaGreatDoor
