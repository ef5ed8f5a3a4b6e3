
/-
  What a right backup is: the program's BackupOK. By an AI agent.
-/
import Derived.Test.YtkimjnjpfjeldaaDoorBkp
import Derived.Test.YtkimjnjpfjeldaaDoorForm
import Derived.Test.YtkimjnjpfjeldaaDoorNames
import Derived.Deep.RegionHeld3
namespace Go.Proofs.YtkimjnjpfjeldaaDoor
open Go.ChangeShapes Go.WideShapes Go.ChangeAt Go.RowKit Go.Deep
set_option linter.unusedVariables false
set_option maxRecDepth 100000
set_option linter.unusedSimpArgs false

def u32B (n : Int) : Bool := decide (0 ≤ n ∧ n ≤ 4294967295)
def followsB (F T : ByteArray) (C : Int) : Bool := shortB T && (if F.size = 0 then decide (C = 0) else shortB F && u32B C)
def upD (L : List MDf) (i : Nat) : Bool := decide (i = 0) || Op.bytesLess (L.getD (i - 1) df0).1.toList (L.getD i df0).1.toList
def difB (L : List MDf) (i : Nat) : Bool := formB (L.getD i df0) && upD L i
def difsB (L : List MDf) : Bool := (List.range L.length).all (difB L)
def okK (D : BM) : Bool := followsB D.F D.T D.C && u32B D.S && decide (D.D.length ≤ 120) && difsB D.D
theorem difs_bad {L : List MDf} {k : Nat} (hk : k < L.length) (h : difB L k = false) : difsB L = false := by
  unfold difsB
  rw [List.all_eq_false]
  exact ⟨k, List.mem_range.2 hk, by rw [h]; decide⟩
theorem difs_good {L : List MDf} (h : ∀ k, k < L.length → difB L k = true) : difsB L = true := by
  unfold difsB
  rw [List.all_eq_true]
  exact fun k hk => h k (List.mem_range.1 hk)
theorem mem_getDK {α : Type} (L : List α) (d : α) (k : Nat) (h : k < L.length) : L.getD k d ∈ L := by
  rw [List.getD_eq_getElem?_getD, List.getElem?_eq_getElem h]; exact List.getElem_mem _
theorem shortNameK (b : Bool) (s : ByteArray) (w : World) (h : shortB s = b) (hs : s.size ≤ maxLen) : Calls Tryd.prog 36 #[.string s] w fun e w' => e = .returned (.bool b) ∧ w = w' := by
  rw [← h]; exact shortName s w hs
theorem l04NameK (b : Bool) (s : ByteArray) (w : World) (h : shortB s = b) (hs : s.size ≤ maxLen) : Calls Tryd.prog 15 #[.string s] w fun e w' => e = .returned (.bool b) ∧ w' = w := by
  rw [← h]; exact (l04Name s w hs).mono fun e w' ⟨h1, h2⟩ => ⟨h1, h2.symm⟩
theorem numberFits (b : Bool) (r : Int) (w : World) (h : u32B r = b) : Calls Tryd.prog 37 #[.int .i64 r] w fun e w' => e = .returned (.bool b) ∧ w = w' := by
  have HB : Hid (u32B r = b) := h
  clear h
  go_enter Tryd.func37, Tryd.ntmps37
  go_wp2
  all_goals
    go_ret
    exact ⟨ret_bool (by rw [← HB.out, Bool.eq_iff_iff]; simp [u32B]; omega), rfl⟩
set_option maxHeartbeats 2000000 in
theorem follows (F T : ByteArray) (C S : Int) (a : Option Addr) (n c : Nat) (w : World) (hF : F.size ≤ 1048576) (hT : T.size ≤ 1048576) :
    Calls Tryd.prog 21 #[.agg #[.string F, .string T, .int .i64 C, .slice a n c, .int .i64 S]] w fun e w' => e = .returned (.bool (followsB F T C)) ∧ Below w.heap.size w w' := by
  have A0 : Hid (Below w.heap.size w (w.alloc (.cells #[.string F, .string T, .int .i64 C, .slice a n c, .int .i64 S] 26))) := (Below.refl _ _).alloc (Nat.le_refl _) _
  have ST : Hid (T.size ≤ maxLen) := by show _ ≤ maxLen; unfold maxLen; omega
  have SF : Hid (F.size ≤ maxLen) := by show _ ≤ maxLen; unfold maxLen; omega
  cases hs : shortB T with
  | false =>
    have HS : Hid (shortB T = false) := hs
    have R : Hid (followsB F T C = false) := by show _ = false; unfold followsB; rw [hs]; rfl
    rw [R.out]
    clear hs
    go_enter Tryd.func21, Tryd.ntmps21
    go_wp2_with fail
    refine (shortNameK false T _ HS.out ST.out).mono ?_
    rintro e w1 ⟨rfl, rfl⟩
    go_wp2_with fail
    go_ret
    exact ⟨rfl, A0.out⟩
  | true =>
  have HS : Hid (shortB T = true) := hs
  by_cases hz : F.size = 0
  · have R : Hid (followsB F T C = decide (C = 0)) := by show _ = _; unfold followsB; rw [hs, if_pos hz]; rfl
    rw [R.out]
    obtain rfl := size0 hz
    clear hs hz
    go_enter Tryd.func21, Tryd.ntmps21
    go_wp2_with fail
    refine (shortNameK true T _ HS.out ST.out).mono ?_
    rintro e w1 ⟨rfl, rfl⟩
    go_wp2_with fail
    go_ret
    exact ⟨ret_bool (by rw [Bool.eq_iff_iff]; simp), A0.out⟩
  · have hne0 : ¬ F.toList = [] := fun e => hz (by have h9 : F = ⟨#[]⟩ := toList_injF (by rw [e, ByteArray.toList_eq]); rw [h9]; rfl)
    have hne : F.toList.isEmpty = false := by simpa using hne0
    clear hne0
    cases hf : shortB F with
    | false =>
      have HF : Hid (shortB F = false) := hf
      have R : Hid (followsB F T C = false) := by show _ = false; unfold followsB; rw [hs, if_neg hz, hf]; rfl
      rw [R.out]
      clear hs hz hf
      go_enter Tryd.func21, Tryd.ntmps21
      go_wp2_with fail
      refine (shortNameK true T _ HS.out ST.out).mono ?_
      rintro e w1 ⟨rfl, rfl⟩
      go_wp2_with fail
      refine (shortNameK false F _ HF.out SF.out).mono ?_
      rintro e w1 ⟨rfl, rfl⟩
      go_wp2_with fail
      go_ret
      exact ⟨rfl, A0.out⟩
    | true =>
      have HF : Hid (shortB F = true) := hf
      obtain ⟨b, hb⟩ : ∃ b, u32B C = b := ⟨_, rfl⟩
      have HN : Hid (u32B C = b) := hb
      have R : Hid (followsB F T C = b) := by show _ = _; unfold followsB; rw [hs, if_neg hz, hf, hb]; rfl
      rw [R.out]
      clear hs hz hf hb
      go_enter Tryd.func21, Tryd.ntmps21
      go_wp2_with fail
      refine (shortNameK true T _ HS.out ST.out).mono ?_
      rintro e w1 ⟨rfl, rfl⟩
      go_wp2_with fail
      refine (shortNameK true F _ HF.out SF.out).mono ?_
      rintro e w1 ⟨rfl, rfl⟩
      go_wp2_with fail
      refine (numberFits b C _ HN.out).mono ?_
      rintro e w1 ⟨rfl, rfl⟩
      go_wp2_with fail
      go_ret
      exact ⟨rfl, A0.out⟩

end Go.Proofs.YtkimjnjpfjeldaaDoor
