
/-
  Mail stores, of the specification: the next validity, a folder's numbers. By an AI agent.
-/
import Derived.Test.YthgbclipknfmjaaGreatDoorGetp
namespace Go.Proofs.YthgbclipknfmjaaGreatDoor
open Go.ChangeShapes Go.WideShapes Go.ChangeAt Go.RowKit Go.Deep Go.Lib
set_option linter.unusedVariables false
set_option maxRecDepth 100000

abbrev vK : ByteArray := ⟨#[118]⟩
abbrev inboxT : ByteArray := ⟨#[105, 110, 98, 111, 120]⟩
abbrev userK (u : ByteArray) : ByteArray := ⟨#[117, 47]⟩ ++ u
abbrev folderK (u f : ByteArray) : ByteArray := ((⟨#[102, 47]⟩ ++ u) ++ ⟨#[47]⟩) ++ f
def nextM (L : List PM) : Int := ((getM L vK).bind fun v => numB v.data.toList).getD 0
def metaN : Option Int → Option Int → Option (Int × Int)
  | some x, some y => if 1 ≤ x ∧ x ≤ 9999 ∧ 1 ≤ y ∧ y ≤ 999 then some (x, y) else none
  | _, _ => none
def metaL : List (List UInt8) → Option (Int × Int)
  | [a, b] => metaN (numB a) (numB b)
  | _ => none
def metaV (v : ByteArray) : Option (Int × Int) := metaL (splitL 32 v.data.toList)
def metaM (L : List PM) (u f : ByteArray) : Option (Int × Int) := (getM L (folderK u f)).bind metaV

theorem l07UserS (u : ByteArray) (w : World) (hu : u.size ≤ 1048576) : Calls Tryz.prog 106 #[.string u] w fun e w' => e = .returned (.string (userK u)) ∧ w' = w := by
  go_enter Tryz.func106, Tryz.ntmps106
  go_wp2_with fail
  go_ret
  exact ⟨rfl, rfl⟩
theorem l07FolderS (u f : ByteArray) (w : World) (hu : u.size ≤ 1048576) (hf : f.size ≤ 1048576) : Calls Tryz.prog 120 #[.string u, .string f] w fun e w' => e = .returned (.string (folderK u f)) ∧ w' = w := by
  go_enter Tryz.func120, Tryz.ntmps120
  go_wp2_with fail
  go_ret
  exact ⟨rfl, rfl⟩
set_option maxHeartbeats 1000000 in
theorem l07NextS (a : Option Addr) (n c : Nat) (L : List PM) (w : World) (hL : L.length = n) (hg : GoodL L) (h : Src w a (cellsP L)) :
    Calls Tryz.prog 63 #[.slice a n c] w fun e w' => e = .returned (.int .i64 (nextM L)) ∧ w' = w := by
  have CG := l01GetM a n c L vK w hL hg h
  have SZ := getM_size hg vK
  obtain ⟨R, hR⟩ : ∃ R, nextM L = R := ⟨_, rfl⟩
  have HR : Hid (nextM L = R) := hR
  rw [hR]
  clear hR h hg hL
  cases hm : getM L vK with
  | none =>
    rw [hm] at CG
    have H0 : Hid (R = 0) := by show _ = _; rw [← HR.out]; unfold nextM; rw [hm]; rfl
    have CN := l00NumberS e0 w (by unfold maxLen; decide)
    clear HR hm SZ
    go_enter Tryz.func63, Tryz.ntmps63
    go_wp2_with fail
    refine CG.mono ?_
    rintro e w1 ⟨rfl, rfl⟩
    go_wp2_with fail
    refine CN.mono ?_
    rintro e w2 ⟨rfl, rfl⟩
    go_wp2_with fail
    go_ret
    exact ⟨by rw [H0.out]; rfl, rfl⟩
  | some v =>
    rw [hm] at CG SZ
    have SZ2 : v.size ≤ 90 := SZ
    have CN := l00NumberS v w (by unfold maxLen; omega)
    have H0 : Hid (R = (numB v.data.toList).getD 0) := by show _ = _; rw [← HR.out]; unfold nextM; rw [hm]; rfl
    clear HR hm SZ
    cases hn : numB v.data.toList with
    | none =>
      rw [hn] at CN
      have H1 : Hid (R = 0) := by show _ = _; rw [H0.out, hn]; rfl
      clear hn H0
      go_enter Tryz.func63, Tryz.ntmps63
      go_wp2_with fail
      refine CG.mono ?_
      rintro e w1 ⟨rfl, rfl⟩
      go_wp2_with fail
      refine CN.mono ?_
      rintro e w2 ⟨rfl, rfl⟩
      go_wp2_with fail
      go_ret
      exact ⟨by rw [H1.out]; rfl, rfl⟩
    | some z =>
      rw [hn] at CN
      have H1 : Hid (R = z) := by show _ = _; rw [H0.out, hn]; rfl
      clear hn H0
      go_enter Tryz.func63, Tryz.ntmps63
      go_wp2_with fail
      refine CG.mono ?_
      rintro e w1 ⟨rfl, rfl⟩
      go_wp2_with fail
      refine CN.mono ?_
      rintro e w2 ⟨rfl, rfl⟩
      go_wp2_with fail
      go_ret
      exact ⟨by rw [H1.out]; rfl, rfl⟩
end Go.Proofs.YthgbclipknfmjaaGreatDoor
