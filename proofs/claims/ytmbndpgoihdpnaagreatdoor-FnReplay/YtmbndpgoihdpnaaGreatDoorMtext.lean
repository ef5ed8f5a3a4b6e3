
/-
  The text of a mark. By an AI agent.
-/
import Derived.Test.YtmbndpgoihdpnaaGreatDoorRw
import Derived.Deep.RegionWith
import Derived.Deep.QuietTactic
import Derived.BigQuiet
import Derived.WalkLawsBesides
namespace Go.Proofs.YtmbndpgoihdpnaaGreatDoor
open Go.ChangeShapes Go.WideShapes Go.ChangeAt Go.RowKit Go.Deep
set_option linter.unusedVariables false

def d10 (j : Nat) : ByteArray := strOfNums [48 + (j : Int) % 10]
theorem d10_size (j : Nat) : (d10 j).size = 1 := rfl
/-- The digits of k ahead of out. -/
def mtF : Nat → Nat → ByteArray → ByteArray
  | 0, _, out => out
  | fuel + 1, k, out => if k = 0 then out else mtF fuel (k / 10) (d10 k ++ out)
def markT (k : Nat) : ByteArray := (⟨#[109]⟩ : ByteArray) ++ mtF (k + 1) k ⟨#[]⟩
theorem mtF_step (fuel k : Nat) (out : ByteArray) (h : 0 < k) : mtF (fuel + 1) k out = mtF fuel (k / 10) (d10 k ++ out) := by
  show (if k = 0 then out else _) = _
  rw [if_neg (by omega)]
theorem mtF_zero (fuel : Nat) (out : ByteArray) : mtF fuel 0 out = out := by
  cases fuel <;> rfl
theorem conv_digit (wr : World) (j : Nat) : (convert 55 9 (.slice (some ⟨wr.heap.size, 0, none⟩) 1 1)).run Tryz.prog (wr.alloc (.cells #[.int .u8 (48 + (j : Int) % 10)] 5)) = .ok (.string (d10 j)) (wr.alloc (.cells #[.int .u8 (48 + (j : Int) % 10)] 5)) :=
  run_convert_bytes_arg (P := Tryz.prog) _ 55 5 Tryz.underlying55 Tryz.underlying5 wr.heap.size 0 1 1 [48 + (j : Int) % 10] rfl (fun i hi => by
    have hi0 : i = 0 := by omega
    subst hi0
    rw [World.cell?_alloc_at _ _ _ _ rfl]; rfl) 9 Tryz.underlying9

set_option maxHeartbeats 400000 in
theorem markText (k : Nat) (w : World) (h0 : 0 < k) (h1 : k ≤ 100000000) : Calls Tryz.prog 49 #[.int .i64 (k : Int)] w fun e w' => e = .returned (.string (markT k)) ∧ Below w.heap.size w w' := by
  go_enter Tryz.func49, Tryz.ntmps49
  go_wp2_with fail
  go_loopw [0, 3] (fun kk o wr => ∃ (j fu : Nat) (out : ByteArray), kk = .int .i64 (j : Int) ∧ o = .string out ∧ j ≤ k ∧ out.size + j ≤ k ∧ j < fu ∧ Hid (mtF fu j out = mtF (k + 1) k ⟨#[]⟩) ∧ Hid (Below w.heap.size w wr)) (fun kk _ _ => (intOf kk).toNat)
  case atStart => exact ⟨k, k + 1, ⟨#[]⟩, rfl, rfl, by omega, by show 0 + k ≤ k; omega, by omega, rfl, Below.refl _ _⟩
  case round =>
    obtain ⟨j, fu, out, rfl, rfl, hj, hsz, hfu, hm, hb⟩ := hrel
    by_cases hlt : 0 < j
    · have hj0 : (0 : Int) < (j : Int) := by omega
      have hcv := conv_digit wr j
      obtain ⟨fu', rfl⟩ : ∃ fu', fu = fu' + 1 := ⟨fu - 1, by omega⟩
      have hm' : Hid (mtF fu' (j / 10) (d10 j ++ out) = mtF (k + 1) k ⟨#[]⟩) := by
        have h2 := hm.out
        rw [mtF_step _ _ _ hlt] at h2
        exact h2
      have hs2 : (d10 j ++ out).size = 1 + out.size := by rw [ByteArray.size_append, d10_size]
      have HS2 : Hid ((d10 j ++ out).size = 1 + out.size) := hs2
      have hd := d10_size j
      clear hm hs2
      go_wp2_with fail
      refine ⟨⟨j / 10, fu', d10 j ++ out, by go_num, rfl, by omega, by rw [HS2.out]; omega, by omega, hm', (hb.out.alloc hb.out.size _)⟩, by simp [intOf]; omega⟩
    · have hj0 : j = 0 := by omega
      have hfin : Hid (out = mtF (k + 1) k ⟨#[]⟩) := by
        have h2 := hm.out
        rw [hj0, mtF_zero] at h2
        exact h2
      clear hj0 hm
      go_wp2_with fail
      go_ret
      exact ⟨by show Ending.returned (.string ((⟨#[109]⟩ : ByteArray) ++ out)) = _; rw [hfin.out]; rfl, hb.out⟩
end Go.Proofs.YtmbndpgoihdpnaaGreatDoor
