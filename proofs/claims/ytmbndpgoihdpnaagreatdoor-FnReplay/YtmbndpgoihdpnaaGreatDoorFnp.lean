
/-
  The walk of the law FnPairs. By an AI agent.
-/
import Derived.Test.YtmbndpgoihdpnaaGreatDoorDraws3
import Derived.Test.YtmbndpgoihdpnaaGreatDoorRa4
namespace Go.Proofs.YtmbndpgoihdpnaaGreatDoor
open Go.ChangeShapes Go.WideShapes Go.ChangeAt Go.RowKit Go.Deep
set_option linter.unusedVariables false
set_option maxRecDepth 100000

set_option maxHeartbeats 1000000 in
theorem samePairs (a b : Option Addr) (n c d : Nat) (f g : Nat → ByteArray) (w : World) (hn : n ≤ 1048576) (ha : Sp w a n f g) (hb : Sp w b n f g) :
    Calls Tryz.prog 33 #[.slice a n c, .slice b n d] w fun e w' => e = .returned (.bool true) ∧ Below w.heap.size w w' := by
  have hne : ((n : Int) != (n : Int)) = false := by simp
  have HA : Hid (Sp w a n f g) := ha
  have HB : Hid (Sp w b n f g) := hb
  clear ha hb
  go_enter Tryz.func33, Tryz.ntmps33
  go_wp2_with fail
  go_loopw [5] (fun i wr => ∃ k : Nat, k ≤ n ∧ i = .int .i64 k ∧ Hid (Below w.heap.size w wr)) (fun i _ => n - (intOf i).toNat)
  case atStart => exact ⟨0, by omega, rfl, Below.refl _ _⟩
  case round =>
    obtain ⟨k, hk, rfl, hB⟩ := hrel
    by_cases hlt : k < n
    · rcases HA.out.below hB.out with h0 | ⟨b1, o1, rfl, hc1⟩
      · omega
      rcases HB.out.below hB.out with h0 | ⟨b2, o2, rfl, hc2⟩
      · omega
      obtain ⟨x, hx⟩ : ∃ x, f k = x := ⟨_, rfl⟩
      obtain ⟨y, hy⟩ : ∃ y, g k = y := ⟨_, rfl⟩
      obtain ⟨p1, p2⟩ := hc1 k hlt
      obtain ⟨p3, p4⟩ := hc2 k hlt
      rw [hx] at p1 p3
      rw [hy] at p2 p4
      clear hx hy hc1 hc2
      have hk0 : (0 : Int) ≤ (k : Int) := by omega
      have hki : (k : Int) < (n : Int) := by omega
      go_wp2_with fail
      go_quiet (fail)
      go_wp2_with fail
      exact ⟨⟨k + 1, by omega, by go_num, Below.drewN' hB.out _⟩, by simp [intOf]; omega⟩
    · go_wp2_with fail
      go_ret
      exact ⟨rfl, hB.out⟩
def newV : ByteArray := ⟨#[110, 101, 119, 32, 118, 97, 108, 117, 101]⟩
end Go.Proofs.YtmbndpgoihdpnaaGreatDoor
