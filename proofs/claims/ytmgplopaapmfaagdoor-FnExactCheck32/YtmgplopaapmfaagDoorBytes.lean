/-
  Contracts of the helpers on slices of bytes: a copy in new memory, and the comparison of two slices. By an AI agent.
-/
import Derived.Test.YtmgplopaapmfaagDoorMem
import Derived.Deep.QuietTactic
import Derived.BigQuiet
namespace Go.Proofs.YtmgplopaapmfaagDoor
open Go.ChangeShapes Go.WideShapes Go.ChangeAt Go.RowKit Go.Deep
set_option linter.unusedVariables false

theorem infoByte : (Tryd.prog.info? 5).map (fun i => (i.zero, i.size, i.bytes)) = some (some (.int .u8 0), 1, 1) := by kernel_rfl

abbrev BV (z : Nat → Nat) : Nat → Value := fun i => .int .u8 ((z i : Nat) : Int)

set_option maxHeartbeats 400000 in
theorem toByteS (a : Option Addr) (n c : Nat) (z : Nat → Nat) (w : World) (hn : n ≤ 1048576) (h : Sl w a n (BV z)) :
    Calls Tryd.prog 11 #[.slice a n c] w fun e w' => e = .returned (.slice (some ⟨w.heap.size, 0, none⟩) n n) ∧ Below w.heap.size w w' ∧ Own w' w.heap.size n (BV z) := by
  have hmk := run_make_row' (P := Tryd.prog) 26 5 (.int .u8 0) 1 Tryd.underlying26 infoByte rfl .i64 .i64 n (by omega) (by omega)
  go_enter Tryd.func11, Tryd.ntmps11
  go_wp2_with fail
  clear hmk
  go_loopw [4] (fun i wr => ∃ k : Nat, k ≤ n ∧ i = .int .i64 k ∧ Hid (Below w.heap.size w wr) ∧ Hid (Own wr w.heap.size n (fun i => if i < k then .int .u8 ((z i : Nat) : Int) else .int .u8 0))) (fun i _ => n - (intOf i).toNat)
  case atStart => exact ⟨0, by omega, rfl, (Below.refl _ _).alloc (Nat.le_refl _) _, (own_made w (.int .u8 0) n 5).congr (fun i _ => by simp)⟩
  case round =>
    obtain ⟨k, hk, rfl, hb, ho⟩ := hrel
    by_cases hlt : k < n
    · have h1 := h.below hb.out
      rcases h1 with h1 | ⟨b, off, rfl, hc⟩
      · omega
      have hcs := hc k hlt
      obtain ⟨hd, hf⟩ := ho.out k hlt
      simp only [Nat.lt_irrefl, if_false] at hd
      clear h hc
      go_wp2_with fail
      exact ⟨⟨k + 1, by omega, by go_num, hb.out.setCell (Nat.le_refl _) _, (ho.out.set k hlt _).congr fun i _ => fill_step (BV z) _ k i⟩, by simp [intOf]; omega⟩
    · go_wp2_with fail
      go_ret
      exact ⟨rfl, hb.out, ho.out.congr fun i hi => by rw [if_pos (by omega)]⟩

set_option maxHeartbeats 400000 in
theorem eqByteS (a b : Option Addr) (n c d : Nat) (z : Nat → Nat) (w : World) (hn : n ≤ 9000000000000000000) (ha : Sl w a n (BV z)) (hb : Sl w b n (BV z)) :
    Calls Tryd.prog 13 #[.slice a n c, .slice b n d] w fun e w' => e = .returned (.bool true) ∧ Below w.heap.size w w' := by
  have hne : ((n : Int) != (n : Int)) = false := by simp
  go_enter Tryd.func13, Tryd.ntmps13
  go_wp2_with fail
  go_loopw [5] (fun i wr => ∃ k : Nat, k ≤ n ∧ i = .int .i64 k ∧ Hid (Below w.heap.size w wr)) (fun i _ => n - (intOf i).toNat)
  case atStart => exact ⟨0, by omega, rfl, Below.refl _ _⟩
  case round =>
    obtain ⟨k, hk, rfl, hB⟩ := hrel
    by_cases hlt : k < n
    · have h1 := ha.below hB.out
      have h2 := hb.below hB.out
      rcases h1 with h1 | ⟨b1, off1, rfl, hc1⟩
      · omega
      rcases h2 with h2 | ⟨b2, off2, rfl, hc2⟩
      · omega
      have hcs1 := hc1 k hlt
      have hcs2 := hc2 k hlt
      clear ha hb hc1 hc2
      have hk0 : (0 : Int) ≤ (k : Int) := by omega
      have hki : (k : Int) < (n : Int) := by omega
      go_wp2_with fail
      go_quiet (fail)
      go_wp2_with fail
      exact ⟨⟨k + 1, by omega, by go_num, below_drewN hB.out _⟩, by simp [intOf]; omega⟩
    · go_wp2_with fail
      go_ret
      exact ⟨rfl, hB.out⟩
end Go.Proofs.YtmgplopaapmfaagDoor
