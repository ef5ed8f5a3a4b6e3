
/-
  What put leaves of pairs, and with which code. By an AI agent.
-/
import Derived.Test.YtmbndpgoihdpnaaGreatDoorPut
import Derived.Test.YtmbndpgoihdpnaaGreatDoorAsk
import Derived.Test.YtmbndpgoihdpnaaGreatDoorRepl
namespace Go.Proofs.YtmbndpgoihdpnaaGreatDoor
open Go.ChangeShapes Go.WideShapes Go.ChangeAt Go.RowKit Go.Deep
set_option linter.unusedVariables false
set_option maxRecDepth 100000

theorem OwnsP.weaken {w : World} {base base' : Nat} {v : Value} {L : List (ByteArray × ByteArray)} (h : OwnsP w base' v L) (hb : base ≤ base') : OwnsP w base v L := by
  obtain ⟨hl, h0 | ⟨gg, cap, cur, rfl, hb0, hg, hc1, hc2, hs, ht⟩⟩ := h
  · exact ⟨hl, .inl h0⟩
  · exact ⟨hl, .inr ⟨gg, cap, cur, rfl, Nat.le_trans hb hb0, hg, hc1, hc2, hs, ht⟩⟩
theorem putL_length (f g : Nat → ByteArray) (n : Nat) (key val : ByteArray) (p : Nat) (hp : p ≤ n) : (putL f g n key val p).length = if hitB f n key p = true then n else n + 1 := by
  unfold putL
  simp only [List.length_append, List.length_take, List.length_drop, listP_length, List.length_cons, List.length_nil]
  by_cases h : hitB f n key p = true
  · have hlt : p < n := by
      unfold hitB at h
      simp at h
      exact h.1
    rw [if_pos h, if_pos h]; omega
  · rw [if_neg h, if_neg h]; omega
def putC (f g : Nat → ByteArray) (n : Nat) (key val : ByteArray) (p : Nat) : Int := if faultC f g n key val = 0 then (if hitB f n key p = false ∧ n = 60 then 7 else 0) else faultC f g n key val
def putR (f g : Nat → ByteArray) (n : Nat) (key val : ByteArray) (p : Nat) : List (ByteArray × ByteArray) := if faultC f g n key val = 0 then (if hitB f n key p = false ∧ n = 60 then listP f g n else putL f g n key val p) else []
theorem ret_vi' {v : Value} {k l : Int} (h2 : k = l) : Ending.returned (.tuple #[v, .int .i64 k]) = .returned (.tuple #[v, .int .i64 l]) := by rw [h2]
theorem fault_of_ask (f g : Nat → ByteArray) (n : Nat) (key val : ByteArray) (h : ¬ (4096 < n ∨ 65536 < key.size)) (hv : ¬ 65536 < val.size) :
    faultC f g n key val = if askC f g n key = 0 then (if 90 < val.size then 4 else 0) else askC f g n key := by
  unfold faultC askC
  rw [if_neg (by omega), if_neg h]
  by_cases h1 : pairsB f g n = false
  · simp [h1]
  · rw [if_neg h1, if_neg h1]
    by_cases h2 : keyB key = false
    · simp [h2]
    · by_cases h3 : 90 < val.size
      · simp [h2, h3]
      · simp [h2, h3]
theorem pairs_le (f g : Nat → ByteArray) (n : Nat) (key val : ByteArray) (h : faultC f g n key val = 0) : n ≤ 60 := by
  unfold faultC at h
  split at h
  · cases h
  · split at h
    · cases h
    · rename_i hp
      unfold pairsB at hp
      simp at hp
      exact hp.1

end Go.Proofs.YtmbndpgoihdpnaaGreatDoor
