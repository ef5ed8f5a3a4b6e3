
/-
  Both PairPut, and PairDrop, of a good list that may have room behind it. By an AI agent.
-/
import Derived.Test.YtmbndpgoihdpnaaGreatDoorPutn
namespace Go.Proofs.YtmbndpgoihdpnaaGreatDoor
open Go.ChangeShapes Go.WideShapes Go.ChangeAt Go.RowKit Go.Deep
set_option linter.unusedVariables false
set_option maxRecDepth 100000

theorem fault_none {f g : Nat → ByteArray} {n : Nat} {key val : ByteArray} (h : askC f g n key = 0) (hv : val.size ≤ 90) : faultC f g n key val = 0 := by
  unfold askC at h
  unfold faultC
  split at h
  · cases h
  · rw [if_neg (by omega)]
    split at h
    · cases h
    · rename_i h2
      rw [if_neg h2]
      split at h
      · cases h
      · rename_i h3
        rw [if_neg]
        rintro (h4 | h4)
        · exact h3 h4
        · omega
theorem OwnsP.someP {w : World} {base : Nat} {v : Value} {L : List (ByteArray × ByteArray)} (h : OwnsP w base v L) (hn : 0 < L.length) : ∃ b c, v = .slice (some ⟨b, 0, none⟩) L.length c ∧ L.length ≤ c ∧ c ≤ maxLen ∧ base ≤ b ∧ b < w.heap.size ∧ Sp w (some ⟨b, 0, none⟩) L.length (fstL L) (sndL L) := by
  obtain ⟨a, c, rfl, hs, hb⟩ := h.open
  obtain ⟨hl, ⟨hv, h0⟩ | ⟨g, cap, cur, hv, hb2, hg, hc1, hc2, hsz, ht⟩⟩ := h
  · omega
  · cases hv
    exact ⟨g, c, rfl, hc1, hc2, hb2, (hb _ rfl).2, hs⟩
theorem l01PutC (b o n c : Nat) (f g : Nat → ByteArray) (key val : ByteArray) (p : Nat) (w : World) (hn : n ≤ 4096) (hc : n ≤ c) (hc9 : c ≤ maxLen) (hp : IsPlace f n key p) (h : Sp w (some ⟨b, o, none⟩) n f g) :
    Calls Tryz.prog 88 #[.slice (some ⟨b, o, none⟩) n c, .string key, .string val] w fun e w' => ∃ v, e = .returned v ∧ OwnsP w' w.heap.size v (putL f g n key val p) ∧ Below w.heap.size w w' :=
  l01PutA _ n c f g key val p w hn hc hp h
theorem put_open {f g : Nat → ByteArray} {n : Nat} {key val : ByteArray} {p : Nat} (h60 : n < 60) (hv : val.size ≤ 90) (h0 : askC f g n key = 0) : putC f g n key val p = 0 ∧ putR f g n key val p = putL f g n key val p := by
  unfold putC putR
  rw [if_pos (fault_none h0 hv), if_pos (fault_none h0 hv), if_neg (by omega), if_neg (by omega)]
  exact ⟨rfl, rfl⟩
end Go.Proofs.YtmbndpgoihdpnaaGreatDoor
