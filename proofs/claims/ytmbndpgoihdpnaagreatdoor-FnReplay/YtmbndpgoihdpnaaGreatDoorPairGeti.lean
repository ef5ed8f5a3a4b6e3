
/-
  Contracts of the program's pairsFault, pairPlace and PairGet. By an AI agent.
-/
import Derived.Test.YtmbndpgoihdpnaaGreatDoorPairGet
namespace Go.Proofs.YtmbndpgoihdpnaaGreatDoor
open Go.ChangeShapes Go.WideShapes Go.ChangeAt Go.RowKit Go.Deep
set_option linter.unusedVariables false

def faultC (f g : Nat → ByteArray) (n : Nat) (key val : ByteArray) : Int := if 4096 < n ∨ 65536 < key.size ∨ 65536 < val.size then 2 else if pairsB f g n = false then 1 else if keyB key = false ∨ 90 < val.size then 4 else 0
theorem fault_ask (f g : Nat → ByteArray) (n : Nat) (key : ByteArray) : faultC f g n key ⟨#[]⟩ = askC f g n key := by
  have hz : (⟨#[]⟩ : ByteArray).size = 0 := rfl
  unfold faultC askC
  rw [hz]
  simp

theorem ret_ib {a b : Int} {k l : Bool} (h1 : a = b) (h2 : k = l) : Ending.returned (.tuple #[.int .i64 a, .bool k]) = .returned (.tuple #[.int .i64 b, .bool l]) := by rw [h1, h2]

set_option maxHeartbeats 400000 in
theorem pairPlace (a : Option Addr) (n c : Nat) (f g : Nat → ByteArray) (key : ByteArray) (p : Nat) (w : World) (hn : n ≤ 1048576) (hp : IsPlace f n key p) (h : Sp w a n f g) :
    Calls Tryz.prog 122 #[.slice a n c, .string key] w fun e w' => e = .returned (.tuple #[.int .i64 p, .bool (hitB f n key p)]) ∧ Below w.heap.size w w' := by
  have HP : Hid (IsPlace f n key p) := hp
  have hpn := hp.1
  clear hp
  go_enter Tryz.func122, Tryz.ntmps122
  go_wp2_with fail
  go_loop [4] (fun i => ∃ k : Nat, k ≤ p ∧ i = .int .i64 k) (fun i => p - (intOf i).toNat)
  case atStart => exact ⟨0, by omega, rfl⟩
  case round =>
    obtain ⟨k, hk, rfl⟩ := hrel
    by_cases hlt : k < p
    · rcases h with h1 | ⟨b, off, rfl, hc⟩
      · omega
      obtain ⟨hc1, hc2⟩ := hc k (by omega)
      have hl := HP.out.2.1 k hlt
      clear hc hc2
      go_wp2_with fail
      go_round
      case rel => exact ⟨k + 1, by omega, by go_num⟩
      case measure => simp [intOf]; omega
    · have hkp : Hid (k = p) := by show k = p; omega
      by_cases hkn : k < n
      · rcases h with h1 | ⟨b, off, rfl, hc⟩
        · omega
        obtain ⟨hc1, hc2⟩ := hc k (by omega)
        have hl : Op.bytesLess (f k).toList key.toList = false := by rw [hkp.out]; exact HP.out.2.2 (by rw [← hkp.out]; exact hkn)
        have hki : (k : Int) < (n : Int) := by omega
        clear hc hc2
        by_cases hq : ((f k).toList == key.toList) = true
        · have E : Hid (hitB f n key k = true) := by show hitB f n key k = true; unfold hitB; rw [hq, decide_eq_true hkn]; rfl
          go_wp2_with fail
          go_quiet (fail)
          go_wp2_with fail
          go_ret2
          exact ⟨ret_ib (by rw [hkp.out]) (by rw [← hkp.out]; exact E.out.symm), below_drewN (Below.refl _ _) _⟩
        · have hq' : ((f k).toList == key.toList) = false := by simpa using hq
          have E : Hid (hitB f n key k = false) := by show hitB f n key k = false; unfold hitB; rw [hq', decide_eq_true hkn]; rfl
          clear hq
          go_wp2_with fail
          go_quiet (fail)
          go_wp2_with fail
          go_ret2
          exact ⟨ret_ib (by rw [hkp.out]) (by rw [← hkp.out]; exact E.out.symm), below_drewN (Below.refl _ _) _⟩
      · have E : Hid (hitB f n key k = false) := by show hitB f n key k = false; unfold hitB; rw [decide_eq_false hkn]; rfl
        have hkd : decide (k < n) = false := by simp; omega
        clear h
        go_wp2_with fail
        go_quiet (fail)
        go_wp2_with fail
        go_ret2
        exact ⟨ret_ib (by rw [hkp.out]) (by rw [← hkp.out]; exact E.out.symm), below_drewN (Below.refl _ _) _⟩

end Go.Proofs.YtmbndpgoihdpnaaGreatDoor
