
/-
  Contracts of the functions that find the place of a key among pairs, and of both PairGet. By an AI agent.
-/
import Derived.Test.YtmbndpgoihdpnaaGreatDoorPairsOKi
namespace Go.Proofs.YtmbndpgoihdpnaaGreatDoor
open Go.ChangeShapes Go.WideShapes Go.ChangeAt Go.RowKit Go.Deep
set_option linter.unusedVariables false

/-- p is the first place whose key is not less than key. -/
def IsPlace (f : Nat → ByteArray) (n : Nat) (key : ByteArray) (p : Nat) : Prop :=
  p ≤ n ∧ (∀ j, j < p → Op.bytesLess (f j).toList key.toList = true) ∧ (p < n → Op.bytesLess (f p).toList key.toList = false)
theorem place_exists (f : Nat → ByteArray) (key : ByteArray) (n : Nat) : ∃ p, IsPlace f n key p := by
  induction n with
  | zero => exact ⟨0, Nat.le_refl _, fun j hj => absurd hj (by omega), fun h => absurd h (by omega)⟩
  | succ n ih =>
    obtain ⟨p, h1, h2, h3⟩ := ih
    by_cases e : p < n
    · exact ⟨p, by omega, h2, fun _ => h3 e⟩
    · have hp : p = n := by omega
      subst hp
      cases hl : Op.bytesLess (f p).toList key.toList with
      | false => exact ⟨p, by omega, h2, fun _ => hl⟩
      | true => exact ⟨p + 1, by omega, fun j hj => by
          by_cases e : j = p
          · rw [e]; exact hl
          · exact h2 j (by omega), fun h => absurd h (by omega)⟩
def hitB (f : Nat → ByteArray) (n : Nat) (key : ByteArray) (p : Nat) : Bool := decide (p < n) && ((f p).toList == key.toList)
def gotV (f g : Nat → ByteArray) (n : Nat) (key : ByteArray) (p : Nat) : ByteArray := if hitB f n key p = true then g p else ⟨#[]⟩
theorem ret_two {a b : ByteArray} {k l : Bool} (h1 : a = b) (h2 : k = l) : Ending.returned (.tuple #[.string a, .bool k]) = .returned (.tuple #[.string b, .bool l]) := by rw [h1, h2]
theorem ret_two' {a b : ByteArray} {k l : Int} (h1 : a = b) (h2 : k = l) : Ending.returned (.tuple #[.string a, .int .i64 k]) = .returned (.tuple #[.string b, .int .i64 l]) := by rw [h1, h2]
def askC (f g : Nat → ByteArray) (n : Nat) (key : ByteArray) : Int := if 4096 < n ∨ 65536 < key.size then 2 else if pairsB f g n = false then 1 else if keyB key = false then 4 else 0
theorem ret_int {k : IntKind} {a b : Int} (h : a = b) : Ending.returned (.int k a) = .returned (.int k b) := by rw [h]

set_option maxHeartbeats 400000 in
theorem l01At (a : Option Addr) (n c : Nat) (f g : Nat → ByteArray) (key : ByteArray) (p : Nat) (w : World) (hn : n ≤ 1048576) (hp : IsPlace f n key p) (h : Sp w a n f g) :
    Calls Tryz.prog 119 #[.slice a n c, .string key] w fun e w' => e = .returned (.int .i64 p) ∧ w = w' := by
  have HP : Hid (IsPlace f n key p) := hp
  have hpn := hp.1
  clear hp
  go_enter Tryz.func119, Tryz.ntmps119
  go_wp2_with fail
  go_loop [5] (fun i => ∃ k : Nat, k ≤ p ∧ i = .int .i64 k) (fun i => p - (intOf i).toNat)
  case atStart => exact ⟨0, by omega, rfl⟩
  case round =>
    obtain ⟨k, hk, rfl⟩ := hrel
    by_cases hlt : k < p
    · rcases h with h1 | ⟨b, off, rfl, hc⟩
      · omega
      obtain ⟨hc1, hc2⟩ := hc k (by omega)
      have hl := HP.out.2.1 k hlt
      clear hc hc2
      go_wp2_with fail
      go_round
      case rel => exact ⟨k + 1, by omega, by go_num⟩
      case measure => simp [intOf]; omega
    · have hkp : Hid (k = p) := by show k = p; omega
      by_cases hkn : k < n
      · rcases h with h1 | ⟨b, off, rfl, hc⟩
        · omega
        obtain ⟨hc1, hc2⟩ := hc k (by omega)
        have hl : Op.bytesLess (f k).toList key.toList = false := by rw [hkp.out]; exact HP.out.2.2 (by rw [← hkp.out]; exact hkn)
        clear hc hc2
        go_wp2_with fail
        go_ret
        exact ⟨ret_int (by rw [hkp.out]), rfl⟩
      · clear h
        go_wp2_with fail
        go_ret
        exact ⟨ret_int (by rw [hkp.out]), rfl⟩

set_option maxHeartbeats 400000 in
theorem l01Get (a : Option Addr) (n c : Nat) (f g : Nat → ByteArray) (key : ByteArray) (p : Nat) (w : World) (hn : n ≤ 1048576) (hp : IsPlace f n key p) (h : Sp w a n f g) :
    Calls Tryz.prog 99 #[.slice a n c, .string key] w fun e w' => e = .returned (.tuple #[.string (gotV f g n key p), .bool (hitB f n key p)]) ∧ w = w' := by
  have HP : Hid (IsPlace f n key p) := hp
  have HH : Hid (Sp w a n f g) := h
  have hpn := hp.1
  clear hp
  by_cases hlt : p < n
  · rcases h with h1 | ⟨b, off, rfl, hc⟩
    · omega
    obtain ⟨hc1, hc2⟩ := hc p hlt
    clear hc
    have hi : (p : Int) < (n : Int) := by omega
    by_cases hq : ((f p).toList == key.toList) = true
    · have E : Hid (hitB f n key p = true) := by show hitB f n key p = true; unfold hitB; rw [hq, decide_eq_true hlt]; rfl
      go_enter Tryz.func99, Tryz.ntmps99
      go_wp2_with (go_at_call 119; refine (l01At _ n c f g key p _ hn HP.out HH.out).mono ?_; rintro e w' ⟨rfl, rfl⟩)
      go_ret2
      exact ⟨ret_two (by unfold gotV; rw [E.out]; rfl) E.out.symm, rfl⟩
    · have hq' : ((f p).toList == key.toList) = false := by simpa using hq
      have E : Hid (hitB f n key p = false) := by show hitB f n key p = false; unfold hitB; rw [hq', decide_eq_true hlt]; rfl
      clear hq
      go_enter Tryz.func99, Tryz.ntmps99
      go_wp2_with (go_at_call 119; refine (l01At _ n c f g key p _ hn HP.out HH.out).mono ?_; rintro e w' ⟨rfl, rfl⟩)
      go_ret2
      exact ⟨ret_two (by unfold gotV; rw [E.out]; rfl) E.out.symm, rfl⟩
  · have E : Hid (hitB f n key p = false) := by show hitB f n key p = false; unfold hitB; rw [decide_eq_false hlt]; rfl
    clear h
    go_enter Tryz.func99, Tryz.ntmps99
    go_wp2_with (go_at_call 119; refine (l01At _ n c f g key p _ hn HP.out HH.out).mono ?_; rintro e w' ⟨rfl, rfl⟩)
    go_ret2
    exact ⟨ret_two (by unfold gotV; rw [E.out]; rfl) E.out.symm, rfl⟩

/-- What both PairGet answer. -/
def getV (f g : Nat → ByteArray) (n : Nat) (key : ByteArray) (p : Nat) : ByteArray := if askC f g n key = 0 then gotV f g n key p else ⟨#[]⟩
def getC (f g : Nat → ByteArray) (n : Nat) (key : ByteArray) (p : Nat) : Int := if askC f g n key = 0 then (if hitB f n key p = true then 0 else 5) else askC f g n key
end Go.Proofs.YtmbndpgoihdpnaaGreatDoor
