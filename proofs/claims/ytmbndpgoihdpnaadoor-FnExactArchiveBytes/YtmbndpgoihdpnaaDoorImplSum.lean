
/-
  The contract of the program's Check32, whose table of half bytes is a package-level variable. By an AI agent.
-/
import Derived.Test.YtmbndpgoihdpnaaDoorSums
namespace Go.Proofs.YtmbndpgoihdpnaaDoor
open Go.ChangeShapes Go.WideShapes Go.ChangeAt Go.RowKit Go.Deep
set_option linter.unusedVariables false

def HasHalf (w : World) : Prop := ∀ i, i < 16 → w.cell? ⟨3, i, none⟩ = some (.int .u32 ((tb i : Nat) : Int))
theorem HasHalf.below {w w' : World} (h : HasHalf w) (hb : Below w.heap.size w w') : HasHalf w' := fun i hi => by
  have h1 := h i hi
  rw [← h1]
  exact hb.cell (p := ⟨3, i, none⟩) (World.block_lt_of_cell? _ _ h1)

theorem quarter32 (x i : Nat) (hx : x < 4294967296) : bits .xor .u32 ((x : Int) / 16) ((tb i : Nat) : Int) = ((half x i : Nat) : Int) := by
  have := tb_lt i
  have h1 := u32_xor_nat (x / 16) (tb i) (by omega) (by omega)
  rw [← show ((x / 16 : Nat) : Int) = (x : Int) / 16 from by omega] at *
  exact h1
theorem mask32 (s : Nat) (h : s < 4294967296) : bits .and .u32 (s : Int) 15 = ((s % 16 : Nat) : Int) := by
  have h15 := u32_and_nat s 15 h (by omega)
  rw [mask15] at h15
  exact h15

set_option maxHeartbeats 800000 in
theorem implCheck32 (a : Option Addr) (n c : Nat) (z : Nat → Nat) (w : World) (hn : n ≤ 1048576) (hz : ∀ i, z i < 256) (h : Sl w a n (BV z)) (hH : HasHalf w) :
    Calls Tryd.prog 75 #[.slice a n c] w fun e w' => e = .returned (.int .i64 ((crc z n : Nat) : Int)) ∧ w = w' := by
  by_cases hbig : 65536 < n
  · have e : Hid (crc z n = 0) := by show crc z n = 0; unfold crc; rw [if_pos hbig]
    clear h hH
    go_enter Tryd.func75, Tryd.ntmps75
    go_wp2_with fail
    go_ret
    exact ⟨by rw [e.out]; rfl, rfl⟩
  have e : Hid (crc z n = crcTo z n ^^^ 4294967295) := by show crc z n = _; unfold crc; rw [if_neg hbig]
  have HH : Hid (HasHalf w) := hH
  clear hH
  go_enter Tryd.func75, Tryd.ntmps75
  go_wp2_with fail
  go_loop [3, 11] (fun r i => ∃ k x : Nat, k ≤ n ∧ i = .int .i64 k ∧ r = .int .u32 x ∧ Hid (x = crcTo z k)) (fun _ i => n - (intOf i).toNat)
  case atStart => exact ⟨0, 4294967295, by omega, rfl, rfl, rfl⟩
  case round =>
    obtain ⟨k, x, hk, rfl, rfl, hx⟩ := hrel
    by_cases hlt : k < n
    · obtain ⟨c0, hc0⟩ : ∃ c0, c0 = z k := ⟨_, rfl⟩
      have hxl : x < 4294967296 := by rw [hx.out]; exact crcTo_lt z k
      have hcl : c0 < 256 := by rw [hc0]; exact hz k
      obtain ⟨s, e0⟩ : ∃ s, s = x ^^^ c0 := ⟨_, rfl⟩
      obtain ⟨i1, e1⟩ : ∃ i1, i1 = s % 16 := ⟨_, rfl⟩
      obtain ⟨y1, e2⟩ : ∃ y1, y1 = half s i1 := ⟨_, rfl⟩
      obtain ⟨i2, e3⟩ : ∃ i2, i2 = y1 % 16 := ⟨_, rfl⟩
      obtain ⟨y2, e4⟩ : ∃ y2, y2 = half y1 i2 := ⟨_, rfl⟩
      have hi1 : i1 < 16 := by omega
      have hi2 : i2 < 16 := by omega
      have hsl : s < 4294967296 := by rw [e0]; exact Nat.xor_lt_two_pow (n := 32) (by omega) (by omega)
      have hy1 : y1 < 4294967296 := by rw [e2]; exact half_lt _ _ hsl
      have R0 : bits .xor .u32 (x : Int) (c0 : Int) = (s : Int) := by rw [e0]; exact u32_xor_nat x c0 hxl (by omega)
      have R1 : bits .and .u32 (s : Int) 15 = (i1 : Int) := by rw [e1]; exact mask32 s hsl
      have R2 : bits .xor .u32 ((s : Int) / 16) ((tb i1 : Nat) : Int) = (y1 : Int) := by rw [e2]; exact quarter32 s i1 hsl
      have R3 : bits .and .u32 (y1 : Int) 15 = (i2 : Int) := by rw [e3]; exact mask32 y1 hy1
      have R4 : bits .xor .u32 ((y1 : Int) / 16) ((tb i2 : Nat) : Int) = (y2 : Int) := by rw [e4]; exact quarter32 y1 i2 hy1
      have E : Hid (y2 = crcTo z (k + 1)) := by
        show y2 = crcTo z (k + 1)
        have h1 : crcTo z (k + 1) = stepS (crcTo z k) (z k) := rfl
        rw [h1, ← step_eq _ _ (hz k), e4, e3, e2, e1, e0, hc0, hx.out]; rfl
      have q1 := HH.out i1 hi1
      have q2 := HH.out i2 hi2
      rcases h with h1 | ⟨b, off, rfl, hc⟩
      · omega
      have hcs := hc k hlt
      rw [show BV z k = .int .u8 (c0 : Int) from by rw [hc0]] at hcs
      clear hc e0 e1 e2 e3 e4 hc0 hx
      go_wp2_with fail
      exact ⟨⟨k + 1, y2, by omega, by go_num, rfl, E⟩, by simp [intOf]; omega⟩
    · have hkn : k = n := by omega
      have hxl : x < 4294967296 := by rw [hx.out]; exact crcTo_lt z k
      have hfin : Hid (wrap64 (bits .xor .u32 IntKind.u32.max (x : Int)) = ((crc z n : Nat) : Int)) := by
        show wrap64 (bits .xor .u32 IntKind.u32.max (x : Int)) = _
        have h1 := u32_xor_nat 4294967295 x (by omega) hxl
        have h2 : IntKind.u32.max = ((4294967295 : Nat) : Int) := rfl
        rw [h2, h1, e.out, ← hkn, ← hx.out, Nat.xor_comm, xor_all x hxl]
        unfold wrap64; omega
      clear hkn hx e
      go_wp2_with fail
      go_ret
      exact ⟨by show Ending.returned (.int .i64 _) = _; rw [hfin.out], rfl⟩
end Go.Proofs.YtmbndpgoihdpnaaDoor
