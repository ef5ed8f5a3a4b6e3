/-
  Texts of the store, brought together: ImplSum, Flds, Num4, Seal. By an AI agent.
-/
import Derived.Test.YtnnimocaanofjaaGreatDoorSq14
import Derived.Lib.AppendStr
import Derived.Deep.RegionLawGrows
namespace Go.Proofs.YtnnimocaanofjaaGreatDoor
open Go.ChangeShapes Go.WideShapes Go.ChangeAt Go.RowKit Go.Deep
set_option linter.unusedVariables false
set_option linter.unusedSimpArgs false
set_option maxRecDepth 100000
def HasHalf (w : World) : Prop := ∀ i, i < 16 → w.cell? ⟨1, i, none⟩ = some (.int .u32 ((tb i : Nat) : Int))
theorem HasHalf.below {w w' : World} (h : HasHalf w) (hb : Below w.heap.size w w') : HasHalf w' := fun i hi => by
  have h1 := h i hi
  rw [← h1]
  exact hb.cell (p := ⟨1, i, none⟩) (World.block_lt_of_cell? _ _ h1)
theorem quarter32 (x i : Nat) (hx : x < 4294967296) : bits .xor .u32 ((x : Int) / 16) ((tb i : Nat) : Int) = ((half x i : Nat) : Int) := by
  have := tb_lt i
  have h1 := u32_xor_nat (x / 16) (tb i) (by omega) (by omega)
  rw [← show ((x / 16 : Nat) : Int) = (x : Int) / 16 from by omega] at *
  exact h1
theorem mask32 (s : Nat) (h : s < 4294967296) : bits .and .u32 (s : Int) 15 = ((s % 16 : Nat) : Int) := by
  have h15 := u32_and_nat s 15 h (by omega)
  rw [mask15] at h15
  exact h15
set_option maxHeartbeats 800000 in
theorem implCheck32 (a : Option Addr) (n c : Nat) (z : Nat → Nat) (w : World) (hn : n ≤ 1048576) (hz : ∀ i, z i < 256) (h : Sl w a n (BV z)) (hH : HasHalf w) :
    Calls Tryz.prog 183 #[.slice a n c] w fun e w' => e = .returned (.int .i64 ((crc z n : Nat) : Int)) ∧ w = w' := by
  by_cases hbig : 65536 < n
  · have e : Hid (crc z n = 0) := by show crc z n = 0; unfold crc; rw [if_pos hbig]
    clear h hH
    go_enter Tryz.func183, Tryz.ntmps183
    go_wp2_with fail
    go_ret
    exact ⟨by rw [e.out]; rfl, rfl⟩
  have e : Hid (crc z n = crcTo z n ^^^ 4294967295) := by show crc z n = _; unfold crc; rw [if_neg hbig]
  have HH : Hid (HasHalf w) := hH
  clear hH
  go_enter Tryz.func183, Tryz.ntmps183
  go_wp2_with fail
  go_loop [3, 11] (fun r i => ∃ k x : Nat, k ≤ n ∧ i = .int .i64 k ∧ r = .int .u32 x ∧ Hid (x = crcTo z k)) (fun _ i => n - (intOf i).toNat)
  case atStart => exact ⟨0, 4294967295, by omega, rfl, rfl, rfl⟩
  case round =>
    obtain ⟨k, x, hk, rfl, rfl, hx⟩ := hrel
    by_cases hlt : k < n
    · obtain ⟨c0, hc0⟩ : ∃ c0, c0 = z k := ⟨_, rfl⟩
      have hxl : x < 4294967296 := by rw [hx.out]; exact crcTo_lt z k
      have hcl : c0 < 256 := by rw [hc0]; exact hz k
      obtain ⟨s, e0⟩ : ∃ s, s = x ^^^ c0 := ⟨_, rfl⟩
      obtain ⟨i1, e1⟩ : ∃ i1, i1 = s % 16 := ⟨_, rfl⟩
      obtain ⟨y1, e2⟩ : ∃ y1, y1 = half s i1 := ⟨_, rfl⟩
      obtain ⟨i2, e3⟩ : ∃ i2, i2 = y1 % 16 := ⟨_, rfl⟩
      obtain ⟨y2, e4⟩ : ∃ y2, y2 = half y1 i2 := ⟨_, rfl⟩
      have hi1 : i1 < 16 := by omega
      have hi2 : i2 < 16 := by omega
      have hsl : s < 4294967296 := by rw [e0]; exact Nat.xor_lt_two_pow (n := 32) (by omega) (by omega)
      have hy1 : y1 < 4294967296 := by rw [e2]; exact half_lt _ _ hsl
      have R0 : bits .xor .u32 (x : Int) (c0 : Int) = (s : Int) := by rw [e0]; exact u32_xor_nat x c0 hxl (by omega)
      have R1 : bits .and .u32 (s : Int) 15 = (i1 : Int) := by rw [e1]; exact mask32 s hsl
      have R2 : bits .xor .u32 ((s : Int) / 16) ((tb i1 : Nat) : Int) = (y1 : Int) := by rw [e2]; exact quarter32 s i1 hsl
      have R3 : bits .and .u32 (y1 : Int) 15 = (i2 : Int) := by rw [e3]; exact mask32 y1 hy1
      have R4 : bits .xor .u32 ((y1 : Int) / 16) ((tb i2 : Nat) : Int) = (y2 : Int) := by rw [e4]; exact quarter32 y1 i2 hy1
      have E : Hid (y2 = crcTo z (k + 1)) := by
        show y2 = crcTo z (k + 1)
        have h1 : crcTo z (k + 1) = stepS (crcTo z k) (z k) := rfl
        rw [h1, ← step_eq _ _ (hz k), e4, e3, e2, e1, e0, hc0, hx.out]; rfl
      have q1 := HH.out i1 hi1
      have q2 := HH.out i2 hi2
      rcases h with h1 | ⟨b, off, rfl, hc⟩
      · omega
      have hcs := hc k hlt
      rw [show BV z k = .int .u8 (c0 : Int) from by rw [hc0]] at hcs
      clear hc e0 e1 e2 e3 e4 hc0 hx
      go_wp2_with fail
      exact ⟨⟨k + 1, y2, by omega, by go_num, rfl, E⟩, by simp [intOf]; omega⟩
    · have hkn : k = n := by omega
      have hxl : x < 4294967296 := by rw [hx.out]; exact crcTo_lt z k
      have hfin : Hid (wrap64 (bits .xor .u32 IntKind.u32.max (x : Int)) = ((crc z n : Nat) : Int)) := by
        show wrap64 (bits .xor .u32 IntKind.u32.max (x : Int)) = _
        have h1 := u32_xor_nat 4294967295 x (by omega) hxl
        have h2 : IntKind.u32.max = ((4294967295 : Nat) : Int) := rfl
        rw [h2, h1, e.out, ← hkn, ← hx.out, Nat.xor_comm, xor_all x hxl]
        unfold wrap64; omega
      clear hkn hx e
      go_wp2_with fail
      go_ret
      exact ⟨by show Ending.returned (.int .i64 _) = _; rw [hfin.out], rfl⟩
def bytesOf (s : ByteArray) : List Nat := s.data.toList.map fun b => b.toNat
theorem strCells_bytes (s : ByteArray) : Lib.strCells s = cellsB (bytesOf s) := by simp [Lib.strCells, cellsB, bytesOf]
theorem bytesOf_length (s : ByteArray) : (bytesOf s).length = s.size := by simp [bytesOf]
def numB (x : Nat) : List Nat := [x / 256 % 256, x % 256]
def fieldB (s : ByteArray) : List Nat := numB s.size ++ bytesOf s
def fieldsB (L : List ByteArray) : List Nat := (L.length % 256) :: L.flatMap fieldB
theorem own_empty' {w : World} {B base e s : Nat} (hB : B = w.heap.size) (hb : base ≤ w.heap.size) : (w.alloc (.cells #[] e)).ownsRow base e s (.slice (some ⟨B, 0, none⟩) 0 0) 0 [] := by
  subst hB
  exact World.ownsRow_made w #[] 0 hb (by unfold maxLen; omega) (by simp)
theorem src_oneB {w : World} {x : Nat} {z : Int} {B t : Nat} (hB : B = w.heap.size) (hz : z = (x : Int)) : Src (w.alloc (.cells #[.int .u8 z] t)) (some ⟨B, 0, none⟩) (cellsB [x]) := by
  subst hB hz
  refine .inr ⟨_, 0, rfl, fun j hj => ?_⟩
  have hb := Box.new (w := w) (B := w.heap.size) (vs := #[.int .u8 (x : Int)]) (t := t) rfl
  have hj' : j < 1 := hj
  rw [Nat.zero_add]
  match j, hj' with
  | 0, _ => exact (hb 0 _ rfl).1
set_option maxHeartbeats 1000000 in
theorem l01Number2 (x : Nat) (w : World) (hx : x ≤ 65535) :
    Calls Tryz.prog 81 #[.int .i64 (x : Int), .int .i64 2] w fun e w' => ∃ v, e = .returned v ∧ w'.ownsRow w.heap.size 5 1 v 2 (cellsB (numB x)) ∧ Below w.heap.size w w' := by
  go_enter Tryz.func81, Tryz.ntmps81
  go_wp2_with fail
  go_loopw [5, 6] (fun ov i wr => ∃ (q : Int) (u : Value) (n : Nat), u = ov ∧ i = .int .i64 q ∧ -1 ≤ q ∧ q ≤ 1 ∧ Hid ((n : Int) = 1 - q) ∧ Hid (Below w.heap.size w wr) ∧ Hid (wr.ownsRow w.heap.size 5 1 u n (cellsB ((numB x).take n)))) (fun _ i _ => (intOf i + 1).toNat)
  case atStart => exact ⟨1, _, 0, rfl, rfl, by omega, by omega, by show ((0 : Nat) : Int) = 1 - 1; omega, (Below.refl _ _).alloc (Nat.le_refl _) _, own_empty' rfl (Nat.le_refl _)⟩
  case round =>
    obtain ⟨q, u, n, hu, rfl, hq1, hq2, hn, hb, HW⟩ := hrel
    subst hu
    rcases (by omega : q = -1 ∨ q = 0 ∨ q = 1) with rfl | rfl | rfl
    · have h2 : n = 2 := by have := hn.out; omega
      have HF : Hid (wr.ownsRow w.heap.size 5 1 u 2 (cellsB (numB x))) := by rw [h2] at HW; exact HW
      clear h2 hn HW
      go_wp2_with fail
      go_ret
      exact ⟨_, rfl, HF.out, hb.out⟩
    · have h2 : n = 1 := by have := hn.out; omega
      have HF : Hid (wr.ownsRow w.heap.size 5 1 u 1 (cellsB [x / 256 % 256])) := by rw [h2] at HW; exact HW
      clear h2 hn HW
      have XR : Hid (w.heap.size ≤ wr.heap.size) := hb.out.size
      have hlt3 : Hid (∀ g, Value.ownBlock u = some g → w.heap.size ≤ g ∧ g < wr.heap.size) := fun g e => HF.out.lt g e
      go_wp2_with (at_builtin; refine wpList_append_src _ rfl _ _ 74 rfl w.heap.size 5 (.int .u8 0) 1 1 Tryz.underlying74 infoB rfl (by decide) (by decide) _ 1 (cellsB [x / 256 % 256]) rfl (HF.out.alloc _) (some ⟨wr.heap.size, 0, none⟩) 1 1 (cellsB [x % 256]) rfl rfl (src_oneB rfl (by simp)) (cellsB_one _) (by omega) (le_alloc XR.out _) ?_)
      intro v2 w2 hown2 hgrow2
      have o2 : Hid (w2.ownsRow w.heap.size 5 1 v2 (1 + 1) (cellsB ((numB x).take (1 + 1)))) := hown2
      have B2 : Hid (Below w.heap.size w w2) := (hb.out.alloc hb.out.size _).grown hgrow2 (le_alloc hb.out.size _) (fun g e => (hlt3.out g e).1)
      clear hown2 hgrow2
      go_wp2_with fail
      exact ⟨⟨-1, _, 1 + 1, rfl, by go_num, by omega, by omega, by show (((1 + 1 : Nat)) : Int) = 1 - (-1); omega, B2.out, o2.out⟩, by simp [intOf]⟩
    · have h2 : n = 0 := by have := hn.out; omega
      have HF : Hid (wr.ownsRow w.heap.size 5 1 u 0 (cellsB [])) := by rw [h2] at HW; exact HW
      clear h2 hn HW
      have XR : Hid (w.heap.size ≤ wr.heap.size) := hb.out.size
      have hlt3 : Hid (∀ g, Value.ownBlock u = some g → w.heap.size ≤ g ∧ g < wr.heap.size) := fun g e => HF.out.lt g e
      go_wp2_with (at_builtin; refine wpList_append_src _ rfl _ _ 74 rfl w.heap.size 5 (.int .u8 0) 1 1 Tryz.underlying74 infoB rfl (by decide) (by decide) _ 0 (cellsB []) rfl (HF.out.alloc _) (some ⟨wr.heap.size, 0, none⟩) 1 1 (cellsB [x / 256 % 256]) rfl rfl (src_oneB rfl (by simp; omega)) (cellsB_one _) (by omega) (le_alloc XR.out _) ?_)
      intro v2 w2 hown2 hgrow2
      have o2 : Hid (w2.ownsRow w.heap.size 5 1 v2 (0 + 1) (cellsB ((numB x).take (0 + 1)))) := hown2
      have B2 : Hid (Below w.heap.size w w2) := (hb.out.alloc hb.out.size _).grown hgrow2 (le_alloc hb.out.size _) (fun g e => (hlt3.out g e).1)
      clear hown2 hgrow2
      go_wp2_with fail
      exact ⟨⟨0, _, 0 + 1, rfl, by go_num, by omega, by omega, by show (((0 + 1 : Nat)) : Int) = 1 - (0); omega, B2.out, o2.out⟩, by simp [intOf]⟩
def numQ (x : Nat) : List Nat := [x / 16777216 % 256, x / 65536 % 256, x / 256 % 256, x % 256]
theorem numQ_lt (x : Nat) : ∀ y ∈ numQ x, y < 256 := by
  intro y hy
  simp [numQ] at hy
  omega
set_option maxHeartbeats 2000000 in
theorem l01Number4 (x : Nat) (w : World) (hx : x < 4294967296) :
    Calls Tryz.prog 81 #[.int .i64 (x : Int), .int .i64 4] w fun e w' => ∃ v, e = .returned v ∧ w'.ownsRow w.heap.size 5 1 v 4 (cellsB (numQ x)) ∧ Below w.heap.size w w' := by
  go_enter Tryz.func81, Tryz.ntmps81
  go_wp2_with fail
  go_loopw [5, 6] (fun ov i wr => ∃ (q : Int) (u : Value) (n : Nat), u = ov ∧ i = .int .i64 q ∧ -1 ≤ q ∧ q ≤ 3 ∧ Hid ((n : Int) = 3 - q) ∧ Hid (Below w.heap.size w wr) ∧ Hid (wr.ownsRow w.heap.size 5 1 u n (cellsB ((numQ x).take n)))) (fun _ i _ => (intOf i + 1).toNat)
  case atStart => exact ⟨3, _, 0, rfl, rfl, by omega, by omega, by show ((0 : Nat) : Int) = 3 - 3; omega, (Below.refl _ _).alloc (Nat.le_refl _) _, own_empty' rfl (Nat.le_refl _)⟩
  case round =>
    obtain ⟨q, u, n, hu, rfl, hq1, hq2, hn, hb, HW⟩ := hrel
    subst hu
    rcases (by omega : q = -1 ∨ q = 0 ∨ q = 1 ∨ q = 2 ∨ q = 3) with rfl | rfl | rfl | rfl | rfl
    · have h2 : n = 4 := by have := hn.out; omega
      have HF : Hid (wr.ownsRow w.heap.size 5 1 u 4 (cellsB (numQ x))) := by rw [h2] at HW; exact HW
      clear h2 hn HW
      go_wp2_with fail
      go_ret
      exact ⟨_, rfl, HF.out, hb.out⟩
    · have h2 : n = 3 := by have := hn.out; omega
      have HF : Hid (wr.ownsRow w.heap.size 5 1 u 3 (cellsB [x / 16777216 % 256, x / 65536 % 256, x / 256 % 256])) := by rw [h2] at HW; exact HW
      clear h2 hn HW
      have XR : Hid (w.heap.size ≤ wr.heap.size) := hb.out.size
      have hlt3 : Hid (∀ g, Value.ownBlock u = some g → w.heap.size ≤ g ∧ g < wr.heap.size) := fun g e => HF.out.lt g e
      go_wp2_with (at_builtin; refine wpList_append_src _ rfl _ _ 74 rfl w.heap.size 5 (.int .u8 0) 1 1 Tryz.underlying74 infoB rfl (by decide) (by decide) _ 3 (cellsB [x / 16777216 % 256, x / 65536 % 256, x / 256 % 256]) rfl (HF.out.alloc _) (some ⟨wr.heap.size, 0, none⟩) 1 1 (cellsB [x % 256]) rfl rfl (src_oneB rfl (by first | (simp; done) | (simp; omega))) (cellsB_one _) (by omega) (le_alloc XR.out _) ?_)
      intro v2 w2 hown2 hgrow2
      have o2 : Hid (w2.ownsRow w.heap.size 5 1 v2 (3 + 1) (cellsB ((numQ x).take (3 + 1)))) := hown2
      have B2 : Hid (Below w.heap.size w w2) := (hb.out.alloc hb.out.size _).grown hgrow2 (le_alloc hb.out.size _) (fun g e => (hlt3.out g e).1)
      clear hown2 hgrow2
      go_wp2_with fail
      exact ⟨⟨-1, _, 3 + 1, rfl, by go_num, by omega, by omega, by show (((3 + 1 : Nat)) : Int) = 3 - (-1); omega, B2.out, o2.out⟩, by simp [intOf]⟩
    · have h2 : n = 2 := by have := hn.out; omega
      have HF : Hid (wr.ownsRow w.heap.size 5 1 u 2 (cellsB [x / 16777216 % 256, x / 65536 % 256])) := by rw [h2] at HW; exact HW
      clear h2 hn HW
      have XR : Hid (w.heap.size ≤ wr.heap.size) := hb.out.size
      have hlt3 : Hid (∀ g, Value.ownBlock u = some g → w.heap.size ≤ g ∧ g < wr.heap.size) := fun g e => HF.out.lt g e
      go_wp2_with (at_builtin; refine wpList_append_src _ rfl _ _ 74 rfl w.heap.size 5 (.int .u8 0) 1 1 Tryz.underlying74 infoB rfl (by decide) (by decide) _ 2 (cellsB [x / 16777216 % 256, x / 65536 % 256]) rfl (HF.out.alloc _) (some ⟨wr.heap.size, 0, none⟩) 1 1 (cellsB [x / 256 % 256]) rfl rfl (src_oneB rfl (by first | (simp; done) | (simp; omega))) (cellsB_one _) (by omega) (le_alloc XR.out _) ?_)
      intro v2 w2 hown2 hgrow2
      have o2 : Hid (w2.ownsRow w.heap.size 5 1 v2 (2 + 1) (cellsB ((numQ x).take (2 + 1)))) := hown2
      have B2 : Hid (Below w.heap.size w w2) := (hb.out.alloc hb.out.size _).grown hgrow2 (le_alloc hb.out.size _) (fun g e => (hlt3.out g e).1)
      clear hown2 hgrow2
      go_wp2_with fail
      exact ⟨⟨0, _, 2 + 1, rfl, by go_num, by omega, by omega, by show (((2 + 1 : Nat)) : Int) = 3 - (0); omega, B2.out, o2.out⟩, by simp [intOf]⟩
    · have h2 : n = 1 := by have := hn.out; omega
      have HF : Hid (wr.ownsRow w.heap.size 5 1 u 1 (cellsB [x / 16777216 % 256])) := by rw [h2] at HW; exact HW
      clear h2 hn HW
      have XR : Hid (w.heap.size ≤ wr.heap.size) := hb.out.size
      have hlt3 : Hid (∀ g, Value.ownBlock u = some g → w.heap.size ≤ g ∧ g < wr.heap.size) := fun g e => HF.out.lt g e
      go_wp2_with (at_builtin; refine wpList_append_src _ rfl _ _ 74 rfl w.heap.size 5 (.int .u8 0) 1 1 Tryz.underlying74 infoB rfl (by decide) (by decide) _ 1 (cellsB [x / 16777216 % 256]) rfl (HF.out.alloc _) (some ⟨wr.heap.size, 0, none⟩) 1 1 (cellsB [x / 65536 % 256]) rfl rfl (src_oneB rfl (by first | (simp; done) | (simp; omega))) (cellsB_one _) (by omega) (le_alloc XR.out _) ?_)
      intro v2 w2 hown2 hgrow2
      have o2 : Hid (w2.ownsRow w.heap.size 5 1 v2 (1 + 1) (cellsB ((numQ x).take (1 + 1)))) := hown2
      have B2 : Hid (Below w.heap.size w w2) := (hb.out.alloc hb.out.size _).grown hgrow2 (le_alloc hb.out.size _) (fun g e => (hlt3.out g e).1)
      clear hown2 hgrow2
      go_wp2_with fail
      exact ⟨⟨1, _, 1 + 1, rfl, by go_num, by omega, by omega, by show (((1 + 1 : Nat)) : Int) = 3 - (1); omega, B2.out, o2.out⟩, by simp [intOf]⟩
    · have h2 : n = 0 := by have := hn.out; omega
      have HF : Hid (wr.ownsRow w.heap.size 5 1 u 0 (cellsB [])) := by rw [h2] at HW; exact HW
      clear h2 hn HW
      have XR : Hid (w.heap.size ≤ wr.heap.size) := hb.out.size
      have hlt3 : Hid (∀ g, Value.ownBlock u = some g → w.heap.size ≤ g ∧ g < wr.heap.size) := fun g e => HF.out.lt g e
      go_wp2_with (at_builtin; refine wpList_append_src _ rfl _ _ 74 rfl w.heap.size 5 (.int .u8 0) 1 1 Tryz.underlying74 infoB rfl (by decide) (by decide) _ 0 (cellsB []) rfl (HF.out.alloc _) (some ⟨wr.heap.size, 0, none⟩) 1 1 (cellsB [x / 16777216 % 256]) rfl rfl (src_oneB rfl (by first | (simp; done) | (simp; omega))) (cellsB_one _) (by omega) (le_alloc XR.out _) ?_)
      intro v2 w2 hown2 hgrow2
      have o2 : Hid (w2.ownsRow w.heap.size 5 1 v2 (0 + 1) (cellsB ((numQ x).take (0 + 1)))) := hown2
      have B2 : Hid (Below w.heap.size w w2) := (hb.out.alloc hb.out.size _).grown hgrow2 (le_alloc hb.out.size _) (fun g e => (hlt3.out g e).1)
      clear hown2 hgrow2
      go_wp2_with fail
      exact ⟨⟨2, _, 0 + 1, rfl, by go_num, by omega, by omega, by show (((0 + 1 : Nat)) : Int) = 3 - (2); omega, B2.out, o2.out⟩, by simp [intOf]⟩
abbrev zL (L : List Nat) : Nat → Nat := fun i => L.getD i 0
def sumL (L : List Nat) : Nat := crc (zL L) L.length
def sealB (L : List Nat) : List Nat := L ++ numQ (sumL L)
theorem sumL_lt (L : List Nat) : sumL L < 4294967296 := by
  unfold sumL crc
  split
  · omega
  · exact Nat.xor_lt_two_pow (n := 32) (crcTo_lt _ _) (by omega)
theorem zL_lt {L : List Nat} (h : ∀ x ∈ L, x < 256) : ∀ i, zL L i < 256 := fun i => by
  by_cases hi : i < L.length
  · show L.getD i 0 < 256
    rw [List.getD_eq_getElem?_getD, List.getElem?_eq_getElem hi]; exact h _ (List.getElem_mem _)
  · show L.getD i 0 < 256
    rw [List.getD_eq_getElem?_getD, List.getElem?_eq_none (by omega)]; decide
theorem sl_src {w : World} {a : Option Addr} {L : List Nat} {n : Nat} (h : Src w a (cellsB L)) (hn : L.length = n) : Sl w a n (BV (zL L)) := by
  subst hn
  rcases h with h | ⟨b, o, rfl, hc⟩
  · have h2 := cellsB_length L
    rw [h] at h2
    exact .inl (by simpa using h2.symm)
  · refine .inr ⟨b, o, rfl, fun i hi => ?_⟩
    have h1 := hc i (by rw [cellsB_length]; exact hi)
    rw [getD_some (cellsB_get L i hi)] at h1
    exact h1
theorem l01CheckL (a : Option Addr) (n c : Nat) (L : List Nat) (w : World) (hL : L.length = n) (hn : n ≤ 65536) (hlt : ∀ x ∈ L, x < 256) (h : Src w a (cellsB L)) :
    Calls Tryz.prog 123 #[.slice a n c] w fun e w' => e = .returned (.int .i64 ((sumL L : Nat) : Int)) ∧ Below w.heap.size w w' := by
  have h1 := l01Check a n c (zL L) w (by omega) (zL_lt hlt) (sl_src h hL)
  have e1 : sumL L = crcTo (zL L) n ^^^ 4294967295 := by unfold sumL crc; rw [hL, if_neg (by omega)]
  rw [← e1] at h1
  exact h1
theorem check32L (a : Option Addr) (n c : Nat) (L : List Nat) (w : World) (hL : L.length = n) (hn : n ≤ 1048576) (hlt : ∀ x ∈ L, x < 256) (h : Src w a (cellsB L)) (hH : HasHalf w) :
    Calls Tryz.prog 183 #[.slice a n c] w fun e w' => e = .returned (.int .i64 ((sumL L : Nat) : Int)) ∧ w = w' := by
  have h1 := implCheck32 a n c (zL L) w hn (zL_lt hlt) (sl_src h hL) hH
  have e1 : sumL L = crc (zL L) n := by unfold sumL; rw [hL]
  rw [← e1] at h1
  exact h1
set_option maxHeartbeats 1000000 in
theorem l03Sealed (v : Value) (n base : Nat) (L : List Nat) (w : World) (hL : L.length = n) (hn : n ≤ 65536) (hlt : ∀ x ∈ L, x < 256) (hbase : base ≤ w.heap.size) (h : w.ownsRow base 5 1 v n (cellsB L)) :
    Calls Tryz.prog 82 #[v] w fun e w' => ∃ v', e = .returned v' ∧ w'.ownsRow base 5 1 v' (n + 4) (cellsB (sealB L)) ∧ Below base w w' := by
  obtain ⟨a, c, rfl, hs, _⟩ := own_src h
  obtain ⟨s, hs9⟩ : ∃ s, sumL L = s := ⟨_, rfl⟩
  have HO : Hid (w.ownsRow base 5 1 (.slice a n c) n (cellsB L)) := h
  have HC : Hid (Calls Tryz.prog 123 #[.slice a n c] w fun e w' => e = .returned (.int .i64 ((s : Nat) : Int)) ∧ Below w.heap.size w w') := by rw [← hs9]; exact l01CheckL a n c L w hL hn hlt hs
  have HS : Hid (s < 4294967296 ∧ sealB L = L ++ numQ s) := ⟨by rw [← hs9]; exact sumL_lt L, by unfold sealB; rw [hs9]⟩
  clear h hs hs9 hlt
  go_enter Tryz.func82, Tryz.ntmps82
  go_wp2_with fail
  refine HC.out.mono ?_
  rintro e w1 ⟨rfl, hb1⟩
  have B1 : Hid (Below base w w1) := hb1.mono hbase
  have O1 : Hid (w1.ownsRow base 5 1 (.slice a n c) n (cellsB L)) := own_below HO.out hb1
  have Z1 : Hid (w.heap.size ≤ w1.heap.size) := hb1.size
  clear hb1
  go_wp2_with fail
  refine (l01Number4 s _ HS.out.1).mono ?_
  rintro e w2 ⟨v2, rfl, o2, hb2⟩
  have B2 : Hid (Below base w w2) := B1.out.trans (hb2.mono (by have := Z1.out; omega))
  have O2 : Hid (w2.ownsRow base 5 1 (.slice a n c) n (cellsB L)) := own_below O1.out hb2
  have Z2 : Hid (base ≤ w2.heap.size) := by have := Z1.out; have := hb2.size; show base ≤ w2.heap.size; omega
  obtain ⟨a2, c2, rfl, s2, _⟩ := own_src o2
  have S2 : Hid (Src w2 a2 (cellsB (numQ s))) := s2
  clear hb2 o2 s2 O1 B1
  have hlt3 : Hid (∀ g, Value.ownBlock (.slice a n c) = some g → base ≤ g) := fun g e => (O2.out.lt g e).1
  go_wp2_with (at_builtin; refine wpList_append_src _ rfl _ _ 74 rfl base 5 (.int .u8 0) 1 1 Tryz.underlying74 infoB rfl (by decide) (by decide) _ n (cellsB L) rfl O2.out a2 4 c2 (cellsB (numQ s)) rfl rfl S2.out (cellsB_one _) (by omega) Z2.out ?_)
  intro v3 w3 hown3 hgrow3
  have O3 : Hid (w3.ownsRow base 5 1 v3 (n + 4) (cellsB (sealB L))) := by rw [HS.out.2, cellsB_append]; exact hown3
  have B3 : Hid (Below base w w3) := B2.out.grown hgrow3 Z2.out hlt3.out
  clear hown3 hgrow3
  go_wp2_with fail
  go_ret
  exact ⟨_, rfl, O3.out, B3.out⟩
theorem own_some {w : World} {base e s n : Nat} {v : Value} {xs : List Value} (h : w.ownsRow base e s v n xs) (hn : 0 < n) : ∃ g cap, v = .slice (some ⟨g, 0, none⟩) n cap ∧ n ≤ cap ∧ Src w (some ⟨g, 0, none⟩) xs := by
  obtain ⟨a, c, rfl, hs, _⟩ := own_src h
  obtain ⟨hl, ⟨hv, h0⟩ | ⟨g, cap, cur, hv, hb, hg, hc1, hc2, hsz, ht⟩⟩ := h
  · omega
  · cases hv
    exact ⟨g, c, rfl, hc1, hs⟩
theorem own_new {w : World} {base t : Nat} {zs : List Nat} {cs : Array Value} {n : Nat} (hb : base ≤ w.heap.size) (hc : cs.toList = cellsB zs) (hn : zs.length = n) (hm : n ≤ 65536) (ht : t = 5) : (w.alloc (.cells cs t)).ownsRow base 5 1 (.slice (some ⟨w.heap.size, 0, none⟩) n n) n (cellsB zs) := by
  subst ht
  have hsz : cs.size = n := by rw [← Array.length_toList, hc, cellsB_length, hn]
  refine ⟨by rw [cellsB_length, hn]; omega, .inr ⟨w.heap.size, n, cs, rfl, hb, heap_alloc_new _ _, Nat.le_refl _, by unfold maxLen; omega, by rw [hsz]; omega, ?_⟩⟩
  rw [hc, List.take_of_length_le (by rw [cellsB_length, hn]; omega)]
set_option maxHeartbeats 1000000 in
theorem numberBytes (x : Nat) (w : World) (hx : x < 4294967296) :
    Calls Tryz.prog 182 #[.int .i64 (x : Int)] w fun e w' => e = .returned (.slice (some ⟨w.heap.size, 0, none⟩) 4 4) ∧ w'.ownsRow w.heap.size 5 1 (.slice (some ⟨w.heap.size, 0, none⟩) 4 4) 4 (cellsB (numQ x)) ∧ Below w.heap.size w w' := by
  have HX : Hid (x < 4294967296) := hx
  go_enter Tryz.func182, Tryz.ntmps182
  go_wp2_with fail
  go_ret
  refine ⟨rfl, own_new (Nat.le_refl _) ?_ rfl (by omega) rfl, (Below.refl _ _).alloc (Nat.le_refl _) _⟩
  simp [cellsB, numQ]
  first | done | omega
set_option maxHeartbeats 1000000 in
theorem implSealed (b o n c : Nat) (L : List Nat) (w : World) (hL : L.length = n) (hn : n ≤ 65536) (hc : n ≤ c) (hlt : ∀ x ∈ L, x < 256) (h : Src w (some ⟨b, o, none⟩) (cellsB L)) (hH : HasHalf w) :
    Calls Tryz.prog 172 #[.slice (some ⟨b, o, none⟩) n c] w fun e w' => ∃ v', e = .returned v' ∧ w'.ownsRow w.heap.size 5 1 v' (n + 4) (cellsB (sealB L)) ∧ Below w.heap.size w w' := by
  obtain ⟨s, hs9⟩ : ∃ s, sumL L = s := ⟨_, rfl⟩
  have HC : Hid (Calls Tryz.prog 183 #[.slice (some ⟨b, o, none⟩) n c] w.drew fun e w' => e = .returned (.int .i64 ((s : Nat) : Int)) ∧ w.drew = w') := by rw [← hs9]; exact check32L _ n c L w.drew hL (by omega) hlt h hH
  have HSL : Hid (s < 4294967296 ∧ sealB L = L ++ numQ s) := ⟨by rw [← hs9]; exact sumL_lt L, by unfold sealB; rw [hs9]⟩
  have HR : Hid (Src w.drew (some ⟨b, o, none⟩) (cellsB L)) := h
  have hnc : (n : Int) ≤ (c : Int) := by omega
  clear h hs9 hlt hH
  go_enter Tryz.func172, Tryz.ntmps172
  go_wp2_with fail
  refine wp_region_any (by kernel_rfl) ?_
  change wpAny _ _ _ _ _ _ _ (World.drew _)
  refine reg_take 0 3 (.slice (some ⟨b, o, none⟩) n c) rfl rfl (by kernel_rfl) (by kernel_rfl) (by kernel_rfl) (fun _ _ _ _ _ h => h) (by kernel_rfl) (by intro w; go_simp) ?_
  refine reg_take 1 4 (.slice (some ⟨b, o, none⟩) n c) rfl rfl (by kernel_rfl) (by kernel_rfl) (by kernel_rfl) (fun _ _ _ _ _ h => h) (by kernel_rfl) (by intro w; go_simp) ?_
  refine reg_take 2 5 (.int .i64 (n : Int)) rfl rfl (by kernel_rfl) (by kernel_rfl) (by kernel_rfl) (fun _ _ _ _ _ h => h) (by kernel_rfl) (by intro w; go_simp) ?_
  refine reg_take 3 6 (.slice (some ⟨b, o, none⟩) n c) rfl rfl (by kernel_rfl) (by kernel_rfl) (by kernel_rfl) (fun _ _ _ _ _ h => h) (by kernel_rfl) (by intro w; go_simp) ?_
  refine reg_take 4 7 (.int .i64 (n : Int)) rfl rfl (by kernel_rfl) (by kernel_rfl) (by kernel_rfl) (fun _ _ _ _ _ h => h) (by kernel_rfl) (by intro w; go_simp) ?_
  refine reg_take 5 8 (.slice (some ⟨b, o, none⟩) n n) rfl rfl (by kernel_rfl) (by kernel_rfl) (by kernel_rfl) (fun _ _ _ _ _ h => h) (by kernel_rfl) (by intro w; go_simp) ?_
  refine reg_take 6 9 (.slice (some ⟨b, o, none⟩) n c) rfl rfl (by kernel_rfl) (by kernel_rfl) (by kernel_rfl) (fun _ _ _ _ _ h => h) (by kernel_rfl) (by intro w; go_simp) ?_
  refine wpAny_ready (rs := [7]) (by kernel_rfl) (by simp) ?_
  refine AllReady.cons rfl (fun K hK => ?_) AllReady.nil
  go_simp
  go_wp2_with (go_at_call 183; refine HC.out.mono ?_; rintro e w1 ⟨rfl, hw1⟩; obtain rfl := hw1.symm)
  refine wpAny_ready (rs := [8]) (by kernel_rfl) (by simp) ?_
  refine AllReady.cons rfl (fun K hK => ?_) AllReady.nil
  go_simp
  go_wp2_with (go_at_call 182; refine (numberBytes s _ HSL.out.1).mono ?_; rintro e w2 ⟨rfl, o2, hb2⟩)
  obtain ⟨i5, hi5, hz5⟩ := Option.map_eq_some_iff.1 infoB
  simp only [Prod.mk.injEq] at hz5
  have O2 : Hid (Src w2 (some ⟨w.heap.size, 0, none⟩) (cellsB (numQ s))) := by
    obtain ⟨a9, c9, e9, s9, _⟩ := own_src o2
    cases e9; exact s9
  have B2 : Hid (Below w.heap.size w w2) := (Below.refl w.heap.size w).drew.trans hb2
  have Z2 : Hid (w.heap.size ≤ w2.heap.size) := hb2.size
  have HR2 : Hid (Src w2 (some ⟨b, o, none⟩) (cellsB L)) := HR.out.below hb2
  clear o2 hb2
  refine wpAny_ready (rs := [9]) (by kernel_rfl) (by simp) ?_
  refine AllReady.cons rfl (fun K hK => ?_) AllReady.nil
  refine step_append_grows rfl (.tmp 8) (.tmp 11) 74 rfl 5 i5 (.int .u8 0) 1 1 Tryz.underlying74 hi5 hz5.1 hz5.2.1 hz5.2.2 rfl (by decide) (some ⟨b, o, none⟩) n n (cellsB L) rfl (fun e => by cases e) (by rw [cellsB_length, hL]; omega) (fun b9 e9 => by cases e9; exact Src.news HR2.out) ⟨w.heap.size, 0, none⟩ 4 4 (cellsB (numQ s)) rfl rfl (Src.news O2.out) (cellsB_one _) (by omega) (by unfold maxLen; omega) (by omega) ?_
  intro v3 w3 hown3 hgrow3
  have O3 : Hid (w3.ownsRow w.heap.size 5 1 v3 (n + 4) (cellsB (sealB L))) := by rw [HSL.out.2, cellsB_append]; exact own_mono hown3 Z2.out
  have B3 : Hid (Below w.heap.size w w3) := B2.out.grown hgrow3 Z2.out (fun k e => by cases e)
  clear hown3 hgrow3
  refine hK _ _ ?_
  clear hK K
  refine reg_take 10 2 v3 rfl rfl (by kernel_rfl) (by kernel_rfl) (by kernel_rfl) (fun _ _ _ _ _ h => h) (by kernel_rfl) (by intro w; go_simp) ?_
  refine wpAny_done (by kernel_rfl) ?_ _
  go_wp2_with fail
  go_ret
  exact ⟨_, rfl, O3.out, B3.out⟩
end Go.Proofs.YtnnimocaanofjaaGreatDoor
