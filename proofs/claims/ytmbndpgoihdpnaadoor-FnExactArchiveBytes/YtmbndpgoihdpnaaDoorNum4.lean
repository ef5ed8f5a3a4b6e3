
/-
  A number in four bytes, by the specification. By an AI agent.
-/
import Derived.Test.YtmbndpgoihdpnaaDoorFlds
namespace Go.Proofs.YtmbndpgoihdpnaaDoor
open Go.ChangeShapes Go.WideShapes Go.ChangeAt Go.RowKit Go.Deep
set_option linter.unusedVariables false

def numQ (x : Nat) : List Nat := [x / 16777216 % 256, x / 65536 % 256, x / 256 % 256, x % 256]
theorem numQ_lt (x : Nat) : ∀ y ∈ numQ x, y < 256 := by
  intro y hy
  simp [numQ] at hy
  omega

set_option maxHeartbeats 2000000 in
theorem l01Number4 (x : Nat) (w : World) (hx : x < 4294967296) :
    Calls Tryd.prog 55 #[.int .i64 (x : Int), .int .i64 4] w fun e w' => ∃ v, e = .returned v ∧ w'.ownsRow w.heap.size 5 1 v 4 (cellsB (numQ x)) ∧ Below w.heap.size w w' := by
  go_enter Tryd.func55, Tryd.ntmps55
  go_wp2_with fail
  go_loopw [5, 6] (fun ov i wr => ∃ (q : Int) (u : Value) (n : Nat), u = ov ∧ i = .int .i64 q ∧ -1 ≤ q ∧ q ≤ 3 ∧ Hid ((n : Int) = 3 - q) ∧ Hid (Below w.heap.size w wr) ∧ Hid (wr.ownsRow w.heap.size 5 1 u n (cellsB ((numQ x).take n)))) (fun _ i _ => (intOf i + 1).toNat)
  case atStart => exact ⟨3, _, 0, rfl, rfl, by omega, by omega, by show ((0 : Nat) : Int) = 3 - 3; omega, (Below.refl _ _).alloc (Nat.le_refl _) _, own_empty' rfl (Nat.le_refl _)⟩
  case round =>
    obtain ⟨q, u, n, hu, rfl, hq1, hq2, hn, hb, HW⟩ := hrel
    subst hu
    rcases (by omega : q = -1 ∨ q = 0 ∨ q = 1 ∨ q = 2 ∨ q = 3) with rfl | rfl | rfl | rfl | rfl
    · have h2 : n = 4 := by have := hn.out; omega
      have HF : Hid (wr.ownsRow w.heap.size 5 1 u 4 (cellsB (numQ x))) := by rw [h2] at HW; exact HW
      clear h2 hn HW
      go_wp2_with fail
      go_ret
      exact ⟨_, rfl, HF.out, hb.out⟩
    · have h2 : n = 3 := by have := hn.out; omega
      have HF : Hid (wr.ownsRow w.heap.size 5 1 u 3 (cellsB [x / 16777216 % 256, x / 65536 % 256, x / 256 % 256])) := by rw [h2] at HW; exact HW
      clear h2 hn HW
      have XR : Hid (w.heap.size ≤ wr.heap.size) := hb.out.size
      have hlt3 : Hid (∀ g, Value.ownBlock u = some g → w.heap.size ≤ g ∧ g < wr.heap.size) := fun g e => HF.out.lt g e
      go_wp2_with (at_builtin; refine wpList_append_src _ rfl _ _ 34 rfl w.heap.size 5 (.int .u8 0) 1 1 Tryd.underlying34 infoB rfl (by decide) (by decide) _ 3 (cellsB [x / 16777216 % 256, x / 65536 % 256, x / 256 % 256]) rfl (HF.out.alloc _) (some ⟨wr.heap.size, 0, none⟩) 1 1 (cellsB [x % 256]) rfl rfl (src_oneB rfl (by first | (simp; done) | (simp; omega))) (cellsB_one _) (by omega) (le_alloc XR.out _) ?_)
      intro v2 w2 hown2 hgrow2
      have o2 : Hid (w2.ownsRow w.heap.size 5 1 v2 (3 + 1) (cellsB ((numQ x).take (3 + 1)))) := hown2
      have B2 : Hid (Below w.heap.size w w2) := (hb.out.alloc hb.out.size _).grown hgrow2 (le_alloc hb.out.size _) (fun g e => (hlt3.out g e).1)
      clear hown2 hgrow2
      go_wp2_with fail
      exact ⟨⟨-1, _, 3 + 1, rfl, by go_num, by omega, by omega, by show (((3 + 1 : Nat)) : Int) = 3 - (-1); omega, B2.out, o2.out⟩, by simp [intOf]⟩
    · have h2 : n = 2 := by have := hn.out; omega
      have HF : Hid (wr.ownsRow w.heap.size 5 1 u 2 (cellsB [x / 16777216 % 256, x / 65536 % 256])) := by rw [h2] at HW; exact HW
      clear h2 hn HW
      have XR : Hid (w.heap.size ≤ wr.heap.size) := hb.out.size
      have hlt3 : Hid (∀ g, Value.ownBlock u = some g → w.heap.size ≤ g ∧ g < wr.heap.size) := fun g e => HF.out.lt g e
      go_wp2_with (at_builtin; refine wpList_append_src _ rfl _ _ 34 rfl w.heap.size 5 (.int .u8 0) 1 1 Tryd.underlying34 infoB rfl (by decide) (by decide) _ 2 (cellsB [x / 16777216 % 256, x / 65536 % 256]) rfl (HF.out.alloc _) (some ⟨wr.heap.size, 0, none⟩) 1 1 (cellsB [x / 256 % 256]) rfl rfl (src_oneB rfl (by first | (simp; done) | (simp; omega))) (cellsB_one _) (by omega) (le_alloc XR.out _) ?_)
      intro v2 w2 hown2 hgrow2
      have o2 : Hid (w2.ownsRow w.heap.size 5 1 v2 (2 + 1) (cellsB ((numQ x).take (2 + 1)))) := hown2
      have B2 : Hid (Below w.heap.size w w2) := (hb.out.alloc hb.out.size _).grown hgrow2 (le_alloc hb.out.size _) (fun g e => (hlt3.out g e).1)
      clear hown2 hgrow2
      go_wp2_with fail
      exact ⟨⟨0, _, 2 + 1, rfl, by go_num, by omega, by omega, by show (((2 + 1 : Nat)) : Int) = 3 - (0); omega, B2.out, o2.out⟩, by simp [intOf]⟩
    · have h2 : n = 1 := by have := hn.out; omega
      have HF : Hid (wr.ownsRow w.heap.size 5 1 u 1 (cellsB [x / 16777216 % 256])) := by rw [h2] at HW; exact HW
      clear h2 hn HW
      have XR : Hid (w.heap.size ≤ wr.heap.size) := hb.out.size
      have hlt3 : Hid (∀ g, Value.ownBlock u = some g → w.heap.size ≤ g ∧ g < wr.heap.size) := fun g e => HF.out.lt g e
      go_wp2_with (at_builtin; refine wpList_append_src _ rfl _ _ 34 rfl w.heap.size 5 (.int .u8 0) 1 1 Tryd.underlying34 infoB rfl (by decide) (by decide) _ 1 (cellsB [x / 16777216 % 256]) rfl (HF.out.alloc _) (some ⟨wr.heap.size, 0, none⟩) 1 1 (cellsB [x / 65536 % 256]) rfl rfl (src_oneB rfl (by first | (simp; done) | (simp; omega))) (cellsB_one _) (by omega) (le_alloc XR.out _) ?_)
      intro v2 w2 hown2 hgrow2
      have o2 : Hid (w2.ownsRow w.heap.size 5 1 v2 (1 + 1) (cellsB ((numQ x).take (1 + 1)))) := hown2
      have B2 : Hid (Below w.heap.size w w2) := (hb.out.alloc hb.out.size _).grown hgrow2 (le_alloc hb.out.size _) (fun g e => (hlt3.out g e).1)
      clear hown2 hgrow2
      go_wp2_with fail
      exact ⟨⟨1, _, 1 + 1, rfl, by go_num, by omega, by omega, by show (((1 + 1 : Nat)) : Int) = 3 - (1); omega, B2.out, o2.out⟩, by simp [intOf]⟩
    · have h2 : n = 0 := by have := hn.out; omega
      have HF : Hid (wr.ownsRow w.heap.size 5 1 u 0 (cellsB [])) := by rw [h2] at HW; exact HW
      clear h2 hn HW
      have XR : Hid (w.heap.size ≤ wr.heap.size) := hb.out.size
      have hlt3 : Hid (∀ g, Value.ownBlock u = some g → w.heap.size ≤ g ∧ g < wr.heap.size) := fun g e => HF.out.lt g e
      go_wp2_with (at_builtin; refine wpList_append_src _ rfl _ _ 34 rfl w.heap.size 5 (.int .u8 0) 1 1 Tryd.underlying34 infoB rfl (by decide) (by decide) _ 0 (cellsB []) rfl (HF.out.alloc _) (some ⟨wr.heap.size, 0, none⟩) 1 1 (cellsB [x / 16777216 % 256]) rfl rfl (src_oneB rfl (by first | (simp; done) | (simp; omega))) (cellsB_one _) (by omega) (le_alloc XR.out _) ?_)
      intro v2 w2 hown2 hgrow2
      have o2 : Hid (w2.ownsRow w.heap.size 5 1 v2 (0 + 1) (cellsB ((numQ x).take (0 + 1)))) := hown2
      have B2 : Hid (Below w.heap.size w w2) := (hb.out.alloc hb.out.size _).grown hgrow2 (le_alloc hb.out.size _) (fun g e => (hlt3.out g e).1)
      clear hown2 hgrow2
      go_wp2_with fail
      exact ⟨⟨2, _, 0 + 1, rfl, by go_num, by omega, by omega, by show (((0 + 1 : Nat)) : Int) = 3 - (2); omega, B2.out, o2.out⟩, by simp [intOf]⟩
end Go.Proofs.YtmbndpgoihdpnaaDoor
