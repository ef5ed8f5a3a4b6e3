
/-
  Fields as bytes: the numbers ahead of each field. By an AI agent.
-/
import Derived.Test.YtmbndpgoihdpnaaDoorLists4
import Derived.Lib.AppendStr
namespace Go.Proofs.YtmbndpgoihdpnaaDoor
open Go.ChangeShapes Go.WideShapes Go.ChangeAt Go.RowKit Go.Deep
set_option linter.unusedVariables false
set_option maxRecDepth 100000

def bytesOf (s : ByteArray) : List Nat := s.data.toList.map fun b => b.toNat
theorem strCells_bytes (s : ByteArray) : Lib.strCells s = cellsB (bytesOf s) := by simp [Lib.strCells, cellsB, bytesOf]
theorem bytesOf_length (s : ByteArray) : (bytesOf s).length = s.size := by simp [bytesOf]
def numB (x : Nat) : List Nat := [x / 256 % 256, x % 256]
/-- A field: how long it is (two bytes), it. -/
def fieldB (s : ByteArray) : List Nat := numB s.size ++ bytesOf s
def fieldsB (L : List ByteArray) : List Nat := (L.length % 256) :: L.flatMap fieldB
theorem own_empty' {w : World} {B base e s : Nat} (hB : B = w.heap.size) (hb : base ≤ w.heap.size) : (w.alloc (.cells #[] e)).ownsRow base e s (.slice (some ⟨B, 0, none⟩) 0 0) 0 [] := by
  subst hB
  exact World.ownsRow_made w #[] 0 hb (by unfold maxLen; omega) (by simp)
theorem src_oneB {w : World} {x : Nat} {z : Int} {B t : Nat} (hB : B = w.heap.size) (hz : z = (x : Int)) : Src (w.alloc (.cells #[.int .u8 z] t)) (some ⟨B, 0, none⟩) (cellsB [x]) := by
  subst hB hz
  refine .inr ⟨_, 0, rfl, fun j hj => ?_⟩
  have hb := Box.new (w := w) (B := w.heap.size) (vs := #[.int .u8 (x : Int)]) (t := t) rfl
  have hj' : j < 1 := hj
  rw [Nat.zero_add]
  match j, hj' with
  | 0, _ => exact (hb 0 _ rfl).1

set_option maxHeartbeats 1000000 in
theorem l01Number2 (x : Nat) (w : World) (hx : x ≤ 65535) :
    Calls Tryd.prog 55 #[.int .i64 (x : Int), .int .i64 2] w fun e w' => ∃ v, e = .returned v ∧ w'.ownsRow w.heap.size 5 1 v 2 (cellsB (numB x)) ∧ Below w.heap.size w w' := by
  go_enter Tryd.func55, Tryd.ntmps55
  go_wp2_with fail
  go_loopw [5, 6] (fun ov i wr => ∃ (q : Int) (u : Value) (n : Nat), u = ov ∧ i = .int .i64 q ∧ -1 ≤ q ∧ q ≤ 1 ∧ Hid ((n : Int) = 1 - q) ∧ Hid (Below w.heap.size w wr) ∧ Hid (wr.ownsRow w.heap.size 5 1 u n (cellsB ((numB x).take n)))) (fun _ i _ => (RowKit.intOf i + 1).toNat)
  case atStart => exact ⟨1, _, 0, rfl, rfl, by omega, by omega, by show ((0 : Nat) : Int) = 1 - 1; omega, (Below.refl _ _).alloc (Nat.le_refl _) _, own_empty' rfl (Nat.le_refl _)⟩
  case round =>
    obtain ⟨q, u, n, hu, rfl, hq1, hq2, hn, hb, HW⟩ := hrel
    subst hu
    rcases (by omega : q = -1 ∨ q = 0 ∨ q = 1) with rfl | rfl | rfl
    · have h2 : n = 2 := by have := hn.out; omega
      have HF : Hid (wr.ownsRow w.heap.size 5 1 u 2 (cellsB (numB x))) := by rw [h2] at HW; exact HW
      clear h2 hn HW
      go_wp2_with fail
      go_ret
      exact ⟨_, rfl, HF.out, hb.out⟩
    · have h2 : n = 1 := by have := hn.out; omega
      have HF : Hid (wr.ownsRow w.heap.size 5 1 u 1 (cellsB [x / 256 % 256])) := by rw [h2] at HW; exact HW
      clear h2 hn HW
      have XR : Hid (w.heap.size ≤ wr.heap.size) := hb.out.size
      have hlt3 : Hid (∀ g, Value.ownBlock u = some g → w.heap.size ≤ g ∧ g < wr.heap.size) := fun g e => HF.out.lt g e
      go_wp2_with (at_builtin; refine wpList_append_src _ rfl _ _ 34 rfl w.heap.size 5 (.int .u8 0) 1 1 Tryd.underlying34 infoB rfl (by decide) (by decide) _ 1 (cellsB [x / 256 % 256]) rfl (HF.out.alloc _) (some ⟨wr.heap.size, 0, none⟩) 1 1 (cellsB [x % 256]) rfl rfl (src_oneB rfl (by simp)) (cellsB_one _) (by omega) (le_alloc XR.out _) ?_)
      intro v2 w2 hown2 hgrow2
      have o2 : Hid (w2.ownsRow w.heap.size 5 1 v2 (1 + 1) (cellsB ((numB x).take (1 + 1)))) := hown2
      have B2 : Hid (Below w.heap.size w w2) := (hb.out.alloc hb.out.size _).grown hgrow2 (le_alloc hb.out.size _) (fun g e => (hlt3.out g e).1)
      clear hown2 hgrow2
      go_wp2_with fail
      exact ⟨⟨-1, _, 1 + 1, rfl, by go_num, by omega, by omega, by show (((1 + 1 : Nat)) : Int) = 1 - (-1); omega, B2.out, o2.out⟩, by simp [RowKit.intOf]⟩
    · have h2 : n = 0 := by have := hn.out; omega
      have HF : Hid (wr.ownsRow w.heap.size 5 1 u 0 (cellsB [])) := by rw [h2] at HW; exact HW
      clear h2 hn HW
      have XR : Hid (w.heap.size ≤ wr.heap.size) := hb.out.size
      have hlt3 : Hid (∀ g, Value.ownBlock u = some g → w.heap.size ≤ g ∧ g < wr.heap.size) := fun g e => HF.out.lt g e
      go_wp2_with (at_builtin; refine wpList_append_src _ rfl _ _ 34 rfl w.heap.size 5 (.int .u8 0) 1 1 Tryd.underlying34 infoB rfl (by decide) (by decide) _ 0 (cellsB []) rfl (HF.out.alloc _) (some ⟨wr.heap.size, 0, none⟩) 1 1 (cellsB [x / 256 % 256]) rfl rfl (src_oneB rfl (by simp; omega)) (cellsB_one _) (by omega) (le_alloc XR.out _) ?_)
      intro v2 w2 hown2 hgrow2
      have o2 : Hid (w2.ownsRow w.heap.size 5 1 v2 (0 + 1) (cellsB ((numB x).take (0 + 1)))) := hown2
      have B2 : Hid (Below w.heap.size w w2) := (hb.out.alloc hb.out.size _).grown hgrow2 (le_alloc hb.out.size _) (fun g e => (hlt3.out g e).1)
      clear hown2 hgrow2
      go_wp2_with fail
      exact ⟨⟨0, _, 0 + 1, rfl, by go_num, by omega, by omega, by show (((0 + 1 : Nat)) : Int) = 1 - (0); omega, B2.out, o2.out⟩, by simp [RowKit.intOf]⟩
end Go.Proofs.YtmbndpgoihdpnaaDoor
