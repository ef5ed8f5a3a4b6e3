
/-
  Parts of a difference: was, is, fits, diffOK, done, by the program. By an AI agent.
-/
import Derived.Test.YtmbndpgoihdpnaaGreatDoorDapm
namespace Go.Proofs.YtmbndpgoihdpnaaGreatDoor
open Go.ChangeShapes Go.WideShapes Go.ChangeAt Go.RowKit Go.Deep
set_option linter.unusedVariables false
set_option maxRecDepth 100000

set_option maxHeartbeats 2000000 in
theorem diffDone (k o n : ByteArray) (p q : Bool) (a : Option Addr) (m c : Nat) (L : List PM) (w : World) (hL : L.length = m) (hm : m ≤ 4095) (hc : m ≤ c) (h : Src w a (cellsP L)) :
    Calls Tryz.prog 104 #[.agg #[.string k, .string o, .string n, .bool p, .bool q], .slice a m c] w fun e w' => ∃ v, e = .returned v ∧ OwnsP w' w.heap.size v (stepM L (k, o, n, p, q)) ∧ Below w.heap.size w w' := by
  have HS : Hid (Src w a (cellsP L)) := h
  have HP : Hid (Sp w a m (fstL L) (sndL L)) := sp_of h hL
  have HL : Hid (L.length = m) := hL
  obtain ⟨x, hx⟩ : ∃ x, plc L k = x := ⟨_, rfl⟩
  obtain ⟨y, hy⟩ : ∃ y, beh L k = y := ⟨_, rfl⟩
  have PL : Hid (IsPlace (fstL L) m k x) := by rw [← hL, ← hx]; exact plc_is L k
  have BE : Hid (plc L k = x ∧ beh L k = y) := ⟨hx, hy⟩
  have hxm : x ≤ m := PL.out.1
  have hym : y ≤ m := by rw [← hy, ← hL]; exact (beh_le L k).1
  have A0 : Hid (Below w.heap.size w (w.alloc (.cells #[.string k, .string o, .string n, .bool p, .bool q] 108))) := (Below.refl _ _).alloc (Nat.le_refl _) _
  have X0 : Hid (Box (w.alloc (.cells #[.string k, .string o, .string n, .bool p, .bool q] 108)) w.heap.size [.string k, .string o, .string n, .bool p, .bool q]) := Box.new rfl
  obtain ⟨t, ht⟩ : ∃ b, hitB (fstL L) m k x = b := ⟨_, rfl⟩
  have HT : Hid (hitB (fstL L) m k x = t ∧ y = if t = true then x + 1 else x) := ⟨ht, by rw [← hy, ← ht, ← hx, ← hL]; rfl⟩
  clear h hL hx hy ht
  go_enter Tryz.func104, Tryz.ntmps104
  go_wp2_with fail
  refine (pairPlace a m c (fstL L) (sndL L) k x _ (by omega) PL.out (HP.out.below A0.out)).mono ?_
  rw [HT.out.1]
  rintro e w1 ⟨rfl, hb1⟩
  have B1 : Hid (Below w.heap.size w w1) := Below.new hb1
  have X1 : Hid (Box w1 w.heap.size [.string k, .string o, .string n, .bool p, .bool q]) := X0.out.below hb1
  have S1 : Hid (Src w1 a (cellsP L)) := HS.out.below B1.out
  clear hb1 X0 A0 HP
  obtain ⟨c0, _⟩ := X1.out 0 _ rfl
  obtain ⟨c2, _⟩ := X1.out 2 _ rfl
  obtain ⟨c4, _⟩ := X1.out 4 _ rfl
  cases t with
  | false =>
    cases q with
    | false =>
      have hy : y = x := HT.out.2
      obtain rfl := hy
      go_wp2_with fail
      refine (replacedP a m c y y L none 0 0 [] _ HL.out (by omega) hc (by omega) hym rfl (by omega) S1.out (.inl rfl)).mono ?_
      rintro e w2 ⟨v, rfl, o2, hb2⟩
      have O2 : Hid (OwnsP w2 w.heap.size v (stepM L (k, o, n, p, false))) := by
        have h9 := o2.weaken B1.out.size
        have e9 : stepM L (k, o, n, p, false) = L.take y ++ [] ++ L.drop y := by unfold stepM; rw [BE.out.1, BE.out.2]; rfl
        rw [e9]; exact h9
      have B2 : Hid (Below w.heap.size w w2) := B1.out.trans (hb2.mono B1.out.size)
      clear o2 hb2
      go_wp2_with fail
      go_ret
      exact ⟨_, rfl, O2.out, B2.out⟩
    | true =>
      have hy : y = x := HT.out.2
      obtain rfl := hy
      go_wp2_with fail
      refine (replacedP a m c y y L (some ⟨w1.heap.size, 0, none⟩) 1 1 [(k, n)] _ HL.out (by omega) hc (by omega) hym rfl (by omega) (S1.out.below ((Below.refl _ _).alloc (Nat.le_refl _) _)) (src_two rfl)).mono ?_
      rintro e w2 ⟨v, rfl, o2, hb2⟩
      have O2 : Hid (OwnsP w2 w.heap.size v (stepM L (k, o, n, p, true))) := by
        have h9 := o2.weaken (le_alloc B1.out.size _)
        have e9 : stepM L (k, o, n, p, true) = L.take y ++ [(k, n)] ++ L.drop y := by unfold stepM; rw [BE.out.1, BE.out.2]; rfl
        rw [e9]; exact h9
      have B2 : Hid (Below w.heap.size w w2) := (B1.out.alloc B1.out.size _).trans (hb2.mono (B1.out.alloc B1.out.size _).size)
      clear o2 hb2
      go_wp2_with fail
      go_ret
      exact ⟨_, rfl, O2.out, B2.out⟩
  | true =>
    cases q with
    | false =>
      obtain rfl : y = x + 1 := HT.out.2
      go_wp2_with fail
      rw [show (x : Int) + 1 = ((x + 1 : Nat) : Int) from by omega]
      refine (replacedP a m c x (x + 1) L none 0 0 [] _ HL.out (by omega) hc (by omega) hym rfl (by omega) S1.out (.inl rfl)).mono ?_
      rintro e w2 ⟨v, rfl, o2, hb2⟩
      have O2 : Hid (OwnsP w2 w.heap.size v (stepM L (k, o, n, p, false))) := by
        have h9 := o2.weaken B1.out.size
        have e9 : stepM L (k, o, n, p, false) = L.take x ++ [] ++ L.drop (x + 1) := by unfold stepM; rw [BE.out.1, BE.out.2]; rfl
        rw [e9]; exact h9
      have B2 : Hid (Below w.heap.size w w2) := B1.out.trans (hb2.mono B1.out.size)
      clear o2 hb2
      go_wp2_with fail
      go_ret
      exact ⟨_, rfl, O2.out, B2.out⟩
    | true =>
      obtain rfl : y = x + 1 := HT.out.2
      go_wp2_with fail
      rw [show (x : Int) + 1 = ((x + 1 : Nat) : Int) from by omega]
      refine (replacedP a m c x (x + 1) L (some ⟨w1.heap.size, 0, none⟩) 1 1 [(k, n)] _ HL.out (by omega) hc (by omega) hym rfl (by omega) (S1.out.below ((Below.refl _ _).alloc (Nat.le_refl _) _)) (src_two rfl)).mono ?_
      rintro e w2 ⟨v, rfl, o2, hb2⟩
      have O2 : Hid (OwnsP w2 w.heap.size v (stepM L (k, o, n, p, true))) := by
        have h9 := o2.weaken (le_alloc B1.out.size _)
        have e9 : stepM L (k, o, n, p, true) = L.take x ++ [(k, n)] ++ L.drop (x + 1) := by unfold stepM; rw [BE.out.1, BE.out.2]; rfl
        rw [e9]; exact h9
      have B2 : Hid (Below w.heap.size w w2) := (B1.out.alloc B1.out.size _).trans (hb2.mono (B1.out.alloc B1.out.size _).size)
      clear o2 hb2
      go_wp2_with fail
      go_ret
      exact ⟨_, rfl, O2.out, B2.out⟩
end Go.Proofs.YtmbndpgoihdpnaaGreatDoor
