
/-
  What stands at a key: the program's heldAt; the specification's l01Get. By an AI agent.
-/
import Derived.Test.YtmbndpgoihdpnaaGreatDoorDifm
namespace Go.Proofs.YtmbndpgoihdpnaaGreatDoor
open Go.ChangeShapes Go.WideShapes Go.ChangeAt Go.RowKit Go.Deep
set_option linter.unusedVariables false
set_option maxRecDepth 100000

set_option maxHeartbeats 1000000 in
theorem heldAt (a : Option Addr) (n c : Nat) (L : List PM) (key : ByteArray) (w : World) (hL : L.length = n) (hn : n ≤ 1048576) (hu : UpL L) (h : Src w a (cellsP L)) :
    Calls Tryz.prog 92 #[.slice a n c, .string key] w fun e w' => e = .returned (.agg #[.string (heldM L key).1, .bool (heldM L key).2]) ∧ Below w.heap.size w w' := by
  subst hL
  obtain ⟨p, hp⟩ := place_exists (fstL L) key L.length
  have hm := held_place hu hp
  have HP : Hid (IsPlace (fstL L) L.length key p) := hp
  have HS : Hid (Sp w a L.length (fstL L) (sndL L)) := sp_of h rfl
  have A0 : Hid (Below w.heap.size w (w.alloc (.cells #[.string ⟨#[]⟩, .bool false] 139))) := (Below.refl _ _).alloc (Nat.le_refl _) _
  obtain ⟨n, hn9⟩ : ∃ n, L.length = n := ⟨_, rfl⟩
  rw [hn9] at hn hm HP HS ⊢
  cases hh : hitB (fstL L) n key p with
  | false =>
    rw [hh] at hm
    have hm2 : heldM L key = (e0, false) := hm
    rw [hm2]
    have HT : Hid (hitB (fstL L) n key p = false) := hh
    clear hm hm2 hh hp h hn9
    go_enter Tryz.func92, Tryz.ntmps92
    go_wp2_with fail
    refine (pairPlace a n c (fstL L) (sndL L) key p _ hn HP.out (HS.out.below A0.out)).mono ?_
    rintro e w1 ⟨rfl, hb1⟩
    rw [HT.out]
    have B1 : Hid (Below w.heap.size w w1) := Below.new hb1
    have X1 : Box w1 w.heap.size [.string ⟨#[]⟩, .bool false] := Box.below (Box.new rfl) hb1
    obtain ⟨p0, f0⟩ := X1 0 _ rfl
    obtain ⟨p1, f1⟩ := (X1.set 0 (.string ⟨#[]⟩)) 1 _ rfl
    have X3 := (X1.set 0 (.string ⟨#[]⟩)).set 1 (.bool false)
    obtain ⟨r0, _⟩ := X3 0 _ rfl
    obtain ⟨r1, _⟩ := X3 1 _ rfl
    clear X3 X1 hb1
    have B3 : Hid (Below w.heap.size w ((w1.setCell ⟨w.heap.size, 0, none⟩ (.string ⟨#[]⟩)).setCell ⟨w.heap.size, 1, none⟩ (.bool false))) := (B1.out.setCell (Nat.le_refl _) _).setCell (Nat.le_refl _) _
    go_wp2_with fail
    exact bodyPost_ret (v := .agg #[.string ⟨#[]⟩, .bool false]) (by simp [results, Tryz.results92, go_sem, r0, r1]) rfl ⟨rfl, B3.out⟩
  | true =>
    rw [hh] at hm
    have hm2 : heldM L key = (sndL L p, true) := hm
    rw [hm2]
    have HT : Hid (hitB (fstL L) n key p = true) := hh
    have hlt : p < n := by unfold hitB at hh; simp at hh; exact hh.1
    have hpi : (p : Int) < (n : Int) := by omega
    have hp0 : (0 : Int) ≤ (p : Int) := by omega
    obtain ⟨x, hx⟩ : ∃ x, sndL L p = x := ⟨_, rfl⟩
    have HX : Hid (sndL L p = x) := hx
    obtain ⟨b, o, rfl⟩ : ∃ b o, a = some ⟨b, o, none⟩ := by
      rcases HS.out with h0 | ⟨b, o, e, _⟩
      · omega
      · exact ⟨b, o, e⟩
    rw [hx]
    clear hm hm2 hh hp h hn9 hx
    go_enter Tryz.func92, Tryz.ntmps92
    go_wp2_with fail
    refine (pairPlace _ n c (fstL L) (sndL L) key p _ hn HP.out (HS.out.below A0.out)).mono ?_
    rintro e w1 ⟨rfl, hb1⟩
    rw [HT.out]
    have B1 : Hid (Below w.heap.size w w1) := Below.new hb1
    have hc : w1.cell? ⟨b, o + p * 2 + 1, none⟩ = some (.string x) := by
      rcases HS.out.below B1.out with h0 | ⟨b', o', e, hcc⟩
      · omega
      · cases e
        rw [← HX.out]
        exact (hcc p hlt).2
    have X1 : Box w1 w.heap.size [.string ⟨#[]⟩, .bool false] := Box.below (Box.new rfl) hb1
    obtain ⟨p0, f0⟩ := X1 0 _ rfl
    obtain ⟨p1, f1⟩ := (X1.set 0 (.string x)) 1 _ rfl
    have X3 := (X1.set 0 (.string x)).set 1 (.bool true)
    obtain ⟨r0, _⟩ := X3 0 _ rfl
    obtain ⟨r1, _⟩ := X3 1 _ rfl
    clear X3 X1 hb1
    have B3 : Hid (Below w.heap.size w ((w1.setCell ⟨w.heap.size, 0, none⟩ (.string x)).setCell ⟨w.heap.size, 1, none⟩ (.bool true))) := (B1.out.setCell (Nat.le_refl _) _).setCell (Nat.le_refl _) _
    go_wp2_with fail
    exact bodyPost_ret (v := .agg #[.string x, .bool true]) (by simp [results, Tryz.results92, go_sem, r0, r1]) rfl ⟨rfl, B3.out⟩
end Go.Proofs.YtmbndpgoihdpnaaGreatDoor
