
/-
  What stands at a key, by the program's heldAt; the desk of a list. By an AI agent.
-/
import Derived.Test.YthgbclipknfmjaaGreatDoorLay
import Derived.Carry
namespace Go.Proofs.YthgbclipknfmjaaGreatDoor
open Go.ChangeShapes Go.WideShapes Go.ChangeAt Go.RowKit Go.Deep Go.Lib
open Go.ChangeMaps (setBlock)
set_option linter.unusedVariables false
set_option linter.unusedSimpArgs false
set_option maxRecDepth 100000

set_option maxHeartbeats 1000000 in
theorem heldI (a : Option Addr) (n c : Nat) (L : List PM) (key : ByteArray) (w : World) (hL : L.length = n) (hn : n ≤ 1048576) (hu : UpL L) (h : Src w a (cellsP L)) :
    Calls Tryz.prog 113 #[.slice a n c, .string key] w fun e w' => e = .returned (.agg #[.string ((getM L key).getD e0), .bool (getM L key).isSome]) ∧ Below w.heap.size w w' := by
  subst hL
  obtain ⟨p, hp⟩ := place_exists (fK L) key L.length
  obtain ⟨hm1, hm2⟩ := hit_get hu hp
  have HP : Hid (IsPlace (fK L) L.length key p) := hp
  have HS : Hid (Sp w a L.length (fK L) (fV L)) := sp_src h rfl
  have A0 : Hid (Below w.heap.size w (w.alloc (.cells #[.string ⟨#[]⟩, .bool false] 131))) := (Below.refl _ _).alloc (Nat.le_refl _) _
  obtain ⟨n, hn9⟩ : ∃ n, L.length = n := ⟨_, rfl⟩
  rw [hn9] at hn hm1 hm2 HP HS ⊢
  rw [← hm1, ← hm2]
  cases hh : hitB (fK L) n key p with
  | false =>
    have hm3 : gotV (fK L) (fV L) n key p = ⟨#[]⟩ := by unfold gotV; rw [hh]; rfl
    rw [hm3]
    have HT : Hid (hitB (fK L) n key p = false) := hh
    clear hm1 hm2 hm3 hh hp h hn9
    go_enter Tryz.func113, Tryz.ntmps113
    go_wp2_with fail
    refine (pairPlace a n c (fK L) (fV L) key p _ hn HP.out (HS.out.below A0.out)).mono ?_
    rintro e w1 ⟨rfl, hb1⟩
    rw [HT.out]
    have B1 : Hid (Below w.heap.size w w1) := A0.out.trans (hb1.mono A0.out.size)
    have X1 : Box w1 w.heap.size [.string ⟨#[]⟩, .bool false] := Box.below (Box.new rfl) hb1
    obtain ⟨p0, f0⟩ := X1 0 _ rfl
    obtain ⟨p1, f1⟩ := (X1.set 0 (.string ⟨#[]⟩)) 1 _ rfl
    have X3 := (X1.set 0 (.string ⟨#[]⟩)).set 1 (.bool false)
    obtain ⟨r0, _⟩ := X3 0 _ rfl
    obtain ⟨r1, _⟩ := X3 1 _ rfl
    clear X3 X1 hb1
    have B3 : Hid (Below w.heap.size w ((w1.setCell ⟨w.heap.size, 0, none⟩ (.string ⟨#[]⟩)).setCell ⟨w.heap.size, 1, none⟩ (.bool false))) := (B1.out.setCell (Nat.le_refl _) _).setCell (Nat.le_refl _) _
    go_wp2_with fail
    exact bodyPost_ret (v := .agg #[.string ⟨#[]⟩, .bool false]) (by simp [results, Tryz.results113, go_sem, r0, r1]) rfl ⟨rfl, B3.out⟩
  | true =>
    have hm3 : gotV (fK L) (fV L) n key p = fV L p := by unfold gotV; rw [hh]; rfl
    rw [hm3]
    have HT : Hid (hitB (fK L) n key p = true) := hh
    have hlt : p < n := by unfold hitB at hh; simp at hh; exact hh.1
    have hpi : (p : Int) < (n : Int) := by omega
    have hp0 : (0 : Int) ≤ (p : Int) := by omega
    obtain ⟨x, hx⟩ : ∃ x, fV L p = x := ⟨_, rfl⟩
    have HX : Hid (fV L p = x) := hx
    obtain ⟨b, o, rfl⟩ : ∃ b o, a = some ⟨b, o, none⟩ := by
      rcases HS.out with h0 | ⟨b, o, e, _⟩
      · omega
      · exact ⟨b, o, e⟩
    rw [hx]
    clear hm1 hm2 hm3 hh hp h hn9 hx
    go_enter Tryz.func113, Tryz.ntmps113
    go_wp2_with fail
    refine (pairPlace _ n c (fK L) (fV L) key p _ hn HP.out (HS.out.below A0.out)).mono ?_
    rintro e w1 ⟨rfl, hb1⟩
    rw [HT.out]
    have B1 : Hid (Below w.heap.size w w1) := A0.out.trans (hb1.mono A0.out.size)
    have hc : w1.cell? ⟨b, o + p * 2 + 1, none⟩ = some (.string x) := by
      rcases HS.out.below B1.out with h0 | ⟨b', o', e, hcc⟩
      · omega
      · cases e
        rw [← HX.out]
        exact (hcc p hlt).2
    have X1 : Box w1 w.heap.size [.string ⟨#[]⟩, .bool false] := Box.below (Box.new rfl) hb1
    obtain ⟨p0, f0⟩ := X1 0 _ rfl
    obtain ⟨p1, f1⟩ := (X1.set 0 (.string x)) 1 _ rfl
    have X3 := (X1.set 0 (.string x)).set 1 (.bool true)
    obtain ⟨r0, _⟩ := X3 0 _ rfl
    obtain ⟨r1, _⟩ := X3 1 _ rfl
    clear X3 X1 hb1
    have B3 : Hid (Below w.heap.size w ((w1.setCell ⟨w.heap.size, 0, none⟩ (.string x)).setCell ⟨w.heap.size, 1, none⟩ (.bool true))) := (B1.out.setCell (Nat.le_refl _) _).setCell (Nat.le_refl _) _
    go_wp2_with fail
    exact bodyPost_ret (v := .agg #[.string x, .bool true]) (by simp [results, Tryz.results113, go_sem, r0, r1]) rfl ⟨rfl, B3.out⟩
theorem ret_desk {a b : Option Addr} {k l : Bool} (h1 : a = b) (h2 : k = l) : Ending.returned (.tuple #[.pointer a, .bool k]) = .returned (.tuple #[.pointer b, .bool l]) := by rw [h1, h2]
set_option maxHeartbeats 1000000 in
theorem deskI (a : Option Addr) (n c : Nat) (L : List PM) (w : World) (hL : L.length = n) (hg : GoodL L) (h : Src w a (cellsP L)) (hG : Gl w) (h8 : 8 ≤ w.heap.size) (bb : Bool) (HB : Hid (inB (numB ((getM L vK).getD e0).data.toList) 1 10000 = bb)) :
    Calls Tryz.prog 59 #[.slice a n c] w fun e w' => ∃ (nx : Int) (M : Nat), e = .returned (.tuple #[.pointer (some ⟨M + 1, 0, none⟩), .bool bb]) ∧ NumPost (numB ((getM L vK).getD e0).data.toList) nx ∧ w.heap.size ≤ M ∧ DeskAt w' M ⟨a, n, c, .slice none 0 0, [], nx, ⟨#[]⟩, ⟨#[]⟩, []⟩ ∧ Below w.heap.size w w' := by
  have CH := heldI a n c L vK w hL (by have := hg.1; omega) hg.2.2 h
  have hz := getM_size hg vK
  obtain ⟨v, hv⟩ : ∃ v, (getM L vK).getD e0 = v := ⟨_, rfl⟩
  obtain ⟨v2, hv2⟩ : ∃ v, (getM L vK).isSome = v := ⟨_, rfl⟩
  rw [hv] at CH HB hz ⊢
  rw [hv2] at CH
  have hmm := @run_makeMap Tryz.prog
  have hfl : ∀ W, (Instr.field 131 (.agg #[.string v, .bool v2]) 0).run Tryz.prog W = .ok (.string v) W := fun W => by
    kernel_rfl
  have HG : Hid (Gl w) := hG
  clear hL hg h hv hv2 hG
  go_enter Tryz.func59, Tryz.ntmps59
  go_wp2_with fail
  refine CH.mono ?_
  rintro e w1 ⟨rfl, hb1⟩
  have B1 : Hid (Below w.heap.size w w1) := hb1
  have CN := numberWithinI v 1 10000 w1 (by omega) (HG.out.below h8 hb1) (by have := hb1.size; omega) bb HB
  clear hb1 CH
  go_wp2_with fail
  refine CN.mono ?_
  rintro e w2 ⟨nx, rfl, hnp, hb2⟩
  have B2 : Hid (Below w.heap.size w w2) := B1.out.trans (hb2.mono B1.out.size)
  have HN : Hid (NumPost (numB v.data.toList) nx) := hnp
  clear hb2 CN hnp
  go_wp2_with fail
  have A2 : Below (w2.alloc (.map #[] 0)).heap.size (w2.alloc (.map #[] 0)) ((w2.alloc (.map #[] 0)).alloc (.cells #[.slice a n c, .slice none 0 0, .int .i64 nx, .string ⟨#[]⟩, .string ⟨#[]⟩, .map (some w2.heap.size)] 88)) := (Below.refl _ _).alloc (Nat.le_refl _) _
  have hm : MapIs (w2.alloc (.map #[] 0)) w2.heap.size 0 [] := ⟨heap_alloc_new w2 _, fun x hx => (by cases hx), List.nodup_nil⟩
  refine bodyPost_ret (v := .tuple #[.pointer (some ⟨w2.heap.size + 1, 0, none⟩), .bool bb]) (by simp [results, Tryz.results59, go_sem]) rfl ?_
  exact ⟨nx, w2.heap.size, rfl, HN.out, B2.out.size, ⟨Box.new (by simp), ⟨0, hm.later A2⟩, World.ownsRow_nil _ _ _ _, fun x hx => (by cases hx), List.Pairwise.nil⟩, (B2.out.alloc B2.out.size _).alloc (by have := B2.out.size; simp; omega) _⟩
end Go.Proofs.YthgbclipknfmjaaGreatDoor
