
/-
  A disk drawn out of a code. By an AI agent.
-/
import Derived.Test.YtpbodiaglgkkkaaDraws5
namespace Go.Proofs.Ytpbodiaglgkkkaa
open Go.ChangeShapes Go.WideShapes Go.ChangeAt Go.RowKit Go.Deep
set_option linter.unusedVariables false
set_option maxRecDepth 100000

set_option maxHeartbeats 1000000 in
theorem specDiskOf (ca : Option Addr) (n cc : Nat) (C : List Nat) (w : World) (hC : C.length = n) (hn : n ≤ 1048576) (h8 : ∀ x ∈ C, x < 256) (hs : Src w ca (cellsB C)) :
    Calls Try.prog 4 #[.slice ca n cc] w fun e w' => ∃ v D, e = .returned v ∧ ReadsD w' v D ∧ okD D ∧ D.C.length ≤ 7 ∧ Below w.heap.size w w' := by
  go_enter Try.func4, Try.ntmps4
  go_wp2_with fail
  have A0 : Hid (Below w.heap.size w (w.alloc (.cells #[.slice none 0 0, .slice none 0 0, .bool false, .slice none 0 0] 27))) := (Below.refl _ _).alloc (Nat.le_refl _) _
  refine (l00Source ca n cc C _ hC hn h8 (hs.below A0.out)).mono ?_
  rintro e w1 ⟨rfl, hz1, hb1, hd1⟩
  have Z1 : Hid ((w.alloc (.cells #[.slice none 0 0, .slice none 0 0, .bool false, .slice none 0 0] 27)).heap.size = w.heap.size + 1) := by show _ = _; simp
  rw [Z1.out] at hz1 hb1 hd1 ⊢
  have D1 : Hid (DrawOK w1 (w.heap.size + 1) ca n cc 0 C) := hd1
  have B1 : Hid (Below w.heap.size w w1 ∧ w1.heap.size = w.heap.size + 1 + 1) := ⟨A0.out.trans (hb1.mono (Nat.le_succ _)), hz1⟩
  have X1 : Hid (Box w1 w.heap.size [.slice none 0 0, .slice none 0 0, .bool false, .slice none 0 0]) := Box.below (Box.new rfl) (by rw [Z1.out]; exact hb1)
  clear hd1 hb1 hz1
  go_wp2_with fail
  refine (drawDisk (w.heap.size + 1) n cc 0 ca C _ (by omega) D1.out).mono ?_
  rintro e w2 ⟨v2, D, rfl, o2, ok2, hc2, ht2⟩
  obtain ⟨e1, f1, e2, f2, e3, f3, rfl⟩ := o2.lit
  have X2 : Hid (Box w2 w.heap.size [.slice none 0 0, .slice none 0 0, .bool false, .slice none 0 0]) := X1.out.turned ht2 (.inl (by omega))
  have B2 : Hid (Below w.heap.size w w2) := Below.turned B1.out.1 ht2 (Nat.le_refl _) (Nat.le_succ _)
  have O2 : Hid (OwnsD w2 (w.heap.size + 1) w2.heap.size (.agg #[.slice e1 D.S.length f1, .slice e2 D.C.length f2, .bool D.A, .slice e3 D.K.length f3]) D) := o2.mono (by have := B1.out.2; omega) (Nat.le_refl _)
  have F2 : Hid (okD D ∧ D.C.length ≤ 7) := ⟨ok2, hc2⟩
  clear o2 ok2 hc2 ht2
  obtain ⟨⟨g0, h0⟩, ⟨g1, h1⟩, ⟨g2, h2⟩, ⟨g3, h3⟩, r0, r1, r2, r3⟩ := X2.out.w4in (.slice e1 D.S.length f1) (.slice e2 D.C.length f2) (.bool D.A) (.slice e3 D.K.length f3)
  go_wp2_with fail
  exact bodyPost_ret (v := .agg #[.slice e1 D.S.length f1, .slice e2 D.C.length f2, .bool D.A, .slice e3 D.K.length f3]) (by simp [results, Try.results4, go_sem, r0, r1, r2, r3]) rfl ⟨_, D, rfl, (O2.out.w4 (by omega) _ _ _ _).reads, F2.out.1, F2.out.2, Below.w4 B2.out (Nat.le_refl _) _ _ _ _⟩
end Go.Proofs.Ytpbodiaglgkkkaa
