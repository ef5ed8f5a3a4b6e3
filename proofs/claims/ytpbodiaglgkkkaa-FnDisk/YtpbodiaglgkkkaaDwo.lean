
/-
  A write leaves an owned disk an owned disk. By an AI agent.
-/
import Derived.Test.YtpbodiaglgkkkaaDwr
namespace Go.Proofs.Ytpbodiaglgkkkaa
open Go.ChangeShapes Go.WideShapes Go.ChangeAt Go.RowKit Go.Deep
set_option linter.unusedVariables false
set_option maxRecDepth 100000

set_option maxHeartbeats 2000000 in
theorem l02WriteO (v : Value) (D : DM) (x : Int) (y : ByteArray) (lo hi : Nat) (w : World) (hs : smallD D) (hlo : lo ≤ w.heap.size) (hO : OwnsD w lo hi v D) :
    Calls Try.prog 24 #[v, .int .i64 x, .string y] w fun e w' => ∃ v', e = .returned v' ∧ OwnsD w' lo w'.heap.size v' (moreC D (x, y)) ∧ Below w.heap.size w w' := by
  have HO : Hid (OwnsD w lo hi v D) := hO
  have h := hO.reads
  clear hO
  obtain ⟨a1, c1, a2, c2, a3, c3, rfl, s1, s2, s3⟩ := h
  have HS : Hid (smallD D) := hs
  have HRD : Hid (ReadsD w (.agg #[.slice a1 D.S.length c1, .slice a2 D.C.length c2, .bool D.A, .slice a3 D.K.length c3]) D) := ⟨a1, c1, a2, c2, a3, c3, rfl, s1, s2, s3⟩
  have S1 : Hid (Src w a1 (cellsS D.S)) := s1
  have S2 : Hid (Src w a2 (cellsQ D.C)) := s2
  have S3 : Hid (Src w a3 (cellsI D.K)) := s3
  clear s1 s2 s3 hs
  obtain ⟨n2, hn2⟩ : ∃ n, D.C.length = n := ⟨_, rfl⟩
  rw [hn2]
  have N2 : Hid (D.C.length = n2) := hn2
  have Z2 : n2 ≤ 1048576 := by rw [← hn2]; exact HS.out.2.1.1
  have LL : Hid ((cellsQ D.C).length = n2 * 2) := by show _ = _; rw [cellsQ_length, N2.out]
  clear hn2
  go_enter Try.func24, Try.ntmps24
  go_wp2_with (at_builtin; refine wpList_append_src _ rfl (.tmp 7) (.tmp 9) 24 rfl (w.heap.size + 2) 47 (.agg #[.int .i64 0, .string ⟨#[]⟩]) 2 24 Try.underlying24 infoQ rfl (by decide) (by decide) _ 0 [] rfl (own_empty (by simp) (by simp)) a2 n2 c2 (cellsQ D.C) rfl LL.out (S2.out.below ((((Below.refl _ _).alloc (Nat.le_refl _) _).alloc (by simp) _).alloc (by simp; omega) _)) (cellsQ_one _) (by omega) (by simp) ?_)
  intro v1 w1 hown1 hgrow1
  have o1 : w1.ownsRow (w.heap.size + 2) 47 2 v1 n2 (cellsQ D.C) := by simpa using hown1
  have hb1 := below_append hgrow1 (fun g e => by cases e; simp)
  clear hown1 hgrow1
  have B1 : Hid (Below w.heap.size w w1) := (((Below.refl _ _).alloc (Nat.le_refl _) _).alloc (by simp) _).trans (hb1.mono (by simp; omega))
  have HA : Hid (Box w1 w.heap.size [.slice a1 D.S.length c1, .slice a2 n2 c2, .bool D.A, .slice a3 D.K.length c3]) := Box.below ((Box.new rfl).old _) hb1
  have HR : Hid (Box w1 (w.heap.size + 1) [.slice none 0 0, .slice none 0 0, .bool false, .slice none 0 0]) := Box.below (Box.new (by simp)) hb1
  obtain ⟨b1, d1, rfl, _, _⟩ := own_src o1
  have O1 : Hid (w1.ownsRow (w.heap.size + 2) 47 2 (.slice b1 n2 d1) n2 (cellsQ D.C)) := o1
  have X1 : Hid (w.heap.size + 2 ≤ w1.heap.size) := World.block_lt_of_cell? _ _ (HR.out 0 _ rfl).1
  clear o1 hb1
  go_wp2_with (at_builtin; refine wpList_append_src _ rfl (.tmp 10) (.tmp 14) 24 rfl (w.heap.size + 2) 47 (.agg #[.int .i64 0, .string ⟨#[]⟩]) 2 24 Try.underlying24 infoQ rfl (by decide) (by decide) _ n2 (cellsQ D.C) rfl (O1.out.alloc _) (some ⟨w1.heap.size, 0, none⟩) 1 1 (cellsQ [(x, y)]) rfl rfl (src_one rfl) (cellsQ_one _) (by omega) (le_alloc X1.out _) ?_)
  intro v2 w2 hown2 hgrow2
  have o2 : w2.ownsRow (w.heap.size + 2) 47 2 v2 (n2 + 1) (cellsQ (D.C ++ [(x, y)])) := by rw [cellsQ_append]; exact hown2
  have hne : ∀ g, (Value.slice b1 n2 d1).ownBlock = some g → w.heap.size + 2 ≤ g := fun g e => (O1.out.lt g e).1
  have B2 : Hid (Below w.heap.size w w2) := (B1.out.alloc B1.out.size _).grown hgrow2 (le_alloc B1.out.size _) (fun g e => by have := hne g e; omega)
  have HA2 : Hid (Box w2 w.heap.size [.slice a1 D.S.length c1, .slice a2 n2 c2, .bool D.A, .slice a3 D.K.length c3]) := Box.grown (HA.out.old _) hgrow2 (fun e => by have := hne _ e; omega)
  have HR2 : Hid (Box w2 (w.heap.size + 1) [.slice none 0 0, .slice none 0 0, .bool false, .slice none 0 0]) := Box.grown (HR.out.old _) hgrow2 (fun e => by have := hne _ e; omega)
  obtain ⟨b2, d2, rfl, _, _⟩ := own_src o2
  have O2 : Hid (w2.ownsRow (w.heap.size + 2) 47 2 (.slice b2 (n2 + 1) d2) (n2 + 1) (cellsQ (D.C ++ [(x, y)]))) := o2
  clear hown2 hgrow2 hne o2 HA HR B1 O1
  obtain ⟨q1', q1f⟩ := HA2.out 1 _ rfl
  have HA5 : Hid (Box (w2.setCell ⟨w.heap.size, 1, none⟩ (.slice b2 (n2 + 1) d2)) w.heap.size [.slice a1 D.S.length c1, .slice b2 (n2 + 1) d2, .bool D.A, .slice a3 D.K.length c3]) := HA2.out.set 1 _
  have HR5 : Hid (Box (w2.setCell ⟨w.heap.size, 1, none⟩ (.slice b2 (n2 + 1) d2)) (w.heap.size + 1) [.slice none 0 0, .slice none 0 0, .bool false, .slice none 0 0]) := HR2.out.other _ (by dsimp only; omega) _
  obtain ⟨f0, _⟩ := HA5.out 0 _ rfl
  obtain ⟨f1, _⟩ := HA5.out 1 _ rfl
  obtain ⟨f2, _⟩ := HA5.out 2 _ rfl
  obtain ⟨f3, _⟩ := HA5.out 3 _ rfl
  obtain ⟨⟨g0, h0⟩, ⟨g1, h1⟩, ⟨g2, h2⟩, ⟨g3, h3⟩, r0, r1, r2, r3⟩ := HR5.out.w4in (.slice a1 D.S.length c1) (.slice b2 (n2 + 1) d2) (.bool D.A) (.slice a3 D.K.length c3)
  go_wp2_with fail
  have BF : Below w.heap.size w (W4 (w2.setCell ⟨w.heap.size, 1, none⟩ (.slice b2 (n2 + 1) d2)) (w.heap.size + 1) (.slice a1 D.S.length c1) (.slice b2 (n2 + 1) d2) (.bool D.A) (.slice a3 D.K.length c3)) := Below.w4 (Below.setCell (p := ⟨w.heap.size, 1, none⟩) B2.out (by dsimp only; omega) _) (by omega) _ _ _ _
  have OF := own_w4 (own_setLow (a := ⟨w.heap.size, 1, none⟩) O2.out (by dsimp only; omega) (.slice b2 (n2 + 1) d2)) (B := w.heap.size + 1) (by omega) (.slice a1 D.S.length c1) (.slice b2 (n2 + 1) d2) (.bool D.A) (.slice a3 D.K.length c3)
  refine bodyPost_ret (v := .agg #[.slice a1 D.S.length c1, .slice b2 (n2 + 1) d2, .bool D.A, .slice a3 D.K.length c3]) (by simp [results, Try.results24, go_sem, r0, r1, r2, r3]) rfl ⟨_, rfl, ?_, BF⟩
  obtain ⟨v1, v2, v3, ev, ⟨k1, _⟩, _, k3, _⟩ := HO.out
  simp only [Value.agg.injEq, Array.mk.injEq, List.cons.injEq, and_true] at ev
  obtain ⟨rfl, -, -, rfl⟩ := ev
  refine OwnsD.mk rfl (own_below k1 BF) ?_ (own_below k3 BF) (Nat.le_refl _)
  have e9 : (moreC D (x, y)).C.length = n2 + 1 := by simp [moreC, N2.out]
  rw [e9]
  exact own_mono OF (by omega)
end Go.Proofs.Ytpbodiaglgkkkaa
