
/-
  Contracts of the specification's helpers that copy disks. By an AI agent.
-/
import Derived.Test.YtpbodiaglgkkkaaDown
namespace Go.Proofs.Ytpbodiaglgkkkaa
open Go.ChangeShapes Go.WideShapes Go.ChangeAt Go.RowKit Go.Deep
set_option linter.unusedVariables false

set_option maxHeartbeats 1000000 in
theorem l02Own (v : Value) (D : DM) (w : World) (hs : smallD D) (h : ReadsD w v D) :
    Calls Try.prog 23 #[v] w fun e w' => ∃ v', e = .returned v' ∧ OwnsD w' w.heap.size w'.heap.size v' D ∧ Below w.heap.size w w' := by
  obtain ⟨a1, c1, a2, c2, a3, c3, rfl, s1, s2, s3⟩ := h
  have HS : Hid (smallD D) := hs
  have S1 : Hid (Src w a1 (cellsS D.S)) := s1
  have S2 : Hid (Src w a2 (cellsQ D.C)) := s2
  have S3 : Hid (Src w a3 (cellsI D.K)) := s3
  obtain ⟨n1, hn1⟩ : ∃ n, D.S.length = n := ⟨_, rfl⟩
  obtain ⟨n2, hn2⟩ : ∃ n, D.C.length = n := ⟨_, rfl⟩
  obtain ⟨n3, hn3⟩ : ∃ n, D.K.length = n := ⟨_, rfl⟩
  obtain ⟨A, hA⟩ : ∃ A, D.A = A := ⟨_, rfl⟩
  rw [hn1, hn2, hn3, hA]
  have N1 : Hid (D.S.length = n1) := hn1
  have N2 : Hid (D.C.length = n2) := hn2
  have N3 : Hid (D.K.length = n3) := hn3
  have NA : Hid (D.A = A) := hA
  clear hs s1 s2 s3 hn1 hn2 hn3 hA
  go_enter Try.func23, Try.ntmps23
  have Z1 : n1 ≤ 1048576 := by have := HS.out.1.1; rw [N1.out] at this; exact this
  have LL1 : Hid ((cellsS D.S).length = n1 * 1) := by show _ = _; rw [cellsS_length, N1.out]; omega
  go_wp2_with (at_builtin; refine wpList_append_src _ rfl _ _ 23 rfl (w.heap.size + 2) 9 (.string ⟨#[]⟩) 1 16 Try.underlying23 infoS rfl (by decide) (by decide) _ 0 [] rfl (own_empty (by simp) (by simp)) a1 n1 c1 (cellsS D.S) rfl LL1.out (S1.out.below (((((Below.refl _ _).alloc (Nat.le_refl _) _).alloc (by simp) _)).alloc (by simp; omega) _)) (cellsS_one _) (by omega) (by simp) ?_)
  intro v1 w1 hown1 hgrow1
  have o1 : w1.ownsRow (w.heap.size + 2) 9 1 v1 n1 (cellsS D.S) := by simpa using hown1
  have hb1 := below_append hgrow1 (fun g e => by cases e; simp)
  clear hown1 hgrow1 Z1 LL1
  obtain ⟨b1, d1, rfl, _, _⟩ := own_src o1
  have B1 : Hid (Below w.heap.size w w1) := (((Below.refl _ _).alloc (Nat.le_refl _) _).alloc (by simp) _).trans (hb1.mono (by simp; omega))
  have HA : Hid (Box w1 w.heap.size [.slice a1 n1 c1, .slice a2 n2 c2, .bool A, .slice a3 n3 c3]) := Box.below ((Box.new rfl).old _) hb1
  have HR : Hid (Box w1 (w.heap.size + 1) [.slice none 0 0, .slice none 0 0, .bool false, .slice none 0 0]) := Box.below (Box.new (by simp)) hb1
  have O1 : Hid (w1.ownsRow (w.heap.size + 2) 9 1 (.slice b1 n1 d1) n1 (cellsS D.S)) := o1
  clear o1 hb1
  have HA1 : Hid (Box (w1.setCell ⟨w.heap.size, 0, none⟩ (.slice b1 n1 d1)) w.heap.size [.slice b1 n1 d1, .slice a2 n2 c2, .bool A, .slice a3 n3 c3]) := HA.out.set 0 _
  obtain ⟨q0', q0f⟩ := HA.out 0 _ rfl
  obtain ⟨p1, _⟩ := (HA1.out.old (.cells #[] 47)) 1 _ rfl
  have B1' : Hid (Below w.heap.size w (w1.setCell ⟨w.heap.size, 0, none⟩ (.slice b1 n1 d1))) := Below.setCell (p := ⟨w.heap.size, 0, none⟩) B1.out (by dsimp only; omega) _
  have Y1 : Hid (w.heap.size + 2 ≤ w1.heap.size) := World.block_lt_of_cell? _ _ (HR.out 0 _ rfl).1
  have Z2 : n2 ≤ 1048576 := by have := HS.out.2.1.1; rw [N2.out] at this; exact this
  have LL2 : Hid ((cellsQ D.C).length = n2 * 2) := by show _ = _; rw [cellsQ_length, N2.out]
  go_wp2_with (at_builtin; refine wpList_append_src _ rfl _ _ 24 rfl (w.heap.size + 2) 47 (.agg #[.int .i64 0, .string ⟨#[]⟩]) 2 24 Try.underlying24 infoQ rfl (by decide) (by decide) _ 0 [] rfl (own_empty (by simp) (by simp; exact Y1.out)) a2 n2 c2 (cellsQ D.C) rfl LL2.out (S2.out.below ((B1'.out).alloc (B1'.out).size _)) (cellsQ_one _) (by omega) (by simp; have := Y1.out; omega) ?_)
  intro v2 w2 hown2 hgrow2
  have o2 : w2.ownsRow (w.heap.size + 2) 47 2 v2 n2 (cellsQ D.C) := by simpa using hown2
  have hb2 := below_append hgrow2 (fun g e => by cases e; simp)
  clear hown2 hgrow2 Z2 LL2
  obtain ⟨b2, d2, rfl, _, _⟩ := own_src o2
  have B2 : Hid (Below w.heap.size w w2) := B1'.out.trans (hb2.mono B1'.out.size)
  have HA2 : Hid (Box w2 w.heap.size [.slice b1 n1 d1, .slice a2 n2 c2, .bool A, .slice a3 n3 c3]) := HA1.out.below hb2
  have HR2 : Hid (Box w2 (w.heap.size + 1) [.slice none 0 0, .slice none 0 0, .bool false, .slice none 0 0]) := (HR.out.other _ (by dsimp only; omega) _).below hb2
  have O12 : Hid (w2.ownsRow (w.heap.size + 2) 9 1 (.slice b1 n1 d1) n1 (cellsS D.S)) := own_below (own_setLow O1.out (by dsimp only; omega) _) hb2
  have X1 : Hid (w.heap.size + 2 ≤ w1.heap.size) := World.block_lt_of_cell? _ _ (HR.out 0 _ rfl).1
  have O22 : Hid (w2.ownsRow (w.heap.size + 2) 47 2 (.slice b2 n2 d2) n2 (cellsQ D.C)) := o2
  clear O1 HA HA1 HR B1 B1' o2 hb2 p1 q0' q0f X1
  have HA3 : Hid (Box (w2.setCell ⟨w.heap.size, 1, none⟩ (.slice b2 n2 d2)) w.heap.size [.slice b1 n1 d1, .slice b2 n2 d2, .bool A, .slice a3 n3 c3]) := HA2.out.set 1 _
  obtain ⟨q1', q1f⟩ := HA2.out 1 _ rfl
  obtain ⟨p3, _⟩ := (HA3.out.old (.cells #[] 3)) 3 _ rfl
  have B2' : Hid (Below w.heap.size w (w2.setCell ⟨w.heap.size, 1, none⟩ (.slice b2 n2 d2))) := Below.setCell (p := ⟨w.heap.size, 1, none⟩) B2.out (by dsimp only; omega) _
  have Y2 : Hid (w.heap.size + 2 ≤ w2.heap.size) := World.block_lt_of_cell? _ _ (HR2.out 0 _ rfl).1
  have Z3 : n3 ≤ 1048576 := by have := HS.out.2.2; rw [N3.out] at this; exact this
  have LL3 : Hid ((cellsI D.K).length = n3 * 1) := by show _ = _; rw [cellsI_length, N3.out]; omega
  go_wp2_with (at_builtin; refine wpList_append_src _ rfl _ _ 25 rfl (w.heap.size + 2) 3 (.int .i64 0) 1 8 Try.underlying25 infoI rfl (by decide) (by decide) _ 0 [] rfl (own_empty (by simp) (by simp; exact Y2.out)) a3 n3 c3 (cellsI D.K) rfl LL3.out (S3.out.below ((B2'.out).alloc (B2'.out).size _)) (cellsI_one _) (by omega) (by simp; have := Y2.out; omega) ?_)
  intro v3 w3 hown3 hgrow3
  have o3 : w3.ownsRow (w.heap.size + 2) 3 1 v3 n3 (cellsI D.K) := by simpa using hown3
  have hb3 := below_append hgrow3 (fun g e => by cases e; simp)
  clear hown3 hgrow3 Z3 LL3
  obtain ⟨b3, d3, rfl, _, _⟩ := own_src o3
  have B3 : Hid (Below w.heap.size w w3) := B2'.out.trans (hb3.mono B2'.out.size)
  have HA4 : Hid (Box w3 w.heap.size [.slice b1 n1 d1, .slice b2 n2 d2, .bool A, .slice a3 n3 c3]) := HA3.out.below hb3
  have HR3 : Hid (Box w3 (w.heap.size + 1) [.slice none 0 0, .slice none 0 0, .bool false, .slice none 0 0]) := (HR2.out.other _ (by dsimp only; omega) _).below hb3
  have O13 : Hid (w3.ownsRow (w.heap.size + 2) 9 1 (.slice b1 n1 d1) n1 (cellsS D.S)) := own_below (own_setLow O12.out (by dsimp only; omega) _) hb3
  have O23 : Hid (w3.ownsRow (w.heap.size + 2) 47 2 (.slice b2 n2 d2) n2 (cellsQ D.C)) := own_below (own_setLow O22.out (by dsimp only; omega) _) hb3
  have X2 : Hid (w.heap.size + 2 ≤ w2.heap.size) := World.block_lt_of_cell? _ _ (HR2.out 0 _ rfl).1
  have O33 : Hid (w3.ownsRow (w.heap.size + 2) 3 1 (.slice b3 n3 d3) n3 (cellsI D.K)) := o3
  clear O12 O22 HA2 HA3 HR2 B2 B2' o3 hb3 p3 q1' q1f X2
  obtain ⟨q3', q3f⟩ := HA4.out 3 _ rfl
  have HA5 : Hid (Box (w3.setCell ⟨w.heap.size, 3, none⟩ (.slice b3 n3 d3)) w.heap.size [.slice b1 n1 d1, .slice b2 n2 d2, .bool A, .slice b3 n3 d3]) := HA4.out.set 3 _
  have HR5 : Hid (Box (w3.setCell ⟨w.heap.size, 3, none⟩ (.slice b3 n3 d3)) (w.heap.size + 1) [.slice none 0 0, .slice none 0 0, .bool false, .slice none 0 0]) := HR3.out.other _ (by dsimp only; omega) _
  obtain ⟨f0, _⟩ := HA5.out 0 _ rfl
  obtain ⟨f1, _⟩ := HA5.out 1 _ rfl
  obtain ⟨f2, _⟩ := HA5.out 2 _ rfl
  obtain ⟨f3, _⟩ := HA5.out 3 _ rfl
  obtain ⟨⟨g0, h0⟩, ⟨g1, h1⟩, ⟨g2, h2⟩, ⟨g3, h3⟩, r0, r1, r2, r3⟩ := HR5.out.w4in (.slice b1 n1 d1) (.slice b2 n2 d2) (.bool A) (.slice b3 n3 d3)
  go_wp2_with fail
  refine bodyPost_ret (v := .agg #[.slice b1 n1 d1, .slice b2 n2 d2, .bool A, .slice b3 n3 d3]) (by simp [results, Try.results23, go_sem, r0, r1, r2, r3]) rfl ⟨_, rfl, ?_, ?_⟩
  · refine OwnsD.mk NA.out ?_ ?_ ?_ (Nat.le_refl _)
    · rw [N1.out]
      exact own_mono (own_w4 (own_setLow O13.out (by dsimp only; omega) _) (by omega) _ _ _ _) (by omega)
    · rw [N2.out]
      exact own_mono (own_w4 (own_setLow O23.out (by dsimp only; omega) _) (by omega) _ _ _ _) (by omega)
    · rw [N3.out]
      exact own_mono (own_w4 (own_setLow O33.out (by dsimp only; omega) _) (by omega) _ _ _ _) (by omega)
  · exact Below.w4 (Below.setCell (p := ⟨w.heap.size, 3, none⟩) B3.out (by dsimp only; omega) _) (by omega) _ _ _ _
end Go.Proofs.Ytpbodiaglgkkkaa
