/-
  Texts of the store, brought together: Rnq. By an AI agent.
-/
import Derived.Test.YtnnimocaanofjaaGreatDoorSt31
/-
  ReadNode of the program. By an AI agent.
-/
namespace Go.Proofs.YtnnimocaanofjaaGreatDoor
open Go.ChangeShapes Go.WideShapes Go.ChangeAt Go.RowKit Go.Deep
set_option linter.unusedVariables false
set_option linter.unusedSimpArgs false
set_option maxRecDepth 100000

theorem ownN0 (w : World) (lo hi : Nat) : OwnsN w lo hi (.agg #[.bool false, .slice none 0 0, .slice none 0 0, .slice none 0 0]) nm0 := ⟨_, _, _, rfl, ⟨World.ownsRow_nil _ _ _ _, fun k e => by cases e⟩, ⟨World.ownsRow_nil _ _ _ _, fun k e => by cases e⟩, World.ownsRow_nil _ _ _ _, fun k e => by cases e⟩

set_option maxHeartbeats 2000000 in
theorem implReadNode (b o n c : Nat) (B : List Nat) (w : World) (hB : B.length = n) (hn : n ≤ 1048576) (hc : n ≤ c) (hc2 : c ≤ maxLen) (h8 : ∀ x ∈ B, x < 256) (h : Src w (some ⟨b, o, none⟩) (cellsB B)) (hH : HasHalf w) :
    Calls Tryz.prog 141 #[.slice (some ⟨b, o, none⟩) n c] w fun e w' => ∃ u D q, e = .returned (.tuple #[u, .int .i64 q]) ∧ readN B = (D, q) ∧ OwnsN w' w.heap.size w'.heap.size u D ∧ Below w.heap.size w w' := by
  have A0 : Hid (Below w.heap.size w (w.alloc (.cells #[.bool false, .slice none 0 0, .slice none 0 0, .slice none 0 0] 137))) := (Below.refl _ _).alloc (Nat.le_refl _) _
  by_cases t1 : (65536 : Int) < (n : Int)
  · have F : Hid (readN B = (nm0, 2)) := by show _ = _; unfold readN; rw [if_pos (by rw [hB]; omega)]
    clear h h8 hB hH
    go_enter Tryz.func141, Tryz.ntmps141
    go_wp2_with fail
    exact bodyPost_ret (v := .tuple #[.agg #[.bool false, .slice none 0 0, .slice none 0 0, .slice none 0 0], .int .i64 2]) (by simp [results, Tryz.results141, go_sem]) rfl ⟨_, _, _, rfl, F.out, ownN0 _ _ _, A0.out⟩
  have N1 : Hid (¬ 65536 < B.length) := by show ¬ _; rw [hB]; omega
  have HS : Hid (Src w (some ⟨b, o, none⟩) (cellsB B)) := h
  have HB : Hid (B.length = n ∧ (∀ x ∈ B, x < 256) ∧ HasHalf w ∧ n ≤ c ∧ c ≤ maxLen) := ⟨hB, h8, hH, hc, hc2⟩
  obtain ⟨ok, hok⟩ : ∃ b, sealedB B = b := ⟨_, rfl⟩
  have HOK : Hid (sealedB B = ok) := hok
  clear h h8 hB hH hok
  go_enter Tryz.func141, Tryz.ntmps141
  go_wp2_with fail
  refine (unsealed b o n c B _ HB.out.1 (by omega) HB.out.2.2.2.1 HB.out.2.1 (HS.out.below A0.out) (HB.out.2.2.1.below A0.out)).mono ?_
  rw [HOK.out]
  rintro e w1 ⟨⟨u1, rfl, hu1⟩, hb1⟩
  have B1 : Hid (Below w.heap.size w w1) := Below.new hb1
  have X1 : Hid (Box w1 w.heap.size [.bool false, .slice none 0 0, .slice none 0 0, .slice none 0 0]) := Box.below (Box.new rfl) hb1
  have Z1 : Hid (w.heap.size + 1 ≤ w1.heap.size) := size_new hb1
  clear hb1
  cases ok with
  | false =>
    have F : Hid (readN B = (nm0, 8)) := by show _ = _; unfold readN; rw [if_neg N1.out, if_pos HOK.out]
    clear hu1
    obtain ⟨p0, pf0⟩ := (X1.out) 0 _ rfl
    obtain ⟨p1, pf1⟩ := ((X1.out).set 0 (.bool false)) 1 _ rfl
    obtain ⟨p2, pf2⟩ := (((X1.out).set 0 (.bool false)).set 1 (.slice none 0 0)) 2 _ rfl
    obtain ⟨p3, pf3⟩ := ((((X1.out).set 0 (.bool false)).set 1 (.slice none 0 0)).set 2 (.slice none 0 0)) 3 _ rfl
    have X8 := ((((X1.out).set 0 (.bool false)).set 1 (.slice none 0 0)).set 2 (.slice none 0 0)).set 3 (.slice none 0 0)
    obtain ⟨r0, _⟩ := X8 0 _ rfl
    obtain ⟨r1, _⟩ := X8 1 _ rfl
    obtain ⟨r2, _⟩ := X8 2 _ rfl
    obtain ⟨r3, _⟩ := X8 3 _ rfl
    clear X8
    have BE : Hid (Below w.heap.size w ((((w1.setCell ⟨w.heap.size, 0, none⟩ (.bool false)).setCell ⟨w.heap.size, 1, none⟩ (.slice none 0 0)).setCell ⟨w.heap.size, 2, none⟩ (.slice none 0 0)).setCell ⟨w.heap.size, 3, none⟩ (.slice none 0 0))) := (((B1.out.setCell (Nat.le_refl _) _).setCell (Nat.le_refl _) _).setCell (Nat.le_refl _) _).setCell (Nat.le_refl _) _
    go_wp2_with fail
    exact bodyPost_ret (v := .tuple #[.agg #[.bool false, .slice none 0 0, .slice none 0 0, .slice none 0 0], .int .i64 8]) (by simp [results, Tryz.results141, go_sem, r0, r1, r2, r3]) rfl ⟨_, _, _, rfl, F.out, ownN0 _ _ _, BE.out⟩
  | true =>
  obtain rfl := hu1 rfl
  have h4 : 4 ≤ n := by
    have h9 := HOK.out
    unfold sealedB at h9
    rw [Bool.and_eq_true, decide_eq_true_eq, HB.out.1] at h9
    exact h9.1
  obtain ⟨k, hk⟩ : ∃ k, n - 4 = k := ⟨_, rfl⟩
  have BD : Hid ((bodyB B).length = k ∧ (∀ x ∈ bodyB B, x < 256) ∧ Src w (some ⟨b, o, none⟩) (cellsB (bodyB B)) ∧ k ≤ c) := by
    refine ⟨by unfold bodyB; rw [List.length_take, HB.out.1]; omega, fun x hx => HB.out.2.1 x (List.mem_of_mem_take hx), ?_, by have := HB.out.2.2.2.1; omega⟩
    have h9 := HS.out.head (B.length - 4)
    have e9 : (cellsB B).take (B.length - 4) = cellsB (bodyB B) := by unfold bodyB cellsB; rw [List.map_take]
    rw [e9] at h9
    exact h9
  rw [hk]
  have hk9 : k ≤ 65536 := by omega
  clear hk h4 hu1
  have RN : Hid (readN B = match nodeA (bodyB B) with | none => (nm0, 3) | some D => if freeB D = true ∨ okB D = false then (nm0, 3) else (D, 0)) := by show _ = _; unfold readN; rw [if_neg N1.out, if_neg (by rw [HOK.out]; decide)]; rfl
  go_wp2_with fail
  refine (nodeOf b o k c (bodyB B) _ BD.out.1 hk9 BD.out.2.2.2 HB.out.2.2.2.2 BD.out.2.1 (BD.out.2.2.1.below B1.out)).mono ?_
  rintro e w2 ⟨hcase, hb2⟩
  have B2 : Hid (Below w.heap.size w w2) := B1.out.trans (hb2.mono B1.out.size)
  have X2 : Hid (Box w2 w.heap.size [.bool false, .slice none 0 0, .slice none 0 0, .slice none 0 0]) := X1.out.below hb2
  have Z2 : Hid (w.heap.size + 1 ≤ w2.heap.size) := by have := Z1.out; have := hb2.size; show _ ≤ _; omega
  rcases hcase with ⟨hA, rfl⟩ | ⟨D, u2, hA, rfl, hO⟩
  · have F : Hid (readN B = (nm0, 3)) := by show _ = _; rw [RN.out, hA]
    clear hA hb2
    have X9 : Box (w2.alloc (.cells #[.bool false, .slice none 0 0, .slice none 0 0, .slice none 0 0] 137)) w.heap.size [.bool false, .slice none 0 0, .slice none 0 0, .slice none 0 0] := X2.out.old _
    have B9 : Hid (Below w.heap.size w (w2.alloc (.cells #[.bool false, .slice none 0 0, .slice none 0 0, .slice none 0 0] 137))) := B2.out.alloc B2.out.size _
    obtain ⟨p0, pf0⟩ := (X9) 0 _ rfl
    obtain ⟨p1, pf1⟩ := ((X9).set 0 (.bool false)) 1 _ rfl
    obtain ⟨p2, pf2⟩ := (((X9).set 0 (.bool false)).set 1 (.slice none 0 0)) 2 _ rfl
    obtain ⟨p3, pf3⟩ := ((((X9).set 0 (.bool false)).set 1 (.slice none 0 0)).set 2 (.slice none 0 0)) 3 _ rfl
    have X8 := ((((X9).set 0 (.bool false)).set 1 (.slice none 0 0)).set 2 (.slice none 0 0)).set 3 (.slice none 0 0)
    obtain ⟨r0, _⟩ := X8 0 _ rfl
    obtain ⟨r1, _⟩ := X8 1 _ rfl
    obtain ⟨r2, _⟩ := X8 2 _ rfl
    obtain ⟨r3, _⟩ := X8 3 _ rfl
    clear X8
    have BE : Hid (Below w.heap.size w (((((w2.alloc (.cells #[.bool false, .slice none 0 0, .slice none 0 0, .slice none 0 0] 137)).setCell ⟨w.heap.size, 0, none⟩ (.bool false)).setCell ⟨w.heap.size, 1, none⟩ (.slice none 0 0)).setCell ⟨w.heap.size, 2, none⟩ (.slice none 0 0)).setCell ⟨w.heap.size, 3, none⟩ (.slice none 0 0))) := (((B9.out.setCell (Nat.le_refl _) _).setCell (Nat.le_refl _) _).setCell (Nat.le_refl _) _).setCell (Nat.le_refl _) _
    clear X9
    go_wp2_with fail
    exact bodyPost_ret (v := .tuple #[.agg #[.bool false, .slice none 0 0, .slice none 0 0, .slice none 0 0], .int .i64 3]) (by simp [results, Tryz.results141, go_sem, r0, r1, r2, r3]) rfl ⟨_, _, _, rfl, F.out, ownN0 _ _ _, BE.out⟩
  · have SM : Hid (smallN D) := nodeA_small BD.out.2.1 hA
    have RR9 := hO.reads
    obtain ⟨a1, c1, a2, c2, a3, c3, rfl, _, _, _⟩ := RR9
    obtain ⟨A, hA9⟩ : ∃ g, D.A = g := ⟨_, rfl⟩
    obtain ⟨n1, hn1⟩ : ∃ g, D.P.length = g := ⟨_, rfl⟩
    obtain ⟨n2, hn2⟩ : ∃ g, D.L.length = g := ⟨_, rfl⟩
    obtain ⟨n3, hn3⟩ : ∃ g, D.K.length = g := ⟨_, rfl⟩
    have O2 : Hid (OwnsN w2 w1.heap.size w2.heap.size (.agg #[.bool A, .slice a1 n1 c1, .slice a2 n2 c2, .slice a3 n3 c3]) D) := by
      have h9 := hO
      rw [hA9, hn1, hn2, hn3] at h9
      exact h9
    rw [hA9, hn1, hn2, hn3]
    obtain ⟨f1, hf1⟩ : ∃ b, freeB D = b := ⟨_, rfl⟩
    obtain ⟨f2, hf2⟩ : ∃ b, okB D = b := ⟨_, rfl⟩
    have HF : Hid (freeB D = f1 ∧ okB D = f2 ∧ nodeA (bodyB B) = some D) := ⟨hf1, hf2, hA⟩
    have A2 : Hid (Below w2.heap.size w2 (w2.alloc (.cells #[.bool A, .slice a1 n1 c1, .slice a2 n2 c2, .slice a3 n3 c3] 137))) := (Below.refl _ _).alloc (Nat.le_refl _) _
    clear hA hb2 hO hA9 hn1 hn2 hn3 hf1 hf2
    go_wp2_with fail
    refine (nodeFree _ D _ (O2.out.reads.below A2.out)).mono ?_
    rw [HF.out.1]
    rintro e w3 ⟨rfl, hb3⟩
    have B3 : Hid (Below w.heap.size w w3) := B2.out.trans ((A2.out.trans (hb3.mono A2.out.size)).mono B2.out.size)
    have X3 : Hid (Box w3 w.heap.size [.bool false, .slice none 0 0, .slice none 0 0, .slice none 0 0]) := (X2.out.old _).below hb3
    have Y3 : Hid (Box w3 w2.heap.size [.bool A, .slice a1 n1 c1, .slice a2 n2 c2, .slice a3 n3 c3]) := Box.below (Box.new rfl) hb3
    have O3 : Hid (OwnsN w3 w1.heap.size w2.heap.size (.agg #[.bool A, .slice a1 n1 c1, .slice a2 n2 c2, .slice a3 n3 c3]) D) := (O2.out.below A2.out).below hb3
    clear hb3
    cases f1 with
    | true =>
      have F : Hid (readN B = (nm0, 3)) := by show _ = _; rw [RN.out, HF.out.2.2]; simp [HF.out.1]
      obtain ⟨p0, pf0⟩ := (X3.out) 0 _ rfl
      obtain ⟨p1, pf1⟩ := ((X3.out).set 0 (.bool false)) 1 _ rfl
      obtain ⟨p2, pf2⟩ := (((X3.out).set 0 (.bool false)).set 1 (.slice none 0 0)) 2 _ rfl
      obtain ⟨p3, pf3⟩ := ((((X3.out).set 0 (.bool false)).set 1 (.slice none 0 0)).set 2 (.slice none 0 0)) 3 _ rfl
      have X8 := ((((X3.out).set 0 (.bool false)).set 1 (.slice none 0 0)).set 2 (.slice none 0 0)).set 3 (.slice none 0 0)
      obtain ⟨r0, _⟩ := X8 0 _ rfl
      obtain ⟨r1, _⟩ := X8 1 _ rfl
      obtain ⟨r2, _⟩ := X8 2 _ rfl
      obtain ⟨r3, _⟩ := X8 3 _ rfl
      clear X8
      have BE : Hid (Below w.heap.size w ((((w3.setCell ⟨w.heap.size, 0, none⟩ (.bool false)).setCell ⟨w.heap.size, 1, none⟩ (.slice none 0 0)).setCell ⟨w.heap.size, 2, none⟩ (.slice none 0 0)).setCell ⟨w.heap.size, 3, none⟩ (.slice none 0 0))) := (((B3.out.setCell (Nat.le_refl _) _).setCell (Nat.le_refl _) _).setCell (Nat.le_refl _) _).setCell (Nat.le_refl _) _
      go_wp2_with fail
      exact bodyPost_ret (v := .tuple #[.agg #[.bool false, .slice none 0 0, .slice none 0 0, .slice none 0 0], .int .i64 3]) (by simp [results, Tryz.results141, go_sem, r0, r1, r2, r3]) rfl ⟨_, _, _, rfl, F.out, ownN0 _ _ _, BE.out⟩
    | false =>
    obtain ⟨s0, _⟩ := Y3.out 0 _ rfl
    obtain ⟨s1, _⟩ := Y3.out 1 _ rfl
    obtain ⟨s2, _⟩ := Y3.out 2 _ rfl
    obtain ⟨s3, _⟩ := Y3.out 3 _ rfl
    go_wp2_with fail
    refine (implNodeOK _ D _ SM.out O3.out.reads).mono ?_
    rw [HF.out.2.1]
    rintro e w4 ⟨rfl, hb4⟩
    have B4 : Hid (Below w.heap.size w w4) := B3.out.trans (hb4.mono B3.out.size)
    have X4 : Hid (Box w4 w.heap.size [.bool false, .slice none 0 0, .slice none 0 0, .slice none 0 0]) := X3.out.below hb4
    have Y4 : Hid (Box w4 w2.heap.size [.bool A, .slice a1 n1 c1, .slice a2 n2 c2, .slice a3 n3 c3]) := Y3.out.below hb4
    have O4 : Hid (OwnsN w4 w1.heap.size w2.heap.size (.agg #[.bool A, .slice a1 n1 c1, .slice a2 n2 c2, .slice a3 n3 c3]) D) := O3.out.below hb4
    clear hb4 s0 s1 s2 s3
    cases f2 with
    | false =>
      have F : Hid (readN B = (nm0, 3)) := by show _ = _; rw [RN.out, HF.out.2.2]; simp [HF.out.2.1]
      obtain ⟨p0, pf0⟩ := (X4.out) 0 _ rfl
      obtain ⟨p1, pf1⟩ := ((X4.out).set 0 (.bool false)) 1 _ rfl
      obtain ⟨p2, pf2⟩ := (((X4.out).set 0 (.bool false)).set 1 (.slice none 0 0)) 2 _ rfl
      obtain ⟨p3, pf3⟩ := ((((X4.out).set 0 (.bool false)).set 1 (.slice none 0 0)).set 2 (.slice none 0 0)) 3 _ rfl
      have X8 := ((((X4.out).set 0 (.bool false)).set 1 (.slice none 0 0)).set 2 (.slice none 0 0)).set 3 (.slice none 0 0)
      obtain ⟨r0, _⟩ := X8 0 _ rfl
      obtain ⟨r1, _⟩ := X8 1 _ rfl
      obtain ⟨r2, _⟩ := X8 2 _ rfl
      obtain ⟨r3, _⟩ := X8 3 _ rfl
      clear X8
      have BE : Hid (Below w.heap.size w ((((w4.setCell ⟨w.heap.size, 0, none⟩ (.bool false)).setCell ⟨w.heap.size, 1, none⟩ (.slice none 0 0)).setCell ⟨w.heap.size, 2, none⟩ (.slice none 0 0)).setCell ⟨w.heap.size, 3, none⟩ (.slice none 0 0))) := (((B4.out.setCell (Nat.le_refl _) _).setCell (Nat.le_refl _) _).setCell (Nat.le_refl _) _).setCell (Nat.le_refl _) _
      go_wp2_with fail
      exact bodyPost_ret (v := .tuple #[.agg #[.bool false, .slice none 0 0, .slice none 0 0, .slice none 0 0], .int .i64 3]) (by simp [results, Tryz.results141, go_sem, r0, r1, r2, r3]) rfl ⟨_, _, _, rfl, F.out, ownN0 _ _ _, BE.out⟩
    | true =>
      have F : Hid (readN B = (D, 0)) := by show _ = _; rw [RN.out, HF.out.2.2]; simp [HF.out.1, HF.out.2.1]
      obtain ⟨s0, _⟩ := Y4.out 0 _ rfl
      obtain ⟨s1, _⟩ := Y4.out 1 _ rfl
      obtain ⟨s2, _⟩ := Y4.out 2 _ rfl
      obtain ⟨s3, _⟩ := Y4.out 3 _ rfl
      obtain ⟨p0, pf0⟩ := (X4.out) 0 _ rfl
      obtain ⟨p1, pf1⟩ := ((X4.out).set 0 (.bool A)) 1 _ rfl
      obtain ⟨p2, pf2⟩ := (((X4.out).set 0 (.bool A)).set 1 (.slice a1 n1 c1)) 2 _ rfl
      obtain ⟨p3, pf3⟩ := ((((X4.out).set 0 (.bool A)).set 1 (.slice a1 n1 c1)).set 2 (.slice a2 n2 c2)) 3 _ rfl
      have X8 := ((((X4.out).set 0 (.bool A)).set 1 (.slice a1 n1 c1)).set 2 (.slice a2 n2 c2)).set 3 (.slice a3 n3 c3)
      obtain ⟨r0, _⟩ := X8 0 _ rfl
      obtain ⟨r1, _⟩ := X8 1 _ rfl
      obtain ⟨r2, _⟩ := X8 2 _ rfl
      obtain ⟨r3, _⟩ := X8 3 _ rfl
      clear X8
      have BE : Hid (Below w.heap.size w ((((w4.setCell ⟨w.heap.size, 0, none⟩ (.bool A)).setCell ⟨w.heap.size, 1, none⟩ (.slice a1 n1 c1)).setCell ⟨w.heap.size, 2, none⟩ (.slice a2 n2 c2)).setCell ⟨w.heap.size, 3, none⟩ (.slice a3 n3 c3))) := (((B4.out.setCell (Nat.le_refl _) _).setCell (Nat.le_refl _) _).setCell (Nat.le_refl _) _).setCell (Nat.le_refl _) _
      have OE : Hid (OwnsN ((((w4.setCell ⟨w.heap.size, 0, none⟩ (.bool A)).setCell ⟨w.heap.size, 1, none⟩ (.slice a1 n1 c1)).setCell ⟨w.heap.size, 2, none⟩ (.slice a2 n2 c2)).setCell ⟨w.heap.size, 3, none⟩ (.slice a3 n3 c3)) w.heap.size ((((w4.setCell ⟨w.heap.size, 0, none⟩ (.bool A)).setCell ⟨w.heap.size, 1, none⟩ (.slice a1 n1 c1)).setCell ⟨w.heap.size, 2, none⟩ (.slice a2 n2 c2)).setCell ⟨w.heap.size, 3, none⟩ (.slice a3 n3 c3)).heap.size (.agg #[.bool A, .slice a1 n1 c1, .slice a2 n2 c2, .slice a3 n3 c3]) D) := by
        obtain ⟨y1, y2, y3, e9, ⟨h1, _⟩, ⟨h2, _⟩, h3, _⟩ := O4.out
        refine ⟨y1, y2, y3, e9, ?_, ?_, ?_⟩
        all_goals refine (fun hh => ⟨hh, fun k e => (hh.lt k e).2⟩) ?_
        · refine own_mono (own_setLow (own_setLow (own_setLow (own_setLow h1 ?_ _) ?_ _) ?_ _) ?_ _) ?_ <;> (have := Z1.out; (try dsimp only); omega)
        · refine own_mono (own_setLow (own_setLow (own_setLow (own_setLow h2 ?_ _) ?_ _) ?_ _) ?_ _) ?_ <;> (have := Z1.out; (try dsimp only); omega)
        · refine own_mono (own_setLow (own_setLow (own_setLow (own_setLow h3 ?_ _) ?_ _) ?_ _) ?_ _) ?_ <;> (have := Z1.out; (try dsimp only); omega)
      go_wp2_with fail
      exact bodyPost_ret (v := .tuple #[.agg #[.bool A, .slice a1 n1 c1, .slice a2 n2 c2, .slice a3 n3 c3], .int .i64 0]) (by simp [results, Tryz.results141, go_sem, r0, r1, r2, r3]) rfl ⟨_, _, _, rfl, F.out, OE.out, BE.out⟩
end Go.Proofs.YtnnimocaanofjaaGreatDoor

