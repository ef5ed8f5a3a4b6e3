
/-
  ReadNode of the specification. By an AI agent.
-/
import Derived.Test.YtnejklppbjkekaaDoorRnt
namespace Go.Proofs.YtnejklppbjkekaaDoor
open Go.ChangeShapes Go.WideShapes Go.ChangeAt Go.RowKit Go.Deep
set_option linter.unusedVariables false
set_option linter.unusedSimpArgs false
set_option maxRecDepth 100000

theorem readN_R {B : List Nat} (h1 : ¬ 65536 < B.length) (h2 : sealedB B = true) : readN B = match nodeR B with | none => (nm0, 3) | some D => (D, 0) := by
  unfold readN nodeR
  rw [if_neg h1, if_neg (by rw [h2]; decide), if_pos h2]
  cases nodeA (bodyB B) with
  | none => rfl
  | some D =>
    by_cases h : freeB D = true ∨ okB D = false
    · simp [h]
    · simp [h]
set_option maxHeartbeats 2000000 in
theorem specReadNode (b o n c : Nat) (B : List Nat) (w : World) (hB : B.length = n) (hn : n ≤ 1048576) (h8 : ∀ x ∈ B, x < 256) (h : Src w (some ⟨b, o, none⟩) (cellsB B)) :
    Calls Tryd.prog 31 #[.slice (some ⟨b, o, none⟩) n c] w fun e w' => ∃ u D q, e = .returned (.tuple #[u, .int .i64 q]) ∧ readN B = (D, q) ∧ OwnsN w' w.heap.size w'.heap.size u D ∧ Below w.heap.size w w' := by
  have A0 : Hid (Below w.heap.size w (w.alloc (.cells #[.bool false, .slice none 0 0, .slice none 0 0, .slice none 0 0] 27))) := (Below.refl _ _).alloc (Nat.le_refl _) _
  by_cases t1 : (65536 : Int) < (n : Int)
  · have F : Hid (readN B = (nm0, 2)) := by show _ = _; unfold readN; rw [if_pos (by rw [hB]; omega)]
    clear h h8 hB
    go_enter Tryd.func31, Tryd.ntmps31
    go_wp2_with fail
    exact bodyPost_ret (v := .tuple #[.agg #[.bool false, .slice none 0 0, .slice none 0 0, .slice none 0 0], .int .i64 2]) (by simp [results, Tryd.results31, go_sem]) rfl ⟨_, _, _, rfl, F.out, ownN0 _ _ _, A0.out⟩
  have N1 : Hid (¬ 65536 < B.length) := by show ¬ _; rw [hB]; omega
  obtain ⟨s, hs⟩ : ∃ s, strB B = s := ⟨_, rfl⟩
  have BS : Hid (bytesOf s = B ∧ s.size ≤ 65536) := by
    refine ⟨by rw [← hs, bytes_strB B h8], by rw [← hs, strB_size, hB]; omega⟩
  have CV : Hid (∀ w9, Below w.heap.size w w9 → (convert 22 9 (.slice (some ⟨b, o, none⟩) n c)).run Tryd.prog w9 = .ok (.string s) w9) := fun w9 hb9 => by
    have h9 := conv_sub (c := c) (h.below hb9) (s := n) (by omega)
    rw [List.take_of_length_le (by omega), hs] at h9
    exact h9
  have hcv := CV.out _ A0.out
  obtain ⟨ok, hok⟩ : ∃ b, sealedB B = b := ⟨_, rfl⟩
  have HOK : Hid (sealedB B = ok) := hok
  clear h h8 hB hok hs
  go_enter Tryd.func31, Tryd.ntmps31
  go_wp2_with fail
  go_at_call 83
  refine (l03Unseal s _ BS.out.2).mono ?_
  rw [BS.out.1, HOK.out]
  rintro e w1 ⟨⟨t, rfl, _⟩, hb1⟩
  have B1 : Hid (Below w.heap.size w w1) := Below.new hb1
  have X1 : Hid (Box w1 w.heap.size [.bool false, .slice none 0 0, .slice none 0 0, .slice none 0 0]) := Box.below (Box.new rfl) hb1
  have Z1 : Hid (w.heap.size + 1 ≤ w1.heap.size) := size_new hb1
  clear hb1 hcv
  cases ok with
  | false =>
    have F : Hid (readN B = (nm0, 8)) := by show _ = _; unfold readN; rw [if_neg N1.out, if_pos HOK.out]
    obtain ⟨p0, pf0⟩ := (X1.out) 0 _ rfl
    obtain ⟨p1, pf1⟩ := ((X1.out).set 0 (.bool false)) 1 _ rfl
    obtain ⟨p2, pf2⟩ := (((X1.out).set 0 (.bool false)).set 1 (.slice none 0 0)) 2 _ rfl
    obtain ⟨p3, pf3⟩ := ((((X1.out).set 0 (.bool false)).set 1 (.slice none 0 0)).set 2 (.slice none 0 0)) 3 _ rfl
    have X8 := ((((X1.out).set 0 (.bool false)).set 1 (.slice none 0 0)).set 2 (.slice none 0 0)).set 3 (.slice none 0 0)
    obtain ⟨r0, _⟩ := X8 0 _ rfl
    obtain ⟨r1, _⟩ := X8 1 _ rfl
    obtain ⟨r2, _⟩ := X8 2 _ rfl
    obtain ⟨r3, _⟩ := X8 3 _ rfl
    clear X8
    have BE : Hid (Below w.heap.size w ((((w1.setCell ⟨w.heap.size, 0, none⟩ (.bool false)).setCell ⟨w.heap.size, 1, none⟩ (.slice none 0 0)).setCell ⟨w.heap.size, 2, none⟩ (.slice none 0 0)).setCell ⟨w.heap.size, 3, none⟩ (.slice none 0 0))) := (((B1.out.setCell (Nat.le_refl _) _).setCell (Nat.le_refl _) _).setCell (Nat.le_refl _) _).setCell (Nat.le_refl _) _
    go_wp2_with fail
    exact bodyPost_ret (v := .tuple #[.agg #[.bool false, .slice none 0 0, .slice none 0 0, .slice none 0 0], .int .i64 8]) (by simp [results, Tryd.results31, go_sem, r0, r1, r2, r3]) rfl ⟨_, _, _, rfl, F.out, ownN0 _ _ _, BE.out⟩
  | true =>
  have hcv := CV.out _ B1.out
  go_wp2_with fail
  clear hcv
  go_at_call 84
  refine (l03Read s _ BS.out.2).mono ?_
  rw [BS.out.1]
  rintro e w2 ⟨hcase, hb2⟩
  have B2 : Hid (Below w.heap.size w w2) := B1.out.trans (hb2.mono B1.out.size)
  have X2 : Hid (Box w2 w.heap.size [.bool false, .slice none 0 0, .slice none 0 0, .slice none 0 0]) := X1.out.below hb2
  have Z2 : Hid (w.heap.size + 1 ≤ w2.heap.size) := by have := Z1.out; have := hb2.size; show _ ≤ _; omega
  rcases hcase with ⟨hA, A, a1, k1, c1, a2, k2, c2, a3, k3, c3, rfl⟩ | ⟨D, u2, hA, rfl, hO⟩
  · have F : Hid (readN B = (nm0, 3)) := by
      show _ = _
      rw [readN_R N1.out HOK.out, hA]
    clear hA hb2
    have X9 : Box (w2.alloc (.cells #[.bool A, .slice a1 k1 c1, .slice a2 k2 c2, .slice a3 k3 c3] 27)) w.heap.size [.bool false, .slice none 0 0, .slice none 0 0, .slice none 0 0] := X2.out.old _
    have B9 : Hid (Below w.heap.size w (w2.alloc (.cells #[.bool A, .slice a1 k1 c1, .slice a2 k2 c2, .slice a3 k3 c3] 27))) := B2.out.alloc B2.out.size _
    obtain ⟨p0, pf0⟩ := (X9) 0 _ rfl
    obtain ⟨p1, pf1⟩ := ((X9).set 0 (.bool false)) 1 _ rfl
    obtain ⟨p2, pf2⟩ := (((X9).set 0 (.bool false)).set 1 (.slice none 0 0)) 2 _ rfl
    obtain ⟨p3, pf3⟩ := ((((X9).set 0 (.bool false)).set 1 (.slice none 0 0)).set 2 (.slice none 0 0)) 3 _ rfl
    have X8 := ((((X9).set 0 (.bool false)).set 1 (.slice none 0 0)).set 2 (.slice none 0 0)).set 3 (.slice none 0 0)
    obtain ⟨r0, _⟩ := X8 0 _ rfl
    obtain ⟨r1, _⟩ := X8 1 _ rfl
    obtain ⟨r2, _⟩ := X8 2 _ rfl
    obtain ⟨r3, _⟩ := X8 3 _ rfl
    clear X8
    have BE : Hid (Below w.heap.size w (((((w2.alloc (.cells #[.bool A, .slice a1 k1 c1, .slice a2 k2 c2, .slice a3 k3 c3] 27)).setCell ⟨w.heap.size, 0, none⟩ (.bool false)).setCell ⟨w.heap.size, 1, none⟩ (.slice none 0 0)).setCell ⟨w.heap.size, 2, none⟩ (.slice none 0 0)).setCell ⟨w.heap.size, 3, none⟩ (.slice none 0 0))) := (((B9.out.setCell (Nat.le_refl _) _).setCell (Nat.le_refl _) _).setCell (Nat.le_refl _) _).setCell (Nat.le_refl _) _
    clear X9
    go_wp2_with fail
    exact bodyPost_ret (v := .tuple #[.agg #[.bool false, .slice none 0 0, .slice none 0 0, .slice none 0 0], .int .i64 3]) (by simp [results, Tryd.results31, go_sem, r0, r1, r2, r3]) rfl ⟨_, _, _, rfl, F.out, ownN0 _ _ _, BE.out⟩
  · have F : Hid (readN B = (D, 0)) := by
      show _ = _
      rw [readN_R N1.out HOK.out, hA]
    have RR9 := hO.reads
    obtain ⟨a1, c1, a2, c2, a3, c3, rfl, _, _, _⟩ := RR9
    obtain ⟨A, hA9⟩ : ∃ g, D.A = g := ⟨_, rfl⟩
    obtain ⟨n1, hn1⟩ : ∃ g, D.P.length = g := ⟨_, rfl⟩
    obtain ⟨n2, hn2⟩ : ∃ g, D.L.length = g := ⟨_, rfl⟩
    obtain ⟨n3, hn3⟩ : ∃ g, D.K.length = g := ⟨_, rfl⟩
    have A2 : Hid (Below w2.heap.size w2 (w2.alloc (.cells #[.bool A, .slice a1 n1 c1, .slice a2 n2 c2, .slice a3 n3 c3] 27))) := (Below.refl _ _).alloc (Nat.le_refl _) _
    have O2 : Hid (OwnsN (w2.alloc (.cells #[.bool A, .slice a1 n1 c1, .slice a2 n2 c2, .slice a3 n3 c3] 27)) w1.heap.size w2.heap.size (.agg #[.bool A, .slice a1 n1 c1, .slice a2 n2 c2, .slice a3 n3 c3]) D) := by
      have h9 := hO.below A2.out
      rw [hA9, hn1, hn2, hn3] at h9
      exact h9
    rw [hA9, hn1, hn2, hn3]
    have B3 : Hid (Below w.heap.size w (w2.alloc (.cells #[.bool A, .slice a1 n1 c1, .slice a2 n2 c2, .slice a3 n3 c3] 27))) := B2.out.alloc B2.out.size _
    have X3 : Hid (Box (w2.alloc (.cells #[.bool A, .slice a1 n1 c1, .slice a2 n2 c2, .slice a3 n3 c3] 27)) w.heap.size [.bool false, .slice none 0 0, .slice none 0 0, .slice none 0 0]) := X2.out.old _
    clear hA hb2 hO hA9 hn1 hn2 hn3
    obtain ⟨p0, pf0⟩ := (X3.out) 0 _ rfl
    obtain ⟨p1, pf1⟩ := ((X3.out).set 0 (.bool A)) 1 _ rfl
    obtain ⟨p2, pf2⟩ := (((X3.out).set 0 (.bool A)).set 1 (.slice a1 n1 c1)) 2 _ rfl
    obtain ⟨p3, pf3⟩ := ((((X3.out).set 0 (.bool A)).set 1 (.slice a1 n1 c1)).set 2 (.slice a2 n2 c2)) 3 _ rfl
    have X8 := ((((X3.out).set 0 (.bool A)).set 1 (.slice a1 n1 c1)).set 2 (.slice a2 n2 c2)).set 3 (.slice a3 n3 c3)
    obtain ⟨r0, _⟩ := X8 0 _ rfl
    obtain ⟨r1, _⟩ := X8 1 _ rfl
    obtain ⟨r2, _⟩ := X8 2 _ rfl
    obtain ⟨r3, _⟩ := X8 3 _ rfl
    clear X8
    have BE : Hid (Below w.heap.size w (((((w2.alloc (.cells #[.bool A, .slice a1 n1 c1, .slice a2 n2 c2, .slice a3 n3 c3] 27)).setCell ⟨w.heap.size, 0, none⟩ (.bool A)).setCell ⟨w.heap.size, 1, none⟩ (.slice a1 n1 c1)).setCell ⟨w.heap.size, 2, none⟩ (.slice a2 n2 c2)).setCell ⟨w.heap.size, 3, none⟩ (.slice a3 n3 c3))) := (((B3.out.setCell (Nat.le_refl _) _).setCell (Nat.le_refl _) _).setCell (Nat.le_refl _) _).setCell (Nat.le_refl _) _
    have OE : Hid (OwnsN (((((w2.alloc (.cells #[.bool A, .slice a1 n1 c1, .slice a2 n2 c2, .slice a3 n3 c3] 27)).setCell ⟨w.heap.size, 0, none⟩ (.bool A)).setCell ⟨w.heap.size, 1, none⟩ (.slice a1 n1 c1)).setCell ⟨w.heap.size, 2, none⟩ (.slice a2 n2 c2)).setCell ⟨w.heap.size, 3, none⟩ (.slice a3 n3 c3)) w.heap.size (((((w2.alloc (.cells #[.bool A, .slice a1 n1 c1, .slice a2 n2 c2, .slice a3 n3 c3] 27)).setCell ⟨w.heap.size, 0, none⟩ (.bool A)).setCell ⟨w.heap.size, 1, none⟩ (.slice a1 n1 c1)).setCell ⟨w.heap.size, 2, none⟩ (.slice a2 n2 c2)).setCell ⟨w.heap.size, 3, none⟩ (.slice a3 n3 c3)).heap.size (.agg #[.bool A, .slice a1 n1 c1, .slice a2 n2 c2, .slice a3 n3 c3]) D) := by
      obtain ⟨y1, y2, y3, e9, ⟨h1, _⟩, ⟨h2, _⟩, h3, _⟩ := O2.out
      refine ⟨y1, y2, y3, e9, ?_, ?_, ?_⟩
      all_goals refine (fun hh => ⟨hh, fun k e => (hh.lt k e).2⟩) ?_
      · refine own_mono (own_setLow (own_setLow (own_setLow (own_setLow h1 ?_ _) ?_ _) ?_ _) ?_ _) ?_ <;> (have := Z1.out; (try dsimp only); omega)
      · refine own_mono (own_setLow (own_setLow (own_setLow (own_setLow h2 ?_ _) ?_ _) ?_ _) ?_ _) ?_ <;> (have := Z1.out; (try dsimp only); omega)
      · refine own_mono (own_setLow (own_setLow (own_setLow (own_setLow h3 ?_ _) ?_ _) ?_ _) ?_ _) ?_ <;> (have := Z1.out; (try dsimp only); omega)
    go_wp2_with fail
    exact bodyPost_ret (v := .tuple #[.agg #[.bool A, .slice a1 n1 c1, .slice a2 n2 c2, .slice a3 n3 c3], .int .i64 0]) (by simp [results, Tryd.results31, go_sem, r0, r1, r2, r3]) rfl ⟨_, _, _, rfl, F.out, OE.out, BE.out⟩
end Go.Proofs.YtnejklppbjkekaaDoor
