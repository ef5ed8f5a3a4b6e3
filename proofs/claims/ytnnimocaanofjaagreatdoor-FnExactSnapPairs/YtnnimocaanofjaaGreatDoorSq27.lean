/-
  Texts of the store, brought together: Rnr, Rnq. By an AI agent.
-/
import Derived.Test.YtnnimocaanofjaaGreatDoorSq26
namespace Go.Proofs.YtnnimocaanofjaaGreatDoor
open Go.ChangeShapes Go.WideShapes Go.ChangeAt Go.RowKit Go.Deep
set_option linter.unusedVariables false
set_option linter.unusedSimpArgs false
set_option maxRecDepth 100000
def nodeA (B : List Nat) : Option NM := if B.length = 0 then none else if (rfA (B.drop 1)).2 ≠ 0 then none else
  if B.getD 0 0 = 108 then leafN (rfA (B.drop 1)).1 else if B.getD 0 0 = 105 then innerN (rfA (B.drop 1)).1 else none
def readN (B : List Nat) : NM × Int := if 65536 < B.length then (nm0, 2) else if sealedB B = false then (nm0, 8) else match nodeA (bodyB B) with
  | none => (nm0, 3)
  | some D => if freeB D = true ∨ okB D = false then (nm0, 3) else (D, 0)
theorem pairUp_mem : ∀ (l : List ByteArray) (x : PM), x ∈ pairUp l → x.1 ∈ l ∧ x.2 ∈ l
  | [], x, h => by simp [pairUp] at h
  | [_], x, h => by simp [pairUp] at h
  | a :: b :: l, x, h => by
    rcases List.mem_cons.1 (show x ∈ (a, b) :: pairUp l from h) with e | e
    · subst e; simp
    · have := pairUp_mem l x e; simp [this]
theorem nodeA_small {B : List Nat} {D : NM} (h8 : ∀ x ∈ B, x < 256) (h : nodeA B = some D) : smallN D := by
  unfold nodeA at h
  by_cases h0 : B.length = 0
  · rw [if_pos h0] at h; cases h
  rw [if_neg h0] at h
  by_cases h1 : (rfA (B.drop 1)).2 ≠ 0
  · rw [if_pos h1] at h; cases h
  rw [if_neg h1] at h
  obtain ⟨l, q, hr⟩ : ∃ l q, rfA (B.drop 1) = (l, q) := ⟨_, _, rfl⟩
  rw [hr] at h h1
  have hq : q = 0 := by simpa using h1
  subst hq
  obtain ⟨hl, hs, _⟩ := rf_same (fun x hx => h8 x (List.mem_of_mem_drop hx)) hr
  by_cases h2 : B.getD 0 0 = 108
  · rw [if_pos h2] at h
    unfold leafN at h
    split at h
    · cases h
      refine ⟨?_, fun x hx => ?_, fun x hx => by cases hx⟩
      · unfold wtN; simp only [List.length_nil]; rw [pairUp_length]; omega
      · have h9 := pairUp_mem l x hx
        have := hs _ h9.1
        have := hs _ h9.2
        omega
    · cases h
  · rw [if_neg h2] at h
    by_cases h3 : B.getD 0 0 = 105
    · rw [if_pos h3] at h
      unfold innerN at h
      split at h
      · cases h
      · cases h
        refine ⟨?_, fun x hx => (by cases hx), fun x hx => ?_⟩
        · unfold wtN; simp only [List.length_nil, List.length_map]; omega
        · obtain ⟨f, hf, rfl⟩ := List.mem_map.1 hx
          unfold leastOf
          rw [ByteArray.size_extract]
          have := hs f hf
          omega
    · rw [if_neg h3] at h; cases h
set_option maxHeartbeats 2000000 in
theorem nodeOf (b o n c : Nat) (B : List Nat) (w : World) (hB : B.length = n) (hn : n ≤ 65536) (hc : n ≤ c) (hc2 : c ≤ maxLen) (h8 : ∀ x ∈ B, x < 256) (h : Src w (some ⟨b, o, none⟩) (cellsB B)) :
    Calls Tryz.prog 159 #[.slice (some ⟨b, o, none⟩) n c] w fun e w' => ((nodeA B = none ∧ e = .returned (.tuple #[.agg #[.bool false, .slice none 0 0, .slice none 0 0, .slice none 0 0], .bool false])) ∨ (∃ D u, nodeA B = some D ∧ e = .returned (.tuple #[u, .bool true]) ∧ OwnsN w' w.heap.size w'.heap.size u D)) ∧ Below w.heap.size w w' := by
  by_cases t1 : n = 0
  · subst t1
    have F : Hid (nodeA B = none) := by show _ = none; unfold nodeA; rw [if_pos hB]
    clear h h8 hB
    go_enter Tryz.func159, Tryz.ntmps159
    go_wp2_with fail
    exact bodyPost_ret (v := .tuple #[.agg #[.bool false, .slice none 0 0, .slice none 0 0, .slice none 0 0], .bool false]) (by simp [results, Tryz.results159, go_sem]) rfl ⟨.inl ⟨F.out, rfl⟩, (Below.refl _ _).alloc (Nat.le_refl _) _⟩
  have t1' : ((n : Int) == 0) = false := beq_eq_false_iff_ne.2 (by omega)
  obtain ⟨x0, hx0⟩ : ∃ x, B.getD 0 0 = x := ⟨_, rfl⟩
  have hx08 : x0 < 256 := by rw [← hx0]; exact getD_lt h8 0
  have CE : Hid (∀ w9, Below w.heap.size w w9 → w9.cell? ⟨b, o, none⟩ = some (.int .u8 (x0 : Int))) := fun w9 hb9 => by
    have h0 := src_byte (h.below hb9) 0 (by omega)
    rw [hx0, Nat.add_zero] at h0
    exact h0
  have A0 : Hid (Below w.heap.size w (w.alloc (.cells #[.bool false, .slice none 0 0, .slice none 0 0, .slice none 0 0] 137))) := (Below.refl _ _).alloc (Nat.le_refl _) _
  have NF : Hid (¬ B.length = 0 ∧ B.getD 0 0 = x0) := ⟨by omega, hx0⟩
  have cut1 : ∀ W, (Instr.slice 74 (.slice (some ⟨b, o, none⟩) n c) (some (.int .i64 1)) none none).run Tryz.prog W = .ok (.slice (cutP (some ⟨b, o, none⟩) c 1 1) (n - 1) (c - 1)) W := fun W => cut_l (P := Tryz.prog) (e := 5) Tryz.underlying74 (fun w => Tryz.sizeOf5 w) (some ⟨b, o, none⟩) n c 1 (by omega) W
  have S3 : Hid (Src w (cutP (some ⟨b, o, none⟩) c 1 1) (cellsB (B.drop 1))) := by have h9 := h.tail (n := n) (c := c) (q := 1) (s := 1) (by rw [cellsB_length, hB]; omega) (by omega) hc; rw [Nat.mul_one, cellsB_drop] at h9; exact h9
  have HD : Hid ((B.drop 1).length = n - 1 ∧ (∀ x ∈ B.drop 1, x < 256) ∧ n - 1 ≤ c - 1 ∧ c - 1 ≤ maxLen) := ⟨by rw [List.length_drop, hB], fun x hx => h8 x (List.mem_of_mem_drop hx), by omega, by omega⟩
  generalize cutP (some ⟨b, o, none⟩) c 1 1 = a3 at cut1 S3
  obtain ⟨n3, hn3⟩ : ∃ m, n - 1 = m := ⟨_, rfl⟩
  obtain ⟨c3, hc3⟩ : ∃ m, c - 1 = m := ⟨_, rfl⟩
  rw [hn3, hc3] at cut1
  rw [hn3, hc3] at HD
  have hn39 : n3 ≤ 65536 := by omega
  clear h h8 hB hn3 hc3 hx0
  go_enter Tryz.func159, Tryz.ntmps159
  go_wp2_with fail
  refine (implReadFields a3 n3 c3 (B.drop 1) _ HD.out.1 (by omega) HD.out.2.2.1 HD.out.2.2.2 HD.out.2.1 (S3.out.below A0.out)).mono ?_
  rintro e w1 ⟨v1, l, q, rfl, heq, o1, hb1⟩
  obtain ⟨la, lc, rfl, ls, _⟩ := own_src o1
  have RF : Hid (rfA (B.drop 1) = (l, q)) := heq
  have B1 : Hid (Below w.heap.size w w1) := Below.new hb1
  have X1 : Hid (Box w1 w.heap.size [.bool false, .slice none 0 0, .slice none 0 0, .slice none 0 0]) := Box.below (Box.new rfl) hb1
  have LS : Hid (Src w1 la (cellsS l) ∧ l.length ≤ 1048576) := ⟨ls, rf_small heq⟩
  have Z1 : Hid (w.heap.size + 1 ≤ w1.heap.size) := size_new hb1
  clear heq o1 hb1 ls cut1
  by_cases hq : q = 0
  case neg =>
    have F : Hid (nodeA B = none) := by show _ = none; unfold nodeA; rw [if_neg NF.out.1, RF.out, if_pos hq]
    have hq2 : (q != 0) = true := by simpa using hq
    obtain ⟨p0, pf0⟩ := (X1.out) 0 _ rfl
    obtain ⟨p1, pf1⟩ := ((X1.out).set 0 (.bool false)) 1 _ rfl
    obtain ⟨p2, pf2⟩ := (((X1.out).set 0 (.bool false)).set 1 (.slice none 0 0)) 2 _ rfl
    obtain ⟨p3, pf3⟩ := ((((X1.out).set 0 (.bool false)).set 1 (.slice none 0 0)).set 2 (.slice none 0 0)) 3 _ rfl
    have X8 := ((((X1.out).set 0 (.bool false)).set 1 (.slice none 0 0)).set 2 (.slice none 0 0)).set 3 (.slice none 0 0)
    obtain ⟨r0, _⟩ := X8 0 _ rfl
    obtain ⟨r1, _⟩ := X8 1 _ rfl
    obtain ⟨r2, _⟩ := X8 2 _ rfl
    obtain ⟨r3, _⟩ := X8 3 _ rfl
    clear X8
    have BE : Hid (Below w.heap.size w ((((w1.setCell ⟨w.heap.size, 0, none⟩ (.bool false)).setCell ⟨w.heap.size, 1, none⟩ (.slice none 0 0)).setCell ⟨w.heap.size, 2, none⟩ (.slice none 0 0)).setCell ⟨w.heap.size, 3, none⟩ (.slice none 0 0))) := (((B1.out.setCell (Nat.le_refl _) _).setCell (Nat.le_refl _) _).setCell (Nat.le_refl _) _).setCell (Nat.le_refl _) _
    go_wp2_with fail
    exact bodyPost_ret (v := .tuple #[.agg #[.bool false, .slice none 0 0, .slice none 0 0, .slice none 0 0], .bool false]) (by simp [results, Tryz.results159, go_sem, r0, r1, r2, r3]) rfl ⟨.inl ⟨F.out, rfl⟩, BE.out⟩
  subst hq
  have NA : Hid (nodeA B = if x0 = 108 then leafN l else if x0 = 105 then innerN l else none) := by show _ = _; unfold nodeA; rw [if_neg NF.out.1, RF.out, if_neg (by simp), NF.out.2]
  have e1 := CE.out _ B1.out
  have hn0 : (0 : Int) < (n : Int) := by omega
  obtain ⟨m, hm⟩ : ∃ m, l.length = m := ⟨_, rfl⟩
  have HM : Hid (l.length = m) := hm
  have hm9 : m ≤ 1048576 := by rw [← hm]; exact LS.out.2
  rw [hm]
  clear hm
  by_cases t2 : x0 = 108
  · subst t2
    have NB : Hid (nodeA B = leafN l) := by show _ = _; rw [NA.out, if_pos rfl]
    clear NA
    go_wp2_with fail
    refine (leafOf la m lc l _ HM.out hm9 LS.out.1).mono ?_
    rintro e w2 ⟨hcase, hb2⟩
    have B2 : Hid (Below w.heap.size w w2) := B1.out.trans (hb2.mono B1.out.size)
    have X2 : Hid (Box w2 w.heap.size [.bool false, .slice none 0 0, .slice none 0 0, .slice none 0 0]) := X1.out.below hb2
    rcases hcase with ⟨hN, rfl⟩ | ⟨D, u2, hN, rfl, hO⟩
    · have F : Hid (nodeA B = none) := by show _ = none; rw [NB.out, hN]
      clear hN hb2 e1
      obtain ⟨p0, pf0⟩ := (X2.out) 0 _ rfl
      obtain ⟨p1, pf1⟩ := ((X2.out).set 0 (.bool false)) 1 _ rfl
      obtain ⟨p2, pf2⟩ := (((X2.out).set 0 (.bool false)).set 1 (.slice none 0 0)) 2 _ rfl
      obtain ⟨p3, pf3⟩ := ((((X2.out).set 0 (.bool false)).set 1 (.slice none 0 0)).set 2 (.slice none 0 0)) 3 _ rfl
      have X8 := ((((X2.out).set 0 (.bool false)).set 1 (.slice none 0 0)).set 2 (.slice none 0 0)).set 3 (.slice none 0 0)
      obtain ⟨r0, _⟩ := X8 0 _ rfl
      obtain ⟨r1, _⟩ := X8 1 _ rfl
      obtain ⟨r2, _⟩ := X8 2 _ rfl
      obtain ⟨r3, _⟩ := X8 3 _ rfl
      clear X8
      have BE : Hid (Below w.heap.size w ((((w2.setCell ⟨w.heap.size, 0, none⟩ (.bool false)).setCell ⟨w.heap.size, 1, none⟩ (.slice none 0 0)).setCell ⟨w.heap.size, 2, none⟩ (.slice none 0 0)).setCell ⟨w.heap.size, 3, none⟩ (.slice none 0 0))) := (((B2.out.setCell (Nat.le_refl _) _).setCell (Nat.le_refl _) _).setCell (Nat.le_refl _) _).setCell (Nat.le_refl _) _
      go_wp2_with fail
      exact bodyPost_ret (v := .tuple #[.agg #[.bool false, .slice none 0 0, .slice none 0 0, .slice none 0 0], .bool false]) (by simp [results, Tryz.results159, go_sem, r0, r1, r2, r3]) rfl ⟨.inl ⟨F.out, rfl⟩, BE.out⟩
    · have F : Hid (nodeA B = some D) := by show _ = _; rw [NB.out, hN]
      have RR9 := hO.reads
      obtain ⟨a1, c1, a2, c2, a3, c3, rfl, _, _, _⟩ := RR9
      obtain ⟨A, hA⟩ : ∃ g, D.A = g := ⟨_, rfl⟩
      obtain ⟨n1, hn1⟩ : ∃ g, D.P.length = g := ⟨_, rfl⟩
      obtain ⟨n2, hn2⟩ : ∃ g, D.L.length = g := ⟨_, rfl⟩
      obtain ⟨n3, hn3⟩ : ∃ g, D.K.length = g := ⟨_, rfl⟩
      have O2 : Hid (OwnsN w2 w1.heap.size w2.heap.size (.agg #[.bool A, .slice a1 n1 c1, .slice a2 n2 c2, .slice a3 n3 c3]) D) := by
        have h9 := hO
        rw [hA, hn1, hn2, hn3] at h9
        exact h9
      rw [hA, hn1, hn2, hn3]
      clear hN hb2 hO hA hn1 hn2 hn3 e1
      obtain ⟨p0, pf0⟩ := (X2.out) 0 _ rfl
      obtain ⟨p1, pf1⟩ := ((X2.out).set 0 (.bool A)) 1 _ rfl
      obtain ⟨p2, pf2⟩ := (((X2.out).set 0 (.bool A)).set 1 (.slice a1 n1 c1)) 2 _ rfl
      obtain ⟨p3, pf3⟩ := ((((X2.out).set 0 (.bool A)).set 1 (.slice a1 n1 c1)).set 2 (.slice a2 n2 c2)) 3 _ rfl
      have X8 := ((((X2.out).set 0 (.bool A)).set 1 (.slice a1 n1 c1)).set 2 (.slice a2 n2 c2)).set 3 (.slice a3 n3 c3)
      obtain ⟨r0, _⟩ := X8 0 _ rfl
      obtain ⟨r1, _⟩ := X8 1 _ rfl
      obtain ⟨r2, _⟩ := X8 2 _ rfl
      obtain ⟨r3, _⟩ := X8 3 _ rfl
      clear X8
      have BE : Hid (Below w.heap.size w ((((w2.setCell ⟨w.heap.size, 0, none⟩ (.bool A)).setCell ⟨w.heap.size, 1, none⟩ (.slice a1 n1 c1)).setCell ⟨w.heap.size, 2, none⟩ (.slice a2 n2 c2)).setCell ⟨w.heap.size, 3, none⟩ (.slice a3 n3 c3))) := (((B2.out.setCell (Nat.le_refl _) _).setCell (Nat.le_refl _) _).setCell (Nat.le_refl _) _).setCell (Nat.le_refl _) _
      have OE : Hid (OwnsN ((((w2.setCell ⟨w.heap.size, 0, none⟩ (.bool A)).setCell ⟨w.heap.size, 1, none⟩ (.slice a1 n1 c1)).setCell ⟨w.heap.size, 2, none⟩ (.slice a2 n2 c2)).setCell ⟨w.heap.size, 3, none⟩ (.slice a3 n3 c3)) w.heap.size ((((w2.setCell ⟨w.heap.size, 0, none⟩ (.bool A)).setCell ⟨w.heap.size, 1, none⟩ (.slice a1 n1 c1)).setCell ⟨w.heap.size, 2, none⟩ (.slice a2 n2 c2)).setCell ⟨w.heap.size, 3, none⟩ (.slice a3 n3 c3)).heap.size (.agg #[.bool A, .slice a1 n1 c1, .slice a2 n2 c2, .slice a3 n3 c3]) D) := by
        obtain ⟨y1, y2, y3, e9, ⟨h1, _⟩, ⟨h2, _⟩, h3, _⟩ := O2.out
        refine ⟨y1, y2, y3, e9, ?_, ?_, ?_⟩
        all_goals refine (fun hh => ⟨hh, fun k e => (hh.lt k e).2⟩) ?_
        · refine own_mono (own_setLow (own_setLow (own_setLow (own_setLow h1 ?_ _) ?_ _) ?_ _) ?_ _) ?_ <;> (have := Z1.out; (try dsimp only); omega)
        · refine own_mono (own_setLow (own_setLow (own_setLow (own_setLow h2 ?_ _) ?_ _) ?_ _) ?_ _) ?_ <;> (have := Z1.out; (try dsimp only); omega)
        · refine own_mono (own_setLow (own_setLow (own_setLow (own_setLow h3 ?_ _) ?_ _) ?_ _) ?_ _) ?_ <;> (have := Z1.out; (try dsimp only); omega)
      go_wp2_with fail
      exact bodyPost_ret (v := .tuple #[.agg #[.bool A, .slice a1 n1 c1, .slice a2 n2 c2, .slice a3 n3 c3], .bool true]) (by simp [results, Tryz.results159, go_sem, r0, r1, r2, r3]) rfl ⟨.inr ⟨_, _, F.out, rfl, OE.out⟩, BE.out⟩
  have t2' : ((x0 : Int) == 108) = false := beq_eq_false_iff_ne.2 (by omega)
  by_cases t3 : x0 = 105
  · subst t3
    have NB : Hid (nodeA B = innerN l) := by show _ = _; rw [NA.out, if_neg (by decide), if_pos rfl]
    clear NA
    go_wp2_with fail
    refine (innerOf la m lc l _ HM.out hm9 LS.out.1).mono ?_
    rintro e w2 ⟨hcase, hb2⟩
    have B2 : Hid (Below w.heap.size w w2) := B1.out.trans (hb2.mono B1.out.size)
    have X2 : Hid (Box w2 w.heap.size [.bool false, .slice none 0 0, .slice none 0 0, .slice none 0 0]) := X1.out.below hb2
    rcases hcase with ⟨hN, rfl⟩ | ⟨D, u2, hN, rfl, hO⟩
    · have F : Hid (nodeA B = none) := by show _ = none; rw [NB.out, hN]
      clear hN hb2 e1
      obtain ⟨p0, pf0⟩ := (X2.out) 0 _ rfl
      obtain ⟨p1, pf1⟩ := ((X2.out).set 0 (.bool false)) 1 _ rfl
      obtain ⟨p2, pf2⟩ := (((X2.out).set 0 (.bool false)).set 1 (.slice none 0 0)) 2 _ rfl
      obtain ⟨p3, pf3⟩ := ((((X2.out).set 0 (.bool false)).set 1 (.slice none 0 0)).set 2 (.slice none 0 0)) 3 _ rfl
      have X8 := ((((X2.out).set 0 (.bool false)).set 1 (.slice none 0 0)).set 2 (.slice none 0 0)).set 3 (.slice none 0 0)
      obtain ⟨r0, _⟩ := X8 0 _ rfl
      obtain ⟨r1, _⟩ := X8 1 _ rfl
      obtain ⟨r2, _⟩ := X8 2 _ rfl
      obtain ⟨r3, _⟩ := X8 3 _ rfl
      clear X8
      have BE : Hid (Below w.heap.size w ((((w2.setCell ⟨w.heap.size, 0, none⟩ (.bool false)).setCell ⟨w.heap.size, 1, none⟩ (.slice none 0 0)).setCell ⟨w.heap.size, 2, none⟩ (.slice none 0 0)).setCell ⟨w.heap.size, 3, none⟩ (.slice none 0 0))) := (((B2.out.setCell (Nat.le_refl _) _).setCell (Nat.le_refl _) _).setCell (Nat.le_refl _) _).setCell (Nat.le_refl _) _
      go_wp2_with fail
      exact bodyPost_ret (v := .tuple #[.agg #[.bool false, .slice none 0 0, .slice none 0 0, .slice none 0 0], .bool false]) (by simp [results, Tryz.results159, go_sem, r0, r1, r2, r3]) rfl ⟨.inl ⟨F.out, rfl⟩, BE.out⟩
    · have F : Hid (nodeA B = some D) := by show _ = _; rw [NB.out, hN]
      have RR9 := hO.reads
      obtain ⟨a1, c1, a2, c2, a3, c3, rfl, _, _, _⟩ := RR9
      obtain ⟨A, hA⟩ : ∃ g, D.A = g := ⟨_, rfl⟩
      obtain ⟨n1, hn1⟩ : ∃ g, D.P.length = g := ⟨_, rfl⟩
      obtain ⟨n2, hn2⟩ : ∃ g, D.L.length = g := ⟨_, rfl⟩
      obtain ⟨n3, hn3⟩ : ∃ g, D.K.length = g := ⟨_, rfl⟩
      have O2 : Hid (OwnsN w2 w1.heap.size w2.heap.size (.agg #[.bool A, .slice a1 n1 c1, .slice a2 n2 c2, .slice a3 n3 c3]) D) := by
        have h9 := hO
        rw [hA, hn1, hn2, hn3] at h9
        exact h9
      rw [hA, hn1, hn2, hn3]
      clear hN hb2 hO hA hn1 hn2 hn3 e1
      obtain ⟨p0, pf0⟩ := (X2.out) 0 _ rfl
      obtain ⟨p1, pf1⟩ := ((X2.out).set 0 (.bool A)) 1 _ rfl
      obtain ⟨p2, pf2⟩ := (((X2.out).set 0 (.bool A)).set 1 (.slice a1 n1 c1)) 2 _ rfl
      obtain ⟨p3, pf3⟩ := ((((X2.out).set 0 (.bool A)).set 1 (.slice a1 n1 c1)).set 2 (.slice a2 n2 c2)) 3 _ rfl
      have X8 := ((((X2.out).set 0 (.bool A)).set 1 (.slice a1 n1 c1)).set 2 (.slice a2 n2 c2)).set 3 (.slice a3 n3 c3)
      obtain ⟨r0, _⟩ := X8 0 _ rfl
      obtain ⟨r1, _⟩ := X8 1 _ rfl
      obtain ⟨r2, _⟩ := X8 2 _ rfl
      obtain ⟨r3, _⟩ := X8 3 _ rfl
      clear X8
      have BE : Hid (Below w.heap.size w ((((w2.setCell ⟨w.heap.size, 0, none⟩ (.bool A)).setCell ⟨w.heap.size, 1, none⟩ (.slice a1 n1 c1)).setCell ⟨w.heap.size, 2, none⟩ (.slice a2 n2 c2)).setCell ⟨w.heap.size, 3, none⟩ (.slice a3 n3 c3))) := (((B2.out.setCell (Nat.le_refl _) _).setCell (Nat.le_refl _) _).setCell (Nat.le_refl _) _).setCell (Nat.le_refl _) _
      have OE : Hid (OwnsN ((((w2.setCell ⟨w.heap.size, 0, none⟩ (.bool A)).setCell ⟨w.heap.size, 1, none⟩ (.slice a1 n1 c1)).setCell ⟨w.heap.size, 2, none⟩ (.slice a2 n2 c2)).setCell ⟨w.heap.size, 3, none⟩ (.slice a3 n3 c3)) w.heap.size ((((w2.setCell ⟨w.heap.size, 0, none⟩ (.bool A)).setCell ⟨w.heap.size, 1, none⟩ (.slice a1 n1 c1)).setCell ⟨w.heap.size, 2, none⟩ (.slice a2 n2 c2)).setCell ⟨w.heap.size, 3, none⟩ (.slice a3 n3 c3)).heap.size (.agg #[.bool A, .slice a1 n1 c1, .slice a2 n2 c2, .slice a3 n3 c3]) D) := by
        obtain ⟨y1, y2, y3, e9, ⟨h1, _⟩, ⟨h2, _⟩, h3, _⟩ := O2.out
        refine ⟨y1, y2, y3, e9, ?_, ?_, ?_⟩
        all_goals refine (fun hh => ⟨hh, fun k e => (hh.lt k e).2⟩) ?_
        · refine own_mono (own_setLow (own_setLow (own_setLow (own_setLow h1 ?_ _) ?_ _) ?_ _) ?_ _) ?_ <;> (have := Z1.out; (try dsimp only); omega)
        · refine own_mono (own_setLow (own_setLow (own_setLow (own_setLow h2 ?_ _) ?_ _) ?_ _) ?_ _) ?_ <;> (have := Z1.out; (try dsimp only); omega)
        · refine own_mono (own_setLow (own_setLow (own_setLow (own_setLow h3 ?_ _) ?_ _) ?_ _) ?_ _) ?_ <;> (have := Z1.out; (try dsimp only); omega)
      go_wp2_with fail
      exact bodyPost_ret (v := .tuple #[.agg #[.bool A, .slice a1 n1 c1, .slice a2 n2 c2, .slice a3 n3 c3], .bool true]) (by simp [results, Tryz.results159, go_sem, r0, r1, r2, r3]) rfl ⟨.inr ⟨_, _, F.out, rfl, OE.out⟩, BE.out⟩
  have t3' : ((x0 : Int) == 105) = false := beq_eq_false_iff_ne.2 (by omega)
  have F : Hid (nodeA B = none) := by show _ = none; rw [NA.out, if_neg t2, if_neg t3]
  obtain ⟨p0, pf0⟩ := (X1.out) 0 _ rfl
  obtain ⟨p1, pf1⟩ := ((X1.out).set 0 (.bool false)) 1 _ rfl
  obtain ⟨p2, pf2⟩ := (((X1.out).set 0 (.bool false)).set 1 (.slice none 0 0)) 2 _ rfl
  obtain ⟨p3, pf3⟩ := ((((X1.out).set 0 (.bool false)).set 1 (.slice none 0 0)).set 2 (.slice none 0 0)) 3 _ rfl
  have X8 := ((((X1.out).set 0 (.bool false)).set 1 (.slice none 0 0)).set 2 (.slice none 0 0)).set 3 (.slice none 0 0)
  obtain ⟨r0, _⟩ := X8 0 _ rfl
  obtain ⟨r1, _⟩ := X8 1 _ rfl
  obtain ⟨r2, _⟩ := X8 2 _ rfl
  obtain ⟨r3, _⟩ := X8 3 _ rfl
  clear X8
  have BE : Hid (Below w.heap.size w ((((w1.setCell ⟨w.heap.size, 0, none⟩ (.bool false)).setCell ⟨w.heap.size, 1, none⟩ (.slice none 0 0)).setCell ⟨w.heap.size, 2, none⟩ (.slice none 0 0)).setCell ⟨w.heap.size, 3, none⟩ (.slice none 0 0))) := (((B1.out.setCell (Nat.le_refl _) _).setCell (Nat.le_refl _) _).setCell (Nat.le_refl _) _).setCell (Nat.le_refl _) _
  go_wp2_with fail
  exact bodyPost_ret (v := .tuple #[.agg #[.bool false, .slice none 0 0, .slice none 0 0, .slice none 0 0], .bool false]) (by simp [results, Tryz.results159, go_sem, r0, r1, r2, r3]) rfl ⟨.inl ⟨F.out, rfl⟩, BE.out⟩
theorem ownN0 (w : World) (lo hi : Nat) : OwnsN w lo hi (.agg #[.bool false, .slice none 0 0, .slice none 0 0, .slice none 0 0]) nm0 := ⟨_, _, _, rfl, ⟨World.ownsRow_nil _ _ _ _, fun k e => by cases e⟩, ⟨World.ownsRow_nil _ _ _ _, fun k e => by cases e⟩, World.ownsRow_nil _ _ _ _, fun k e => by cases e⟩
set_option maxHeartbeats 2000000 in
theorem implReadNode (b o n c : Nat) (B : List Nat) (w : World) (hB : B.length = n) (hn : n ≤ 1048576) (hc : n ≤ c) (hc2 : c ≤ maxLen) (h8 : ∀ x ∈ B, x < 256) (h : Src w (some ⟨b, o, none⟩) (cellsB B)) (hH : HasHalf w) :
    Calls Tryz.prog 141 #[.slice (some ⟨b, o, none⟩) n c] w fun e w' => ∃ u D q, e = .returned (.tuple #[u, .int .i64 q]) ∧ readN B = (D, q) ∧ OwnsN w' w.heap.size w'.heap.size u D ∧ Below w.heap.size w w' := by
  have A0 : Hid (Below w.heap.size w (w.alloc (.cells #[.bool false, .slice none 0 0, .slice none 0 0, .slice none 0 0] 137))) := (Below.refl _ _).alloc (Nat.le_refl _) _
  by_cases t1 : (65536 : Int) < (n : Int)
  · have F : Hid (readN B = (nm0, 2)) := by show _ = _; unfold readN; rw [if_pos (by rw [hB]; omega)]
    clear h h8 hB hH
    go_enter Tryz.func141, Tryz.ntmps141
    go_wp2_with fail
    exact bodyPost_ret (v := .tuple #[.agg #[.bool false, .slice none 0 0, .slice none 0 0, .slice none 0 0], .int .i64 2]) (by simp [results, Tryz.results141, go_sem]) rfl ⟨_, _, _, rfl, F.out, ownN0 _ _ _, A0.out⟩
  have N1 : Hid (¬ 65536 < B.length) := by show ¬ _; rw [hB]; omega
  have HS : Hid (Src w (some ⟨b, o, none⟩) (cellsB B)) := h
  have HB : Hid (B.length = n ∧ (∀ x ∈ B, x < 256) ∧ HasHalf w ∧ n ≤ c ∧ c ≤ maxLen) := ⟨hB, h8, hH, hc, hc2⟩
  obtain ⟨ok, hok⟩ : ∃ b, sealedB B = b := ⟨_, rfl⟩
  have HOK : Hid (sealedB B = ok) := hok
  clear h h8 hB hH hok
  go_enter Tryz.func141, Tryz.ntmps141
  go_wp2_with fail
  refine (unsealed b o n c B _ HB.out.1 (by omega) HB.out.2.2.2.1 HB.out.2.1 (HS.out.below A0.out) (HB.out.2.2.1.below A0.out)).mono ?_
  rw [HOK.out]
  rintro e w1 ⟨⟨u1, rfl, hu1⟩, hb1⟩
  have B1 : Hid (Below w.heap.size w w1) := Below.new hb1
  have X1 : Hid (Box w1 w.heap.size [.bool false, .slice none 0 0, .slice none 0 0, .slice none 0 0]) := Box.below (Box.new rfl) hb1
  have Z1 : Hid (w.heap.size + 1 ≤ w1.heap.size) := size_new hb1
  clear hb1
  cases ok with
  | false =>
    have F : Hid (readN B = (nm0, 8)) := by show _ = _; unfold readN; rw [if_neg N1.out, if_pos HOK.out]
    clear hu1
    obtain ⟨p0, pf0⟩ := (X1.out) 0 _ rfl
    obtain ⟨p1, pf1⟩ := ((X1.out).set 0 (.bool false)) 1 _ rfl
    obtain ⟨p2, pf2⟩ := (((X1.out).set 0 (.bool false)).set 1 (.slice none 0 0)) 2 _ rfl
    obtain ⟨p3, pf3⟩ := ((((X1.out).set 0 (.bool false)).set 1 (.slice none 0 0)).set 2 (.slice none 0 0)) 3 _ rfl
    have X8 := ((((X1.out).set 0 (.bool false)).set 1 (.slice none 0 0)).set 2 (.slice none 0 0)).set 3 (.slice none 0 0)
    obtain ⟨r0, _⟩ := X8 0 _ rfl
    obtain ⟨r1, _⟩ := X8 1 _ rfl
    obtain ⟨r2, _⟩ := X8 2 _ rfl
    obtain ⟨r3, _⟩ := X8 3 _ rfl
    clear X8
    have BE : Hid (Below w.heap.size w ((((w1.setCell ⟨w.heap.size, 0, none⟩ (.bool false)).setCell ⟨w.heap.size, 1, none⟩ (.slice none 0 0)).setCell ⟨w.heap.size, 2, none⟩ (.slice none 0 0)).setCell ⟨w.heap.size, 3, none⟩ (.slice none 0 0))) := (((B1.out.setCell (Nat.le_refl _) _).setCell (Nat.le_refl _) _).setCell (Nat.le_refl _) _).setCell (Nat.le_refl _) _
    go_wp2_with fail
    exact bodyPost_ret (v := .tuple #[.agg #[.bool false, .slice none 0 0, .slice none 0 0, .slice none 0 0], .int .i64 8]) (by simp [results, Tryz.results141, go_sem, r0, r1, r2, r3]) rfl ⟨_, _, _, rfl, F.out, ownN0 _ _ _, BE.out⟩
  | true =>
  obtain rfl := hu1 rfl
  have h4 : 4 ≤ n := by
    have h9 := HOK.out
    unfold sealedB at h9
    rw [Bool.and_eq_true, decide_eq_true_eq, HB.out.1] at h9
    exact h9.1
  obtain ⟨k, hk⟩ : ∃ k, n - 4 = k := ⟨_, rfl⟩
  have BD : Hid ((bodyB B).length = k ∧ (∀ x ∈ bodyB B, x < 256) ∧ Src w (some ⟨b, o, none⟩) (cellsB (bodyB B)) ∧ k ≤ c) := by
    refine ⟨by unfold bodyB; rw [List.length_take, HB.out.1]; omega, fun x hx => HB.out.2.1 x (List.mem_of_mem_take hx), ?_, by have := HB.out.2.2.2.1; omega⟩
    have h9 := HS.out.head (B.length - 4)
    have e9 : (cellsB B).take (B.length - 4) = cellsB (bodyB B) := by unfold bodyB cellsB; rw [List.map_take]
    rw [e9] at h9
    exact h9
  rw [hk]
  have hk9 : k ≤ 65536 := by omega
  clear hk h4 hu1
  have RN : Hid (readN B = match nodeA (bodyB B) with | none => (nm0, 3) | some D => if freeB D = true ∨ okB D = false then (nm0, 3) else (D, 0)) := by show _ = _; unfold readN; rw [if_neg N1.out, if_neg (by rw [HOK.out]; decide)] <;> rfl
  go_wp2_with fail
  refine (nodeOf b o k c (bodyB B) _ BD.out.1 hk9 BD.out.2.2.2 HB.out.2.2.2.2 BD.out.2.1 (BD.out.2.2.1.below B1.out)).mono ?_
  rintro e w2 ⟨hcase, hb2⟩
  have B2 : Hid (Below w.heap.size w w2) := B1.out.trans (hb2.mono B1.out.size)
  have X2 : Hid (Box w2 w.heap.size [.bool false, .slice none 0 0, .slice none 0 0, .slice none 0 0]) := X1.out.below hb2
  have Z2 : Hid (w.heap.size + 1 ≤ w2.heap.size) := by have := Z1.out; have := hb2.size; show _ ≤ _; omega
  rcases hcase with ⟨hA, rfl⟩ | ⟨D, u2, hA, rfl, hO⟩
  · have F : Hid (readN B = (nm0, 3)) := by show _ = _; rw [RN.out, hA]
    clear hA hb2
    have X9 : Box (w2.alloc (.cells #[.bool false, .slice none 0 0, .slice none 0 0, .slice none 0 0] 137)) w.heap.size [.bool false, .slice none 0 0, .slice none 0 0, .slice none 0 0] := X2.out.old _
    have B9 : Hid (Below w.heap.size w (w2.alloc (.cells #[.bool false, .slice none 0 0, .slice none 0 0, .slice none 0 0] 137))) := B2.out.alloc B2.out.size _
    obtain ⟨p0, pf0⟩ := (X9) 0 _ rfl
    obtain ⟨p1, pf1⟩ := ((X9).set 0 (.bool false)) 1 _ rfl
    obtain ⟨p2, pf2⟩ := (((X9).set 0 (.bool false)).set 1 (.slice none 0 0)) 2 _ rfl
    obtain ⟨p3, pf3⟩ := ((((X9).set 0 (.bool false)).set 1 (.slice none 0 0)).set 2 (.slice none 0 0)) 3 _ rfl
    have X8 := ((((X9).set 0 (.bool false)).set 1 (.slice none 0 0)).set 2 (.slice none 0 0)).set 3 (.slice none 0 0)
    obtain ⟨r0, _⟩ := X8 0 _ rfl
    obtain ⟨r1, _⟩ := X8 1 _ rfl
    obtain ⟨r2, _⟩ := X8 2 _ rfl
    obtain ⟨r3, _⟩ := X8 3 _ rfl
    clear X8
    have BE : Hid (Below w.heap.size w (((((w2.alloc (.cells #[.bool false, .slice none 0 0, .slice none 0 0, .slice none 0 0] 137)).setCell ⟨w.heap.size, 0, none⟩ (.bool false)).setCell ⟨w.heap.size, 1, none⟩ (.slice none 0 0)).setCell ⟨w.heap.size, 2, none⟩ (.slice none 0 0)).setCell ⟨w.heap.size, 3, none⟩ (.slice none 0 0))) := (((B9.out.setCell (Nat.le_refl _) _).setCell (Nat.le_refl _) _).setCell (Nat.le_refl _) _).setCell (Nat.le_refl _) _
    clear X9
    go_wp2_with fail
    exact bodyPost_ret (v := .tuple #[.agg #[.bool false, .slice none 0 0, .slice none 0 0, .slice none 0 0], .int .i64 3]) (by simp [results, Tryz.results141, go_sem, r0, r1, r2, r3]) rfl ⟨_, _, _, rfl, F.out, ownN0 _ _ _, BE.out⟩
  · have SM : Hid (smallN D) := nodeA_small BD.out.2.1 hA
    have RR9 := hO.reads
    obtain ⟨a1, c1, a2, c2, a3, c3, rfl, _, _, _⟩ := RR9
    obtain ⟨A, hA9⟩ : ∃ g, D.A = g := ⟨_, rfl⟩
    obtain ⟨n1, hn1⟩ : ∃ g, D.P.length = g := ⟨_, rfl⟩
    obtain ⟨n2, hn2⟩ : ∃ g, D.L.length = g := ⟨_, rfl⟩
    obtain ⟨n3, hn3⟩ : ∃ g, D.K.length = g := ⟨_, rfl⟩
    have O2 : Hid (OwnsN w2 w1.heap.size w2.heap.size (.agg #[.bool A, .slice a1 n1 c1, .slice a2 n2 c2, .slice a3 n3 c3]) D) := by
      have h9 := hO
      rw [hA9, hn1, hn2, hn3] at h9
      exact h9
    rw [hA9, hn1, hn2, hn3]
    obtain ⟨f1, hf1⟩ : ∃ b, freeB D = b := ⟨_, rfl⟩
    obtain ⟨f2, hf2⟩ : ∃ b, okB D = b := ⟨_, rfl⟩
    have HF : Hid (freeB D = f1 ∧ okB D = f2 ∧ nodeA (bodyB B) = some D) := ⟨hf1, hf2, hA⟩
    have A2 : Hid (Below w2.heap.size w2 (w2.alloc (.cells #[.bool A, .slice a1 n1 c1, .slice a2 n2 c2, .slice a3 n3 c3] 137))) := (Below.refl _ _).alloc (Nat.le_refl _) _
    clear hA hb2 hO hA9 hn1 hn2 hn3 hf1 hf2
    go_wp2_with fail
    refine (nodeFree _ D _ (O2.out.reads.below A2.out)).mono ?_
    rw [HF.out.1]
    rintro e w3 ⟨rfl, hb3⟩
    have B3 : Hid (Below w.heap.size w w3) := B2.out.trans ((A2.out.trans (hb3.mono A2.out.size)).mono B2.out.size)
    have X3 : Hid (Box w3 w.heap.size [.bool false, .slice none 0 0, .slice none 0 0, .slice none 0 0]) := (X2.out.old _).below hb3
    have Y3 : Hid (Box w3 w2.heap.size [.bool A, .slice a1 n1 c1, .slice a2 n2 c2, .slice a3 n3 c3]) := Box.below (Box.new rfl) hb3
    have O3 : Hid (OwnsN w3 w1.heap.size w2.heap.size (.agg #[.bool A, .slice a1 n1 c1, .slice a2 n2 c2, .slice a3 n3 c3]) D) := (O2.out.below A2.out).below hb3
    clear hb3
    cases f1 with
    | true =>
      have F : Hid (readN B = (nm0, 3)) := by show _ = _; rw [RN.out, HF.out.2.2]; simp [HF.out.1]
      obtain ⟨p0, pf0⟩ := (X3.out) 0 _ rfl
      obtain ⟨p1, pf1⟩ := ((X3.out).set 0 (.bool false)) 1 _ rfl
      obtain ⟨p2, pf2⟩ := (((X3.out).set 0 (.bool false)).set 1 (.slice none 0 0)) 2 _ rfl
      obtain ⟨p3, pf3⟩ := ((((X3.out).set 0 (.bool false)).set 1 (.slice none 0 0)).set 2 (.slice none 0 0)) 3 _ rfl
      have X8 := ((((X3.out).set 0 (.bool false)).set 1 (.slice none 0 0)).set 2 (.slice none 0 0)).set 3 (.slice none 0 0)
      obtain ⟨r0, _⟩ := X8 0 _ rfl
      obtain ⟨r1, _⟩ := X8 1 _ rfl
      obtain ⟨r2, _⟩ := X8 2 _ rfl
      obtain ⟨r3, _⟩ := X8 3 _ rfl
      clear X8
      have BE : Hid (Below w.heap.size w ((((w3.setCell ⟨w.heap.size, 0, none⟩ (.bool false)).setCell ⟨w.heap.size, 1, none⟩ (.slice none 0 0)).setCell ⟨w.heap.size, 2, none⟩ (.slice none 0 0)).setCell ⟨w.heap.size, 3, none⟩ (.slice none 0 0))) := (((B3.out.setCell (Nat.le_refl _) _).setCell (Nat.le_refl _) _).setCell (Nat.le_refl _) _).setCell (Nat.le_refl _) _
      go_wp2_with fail
      exact bodyPost_ret (v := .tuple #[.agg #[.bool false, .slice none 0 0, .slice none 0 0, .slice none 0 0], .int .i64 3]) (by simp [results, Tryz.results141, go_sem, r0, r1, r2, r3]) rfl ⟨_, _, _, rfl, F.out, ownN0 _ _ _, BE.out⟩
    | false =>
    obtain ⟨s0, _⟩ := Y3.out 0 _ rfl
    obtain ⟨s1, _⟩ := Y3.out 1 _ rfl
    obtain ⟨s2, _⟩ := Y3.out 2 _ rfl
    obtain ⟨s3, _⟩ := Y3.out 3 _ rfl
    go_wp2_with fail
    refine (implNodeOK _ D _ SM.out O3.out.reads).mono ?_
    rw [HF.out.2.1]
    rintro e w4 ⟨rfl, hb4⟩
    have B4 : Hid (Below w.heap.size w w4) := B3.out.trans (hb4.mono B3.out.size)
    have X4 : Hid (Box w4 w.heap.size [.bool false, .slice none 0 0, .slice none 0 0, .slice none 0 0]) := X3.out.below hb4
    have Y4 : Hid (Box w4 w2.heap.size [.bool A, .slice a1 n1 c1, .slice a2 n2 c2, .slice a3 n3 c3]) := Y3.out.below hb4
    have O4 : Hid (OwnsN w4 w1.heap.size w2.heap.size (.agg #[.bool A, .slice a1 n1 c1, .slice a2 n2 c2, .slice a3 n3 c3]) D) := O3.out.below hb4
    clear hb4 s0 s1 s2 s3
    cases f2 with
    | false =>
      have F : Hid (readN B = (nm0, 3)) := by show _ = _; rw [RN.out, HF.out.2.2]; simp [HF.out.2.1]
      obtain ⟨p0, pf0⟩ := (X4.out) 0 _ rfl
      obtain ⟨p1, pf1⟩ := ((X4.out).set 0 (.bool false)) 1 _ rfl
      obtain ⟨p2, pf2⟩ := (((X4.out).set 0 (.bool false)).set 1 (.slice none 0 0)) 2 _ rfl
      obtain ⟨p3, pf3⟩ := ((((X4.out).set 0 (.bool false)).set 1 (.slice none 0 0)).set 2 (.slice none 0 0)) 3 _ rfl
      have X8 := ((((X4.out).set 0 (.bool false)).set 1 (.slice none 0 0)).set 2 (.slice none 0 0)).set 3 (.slice none 0 0)
      obtain ⟨r0, _⟩ := X8 0 _ rfl
      obtain ⟨r1, _⟩ := X8 1 _ rfl
      obtain ⟨r2, _⟩ := X8 2 _ rfl
      obtain ⟨r3, _⟩ := X8 3 _ rfl
      clear X8
      have BE : Hid (Below w.heap.size w ((((w4.setCell ⟨w.heap.size, 0, none⟩ (.bool false)).setCell ⟨w.heap.size, 1, none⟩ (.slice none 0 0)).setCell ⟨w.heap.size, 2, none⟩ (.slice none 0 0)).setCell ⟨w.heap.size, 3, none⟩ (.slice none 0 0))) := (((B4.out.setCell (Nat.le_refl _) _).setCell (Nat.le_refl _) _).setCell (Nat.le_refl _) _).setCell (Nat.le_refl _) _
      go_wp2_with fail
      exact bodyPost_ret (v := .tuple #[.agg #[.bool false, .slice none 0 0, .slice none 0 0, .slice none 0 0], .int .i64 3]) (by simp [results, Tryz.results141, go_sem, r0, r1, r2, r3]) rfl ⟨_, _, _, rfl, F.out, ownN0 _ _ _, BE.out⟩
    | true =>
      have F : Hid (readN B = (D, 0)) := by show _ = _; rw [RN.out, HF.out.2.2]; simp [HF.out.1, HF.out.2.1]
      obtain ⟨s0, _⟩ := Y4.out 0 _ rfl
      obtain ⟨s1, _⟩ := Y4.out 1 _ rfl
      obtain ⟨s2, _⟩ := Y4.out 2 _ rfl
      obtain ⟨s3, _⟩ := Y4.out 3 _ rfl
      obtain ⟨p0, pf0⟩ := (X4.out) 0 _ rfl
      obtain ⟨p1, pf1⟩ := ((X4.out).set 0 (.bool A)) 1 _ rfl
      obtain ⟨p2, pf2⟩ := (((X4.out).set 0 (.bool A)).set 1 (.slice a1 n1 c1)) 2 _ rfl
      obtain ⟨p3, pf3⟩ := ((((X4.out).set 0 (.bool A)).set 1 (.slice a1 n1 c1)).set 2 (.slice a2 n2 c2)) 3 _ rfl
      have X8 := ((((X4.out).set 0 (.bool A)).set 1 (.slice a1 n1 c1)).set 2 (.slice a2 n2 c2)).set 3 (.slice a3 n3 c3)
      obtain ⟨r0, _⟩ := X8 0 _ rfl
      obtain ⟨r1, _⟩ := X8 1 _ rfl
      obtain ⟨r2, _⟩ := X8 2 _ rfl
      obtain ⟨r3, _⟩ := X8 3 _ rfl
      clear X8
      have BE : Hid (Below w.heap.size w ((((w4.setCell ⟨w.heap.size, 0, none⟩ (.bool A)).setCell ⟨w.heap.size, 1, none⟩ (.slice a1 n1 c1)).setCell ⟨w.heap.size, 2, none⟩ (.slice a2 n2 c2)).setCell ⟨w.heap.size, 3, none⟩ (.slice a3 n3 c3))) := (((B4.out.setCell (Nat.le_refl _) _).setCell (Nat.le_refl _) _).setCell (Nat.le_refl _) _).setCell (Nat.le_refl _) _
      have OE : Hid (OwnsN ((((w4.setCell ⟨w.heap.size, 0, none⟩ (.bool A)).setCell ⟨w.heap.size, 1, none⟩ (.slice a1 n1 c1)).setCell ⟨w.heap.size, 2, none⟩ (.slice a2 n2 c2)).setCell ⟨w.heap.size, 3, none⟩ (.slice a3 n3 c3)) w.heap.size ((((w4.setCell ⟨w.heap.size, 0, none⟩ (.bool A)).setCell ⟨w.heap.size, 1, none⟩ (.slice a1 n1 c1)).setCell ⟨w.heap.size, 2, none⟩ (.slice a2 n2 c2)).setCell ⟨w.heap.size, 3, none⟩ (.slice a3 n3 c3)).heap.size (.agg #[.bool A, .slice a1 n1 c1, .slice a2 n2 c2, .slice a3 n3 c3]) D) := by
        obtain ⟨y1, y2, y3, e9, ⟨h1, _⟩, ⟨h2, _⟩, h3, _⟩ := O4.out
        refine ⟨y1, y2, y3, e9, ?_, ?_, ?_⟩
        all_goals refine (fun hh => ⟨hh, fun k e => (hh.lt k e).2⟩) ?_
        · refine own_mono (own_setLow (own_setLow (own_setLow (own_setLow h1 ?_ _) ?_ _) ?_ _) ?_ _) ?_ <;> (have := Z1.out; (try dsimp only); omega)
        · refine own_mono (own_setLow (own_setLow (own_setLow (own_setLow h2 ?_ _) ?_ _) ?_ _) ?_ _) ?_ <;> (have := Z1.out; (try dsimp only); omega)
        · refine own_mono (own_setLow (own_setLow (own_setLow (own_setLow h3 ?_ _) ?_ _) ?_ _) ?_ _) ?_ <;> (have := Z1.out; (try dsimp only); omega)
      go_wp2_with fail
      exact bodyPost_ret (v := .tuple #[.agg #[.bool A, .slice a1 n1 c1, .slice a2 n2 c2, .slice a3 n3 c3], .int .i64 0]) (by simp [results, Tryz.results141, go_sem, r0, r1, r2, r3]) rfl ⟨_, _, _, rfl, F.out, OE.out, BE.out⟩
end Go.Proofs.YtnnimocaanofjaaGreatDoor
