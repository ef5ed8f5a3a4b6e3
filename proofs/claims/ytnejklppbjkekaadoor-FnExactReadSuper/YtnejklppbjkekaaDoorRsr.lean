
/-
  ReadSuper of both. By an AI agent.
-/
import Derived.Test.YtnejklppbjkekaaDoorRss
namespace Go.Proofs.YtnejklppbjkekaaDoor
open Go.ChangeShapes Go.WideShapes Go.ChangeAt Go.RowKit Go.Deep
set_option linter.unusedVariables false
set_option maxRecDepth 100000

abbrev um0 : UM := ⟨0, 0, []⟩
/-- What ReadSuper answers. -/
def readU (B : List Nat) : UM × Int := if 65536 < B.length then (um0, 2) else if sealedB B = false then (um0, 8) else match superR B with
  | none => (um0, 3)
  | some D => (D, 0)
theorem ownU0 (w : World) (lo hi : Nat) : OwnsU w lo hi (.agg #[.int .i64 0, .int .i64 0, .slice none 0 0]) um0 := ⟨_, rfl, World.ownsRow_nil _ _ _ _, fun k e => by cases e⟩
theorem superR_fit {B : List Nat} {D : UM} (h : superR B = some D) : okU D = true ∧ sealedB B = true := by
  unfold superR at h
  by_cases hs : sealedB B = true
  · rw [if_pos hs] at h
    cases ha : superA (bodyB B) with
    | none => rw [ha] at h; cases h
    | some E =>
      rw [ha] at h
      by_cases ho : okU E = true
      · simp [ho] at h
        subst h
        exact ⟨ho, hs⟩
      · simp [ho] at h
  · rw [if_neg hs] at h; cases h
theorem superA_small {B : List Nat} {D : UM} (h : superA B = some D) : smallU D := by
  unfold superA at h
  split at h
  · cases h
  · split at h
    · cases h
    · split at h
      · cases h
      · cases h
        have hl : (rfA (B.drop 3)).1.length ≤ 1048576 := rf_small (B := B.drop 3) (q := (rfA (B.drop 3)).2) rfl
        refine ⟨by show ((rfA (B.drop 3)).1.map snapOf).length ≤ _; rw [List.length_map]; exact hl, fun x hx => ?_⟩
        obtain ⟨f, hf, rfl⟩ := List.mem_map.1 hx
        show (f.extract 3 f.size).size ≤ _
        rw [ByteArray.size_extract]
        have h9 := rf_sizes (B := B.drop 3) (R := (rfA (B.drop 3)).1) (q := (rfA (B.drop 3)).2) rfl f hf
        omega
theorem superR_A {B : List Nat} (hs : sealedB B = true) : superR B = match superA (bodyB B) with | none => none | some D => if okU D = true then some D else none := by unfold superR; rw [if_pos hs]; cases superA (bodyB B) <;> rfl

set_option maxHeartbeats 2000000 in
theorem implReadSuper (b o n c : Nat) (B : List Nat) (w : World) (hB : B.length = n) (hn : n ≤ 1048576) (hc : n ≤ c) (hc2 : c ≤ maxLen) (h8 : ∀ x ∈ B, x < 256) (h : Src w (some ⟨b, o, none⟩) (cellsB B)) (hH : HasHalf w) :
    Calls Tryd.prog 21 #[.slice (some ⟨b, o, none⟩) n c] w fun e w' => ∃ u D q, e = .returned (.tuple #[u, .int .i64 q]) ∧ readU B = (D, q) ∧ OwnsU w' w.heap.size w'.heap.size u D ∧ Below w.heap.size w w' := by
  have A0 : Hid (Below w.heap.size w (w.alloc (.cells #[.int .i64 0, .int .i64 0, .slice none 0 0] 39))) := (Below.refl _ _).alloc (Nat.le_refl _) _
  by_cases t1 : (65536 : Int) < (n : Int)
  · have F : Hid (readU B = (um0, 2)) := by show _ = _; unfold readU; rw [if_pos (by rw [hB]; omega)]
    clear h h8 hB hH
    go_enter Tryd.func21, Tryd.ntmps21
    go_wp2_with fail
    exact bodyPost_ret (v := .tuple #[.agg #[.int .i64 0, .int .i64 0, .slice none 0 0], .int .i64 2]) (by simp [results, Tryd.results21, go_sem]) rfl ⟨_, _, _, rfl, F.out, ownU0 _ _ _, A0.out⟩
  have N1 : Hid (¬ 65536 < B.length) := by show ¬ _; rw [hB]; omega
  have HS : Hid (Src w (some ⟨b, o, none⟩) (cellsB B)) := h
  have HB : Hid (B.length = n ∧ (∀ x ∈ B, x < 256) ∧ HasHalf w ∧ n ≤ c ∧ c ≤ maxLen) := ⟨hB, h8, hH, hc, hc2⟩
  obtain ⟨ok, hok⟩ : ∃ b, sealedB B = b := ⟨_, rfl⟩
  have HOK : Hid (sealedB B = ok) := hok
  clear h h8 hB hH hok
  go_enter Tryd.func21, Tryd.ntmps21
  go_wp2_with fail
  refine (unsealed b o n c B _ HB.out.1 (by omega) HB.out.2.2.2.1 HB.out.2.1 (HS.out.below A0.out) (HB.out.2.2.1.below A0.out)).mono ?_
  rw [HOK.out]
  rintro e w1 ⟨⟨u1, rfl, hu1⟩, hb1⟩
  have B1 : Hid (Below w.heap.size w w1) := Below.new hb1
  have X1 : Hid (Box w1 w.heap.size [.int .i64 0, .int .i64 0, .slice none 0 0]) := Box.below (Box.new rfl) hb1
  have Z1 : Hid (w.heap.size + 1 ≤ w1.heap.size) := size_new hb1
  clear hb1
  cases ok with
  | false =>
    have F : Hid (readU B = (um0, 8)) := by show _ = _; unfold readU; rw [if_neg N1.out, if_pos HOK.out]
    obtain ⟨p0, f0⟩ := X1.out 0 _ rfl
    obtain ⟨p1, f1⟩ := (X1.out.set 0 (.int .i64 0)) 1 _ rfl
    obtain ⟨p2, f2⟩ := ((X1.out.set 0 (.int .i64 0)).set 1 (.int .i64 0)) 2 _ rfl
    have X3 := ((X1.out.set 0 (.int .i64 0)).set 1 (.int .i64 0)).set 2 (.slice none 0 0)
    obtain ⟨r0, _⟩ := X3 0 _ rfl
    obtain ⟨r1, _⟩ := X3 1 _ rfl
    obtain ⟨r2, _⟩ := X3 2 _ rfl
    clear X3 hu1
    have B3 : Hid (Below w.heap.size w (((w1.setCell ⟨w.heap.size, 0, none⟩ (.int .i64 0)).setCell ⟨w.heap.size, 1, none⟩ (.int .i64 0)).setCell ⟨w.heap.size, 2, none⟩ (.slice none 0 0))) := ((B1.out.setCell (Nat.le_refl _) _).setCell (Nat.le_refl _) _).setCell (Nat.le_refl _) _
    go_wp2_with fail
    exact bodyPost_ret (v := .tuple #[.agg #[.int .i64 0, .int .i64 0, .slice none 0 0], .int .i64 8]) (by simp [results, Tryd.results21, go_sem, r0, r1, r2]) rfl ⟨_, _, _, rfl, F.out, ownU0 _ _ _, B3.out⟩
  | true =>
  obtain rfl := hu1 rfl
  have h4 : 4 ≤ n := by
    have h9 := HOK.out
    unfold sealedB at h9
    rw [Bool.and_eq_true, decide_eq_true_eq, HB.out.1] at h9
    exact h9.1
  obtain ⟨k, hk⟩ : ∃ k, n - 4 = k := ⟨_, rfl⟩
  have BD : Hid ((bodyB B).length = k ∧ (∀ x ∈ bodyB B, x < 256) ∧ Src w (some ⟨b, o, none⟩) (cellsB (bodyB B)) ∧ k ≤ c) := by
    refine ⟨by unfold bodyB; rw [List.length_take, HB.out.1]; omega, fun x hx => HB.out.2.1 x (List.mem_of_mem_take hx), ?_, by have := HB.out.2.2.2.1; omega⟩
    have h9 := HS.out.head (B.length - 4)
    have e9 : (cellsB B).take (B.length - 4) = cellsB (bodyB B) := by unfold bodyB cellsB; rw [List.map_take]
    rw [e9] at h9
    exact h9
  rw [hk]
  have hk9 : k ≤ 65536 := by omega
  clear hk h4 hu1
  go_wp2_with fail
  refine (superOf b o k c (bodyB B) _ BD.out.1 hk9 BD.out.2.2.2 HB.out.2.2.2.2 BD.out.2.1 (BD.out.2.2.1.below B1.out)).mono ?_
  rintro e w2 ⟨hcase, hb2⟩
  have B2 : Hid (Below w.heap.size w w2) := B1.out.trans (hb2.mono B1.out.size)
  have X2 : Hid (Box w2 w.heap.size [.int .i64 0, .int .i64 0, .slice none 0 0]) := X1.out.below hb2
  have Z2 : Hid (w.heap.size + 1 ≤ w2.heap.size) := by have := Z1.out; have := hb2.size; show _ ≤ _; omega
  rcases hcase with ⟨hA, rfl⟩ | ⟨D, u2, hA, rfl, hO⟩
  · have F : Hid (readU B = (um0, 3)) := by
      show _ = _
      unfold readU
      rw [if_neg N1.out, if_neg (by rw [HOK.out]; decide), superR_A HOK.out, hA]
    clear hA hb2
    have X9 : Box (w2.alloc (.cells #[.int .i64 0, .int .i64 0, .slice none 0 0] 39)) w.heap.size [.int .i64 0, .int .i64 0, .slice none 0 0] := X2.out.old _
    obtain ⟨p0, f0⟩ := X9 0 _ rfl
    obtain ⟨p1, f1⟩ := (X9.set 0 (.int .i64 0)) 1 _ rfl
    obtain ⟨p2, f2⟩ := ((X9.set 0 (.int .i64 0)).set 1 (.int .i64 0)) 2 _ rfl
    have X3 := ((X9.set 0 (.int .i64 0)).set 1 (.int .i64 0)).set 2 (.slice none 0 0)
    obtain ⟨r0, _⟩ := X3 0 _ rfl
    obtain ⟨r1, _⟩ := X3 1 _ rfl
    obtain ⟨r2, _⟩ := X3 2 _ rfl
    clear X3 X9
    have B3 : Hid (Below w.heap.size w ((((w2.alloc (.cells #[.int .i64 0, .int .i64 0, .slice none 0 0] 39)).setCell ⟨w.heap.size, 0, none⟩ (.int .i64 0)).setCell ⟨w.heap.size, 1, none⟩ (.int .i64 0)).setCell ⟨w.heap.size, 2, none⟩ (.slice none 0 0))) := (((B2.out.alloc B2.out.size _).setCell (Nat.le_refl _) _).setCell (Nat.le_refl _) _).setCell (Nat.le_refl _) _
    go_wp2_with fail
    exact bodyPost_ret (v := .tuple #[.agg #[.int .i64 0, .int .i64 0, .slice none 0 0], .int .i64 3]) (by simp [results, Tryd.results21, go_sem, r0, r1, r2]) rfl ⟨_, _, _, rfl, F.out, ownU0 _ _ _, B3.out⟩
  · have RU := hO.reads
    obtain ⟨ua, uc, rfl, hsrc⟩ := RU
    have O2 : Hid (OwnsU w2 w1.heap.size w2.heap.size (.agg #[.int .i64 D.G, .int .i64 D.R, .slice ua D.S.length uc]) D) := hO
    obtain ⟨G, hG⟩ : ∃ g, D.G = g := ⟨_, rfl⟩
    obtain ⟨R0, hR⟩ : ∃ g, D.R = g := ⟨_, rfl⟩
    obtain ⟨m, hm⟩ : ∃ g, D.S.length = g := ⟨_, rfl⟩
    rw [hG, hR, hm] at O2 ⊢
    have SM : Hid (smallU D) := superA_small hA
    obtain ⟨q, hq⟩ : ∃ b, okU D = b := ⟨_, rfl⟩
    have HQ : Hid (okU D = q ∧ superA (bodyB B) = some D) := ⟨hq, hA⟩
    have A2 : Hid (Below w2.heap.size w2 (w2.alloc (.cells #[.int .i64 G, .int .i64 R0, .slice ua m uc] 39))) := (Below.refl _ _).alloc (Nat.le_refl _) _
    clear hA hb2 hO hsrc hG hR hm hq
    go_wp2_with fail
    refine (implSuperOK _ D _ SM.out (O2.out.reads.below A2.out)).mono ?_
    rw [HQ.out.1]
    rintro e w3 ⟨rfl, hb3⟩
    have B3 : Hid (Below w.heap.size w w3) := B2.out.trans ((A2.out.trans (hb3.mono A2.out.size)).mono B2.out.size)
    have X3 : Hid (Box w3 w.heap.size [.int .i64 0, .int .i64 0, .slice none 0 0]) := (X2.out.old _).below hb3
    have Y3 : Hid (Box w3 w2.heap.size [.int .i64 G, .int .i64 R0, .slice ua m uc]) := Box.below (Box.new rfl) hb3
    have O3 : Hid (OwnsU w3 w1.heap.size w2.heap.size (.agg #[.int .i64 G, .int .i64 R0, .slice ua m uc]) D) := (O2.out.below A2.out).below hb3
    clear hb3
    cases q with
    | false =>
      have F : Hid (readU B = (um0, 3)) := by
        show _ = _
        unfold readU
        rw [if_neg N1.out, if_neg (by rw [HOK.out]; decide), superR_bad HQ.out.2 HQ.out.1]
      obtain ⟨p0, f0⟩ := X3.out 0 _ rfl
      obtain ⟨p1, f1⟩ := (X3.out.set 0 (.int .i64 0)) 1 _ rfl
      obtain ⟨p2, f2⟩ := ((X3.out.set 0 (.int .i64 0)).set 1 (.int .i64 0)) 2 _ rfl
      have X4 := ((X3.out.set 0 (.int .i64 0)).set 1 (.int .i64 0)).set 2 (.slice none 0 0)
      obtain ⟨r0, _⟩ := X4 0 _ rfl
      obtain ⟨r1, _⟩ := X4 1 _ rfl
      obtain ⟨r2, _⟩ := X4 2 _ rfl
      clear X4
      have B4 : Hid (Below w.heap.size w (((w3.setCell ⟨w.heap.size, 0, none⟩ (.int .i64 0)).setCell ⟨w.heap.size, 1, none⟩ (.int .i64 0)).setCell ⟨w.heap.size, 2, none⟩ (.slice none 0 0))) := ((B3.out.setCell (Nat.le_refl _) _).setCell (Nat.le_refl _) _).setCell (Nat.le_refl _) _
      go_wp2_with fail
      exact bodyPost_ret (v := .tuple #[.agg #[.int .i64 0, .int .i64 0, .slice none 0 0], .int .i64 3]) (by simp [results, Tryd.results21, go_sem, r0, r1, r2]) rfl ⟨_, _, _, rfl, F.out, ownU0 _ _ _, B4.out⟩
    | true =>
      have F : Hid (readU B = (D, 0)) := by
        show _ = _
        unfold readU
        rw [if_neg N1.out, if_neg (by rw [HOK.out]; decide), superR_some HOK.out HQ.out.2 HQ.out.1]
      obtain ⟨s0, _⟩ := Y3.out 0 _ rfl
      obtain ⟨s1, _⟩ := Y3.out 1 _ rfl
      obtain ⟨s2, _⟩ := Y3.out 2 _ rfl
      obtain ⟨p0, f0⟩ := X3.out 0 _ rfl
      obtain ⟨p1, f1⟩ := (X3.out.set 0 (.int .i64 G)) 1 _ rfl
      obtain ⟨p2, f2⟩ := ((X3.out.set 0 (.int .i64 G)).set 1 (.int .i64 R0)) 2 _ rfl
      have X4 := ((X3.out.set 0 (.int .i64 G)).set 1 (.int .i64 R0)).set 2 (.slice ua m uc)
      obtain ⟨r0, _⟩ := X4 0 _ rfl
      obtain ⟨r1, _⟩ := X4 1 _ rfl
      obtain ⟨r2, _⟩ := X4 2 _ rfl
      clear X4
      have B4 : Hid (Below w.heap.size w (((w3.setCell ⟨w.heap.size, 0, none⟩ (.int .i64 G)).setCell ⟨w.heap.size, 1, none⟩ (.int .i64 R0)).setCell ⟨w.heap.size, 2, none⟩ (.slice ua m uc))) := ((B3.out.setCell (Nat.le_refl _) _).setCell (Nat.le_refl _) _).setCell (Nat.le_refl _) _
      have O4 : Hid (OwnsU (((w3.setCell ⟨w.heap.size, 0, none⟩ (.int .i64 G)).setCell ⟨w.heap.size, 1, none⟩ (.int .i64 R0)).setCell ⟨w.heap.size, 2, none⟩ (.slice ua m uc)) w.heap.size (((w3.setCell ⟨w.heap.size, 0, none⟩ (.int .i64 G)).setCell ⟨w.heap.size, 1, none⟩ (.int .i64 R0)).setCell ⟨w.heap.size, 2, none⟩ (.slice ua m uc)).heap.size (.agg #[.int .i64 G, .int .i64 R0, .slice ua m uc]) D) := by
        obtain ⟨v9, e9, h9⟩ := O3.out
        refine ⟨v9, e9, OwnsR.mk (own_mono (own_setLow (own_setLow (own_setLow h9.1 ?_ _) ?_ _) ?_ _) ?_) (Nat.le_refl _)⟩
        all_goals (have := Z1.out; (try dsimp only); omega)
      go_wp2_with fail
      exact bodyPost_ret (v := .tuple #[.agg #[.int .i64 G, .int .i64 R0, .slice ua m uc], .int .i64 0]) (by simp [results, Tryd.results21, go_sem, r0, r1, r2]) rfl ⟨_, _, _, rfl, F.out, O4.out, B4.out⟩

set_option maxHeartbeats 2000000 in
theorem specReadSuper (b o n c : Nat) (B : List Nat) (w : World) (hB : B.length = n) (hn : n ≤ 1048576) (h8 : ∀ x ∈ B, x < 256) (h : Src w (some ⟨b, o, none⟩) (cellsB B)) :
    Calls Tryd.prog 38 #[.slice (some ⟨b, o, none⟩) n c] w fun e w' => ∃ u D q, e = .returned (.tuple #[u, .int .i64 q]) ∧ readU B = (D, q) ∧ OwnsU w' w.heap.size w'.heap.size u D ∧ Below w.heap.size w w' := by
  have A0 : Hid (Below w.heap.size w (w.alloc (.cells #[.int .i64 0, .int .i64 0, .slice none 0 0] 39))) := (Below.refl _ _).alloc (Nat.le_refl _) _
  by_cases t1 : (65536 : Int) < (n : Int)
  · have F : Hid (readU B = (um0, 2)) := by show _ = _; unfold readU; rw [if_pos (by rw [hB]; omega)]
    clear h h8 hB
    go_enter Tryd.func38, Tryd.ntmps38
    go_wp2_with fail
    exact bodyPost_ret (v := .tuple #[.agg #[.int .i64 0, .int .i64 0, .slice none 0 0], .int .i64 2]) (by simp [results, Tryd.results38, go_sem]) rfl ⟨_, _, _, rfl, F.out, ownU0 _ _ _, A0.out⟩
  have N1 : Hid (¬ 65536 < B.length) := by show ¬ _; rw [hB]; omega
  obtain ⟨s, hs⟩ : ∃ s, strB B = s := ⟨_, rfl⟩
  have BS : Hid (bytesOf s = B ∧ s.size ≤ 65536) := by
    refine ⟨by rw [← hs, bytes_strB B h8], by rw [← hs, strB_size, hB]; omega⟩
  have CV : Hid (∀ w9, Below w.heap.size w w9 → (convert 22 9 (.slice (some ⟨b, o, none⟩) n c)).run Tryd.prog w9 = .ok (.string s) w9) := fun w9 hb9 => by
    have h9 := conv_sub (c := c) (h.below hb9) (s := n) (by omega)
    rw [List.take_of_length_le (by omega), hs] at h9
    exact h9
  have hcv := CV.out _ A0.out
  obtain ⟨ok, hok⟩ : ∃ b, sealedB B = b := ⟨_, rfl⟩
  have HOK : Hid (sealedB B = ok) := hok
  clear h h8 hB hok hs
  go_enter Tryd.func38, Tryd.ntmps38
  go_wp2_with fail
  refine (l03Unseal s _ BS.out.2).mono ?_
  rw [BS.out.1, HOK.out]
  rintro e w1 ⟨⟨t, rfl, _⟩, hb1⟩
  have B1 : Hid (Below w.heap.size w w1) := Below.new hb1
  have X1 : Hid (Box w1 w.heap.size [.int .i64 0, .int .i64 0, .slice none 0 0]) := Box.below (Box.new rfl) hb1
  have Z1 : Hid (w.heap.size + 1 ≤ w1.heap.size) := size_new hb1
  clear hb1 hcv
  cases ok with
  | false =>
    have F : Hid (readU B = (um0, 8)) := by show _ = _; unfold readU; rw [if_neg N1.out, if_pos HOK.out]
    obtain ⟨p0, f0⟩ := X1.out 0 _ rfl
    obtain ⟨p1, f1⟩ := (X1.out.set 0 (.int .i64 0)) 1 _ rfl
    obtain ⟨p2, f2⟩ := ((X1.out.set 0 (.int .i64 0)).set 1 (.int .i64 0)) 2 _ rfl
    have X3 := ((X1.out.set 0 (.int .i64 0)).set 1 (.int .i64 0)).set 2 (.slice none 0 0)
    obtain ⟨r0, _⟩ := X3 0 _ rfl
    obtain ⟨r1, _⟩ := X3 1 _ rfl
    obtain ⟨r2, _⟩ := X3 2 _ rfl
    clear X3
    have B3 : Hid (Below w.heap.size w (((w1.setCell ⟨w.heap.size, 0, none⟩ (.int .i64 0)).setCell ⟨w.heap.size, 1, none⟩ (.int .i64 0)).setCell ⟨w.heap.size, 2, none⟩ (.slice none 0 0))) := ((B1.out.setCell (Nat.le_refl _) _).setCell (Nat.le_refl _) _).setCell (Nat.le_refl _) _
    go_wp2_with fail
    exact bodyPost_ret (v := .tuple #[.agg #[.int .i64 0, .int .i64 0, .slice none 0 0], .int .i64 8]) (by simp [results, Tryd.results38, go_sem, r0, r1, r2]) rfl ⟨_, _, _, rfl, F.out, ownU0 _ _ _, B3.out⟩
  | true =>
  have hcv := CV.out _ B1.out
  go_wp2_with fail
  clear hcv
  refine (l04Read s _ BS.out.2).mono ?_
  rw [BS.out.1]
  rintro e w2 ⟨hcase, hb2⟩
  have B2 : Hid (Below w.heap.size w w2) := B1.out.trans (hb2.mono B1.out.size)
  have X2 : Hid (Box w2 w.heap.size [.int .i64 0, .int .i64 0, .slice none 0 0]) := X1.out.below hb2
  have Z2 : Hid (w.heap.size + 1 ≤ w2.heap.size) := by have := Z1.out; have := hb2.size; show _ ≤ _; omega
  rcases hcase with ⟨hA, g, r, a, k, cc, rfl⟩ | ⟨D, u2, hA, rfl, hO⟩
  · have F : Hid (readU B = (um0, 3)) := by
      show _ = _
      unfold readU
      rw [if_neg N1.out, if_neg (by rw [HOK.out]; decide), hA]
    clear hA hb2
    have X9 : Box (w2.alloc (.cells #[.int .i64 g, .int .i64 r, .slice a k cc] 39)) w.heap.size [.int .i64 0, .int .i64 0, .slice none 0 0] := X2.out.old _
    obtain ⟨p0, f0⟩ := X9 0 _ rfl
    obtain ⟨p1, f1⟩ := (X9.set 0 (.int .i64 0)) 1 _ rfl
    obtain ⟨p2, f2⟩ := ((X9.set 0 (.int .i64 0)).set 1 (.int .i64 0)) 2 _ rfl
    have X3 := ((X9.set 0 (.int .i64 0)).set 1 (.int .i64 0)).set 2 (.slice none 0 0)
    obtain ⟨r0, _⟩ := X3 0 _ rfl
    obtain ⟨r1, _⟩ := X3 1 _ rfl
    obtain ⟨r2, _⟩ := X3 2 _ rfl
    clear X3 X9
    have B3 : Hid (Below w.heap.size w ((((w2.alloc (.cells #[.int .i64 g, .int .i64 r, .slice a k cc] 39)).setCell ⟨w.heap.size, 0, none⟩ (.int .i64 0)).setCell ⟨w.heap.size, 1, none⟩ (.int .i64 0)).setCell ⟨w.heap.size, 2, none⟩ (.slice none 0 0))) := (((B2.out.alloc B2.out.size _).setCell (Nat.le_refl _) _).setCell (Nat.le_refl _) _).setCell (Nat.le_refl _) _
    go_wp2_with fail
    exact bodyPost_ret (v := .tuple #[.agg #[.int .i64 0, .int .i64 0, .slice none 0 0], .int .i64 3]) (by simp [results, Tryd.results38, go_sem, r0, r1, r2]) rfl ⟨_, _, _, rfl, F.out, ownU0 _ _ _, B3.out⟩
  · have RU := hO.reads
    obtain ⟨ua, uc, rfl, hsrc⟩ := RU
    have O2 : Hid (OwnsU w2 w1.heap.size w2.heap.size (.agg #[.int .i64 D.G, .int .i64 D.R, .slice ua D.S.length uc]) D) := hO
    obtain ⟨G, hG⟩ : ∃ g, D.G = g := ⟨_, rfl⟩
    obtain ⟨R0, hR⟩ : ∃ g, D.R = g := ⟨_, rfl⟩
    obtain ⟨m, hm⟩ : ∃ g, D.S.length = g := ⟨_, rfl⟩
    rw [hG, hR, hm] at O2 ⊢
    have F : Hid (readU B = (D, 0)) := by
      show _ = _
      unfold readU
      rw [if_neg N1.out, if_neg (by rw [HOK.out]; decide), hA]
    have A2 : Below w2.heap.size w2 (w2.alloc (.cells #[.int .i64 G, .int .i64 R0, .slice ua m uc] 39)) := (Below.refl _ _).alloc (Nat.le_refl _) _
    have B3 : Hid (Below w.heap.size w (w2.alloc (.cells #[.int .i64 G, .int .i64 R0, .slice ua m uc] 39))) := B2.out.alloc B2.out.size _
    have X3 : Hid (Box (w2.alloc (.cells #[.int .i64 G, .int .i64 R0, .slice ua m uc] 39)) w.heap.size [.int .i64 0, .int .i64 0, .slice none 0 0]) := X2.out.old _
    have O3 : Hid (OwnsU (w2.alloc (.cells #[.int .i64 G, .int .i64 R0, .slice ua m uc] 39)) w1.heap.size w2.heap.size (.agg #[.int .i64 G, .int .i64 R0, .slice ua m uc]) D) := O2.out.below A2
    clear hA hb2 hO hsrc hG hR hm A2
    obtain ⟨p0, f0⟩ := X3.out 0 _ rfl
    obtain ⟨p1, f1⟩ := (X3.out.set 0 (.int .i64 G)) 1 _ rfl
    obtain ⟨p2, f2⟩ := ((X3.out.set 0 (.int .i64 G)).set 1 (.int .i64 R0)) 2 _ rfl
    have X4 := ((X3.out.set 0 (.int .i64 G)).set 1 (.int .i64 R0)).set 2 (.slice ua m uc)
    obtain ⟨r0, _⟩ := X4 0 _ rfl
    obtain ⟨r1, _⟩ := X4 1 _ rfl
    obtain ⟨r2, _⟩ := X4 2 _ rfl
    clear X4
    have B4 : Hid (Below w.heap.size w ((((w2.alloc (.cells #[.int .i64 G, .int .i64 R0, .slice ua m uc] 39)).setCell ⟨w.heap.size, 0, none⟩ (.int .i64 G)).setCell ⟨w.heap.size, 1, none⟩ (.int .i64 R0)).setCell ⟨w.heap.size, 2, none⟩ (.slice ua m uc))) := ((B3.out.setCell (Nat.le_refl _) _).setCell (Nat.le_refl _) _).setCell (Nat.le_refl _) _
    have O4 : Hid (OwnsU ((((w2.alloc (.cells #[.int .i64 G, .int .i64 R0, .slice ua m uc] 39)).setCell ⟨w.heap.size, 0, none⟩ (.int .i64 G)).setCell ⟨w.heap.size, 1, none⟩ (.int .i64 R0)).setCell ⟨w.heap.size, 2, none⟩ (.slice ua m uc)) w.heap.size ((((w2.alloc (.cells #[.int .i64 G, .int .i64 R0, .slice ua m uc] 39)).setCell ⟨w.heap.size, 0, none⟩ (.int .i64 G)).setCell ⟨w.heap.size, 1, none⟩ (.int .i64 R0)).setCell ⟨w.heap.size, 2, none⟩ (.slice ua m uc)).heap.size (.agg #[.int .i64 G, .int .i64 R0, .slice ua m uc]) D) := by
      obtain ⟨v9, e9, h9⟩ := O3.out
      refine ⟨v9, e9, OwnsR.mk (own_mono (own_setLow (own_setLow (own_setLow h9.1 ?_ _) ?_ _) ?_ _) ?_) (Nat.le_refl _)⟩
      all_goals (have := Z1.out; (try dsimp only); omega)
    go_wp2_with fail
    exact bodyPost_ret (v := .tuple #[.agg #[.int .i64 G, .int .i64 R0, .slice ua m uc], .int .i64 0]) (by simp [results, Tryd.results38, go_sem, r0, r1, r2]) rfl ⟨_, _, _, rfl, F.out, O4.out, B4.out⟩
end Go.Proofs.YtnejklppbjkekaaDoor
