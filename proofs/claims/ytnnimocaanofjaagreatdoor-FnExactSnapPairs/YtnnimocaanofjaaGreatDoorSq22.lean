/-
  Texts of the store, brought together: Rsr, Lists3, Dm. By an AI agent.
-/
import Derived.Test.YtnnimocaanofjaaGreatDoorSq21
namespace Go.Proofs.YtnnimocaanofjaaGreatDoor
open Go.ChangeShapes Go.WideShapes Go.ChangeAt Go.RowKit Go.Deep
set_option linter.unusedVariables false
set_option linter.unusedSimpArgs false
set_option maxRecDepth 100000
abbrev um0 : UM := ⟨0, 0, []⟩
def readU (B : List Nat) : UM × Int := if 65536 < B.length then (um0, 2) else if sealedB B = false then (um0, 8) else match superR B with
  | none => (um0, 3)
  | some D => (D, 0)
theorem ownU0 (w : World) (lo hi : Nat) : OwnsU w lo hi (.agg #[.int .i64 0, .int .i64 0, .slice none 0 0]) um0 := ⟨_, rfl, World.ownsRow_nil _ _ _ _, fun k e => by cases e⟩
theorem superA_small {B : List Nat} {D : UM} (h : superA B = some D) : smallU D := by
  unfold superA at h
  split at h
  · cases h
  · split at h
    · cases h
    · split at h
      · cases h
      · cases h
        have hl : (rfA (B.drop 3)).1.length ≤ 1048576 := rf_small (B := B.drop 3) (q := (rfA (B.drop 3)).2) rfl
        refine ⟨by show ((rfA (B.drop 3)).1.map snapOf).length ≤ _; rw [List.length_map]; exact hl, fun x hx => ?_⟩
        obtain ⟨f, hf, rfl⟩ := List.mem_map.1 hx
        show (f.extract 3 f.size).size ≤ _
        rw [ByteArray.size_extract]
        have h9 := rf_sizes (B := B.drop 3) (R := (rfA (B.drop 3)).1) (q := (rfA (B.drop 3)).2) rfl f hf
        omega
theorem superR_A {B : List Nat} (hs : sealedB B = true) : superR B = match superA (bodyB B) with | none => none | some D => if okU D = true then some D else none := by unfold superR; rw [if_pos hs]; cases superA (bodyB B) <;> rfl
set_option maxHeartbeats 2000000 in
theorem implReadSuper (b o n c : Nat) (B : List Nat) (w : World) (hB : B.length = n) (hn : n ≤ 1048576) (hc : n ≤ c) (hc2 : c ≤ maxLen) (h8 : ∀ x ∈ B, x < 256) (h : Src w (some ⟨b, o, none⟩) (cellsB B)) (hH : HasHalf w) :
    Calls Tryz.prog 136 #[.slice (some ⟨b, o, none⟩) n c] w fun e w' => ∃ u D q, e = .returned (.tuple #[u, .int .i64 q]) ∧ readU B = (D, q) ∧ OwnsU w' w.heap.size w'.heap.size u D ∧ Below w.heap.size w w' := by
  have A0 : Hid (Below w.heap.size w (w.alloc (.cells #[.int .i64 0, .int .i64 0, .slice none 0 0] 42))) := (Below.refl _ _).alloc (Nat.le_refl _) _
  by_cases t1 : (65536 : Int) < (n : Int)
  · have F : Hid (readU B = (um0, 2)) := by show _ = _; unfold readU; rw [if_pos (by rw [hB]; omega)]
    clear h h8 hB hH
    go_enter Tryz.func136, Tryz.ntmps136
    go_wp2_with fail
    exact bodyPost_ret (v := .tuple #[.agg #[.int .i64 0, .int .i64 0, .slice none 0 0], .int .i64 2]) (by simp [results, Tryz.results136, go_sem]) rfl ⟨_, _, _, rfl, F.out, ownU0 _ _ _, A0.out⟩
  have N1 : Hid (¬ 65536 < B.length) := by show ¬ _; rw [hB]; omega
  have HS : Hid (Src w (some ⟨b, o, none⟩) (cellsB B)) := h
  have HB : Hid (B.length = n ∧ (∀ x ∈ B, x < 256) ∧ HasHalf w ∧ n ≤ c ∧ c ≤ maxLen) := ⟨hB, h8, hH, hc, hc2⟩
  obtain ⟨ok, hok⟩ : ∃ b, sealedB B = b := ⟨_, rfl⟩
  have HOK : Hid (sealedB B = ok) := hok
  clear h h8 hB hH hok
  go_enter Tryz.func136, Tryz.ntmps136
  go_wp2_with fail
  refine (unsealed b o n c B _ HB.out.1 (by omega) HB.out.2.2.2.1 HB.out.2.1 (HS.out.below A0.out) (HB.out.2.2.1.below A0.out)).mono ?_
  rw [HOK.out]
  rintro e w1 ⟨⟨u1, rfl, hu1⟩, hb1⟩
  have B1 : Hid (Below w.heap.size w w1) := Below.new hb1
  have X1 : Hid (Box w1 w.heap.size [.int .i64 0, .int .i64 0, .slice none 0 0]) := Box.below (Box.new rfl) hb1
  have Z1 : Hid (w.heap.size + 1 ≤ w1.heap.size) := size_new hb1
  clear hb1
  cases ok with
  | false =>
    have F : Hid (readU B = (um0, 8)) := by show _ = _; unfold readU; rw [if_neg N1.out, if_pos HOK.out]
    obtain ⟨p0, f0⟩ := X1.out 0 _ rfl
    obtain ⟨p1, f1⟩ := (X1.out.set 0 (.int .i64 0)) 1 _ rfl
    obtain ⟨p2, f2⟩ := ((X1.out.set 0 (.int .i64 0)).set 1 (.int .i64 0)) 2 _ rfl
    have X3 := ((X1.out.set 0 (.int .i64 0)).set 1 (.int .i64 0)).set 2 (.slice none 0 0)
    obtain ⟨r0, _⟩ := X3 0 _ rfl
    obtain ⟨r1, _⟩ := X3 1 _ rfl
    obtain ⟨r2, _⟩ := X3 2 _ rfl
    clear X3 hu1
    have B3 : Hid (Below w.heap.size w (((w1.setCell ⟨w.heap.size, 0, none⟩ (.int .i64 0)).setCell ⟨w.heap.size, 1, none⟩ (.int .i64 0)).setCell ⟨w.heap.size, 2, none⟩ (.slice none 0 0))) := ((B1.out.setCell (Nat.le_refl _) _).setCell (Nat.le_refl _) _).setCell (Nat.le_refl _) _
    go_wp2_with fail
    exact bodyPost_ret (v := .tuple #[.agg #[.int .i64 0, .int .i64 0, .slice none 0 0], .int .i64 8]) (by simp [results, Tryz.results136, go_sem, r0, r1, r2]) rfl ⟨_, _, _, rfl, F.out, ownU0 _ _ _, B3.out⟩
  | true =>
  obtain rfl := hu1 rfl
  have h4 : 4 ≤ n := by
    have h9 := HOK.out
    unfold sealedB at h9
    rw [Bool.and_eq_true, decide_eq_true_eq, HB.out.1] at h9
    exact h9.1
  obtain ⟨k, hk⟩ : ∃ k, n - 4 = k := ⟨_, rfl⟩
  have BD : Hid ((bodyB B).length = k ∧ (∀ x ∈ bodyB B, x < 256) ∧ Src w (some ⟨b, o, none⟩) (cellsB (bodyB B)) ∧ k ≤ c) := by
    refine ⟨by unfold bodyB; rw [List.length_take, HB.out.1]; omega, fun x hx => HB.out.2.1 x (List.mem_of_mem_take hx), ?_, by have := HB.out.2.2.2.1; omega⟩
    have h9 := HS.out.head (B.length - 4)
    have e9 : (cellsB B).take (B.length - 4) = cellsB (bodyB B) := by unfold bodyB cellsB; rw [List.map_take]
    rw [e9] at h9
    exact h9
  rw [hk]
  have hk9 : k ≤ 65536 := by omega
  clear hk h4 hu1
  go_wp2_with fail
  refine (superOf b o k c (bodyB B) _ BD.out.1 hk9 BD.out.2.2.2 HB.out.2.2.2.2 BD.out.2.1 (BD.out.2.2.1.below B1.out)).mono ?_
  rintro e w2 ⟨hcase, hb2⟩
  have B2 : Hid (Below w.heap.size w w2) := B1.out.trans (hb2.mono B1.out.size)
  have X2 : Hid (Box w2 w.heap.size [.int .i64 0, .int .i64 0, .slice none 0 0]) := X1.out.below hb2
  have Z2 : Hid (w.heap.size + 1 ≤ w2.heap.size) := by have := Z1.out; have := hb2.size; show _ ≤ _; omega
  rcases hcase with ⟨hA, rfl⟩ | ⟨D, u2, hA, rfl, hO⟩
  · have F : Hid (readU B = (um0, 3)) := by
      show _ = _
      unfold readU
      rw [if_neg N1.out, if_neg (by rw [HOK.out]; decide), superR_A HOK.out, hA]
    clear hA hb2
    have X9 : Box (w2.alloc (.cells #[.int .i64 0, .int .i64 0, .slice none 0 0] 42)) w.heap.size [.int .i64 0, .int .i64 0, .slice none 0 0] := X2.out.old _
    obtain ⟨p0, f0⟩ := X9 0 _ rfl
    obtain ⟨p1, f1⟩ := (X9.set 0 (.int .i64 0)) 1 _ rfl
    obtain ⟨p2, f2⟩ := ((X9.set 0 (.int .i64 0)).set 1 (.int .i64 0)) 2 _ rfl
    have X3 := ((X9.set 0 (.int .i64 0)).set 1 (.int .i64 0)).set 2 (.slice none 0 0)
    obtain ⟨r0, _⟩ := X3 0 _ rfl
    obtain ⟨r1, _⟩ := X3 1 _ rfl
    obtain ⟨r2, _⟩ := X3 2 _ rfl
    clear X3 X9
    have B3 : Hid (Below w.heap.size w ((((w2.alloc (.cells #[.int .i64 0, .int .i64 0, .slice none 0 0] 42)).setCell ⟨w.heap.size, 0, none⟩ (.int .i64 0)).setCell ⟨w.heap.size, 1, none⟩ (.int .i64 0)).setCell ⟨w.heap.size, 2, none⟩ (.slice none 0 0))) := (((B2.out.alloc B2.out.size _).setCell (Nat.le_refl _) _).setCell (Nat.le_refl _) _).setCell (Nat.le_refl _) _
    go_wp2_with fail
    exact bodyPost_ret (v := .tuple #[.agg #[.int .i64 0, .int .i64 0, .slice none 0 0], .int .i64 3]) (by simp [results, Tryz.results136, go_sem, r0, r1, r2]) rfl ⟨_, _, _, rfl, F.out, ownU0 _ _ _, B3.out⟩
  · have RU := hO.reads
    obtain ⟨ua, uc, rfl, hsrc⟩ := RU
    have O2 : Hid (OwnsU w2 w1.heap.size w2.heap.size (.agg #[.int .i64 D.G, .int .i64 D.R, .slice ua D.S.length uc]) D) := hO
    obtain ⟨G, hG⟩ : ∃ g, D.G = g := ⟨_, rfl⟩
    obtain ⟨R0, hR⟩ : ∃ g, D.R = g := ⟨_, rfl⟩
    obtain ⟨m, hm⟩ : ∃ g, D.S.length = g := ⟨_, rfl⟩
    rw [hG, hR, hm] at O2 ⊢
    have SM : Hid (smallU D) := superA_small hA
    obtain ⟨q, hq⟩ : ∃ b, okU D = b := ⟨_, rfl⟩
    have HQ : Hid (okU D = q ∧ superA (bodyB B) = some D) := ⟨hq, hA⟩
    have A2 : Hid (Below w2.heap.size w2 (w2.alloc (.cells #[.int .i64 G, .int .i64 R0, .slice ua m uc] 42))) := (Below.refl _ _).alloc (Nat.le_refl _) _
    clear hA hb2 hO hsrc hG hR hm hq
    go_wp2_with fail
    refine (implSuperOK _ D _ SM.out (O2.out.reads.below A2.out)).mono ?_
    rw [HQ.out.1]
    rintro e w3 ⟨rfl, hb3⟩
    have B3 : Hid (Below w.heap.size w w3) := B2.out.trans ((A2.out.trans (hb3.mono A2.out.size)).mono B2.out.size)
    have X3 : Hid (Box w3 w.heap.size [.int .i64 0, .int .i64 0, .slice none 0 0]) := (X2.out.old _).below hb3
    have Y3 : Hid (Box w3 w2.heap.size [.int .i64 G, .int .i64 R0, .slice ua m uc]) := Box.below (Box.new rfl) hb3
    have O3 : Hid (OwnsU w3 w1.heap.size w2.heap.size (.agg #[.int .i64 G, .int .i64 R0, .slice ua m uc]) D) := (O2.out.below A2.out).below hb3
    clear hb3
    cases q with
    | false =>
      have F : Hid (readU B = (um0, 3)) := by
        show _ = _
        unfold readU
        rw [if_neg N1.out, if_neg (by rw [HOK.out]; decide), superR_bad HQ.out.2 HQ.out.1]
      obtain ⟨p0, f0⟩ := X3.out 0 _ rfl
      obtain ⟨p1, f1⟩ := (X3.out.set 0 (.int .i64 0)) 1 _ rfl
      obtain ⟨p2, f2⟩ := ((X3.out.set 0 (.int .i64 0)).set 1 (.int .i64 0)) 2 _ rfl
      have X4 := ((X3.out.set 0 (.int .i64 0)).set 1 (.int .i64 0)).set 2 (.slice none 0 0)
      obtain ⟨r0, _⟩ := X4 0 _ rfl
      obtain ⟨r1, _⟩ := X4 1 _ rfl
      obtain ⟨r2, _⟩ := X4 2 _ rfl
      clear X4
      have B4 : Hid (Below w.heap.size w (((w3.setCell ⟨w.heap.size, 0, none⟩ (.int .i64 0)).setCell ⟨w.heap.size, 1, none⟩ (.int .i64 0)).setCell ⟨w.heap.size, 2, none⟩ (.slice none 0 0))) := ((B3.out.setCell (Nat.le_refl _) _).setCell (Nat.le_refl _) _).setCell (Nat.le_refl _) _
      go_wp2_with fail
      exact bodyPost_ret (v := .tuple #[.agg #[.int .i64 0, .int .i64 0, .slice none 0 0], .int .i64 3]) (by simp [results, Tryz.results136, go_sem, r0, r1, r2]) rfl ⟨_, _, _, rfl, F.out, ownU0 _ _ _, B4.out⟩
    | true =>
      have F : Hid (readU B = (D, 0)) := by
        show _ = _
        unfold readU
        rw [if_neg N1.out, if_neg (by rw [HOK.out]; decide), superR_some HOK.out HQ.out.2 HQ.out.1]
      obtain ⟨s0, _⟩ := Y3.out 0 _ rfl
      obtain ⟨s1, _⟩ := Y3.out 1 _ rfl
      obtain ⟨s2, _⟩ := Y3.out 2 _ rfl
      obtain ⟨p0, f0⟩ := X3.out 0 _ rfl
      obtain ⟨p1, f1⟩ := (X3.out.set 0 (.int .i64 G)) 1 _ rfl
      obtain ⟨p2, f2⟩ := ((X3.out.set 0 (.int .i64 G)).set 1 (.int .i64 R0)) 2 _ rfl
      have X4 := ((X3.out.set 0 (.int .i64 G)).set 1 (.int .i64 R0)).set 2 (.slice ua m uc)
      obtain ⟨r0, _⟩ := X4 0 _ rfl
      obtain ⟨r1, _⟩ := X4 1 _ rfl
      obtain ⟨r2, _⟩ := X4 2 _ rfl
      clear X4
      have B4 : Hid (Below w.heap.size w (((w3.setCell ⟨w.heap.size, 0, none⟩ (.int .i64 G)).setCell ⟨w.heap.size, 1, none⟩ (.int .i64 R0)).setCell ⟨w.heap.size, 2, none⟩ (.slice ua m uc))) := ((B3.out.setCell (Nat.le_refl _) _).setCell (Nat.le_refl _) _).setCell (Nat.le_refl _) _
      have O4 : Hid (OwnsU (((w3.setCell ⟨w.heap.size, 0, none⟩ (.int .i64 G)).setCell ⟨w.heap.size, 1, none⟩ (.int .i64 R0)).setCell ⟨w.heap.size, 2, none⟩ (.slice ua m uc)) w.heap.size (((w3.setCell ⟨w.heap.size, 0, none⟩ (.int .i64 G)).setCell ⟨w.heap.size, 1, none⟩ (.int .i64 R0)).setCell ⟨w.heap.size, 2, none⟩ (.slice ua m uc)).heap.size (.agg #[.int .i64 G, .int .i64 R0, .slice ua m uc]) D) := by
        obtain ⟨v9, e9, h9⟩ := O3.out
        refine ⟨v9, e9, OwnsR.mk (own_mono (own_setLow (own_setLow (own_setLow h9.1 ?_ _) ?_ _) ?_ _) ?_) (Nat.le_refl _)⟩
        all_goals (have := Z1.out; (try dsimp only); omega)
      go_wp2_with fail
      exact bodyPost_ret (v := .tuple #[.agg #[.int .i64 G, .int .i64 R0, .slice ua m uc], .int .i64 0]) (by simp [results, Tryz.results136, go_sem, r0, r1, r2]) rfl ⟨_, _, _, rfl, F.out, O4.out, B4.out⟩
def mkQ (k n : Nat) : List (Int × ByteArray) := (List.range n).map fun i => (((k + i * 2 : Nat) : Int), markT (k + i * 2 + 1))
theorem mkQ_length (k n : Nat) : (mkQ k n).length = n := by simp [mkQ]
theorem mkQ_get (k n i : Nat) (h : i < n) : (mkQ k n).getD i q0 = (((k + i * 2 : Nat) : Int), markT (k + i * 2 + 1)) := by
  rw [List.getD_eq_getElem?_getD]; simp [mkQ, h]
theorem infoQ : (Tryz.prog.info? 127).map (fun i => (i.zero, i.size, i.bytes)) = some (some (.agg #[.int .i64 0, .string ⟨#[]⟩]), 2, 24) := by kernel_rfl
theorem run_make_Q (n : Nat) (hn : n ≤ 1048576) (w : World) : (Instr.makeSlice 37 (.int .i64 (n : Int)) (.int .i64 (n : Int))).run Tryz.prog w = .ok (.slice (some ⟨w.heap.size, 0, none⟩) n n) (w.alloc (.cells (madeCells #[.int .i64 0, .string ⟨#[]⟩] (n * 2)) 127)) :=
  run_make_rows 37 127 (.agg #[.int .i64 0, .string ⟨#[]⟩]) 2 24 n Tryz.underlying37 infoQ (by omega) hn w
set_option maxHeartbeats 400000 in
theorem toPending (x : Int) (y : ByteArray) (w : World) : Calls Tryz.prog 98 #[.agg #[.int .i64 x, .string y]] w fun e w' => e = .returned (.agg #[.int .i64 x, .string y]) ∧ Below w.heap.size w w' := by
  go_enter Tryz.func98, Tryz.ntmps98
  go_wp2
  exact bodyPost_ret (v := .agg #[.int .i64 x, .string y]) (by simp [results, Tryz.results98, go_sem]) rfl ⟨rfl, (((Below.refl _ _).alloc (Nat.le_refl _) _).alloc (by simp) _).alloc (by simp; omega) _⟩
set_option maxHeartbeats 400000 in
theorem szPending (x : Int) (y : ByteArray) (l : Int) (w : World) (hy : y.size ≤ maxLen) (h0 : 0 ≤ l) (h1 : l ≤ 1048576) : Calls Tryz.prog 95 #[.agg #[.int .i64 x, .string y], .int .i64 l] w fun e w' => ∃ r : Int, e = .returned (.int .i64 r) ∧ r ≤ l ∧ (0 ≤ r → r = l - y.size) ∧ Below w.heap.size w w' := by
  unfold maxLen at hy
  go_enter Tryz.func95, Tryz.ntmps95
  go_wp2
  all_goals
    go_ret
    refine ⟨_, rfl, ?_, ?_, (Below.refl _ _).alloc (Nat.le_refl _) _⟩
    all_goals omega
set_option maxHeartbeats 400000 in
theorem eqPending (x : Int) (y : ByteArray) (w : World) : Calls Tryz.prog 104 #[.agg #[.int .i64 x, .string y], .agg #[.int .i64 x, .string y]] w fun e w' => e = .returned (.bool true) ∧ Below w.heap.size w w' := by
  have hne : (x != x) = false := by simp
  go_enter Tryz.func104, Tryz.ntmps104
  go_wp2
  go_ret
  exact ⟨rfl, ((Below.refl _ _).alloc (Nat.le_refl _) _).alloc (by simp) _⟩
set_option maxHeartbeats 400000 in
theorem toPendingS (a : Option Addr) (n c : Nat) (L : List (Int × ByteArray)) (w : World) (hL : L.length = n) (hn : n ≤ 1048576) (h : Src w a (cellsQ L)) :
    Calls Tryz.prog 49 #[.slice a n c] w fun e w' => ∃ v, e = .returned v ∧ w'.ownsRow w.heap.size 127 2 v n (cellsQ L) ∧ Below w.heap.size w w' := by
  have hmk := run_make_Q n hn
  have HH : Hid (Src w a (cellsQ L)) := h
  have HL : Hid ((cellsQ L).length = n * 2) := by show (cellsQ L).length = n * 2; rw [cellsQ_length, hL]
  have HL2 : Hid (L.length = n) := hL
  clear h hL
  go_enter Tryz.func49, Tryz.ntmps49
  go_wp2_with fail
  clear hmk
  obtain ⟨zs, hz, ho⟩ := rows_made w #[.int .i64 0, .string ⟨#[]⟩] n 2 127 rfl (by omega) (by unfold maxLen; omega)
  have HZ : Hid (zs.length = n * 2) := hz
  have HO : Hid (World.ownsRow (w.alloc (.cells (madeCells #[.int .i64 0, .string ⟨#[]⟩] (n * 2)) 127)) w.heap.size 127 2 (.slice (some ⟨w.heap.size, 0, none⟩) n n) n zs) := ho
  clear hz ho
  go_loopw [4] (fun i wr => ∃ k : Nat, k ≤ n ∧ i = .int .i64 k ∧ Hid (Below w.heap.size w wr) ∧ Hid (wr.ownsRow w.heap.size 127 2 (.slice (some ⟨w.heap.size, 0, none⟩) n n) n ((cellsQ L).take (k * 2) ++ zs.drop (k * 2)))) (fun i _ => n - (intOf i).toNat)
  case atStart => exact ⟨0, by omega, rfl, (Below.refl _ _).alloc (Nat.le_refl _) _, by simpa [Hid] using HO.out⟩
  case round =>
    obtain ⟨k, hk, rfl, hb, ho⟩ := hrel
    by_cases hlt : k < n
    · have hkL : k < L.length := by rw [HL2.out]; exact hlt
      obtain ⟨b, o, x, y, rfl, hc1, hc2, hy⟩ := srcQ (HH.out.below hb.out) hkL
      have HK : Hid (k < L.length) := hkL
      clear hkL
      go_wp2_with fail
      refine (toPending x y _).mono ?_
      rintro e w1 ⟨rfl, hb1⟩
      have HB : Hid (Below w.heap.size w w1) := hb.out.trans (hb1.mono hb.out.size)
      have HO1 : Hid (w1.ownsRow w.heap.size 127 2 (.slice (some ⟨w.heap.size, 0, none⟩) n n) n ((cellsQ L).take (k * 2) ++ zs.drop (k * 2))) := own_below ho.out hb1
      clear hb hb1 ho hc1 hc2
      have hl1 : Hid (((cellsQ L).take (k * 2) ++ zs.drop (k * 2)).length = n * 2) := by
        show _ = _; rw [fill_length _ _ _ (HZ.out.trans HL.out.symm), HL.out]
      obtain ⟨z1, o1, o2⟩ := own_cellX HO1.out (i := k * 2) (by rw [hl1.out]; omega)
      obtain ⟨z2, o3, o4⟩ := own_cellX HO1.out (i := k * 2 + 1) (by rw [hl1.out]; omega)
      have o3' : (w1.setCell ⟨w.heap.size, k * 2, none⟩ (.int .i64 x)).cell? ⟨w.heap.size, k * 2 + 1, none⟩ = some z2 := by
        rw [World.cell?_setCell_other _ _ _ _ (offs_ne (by omega))]; exact o3
      go_wp2_with fail
      refine ⟨⟨k + 1, by omega, by go_num, (HB.out.setCell (Nat.le_refl _) _).setCell (Nat.le_refl _) _, ?_⟩, by simp [intOf]; omega⟩
      have e1 := fill_set (cellsQ L) zs (k * 2) (.int .i64 x) (by rw [HZ.out]; omega) (by rw [(cellsQ_get L k HK.out).1, hy.out])
      have e2 := fill_set (cellsQ L) zs (k * 2 + 1) (.string y) (by rw [HZ.out]; omega) (by rw [(cellsQ_get L k HK.out).2, hy.out])
      have s1 := own_set HO1.out (k * 2) (by rw [hl1.out]; omega) (.int .i64 x)
      rw [e1] at s1
      have s2 := own_set s1 (k * 2 + 1) (by rw [fill_length _ _ _ (HZ.out.trans HL.out.symm), HL.out]; omega) (.string y)
      rw [e2] at s2
      rw [show (k + 1) * 2 = k * 2 + 1 + 1 from by omega]
      exact s2
    · have hkn : k = n := by omega
      have HF : Hid (wr.ownsRow w.heap.size 127 2 (.slice (some ⟨w.heap.size, 0, none⟩) n n) n (cellsQ L)) := own_congr ho.out (by rw [hkn]; exact fill_all HL.out HZ.out)
      clear hkn
      go_wp2_with fail
      go_ret
      exact ⟨_, rfl, HF.out, hb.out⟩
set_option maxHeartbeats 400000 in
theorem eqPendingS (a b : Option Addr) (n c d : Nat) (L : List (Int × ByteArray)) (w : World) (hL : L.length = n) (hn : n ≤ 9000000000000000000) (ha : Src w a (cellsQ L)) (hb : Src w b (cellsQ L)) :
    Calls Tryz.prog 54 #[.slice a n c, .slice b n d] w fun e w' => e = .returned (.bool true) ∧ Below w.heap.size w w' := by
  have hne : ((n : Int) != (n : Int)) = false := by simp
  have HA : Hid (Src w a (cellsQ L)) := ha
  have HB : Hid (Src w b (cellsQ L)) := hb
  have HL : Hid (L.length = n) := hL
  clear ha hb hL
  go_enter Tryz.func54, Tryz.ntmps54
  go_wp2_with fail
  go_loopw [5] (fun i wr => ∃ k : Nat, k ≤ n ∧ i = .int .i64 k ∧ Hid (Below w.heap.size w wr)) (fun i _ => n - (intOf i).toNat)
  case atStart => exact ⟨0, by omega, rfl, Below.refl _ _⟩
  case round =>
    obtain ⟨k, hk, rfl, hB⟩ := hrel
    by_cases hlt : k < n
    · obtain ⟨b1, o1, x, y, rfl, p1, p2, hy1⟩ := srcQ (HA.out.below hB.out) (i := k) (by rw [HL.out]; exact hlt)
      obtain ⟨b2, o2, x', y', rfl, p3, p4, hy2⟩ := srcQ (HB.out.below hB.out) (i := k) (by rw [HL.out]; exact hlt)
      obtain ⟨rfl, rfl⟩ : x = x' ∧ y = y' := by have := hy1.out.symm.trans hy2.out; simpa using this
      have hk0 : (0 : Int) ≤ (k : Int) := by omega
      have hki : (k : Int) < (n : Int) := by omega
      go_wp2_with fail
      go_region_with (go_at_call 104; refine (eqPending _ _ _).mono ?_; rintro e w1 ⟨rfl, hb1⟩)
      all_goals go_wp2_with fail
      all_goals exact ⟨⟨k + 1, by omega, by go_num, hB.out.drew.trans (hb1.mono hB.out.size)⟩, by simp [intOf]; omega⟩
    · go_wp2_with fail
      go_ret
      exact ⟨rfl, hB.out⟩
set_option maxHeartbeats 600000 in
theorem markPendingS (v : Value) (n k base : Nat) (xs : List Value) (w : World) (hn : n ≤ 1048576) (hk0 : 0 < k) (hk1 : k ≤ 4194304) (ho : w.ownsRow base 127 2 v n xs) :
    Calls Tryz.prog 57 #[v, .int .i64 (k : Int)] w fun e w' => e = .returned (.int .i64 ((k + n * 2 : Nat) : Int)) ∧ w.grownBy w' v.ownBlock ∧ w'.ownsRow base 127 2 v n (cellsQ (mkQ k n)) := by
  have hlen := ho.1
  have hcase := ho.2
  rcases hcase with ⟨rfl, h0⟩ | ⟨B, cap, cur, rfl, _⟩
  · subst h0
    clear ho hlen
    go_enter Tryz.func57, Tryz.ntmps57
    go_wp2_with fail
    go_loop [1, 5] (fun kk i => i = .int .i64 0 ∧ kk = .int .i64 (k : Int)) (fun _ _ => 0)
    case atStart => exact ⟨rfl, rfl⟩
    case round =>
      obtain ⟨rfl, rfl⟩ := hrel
      go_wp2_with fail
      go_ret
      exact ⟨rfl, gb_refl _ _, World.ownsRow_nil _ _ _ _⟩
  have HO : Hid (w.ownsRow base 127 2 (.slice (some ⟨B, 0, none⟩) n cap) n xs) := ho
  have HN : Hid (xs.length = n * 2) := hlen
  have HM : Hid ((cellsQ (mkQ k n)).length = n * 2) := by show (cellsQ (mkQ k n)).length = n * 2; rw [cellsQ_length, mkQ_length]
  clear ho hlen
  go_enter Tryz.func57, Tryz.ntmps57
  go_wp2_with fail
  go_loopw [1, 5] (fun kk i wr => ∃ j x : Nat, j ≤ n ∧ i = .int .i64 (j : Int) ∧ kk = .int .i64 (x : Int) ∧ x ≤ 16777216 ∧ 0 < x ∧ Hid (x = k + j * 2) ∧ Hid (w.grownBy wr (some B)) ∧ Hid (wr.ownsRow base 127 2 (.slice (some ⟨B, 0, none⟩) n cap) n ((cellsQ (mkQ k n)).take (j * 2) ++ xs.drop (j * 2)))) (fun _ i _ => n - (intOf i).toNat)
  case atStart => exact ⟨0, k, by omega, rfl, rfl, by omega, by omega, by show k = k + 0 * 2; omega, gb_refl _ _, by simpa [Hid] using HO.out⟩
  case round =>
    obtain ⟨j, x, hj, rfl, rfl, hx1, hx0, hx, hg, hO⟩ := hrel
    by_cases hlt : j < n
    · have hjn : (j : Int) < (n : Int) := by omega
      have hxb : Hid (x + 2 ≤ 16777216) := by show x + 2 ≤ 16777216; have := hx.out; omega
      have hl1 : Hid (((cellsQ (mkQ k n)).take (j * 2) ++ xs.drop (j * 2)).length = n * 2) := by
        show _ = _; rw [fill_length _ _ _ (HN.out.trans HM.out.symm), HM.out]
      obtain ⟨z1, o1, o2⟩ := own_cellX hO.out (i := j * 2) (by rw [hl1.out]; omega)
      have HJ : Hid (j < (mkQ k n).length) := by show j < (mkQ k n).length; rw [mkQ_length]; exact hlt
      have s1 := own_set hO.out (j * 2) (by rw [hl1.out]; omega) (.int .i64 (x : Int))
      rw [fill_set (cellsQ (mkQ k n)) xs (j * 2) (.int .i64 (x : Int)) (by rw [HN.out]; omega) (by rw [(cellsQ_get _ j HJ.out).1, mkQ_get _ _ _ hlt, hx.out])] at s1
      have S1 : Hid ((wr.setCell ⟨B, j * 2, none⟩ (.int .i64 (x : Int))).ownsRow base 127 2 (.slice (some ⟨B, 0, none⟩) n cap) n ((cellsQ (mkQ k n)).take (j * 2 + 1) ++ xs.drop (j * 2 + 1))) := s1
      have G0 : Hid (w.grownBy (wr.setCell ⟨B, j * 2, none⟩ (.int .i64 (x : Int))) (some B)) := gb_set hg.out _ _
      clear s1 hO hg
      go_wp2_with fail
      rw [show ((x : Int) + 1) = ((x + 1 : Nat) : Int) from by omega]
      refine (markText (x + 1) _ (by omega) (by omega)).mono ?_
      rintro e w2 ⟨rfl, hb2⟩
      have O2 : Hid (w2.ownsRow base 127 2 (.slice (some ⟨B, 0, none⟩) n cap) n ((cellsQ (mkQ k n)).take (j * 2 + 1) ++ xs.drop (j * 2 + 1))) := own_below S1.out hb2
      have G2 : Hid (w.grownBy w2 (some B)) := gb_below G0.out hb2
      clear S1 G0 hb2 o1 o2
      have hl2 : Hid (((cellsQ (mkQ k n)).take (j * 2 + 1) ++ xs.drop (j * 2 + 1)).length = n * 2) := by
        show _ = _; rw [fill_length _ _ _ (HN.out.trans HM.out.symm), HM.out]
      obtain ⟨z2, o1, o2⟩ := own_cellX O2.out (i := j * 2 + 1) (by rw [hl2.out]; omega)
      go_wp2_with fail
      refine ⟨⟨j + 1, x + 2, by omega, by go_num, by go_num, hxb.out, by omega, by show x + 2 = k + (j + 1) * 2; have := hx.out; omega, gb_set G2.out _ _, ?_⟩, by simp [intOf]; omega⟩
      have s2 := own_set O2.out (j * 2 + 1) (by rw [hl2.out]; omega) (.string (markT (x + 1)))
      rw [fill_set (cellsQ (mkQ k n)) xs (j * 2 + 1) (.string (markT (x + 1))) (by rw [HN.out]; omega) (by rw [(cellsQ_get _ j HJ.out).2, mkQ_get _ _ _ hlt, hx.out])] at s2
      rw [show (j + 1) * 2 = j * 2 + 1 + 1 from by omega]
      exact s2
    · have hjn : j = n := by omega
      have E : Hid ((x : Int) = ((k + n * 2 : Nat) : Int)) := by show (x : Int) = ((k + n * 2 : Nat) : Int); rw [hx.out, hjn]
      have O1 : Hid (wr.ownsRow base 127 2 (.slice (some ⟨B, 0, none⟩) n cap) n (cellsQ (mkQ k n))) := own_congr hO.out (by rw [hjn]; exact fill_all HM.out HN.out)
      clear hjn hO
      go_wp2_with fail
      go_ret
      exact ⟨by show Ending.returned (.int .i64 (x : Int)) = _; rw [E.out], hg.out, O1.out⟩
structure DM where
  S : List ByteArray
  C : List (Int × ByteArray)
  A : Bool
  K : List Int
abbrev okW (n : Nat) (p : Int × ByteArray) : Prop := 0 ≤ p.1 ∧ p.1 < (n : Int) ∧ p.2.size ≤ 420
abbrev okD (D : DM) : Prop := (1 ≤ D.S.length ∧ D.S.length ≤ 80 ∧ ∀ x ∈ D.S, x.size ≤ 420) ∧ (D.C.length ≤ 500 ∧ ∀ p ∈ D.C, okW D.S.length p) ∧ D.K.length ≤ 500 ∧ (D.A = false → D.K.length = 0)
theorem getD_mem {α : Type} (L : List α) (d : α) (i : Nat) (h : i < L.length) : L.getD i d ∈ L := by
  rw [List.getD_eq_getElem?_getD, List.getElem?_eq_getElem h]; exact List.getElem_mem h
theorem all_iff {α : Type} (L : List α) (d : α) (p : α → Prop) : (∀ x ∈ L, p x) ↔ ∀ i, i < L.length → p (L.getD i d) :=
  ⟨fun h i hi => h _ (getD_mem L d i hi), fun h x hx => by
    obtain ⟨i, hi, rfl⟩ := List.getElem_of_mem hx
    have := h i hi
    rw [List.getD_eq_getElem?_getD, List.getElem?_eq_getElem hi] at this
    exact this⟩
def applyW (S : List ByteArray) (C : List (Int × ByteArray)) : List ByteArray := C.foldl (fun S p => S.set p.1.toNat p.2) S
theorem applyW_snoc (S : List ByteArray) (C : List (Int × ByteArray)) (p : Int × ByteArray) : applyW S (C ++ [p]) = (applyW S C).set p.1.toNat p.2 := by
  simp [applyW, List.foldl_append]
theorem applyW_length (S : List ByteArray) (C : List (Int × ByteArray)) : (applyW S C).length = S.length := by
  unfold applyW
  induction C generalizing S with
  | nil => rfl
  | cons p C ih => rw [List.foldl_cons, ih, List.length_set]
def byS (C : List (Int × ByteArray)) (i : Nat) : List ByteArray := (C.filter fun p => p.1.toNat == i).map (·.2)
theorem byS_snoc (C : List (Int × ByteArray)) (p : Int × ByteArray) (i : Nat) : byS (C ++ [p]) i = if p.1.toNat = i then byS C i ++ [p.2] else byS C i := by
  unfold byS
  rw [List.filter_append, List.map_append, List.filter_cons]
  by_cases h : p.1.toNat = i
  · rw [if_pos h, if_pos (by simp [h])]; rfl
  · rw [if_neg h, if_neg (by simp [h])]; simp
def lastOr (L : List ByteArray) (x : ByteArray) : ByteArray := L.getLast?.getD x
theorem lastOr_snoc (L : List ByteArray) (y x : ByteArray) : lastOr (L ++ [y]) x = y := by simp [lastOr]
theorem applyW_get (S : List ByteArray) (C : List (Int × ByteArray)) (i : Nat) (hi : i < S.length) : (applyW S C).getD i e0 = lastOr (byS C i) (S.getD i e0) := by
  rw [← List.reverse_reverse C]
  generalize C.reverse = R
  induction R with
  | nil => rfl
  | cons p R ih =>
    rw [List.reverse_cons, applyW_snoc, byS_snoc]
    by_cases h : p.1.toNat = i
    · rw [if_pos h, lastOr_snoc, List.getD_eq_getElem?_getD, List.getElem?_set, if_pos h, if_pos (by rw [h, applyW_length]; exact hi)]; rfl
    · rw [if_neg h, ← ih, List.getD_eq_getElem?_getD, List.getElem?_set, if_neg h, ← List.getD_eq_getElem?_getD]
end Go.Proofs.YtnnimocaanofjaaGreatDoor
