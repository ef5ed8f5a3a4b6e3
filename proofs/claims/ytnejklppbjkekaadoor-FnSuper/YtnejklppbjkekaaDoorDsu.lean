
/-
  A drawn superblock. By an AI agent.
-/
import Derived.Test.YtnejklppbjkekaaDoorDraws2
import Derived.Test.YtnejklppbjkekaaDoorFsm
import Derived.Deep.RegionHeld3
namespace Go.Proofs.YtnejklppbjkekaaDoor
open Go.ChangeShapes Go.WideShapes Go.ChangeAt Go.RowKit Go.Deep
set_option linter.unusedVariables false
set_option linter.unusedSimpArgs false
set_option maxRecDepth 100000

theorem Turned.far {P : Nat} {w W W' : World} (h : Turned P (P + 1) w W) (hb : Below w.heap.size W W') : Turned P (P + 1) w W' :=
  ⟨hb.os.trans h.os, hb.tape.trans h.tape, hb.output.trans h.output, Nat.le_trans h.size hb.size, fun k hk hr => (hb.block k hk).trans (h.block k hk hr)⟩
theorem far_turned {B : Nat} {W W' : World} (hb : Below B W W') : Turned B W.heap.size W W' :=
  ⟨hb.os, hb.tape, hb.output, hb.size, fun k hk hr => by
    rcases hr with h | h
    · exact hb.block k h
    · omega⟩
theorem DrawOK.far {W W' : World} {B P n cc K : Nat} {ca : Option Addr} {C : List Nat} (h : DrawOK W P ca n cc K C) (hb : Below B W W') (hP : P < B) (hc : 0 < n → ∀ a, ca = some a → a.block < B) : DrawOK W' P ca n cc K C := by
  obtain ⟨⟨a, s, h1, h2, h3⟩, h4, h5, h6, h7, h8⟩ := h
  refine ⟨⟨a, s, h1.turned (far_turned hb) (.inl hP), h2, h3⟩, h4, h5, h6, h7.turned (far_turned hb) (fun hl ad e => .inl (hc (by rw [cellsB_length] at hl; omega) ad e)), h8⟩
theorem DrawOK.code {W : World} {P n cc K : Nat} {ca : Option Addr} {C : List Nat} (h : DrawOK W P ca n cc K C) : 0 < n → ∀ a, ca = some a → a.block < W.heap.size := by
  obtain ⟨_, h4, _, _, h7, _⟩ := h
  intro hn a e
  rcases h7 with h7 | ⟨b, o, e2, hc⟩
  · have h2 := cellsB_length C
    rw [h7] at h2
    simp only [List.length_nil] at h2
    omega
  · rw [e] at e2
    cases e2
    have h9 := hc 0 (by rw [cellsB_length]; omega)
    rw [getD_some (cellsB_get C 0 (by omega))] at h9
    exact World.block_lt_of_cell? _ _ h9
theorem DrawOK.up {w : World} {P n cc K1 K2 : Nat} {ca : Option Addr} {C : List Nat} (h : DrawOK w P ca n cc K1 C) (hk : K1 ≤ K2) : DrawOK w P ca n cc K2 C := by
  obtain ⟨⟨a, s, h1, h2, h3⟩, h4⟩ := h
  exact ⟨⟨a, s, h1, by omega, h3⟩, h4⟩
def nmJ (j : Nat) : ByteArray := [(⟨#[97]⟩ : ByteArray), ⟨#[98]⟩, ⟨#[99]⟩, ⟨#[100]⟩].getD j ⟨#[]⟩
/-- Drawn snapshots. -/
def drawnS (S : List SN) : Prop := S.length ≤ 4 ∧ ∀ j, j < S.length → (S.getD j sn0).1 = nmJ j ∧ -1 ≤ (S.getD j sn0).2.1 ∧ (S.getD j sn0).2.1 ≤ 49 ∧ 0 ≤ (S.getD j sn0).2.2 ∧ (S.getD j sn0).2.2 ≤ 60000
theorem drawn_ok {S : List SN} {x y : Int} (h : drawnS S) (hx : 0 ≤ x) (hx2 : x ≤ 200) (hy : -1 ≤ y) (hy2 : y ≤ 49) : okU ⟨x, y, S⟩ = true := by
  unfold okU
  simp only [Bool.and_eq_true, decide_eq_true_eq]
  refine ⟨⟨⟨⟨hx, hx2⟩, by unfold rootB; simp only [decide_eq_true_eq]; exact ⟨hy, hy2⟩⟩, h.1⟩, snaps_good fun k hk => ?_⟩
  have h1 := h.2 k hk
  have hk4 : k < 4 := by have := h.1; omega
  unfold snapB
  simp only [Bool.and_eq_true]
  refine ⟨⟨⟨?_, ?_⟩, ?_⟩, ?_⟩
  · rw [h1.1]
    have : k = 0 ∨ k = 1 ∨ k = 2 ∨ k = 3 := by omega
    rcases this with rfl | rfl | rfl | rfl <;> decide
  · unfold rootB; simp only [decide_eq_true_eq]; exact ⟨h1.2.1, h1.2.2.1⟩
  · unfold tickB; simp only [decide_eq_true_eq]; exact ⟨h1.2.2.2.1, h1.2.2.2.2⟩
  · unfold upN
    by_cases hk0 : k = 0
    · subst hk0; simp
    · have h2 := (h.2 (k - 1) (by omega)).1
      rw [h1.1, h2]
      have : k = 1 ∨ k = 2 ∨ k = 3 := by omega
      rcases this with rfl | rfl | rfl <;> (simp only [ByteArray.toList_eq]; decide)
theorem drawn_snoc {S : List SN} {i : Nat} {r t : Int} (h : drawnS S) (hi : S.length = i) (hi3 : i ≤ 3) (h1 : -1 ≤ r) (h2 : r ≤ 49) (h3 : 0 ≤ t) (h4 : t ≤ 60000) : drawnS (S ++ [(nmJ i, r, t)]) := by
  refine ⟨by simp; omega, fun j hj => ?_⟩
  by_cases hlt : j < S.length
  · rw [List.getD_eq_getElem?_getD, List.getElem?_append_left hlt, ← List.getD_eq_getElem?_getD]
    exact h.2 j hlt
  · have hj2 : j = i := by simp at hj; omega
    subst hj2
    rw [List.getD_eq_getElem?_getD, List.getElem?_append_right (by omega), hi, Nat.sub_self]
    exact ⟨rfl, h1, h2, h3, h4⟩

set_option maxHeartbeats 4000000 in
theorem drawSuper (P n cc K0 : Nat) (ca : Option Addr) (C : List Nat) (w : World) (hK0 : K0 ≤ 990000000) (h : DrawOK w P ca n cc K0 C) :
    Calls Tryd.prog 67 #[.pointer (some ⟨P, 0, none⟩)] w fun e w' => ∃ v D, e = .returned v ∧ okU D = true ∧ OwnsU w' w.heap.size w'.heap.size v D ∧ Turned P (P + 1) w w' := by
  have H : Hid (DrawOK w P ca n cc K0 C) := h
  have PL : Hid (P < w.heap.size) := h.lt
  have CB : Hid (0 < n → ∀ a, ca = some a → a.block < w.heap.size) := h.code
  clear h
  go_enter Tryd.func67, Tryd.ntmps67
  go_wp2_with fail
  have A0 : Hid (Below w.heap.size w (w.alloc (.cells #[.int .i64 0, .int .i64 0, .slice none 0 0] 39))) := (Below.refl _ _).alloc (Nat.le_refl _) _
  refine (drawNext P n cc K0 9 ca C _ (by omega) (by omega) (by omega) (H.out.below A0.out)).mono ?_
  rintro e w1 ⟨x, rfl, hx, ht, hd⟩
  have T1 : Hid (Turned P (P + 1) w w1) := (Turned.of_below A0.out).trans ht
  have D1 : Hid (DrawOK w1 P ca n cc (K0 + 3) C) := hd
  have R1 : Hid (Box w1 w.heap.size [.int .i64 0, .int .i64 0, .slice none 0 0]) := Box.turned (Box.new rfl) ht (.inr (by have := PL.out; omega))
  have Z1 : Hid (w.heap.size + 1 ≤ w1.heap.size) := by have := ht.size; simp at this; show _ ≤ _; omega
  clear ht hd
  go_wp2_with fail
  refine (drawNext P n cc (K0 + 3) 6 ca C _ (by omega) (by omega) (by omega) D1.out).mono ?_
  rintro e w2 ⟨y, rfl, hy, ht, hd⟩
  have T2 : Hid (Turned P (P + 1) w w2) := T1.out.trans ht
  have D2 : Hid (DrawOK w2 P ca n cc (K0 + 6) C) := hd
  have R2 : Hid (Box w2 w.heap.size [.int .i64 0, .int .i64 0, .slice none 0 0]) := R1.out.turned ht (.inr (by have := PL.out; omega))
  have Z2 : Hid (w.heap.size + 1 ≤ w2.heap.size) := by have := ht.size; have := Z1.out; show _ ≤ _; omega
  clear ht hd D1 T1 R1
  have hwr : IntKind.i64.wrap ((y : Int) - 1) = (y : Int) - 1 := by rw [IntKind.wrap_i64]; omega
  go_wp2_with fail
  go_loopw [5] (fun iv wr => ∃ (i : Nat) (u : Value) (S : List SN), i ≤ 4 ∧ iv = .int .i64 (i : Int) ∧ Hid (S.length = i ∧ drawnS S) ∧ Hid (Turned P (P + 1) w wr) ∧ Hid (DrawOK wr P ca n cc (K0 + 6 + 9 * i) C) ∧ Hid (Box wr (w2.heap.size + 1) [.int .i64 (x : Int), .int .i64 ((y : Int) - 1), u]) ∧ Hid (wr.ownsRow w2.heap.size 95 3 u i (cellsSn S)) ∧ Hid (∀ g, Value.ownBlock u = some g → g ≠ (w2.heap.size + 1) ∧ g ≠ (w2.heap.size + 1 + 1)) ∧ Hid (Box wr (w2.heap.size + 1 + 1) [.string ⟨#[97]⟩, .string ⟨#[98]⟩, .string ⟨#[99]⟩, .string ⟨#[100]⟩]) ∧ Hid (Box wr w.heap.size [.int .i64 0, .int .i64 0, .slice none 0 0])) (fun i _ => 4 - (intOf i).toNat)
  case atStart =>
    have AA : Below w2.heap.size w2 (((w2.alloc (.cells #[] 95)).alloc (.cells #[.int .i64 (x : Int), .int .i64 ((y : Int) - 1), .slice (some ⟨w2.heap.size, 0, none⟩) 0 0] 39)).alloc (.cells #[.string ⟨#[97]⟩, .string ⟨#[98]⟩, .string ⟨#[99]⟩, .string ⟨#[100]⟩] 9)) := (((Below.refl _ _).alloc (Nat.le_refl _) _).alloc (by simp) _).alloc (by simp; omega) _
    refine ⟨0, .slice (some ⟨w2.heap.size, 0, none⟩) 0 0, [], by omega, rfl, ⟨rfl, by simp, fun j hj => by simp at hj⟩, T2.out.trans (Turned.of_below AA), D2.out.below AA, ?_, ?_, ?_, ?_, R2.out.below AA⟩
    · exact Box.old (Box.new (by simp)) _
    · exact World.ownsRow.alloc (World.ownsRow.alloc (own_empty rfl (Nat.le_refl _)) _) _
    · intro g e; cases e; exact ⟨(by show w2.heap.size ≠ w2.heap.size + 1; omega), (by show w2.heap.size ≠ w2.heap.size + 1 + 1; omega)⟩
    · exact Box.new (by simp)
  case round =>
    obtain ⟨i, u, S, hi, rfl, hS, hT, hD, hx, ho, hn, hN, hR⟩ := hrel
    obtain ⟨ua, uc, rfl, _, _⟩ := own_src ho.out
    have WS : Hid (w2.heap.size + 3 ≤ wr.heap.size) := by have h9 : w2.heap.size + 1 + 1 < wr.heap.size := World.block_lt_of_cell? _ _ (hN.out 0 _ rfl).1; show _ ≤ _; omega
    go_wp2_with fail
    refine (drawNext P n cc (K0 + 6 + 9 * i) 5 ca C _ (by omega) (by omega) (by omega) hD.out).mono ?_
    rintro e w3 ⟨z, rfl, hz, ht, hd⟩
    have T3 : Hid (Turned P (P + 1) w w3) := hT.out.trans ht
    have D3 : Hid (DrawOK w3 P ca n cc (K0 + 6 + 9 * i + 3) C) := hd
    have X3 : Hid (Box w3 (w2.heap.size + 1) [.int .i64 (x : Int), .int .i64 ((y : Int) - 1), .slice ua i uc]) := hx.out.turned ht (.inr (by have := PL.out; have := Z2.out; omega))
    have O3 : Hid (w3.ownsRow w2.heap.size 95 3 (.slice ua i uc) i (cellsSn S)) := ((OwnsR.mk ho.out (Nat.le_refl _)).turned ht (.inr (by have := PL.out; have := Z2.out; omega))).1
    have N3 : Hid (Box w3 (w2.heap.size + 1 + 1) [.string ⟨#[97]⟩, .string ⟨#[98]⟩, .string ⟨#[99]⟩, .string ⟨#[100]⟩]) := hN.out.turned ht (.inr (by have := PL.out; have := Z2.out; omega))
    have R3 : Hid (Box w3 w.heap.size [.int .i64 0, .int .i64 0, .slice none 0 0]) := hR.out.turned ht (.inr (by have := PL.out; omega))
    have W3 : Hid (w2.heap.size + 3 ≤ w3.heap.size) := by have := ht.size; have := WS.out; show _ ≤ _; omega
    clear ht hd hT hD hx ho hN hR WS
    by_cases hlt : i < z
    · have hki : (i : Int) < (z : Int) := by omega
      have hi3 : i ≤ 3 := by omega
      have hi0 : (0 : Int) ≤ (i : Int) := by omega
      have hi4 : (i : Int) < 4 := by omega
      obtain ⟨nm, hnm⟩ : ∃ s, nmJ i = s := ⟨_, rfl⟩
      have HNM : Hid (nmJ i = nm) := hnm
      have EC : Hid (∀ w9, Box w9 (w2.heap.size + 1 + 1) [.string ⟨#[97]⟩, .string ⟨#[98]⟩, .string ⟨#[99]⟩, .string ⟨#[100]⟩] → w9.cell? ⟨(w2.heap.size + 1 + 1), i, none⟩ = some (.string nm)) := fun w9 h9 => by
        rw [← hnm]
        have h8 : i = 0 ∨ i = 1 ∨ i = 2 ∨ i = 3 := by omega
        rcases h8 with rfl | rfl | rfl | rfl
        · exact (h9 0 _ rfl).1
        · exact (h9 1 _ rfl).1
        · exact (h9 2 _ rfl).1
        · exact (h9 3 _ rfl).1
      have NXT : Hid (∀ (K9 m9 : Nat) (W : World), 1 ≤ m9 → m9 ≤ 1000000 → K9 ≤ 999999990 → Turned P (P + 1) w W → DrawOK W P ca n cc K9 C → Box W (w2.heap.size + 1) [.int .i64 (x : Int), .int .i64 ((y : Int) - 1), .slice ua i uc] → W.ownsRow w2.heap.size 95 3 (.slice ua i uc) i (cellsSn S) → Box W (w2.heap.size + 1 + 1) [.string ⟨#[97]⟩, .string ⟨#[98]⟩, .string ⟨#[99]⟩, .string ⟨#[100]⟩] → Box W w.heap.size [.int .i64 0, .int .i64 0, .slice none 0 0] → w2.heap.size + 3 ≤ W.heap.size → Calls Tryd.prog 125 #[.pointer (some ⟨P, 0, none⟩), .int .i64 (m9 : Int)] W fun e w' => ∃ r : Nat, e = .returned (.int .i64 (r : Int)) ∧ r < m9 ∧ Turned P (P + 1) w w' ∧ DrawOK w' P ca n cc (K9 + 3) C ∧ Box w' (w2.heap.size + 1) [.int .i64 (x : Int), .int .i64 ((y : Int) - 1), .slice ua i uc] ∧ w'.ownsRow w2.heap.size 95 3 (.slice ua i uc) i (cellsSn S) ∧ Box w' (w2.heap.size + 1 + 1) [.string ⟨#[97]⟩, .string ⟨#[98]⟩, .string ⟨#[99]⟩, .string ⟨#[100]⟩] ∧ Box w' w.heap.size [.int .i64 0, .int .i64 0, .slice none 0 0] ∧ w2.heap.size + 3 ≤ w'.heap.size) := fun K9 m9 W a1 a2 a3 hT hD hX hO hN hR hW => by
        refine (drawNext P n cc K9 m9 ca C W a1 a2 a3 hD).mono ?_
        rintro e w' ⟨r, rfl, hr, ht, hd⟩
        have p1 := PL.out
        have p2 := Z2.out
        have p3 := ht.size
        exact ⟨r, rfl, hr, hT.trans ht, hd, hX.turned ht (.inr (by omega)), ((OwnsR.mk hO (Nat.le_refl _)).turned ht (.inr (by omega))).1, hN.turned ht (.inr (by omega)), hR.turned ht (.inr (by omega)), by omega⟩
      obtain ⟨e0, _⟩ := X3.out 2 _ rfl
      have e1 := EC.out _ N3.out
      clear hnm
      go_wp2_with fail
      refine wp_region_noPanic ?_
      refine wp_region_held_drew (S := (fun w' => w'.cell? ⟨(w2.heap.size + 1 + 1), i, none⟩ = some (.string nm))) (by kernel_rfl) e1 (fun hHeld => ?_)
      refine wpAnyH_take (i := 0) (v := .pointer (some ⟨(w2.heap.size + 1), 2, none⟩)) rfl (by kernel_rfl) (by kernel_rfl) (by kernel_rfl) (fun _ _ _ h => h) (Or.inl ⟨by rfl, ?_⟩) hHeld ?_
      · intro w9 hSw
        have s0 := hSw
        go_simp
      refine wpAnyH_take (i := 2) (v := .slice (some ⟨(w2.heap.size + 1 + 1), 0, none⟩) 4 4) rfl (by kernel_rfl) (by kernel_rfl) (by kernel_rfl) (fun _ _ _ h => h) (Or.inl ⟨by rfl, ?_⟩) hHeld ?_
      · intro w9 hSw
        have s0 := hSw
        go_simp
      refine wpAnyH_take (i := 3) (v := .int .i64 (i : Int)) rfl (by kernel_rfl) (by kernel_rfl) (by kernel_rfl) (fun _ _ _ h => h) (Or.inl ⟨by rfl, ?_⟩) hHeld ?_
      · intro w9 hSw
        have s0 := hSw
        go_simp
      refine wpAnyH_take (i := 4) (v := .pointer (some ⟨(w2.heap.size + 1 + 1), i, none⟩)) rfl (by kernel_rfl) (by kernel_rfl) (by kernel_rfl) (fun _ _ _ h => h) (Or.inl ⟨by rfl, ?_⟩) hHeld ?_
      · intro w9 hSw
        have s0 := hSw
        go_simp
      refine wpAnyH_take (i := 5) (v := .string nm) rfl (by kernel_rfl) (by kernel_rfl) (by kernel_rfl) (fun _ _ _ h => h) (Or.inl ⟨by rfl, ?_⟩) hHeld ?_
      · intro w9 hSw
        have s0 := hSw
        go_simp
      refine wpAnyH_take (i := 6) (v := .pointer (some ⟨P, 0, none⟩)) rfl (by kernel_rfl) (by kernel_rfl) (by kernel_rfl) (fun _ _ _ h => h) (Or.inl ⟨by rfl, ?_⟩) hHeld ?_
      · intro w9 hSw
        have s0 := hSw
        go_simp
      refine wpAnyH_take (i := 9) (v := .pointer (some ⟨P, 0, none⟩)) rfl (by kernel_rfl) (by kernel_rfl) (by kernel_rfl) (fun _ _ _ h => h) (Or.inl ⟨by rfl, ?_⟩) hHeld ?_
      · intro w9 hSw
        have s0 := hSw
        go_simp
      simp only [Act.put, List.setIfInBounds_toArray, List.set_cons_zero, List.set_cons_succ]
      refine wpAnyH_ready (rs := [1, 7]) (by kernel_rfl) (by simp) ?_
      refine AllReadyH.cons rfl (fun K hK => ?_) (AllReadyH.cons rfl (fun K hK => ?_) AllReadyH.nil)
      · skip
        go_simp
        refine hK.out _ _ e1 (fun hHeld => ?_)
        clear hK K
        refine wpAnyH_ready (rs := [7]) (by kernel_rfl) (by simp) ?_
        refine AllReadyH.cons rfl (fun K hK => ?_) AllReadyH.nil
        go_simp
        refine (NXT.out (K0 + 6 + 9 * i + 3) 6 w3.drew (by omega) (by omega) (by omega) ⟨T3.out.os, T3.out.tape, T3.out.output, T3.out.size, T3.out.block⟩ D3.out X3.out O3.out N3.out R3.out W3.out).mono ?_
        rintro e w4 ⟨r, rfl, hr, q1, q2, q3, q4, q5, q6, q7⟩
        dsimp only
        have T4 : Hid (Turned P (P + 1) w w4) := q1
        have D4 : Hid (DrawOK w4 P ca n cc ((K0 + 6 + 9 * i + 3) + 3) C) := q2
        have X4 : Hid (Box w4 (w2.heap.size + 1) [.int .i64 (x : Int), .int .i64 ((y : Int) - 1), .slice ua i uc]) := q3
        have O4 : Hid (w4.ownsRow w2.heap.size 95 3 (.slice ua i uc) i (cellsSn S)) := q4
        have N4 : Hid (Box w4 (w2.heap.size + 1 + 1) [.string ⟨#[97]⟩, .string ⟨#[98]⟩, .string ⟨#[99]⟩, .string ⟨#[100]⟩]) := q5
        have R4 : Hid (Box w4 w.heap.size [.int .i64 0, .int .i64 0, .slice none 0 0]) := q6
        have W4 : Hid (w2.heap.size + 3 ≤ w4.heap.size) := q7
        clear q1 q2 q3 q4 q5 q6 q7 e0 e1
        obtain ⟨e0, _⟩ := X4.out 2 _ rfl
        have e1 := EC.out _ N4.out
        refine hK.out _ _ e1 (fun hHeld => ?_)
        clear hK K
        have hwr6 : IntKind.i64.wrap ((r : Int) - 1) = (r : Int) - 1 := by rw [IntKind.wrap_i64]; omega
        refine wpAnyH_take (i := 8) (v := .int .i64 ((r : Int) - 1)) rfl (by kernel_rfl) (by kernel_rfl) (by kernel_rfl) (fun _ _ _ h => h) (Or.inl ⟨by rfl, ?_⟩) hHeld ?_
        · intro w9 hSw
          have s0 := hSw
          go_simp
        simp only [Act.put, List.setIfInBounds_toArray, List.set_cons_zero, List.set_cons_succ]
        refine wpAnyH_ready (rs := [10]) (by kernel_rfl) (by simp) ?_
        refine AllReadyH.cons rfl (fun K hK => ?_) AllReadyH.nil
        go_simp
        refine (NXT.out (K0 + 6 + 9 * i + 3 + 3) 70 w4 (by omega) (by omega) (by omega) T4.out D4.out X4.out O4.out N4.out R4.out W4.out).mono ?_
        rintro e w5 ⟨t, rfl, ht, q1, q2, q3, q4, q5, q6, q7⟩
        dsimp only
        have T5 : Hid (Turned P (P + 1) w w5) := q1
        have D5 : Hid (DrawOK w5 P ca n cc ((K0 + 6 + 9 * i + 3 + 3) + 3) C) := q2
        have X5 : Hid (Box w5 (w2.heap.size + 1) [.int .i64 (x : Int), .int .i64 ((y : Int) - 1), .slice ua i uc]) := q3
        have O5 : Hid (w5.ownsRow w2.heap.size 95 3 (.slice ua i uc) i (cellsSn S)) := q4
        have N5 : Hid (Box w5 (w2.heap.size + 1 + 1) [.string ⟨#[97]⟩, .string ⟨#[98]⟩, .string ⟨#[99]⟩, .string ⟨#[100]⟩]) := q5
        have R5 : Hid (Box w5 w.heap.size [.int .i64 0, .int .i64 0, .slice none 0 0]) := q6
        have W5 : Hid (w2.heap.size + 3 ≤ w5.heap.size) := q7
        clear q1 q2 q3 q4 q5 q6 q7 e0 e1
        obtain ⟨e0, _⟩ := X5.out 2 _ rfl
        have e1 := EC.out _ N5.out
        refine hK.out _ _ e1 (fun hHeld => ?_)
        clear hK K
        refine wpAnyH_take (i := 11) (v := .agg #[.string nm, .int .i64 ((r : Int) - 1), .int .i64 (t : Int)]) rfl (by kernel_rfl) (by kernel_rfl) (by kernel_rfl) (fun _ _ _ h => h) (Or.inl ⟨by rfl, ?_⟩) hHeld ?_
        · intro w9 hSw
          have s0 := hSw
          go_simp
        simp only [Act.put, List.setIfInBounds_toArray, List.set_cons_zero, List.set_cons_succ]
        refine wpAnyH_ready (rs := [12]) (by kernel_rfl) (by simp) ?_
        refine AllReadyH.cons rfl (fun K hK => ?_) AllReadyH.nil
        go_simp
        have XA : Hid (Box (w5.alloc (.cells #[.string nm, .int .i64 ((r : Int) - 1), .int .i64 (t : Int)] 95)) (w2.heap.size + 1) [.int .i64 (x : Int), .int .i64 ((y : Int) - 1), .slice ua i uc]) := X5.out.old _
        have NA : Hid (Box (w5.alloc (.cells #[.string nm, .int .i64 ((r : Int) - 1), .int .i64 (t : Int)] 95)) (w2.heap.size + 1 + 1) [.string ⟨#[97]⟩, .string ⟨#[98]⟩, .string ⟨#[99]⟩, .string ⟨#[100]⟩]) := N5.out.old _
        clear e0 e1
        obtain ⟨e0, _⟩ := XA.out 2 _ rfl
        have e1 := EC.out _ NA.out
        refine hK.out _ _ e1 (fun hHeld => ?_)
        clear hK K
        have RLT : Hid (∀ g, Value.ownBlock (.slice ua i uc) = some g → w2.heap.size ≤ g ∧ g < w5.heap.size) := fun g e => O5.out.lt g e
        have BA : Hid (Below w.heap.size w5 (w5.alloc (.cells #[.string nm, .int .i64 ((r : Int) - 1), .int .i64 (t : Int)] 95))) := (Below.refl _ _).alloc T5.out.size _
        clear e0
        refine wpAnyH_ready (rs := [13]) (by kernel_rfl) (by simp) ?_
        refine AllReadyH.cons rfl (fun K hK => ?_) AllReadyH.nil
        refine step_append_src rfl (.tmp 21) (.tmp 32) 37 rfl w2.heap.size 95 (.agg #[.string ⟨#[]⟩, .int .i64 0, .int .i64 0]) 3 32 Tryd.underlying37 infoSn rfl (by decide) (by decide) (.slice ua i uc) i (cellsSn S) (by simp [Act.eval]) (show World.ownsRow (w5.alloc (.cells #[.string nm, .int .i64 ((r : Int) - 1), .int .i64 (t : Int)] 95)) _ _ _ _ _ _ from O5.out.alloc _) ⟨w5.heap.size, 0, none⟩ 1 1 (cellsSn [(nm, (r : Int) - 1, (t : Int))]) (by simp [Act.eval]) rfl (show Src (w5.alloc (.cells #[.string nm, .int .i64 ((r : Int) - 1), .int .i64 (t : Int)] 95)) _ _ from src_oneSn rfl) (cellsSn_one _) (by omega) (by decide) (by have := W5.out; simp; omega) ?_
        intro v' w' hown hgrow hnew
        obtain ⟨b', d', rfl, _, _⟩ := own_src hown
        have XG : Hid (Box w' (w2.heap.size + 1) [.int .i64 (x : Int), .int .i64 ((y : Int) - 1), .slice ua i uc]) := Box.grown XA.out hgrow (fun e => (hn.out _ e).1 rfl)
        have NG0 : Hid (Box w' (w2.heap.size + 1 + 1) [.string ⟨#[97]⟩, .string ⟨#[98]⟩, .string ⟨#[99]⟩, .string ⟨#[100]⟩]) := Box.grown NA.out hgrow (fun e => (hn.out _ e).2 rfl)
        have RG : Hid (Box w' w.heap.size [.int .i64 0, .int .i64 0, .slice none 0 0]) := Box.grown (R5.out.old _) hgrow (fun e => by have h9 := (RLT.out _ e).1; have h8 := Z2.out; omega)
        have OG : Hid (w'.ownsRow w2.heap.size 95 3 (.slice b' (i + 1) d') (i + 1) (cellsSn (S ++ [(nm, (r : Int) - 1, (t : Int))]))) := by rw [cellsSn_append]; exact hown
        have BG : Hid (Below w.heap.size w5 w') := BA.out.grown hgrow (by have := T5.out.size; simp; omega) (fun g e => by have h9 := (RLT.out g e).1; have h8 := Z2.out; omega)
        have NG : Hid (∀ g, Value.ownBlock (.slice b' (i + 1) d') = some g → g ≠ (w2.heap.size + 1) ∧ g ≠ (w2.heap.size + 1 + 1)) := fun gg e => by
          rcases hnew with h9 | h9
          · rw [h9] at e; exact hn.out gg e
          · have h8 := h9 gg e
            have h7 := W5.out
            have h6 : (w5.alloc (.cells #[.string nm, .int .i64 ((r : Int) - 1), .int .i64 (t : Int)] 95)).heap.size = w5.heap.size + 1 := by simp
            omega
        clear hown hgrow hnew e1
        obtain ⟨e0, ef⟩ := XG.out 2 _ rfl
        have e1 := EC.out _ NG0.out
        refine hK.out _ _ e1 (fun hHeld => ?_)
        clear hK K
        have XF : Hid (Box (w'.setCell ⟨(w2.heap.size + 1), 2, none⟩ (.slice b' (i + 1) d')) (w2.heap.size + 1) [.int .i64 (x : Int), .int .i64 ((y : Int) - 1), .slice b' (i + 1) d']) := XG.out.set 2 _
        have BF : Hid (Below w.heap.size w5 (w'.setCell ⟨(w2.heap.size + 1), 2, none⟩ (.slice b' (i + 1) d'))) := BG.out.setCell (by have := Z2.out; dsimp only; omega) _
        have OF : Hid ((w'.setCell ⟨(w2.heap.size + 1), 2, none⟩ (.slice b' (i + 1) d')).ownsRow w2.heap.size 95 3 (.slice b' (i + 1) d') (i + 1) (cellsSn (S ++ [(nm, (r : Int) - 1, (t : Int))]))) := own_setOther OG.out (fun e => (NG.out _ e).1 rfl) _
        have NF : Hid (Box (w'.setCell ⟨(w2.heap.size + 1), 2, none⟩ (.slice b' (i + 1) d')) (w2.heap.size + 1 + 1) [.string ⟨#[97]⟩, .string ⟨#[98]⟩, .string ⟨#[99]⟩, .string ⟨#[100]⟩]) := NG0.out.other _ (by dsimp only; omega) _
        have RF : Hid (Box (w'.setCell ⟨(w2.heap.size + 1), 2, none⟩ (.slice b' (i + 1) d')) w.heap.size [.int .i64 0, .int .i64 0, .slice none 0 0]) := RG.out.other _ (by have := Z2.out; dsimp only; omega) _
        have TF : Hid (Turned P (P + 1) w (w'.setCell ⟨(w2.heap.size + 1), 2, none⟩ (.slice b' (i + 1) d'))) := T5.out.far BF.out
        have DF : Hid (DrawOK (w'.setCell ⟨(w2.heap.size + 1), 2, none⟩ (.slice b' (i + 1) d')) P ca n cc (K0 + 6 + 9 * (i + 1)) C) := (D5.out.far BF.out PL.out CB.out).up (by omega)
        have SF : Hid ((S ++ [(nm, (r : Int) - 1, (t : Int))]).length = i + 1 ∧ drawnS (S ++ [(nm, (r : Int) - 1, (t : Int))])) := ⟨by rw [List.length_append, hS.out.1]; rfl, by rw [← HNM.out]; exact drawn_snoc hS.out.2 hS.out.1 hi3 (by omega) (by omega) (by omega) (by omega)⟩
        refine wpAnyH_take (i := 14) (v := .pointer (some ⟨(w2.heap.size + 1), 2, none⟩)) rfl (by kernel_rfl) (by kernel_rfl) (by kernel_rfl) (fun _ _ _ h => h) (Or.inl ⟨by rfl, ?_⟩) hHeld ?_
        · intro w9 hSw
          have s0 := hSw
          go_simp
        simp only [Act.put, List.setIfInBounds_toArray, List.set_cons_zero, List.set_cons_succ]
        refine wpAnyH_ready (rs := [15]) (by kernel_rfl) (by simp) ?_
        refine AllReadyH.cons rfl (fun K hK => ?_) AllReadyH.nil
        go_simp
        clear e0 ef e1
        have e1 := EC.out _ NF.out
        refine hK.out _ _ e1 (fun hHeld => ?_)
        clear hK K
        refine wpAnyH_done (by kernel_rfl) ?_ _
        refine NoPanic.normal ?_
        clear e1
        go_wp2_with fail
        exact ⟨⟨i + 1, _, _, by omega, by go_num, SF.out, TF.out, DF.out, XF.out, OF.out, NG.out, NF.out, RF.out⟩, by simp [intOf]; omega⟩
      · skip
        go_simp
        refine (NXT.out (K0 + 6 + 9 * i + 3) 6 w3.drew (by omega) (by omega) (by omega) ⟨T3.out.os, T3.out.tape, T3.out.output, T3.out.size, T3.out.block⟩ D3.out X3.out O3.out N3.out R3.out W3.out).mono ?_
        rintro e w4 ⟨r, rfl, hr, q1, q2, q3, q4, q5, q6, q7⟩
        dsimp only
        have T4 : Hid (Turned P (P + 1) w w4) := q1
        have D4 : Hid (DrawOK w4 P ca n cc ((K0 + 6 + 9 * i + 3) + 3) C) := q2
        have X4 : Hid (Box w4 (w2.heap.size + 1) [.int .i64 (x : Int), .int .i64 ((y : Int) - 1), .slice ua i uc]) := q3
        have O4 : Hid (w4.ownsRow w2.heap.size 95 3 (.slice ua i uc) i (cellsSn S)) := q4
        have N4 : Hid (Box w4 (w2.heap.size + 1 + 1) [.string ⟨#[97]⟩, .string ⟨#[98]⟩, .string ⟨#[99]⟩, .string ⟨#[100]⟩]) := q5
        have R4 : Hid (Box w4 w.heap.size [.int .i64 0, .int .i64 0, .slice none 0 0]) := q6
        have W4 : Hid (w2.heap.size + 3 ≤ w4.heap.size) := q7
        clear q1 q2 q3 q4 q5 q6 q7 e0 e1
        obtain ⟨e0, _⟩ := X4.out 2 _ rfl
        have e1 := EC.out _ N4.out
        refine hK.out _ _ e1 (fun hHeld => ?_)
        clear hK K
        have hwr6 : IntKind.i64.wrap ((r : Int) - 1) = (r : Int) - 1 := by rw [IntKind.wrap_i64]; omega
        refine wpAnyH_take (i := 8) (v := .int .i64 ((r : Int) - 1)) rfl (by kernel_rfl) (by kernel_rfl) (by kernel_rfl) (fun _ _ _ h => h) (Or.inl ⟨by rfl, ?_⟩) hHeld ?_
        · intro w9 hSw
          have s0 := hSw
          go_simp
        simp only [Act.put, List.setIfInBounds_toArray, List.set_cons_zero, List.set_cons_succ]
        refine wpAnyH_ready (rs := [1, 10]) (by kernel_rfl) (by simp) ?_
        refine AllReadyH.cons rfl (fun K hK => ?_) (AllReadyH.cons rfl (fun K hK => ?_) AllReadyH.nil)
        · skip
          go_simp
          refine hK.out _ _ e1 (fun hHeld => ?_)
          clear hK K
          refine wpAnyH_ready (rs := [10]) (by kernel_rfl) (by simp) ?_
          refine AllReadyH.cons rfl (fun K hK => ?_) AllReadyH.nil
          go_simp
          refine (NXT.out (K0 + 6 + 9 * i + 3 + 3) 70 w4 (by omega) (by omega) (by omega) T4.out D4.out X4.out O4.out N4.out R4.out W4.out).mono ?_
          rintro e w5 ⟨t, rfl, ht, q1, q2, q3, q4, q5, q6, q7⟩
          dsimp only
          have T5 : Hid (Turned P (P + 1) w w5) := q1
          have D5 : Hid (DrawOK w5 P ca n cc ((K0 + 6 + 9 * i + 3 + 3) + 3) C) := q2
          have X5 : Hid (Box w5 (w2.heap.size + 1) [.int .i64 (x : Int), .int .i64 ((y : Int) - 1), .slice ua i uc]) := q3
          have O5 : Hid (w5.ownsRow w2.heap.size 95 3 (.slice ua i uc) i (cellsSn S)) := q4
          have N5 : Hid (Box w5 (w2.heap.size + 1 + 1) [.string ⟨#[97]⟩, .string ⟨#[98]⟩, .string ⟨#[99]⟩, .string ⟨#[100]⟩]) := q5
          have R5 : Hid (Box w5 w.heap.size [.int .i64 0, .int .i64 0, .slice none 0 0]) := q6
          have W5 : Hid (w2.heap.size + 3 ≤ w5.heap.size) := q7
          clear q1 q2 q3 q4 q5 q6 q7 e0 e1
          obtain ⟨e0, _⟩ := X5.out 2 _ rfl
          have e1 := EC.out _ N5.out
          refine hK.out _ _ e1 (fun hHeld => ?_)
          clear hK K
          refine wpAnyH_take (i := 11) (v := .agg #[.string nm, .int .i64 ((r : Int) - 1), .int .i64 (t : Int)]) rfl (by kernel_rfl) (by kernel_rfl) (by kernel_rfl) (fun _ _ _ h => h) (Or.inl ⟨by rfl, ?_⟩) hHeld ?_
          · intro w9 hSw
            have s0 := hSw
            go_simp
          simp only [Act.put, List.setIfInBounds_toArray, List.set_cons_zero, List.set_cons_succ]
          refine wpAnyH_ready (rs := [12]) (by kernel_rfl) (by simp) ?_
          refine AllReadyH.cons rfl (fun K hK => ?_) AllReadyH.nil
          go_simp
          have XA : Hid (Box (w5.alloc (.cells #[.string nm, .int .i64 ((r : Int) - 1), .int .i64 (t : Int)] 95)) (w2.heap.size + 1) [.int .i64 (x : Int), .int .i64 ((y : Int) - 1), .slice ua i uc]) := X5.out.old _
          have NA : Hid (Box (w5.alloc (.cells #[.string nm, .int .i64 ((r : Int) - 1), .int .i64 (t : Int)] 95)) (w2.heap.size + 1 + 1) [.string ⟨#[97]⟩, .string ⟨#[98]⟩, .string ⟨#[99]⟩, .string ⟨#[100]⟩]) := N5.out.old _
          clear e0 e1
          obtain ⟨e0, _⟩ := XA.out 2 _ rfl
          have e1 := EC.out _ NA.out
          refine hK.out _ _ e1 (fun hHeld => ?_)
          clear hK K
          have RLT : Hid (∀ g, Value.ownBlock (.slice ua i uc) = some g → w2.heap.size ≤ g ∧ g < w5.heap.size) := fun g e => O5.out.lt g e
          have BA : Hid (Below w.heap.size w5 (w5.alloc (.cells #[.string nm, .int .i64 ((r : Int) - 1), .int .i64 (t : Int)] 95))) := (Below.refl _ _).alloc T5.out.size _
          clear e0
          refine wpAnyH_ready (rs := [13]) (by kernel_rfl) (by simp) ?_
          refine AllReadyH.cons rfl (fun K hK => ?_) AllReadyH.nil
          refine step_append_src rfl (.tmp 21) (.tmp 32) 37 rfl w2.heap.size 95 (.agg #[.string ⟨#[]⟩, .int .i64 0, .int .i64 0]) 3 32 Tryd.underlying37 infoSn rfl (by decide) (by decide) (.slice ua i uc) i (cellsSn S) (by simp [Act.eval]) (show World.ownsRow (w5.alloc (.cells #[.string nm, .int .i64 ((r : Int) - 1), .int .i64 (t : Int)] 95)) _ _ _ _ _ _ from O5.out.alloc _) ⟨w5.heap.size, 0, none⟩ 1 1 (cellsSn [(nm, (r : Int) - 1, (t : Int))]) (by simp [Act.eval]) rfl (show Src (w5.alloc (.cells #[.string nm, .int .i64 ((r : Int) - 1), .int .i64 (t : Int)] 95)) _ _ from src_oneSn rfl) (cellsSn_one _) (by omega) (by decide) (by have := W5.out; simp; omega) ?_
          intro v' w' hown hgrow hnew
          obtain ⟨b', d', rfl, _, _⟩ := own_src hown
          have XG : Hid (Box w' (w2.heap.size + 1) [.int .i64 (x : Int), .int .i64 ((y : Int) - 1), .slice ua i uc]) := Box.grown XA.out hgrow (fun e => (hn.out _ e).1 rfl)
          have NG0 : Hid (Box w' (w2.heap.size + 1 + 1) [.string ⟨#[97]⟩, .string ⟨#[98]⟩, .string ⟨#[99]⟩, .string ⟨#[100]⟩]) := Box.grown NA.out hgrow (fun e => (hn.out _ e).2 rfl)
          have RG : Hid (Box w' w.heap.size [.int .i64 0, .int .i64 0, .slice none 0 0]) := Box.grown (R5.out.old _) hgrow (fun e => by have h9 := (RLT.out _ e).1; have h8 := Z2.out; omega)
          have OG : Hid (w'.ownsRow w2.heap.size 95 3 (.slice b' (i + 1) d') (i + 1) (cellsSn (S ++ [(nm, (r : Int) - 1, (t : Int))]))) := by rw [cellsSn_append]; exact hown
          have BG : Hid (Below w.heap.size w5 w') := BA.out.grown hgrow (by have := T5.out.size; simp; omega) (fun g e => by have h9 := (RLT.out g e).1; have h8 := Z2.out; omega)
          have NG : Hid (∀ g, Value.ownBlock (.slice b' (i + 1) d') = some g → g ≠ (w2.heap.size + 1) ∧ g ≠ (w2.heap.size + 1 + 1)) := fun gg e => by
            rcases hnew with h9 | h9
            · rw [h9] at e; exact hn.out gg e
            · have h8 := h9 gg e
              have h7 := W5.out
              have h6 : (w5.alloc (.cells #[.string nm, .int .i64 ((r : Int) - 1), .int .i64 (t : Int)] 95)).heap.size = w5.heap.size + 1 := by simp
              omega
          clear hown hgrow hnew e1
          obtain ⟨e0, ef⟩ := XG.out 2 _ rfl
          have e1 := EC.out _ NG0.out
          refine hK.out _ _ e1 (fun hHeld => ?_)
          clear hK K
          have XF : Hid (Box (w'.setCell ⟨(w2.heap.size + 1), 2, none⟩ (.slice b' (i + 1) d')) (w2.heap.size + 1) [.int .i64 (x : Int), .int .i64 ((y : Int) - 1), .slice b' (i + 1) d']) := XG.out.set 2 _
          have BF : Hid (Below w.heap.size w5 (w'.setCell ⟨(w2.heap.size + 1), 2, none⟩ (.slice b' (i + 1) d'))) := BG.out.setCell (by have := Z2.out; dsimp only; omega) _
          have OF : Hid ((w'.setCell ⟨(w2.heap.size + 1), 2, none⟩ (.slice b' (i + 1) d')).ownsRow w2.heap.size 95 3 (.slice b' (i + 1) d') (i + 1) (cellsSn (S ++ [(nm, (r : Int) - 1, (t : Int))]))) := own_setOther OG.out (fun e => (NG.out _ e).1 rfl) _
          have NF : Hid (Box (w'.setCell ⟨(w2.heap.size + 1), 2, none⟩ (.slice b' (i + 1) d')) (w2.heap.size + 1 + 1) [.string ⟨#[97]⟩, .string ⟨#[98]⟩, .string ⟨#[99]⟩, .string ⟨#[100]⟩]) := NG0.out.other _ (by dsimp only; omega) _
          have RF : Hid (Box (w'.setCell ⟨(w2.heap.size + 1), 2, none⟩ (.slice b' (i + 1) d')) w.heap.size [.int .i64 0, .int .i64 0, .slice none 0 0]) := RG.out.other _ (by have := Z2.out; dsimp only; omega) _
          have TF : Hid (Turned P (P + 1) w (w'.setCell ⟨(w2.heap.size + 1), 2, none⟩ (.slice b' (i + 1) d'))) := T5.out.far BF.out
          have DF : Hid (DrawOK (w'.setCell ⟨(w2.heap.size + 1), 2, none⟩ (.slice b' (i + 1) d')) P ca n cc (K0 + 6 + 9 * (i + 1)) C) := (D5.out.far BF.out PL.out CB.out).up (by omega)
          have SF : Hid ((S ++ [(nm, (r : Int) - 1, (t : Int))]).length = i + 1 ∧ drawnS (S ++ [(nm, (r : Int) - 1, (t : Int))])) := ⟨by rw [List.length_append, hS.out.1]; rfl, by rw [← HNM.out]; exact drawn_snoc hS.out.2 hS.out.1 hi3 (by omega) (by omega) (by omega) (by omega)⟩
          refine wpAnyH_take (i := 14) (v := .pointer (some ⟨(w2.heap.size + 1), 2, none⟩)) rfl (by kernel_rfl) (by kernel_rfl) (by kernel_rfl) (fun _ _ _ h => h) (Or.inl ⟨by rfl, ?_⟩) hHeld ?_
          · intro w9 hSw
            have s0 := hSw
            go_simp
          simp only [Act.put, List.setIfInBounds_toArray, List.set_cons_zero, List.set_cons_succ]
          refine wpAnyH_ready (rs := [15]) (by kernel_rfl) (by simp) ?_
          refine AllReadyH.cons rfl (fun K hK => ?_) AllReadyH.nil
          go_simp
          clear e0 ef e1
          have e1 := EC.out _ NF.out
          refine hK.out _ _ e1 (fun hHeld => ?_)
          clear hK K
          refine wpAnyH_done (by kernel_rfl) ?_ _
          refine NoPanic.normal ?_
          clear e1
          go_wp2_with fail
          exact ⟨⟨i + 1, _, _, by omega, by go_num, SF.out, TF.out, DF.out, XF.out, OF.out, NG.out, NF.out, RF.out⟩, by simp [intOf]; omega⟩
        · skip
          go_simp
          refine (NXT.out (K0 + 6 + 9 * i + 3 + 3) 70 w4 (by omega) (by omega) (by omega) T4.out D4.out X4.out O4.out N4.out R4.out W4.out).mono ?_
          rintro e w5 ⟨t, rfl, ht, q1, q2, q3, q4, q5, q6, q7⟩
          dsimp only
          have T5 : Hid (Turned P (P + 1) w w5) := q1
          have D5 : Hid (DrawOK w5 P ca n cc ((K0 + 6 + 9 * i + 3 + 3) + 3) C) := q2
          have X5 : Hid (Box w5 (w2.heap.size + 1) [.int .i64 (x : Int), .int .i64 ((y : Int) - 1), .slice ua i uc]) := q3
          have O5 : Hid (w5.ownsRow w2.heap.size 95 3 (.slice ua i uc) i (cellsSn S)) := q4
          have N5 : Hid (Box w5 (w2.heap.size + 1 + 1) [.string ⟨#[97]⟩, .string ⟨#[98]⟩, .string ⟨#[99]⟩, .string ⟨#[100]⟩]) := q5
          have R5 : Hid (Box w5 w.heap.size [.int .i64 0, .int .i64 0, .slice none 0 0]) := q6
          have W5 : Hid (w2.heap.size + 3 ≤ w5.heap.size) := q7
          clear q1 q2 q3 q4 q5 q6 q7 e0 e1
          obtain ⟨e0, _⟩ := X5.out 2 _ rfl
          have e1 := EC.out _ N5.out
          refine hK.out _ _ e1 (fun hHeld => ?_)
          clear hK K
          refine wpAnyH_take (i := 11) (v := .agg #[.string nm, .int .i64 ((r : Int) - 1), .int .i64 (t : Int)]) rfl (by kernel_rfl) (by kernel_rfl) (by kernel_rfl) (fun _ _ _ h => h) (Or.inl ⟨by rfl, ?_⟩) hHeld ?_
          · intro w9 hSw
            have s0 := hSw
            go_simp
          simp only [Act.put, List.setIfInBounds_toArray, List.set_cons_zero, List.set_cons_succ]
          refine wpAnyH_ready (rs := [1, 12]) (by kernel_rfl) (by simp) ?_
          refine AllReadyH.cons rfl (fun K hK => ?_) (AllReadyH.cons rfl (fun K hK => ?_) AllReadyH.nil)
          · skip
            go_simp
            refine hK.out _ _ e1 (fun hHeld => ?_)
            clear hK K
            refine wpAnyH_ready (rs := [12]) (by kernel_rfl) (by simp) ?_
            refine AllReadyH.cons rfl (fun K hK => ?_) AllReadyH.nil
            go_simp
            have XA : Hid (Box (w5.alloc (.cells #[.string nm, .int .i64 ((r : Int) - 1), .int .i64 (t : Int)] 95)) (w2.heap.size + 1) [.int .i64 (x : Int), .int .i64 ((y : Int) - 1), .slice ua i uc]) := X5.out.old _
            have NA : Hid (Box (w5.alloc (.cells #[.string nm, .int .i64 ((r : Int) - 1), .int .i64 (t : Int)] 95)) (w2.heap.size + 1 + 1) [.string ⟨#[97]⟩, .string ⟨#[98]⟩, .string ⟨#[99]⟩, .string ⟨#[100]⟩]) := N5.out.old _
            clear e0 e1
            obtain ⟨e0, _⟩ := XA.out 2 _ rfl
            have e1 := EC.out _ NA.out
            refine hK.out _ _ e1 (fun hHeld => ?_)
            clear hK K
            have RLT : Hid (∀ g, Value.ownBlock (.slice ua i uc) = some g → w2.heap.size ≤ g ∧ g < w5.heap.size) := fun g e => O5.out.lt g e
            have BA : Hid (Below w.heap.size w5 (w5.alloc (.cells #[.string nm, .int .i64 ((r : Int) - 1), .int .i64 (t : Int)] 95))) := (Below.refl _ _).alloc T5.out.size _
            clear e0
            refine wpAnyH_ready (rs := [13]) (by kernel_rfl) (by simp) ?_
            refine AllReadyH.cons rfl (fun K hK => ?_) AllReadyH.nil
            refine step_append_src rfl (.tmp 21) (.tmp 32) 37 rfl w2.heap.size 95 (.agg #[.string ⟨#[]⟩, .int .i64 0, .int .i64 0]) 3 32 Tryd.underlying37 infoSn rfl (by decide) (by decide) (.slice ua i uc) i (cellsSn S) (by simp [Act.eval]) (show World.ownsRow (w5.alloc (.cells #[.string nm, .int .i64 ((r : Int) - 1), .int .i64 (t : Int)] 95)) _ _ _ _ _ _ from O5.out.alloc _) ⟨w5.heap.size, 0, none⟩ 1 1 (cellsSn [(nm, (r : Int) - 1, (t : Int))]) (by simp [Act.eval]) rfl (show Src (w5.alloc (.cells #[.string nm, .int .i64 ((r : Int) - 1), .int .i64 (t : Int)] 95)) _ _ from src_oneSn rfl) (cellsSn_one _) (by omega) (by decide) (by have := W5.out; simp; omega) ?_
            intro v' w' hown hgrow hnew
            obtain ⟨b', d', rfl, _, _⟩ := own_src hown
            have XG : Hid (Box w' (w2.heap.size + 1) [.int .i64 (x : Int), .int .i64 ((y : Int) - 1), .slice ua i uc]) := Box.grown XA.out hgrow (fun e => (hn.out _ e).1 rfl)
            have NG0 : Hid (Box w' (w2.heap.size + 1 + 1) [.string ⟨#[97]⟩, .string ⟨#[98]⟩, .string ⟨#[99]⟩, .string ⟨#[100]⟩]) := Box.grown NA.out hgrow (fun e => (hn.out _ e).2 rfl)
            have RG : Hid (Box w' w.heap.size [.int .i64 0, .int .i64 0, .slice none 0 0]) := Box.grown (R5.out.old _) hgrow (fun e => by have h9 := (RLT.out _ e).1; have h8 := Z2.out; omega)
            have OG : Hid (w'.ownsRow w2.heap.size 95 3 (.slice b' (i + 1) d') (i + 1) (cellsSn (S ++ [(nm, (r : Int) - 1, (t : Int))]))) := by rw [cellsSn_append]; exact hown
            have BG : Hid (Below w.heap.size w5 w') := BA.out.grown hgrow (by have := T5.out.size; simp; omega) (fun g e => by have h9 := (RLT.out g e).1; have h8 := Z2.out; omega)
            have NG : Hid (∀ g, Value.ownBlock (.slice b' (i + 1) d') = some g → g ≠ (w2.heap.size + 1) ∧ g ≠ (w2.heap.size + 1 + 1)) := fun gg e => by
              rcases hnew with h9 | h9
              · rw [h9] at e; exact hn.out gg e
              · have h8 := h9 gg e
                have h7 := W5.out
                have h6 : (w5.alloc (.cells #[.string nm, .int .i64 ((r : Int) - 1), .int .i64 (t : Int)] 95)).heap.size = w5.heap.size + 1 := by simp
                omega
            clear hown hgrow hnew e1
            obtain ⟨e0, ef⟩ := XG.out 2 _ rfl
            have e1 := EC.out _ NG0.out
            refine hK.out _ _ e1 (fun hHeld => ?_)
            clear hK K
            have XF : Hid (Box (w'.setCell ⟨(w2.heap.size + 1), 2, none⟩ (.slice b' (i + 1) d')) (w2.heap.size + 1) [.int .i64 (x : Int), .int .i64 ((y : Int) - 1), .slice b' (i + 1) d']) := XG.out.set 2 _
            have BF : Hid (Below w.heap.size w5 (w'.setCell ⟨(w2.heap.size + 1), 2, none⟩ (.slice b' (i + 1) d'))) := BG.out.setCell (by have := Z2.out; dsimp only; omega) _
            have OF : Hid ((w'.setCell ⟨(w2.heap.size + 1), 2, none⟩ (.slice b' (i + 1) d')).ownsRow w2.heap.size 95 3 (.slice b' (i + 1) d') (i + 1) (cellsSn (S ++ [(nm, (r : Int) - 1, (t : Int))]))) := own_setOther OG.out (fun e => (NG.out _ e).1 rfl) _
            have NF : Hid (Box (w'.setCell ⟨(w2.heap.size + 1), 2, none⟩ (.slice b' (i + 1) d')) (w2.heap.size + 1 + 1) [.string ⟨#[97]⟩, .string ⟨#[98]⟩, .string ⟨#[99]⟩, .string ⟨#[100]⟩]) := NG0.out.other _ (by dsimp only; omega) _
            have RF : Hid (Box (w'.setCell ⟨(w2.heap.size + 1), 2, none⟩ (.slice b' (i + 1) d')) w.heap.size [.int .i64 0, .int .i64 0, .slice none 0 0]) := RG.out.other _ (by have := Z2.out; dsimp only; omega) _
            have TF : Hid (Turned P (P + 1) w (w'.setCell ⟨(w2.heap.size + 1), 2, none⟩ (.slice b' (i + 1) d'))) := T5.out.far BF.out
            have DF : Hid (DrawOK (w'.setCell ⟨(w2.heap.size + 1), 2, none⟩ (.slice b' (i + 1) d')) P ca n cc (K0 + 6 + 9 * (i + 1)) C) := (D5.out.far BF.out PL.out CB.out).up (by omega)
            have SF : Hid ((S ++ [(nm, (r : Int) - 1, (t : Int))]).length = i + 1 ∧ drawnS (S ++ [(nm, (r : Int) - 1, (t : Int))])) := ⟨by rw [List.length_append, hS.out.1]; rfl, by rw [← HNM.out]; exact drawn_snoc hS.out.2 hS.out.1 hi3 (by omega) (by omega) (by omega) (by omega)⟩
            refine wpAnyH_take (i := 14) (v := .pointer (some ⟨(w2.heap.size + 1), 2, none⟩)) rfl (by kernel_rfl) (by kernel_rfl) (by kernel_rfl) (fun _ _ _ h => h) (Or.inl ⟨by rfl, ?_⟩) hHeld ?_
            · intro w9 hSw
              have s0 := hSw
              go_simp
            simp only [Act.put, List.setIfInBounds_toArray, List.set_cons_zero, List.set_cons_succ]
            refine wpAnyH_ready (rs := [15]) (by kernel_rfl) (by simp) ?_
            refine AllReadyH.cons rfl (fun K hK => ?_) AllReadyH.nil
            go_simp
            clear e0 ef e1
            have e1 := EC.out _ NF.out
            refine hK.out _ _ e1 (fun hHeld => ?_)
            clear hK K
            refine wpAnyH_done (by kernel_rfl) ?_ _
            refine NoPanic.normal ?_
            clear e1
            go_wp2_with fail
            exact ⟨⟨i + 1, _, _, by omega, by go_num, SF.out, TF.out, DF.out, XF.out, OF.out, NG.out, NF.out, RF.out⟩, by simp [intOf]; omega⟩
          · skip
            go_simp
            have XA : Hid (Box (w5.alloc (.cells #[.string nm, .int .i64 ((r : Int) - 1), .int .i64 (t : Int)] 95)) (w2.heap.size + 1) [.int .i64 (x : Int), .int .i64 ((y : Int) - 1), .slice ua i uc]) := X5.out.old _
            have NA : Hid (Box (w5.alloc (.cells #[.string nm, .int .i64 ((r : Int) - 1), .int .i64 (t : Int)] 95)) (w2.heap.size + 1 + 1) [.string ⟨#[97]⟩, .string ⟨#[98]⟩, .string ⟨#[99]⟩, .string ⟨#[100]⟩]) := N5.out.old _
            clear e0 e1
            obtain ⟨e0, _⟩ := XA.out 2 _ rfl
            have e1 := EC.out _ NA.out
            refine hK.out _ _ e1 (fun hHeld => ?_)
            clear hK K
            refine wpAnyH_ready (rs := [1]) (by kernel_rfl) (by simp) ?_
            refine AllReadyH.cons rfl (fun K hK => ?_) AllReadyH.nil
            go_simp
            refine hK.out _ _ e1 (fun hHeld => ?_)
            clear hK K
            have RLT : Hid (∀ g, Value.ownBlock (.slice ua i uc) = some g → w2.heap.size ≤ g ∧ g < w5.heap.size) := fun g e => O5.out.lt g e
            have BA : Hid (Below w.heap.size w5 (w5.alloc (.cells #[.string nm, .int .i64 ((r : Int) - 1), .int .i64 (t : Int)] 95))) := (Below.refl _ _).alloc T5.out.size _
            clear e0
            refine wpAnyH_ready (rs := [13]) (by kernel_rfl) (by simp) ?_
            refine AllReadyH.cons rfl (fun K hK => ?_) AllReadyH.nil
            refine step_append_src rfl (.tmp 21) (.tmp 32) 37 rfl w2.heap.size 95 (.agg #[.string ⟨#[]⟩, .int .i64 0, .int .i64 0]) 3 32 Tryd.underlying37 infoSn rfl (by decide) (by decide) (.slice ua i uc) i (cellsSn S) (by simp [Act.eval]) (show World.ownsRow (w5.alloc (.cells #[.string nm, .int .i64 ((r : Int) - 1), .int .i64 (t : Int)] 95)) _ _ _ _ _ _ from O5.out.alloc _) ⟨w5.heap.size, 0, none⟩ 1 1 (cellsSn [(nm, (r : Int) - 1, (t : Int))]) (by simp [Act.eval]) rfl (show Src (w5.alloc (.cells #[.string nm, .int .i64 ((r : Int) - 1), .int .i64 (t : Int)] 95)) _ _ from src_oneSn rfl) (cellsSn_one _) (by omega) (by decide) (by have := W5.out; simp; omega) ?_
            intro v' w' hown hgrow hnew
            obtain ⟨b', d', rfl, _, _⟩ := own_src hown
            have XG : Hid (Box w' (w2.heap.size + 1) [.int .i64 (x : Int), .int .i64 ((y : Int) - 1), .slice ua i uc]) := Box.grown XA.out hgrow (fun e => (hn.out _ e).1 rfl)
            have NG0 : Hid (Box w' (w2.heap.size + 1 + 1) [.string ⟨#[97]⟩, .string ⟨#[98]⟩, .string ⟨#[99]⟩, .string ⟨#[100]⟩]) := Box.grown NA.out hgrow (fun e => (hn.out _ e).2 rfl)
            have RG : Hid (Box w' w.heap.size [.int .i64 0, .int .i64 0, .slice none 0 0]) := Box.grown (R5.out.old _) hgrow (fun e => by have h9 := (RLT.out _ e).1; have h8 := Z2.out; omega)
            have OG : Hid (w'.ownsRow w2.heap.size 95 3 (.slice b' (i + 1) d') (i + 1) (cellsSn (S ++ [(nm, (r : Int) - 1, (t : Int))]))) := by rw [cellsSn_append]; exact hown
            have BG : Hid (Below w.heap.size w5 w') := BA.out.grown hgrow (by have := T5.out.size; simp; omega) (fun g e => by have h9 := (RLT.out g e).1; have h8 := Z2.out; omega)
            have NG : Hid (∀ g, Value.ownBlock (.slice b' (i + 1) d') = some g → g ≠ (w2.heap.size + 1) ∧ g ≠ (w2.heap.size + 1 + 1)) := fun gg e => by
              rcases hnew with h9 | h9
              · rw [h9] at e; exact hn.out gg e
              · have h8 := h9 gg e
                have h7 := W5.out
                have h6 : (w5.alloc (.cells #[.string nm, .int .i64 ((r : Int) - 1), .int .i64 (t : Int)] 95)).heap.size = w5.heap.size + 1 := by simp
                omega
            clear hown hgrow hnew e1
            obtain ⟨e0, ef⟩ := XG.out 2 _ rfl
            have e1 := EC.out _ NG0.out
            refine hK.out _ _ e1 (fun hHeld => ?_)
            clear hK K
            have XF : Hid (Box (w'.setCell ⟨(w2.heap.size + 1), 2, none⟩ (.slice b' (i + 1) d')) (w2.heap.size + 1) [.int .i64 (x : Int), .int .i64 ((y : Int) - 1), .slice b' (i + 1) d']) := XG.out.set 2 _
            have BF : Hid (Below w.heap.size w5 (w'.setCell ⟨(w2.heap.size + 1), 2, none⟩ (.slice b' (i + 1) d'))) := BG.out.setCell (by have := Z2.out; dsimp only; omega) _
            have OF : Hid ((w'.setCell ⟨(w2.heap.size + 1), 2, none⟩ (.slice b' (i + 1) d')).ownsRow w2.heap.size 95 3 (.slice b' (i + 1) d') (i + 1) (cellsSn (S ++ [(nm, (r : Int) - 1, (t : Int))]))) := own_setOther OG.out (fun e => (NG.out _ e).1 rfl) _
            have NF : Hid (Box (w'.setCell ⟨(w2.heap.size + 1), 2, none⟩ (.slice b' (i + 1) d')) (w2.heap.size + 1 + 1) [.string ⟨#[97]⟩, .string ⟨#[98]⟩, .string ⟨#[99]⟩, .string ⟨#[100]⟩]) := NG0.out.other _ (by dsimp only; omega) _
            have RF : Hid (Box (w'.setCell ⟨(w2.heap.size + 1), 2, none⟩ (.slice b' (i + 1) d')) w.heap.size [.int .i64 0, .int .i64 0, .slice none 0 0]) := RG.out.other _ (by have := Z2.out; dsimp only; omega) _
            have TF : Hid (Turned P (P + 1) w (w'.setCell ⟨(w2.heap.size + 1), 2, none⟩ (.slice b' (i + 1) d'))) := T5.out.far BF.out
            have DF : Hid (DrawOK (w'.setCell ⟨(w2.heap.size + 1), 2, none⟩ (.slice b' (i + 1) d')) P ca n cc (K0 + 6 + 9 * (i + 1)) C) := (D5.out.far BF.out PL.out CB.out).up (by omega)
            have SF : Hid ((S ++ [(nm, (r : Int) - 1, (t : Int))]).length = i + 1 ∧ drawnS (S ++ [(nm, (r : Int) - 1, (t : Int))])) := ⟨by rw [List.length_append, hS.out.1]; rfl, by rw [← HNM.out]; exact drawn_snoc hS.out.2 hS.out.1 hi3 (by omega) (by omega) (by omega) (by omega)⟩
            refine wpAnyH_take (i := 14) (v := .pointer (some ⟨(w2.heap.size + 1), 2, none⟩)) rfl (by kernel_rfl) (by kernel_rfl) (by kernel_rfl) (fun _ _ _ h => h) (Or.inl ⟨by rfl, ?_⟩) hHeld ?_
            · intro w9 hSw
              have s0 := hSw
              go_simp
            simp only [Act.put, List.setIfInBounds_toArray, List.set_cons_zero, List.set_cons_succ]
            refine wpAnyH_ready (rs := [15]) (by kernel_rfl) (by simp) ?_
            refine AllReadyH.cons rfl (fun K hK => ?_) AllReadyH.nil
            go_simp
            clear e0 ef e1
            have e1 := EC.out _ NF.out
            refine hK.out _ _ e1 (fun hHeld => ?_)
            clear hK K
            refine wpAnyH_done (by kernel_rfl) ?_ _
            refine NoPanic.normal ?_
            clear e1
            go_wp2_with fail
            exact ⟨⟨i + 1, _, _, by omega, by go_num, SF.out, TF.out, DF.out, XF.out, OF.out, NG.out, NF.out, RF.out⟩, by simp [intOf]; omega⟩
    · have hki : ¬ (i : Int) < (z : Int) := by omega
      obtain ⟨s0, _⟩ := X3.out 0 _ rfl
      obtain ⟨s1, _⟩ := X3.out 1 _ rfl
      obtain ⟨s2, _⟩ := X3.out 2 _ rfl
      obtain ⟨p0, f0⟩ := R3.out 0 _ rfl
      obtain ⟨p1, f1⟩ := (R3.out.set 0 (.int .i64 (x : Int))) 1 _ rfl
      obtain ⟨p2, f2⟩ := ((R3.out.set 0 (.int .i64 (x : Int))).set 1 (.int .i64 ((y : Int) - 1))) 2 _ rfl
      have X4 := ((R3.out.set 0 (.int .i64 (x : Int))).set 1 (.int .i64 ((y : Int) - 1))).set 2 (.slice ua i uc)
      obtain ⟨r0, _⟩ := X4 0 _ rfl
      obtain ⟨r1, _⟩ := X4 1 _ rfl
      obtain ⟨r2, _⟩ := X4 2 _ rfl
      clear X4
      have B4 : Hid (Below w.heap.size w3 (((w3.setCell ⟨w.heap.size, 0, none⟩ (.int .i64 (x : Int))).setCell ⟨w.heap.size, 1, none⟩ (.int .i64 ((y : Int) - 1))).setCell ⟨w.heap.size, 2, none⟩ (.slice ua i uc))) := by refine Below.setCell (Below.setCell (Below.setCell (Below.refl _ _) ?_ _) ?_ _) ?_ _ <;> exact Nat.le_refl _
      have O4 : Hid ((((w3.setCell ⟨w.heap.size, 0, none⟩ (.int .i64 (x : Int))).setCell ⟨w.heap.size, 1, none⟩ (.int .i64 ((y : Int) - 1))).setCell ⟨w.heap.size, 2, none⟩ (.slice ua i uc)).ownsRow w2.heap.size 95 3 (.slice ua i uc) i (cellsSn S)) := own_setLow (own_setLow (own_setLow O3.out (by have := Z2.out; dsimp only; omega) _) (by have := Z2.out; dsimp only; omega) _) (by have := Z2.out; dsimp only; omega) _
      have RU : Hid (OwnsU (((w3.setCell ⟨w.heap.size, 0, none⟩ (.int .i64 (x : Int))).setCell ⟨w.heap.size, 1, none⟩ (.int .i64 ((y : Int) - 1))).setCell ⟨w.heap.size, 2, none⟩ (.slice ua i uc)) w.heap.size (((w3.setCell ⟨w.heap.size, 0, none⟩ (.int .i64 (x : Int))).setCell ⟨w.heap.size, 1, none⟩ (.int .i64 ((y : Int) - 1))).setCell ⟨w.heap.size, 2, none⟩ (.slice ua i uc)).heap.size (.agg #[.int .i64 (x : Int), .int .i64 ((y : Int) - 1), .slice ua i uc]) ⟨(x : Int), (y : Int) - 1, S⟩) := by
        refine ⟨_, rfl, OwnsR.mk ?_ (Nat.le_refl _)⟩
        show World.ownsRow _ _ _ _ _ S.length _
        rw [hS.out.1]
        exact own_mono O4.out (by have := Z2.out; omega)
      have OK : Hid (okU ⟨(x : Int), (y : Int) - 1, S⟩ = true) := drawn_ok hS.out.2 (by omega) (by omega) (by omega) (by omega)
      have T4 : Hid (Turned P (P + 1) w (((w3.setCell ⟨w.heap.size, 0, none⟩ (.int .i64 (x : Int))).setCell ⟨w.heap.size, 1, none⟩ (.int .i64 ((y : Int) - 1))).setCell ⟨w.heap.size, 2, none⟩ (.slice ua i uc))) := T3.out.far B4.out
      go_wp2_with fail
      exact bodyPost_ret (v := .agg #[.int .i64 (x : Int), .int .i64 ((y : Int) - 1), .slice ua i uc]) (by simp [results, Tryd.results67, go_sem, r0, r1, r2]) rfl ⟨_, _, rfl, OK.out, RU.out, T4.out⟩

set_option maxHeartbeats 1000000 in
theorem specSuperOf (ca : Option Addr) (n cc : Nat) (C : List Nat) (w : World) (hC : C.length = n) (hn : n ≤ 1048576) (h8 : ∀ x ∈ C, x < 256) (hs : Src w ca (cellsB C)) :
    Calls Tryd.prog 18 #[.slice ca n cc] w fun e w' => ∃ v D, e = .returned v ∧ okU D = true ∧ ReadsU w' v D ∧ Below w.heap.size w w' := by
  have HS : Hid (Src w ca (cellsB C)) := hs
  clear hs
  go_enter Tryd.func18, Tryd.ntmps18
  go_wp2_with fail
  have A0 : Hid (Below w.heap.size w (w.alloc (.cells #[.int .i64 0, .int .i64 0, .slice none 0 0] 39))) := (Below.refl _ _).alloc (Nat.le_refl _) _
  refine (l00Source ca n cc C _ hC hn h8 (HS.out.below A0.out)).mono ?_
  rintro e w1 ⟨rfl, hz1, hb1, hd1⟩
  rw [show (w.alloc (.cells #[.int .i64 0, .int .i64 0, .slice none 0 0] 39)).heap.size = w.heap.size + 1 by simp] at hd1 ⊢
  have D1 : Hid (DrawOK w1 (w.heap.size + 1) ca n cc 0 C) := hd1
  have B1 : Hid (Below w.heap.size w w1) := Below.new hb1
  have R1 : Hid (Box w1 w.heap.size [.int .i64 0, .int .i64 0, .slice none 0 0]) := Box.below (Box.new rfl) hb1
  clear hd1 hb1 hz1
  go_wp2_with fail
  refine (drawSuper (w.heap.size + 1) n cc 0 ca C _ (by omega) D1.out).mono ?_
  rintro e w2 ⟨v, D, rfl, hok, hru, ht2⟩
  obtain ⟨v1, rfl, hrow⟩ := hru
  obtain ⟨ua, uc, rfl⟩ := hrow.lit
  have BW : Hid (w.heap.size < w1.heap.size) := World.block_lt_of_cell? _ _ (R1.out 0 _ rfl).1
  have Q : Hid (okU D = true ∧ w2.ownsRow w1.heap.size 95 3 (.slice ua D.S.length uc) D.S.length (cellsSn D.S)) := ⟨hok, hrow.1⟩
  have B2 : Hid (Below w.heap.size w w2) := Below.turned B1.out ht2 (Nat.le_refl _) (by omega)
  have R2 : Hid (Box w2 w.heap.size [.int .i64 0, .int .i64 0, .slice none 0 0]) := R1.out.turned ht2 (.inl (by omega))
  obtain ⟨m, hm⟩ : ∃ m, D.S.length = m := ⟨_, rfl⟩
  obtain ⟨G, hG⟩ : ∃ m, D.G = m := ⟨_, rfl⟩
  obtain ⟨R, hR⟩ : ∃ m, D.R = m := ⟨_, rfl⟩
  have HD : Hid (D.S.length = m ∧ D.G = G ∧ D.R = R) := ⟨hm, hG, hR⟩
  rw [hm] at Q
  rw [hm, hG, hR]
  clear hok hrow ht2 R1 hm hG hR
  obtain ⟨p0, f0⟩ := R2.out 0 _ rfl
  obtain ⟨p1, f1⟩ := (R2.out.set 0 (.int .i64 G)) 1 _ rfl
  obtain ⟨p2, f2⟩ := ((R2.out.set 0 (.int .i64 G)).set 1 (.int .i64 R)) 2 _ rfl
  have X4 := ((R2.out.set 0 (.int .i64 G)).set 1 (.int .i64 R)).set 2 (.slice ua m uc)
  obtain ⟨r0, _⟩ := X4 0 _ rfl
  obtain ⟨r1, _⟩ := X4 1 _ rfl
  obtain ⟨r2, _⟩ := X4 2 _ rfl
  clear X4
  have B4 : Hid (Below w.heap.size w (((w2.setCell ⟨w.heap.size, 0, none⟩ (.int .i64 G)).setCell ⟨w.heap.size, 1, none⟩ (.int .i64 R)).setCell ⟨w.heap.size, 2, none⟩ (.slice ua m uc))) := ((B2.out.setCell (Nat.le_refl _) _).setCell (Nat.le_refl _) _).setCell (Nat.le_refl _) _
  have RU : Hid (ReadsU (((w2.setCell ⟨w.heap.size, 0, none⟩ (.int .i64 G)).setCell ⟨w.heap.size, 1, none⟩ (.int .i64 R)).setCell ⟨w.heap.size, 2, none⟩ (.slice ua m uc)) (.agg #[.int .i64 G, .int .i64 R, .slice ua m uc]) D) := by
    refine ⟨ua, uc, by rw [HD.out.1, HD.out.2.1, HD.out.2.2], ?_⟩
    have h9 := own_setLow (own_setLow (own_setLow Q.out.2 (a := ⟨w.heap.size, 0, none⟩) (by have := BW.out; dsimp only; omega) (.int .i64 G)) (a := ⟨w.heap.size, 1, none⟩) (by have := BW.out; dsimp only; omega) (.int .i64 R)) (a := ⟨w.heap.size, 2, none⟩) (by have := BW.out; dsimp only; omega) (.slice ua m uc)
    exact (OwnsR.mk h9 (Nat.le_refl _)).src
  have OK : Hid (okU D = true) := Q.out.1
  go_wp2_with fail
  exact bodyPost_ret (v := .agg #[.int .i64 G, .int .i64 R, .slice ua m uc]) (by simp [results, Tryd.results18, go_sem, r0, r1, r2]) rfl ⟨_, _, rfl, OK.out, RU.out, B4.out⟩
end Go.Proofs.YtnejklppbjkekaaDoor
