
/-
  Texts that are drawn. By an AI agent.
-/
import Derived.Test.YtfbomjcjemcgeaaDraws
namespace Go.Proofs.Ytfbomjcjemcgeaa
open Go.ChangeShapes Go.WideShapes Go.ChangeAt Go.RowKit Go.Deep
set_option linter.unusedVariables false
set_option maxRecDepth 100000

set_option maxHeartbeats 1000000 in
theorem l00Source (ca : Option Addr) (n cc : Nat) (C : List Nat) (w : World) (hC : C.length = n) (hn : n ≤ 1048576) (h8 : ∀ x ∈ C, x < 256) (hs : Src w ca (cellsB C)) :
    Calls Try.prog 55 #[.slice ca n cc] w fun e w' => e = .returned (.pointer (some ⟨w.heap.size, 0, none⟩)) ∧ w'.heap.size = w.heap.size + 1 ∧ Below w.heap.size w w' ∧ DrawOK w' w.heap.size ca n cc 0 C := by
  obtain ⟨s, hs9⟩ : ∃ s, n % 1000 = s := ⟨_, rfl⟩
  have hsl : s < 1000 := by rw [← hs9]; exact Nat.mod_lt _ (by omega)
  have R : Int.tmod (n : Int) 1000 = (s : Int) := by rw [← hs9]; exact tmod_nat n 1000
  have HC : Hid (C.length = n ∧ (∀ x ∈ C, x < 256) ∧ Src w ca (cellsB C)) := ⟨hC, h8, hs⟩
  clear hC h8 hs hs9
  go_enter Try.func55, Try.ntmps55
  go_wp2_with fail
  go_ret
  refine ⟨rfl, by simp, (Below.refl _ _).alloc (Nat.le_refl _) _, ⟨0, s, Box.new rfl, by omega, by omega⟩, HC.out.1, hn, HC.out.2.1, HC.out.2.2.below ((Below.refl _ _).alloc (Nat.le_refl _) _), fun h0 a e => ?_⟩
  rcases HC.out.2.2 with h | ⟨b, o, e2, hc⟩
  · have h2 := cellsB_length C
    rw [h] at h2
    simp only [List.length_nil] at h2
    have := HC.out.1
    omega
  · rw [e2] at e
    cases e
    have h1 := World.block_lt_of_cell? _ _ (hc 0 (by rw [cellsB_length, HC.out.1]; omega))
    dsimp only at h1 ⊢
    omega
def drawn4 : List ByteArray := [⟨#[]⟩, ⟨#[97]⟩, ⟨#[116, 101, 120, 116]⟩, ⟨#[0, 1]⟩]
theorem drawn4_small : ∀ s ∈ drawn4, s.size ≤ 4 := by
  intro s hs
  simp [drawn4] at hs
  rcases hs with rfl | rfl | rfl | rfl <;> decide
theorem src_four {w : World} {s t u v : ByteArray} {B ty : Nat} (hB : B = w.heap.size) : Src (w.alloc (.cells #[.string s, .string t, .string u, .string v] ty)) (some ⟨B, 0, none⟩) (cellsS [s, t, u, v]) := by
  have hb : Box (w.alloc (.cells #[.string s, .string t, .string u, .string v] ty)) B [.string s, .string t, .string u, .string v] := Box.new hB
  refine .inr ⟨B, 0, rfl, fun j hj => ?_⟩
  have hj4 : j < 4 := hj
  rw [Nat.zero_add]
  match j, hj4 with
  | 0, _ => exact (hb 0 _ rfl).1
  | 1, _ => exact (hb 1 _ rfl).1
  | 2, _ => exact (hb 2 _ rfl).1
  | 3, _ => exact (hb 3 _ rfl).1
theorem src_oneT {w : World} {s : ByteArray} {B ty : Nat} (hB : B = w.heap.size) : Src (w.alloc (.cells #[.string s] ty)) (some ⟨B, 0, none⟩) (cellsS [s]) := by
  have hb : Box (w.alloc (.cells #[.string s] ty)) B [.string s] := Box.new hB
  refine .inr ⟨B, 0, rfl, fun j hj => ?_⟩
  have hj4 : j < 1 := hj
  rw [Nat.zero_add]
  match j, hj4 with
  | 0, _ => exact (hb 0 _ rfl).1
theorem DrawOK.below {w w' : World} {P n cc K : Nat} {ca : Option Addr} {C : List Nat} (h : DrawOK w P ca n cc K C) (hb : Below w.heap.size w w') : DrawOK w' P ca n cc K C := by
  obtain ⟨⟨a, s, h1, h2, h3⟩, h4, h5, h6, h7, h8⟩ := h
  exact ⟨⟨a, s, h1.below hb, h2, h3⟩, h4, h5, h6, h7.below hb, h8⟩
theorem DrawOK.lt {w : World} {P n cc K : Nat} {ca : Option Addr} {C : List Nat} (h : DrawOK w P ca n cc K C) : P < w.heap.size := by
  obtain ⟨⟨a, s, h1, h2, h3⟩, h4⟩ := h
  exact World.block_lt_of_cell? _ _ (h1 0 _ rfl).1
theorem DrawOK.grown {w w' : World} {P n cc K : Nat} {ca : Option Addr} {C : List Nat} {row : Option Nat} (h : DrawOK w P ca n cc K C) (hg : w.grownBy w' row) (hP : row ≠ some P) (hc : 0 < n → ∀ a, ca = some a → row ≠ some a.block) : DrawOK w' P ca n cc K C := by
  obtain ⟨⟨a, s, h1, h2, h3⟩, h4, h5, h6, h7, h8⟩ := h
  refine ⟨⟨a, s, h1.grown hg hP, h2, h3⟩, h4, h5, h6, ?_, h8⟩
  rcases h7 with h7 | ⟨b, o, rfl, h9⟩
  · exact .inl h7
  · refine .inr ⟨b, o, rfl, fun j hj => ?_⟩
    have h10 := h9 j hj
    rw [← h10]
    exact World.cell?_of_block (a := ⟨b, o + j, none⟩) (hg.block b (World.block_lt_of_cell? _ _ h10) (fun e => hc (by rw [cellsB_length, h4] at hj; omega) _ rfl e.symm))
set_option maxHeartbeats 2000000 in
theorem drawTexts (P n cc K : Nat) (ca : Option Addr) (C : List Nat) (w : World) (hK : K ≤ 999000000) (h : DrawOK w P ca n cc K C) :
    Calls Try.prog 56 #[.pointer (some ⟨P, 0, none⟩)] w fun e w' => ∃ v L, e = .returned v ∧ w'.ownsRow w.heap.size 9 1 v L.length (cellsS L) ∧ L.length ≤ 5 ∧ (∀ s ∈ L, s.size ≤ 4) ∧ Turned P (P + 1) w w' := by
  have H : Hid (DrawOK w P ca n cc K C) := h
  have PL : Hid (P < w.heap.size) := h.lt
  have CB : Hid (0 < n → ∀ a, ca = some a → a.block < w.heap.size) := fun h0 a e => by
    rcases h.2.2.2.2.1 with h7 | ⟨b, o, e2, hc⟩
    · have h2 := cellsB_length C
      rw [h7] at h2
      simp only [List.length_nil] at h2
      have := h.2.1
      omega
    · rw [e2] at e
      cases e
      have h1 := World.block_lt_of_cell? _ _ (hc 0 (by rw [cellsB_length, h.2.1]; omega))
      exact h1
  clear h
  go_enter Try.func56, Try.ntmps56
  go_wp2_with fail
  have A0 : Hid (Below w.heap.size w (w.alloc (.cells #[] 9))) := (Below.refl _ _).alloc (Nat.le_refl _) _
  refine (drawNext P n cc K 6 ca C _ (by omega) (by omega) (by omega) (H.out.below A0.out)).mono ?_
  rintro e w1 ⟨x, rfl, hx, ht, hd⟩
  have O1 : Hid (w1.ownsRow w.heap.size 9 1 (.slice (some ⟨w.heap.size, 0, none⟩) 0 0) 0 (cellsS [])) := own_turned (top := w.heap.size + 1) (own_empty (w := w) rfl (Nat.le_refl _)) ht (fun k e => by have e2 : some w.heap.size = some k := e; injection e2 with e3; omega) (.inr (by have := PL.out; omega))
  have T1 : Hid (Turned P (P + 1) w w1) := (Turned.of_below A0.out).trans ht
  have D1 : Hid (DrawOK w1 P ca n cc (K + 3) C) := hd
  clear ht hd
  go_wp2_with fail
  go_loopw [3, 4] (fun lv iv wr => ∃ (j : Nat) (u : Value) (L : List ByteArray), u = lv ∧ iv = .int .i64 (j : Int) ∧ j + L.length ≤ 5 ∧ Hid (∀ s ∈ L, s.size ≤ 4) ∧ Hid (Turned P (P + 1) w wr) ∧ Hid (DrawOK wr P ca n cc (K + 3 + 3 * L.length) C) ∧ Hid (wr.ownsRow w.heap.size 9 1 u L.length (cellsS L))) (fun _ i _ => (intOf i).toNat)
  case atStart => exact ⟨x, _, [], rfl, rfl, by simp; omega, fun s hs => (by cases hs), T1.out, D1.out, O1.out⟩
  case round =>
    obtain ⟨j, u, L, hu, rfl, hjl, hsm, hT, hD, hO⟩ := hrel
    subst hu
    by_cases hj : 0 < j
    · have hj0 : (0 : Int) < (j : Int) := by omega
      obtain ⟨l, hl⟩ : ∃ l, L.length = l := ⟨_, rfl⟩
      have HL : Hid (L.length = l) := hl
      rw [hl] at hjl
      have hl5 : l ≤ 5 := by omega
      have WS : Hid (w.heap.size ≤ wr.heap.size) := hT.out.size
      have hlt3 : Hid (∀ g, Value.ownBlock u = some g → w.heap.size ≤ g ∧ g < wr.heap.size) := fun g e => hO.out.lt g e
      have B4 : Hid (Below wr.heap.size wr (wr.alloc (.cells #[.string ⟨#[]⟩, .string ⟨#[97]⟩, .string ⟨#[116, 101, 120, 116]⟩, .string ⟨#[0, 1]⟩] 9))) := (Below.refl _ _).alloc (Nat.le_refl _) _
      clear hl
      go_wp2_with fail
      refine (drawPick P n cc (K + 3 + 3 * L.length) ca C wr.heap.size 0 4 4 drawn4 _ rfl (by omega) (by omega) (by have := HL.out; omega) (by have := PL.out; have := WS.out; omega) (src_four rfl) (hD.out.below B4.out)).mono ?_
      rintro e w2 ⟨s, rfl, hs, ht2, hd2⟩
      have SM : Hid (s.size ≤ 4) := drawn4_small s hs
      have T2 : Hid (Turned P (P + 1) w w2) := hT.out.trans ((Turned.of_below B4.out).trans ht2)
      have O2 : Hid (w2.ownsRow w.heap.size 9 1 u l (cellsS L)) := by
        have h9 := own_turned (top := wr.heap.size) (own_below hO.out B4.out) ht2 (fun k e => (hlt3.out k e).2) (.inr (by have := PL.out; omega))
        rw [HL.out] at h9
        exact h9
      have D2 : Hid (DrawOK w2 P ca n cc (K + 3 + 3 * L.length + 3) C) := hd2
      have Z2 : Hid (w.heap.size ≤ w2.heap.size) := T2.out.size
      clear ht2 hd2 hs hD hO hT B4
      go_wp2_with (at_builtin; refine wpList_append_src _ rfl _ _ 23 rfl w.heap.size 9 (.string ⟨#[]⟩) 1 16 Try.underlying23 infoS rfl (by decide) (by decide) _ l (cellsS L) rfl (O2.out.alloc _) (some ⟨w2.heap.size, 0, none⟩) 1 1 (cellsS [s]) rfl rfl (src_oneT rfl) (cellsS_one _) (by omega) (le_alloc Z2.out _) ?_)
      intro v3 w3 hown3 hgrow3
      have B5 : Below w2.heap.size w2 (w2.alloc (.cells #[.string s] 9)) := (Below.refl _ _).alloc (Nat.le_refl _) _
      have O3 : Hid (w3.ownsRow w.heap.size 9 1 v3 (L ++ [s]).length (cellsS (L ++ [s]))) := by rw [cellsS_append, List.length_append, HL.out]; exact hown3
      have T3 : Hid (Turned P (P + 1) w w3) := by
        have h9 : Turned P (P + 1) w (w2.alloc (.cells #[.string s] 9)) := T2.out.trans (Turned.of_below B5)
        refine ⟨hgrow3.os.trans h9.os, hgrow3.tape.trans h9.tape, hgrow3.output.trans h9.output, Nat.le_trans h9.size hgrow3.size, fun k hk hr => ?_⟩
        rw [hgrow3.block k (Nat.lt_of_lt_of_le hk h9.size) (fun e => by have := (hlt3.out k e.symm).1; omega)]
        exact h9.block k hk hr
      have D3 : Hid (DrawOK w3 P ca n cc (K + 3 + 3 * (L ++ [s]).length) C) := by
        have h9 := DrawOK.grown (D2.out.below B5) hgrow3 (fun e => by have := (hlt3.out P e).1; have := PL.out; omega) (fun h0 a e e2 => by have := (hlt3.out _ e2).1; have := CB.out h0 a e; omega)
        have e9 : K + 3 + 3 * (L ++ [s]).length = K + 3 + 3 * L.length + 3 := by rw [List.length_append]; simp; omega
        rw [e9]
        exact h9
      have S3 : Hid (∀ t ∈ L ++ [s], t.size ≤ 4) := fun t ht => by
        rw [List.mem_append] at ht
        rcases ht with ht | ht
        · exact hsm.out t ht
        · simp at ht; subst ht; exact SM.out
      have LL : Hid ((L ++ [s]).length = l + 1) := by show _ = _; rw [List.length_append, HL.out]; rfl
      clear hown3 hgrow3 B5
      go_wp2_with fail
      exact ⟨⟨j - 1, _, L ++ [s], rfl, by go_num, by rw [LL.out]; omega, S3.out, T3.out, D3.out, O3.out⟩, by simp [intOf]; omega⟩
    · have hjz : j = 0 := by omega
      subst hjz
      go_wp2_with fail
      go_ret
      exact ⟨_, L, rfl, hO.out, by omega, hsm.out, hT.out⟩
theorem specTextsOf (ca : Option Addr) (n cc : Nat) (C : List Nat) (w : World) (hC : C.length = n) (hn : n ≤ 1048576) (h8 : ∀ x ∈ C, x < 256) (hs : Src w ca (cellsB C)) :
    Calls Try.prog 9 #[.slice ca n cc] w fun e w' => ∃ v L, e = .returned v ∧ w'.ownsRow w.heap.size 9 1 v L.length (cellsS L) ∧ L.length ≤ 5 ∧ (∀ s ∈ L, s.size ≤ 4) ∧ Below w.heap.size w w' := by
  go_enter Try.func9, Try.ntmps9
  go_wp2_with fail
  refine (l00Source ca n cc C _ hC hn h8 hs).mono ?_
  rintro e w1 ⟨rfl, hz1, hb1, hd1⟩
  have D1 : Hid (DrawOK w1 w.heap.size ca n cc 0 C) := hd1
  have B1 : Hid (Below w.heap.size w w1 ∧ w1.heap.size = w.heap.size + 1) := ⟨hb1, hz1⟩
  clear hd1 hb1 hz1
  go_wp2_with fail
  refine (drawTexts w.heap.size n cc 0 ca C _ (by omega) D1.out).mono ?_
  rintro e w2 ⟨v, L, rfl, o2, hl, hsz, ht2⟩
  have O2 : Hid (w2.ownsRow w.heap.size 9 1 v L.length (cellsS L) ∧ L.length ≤ 5 ∧ (∀ s ∈ L, s.size ≤ 4)) := ⟨own_mono o2 B1.out.1.size, hl, hsz⟩
  have B2 : Hid (Below w.heap.size w w2) := Below.turned B1.out.1 ht2 (Nat.le_refl _) (Nat.le_refl _)
  clear o2 hl hsz ht2
  go_wp2_with fail
  go_ret
  exact ⟨_, L, rfl, O2.out.1, O2.out.2.1, O2.out.2.2, B2.out⟩
end Go.Proofs.Ytfbomjcjemcgeaa
