
/-
  Disks that are drawn: the disk itself. By an AI agent.
-/
import Derived.Test.YtpbodiaglgkkkaaDraws4
namespace Go.Proofs.Ytpbodiaglgkkkaa
open Go.ChangeShapes Go.WideShapes Go.ChangeAt Go.RowKit Go.Deep
set_option linter.unusedVariables false
set_option maxRecDepth 100000

def drawnT : List ByteArray := [⟨#[]⟩, ⟨#[111, 110, 101]⟩, ⟨#[116, 119, 111]⟩]
theorem drawnT_small : ∀ s ∈ drawnT, s.size ≤ 420 := by
  intro s hs
  simp [drawnT] at hs
  rcases hs with rfl | rfl | rfl <;> decide
theorem OwnsD.drawn {w w' : World} {lo P : Nat} {v : Value} {D : DM} (h : OwnsD w lo w.heap.size v D) (ht : Turned P (P + 1) w w') (hP : P < lo) : OwnsD w' lo w'.heap.size v D := (h.turned ht (.inr (by omega))).mono (Nat.le_refl _) ht.size
theorem OwnsD.later {w w' : World} {lo : Nat} {v : Value} {D : DM} (h : OwnsD w lo w.heap.size v D) (hb : Below w.heap.size w w') : OwnsD w' lo w'.heap.size v D := (h.below hb).mono (Nat.le_refl _) hb.size
theorem kind_set {w : World} {B t : Nat} (h : ∃ c f, w.heap[B]? = some (.cells c t f)) (a : Addr) (v : Value) : ∃ c f, (w.setCell a v).heap[B]? = some (.cells c t f) := by
  obtain ⟨c, f, h⟩ := h
  by_cases e : B = a.block
  · subst e
    refine ⟨if a.spot.isSome then c else c.setIfInBounds a.off v, f, ?_⟩
    show (w.heap.modify a.block _)[a.block]? = _
    rw [Array.getElem?_modify, if_pos rfl, h]
    rfl
  · exact ⟨c, f, (Below.heap_setCell _ _ _ _ e).trans h⟩
theorem kind_w4 {w : World} {B t : Nat} (h : ∃ c f, w.heap[B]? = some (.cells c t f)) (B2 : Nat) (v0 v1 v2 v3 : Value) : ∃ c f, (W4 w B2 v0 v1 v2 v3).heap[B]? = some (.cells c t f) := kind_set (kind_set (kind_set (kind_set h _ _) _ _) _ _) _ _
theorem kind_lt {w : World} {B t : Nat} (h : ∃ c f, w.heap[B]? = some (.cells c t f)) : B < w.heap.size := by
  obtain ⟨c, f, h⟩ := h
  rcases Nat.lt_or_ge B w.heap.size with h1 | h1
  · exact h1
  · rw [Array.getElem?_eq_none h1] at h
    cases h
theorem kind_below {w w' : World} {B t : Nat} (h : ∃ c f, w.heap[B]? = some (.cells c t f)) (hb : Below w.heap.size w w') : ∃ c f, w'.heap[B]? = some (.cells c t f) := by
  have h1 := kind_lt h
  obtain ⟨c, f, h⟩ := h
  exact ⟨c, f, (hb.block B h1).trans h⟩
theorem kind_turned {w w' : World} {B t lo hi : Nat} (h : ∃ c f, w.heap[B]? = some (.cells c t f)) (hb : Turned lo hi w w') (hd : B < lo ∨ hi ≤ B) : ∃ c f, w'.heap[B]? = some (.cells c t f) := by
  have h1 := kind_lt h
  obtain ⟨c, f, h⟩ := h
  exact ⟨c, f, (hb.block B h1 hd).trans h⟩
theorem own_w4k {w : World} {base e s n B t : Nat} {v : Value} {xs : List Value} (h : w.ownsRow base e s v n xs) (hk : ∃ c f, w.heap[B]? = some (.cells c t f)) (hne : e ≠ t) (v0 v1 v2 v3 : Value) : (W4 w B v0 v1 v2 v3).ownsRow base e s v n xs := by
  have h0 := own_notkind h hk hne
  exact own_setOther (own_setOther (own_setOther (own_setOther h h0 _) h0 _) h0 _) h0 _
theorem OwnsD.w4k {w : World} {lo B : Nat} {x1 x2 x3 : Value} {A : Bool} {D : DM} (h : OwnsD w lo w.heap.size (.agg #[x1, x2, .bool A, x3]) D) (hk : ∃ c f, w.heap[B]? = some (.cells c 27 f)) (v0 v1 v2 v3 : Value) : OwnsD (W4 w B v0 v1 v2 v3) lo (W4 w B v0 v1 v2 v3).heap.size (.agg #[x1, x2, .bool A, x3]) D :=
  OwnsD.mk h.rows.1 (own_w4k h.rows.2.1 hk (by decide) _ _ _ _) (own_w4k h.rows.2.2.1 hk (by decide) _ _ _ _) (own_w4k h.rows.2.2.2 hk (by decide) _ _ _ _) (Nat.le_refl _)
theorem turned_w4 {lo hi B : Nat} {a w : World} (h : Turned lo hi a w) (hB : a.heap.size ≤ B) (v0 v1 v2 v3 : Value) : Turned lo hi a (W4 w B v0 v1 v2 v3) := by
  have e : ∀ (x : World) (o : Nat) (v : Value), Turned lo hi a x → Turned lo hi a (x.setCell ⟨B, o, none⟩ v) := fun x o v hx =>
    ⟨hx.os, hx.tape, hx.output, by rw [show (x.setCell ⟨B, o, none⟩ v).heap.size = x.heap.size by simp]; exact hx.size, fun k hk hr => (Below.heap_setCell _ _ _ _ (by show k ≠ B; omega)).trans (hx.block k hk hr)⟩
  exact e _ _ _ (e _ _ _ (e _ _ _ (e _ _ _ h)))
theorem DrawOK.turned {w w' : World} {P n cc K lo hi : Nat} {ca : Option Addr} {C : List Nat} (h : DrawOK w P ca n cc K C) (ht : Turned lo hi w w') (hP : P < lo ∨ hi ≤ P) (hc : 0 < n → ∀ a, ca = some a → a.block < lo ∨ hi ≤ a.block) : DrawOK w' P ca n cc K C := by
  obtain ⟨⟨a, s, h1, h2, h3⟩, h4, h5, h6, h7, h8⟩ := h
  exact ⟨⟨a, s, h1.turned ht hP, h2, h3⟩, h4, h5, h6, h7.turned ht (fun h0 => hc (by rw [cellsB_length] at h0; omega)), h8⟩
theorem turned_w4s (w : World) (B : Nat) (v0 v1 v2 v3 : Value) : Turned B (B + 1) w (W4 w B v0 v1 v2 v3) := by
  have e : ∀ (x : World) (o : Nat) (v : Value), Turned B (B + 1) w x → Turned B (B + 1) w (x.setCell ⟨B, o, none⟩ v) := fun x o v hx =>
    hx.trans (turned_set x ⟨B, o, none⟩ (Nat.le_refl _) (by show B < B + 1; omega) v)
  exact e _ _ _ (e _ _ _ (e _ _ _ (e _ _ _ ⟨rfl, rfl, rfl, Nat.le_refl _, fun _ _ _ => rfl⟩)))
set_option maxHeartbeats 4000000 in
theorem drawDisk (P n cc K : Nat) (ca : Option Addr) (C : List Nat) (w : World) (hK : K ≤ 990000000) (h : DrawOK w P ca n cc K C) :
    Calls Try.prog 18 #[.pointer (some ⟨P, 0, none⟩)] w fun e w' => ∃ v D, e = .returned v ∧ OwnsD w' w.heap.size w'.heap.size v D ∧ okD D ∧ D.C.length ≤ 7 ∧ Turned P (P + 1) w w' := by
  have H : Hid (DrawOK w P ca n cc K C) := h
  have PL : Hid (P < w.heap.size) := h.lt
  have CB : Hid (0 < n → ∀ a, ca = some a → a.block < w.heap.size) := fun h0 a e => by
    rcases h.2.2.2.2.1 with h7 | ⟨b, o, e2, hc⟩
    · have h2 := cellsB_length C
      rw [h7] at h2
      simp only [List.length_nil] at h2
      have := h.2.1
      omega
    · rw [e2] at e
      cases e
      have h1 := World.block_lt_of_cell? _ _ (hc 0 (by rw [cellsB_length, h.2.1]; omega))
      exact h1
  clear h
  go_enter Try.func18, Try.ntmps18
  go_wp2_with fail
  have A0 : Hid (Below w.heap.size w (w.alloc (.cells #[.slice none 0 0, .slice none 0 0, .bool false, .slice none 0 0] 27))) := (Below.refl _ _).alloc (Nat.le_refl _) _
  refine (drawNext P n cc K 9 ca C _ (by omega) (by omega) (by omega) (H.out.below A0.out)).mono ?_
  rintro e w1 ⟨x, rfl, hx, ht, hd⟩
  have T1 : Hid (Turned P (P + 1) w w1 ∧ DrawOK w1 P ca n cc (K + 3) C) := ⟨(Turned.of_below A0.out).trans ht, hd⟩
  have BX1 : Hid (Box w1 w.heap.size [.slice none 0 0, .slice none 0 0, .bool false, .slice none 0 0]) := (Box.new rfl).turned ht (.inr (by have := PL.out; omega))
  have Z1 : Hid (w.heap.size + 1 ≤ w1.heap.size) := by show w.heap.size + 1 ≤ w1.heap.size; have := ht.size; simpa using this
  have E1 : Hid ((1 : Int) + (x : Int) = ((1 + x : Nat) : Int)) := by show (1 : Int) + (x : Int) = ((1 + x : Nat) : Int); omega
  have x9 : (x : Int) < 9 := by omega
  have x0 : (0 : Int) ≤ (x : Int) := by omega
  clear ht hd
  go_wp2_with fail
  rw [E1.out]
  refine (l02New (1 + x) _ (by omega)).mono ?_
  rintro e w2 ⟨v2, rfl, ho2, hb2⟩
  obtain ⟨a1, c1, a2, c2, a3, c3, rfl⟩ := ho2.lit
  have T2 : Hid (Turned P (P + 1) w w2 ∧ DrawOK w2 P ca n cc (K + 3) C) := ⟨T1.out.1.trans (Turned.of_below hb2), T1.out.2.below hb2⟩
  have BX2 : Hid (Box w2 w.heap.size [.slice none 0 0, .slice none 0 0, .bool false, .slice none 0 0]) := BX1.out.below hb2
  have O2 : Hid (OwnsD w2 (w.heap.size + 1) w2.heap.size (.agg #[.slice a1 (newD (1 + x)).S.length c1, .slice a2 (newD (1 + x)).C.length c2, .bool (newD (1 + x)).A, .slice a3 (newD (1 + x)).K.length c3]) (newD (1 + x))) := ho2.mono Z1.out (Nat.le_refl _)
  have OK2 : Hid (okD (newD (1 + x)) ∧ (newD (1 + x)).C.length = 0) := ⟨ok_new (by omega) (by omega), rfl⟩
  generalize newD (1 + x) = D0 at O2 OK2 ⊢
  have Z21 : Hid (w1.heap.size ≤ w2.heap.size) := hb2.size
  clear ho2 hb2 E1 T1
  have Z2 : Hid (w.heap.size + 1 ≤ w2.heap.size) := Nat.le_trans Z1.out Z21.out
  go_wp2_with fail
  have A2 : Hid (Below w2.heap.size w2 (w2.alloc (.cells #[.slice a1 D0.S.length c1, .slice a2 D0.C.length c2, .bool D0.A, .slice a3 D0.K.length c3] 27))) := (Below.refl _ _).alloc (Nat.le_refl _) _
  refine (drawNext P n cc (K + 3) 8 ca C _ (by omega) (by omega) (by omega) (T2.out.2.below A2.out)).mono ?_
  rintro e w3 ⟨y, rfl, hy, ht, hd⟩
  have T3 : Hid (Turned P (P + 1) w w3 ∧ DrawOK w3 P ca n cc (K + 3 + 3) C) := ⟨(T2.out.1.trans (Turned.of_below A2.out)).trans ht, hd⟩
  have BX3 : Hid (Box w3 w.heap.size [.slice none 0 0, .slice none 0 0, .bool false, .slice none 0 0]) := (BX2.out.below A2.out).turned ht (.inr (by have := PL.out; omega))
  have BD3 : Hid (Box w3 w2.heap.size [.slice a1 D0.S.length c1, .slice a2 D0.C.length c2, .bool D0.A, .slice a3 D0.K.length c3]) := (Box.new rfl).turned ht (.inr (by have := PL.out; have := Z2.out; omega))
  have KB3 : Hid (∃ c f, w3.heap[w2.heap.size]? = some (.cells c 27 f)) := kind_turned ⟨_, _, heap_alloc_new _ _⟩ ht (.inr (by have := PL.out; have := Z2.out; omega))
  have O3 : Hid (OwnsD w3 (w.heap.size + 1) w3.heap.size (.agg #[.slice a1 D0.S.length c1, .slice a2 D0.C.length c2, .bool D0.A, .slice a3 D0.K.length c3]) D0) := OwnsD.drawn (OwnsD.later O2.out A2.out) ht (by have := PL.out; omega)
  have OK3 : Hid (okD D0 ∧ D0.C.length = 0) := OK2.out
  clear ht hd BX2 O2 OK2 T2 A2
  go_wp2_with fail
  go_loopw [4] (fun iv wr => ∃ (j : Nat) (a1 : Option Addr) (c1 : Nat) (a2 : Option Addr) (c2 : Nat) (a3 : Option Addr) (c3 : Nat) (D : DM), iv = .int .i64 (j : Int) ∧ j ≤ 7 ∧ Hid (j + D.C.length ≤ 7) ∧ Hid (Turned P (P + 1) w wr ∧ DrawOK wr P ca n cc (K + 6 + 45 * (7 - j)) C) ∧ Hid (Box wr w.heap.size [.slice none 0 0, .slice none 0 0, .bool false, .slice none 0 0]) ∧ Hid (Box wr w2.heap.size [.slice a1 D.S.length c1, .slice a2 D.C.length c2, .bool D.A, .slice a3 D.K.length c3]) ∧ Hid (∃ c f, wr.heap[w2.heap.size]? = some (.cells c 27 f)) ∧ Hid (OwnsD wr (w.heap.size + 1) wr.heap.size (.agg #[.slice a1 D.S.length c1, .slice a2 D.C.length c2, .bool D.A, .slice a3 D.K.length c3]) D) ∧ Hid (okD D)) (fun i _ => (intOf i).toNat)
  case atStart => exact ⟨y, a1, c1, a2, c2, a3, c3, D0, rfl, by omega, by show _ ≤ _; have := OK3.out.2; omega, ⟨T3.out.1, T3.out.2.more (by omega)⟩, BX3.out, BD3.out, KB3.out, O3.out, OK3.out.1⟩
  case round =>
    clear T3 BX3 BD3 KB3 O3 OK3
    obtain ⟨j, a1, c1, a2, c2, a3, c3, D, rfl, hj7, hjC, hT, hX, hD, hKB, hO, hok⟩ := hrel
    by_cases hj : 0 < j
    · have hj0 : (0 : Int) < (j : Int) := by omega
      go_wp2_with fail
      refine (drawNext P n cc (K + 6 + 45 * (7 - j)) 5 ca C _ (by omega) (by omega) (by omega) hT.out.2).mono ?_
      rintro e w5 ⟨z, rfl, hz, ht, hd⟩
      have T5 : Hid (Turned P (P + 1) w w5 ∧ DrawOK w5 P ca n cc (K + 6 + 45 * (7 - j) + 3) C) := ⟨hT.out.1.trans ht, hd⟩
      have X5 : Hid (Box w5 w.heap.size [.slice none 0 0, .slice none 0 0, .bool false, .slice none 0 0]) := hX.out.turned ht (.inr (by have := PL.out; omega))
      have D5 : Hid (Box w5 w2.heap.size [.slice a1 D.S.length c1, .slice a2 D.C.length c2, .bool D.A, .slice a3 D.K.length c3]) := hD.out.turned ht (.inr (by have := PL.out; have := Z2.out; omega))
      have K5 : Hid (∃ c f, w5.heap[w2.heap.size]? = some (.cells c 27 f)) := kind_turned hKB.out ht (.inr (by have := PL.out; have := Z2.out; omega))
      have O5 : Hid (OwnsD w5 (w.heap.size + 1) w5.heap.size (.agg #[.slice a1 D.S.length c1, .slice a2 D.C.length c2, .bool D.A, .slice a3 D.K.length c3]) D) := OwnsD.drawn hO.out ht (by have := PL.out; omega)
      have S5 : Hid (smallD D) := ok_small hok.out
      clear ht hd hT hX hD hKB hO
      obtain ⟨p0, _⟩ := D5.out 0 _ rfl
      obtain ⟨p1, _⟩ := D5.out 1 _ rfl
      obtain ⟨p2, _⟩ := D5.out 2 _ rfl
      obtain ⟨p3, _⟩ := D5.out 3 _ rfl
      by_cases z0 : z = 0
      · subst z0
        go_wp2_with fail
        refine (l02Sync _ D _ S5.out hok.out O5.out.reads).mono ?_
        rintro e w6 ⟨v6, R, b6, rfl, hr6, o6, hb6⟩
        obtain ⟨e1, f1, e2, f2, e3, f3, rfl⟩ := o6.lit
        have OK6 : Hid (okD R ∧ R.C.length = 0) := ⟨(ok_dsync hok.out hr6).1, (ok_dsync hok.out hr6).2.1⟩
        have T7 : Hid (Turned P (P + 1) w w6 ∧ DrawOK w6 P ca n cc (K + 6 + 45 * (7 - j) + 3) C) := ⟨T5.out.1.trans (Turned.of_below hb6), T5.out.2.below hb6⟩
        have X7 : Hid (Box w6 w.heap.size [.slice none 0 0, .slice none 0 0, .bool false, .slice none 0 0]) := X5.out.below hb6
        have D7 : Hid (Box w6 w2.heap.size [.slice a1 D.S.length c1, .slice a2 D.C.length c2, .bool D.A, .slice a3 D.K.length c3]) := D5.out.below hb6
        have K7 : Hid (∃ c f, w6.heap[w2.heap.size]? = some (.cells c 27 f)) := kind_below K5.out hb6
        have O7 : Hid (OwnsD w6 (w.heap.size + 1) w6.heap.size (.agg #[.slice e1 R.S.length f1, .slice e2 R.C.length f2, .bool R.A, .slice e3 R.K.length f3]) R) := o6.mono (Nat.le_trans (Nat.le_trans Z2.out (Nat.le_of_lt (kind_lt K5.out))) (Nat.le_refl _)) (Nat.le_refl _)
        clear o6 hb6 hr6 p0 p1 p2 p3 T5 X5 D5 K5 O5
        obtain ⟨⟨g0, h0⟩, ⟨g1, h1⟩, ⟨g2, h2⟩, ⟨g3, h3⟩, r0, r1, r2, r3⟩ := D7.out.w4in (.slice e1 R.S.length f1) (.slice e2 R.C.length f2) (.bool R.A) (.slice e3 R.K.length f3)
        go_wp2_with fail
        exact ⟨⟨j - 1, e1, f1, e2, f2, e3, f3, R, by go_num, by omega, by show _ ≤ _; have := OK6.out.2; omega, ⟨turned_w4 T7.out.1 (by have := Z2.out; omega) _ _ _ _, (DrawOK.turned T7.out.2 (turned_w4s _ _ _ _ _ _) (.inl (by have := PL.out; have := Z2.out; omega)) (fun h0 a e => .inl (by have := CB.out h0 a e; have := Z2.out; omega))).more (by omega)⟩, X7.out.turned (turned_w4s _ _ _ _ _ _) (.inl (by have := Z2.out; omega)), D7.out.w4 _ _ _ _, kind_w4 K7.out _ _ _ _ _, OwnsD.w4k O7.out K7.out _ _ _ _, OK6.out.1⟩, by simp [intOf]; omega⟩
      by_cases z1 : z = 1
      · subst z1
        go_wp2_with fail
        refine (drawChance P n cc (K + 6 + 45 * (7 - j) + 3) 4 ca C _ (by omega) (by omega) (by omega) T5.out.2).mono ?_
        rintro e w6 ⟨b6, rfl, ht, hd⟩
        have T6 : Hid (Turned P (P + 1) w w6 ∧ DrawOK w6 P ca n cc (K + 6 + 45 * (7 - j) + 3 + 3) C) := ⟨T5.out.1.trans ht, hd⟩
        have X6 : Hid (Box w6 w.heap.size [.slice none 0 0, .slice none 0 0, .bool false, .slice none 0 0]) := X5.out.turned ht (.inr (by have := PL.out; omega))
        have D6 : Hid (Box w6 w2.heap.size [.slice a1 D.S.length c1, .slice a2 D.C.length c2, .bool D.A, .slice a3 D.K.length c3]) := D5.out.turned ht (.inr (by have := PL.out; have := Z2.out; omega))
        have K6 : Hid (∃ c f, w6.heap[w2.heap.size]? = some (.cells c 27 f)) := kind_turned K5.out ht (.inr (by have := PL.out; have := Z2.out; omega))
        have O6 : Hid (OwnsD w6 (w.heap.size + 1) w6.heap.size (.agg #[.slice a1 D.S.length c1, .slice a2 D.C.length c2, .bool D.A, .slice a3 D.K.length c3]) D) := OwnsD.drawn O5.out ht (by have := PL.out; omega)
        clear ht hd p0 p1 p2 p3 T5 X5 D5 K5 O5
        cases b6 with
        | false =>
          go_wp2_with fail
          exact ⟨⟨j - 1, a1, c1, a2, c2, a3, c3, D, by go_num, by omega, by show _ ≤ _; have := hjC.out; omega, ⟨T6.out.1, T6.out.2.more (by omega)⟩, X6.out, D6.out, K6.out, O6.out, hok.out⟩, by simp [intOf]; omega⟩
        | true =>
          obtain ⟨p0, _⟩ := D6.out 0 _ rfl
          obtain ⟨p1, _⟩ := D6.out 1 _ rfl
          obtain ⟨p2, _⟩ := D6.out 2 _ rfl
          obtain ⟨p3, _⟩ := D6.out 3 _ rfl
          go_wp2_with fail
          go_region_with (first | (go_at_call 40; refine (l02Arm _ D ka l kc L _ S5.out HL7.out (by omega) KS7.out O7.out.reads).mono ?_; rintro e w8 ⟨v8, rfl, o8, hb8⟩; obtain ⟨R, hR⟩ : ∃ R, armD D L = R := ⟨_, rfl⟩; have OK8 : Hid (okD R ∧ R.C.length = D.C.length) := ⟨by rw [← hR]; exact ok_arm hok.out (by rw [HL7.out]; omega), by rw [← hR]; rfl⟩; rw [hR] at o8; obtain ⟨e1, f1, e2, f2, e3, f3, rfl⟩ := o8.lit; have T8 : Hid (Turned P (P + 1) w w8 ∧ DrawOK w8 P ca n cc (K + 6 + 45 * (7 - j) + 3 + 3 + 36) C) := ⟨T7.out.1.trans (Turned.of_below hb8), T7.out.2.below hb8⟩; have X8 : Hid (Box w8 w.heap.size [.slice none 0 0, .slice none 0 0, .bool false, .slice none 0 0]) := X7.out.below hb8; have D8 : Hid (Box w8 w2.heap.size [.slice a1 D.S.length c1, .slice a2 D.C.length c2, .bool D.A, .slice a3 D.K.length c3]) := D7.out.below hb8; have K8 : Hid (∃ c f, w8.heap[w2.heap.size]? = some (.cells c 27 f)) := kind_below K7.out hb8; have O8 : Hid (OwnsD w8 (w.heap.size + 1) w8.heap.size (.agg #[.slice e1 R.S.length f1, .slice e2 R.C.length f2, .bool R.A, .slice e3 R.K.length f3]) R) := o8.mono (Nat.le_trans Z2.out (Nat.le_of_lt (kind_lt K7.out))) (Nat.le_refl _); clear o8 hb8 hR p0 p1 p2 p3 T7 X7 D7 K7 O7 KS7; obtain ⟨⟨g0, h0⟩, ⟨g1, h1⟩, ⟨g2, h2⟩, ⟨g3, h3⟩, r0, r1, r2, r3⟩ := D8.out.w4in (.slice e1 R.S.length f1) (.slice e2 R.C.length f2) (.bool R.A) (.slice e3 R.K.length f3)) | (go_at_call 27; refine (drawKeeps P n cc (K + 6 + 45 * (7 - j) + 3 + 3) ca C w6.drew (by omega) (show DrawOK w6.drew P ca n cc (K + 6 + 45 * (7 - j) + 3 + 3) C from T6.out.2)).mono ?_; rintro e w7 ⟨v7, L, rfl, o7, hl7, ht7, hd7⟩; obtain ⟨l, hl⟩ : ∃ l, L.length = l := ⟨_, rfl⟩; rw [hl] at o7 hl7; obtain ⟨ka, kc, rfl, ks7, _⟩ := own_src o7; have HL7 : Hid (L.length = l) := hl; have KS7 : Hid (Src w7 ka (cellsI L)) := ks7; have T7 : Hid (Turned P (P + 1) w w7 ∧ DrawOK w7 P ca n cc (K + 6 + 45 * (7 - j) + 3 + 3 + 36) C) := ⟨Turned.trans (show Turned P (P + 1) w w6.drew from ⟨T6.out.1.os, T6.out.1.tape, T6.out.1.output, T6.out.1.size, T6.out.1.block⟩) ht7, hd7⟩; have X7 : Hid (Box w7 w.heap.size [.slice none 0 0, .slice none 0 0, .bool false, .slice none 0 0]) := Box.turned (w := w6.drew) X6.out ht7 (.inr (by have := PL.out; omega)); have D7 : Hid (Box w7 w2.heap.size [.slice a1 D.S.length c1, .slice a2 D.C.length c2, .bool D.A, .slice a3 D.K.length c3]) := Box.turned (w := w6.drew) D6.out ht7 (.inr (by have := PL.out; have := Z2.out; omega)); have K7 : Hid (∃ c f, w7.heap[w2.heap.size]? = some (.cells c 27 f)) := kind_turned (w := w6.drew) K6.out ht7 (.inr (by have := PL.out; have := Z2.out; omega)); have O7 : Hid (OwnsD w7 (w.heap.size + 1) w7.heap.size (.agg #[.slice a1 D.S.length c1, .slice a2 D.C.length c2, .bool D.A, .slice a3 D.K.length c3]) D) := OwnsD.drawn (w := w6.drew) O6.out ht7 (by have := PL.out; omega); clear ht7 hd7 o7 ks7 hl p0 p1 p2 p3 T6 X6 D6 K6 O6; obtain ⟨p0, _⟩ := D7.out 0 _ rfl; obtain ⟨p1, _⟩ := D7.out 1 _ rfl; obtain ⟨p2, _⟩ := D7.out 2 _ rfl; obtain ⟨p3, _⟩ := D7.out 3 _ rfl))
          all_goals
            go_wp2_with fail
            exact ⟨⟨j - 1, e1, f1, e2, f2, e3, f3, R, by go_num, by omega, by show _ ≤ _; have := OK8.out.2; have := hjC.out; omega, ⟨turned_w4 T8.out.1 (by have := Z2.out; omega) _ _ _ _, (DrawOK.turned T8.out.2 (turned_w4s _ _ _ _ _ _) (.inl (by have := PL.out; have := Z2.out; omega)) (fun h0 a e => .inl (by have := CB.out h0 a e; have := Z2.out; omega))).more (by omega)⟩, X8.out.turned (turned_w4s _ _ _ _ _ _) (.inl (by have := Z2.out; omega)), D8.out.w4 _ _ _ _, kind_w4 K8.out _ _ _ _ _, OwnsD.w4k O8.out K8.out _ _ _ _, OK8.out.1⟩, by simp [intOf]; omega⟩
      · have LS : Hid (1 ≤ D.S.length ∧ D.S.length ≤ 80) := ⟨hok.out.1.1, hok.out.1.2.1⟩
        have PL5 : Hid (P < w5.heap.size) := T5.out.2.lt
        have z0' : ((z : Int) == 0) = false := by simp; omega
        have z1' : ((z : Int) == 1) = false := by simp; omega
        obtain ⟨k0, _⟩ := (D5.out.old (.cells #[.string ⟨#[]⟩, .string ⟨#[111, 110, 101]⟩, .string ⟨#[116, 119, 111]⟩] 9)) 0 _ rfl
        obtain ⟨k1, _⟩ := (D5.out.old (.cells #[.string ⟨#[]⟩, .string ⟨#[111, 110, 101]⟩, .string ⟨#[116, 119, 111]⟩] 9)) 1 _ rfl
        obtain ⟨k2, _⟩ := (D5.out.old (.cells #[.string ⟨#[]⟩, .string ⟨#[111, 110, 101]⟩, .string ⟨#[116, 119, 111]⟩] 9)) 2 _ rfl
        obtain ⟨k3, _⟩ := (D5.out.old (.cells #[.string ⟨#[]⟩, .string ⟨#[111, 110, 101]⟩, .string ⟨#[116, 119, 111]⟩] 9)) 3 _ rfl
        go_wp2_with fail
        go_region_with (first | (go_at_call 24; refine (l02WriteO _ D (s : Int) t (w.heap.size + 1) w8.heap.size w8 S5.out (Nat.le_trans Z2.out (Nat.le_of_lt (kind_lt K8.out))) O8.out).mono ?_; rintro e w9 ⟨v9, rfl, o9, hb9⟩; obtain ⟨R, hR⟩ : ∃ R, moreC D ((s : Int), t) = R := ⟨_, rfl⟩; have OK9 : Hid (okD R ∧ R.C.length = D.C.length + 1) := ⟨by rw [← hR]; exact ok_more hok.out ⟨by show (0 : Int) ≤ (s : Int); omega, by show (s : Int) < (D.S.length : Int); have := HS7.out; omega, HT8.out⟩ (by have := hjC.out; omega), by rw [← hR]; simp [moreC]⟩; rw [hR] at o9; obtain ⟨e1, f1, e2, f2, e3, f3, rfl⟩ := o9.lit; have T9 : Hid (Turned P (P + 1) w w9 ∧ DrawOK w9 P ca n cc (K + 6 + 45 * (7 - j) + 3 + 3 + 3) C) := ⟨T8.out.1.trans (Turned.of_below hb9), T8.out.2.below hb9⟩; have X9 : Hid (Box w9 w.heap.size [.slice none 0 0, .slice none 0 0, .bool false, .slice none 0 0]) := X8.out.below hb9; have D9 : Hid (Box w9 w2.heap.size [.slice a1 D.S.length c1, .slice a2 D.C.length c2, .bool D.A, .slice a3 D.K.length c3]) := D8.out.below hb9; have K9 : Hid (∃ c f, w9.heap[w2.heap.size]? = some (.cells c 27 f)) := kind_below K8.out hb9; have O9 : Hid (OwnsD w9 (w.heap.size + 1) w9.heap.size (.agg #[.slice e1 R.S.length f1, .slice e2 R.C.length f2, .bool R.A, .slice e3 R.K.length f3]) R) := o9; clear o9 hb9 hR p0 p1 p2 p3; obtain ⟨⟨g0, h0⟩, ⟨g1, h1⟩, ⟨g2, h2⟩, ⟨g3, h3⟩, r0, r1, r2, r3⟩ := D9.out.w4in (.slice e1 R.S.length f1) (.slice e2 R.C.length f2) (.bool R.A) (.slice e3 R.K.length f3)) | (go_at_call 41; (first | (refine (drawPick P n cc (K + 6 + 45 * (7 - j) + 3 + 3) ca C w5.heap.size 0 3 3 drawnT w7 rfl (by omega) (by omega) (by omega) SP7.out SB7.out T7.out.2).mono ?_; rintro e w8 ⟨t, rfl, ht9, ht8, hd8⟩; have TT := T7.out.1.trans ht8; have XX := X7.out; have DD := D7.out; have KK := K7.out; have OO := O7.out; have T8 : Hid (Turned P (P + 1) w w8 ∧ DrawOK w8 P ca n cc (K + 6 + 45 * (7 - j) + 3 + 3 + 3) C) := ⟨TT, hd8⟩; have X8 : Hid (Box w8 w.heap.size [.slice none 0 0, .slice none 0 0, .bool false, .slice none 0 0]) := Box.turned (w := w7) XX ht8 (.inr (by have := PL.out; omega)); have D8 : Hid (Box w8 w2.heap.size [.slice a1 D.S.length c1, .slice a2 D.C.length c2, .bool D.A, .slice a3 D.K.length c3]) := Box.turned (w := w7) DD ht8 (.inr (by have := PL.out; have := Z2.out; omega)); have K8 : Hid (∃ c f, w8.heap[w2.heap.size]? = some (.cells c 27 f)) := kind_turned (w := w7) KK ht8 (.inr (by have := PL.out; have := Z2.out; omega)); have O8 : Hid (OwnsD w8 (w.heap.size + 1) w8.heap.size (.agg #[.slice a1 D.S.length c1, .slice a2 D.C.length c2, .bool D.A, .slice a3 D.K.length c3]) D) := OwnsD.drawn (w := w7) OO ht8 (by have := PL.out; omega)) | (have B7 : Below w7.heap.size w7 (w7.alloc (.cells #[.string ⟨#[]⟩, .string ⟨#[111, 110, 101]⟩, .string ⟨#[116, 119, 111]⟩] 9)) := (Below.refl _ _).alloc (Nat.le_refl _) _; refine (drawPick P n cc (K + 6 + 45 * (7 - j) + 3 + 3) ca C w7.heap.size 0 3 3 drawnT (w7.alloc (.cells #[.string ⟨#[]⟩, .string ⟨#[111, 110, 101]⟩, .string ⟨#[116, 119, 111]⟩] 9)) rfl (by omega) (by omega) (by omega) (by have := T7.out.2.lt; omega) (src_list rfl _ rfl) (T7.out.2.below B7)).mono ?_; rintro e w8 ⟨t, rfl, ht9, ht8, hd8⟩; have TT := (T7.out.1.trans (Turned.of_below B7)).trans ht8; have XX := X7.out.below B7; have DD := D7.out.below B7; have KK := kind_below K7.out B7; have OO := OwnsD.later O7.out B7; have T8 : Hid (Turned P (P + 1) w w8 ∧ DrawOK w8 P ca n cc (K + 6 + 45 * (7 - j) + 3 + 3 + 3) C) := ⟨TT, hd8⟩; have X8 : Hid (Box w8 w.heap.size [.slice none 0 0, .slice none 0 0, .bool false, .slice none 0 0]) := Box.turned (w := (w7.alloc (.cells #[.string ⟨#[]⟩, .string ⟨#[111, 110, 101]⟩, .string ⟨#[116, 119, 111]⟩] 9))) XX ht8 (.inr (by have := PL.out; omega)); have D8 : Hid (Box w8 w2.heap.size [.slice a1 D.S.length c1, .slice a2 D.C.length c2, .bool D.A, .slice a3 D.K.length c3]) := Box.turned (w := (w7.alloc (.cells #[.string ⟨#[]⟩, .string ⟨#[111, 110, 101]⟩, .string ⟨#[116, 119, 111]⟩] 9))) DD ht8 (.inr (by have := PL.out; have := Z2.out; omega)); have K8 : Hid (∃ c f, w8.heap[w2.heap.size]? = some (.cells c 27 f)) := kind_turned (w := (w7.alloc (.cells #[.string ⟨#[]⟩, .string ⟨#[111, 110, 101]⟩, .string ⟨#[116, 119, 111]⟩] 9))) KK ht8 (.inr (by have := PL.out; have := Z2.out; omega)); have O8 : Hid (OwnsD w8 (w.heap.size + 1) w8.heap.size (.agg #[.slice a1 D.S.length c1, .slice a2 D.C.length c2, .bool D.A, .slice a3 D.K.length c3]) D) := OwnsD.drawn (w := (w7.alloc (.cells #[.string ⟨#[]⟩, .string ⟨#[111, 110, 101]⟩, .string ⟨#[116, 119, 111]⟩] 9))) OO ht8 (by have := PL.out; omega))); have HT8 : Hid (t.size ≤ 420) := drawnT_small t ht9; clear TT XX DD KK OO ht8 hd8 ht9 p0 p1 p2 p3; obtain ⟨p0, _⟩ := D8.out 0 _ rfl; obtain ⟨p1, _⟩ := D8.out 1 _ rfl; obtain ⟨p2, _⟩ := D8.out 2 _ rfl; obtain ⟨p3, _⟩ := D8.out 3 _ rfl) | (go_at_call 37; (first | (refine (drawNext P n cc (K + 6 + 45 * (7 - j) + 3) D.S.length ca C w5.drew (by have := LS.out; omega) (by have := LS.out; omega) (by omega) (show DrawOK w5.drew P ca n cc (K + 6 + 45 * (7 - j) + 3) C from T5.out.2)).mono ?_; rintro e w7 ⟨s, rfl, hs, ht7, hd7⟩; have TT := Turned.trans (show Turned P (P + 1) w w5.drew from ⟨T5.out.1.os, T5.out.1.tape, T5.out.1.output, T5.out.1.size, T5.out.1.block⟩) ht7; have XX : Box w5.drew w.heap.size [.slice none 0 0, .slice none 0 0, .bool false, .slice none 0 0] := X5.out; have DD : Box w5.drew w2.heap.size [.slice a1 D.S.length c1, .slice a2 D.C.length c2, .bool D.A, .slice a3 D.K.length c3] := D5.out; have KK : ∃ c f, w5.drew.heap[w2.heap.size]? = some (.cells c 27 f) := K5.out; have OO : OwnsD w5.drew (w.heap.size + 1) w5.drew.heap.size (.agg #[.slice a1 D.S.length c1, .slice a2 D.C.length c2, .bool D.A, .slice a3 D.K.length c3]) D := O5.out; have T7 : Hid (Turned P (P + 1) w w7 ∧ DrawOK w7 P ca n cc (K + 6 + 45 * (7 - j) + 3 + 3) C) := ⟨TT, hd7⟩; have X7 : Hid (Box w7 w.heap.size [.slice none 0 0, .slice none 0 0, .bool false, .slice none 0 0]) := Box.turned (w := w5.drew) XX ht7 (.inr (by have := PL.out; omega)); have D7 : Hid (Box w7 w2.heap.size [.slice a1 D.S.length c1, .slice a2 D.C.length c2, .bool D.A, .slice a3 D.K.length c3]) := Box.turned (w := w5.drew) DD ht7 (.inr (by have := PL.out; have := Z2.out; omega)); have K7 : Hid (∃ c f, w7.heap[w2.heap.size]? = some (.cells c 27 f)) := kind_turned (w := w5.drew) KK ht7 (.inr (by have := PL.out; have := Z2.out; omega)); have O7 : Hid (OwnsD w7 (w.heap.size + 1) w7.heap.size (.agg #[.slice a1 D.S.length c1, .slice a2 D.C.length c2, .bool D.A, .slice a3 D.K.length c3]) D) := OwnsD.drawn (w := w5.drew) OO ht7 (by have := PL.out; omega)) | (have B5 : Below w5.drew.heap.size w5.drew (w5.drew.alloc (.cells #[.string ⟨#[]⟩, .string ⟨#[111, 110, 101]⟩, .string ⟨#[116, 119, 111]⟩] 9)) := (Below.refl _ _).alloc (Nat.le_refl _) _; refine (drawNext P n cc (K + 6 + 45 * (7 - j) + 3) D.S.length ca C (w5.drew.alloc (.cells #[.string ⟨#[]⟩, .string ⟨#[111, 110, 101]⟩, .string ⟨#[116, 119, 111]⟩] 9)) (by have := LS.out; omega) (by have := LS.out; omega) (by omega) (DrawOK.below (w := w5.drew) T5.out.2 B5)).mono ?_; rintro e w7 ⟨s, rfl, hs, ht7, hd7⟩; have TT := Turned.trans (Turned.trans (show Turned P (P + 1) w w5.drew from ⟨T5.out.1.os, T5.out.1.tape, T5.out.1.output, T5.out.1.size, T5.out.1.block⟩) (Turned.of_below B5)) ht7; have XX : Box (w5.drew.alloc (.cells #[.string ⟨#[]⟩, .string ⟨#[111, 110, 101]⟩, .string ⟨#[116, 119, 111]⟩] 9)) w.heap.size [.slice none 0 0, .slice none 0 0, .bool false, .slice none 0 0] := Box.below (w := w5.drew) X5.out B5; have DD : Box (w5.drew.alloc (.cells #[.string ⟨#[]⟩, .string ⟨#[111, 110, 101]⟩, .string ⟨#[116, 119, 111]⟩] 9)) w2.heap.size [.slice a1 D.S.length c1, .slice a2 D.C.length c2, .bool D.A, .slice a3 D.K.length c3] := Box.below (w := w5.drew) D5.out B5; have KK : ∃ c f, (w5.drew.alloc (.cells #[.string ⟨#[]⟩, .string ⟨#[111, 110, 101]⟩, .string ⟨#[116, 119, 111]⟩] 9)).heap[w2.heap.size]? = some (.cells c 27 f) := kind_below (w := w5.drew) K5.out B5; have OO : OwnsD (w5.drew.alloc (.cells #[.string ⟨#[]⟩, .string ⟨#[111, 110, 101]⟩, .string ⟨#[116, 119, 111]⟩] 9)) (w.heap.size + 1) (w5.drew.alloc (.cells #[.string ⟨#[]⟩, .string ⟨#[111, 110, 101]⟩, .string ⟨#[116, 119, 111]⟩] 9)).heap.size (.agg #[.slice a1 D.S.length c1, .slice a2 D.C.length c2, .bool D.A, .slice a3 D.K.length c3]) D := OwnsD.later (w := w5.drew) O5.out B5; have T7 : Hid (Turned P (P + 1) w w7 ∧ DrawOK w7 P ca n cc (K + 6 + 45 * (7 - j) + 3 + 3) C) := ⟨TT, hd7⟩; have X7 : Hid (Box w7 w.heap.size [.slice none 0 0, .slice none 0 0, .bool false, .slice none 0 0]) := Box.turned (w := (w5.drew.alloc (.cells #[.string ⟨#[]⟩, .string ⟨#[111, 110, 101]⟩, .string ⟨#[116, 119, 111]⟩] 9))) XX ht7 (.inr (by have := PL.out; omega)); have D7 : Hid (Box w7 w2.heap.size [.slice a1 D.S.length c1, .slice a2 D.C.length c2, .bool D.A, .slice a3 D.K.length c3]) := Box.turned (w := (w5.drew.alloc (.cells #[.string ⟨#[]⟩, .string ⟨#[111, 110, 101]⟩, .string ⟨#[116, 119, 111]⟩] 9))) DD ht7 (.inr (by have := PL.out; have := Z2.out; omega)); have K7 : Hid (∃ c f, w7.heap[w2.heap.size]? = some (.cells c 27 f)) := kind_turned (w := (w5.drew.alloc (.cells #[.string ⟨#[]⟩, .string ⟨#[111, 110, 101]⟩, .string ⟨#[116, 119, 111]⟩] 9))) KK ht7 (.inr (by have := PL.out; have := Z2.out; omega)); have O7 : Hid (OwnsD w7 (w.heap.size + 1) w7.heap.size (.agg #[.slice a1 D.S.length c1, .slice a2 D.C.length c2, .bool D.A, .slice a3 D.K.length c3]) D) := OwnsD.drawn (w := (w5.drew.alloc (.cells #[.string ⟨#[]⟩, .string ⟨#[111, 110, 101]⟩, .string ⟨#[116, 119, 111]⟩] 9))) OO ht7 (by have := PL.out; omega); have SB7 : Hid (Src w7 (some ⟨w5.heap.size, 0, none⟩) (cellsS drawnT)) := Src.turned (w := (w5.drew.alloc (.cells #[.string ⟨#[]⟩, .string ⟨#[111, 110, 101]⟩, .string ⟨#[116, 119, 111]⟩] 9))) (src_list rfl _ rfl) ht7 (fun _ ad e => by cases e; have := PL5.out; exact .inr (by show P + 1 ≤ w5.heap.size; omega)); have SP7 : Hid (w5.heap.size ≠ P) := by show w5.heap.size ≠ P; have := PL5.out; omega)); have HS7 : Hid (s < D.S.length) := hs; clear TT XX DD KK OO ht7 hd7 hs p0 p1 p2 p3; obtain ⟨p0, _⟩ := D7.out 0 _ rfl; obtain ⟨p1, _⟩ := D7.out 1 _ rfl; obtain ⟨p2, _⟩ := D7.out 2 _ rfl; obtain ⟨p3, _⟩ := D7.out 3 _ rfl; obtain ⟨m0, _⟩ := (D7.out.old (.cells #[.string ⟨#[]⟩, .string ⟨#[111, 110, 101]⟩, .string ⟨#[116, 119, 111]⟩] 9)) 0 _ rfl; obtain ⟨m1, _⟩ := (D7.out.old (.cells #[.string ⟨#[]⟩, .string ⟨#[111, 110, 101]⟩, .string ⟨#[116, 119, 111]⟩] 9)) 1 _ rfl; obtain ⟨m2, _⟩ := (D7.out.old (.cells #[.string ⟨#[]⟩, .string ⟨#[111, 110, 101]⟩, .string ⟨#[116, 119, 111]⟩] 9)) 2 _ rfl; obtain ⟨m3, _⟩ := (D7.out.old (.cells #[.string ⟨#[]⟩, .string ⟨#[111, 110, 101]⟩, .string ⟨#[116, 119, 111]⟩] 9)) 3 _ rfl))
        all_goals
          go_wp2_with fail
          exact ⟨⟨j - 1, e1, f1, e2, f2, e3, f3, R, by go_num, by omega, by show _ ≤ _; have := OK9.out.2; have := hjC.out; omega, ⟨turned_w4 T9.out.1 (by have := Z2.out; omega) _ _ _ _, (DrawOK.turned T9.out.2 (turned_w4s _ _ _ _ _ _) (.inl (by have := PL.out; have := Z2.out; omega)) (fun h0 a e => .inl (by have := CB.out h0 a e; have := Z2.out; omega))).more (by omega)⟩, X9.out.turned (turned_w4s _ _ _ _ _ _) (.inl (by have := Z2.out; omega)), D9.out.w4 _ _ _ _, kind_w4 K9.out _ _ _ _ _, OwnsD.w4k O9.out K9.out _ _ _ _, OK9.out.1⟩, by simp [intOf]; omega⟩
    · have hjz : j = 0 := by omega
      subst hjz
      obtain ⟨p0, _⟩ := hD.out 0 _ rfl
      obtain ⟨p1, _⟩ := hD.out 1 _ rfl
      obtain ⟨p2, _⟩ := hD.out 2 _ rfl
      obtain ⟨p3, _⟩ := hD.out 3 _ rfl
      go_wp2_with fail
      refine (l02Own _ D _ (ok_small hok.out) hO.out.reads).mono ?_
      rintro e w6 ⟨v6, rfl, o6, hb6⟩
      obtain ⟨e1, f1, e2, f2, e3, f3, rfl⟩ := o6.lit
      have T6 : Hid (Turned P (P + 1) w w6) := hT.out.1.trans (Turned.of_below hb6)
      have X6 : Hid (Box w6 w.heap.size [.slice none 0 0, .slice none 0 0, .bool false, .slice none 0 0]) := hX.out.below hb6
      have O6 : Hid (OwnsD w6 (w.heap.size + 1) w6.heap.size (.agg #[.slice e1 D.S.length f1, .slice e2 D.C.length f2, .bool D.A, .slice e3 D.K.length f3]) D) := o6.mono (Nat.le_trans Z2.out (Nat.le_of_lt (kind_lt hKB.out))) (Nat.le_refl _)
      have F6 : Hid (okD D ∧ D.C.length ≤ 7) := ⟨hok.out, by have := hjC.out; omega⟩
      clear o6 hb6 p0 p1 p2 p3
      obtain ⟨⟨g0, h0⟩, ⟨g1, h1⟩, ⟨g2, h2⟩, ⟨g3, h3⟩, r0, r1, r2, r3⟩ := X6.out.w4in (.slice e1 D.S.length f1) (.slice e2 D.C.length f2) (.bool D.A) (.slice e3 D.K.length f3)
      go_wp2_with fail
      exact bodyPost_ret (v := .agg #[.slice e1 D.S.length f1, .slice e2 D.C.length f2, .bool D.A, .slice e3 D.K.length f3]) (by simp [results, Try.results18, go_sem, r0, r1, r2, r3]) rfl ⟨_, D, rfl, (O6.out.w4 (by omega) _ _ _ _).mono (by omega) (by rw [size_w4]; exact Nat.le_refl _), F6.out.1, F6.out.2, turned_w4 T6.out (Nat.le_refl _) _ _ _ _⟩
end Go.Proofs.Ytpbodiaglgkkkaa
