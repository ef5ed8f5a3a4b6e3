/-
  The walk of the law FnExactParseMessage.
  By an AI agent.
-/
import Derived.Test.YtgbhjhbmolgbeaaDoorPar6
namespace Go.Proofs.YtgbhjhbmolgbeaaDoor.fnExactParseMessage
open Go.ChangeShapes Go.WideShapes Go.ChangeAt Go.WideMaps Go.WideElems Go.RowKit Go.Deep
open Go.ChangeMaps (open_string shut_string)
set_option linter.unusedVariables false

set_option maxHeartbeats 4000000 in
theorem walk (s : ByteArray) (w : World) (hs : s.size ≤ maxLen) (hm : MaxAt w) :
    Calls Tryd.prog 5 #[.string s] w fun e w' => e = .returned (.bool true) ∧ Below w.heap.size w w' := by
  unfold maxLen at hs
  by_cases hbig : 1048576 < s.size
  · go_enter Tryd.func5, Tryd.ntmps5
    go_wp2_with fail
    go_ret
    exact ⟨rfl, Below.refl _ _⟩
  have hl : s.data.toList.length ≤ 1048576 := by simp; omega
  obtain ⟨D, C, hA⟩ : ∃ D C, msgA s.data.toList = (D, C) := ⟨_, _, rfl⟩
  have HS : ∀ w, Calls Tryd.prog 20 #[.string s] w fun e w' => ∃ v, e = .returned (.tuple #[v, .int .i64 C]) ∧ OwnsG w' w.heap.size w'.heap.size v D ∧ D.F.length ≤ 100000 ∧ Below w.heap.size w w' := fun w => by
    have h9 := specParseMessage s.data.toList w hl
    rwa [bsOf_data, hA] at h9
  have HI : ∀ w, MaxAt w → Calls Tryd.prog 12 #[.string s] w fun e w' => ∃ v, e = .returned (.tuple #[v, .int .i64 C]) ∧ OwnsG w' w.heap.size w'.heap.size v D ∧ D.F.length ≤ 100000 ∧ Below w.heap.size w w' := fun w hm => by
    have h9 := implParseMessage s.data.toList w hl hm
    rwa [bsOf_data, hA] at h9
  have HM : Hid (MaxAt w) := hm
  clear hA hl hm
  obtain ⟨n, hn⟩ : ∃ n, D.F.length = n := ⟨_, rfl⟩
  obtain ⟨Y, hY⟩ : ∃ Y, D.Y = Y := ⟨_, rfl⟩
  have HN : Hid (D.F.length = n ∧ D.Y = Y) := ⟨hn, hY⟩
  clear hn hY
  have hcc : (C != C) = false := by simp
  go_enter Tryd.func5, Tryd.ntmps5
  go_wp2_with fail
  refine (HS _).mono ?_
  rintro e w1 ⟨v1, rfl, ow1, hf1, hb1⟩
  obtain ⟨b1, d1, rfl⟩ := ow1.lit
  rw [HN.out.1] at hf1
  have hn1 : n ≤ 1048576 := by omega
  have OW1 : Hid (OwnsG w1 w.heap.size w1.heap.size (.agg #[.slice b1 D.F.length d1, .string D.Y]) D) := ow1
  rw [HN.out.1, HN.out.2] at OW1 ⊢
  have B1 : Hid (Below w.heap.size w w1) := hb1
  clear ow1 hb1 hf1
  go_wp2_with fail
  refine (HI _ (HM.out.below (B1.out.alloc B1.out.size _))).mono ?_
  rintro e w3 ⟨v3, rfl, ow3, _, hb3⟩
  obtain ⟨b3, d3, rfl⟩ := ow3.lit
  have OG3 : Hid (OwnsG w3 (w1.heap.size + 1) w3.heap.size (.agg #[.slice b3 D.F.length d3, .string D.Y]) D) := ow3.mono (by simp) (Nat.le_refl _)
  rw [HN.out.1, HN.out.2] at OG3 ⊢
  have B3 : Hid (Below w.heap.size w w3) := B1.out.trans ((Below.new hb3).mono B1.out.size)
  have X3 : Hid (Box w3 w1.heap.size [.slice b1 n d1, .string Y]) := Box.below (Box.new rfl) hb3
  have OW3 : Hid (OwnsG w3 w.heap.size w1.heap.size (.agg #[.slice b1 n d1, .string Y]) D) := OW1.out.below (Below.new hb3)
  have Z3 : Hid (w1.heap.size + 1 ≤ w3.heap.size) := size_new hb3
  have Z1 : Hid (w.heap.size ≤ w1.heap.size) := B1.out.size
  clear ow3 hb3 OW1 B1
  obtain ⟨x0, _⟩ := (X3.out.old (.cells #[.slice b3 n d3, .string Y] 25)) 0 _ rfl
  obtain ⟨x1, _⟩ := (X3.out.old (.cells #[.slice b3 n d3, .string Y] 25)) 1 _ rfl
  go_wp2_with fail
  clear x0 x1
  refine (eqMessage _ _ D _ (by rw [HN.out.1]; omega) (OG3.out.reads.below ((Below.refl _ _).alloc (Nat.le_refl _) _)) (OW3.out.reads.below ((Below.refl _ _).alloc (Nat.le_refl _) _))).mono ?_
  rintro e w5 ⟨rfl, hb5⟩
  have B5 : Hid (Below w.heap.size w w5) := B3.out.trans ((Below.new hb5).mono B3.out.size)
  have X5 : Hid (Box w5 w1.heap.size [.slice b1 n d1, .string Y]) := X3.out.below (Below.new hb5)
  have Y5 : Hid (Box w5 w3.heap.size [.slice b3 n d3, .string Y]) := Box.below (Box.new rfl) hb5
  have OW5 : Hid (OwnsG w5 w.heap.size w1.heap.size (.agg #[.slice b1 n d1, .string Y]) D) := OW3.out.below (Below.new hb5)
  have OG5 : Hid (OwnsG w5 (w1.heap.size + 1) w3.heap.size (.agg #[.slice b3 n d3, .string Y]) D) := OG3.out.below (Below.new hb5)
  have Z5 : Hid (w3.heap.size ≤ w5.heap.size) := by have := size_new hb5; show _ ≤ _; omega
  clear hb5 B3 X3 OW3 OG3
  obtain ⟨y0, _⟩ := Y5.out 0 _ rfl
  obtain ⟨y1, _⟩ := Y5.out 1 _ rfl
  go_wp2_with fail
  refine (markMessage _ D 1 (w1.heap.size + 1) w3.heap.size _ (by rw [HN.out.1]; omega) (by omega) (by omega) Z5.out OG5.out).mono ?_
  rintro e w6 ⟨rfl, T6, o6⟩
  rw [HN.out.1]
  obtain ⟨E, hE⟩ : ∃ E : Nat, 1 + n * 2 = E := ⟨_, rfl⟩
  rw [hE]
  have HE : Hid (1 + D.F.length * 2 = E) := by show _ = _; rw [HN.out.1]; exact hE
  have B6 : Hid (Below w.heap.size w w6) := Below.turned B5.out T6 (Nat.le_refl _) (by have := Z1.out; omega)
  have X6 : Hid (Box w6 w1.heap.size [.slice b1 n d1, .string Y]) := X5.out.turned T6 (.inl (by omega))
  have Y6 : Hid (Box w6 w3.heap.size [.slice b3 n d3, .string Y]) := Y5.out.turned T6 (.inr (Nat.le_refl _))
  have OW6 : Hid (OwnsG w6 w.heap.size w1.heap.size (.agg #[.slice b1 n d1, .string Y]) D) := OW5.out.turned T6 (.inl (by omega))
  have OG6 : Hid (OwnsG w6 (w1.heap.size + 1) w3.heap.size (.agg #[.slice b3 n d3, .string Y]) (mkG D 1)) := o6
  clear T6 o6 B5 X5 Y5 OW5 OG5 y0 y1 hE
  have hk1 : decide (((E : Nat) : Int) < 0) = false := by simp
  have hk2 : (((E : Nat) : Int) != ((E : Nat) : Int)) = false := by simp
  obtain ⟨y0, _⟩ := Y6.out 0 _ rfl
  obtain ⟨y1, _⟩ := Y6.out 1 _ rfl
  go_wp2_with fail
  refine (heldMessage _ D 1 _ (by rw [HN.out.1]; omega) (by omega) (by omega) OG6.out.reads).mono ?_
  rintro e w7 ⟨rfl, hb7⟩
  rw [HE.out]
  have B7 : Hid (Below w.heap.size w w7) := B6.out.trans (hb7.mono B6.out.size)
  have X7 : Hid (Box w7 w1.heap.size [.slice b1 n d1, .string Y]) := X6.out.below hb7
  have Y7 : Hid (Box w7 w3.heap.size [.slice b3 n d3, .string Y]) := Y6.out.below hb7
  have OW7 : Hid (OwnsG w7 w.heap.size w1.heap.size (.agg #[.slice b1 n d1, .string Y]) D) := OW6.out.below hb7
  have OG7 : Hid (OwnsG w7 (w1.heap.size + 1) w3.heap.size (.agg #[.slice b3 n d3, .string Y]) (mkG D 1)) := OG6.out.below hb7
  clear hb7 B6 X6 Y6 OW6 OG6 y0 y1
  go_wp2_with fail
  refine (HI _ (HM.out.below B7.out)).mono ?_
  rintro e w8 ⟨v8, rfl, ow8, _, hb8⟩
  obtain ⟨b8, d8, rfl⟩ := ow8.lit
  have R8 : Hid (ReadsG w8 (.agg #[.slice b8 D.F.length d8, .string D.Y]) D) := ow8.reads
  rw [HN.out.1, HN.out.2] at R8 ⊢
  have B8 : Hid (Below w.heap.size w w8) := B7.out.trans (hb8.mono B7.out.size)
  have X8 : Hid (Box w8 w1.heap.size [.slice b1 n d1, .string Y]) := X7.out.below hb8
  have Y8 : Hid (Box w8 w3.heap.size [.slice b3 n d3, .string Y]) := Y7.out.below hb8
  have OW8 : Hid (OwnsG w8 w.heap.size w1.heap.size (.agg #[.slice b1 n d1, .string Y]) D) := OW7.out.below hb8
  have OG8 : Hid (OwnsG w8 (w1.heap.size + 1) w3.heap.size (.agg #[.slice b3 n d3, .string Y]) (mkG D 1)) := OG7.out.below hb8
  clear hb8 ow8 B7 X7 Y7 OW7 OG7
  obtain ⟨x0, _⟩ := (X8.out.old (.cells #[.slice b8 n d8, .string Y] 25)) 0 _ rfl
  obtain ⟨x1, _⟩ := (X8.out.old (.cells #[.slice b8 n d8, .string Y] 25)) 1 _ rfl
  go_wp2_with fail
  clear x0 x1
  refine (eqMessage _ _ D _ (by rw [HN.out.1]; omega) (R8.out.below ((Below.refl _ _).alloc (Nat.le_refl _) _)) (OW8.out.reads.below ((Below.refl _ _).alloc (Nat.le_refl _) _))).mono ?_
  rintro e w9 ⟨rfl, hb9⟩
  have B9 : Hid (Below w.heap.size w w9) := B8.out.trans ((Below.new hb9).mono B8.out.size)
  have Y9 : Hid (Box w9 w3.heap.size [.slice b3 n d3, .string Y]) := Y8.out.below (Below.new hb9)
  have OG9 : Hid (OwnsG w9 (w1.heap.size + 1) w3.heap.size (.agg #[.slice b3 n d3, .string Y]) (mkG D 1)) := OG8.out.below (Below.new hb9)
  clear hb9 B8 X8 Y8 OW8 OG8 R8
  obtain ⟨y0, _⟩ := Y9.out 0 _ rfl
  obtain ⟨y1, _⟩ := Y9.out 1 _ rfl
  go_wp2_with fail
  refine (heldMessage _ D 1 _ (by rw [HN.out.1]; omega) (by omega) (by omega) OG9.out.reads).mono ?_
  rintro e w10 ⟨rfl, hb10⟩
  rw [HE.out]
  have B10 : Hid (Below w.heap.size w w10) := B9.out.trans (hb10.mono B9.out.size)
  clear hb10 y0 y1
  go_wp2_with fail
  go_ret
  exact ⟨rfl, B10.out⟩

end Go.Proofs.YtgbhjhbmolgbeaaDoor.fnExactParseMessage
