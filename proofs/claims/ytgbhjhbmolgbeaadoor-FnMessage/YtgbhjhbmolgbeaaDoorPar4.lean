
/-
  Reading a message, by the program: ParseMessage, MessageOK. By an AI agent.
-/
import Derived.Test.YtgbhjhbmolgbeaaDoorPar3
namespace Go.Proofs.YtgbhjhbmolgbeaaDoor
open Go.ChangeShapes Go.WideShapes Go.ChangeAt Go.RowKit Go.Deep
set_option linter.unusedVariables false
set_option maxRecDepth 100000

abbrev G0 : GM := ⟨[], ⟨#[]⟩⟩
def msgL (l : List UInt8) : GM × Int := match parse l with
  | some D => (D, 0)
  | none => (G0, 3)
def msgA (l : List UInt8) : GM × Int := if 65536 < l.length then (G0, 2) else if 85 < l.length then (G0, 3) else msgL l
theorem ownsG_nil {w : World} {lo hi : Nat} : OwnsG w lo hi (.agg #[.slice none 0 0, .string ⟨#[]⟩]) G0 := ⟨_, rfl, World.ownsRow_nil _ _ _ _, fun k e => by cases e⟩
theorem msgL_fit (l : List UInt8) (hl : l.length ≤ 85) : msgL l = match fitO (headF (l.length + 1) l []) with
  | some D => (D, 0)
  | none => (G0, 3) := by
  unfold msgL parse
  rw [agree _ _ _ hl rfl]

set_option maxHeartbeats 2000000 in
theorem implParseMessage (l : List UInt8) (w : World) (hl : l.length ≤ 1048576) (hm : MaxAt w) :
    Calls Tryd.prog 12 #[.string (bsOf l)] w fun e w' => ∃ v, e = .returned (.tuple #[v, .int .i64 (msgA l).2]) ∧ OwnsG w' w.heap.size w'.heap.size v (msgA l).1 ∧ (msgA l).1.F.length ≤ 100000 ∧ Below w.heap.size w w' := by
  obtain ⟨D, C, hA⟩ : ∃ D C, msgA l = (D, C) := ⟨_, _, rfl⟩
  rw [hA]
  obtain ⟨s, hs⟩ : ∃ s, bsOf l = s := ⟨_, rfl⟩
  have hsz : s.size = l.length := by rw [← hs, bsOf_size]
  by_cases h1 : 65536 < l.length
  · obtain ⟨rfl, rfl⟩ : G0 = D ∧ (2 : Int) = C := by unfold msgA at hA; rw [if_pos h1] at hA; simpa using hA
    have h1' : 65536 < s.size := by omega
    have h2' : s.size ≤ 1048576 := by omega
    rw [hs]
    clear hA hs hsz h1 hl
    go_enter Tryd.func12, Tryd.ntmps12
    go_wp2_with fail
    exact bodyPost_ret (v := .tuple #[.agg #[.slice none 0 0, .string ⟨#[]⟩], .int .i64 2]) (by simp [results, Tryd.results12, go_sem]) rfl ⟨_, rfl, ownsG_nil, by simp, (Below.refl _ _).alloc (Nat.le_refl _) _⟩
  by_cases h2 : 85 < l.length
  · obtain ⟨rfl, rfl⟩ : G0 = D ∧ (3 : Int) = C := by unfold msgA at hA; rw [if_neg h1, if_pos h2] at hA; simpa using hA
    have h1' : 85 < s.size := by omega
    have h2' : s.size ≤ 65536 := by omega
    rw [hs]
    clear hA hs hsz h1 h2 hl
    go_enter Tryd.func12, Tryd.ntmps12
    go_wp2_with fail
    exact bodyPost_ret (v := .tuple #[.agg #[.slice none 0 0, .string ⟨#[]⟩], .int .i64 3]) (by simp [results, Tryd.results12, go_sem]) rfl ⟨_, rfl, ownsG_nil, by simp, (Below.refl _ _).alloc (Nat.le_refl _) _⟩
  have h85 : s.size ≤ 85 := by omega
  have hA' := hA
  unfold msgA at hA'
  rw [if_neg h1, if_neg h2, msgL_fit l (by omega)] at hA'
  have HC : ∀ (B : Nat) (w : World), MaxAt w → Box w B [.string s] → 0 < B → Calls Tryd.prog 39 #[.pointer (some ⟨B, 0, none⟩)] w fun e w' => ∃ (v : Value) (D : GM), e = .returned (.tuple #[v, .bool (fitO (headF (l.length + 1) l [])).isSome]) ∧ (∀ x, fitO (headF (l.length + 1) l []) = some x → D = x) ∧
      OwnsG w' w.heap.size w'.heap.size v D ∧ D.F.length ≤ l.length ∧ Turned B (B + 1) w w' := fun B w h3 h4 h5 => messageI l B w (by omega) h3 (by rw [hs]; exact h4) h5
  obtain ⟨o, ho⟩ : ∃ o, fitO (headF (l.length + 1) l []) = o := ⟨_, rfl⟩
  simp only [ho] at hA' HC
  have HM : Hid (MaxAt w) := hm
  have HLL : Hid (l.length ≤ 85) := by show _ ≤ _; omega
  rw [hs]
  clear hA hs hsz h1 h2 hl hm ho
  cases o with
  | none =>
    obtain ⟨rfl, rfl⟩ : G0 = D ∧ (3 : Int) = C := by simpa using hA'
    clear hA'
    go_enter Tryd.func12, Tryd.ntmps12
    go_wp2_with fail
    refine (HC (w.heap.size + 1) _ (HM.out.below (((Below.refl _ _).alloc (Nat.le_refl _) _).alloc (by simp) _)) (Box.new (by simp)) (by omega)).mono ?_
    rintro e w1 ⟨v1, D1, rfl, _, ow1, _, tu1⟩
    obtain ⟨a1, c1, rfl⟩ := ow1.lit
    have hs1 : w.heap.size + 1 + 1 ≤ w1.heap.size := by have := tu1.size; simpa using this
    have B1 : Hid (Below w.heap.size w w1) := Below.turned (((Below.refl _ _).alloc (Nat.le_refl _) _).alloc (by simp) _) tu1 (Nat.le_refl _) (by omega)
    have R1 : Hid (Box w1 w.heap.size [.slice none 0 0, .string ⟨#[]⟩]) := ((Box.new rfl).old _).turned tu1 (.inl (by omega))
    obtain ⟨n, hn⟩ : ∃ n, D1.F.length = n := ⟨_, rfl⟩
    obtain ⟨Y, hY⟩ : ∃ Y, D1.Y = Y := ⟨_, rfl⟩
    have HN : Hid (D1.F.length = n ∧ D1.Y = Y) := ⟨hn, hY⟩
    have OW : Hid (OwnsG w1 (w.heap.size + 1 + 1) w1.heap.size (.agg #[.slice a1 D1.F.length c1, .string D1.Y]) D1) := ow1.mono (by simp) (Nat.le_refl _)
    rw [hn, hY] at OW ⊢
    clear hn hY
    clear tu1 ow1
    obtain ⟨q0, qf0⟩ := (R1.out.old (.cells #[.slice a1 n c1, .string Y] 25)) 0 _ rfl
    obtain ⟨q1, qf1⟩ := ((R1.out.old (.cells #[.slice a1 n c1, .string Y] 25)).set 0 (.slice none 0 0)) 1 _ rfl
    have BE := ((R1.out.old (.cells #[.slice a1 n c1, .string Y] 25)).set 0 (.slice none 0 0)).set 1 (.string ⟨#[]⟩)
    obtain ⟨r0, _⟩ := BE 0 _ rfl
    obtain ⟨r1, _⟩ := BE 1 _ rfl
    have BL : Hid (Below w.heap.size w (((w1.alloc (.cells #[.slice a1 n c1, .string Y] 25)).setCell ⟨w.heap.size, 0, none⟩ (.slice none 0 0)).setCell ⟨w.heap.size, 1, none⟩ (.string ⟨#[]⟩))) := ((B1.out.alloc B1.out.size _).setCell (Nat.le_refl _) _).setCell (Nat.le_refl _) _
    clear BE R1
    go_wp2_with fail
    exact bodyPost_ret (v := .tuple #[.agg #[.slice none 0 0, .string ⟨#[]⟩], .int .i64 3]) (by simp [results, Tryd.results12, go_sem, r0, r1]) rfl ⟨_, rfl, ownsG_nil, by simp, BL.out⟩
  | some x =>
    obtain ⟨rfl, rfl⟩ : x = D ∧ (0 : Int) = C := by simpa using hA'
    clear hA'
    go_enter Tryd.func12, Tryd.ntmps12
    go_wp2_with fail
    refine (HC (w.heap.size + 1) _ (HM.out.below (((Below.refl _ _).alloc (Nat.le_refl _) _).alloc (by simp) _)) (Box.new (by simp)) (by omega)).mono ?_
    rintro e w1 ⟨v1, D1, rfl, hx1, ow1, hf1, tu1⟩
    have hx := hx1 x rfl
    have HX : Hid (D1 = x) := hx
    have HF : Hid (D1.F.length ≤ 85) := Nat.le_trans hf1 HLL.out
    clear hx hx1 hf1
    obtain ⟨a1, c1, rfl⟩ := ow1.lit
    have hs1 : w.heap.size + 1 + 1 ≤ w1.heap.size := by have := tu1.size; simpa using this
    have B1 : Hid (Below w.heap.size w w1) := Below.turned (((Below.refl _ _).alloc (Nat.le_refl _) _).alloc (by simp) _) tu1 (Nat.le_refl _) (by omega)
    have R1 : Hid (Box w1 w.heap.size [.slice none 0 0, .string ⟨#[]⟩]) := ((Box.new rfl).old _).turned tu1 (.inl (by omega))
    obtain ⟨n, hn⟩ : ∃ n, D1.F.length = n := ⟨_, rfl⟩
    obtain ⟨Y, hY⟩ : ∃ Y, D1.Y = Y := ⟨_, rfl⟩
    have HN : Hid (D1.F.length = n ∧ D1.Y = Y) := ⟨hn, hY⟩
    have OW : Hid (OwnsG w1 (w.heap.size + 1 + 1) w1.heap.size (.agg #[.slice a1 D1.F.length c1, .string D1.Y]) D1) := ow1.mono (by simp) (Nat.le_refl _)
    rw [hn, hY] at OW ⊢
    clear hn hY
    clear tu1 ow1
    obtain ⟨q0, qf0⟩ := (R1.out.old (.cells #[.slice a1 n c1, .string Y] 25)) 0 _ rfl
    obtain ⟨q1, qf1⟩ := ((R1.out.old (.cells #[.slice a1 n c1, .string Y] 25)).set 0 (.slice a1 n c1)) 1 _ rfl
    have BE := ((R1.out.old (.cells #[.slice a1 n c1, .string Y] 25)).set 0 (.slice a1 n c1)).set 1 (.string Y)
    obtain ⟨r0, _⟩ := BE 0 _ rfl
    obtain ⟨r1, _⟩ := BE 1 _ rfl
    have BL : Hid (Below w.heap.size w (((w1.alloc (.cells #[.slice a1 n c1, .string Y] 25)).setCell ⟨w.heap.size, 0, none⟩ (.slice a1 n c1)).setCell ⟨w.heap.size, 1, none⟩ (.string Y))) := ((B1.out.alloc B1.out.size _).setCell (Nat.le_refl _) _).setCell (Nat.le_refl _) _
    obtain ⟨m0, _⟩ := (Box.new (w := w1) (vs := #[.slice a1 n c1, .string Y]) (t := 25) rfl) 0 _ rfl
    obtain ⟨m1, _⟩ := (Box.new (w := w1) (vs := #[.slice a1 n c1, .string Y]) (t := 25) rfl) 1 _ rfl
    have OE : Hid (OwnsG (((w1.alloc (.cells #[.slice a1 n c1, .string Y] 25)).setCell ⟨w.heap.size, 0, none⟩ (.slice a1 n c1)).setCell ⟨w.heap.size, 1, none⟩ (.string Y)) w.heap.size (((w1.alloc (.cells #[.slice a1 n c1, .string Y] 25)).setCell ⟨w.heap.size, 0, none⟩ (.slice a1 n c1)).setCell ⟨w.heap.size, 1, none⟩ (.string Y)).heap.size (.agg #[.slice a1 n c1, .string Y]) x) := by
      obtain ⟨u, eu, ou⟩ := OW.out
      rw [← HX.out]
      simp only [Value.agg.injEq, Array.mk.injEq, List.cons.injEq, and_true] at eu
      obtain ⟨rfl, _⟩ := eu
      exact ⟨_, by rw [HN.out.2], OwnsR.mk (own_mono (own_setLow (own_setLow (ou.1.alloc _) (by dsimp only; omega) _) (by dsimp only; omega) _) (by omega)) (Nat.le_refl _)⟩
    clear BE R1
    go_wp2_with fail
    exact bodyPost_ret (v := .tuple #[.agg #[.slice a1 n c1, .string Y], .int .i64 0]) (by simp [results, Tryd.results12, go_sem, r0, r1]) rfl ⟨_, rfl, OE.out, by rw [← HX.out]; have := HF.out; omega, BL.out⟩

set_option maxHeartbeats 1000000 in
theorem implMessageOK (l : List UInt8) (w : World) (hl : l.length ≤ 1048576) (hm : MaxAt w) :
    Calls Tryd.prog 13 #[.string (bsOf l)] w fun e w' => e = .returned (.bool (decide ((msgA l).2 = 0))) ∧ Below w.heap.size w w' := by
  have HC := implParseMessage l w hl hm
  obtain ⟨D, C, hA⟩ : ∃ D C, msgA l = (D, C) := ⟨_, _, rfl⟩
  obtain ⟨s, hs⟩ : ∃ s, bsOf l = s := ⟨_, rfl⟩
  rw [hA, hs] at HC
  rw [hA, hs]
  clear hA hs
  go_enter Tryd.func13, Tryd.ntmps13
  go_wp2_with (go_at_call 12; refine HC.mono ?_; rintro e w1 ⟨v1, rfl, ow1, _, hb1⟩; obtain ⟨a1, c1, rfl⟩ := ow1.lit)
  go_ret
  exact ⟨ret_bool (by rw [Bool.eq_iff_iff]; simp), hb1.alloc hb1.size _⟩
end Go.Proofs.YtgbhjhbmolgbeaaDoor
