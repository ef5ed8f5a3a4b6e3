
/-
  Reading a message, by the specification: ParseMessage, MessageOK. By an AI agent.
-/
import Derived.Test.YtgbhjhbmolgbeaaDoorPar5
namespace Go.Proofs.YtgbhjhbmolgbeaaDoor
open Go.ChangeShapes Go.WideShapes Go.ChangeAt Go.RowKit Go.Deep
set_option linter.unusedVariables false
set_option maxRecDepth 100000

set_option maxHeartbeats 2000000 in
theorem specParseMessage (l : List UInt8) (w : World) (hl : l.length ≤ 1048576) :
    Calls Tryd.prog 20 #[.string (bsOf l)] w fun e w' => ∃ v, e = .returned (.tuple #[v, .int .i64 (msgA l).2]) ∧ OwnsG w' w.heap.size w'.heap.size v (msgA l).1 ∧ (msgA l).1.F.length ≤ 100000 ∧ Below w.heap.size w w' := by
  obtain ⟨D, C, hA⟩ : ∃ D C, msgA l = (D, C) := ⟨_, _, rfl⟩
  rw [hA]
  obtain ⟨s, hs⟩ : ∃ s, bsOf l = s := ⟨_, rfl⟩
  have hsz : s.size = l.length := by rw [← hs, bsOf_size]
  by_cases h1 : 65536 < l.length
  · obtain ⟨rfl, rfl⟩ : G0 = D ∧ (2 : Int) = C := by unfold msgA at hA; rw [if_pos h1] at hA; simpa using hA
    have h1' : 65536 < s.size := by omega
    have h2' : s.size ≤ 1048576 := by omega
    rw [hs]
    clear hA hs hsz h1 hl
    go_enter Tryd.func20, Tryd.ntmps20
    go_wp2_with fail
    exact bodyPost_ret (v := .tuple #[.agg #[.slice none 0 0, .string ⟨#[]⟩], .int .i64 2]) (by simp [results, Tryd.results20, go_sem]) rfl ⟨_, rfl, ownsG_nil, by simp, (Below.refl _ _).alloc (Nat.le_refl _) _⟩
  have HC : ∀ w, Calls Tryd.prog 41 #[.string s] w fun e w' => ParPost (parse l) w e w' := fun w => by rw [← hs]; exact l08ParseS l w (by omega)
  have hb : s.size ≤ 65536 := by omega
  obtain ⟨o, ho⟩ : ∃ o, parse l = o := ⟨_, rfl⟩
  by_cases hbad : 85 < l.length ∨ o = none
  · obtain ⟨rfl, rfl⟩ : G0 = D ∧ (3 : Int) = C := by
      unfold msgA at hA; rw [if_neg h1] at hA
      by_cases h2 : 85 < l.length
      · rw [if_pos h2] at hA; simpa using hA
      · have h3 : o = none := by rcases hbad with h | h; exact absurd h h2; exact h
        rw [if_neg h2] at hA; unfold msgL at hA; rw [ho, h3] at hA; simpa using hA
    have HBD : Hid (85 < s.size ∨ o.isSome = false) := by
      rcases hbad with h | h
      · exact .inl (by omega)
      · exact .inr (by rw [h]; rfl)
    rw [hs]
    rw [ho] at HC
    clear hA hs hsz h1 hl ho hbad
    go_enter Tryd.func20, Tryd.ntmps20
    go_wp2_with fail
    refine (HC _).mono ?_
    rintro e w1 ⟨v1, D1, rfl, hx, ow1, hf1, hb1⟩
    obtain ⟨bo, hbo⟩ : ∃ b, o.isSome = b := ⟨_, rfl⟩
    rw [hbo]
    rw [hbo] at HBD
    clear hbo
    have hx1 := hx
    obtain ⟨a1, c1, rfl⟩ := ow1.lit
    have hs1 : w.heap.size + 1 ≤ w1.heap.size := size_new hb1
    have B1 : Hid (Below w.heap.size w w1) := Below.new hb1
    have R1 : Hid (Box w1 w.heap.size [.slice none 0 0, .string ⟨#[]⟩]) := (Box.new rfl).below hb1
    obtain ⟨n, hn⟩ : ∃ n, D1.F.length = n := ⟨_, rfl⟩
    obtain ⟨Y, hY⟩ : ∃ Y, D1.Y = Y := ⟨_, rfl⟩
    have HN : Hid (D1.F.length = n ∧ D1.Y = Y) := ⟨hn, hY⟩
    have OW : Hid (OwnsG w1 (w.heap.size + 1) w1.heap.size (.agg #[.slice a1 D1.F.length c1, .string D1.Y]) D1) := ow1.mono (by simp) (Nat.le_refl _)
    rw [hn, hY] at OW ⊢
    clear hn hY
    clear hb1 ow1 hx hx1
    obtain ⟨q0, qf0⟩ := (R1.out.old (.cells #[.slice a1 n c1, .string Y] 25)) 0 _ rfl
    obtain ⟨q1, qf1⟩ := ((R1.out.old (.cells #[.slice a1 n c1, .string Y] 25)).set 0 (.slice none 0 0)) 1 _ rfl
    have BE := ((R1.out.old (.cells #[.slice a1 n c1, .string Y] 25)).set 0 (.slice none 0 0)).set 1 (.string ⟨#[]⟩)
    obtain ⟨r0, _⟩ := BE 0 _ rfl
    obtain ⟨r1, _⟩ := BE 1 _ rfl
    have BL : Hid (Below w.heap.size w (((w1.alloc (.cells #[.slice a1 n c1, .string Y] 25)).setCell ⟨w.heap.size, 0, none⟩ (.slice none 0 0)).setCell ⟨w.heap.size, 1, none⟩ (.string ⟨#[]⟩))) := ((B1.out.alloc B1.out.size _).setCell (Nat.le_refl _) _).setCell (Nat.le_refl _) _
    clear BE R1
    by_cases hc : bo = true
    · have hc' : 85 < s.size := by
        rcases HBD.out with h | h
        · exact h
        · rw [hc] at h; cases h
      subst hc
      go_wp2_with fail
      exact bodyPost_ret (v := .tuple #[.agg #[.slice none 0 0, .string ⟨#[]⟩], .int .i64 3]) (by simp [results, Tryd.results20, go_sem, r0, r1]) rfl ⟨_, rfl, ownsG_nil, by simp, BL.out⟩
    · obtain rfl : bo = false := by simpa using hc
      clear hc
      go_wp2_with fail
      exact bodyPost_ret (v := .tuple #[.agg #[.slice none 0 0, .string ⟨#[]⟩], .int .i64 3]) (by simp [results, Tryd.results20, go_sem, r0, r1]) rfl ⟨_, rfl, ownsG_nil, by simp, BL.out⟩
  have h2 : ¬ 85 < l.length := fun h => hbad (.inl h)
  cases o with
  | none => exact absurd rfl (fun h => hbad (.inr h))
  | some x =>
    obtain ⟨rfl, rfl⟩ : x = D ∧ (0 : Int) = C := by
      unfold msgA msgL at hA; rw [if_neg h1, if_neg h2, ho] at hA; simpa using hA
    have h85 : s.size ≤ 85 := by omega
    rw [hs]
    rw [ho] at HC
    clear hA hs hsz h1 hl ho hbad h2
    go_enter Tryd.func20, Tryd.ntmps20
    go_wp2_with fail
    refine (HC _).mono ?_
    rintro e w1 ⟨v1, D1, rfl, hx, ow1, hf1, hb1⟩
    have HX : Hid (D1 = x) := hx x rfl
    have HF : Hid (D1.F.length ≤ 100000) := hf1
    clear hf1
    have hx1 := hx
    obtain ⟨a1, c1, rfl⟩ := ow1.lit
    have hs1 : w.heap.size + 1 ≤ w1.heap.size := size_new hb1
    have B1 : Hid (Below w.heap.size w w1) := Below.new hb1
    have R1 : Hid (Box w1 w.heap.size [.slice none 0 0, .string ⟨#[]⟩]) := (Box.new rfl).below hb1
    obtain ⟨n, hn⟩ : ∃ n, D1.F.length = n := ⟨_, rfl⟩
    obtain ⟨Y, hY⟩ : ∃ Y, D1.Y = Y := ⟨_, rfl⟩
    have HN : Hid (D1.F.length = n ∧ D1.Y = Y) := ⟨hn, hY⟩
    have OW : Hid (OwnsG w1 (w.heap.size + 1) w1.heap.size (.agg #[.slice a1 D1.F.length c1, .string D1.Y]) D1) := ow1.mono (by simp) (Nat.le_refl _)
    rw [hn, hY] at OW ⊢
    clear hn hY
    clear hb1 ow1 hx hx1
    obtain ⟨q0, qf0⟩ := (R1.out.old (.cells #[.slice a1 n c1, .string Y] 25)) 0 _ rfl
    obtain ⟨q1, qf1⟩ := ((R1.out.old (.cells #[.slice a1 n c1, .string Y] 25)).set 0 (.slice a1 n c1)) 1 _ rfl
    have BE := ((R1.out.old (.cells #[.slice a1 n c1, .string Y] 25)).set 0 (.slice a1 n c1)).set 1 (.string Y)
    obtain ⟨r0, _⟩ := BE 0 _ rfl
    obtain ⟨r1, _⟩ := BE 1 _ rfl
    have BL : Hid (Below w.heap.size w (((w1.alloc (.cells #[.slice a1 n c1, .string Y] 25)).setCell ⟨w.heap.size, 0, none⟩ (.slice a1 n c1)).setCell ⟨w.heap.size, 1, none⟩ (.string Y))) := ((B1.out.alloc B1.out.size _).setCell (Nat.le_refl _) _).setCell (Nat.le_refl _) _
    obtain ⟨m0, _⟩ := (Box.new (w := w1) (vs := #[.slice a1 n c1, .string Y]) (t := 25) rfl) 0 _ rfl
    obtain ⟨m1, _⟩ := (Box.new (w := w1) (vs := #[.slice a1 n c1, .string Y]) (t := 25) rfl) 1 _ rfl
    have OE : Hid (OwnsG (((w1.alloc (.cells #[.slice a1 n c1, .string Y] 25)).setCell ⟨w.heap.size, 0, none⟩ (.slice a1 n c1)).setCell ⟨w.heap.size, 1, none⟩ (.string Y)) w.heap.size (((w1.alloc (.cells #[.slice a1 n c1, .string Y] 25)).setCell ⟨w.heap.size, 0, none⟩ (.slice a1 n c1)).setCell ⟨w.heap.size, 1, none⟩ (.string Y)).heap.size (.agg #[.slice a1 n c1, .string Y]) x) := by
      obtain ⟨u, eu, ou⟩ := OW.out
      rw [← HX.out]
      simp only [Value.agg.injEq, Array.mk.injEq, List.cons.injEq, and_true] at eu
      obtain ⟨rfl, _⟩ := eu
      exact ⟨_, by rw [HN.out.2], OwnsR.mk (own_mono (own_setLow (own_setLow (ou.1.alloc _) (by dsimp only; omega) _) (by dsimp only; omega) _) (by omega)) (Nat.le_refl _)⟩
    clear BE R1
    go_wp2_with fail
    exact bodyPost_ret (v := .tuple #[.agg #[.slice a1 n c1, .string Y], .int .i64 0]) (by simp [results, Tryd.results20, go_sem, r0, r1]) rfl ⟨_, rfl, OE.out, by rw [← HX.out]; exact HF.out, BL.out⟩

theorem msgA_ok (l : List UInt8) : decide ((msgA l).2 = 0) = (decide (l.length ≤ 85) && (parse l).isSome) := by
  unfold msgA msgL
  by_cases h1 : 65536 < l.length
  · rw [if_pos h1, decide_eq_false (show ¬ l.length ≤ 85 by omega)]; rfl
  rw [if_neg h1]
  by_cases h2 : 85 < l.length
  · rw [if_pos h2, decide_eq_false (show ¬ l.length ≤ 85 by omega)]; rfl
  rw [if_neg h2, decide_eq_true (show l.length ≤ 85 by omega)]
  cases parse l <;> rfl

set_option maxHeartbeats 1000000 in
theorem specMessageOK (l : List UInt8) (w : World) (hl : l.length ≤ 1048576) :
    Calls Tryd.prog 19 #[.string (bsOf l)] w fun e w' => e = .returned (.bool (decide ((msgA l).2 = 0))) ∧ Below w.heap.size w w' := by
  rw [msgA_ok]
  obtain ⟨s, hs⟩ : ∃ s, bsOf l = s := ⟨_, rfl⟩
  have hsz : s.size = l.length := by rw [← hs, bsOf_size]
  rw [hs]
  by_cases h2 : 85 < l.length
  · rw [decide_eq_false (show ¬ l.length ≤ 85 by omega)]
    have h2' : 85 < s.size := by omega
    have h3' : s.size ≤ 1048576 := by omega
    clear hs hsz h2 hl
    by_cases h1 : 65536 < s.size
    · go_enter Tryd.func19, Tryd.ntmps19
      go_wp2_with fail
      go_ret
      exact ⟨rfl, Below.refl _ _⟩
    · go_enter Tryd.func19, Tryd.ntmps19
      go_wp2_with fail
      go_ret
      exact ⟨rfl, Below.refl _ _⟩
  rw [decide_eq_true (show l.length ≤ 85 by omega)]
  have HC : ∀ w, Calls Tryd.prog 41 #[.string s] w fun e w' => ParPost (parse l) w e w' := fun w => by rw [← hs]; exact l08ParseS l w (by omega)
  have h2' : s.size ≤ 85 := by omega
  obtain ⟨o, ho⟩ : ∃ o, (parse l).isSome = o := ⟨_, rfl⟩
  rw [ho]
  have HC2 : ∀ w, Calls Tryd.prog 41 #[.string s] w fun e w' => ∃ (v : Value) (D : GM), e = .returned (.tuple #[v, .bool o]) ∧ OwnsG w' w.heap.size w'.heap.size v D ∧ Below w.heap.size w w' := fun w => by
    refine (HC w).mono ?_
    rintro e w' ⟨v, D, rfl, _, h3, _, h5⟩
    exact ⟨v, D, by rw [ho], h3, h5⟩
  clear hs hsz h2 hl ho HC
  go_enter Tryd.func19, Tryd.ntmps19
  go_wp2_with (go_at_call 41; refine (HC2 _).mono ?_; rintro e w1 ⟨v1, D1, rfl, ow1, hb1⟩; obtain ⟨a1, c1, rfl⟩ := ow1.lit)
  go_ret
  exact ⟨rfl, hb1.alloc hb1.size _⟩
end Go.Proofs.YtgbhjhbmolgbeaaDoor
