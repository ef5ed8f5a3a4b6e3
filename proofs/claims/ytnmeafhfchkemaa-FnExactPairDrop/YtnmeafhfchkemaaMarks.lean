/-
  Contracts of the helpers that write marks into pairs that a call answered and look whether they are held. By an AI agent.
-/
import Derived.Test.YtnmeafhfchkemaaMtext
namespace Go.Proofs.Ytnmeafhfchkemaa
open Go.ChangeShapes Go.WideShapes Go.ChangeAt Go.RowKit Go.Deep
set_option linter.unusedVariables false

/-- m cells that a slice holds at the head of a block. -/
def OwnV (w : World) (a : Option Addr) (m : Nat) (h : Nat → Value) : Prop := m = 0 ∨ ∃ B, a = some ⟨B, 0, none⟩ ∧ Own w B m h
def rowOf (a : Option Addr) : Option Nat := a.map (·.block)
/-- The row that marks are written into; none where there is nothing to mark. -/
def rowN (a : Option Addr) (n : Nat) : Option Nat := if n = 0 then none else rowOf a
theorem rowN_pos {a : Option Addr} {n : Nat} (h : ¬ n = 0) : rowN a n = rowOf a := by unfold rowN; rw [if_neg h]
theorem rowN_ne {a : Option Addr} {n b : Nat} (h : n = 0 ∨ rowOf a ≠ some b) : rowN a n ≠ some b := by
  unfold rowN
  by_cases e : n = 0
  · rw [if_pos e]; intro h2; cases h2
  · rw [if_neg e]; exact h.resolve_left e
theorem rowN_some {a : Option Addr} {n k : Nat} (h : rowN a n = some k) : rowOf a = some k := by
  unfold rowN at h
  by_cases e : n = 0
  · rw [if_pos e] at h; cases h
  · rw [if_neg e] at h; exact h
theorem OwnV.below {w w' : World} {a : Option Addr} {m : Nat} {h : Nat → Value} (ho : OwnV w a m h) (hb : Below w.heap.size w w') : OwnV w' a m h := by
  rcases ho with h0 | ⟨B, rfl, ho⟩
  · exact .inl h0
  · exact .inr ⟨B, rfl, ho.below hb⟩
theorem OwnV.congr {w : World} {a : Option Addr} {m : Nat} {h h' : Nat → Value} (ho : OwnV w a m h) (hh : ∀ i, i < m → h i = h' i) : OwnV w a m h' := by
  rcases ho with h0 | ⟨B, rfl, ho⟩
  · exact .inl h0
  · exact .inr ⟨B, rfl, ho.congr hh⟩
theorem mark_step (h : Nat → Value) (k i j : Nat) : (if j = i * 2 + 1 then Value.string (markT (k + (i * 2 + 1))) else if j = i * 2 then .string (markT (k + i * 2)) else if j < i * 2 then .string (markT (k + j)) else h j) = if j < (i + 1) * 2 then .string (markT (k + j)) else h j := by
  by_cases e1 : j = i * 2 + 1
  · subst e1; rw [if_pos rfl, if_pos (by omega)]
  · rw [if_neg e1]
    by_cases e2 : j = i * 2
    · subst e2; rw [if_pos rfl, if_pos (by omega)]
    · rw [if_neg e2]
      by_cases e3 : j < i * 2
      · rw [if_pos e3, if_pos (by omega)]
      · rw [if_neg e3, if_neg (by omega)]

set_option maxHeartbeats 600000 in
theorem markPairS (a : Option Addr) (n c k : Nat) (h : Nat → Value) (w : World) (hn : n ≤ 1048576) (hk0 : 0 < k) (hk1 : k ≤ 1048576) (ho : OwnV w a (n * 2) h) :
    Calls Try.prog 58 #[.slice a n c, .int .i64 (k : Int)] w fun e w' => e = .returned (.int .i64 ((k + n * 2 : Nat) : Int)) ∧ w.grownBy w' (rowN a n) ∧ OwnV w' a (n * 2) (fun i => .string (markT (k + i))) := by
  by_cases hz : n = 0
  · subst hz
    clear ho
    go_enter Try.func58, Try.ntmps58
    go_wp2_with fail
    go_loop [1, 5] (fun kk i => i = .int .i64 0 ∧ kk = .int .i64 (k : Int)) (fun _ _ => 0)
    case atStart => exact ⟨rfl, rfl⟩
    case round =>
      obtain ⟨rfl, rfl⟩ := hrel
      go_wp2_with fail
      go_ret
      exact ⟨rfl, gb_refl _ _, .inl (by omega)⟩
  rcases ho with h0 | ⟨B, rfl, ho⟩
  · omega
  have HO : Hid (Own w B (n * 2) h) := ho
  clear ho
  go_enter Try.func58, Try.ntmps58
  go_wp2_with fail
  go_loopw [1, 5] (fun kk i wr => ∃ j x : Nat, j ≤ n ∧ i = .int .i64 (j : Int) ∧ kk = .int .i64 (x : Int) ∧ x ≤ 4194304 ∧ 0 < x ∧ Hid (x = k + j * 2) ∧ Hid (w.grownBy wr (some B)) ∧ Hid (Own wr B (n * 2) (fun i => if i < j * 2 then .string (markT (k + i)) else h i))) (fun _ i _ => n - (intOf i).toNat)
  case atStart => exact ⟨0, k, by omega, rfl, rfl, by omega, by omega, by show k = k + 0 * 2; omega, gb_refl _ _, HO.out.congr fun i _ => by simp⟩
  case round =>
    obtain ⟨j, x, hj, rfl, rfl, hx1, hx0, hx, hg, hO⟩ := hrel
    by_cases hlt : j < n
    · have hjn : (j : Int) < (n : Int) := by omega
      have hxb : Hid (x + 2 ≤ 4194304) := by show x + 2 ≤ 4194304; have := hx.out; omega
      go_wp2_with fail
      refine (markText x _ hx0 (by omega)).mono ?_
      rintro e w1 ⟨rfl, hb1⟩
      have O1 : Hid (Own w1 B (n * 2) (fun i => if i < j * 2 then .string (markT (k + i)) else h i)) := hO.out.below hb1
      have G1 : Hid (w.grownBy w1 (some B)) := gb_below hg.out hb1
      clear hO hg hb1
      obtain ⟨o1, o2⟩ := O1.out (j * 2) (by omega)
      simp only [Nat.lt_irrefl, if_false] at o1
      go_wp2_with fail
      rw [show ((x : Int) + 1) = ((x + 1 : Nat) : Int) from by omega]
      refine (markText (x + 1) _ (by omega) (by omega)).mono ?_
      rintro e w2 ⟨rfl, hb2⟩
      have O2 : Hid (Own w2 B (n * 2) (fun i => if i = j * 2 then .string (markT x) else if i < j * 2 then .string (markT (k + i)) else h i)) := (O1.out.set (j * 2) (by omega) _).below hb2
      have G2 : Hid (w.grownBy w2 (some B)) := gb_below (gb_set G1.out _ _) hb2
      clear O1 G1 hb2 o1 o2
      obtain ⟨o1, o2⟩ := O2.out (j * 2 + 1) (by omega)
      simp only [show ¬ (j * 2 + 1 = j * 2) from by omega, show ¬ (j * 2 + 1 < j * 2) from by omega, if_false] at o1
      go_wp2_with fail
      refine ⟨⟨j + 1, x + 2, by omega, by go_num, by go_num, hxb.out, by omega, by show x + 2 = k + (j + 1) * 2; have := hx.out; omega, gb_set G2.out _ _, ?_⟩, by simp [intOf]; omega⟩
      refine (O2.out.set (j * 2 + 1) (by omega) _).congr fun i _ => ?_
      have e1 := hx.out
      rw [e1]
      exact mark_step h k j i
    · have hjn : j = n := by omega
      have E : Hid ((x : Int) = ((k + n * 2 : Nat) : Int)) := by show (x : Int) = ((k + n * 2 : Nat) : Int); rw [hx.out, hjn]
      have O1 : Hid (Own wr B (n * 2) (fun i => .string (markT (k + i)))) := hO.out.congr fun i hi => by rw [if_pos (by omega)]
      clear hjn hO
      go_wp2_with fail
      go_ret
      exact ⟨by show Ending.returned (.int .i64 (x : Int)) = _; rw [E.out], by rw [rowN_pos hz]; exact hg.out, .inr ⟨B, rfl, O1.out⟩⟩

set_option maxHeartbeats 1000000 in
theorem heldPairS (a : Option Addr) (n c k : Nat) (w : World) (hn : n ≤ 1048576) (hk0 : 0 < k) (hk1 : k ≤ 1048576) (ho : OwnV w a (n * 2) (fun i => .string (markT (k + i)))) :
    Calls Try.prog 59 #[.slice a n c, .int .i64 (k : Int)] w fun e w' => e = .returned (.int .i64 ((k + n * 2 : Nat) : Int)) ∧ Below w.heap.size w w' := by
  have HO : Hid (OwnV w a (n * 2) (fun i => .string (markT (k + i)))) := ho
  clear ho
  go_enter Try.func59, Try.ntmps59
  go_wp2_with fail
  go_loopw [1, 5] (fun kk i wr => ∃ j x : Nat, j ≤ n ∧ i = .int .i64 (j : Int) ∧ kk = .int .i64 (x : Int) ∧ x ≤ 4194304 ∧ 0 < x ∧ Hid (x = k + j * 2) ∧ Hid (Below w.heap.size w wr)) (fun _ i _ => n - (intOf i).toNat)
  case atStart => exact ⟨0, k, by omega, rfl, rfl, by omega, by omega, by show k = k + 0 * 2; omega, Below.refl _ _⟩
  case round =>
    obtain ⟨j, x, hj, rfl, rfl, hx1, hx0, hx, hb⟩ := hrel
    by_cases hlt : j < n
    · rcases HO.out.below hb.out with h0 | ⟨B, rfl, hO⟩
      · omega
      have hj0 : (0 : Int) ≤ (j : Int) := by omega
      have hjn : (j : Int) < (n : Int) := by omega
      have hxb : Hid (x + 2 ≤ 4194304) := by show x + 2 ≤ 4194304; have := hx.out; omega
      have o1 : wr.cell? ⟨B, j * 2, none⟩ = some (.string (markT x)) := by rw [(hO (j * 2) (by omega)).1, hx.out]
      have o2 : wr.cell? ⟨B, j * 2 + 1, none⟩ = some (.string (markT (x + 1))) := by rw [(hO (j * 2 + 1) (by omega)).1, hx.out]; rfl
      clear hO
      go_wp2_with fail
      go_region_with (go_at_call 107; refine (markText x _ hx0 (by omega)).mono ?_; rintro e w1 ⟨rfl, hb1⟩; obtain o3 := ((hb1.cell (p := ⟨B, j * 2, none⟩) (World.block_lt_of_cell? _ _ o1)).trans o1))
      all_goals go_wp2_with fail
      all_goals
        have o4 : w1.cell? ⟨B, j * 2 + 1, none⟩ = some (.string (markT (x + 1))) := (hb1.cell (p := ⟨B, j * 2 + 1, none⟩) (World.block_lt_of_cell? _ _ o2)).trans o2
        have HB1 : Hid (Below w.heap.size w w1) := hb.out.drew.trans (hb1.mono hb.out.size)
        clear o1 o2 hb1
        go_region_with (go_at_call 107; rw [show ((x : Int) + 1) = ((x + 1 : Nat) : Int) from by omega]; refine (markText (x + 1) _ (by omega) (by omega)).mono ?_; rintro e w2 ⟨rfl, hb2⟩; obtain o5 := ((hb2.cell (p := ⟨B, j * 2 + 1, none⟩) (World.block_lt_of_cell? _ _ o4)).trans o4))
        all_goals go_wp2_with fail
        all_goals
          exact ⟨⟨j + 1, x + 2, by omega, by go_num, by go_num, hxb.out, by omega, by show x + 2 = k + (j + 1) * 2; have := hx.out; omega, HB1.out.drew.trans (hb2.mono HB1.out.size)⟩, by simp [intOf]; omega⟩
    · have hjn : j = n := by omega
      have E : Hid ((x : Int) = ((k + n * 2 : Nat) : Int)) := by show (x : Int) = ((k + n * 2 : Nat) : Int); rw [hx.out, hjn]
      clear hjn
      go_wp2_with fail
      go_ret
      exact ⟨by show Ending.returned (.int .i64 (x : Int)) = _; rw [E.out], hb.out⟩
end Go.Proofs.Ytnmeafhfchkemaa
