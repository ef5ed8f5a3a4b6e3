
/-
  Slices that are cut: where they lead, and what lies there. By an AI agent.
-/
import Derived.Test.YtmbndpgoihdpnaaGreatDoorBoxes
namespace Go.Proofs.YtmbndpgoihdpnaaGreatDoor
open Go.ChangeShapes Go.WideShapes Go.ChangeAt Go.RowKit Go.Deep
set_option linter.unusedVariables false

/-- Where a slice begins that is cut at q. -/
def cutP (a : Option Addr) (c q s : Nat) : Option Addr := if c = q then a else a.map (·.add (q * s))
theorem elem_of {P : Program} {t e : Nat} (ht : P.underlying t = some (.slice e)) : P.elem t = e := by
  unfold Program.elem
  rw [ht]
theorem cut_h {P : Program} {t e s : Nat} (ht : P.underlying t = some (.slice e)) (hz : ∀ w, (Go.sizeOf e).run P w = .ok s w) (a : Option Addr) (n c p : Nat) (hp : p ≤ c) (W : World) :
    (Instr.slice t (.slice a n c) none (some (.int .i64 (p : Int))) none).run P W = .ok (.slice a p c) W := by
  have he := elem_of ht
  have h := run_slice_h (P := P) W t a n c (by rw [he]; exact ht) .i64 (p : Int) (by omega) (by omega)
  rw [h, he, hz]
  simp only [Result.andThen, sliced, Int.toNat_natCast, Nat.sub_zero, Nat.zero_mul]
  by_cases hc : c = 0
  · rw [if_pos hc]
  · rw [if_neg hc]
    cases a with
    | none => rfl
    | some x => simp [Addr.add]
theorem cut_l {P : Program} {t e s : Nat} (ht : P.underlying t = some (.slice e)) (hz : ∀ w, (Go.sizeOf e).run P w = .ok s w) (a : Option Addr) (n c q : Nat) (hq : q ≤ n) (W : World) :
    (Instr.slice t (.slice a n c) (some (.int .i64 (q : Int))) none none).run P W = .ok (.slice (cutP a c q s) (n - q) (c - q)) W := by
  have he := elem_of ht
  have h := run_slice_l (P := P) W t a n c (by rw [he]; exact ht) .i64 (q : Int) (by omega) (by omega)
  rw [h, he, hz]
  simp only [Result.andThen, sliced, Int.toNat_natCast]
  rfl
theorem Src.head {w : World} {a : Option Addr} {xs : List Value} (h : Src w a xs) (k : Nat) : Src w a (xs.take k) := by
  rcases h with h | ⟨b, o, rfl, hc⟩
  · subst h
    exact .inl (by simp)
  · refine .inr ⟨b, o, rfl, fun j hj => ?_⟩
    rw [List.length_take] at hj
    rw [hc j (by omega), List.getD_eq_getElem?_getD, List.getD_eq_getElem?_getD, List.getElem?_take, if_pos (by omega)]
theorem Src.tail {w : World} {a : Option Addr} {xs : List Value} {n c q s : Nat} (h : Src w a xs) (hl : xs.length = n * s) (hq : q ≤ n) (hc : n ≤ c) : Src w (cutP a c q s) (xs.drop (q * s)) := by
  by_cases e : n = q
  · refine .inl ?_
    rw [List.drop_eq_nil_iff, hl, e]
    exact Nat.le_refl _
  · rcases h with h | ⟨b, o, rfl, hcs⟩
    · subst h
      exact .inl (by simp)
    · unfold cutP
      rw [if_neg (by omega)]
      refine .inr ⟨b, o + q * s, ?_, fun j hj => ?_⟩
      · simp only [Option.map_some, Addr.add]
        split
        · rename_i h0; rw [h0]; rfl
        · rfl
      · rw [List.length_drop] at hj
        rw [Nat.add_assoc, hcs (q * s + j) (by omega), List.getD_eq_getElem?_getD, List.getD_eq_getElem?_getD, List.getElem?_drop]
theorem own_capx {w : World} {base e s n c : Nat} {a : Option Addr} {xs : List Value} (h : w.ownsRow base e s (.slice a n c) n xs) : n ≤ c ∧ c ≤ maxLen := by
  obtain ⟨hl, ⟨hv, h0⟩ | ⟨g, cap, cur, hv, hb, hg, hc1, hc2, hsz, ht⟩⟩ := h
  · cases hv
    exact ⟨Nat.le_refl _, by unfold maxLen; omega⟩
  · cases hv
    exact ⟨hc1, hc2⟩
end Go.Proofs.YtmbndpgoihdpnaaGreatDoor
