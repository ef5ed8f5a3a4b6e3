/-
  Contracts of the two functions CodeOf over this seat's translation: both give the first place of a word in the table of words, -1 of any other text. By an AI agent.
-/
import Derived.Test.YtmgplopaapmfaagDoorCodes
namespace Go.Proofs.YtmgplopaapmfaagDoor
open Go.ChangeShapes Go.WideShapes Go.ChangeAt Go.RowKit
set_option linter.unusedVariables false

def codeOf (s : ByteArray) : Int := match words.findIdx? (fun b => decide (b = s)) with | some i => (i : Int) | none => -1
theorem words_len : words.length = 20 := rfl
theorem wordAt_nat (k : Nat) (h : k < 20) : wordAt (k : Int) = words[k]'(by rw [words_len]; exact h) := by
  unfold wordAt
  rw [if_pos (by omega)]
  simp only [Int.toNat_natCast]
  rw [List.getD_eq_getElem?_getD, List.getElem?_eq_getElem (by rw [words_len]; exact h), Option.getD_some]
theorem codeOf_some (s : ByteArray) (k : Nat) (h : k < 20) (hn : ∀ j : Nat, j < k → wordAt (j : Int) ≠ s) (he : wordAt (k : Int) = s) : codeOf s = k := by
  unfold codeOf
  have : words.findIdx? (fun b => decide (b = s)) = some k := by
    rw [List.findIdx?_eq_some_iff_getElem]
    refine ⟨by rw [words_len]; exact h, by rw [← wordAt_nat k h, he]; exact decide_eq_true rfl, fun j hj => ?_⟩
    have h1 := hn j hj
    rw [wordAt_nat j (by omega)] at h1
    simpa using h1
  rw [this]
theorem codeOf_none (s : ByteArray) (hn : ∀ j : Nat, j < 20 → wordAt (j : Int) ≠ s) : codeOf s = -1 := by
  unfold codeOf
  have : words.findIdx? (fun b => decide (b = s)) = none := by
    rw [List.findIdx?_eq_none_iff]
    intro x hx
    obtain ⟨j, hj, rfl⟩ := List.getElem_of_mem hx
    have h1 := hn j (by rw [words_len] at hj; exact hj)
    rw [wordAt_nat j (by rw [words_len] at hj; exact hj)] at h1
    simpa using h1
  rw [this]
theorem bytes_ext {a b : ByteArray} (h : a.toList = b.toList) : a = b := by
  rw [ByteArray.toList_eq, ByteArray.toList_eq] at h
  exact bytes_inj h
theorem ret_int {k : IntKind} {a b : Int} (h : a = b) : Ending.returned (.int k a) = .returned (.int k b) := by rw [h]

set_option maxHeartbeats 400000 in
theorem codeOf8 (s : ByteArray) (w : World) : Calls Tryd.prog 8 #[.string s] w fun e w' => e = .returned (.int .i64 (codeOf s)) ∧ Below w.heap.size w w' := by
  go_enter Tryd.func8, Tryd.ntmps8
  go_wp2_with fail
  go_loopw [3] (fun i wr => ∃ k : Nat, k ≤ 20 ∧ i = .int .i64 k ∧ Hid (∀ j : Nat, j < k → wordAt (j : Int) ≠ s) ∧ Hid (Below w.heap.size w wr)) (fun i _ => 20 - (intOf i).toNat)
  case atStart => exact ⟨0, by omega, rfl, fun j hj => absurd hj (by omega), Below.refl _ _⟩
  case round =>
    obtain ⟨k, hk, rfl, hn, hb⟩ := hrel
    by_cases hlt : k < 20
    · by_cases hq : wordAt (k : Int) = s
      · have hq' : ((wordAt (k : Int)).toList == s.toList) = true := by rw [hq]; simp
        have hfin : Hid (codeOf s = k) := codeOf_some s k hlt hn.out hq
        clear hq
        go_wp2_with fail
        refine (codeWord6 _ _).mono ?_
        rintro e w1 ⟨rfl, hb1⟩
        have HB := hb.out.trans (hb1.mono hb.out.size)
        clear hb hb1
        go_wp2_with fail
        go_ret
        exact ⟨ret_int hfin.out.symm, HB⟩
      · have hq' : ((wordAt (k : Int)).toList == s.toList) = false := by
          rw [beq_eq_false_iff_ne]; exact fun e => hq (bytes_ext e)
        have hn' : Hid (∀ j : Nat, j < k + 1 → wordAt (j : Int) ≠ s) := fun j hj => by
          by_cases e : j = k
          · rw [e]; exact hq
          · exact hn.out j (by omega)
        clear hq hn
        go_wp2_with fail
        refine (codeWord6 _ _).mono ?_
        rintro e w1 ⟨rfl, hb1⟩
        have HB := hb.out.trans (hb1.mono hb.out.size)
        clear hb hb1
        go_wp2_with fail
        exact ⟨⟨k + 1, by omega, by go_num, hn', HB⟩, by simp [intOf]; omega⟩
    · have hfin : Hid (codeOf s = -1) := codeOf_none s fun j hj => hn.out j (by omega)
      go_wp2_with fail
      go_ret
      exact ⟨ret_int hfin.out.symm, hb.out⟩

def wordCells : Array Value := (words.map Value.string).toArray
def HasTab (w : World) : Prop := ∃ t fr, w.heap[0]? = some (.cells wordCells t fr)
theorem HasTab.below {w w' : World} (h : HasTab w) (hb : Below w.heap.size w w') : HasTab w' := by
  obtain ⟨t, fr, h1⟩ := h
  have hlt : 0 < w.heap.size := by
    apply Decidable.byContradiction
    intro hn
    rw [Array.getElem?_eq_none (by omega)] at h1
    cases h1
  exact ⟨t, fr, by rw [hb.block 0 hlt]; exact h1⟩
theorem twentyN (k : Nat) (h1 : k < 20) : k = 0 ∨ k = 1 ∨ k = 2 ∨ k = 3 ∨ k = 4 ∨ k = 5 ∨ k = 6 ∨ k = 7 ∨ k = 8 ∨ k = 9 ∨ k = 10 ∨ k = 11 ∨ k = 12 ∨ k = 13 ∨ k = 14 ∨ k = 15 ∨ k = 16 ∨ k = 17 ∨ k = 18 ∨ k = 19 := by omega
theorem index_words (k : Nat) (h : k < 20) (w : World) : (Instr.index 32 (.agg wordCells) (.int .i64 (k : Int))).run Tryd.prog w = .ok (.string (wordAt (k : Int))) w := by
  rcases twentyN k h with rfl | rfl | rfl | rfl | rfl | rfl | rfl | rfl | rfl | rfl | rfl | rfl | rfl | rfl | rfl | rfl | rfl | rfl | rfl | rfl
  all_goals kernel_rfl

set_option maxHeartbeats 400000 in
theorem codeOf9 (s : ByteArray) (w : World) (hT : HasTab w) : Calls Tryd.prog 9 #[.string s] w fun e w' => e = .returned (.int .i64 (codeOf s)) ∧ w = w' := by
  obtain ⟨tt, fr, hg⟩ := hT
  have hix := fun k h => index_words k h w
  have HX : Hid (∀ k : Nat, k < 20 → (Instr.index 32 (.agg wordCells) (.int .i64 (k : Int))).run Tryd.prog w = .ok (.string (wordAt (k : Int))) w) := hix
  clear hix
  go_enter Tryd.func9, Tryd.ntmps9
  go_wp2_with (refine wpList_load_row rfl 32 _ rfl 0 rfl tt _ fr _ hg Tryd.underlying32 rfl (by kernel_rfl) ?_)
  clear hg
  go_loop [6] (fun i => ∃ k : Nat, k ≤ 20 ∧ i = .int .i64 k ∧ Hid (∀ j : Nat, j < k → wordAt (j : Int) ≠ s)) (fun i => 20 - (intOf i).toNat)
  case atStart => exact ⟨0, by omega, rfl, fun j hj => absurd hj (by omega)⟩
  case round =>
    obtain ⟨k, hk, rfl, hn⟩ := hrel
    by_cases hlt : k < 20
    · have hx := HX.out k hlt
      by_cases hq : wordAt (k : Int) = s
      · have hq' : ((wordAt (k : Int)).toList == s.toList) = true := by rw [hq]; simp
        have hfin : Hid (codeOf s = k) := codeOf_some s k hlt hn.out hq
        clear hq
        go_wp2_with fail
        go_ret
        exact ⟨ret_int hfin.out.symm, rfl⟩
      · have hq' : ((wordAt (k : Int)).toList == s.toList) = false := by
          rw [beq_eq_false_iff_ne]; exact fun e => hq (bytes_ext e)
        have hn' : Hid (∀ j : Nat, j < k + 1 → wordAt (j : Int) ≠ s) := fun j hj => by
          by_cases e : j = k
          · rw [e]; exact hq
          · exact hn.out j (by omega)
        clear hq hn
        go_wp2_with fail
        go_round
        case rel => exact ⟨k + 1, by omega, by go_num, hn'⟩
        case measure => simp [intOf]; omega
    · have hfin : Hid (codeOf s = -1) := codeOf_none s fun j hj => hn.out j (by omega)
      go_wp2_with fail
      go_ret
      exact ⟨ret_int hfin.out.symm, rfl⟩
end Go.Proofs.YtmgplopaapmfaagDoor
