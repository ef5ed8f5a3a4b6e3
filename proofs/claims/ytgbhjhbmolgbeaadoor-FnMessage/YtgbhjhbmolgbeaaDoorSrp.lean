
/-
  Searching mails: what is sought in what, bytes alone; the parts of the program and of the specification that test one mail. By an AI agent.
-/
import Derived.Test.YtgbhjhbmolgbeaaDoorFog
import Derived.Test.YtgbhjhbmolgbeaaDoorListsm
namespace Go.Proofs.YtgbhjhbmolgbeaaDoor
open Go.ChangeShapes Go.WideShapes Go.ChangeAt Go.RowKit Go.Deep
set_option linter.unusedVariables false
set_option maxRecDepth 100000

def textOf (nm t : ByteArray) : Option ByteArray := if nm.size = 0 then some t else match parse t.data.toList with
  | none => none
  | some D => (findF D.F nm).map (·.2)
def hit (nm wd : ByteArray) (x : MMl) : Bool := match textOf nm x.2.2 with
  | none => false
  | some v => Lib.contains (lowL v) (lowL wd)
def longM (x : MMl) : Bool := decide (85 < x.2.2.size)
def srchA (L : List MMl) (nm wd : ByteArray) : List Int × Int :=
  if 4096 < L.length ∨ 65536 < nm.size ∨ 65536 < wd.size then ([], 2) else if 100 < L.length then ([], 6) else if L.any longM then ([], 1) else ((L.filter (hit nm wd)).map (·.1), 0)
theorem parse_fit {l : List UInt8} {D : GM} (hl : l.length ≤ 85) (h : parse l = some D) : D.F.all fldB = true := by
  unfold parse at h
  rw [agree _ _ _ hl rfl] at h
  unfold fitO at h
  cases hh : headF (l.length + 1) l [] with
  | none => rw [hh] at h; cases h
  | some x =>
    rw [hh] at h
    simp only [Option.bind_some] at h
    split at h
    · rename_i hf
      cases h
      exact (fitsB_facts hf).2.2
    · cases h
theorem textOf_size (nm t v : ByteArray) (ht : t.size ≤ 85) (h : textOf nm t = some v) : v.size ≤ 85 := by
  unfold textOf at h
  split at h
  · cases h; exact ht
  · cases hp : parse t.data.toList with
    | none => rw [hp] at h; cases h
    | some D =>
      rw [hp] at h
      simp only at h
      have hall := parse_fit (by simpa using ht) hp
      cases hf : findF D.F nm with
      | none => rw [hf] at h; cases h
      | some f =>
        simp only [hf, Option.map_some, Option.some.injEq] at h
        have hm : f ∈ D.F := List.mem_of_find?_eq_some hf
        have := List.all_eq_true.1 hall f hm
        unfold fldB at this
        simp only [Bool.and_eq_true, decide_eq_true_eq] at this
        rw [← h]
        exact this.2.1
theorem fof_text (nm t : ByteArray) (ht : t.size ≤ 85) (hn0 : nm.size ≠ 0) (hn : nm.size ≤ 65536) : fofA t.data.toList nm = match textOf nm t with
    | some v => (v, 0)
    | none => (⟨#[]⟩, if (parse t.data.toList).isSome then 5 else 3) := by
  have hl : t.data.toList.length ≤ 85 := by simpa using ht
  unfold fofA textOf
  rw [if_neg (by omega), msgA_eq _ (by omega), if_neg hn0]
  cases hp : parse t.data.toList with
  | none => simp
  | some D =>
    simp only [hl, Option.isSome_some, Option.getD_some, true_and, if_true]
    cases findF D.F nm <;> rfl

theorem holds_yes (t u : List UInt8) (i : Nat) (hi : i + u.length ≤ t.length) (h : (t.drop i).take u.length = u) : Lib.contains t u = true := by
  have ho : Lib.occAt t u i = true := by
    unfold Lib.occAt
    rw [List.isPrefixOf_iff_prefix, ← h]
    exact List.take_prefix _ _
  unfold Lib.contains
  rcases Lib.index_spec t u with ⟨h1, h2⟩ | ⟨j, h1, _⟩
  · have := h2 i (by omega)
    rw [ho] at this
    cases this
  · rw [h1]; simp
theorem holds_no (t u : List UInt8) (h : ∀ i, i + u.length ≤ t.length → (t.drop i).take u.length ≠ u) : Lib.contains t u = false := by
  unfold Lib.contains
  rcases Lib.index_spec t u with ⟨h1, h2⟩ | ⟨j, h1, hj, ho, _⟩
  · rw [h1]; rfl
  · exfalso
    unfold Lib.occAt at ho
    rw [List.isPrefixOf_iff_prefix] at ho
    have hlen := ho.length_le
    simp at hlen
    refine h j (by omega) ?_
    exact (List.prefix_iff_eq_take.1 ho).symm

set_option maxHeartbeats 800000 in
theorem l08HoldsS (t u : List UInt8) (w : World) (ht : t.length ≤ 100000) (hu : u.length ≤ 100000) :
    Calls Tryd.prog 67 #[.string (bsOf t), .string (bsOf u)] w fun e w' => e = .returned (.bool (Lib.contains t u)) ∧ w = w' := by
  obtain ⟨s, hs⟩ : ∃ s, bsOf t = s := ⟨_, rfl⟩
  obtain ⟨v, hv⟩ : ∃ v, bsOf u = v := ⟨_, rfl⟩
  have hss : s.size = t.length := by rw [← hs, bsOf_size]
  have hvs : v.size = u.length := by rw [← hv, bsOf_size]
  obtain ⟨r, hr⟩ : ∃ r, Lib.contains t u = r := ⟨_, rfl⟩
  have HQ : Hid (∀ i, i + v.size ≤ s.size → ((s.extract i (i + v.size)).toList == v.toList) = ((t.drop i).take u.length == u)) := fun i hi => by
    rw [← hs, ← hv, Lib.toList_data, Lib.toList_data, bsOf_list, Lib.extract_eq, bsOf_list, bsOf_size]
    rw [show i + u.length - i = u.length by omega]
  have HY : Hid (∀ i, i + v.size ≤ s.size → ((t.drop i).take u.length == u) = true → r = true) := fun i hi h => by
    rw [← hr]; exact holds_yes t u i (by omega) (beq_iff_eq.1 h)
  have HN : Hid ((∀ i, i + v.size ≤ s.size → ((t.drop i).take u.length == u) = false) → r = false) := fun h => by
    rw [← hr]; exact holds_no t u (fun i hi => beq_eq_false_iff_ne.1 (h i (by omega)))
  have hsb : s.size ≤ 100000 := by omega
  have hvb : v.size ≤ 100000 := by omega
  rw [hs, hv, hr]
  clear hs hv hss hvs hr ht hu
  go_enter Tryd.func67, Tryd.ntmps67
  go_wp2_with fail
  go_loop [5] (fun i => ∃ k : Nat, k ≤ s.size + 1 ∧ i = .int .i64 (k : Int) ∧ Hid (∀ j, j < k → j + v.size ≤ s.size → ((t.drop j).take u.length == u) = false)) (fun i => s.size + 1 - (intOf i).toNat)
  case atStart => exact ⟨0, by omega, rfl, fun j hj => absurd hj (by omega)⟩
  case round =>
    obtain ⟨k, hk, rfl, hall⟩ := hrel
    by_cases hlt : k + v.size ≤ s.size
    · have hle : (k : Int) + (v.size : Int) ≤ (s.size : Int) := by omega
      have hq := HQ.out k hlt
      have hk0 : (0 : Int) ≤ (k : Int) := by omega
      have hto : ((k : Int) + (v.size : Int)).toNat = k + v.size := by omega
      have hcut : ∀ W, (Instr.slice 9 (.string s) (some (.int .i64 (k : Int))) (some (.int .i64 ((k : Int) + (v.size : Int)))) none).run Tryd.prog W = .ok (.string (s.extract k (k + v.size))) W := fun W => by
        have h9 := run_slice_string (P := Tryd.prog) W 9 s .i64 .i64 (k : Int) ((k : Int) + (v.size : Int)) Tryd.underlying9 (by omega) (by omega) (by omega)
        rw [hto] at h9
        exact h9
      obtain ⟨X, hX⟩ : ∃ X, s.extract k (k + v.size) = X := ⟨_, rfl⟩
      rw [hX] at hq hcut
      clear hX
      cases hb : ((t.drop k).take u.length == u) with
      | true =>
        rw [hb] at hq
        obtain rfl := HY.out k hlt hb
        clear hb
        go_wp2_with fail
        go_ret
        exact ⟨rfl, rfl⟩
      | false =>
        rw [hb] at hq
        have HNX : Hid (∀ j, j < k + 1 → j + v.size ≤ s.size → ((t.drop j).take u.length == u) = false) := fun j hj hj2 => by
          rcases Nat.lt_or_ge j k with h | h
          · exact hall.out j h hj2
          · have : j = k := by omega
            rw [this]; exact hb
        clear hb
        go_wp2_with fail
        go_round
        case rel => exact ⟨k + 1, by omega, by go_num, HNX⟩
        case measure => simp [intOf]; omega
    · obtain rfl := HN.out (fun i hi => hall.out i (by omega) hi)
      go_wp2_with fail
      go_ret
      exact ⟨rfl, rfl⟩
theorem containsC (t u : List UInt8) (w : World) (ht : t.length ≤ 100000) (hm : MaxAt w) :
    Calls Tryd.prog 47 #[.string (bsOf t), .string (bsOf u)] w fun e w' => e = .returned (.bool (Lib.contains t u)) ∧ w' = w := by
  obtain ⟨m, hm⟩ := hm
  have h9 := Tryd.strings_Contains (bsOf t) (bsOf u) m w (by rw [bsOf_size]; omega) hm
  rwa [bsOf_list, bsOf_list] at h9

set_option maxHeartbeats 800000 in
theorem searchedI (x y : Int) (t nm : ByteArray) (w : World) (ht : t.size ≤ 85) (hn : nm.size ≤ 65536) (hm : MaxAt w) :
    Calls Tryd.prog 46 #[.agg #[.int .i64 x, .int .i64 y, .string t], .string nm] w fun e w' => ∃ v, e = .returned (.tuple #[.string v, .bool (textOf nm t).isSome]) ∧ (∀ z, textOf nm t = some z → v = z) ∧ Below w.heap.size w w' := by
  by_cases h0 : nm.size = 0
  · have hT : textOf nm t = some t := by unfold textOf; rw [if_pos h0]
    rw [hT]
    have hq : (nm.toList == []) = true := by
      rw [Lib.toList_data, beq_iff_eq]; exact List.length_eq_zero_iff.1 (by simpa using h0)
    clear hT h0
    go_enter Tryd.func46, Tryd.ntmps46
    go_wp2_with fail
    go_ret2
    exact ⟨t, rfl, fun z hz => Option.some.inj hz, (Below.refl _ _).alloc (Nat.le_refl _) _⟩
  have hF := fof_text nm t ht h0 hn
  have hq : (nm.toList == []) = false := by
    rw [Lib.toList_data, beq_eq_false_iff_ne]
    intro e
    have h9 : nm.data.toList.length = nm.size := by simp
    rw [e] at h9
    simp only [List.length_nil] at h9
    omega
  have HC : ∀ w, MaxAt w → Calls Tryd.prog 14 #[.string t, .string nm] w fun e w' => e = .returned (.tuple #[.string (fofA t.data.toList nm).1, .int .i64 (fofA t.data.toList nm).2]) ∧ Below w.heap.size w w' := fun w hm => by
    have h9 := implFieldOf t.data.toList nm w (by have : t.data.toList.length = t.size := by simp
                                                  omega) (by omega) hm
    rwa [bsOf_data] at h9
  obtain ⟨o, ho⟩ : ∃ o, textOf nm t = o := ⟨_, rfl⟩
  rw [ho] at hF
  rw [ho]
  have HM : Hid (MaxAt w) := hm
  clear ho hm h0
  cases o with
  | some z =>
    simp only at hF
    rw [hF] at HC
    clear hF
    have hc0 : ((0 : Int) == 0) = true := rfl
    go_enter Tryd.func46, Tryd.ntmps46
    go_wp2_with (go_at_call 14; refine (HC _ (HM.out.below ((Below.refl _ _).alloc (Nat.le_refl _) _))).mono ?_; rintro e w1 ⟨rfl, hb1⟩)
    go_ret2
    exact ⟨z, rfl, fun y hy => Option.some.inj hy, Below.new hb1⟩
  | none =>
    simp only at hF
    obtain ⟨C, hC⟩ : ∃ C : Int, (if (parse t.data.toList).isSome = true then (5 : Int) else 3) = C := ⟨_, rfl⟩
    have hC0 : (C == 0) = false := by rw [← hC]; split <;> rfl
    rw [hC] at hF
    rw [hF] at HC
    clear hF hC
    go_enter Tryd.func46, Tryd.ntmps46
    go_wp2_with (go_at_call 14; refine (HC _ (HM.out.below ((Below.refl _ _).alloc (Nat.le_refl _) _))).mono ?_; rintro e w1 ⟨rfl, hb1⟩)
    go_ret2
    exact ⟨⟨#[]⟩, rfl, (fun y hy => by cases hy), Below.new hb1⟩
end Go.Proofs.YtgbhjhbmolgbeaaDoor
