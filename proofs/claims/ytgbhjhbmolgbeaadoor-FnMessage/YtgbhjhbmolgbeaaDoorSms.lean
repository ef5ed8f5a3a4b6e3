
/-
  Great letters as small ones, by the specification. By an AI agent.
-/
import Derived.Test.YtgbhjhbmolgbeaaDoorSml
import Derived.Test.YtgbhjhbmolgbeaaDoorMsg1
namespace Go.Proofs.YtgbhjhbmolgbeaaDoor
open Go.ChangeShapes Go.WideShapes Go.ChangeAt Go.RowKit Go.Deep
set_option linter.unusedVariables false
set_option maxRecDepth 100000

theorem src_oneU {w : World} {x : Value} {B t : Nat} (hB : B = w.heap.size) : Src (w.alloc (.cells #[x] t)) (some ⟨B, 0, none⟩) [x] := by
  subst hB
  refine .inr ⟨_, 0, rfl, fun j hj => ?_⟩
  have hb := Box.new (w := w) (B := w.heap.size) (vs := #[x]) (t := t) rfl
  have hj2 : j < 1 := hj
  obtain rfl : j = 0 := by omega
  exact (hb 0 _ rfl).1
theorem bs_at2 (tl : List UInt8) (s : ByteArray) (hs : bsOf tl = s) (k : Nat) (hk : k < s.size) : tl.getD k 0 = s[k]'hk := by
  subst hs
  have h2 : k < tl.length := by rwa [bsOf_size] at hk
  rw [List.getD_eq_getElem?_getD, List.getElem?_eq_getElem h2]; rfl
theorem low_snoc (l : List UInt8) (k : Nat) (h : k < l.length) (v : Value) (hv : v = .int .u8 ((lowB (l[k]'h)).toNat : Int)) : cellsU ((l.take k).map lowB) ++ [v] = cellsU ((l.take (k + 1)).map lowB) := by
  subst hv
  rw [List.take_succ_eq_append_getElem h, List.map_append, cellsU_append]
  rfl

set_option maxHeartbeats 1000000 in
theorem l08SmallS (l : List UInt8) (w : World) (hl : l.length ≤ 100000) :
    Calls Tryd.prog 65 #[.string (bsOf l)] w fun e w' => e = .returned (.string (bsOf (l.map lowB))) ∧ Below w.heap.size w w' := by
  obtain ⟨s, hs⟩ : ∃ s, bsOf l = s := ⟨_, rfl⟩
  obtain ⟨T, hT⟩ : ∃ T, bsOf (l.map lowB) = T := ⟨_, rfl⟩
  have HS : Hid (bsOf l = s) := hs
  have HT : Hid (bsOf (l.map lowB) = T) := hT
  have hsz : s.size ≤ 100000 := by rw [← hs, bsOf_size]; exact hl
  have HN : Hid (l.length = s.size) := by show _ = _; rw [← hs, bsOf_size]
  rw [hs, hT]
  clear hs hT hl
  go_enter Tryd.func65, Tryd.ntmps65
  go_wp2_with fail
  go_loopw [3, 4] (fun v i wr => ∃ k : Nat, k ≤ s.size ∧ i = .int .i64 (k : Int) ∧ (∃ a c, v = .slice (some a) k c) ∧ Hid (wr.ownsRow w.heap.size 5 1 v k (cellsU ((l.take k).map lowB))) ∧ Hid (Below w.heap.size w wr)) (fun _ i _ => s.size - (intOf i).toNat)
  case atStart => exact ⟨0, by omega, rfl, ⟨_, _, rfl⟩, own_congr (own_empty rfl (Nat.le_refl _)) rfl, (Below.refl _ _).alloc (Nat.le_refl _) _⟩
  case round =>
    obtain ⟨k, hk, rfl, ⟨va, vc, rfl⟩, ho, hb⟩ := hrel
    by_cases hlt : k < s.size
    · have hkl : k < l.length := by rw [HN.out]; exact hlt
      have hat : l[k]'hkl = s[k] := by
        have h9 := bs_at2 l s HS.out k hlt
        rw [List.getD_eq_getElem?_getD, List.getElem?_eq_getElem hkl] at h9
        exact h9
      have hc8 : s[k].toNat < 256 := UInt8.toNat_lt _
      have h64 := w64u8 s[k]
      by_cases hL : 65 ≤ s[k].toNat ∧ s[k].toNat ≤ 90
      · have HV : Hid (cellsU ((l.take k).map lowB) ++ [.int .u8 ((s[k].toNat : Int) + 32)] = cellsU ((l.take (k + 1)).map lowB)) := low_snoc l k hkl _ (by rw [lowB_yes _ (by rw [hat]; exact hL), hat])
        have hw1 : IntKind.u8.wrap ((s[k].toNat : Int) + 32) = (s[k].toNat : Int) + 32 := by rw [IntKind.wrap_u8]; omega
        have hyes : Hid ((65 : Int) ≤ (s[k].toNat : Int) ∧ (s[k].toNat : Int) ≤ 90) := ⟨by omega, by omega⟩
        clear hkl hat
        go_wp2_with (first | (go_at_call 63; refine (inR_yes _ _ _ _ hyes.out).mono ?_; rintro e w' ⟨rfl, rfl⟩) | (at_builtin; refine wpList_append_src _ rfl _ _ 22 rfl w.heap.size 5 (.int .u8 0) 1 1 Tryd.underlying22 infoU rfl (by decide) (by decide) (.slice (some va) k vc) k (cellsU ((l.take k).map lowB)) rfl (ho.out.alloc _) (some ⟨wr.heap.size, 0, none⟩) 1 1 [.int .u8 ((s[k].toNat : Int) + 32)] rfl rfl (src_oneU rfl) (by simp [Value.oneCell']) (by omega) (by have := hb.out.size; simp; omega) ?_))
        intro v' w2 hown hgrow
        have hnn : ∃ a c, v' = .slice (some a) (k + 1) c := by
          obtain ⟨a9, c9, e9, s9, _⟩ := own_src hown
          cases a9 with
          | some ad => exact ⟨ad, c9, e9⟩
          | none => rcases s9 with h | ⟨b, o, e, _⟩
                    · simp at h
                    · cases e
        obtain ⟨a', d', rfl⟩ := hnn
        have B2 : Hid (Below w.heap.size w w2) := (hb.out.alloc hb.out.size _).grown hgrow (le_alloc hb.out.size _) (fun g e => (ho.out.lt g e).1)
        have O2 : Hid (w2.ownsRow w.heap.size 5 1 (.slice (some a') (k + 1) d') (k + 1) (cellsU ((l.take (k + 1)).map lowB))) := own_congr hown (by rw [← List.map_take]; exact HV.out)
        clear hown hgrow
        go_wp2_with fail
        exact ⟨⟨k + 1, by omega, by go_num, ⟨_, _, rfl⟩, O2.out, B2.out⟩, by simp [intOf]; omega⟩
      · have HV : Hid (cellsU ((l.take k).map lowB) ++ [.int .u8 (s[k].toNat : Int)] = cellsU ((l.take (k + 1)).map lowB)) := low_snoc l k hkl _ (by rw [lowB_no _ (by rw [hat]; exact hL), hat])
        have hno : Hid (¬ ((65 : Int) ≤ (s[k].toNat : Int) ∧ (s[k].toNat : Int) ≤ 90)) := by show ¬ _; omega
        clear hkl hat
        go_wp2_with (first | (go_at_call 63; refine (inR_no _ _ _ _ hno.out).mono ?_; rintro e w' ⟨rfl, rfl⟩) | (at_builtin; refine wpList_append_src _ rfl _ _ 22 rfl w.heap.size 5 (.int .u8 0) 1 1 Tryd.underlying22 infoU rfl (by decide) (by decide) (.slice (some va) k vc) k (cellsU ((l.take k).map lowB)) rfl (ho.out.alloc _) (some ⟨wr.heap.size, 0, none⟩) 1 1 [.int .u8 (s[k].toNat : Int)] rfl rfl (src_oneU rfl) (by simp [Value.oneCell']) (by omega) (by have := hb.out.size; simp; omega) ?_))
        intro v' w2 hown hgrow
        have hnn : ∃ a c, v' = .slice (some a) (k + 1) c := by
          obtain ⟨a9, c9, e9, s9, _⟩ := own_src hown
          cases a9 with
          | some ad => exact ⟨ad, c9, e9⟩
          | none => rcases s9 with h | ⟨b, o, e, _⟩
                    · simp at h
                    · cases e
        obtain ⟨a', d', rfl⟩ := hnn
        have B2 : Hid (Below w.heap.size w w2) := (hb.out.alloc hb.out.size _).grown hgrow (le_alloc hb.out.size _) (fun g e => (ho.out.lt g e).1)
        have O2 : Hid (w2.ownsRow w.heap.size 5 1 (.slice (some a') (k + 1) d') (k + 1) (cellsU ((l.take (k + 1)).map lowB))) := own_congr hown (by rw [← List.map_take]; exact HV.out)
        clear hown hgrow
        go_wp2_with fail
        exact ⟨⟨k + 1, by omega, by go_num, ⟨_, _, rfl⟩, O2.out, B2.out⟩, by simp [intOf]; omega⟩
    · have hkn : k = s.size := by omega
      have hcv : (convert 22 9 (.slice (some va) k vc)).run Tryd.prog wr = .ok (.string T) wr := by
        obtain ⟨a9, c9, e9, s9, _⟩ := own_src ho.out
        cases e9
        rw [hkn, ← HN.out, List.take_of_length_le (Nat.le_refl _)] at s9
        have h9 := conv_out (w := wr) (l := l.map lowB) vc s9 ⟨va, rfl⟩
        rw [List.length_map, HT.out, HN.out, ← hkn] at h9
        exact h9
      clear hkn
      go_wp2_with fail
      go_ret
      exact ⟨rfl, hb.out⟩
end Go.Proofs.YtgbhjhbmolgbeaaDoor
