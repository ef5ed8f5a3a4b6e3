
/-
  Great letters as small ones: the program's small and the specification's. By an AI agent.
-/
import Derived.Test.YtgbhjhbmolgbeaaDoorPar1
import Derived.Lib.ConvBytes
import Derived.Laws.IdiomStrings
namespace Go.Proofs.YtgbhjhbmolgbeaaDoor
open Go.ChangeShapes Go.WideShapes Go.ChangeAt Go.RowKit Go.Deep
set_option linter.unusedVariables false
set_option maxRecDepth 100000

def lowB (c : UInt8) : UInt8 := if 65 ≤ c.toNat ∧ c.toNat ≤ 90 then UInt8.ofNat (c.toNat + 32) else c
theorem lowB_yes (c : UInt8) (h : 65 ≤ c.toNat ∧ c.toNat ≤ 90) : ((lowB c).toNat : Int) = (c.toNat : Int) + 32 := by
  unfold lowB
  rw [if_pos h, UInt8.toNat_ofNat']
  omega
theorem lowB_no (c : UInt8) (h : ¬ (65 ≤ c.toNat ∧ c.toNat ≤ 90)) : lowB c = c := by unfold lowB; rw [if_neg h]
def cellsU (l : List UInt8) : List Value := l.map fun b => .int .u8 (b.toNat : Int)
theorem cellsU_length (l : List UInt8) : (cellsU l).length = l.length := by simp [cellsU]
theorem cellsU_append (l m : List UInt8) : cellsU (l ++ m) = cellsU l ++ cellsU m := by simp [cellsU]
theorem cellsU_one (l : List UInt8) : ∀ u ∈ cellsU l, u.oneCell' = true := by
  intro u hu
  simp only [cellsU, List.mem_map] at hu
  obtain ⟨x, _, rfl⟩ := hu
  rfl
theorem cellsU_get (l : List UInt8) (k : Nat) (h : k < l.length) : (cellsU l)[k]? = some (.int .u8 ((l[k]'h).toNat : Int)) := by
  simp [cellsU, h]
theorem infoU : (Tryd.prog.info? 5).map (fun i => (i.zero, i.size, i.bytes)) = some (some (.int .u8 0), 1, 1) := by kernel_rfl
/-- A text as bytes. -/
theorem conv_in (l : List UInt8) (w : World) : ∃ cap W, (convert 9 22 (.string (bsOf l))).run Tryd.prog w = .ok (.slice (some ⟨w.heap.size, 0, none⟩) l.length cap) W ∧ Below w.heap.size w W ∧ Box W w.heap.size (cellsU l) := by
  have hr := Lib.run_convert_string_bytes (P := Tryd.prog) w 9 22 5 (bsOf l) Tryd.underlying9 Tryd.underlying22 Tryd.underlying5
  have hsz : (bsOf l).size = l.length := bsOf_size l
  rw [hsz] at hr
  refine ⟨_, _, hr, ⟨rfl, rfl, rfl, by rw [Lib.bytesWorld_size]; omega, fun j hj => Lib.bytesWorld_at_old w 5 _ j hj⟩, fun i v hv => ?_⟩
  have hi : i < l.length := by have := (List.getElem?_eq_some_iff.1 hv).1; rwa [cellsU_length] at this
  rw [cellsU_get l i hi] at hv
  refine ⟨?_, ?_⟩
  · rw [Lib.bytesWorld_cell w 5 _ i (by rw [hsz]; exact hi), ← hv, bsOf_list, List.getD_eq_getElem?_getD, List.getElem?_eq_getElem hi]
    rfl
  · have hc : i < (Lib.bytesCells w 5 (bsOf l)).size := by
      unfold Lib.bytesCells
      rw [Array.size_append, Array.size_map]
      have : (bsOf l).data.size = l.length := hsz
      omega
    simp only [World.frozen?, Lib.bytesWorld_at_new]
    simp
    omega
/-- Bytes as a text. -/
theorem conv_out {w : World} {a : Option Addr} {l : List UInt8} (c : Nat) (h : Src w a (cellsU l)) (ha : ∃ ad, a = some ad) : (convert 22 9 (.slice a l.length c)).run Tryd.prog w = .ok (.string (bsOf l)) w := by
  obtain ⟨ad, rfl⟩ := ha
  refine run_convert_bytes_back (P := Tryd.prog) w 22 9 5 ad c l Tryd.underlying22 Tryd.underlying5 Tryd.underlying9 (fun j hj => ?_)
  rcases h with h | ⟨b, o, e, hc⟩
  · have := cellsU_length l; rw [h] at this; simp only [List.length_nil] at this; omega
  · cases e
    have h1 := hc j (by rw [cellsU_length]; exact hj)
    rw [getD_some (cellsU_get l j hj)] at h1
    rw [← h1]
    unfold Addr.add
    split
    · rename_i h0; subst h0; rfl
    · rfl
theorem low_step (l : List UInt8) (k : Nat) (h : k < l.length) (v : Value) (hv : v = .int .u8 ((lowB (l[k]'h)).toNat : Int)) : (cellsU ((l.take k).map lowB ++ l.drop k)).set k v = cellsU ((l.take (k + 1)).map lowB ++ l.drop (k + 1)) := by
  subst hv
  have e1 : ((l.take k).map lowB).length = k := by simp; omega
  have e2 : cellsU (l.drop k) = .int .u8 ((l[k]'h).toNat : Int) :: cellsU (l.drop (k + 1)) := by
    rw [List.drop_eq_getElem_cons h]; rfl
  rw [cellsU_append, cellsU_append, e2, List.set_append_right _ _ (by rw [cellsU_length, e1]; exact Nat.le_refl _), cellsU_length, e1, Nat.sub_self, List.set_cons_zero]
  rw [List.take_succ_eq_append_getElem h, List.map_append, cellsU_append, List.append_assoc]
  rfl
theorem low_same (l : List UInt8) (k : Nat) (h : k < l.length) (hb : lowB (l[k]'h) = l[k]'h) : (l.take k).map lowB ++ l.drop k = (l.take (k + 1)).map lowB ++ l.drop (k + 1) := by
  rw [List.take_succ_eq_append_getElem h, List.map_append, List.append_assoc, List.drop_eq_getElem_cons h]
  simp [hb]
theorem low_at (l : List UInt8) (k : Nat) (h : k < l.length) : (cellsU ((l.take k).map lowB ++ l.drop k))[k]? = some (.int .u8 ((l[k]'h).toNat : Int)) := by
  have e1 : ((l.take k).map lowB).length = k := by simp; omega
  rw [cellsU_append, List.getElem?_append_right (by rw [cellsU_length, e1]; exact Nat.le_refl _), cellsU_length, e1, Nat.sub_self, List.drop_eq_getElem_cons h]
  rfl

set_option maxHeartbeats 1000000 in
theorem smallI (l : List UInt8) (w : World) (hl : l.length ≤ 100000) :
    Calls Tryd.prog 43 #[.string (bsOf l)] w fun e w' => e = .returned (.string (bsOf (l.map lowB))) ∧ Below w.heap.size w w' := by
  obtain ⟨cap, W, hcv, hb0, hx0⟩ := conv_in l w
  obtain ⟨s, hs⟩ : ∃ s, bsOf l = s := ⟨_, rfl⟩
  obtain ⟨n, hn⟩ : ∃ n, l.length = n := ⟨_, rfl⟩
  obtain ⟨T, hT⟩ : ∃ T, bsOf (l.map lowB) = T := ⟨_, rfl⟩
  rw [hs, hn] at hcv
  rw [hn] at hl
  have HN : Hid (l.length = n) := hn
  have HT : Hid (bsOf (l.map lowB) = T) := hT
  have HB0 : Hid (Below w.heap.size w W) := hb0
  have HX0 : Hid (Box W w.heap.size (cellsU l)) := hx0
  rw [hs, hT]
  clear hs hn hT hb0 hx0
  go_enter Tryd.func43, Tryd.ntmps43
  go_wp2_with fail
  clear hcv
  go_loopw [10] (fun i wr => ∃ k : Nat, k ≤ n ∧ i = .int .i64 (k : Int) ∧ Hid (Box wr w.heap.size (cellsU ((l.take k).map lowB ++ l.drop k))) ∧ Hid (Below w.heap.size w wr)) (fun i _ => n - (intOf i).toNat)
  case atStart => exact ⟨0, by omega, rfl, by simpa [Hid] using HX0.out, HB0.out⟩
  case round =>
    obtain ⟨k, hk, rfl, hx, hb⟩ := hrel
    by_cases hlt : k < n
    · have hkl : k < l.length := by rw [HN.out]; exact hlt
      obtain ⟨c0, f0⟩ := hx.out k _ (low_at l k hkl)
      obtain ⟨c, hc⟩ : ∃ c, (l[k]'hkl).toNat = c := ⟨_, rfl⟩
      have hc8 : c < 256 := by rw [← hc]; exact UInt8.toNat_lt _
      rw [hc] at c0
      have hki : (k : Int) < (n : Int) := by omega
      have hk0 : (0 : Int) ≤ (k : Int) := by omega
      by_cases hL : 65 ≤ c ∧ c ≤ 90
      · have HS : Hid (cellsU ((l.take k).map lowB ++ l.drop k) = cellsU ((l.take k).map lowB ++ l.drop k)) := rfl
        have HV : Hid (Value.int .u8 ((c : Int) - 65 + 97) = .int .u8 ((lowB (l[k]'hkl)).toNat : Int)) := by
          show _ = _; rw [lowB_yes _ (by rw [hc]; exact hL), hc]; congr 1; omega
        have NX : Hid (Box (wr.setCell ⟨w.heap.size, k, none⟩ (.int .u8 ((c : Int) - 65 + 97))) w.heap.size (cellsU ((l.take (k + 1)).map lowB ++ l.drop (k + 1)))) := by
          have h9 := hx.out.set k (.int .u8 ((c : Int) - 65 + 97))
          rw [low_step l k hkl _ HV.out] at h9
          exact h9
        have h1 : decide ((65 : Int) ≤ (c : Int)) = true := decide_eq_true (by omega)
        have h2 : decide ((c : Int) ≤ 90) = true := decide_eq_true (by omega)
        have hw1 : IntKind.u8.wrap ((c : Int) - 65) = (c : Int) - 65 := by rw [IntKind.wrap_u8]; omega
        have hw2 : IntKind.u8.wrap ((c : Int) - 65 + 97) = (c : Int) - 65 + 97 := by rw [IntKind.wrap_u8]; omega
        clear hc HS HV hkl
        go_wp2_with fail
        exact ⟨⟨k + 1, by omega, by go_num, NX.out, hb.out.setCell (Nat.le_refl _) _⟩, by simp [intOf]; omega⟩
      · have NX : Hid (Box wr w.heap.size (cellsU ((l.take (k + 1)).map lowB ++ l.drop (k + 1)))) := by
          show Box _ _ _
          rw [← low_same l k hkl (lowB_no _ (by rw [hc]; exact hL))]
          exact hx.out
        clear hc hkl
        by_cases hA : (65 : Int) ≤ (c : Int)
        · have h1 : decide ((65 : Int) ≤ (c : Int)) = true := decide_eq_true hA
          have h2 : decide ((c : Int) ≤ 90) = false := decide_eq_false (by omega)
          go_wp2_with fail
          exact ⟨⟨k + 1, by omega, by go_num, NX.out, hb.out⟩, by simp [intOf]; omega⟩
        · have h1 : decide ((65 : Int) ≤ (c : Int)) = false := decide_eq_false hA
          go_wp2_with fail
          exact ⟨⟨k + 1, by omega, by go_num, NX.out, hb.out⟩, by simp [intOf]; omega⟩
    · have hkn : k = n := by omega
      have hx2 : Box wr w.heap.size (cellsU (l.map lowB)) := by
        have h9 := hx.out
        rw [hkn, ← HN.out, List.take_of_length_le (Nat.le_refl _), List.drop_of_length_le (Nat.le_refl _), List.append_nil] at h9
        exact h9
      have hcv : ∀ c, (convert 22 9 (.slice (some ⟨w.heap.size, 0, none⟩) n c)).run Tryd.prog wr = .ok (.string T) wr := fun c => by
        have h9 := conv_out (w := wr) (a := some ⟨w.heap.size, 0, none⟩) (l := l.map lowB) c (.inr ⟨_, 0, rfl, fun j hj => by
          rw [cellsU_length] at hj
          rw [Nat.zero_add, (hx2 j _ (cellsU_get _ j hj)).1, getD_some (cellsU_get _ j hj)]⟩) ⟨_, rfl⟩
        rw [List.length_map, HN.out, HT.out] at h9
        exact h9
      clear hkn hx2
      go_wp2_with fail
      go_ret
      exact ⟨rfl, hb.out⟩
end Go.Proofs.YtgbhjhbmolgbeaaDoor
