
/-
  All keys of two lists of pairs, rising: the program's keysOf. By an AI agent.
-/
import Derived.Test.YtmbndpgoihdpnaaGreatDoorDifm
import Derived.Test.YtmbndpgoihdpnaaGreatDoorShelf
import Derived.Lib.OwnBridge
import Derived.Sort.OwnSorted
namespace Go.Proofs.YtmbndpgoihdpnaaGreatDoor
open Go.ChangeShapes Go.WideShapes Go.ChangeAt Go.RowKit Go.Deep
set_option linter.unusedVariables false
set_option maxRecDepth 100000

def upTo (L1 L2 : List PM) : Nat → List ByteArray
  | 0 => []
  | 1 => L1.map (·.1)
  | _ => L1.map (·.1) ++ L2.map (·.1)
theorem fst_take {L : List PM} {k : Nat} {x y : ByteArray} (h : L[k]? = some (x, y)) : (L.map (·.1)).take (k + 1) = (L.map (·.1)).take k ++ [x] := by
  rw [List.take_add_one, List.getElem?_map, h]
  rfl
theorem src_oneS9 {w : World} {y : ByteArray} {B t : Nat} (hB : B = w.heap.size) : Src (w.alloc (.cells #[.string y] t)) (some ⟨B, 0, none⟩) (cellsS [y]) := by
  subst hB
  refine .inr ⟨_, 0, rfl, fun j hj => ?_⟩
  have hb := Box.new (w := w) (B := w.heap.size) (vs := #[.string y]) (t := t) rfl
  have hj' : j < 1 := hj
  rw [Nat.zero_add]
  match j, hj' with
  | 0, _ => exact (hb 0 _ rfl).1
/-- What sorting and compacting leave of texts that are owned. -/
theorem own_sorted {w0 w1 : World} {g cap n nn q : Nat} {os : Array Obj} {ss : List (List UInt8)} (ho : w1.ownsRow w0.heap.size 9 1 (.slice (some ⟨g, 0, none⟩) n cap) n (ss.map encStr)) (hb : Below w0.heap.size w0 w1) (hg : w0.heap.size ≤ g) (hl : ss.length = n) :
    let W := Sort.putRow encStr (Sort.ahead (Sort.grow (Sort.putRow encStr (Sort.ahead w1 nn) g 0 (ss.mergeSort fun x y => decide (x ≤ y)).toArray) os) q) g 0 (sortK ss ++ List.replicate (n - (sortK ss).length) []).toArray
    W.ownsRow w0.heap.size 9 1 (.slice (some ⟨g, 0, none⟩) (sortK ss).length cap) (sortK ss).length ((sortK ss).map encStr) ∧ Below w0.heap.size w0 W := by
  have hm : (ss.mergeSort fun x y => decide (x ≤ y)).length = ss.length := List.length_mergeSort ss
  have hle : (sortK ss).length ≤ ss.length := by
    have h9 := Lib.compact_length_le (ss.mergeSort fun x y => decide (x ≤ y))
    rw [hm] at h9
    exact h9
  subst hl
  obtain ⟨_, ⟨hv, _⟩ | ⟨g', cap', cur, hv, h1, h2, h3, h4, h5, h6⟩⟩ := ho
  · cases hv
  cases hv
  have hs := ownsRow_sorted (n := nn) (os := os) (ts := ss.mergeSort fun x y => decide (x ≤ y)) hm h1 h2 h3 h4 h5
  have hk := Lib.ownsRow_putRow (q := q) (k := (sortK ss).length) (ys := sortK ss ++ List.replicate (ss.length - (sortK ss).length) []) hs (by simp; omega) hle
  rw [List.take_left] at hk
  exact ⟨hk, Lib.below_putRow (hb.grown (grownBy_sorted _) hb.size (fun j hj => by cases hj; exact hg)) hg⟩
set_option maxHeartbeats 2000000 in
theorem keysOf (a1 a2 : Option Addr) (n1 n2 c1 c2 : Nat) (L1 L2 : List PM) (w : World) (hL1 : L1.length = n1) (hL2 : L2.length = n2) (hn1 : n1 ≤ 60) (hn2 : n2 ≤ 60) (h1 : Src w a1 (cellsP L1)) (h2 : Src w a2 (cellsP L2)) :
    Calls Tryz.prog 91 #[.slice a1 n1 c1, .slice a2 n2 c2] w fun e w' => ∃ a m c, e = .returned (.slice a m c) ∧ (keysM L1 L2).length = m ∧ Src w' a (cellsS (keysM L1 L2)) ∧ Below w.heap.size w w' := by
  have HL : Hid (L1.length = n1 ∧ L2.length = n2) := ⟨hL1, hL2⟩
  have S1 : Hid (Src w a1 (cellsP L1)) := h1
  have S2 : Hid (Src w a2 (cellsP L2)) := h2
  have A0 : Hid (Below w.heap.size w (w.alloc (.cells #[.slice a1 n1 c1, .slice a2 n2 c2] 28))) := (Below.refl _ _).alloc (Nat.le_refl _) _
  have X0 : Hid (Box (w.alloc (.cells #[.slice a1 n1 c1, .slice a2 n2 c2] 28)) w.heap.size [.slice a1 n1 c1, .slice a2 n2 c2]) := Box.new rfl
  clear hL1 hL2 h1 h2
  go_enter Tryz.func91, Tryz.ntmps91
  go_wp2_with fail
  go_loopw [5, 14] (fun lv iv wr => ∃ (z : Int) (u : Value) (M : List ByteArray), iv = .int .i64 z ∧ u = lv ∧ ((z = 0 ∧ Hid (M = upTo L1 L2 0)) ∨ (z = 1 ∧ Hid (M = upTo L1 L2 1)) ∨ (z = 2 ∧ Hid (M = upTo L1 L2 2))) ∧ Hid (M.length ≤ 120) ∧ Hid (Below w.heap.size w wr) ∧ Hid (Box wr w.heap.size [.slice a1 n1 c1, .slice a2 n2 c2]) ∧ Hid (wr.ownsRow (w.heap.size + 1) 9 1 u M.length (cellsS M))) (fun _ i _ => 2 - (RowKit.intOf i).toNat)
  case atStart => exact ⟨0, _, [], rfl, rfl, .inl ⟨rfl, rfl⟩, by show [].length ≤ 120; simp, A0.out, X0.out, World.ownsRow_nil _ _ _ _⟩
  case round =>
    clear A0 X0
    obtain ⟨z, u, M, rfl, hu, hcase, hM9, hb, hx, ho⟩ := hrel
    subst hu
    rcases hcase with ⟨rfl, hM⟩ | ⟨rfl, hM⟩ | ⟨rfl, hM⟩
    · obtain ⟨e0, _⟩ := hx.out 0 _ rfl
      obtain ⟨m0, hm0⟩ : ∃ m, M.length = m := ⟨_, rfl⟩
      have HM0 : Hid (M.length = m0) := hm0
      have hm9 : m0 ≤ 120 := by rw [← hm0]; exact hM9.out
      rw [hm0] at ho
      have hM9b : Hid (m0 ≤ 0) := by show _ ≤ _; rw [← hm0, hM.out]; exact Nat.le_refl _
      clear hm0
      go_wp2_with fail
      go_loopw [5, 20] (fun lv jv wr => ∃ (j : Nat) (u : Value), j ≤ n1 ∧ jv = .int .i64 (j : Int) ∧ u = lv ∧ Hid (Below w.heap.size w wr) ∧ Hid (Box wr w.heap.size [.slice a1 n1 c1, .slice a2 n2 c2]) ∧ Hid (wr.ownsRow (w.heap.size + 1) 9 1 u (m0 + j) (cellsS (M ++ (L1.map (·.1)).take j)))) (fun _ i _ => n1 - (RowKit.intOf i).toNat)
      case atStart => exact ⟨0, _, by omega, rfl, rfl, hb.out, hx.out, by simpa [Hid] using ho.out⟩
      case round =>
        clear hb hx ho e0
        obtain ⟨j, u, hj, rfl, hu, hb, hx, ho⟩ := hrel
        subst hu
        by_cases hlt : j < n1
        · have hji : (j : Int) < (n1 : Int) := by omega
          obtain ⟨pb, po, x, y, rfl, pc1, pc2, hp⟩ := srcP (S1.out.below hb.out) (i := j) (by rw [HL.out.1]; exact hlt)
          have HX : Hid (L1[j]? = some (x, y)) := by
            show _ = _
            have h9 := hp.out
            rw [List.getD_eq_getElem?_getD, List.getElem?_eq_getElem (by rw [HL.out.1]; exact hlt)] at h9
            rw [List.getElem?_eq_getElem (by rw [HL.out.1]; exact hlt)]
            exact congrArg some h9
          have NX : Hid (M ++ (L1.map (·.1)).take (j + 1) = (M ++ (L1.map (·.1)).take j) ++ [x]) := by show _ = _; rw [fst_take HX.out, List.append_assoc]
          have hlt3 : Hid (∀ g, Value.ownBlock u = some g → w.heap.size + 1 ≤ g) := fun g e => (ho.out.lt g e).1
          have Z0 : Hid (w.heap.size + 1 ≤ wr.heap.size) := World.block_lt_of_cell? _ _ (hx.out 0 _ rfl).1
          have BA : Hid (Below w.heap.size w ((wr.alloc (.cells #[.string x, .string y] 70)).alloc (.cells #[.string x] 9))) := (hb.out.alloc hb.out.size _).alloc (le_alloc hb.out.size _) _
          have XA : Hid (Box ((wr.alloc (.cells #[.string x, .string y] 70)).alloc (.cells #[.string x] 9)) w.heap.size [.slice (some ⟨pb, po, none⟩) n1 c1, .slice a2 n2 c2]) := (hx.out.old _).old _
          have RA : Hid (((wr.alloc (.cells #[.string x, .string y] 70)).alloc (.cells #[.string x] 9)).ownsRow (w.heap.size + 1) 9 1 u (m0 + j) (cellsS (M ++ (L1.map (·.1)).take j))) := (ho.out.alloc _).alloc _
          go_wp2_with (at_builtin; refine wpList_append_src _ rfl _ _ 49 rfl (w.heap.size + 1) 9 (.string ⟨#[]⟩) 1 16 Tryz.underlying49 infoS rfl (by decide) (by decide) _ (m0 + j) _ rfl RA.out (some ⟨wr.heap.size + 1, 0, none⟩) 1 1 (cellsS [x]) rfl rfl (src_oneS9 (by simp)) (cellsS_one _) (by omega) (le_alloc (le_alloc Z0.out _) _) ?_)
          intro v3 w3 hown3 hgrow3
          have O3 : Hid (w3.ownsRow (w.heap.size + 1) 9 1 v3 (m0 + (j + 1)) (cellsS (M ++ (L1.map (·.1)).take (j + 1)))) := by rw [NX.out, cellsS_append]; exact hown3
          have B3 : Hid (Below w.heap.size w w3) := BA.out.grown hgrow3 BA.out.size (fun g e => by have := hlt3.out g e; omega)
          have X3 : Hid (Box w3 w.heap.size [.slice (some ⟨pb, po, none⟩) n1 c1, .slice a2 n2 c2]) := XA.out.grown hgrow3 (fun e => by have := hlt3.out _ e; omega)
          clear hown3 hgrow3
          go_wp2_with fail
          exact ⟨⟨j + 1, _, by omega, by go_num, rfl, B3.out, X3.out, O3.out⟩, by simp [RowKit.intOf]; omega⟩
        · have hjn : j = n1 := by omega
          have FM : Hid (M ++ (L1.map (·.1)).take j = upTo L1 L2 1) := by
            show _ = _
            rw [List.take_of_length_le (by rw [List.length_map, HL.out.1]; omega), hM.out]
            rfl
          have FL : Hid ((M ++ (L1.map (·.1)).take j).length = m0 + j) := by show _ = _; rw [List.length_append, HM0.out, List.length_take, List.length_map, HL.out.1]; omega
          have FL9 : Hid ((M ++ (L1.map (·.1)).take j).length ≤ 120) := by
            show _ ≤ _
            rw [FL.out]
            have h9 := hM9b.out
            omega
          have O9 : Hid (wr.ownsRow (w.heap.size + 1) 9 1 u (M ++ (L1.map (·.1)).take j).length (cellsS (M ++ (L1.map (·.1)).take j))) := by rw [FL.out]; exact ho.out
          clear hjn
          go_wp2_with fail
          exact ⟨⟨1, _, _, by go_num, rfl, .inr (.inl ⟨rfl, FM.out⟩), FL9.out, hb.out, hx.out, O9.out⟩, by simp [RowKit.intOf]⟩
    · obtain ⟨e1, _⟩ := hx.out 1 _ rfl
      obtain ⟨m0, hm0⟩ : ∃ m, M.length = m := ⟨_, rfl⟩
      have HM0 : Hid (M.length = m0) := hm0
      have hm9 : m0 ≤ 120 := by rw [← hm0]; exact hM9.out
      rw [hm0] at ho
      have hM9b : Hid (m0 ≤ 60) := by show _ ≤ _; rw [← hm0, hM.out]; show (L1.map (·.1)).length ≤ 60; rw [List.length_map, HL.out.1]; exact hn1
      clear hm0
      go_wp2_with fail
      go_loopw [5, 20] (fun lv jv wr => ∃ (j : Nat) (u : Value), j ≤ n2 ∧ jv = .int .i64 (j : Int) ∧ u = lv ∧ Hid (Below w.heap.size w wr) ∧ Hid (Box wr w.heap.size [.slice a1 n1 c1, .slice a2 n2 c2]) ∧ Hid (wr.ownsRow (w.heap.size + 1) 9 1 u (m0 + j) (cellsS (M ++ (L2.map (·.1)).take j)))) (fun _ i _ => n2 - (RowKit.intOf i).toNat)
      case atStart => exact ⟨0, _, by omega, rfl, rfl, hb.out, hx.out, by simpa [Hid] using ho.out⟩
      case round =>
        clear hb hx ho e1
        obtain ⟨j, u, hj, rfl, hu, hb, hx, ho⟩ := hrel
        subst hu
        by_cases hlt : j < n2
        · have hji : (j : Int) < (n2 : Int) := by omega
          obtain ⟨pb, po, x, y, rfl, pc1, pc2, hp⟩ := srcP (S2.out.below hb.out) (i := j) (by rw [HL.out.2]; exact hlt)
          have HX : Hid (L2[j]? = some (x, y)) := by
            show _ = _
            have h9 := hp.out
            rw [List.getD_eq_getElem?_getD, List.getElem?_eq_getElem (by rw [HL.out.2]; exact hlt)] at h9
            rw [List.getElem?_eq_getElem (by rw [HL.out.2]; exact hlt)]
            exact congrArg some h9
          have NX : Hid (M ++ (L2.map (·.1)).take (j + 1) = (M ++ (L2.map (·.1)).take j) ++ [x]) := by show _ = _; rw [fst_take HX.out, List.append_assoc]
          have hlt3 : Hid (∀ g, Value.ownBlock u = some g → w.heap.size + 1 ≤ g) := fun g e => (ho.out.lt g e).1
          have Z0 : Hid (w.heap.size + 1 ≤ wr.heap.size) := World.block_lt_of_cell? _ _ (hx.out 0 _ rfl).1
          have BA : Hid (Below w.heap.size w ((wr.alloc (.cells #[.string x, .string y] 70)).alloc (.cells #[.string x] 9))) := (hb.out.alloc hb.out.size _).alloc (le_alloc hb.out.size _) _
          have XA : Hid (Box ((wr.alloc (.cells #[.string x, .string y] 70)).alloc (.cells #[.string x] 9)) w.heap.size [.slice a1 n1 c1, .slice (some ⟨pb, po, none⟩) n2 c2]) := (hx.out.old _).old _
          have RA : Hid (((wr.alloc (.cells #[.string x, .string y] 70)).alloc (.cells #[.string x] 9)).ownsRow (w.heap.size + 1) 9 1 u (m0 + j) (cellsS (M ++ (L2.map (·.1)).take j))) := (ho.out.alloc _).alloc _
          go_wp2_with (at_builtin; refine wpList_append_src _ rfl _ _ 49 rfl (w.heap.size + 1) 9 (.string ⟨#[]⟩) 1 16 Tryz.underlying49 infoS rfl (by decide) (by decide) _ (m0 + j) _ rfl RA.out (some ⟨wr.heap.size + 1, 0, none⟩) 1 1 (cellsS [x]) rfl rfl (src_oneS9 (by simp)) (cellsS_one _) (by omega) (le_alloc (le_alloc Z0.out _) _) ?_)
          intro v3 w3 hown3 hgrow3
          have O3 : Hid (w3.ownsRow (w.heap.size + 1) 9 1 v3 (m0 + (j + 1)) (cellsS (M ++ (L2.map (·.1)).take (j + 1)))) := by rw [NX.out, cellsS_append]; exact hown3
          have B3 : Hid (Below w.heap.size w w3) := BA.out.grown hgrow3 BA.out.size (fun g e => by have := hlt3.out g e; omega)
          have X3 : Hid (Box w3 w.heap.size [.slice a1 n1 c1, .slice (some ⟨pb, po, none⟩) n2 c2]) := XA.out.grown hgrow3 (fun e => by have := hlt3.out _ e; omega)
          clear hown3 hgrow3
          go_wp2_with fail
          exact ⟨⟨j + 1, _, by omega, by go_num, rfl, B3.out, X3.out, O3.out⟩, by simp [RowKit.intOf]; omega⟩
        · have hjn : j = n2 := by omega
          have FM : Hid (M ++ (L2.map (·.1)).take j = upTo L1 L2 2) := by
            show _ = _
            rw [List.take_of_length_le (by rw [List.length_map, HL.out.2]; omega), hM.out]
            rfl
          have FL : Hid ((M ++ (L2.map (·.1)).take j).length = m0 + j) := by show _ = _; rw [List.length_append, HM0.out, List.length_take, List.length_map, HL.out.2]; omega
          have FL9 : Hid ((M ++ (L2.map (·.1)).take j).length ≤ 120) := by
            show _ ≤ _
            rw [FL.out]
            have h9 := hM9b.out
            omega
          have O9 : Hid (wr.ownsRow (w.heap.size + 1) 9 1 u (M ++ (L2.map (·.1)).take j).length (cellsS (M ++ (L2.map (·.1)).take j))) := by rw [FL.out]; exact ho.out
          clear hjn
          go_wp2_with fail
          exact ⟨⟨2, _, _, by go_num, rfl, .inr (.inr ⟨rfl, FM.out⟩), FL9.out, hb.out, hx.out, O9.out⟩, by simp [RowKit.intOf]⟩
    · have FM : Hid (M = L1.map (·.1) ++ L2.map (·.1)) := by
        show _ = _
        rw [hM.out]
        rfl
      have SS : Hid (cellsS M = (M.map (·.data.toList)).map encStr) := by
        show _ = _
        unfold cellsS
        rw [List.map_map]
        exact List.map_congr_left fun x _ => rfl
      obtain ⟨m0, hm0⟩ : ∃ m, M.length = m := ⟨_, rfl⟩
      have HM0 : Hid (M.length = m0 ∧ (M.map (·.data.toList)).length = m0) := ⟨hm0, by rw [List.length_map, hm0]⟩
      have hm9 : m0 ≤ 120 := by rw [← hm0]; exact hM9.out
      have HO : Hid (wr.ownsRow (w.heap.size + 1) 9 1 u m0 ((M.map (·.data.toList)).map encStr)) := by rw [← SS.out, ← hm0]; exact ho.out
      obtain ⟨ss, hss⟩ : ∃ ss, M.map (·.data.toList) = ss := ⟨_, rfl⟩
      rw [hss] at HO HM0
      have KM : Hid (keysM L1 L2 = (sortK ss).map mkS8) := by show _ = _; unfold keysM; rw [← FM.out, hss]
      clear hm0 hss ho hx
      by_cases hu : u = .slice none 0 0
      · subst hu
        have hz : m0 = 0 := by
          obtain ⟨hl, ⟨_, h0⟩ | ⟨g, cap, cur, hv, _⟩⟩ := HO.out
          · exact h0
          · cases hv
        have Z : Hid (keysM L1 L2 = []) := by
          show _ = _
          rw [KM.out, List.eq_nil_of_length_eq_zero (HM0.out.2.trans hz)]
          simp [sortK, Lib.compact, Lib.compactUpTo]
        go_wp2_with (first | (go_at_call 121; refine (Tryz.slices_Compact_string_empty _ _ _).mono ?_; rintro e w2 ⟨rfl, rfl⟩) | (go_at_call 120; refine (Tryz.slices_Sort_string_none _ _ _).mono ?_; rintro e w2 ⟨rfl, rfl⟩))
        go_ret
        exact ⟨none, 0, 0, rfl, by rw [Z.out]; rfl, by rw [Z.out]; exact .inl rfl, hb.out⟩
      · obtain ⟨g, cap, rfl, hg1, hg2, hg3, hg4, _, hH⟩ := Lib.holds_of_ownsRow HO.out hu
        have HH : Hid (Sort.Holds encStr wr g 0 ss.toArray) := hH
        have HLs : Hid (ss.length = m0) := HM0.out.2
        have C1 : Hid (Calls Tryz.prog 120 #[.slice (some ⟨g, 0, none⟩) m0 cap] wr fun e w' => e = .returned (.tuple #[]) ∧ ∃ n os, w' = Sort.grow (Sort.putRow encStr (Sort.ahead wr n) g 0 (ss.mergeSort fun x y => decide (x ≤ y)).toArray) os) := by
          have h9 := Tryz.slices_Sort_string g 0 cap ss wr hH hg2 (by rw [HLs.out]; omega)
          rw [HLs.out] at h9
          exact h9
        clear hH hu
        go_wp2_with fail
        refine C1.out.mono ?_
        rintro e w2 ⟨rfl, nn, os, hw2⟩
        have hml : (ss.mergeSort fun x y => decide (x ≤ y)).length = m0 := by rw [List.length_mergeSort, HLs.out]
        have HH2 : Sort.Holds encStr w2 g 0 (ss.mergeSort fun x y => decide (x ≤ y)).toArray := by
          rw [hw2]
          refine Sort.holds_grow _ _ _ _ _ _ (by simpa [Sort.putRow, Sort.mapBlock, Sort.ahead] using hg2) (Sort.holds_putRow encStr _ g 0 ss.toArray _ (Sort.holds_ahead encStr wr nn g 0 _ HH.out) ?_)
          simp
        have C2 : Hid (Calls Tryz.prog 121 #[.slice (some ⟨g, 0, none⟩) m0 cap] w2 fun e w' => e = .returned (.slice (some ⟨g, 0, none⟩) (sortK ss).length cap) ∧ ∃ q, w' = Sort.putRow encStr (Sort.ahead w2 q) g 0 (sortK ss ++ List.replicate (m0 - (sortK ss).length) []).toArray) := by
          have h9 := Tryz.slices_Compact_string g 0 cap (ss.mergeSort fun x y => decide (x ≤ y)) w2 HH2 (by rw [hml]; omega) (by rw [hml]; exact hg3)
          rw [hml] at h9
          exact h9
        have HW2 : Hid (w2 = Sort.grow (Sort.putRow encStr (Sort.ahead wr nn) g 0 (ss.mergeSort fun x y => decide (x ≤ y)).toArray) os) := hw2
        clear HH2 hml hw2
        go_wp2_with fail
        refine C2.out.mono ?_
        rintro e w3 ⟨rfl, q, hw3⟩
        obtain ⟨oo, bb⟩ := own_sorted (nn := nn) (q := q) (os := os) (own_mono HO.out (by omega)) hb.out (by omega) HLs.out
        rw [← HW2.out, ← hw3] at oo bb
        have SR : Hid (Src w3 (some ⟨g, 0, none⟩) (cellsS (keysM L1 L2)) ∧ (keysM L1 L2).length = (sortK ss).length ∧ Below w.heap.size w w3) := by
          refine ⟨?_, by rw [KM.out, List.length_map], bb⟩
          obtain ⟨a9, c9, e9, s9, _⟩ := own_src oo
          cases e9
          have e8 : cellsS (keysM L1 L2) = (sortK ss).map encStr := by rw [KM.out]; unfold cellsS; rw [List.map_map]; rfl
          rw [e8]
          exact s9
        obtain ⟨kk, hkk⟩ : ∃ k, (sortK ss).length = k := ⟨_, rfl⟩
        rw [hkk] at SR ⊢
        clear oo bb hw3 hkk
        go_wp2_with fail
        go_ret
        exact ⟨_, _, _, rfl, SR.out.2.1, SR.out.1, SR.out.2.2⟩
end Go.Proofs.YtmbndpgoihdpnaaGreatDoor
