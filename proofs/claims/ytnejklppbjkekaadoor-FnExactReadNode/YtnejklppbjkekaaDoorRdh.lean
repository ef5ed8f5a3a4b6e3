
/-
  Fields read from bytes: the specification's. By an AI agent.
-/
import Derived.Test.YtnejklppbjkekaaDoorRdg
import Derived.Lib.Strings
import Derived.Laws.Strings2
namespace Go.Proofs.YtnejklppbjkekaaDoor
open Go.ChangeShapes Go.WideShapes Go.ChangeAt Go.RowKit Go.Deep
set_option linter.unusedVariables false
set_option maxRecDepth 100000

theorem ba_ext {s t : ByteArray} (h : s.data.toList = t.data.toList) : s = t := by
  cases s; cases t
  congr 1
  exact Array.ext' h
theorem strB_bytes (s : ByteArray) : strB (bytesOf s) = s := by
  apply ba_ext
  unfold strB bytesOf
  rw [strOfNums_data, List.map_map, List.map_map]
  conv => rhs; rw [← List.map_id s.data.toList]
  refine List.map_congr_left fun b _ => ?_
  show UInt8.ofNat (((b.toNat : Nat) : Int).toNat) = b
  simp
theorem bytes_strB (L : List Nat) (h : ∀ x ∈ L, x < 256) : bytesOf (strB L) = L := by
  unfold strB bytesOf
  rw [strOfNums_data, List.map_map, List.map_map]
  conv => rhs; rw [← List.map_id L]
  refine List.map_congr_left fun b hb => ?_
  show (UInt8.ofNat (((b : Nat) : Int).toNat)).toNat = b
  have := h b hb
  simp
  omega
theorem extract_sub (s : ByteArray) (i j : Nat) : s.extract i j = strB (((bytesOf s).drop i).take (j - i)) := by
  apply ba_ext
  rw [Lib.extract_data]
  unfold strB bytesOf
  rw [strOfNums_data, ← List.map_drop, ← List.map_take, List.map_map, List.map_map]
  conv => lhs; rw [← List.map_id ((s.data.toList.drop i).take (j - i))]
  refine List.map_congr_left fun b _ => ?_
  show b = UInt8.ofNat (((b.toNat : Nat) : Int).toNat)
  simp
theorem bytes_extract (s : ByteArray) (i j : Nat) : bytesOf (s.extract i j) = ((bytesOf s).drop i).take (j - i) := by
  rw [extract_sub, bytes_strB _ (fun x hx => bytes_lt s x (List.mem_of_mem_drop (List.mem_of_mem_take hx)))]
theorem take_two (B : List Nat) (p : Nat) (h : p + 2 ≤ B.length) : (B.drop p).take 2 = [B.getD p 0, B.getD (p + 1) 0] := by
  have h1 : p < B.length := by omega
  have h2 : p + 1 < B.length := by omega
  have e1 : B.getD p 0 = B[p] := by simp [h1]
  have e2 : B.getD (p + 1) 0 = B[p + 1] := by simp [h2]
  rw [e1, e2, List.drop_eq_getElem_cons h1, List.drop_eq_getElem_cons h2, List.take_succ_cons, List.take_succ_cons, List.take_zero]
def rdA (B : List Nat) : Option (List ByteArray) := match cutA B with
  | none => none
  | some (l, p) => if p = B.length then some l else none
theorem rfA_rdA (B : List Nat) (h : ¬ 65536 < B.length) : rfA B = match rdA B with | none => ([], 3) | some l => (l, 0) := by
  unfold rfA rdA
  rw [if_neg h]
  cases cutA B with
  | none => rfl
  | some lp =>
    obtain ⟨l, p⟩ := lp
    show (if p = B.length then (l, (0 : Int)) else ([], 3)) = match (if p = B.length then some l else none) with | none => ([], 3) | some l => (l, 0)
    by_cases e : p = B.length
    · rw [if_pos e, if_pos e]
    · rw [if_neg e, if_neg e]

theorem cut_text (W : World) (s : ByteArray) (i j : Nat) (x y : Int) (h1 : i ≤ j) (h2 : j ≤ s.size) (hx : x = (i : Int)) (hy : y = (j : Int)) : (Instr.slice 9 (.string s) (some (.int .i64 x)) (some (.int .i64 y)) none).run Tryd.prog W = .ok (.string (s.extract i j)) W := by
  subst hx hy
  have := run_slice_string (P := Tryd.prog) W 9 s .i64 .i64 (i : Int) (j : Int) Tryd.underlying9 (by omega) (by omega) (by omega)
  simpa using this

set_option maxHeartbeats 2000000 in
theorem l01Read (s : ByteArray) (w : World) (hs : s.size ≤ 1048576) :
    Calls Tryd.prog 132 #[.string s] w fun e w' => (rdA (bytesOf s) = none ∧ ∃ v, e = .returned (.tuple #[v, .bool false]) ∧ w'.ownsRow w.heap.size 9 1 v 0 [] ∧ Below w.heap.size w w') ∨
      (∃ l v, rdA (bytesOf s) = some l ∧ e = .returned (.tuple #[v, .bool true]) ∧ w'.ownsRow w.heap.size 9 1 v l.length (cellsS l) ∧ Below w.heap.size w w') := by
  obtain ⟨B, hB0⟩ : ∃ B, bytesOf s = B := ⟨_, rfl⟩
  have HB : Hid (bytesOf s = B) := hB0
  have HL : Hid (B.length = s.size) := by show B.length = _; rw [← hB0, bytesOf_length]
  rw [hB0]
  clear hB0
  by_cases t0 : s.size = 0
  · have F : Hid (rdA B = none) := by show rdA B = none; unfold rdA cutA; rw [if_pos (.inl (by rw [HL.out]; exact t0))]
    have hs0 : s = ⟨#[]⟩ := by apply ba_ext; exact List.eq_nil_of_length_eq_zero (by simpa using t0)
    subst hs0
    go_enter Tryd.func132, Tryd.ntmps132
    go_wp2_with fail
    go_ret2
    exact .inl ⟨F.out, _, rfl, own_empty rfl (Nat.le_refl _), (Below.refl _ _).alloc (Nat.le_refl _) _⟩
  have h0 : 0 < s.size := by omega
  have hne : (s.toList == ([] : List UInt8)) = false := by
    rw [Lib.toList_data]
    cases hd : s.data.toList with
    | nil => exact absurd (by simpa using congrArg List.length hd) t0
    | cons x l => rfl
  obtain ⟨z, hz⟩ : ∃ z, s[0].toNat = z := ⟨_, rfl⟩
  have hz8 : z < 256 := by rw [← hz]; exact s[0].toNat_lt
  have HZ : Hid (B.getD 0 0 = z) := by show B.getD 0 0 = z; rw [← HB.out, bytesOf_get s 0 h0, hz]
  by_cases t1 : (200 : Int) < (z : Int)
  · have F : Hid (rdA B = none) := by show rdA B = none; unfold rdA cutA; rw [if_pos (.inr (by rw [HZ.out]; omega))]
    go_enter Tryd.func132, Tryd.ntmps132
    go_wp2_with fail
    go_ret2
    exact .inl ⟨F.out, _, rfl, own_empty rfl (Nat.le_refl _), (Below.refl _ _).alloc (Nat.le_refl _) _⟩
  have CA : Hid (cutA B = rdSt B z) := by
    show cutA B = _
    unfold cutA
    rw [if_neg, HZ.out]
    rw [HL.out, HZ.out]
    omega
  have NO : Hid (∀ k, k ≤ z → rdSt B k = none → rdA B = none) := fun k hk h => by
    unfold rdA
    rw [CA.out, rdSt_none h z hk]
  go_enter Tryd.func132, Tryd.ntmps132
  go_wp2_with fail
  go_loopw [4, 5, 6] (fun lv av i wr => ∃ (k p r : Nat) (u : Value) (l : List ByteArray), u = lv ∧ av = .int .i64 (p : Int) ∧ i = .int .i64 (r : Int) ∧ k + r ≤ z ∧ z ≤ k + r ∧ p ≤ s.size ∧ Hid (rdSt B k = some (l, p)) ∧ Hid (l.length = k) ∧ Hid (Below w.heap.size w wr) ∧ Hid (wr.ownsRow w.heap.size 9 1 u k (cellsS l))) (fun _ _ i _ => (intOf i).toNat)
  case atStart => exact ⟨0, 1, z, _, [], rfl, rfl, rfl, by omega, by omega, by omega, rfl, rfl, (Below.refl _ _).alloc (Nat.le_refl _) _, own_empty rfl (Nat.le_refl _)⟩
  case round =>
    obtain ⟨k, p, r, u, l, hu, rfl, rfl, hkz, hkz2, hps, R, LK, hB, HW⟩ := hrel
    subst hu
    by_cases hlt : 0 < r
    · have hri : (0 : Int) < (r : Int) := by omega
      by_cases t2 : (s.size : Int) < (p : Int) + 2
      · have F : Hid (rdA B = none) := NO.out (k + 1) (by omega) (rd_cut R.out (by rw [HL.out]; omega))
        go_wp2_with fail
        go_ret2
        exact .inl ⟨F.out, _, rfl, own_empty rfl hB.out.size, hB.out.alloc hB.out.size _⟩
      have T2 : Hid (¬ B.length < p + 2) := by show ¬ B.length < p + 2; rw [HL.out]; omega
      obtain ⟨q, hq⟩ : ∃ q, szAt B p = q := ⟨_, rfl⟩
      have HQ : Hid (numOf (bytesOf (s.extract p (p + 2))) = q) := by
        show _ = q
        rw [bytes_extract, HB.out, show p + 2 - p = 2 from by omega, take_two B p (by rw [HL.out]; omega), ← hq]
        simp [numOf, szAt]
      have SZ : Hid (szAt B p = q) := hq
      have hx2 : (s.extract p (p + 2)).size = 2 := by rw [ByteArray.size_extract]; omega
      have hq9 : q < 65536 := by
        rw [← HQ.out]
        have := numOf_lt (bytesOf (s.extract p (p + 2))) (bytes_lt _)
        rw [bytesOf_length, hx2] at this
        exact this
      have XL : Hid ((s.extract p (p + 2)).size ≤ 4) := by show (s.extract p (p + 2)).size ≤ 4; omega
      clear hq hx2
      have hsl : ∀ W : World, (Instr.slice 9 (.string s) (some (.int .i64 (p : Int))) (some (.int .i64 ((p : Int) + 2))) none).run Tryd.prog W = .ok (.string (s.extract p (p + 2))) W := fun W => cut_text W s p (p + 2) _ _ (by omega) (by omega) rfl (by omega)
      go_wp2_with fail
      clear hsl
      refine (l01Of (s.extract p (p + 2)) _ XL.out).mono ?_
      rintro e w1 ⟨rfl, rfl⟩
      rw [HQ.out]
      by_cases t3 : (300 : Int) < (q : Int)
      · have F : Hid (rdA B = none) := NO.out (k + 1) (by omega) (rd_big R.out T2.out (by rw [SZ.out]; omega))
        go_wp2_with fail
        go_ret2
        exact .inl ⟨F.out, _, rfl, own_empty rfl hB.out.size, hB.out.alloc hB.out.size _⟩
      by_cases t4 : (s.size : Int) < (p : Int) + 2 + (q : Int)
      · have F : Hid (rdA B = none) := NO.out (k + 1) (by omega) (rd_short R.out T2.out (by rw [SZ.out]; omega) (by rw [SZ.out, HL.out]; omega))
        go_wp2_with fail
        go_ret2
        exact .inl ⟨F.out, _, rfl, own_empty rfl hB.out.size, hB.out.alloc hB.out.size _⟩
      have RM : Hid (rdSt B (k + 1) = some (l ++ [s.extract (p + 2) (p + 2 + q)], p + 2 + q)) := by
        show rdSt B (k + 1) = _
        have := rd_more R.out T2.out (by rw [SZ.out]; omega) (by rw [SZ.out, HL.out]; omega)
        rw [SZ.out] at this
        rw [this, extract_sub, HB.out, show p + 2 + q - (p + 2) = q from by omega]
        rfl
      have XR : Hid (w.heap.size ≤ w1.heap.size) := hB.out.size
      have hlt3 : Hid (∀ g, Value.ownBlock u = some g → w.heap.size ≤ g ∧ g < w1.heap.size) := fun g e => HW.out.lt g e
      have hsl : ∀ W : World, (Instr.slice 9 (.string s) (some (.int .i64 ((p : Int) + 2))) (some (.int .i64 ((p : Int) + 2 + (q : Int)))) none).run Tryd.prog W = .ok (.string (s.extract (p + 2) (p + 2 + q))) W := fun W => cut_text W s (p + 2) (p + 2 + q) _ _ (by omega) (by omega) (by omega) (by omega)
      go_wp2_with (at_builtin; refine wpList_append_src _ rfl _ _ 24 rfl w.heap.size 9 (.string ⟨#[]⟩) 1 16 Tryd.underlying24 infoS rfl (by decide) (by decide) u k (cellsS l) rfl (HW.out.alloc _) (some ⟨w1.heap.size, 0, none⟩) 1 1 (cellsS [s.extract (p + 2) (p + 2 + q)]) rfl rfl (src_oneS rfl) (cellsS_one _) (by omega) (le_alloc XR.out _) ?_)
      clear hsl
      intro v2 w2 hown2 hgrow2
      have B2 : Hid (Below w.heap.size w w2) := (hB.out.alloc hB.out.size _).grown hgrow2 (le_alloc hB.out.size _) (fun g e => (hlt3.out g e).1)
      have O2 : Hid (w2.ownsRow w.heap.size 9 1 v2 (k + 1) (cellsS (l ++ [s.extract (p + 2) (p + 2 + q)]))) := own_congr hown2 (by rw [cellsS_append])
      clear hown2 hgrow2
      go_wp2_with fail
      exact ⟨⟨k + 1, p + 2 + q, r - 1, _, _, rfl, by go_num, by go_num, by omega, by omega, by omega, RM, by show _ = _; rw [List.length_append, LK.out]; rfl, B2, O2⟩, by simp [intOf]; omega⟩
    · have hkn : k = z := by omega
      have hr0 : r = 0 := by omega
      have C : Hid (cutA B = some (l, p)) := by show cutA B = _; rw [CA.out, ← hkn]; exact R.out
      have HO : Hid (wr.ownsRow w.heap.size 9 1 u l.length (cellsS l)) := by have := HW.out; rw [← LK.out] at this; exact this
      subst hr0
      clear hkn
      by_cases t5 : p = s.size
      · have F : Hid (rdA B = some l) := by
          show rdA B = _
          unfold rdA
          rw [C.out]
          show (if p = B.length then some l else none) = _
          rw [if_pos (by rw [HL.out]; exact t5)]
        have t6 : ((p : Int) != (s.size : Int)) = false := by simp; omega
        clear t5
        go_wp2_with fail
        go_ret2
        exact .inr ⟨l, _, F.out, rfl, HO.out, hB.out⟩
      · have F : Hid (rdA B = none) := by
          show rdA B = _
          unfold rdA
          rw [C.out]
          show (if p = B.length then some l else none) = _
          rw [if_neg (by rw [HL.out]; exact t5)]
        have t6 : ((p : Int) != (s.size : Int)) = true := by simp; omega
        clear t5
        go_wp2_with fail
        go_ret2
        exact .inl ⟨F.out, _, rfl, own_empty rfl hB.out.size, hB.out.alloc hB.out.size _⟩

theorem conv_empty (b o : Nat) (sp : Option _) (c : Nat) (w : World) : (convert 22 9 (.slice (some ⟨b, o, sp⟩) 0 c)).run Tryd.prog w = .ok (.string (strB [])) w := by
  rw [run_convert_bytes_string w 22 9 5 _ 0 c Tryd.underlying22 Tryd.underlying5 Tryd.underlying9]
  have hl := run_loadCells_list (P := Tryd.prog) w ⟨b, o, sp⟩ [] (fun j v hj => by simp at hj)
  simp only [List.length_nil] at hl
  simp [Conv.bytesToString, hl, strB, strOfNums]
  rfl

end Go.Proofs.YtnejklppbjkekaaDoor
