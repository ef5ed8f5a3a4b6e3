
/-
  Texts cut at a byte: the specification's l00Cut, the library's Split. By an AI agent.
-/
import Derived.Test.YthgbclipknfmjaaGreatDoorSplp
import Derived.Test.YthgbclipknfmjaaGreatDoorShelf
namespace Go.Proofs.YthgbclipknfmjaaGreatDoor
open Go.ChangeShapes Go.WideShapes Go.ChangeAt Go.RowKit Go.Deep Go.Lib
set_option linter.unusedVariables false
set_option maxRecDepth 100000

theorem src_oneC {w : World} {s : ByteArray} {B ty : Nat} (hB : B = w.heap.size) : Src (w.alloc (.cells #[.string s] ty)) (some ⟨B, 0, none⟩) (cellsS [s]) := by
  have hb : Box (w.alloc (.cells #[.string s] ty)) B [.string s] := Box.new hB
  refine .inr ⟨B, 0, rfl, fun j hj => ?_⟩
  have hj4 : j < 1 := hj
  rw [Nat.zero_add]
  match j, hj4 with
  | 0, _ => exact (hb 0 _ rfl).1
theorem ext_data (s : ByteArray) (f k : Nat) (h : k ≤ s.size) : (s.extract f k).data.toList = (s.data.toList.drop f).take (k - f) := by
  simp only [ByteArray.data_extract, Array.toList_extract, List.extract_eq_drop_take']
theorem ext_bs (s : ByteArray) (f k : Nat) (h : k ≤ s.size) : s.extract f k = bs ((s.data.toList.drop f).take (k - f)) := bs_inj (by rw [ext_data s f k h]; rfl)
theorem seg_hit (c : UInt8) (s : ByteArray) (f k : Nat) (hf : f ≤ k) (hk : k < s.size) (h : c ∉ (s.data.toList.drop f).take (k - f)) (hc : s[k] = c) :
    splitL c (s.data.toList.drop f) = (s.data.toList.drop f).take (k - f) :: splitL c (s.data.toList.drop (k + 1)) := by
  have h1 : s.data.toList.drop f = (s.data.toList.drop f).take (k - f) ++ c :: s.data.toList.drop (k + 1) := by
    have h2 := List.take_append_drop (k - f) (s.data.toList.drop f)
    rw [List.drop_drop, show f + (k - f) = k by omega, bytes_drop s k hk, hc] at h2
    exact h2.symm
  have h3 := splitL_seg c _ (s.data.toList.drop (k + 1)) h
  rw [← h1] at h3
  exact h3
theorem seg_miss (c : UInt8) (s : ByteArray) (f k : Nat) (hf : f ≤ k) (hk : k < s.size) (h : c ∉ (s.data.toList.drop f).take (k - f)) (hc : s[k] ≠ c) : c ∉ (s.data.toList.drop f).take (k + 1 - f) := by
  rw [show k + 1 - f = (k - f) + 1 by omega, List.take_add_one]
  intro h9
  rcases List.mem_append.1 h9 with h9 | h9
  · exact h h9
  · rw [List.getElem?_drop, show f + (k - f) = k by omega] at h9
    have h8 : s.data.toList[k]? = some s[k] := by
      have := bytes_drop s k hk
      have h7 : (s.data.toList.drop k)[0]? = some s[k] := by rw [this]; rfl
      rwa [List.getElem?_drop, Nat.add_zero] at h7
    rw [h8] at h9
    simp only [Option.toList_some, List.mem_singleton] at h9
    exact hc h9.symm
set_option maxHeartbeats 2000000 in
theorem l00CutS (s : ByteArray) (c : UInt8) (w : World) (hs : s.size ≤ 1048576) :
    Calls Tryz.prog 119 #[.string s, .int .u8 (c.toNat : Int)] w fun e w' => ∃ v, e = .returned v ∧ w'.ownsRow w.heap.size 9 1 v (splitL c s.data.toList).length (cellsS ((splitL c s.data.toList).map bs)) ∧ Below w.heap.size w w' := by
  obtain ⟨G, hG⟩ : ∃ G, splitL c s.data.toList = G := ⟨_, rfl⟩
  have HG : Hid (splitL c s.data.toList = G) := hG
  rw [hG]
  clear hG
  go_enter Tryz.func119, Tryz.ntmps119
  go_wp2_with fail
  go_loopw [5, 6, 7] (fun vv fv iv wr => ∃ (k f : Nat) (P : List (List UInt8)), f ≤ k ∧ k ≤ s.size ∧ fv = .int .i64 (f : Int) ∧ iv = .int .i64 (k : Int) ∧ P.length ≤ k ∧ Hid (G = P ++ splitL c (s.data.toList.drop f)) ∧ Hid (c ∉ (s.data.toList.drop f).take (k - f)) ∧ Hid (wr.ownsRow w.heap.size 9 1 vv P.length (cellsS (P.map bs))) ∧ Hid (Below w.heap.size w wr)) (fun _ _ i _ => s.size - (RowKit.intOf i).toNat)
  case atStart => exact ⟨0, 0, [], by omega, by omega, rfl, rfl, by simp, HG.out.symm, by show c ∉ ([] : List UInt8); simp, own_empty (by simp) (by simp), (Below.refl _ _).alloc (Nat.le_refl _) _⟩
  case round =>
    obtain ⟨k, f, P, hfk, hk, rfl, rfl, hP, hg, hno, hown, hbr⟩ := hrel
    have hfi : (0 : Int) ≤ (f : Int) := by omega
    have hfs : (f : Int) ≤ (s.size : Int) := by omega
    have hfki : (f : Int) ≤ (k : Int) := by omega
    by_cases hlt : k < s.size
    · have hlti : (k : Int) < (s.size : Int) := by omega
      have hki : (k : Int) ≤ (s.size : Int) := by omega
      by_cases hc : s[k] = c
      · have hci : ((s[k].toNat : Int) == (c.toNat : Int)) = true := by rw [hc]; simp
        have HS := seg_hit c s f k hfk hlt hno.out hc
        have HG2 : Hid (G = (P ++ [(s.data.toList.drop f).take (k - f)]) ++ splitL c (s.data.toList.drop (k + 1))) := by
          show _ = _
          rw [hg.out, HS, List.append_assoc]
          rfl
        have HE : Hid (s.extract f k = bs ((s.data.toList.drop f).take (k - f))) := ext_bs s f k hk
        have HN2 : Hid (c ∉ (s.data.toList.drop (k + 1)).take (k + 1 - (k + 1))) := by show _ ∉ _; rw [Nat.sub_self, List.take_zero]; simp
        clear HS hc hg hno
        go_wp2_with (at_builtin; refine wpList_append_src _ rfl _ _ 47 rfl w.heap.size 9 (.string ⟨#[]⟩) 1 16 Tryz.underlying47 infoS rfl (by decide) (by decide) _ P.length (cellsS (P.map bs)) rfl (hown.out.alloc _) (some ⟨wr.heap.size, 0, none⟩) 1 1 (cellsS [s.extract f k]) rfl rfl (src_oneC rfl) (cellsS_one _) (by omega) (le_alloc hbr.out.size _) ?_)
        intro v1 w1 hown1 hgrow1
        have HO1 : Hid (w1.ownsRow w.heap.size 9 1 v1 (P ++ [(s.data.toList.drop f).take (k - f)]).length (cellsS ((P ++ [(s.data.toList.drop f).take (k - f)]).map bs))) := by
          show w1.ownsRow _ _ _ _ _ _
          rw [List.length_append, List.map_append, List.map_cons, List.map_nil, ← HE.out, cellsS_append]
          exact hown1
        have HB1 : Hid (Below w.heap.size w w1) := (hbr.out.alloc hbr.out.size _).grown hgrow1 (le_alloc hbr.out.size _) (fun g e => (hown.out.lt g e).1)
        clear hown1 hgrow1
        go_wp2_with fail
        exact ⟨⟨k + 1, k + 1, P ++ [(s.data.toList.drop f).take (k - f)], by omega, by omega, by go_num, by go_num, by simp; omega, HG2.out, HN2.out, HO1.out, HB1.out⟩, by simp [RowKit.intOf]; omega⟩
      · have hci : ((s[k].toNat : Int) == (c.toNat : Int)) = false := beq_eq_false_iff_ne.2 (fun h9 => hc (UInt8.toNat_inj.1 (by omega)))
        have HN2 : Hid (c ∉ (s.data.toList.drop f).take (k + 1 - f)) := seg_miss c s f k hfk hlt hno.out hc
        clear hc hno
        go_wp2_with fail
        exact ⟨⟨k + 1, f, P, by omega, by omega, rfl, by go_num, by omega, hg.out, HN2.out, hown.out, hbr.out⟩, by simp [RowKit.intOf]; omega⟩
    · have hkn : k = s.size := by omega
      have HE : Hid (s.extract f s.size = bs (s.data.toList.drop f)) := by
        show _ = _
        rw [ext_bs s f s.size (Nat.le_refl _), List.take_of_length_le (by rw [List.length_drop, bytes_len]; exact Nat.le_refl _)]
      have HG2 : Hid (G = P ++ [s.data.toList.drop f]) := by
        show _ = _
        have h9 := hno.out
        rw [hkn, List.take_of_length_le (by rw [List.length_drop, bytes_len]; exact Nat.le_refl _)] at h9
        rw [hg.out, splitL_whole c _ h9]
      clear hg hno hkn
      go_wp2_with (at_builtin; refine wpList_append_src _ rfl _ _ 47 rfl w.heap.size 9 (.string ⟨#[]⟩) 1 16 Tryz.underlying47 infoS rfl (by decide) (by decide) _ P.length (cellsS (P.map bs)) rfl (hown.out.alloc _) (some ⟨wr.heap.size, 0, none⟩) 1 1 (cellsS [s.extract f s.size]) rfl rfl (src_oneC rfl) (cellsS_one _) (by omega) (le_alloc hbr.out.size _) ?_)
      intro v1 w1 hown1 hgrow1
      have HO1 : Hid (w1.ownsRow w.heap.size 9 1 v1 G.length (cellsS (G.map bs))) := by
        show w1.ownsRow _ _ _ _ _ _
        rw [HG2.out, List.length_append, List.map_append, List.map_cons, List.map_nil, ← HE.out, cellsS_append]
        exact hown1
      have HB1 : Hid (Below w.heap.size w w1) := (hbr.out.alloc hbr.out.size _).grown hgrow1 (le_alloc hbr.out.size _) (fun g e => (hown.out.lt g e).1)
      clear hown1 hgrow1
      go_wp2_with fail
      go_ret
      exact ⟨_, rfl, HO1.out, HB1.out⟩
end Go.Proofs.YthgbclipknfmjaaGreatDoor
