
/-
  Sealed bytes with one byte changed are not sealed; a superblock is read back: over lists. By an AI agent.
-/
import Derived.Test.YtnejklppbjkekaaDoorRsr
import Derived.Test.YtnejklppbjkekaaDoorRdp
namespace Go.Proofs.YtnejklppbjkekaaDoor
open Go.ChangeShapes Go.WideShapes Go.ChangeAt Go.RowKit Go.Deep
set_option linter.unusedVariables false

theorem sealB_length (L : List Nat) : (sealB L).length = L.length + 4 := by unfold sealB; rw [List.length_append]; rfl
theorem body_seal (L : List Nat) : bodyB (sealB L) = L := by
  unfold bodyB
  rw [sealB_length, Nat.add_sub_cancel]
  unfold sealB
  exact List.take_left
theorem sealed_seal (L : List Nat) : sealedB (sealB L) = true := by
  unfold sealedB
  rw [body_seal, Bool.and_eq_true, decide_eq_true_eq, decide_eq_true_eq, sealB_length]
  exact ⟨by omega, rfl⟩
theorem numQ_inj {s t : Nat} (hs : s < 4294967296) (ht : t < 4294967296) (h : numQ s = numQ t) : s = t := by
  rw [← numQ_numOf s hs, ← numQ_numOf t ht, h]
theorem sealed_flip {L : List Nat} {x y : Nat} (h8 : ∀ z ∈ L, z < 256) (hn : L.length ≤ 65536) (hx : x < L.length + 4) (hy : y < 256) (hne : (sealB L).getD x 0 ≠ y) : sealedB ((sealB L).set x y) = false := by
  unfold sealedB
  rw [Bool.and_eq_false_iff]
  right
  apply decide_eq_false
  intro h
  have hl : ((sealB L).set x y).length = L.length + 4 := by rw [List.length_set, sealB_length]
  have hb : bodyB ((sealB L).set x y) = ((sealB L).set x y).take L.length := by unfold bodyB; rw [hl, Nat.add_sub_cancel]
  by_cases hlt : x < L.length
  · have e1 : (sealB L).set x y = L.set x y ++ numQ (sumL L) := by unfold sealB; rw [List.set_append_left _ _ hlt]
    have e2 : bodyB ((sealB L).set x y) = L.set x y := by
      rw [hb, e1]
      have h9 : L.length = (L.set x y).length := by rw [List.length_set]
      rw [h9]
      exact List.take_left
    rw [e2, e1] at h
    unfold sealB at h
    have h3 := List.append_cancel_left h
    have h4 := numQ_inj (sumL_lt _) (sumL_lt _) h3
    have h5 : L.getD x 0 ≠ y := by
      intro e
      apply hne
      rw [← e]
      unfold sealB
      rw [List.getD_eq_getElem?_getD, List.getElem?_append_left hlt, ← List.getD_eq_getElem?_getD]
    unfold sumL at h4
    rw [List.length_set] at h4
    have h8' : ∀ z ∈ L.set x y, z < 256 := fun z hz => by
      rcases List.mem_or_eq_of_mem_set hz with e | e
      · exact h8 z e
      · rw [e]; exact hy
    refine crc_differs (zL_lt h8') (zL_lt h8) x L.length hlt hn ?_ ?_ h4
    · show (L.set x y).getD x 0 ≠ L.getD x 0
      rw [List.getD_eq_getElem?_getD, List.getElem?_set_self hlt]
      exact fun e => h5 e.symm
    · intro i hi
      show (L.set x y).getD i 0 = L.getD i 0
      rw [List.getD_eq_getElem?_getD, List.getD_eq_getElem?_getD, List.getElem?_set_ne (fun e => hi e.symm)]
  · have e2 : bodyB ((sealB L).set x y) = L := by
      rw [hb, List.take_set_of_le (by omega)]
      unfold sealB
      exact List.take_left
    rw [e2] at h
    apply hne
    have h3 := congrArg (fun M => M.getD x 0) h
    rw [h3, List.getD_eq_getElem?_getD, List.getElem?_set_self (by rw [sealB_length]; exact hx)]
    rfl
theorem snap_back {x : SN} (h1 : -1 ≤ x.2.1) (h2 : x.2.1 ≤ 49) (h3 : 0 ≤ x.2.2) (h4 : x.2.2 ≤ 60000) : snapOf (snapF x) = x := by
  have hb : bytesOf (snapF x) = snapH x ++ bytesOf x.1 := by
    unfold snapF
    have h9 : bytesOf (strB (snapH x) ++ x.1) = bytesOf (strB (snapH x)) ++ bytesOf x.1 := by unfold bytesOf; simp
    rw [h9, bytes_strB]
    intro y hy
    unfold snapH at hy
    simp at hy
    omega
  have he : (snapF x).extract 3 (snapF x).size = x.1 := by
    have hs : (strB (snapH x)).size = 3 := by rw [strB_size]; rfl
    unfold snapF
    exact ByteArray.extract_append_eq_right hs.symm ByteArray.size_append
  unfold snapOf
  rw [he, hb]
  have e0 : (snapH x ++ bytesOf x.1).getD 0 0 = (x.2.1 + 1).toNat % 256 := rfl
  have e1 : (snapH x ++ bytesOf x.1).getD 1 0 = x.2.2.toNat / 256 % 256 := rfl
  have e2 : (snapH x ++ bytesOf x.1).getD 2 0 = x.2.2.toNat % 256 := rfl
  rw [e0, e1, e2]
  obtain ⟨a, b, c⟩ := x
  simp only at h1 h2 h3 h4 ⊢
  refine Prod.ext rfl (Prod.ext ?_ ?_)
  · show (((b + 1).toNat % 256 : Nat) : Int) - 1 = b
    omega
  · show ((c.toNat / 256 % 256 * 256 + c.toNat % 256 : Nat) : Int) = c
    omega
theorem superL_lt {D : UM} : ∀ z ∈ superL D, z < 256 := by
  intro z hz
  unfold superL at hz
  simp only [List.mem_cons] at hz
  rcases hz with h | h | h | h
  · omega
  · omega
  · omega
  · exact fieldsB_lt _ z h
theorem super_len {D : UM} (h : okU D = true) : (superL D).length ≤ 60 ∧ 4 ≤ (superL D).length := by
  have hf := okU_facts h
  have hS : ∀ x ∈ D.S, x.1.size ≤ 8 := fun x hx => by
    obtain ⟨i, hi, rfl⟩ := List.getElem_of_mem hx
    have h1 := (hf.2.2.2.2.2 i hi).1
    rw [List.getD_eq_getElem?_getD, List.getElem?_eq_getElem hi] at h1
    exact h1
  have h2 : ∀ M : List SN, (∀ x ∈ M, x.1.size ≤ 8) → ((M.map snapF).flatMap fieldB).length ≤ M.length * 13 := by
    intro M
    induction M with
    | nil => intro _; simp
    | cons x M ih =>
      intro hM
      have h3 := ih fun y hy => hM y (List.mem_cons_of_mem _ hy)
      have h4 := hM x (List.mem_cons_self ..)
      rw [List.map_cons, List.flatMap_cons, List.length_append, List.length_cons]
      have h5 : (fieldB (snapF x)).length = 2 + (snapF x).size := by unfold fieldB numB; rw [List.length_append, bytesOf_length]; rfl
      rw [snapF_size] at h5
      omega
  have h6 := h2 D.S hS
  have h7 := hf.2.2.2.2.1
  unfold superL fieldsB
  simp only [List.length_cons]
  omega
theorem super_back {D : UM} (h : okU D = true) : superA (superL D) = some D := by
  have hf := okU_facts h
  have hl := super_len h
  have hd : (superL D).drop 3 = fieldsB (D.S.map snapF) := rfl
  have hr : rfA (fieldsB (D.S.map snapF)) = (D.S.map snapF, 0) := by
    refine rf_back _ (by rw [List.length_map]; omega) (snapF_all h) ?_
    have h9 : (superL D).length = 3 + (fieldsB (D.S.map snapF)).length := by unfold superL; simp only [List.length_cons]; omega
    omega
  have hm : (D.S.map snapF).map snapOf = D.S := by
    rw [List.map_map]
    conv => rhs; rw [← List.map_id D.S]
    refine List.map_congr_left fun x hx => ?_
    obtain ⟨i, hi, rfl⟩ := List.getElem_of_mem hx
    have h1 := (hf.2.2.2.2.2 i hi).2
    rw [List.getD_eq_getElem?_getD, List.getElem?_eq_getElem hi] at h1
    exact snap_back h1.1 h1.2.1 h1.2.2.1 h1.2.2.2
  unfold superA
  rw [hd, hr, if_neg, if_neg (by simp), if_neg, hm]
  · have e1 : (superL D).getD 1 0 = D.G.toNat % 256 := rfl
    have e2 : (superL D).getD 2 0 = (D.R + 1).toNat % 256 := rfl
    rw [e1, e2]
    congr 1
    obtain ⟨G, R, S⟩ := D
    simp only at hf ⊢
    congr 1
    · omega
    · omega
  · rintro ⟨f, hf2, hlt⟩
    obtain ⟨x, _, rfl⟩ := List.mem_map.1 hf2
    rw [snapF_size] at hlt
    omega
  · rintro (h9 | h9)
    · omega
    · exact h9 rfl
theorem readU_back {D : UM} (h : okU D = true) : readU (sealB (superL D)) = (D, 0) := by
  have hl := super_len h
  unfold readU
  rw [if_neg (by rw [sealB_length]; omega), if_neg (by rw [sealed_seal]; decide), superR_some (sealed_seal _) (by rw [body_seal]; exact super_back h) h]
theorem readU_flip {D : UM} (h : okU D = true) {x y : Nat} (hx : x < (superL D).length + 4) (hy : y < 256) (hne : (sealB (superL D)).getD x 0 ≠ y) : readU ((sealB (superL D)).set x y) = (um0, 8) := by
  have hl := super_len h
  unfold readU
  rw [if_neg (by rw [List.length_set, sealB_length]; omega), if_pos (sealed_flip superL_lt (by omega) hx hy hne)]
end Go.Proofs.YtnejklppbjkekaaDoor
