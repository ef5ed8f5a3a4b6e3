
/-
  ApplyDiff over lists. By an AI agent.
-/
import Derived.Test.YtmbndpgoihdpnaaGreatDoorDifo
import Derived.Test.YtmbndpgoihdpnaaGreatDoorForm
namespace Go.Proofs.YtmbndpgoihdpnaaGreatDoor
open Go.ChangeShapes Go.WideShapes Go.ChangeAt Go.RowKit Go.Deep
set_option linter.unusedVariables false

/-- The place of a key: how many keys ahead of it, counted from the front. -/
def plcF (f : Nat → ByteArray) (key : ByteArray) : Nat → Nat
  | 0 => 0
  | n + 1 => if plcF f key n < n then plcF f key n else if Op.bytesLess (f n).toList key.toList = true then n + 1 else n
theorem plcF_is (f : Nat → ByteArray) (key : ByteArray) : ∀ n, IsPlace f n key (plcF f key n)
  | 0 => ⟨Nat.le_refl _, fun j hj => absurd hj (by unfold plcF; omega), fun h => absurd h (by unfold plcF; omega)⟩
  | n + 1 => by
    obtain ⟨h1, h2, h3⟩ := plcF_is f key n
    unfold plcF
    by_cases e : plcF f key n < n
    · rw [if_pos e]
      exact ⟨by omega, h2, fun _ => h3 e⟩
    · have hp : plcF f key n = n := by omega
      rw [if_neg e]
      rw [hp] at h2
      cases hl : Op.bytesLess (f n).toList key.toList with
      | false => rw [if_neg (by decide)]; exact ⟨by omega, h2, fun _ => hl⟩
      | true => rw [if_pos rfl]; exact ⟨by omega, fun j hj => by
          by_cases e : j = n
          · rw [e]; exact hl
          · exact h2 j (by omega), fun h => absurd h (by omega)⟩
def plc (L : List PM) (k : ByteArray) : Nat := plcF (fstL L) k L.length
theorem plc_is (L : List PM) (k : ByteArray) : IsPlace (fstL L) L.length k (plc L k) := plcF_is (fstL L) k L.length
/-- Where the rest behind a key begins. -/
def beh (L : List PM) (k : ByteArray) : Nat := if hitB (fstL L) L.length k (plc L k) = true then plc L k + 1 else plc L k
def stepM (L : List PM) (d : DF) : List PM := L.take (plc L d.1) ++ (if d.2.2.2.2 = true then [(d.1, d.2.2.1)] else []) ++ L.drop (beh L d.1)
def runM : List PM → List DF → List PM × Int
  | L, [] => (L, 0)
  | L, d :: ds => if formB d = false then ([], 3) else if heldM L d.1 = (d.2.1, d.2.2.2.1) then runM (stepM L d) ds else ([], 18)
/-- What ApplyDiff answers. -/
def applyA (L : List PM) (ds : List DF) : List PM × Int :=
  if 4096 < L.length ∨ 4096 < ds.length then ([], 2) else if okP L = false then ([], 1) else if 120 < ds.length then ([], 6) else
    if (runM L ds).2 ≠ 0 then (L, (runM L ds).2) else if 60 < (runM L ds).1.length then (L, 7) else ((runM L ds).1, 0)
theorem run_form {L : List PM} {d : DF} {ds : List DF} (h : formB d = false) : runM L (d :: ds) = ([], 3) := by rw [runM, if_pos h]
theorem run_old {L : List PM} {d : DF} {ds : List DF} (h : formB d = true) (k : heldM L d.1 ≠ (d.2.1, d.2.2.2.1)) : runM L (d :: ds) = ([], 18) := by rw [runM, if_neg (by rw [h]; decide), if_neg k]
theorem run_step {L : List PM} {d : DF} {ds : List DF} (h : formB d = true) (k : heldM L d.1 = (d.2.1, d.2.2.2.1)) : runM L (d :: ds) = runM (stepM L d) ds := by rw [runM, if_neg (by rw [h]; decide), if_pos k]
theorem beh_le (L : List PM) (k : ByteArray) : beh L k ≤ L.length ∧ plc L k ≤ beh L k := by
  have h := (plc_is L k).1
  unfold beh
  split
  · rename_i hh
    unfold hitB at hh
    simp at hh
    omega
  · omega
theorem step_len (L : List PM) (d : DF) : (stepM L d).length ≤ L.length + 1 := by
  have h := beh_le L d.1
  unfold stepM
  simp only [List.length_append, List.length_take, List.length_drop]
  split <;> simp <;> omega
theorem step_put {L : List PM} {d : DF} (h : d.2.2.2.2 = true) : stepM L d = putL (fstL L) (sndL L) L.length d.1 d.2.2.1 (plc L d.1) := by
  unfold stepM putL beh
  rw [if_pos h, listP_self]
theorem side_le {v : ByteArray} {t : Bool} (h : sideB v t = true) : v.size ≤ 90 := by
  unfold sideB at h
  cases t with
  | false => rw [if_neg (by decide)] at h; have := of_decide_eq_true h; omega
  | true => rw [if_pos rfl] at h; exact of_decide_eq_true h
theorem step_good {L : List PM} {d : DF} (h : GoodL L) (hf : formB d = true) : GoodL (stepM L d) := by
  have hk : keyB d.1 = true := by unfold formB at hf; simp at hf; exact hf.1.1.1
  have hn : d.2.2.1.size ≤ 90 := by unfold formB at hf; simp at hf; exact side_le hf.1.2
  by_cases hi : d.2.2.2.2 = true
  · rw [step_put hi]
    exact put_good h hk hn (plc_is L d.1)
  · have e : stepM L d = L.take (plc L d.1) ++ L.drop (beh L d.1) := by unfold stepM; rw [if_neg hi]; simp
    rw [e]
    have hs : List.Sublist (L.take (plc L d.1) ++ L.drop (beh L d.1)) L := by
      have h1 : List.Sublist (L.take (plc L d.1) ++ L.drop (beh L d.1)) (L.take (plc L d.1) ++ L.drop (plc L d.1)) := by
        refine List.Sublist.append_left ?_ _
        have h2 := (beh_le L d.1).2
        have h3 : L.drop (beh L d.1) = (L.drop (plc L d.1)).drop (beh L d.1 - plc L d.1) := by rw [List.drop_drop]; congr 1; omega
        rw [h3]
        exact List.drop_sublist _ _
      rwa [List.take_append_drop] at h1
    exact ⟨fun x hx => h.1 x (hs.subset hx), List.Pairwise.sublist hs h.2⟩
theorem dropTo_filter (f g : Nat → ByteArray) (key : ByteArray) (n : Nat) : dropTo f g key n = (listP f g n).filter fun x => x.1.toList != key.toList := by
  unfold dropTo listP
  rw [List.filter_map]
  rfl
theorem dropTo_step {L : List PM} {d : DF} (h : UpL L) (hi : d.2.2.2.2 = false) : dropTo (fstL L) (sndL L) d.1 L.length = stepM L d := by
  rw [dropTo_filter, listP_self]
  unfold stepM
  rw [if_neg (by rw [hi]; decide), List.append_nil]
  have hp := plc_is L d.1
  have h1 := place_lt hp
  have h2 := place_gt h hp
  have f1 : (L.take (plc L d.1)).filter (fun x => x.1.toList != d.1.toList) = L.take (plc L d.1) := List.filter_eq_self.2 fun x hx => by
    have h3 := h1 x hx
    simp only [bne_iff_ne, ne_eq]
    intro e
    rw [e, bl_irrefl] at h3
    cases h3
  have f2 : (L.drop (beh L d.1)).filter (fun x => x.1.toList != d.1.toList) = L.drop (beh L d.1) := List.filter_eq_self.2 fun x hx => by
    have h3 := h2 x hx
    simp only [bne_iff_ne, ne_eq]
    intro e
    rw [e, bl_irrefl] at h3
    cases h3
  by_cases hh : hitB (fstL L) L.length d.1 (plc L d.1) = true
  · have hlt : plc L d.1 < L.length := by unfold hitB at hh; simp at hh; exact hh.1
    have hk : L[plc L d.1].1.toList = d.1.toList := by
      unfold hitB at hh
      simp at hh
      rw [← (at_fst hlt).1]
      exact hh.2
    have eb : beh L d.1 = plc L d.1 + 1 := by unfold beh; rw [if_pos hh]
    have el : L = L.take (plc L d.1) ++ (L[plc L d.1] :: L.drop (plc L d.1 + 1)) := by rw [← List.drop_eq_getElem_cons hlt, List.take_append_drop]
    conv => lhs; rw [el]
    rw [List.filter_append, f1, List.filter_cons_of_neg (by simpa using hk), ← eb, f2]
  · have eb : beh L d.1 = plc L d.1 := by unfold beh; rw [if_neg hh]
    conv => lhs; rw [← List.take_append_drop (plc L d.1) L]
    rw [List.filter_append, f1, ← eb, f2]
theorem run_small : ∀ (ds : List DF) (L : List PM), (runM L ds).1.length ≤ L.length + ds.length
  | [], L => by simp [runM]
  | d :: ds, L => by
    rw [runM]
    split
    · simp
    · split
      · have h1 := run_small ds (stepM L d)
        have h2 := step_len L d
        simp only [List.length_cons]
        omega
      · simp
theorem applyA_small {L : List PM} {ds : List DF} {R : List PM} {q : Int} (h : applyA L ds = (R, q)) : R.length ≤ 1048576 := by
  unfold applyA at h
  by_cases h0 : 4096 < L.length ∨ 4096 < ds.length
  · rw [if_pos h0] at h; cases h; simp
  · rw [if_neg h0] at h
    have h1 := run_small ds L
    split at h
    · cases h; simp
    · split at h
      · cases h; simp
      · split at h
        · cases h; omega
        · split at h
          · cases h; omega
          · cases h; omega
end Go.Proofs.YtmbndpgoihdpnaaGreatDoor
