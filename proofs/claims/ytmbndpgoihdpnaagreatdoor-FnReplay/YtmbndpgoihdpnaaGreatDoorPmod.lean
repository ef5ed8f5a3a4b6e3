
/-
  Good lists of pairs: what put, drop, get and under leave of them. By an AI agent.
-/
import Derived.Test.YtmbndpgoihdpnaaGreatDoorPutd
import Derived.Test.YtmbndpgoihdpnaaGreatDoorUnder
namespace Go.Proofs.YtmbndpgoihdpnaaGreatDoor
open Go.ChangeShapes Go.WideShapes Go.ChangeAt Go.RowKit Go.Deep
set_option linter.unusedVariables false
set_option maxRecDepth 100000

def UpL (L : List PM) : Prop := L.Pairwise fun x y => Op.bytesLess x.1.toList y.1.toList = true
def GoodL (L : List PM) : Prop := (∀ x ∈ L, fitB x.1 x.2 = true) ∧ UpL L
theorem GoodL.nil : GoodL [] := ⟨fun x h => (by cases h), List.Pairwise.nil⟩
theorem bl_total : ∀ x y : List UInt8, Op.bytesLess x y = false → x ≠ y → Op.bytesLess y x = true
  | [], [], _, h => absurd rfl h
  | [], b :: y, h, _ => by simp [Op.bytesLess] at h
  | a :: x, [], _, _ => by simp [Op.bytesLess]
  | a :: x, b :: y, h, hn => by
    have ih := bl_total x y
    unfold Op.bytesLess at h ⊢
    by_cases e : a = b
    · subst e
      simp at h ⊢
      exact ih h (fun e => hn (by rw [e]))
    · simp at h ⊢
      have hne : a.toNat ≠ b.toNat := fun e2 => e (UInt8.toNat_inj.1 e2)
      have h1 := UInt8.le_iff_toNat_le.1 h.1
      exact .inl (UInt8.lt_iff_toNat_lt.2 (by omega))
theorem toList_inj {x y : ByteArray} (h : x.toList = y.toList) : x = y := by
  rw [ByteArray.toList_eq, ByteArray.toList_eq] at h
  exact bytes_inj h
theorem at_fst {L : List PM} {i : Nat} (hi : i < L.length) : fstL L i = L[i].1 ∧ sndL L i = L[i].2 := by
  unfold fstL sndL
  rw [List.getD_eq_getElem?_getD, List.getElem?_eq_getElem hi]
  exact ⟨rfl, rfl⟩
theorem UpL.lt {L : List PM} (h : UpL L) {i j : Nat} (hi : i < j) (hj : j < L.length) : Op.bytesLess (fstL L i).toList (fstL L j).toList = true := by
  rw [(at_fst (by omega : i < L.length)).1, (at_fst hj).1]
  exact List.pairwise_iff_getElem.1 h i j (by omega) hj hi
theorem GoodL.pairsB {L : List PM} (h : GoodL L) (hn : L.length ≤ 60) : pairsB (fstL L) (sndL L) L.length = true := by
  refine pairsB_good _ _ _ hn fun k hk => ?_
  unfold goodB riseB
  rw [Bool.and_eq_true]
  refine ⟨?_, ?_⟩
  · rw [(at_fst hk).1, (at_fst hk).2]
    exact h.1 _ (List.getElem_mem _)
  · by_cases e : k = 0
    · simp [e]
    · rw [h.2.lt (by omega) hk]; simp
theorem key_size {k : ByteArray} (h : keyB k = true) : 1 ≤ k.size ∧ k.size ≤ 30 := by
  unfold keyB at h
  simp at h
  omega
theorem GoodL.ask {L : List PM} (h : GoodL L) (hn : L.length ≤ 60) {k : ByteArray} (hk : keyB k = true) : askC (fstL L) (sndL L) L.length k = 0 := by
  have h2 := key_size hk
  unfold askC
  rw [if_neg (by omega), if_neg (by rw [h.pairsB hn]; decide), if_neg (by rw [hk]; decide)]
theorem GoodL.sizes {L : List PM} (h : GoodL L) : ∀ i, i < L.length → (fstL L i).size ≤ 1048576 ∧ (sndL L i).size ≤ 1048576 := fun i hi => by
  rw [(at_fst hi).1, (at_fst hi).2]
  have h1 := h.1 _ (List.getElem_mem hi)
  unfold fitB at h1
  rw [Bool.and_eq_true] at h1
  have h2 := key_size h1.1
  have h3 := h1.2
  simp at h3
  omega
theorem listP_self (L : List PM) : listP (fstL L) (sndL L) L.length = L := by
  apply List.ext_getElem (by rw [listP_length])
  intro i h1 h2
  simp only [listP, List.getElem_map, List.getElem_range]
  rw [(at_fst h2).1, (at_fst h2).2]
theorem place_lt {L : List PM} {k : ByteArray} {p : Nat} (hp : IsPlace (fstL L) L.length k p) : ∀ x ∈ L.take p, Op.bytesLess x.1.toList k.toList = true := by
  intro x hx
  obtain ⟨i, hi, rfl⟩ := List.mem_iff_getElem.1 hx
  rw [List.length_take] at hi
  rw [List.getElem_take, ← (at_fst (by omega : i < L.length)).1]
  exact hp.2.1 i (by omega)
theorem place_gt {L : List PM} (hu : UpL L) {k : ByteArray} {p : Nat} (hp : IsPlace (fstL L) L.length k p) : ∀ x ∈ L.drop (if hitB (fstL L) L.length k p = true then p + 1 else p), Op.bytesLess k.toList x.1.toList = true := by
  intro x hx
  obtain ⟨i, hi, rfl⟩ := List.mem_iff_getElem.1 hx
  rw [List.length_drop] at hi
  rw [List.getElem_drop, ← (at_fst (L := L) (by omega)).1]
  by_cases hh : hitB (fstL L) L.length k p = true
  · rw [if_pos hh] at hi ⊢
    unfold hitB at hh
    simp at hh
    rw [← hh.2]
    exact hu.lt (by omega) (by omega)
  · rw [if_neg hh] at hi ⊢
    have hpl : p < L.length := by omega
    have h1 : Op.bytesLess k.toList (fstL L p).toList = true := by
      refine bl_total _ _ (hp.2.2 hpl) fun e => hh ?_
      unfold hitB
      rw [decide_eq_true hpl, e]
      simp
    by_cases e : i = 0
    · subst e
      exact h1
    · exact bl_trans _ _ _ h1 (hu.lt (by omega) (by omega))
theorem put_good {L : List PM} (h : GoodL L) {k v : ByteArray} (hk : keyB k = true) (hv : v.size ≤ 90) {p : Nat} (hp : IsPlace (fstL L) L.length k p) : GoodL (putL (fstL L) (sndL L) L.length k v p) := by
  have h1 := place_lt hp
  have h2 := place_gt h.2 hp
  unfold putL
  rw [listP_self]
  generalize (if hitB (fstL L) L.length k p = true then p + 1 else p) = q at h2
  refine ⟨fun x hx => ?_, ?_⟩
  · rw [List.mem_append, List.mem_append] at hx
    rcases hx with (hx | hx) | hx
    · exact h.1 _ (List.mem_of_mem_take hx)
    · simp at hx
      subst hx
      unfold fitB
      rw [hk]
      simp
      omega
    · exact h.1 _ (List.mem_of_mem_drop hx)
  · unfold UpL
    rw [List.pairwise_append, List.pairwise_append]
    refine ⟨⟨h.2.sublist (List.take_sublist _ _), List.pairwise_singleton _ _, fun x hx y hy => ?_⟩, h.2.sublist (List.drop_sublist _ _), fun x hx y hy => ?_⟩
    · simp at hy
      subst hy
      exact h1 x hx
    · rw [List.mem_append] at hx
      rcases hx with hx | hx
      · exact bl_trans _ _ _ (h1 x hx) (h2 y hy)
      · simp at hx
        subst hx
        exact h2 y hy
theorem put_mem (L : List PM) (k v : ByteArray) (p : Nat) : (k, v) ∈ putL (fstL L) (sndL L) L.length k v p := by
  unfold putL
  rw [List.mem_append, List.mem_append]
  exact .inl (.inr (by simp))
theorem mem_keep {L : List PM} {x : PM} (hx : x ∈ L) {k : ByteArray} (hne : x.1.toList ≠ k.toList) {p : Nat} : x ∈ L.take p ∨ x ∈ L.drop (if hitB (fstL L) L.length k p = true then p + 1 else p) := by
  obtain ⟨i, hi, rfl⟩ := List.mem_iff_getElem.1 hx
  by_cases e : i < p
  · left
    rw [List.mem_iff_getElem]
    exact ⟨i, by rw [List.length_take]; omega, by rw [List.getElem_take]⟩
  · right
    generalize hq : (if hitB (fstL L) L.length k p = true then p + 1 else p) = q
    have hqi : q ≤ i := by
      by_cases hh : hitB (fstL L) L.length k p = true
      · rw [if_pos hh] at hq
        unfold hitB at hh
        simp at hh
        by_cases e2 : i = p
        · subst e2
          rw [(at_fst hi).1] at hh
          exact absurd hh.2 hne
        · omega
      · rw [if_neg hh] at hq
        omega
    rw [List.mem_iff_getElem]
    refine ⟨i - q, by rw [List.length_drop]; omega, ?_⟩
    rw [List.getElem_drop]
    congr 1
    omega
theorem put_keep {L : List PM} {x : PM} (hx : x ∈ L) {k v : ByteArray} (hne : x.1.toList ≠ k.toList) {p : Nat} : x ∈ putL (fstL L) (sndL L) L.length k v p := by
  unfold putL
  rw [listP_self, List.mem_append, List.mem_append]
  rcases mem_keep hx hne (p := p) with h | h
  · exact .inl (.inl h)
  · exact .inr h
theorem place_at {M : List PM} (h : UpL M) {k : ByteArray} {p i : Nat} (hp : IsPlace (fstL M) M.length k p) (hi : i < M.length) (hk : M[i].1 = k) : p = i ∧ hitB (fstL M) M.length k p = true := by
  have e1 : fstL M i = k := by rw [(at_fst hi).1, hk]
  have hpi : p = i := by
    by_cases h1 : i < p
    · have h2 := hp.2.1 i h1
      rw [e1, bl_irrefl] at h2
      cases h2
    · by_cases h2 : p < i
      · have h3 := hp.2.2 (by omega)
        have h4 := h.lt h2 hi
        rw [e1, h3] at h4
        cases h4
      · omega
  subst hpi
  refine ⟨rfl, ?_⟩
  unfold hitB
  rw [decide_eq_true hi, e1]
  simp
theorem get_mem {M : List PM} (h : GoodL M) (hn : M.length ≤ 60) {x v : ByteArray} (hx : (x, v) ∈ M) {p : Nat} (hp : IsPlace (fstL M) M.length x p) : getV (fstL M) (sndL M) M.length x p = v ∧ getC (fstL M) (sndL M) M.length x p = 0 := by
  have hfit := h.1 _ hx
  unfold fitB at hfit
  rw [Bool.and_eq_true] at hfit
  obtain ⟨i, hi, hxi⟩ := List.mem_iff_getElem.1 hx
  obtain ⟨rfl, hh⟩ := place_at h.2 hp hi (by rw [hxi])
  have ha := h.ask hn hfit.1
  unfold getV getC gotV
  rw [if_pos ha, if_pos ha, if_pos hh, if_pos hh, (at_fst hi).2, hxi]
  exact ⟨rfl, rfl⟩
theorem get_none {M : List PM} (h : GoodL M) (hn : M.length ≤ 60) {x : ByteArray} (hk : keyB x = true) (hx : ∀ y ∈ M, y.1.toList ≠ x.toList) (p : Nat) : getC (fstL M) (sndL M) M.length x p = 5 := by
  have ha := h.ask hn hk
  unfold getC
  rw [if_pos ha, if_neg]
  intro hh
  unfold hitB at hh
  simp at hh
  have h1 := hx _ (List.getElem_mem hh.1)
  rw [← (at_fst hh.1).1] at h1
  exact h1 hh.2
theorem drop_facts {M : List PM} (h : GoodL M) {k v : ByteArray} (hx : (k, v) ∈ M) {p : Nat} (hp : IsPlace (fstL M) M.length k p) :
    hitB (fstL M) M.length k p = true ∧ GoodL (M.take p ++ M.drop (p + 1)) ∧ (∀ y ∈ M.take p ++ M.drop (p + 1), y.1.toList ≠ k.toList) ∧ (∀ y ∈ M, y.1.toList ≠ k.toList → y ∈ M.take p ++ M.drop (p + 1)) := by
  obtain ⟨i, hi, hxi⟩ := List.mem_iff_getElem.1 hx
  obtain ⟨rfl, hh⟩ := place_at h.2 hp hi (by rw [hxi])
  have h1 := place_lt hp
  have h2 := place_gt h.2 hp
  rw [if_pos hh] at h2
  refine ⟨hh, ⟨fun x hx => ?_, ?_⟩, fun y hy e => ?_, fun y hy hne => ?_⟩
  · rw [List.mem_append] at hx
    rcases hx with hx | hx
    · exact h.1 _ (List.mem_of_mem_take hx)
    · exact h.1 _ (List.mem_of_mem_drop hx)
  · unfold UpL
    rw [List.pairwise_append]
    exact ⟨h.2.sublist (List.take_sublist _ _), h.2.sublist (List.drop_sublist _ _), fun x hx y hy => bl_trans _ _ _ (h1 x hx) (h2 y hy)⟩
  · rw [List.mem_append] at hy
    rcases hy with hy | hy
    · have h3 := h1 y hy
      rw [e, bl_irrefl] at h3
      cases h3
    · have h3 := h2 y hy
      rw [e, bl_irrefl] at h3
      cases h3
  · have h3 := mem_keep hy hne (p := p)
    rw [if_pos hh] at h3
    rw [List.mem_append]
    exact h3
theorem bl_ahead : ∀ h r : List UInt8, Op.bytesLess (h ++ r) h = false
  | [], r => by cases r <;> rfl
  | a :: h, r => by simp [Op.bytesLess, bl_ahead h r]
theorem begins_not {t h : ByteArray} (hb : beginsB t h = true) : Op.bytesLess t.toList h.toList = false := by
  unfold beginsB at hb
  rw [Bool.and_eq_true] at hb
  have h1 : (t.extract 0 h.size).toList = h.toList := by simpa using hb.2
  have h2 : t.toList = h.toList ++ t.data.toList.drop h.size := by
    rw [← h1, ByteArray.toList_eq, ByteArray.toList_eq]
    simp
  rw [h2]
  exact bl_ahead _ _
theorem begins_self (k : ByteArray) : beginsB k k = true := by
  unfold beginsB
  have h1 : (k.extract 0 k.size).toList = k.toList := by
    rw [ByteArray.toList_eq, ByteArray.toList_eq]
    simp
  rw [h1]
  simp
theorem under_filter (M : List PM) (k : ByteArray) : ∀ n, n ≤ M.length → under (fstL M) (sndL M) k n = (M.take n).filter fun x => beginsB x.1 k
  | 0, _ => by simp [under]
  | n + 1, h => by
    have ih := under_filter M k n (by omega)
    have e1 : M.take (n + 1) = M.take n ++ [M[n]] := by rw [List.take_add_one, List.getElem?_eq_getElem (by omega)]; rfl
    have e2 := at_fst (L := M) (i := n) (by omega)
    cases hb : beginsB (fstL M n) k with
    | true => rw [under_hit _ _ _ _ hb, ih, e1, List.filter_append, e2.1, e2.2]; rw [e2.1] at hb; simp [hb]
    | false => rw [under_miss _ _ _ _ hb, ih, e1, List.filter_append]; rw [e2.1] at hb; simp [hb]
theorem under_first {M : List PM} (h : GoodL M) (hn : M.length ≤ 60) {k v : ByteArray} (hk : keyB k = true) (hx : (k, v) ∈ M) : underC (fstL M) (sndL M) M.length k = 0 ∧ ∃ R, underL (fstL M) (sndL M) M.length k = (k, v) :: R := by
  have hs := key_size hk
  have h0 : underC (fstL M) (sndL M) M.length k = 0 := by
    unfold underC
    rw [if_neg (by omega), if_neg (by rw [h.pairsB hn]; decide)]
  refine ⟨h0, ?_⟩
  unfold underL
  rw [if_pos h0, under_filter M k _ (Nat.le_refl _), List.take_length]
  obtain ⟨A, B, rfl⟩ := List.append_of_mem hx
  have hA : A.filter (fun x => beginsB x.1 k) = [] := by
    rw [List.filter_eq_nil_iff]
    intro x hxA hb
    have h1 := begins_not hb
    have h2 : Op.bytesLess x.1.toList k.toList = true := (List.pairwise_append.1 h.2).2.2 x hxA (k, v) (by simp)
    rw [h1] at h2
    cases h2
  refine ⟨B.filter (fun x => beginsB x.1 k), ?_⟩
  rw [List.filter_append, hA, List.filter_cons, if_pos (begins_self k)]
  rfl
end Go.Proofs.YtmbndpgoihdpnaaGreatDoor
