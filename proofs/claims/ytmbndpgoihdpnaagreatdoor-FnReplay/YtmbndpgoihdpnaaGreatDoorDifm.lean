
/-
  Differences of pairs, and the keys of two lists, as lists. By an AI agent.
-/
import Derived.Test.YtmbndpgoihdpnaaGreatDoorPrl
import Derived.Sort.Row
import Derived.Lib.SlicesCompact
import Derived.Lib.Strings
namespace Go.Proofs.YtmbndpgoihdpnaaGreatDoor
open Go.ChangeShapes Go.WideShapes Go.ChangeAt Go.RowKit Go.Deep
set_option linter.unusedVariables false

theorem bl_eq : ∀ (x y : List UInt8), Op.bytesLess x y = decide (x < y)
  | [], [] => by simp [Op.bytesLess]
  | _ :: _, [] => by simp [Op.bytesLess]
  | [], _ :: _ => by simp [Op.bytesLess]
  | a :: x, b :: y => by
    rw [Op.bytesLess, bl_eq x y]
    simp only [List.cons_lt_cons_iff]
    by_cases h1 : a < b <;> by_cases h2 : a = b <;> by_cases h3 : x < y <;> simp [h1, h2, h3]
/-- The order of keys. -/
def ltK (x y : ByteArray) : Prop := Op.bytesLess x.toList y.toList = true
theorem ltK_irrefl (x : ByteArray) : ¬ ltK x x := fun h => by unfold ltK at h; rw [bl_irrefl] at h; cases h
theorem ltK_trans {x y z : ByteArray} (h : ltK x y) (k : ltK y z) : ltK x z := bl_trans _ _ _ h k
theorem ltK_ne {x y : ByteArray} (h : ltK x y) : x ≠ y := fun e => ltK_irrefl y (e ▸ h)
theorem ltK_total {x y : ByteArray} (h : x ≠ y) : ltK x y ∨ ltK y x := by
  by_cases k : Op.bytesLess x.toList y.toList = true
  · exact .inl k
  · exact .inr (bl_total _ _ (by simpa using k) (fun e => h (toList_inj e)))
/-- A difference: its key, what was, what is, whether it was, whether it is. -/
abbrev DF := ByteArray × ByteArray × ByteArray × Bool × Bool
/-- What stands at a key. -/
def heldM : List PM → ByteArray → ByteArray × Bool
  | [], _ => (e0, false)
  | x :: L, k => if x.1 = k then (x.2, true) else heldM L k
theorem heldM_ne {x : PM} {L : List PM} {k : ByteArray} (h : x.1 ≠ k) : heldM (x :: L) k = heldM L k := if_neg h
theorem heldM_eq (x : PM) (L : List PM) : heldM (x :: L) x.1 = (x.2, true) := if_pos rfl
theorem heldM_none : ∀ {L : List PM} {k : ByteArray}, (∀ x ∈ L, x.1 ≠ k) → heldM L k = (e0, false)
  | [], _, _ => rfl
  | x :: L, k, h => by rw [heldM_ne (h x (by simp)), heldM_none fun y hy => h y (by simp [hy])]
def diffAt (a b : List PM) (k : ByteArray) : Option DF :=
  if heldM a k = heldM b k then none else some (k, (heldM a k).1, (heldM b k).1, (heldM a k).2, (heldM b k).2)
/-- The differences by the specification's merge. -/
def diffM : List PM → List PM → List DF
  | [], [] => []
  | x :: a, [] => (x.1, x.2, e0, true, false) :: diffM a []
  | [], y :: b => (y.1, e0, y.2, false, true) :: diffM [] b
  | x :: a, y :: b => if Op.bytesLess x.1.toList y.1.toList = true then (x.1, x.2, e0, true, false) :: diffM a (y :: b) else
      if Op.bytesLess y.1.toList x.1.toList = true then (y.1, e0, y.2, false, true) :: diffM (x :: a) b else
      (if x.2 = y.2 then [] else [(x.1, x.2, y.2, true, true)]) ++ diffM a b
  termination_by a b => a.length + b.length
theorem up_cons {x : PM} {L : List PM} (h : UpL (x :: L)) : (∀ y ∈ L, ltK x.1 y.1) ∧ UpL L := List.pairwise_cons.1 h
/-- A list of keys that rises, with just the keys of two lists. -/
def KeysOf (K : List ByteArray) (a b : List PM) : Prop := K.Pairwise ltK ∧ ∀ k, k ∈ K ↔ (∃ x ∈ a, x.1 = k) ∨ (∃ x ∈ b, x.1 = k)
theorem keys_step {K : List ByteArray} {a b a' b' : List PM} {k : ByteArray} (h : KeysOf K a b) (hk : (∃ x ∈ a, x.1 = k) ∨ (∃ x ∈ b, x.1 = k)) (ha : ∀ x ∈ a, x.1 = k ∨ x ∈ a') (hb : ∀ x ∈ b, x.1 = k ∨ x ∈ b') (ha2 : ∀ x ∈ a', x ∈ a ∧ ltK k x.1) (hb2 : ∀ x ∈ b', x ∈ b ∧ ltK k x.1) :
    ∃ K', K = k :: K' ∧ KeysOf K' a' b' ∧ ∀ z ∈ K', z ≠ k := by
  have hkK : k ∈ K := (h.2 k).2 hk
  obtain ⟨K0, rfl | hK0⟩ : ∃ K0 : List ByteArray, K = [] ∨ ∃ z, K = z :: K0 := by
    cases K with
    | nil => exact ⟨[], .inl rfl⟩
    | cons z K0 => exact ⟨K0, .inr ⟨z, rfl⟩⟩
  · cases hkK
  obtain ⟨z, rfl⟩ := hK0
  have hp := List.pairwise_cons.1 h.1
  have hzk : z = k := by
    rw [List.mem_cons] at hkK
    rcases hkK with e | e
    · exact e.symm
    · have h1 := hp.1 k e
      have h2 := (h.2 z).1 (by simp)
      rcases h2 with ⟨x, hx, hxz⟩ | ⟨x, hx, hxz⟩
      · rcases ha x hx with e2 | e2
        · rw [← hxz, e2] at h1; exact absurd h1 (ltK_irrefl _)
        · have h3 := (ha2 x e2).2; rw [hxz] at h3; exact absurd (ltK_trans h1 h3) (ltK_irrefl _)
      · rcases hb x hx with e2 | e2
        · rw [← hxz, e2] at h1; exact absurd h1 (ltK_irrefl _)
        · have h3 := (hb2 x e2).2; rw [hxz] at h3; exact absurd (ltK_trans h1 h3) (ltK_irrefl _)
  subst hzk
  refine ⟨K0, rfl, ⟨hp.2, fun q => ⟨fun hq => ?_, fun hq => ?_⟩⟩, fun q hq e => ltK_irrefl z (by have := hp.1 q hq; rwa [e] at this)⟩
  · have hzq := hp.1 q hq
    rcases (h.2 q).1 (by simp [hq]) with ⟨x, hx, hxq⟩ | ⟨x, hx, hxq⟩
    · rcases ha x hx with e2 | e2
      · rw [← hxq, e2] at hzq; exact absurd hzq (ltK_irrefl _)
      · exact .inl ⟨x, e2, hxq⟩
    · rcases hb x hx with e2 | e2
      · rw [← hxq, e2] at hzq; exact absurd hzq (ltK_irrefl _)
      · exact .inr ⟨x, e2, hxq⟩
  · have hq2 : q ∈ z :: K0 ∧ ltK z q := by
      rcases hq with ⟨x, hx, hxq⟩ | ⟨x, hx, hxq⟩
      · exact ⟨(h.2 q).2 (.inl ⟨x, (ha2 x hx).1, hxq⟩), by rw [← hxq]; exact (ha2 x hx).2⟩
      · exact ⟨(h.2 q).2 (.inr ⟨x, (hb2 x hx).1, hxq⟩), by rw [← hxq]; exact (hb2 x hx).2⟩
    rcases List.mem_cons.1 hq2.1 with e | e
    · exact absurd hq2.2 (by rw [e]; exact ltK_irrefl _)
    · exact e
theorem diffAt_congr {a b a' b' : List PM} {K : List ByteArray} (h : ∀ z ∈ K, heldM a z = heldM a' z ∧ heldM b z = heldM b' z) : K.filterMap (diffAt a b) = K.filterMap (diffAt a' b') := by
  induction K with
  | nil => rfl
  | cons z K ih =>
    have h1 := h z (by simp)
    have e1 : diffAt a b z = diffAt a' b' z := by unfold diffAt; rw [h1.1, h1.2]
    rw [List.filterMap_cons, List.filterMap_cons, e1, ih fun y hy => h y (by simp [hy])]
theorem diff_keys (a b : List PM) (K : List ByteArray) (ha : UpL a) (hb : UpL b) (h : KeysOf K a b) : K.filterMap (diffAt a b) = diffM a b := by
  induction a, b using diffM.induct generalizing K with
  | case1 =>
    cases K with
    | nil => simp [diffM]
    | cons z K => have := (h.2 z).1 (by simp); simp at this
  | case2 x a ih =>
    have hu := up_cons ha
    obtain ⟨K', rfl, hK', hne⟩ := keys_step h (k := x.1) (a' := a) (b' := []) (.inl ⟨x, by simp, rfl⟩) (fun y hy => by rcases List.mem_cons.1 hy with e | e; exact .inl (by rw [e]); exact .inr e) (fun y hy => by cases hy) (fun y hy => ⟨by simp [hy], hu.1 y hy⟩) (fun y hy => by cases hy)
    rw [diffM, List.filterMap_cons, ← ih K' hu.2 hb hK', diffAt_congr (a' := a) (b' := []) fun z hz => ⟨heldM_ne (hne z hz).symm, rfl⟩]
    unfold diffAt
    rw [heldM_eq, heldM_none (L := []) (fun y hy => by cases hy), if_neg (by simp)]
  | case3 y b ih =>
    have hu := up_cons hb
    obtain ⟨K', rfl, hK', hne⟩ := keys_step h (k := y.1) (a' := []) (b' := b) (.inr ⟨y, by simp, rfl⟩) (fun y hy => by cases hy) (fun y hy => by rcases List.mem_cons.1 hy with e | e; exact .inl (by rw [e]); exact .inr e) (fun y hy => by cases hy) (fun y hy => ⟨by simp [hy], hu.1 y hy⟩)
    rw [diffM, List.filterMap_cons, ← ih K' ha hu.2 hK', diffAt_congr (a' := []) (b' := b) fun z hz => ⟨rfl, heldM_ne (hne z hz).symm⟩]
    unfold diffAt
    rw [heldM_eq, heldM_none (L := []) (fun y hy => by cases hy), if_neg (by simp)]
  | case4 x a y b hlt ih =>
    have hu := up_cons ha
    have hv := up_cons hb
    have hxy : ltK x.1 y.1 := hlt
    have hall : ∀ z ∈ y :: b, ltK x.1 z.1 := fun z hz => by
      rcases List.mem_cons.1 hz with e | e
      · rw [e]; exact hxy
      · exact ltK_trans hxy (hv.1 z e)
    obtain ⟨K', rfl, hK', hne⟩ := keys_step h (k := x.1) (a' := a) (b' := y :: b) (.inl ⟨x, by simp, rfl⟩) (fun z hz => by rcases List.mem_cons.1 hz with e | e; exact .inl (by rw [e]); exact .inr e) (fun z hz => .inr hz) (fun z hz => ⟨by simp [hz], hu.1 z hz⟩) (fun z hz => ⟨hz, hall z hz⟩)
    rw [diffM, if_pos hlt, List.filterMap_cons, ← ih K' hu.2 hb hK', diffAt_congr (a' := a) (b' := y :: b) fun z hz => ⟨heldM_ne (hne z hz).symm, rfl⟩]
    unfold diffAt
    rw [heldM_eq, heldM_none (L := y :: b) (fun z hz => (ltK_ne (hall z hz)).symm), if_neg (by simp)]
  | case5 x a y b hlt hlt2 ih =>
    have hu := up_cons ha
    have hv := up_cons hb
    have hxy : ltK y.1 x.1 := hlt2
    have hall : ∀ z ∈ x :: a, ltK y.1 z.1 := fun z hz => by
      rcases List.mem_cons.1 hz with e | e
      · rw [e]; exact hxy
      · exact ltK_trans hxy (hu.1 z e)
    obtain ⟨K', rfl, hK', hne⟩ := keys_step h (k := y.1) (a' := x :: a) (b' := b) (.inr ⟨y, by simp, rfl⟩) (fun z hz => .inr hz) (fun z hz => by rcases List.mem_cons.1 hz with e | e; exact .inl (by rw [e]); exact .inr e) (fun z hz => ⟨hz, hall z hz⟩) (fun z hz => ⟨by simp [hz], hv.1 z hz⟩)
    rw [diffM, if_neg hlt, if_pos hlt2, List.filterMap_cons, ← ih K' ha hv.2 hK', diffAt_congr (a' := x :: a) (b' := b) fun z hz => ⟨rfl, heldM_ne (hne z hz).symm⟩]
    unfold diffAt
    rw [heldM_eq, heldM_none (L := x :: a) (fun z hz => (ltK_ne (hall z hz)).symm), if_neg (by simp)]
  | case6 x a y b hlt hlt2 ih =>
    have hu := up_cons ha
    have hv := up_cons hb
    have hxy : x.1 = y.1 := by
      apply Decidable.byContradiction
      intro hne
      rcases ltK_total hne with e | e
      · exact hlt e
      · exact hlt2 e
    obtain ⟨K', rfl, hK', hne⟩ := keys_step h (k := x.1) (a' := a) (b' := b) (.inl ⟨x, by simp, rfl⟩) (fun z hz => by rcases List.mem_cons.1 hz with e | e; exact .inl (by rw [e]); exact .inr e) (fun z hz => by rcases List.mem_cons.1 hz with e | e; exact .inl (by rw [e, hxy]); exact .inr e) (fun z hz => ⟨by simp [hz], hu.1 z hz⟩) (fun z hz => ⟨by simp [hz], by rw [hxy]; exact hv.1 z hz⟩)
    rw [diffM, if_neg hlt, if_neg hlt2, List.filterMap_cons, ← ih K' hu.2 hv.2 hK', diffAt_congr (a' := a) (b' := b) fun z hz => ⟨heldM_ne (hne z hz).symm, heldM_ne (by rw [← hxy]; exact (hne z hz).symm)⟩]
    have e1 : heldM (y :: b) x.1 = (y.2, true) := by rw [hxy]; exact heldM_eq y b
    unfold diffAt
    rw [heldM_eq, e1]
    by_cases hval : x.2 = y.2
    · rw [if_pos (by rw [hval]), if_pos hval]; rfl
    · rw [if_neg (by simpa using hval), if_neg hval]; rfl
theorem bl_le_trans {x y z : List UInt8} (h1 : Op.bytesLess y x = false) (h2 : Op.bytesLess z y = false) : Op.bytesLess z x = false := by
  by_cases e1 : y = x
  · subst e1; exact h2
  · have h3 := bl_total y x h1 e1
    by_cases e2 : z = y
    · subst e2; exact h1
    · have h4 := bl_total z y h2 e2
      have h5 := bl_trans _ _ _ h3 h4
      cases h6 : Op.bytesLess z x with
      | false => rfl
      | true => have h7 := bl_trans _ _ _ h5 h6; rw [bl_irrefl] at h7; cases h7
theorem bl_le_lt {x y z : List UInt8} (h1 : Op.bytesLess y x = false) (h2 : Op.bytesLess y z = true) : Op.bytesLess x z = true := by
  by_cases e1 : y = x
  · subst e1; exact h2
  · exact bl_trans _ _ _ (bl_total y x h1 e1) h2
theorem le_is : (fun x y : List UInt8 => decide (x ≤ y)) = fun x y => !Op.bytesLess y x := by
  funext x y
  rw [bl_eq]
  by_cases h : y < x
  · have h2 : ¬ x ≤ y := fun h3 => h3 h
    simp [h, h2]
  · have h2 : x ≤ y := h
    simp [h, h2]
theorem sort_up (ss : List (List UInt8)) : (ss.mergeSort fun x y => decide (x ≤ y)).Pairwise (fun x y => Op.bytesLess y x = false) := by
  rw [le_is]
  have h := List.pairwise_mergeSort (le := fun x y : List UInt8 => !Op.bytesLess y x) (fun a b c h1 h2 => by
    simp only [Bool.not_eq_true'] at h1 h2 ⊢
    exact bl_le_trans h1 h2) (fun a b => by
    cases h1 : Op.bytesLess b a with
    | false => rfl
    | true =>
      cases h2 : Op.bytesLess a b with
      | false => rfl
      | true => have := bl_trans _ _ _ h1 h2; rw [bl_irrefl] at this; cases this) ss
  exact h.imp fun h => by simpa using h
theorem compact_up (d : Array (List UInt8)) (hd : ∀ i j, i < j → j < d.size → Op.bytesLess d[j]! d[i]! = false) : ∀ m, m ≤ d.size →
    (Lib.compactUpTo d m).Pairwise (fun x y => Op.bytesLess x y = true) ∧ (∀ j, j < m → d[j]! ∈ Lib.compactUpTo d m) ∧ (∀ z ∈ Lib.compactUpTo d m, ∃ j, j < m ∧ z = d[j]!)
  | 0, _ => ⟨by simp [Lib.compactUpTo], fun j hj => absurd hj (by omega), fun z hz => by simp [Lib.compactUpTo] at hz⟩
  | m + 1, hm => by
    obtain ⟨h1, h2, h3⟩ := compact_up d hd m (by omega)
    rw [Lib.compactUpTo_succ]
    by_cases hk : Lib.keeps d m = true
    · rw [if_pos hk]
      refine ⟨?_, fun j hj => ?_, fun z hz => ?_⟩
      · rw [List.pairwise_append]
        refine ⟨h1, List.pairwise_singleton _ _, fun x hx y hy => ?_⟩
        simp at hy
        subst hy
        obtain ⟨j, hj, rfl⟩ := h3 x hx
        unfold Lib.keeps at hk
        simp at hk
        have hm0 : m ≠ 0 := by omega
        have hne := hk.resolve_left hm0
        have h4 : Op.bytesLess d[m]! d[m - 1]! = false := hd (m - 1) m (by omega) (by omega)
        have h5 : Op.bytesLess d[m - 1]! d[m]! = true := bl_total _ _ h4 hne
        by_cases e : j = m - 1
        · subst e; exact h5
        · exact bl_le_lt (hd j (m - 1) (by omega) (by omega)) h5
      · by_cases e : j = m
        · subst e; simp
        · exact List.mem_append_left _ (h2 j (by omega))
      · rw [List.mem_append] at hz
        rcases hz with hz | hz
        · obtain ⟨j, hj, rfl⟩ := h3 z hz
          exact ⟨j, by omega, rfl⟩
        · simp at hz
          subst hz
          exact ⟨m, by omega, rfl⟩
    · rw [if_neg hk, List.append_nil]
      refine ⟨h1, fun j hj => ?_, fun z hz => ?_⟩
      · by_cases e : j = m
        · subst e
          unfold Lib.keeps at hk
          simp at hk
          have h6 := h2 (j - 1) (by omega)
          have h7 : d[j]! = d[j - 1]! := hk.2
          rw [h7]; exact h6
        · exact h2 j (by omega)
      · obtain ⟨j, hj, rfl⟩ := h3 z hz
        exact ⟨j, by omega, rfl⟩
/-- The keys of two lists as the program makes them. -/
def sortK (ss : List (List UInt8)) : List (List UInt8) := Lib.compact (ss.mergeSort fun x y => decide (x ≤ y))
theorem sortK_facts (ss : List (List UInt8)) : (sortK ss).Pairwise (fun x y => Op.bytesLess x y = true) ∧ (∀ z, z ∈ sortK ss ↔ z ∈ ss) := by
  obtain ⟨S, hS⟩ : ∃ S, (ss.mergeSort fun x y => decide (x ≤ y)) = S := ⟨_, rfl⟩
  have hu := sort_up ss
  have hp := List.mergeSort_perm ss (fun x y => decide (x ≤ y))
  rw [hS] at hu hp
  have hg : ∀ j, j < S.length → S.toArray[j]! = S.getD j [] := fun j hj => by simp [hj]
  have h := compact_up S.toArray (fun i j hij hj => by
    have hj' : j < S.length := by simpa using hj
    have h1 := List.pairwise_iff_getElem.1 hu i j (by omega) hj' hij
    rw [hg i (by omega), hg j hj']
    simpa [hj', show i < S.length by omega] using h1) S.toArray.size (Nat.le_refl _)
  have e : sortK ss = Lib.compactUpTo S.toArray S.toArray.size := by unfold sortK Lib.compact; rw [hS]; simp
  rw [e]
  refine ⟨h.1, fun z => ⟨fun hz => ?_, fun hz => ?_⟩⟩
  · obtain ⟨j, hj, rfl⟩ := h.2.2 z hz
    have hj' : j < S.length := by simpa using hj
    rw [hg j hj']
    refine hp.mem_iff.1 ?_
    rw [List.getD_eq_getElem?_getD, List.getElem?_eq_getElem hj']
    exact List.getElem_mem _
  · have h1 := hp.mem_iff.2 hz
    obtain ⟨j, hj, rfl⟩ := List.mem_iff_getElem.1 h1
    have h2 := h.2.1 j (by simpa using hj)
    rw [hg j hj] at h2
    simpa [hj] using h2

def mkS8 (l : List UInt8) : ByteArray := ⟨l.toArray⟩
theorem toList_mkS8 (l : List UInt8) : (mkS8 l).toList = l := by rw [Lib.toList_data]; rfl
theorem mkS8_inj {l m : List UInt8} (h : mkS8 l = mkS8 m) : l = m := by rw [← toList_mkS8 l, ← toList_mkS8 m, h]
theorem mkS8_data (x : ByteArray) : mkS8 x.data.toList = x := by cases x; rfl
/-- All keys of two lists, rising. -/
def keysM (a b : List PM) : List ByteArray := (sortK ((a.map (·.1) ++ b.map (·.1)).map (·.data.toList))).map mkS8
theorem keysM_of (a b : List PM) : KeysOf (keysM a b) a b := by
  obtain ⟨h1, h2⟩ := sortK_facts ((a.map (·.1) ++ b.map (·.1)).map (·.data.toList))
  refine ⟨?_, fun k => ?_⟩
  · unfold keysM
    rw [List.pairwise_map]
    refine h1.imp fun h => ?_
    unfold ltK
    rw [toList_mkS8, toList_mkS8]
    exact h
  · unfold keysM
    rw [List.mem_map]
    constructor
    · rintro ⟨z, hz, rfl⟩
      rw [h2, List.mem_map] at hz
      obtain ⟨x, hx, rfl⟩ := hz
      rw [mkS8_data]
      rw [List.mem_append, List.mem_map, List.mem_map] at hx
      rcases hx with ⟨p, hp, rfl⟩ | ⟨p, hp, rfl⟩
      · exact .inl ⟨p, hp, rfl⟩
      · exact .inr ⟨p, hp, rfl⟩
    · intro h
      refine ⟨k.data.toList, ?_, mkS8_data k⟩
      rw [h2, List.mem_map]
      refine ⟨k, ?_, rfl⟩
      rw [List.mem_append, List.mem_map, List.mem_map]
      rcases h with ⟨p, hp, rfl⟩ | ⟨p, hp, rfl⟩
      · exact .inl ⟨p, hp, rfl⟩
      · exact .inr ⟨p, hp, rfl⟩
theorem keysM_diff (a b : List PM) (ha : UpL a) (hb : UpL b) : (keysM a b).filterMap (diffAt a b) = diffM a b := diff_keys a b _ ha hb (keysM_of a b)
theorem keysM_len (a b : List PM) : (keysM a b).length ≤ a.length + b.length := by
  unfold keysM sortK
  rw [List.length_map]
  have h : ∀ zs : List (List UInt8), (Lib.compact zs).length ≤ zs.length := fun zs => by
    unfold Lib.compact Lib.compactUpTo
    rw [List.length_map]
    exact Nat.le_trans (List.length_filter_le _ _) (by rw [List.length_range]; exact Nat.le_refl _)
  refine Nat.le_trans (h _) ?_
  rw [List.length_mergeSort, List.length_map, List.length_append, List.length_map, List.length_map]
  exact Nat.le_refl _
/-- What is held at the place of a key. -/
theorem held_place {L : List PM} {k : ByteArray} {p : Nat} (hu : UpL L) (hp : IsPlace (fstL L) L.length k p) : heldM L k = if hitB (fstL L) L.length k p = true then (sndL L p, true) else (e0, false) := by
  by_cases hh : hitB (fstL L) L.length k p = true
  · rw [if_pos hh]
    unfold hitB at hh
    rw [Bool.and_eq_true, decide_eq_true_eq, beq_iff_eq] at hh
    obtain ⟨hlt, hk⟩ := hh
    rw [(at_fst hlt).1] at hk
    rw [(at_fst hlt).2]
    have hk' : L[p].1 = k := toList_inj hk
    clear hp hk
    induction L generalizing p with
    | nil => exact absurd hlt (by simp)
    | cons x L ih =>
      have hu2 := up_cons hu
      cases p with
      | zero => subst hk'; exact heldM_eq x L
      | succ p =>
        have hlt2 : p < L.length := by simpa using hlt
        have h9 : (x :: L)[p + 1] = L[p] := rfl
        rw [h9] at hk'
        rw [heldM_ne (fun e => ltK_ne (hu2.1 _ (List.getElem_mem hlt2)) (by rw [e, hk']))]
        exact ih hu2.2 hlt2 hk'
  · rw [if_neg hh]
    refine heldM_none fun x hx e => hh ?_
    obtain ⟨i, hi, rfl⟩ := List.mem_iff_getElem.1 hx
    exact (place_at hu hp hi e).2
end Go.Proofs.YtmbndpgoihdpnaaGreatDoor
