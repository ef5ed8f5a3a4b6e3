/-
  TreeGet of both. By an AI agent.
-/
import Derived.Test.YtmpkdggboniigaaTr6
import Derived.Test.YtmpkdggboniigaaPairGeti
namespace Go.Proofs.Ytmpkdggboniigaa
open Go.ChangeShapes Go.WideShapes Go.ChangeAt Go.RowKit Go.Deep
set_option linter.unusedVariables false
set_option maxRecDepth 100000
def tgV (H : List NM) (root : Int) (key : ByteArray) (p : Nat) : ByteArray := if 65536 < key.size then ⟨#[]⟩ else match treeF H root with
  | none => ⟨#[]⟩
  | some s => getV (fK s.P) (fV s.P) s.P.length key p
def tgC (H : List NM) (root : Int) (key : ByteArray) (p : Nat) : Int := if 65536 < key.size then 2 else match treeF H root with
  | none => 1
  | some s => getC (fK s.P) (fV s.P) s.P.length key p
theorem tree_pairs {H : List NM} {root : Int} {s : St} (h : treeF H root = some s) : pairsOf s.P = true := by
  unfold treeF at h
  by_cases h1 : H.length = 50
  · rw [if_pos h1] at h
    by_cases h2 : root = -1
    · rw [if_pos h2] at h
      cases h
      rfl
    · rw [if_neg h2] at h
      cases h3 : growF H 21 root st0 with
      | none => rw [h3] at h; cases h
      | some s1 =>
        rw [h3] at h
        by_cases h4 : pairsOf s1.P = true
        · have h5 : (if pairsOf s1.P = true then some s1 else none) = some s := h
          rw [if_pos h4] at h5
          cases h5
          exact h4
        · have h5 : (if pairsOf s1.P = true then some s1 else none) = some s := h
          rw [if_neg h4] at h5
          cases h5
  · rw [if_neg h1] at h
    cases h
theorem pairs_fit {P : List PM} (h : pairsOf P = true) : P.length ≤ 60 ∧ ∀ i, i < P.length → (fK P i).size ≤ 1048576 ∧ (fV P i).size ≤ 1048576 := by
  unfold pairsOf pairsB at h
  rw [Bool.and_eq_true, decide_eq_true_eq, List.all_eq_true] at h
  refine ⟨h.1, fun i hi => ?_⟩
  have h9 := h.2 i (List.mem_range.2 hi)
  unfold goodB fitB keyB at h9
  simp only [Bool.and_eq_true, decide_eq_true_eq] at h9
  omega
theorem ask_tree {P : List PM} {key : ByteArray} (h : pairsOf P = true) (hk : ¬ 65536 < key.size) : askC (fK P) (fV P) P.length key = if keyB key = false then 4 else 0 := by
  have h1 := (pairs_fit h).1
  unfold askC
  have h2 : pairsB (fK P) (fV P) P.length = true := h
  rw [if_neg (by omega), h2, if_neg (by decide)]
theorem place_tree (H : List NM) (root : Int) (key : ByteArray) : ∃ p, ∀ s, treeF H root = some s → IsPlace (fK s.P) s.P.length key p := by
  cases h : treeF H root with
  | none => exact ⟨0, fun s e => by cases e⟩
  | some s =>
    obtain ⟨p, hp⟩ := place_exists (fK s.P) key s.P.length
    exact ⟨p, fun s' e => by cases e; exact hp⟩
set_option maxHeartbeats 1000000 in
theorem implTreeGet (v : Value) (H : List NM) (root : Int) (key : ByteArray) (p : Nat) (w : World) (hsm : smallH H) (hk : key.size ≤ 1048576) (hp : ∀ s, treeF H root = some s → IsPlace (fK s.P) s.P.length key p) (h : ReadsH w v H) :
    Calls Try.prog 54 #[v, .int .i64 root, .string key] w fun e w' => e = .returned (.tuple #[.string (tgV H root key p), .int .i64 (tgC H root key p)]) ∧ Below w.heap.size w w' := by
  obtain ⟨a, c, rfl, hr⟩ := h
  have HR : Hid (ReadsH w (.agg #[.slice a H.length c]) H) := ⟨a, c, rfl, hr⟩
  have HS : Hid (smallH H) := hsm
  have HP : Hid (∀ s, treeF H root = some s → IsPlace (fK s.P) s.P.length key p) := hp
  clear hr hsm hp
  by_cases h1 : 65536 < key.size
  · have E1 : Hid (tgV H root key p = ⟨#[]⟩) := by show _ = _; unfold tgV; rw [if_pos h1]
    have E2 : Hid (tgC H root key p = 2) := by show _ = _; unfold tgC; rw [if_pos h1]
    have hki : (65536 : Int) < (key.size : Int) := by omega
    go_enter Try.func54, Try.ntmps54
    go_wp2_with fail
    go_ret2
    exact ⟨ret_two' E1.out.symm E2.out.symm, (Below.refl _ _).alloc (Nat.le_refl _) _⟩
  have HK : Hid (¬ 65536 < key.size) := h1
  go_enter Try.func54, Try.ntmps54
  go_wp2_with fail
  refine (implTreePairs _ H root _ HS.out (HR.out.below ((Below.refl _ _).alloc (Nat.le_refl _) _))).mono ?_
  rintro e w1 ⟨u, R, q, rfl, heq, own1, _, hb1⟩
  obtain ⟨pa, pc, rfl, src1, _⟩ := own_src own1
  have B1 : Hid (Below w.heap.size w w1) := Below.new hb1
  have S1 : Hid (Src w1 pa (cellsP R)) := src1
  cases ht : treeF H root with
  | none =>
    have E0 : R = [] ∧ q = 1 := by unfold pairsA at heq; rw [ht] at heq; cases heq; exact ⟨rfl, rfl⟩
    obtain ⟨rfl, rfl⟩ := E0
    have E1 : Hid (tgV H root key p = ⟨#[]⟩) := by show _ = _; unfold tgV; rw [if_neg h1, ht]
    have E2 : Hid (tgC H root key p = 1) := by show _ = _; unfold tgC; rw [if_neg h1, ht]
    clear hb1 own1 src1 heq ht
    go_wp2_with fail
    go_ret2
    exact ⟨ret_two' E1.out.symm E2.out.symm, B1.out⟩
  | some s =>
    have E0 : R = s.P ∧ q = 0 := by unfold pairsA at heq; rw [ht] at heq; cases heq; exact ⟨rfl, rfl⟩
    obtain ⟨rfl, rfl⟩ := E0
    have E1 : Hid (tgV H root key p = getV (fK s.P) (fV s.P) s.P.length key p) := by show _ = _; unfold tgV; rw [if_neg h1, ht]
    have E2 : Hid (tgC H root key p = getC (fK s.P) (fV s.P) s.P.length key p) := by show _ = _; unfold tgC; rw [if_neg h1, ht]
    have PF : Hid (s.P.length ≤ 60 ∧ ∀ i, i < s.P.length → (fK s.P i).size ≤ 1048576 ∧ (fV s.P i).size ≤ 1048576) := pairs_fit (tree_pairs ht)
    have PL : Hid (IsPlace (fK s.P) s.P.length key p) := HP.out s ht
    clear hb1 own1 src1 heq ht
    go_wp2_with fail
    refine (implPairGet pa s.P.length pc (fK s.P) (fV s.P) key p _ (by have := PF.out.1; omega) hk PF.out.2 PL.out (sp_src S1.out rfl)).mono ?_
    rintro e w2 ⟨rfl, hb2⟩
    have B2 : Hid (Below w.heap.size w w2) := B1.out.trans (hb2.mono B1.out.size)
    rw [← E1.out, ← E2.out]
    clear hb2
    go_wp2_with fail
    go_ret2
    exact ⟨rfl, B2.out⟩
set_option maxHeartbeats 1000000 in
theorem specTreeGet (v : Value) (H : List NM) (root : Int) (key : ByteArray) (p : Nat) (w : World) (hsm : smallH H) (hk : key.size ≤ 1048576) (hp : ∀ s, treeF H root = some s → IsPlace (fK s.P) s.P.length key p) (h : ReadsH w v H) :
    Calls Try.prog 87 #[v, .int .i64 root, .string key] w fun e w' => e = .returned (.tuple #[.string (tgV H root key p), .int .i64 (tgC H root key p)]) ∧ Below w.heap.size w w' := by
  obtain ⟨a, c, rfl, hr⟩ := h
  have HR : Hid (ReadsH w (.agg #[.slice a H.length c]) H) := ⟨a, c, rfl, hr⟩
  have HS : Hid (smallH H) := hsm
  have HP : Hid (∀ s, treeF H root = some s → IsPlace (fK s.P) s.P.length key p) := hp
  clear hr hsm hp
  by_cases h1 : 65536 < key.size
  · have E1 : Hid (tgV H root key p = ⟨#[]⟩) := by show _ = _; unfold tgV; rw [if_pos h1]
    have E2 : Hid (tgC H root key p = 2) := by show _ = _; unfold tgC; rw [if_pos h1]
    have hki : (65536 : Int) < (key.size : Int) := by omega
    go_enter Try.func87, Try.ntmps87
    go_wp2_with fail
    go_ret2
    exact ⟨ret_two' E1.out.symm E2.out.symm, (Below.refl _ _).alloc (Nat.le_refl _) _⟩
  have HK : Hid (¬ 65536 < key.size) := h1
  go_enter Try.func87, Try.ntmps87
  go_wp2_with fail
  refine (l03Walk _ H root _ HS.out (HR.out.below ((Below.refl _ _).alloc (Nat.le_refl _) _))).mono ?_
  rintro e w1 ⟨hb1, (⟨ht, v1, v2, rfl⟩ | ⟨s, v1, v2, ht, rfl, row, _, good, _⟩)⟩
  · have E1 : Hid (tgV H root key p = ⟨#[]⟩) := by show _ = _; unfold tgV; rw [if_neg h1, ht]
    have E2 : Hid (tgC H root key p = 1) := by show _ = _; unfold tgC; rw [if_neg h1, ht]
    have B1 : Hid (Below w.heap.size w w1) := Below.new hb1
    clear hb1 ht
    go_wp2_with fail
    go_ret2
    exact ⟨ret_two' E1.out.symm E2.out.symm, B1.out⟩
  · have E1 : Hid (tgV H root key p = getV (fK s.P) (fV s.P) s.P.length key p) := by show _ = _; unfold tgV; rw [if_neg h1, ht]
    have E2 : Hid (tgC H root key p = getC (fK s.P) (fV s.P) s.P.length key p) := by show _ = _; unfold tgC; rw [if_neg h1, ht]
    have AK : Hid (askC (fK s.P) (fV s.P) s.P.length key = if keyB key = false then 4 else 0) := ask_tree (tree_pairs ht) h1
    have PF : Hid (s.P.length ≤ 60) := (pairs_fit (tree_pairs ht)).1
    have PL : Hid (IsPlace (fK s.P) s.P.length key p) := HP.out s ht
    obtain ⟨pa, pc, rfl, src1, _⟩ := own_src row
    have S1 : Hid (Src w1 pa (cellsP s.P)) := src1
    have B1 : Hid (Below w.heap.size w w1) := Below.new hb1
    clear hb1 ht row good src1
    cases hkb : keyB key with
    | false =>
      have hkb' : Hid ((decide (1 ≤ (key.size : Int)) && decide ((key.size : Int) ≤ 30)) = false) := hkb
      have E3 : Hid (tgV H root key p = ⟨#[]⟩) := by show _ = _; rw [E1.out]; unfold getV; rw [AK.out, if_pos hkb]; rfl
      have E4 : Hid (tgC H root key p = 4) := by show _ = _; rw [E2.out]; unfold getC; rw [AK.out, if_pos hkb]; rfl
      clear hkb
      go_wp2_with (go_at_call 111; refine (l01InIs false _ _ _ _ hkb'.out).mono ?_; rintro e w9 ⟨rfl, hw9⟩; obtain rfl := hw9.symm)
      go_ret2
      exact ⟨ret_two' E3.out.symm E4.out.symm, B1.out⟩
    | true =>
      have hkb' : Hid ((decide (1 ≤ (key.size : Int)) && decide ((key.size : Int) ≤ 30)) = true) := hkb
      have A0 : Hid (askC (fK s.P) (fV s.P) s.P.length key = 0) := by show _ = _; rw [AK.out, hkb]; rfl
      have E3 : Hid (tgV H root key p = gotV (fK s.P) (fV s.P) s.P.length key p) := by show _ = _; rw [E1.out]; unfold getV; rw [if_pos A0.out]
      have E4 : Hid (tgC H root key p = if hitB (fK s.P) s.P.length key p = true then 0 else 5) := by show _ = _; rw [E2.out]; unfold getC; rw [if_pos A0.out]
      clear hkb
      go_wp2_with (go_at_call 111; refine (l01InIs true _ _ _ _ hkb'.out).mono ?_; rintro e w9 ⟨rfl, hw9⟩; obtain rfl := hw9.symm)
      refine (l01Get pa s.P.length pc (fK s.P) (fV s.P) key p _ (by have := PF.out; omega) PL.out (sp_src S1.out rfl)).mono ?_
      rintro e w9 ⟨rfl, hw9⟩
      obtain rfl := hw9
      cases hh : hitB (fK s.P) s.P.length key p with
      | false =>
        have E5 : Hid (tgV H root key p = ⟨#[]⟩) := by show _ = _; rw [E3.out]; unfold gotV; rw [hh]; rfl
        have E6 : Hid (tgC H root key p = 5) := by show _ = _; rw [E4.out, hh]; rfl
        clear hh
        go_wp2_with fail
        go_ret2
        exact ⟨ret_two' E5.out.symm E6.out.symm, B1.out⟩
      | true =>
        have E6 : Hid (tgC H root key p = 0) := by show _ = _; rw [E4.out, hh]; rfl
        clear hh
        go_wp2_with fail
        go_ret2
        exact ⟨ret_two' E3.out.symm E6.out.symm, B1.out⟩
end Go.Proofs.Ytmpkdggboniigaa
