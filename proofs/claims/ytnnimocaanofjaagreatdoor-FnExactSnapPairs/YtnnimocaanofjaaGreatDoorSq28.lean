/-
  Texts of the store, brought together: Rnt. By an AI agent.
-/
import Derived.Test.YtnnimocaanofjaaGreatDoorSq27
namespace Go.Proofs.YtnnimocaanofjaaGreatDoor
open Go.ChangeShapes Go.WideShapes Go.ChangeAt Go.RowKit Go.Deep
set_option linter.unusedVariables false
set_option linter.unusedSimpArgs false
set_option maxRecDepth 100000
open List (setIfInBounds_toArray set_cons_zero set_cons_succ)
def nodeR (B : List Nat) : Option NM := if sealedB B = true then (match nodeA (bodyB B) with
  | none => none
  | some D => if freeB D = true ∨ okB D = false then none else some D) else none
theorem nodeR_none {B : List Nat} (h : nodeA (bodyB B) = none) : nodeR B = none := by unfold nodeR; rw [h]; split <;> rfl
theorem nodeR_bad {B : List Nat} {D : NM} (h : nodeA (bodyB B) = some D) (ho : freeB D = true ∨ okB D = false) : nodeR B = none := by unfold nodeR; rw [h]; simp [ho]
theorem nodeR_some {B : List Nat} {D : NM} (hs : sealedB B = true) (h : nodeA (bodyB B) = some D) (hf : freeB D = false) (ho : okB D = true) : nodeR B = some D := by unfold nodeR; rw [h]; simp [ho, hs, hf]
set_option maxHeartbeats 8000000 in
theorem l03Read (s : ByteArray) (w : World) (hs : s.size ≤ 65536) :
    Calls Tryz.prog 86 #[.string s] w fun e w' => ((nodeR (bytesOf s) = none ∧ ∃ A a1 k1 c1 a2 k2 c2 a3 k3 c3, e = .returned (.tuple #[.agg #[.bool A, .slice a1 k1 c1, .slice a2 k2 c2, .slice a3 k3 c3], .bool false])) ∨ (∃ D u, nodeR (bytesOf s) = some D ∧ e = .returned (.tuple #[u, .bool true]) ∧ OwnsN w' w.heap.size w'.heap.size u D)) ∧ Below w.heap.size w w' := by
  have A0 : Hid (Below w.heap.size w (w.alloc (.cells #[.bool false, .slice none 0 0, .slice none 0 0, .slice none 0 0] 137))) := (Below.refl _ _).alloc (Nat.le_refl _) _
  go_enter Tryz.func86, Tryz.ntmps86
  go_wp2_with fail
  refine (l03Unseal s _ hs).mono ?_
  rintro e w1 ⟨⟨t, rfl, ht⟩, hb1⟩
  have B1 : Hid (Below w.heap.size w w1) := Below.new hb1
  have X1 : Hid (Box w1 w.heap.size [.bool false, .slice none 0 0, .slice none 0 0, .slice none 0 0]) := Box.below (Box.new rfl) hb1
  have Z1 : Hid (w.heap.size + 1 ≤ w1.heap.size) := size_new hb1
  clear hb1
  obtain ⟨ok, hok⟩ : ∃ b, sealedB (bytesOf s) = b := ⟨_, rfl⟩
  rw [hok] at ht ⊢
  cases ok with
  | false =>
    have F : Hid (nodeR (bytesOf s) = none) := by show _ = none; unfold nodeR; rw [hok]; rfl
    clear ht hok
    obtain ⟨p0, pf0⟩ := (X1.out) 0 _ rfl
    obtain ⟨p1, pf1⟩ := ((X1.out).set 0 (.bool false)) 1 _ rfl
    obtain ⟨p2, pf2⟩ := (((X1.out).set 0 (.bool false)).set 1 (.slice none 0 0)) 2 _ rfl
    obtain ⟨p3, pf3⟩ := ((((X1.out).set 0 (.bool false)).set 1 (.slice none 0 0)).set 2 (.slice none 0 0)) 3 _ rfl
    have X8 := ((((X1.out).set 0 (.bool false)).set 1 (.slice none 0 0)).set 2 (.slice none 0 0)).set 3 (.slice none 0 0)
    obtain ⟨r0, _⟩ := X8 0 _ rfl
    obtain ⟨r1, _⟩ := X8 1 _ rfl
    obtain ⟨r2, _⟩ := X8 2 _ rfl
    obtain ⟨r3, _⟩ := X8 3 _ rfl
    clear X8
    have BE : Hid (Below w.heap.size w ((((w1.setCell ⟨w.heap.size, 0, none⟩ (.bool false)).setCell ⟨w.heap.size, 1, none⟩ (.slice none 0 0)).setCell ⟨w.heap.size, 2, none⟩ (.slice none 0 0)).setCell ⟨w.heap.size, 3, none⟩ (.slice none 0 0))) := (((B1.out.setCell (Nat.le_refl _) _).setCell (Nat.le_refl _) _).setCell (Nat.le_refl _) _).setCell (Nat.le_refl _) _
    go_wp2_with fail
    exact bodyPost_ret (v := .tuple #[.agg #[.bool false, .slice none 0 0, .slice none 0 0, .slice none 0 0], .bool false]) (by simp [results, Tryz.results86, go_sem, r0, r1, r2, r3]) rfl ⟨.inl ⟨F.out, _, _, _, _, _, _, _, _, _, _, rfl⟩, BE.out⟩
  | true =>
  have htt := ht rfl
  have SE : Hid (sealedB (bytesOf s) = true) := hok
  obtain ⟨B, hB⟩ : ∃ B, bodyB (bytesOf s) = B := ⟨_, rfl⟩
  rw [hB] at htt
  have hB8 : ∀ x ∈ B, x < 256 := by rw [← hB]; exact fun x hx => bytes_lt s x (List.mem_of_mem_take hx)
  have HB : Hid (bodyB (bytesOf s) = B ∧ ∀ x ∈ B, x < 256) := ⟨hB, hB8⟩
  have BT : Hid (bytesOf t = B) := by show _ = _; rw [htt, bytes_strB B hB8]
  obtain ⟨k, hk⟩ : ∃ k, t.size = k := ⟨_, rfl⟩
  have KB : Hid (B.length = k) := by show _ = _; rw [← BT.out, bytesOf_length, hk]
  have hk9 : k ≤ 65536 := by
    rw [← KB.out, ← hB]
    unfold bodyB
    rw [List.length_take, bytesOf_length]
    omega
  clear ht hok htt hB hB8
  by_cases t1 : k = 0
  · have F : Hid (nodeR (bytesOf s) = none) := nodeR_none (by rw [HB.out.1]; unfold nodeA; rw [if_pos (by rw [KB.out]; exact t1)])
    have t0 : t = ⟨#[]⟩ := by
      apply bytes_inj
      cases t with
      | mk d =>
        have h2 : d.size = 0 := hk.trans t1
        simp at h2 ⊢
        exact h2
    subst t0
    clear hk
    obtain ⟨p0, pf0⟩ := (X1.out) 0 _ rfl
    obtain ⟨p1, pf1⟩ := ((X1.out).set 0 (.bool false)) 1 _ rfl
    obtain ⟨p2, pf2⟩ := (((X1.out).set 0 (.bool false)).set 1 (.slice none 0 0)) 2 _ rfl
    obtain ⟨p3, pf3⟩ := ((((X1.out).set 0 (.bool false)).set 1 (.slice none 0 0)).set 2 (.slice none 0 0)) 3 _ rfl
    have X8 := ((((X1.out).set 0 (.bool false)).set 1 (.slice none 0 0)).set 2 (.slice none 0 0)).set 3 (.slice none 0 0)
    obtain ⟨r0, _⟩ := X8 0 _ rfl
    obtain ⟨r1, _⟩ := X8 1 _ rfl
    obtain ⟨r2, _⟩ := X8 2 _ rfl
    obtain ⟨r3, _⟩ := X8 3 _ rfl
    clear X8
    have BE : Hid (Below w.heap.size w ((((w1.setCell ⟨w.heap.size, 0, none⟩ (.bool false)).setCell ⟨w.heap.size, 1, none⟩ (.slice none 0 0)).setCell ⟨w.heap.size, 2, none⟩ (.slice none 0 0)).setCell ⟨w.heap.size, 3, none⟩ (.slice none 0 0))) := (((B1.out.setCell (Nat.le_refl _) _).setCell (Nat.le_refl _) _).setCell (Nat.le_refl _) _).setCell (Nat.le_refl _) _
    go_wp2_with fail
    exact bodyPost_ret (v := .tuple #[.agg #[.bool false, .slice none 0 0, .slice none 0 0, .slice none 0 0], .bool false]) (by simp [results, Tryz.results86, go_sem, r0, r1, r2, r3]) rfl ⟨.inl ⟨F.out, _, _, _, _, _, _, _, _, _, _, rfl⟩, BE.out⟩
  have tne : ¬ t.toList = [] := fun e => t1 (by
    have h9 : t.data.toList.length = 0 := by rw [← ByteArray.toList_eq, e]; rfl
    rw [← hk]
    simpa using h9)
  have tne2 : t.toList.isEmpty = false := by cases e : t.toList with
    | nil => exact absurd e tne
    | cons _ _ => rfl
  have tne3 : (t.toList == []) = false := by cases e : t.toList with
    | nil => exact absurd e tne
    | cons _ _ => rfl
  obtain ⟨x0, hx0⟩ : ∃ x, (t[0]'(by omega)).toNat = x := ⟨_, rfl⟩
  have hx08 : x0 < 256 := by rw [← hx0]; exact UInt8.toNat_lt _
  have HX : Hid (B.getD 0 0 = x0) := by show _ = _; rw [← BT.out, bytesOf_get t 0 (by omega), hx0]
  have hk0 : 0 < k := by omega
  have NF : Hid (¬ B.length = 0) := by show ¬ _; rw [KB.out]; exact t1
  have cut1 : ∀ W, (Instr.slice 9 (.string t) (some (.int .i64 1)) none none).run Tryz.prog W = .ok (.string (t.extract 1 k)) W := fun W => by
    have h9 := run_slice_string_l (P := Tryz.prog) W 9 t Tryz.underlying9 .i64 1 (by omega) (by omega)
    rw [hk] at h9
    exact h9
  obtain ⟨t3, ht3⟩ : ∃ g, t.extract 1 k = g := ⟨_, rfl⟩
  have D3 : Hid (bytesOf t3 = B.drop 1 ∧ t3.size ≤ 65536) := by
    refine ⟨?_, ?_⟩
    · rw [← ht3, bytes_extract, BT.out, List.take_of_length_le (by rw [List.length_drop, KB.out]; exact Nat.le_refl _)]
    · rw [← ht3, ByteArray.size_extract]; omega
  rw [ht3] at cut1
  clear ht3
  go_wp2_with fail
  go_at_call 121
  refine (l01Read t3 _ (by have := D3.out.2; omega)).mono ?_
  clear cut1
  rintro e w2 (⟨hrd, v2, rfl, o2, hb2⟩ | ⟨l, v2, hrd, rfl, o2, hb2⟩)
  · have F : Hid (nodeR (bytesOf s) = none) := nodeR_none (by
      rw [HB.out.1]
      unfold nodeA
      rw [if_neg NF.out, rfA_of (by rw [List.length_drop, KB.out]; omega), ← D3.out.1, hrd]
      rfl)
    obtain ⟨a2, c2, rfl, _, _⟩ := own_src o2
    have B2 : Hid (Below w.heap.size w w2) := B1.out.trans (hb2.mono (by have := Z1.out; omega))
    have X2 : Hid (Box w2 w.heap.size [.bool false, .slice none 0 0, .slice none 0 0, .slice none 0 0]) := X1.out.below hb2
    have Z2 : Hid (w.heap.size + 1 ≤ w2.heap.size) := by have := Z1.out; have := hb2.size; show _ ≤ _; omega
    clear hrd o2 hb2
    by_cases t8 : x0 = 108
    · have t9 : ((x0 : Int) == 108) = true := by rw [t8]; rfl
      clear t8
      have XZ : Hid (Box ((((w2.alloc (.cells #[] 109)).alloc (.cells #[] 9)).alloc (.cells #[] 3)).alloc (.cells #[.bool true, .slice (some ⟨w2.heap.size, 0, none⟩) 0 0, .slice (some ⟨w2.heap.size + 1, 0, none⟩) 0 0, .slice (some ⟨w2.heap.size + 1 + 1, 0, none⟩) 0 0] 137)) w.heap.size [.bool false, .slice none 0 0, .slice none 0 0, .slice none 0 0]) := (((X2.out.old _).old _).old _).old _
      have AZ : Below w2.heap.size w2 ((((w2.alloc (.cells #[] 109)).alloc (.cells #[] 9)).alloc (.cells #[] 3)).alloc (.cells #[.bool true, .slice (some ⟨w2.heap.size, 0, none⟩) 0 0, .slice (some ⟨w2.heap.size + 1, 0, none⟩) 0 0, .slice (some ⟨w2.heap.size + 1 + 1, 0, none⟩) 0 0] 137)) := (((((Below.refl w2.heap.size w2).alloc (Nat.le_refl _) _).alloc (by simp) _).alloc (by simp; omega) _).alloc (by simp; omega) _)
      have BZ : Hid (Below w.heap.size w ((((w2.alloc (.cells #[] 109)).alloc (.cells #[] 9)).alloc (.cells #[] 3)).alloc (.cells #[.bool true, .slice (some ⟨w2.heap.size, 0, none⟩) 0 0, .slice (some ⟨w2.heap.size + 1, 0, none⟩) 0 0, .slice (some ⟨w2.heap.size + 1 + 1, 0, none⟩) 0 0] 137))) := B2.out.trans (AZ.mono B2.out.size)
      clear AZ
      obtain ⟨p0, pf0⟩ := (XZ.out) 0 _ rfl
      obtain ⟨p1, pf1⟩ := ((XZ.out).set 0 (.bool false)) 1 _ rfl
      obtain ⟨p2, pf2⟩ := (((XZ.out).set 0 (.bool false)).set 1 (.slice none 0 0)) 2 _ rfl
      obtain ⟨p3, pf3⟩ := ((((XZ.out).set 0 (.bool false)).set 1 (.slice none 0 0)).set 2 (.slice none 0 0)) 3 _ rfl
      have X8 := ((((XZ.out).set 0 (.bool false)).set 1 (.slice none 0 0)).set 2 (.slice none 0 0)).set 3 (.slice none 0 0)
      obtain ⟨r0, _⟩ := X8 0 _ rfl
      obtain ⟨r1, _⟩ := X8 1 _ rfl
      obtain ⟨r2, _⟩ := X8 2 _ rfl
      obtain ⟨r3, _⟩ := X8 3 _ rfl
      clear X8
      have BE : Hid (Below w.heap.size w ((((((((w2.alloc (.cells #[] 109)).alloc (.cells #[] 9)).alloc (.cells #[] 3)).alloc (.cells #[.bool true, .slice (some ⟨w2.heap.size, 0, none⟩) 0 0, .slice (some ⟨w2.heap.size + 1, 0, none⟩) 0 0, .slice (some ⟨w2.heap.size + 1 + 1, 0, none⟩) 0 0] 137)).setCell ⟨w.heap.size, 0, none⟩ (.bool false)).setCell ⟨w.heap.size, 1, none⟩ (.slice none 0 0)).setCell ⟨w.heap.size, 2, none⟩ (.slice none 0 0)).setCell ⟨w.heap.size, 3, none⟩ (.slice none 0 0))) := (((BZ.out.setCell (Nat.le_refl _) _).setCell (Nat.le_refl _) _).setCell (Nat.le_refl _) _).setCell (Nat.le_refl _) _
      go_wp2_with fail
      exact bodyPost_ret (v := .tuple #[.agg #[.bool false, .slice none 0 0, .slice none 0 0, .slice none 0 0], .bool false]) (by simp [results, Tryz.results86, go_sem, r0, r1, r2, r3]) rfl ⟨.inl ⟨F.out, _, _, _, _, _, _, _, _, _, _, rfl⟩, BE.out⟩
    · have t9 : ((x0 : Int) == 108) = false := beq_eq_false_iff_ne.2 (by omega)
      clear t8
      have XZ : Hid (Box ((((w2.alloc (.cells #[] 109)).alloc (.cells #[] 9)).alloc (.cells #[] 3)).alloc (.cells #[.bool false, .slice (some ⟨w2.heap.size, 0, none⟩) 0 0, .slice (some ⟨w2.heap.size + 1, 0, none⟩) 0 0, .slice (some ⟨w2.heap.size + 1 + 1, 0, none⟩) 0 0] 137)) w.heap.size [.bool false, .slice none 0 0, .slice none 0 0, .slice none 0 0]) := (((X2.out.old _).old _).old _).old _
      have AZ : Below w2.heap.size w2 ((((w2.alloc (.cells #[] 109)).alloc (.cells #[] 9)).alloc (.cells #[] 3)).alloc (.cells #[.bool false, .slice (some ⟨w2.heap.size, 0, none⟩) 0 0, .slice (some ⟨w2.heap.size + 1, 0, none⟩) 0 0, .slice (some ⟨w2.heap.size + 1 + 1, 0, none⟩) 0 0] 137)) := (((((Below.refl w2.heap.size w2).alloc (Nat.le_refl _) _).alloc (by simp) _).alloc (by simp; omega) _).alloc (by simp; omega) _)
      have BZ : Hid (Below w.heap.size w ((((w2.alloc (.cells #[] 109)).alloc (.cells #[] 9)).alloc (.cells #[] 3)).alloc (.cells #[.bool false, .slice (some ⟨w2.heap.size, 0, none⟩) 0 0, .slice (some ⟨w2.heap.size + 1, 0, none⟩) 0 0, .slice (some ⟨w2.heap.size + 1 + 1, 0, none⟩) 0 0] 137))) := B2.out.trans (AZ.mono B2.out.size)
      clear AZ
      obtain ⟨p0, pf0⟩ := (XZ.out) 0 _ rfl
      obtain ⟨p1, pf1⟩ := ((XZ.out).set 0 (.bool false)) 1 _ rfl
      obtain ⟨p2, pf2⟩ := (((XZ.out).set 0 (.bool false)).set 1 (.slice none 0 0)) 2 _ rfl
      obtain ⟨p3, pf3⟩ := ((((XZ.out).set 0 (.bool false)).set 1 (.slice none 0 0)).set 2 (.slice none 0 0)) 3 _ rfl
      have X8 := ((((XZ.out).set 0 (.bool false)).set 1 (.slice none 0 0)).set 2 (.slice none 0 0)).set 3 (.slice none 0 0)
      obtain ⟨r0, _⟩ := X8 0 _ rfl
      obtain ⟨r1, _⟩ := X8 1 _ rfl
      obtain ⟨r2, _⟩ := X8 2 _ rfl
      obtain ⟨r3, _⟩ := X8 3 _ rfl
      clear X8
      have BE : Hid (Below w.heap.size w ((((((((w2.alloc (.cells #[] 109)).alloc (.cells #[] 9)).alloc (.cells #[] 3)).alloc (.cells #[.bool false, .slice (some ⟨w2.heap.size, 0, none⟩) 0 0, .slice (some ⟨w2.heap.size + 1, 0, none⟩) 0 0, .slice (some ⟨w2.heap.size + 1 + 1, 0, none⟩) 0 0] 137)).setCell ⟨w.heap.size, 0, none⟩ (.bool false)).setCell ⟨w.heap.size, 1, none⟩ (.slice none 0 0)).setCell ⟨w.heap.size, 2, none⟩ (.slice none 0 0)).setCell ⟨w.heap.size, 3, none⟩ (.slice none 0 0))) := (((BZ.out.setCell (Nat.le_refl _) _).setCell (Nat.le_refl _) _).setCell (Nat.le_refl _) _).setCell (Nat.le_refl _) _
      go_wp2_with fail
      exact bodyPost_ret (v := .tuple #[.agg #[.bool false, .slice none 0 0, .slice none 0 0, .slice none 0 0], .bool false]) (by simp [results, Tryz.results86, go_sem, r0, r1, r2, r3]) rfl ⟨.inl ⟨F.out, _, _, _, _, _, _, _, _, _, _, rfl⟩, BE.out⟩
  obtain ⟨la, lc, rfl, ls, _⟩ := own_src o2
  have RF : Hid (rfA (B.drop 1) = (l, 0)) := by
    show _ = _
    rw [rfA_of (by rw [List.length_drop, KB.out]; omega), ← D3.out.1, hrd]
  obtain ⟨m, hm⟩ : ∃ m, l.length = m := ⟨_, rfl⟩
  have HM : Hid (l.length = m) := hm
  have hm9 : m ≤ 1048576 := by rw [← hm]; exact rf_small RF.out
  have B2 : Hid (Below w.heap.size w w2) := B1.out.trans (hb2.mono (by have := Z1.out; omega))
  have X2 : Hid (Box w2 w.heap.size [.bool false, .slice none 0 0, .slice none 0 0, .slice none 0 0]) := X1.out.below hb2
  have Z2 : Hid (w.heap.size + 1 ≤ w2.heap.size) := by have := Z1.out; have := hb2.size; show _ ≤ _; omega
  have S2 : Hid (Src w2 la (cellsS l)) := ls
  have NA : Hid (nodeA B = if x0 = 108 then leafN l else if x0 = 105 then innerN l else none) := by show _ = _; unfold nodeA; rw [if_neg NF.out, RF.out, if_neg (by simp), HX.out]
  rw [hm]
  clear hm hrd o2 hb2 ls
  by_cases t8 : x0 = 108
  · have t9 : ((x0 : Int) == 108) = true := by rw [t8]; rfl
    have NL : Hid (nodeA (bodyB (bytesOf s)) = leafN l) := by show _ = _; rw [HB.out.1, NA.out, if_pos t8]
    clear t8 NA
    by_cases h0 : m = 0
    · have F : Hid (nodeR (bytesOf s) = none) := by
        have hl0 : l = [] := List.eq_nil_of_length_eq_zero (by rw [HM.out]; exact h0)
        exact nodeR_bad (D := ⟨true, [], [], []⟩) (by rw [NL.out, hl0]; rfl) (.inr (by decide))
      have h0b : ((m : Int) == 0) = true := by rw [h0]; rfl
      clear h0
      have XZ : Hid (Box ((((w2.alloc (.cells #[] 109)).alloc (.cells #[] 9)).alloc (.cells #[] 3)).alloc (.cells #[.bool true, .slice (some ⟨w2.heap.size, 0, none⟩) 0 0, .slice (some ⟨w2.heap.size + 1, 0, none⟩) 0 0, .slice (some ⟨w2.heap.size + 1 + 1, 0, none⟩) 0 0] 137)) w.heap.size [.bool false, .slice none 0 0, .slice none 0 0, .slice none 0 0]) := (((X2.out.old _).old _).old _).old _
      have AZ : Below w2.heap.size w2 ((((w2.alloc (.cells #[] 109)).alloc (.cells #[] 9)).alloc (.cells #[] 3)).alloc (.cells #[.bool true, .slice (some ⟨w2.heap.size, 0, none⟩) 0 0, .slice (some ⟨w2.heap.size + 1, 0, none⟩) 0 0, .slice (some ⟨w2.heap.size + 1 + 1, 0, none⟩) 0 0] 137)) := (((((Below.refl w2.heap.size w2).alloc (Nat.le_refl _) _).alloc (by simp) _).alloc (by simp; omega) _).alloc (by simp; omega) _)
      have BZ : Hid (Below w.heap.size w ((((w2.alloc (.cells #[] 109)).alloc (.cells #[] 9)).alloc (.cells #[] 3)).alloc (.cells #[.bool true, .slice (some ⟨w2.heap.size, 0, none⟩) 0 0, .slice (some ⟨w2.heap.size + 1, 0, none⟩) 0 0, .slice (some ⟨w2.heap.size + 1 + 1, 0, none⟩) 0 0] 137))) := B2.out.trans (AZ.mono B2.out.size)
      clear AZ
      obtain ⟨p0, pf0⟩ := (XZ.out) 0 _ rfl
      obtain ⟨p1, pf1⟩ := ((XZ.out).set 0 (.bool false)) 1 _ rfl
      obtain ⟨p2, pf2⟩ := (((XZ.out).set 0 (.bool false)).set 1 (.slice none 0 0)) 2 _ rfl
      obtain ⟨p3, pf3⟩ := ((((XZ.out).set 0 (.bool false)).set 1 (.slice none 0 0)).set 2 (.slice none 0 0)) 3 _ rfl
      have X8 := ((((XZ.out).set 0 (.bool false)).set 1 (.slice none 0 0)).set 2 (.slice none 0 0)).set 3 (.slice none 0 0)
      obtain ⟨r0, _⟩ := X8 0 _ rfl
      obtain ⟨r1, _⟩ := X8 1 _ rfl
      obtain ⟨r2, _⟩ := X8 2 _ rfl
      obtain ⟨r3, _⟩ := X8 3 _ rfl
      clear X8
      have BE : Hid (Below w.heap.size w ((((((((w2.alloc (.cells #[] 109)).alloc (.cells #[] 9)).alloc (.cells #[] 3)).alloc (.cells #[.bool true, .slice (some ⟨w2.heap.size, 0, none⟩) 0 0, .slice (some ⟨w2.heap.size + 1, 0, none⟩) 0 0, .slice (some ⟨w2.heap.size + 1 + 1, 0, none⟩) 0 0] 137)).setCell ⟨w.heap.size, 0, none⟩ (.bool false)).setCell ⟨w.heap.size, 1, none⟩ (.slice none 0 0)).setCell ⟨w.heap.size, 2, none⟩ (.slice none 0 0)).setCell ⟨w.heap.size, 3, none⟩ (.slice none 0 0))) := (((BZ.out.setCell (Nat.le_refl _) _).setCell (Nat.le_refl _) _).setCell (Nat.le_refl _) _).setCell (Nat.le_refl _) _
      go_wp2_with fail
      exact bodyPost_ret (v := .tuple #[.agg #[.bool false, .slice none 0 0, .slice none 0 0, .slice none 0 0], .bool false]) (by simp [results, Tryz.results86, go_sem, r0, r1, r2, r3]) rfl ⟨.inl ⟨F.out, _, _, _, _, _, _, _, _, _, _, rfl⟩, BE.out⟩
    have h0b : ((m : Int) == 0) = false := beq_eq_false_iff_ne.2 (by omega)
    obtain ⟨q, hq⟩ : ∃ q, m % 2 = q := ⟨_, rfl⟩
    have R : Int.tmod (m : Int) 2 = (q : Int) := by
      rw [← hq, Int.tmod_eq_emod_of_nonneg (by omega)]
      omega
    have hq2 : q < 2 := by omega
    have HQ : Hid (m % 2 = q) := hq
    clear hq
    by_cases t1 : q = 0
    case neg =>
      have F : Hid (nodeR (bytesOf s) = none) := nodeR_none (by rw [NL.out]; unfold leafN; rw [if_neg]; rw [HM.out, HQ.out]; exact t1)
      have t2 : ((q : Int) != 0) = true := by simp; omega
      clear t1
      have XZ : Hid (Box ((((w2.alloc (.cells #[] 109)).alloc (.cells #[] 9)).alloc (.cells #[] 3)).alloc (.cells #[.bool true, .slice (some ⟨w2.heap.size, 0, none⟩) 0 0, .slice (some ⟨w2.heap.size + 1, 0, none⟩) 0 0, .slice (some ⟨w2.heap.size + 1 + 1, 0, none⟩) 0 0] 137)) w.heap.size [.bool false, .slice none 0 0, .slice none 0 0, .slice none 0 0]) := (((X2.out.old _).old _).old _).old _
      have AZ : Below w2.heap.size w2 ((((w2.alloc (.cells #[] 109)).alloc (.cells #[] 9)).alloc (.cells #[] 3)).alloc (.cells #[.bool true, .slice (some ⟨w2.heap.size, 0, none⟩) 0 0, .slice (some ⟨w2.heap.size + 1, 0, none⟩) 0 0, .slice (some ⟨w2.heap.size + 1 + 1, 0, none⟩) 0 0] 137)) := (((((Below.refl w2.heap.size w2).alloc (Nat.le_refl _) _).alloc (by simp) _).alloc (by simp; omega) _).alloc (by simp; omega) _)
      have BZ : Hid (Below w.heap.size w ((((w2.alloc (.cells #[] 109)).alloc (.cells #[] 9)).alloc (.cells #[] 3)).alloc (.cells #[.bool true, .slice (some ⟨w2.heap.size, 0, none⟩) 0 0, .slice (some ⟨w2.heap.size + 1, 0, none⟩) 0 0, .slice (some ⟨w2.heap.size + 1 + 1, 0, none⟩) 0 0] 137))) := B2.out.trans (AZ.mono B2.out.size)
      clear AZ
      obtain ⟨p0, pf0⟩ := (XZ.out) 0 _ rfl
      obtain ⟨p1, pf1⟩ := ((XZ.out).set 0 (.bool false)) 1 _ rfl
      obtain ⟨p2, pf2⟩ := (((XZ.out).set 0 (.bool false)).set 1 (.slice none 0 0)) 2 _ rfl
      obtain ⟨p3, pf3⟩ := ((((XZ.out).set 0 (.bool false)).set 1 (.slice none 0 0)).set 2 (.slice none 0 0)) 3 _ rfl
      have X8 := ((((XZ.out).set 0 (.bool false)).set 1 (.slice none 0 0)).set 2 (.slice none 0 0)).set 3 (.slice none 0 0)
      obtain ⟨r0, _⟩ := X8 0 _ rfl
      obtain ⟨r1, _⟩ := X8 1 _ rfl
      obtain ⟨r2, _⟩ := X8 2 _ rfl
      obtain ⟨r3, _⟩ := X8 3 _ rfl
      clear X8
      have BE : Hid (Below w.heap.size w ((((((((w2.alloc (.cells #[] 109)).alloc (.cells #[] 9)).alloc (.cells #[] 3)).alloc (.cells #[.bool true, .slice (some ⟨w2.heap.size, 0, none⟩) 0 0, .slice (some ⟨w2.heap.size + 1, 0, none⟩) 0 0, .slice (some ⟨w2.heap.size + 1 + 1, 0, none⟩) 0 0] 137)).setCell ⟨w.heap.size, 0, none⟩ (.bool false)).setCell ⟨w.heap.size, 1, none⟩ (.slice none 0 0)).setCell ⟨w.heap.size, 2, none⟩ (.slice none 0 0)).setCell ⟨w.heap.size, 3, none⟩ (.slice none 0 0))) := (((BZ.out.setCell (Nat.le_refl _) _).setCell (Nat.le_refl _) _).setCell (Nat.le_refl _) _).setCell (Nat.le_refl _) _
      go_wp2_with fail
      exact bodyPost_ret (v := .tuple #[.agg #[.bool false, .slice none 0 0, .slice none 0 0, .slice none 0 0], .bool false]) (by simp [results, Tryz.results86, go_sem, r0, r1, r2, r3]) rfl ⟨.inl ⟨F.out, _, _, _, _, _, _, _, _, _, _, rfl⟩, BE.out⟩
    subst t1
    have t2 : (((0 : Nat) : Int) != 0) = false := by decide
    have BW : Hid (Below w2.heap.size w2 ((((w2.alloc (.cells #[] 109)).alloc (.cells #[] 9)).alloc (.cells #[] 3)).alloc (.cells #[.bool true, .slice (some ⟨w2.heap.size, 0, none⟩) 0 0, .slice (some ⟨w2.heap.size + 1, 0, none⟩) 0 0, .slice (some ⟨w2.heap.size + 1 + 1, 0, none⟩) 0 0] 137))) := (((((Below.refl w2.heap.size w2).alloc (Nat.le_refl _) _).alloc (by simp) _).alloc (by simp; omega) _).alloc (by simp; omega) _)
    have XW : Hid (Box ((((w2.alloc (.cells #[] 109)).alloc (.cells #[] 9)).alloc (.cells #[] 3)).alloc (.cells #[.bool true, .slice (some ⟨w2.heap.size, 0, none⟩) 0 0, .slice (some ⟨w2.heap.size + 1, 0, none⟩) 0 0, .slice (some ⟨w2.heap.size + 1 + 1, 0, none⟩) 0 0] 137)) (w2.heap.size + 1 + 1 + 1) [.bool true, .slice (some ⟨w2.heap.size, 0, none⟩) 0 0, .slice (some ⟨w2.heap.size + 1, 0, none⟩) 0 0, .slice (some ⟨w2.heap.size + 1 + 1, 0, none⟩) 0 0]) := Box.new (w := (((w2.alloc (.cells #[] 109)).alloc (.cells #[] 9)).alloc (.cells #[] 3))) (by simp)
    have O1 : Hid (World.ownsRow ((((w2.alloc (.cells #[] 109)).alloc (.cells #[] 9)).alloc (.cells #[] 3)).alloc (.cells #[.bool true, .slice (some ⟨w2.heap.size, 0, none⟩) 0 0, .slice (some ⟨w2.heap.size + 1, 0, none⟩) 0 0, .slice (some ⟨w2.heap.size + 1 + 1, 0, none⟩) 0 0] 137)) w2.heap.size 109 2 (.slice (some ⟨w2.heap.size, 0, none⟩) 0 0) 0 (cellsP ([] : List PM))) := (((own_empty (w := w2) rfl (Nat.le_refl _)).alloc _).alloc _).alloc _
    have O2 : Hid (World.ownsRow ((((w2.alloc (.cells #[] 109)).alloc (.cells #[] 9)).alloc (.cells #[] 3)).alloc (.cells #[.bool true, .slice (some ⟨w2.heap.size, 0, none⟩) 0 0, .slice (some ⟨w2.heap.size + 1, 0, none⟩) 0 0, .slice (some ⟨w2.heap.size + 1 + 1, 0, none⟩) 0 0] 137)) w2.heap.size 9 1 (.slice (some ⟨w2.heap.size + 1, 0, none⟩) 0 0) 0 (cellsS ([] : List ByteArray))) := ((own_empty (w := w2.alloc (.cells #[] 109)) (by simp) (by simp)).alloc _).alloc _
    have O3 : Hid (World.ownsRow ((((w2.alloc (.cells #[] 109)).alloc (.cells #[] 9)).alloc (.cells #[] 3)).alloc (.cells #[.bool true, .slice (some ⟨w2.heap.size, 0, none⟩) 0 0, .slice (some ⟨w2.heap.size + 1, 0, none⟩) 0 0, .slice (some ⟨w2.heap.size + 1 + 1, 0, none⟩) 0 0] 137)) w2.heap.size 3 1 (.slice (some ⟨w2.heap.size + 1 + 1, 0, none⟩) 0 0) 0 (cellsI ([] : List Int))) := (own_empty (w := (w2.alloc (.cells #[] 109)).alloc (.cells #[] 9)) (by simp) (by simp; omega)).alloc _
    go_wp2_with fail
    go_loopw [9] (fun iv wr => ∃ (i j : Nat) (u : Value), i ≤ m ∧ iv = .int .i64 (i : Int) ∧ Hid (j = (i + 1) / 2) ∧ Hid (Below w2.heap.size w2 wr) ∧ Hid (Box wr (w2.heap.size + 1 + 1 + 1) [.bool true, u, .slice (some ⟨w2.heap.size + 1, 0, none⟩) 0 0, .slice (some ⟨w2.heap.size + 1 + 1, 0, none⟩) 0 0]) ∧ Hid (wr.ownsRow w2.heap.size 109 2 u j (cellsP ((pairUp l).take j))) ∧ Hid (∀ g, Value.ownBlock u = some g → g ≠ (w2.heap.size + 1 + 1 + 1)) ∧ Hid (wr.ownsRow w2.heap.size 9 1 (.slice (some ⟨w2.heap.size + 1, 0, none⟩) 0 0) 0 (cellsS ([] : List ByteArray))) ∧ Hid (wr.ownsRow w2.heap.size 3 1 (.slice (some ⟨w2.heap.size + 1 + 1, 0, none⟩) 0 0) 0 (cellsI ([] : List Int)))) (fun i _ => m - (intOf i).toNat)
    case atStart => exact ⟨0, 0, _, by omega, rfl, rfl, BW.out, XW.out, O1.out, fun g e => by have e2 : some (w2.heap.size) = some g := e; injection e2 with e3; omega, O2.out, O3.out⟩
    case round =>
      clear BW XW O1 O2 O3
      obtain ⟨i, j, u, hi, rfl, hj, hb, hx, ho, hn, h2, h3⟩ := hrel
      obtain ⟨ua, uc, rfl, _, _⟩ := own_src ho.out
      have BT : Hid (Below w.heap.size w wr) := B2.out.trans (hb.out.mono (by have := Z2.out; omega))
      obtain ⟨p, hp⟩ : ∃ p, i % 2 = p := ⟨_, rfl⟩
      have RI : Int.tmod (i : Int) 2 = (p : Int) := by
        rw [← hp, Int.tmod_eq_emod_of_nonneg (by omega)]
        omega
      have hp2 : p < 2 := by omega
      have HP : Hid (i % 2 = p) := hp
      clear hp
      by_cases hlt : i < m
      · have hki : (i : Int) < (m : Int) := by omega
        by_cases tp : p = 0
        case neg =>
          have tp2 : ((p : Int) == 0) = false := beq_eq_false_iff_ne.2 (by omega)
          obtain ⟨e0, _⟩ := hx.out 0 _ rfl
          have JJ : Hid (j = (i + 1 + 1) / 2) := by have h8 := hj.out; have h7 := HP.out; show _ = _; omega
          clear tp
          go_wp2_with fail
          exact ⟨⟨i + 1, j, _, by omega, by go_num, JJ.out, hb.out, hx.out, ho.out, hn.out, h2.out, h3.out⟩, by simp [intOf]; omega⟩
        subst tp
        have tp2 : (((0 : Nat) : Int) == 0) = true := by decide
        have hlt2 : i + 1 < m := by have h1 := HP.out; have h2 := HQ.out; omega
        have hki1 : (i : Int) + 1 < (m : Int) := by omega
        have hk0 : (0 : Int) ≤ (i : Int) := by omega
        have hk01 : (0 : Int) ≤ (i : Int) + 1 := by omega
        have htn : ((i : Int) + 1).toNat = i + 1 := by omega
        have hwr1 : IntKind.i64.wrap ((i : Int) + 1) = (i : Int) + 1 := by rw [IntKind.wrap_i64]; omega
        obtain ⟨lb, lo, x, rfl, xc, hx0⟩ := srcS (S2.out.below hb.out) (i := i) (by rw [HM.out]; exact hlt)
        obtain ⟨lb', lo', y, e9, yc, hy0⟩ := srcS (S2.out.below hb.out) (i := i + 1) (by rw [HM.out]; exact hlt2)
        cases e9
        have J2 : Hid (i = 2 * j) := by have h8 := hj.out; have h7 := HP.out; show _ = _; omega
        have NX : Hid ((pairUp l).take (j + 1) = (pairUp l).take j ++ [(x, y)]) := by
          show _ = _
          rw [List.take_add_one, pairUp_get j l x y ?_ ?_]
          · rfl
          · rw [← J2.out, List.getElem?_eq_getElem (by rw [HM.out]; exact hlt)]
            have h9 := hx0.out
            rw [List.getD_eq_getElem?_getD, List.getElem?_eq_getElem (by rw [HM.out]; exact hlt)] at h9
            exact congrArg some h9
          · rw [← J2.out, List.getElem?_eq_getElem (by rw [HM.out]; exact hlt2)]
            have h9 := hy0.out
            rw [List.getD_eq_getElem?_getD, List.getElem?_eq_getElem (by rw [HM.out]; exact hlt2)] at h9
            exact congrArg some h9
        have hj9 : j ≤ 1048576 := by have := J2.out; omega
        have JJ : Hid (j + 1 = (i + 1 + 1) / 2) := by have h8 := hj.out; have h7 := HP.out; show _ = _; omega
        have ZX : Hid ((w2.heap.size + 1 + 1 + 1) < wr.heap.size) := World.block_lt_of_cell? _ _ (hx.out 0 _ rfl).1
        obtain ⟨e0, _⟩ := hx.out 0 _ rfl
        obtain ⟨e2, _⟩ := hx.out 1 _ rfl
        have XA : Hid (Box (wr.alloc (.cells #[.string x, .string y] 109)) (w2.heap.size + 1 + 1 + 1) [.bool true, .slice ua j uc, .slice (some ⟨w2.heap.size + 1, 0, none⟩) 0 0, .slice (some ⟨w2.heap.size + 1 + 1, 0, none⟩) 0 0]) := hx.out.old _
        obtain ⟨e2', _⟩ := XA.out 1 _ rfl
        have BA : Hid (Below w2.heap.size w2 (wr.alloc (.cells #[.string x, .string y] 109)).drew) := (hb.out.alloc hb.out.size _).drew
        have RW : Hid ((wr.alloc (.cells #[.string x, .string y] 109)).drew.ownsRow w2.heap.size 109 2 (.slice ua j uc) j (cellsP ((pairUp l).take j))) := ho.out.alloc _
        have R2 : Hid ((wr.alloc (.cells #[.string x, .string y] 109)).drew.ownsRow w2.heap.size 9 1 (.slice (some ⟨w2.heap.size + 1, 0, none⟩) 0 0) 0 (cellsS ([] : List ByteArray))) := h2.out.alloc _
        have R3 : Hid ((wr.alloc (.cells #[.string x, .string y] 109)).drew.ownsRow w2.heap.size 3 1 (.slice (some ⟨w2.heap.size + 1 + 1, 0, none⟩) 0 0) 0 (cellsI ([] : List Int))) := h3.out.alloc _
        have BS : Hid (w2.heap.size ≤ (wr.alloc (.cells #[.string x, .string y] 109)).drew.heap.size) := le_alloc hb.out.size _
        have RLT : Hid (∀ g, Value.ownBlock (.slice ua j uc) = some g → w2.heap.size ≤ g ∧ g < wr.heap.size) := fun g e => ho.out.lt g e
        clear hx0 hy0 hx ho h2 h3
        go_wp2_with fail
        go_region_law (refine step_append_src rfl (.tmp 78) (.tmp 89) 59 rfl w2.heap.size 109 (.agg #[.string ⟨#[]⟩, .string ⟨#[]⟩]) 2 32 Tryz.underlying59 infoP rfl (by decide) (by decide) (.slice ua j uc) j (cellsP ((pairUp l).take j)) (by simp [Act.eval]) RW.out ⟨wr.heap.size, 0, none⟩ 1 1 (cellsP [(x, y)]) (by simp [Act.eval]) rfl (show Src (wr.alloc (.cells #[.string x, .string y] 109)) _ _ from src_onePm rfl) (cellsP_one _) (by omega) (by decide) BS.out ?_; intro v' w' hown hgrow hnew; obtain ⟨b', d', rfl, _, _⟩ := own_src hown; have XG : Hid (Box w' (w2.heap.size + 1 + 1 + 1) [.bool true, .slice ua j uc, .slice (some ⟨w2.heap.size + 1, 0, none⟩) 0 0, .slice (some ⟨w2.heap.size + 1 + 1, 0, none⟩) 0 0]) := (Box.grown (w := (wr.alloc (.cells #[.string x, .string y] 109)).drew) XA.out hgrow (fun e => hn.out _ e rfl)); obtain ⟨pw, pf⟩ := XG.out 1 _ rfl; have OG : Hid (w'.ownsRow w2.heap.size 109 2 (.slice b' (j + 1) d') (j + 1) (cellsP ((pairUp l).take (j + 1)))) := (by rw [NX.out, cellsP_append]; exact hown); have U2 : Hid (w'.ownsRow w2.heap.size 9 1 (.slice (some ⟨w2.heap.size + 1, 0, none⟩) 0 0) 0 (cellsS ([] : List ByteArray))) := (own_grown R2.out hgrow (fun kk e e2 => own_ne R2.out RW.out (by decide) kk e e2)); have U3 : Hid (w'.ownsRow w2.heap.size 3 1 (.slice (some ⟨w2.heap.size + 1 + 1, 0, none⟩) 0 0) 0 (cellsI ([] : List Int))) := (own_grown R3.out hgrow (fun kk e e2 => own_ne R3.out RW.out (by decide) kk e e2)); have BG : Hid (Below w2.heap.size w2 w') := (BA.out.grown hgrow BA.out.size (fun g e => (RLT.out g e).1)); have NG : Hid (∀ g, Value.ownBlock (.slice b' (j + 1) d') = some g → g ≠ (w2.heap.size + 1 + 1 + 1)) := (fun gg e => by rcases hnew with h9 | h9; (rw [h9] at e; exact hn.out gg e); (have h8 := h9 gg e; have h7 := ZX.out; have h6 : (wr.alloc (.cells #[.string x, .string y] 109)).drew.heap.size = wr.heap.size + 1 := (by simp); omega)); clear hown hgrow hnew)
        all_goals go_wp2_with fail
        all_goals exact ⟨⟨i + 1, j + 1, _, by omega, by go_num, JJ.out, BG.out.setCell (by dsimp only; omega) _, XG.out.set 1 _, own_setOther OG.out (fun e => NG.out _ e rfl) _, NG.out, own_setOther U2.out (fun e => (show ∀ g, Value.ownBlock (.slice (some ⟨w2.heap.size + 1, 0, none⟩) 0 0) = some g → g ≠ (w2.heap.size + 1 + 1 + 1) from fun g e => by have e2 : some (w2.heap.size + 1) = some g := e; injection e2 with e3; omega) _ e rfl) _, own_setOther U3.out (fun e => (show ∀ g, Value.ownBlock (.slice (some ⟨w2.heap.size + 1 + 1, 0, none⟩) 0 0) = some g → g ≠ (w2.heap.size + 1 + 1 + 1) from fun g e => by have e2 : some (w2.heap.size + 1 + 1) = some g := e; injection e2 with e3; omega) _ e rfl) _⟩, by simp [intOf]; omega⟩
      · have him : i = m := by omega
        have hki : ¬ (i : Int) < (m : Int) := by omega
        have EP : Hid ((pairUp l).length = j ∧ (pairUp l).take j = pairUp l) := by
          have h9 : (pairUp l).length = j := by rw [pairUp_length, HM.out]; have h8 := hj.out; have h7 := HQ.out; omega
          exact ⟨h9, List.take_of_length_le (by omega)⟩
        clear him
        have FO : Hid (OwnsN wr w2.heap.size wr.heap.size (.agg #[.bool true, .slice ua j uc, .slice (some ⟨w2.heap.size + 1, 0, none⟩) 0 0, .slice (some ⟨w2.heap.size + 1 + 1, 0, none⟩) 0 0]) ⟨true, pairUp l, [], []⟩) := by
          refine OwnsN.mk rfl ?_ h2.out h3.out (Nat.le_refl _)
          show World.ownsRow _ _ _ _ _ (pairUp l).length _
          rw [EP.out.1]
          have h9 := ho.out
          rw [EP.out.2] at h9
          exact h9
        have F0 : Hid (nodeA (bodyB (bytesOf s)) = some ⟨true, pairUp l, [], []⟩) := by
          show _ = _
          rw [NL.out]; unfold leafN; rw [if_pos]; rw [HM.out, HQ.out]
        have SM : Hid (smallN ⟨true, pairUp l, [], []⟩) := nodeA_small (fun x hx => by rw [HB.out.1] at hx; exact HB.out.2 x hx) F0.out
        obtain ⟨ok, hok⟩ : ∃ b, okB ⟨true, pairUp l, [], []⟩ = b := ⟨_, rfl⟩
        have SOK : Hid (∀ w9, Below wr.heap.size wr w9 → Calls Tryz.prog 124 #[.agg #[.bool true, .slice ua j uc, .slice (some ⟨w2.heap.size + 1, 0, none⟩) 0 0, .slice (some ⟨w2.heap.size + 1 + 1, 0, none⟩) 0 0]] w9 fun e w' => e = .returned (.bool ok) ∧ Below w9.heap.size w9 w') := fun w9 hb9 => by
          have h9 := specNodeOK _ _ w9 SM.out (FO.out.reads.below hb9)
          rw [hok] at h9
          exact h9
        have HOK : Hid (okB ⟨true, pairUp l, [], []⟩ = ok) := hok
        clear hok
        have X9 : Hid (Box wr w.heap.size [.bool false, .slice none 0 0, .slice none 0 0, .slice none 0 0]) := X2.out.below hb.out
        obtain ⟨e0, _⟩ := hx.out 0 _ rfl
        obtain ⟨e1, _⟩ := hx.out 1 _ rfl
        obtain ⟨e2, _⟩ := hx.out 2 _ rfl
        obtain ⟨e3, _⟩ := hx.out 3 _ rfl
        go_wp2_with fail
        refine wp_region_noPanic ?_
        refine wp_region_held_drew (S := (fun w' => w'.cell? ⟨(w2.heap.size + 1 + 1 + 1), 0, none⟩ = some (.bool true) ∧ w'.cell? ⟨(w2.heap.size + 1 + 1 + 1), 1, none⟩ = some (.slice ua j uc) ∧ w'.cell? ⟨(w2.heap.size + 1 + 1 + 1), 2, none⟩ = some (.slice (some ⟨w2.heap.size + 1, 0, none⟩) 0 0) ∧ w'.cell? ⟨(w2.heap.size + 1 + 1 + 1), 3, none⟩ = some (.slice (some ⟨w2.heap.size + 1 + 1, 0, none⟩) 0 0))) (by kernel_rfl) ⟨e0, e1, e2, e3⟩ (fun hHeld => ?_)
        refine wpAnyH_take (i := 0) (v := .agg #[.bool true, .slice ua j uc, .slice (some ⟨w2.heap.size + 1, 0, none⟩) 0 0, .slice (some ⟨w2.heap.size + 1 + 1, 0, none⟩) 0 0]) rfl (by kernel_rfl) (by kernel_rfl) (by kernel_rfl) (fun _ _ _ h => h) (Or.inl ⟨by kernel_rfl, ?_⟩) hHeld ?_
        · intro w9 hSw
          obtain ⟨s0, s1, s2, s3⟩ := hSw
          go_simp
        simp only [Act.put, setIfInBounds_toArray, set_cons_zero, set_cons_succ]
        refine wpAnyH_take (i := 1) (v := .agg #[.bool true, .slice ua j uc, .slice (some ⟨w2.heap.size + 1, 0, none⟩) 0 0, .slice (some ⟨w2.heap.size + 1 + 1, 0, none⟩) 0 0]) rfl (by kernel_rfl) (by kernel_rfl) (by kernel_rfl) (fun _ _ _ h => h) (Or.inl ⟨by kernel_rfl, ?_⟩) hHeld ?_
        · intro w9 hSw
          obtain ⟨s0, s1, s2, s3⟩ := hSw
          go_simp
        simp only [Act.put, setIfInBounds_toArray, set_cons_zero, set_cons_succ]
        refine wpAnyH_ready (rs := [2]) (by kernel_rfl) (by simp) ?_
        refine AllReadyH.cons rfl (fun K hK => ?_) AllReadyH.nil
        go_simp
        refine (SOK.out _ ((Below.refl _ _).drew)).mono ?_
        rintro e w4 ⟨rfl, hb4⟩
        dsimp only
        have B4 : Hid (Below w.heap.size w w4) := BT.out.drew.trans (hb4.mono BT.out.size)
        have X4 : Hid (Box w4 w.heap.size [.bool false, .slice none 0 0, .slice none 0 0, .slice none 0 0]) := Box.below (w := wr.drew) X9.out hb4
        have Y4 : Hid (Box w4 (w2.heap.size + 1 + 1 + 1) [.bool true, .slice ua j uc, .slice (some ⟨w2.heap.size + 1, 0, none⟩) 0 0, .slice (some ⟨w2.heap.size + 1 + 1, 0, none⟩) 0 0]) := Box.below (w := wr.drew) hx.out hb4
        have O4 : Hid (OwnsN w4 w2.heap.size wr.heap.size (.agg #[.bool true, .slice ua j uc, .slice (some ⟨w2.heap.size + 1, 0, none⟩) 0 0, .slice (some ⟨w2.heap.size + 1 + 1, 0, none⟩) 0 0]) ⟨true, pairUp l, [], []⟩) := OwnsN.below (w := wr.drew) FO.out hb4
        clear hb4 e0 e1 e2 e3
        obtain ⟨e0, _⟩ := Y4.out 0 _ rfl
        obtain ⟨e1, _⟩ := Y4.out 1 _ rfl
        obtain ⟨e2, _⟩ := Y4.out 2 _ rfl
        obtain ⟨e3, _⟩ := Y4.out 3 _ rfl
        refine hK _ _ ⟨e0, e1, e2, e3⟩ (fun hHeld => ?_)
        clear hK K
        obtain ⟨p0, pf0⟩ := (X4.out) 0 _ rfl
        obtain ⟨p1, pf1⟩ := ((X4.out).set 0 (.bool true)) 1 _ rfl
        obtain ⟨p2, pf2⟩ := (((X4.out).set 0 (.bool true)).set 1 (.slice ua j uc)) 2 _ rfl
        obtain ⟨p3, pf3⟩ := ((((X4.out).set 0 (.bool true)).set 1 (.slice ua j uc)).set 2 (.slice (some ⟨w2.heap.size + 1, 0, none⟩) 0 0)) 3 _ rfl
        have X8 := ((((X4.out).set 0 (.bool true)).set 1 (.slice ua j uc)).set 2 (.slice (some ⟨w2.heap.size + 1, 0, none⟩) 0 0)).set 3 (.slice (some ⟨w2.heap.size + 1 + 1, 0, none⟩) 0 0)
        obtain ⟨r0, _⟩ := X8 0 _ rfl
        obtain ⟨r1, _⟩ := X8 1 _ rfl
        obtain ⟨r2, _⟩ := X8 2 _ rfl
        obtain ⟨r3, _⟩ := X8 3 _ rfl
        clear X8
        have YE : Hid (Box ((((w4.setCell ⟨w.heap.size, 0, none⟩ (.bool true)).setCell ⟨w.heap.size, 1, none⟩ (.slice ua j uc)).setCell ⟨w.heap.size, 2, none⟩ (.slice (some ⟨w2.heap.size + 1, 0, none⟩) 0 0)).setCell ⟨w.heap.size, 3, none⟩ (.slice (some ⟨w2.heap.size + 1 + 1, 0, none⟩) 0 0)) (w2.heap.size + 1 + 1 + 1) [.bool true, .slice ua j uc, .slice (some ⟨w2.heap.size + 1, 0, none⟩) 0 0, .slice (some ⟨w2.heap.size + 1 + 1, 0, none⟩) 0 0]) := ((((Y4.out.other _ (by have := Z2.out; (try dsimp only); omega) _).other _ (by have := Z2.out; (try dsimp only); omega) _).other _ (by have := Z2.out; (try dsimp only); omega) _).other _ (by have := Z2.out; (try dsimp only); omega) _)
        have BE : Hid (Below w.heap.size w ((((w4.setCell ⟨w.heap.size, 0, none⟩ (.bool true)).setCell ⟨w.heap.size, 1, none⟩ (.slice ua j uc)).setCell ⟨w.heap.size, 2, none⟩ (.slice (some ⟨w2.heap.size + 1, 0, none⟩) 0 0)).setCell ⟨w.heap.size, 3, none⟩ (.slice (some ⟨w2.heap.size + 1 + 1, 0, none⟩) 0 0))) := (((B4.out.setCell (Nat.le_refl _) _).setCell (Nat.le_refl _) _).setCell (Nat.le_refl _) _).setCell (Nat.le_refl _) _
        have OE : Hid (OwnsN ((((w4.setCell ⟨w.heap.size, 0, none⟩ (.bool true)).setCell ⟨w.heap.size, 1, none⟩ (.slice ua j uc)).setCell ⟨w.heap.size, 2, none⟩ (.slice (some ⟨w2.heap.size + 1, 0, none⟩) 0 0)).setCell ⟨w.heap.size, 3, none⟩ (.slice (some ⟨w2.heap.size + 1 + 1, 0, none⟩) 0 0)) w.heap.size ((((w4.setCell ⟨w.heap.size, 0, none⟩ (.bool true)).setCell ⟨w.heap.size, 1, none⟩ (.slice ua j uc)).setCell ⟨w.heap.size, 2, none⟩ (.slice (some ⟨w2.heap.size + 1, 0, none⟩) 0 0)).setCell ⟨w.heap.size, 3, none⟩ (.slice (some ⟨w2.heap.size + 1 + 1, 0, none⟩) 0 0)).heap.size (.agg #[.bool true, .slice ua j uc, .slice (some ⟨w2.heap.size + 1, 0, none⟩) 0 0, .slice (some ⟨w2.heap.size + 1 + 1, 0, none⟩) 0 0]) ⟨true, pairUp l, [], []⟩) := by
          obtain ⟨y1, y2, y3, e9, ⟨h1, _⟩, ⟨h2, _⟩, h3, _⟩ := O4.out
          refine ⟨y1, y2, y3, e9, ?_, ?_, ?_⟩
          all_goals refine (fun hh => ⟨hh, fun k e => (hh.lt k e).2⟩) ?_
          · refine own_mono (own_setLow (own_setLow (own_setLow (own_setLow h1 ?_ _) ?_ _) ?_ _) ?_ _) ?_ <;> (have := Z2.out; (try dsimp only); omega)
          · refine own_mono (own_setLow (own_setLow (own_setLow (own_setLow h2 ?_ _) ?_ _) ?_ _) ?_ _) ?_ <;> (have := Z2.out; (try dsimp only); omega)
          · refine own_mono (own_setLow (own_setLow (own_setLow (own_setLow h3 ?_ _) ?_ _) ?_ _) ?_ _) ?_ <;> (have := Z2.out; (try dsimp only); omega)
        refine wpAnyH_ready (rs := [3]) (by kernel_rfl) (by simp) ?_
        refine AllReadyH.cons rfl (fun K hK => ?_) AllReadyH.nil
        go_simp
        clear e0 e1 e2 e3
        obtain ⟨e0, _⟩ := YE.out 0 _ rfl
        obtain ⟨e1, _⟩ := YE.out 1 _ rfl
        obtain ⟨e2, _⟩ := YE.out 2 _ rfl
        obtain ⟨e3, _⟩ := YE.out 3 _ rfl
        refine hK _ _ ⟨e0, e1, e2, e3⟩ (fun hHeld => ?_)
        clear hK K
        refine wpAnyH_ready (rs := [4]) (by kernel_rfl) (by simp) ?_
        refine AllReadyH.cons rfl (fun K hK => ?_) AllReadyH.nil
        go_simp
        refine hK _ _ ⟨e0, e1, e2, e3⟩ (fun hHeld => ?_)
        clear hK K
        refine wpAnyH_done (by kernel_rfl) ?_ _
        refine NoPanic.normal ?_
        clear e0 e1 e2 e3 hHeld p0 p1 p2 p3 pf0 pf1 pf2 pf3
        cases ok with
        | false =>
          have F : Hid (nodeR (bytesOf s) = none) := nodeR_bad F0.out (.inr HOK.out)
          go_wp2_with fail
          exact bodyPost_ret (v := .tuple #[.agg #[.bool true, .slice ua j uc, .slice (some ⟨w2.heap.size + 1, 0, none⟩) 0 0, .slice (some ⟨w2.heap.size + 1 + 1, 0, none⟩) 0 0], .bool false]) (by simp [results, Tryz.results86, go_sem, r0, r1, r2, r3]) rfl ⟨.inl ⟨F.out, _, _, _, _, _, _, _, _, _, _, rfl⟩, BE.out⟩
        | true =>
          have F : Hid (nodeR (bytesOf s) = some ⟨true, pairUp l, [], []⟩) := nodeR_some SE.out F0.out (by rfl) HOK.out
          go_wp2_with fail
          exact bodyPost_ret (v := .tuple #[.agg #[.bool true, .slice ua j uc, .slice (some ⟨w2.heap.size + 1, 0, none⟩) 0 0, .slice (some ⟨w2.heap.size + 1 + 1, 0, none⟩) 0 0], .bool true]) (by simp [results, Tryz.results86, go_sem, r0, r1, r2, r3]) rfl ⟨.inr ⟨_, _, F.out, rfl, OE.out⟩, BE.out⟩
  have t9 : ((x0 : Int) == 108) = false := beq_eq_false_iff_ne.2 (by omega)
  by_cases t7 : x0 = 105
  case neg =>
    have F : Hid (nodeR (bytesOf s) = none) := nodeR_none (by rw [HB.out.1, NA.out, if_neg t8, if_neg t7])
    have t6 : ((x0 : Int) != 105) = true := by simp; omega
    clear t8 t7 NA
    have XZ : Hid (Box ((((w2.alloc (.cells #[] 109)).alloc (.cells #[] 9)).alloc (.cells #[] 3)).alloc (.cells #[.bool false, .slice (some ⟨w2.heap.size, 0, none⟩) 0 0, .slice (some ⟨w2.heap.size + 1, 0, none⟩) 0 0, .slice (some ⟨w2.heap.size + 1 + 1, 0, none⟩) 0 0] 137)) w.heap.size [.bool false, .slice none 0 0, .slice none 0 0, .slice none 0 0]) := (((X2.out.old _).old _).old _).old _
    have AZ : Below w2.heap.size w2 ((((w2.alloc (.cells #[] 109)).alloc (.cells #[] 9)).alloc (.cells #[] 3)).alloc (.cells #[.bool false, .slice (some ⟨w2.heap.size, 0, none⟩) 0 0, .slice (some ⟨w2.heap.size + 1, 0, none⟩) 0 0, .slice (some ⟨w2.heap.size + 1 + 1, 0, none⟩) 0 0] 137)) := (((((Below.refl w2.heap.size w2).alloc (Nat.le_refl _) _).alloc (by simp) _).alloc (by simp; omega) _).alloc (by simp; omega) _)
    have BZ : Hid (Below w.heap.size w ((((w2.alloc (.cells #[] 109)).alloc (.cells #[] 9)).alloc (.cells #[] 3)).alloc (.cells #[.bool false, .slice (some ⟨w2.heap.size, 0, none⟩) 0 0, .slice (some ⟨w2.heap.size + 1, 0, none⟩) 0 0, .slice (some ⟨w2.heap.size + 1 + 1, 0, none⟩) 0 0] 137))) := B2.out.trans (AZ.mono B2.out.size)
    clear AZ
    obtain ⟨p0, pf0⟩ := (XZ.out) 0 _ rfl
    obtain ⟨p1, pf1⟩ := ((XZ.out).set 0 (.bool false)) 1 _ rfl
    obtain ⟨p2, pf2⟩ := (((XZ.out).set 0 (.bool false)).set 1 (.slice none 0 0)) 2 _ rfl
    obtain ⟨p3, pf3⟩ := ((((XZ.out).set 0 (.bool false)).set 1 (.slice none 0 0)).set 2 (.slice none 0 0)) 3 _ rfl
    have X8 := ((((XZ.out).set 0 (.bool false)).set 1 (.slice none 0 0)).set 2 (.slice none 0 0)).set 3 (.slice none 0 0)
    obtain ⟨r0, _⟩ := X8 0 _ rfl
    obtain ⟨r1, _⟩ := X8 1 _ rfl
    obtain ⟨r2, _⟩ := X8 2 _ rfl
    obtain ⟨r3, _⟩ := X8 3 _ rfl
    clear X8
    have BE : Hid (Below w.heap.size w ((((((((w2.alloc (.cells #[] 109)).alloc (.cells #[] 9)).alloc (.cells #[] 3)).alloc (.cells #[.bool false, .slice (some ⟨w2.heap.size, 0, none⟩) 0 0, .slice (some ⟨w2.heap.size + 1, 0, none⟩) 0 0, .slice (some ⟨w2.heap.size + 1 + 1, 0, none⟩) 0 0] 137)).setCell ⟨w.heap.size, 0, none⟩ (.bool false)).setCell ⟨w.heap.size, 1, none⟩ (.slice none 0 0)).setCell ⟨w.heap.size, 2, none⟩ (.slice none 0 0)).setCell ⟨w.heap.size, 3, none⟩ (.slice none 0 0))) := (((BZ.out.setCell (Nat.le_refl _) _).setCell (Nat.le_refl _) _).setCell (Nat.le_refl _) _).setCell (Nat.le_refl _) _
    go_wp2_with fail
    exact bodyPost_ret (v := .tuple #[.agg #[.bool false, .slice none 0 0, .slice none 0 0, .slice none 0 0], .bool false]) (by simp [results, Tryz.results86, go_sem, r0, r1, r2, r3]) rfl ⟨.inl ⟨F.out, _, _, _, _, _, _, _, _, _, _, rfl⟩, BE.out⟩
  have NL : Hid (nodeA (bodyB (bytesOf s)) = innerN l) := by show _ = _; rw [HB.out.1, NA.out, if_neg t8, if_pos t7]
  have t6 : ((x0 : Int) != 105) = false := by simp; omega
  clear t8 t7 NA
  by_cases h0 : m = 0
  · have F : Hid (nodeR (bytesOf s) = none) := by
      have hl0 : l = [] := List.eq_nil_of_length_eq_zero (by rw [HM.out]; exact h0)
      exact nodeR_bad (D := ⟨false, [], [], []⟩) (by rw [NL.out, hl0]; unfold innerN; rw [if_neg (by rintro ⟨f, hf, _⟩; cases hf)]; rfl) (.inl (by decide))
    have h0b : ((m : Int) == 0) = true := by rw [h0]; rfl
    clear h0
    have XZ : Hid (Box ((((w2.alloc (.cells #[] 109)).alloc (.cells #[] 9)).alloc (.cells #[] 3)).alloc (.cells #[.bool false, .slice (some ⟨w2.heap.size, 0, none⟩) 0 0, .slice (some ⟨w2.heap.size + 1, 0, none⟩) 0 0, .slice (some ⟨w2.heap.size + 1 + 1, 0, none⟩) 0 0] 137)) w.heap.size [.bool false, .slice none 0 0, .slice none 0 0, .slice none 0 0]) := (((X2.out.old _).old _).old _).old _
    have AZ : Below w2.heap.size w2 ((((w2.alloc (.cells #[] 109)).alloc (.cells #[] 9)).alloc (.cells #[] 3)).alloc (.cells #[.bool false, .slice (some ⟨w2.heap.size, 0, none⟩) 0 0, .slice (some ⟨w2.heap.size + 1, 0, none⟩) 0 0, .slice (some ⟨w2.heap.size + 1 + 1, 0, none⟩) 0 0] 137)) := (((((Below.refl w2.heap.size w2).alloc (Nat.le_refl _) _).alloc (by simp) _).alloc (by simp; omega) _).alloc (by simp; omega) _)
    have BZ : Hid (Below w.heap.size w ((((w2.alloc (.cells #[] 109)).alloc (.cells #[] 9)).alloc (.cells #[] 3)).alloc (.cells #[.bool false, .slice (some ⟨w2.heap.size, 0, none⟩) 0 0, .slice (some ⟨w2.heap.size + 1, 0, none⟩) 0 0, .slice (some ⟨w2.heap.size + 1 + 1, 0, none⟩) 0 0] 137))) := B2.out.trans (AZ.mono B2.out.size)
    clear AZ
    obtain ⟨p0, pf0⟩ := (XZ.out) 0 _ rfl
    obtain ⟨p1, pf1⟩ := ((XZ.out).set 0 (.bool false)) 1 _ rfl
    obtain ⟨p2, pf2⟩ := (((XZ.out).set 0 (.bool false)).set 1 (.slice none 0 0)) 2 _ rfl
    obtain ⟨p3, pf3⟩ := ((((XZ.out).set 0 (.bool false)).set 1 (.slice none 0 0)).set 2 (.slice none 0 0)) 3 _ rfl
    have X8 := ((((XZ.out).set 0 (.bool false)).set 1 (.slice none 0 0)).set 2 (.slice none 0 0)).set 3 (.slice none 0 0)
    obtain ⟨r0, _⟩ := X8 0 _ rfl
    obtain ⟨r1, _⟩ := X8 1 _ rfl
    obtain ⟨r2, _⟩ := X8 2 _ rfl
    obtain ⟨r3, _⟩ := X8 3 _ rfl
    clear X8
    have BE : Hid (Below w.heap.size w ((((((((w2.alloc (.cells #[] 109)).alloc (.cells #[] 9)).alloc (.cells #[] 3)).alloc (.cells #[.bool false, .slice (some ⟨w2.heap.size, 0, none⟩) 0 0, .slice (some ⟨w2.heap.size + 1, 0, none⟩) 0 0, .slice (some ⟨w2.heap.size + 1 + 1, 0, none⟩) 0 0] 137)).setCell ⟨w.heap.size, 0, none⟩ (.bool false)).setCell ⟨w.heap.size, 1, none⟩ (.slice none 0 0)).setCell ⟨w.heap.size, 2, none⟩ (.slice none 0 0)).setCell ⟨w.heap.size, 3, none⟩ (.slice none 0 0))) := (((BZ.out.setCell (Nat.le_refl _) _).setCell (Nat.le_refl _) _).setCell (Nat.le_refl _) _).setCell (Nat.le_refl _) _
    go_wp2_with fail
    exact bodyPost_ret (v := .tuple #[.agg #[.bool false, .slice none 0 0, .slice none 0 0, .slice none 0 0], .bool false]) (by simp [results, Tryz.results86, go_sem, r0, r1, r2, r3]) rfl ⟨.inl ⟨F.out, _, _, _, _, _, _, _, _, _, _, rfl⟩, BE.out⟩
  have h0b : ((m : Int) == 0) = false := beq_eq_false_iff_ne.2 (by omega)
  have MP : Hid (0 < m) := by show 0 < m; omega
  clear h0
  have BW : Hid (Below w2.heap.size w2 ((((w2.alloc (.cells #[] 109)).alloc (.cells #[] 9)).alloc (.cells #[] 3)).alloc (.cells #[.bool false, .slice (some ⟨w2.heap.size, 0, none⟩) 0 0, .slice (some ⟨w2.heap.size + 1, 0, none⟩) 0 0, .slice (some ⟨w2.heap.size + 1 + 1, 0, none⟩) 0 0] 137))) := (((((Below.refl w2.heap.size w2).alloc (Nat.le_refl _) _).alloc (by simp) _).alloc (by simp; omega) _).alloc (by simp; omega) _)
  have XW : Hid (Box ((((w2.alloc (.cells #[] 109)).alloc (.cells #[] 9)).alloc (.cells #[] 3)).alloc (.cells #[.bool false, .slice (some ⟨w2.heap.size, 0, none⟩) 0 0, .slice (some ⟨w2.heap.size + 1, 0, none⟩) 0 0, .slice (some ⟨w2.heap.size + 1 + 1, 0, none⟩) 0 0] 137)) (w2.heap.size + 1 + 1 + 1) [.bool false, .slice (some ⟨w2.heap.size, 0, none⟩) 0 0, .slice (some ⟨w2.heap.size + 1, 0, none⟩) 0 0, .slice (some ⟨w2.heap.size + 1 + 1, 0, none⟩) 0 0]) := Box.new (w := (((w2.alloc (.cells #[] 109)).alloc (.cells #[] 9)).alloc (.cells #[] 3))) (by simp)
  have O1 : Hid (World.ownsRow ((((w2.alloc (.cells #[] 109)).alloc (.cells #[] 9)).alloc (.cells #[] 3)).alloc (.cells #[.bool false, .slice (some ⟨w2.heap.size, 0, none⟩) 0 0, .slice (some ⟨w2.heap.size + 1, 0, none⟩) 0 0, .slice (some ⟨w2.heap.size + 1 + 1, 0, none⟩) 0 0] 137)) w2.heap.size 109 2 (.slice (some ⟨w2.heap.size, 0, none⟩) 0 0) 0 (cellsP ([] : List PM))) := (((own_empty (w := w2) rfl (Nat.le_refl _)).alloc _).alloc _).alloc _
  have O2 : Hid (World.ownsRow ((((w2.alloc (.cells #[] 109)).alloc (.cells #[] 9)).alloc (.cells #[] 3)).alloc (.cells #[.bool false, .slice (some ⟨w2.heap.size, 0, none⟩) 0 0, .slice (some ⟨w2.heap.size + 1, 0, none⟩) 0 0, .slice (some ⟨w2.heap.size + 1 + 1, 0, none⟩) 0 0] 137)) w2.heap.size 9 1 (.slice (some ⟨w2.heap.size + 1, 0, none⟩) 0 0) 0 (cellsS ([] : List ByteArray))) := ((own_empty (w := w2.alloc (.cells #[] 109)) (by simp) (by simp)).alloc _).alloc _
  have O3 : Hid (World.ownsRow ((((w2.alloc (.cells #[] 109)).alloc (.cells #[] 9)).alloc (.cells #[] 3)).alloc (.cells #[.bool false, .slice (some ⟨w2.heap.size, 0, none⟩) 0 0, .slice (some ⟨w2.heap.size + 1, 0, none⟩) 0 0, .slice (some ⟨w2.heap.size + 1 + 1, 0, none⟩) 0 0] 137)) w2.heap.size 3 1 (.slice (some ⟨w2.heap.size + 1 + 1, 0, none⟩) 0 0) 0 (cellsI ([] : List Int))) := (own_empty (w := (w2.alloc (.cells #[] 109)).alloc (.cells #[] 9)) (by simp) (by simp; omega)).alloc _
  go_wp2_with fail
  go_loopw [9] (fun iv wr => ∃ (k : Nat) (u v : Value), k ≤ m ∧ iv = .int .i64 (k : Int) ∧ Hid (Below w2.heap.size w2 wr) ∧ Hid (Box wr (w2.heap.size + 1 + 1 + 1) [.bool false, .slice (some ⟨w2.heap.size, 0, none⟩) 0 0, u, v]) ∧ Hid (wr.ownsRow w2.heap.size 9 1 u k (cellsS ((l.map leastOf).take k))) ∧ Hid (wr.ownsRow w2.heap.size 3 1 v k (cellsI ((l.map kidOf).take k))) ∧ Hid (∀ g, Value.ownBlock u = some g → g ≠ (w2.heap.size + 1 + 1 + 1)) ∧ Hid (∀ g, Value.ownBlock v = some g → g ≠ (w2.heap.size + 1 + 1 + 1)) ∧ Hid (wr.ownsRow w2.heap.size 109 2 (.slice (some ⟨w2.heap.size, 0, none⟩) 0 0) 0 (cellsP ([] : List PM))) ∧ Hid (∀ f ∈ l.take k, ¬ f.size = 0)) (fun i _ => m - (intOf i).toNat)
  case atStart => exact ⟨0, _, _, by omega, rfl, BW.out, XW.out, O2.out, O3.out, fun g e => by have e2 : some (w2.heap.size + 1) = some g := e; injection e2 with e3; omega, fun g e => by have e2 : some (w2.heap.size + 1 + 1) = some g := e; injection e2 with e3; omega, O1.out, fun f hf => by simp at hf⟩
  case round =>
    clear BW XW O1 O2 O3
    obtain ⟨k, u, v, hk, rfl, hb, hx, ho, hp, hnu, hnv, h1, hg⟩ := hrel
    obtain ⟨ua, uc, rfl, _, _⟩ := own_src ho.out
    obtain ⟨va, vc, rfl, _, _⟩ := own_src hp.out
    have BT : Hid (Below w.heap.size w wr) := B2.out.trans (hb.out.mono (by have := Z2.out; omega))
    by_cases hlt : k < m
    · have hki : (k : Int) < (m : Int) := by omega
      have hk0i : (0 : Int) ≤ (k : Int) := by omega
      obtain ⟨lb, lo, f, rfl, fc, hf⟩ := srcS (S2.out.below hb.out) (i := k) (by rw [HM.out]; exact hlt)
      have HF : Hid (l[k]? = some f) := by
        show _ = _
        have h9 := hf.out
        rw [List.getD_eq_getElem?_getD, List.getElem?_eq_getElem (by rw [HM.out]; exact hlt)] at h9
        rw [List.getElem?_eq_getElem (by rw [HM.out]; exact hlt)]
        exact congrArg some h9
      have FC : Hid (∀ w9, Below w2.heap.size w2 w9 → w9.cell? ⟨lb, lo + k, none⟩ = some (.string f)) := fun w9 hb9 => by
        obtain ⟨lb', lo', y', e', yc', hy'⟩ := srcS (S2.out.below hb9) (i := k) (by rw [HM.out]; exact hlt)
        cases e'
        rw [yc', ← hy'.out, hf.out]
      obtain ⟨e9, _⟩ := hx.out 0 _ rfl
      by_cases t3 : f.size = 0
      · have F : Hid (nodeR (bytesOf s) = none) := nodeR_none (by rw [NL.out]; unfold innerN; rw [if_pos ⟨f, List.mem_of_getElem? HF.out, t3⟩])
        obtain rfl : f = ⟨#[]⟩ := by
          apply bytes_inj
          cases f with
          | mk d =>
            have h8 : d.size = 0 := t3
            simp at h8 ⊢
            exact h8
        have X9 : Hid (Box wr w.heap.size [.bool false, .slice none 0 0, .slice none 0 0, .slice none 0 0]) := X2.out.below hb.out
        clear t3
        obtain ⟨p0, pf0⟩ := (X9.out) 0 _ rfl
        obtain ⟨p1, pf1⟩ := ((X9.out).set 0 (.bool false)) 1 _ rfl
        obtain ⟨p2, pf2⟩ := (((X9.out).set 0 (.bool false)).set 1 (.slice none 0 0)) 2 _ rfl
        obtain ⟨p3, pf3⟩ := ((((X9.out).set 0 (.bool false)).set 1 (.slice none 0 0)).set 2 (.slice none 0 0)) 3 _ rfl
        have X8 := ((((X9.out).set 0 (.bool false)).set 1 (.slice none 0 0)).set 2 (.slice none 0 0)).set 3 (.slice none 0 0)
        obtain ⟨r0, _⟩ := X8 0 _ rfl
        obtain ⟨r1, _⟩ := X8 1 _ rfl
        obtain ⟨r2, _⟩ := X8 2 _ rfl
        obtain ⟨r3, _⟩ := X8 3 _ rfl
        clear X8
        have BE : Hid (Below w.heap.size w ((((wr.setCell ⟨w.heap.size, 0, none⟩ (.bool false)).setCell ⟨w.heap.size, 1, none⟩ (.slice none 0 0)).setCell ⟨w.heap.size, 2, none⟩ (.slice none 0 0)).setCell ⟨w.heap.size, 3, none⟩ (.slice none 0 0))) := (((BT.out.setCell (Nat.le_refl _) _).setCell (Nat.le_refl _) _).setCell (Nat.le_refl _) _).setCell (Nat.le_refl _) _
        go_wp2_with fail
        exact bodyPost_ret (v := .tuple #[.agg #[.bool false, .slice none 0 0, .slice none 0 0, .slice none 0 0], .bool false]) (by simp [results, Tryz.results86, go_sem, r0, r1, r2, r3]) rfl ⟨.inl ⟨F.out, _, _, _, _, _, _, _, _, _, _, rfl⟩, BE.out⟩
      · have fne : f.toList.isEmpty = false := by
          cases e : f.toList with
          | nil =>
            exfalso
            apply t3
            have h9 : f.data.toList.length = 0 := by rw [← ByteArray.toList_eq, e]; rfl
            simpa using h9
          | cons _ _ => rfl
        obtain ⟨y0, hy0⟩ : ∃ y, (f[0]'(by omega)).toNat = y := ⟨_, rfl⟩
        have hy08 : y0 < 256 := by rw [← hy0]; exact UInt8.toNat_lt _
        have hf0 : 0 < f.size := by omega
        have hwr1 : IntKind.i64.wrap (y0 : Int) = (y0 : Int) := by rw [IntKind.wrap_i64]; omega
        have K0 : Hid (kidOf f = (y0 : Int)) := by show _ = _; unfold kidOf; rw [bytesOf_get f 0 (by omega), hy0]
        have cut1 : ∀ W, (Instr.slice 9 (.string f) (some (.int .i64 1)) none none).run Tryz.prog W = .ok (.string (f.extract 1 f.size)) W := fun W => by
          have h9 := run_slice_string_l (P := Tryz.prog) W 9 f Tryz.underlying9 .i64 1 (by omega) (by omega)
          exact h9
        obtain ⟨g, hg1⟩ : ∃ g, f.extract 1 f.size = g := ⟨_, rfl⟩
        rw [hg1] at cut1
        have L0 : Hid (leastOf f = g) := hg1
        have NK : Hid ((l.map kidOf).take (k + 1) = (l.map kidOf).take k ++ [(y0 : Int)]) := by
          show _ = _
          rw [List.take_add_one, List.getElem?_map, HF.out, Option.map_some, K0.out]
          rfl
        have NLs : Hid ((l.map leastOf).take (k + 1) = (l.map leastOf).take k ++ [g]) := by
          show _ = _
          rw [List.take_add_one, List.getElem?_map, HF.out, Option.map_some, L0.out]
          rfl
        have GN : Hid (∀ f ∈ l.take (k + 1), ¬ f.size = 0) := fun f' hf' => by
          rw [List.take_add_one, HF.out, List.mem_append] at hf'
          rcases hf' with h9 | h9
          · exact hg.out f' h9
          · simp at h9; subst h9; exact t3
        have ZX : Hid ((w2.heap.size + 1 + 1 + 1) < wr.heap.size) := World.block_lt_of_cell? _ _ (hx.out 0 _ rfl).1
        obtain ⟨e2, _⟩ := hx.out 3 _ rfl
        have XA : Hid (Box (wr.alloc (.cells #[.int .i64 (y0 : Int)] 3)) (w2.heap.size + 1 + 1 + 1) [.bool false, .slice (some ⟨w2.heap.size, 0, none⟩) 0 0, .slice ua k uc, .slice va k vc]) := hx.out.old _
        obtain ⟨e2', _⟩ := XA.out 3 _ rfl
        have BA : Hid (Below w2.heap.size w2 (wr.alloc (.cells #[.int .i64 (y0 : Int)] 3)).drew) := (hb.out.alloc hb.out.size _).drew
        have RW : Hid ((wr.alloc (.cells #[.int .i64 (y0 : Int)] 3)).drew.ownsRow w2.heap.size 3 1 (.slice va k vc) k (cellsI ((l.map kidOf).take k))) := hp.out.alloc _
        have RU : Hid ((wr.alloc (.cells #[.int .i64 (y0 : Int)] 3)).drew.ownsRow w2.heap.size 9 1 (.slice ua k uc) k (cellsS ((l.map leastOf).take k))) := ho.out.alloc _
        have R1 : Hid ((wr.alloc (.cells #[.int .i64 (y0 : Int)] 3)).drew.ownsRow w2.heap.size 109 2 (.slice (some ⟨w2.heap.size, 0, none⟩) 0 0) 0 (cellsP ([] : List PM))) := h1.out.alloc _
        have BQ : Hid (w2.heap.size ≤ (wr.alloc (.cells #[.int .i64 (y0 : Int)] 3)).drew.heap.size) := le_alloc hb.out.size _
        have RLT : Hid (∀ g, Value.ownBlock (.slice va k vc) = some g → w2.heap.size ≤ g ∧ g < wr.heap.size) := fun g e => hp.out.lt g e
        clear hf hx ho hp hg hg1 h1
        go_wp2_with fail
        go_region_law (refine step_append_src rfl (.tmp 103) (.tmp 110) 24 rfl w2.heap.size 3 (.int .i64 0) 1 8 Tryz.underlying24 infoI rfl (by decide) (by decide) (.slice va k vc) k (cellsI ((l.map kidOf).take k)) (by simp [Act.eval]) RW.out ⟨wr.heap.size, 0, none⟩ 1 1 (cellsI [(y0 : Int)]) (by simp [Act.eval]) rfl (show Src (wr.alloc (.cells #[.int .i64 (y0 : Int)] 3)) _ _ from src_oneI9 rfl) (cellsI_one _) (by omega) (by decide) BQ.out ?_; intro v' w' hown hgrow hnew; obtain ⟨b', d', rfl, _, _⟩ := own_src hown; have XG : Hid (Box w' (w2.heap.size + 1 + 1 + 1) [.bool false, .slice (some ⟨w2.heap.size, 0, none⟩) 0 0, .slice ua k uc, .slice va k vc]) := (Box.grown (w := (wr.alloc (.cells #[.int .i64 (y0 : Int)] 3)).drew) XA.out hgrow (fun e => hnv.out _ e rfl)); obtain ⟨pw, pf⟩ := XG.out 3 _ rfl; have OG : Hid (w'.ownsRow w2.heap.size 3 1 (.slice b' (k + 1) d') (k + 1) (cellsI ((l.map kidOf).take (k + 1)))) := (by rw [NK.out, cellsI_append]; exact hown); have UG : Hid (w'.ownsRow w2.heap.size 9 1 (.slice ua k uc) k (cellsS ((l.map leastOf).take k))) := (own_grown RU.out hgrow (fun kk e e2 => own_ne RU.out RW.out (by decide) kk e e2)); have U1 : Hid (w'.ownsRow w2.heap.size 109 2 (.slice (some ⟨w2.heap.size, 0, none⟩) 0 0) 0 (cellsP ([] : List PM))) := (own_grown R1.out hgrow (fun kk e e2 => own_ne R1.out RW.out (by decide) kk e e2)); have BG : Hid (Below w2.heap.size w2 w') := (BA.out.grown hgrow BA.out.size (fun g e => (RLT.out g e).1)); have NG : Hid (∀ g, Value.ownBlock (.slice b' (k + 1) d') = some g → g ≠ (w2.heap.size + 1 + 1 + 1)) := (fun gg e => by rcases hnew with h9 | h9; (rw [h9] at e; exact hnv.out gg e); (have h8 := h9 gg e; have h7 := ZX.out; have h6 : (wr.alloc (.cells #[.int .i64 (y0 : Int)] 3)).drew.heap.size = wr.heap.size + 1 := (by simp); omega)); clear hown hgrow hnew)
        all_goals
          have B3 : Hid (Below w2.heap.size w2 (w'.setCell ⟨(w2.heap.size + 1 + 1 + 1), 3, none⟩ (.slice b' (k + 1) d'))) := BG.out.setCell (by dsimp only; omega) _
          have X3 : Hid (Box (w'.setCell ⟨(w2.heap.size + 1 + 1 + 1), 3, none⟩ (.slice b' (k + 1) d')) (w2.heap.size + 1 + 1 + 1) [.bool false, .slice (some ⟨w2.heap.size, 0, none⟩) 0 0, .slice ua k uc, .slice b' (k + 1) d']) := XG.out.set 3 _
          have O3 : Hid ((w'.setCell ⟨(w2.heap.size + 1 + 1 + 1), 3, none⟩ (.slice b' (k + 1) d')).ownsRow w2.heap.size 3 1 (.slice b' (k + 1) d') (k + 1) (cellsI ((l.map kidOf).take (k + 1)))) := own_setOther OG.out (fun e => NG.out _ e rfl) _
          have U3 : Hid ((w'.setCell ⟨(w2.heap.size + 1 + 1 + 1), 3, none⟩ (.slice b' (k + 1) d')).ownsRow w2.heap.size 9 1 (.slice ua k uc) k (cellsS ((l.map leastOf).take k))) := own_setOther UG.out (fun e => hnu.out _ e rfl) _
          have V3 : Hid ((w'.setCell ⟨(w2.heap.size + 1 + 1 + 1), 3, none⟩ (.slice b' (k + 1) d')).ownsRow w2.heap.size 109 2 (.slice (some ⟨w2.heap.size, 0, none⟩) 0 0) 0 (cellsP ([] : List PM))) := own_setOther U1.out (fun e => (show ∀ g, Value.ownBlock (.slice (some ⟨w2.heap.size, 0, none⟩) 0 0) = some g → g ≠ (w2.heap.size + 1 + 1 + 1) from fun g e => by have e2 : some (w2.heap.size) = some g := e; injection e2 with e3; omega) _ e rfl) _
          clear XG OG UG U1 BG pw pf XA BA RW RU R1 BQ RLT e2 e2' ZX e9 fc
          generalize (w'.setCell ⟨(w2.heap.size + 1 + 1 + 1), 3, none⟩ (.slice b' (k + 1) d')) = wq at B3 X3 O3 U3 V3 ⊢
          have fc := FC.out _ B3.out
          have ZX : Hid ((w2.heap.size + 1 + 1 + 1) < wq.heap.size) := World.block_lt_of_cell? _ _ (X3.out 0 _ rfl).1
          obtain ⟨e2, _⟩ := X3.out 2 _ rfl
          have XA : Hid (Box (wq.alloc (.cells #[.string g] 9)) (w2.heap.size + 1 + 1 + 1) [.bool false, .slice (some ⟨w2.heap.size, 0, none⟩) 0 0, .slice ua k uc, .slice b' (k + 1) d']) := X3.out.old _
          obtain ⟨e2', _⟩ := XA.out 2 _ rfl
          have BA : Hid (Below w2.heap.size w2 (wq.alloc (.cells #[.string g] 9)).drew) := (B3.out.alloc B3.out.size _).drew
          have RW : Hid ((wq.alloc (.cells #[.string g] 9)).drew.ownsRow w2.heap.size 9 1 (.slice ua k uc) k (cellsS ((l.map leastOf).take k))) := U3.out.alloc _
          have RU : Hid ((wq.alloc (.cells #[.string g] 9)).drew.ownsRow w2.heap.size 3 1 (.slice b' (k + 1) d') (k + 1) (cellsI ((l.map kidOf).take (k + 1)))) := O3.out.alloc _
          have R1 : Hid ((wq.alloc (.cells #[.string g] 9)).drew.ownsRow w2.heap.size 109 2 (.slice (some ⟨w2.heap.size, 0, none⟩) 0 0) 0 (cellsP ([] : List PM))) := V3.out.alloc _
          have BQ : Hid (w2.heap.size ≤ (wq.alloc (.cells #[.string g] 9)).drew.heap.size) := le_alloc B3.out.size _
          have RLT : Hid (∀ g, Value.ownBlock (.slice ua k uc) = some g → w2.heap.size ≤ g ∧ g < wq.heap.size) := fun g e => U3.out.lt g e
          clear X3 O3 U3 V3 B3
          go_wp2_with fail
          go_region_law (refine step_append_src rfl (.tmp 114) (.tmp 120) 22 rfl w2.heap.size 9 (.string ⟨#[]⟩) 1 16 Tryz.underlying22 infoS rfl (by decide) (by decide) (.slice ua k uc) k (cellsS ((l.map leastOf).take k)) (by simp [Act.eval]) RW.out ⟨wq.heap.size, 0, none⟩ 1 1 (cellsS [g]) (by simp [Act.eval]) rfl (show Src (wq.alloc (.cells #[.string g] 9)) _ _ from src_oneS rfl) (cellsS_one _) (by omega) (by decide) BQ.out ?_; intro v2 wz hown hgrow hnew; obtain ⟨b2, d2, rfl, _, _⟩ := own_src hown; have XG : Hid (Box wz (w2.heap.size + 1 + 1 + 1) [.bool false, .slice (some ⟨w2.heap.size, 0, none⟩) 0 0, .slice ua k uc, .slice b' (k + 1) d']) := (Box.grown (w := (wq.alloc (.cells #[.string g] 9)).drew) XA.out hgrow (fun e => hnu.out _ e rfl)); obtain ⟨pw, pf⟩ := XG.out 2 _ rfl; have OG : Hid (wz.ownsRow w2.heap.size 9 1 (.slice b2 (k + 1) d2) (k + 1) (cellsS ((l.map leastOf).take (k + 1)))) := (by rw [NLs.out, cellsS_append]; exact hown); have UG : Hid (wz.ownsRow w2.heap.size 3 1 (.slice b' (k + 1) d') (k + 1) (cellsI ((l.map kidOf).take (k + 1)))) := (own_grown RU.out hgrow (fun kk e e2 => own_ne RU.out RW.out (by decide) kk e e2)); have U1 : Hid (wz.ownsRow w2.heap.size 109 2 (.slice (some ⟨w2.heap.size, 0, none⟩) 0 0) 0 (cellsP ([] : List PM))) := (own_grown R1.out hgrow (fun kk e e2 => own_ne R1.out RW.out (by decide) kk e e2)); have BG : Hid (Below w2.heap.size w2 wz) := (BA.out.grown hgrow BA.out.size (fun g e => (RLT.out g e).1)); have NH : Hid (∀ g, Value.ownBlock (.slice b2 (k + 1) d2) = some g → g ≠ (w2.heap.size + 1 + 1 + 1)) := (fun gg e => by rcases hnew with h9 | h9; (rw [h9] at e; exact hnu.out gg e); (have h8 := h9 gg e; have h7 := ZX.out; have h6 : (wq.alloc (.cells #[.string g] 9)).drew.heap.size = wq.heap.size + 1 := (by simp); omega)); clear hown hgrow hnew)
          all_goals go_wp2_with fail
          all_goals exact ⟨⟨k + 1, _, _, by omega, by go_num, BG.out.setCell (by dsimp only; omega) _, XG.out.set 2 _, own_setOther OG.out (fun e => NH.out _ e rfl) _, own_setOther UG.out (fun e => NG.out _ e rfl) _, NH.out, NG.out, own_setOther U1.out (fun e => (show ∀ g, Value.ownBlock (.slice (some ⟨w2.heap.size, 0, none⟩) 0 0) = some g → g ≠ (w2.heap.size + 1 + 1 + 1) from fun g e => by have e2 : some (w2.heap.size) = some g := e; injection e2 with e3; omega) _ e rfl) _, GN.out⟩, by simp [intOf]; omega⟩
    · have hkm : k = m := by omega
      have hki : ¬ (k : Int) < (m : Int) := by omega
      have EL : Hid ((l.map leastOf).length = k ∧ (l.map kidOf).length = k) := ⟨by rw [List.length_map, HM.out, hkm], by rw [List.length_map, HM.out, hkm]⟩
      have KP : Hid (0 < k) := by rw [hkm]; exact MP.out
      clear hkm
      have FO : Hid (OwnsN wr w2.heap.size wr.heap.size (.agg #[.bool false, .slice (some ⟨w2.heap.size, 0, none⟩) 0 0, .slice ua k uc, .slice va k vc]) ⟨false, [], l.map leastOf, l.map kidOf⟩) := by
        refine OwnsN.mk rfl h1.out ?_ ?_ (Nat.le_refl _)
        · show World.ownsRow _ _ _ _ _ (l.map leastOf).length _
          rw [EL.out.1]
          have h9 := ho.out
          rw [List.take_of_length_le (by rw [EL.out.1]; omega)] at h9
          exact h9
        · show World.ownsRow _ _ _ _ _ (l.map kidOf).length _
          rw [EL.out.2]
          have h9 := hp.out
          rw [List.take_of_length_le (by rw [EL.out.2]; omega)] at h9
          exact h9
      have F0 : Hid (nodeA (bodyB (bytesOf s)) = some ⟨false, [], l.map leastOf, l.map kidOf⟩) := by
        show _ = _
        rw [NL.out]
        unfold innerN
        rw [if_neg]
        rintro ⟨f, hf, h9⟩
        refine hg.out f ?_ h9
        rw [List.take_of_length_le (by rw [HM.out]; omega)]
        exact hf
      have SM : Hid (smallN ⟨false, [], l.map leastOf, l.map kidOf⟩) := nodeA_small (fun x hx => by rw [HB.out.1] at hx; exact HB.out.2 x hx) F0.out
      obtain ⟨ok, hok⟩ : ∃ b, okB ⟨false, [], l.map leastOf, l.map kidOf⟩ = b := ⟨_, rfl⟩
      have SOK : Hid (∀ w9, Below wr.heap.size wr w9 → Calls Tryz.prog 124 #[.agg #[.bool false, .slice (some ⟨w2.heap.size, 0, none⟩) 0 0, .slice ua k uc, .slice va k vc]] w9 fun e w' => e = .returned (.bool ok) ∧ Below w9.heap.size w9 w') := fun w9 hb9 => by
        have h9 := specNodeOK _ _ w9 SM.out (FO.out.reads.below hb9)
        rw [hok] at h9
        exact h9
      have HOK : Hid (okB ⟨false, [], l.map leastOf, l.map kidOf⟩ = ok) := hok
      clear hok
      have X9 : Hid (Box wr w.heap.size [.bool false, .slice none 0 0, .slice none 0 0, .slice none 0 0]) := X2.out.below hb.out
      obtain ⟨e0, _⟩ := hx.out 0 _ rfl
      obtain ⟨e1, _⟩ := hx.out 1 _ rfl
      obtain ⟨e2, _⟩ := hx.out 2 _ rfl
      obtain ⟨e3, _⟩ := hx.out 3 _ rfl
      go_wp2_with fail
      refine wp_region_noPanic ?_
      refine wp_region_held_drew (S := (fun w' => w'.cell? ⟨(w2.heap.size + 1 + 1 + 1), 0, none⟩ = some (.bool false) ∧ w'.cell? ⟨(w2.heap.size + 1 + 1 + 1), 1, none⟩ = some (.slice (some ⟨w2.heap.size, 0, none⟩) 0 0) ∧ w'.cell? ⟨(w2.heap.size + 1 + 1 + 1), 2, none⟩ = some (.slice ua k uc) ∧ w'.cell? ⟨(w2.heap.size + 1 + 1 + 1), 3, none⟩ = some (.slice va k vc))) (by kernel_rfl) ⟨e0, e1, e2, e3⟩ (fun hHeld => ?_)
      refine wpAnyH_take (i := 0) (v := .agg #[.bool false, .slice (some ⟨w2.heap.size, 0, none⟩) 0 0, .slice ua k uc, .slice va k vc]) rfl (by kernel_rfl) (by kernel_rfl) (by kernel_rfl) (fun _ _ _ h => h) (Or.inl ⟨by kernel_rfl, ?_⟩) hHeld ?_
      · intro w9 hSw
        obtain ⟨s0, s1, s2, s3⟩ := hSw
        go_simp
      simp only [Act.put, setIfInBounds_toArray, set_cons_zero, set_cons_succ]
      refine wpAnyH_take (i := 1) (v := .agg #[.bool false, .slice (some ⟨w2.heap.size, 0, none⟩) 0 0, .slice ua k uc, .slice va k vc]) rfl (by kernel_rfl) (by kernel_rfl) (by kernel_rfl) (fun _ _ _ h => h) (Or.inl ⟨by kernel_rfl, ?_⟩) hHeld ?_
      · intro w9 hSw
        obtain ⟨s0, s1, s2, s3⟩ := hSw
        go_simp
      simp only [Act.put, setIfInBounds_toArray, set_cons_zero, set_cons_succ]
      refine wpAnyH_ready (rs := [2]) (by kernel_rfl) (by simp) ?_
      refine AllReadyH.cons rfl (fun K hK => ?_) AllReadyH.nil
      go_simp
      refine (SOK.out _ ((Below.refl _ _).drew)).mono ?_
      rintro e w4 ⟨rfl, hb4⟩
      dsimp only
      have B4 : Hid (Below w.heap.size w w4) := BT.out.drew.trans (hb4.mono BT.out.size)
      have X4 : Hid (Box w4 w.heap.size [.bool false, .slice none 0 0, .slice none 0 0, .slice none 0 0]) := Box.below (w := wr.drew) X9.out hb4
      have Y4 : Hid (Box w4 (w2.heap.size + 1 + 1 + 1) [.bool false, .slice (some ⟨w2.heap.size, 0, none⟩) 0 0, .slice ua k uc, .slice va k vc]) := Box.below (w := wr.drew) hx.out hb4
      have O4 : Hid (OwnsN w4 w2.heap.size wr.heap.size (.agg #[.bool false, .slice (some ⟨w2.heap.size, 0, none⟩) 0 0, .slice ua k uc, .slice va k vc]) ⟨false, [], l.map leastOf, l.map kidOf⟩) := OwnsN.below (w := wr.drew) FO.out hb4
      clear hb4 e0 e1 e2 e3
      obtain ⟨e0, _⟩ := Y4.out 0 _ rfl
      obtain ⟨e1, _⟩ := Y4.out 1 _ rfl
      obtain ⟨e2, _⟩ := Y4.out 2 _ rfl
      obtain ⟨e3, _⟩ := Y4.out 3 _ rfl
      refine hK _ _ ⟨e0, e1, e2, e3⟩ (fun hHeld => ?_)
      clear hK K
      obtain ⟨p0, pf0⟩ := (X4.out) 0 _ rfl
      obtain ⟨p1, pf1⟩ := ((X4.out).set 0 (.bool false)) 1 _ rfl
      obtain ⟨p2, pf2⟩ := (((X4.out).set 0 (.bool false)).set 1 (.slice (some ⟨w2.heap.size, 0, none⟩) 0 0)) 2 _ rfl
      obtain ⟨p3, pf3⟩ := ((((X4.out).set 0 (.bool false)).set 1 (.slice (some ⟨w2.heap.size, 0, none⟩) 0 0)).set 2 (.slice ua k uc)) 3 _ rfl
      have X8 := ((((X4.out).set 0 (.bool false)).set 1 (.slice (some ⟨w2.heap.size, 0, none⟩) 0 0)).set 2 (.slice ua k uc)).set 3 (.slice va k vc)
      obtain ⟨r0, _⟩ := X8 0 _ rfl
      obtain ⟨r1, _⟩ := X8 1 _ rfl
      obtain ⟨r2, _⟩ := X8 2 _ rfl
      obtain ⟨r3, _⟩ := X8 3 _ rfl
      clear X8
      have YE : Hid (Box ((((w4.setCell ⟨w.heap.size, 0, none⟩ (.bool false)).setCell ⟨w.heap.size, 1, none⟩ (.slice (some ⟨w2.heap.size, 0, none⟩) 0 0)).setCell ⟨w.heap.size, 2, none⟩ (.slice ua k uc)).setCell ⟨w.heap.size, 3, none⟩ (.slice va k vc)) (w2.heap.size + 1 + 1 + 1) [.bool false, .slice (some ⟨w2.heap.size, 0, none⟩) 0 0, .slice ua k uc, .slice va k vc]) := ((((Y4.out.other _ (by have := Z2.out; (try dsimp only); omega) _).other _ (by have := Z2.out; (try dsimp only); omega) _).other _ (by have := Z2.out; (try dsimp only); omega) _).other _ (by have := Z2.out; (try dsimp only); omega) _)
      have BE : Hid (Below w.heap.size w ((((w4.setCell ⟨w.heap.size, 0, none⟩ (.bool false)).setCell ⟨w.heap.size, 1, none⟩ (.slice (some ⟨w2.heap.size, 0, none⟩) 0 0)).setCell ⟨w.heap.size, 2, none⟩ (.slice ua k uc)).setCell ⟨w.heap.size, 3, none⟩ (.slice va k vc))) := (((B4.out.setCell (Nat.le_refl _) _).setCell (Nat.le_refl _) _).setCell (Nat.le_refl _) _).setCell (Nat.le_refl _) _
      have OE : Hid (OwnsN ((((w4.setCell ⟨w.heap.size, 0, none⟩ (.bool false)).setCell ⟨w.heap.size, 1, none⟩ (.slice (some ⟨w2.heap.size, 0, none⟩) 0 0)).setCell ⟨w.heap.size, 2, none⟩ (.slice ua k uc)).setCell ⟨w.heap.size, 3, none⟩ (.slice va k vc)) w.heap.size ((((w4.setCell ⟨w.heap.size, 0, none⟩ (.bool false)).setCell ⟨w.heap.size, 1, none⟩ (.slice (some ⟨w2.heap.size, 0, none⟩) 0 0)).setCell ⟨w.heap.size, 2, none⟩ (.slice ua k uc)).setCell ⟨w.heap.size, 3, none⟩ (.slice va k vc)).heap.size (.agg #[.bool false, .slice (some ⟨w2.heap.size, 0, none⟩) 0 0, .slice ua k uc, .slice va k vc]) ⟨false, [], l.map leastOf, l.map kidOf⟩) := by
        obtain ⟨y1, y2, y3, e9, ⟨h1, _⟩, ⟨h2, _⟩, h3, _⟩ := O4.out
        refine ⟨y1, y2, y3, e9, ?_, ?_, ?_⟩
        all_goals refine (fun hh => ⟨hh, fun k e => (hh.lt k e).2⟩) ?_
        · refine own_mono (own_setLow (own_setLow (own_setLow (own_setLow h1 ?_ _) ?_ _) ?_ _) ?_ _) ?_ <;> (have := Z2.out; (try dsimp only); omega)
        · refine own_mono (own_setLow (own_setLow (own_setLow (own_setLow h2 ?_ _) ?_ _) ?_ _) ?_ _) ?_ <;> (have := Z2.out; (try dsimp only); omega)
        · refine own_mono (own_setLow (own_setLow (own_setLow (own_setLow h3 ?_ _) ?_ _) ?_ _) ?_ _) ?_ <;> (have := Z2.out; (try dsimp only); omega)
      refine wpAnyH_ready (rs := [3]) (by kernel_rfl) (by simp) ?_
      refine AllReadyH.cons rfl (fun K hK => ?_) AllReadyH.nil
      go_simp
      clear e0 e1 e2 e3
      obtain ⟨e0, _⟩ := YE.out 0 _ rfl
      obtain ⟨e1, _⟩ := YE.out 1 _ rfl
      obtain ⟨e2, _⟩ := YE.out 2 _ rfl
      obtain ⟨e3, _⟩ := YE.out 3 _ rfl
      refine hK _ _ ⟨e0, e1, e2, e3⟩ (fun hHeld => ?_)
      clear hK K
      refine wpAnyH_ready (rs := [4]) (by kernel_rfl) (by simp) ?_
      refine AllReadyH.cons rfl (fun K hK => ?_) AllReadyH.nil
      go_simp
      refine hK _ _ ⟨e0, e1, e2, e3⟩ (fun hHeld => ?_)
      clear hK K
      refine wpAnyH_done (by kernel_rfl) ?_ _
      refine NoPanic.normal ?_
      clear e0 e1 e2 e3 hHeld p0 p1 p2 p3 pf0 pf1 pf2 pf3
      cases ok with
      | false =>
        have F : Hid (nodeR (bytesOf s) = none) := nodeR_bad F0.out (.inr HOK.out)
        go_wp2_with fail
        exact bodyPost_ret (v := .tuple #[.agg #[.bool false, .slice (some ⟨w2.heap.size, 0, none⟩) 0 0, .slice ua k uc, .slice va k vc], .bool false]) (by simp [results, Tryz.results86, go_sem, r0, r1, r2, r3]) rfl ⟨.inl ⟨F.out, _, _, _, _, _, _, _, _, _, _, rfl⟩, BE.out⟩
      | true =>
        have F : Hid (nodeR (bytesOf s) = some ⟨false, [], l.map leastOf, l.map kidOf⟩) := nodeR_some SE.out F0.out (by unfold freeB; exact decide_eq_false (fun h9 => by have h8 := h9.2.2.1; have h7 := EL.out.1; have h6 := KP.out; simp only at h8; omega)) HOK.out
        go_wp2_with fail
        exact bodyPost_ret (v := .tuple #[.agg #[.bool false, .slice (some ⟨w2.heap.size, 0, none⟩) 0 0, .slice ua k uc, .slice va k vc], .bool true]) (by simp [results, Tryz.results86, go_sem, r0, r1, r2, r3]) rfl ⟨.inr ⟨_, _, F.out, rfl, OE.out⟩, BE.out⟩
end Go.Proofs.YtnnimocaanofjaaGreatDoor
