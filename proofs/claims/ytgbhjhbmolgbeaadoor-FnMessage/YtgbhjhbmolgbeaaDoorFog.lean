
/-
  FieldOf, of the program and of the specification. By an AI agent.
-/
import Derived.Test.YtgbhjhbmolgbeaaDoorFof
namespace Go.Proofs.YtgbhjhbmolgbeaaDoor
open Go.ChangeShapes Go.WideShapes Go.ChangeAt Go.RowKit Go.Deep
set_option linter.unusedVariables false
set_option maxRecDepth 100000

theorem parS_names : ∀ (n : Nat) (l : List UInt8) (acc : List MFl) (D : GM), (∀ f ∈ acc, f.1.size ≤ 100000) → parS n l acc = some D → ∀ f ∈ D.F, f.1.size ≤ 100000
  | 0, l, acc, D, _, h => by simp [parS] at h
  | n + 1, l, acc, D, ha, h => by
    unfold parS at h
    split at h
    · cases h
    · split at h
      · split at h
        · cases h; exact ha
        · cases h
      · split at h
        · cases h
        · rename_i f hf
          refine parS_names n _ _ D (fun g hg => ?_) h
          rcases List.mem_append.1 hg with h9 | h9
          · exact ha g h9
          · simp at h9
            subst h9
            unfold fieldS at hf
            split at hf
            · rename_i hc
              have h8 := hc.2.2.1
              cases hf
              unfold nameB at h8
              simp only [Bool.and_eq_true, decide_eq_true_eq] at h8
              have := h8.1.2
              simp only
              omega
            · cases hf
theorem parse_names {l : List UInt8} {D : GM} (h : parse l = some D) : ∀ f ∈ D.F, f.1.size ≤ 100000 := parS_names _ _ _ D (fun f hf => by cases hf) h
theorem msgA_names (l : List UInt8) : ∀ f ∈ (msgA l).1.F, f.1.size ≤ 100000 := by
  unfold msgA msgL
  split
  · intro f hf; cases hf
  · split
    · intro f hf; cases hf
    · cases h : parse l with
      | none => intro f hf; cases hf
      | some D => exact parse_names h
def fofA (l : List UInt8) (nm : ByteArray) : ByteArray × Int :=
  if 65536 < nm.size then (⟨#[]⟩, 2) else if (msgA l).2 = 0 then (match findF (msgA l).1.F nm with
    | some f => (f.2, 0)
    | none => (⟨#[]⟩, 5)) else (⟨#[]⟩, (msgA l).2)

set_option maxHeartbeats 1000000 in
theorem implFieldOf (l : List UInt8) (nm : ByteArray) (w : World) (hl : l.length ≤ 1048576) (hnm : nm.size ≤ 1048576) (hm : MaxAt w) :
    Calls Tryd.prog 14 #[.string (bsOf l), .string nm] w fun e w' => e = .returned (.tuple #[.string (fofA l nm).1, .int .i64 (fofA l nm).2]) ∧ Below w.heap.size w w' := by
  obtain ⟨V, C, hA⟩ : ∃ V C, fofA l nm = (V, C) := ⟨_, _, rfl⟩
  rw [hA]
  have HP := implParseMessage l w hl hm
  have HNM := msgA_names l
  unfold fofA at hA
  obtain ⟨s, hs⟩ : ∃ s, bsOf l = s := ⟨_, rfl⟩
  obtain ⟨D, C1, hD⟩ : ∃ D C1, msgA l = (D, C1) := ⟨_, _, rfl⟩
  rw [hs, hD] at HP
  rw [hD] at hA HNM
  rw [hs]
  have HM : Hid (∀ f ∈ D.F, f.1.size ≤ 100000) := HNM
  clear hs hD hm HNM hl
  by_cases h1 : 65536 < nm.size
  · rw [if_pos h1] at hA
    obtain ⟨rfl, rfl⟩ : (⟨#[]⟩ : ByteArray) = V ∧ (2 : Int) = C := by simpa using hA
    clear hA HP
    go_enter Tryd.func14, Tryd.ntmps14
    go_wp2_with fail
    go_ret2
    exact ⟨rfl, Below.refl _ _⟩
  rw [if_neg h1] at hA
  by_cases h2 : C1 = 0
  · subst h2
    rw [if_pos rfl] at hA
    simp only at hA
    obtain ⟨o, ho⟩ : ∃ o, findF D.F nm = o := ⟨_, rfl⟩
    rw [ho] at hA
    have HO : Hid (findF D.F nm = o) := ho
    clear ho
    cases o with
    | some f =>
      obtain ⟨rfl, rfl⟩ : f.2 = V ∧ (0 : Int) = C := by simpa using hA
      clear hA
      go_enter Tryd.func14, Tryd.ntmps14
      go_wp2_with fail
      refine HP.mono ?_
      rintro e w1 ⟨v1, rfl, ow1, hf1, hb1⟩
      obtain ⟨a1, c1, rfl, s1⟩ := ow1.reads
      have HC := fun W (h : Src W a1 (cellsFl D.F)) => fieldI a1 D.F.length c1 D.F D.Y nm W rfl hf1 HM.out (by omega) h
      simp only [HO.out] at HC
      obtain ⟨n, hn⟩ : ∃ n, D.F.length = n := ⟨_, rfl⟩
      obtain ⟨Y, hY⟩ : ∃ Y, D.Y = Y := ⟨_, rfl⟩
      simp only [hn, hY] at HC ⊢
      have S1 : Hid (Src w1 a1 (cellsFl D.F)) := s1
      have B1 : Hid (Below w.heap.size w w1) := hb1
      clear hn hY s1 hb1 ow1 hf1
      have HC' : ∀ W, Src W a1 (cellsFl D.F) → Calls Tryd.prog 40 #[.agg #[.slice a1 n c1, .string Y], .string nm] W fun e w' => e = .returned (.tuple #[.agg #[.string f.1, .string f.2], .bool true]) ∧ Below W.heap.size W w' := HC
      clear HC
      go_wp2_with (go_at_call 40; refine (HC' _ (S1.out.below ((Below.refl _ _).alloc (Nat.le_refl _) _))).mono ?_; rintro e w2 ⟨rfl, hb2⟩)
      go_ret2
      exact ⟨rfl, (B1.out.trans ((Below.new hb2).mono B1.out.size)).alloc (by have := B1.out.size; have := size_new hb2; omega) _⟩
    | none =>
      obtain ⟨rfl, rfl⟩ : (⟨#[]⟩ : ByteArray) = V ∧ (5 : Int) = C := by simpa using hA
      clear hA
      go_enter Tryd.func14, Tryd.ntmps14
      go_wp2_with fail
      refine HP.mono ?_
      rintro e w1 ⟨v1, rfl, ow1, hf1, hb1⟩
      obtain ⟨a1, c1, rfl, s1⟩ := ow1.reads
      have HC := fun W (h : Src W a1 (cellsFl D.F)) => fieldI a1 D.F.length c1 D.F D.Y nm W rfl hf1 HM.out (by omega) h
      simp only [HO.out] at HC
      obtain ⟨n, hn⟩ : ∃ n, D.F.length = n := ⟨_, rfl⟩
      obtain ⟨Y, hY⟩ : ∃ Y, D.Y = Y := ⟨_, rfl⟩
      simp only [hn, hY] at HC ⊢
      have S1 : Hid (Src w1 a1 (cellsFl D.F)) := s1
      have B1 : Hid (Below w.heap.size w w1) := hb1
      clear hn hY s1 hb1 ow1 hf1
      have HC' : ∀ W, Src W a1 (cellsFl D.F) → Calls Tryd.prog 40 #[.agg #[.slice a1 n c1, .string Y], .string nm] W fun e w' => e = .returned (.tuple #[.agg #[.string ⟨#[]⟩, .string ⟨#[]⟩], .bool false]) ∧ Below W.heap.size W w' := HC
      clear HC
      go_wp2_with (go_at_call 40; refine (HC' _ (S1.out.below ((Below.refl _ _).alloc (Nat.le_refl _) _))).mono ?_; rintro e w2 ⟨rfl, hb2⟩)
      go_ret2
      exact ⟨rfl, (B1.out.trans ((Below.new hb2).mono B1.out.size)).alloc (by have := B1.out.size; have := size_new hb2; omega) _⟩
  · rw [if_neg h2] at hA
    obtain ⟨rfl, rfl⟩ : (⟨#[]⟩ : ByteArray) = V ∧ C1 = C := by simpa using hA
    have h2' : (C1 != 0) = true := by rw [bne_iff_ne]; exact h2
    clear hA h2
    go_enter Tryd.func14, Tryd.ntmps14
    go_wp2_with (go_at_call 12; refine HP.mono ?_; rintro e w1 ⟨v1, rfl, ow1, hf1, hb1⟩; obtain ⟨a1, c1, rfl⟩ := ow1.lit)
    go_ret2
    exact ⟨rfl, hb1.alloc hb1.size _⟩

theorem msgA_eq (l : List UInt8) (h : l.length ≤ 65536) : msgA l = if l.length ≤ 85 ∧ (parse l).isSome = true then ((parse l).getD G0, 0) else (G0, 3) := by
  unfold msgA msgL
  rw [if_neg (by omega)]
  by_cases h2 : 85 < l.length
  · rw [if_pos h2, if_neg (fun h => by omega)]
  · rw [if_neg h2]
    cases h3 : parse l with
    | none => rw [if_neg (fun h => by simp at h)]
    | some D => rw [if_pos ⟨by omega, rfl⟩]; rfl

set_option maxHeartbeats 1000000 in
theorem specFieldOf (l : List UInt8) (nm : ByteArray) (w : World) (hl : l.length ≤ 1048576) (hnm : nm.size ≤ 1048576) :
    Calls Tryd.prog 15 #[.string (bsOf l), .string nm] w fun e w' => e = .returned (.tuple #[.string (fofA l nm).1, .int .i64 (fofA l nm).2]) ∧ Below w.heap.size w w' := by
  obtain ⟨V, C, hA⟩ : ∃ V C, fofA l nm = (V, C) := ⟨_, _, rfl⟩
  rw [hA]
  obtain ⟨s, hs⟩ : ∃ s, bsOf l = s := ⟨_, rfl⟩
  have hsz : s.size = l.length := by rw [← hs, bsOf_size]
  unfold fofA at hA
  rw [hs]
  by_cases hT : 65536 < l.length
  · obtain ⟨rfl, rfl⟩ : (⟨#[]⟩ : ByteArray) = V ∧ (2 : Int) = C := by
      have h9 : msgA l = (G0, 2) := by unfold msgA; rw [if_pos hT]
      rw [h9] at hA
      by_cases h1 : 65536 < nm.size
      · rw [if_pos h1] at hA; simpa using hA
      · rw [if_neg h1] at hA; simpa using hA
    have hT' : 65536 < s.size := by omega
    have hT2 : s.size ≤ 1048576 := by omega
    clear hA hs hsz hT hl
    go_enter Tryd.func15, Tryd.ntmps15
    go_wp2_with fail
    go_ret2
    exact ⟨rfl, Below.refl _ _⟩
  have hT' : decide (65536 < (s.size : Int)) = false := decide_eq_false (by omega)
  by_cases h1 : 65536 < nm.size
  · rw [if_pos h1] at hA
    obtain ⟨rfl, rfl⟩ : (⟨#[]⟩ : ByteArray) = V ∧ (2 : Int) = C := by simpa using hA
    have hsb : s.size ≤ 65536 := by omega
    clear hA hs hsz hT hl
    go_enter Tryd.func15, Tryd.ntmps15
    go_wp2_with fail
    go_ret2
    exact ⟨rfl, Below.refl _ _⟩
  have h1' : decide (65536 < (nm.size : Int)) = false := decide_eq_false (by omega)
  rw [if_neg h1] at hA
  have hM := msgA_eq l (by omega)
  have HP : ∀ w, Calls Tryd.prog 41 #[.string s] w fun e w' => ParPost (parse l) w e w' := fun w => by rw [← hs]; exact l08ParseS l w (by omega)
  have hsb : s.size ≤ 65536 := by omega
  rw [← hsz] at hM
  obtain ⟨o, ho⟩ : ∃ o, parse l = o := ⟨_, rfl⟩
  have HNM : Hid (∀ D, o = some D → ∀ f ∈ D.F, f.1.size ≤ 100000) := by
    show ∀ D, _ → _; intro D hD; exact parse_names (ho.trans hD)
  rw [ho] at hM HP
  obtain ⟨MA, hMA⟩ : ∃ M, msgA l = M := ⟨_, rfl⟩
  rw [hMA] at hM hA
  clear hs hsz hT hl ho hMA
  cases o with
  | none =>
    obtain ⟨rfl, rfl⟩ : (⟨#[]⟩ : ByteArray) = V ∧ (3 : Int) = C := by
      rw [if_neg (fun h => by simp at h)] at hM; rw [hM] at hA; simpa using hA
    have HP' : ∀ w, Calls Tryd.prog 41 #[.string s] w fun e w' => ∃ (v : Value) (D : GM), e = .returned (.tuple #[v, .bool false]) ∧ OwnsG w' w.heap.size w'.heap.size v D ∧ Below w.heap.size w w' := fun w => by
      refine (HP w).mono ?_
      rintro e w' ⟨v, D, rfl, _, h3, _, h5⟩
      exact ⟨v, D, rfl, h3, h5⟩
    clear hA HP HNM hM
    go_enter Tryd.func15, Tryd.ntmps15
    go_wp2_with (go_at_call 41; refine (HP' _).mono ?_; rintro e w1 ⟨v1, D1, rfl, ow1, hb1⟩; obtain ⟨a1, c1, rfl⟩ := ow1.lit)
    go_ret2
    exact ⟨rfl, hb1.alloc hb1.size _⟩
  | some D =>
    have HP' : ∀ w, Calls Tryd.prog 41 #[.string s] w fun e w' => ∃ (v : Value), e = .returned (.tuple #[v, .bool true]) ∧ OwnsG w' w.heap.size w'.heap.size v D ∧ D.F.length ≤ 100000 ∧ Below w.heap.size w w' := fun w => by
      refine (HP w).mono ?_
      rintro e w' ⟨v, D', rfl, hx, h3, h4, h5⟩
      obtain rfl := hx D rfl
      exact ⟨v, rfl, h3, h4, h5⟩
    have HM : Hid (∀ f ∈ D.F, f.1.size ≤ 100000) := HNM.out D rfl
    clear HP HNM
    by_cases h85 : 85 < s.size
    · obtain ⟨rfl, rfl⟩ : (⟨#[]⟩ : ByteArray) = V ∧ (3 : Int) = C := by
        rw [if_neg (fun h => by omega)] at hM; rw [hM] at hA; simpa using hA
      have hd : decide (85 < (s.size : Int)) = true := decide_eq_true (by omega)
      clear hA hM
      go_enter Tryd.func15, Tryd.ntmps15
      go_wp2_with (go_at_call 41; refine (HP' _).mono ?_; rintro e w1 ⟨v1, rfl, ow1, hf1, hb1⟩; obtain ⟨a1, c1, rfl⟩ := ow1.lit)
      go_ret2
      exact ⟨rfl, hb1.alloc hb1.size _⟩
    have hd : decide (85 < (s.size : Int)) = false := decide_eq_false (by omega)
    rw [if_pos ⟨by omega, rfl⟩] at hM
    subst hM
    simp only [Option.getD_some, if_true] at hA
    obtain ⟨x, f, hxf⟩ : ∃ x f, fldS (findF D.F nm) = (x, f) := ⟨_, _, rfl⟩
    have HVC : Hid (f = true ∧ V = x ∧ C = 0 ∨ f = false ∧ V = ⟨#[]⟩ ∧ C = 5) := by
      cases hq : findF D.F nm with
      | some g =>
        rw [hq] at hA hxf
        simp only [fldS, Prod.mk.injEq] at hA hxf
        exact .inl ⟨hxf.2.symm, by rw [← hA.1, hxf.1], hA.2.symm⟩
      | none =>
        rw [hq] at hA hxf
        simp only [fldS, Prod.mk.injEq] at hA hxf
        exact .inr ⟨hxf.2.symm, hA.1.symm, hA.2.symm⟩
    have HF : Hid (fldS (findF D.F nm) = (x, f)) := hxf
    clear hA hxf
    go_enter Tryd.func15, Tryd.ntmps15
    go_wp2_with fail
    refine (HP' _).mono ?_
    rintro e w1 ⟨v1, rfl, ow1, hf1, hb1⟩
    obtain ⟨a1, c1, rfl, s1⟩ := ow1.reads
    have HC := fun W (h : Src W a1 (cellsFl D.F)) => l08FieldS a1 D.F.length c1 D.F D.Y nm W rfl hf1 HM.out (by omega) h
    simp only [HF.out] at HC
    obtain ⟨n, hn⟩ : ∃ n, D.F.length = n := ⟨_, rfl⟩
    obtain ⟨Y, hY⟩ : ∃ Y, D.Y = Y := ⟨_, rfl⟩
    simp only [hn, hY] at HC ⊢
    have S1 : Hid (Src w1 a1 (cellsFl D.F)) := s1
    have B1 : Hid (Below w.heap.size w w1) := hb1
    clear hn hY s1 hb1 ow1 hf1
    rcases HVC.out with ⟨rfl, rfl, rfl⟩ | ⟨rfl, rfl, rfl⟩
    · go_wp2_with (go_at_call 42; refine (HC _ (S1.out.below ((Below.refl _ _).alloc (Nat.le_refl _) _))).mono ?_; rintro e w2 ⟨rfl, hb2⟩)
      go_ret2
      exact ⟨rfl, B1.out.trans ((Below.new hb2).mono B1.out.size)⟩
    · go_wp2_with (go_at_call 42; refine (HC _ (S1.out.below ((Below.refl _ _).alloc (Nat.le_refl _) _))).mono ?_; rintro e w2 ⟨rfl, hb2⟩)
      go_ret2
      exact ⟨rfl, B1.out.trans ((Below.new hb2).mono B1.out.size)⟩
end Go.Proofs.YtgbhjhbmolgbeaaDoor
