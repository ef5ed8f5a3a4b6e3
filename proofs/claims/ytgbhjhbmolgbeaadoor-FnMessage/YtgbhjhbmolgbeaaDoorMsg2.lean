
/-
  Messages: whether the parts fit, and the text, of the program and of the specification. By an AI agent.
-/
import Derived.Test.YtgbhjhbmolgbeaaDoorMsg1
import Derived.Deep.QuietTactic
import Derived.BigQuiet
namespace Go.Proofs.YtgbhjhbmolgbeaaDoor
open Go.ChangeShapes Go.WideShapes Go.ChangeAt Go.RowKit Go.Deep
set_option linter.unusedVariables false

theorem ret_str {a b : ByteArray} (h : a = b) : Ending.returned (.string a) = .returned (.string b) := by rw [h]
theorem fl_drop (L : List MFl) (k : Nat) (h : k < L.length) : (L.drop k).all fldB = (fldB (L.getD k fl0) && (L.drop (k + 1)).all fldB) := by
  rw [List.drop_eq_getElem_cons h, List.all_cons, List.getD_eq_getElem?_getD, List.getElem?_eq_getElem h]
  rfl
theorem fl_end (L : List MFl) (k : Nat) (h : L.length ≤ k) : (L.drop k).all fldB = true := by
  rw [List.drop_of_length_le h]; rfl
theorem fl_mem (L : List MFl) (k : Nat) (h : k < L.length) : L.getD k fl0 ∈ L := by
  rw [List.getD_eq_getElem?_getD, List.getElem?_eq_getElem h]; exact List.getElem_mem _

set_option maxHeartbeats 1000000 in
theorem fitsI (a : Option Addr) (n c : Nat) (L : List MFl) (body : ByteArray) (w : World) (hL : L.length = n) (hn : n ≤ maxLen) (hs : ∀ x ∈ L, x.1.size ≤ maxLen ∧ x.2.size ≤ maxLen) (hb : body.size ≤ maxLen) (h : Src w a (cellsFl L)) :
    Calls Tryd.prog 35 #[.agg #[.slice a n c, .string body]] w fun e w' => e = .returned (.bool (fitsB L body)) ∧ Below w.heap.size w w' := by
  unfold maxLen at hn hb
  by_cases h8 : 8 < n
  · have HF : Hid (fitsB L body = false) := by show _ = _; unfold fitsB; rw [decide_eq_false (by omega)]; rfl
    clear h hL hs
    go_enter Tryd.func35, Tryd.ntmps35
    go_wp2_with fail
    go_ret
    exact ⟨ret_bool HF.out.symm, (Below.refl _ _).alloc (Nat.le_refl _) _⟩
  have h8' : decide (8 < (n : Int)) = false := decide_eq_false (by omega)
  by_cases h85 : 85 < body.size
  · have HF : Hid (fitsB L body = false) := by show _ = _; unfold fitsB; rw [decide_eq_false (show ¬ body.size ≤ 85 by omega)]; simp
    clear h hL hs
    go_enter Tryd.func35, Tryd.ntmps35
    go_wp2_with fail
    go_ret
    exact ⟨ret_bool HF.out.symm, (Below.refl _ _).alloc (Nat.le_refl _) _⟩
  have h85' : decide (85 < (body.size : Int)) = false := decide_eq_false (by omega)
  have HW : Hid (fitsB L body = (L.drop 0).all fldB) := by show _ = _; unfold fitsB; rw [decide_eq_true (show L.length ≤ 8 by omega), decide_eq_true (show body.size ≤ 85 by omega)]; rfl
  have HH : Hid (Src w a (cellsFl L)) := h
  have HL : Hid (L.length = n) := hL
  have HS : Hid (∀ x ∈ L, x.1.size ≤ maxLen ∧ x.2.size ≤ maxLen) := hs
  clear h hL hs
  go_enter Tryd.func35, Tryd.ntmps35
  go_wp2_with fail
  go_loopw [18] (fun i wr => ∃ k : Nat, k ≤ n ∧ i = .int .i64 k ∧ Hid (fitsB L body = (L.drop k).all fldB) ∧ Hid (Below w.heap.size w wr)) (fun i _ => n - (intOf i).toNat)
  case atStart => exact ⟨0, by omega, rfl, HW, (Below.refl _ _).alloc (Nat.le_refl _) _⟩
  case round =>
    obtain ⟨k, hk, rfl, hr, hb⟩ := hrel
    by_cases hlt : k < n
    · have hkL : k < L.length := by rw [HL.out]; exact hlt
      obtain ⟨b, o, x0, x1, rfl, hc0, hc1, hy⟩ := srcFl (HH.out.below hb.out) hkL
      have HM := HS.out _ (fl_mem L k hkL)
      rw [hy.out] at HM
      have HZ : Hid (x0.size ≤ maxLen ∧ x1.size ≤ maxLen) := HM
      have HD := fl_drop L k hkL
      rw [hy.out] at HD
      have HE : Hid (fitsB L body = (fldB (x0, x1) && (L.drop (k + 1)).all fldB)) := by show _ = _; rw [hr.out, HD]
      clear hkL HM HD
      cases hN : nameB x0 with
      | false =>
        have HF : Hid (fitsB L body = false) := by show _ = _; rw [HE.out]; simp [fldB, hN]
        have HC : ∀ w, Calls Tryd.prog 60 #[.string x0] w fun e w' => e = .returned (.bool false) ∧ w = w' := fun w => by rw [← hN]; exact nameFitsI x0 w HZ.out.1
        clear hN
        go_wp2_with (go_at_call 60; refine (HC _).mono ?_; rintro e w' ⟨rfl, rfl⟩)
        go_ret
        exact ⟨ret_bool HF.out.symm, hb.out.alloc (hb.out.size) _⟩
      | true =>
        have HC : ∀ w, Calls Tryd.prog 60 #[.string x0] w fun e w' => e = .returned (.bool true) ∧ w = w' := fun w => by rw [← hN]; exact nameFitsI x0 w HZ.out.1
        obtain ⟨v, hv⟩ : ∃ v, (decide (x1.size ≤ 85) && valB x1) = v := ⟨_, rfl⟩
        have HV : ∀ w, Calls Tryd.prog 61 #[.string x1] w fun e w' => e = .returned (.bool v) ∧ ∃ n, w' = w.drewN n := fun w => by rw [← hv]; exact valueFitsI x1 w HZ.out.2
        have HF : Hid (fitsB L body = (v && (L.drop (k + 1)).all fldB)) := by show _ = _; rw [HE.out]; simp [fldB, hN, hv]
        clear hN hv
        cases v with
        | false =>
          go_wp2_with (first | (go_at_call 60; refine (HC _).mono ?_; rintro e w' ⟨rfl, rfl⟩) | (go_at_call 61; refine (HV _).mono ?_; rintro e w' ⟨rfl, m, rfl⟩))
          go_ret
          exact ⟨ret_bool (by rw [HF.out]; rfl), Below.drewN' (hb.out.alloc (hb.out.size) _) _⟩
        | true =>
          go_wp2_with (first | (go_at_call 60; refine (HC _).mono ?_; rintro e w' ⟨rfl, rfl⟩) | (go_at_call 61; refine (HV _).mono ?_; rintro e w' ⟨rfl, m, rfl⟩))
          exact ⟨⟨k + 1, by omega, by go_num, by show _ = _; rw [HF.out]; rfl, Below.drewN' (hb.out.alloc (hb.out.size) _) _⟩, by simp [intOf]; omega⟩
    · have HF : Hid (fitsB L body = true) := by show _ = _; rw [hr.out, fl_end L k (by rw [HL.out]; omega)]
      go_wp2_with fail
      go_ret
      exact ⟨ret_bool HF.out.symm, hb.out⟩

theorem fitsB_facts {L : List MFl} {body : ByteArray} (h : fitsB L body = true) : L.length ≤ 8 ∧ body.size ≤ 85 ∧ L.all fldB = true := by
  unfold fitsB at h
  simp only [Bool.and_eq_true, decide_eq_true_eq] at h
  exact ⟨h.1.1, h.1.2, h.2⟩
theorem all_take {L : List MFl} (h : L.all fldB = true) (k : Nat) : (L.take k).all fldB = true := by
  rw [List.all_eq_true] at h ⊢
  exact fun x hx => h x (List.mem_of_mem_take hx)
theorem fl_sizes {L : List MFl} (h : L.all fldB = true) {k : Nat} (hk : k < L.length) : (L.getD k fl0).1.size ≤ 12 ∧ (L.getD k fl0).2.size ≤ 85 := by
  rw [List.all_eq_true] at h
  have h1 := h _ (fl_mem L k hk)
  unfold fldB nameB at h1
  simp only [Bool.and_eq_true, decide_eq_true_eq] at h1
  exact ⟨h1.1.1.2, h1.2.1⟩

set_option maxHeartbeats 1000000 in
theorem implMessageText (a : Option Addr) (n c : Nat) (L : List MFl) (body : ByteArray) (w : World) (hL : L.length = n) (hn : n ≤ maxLen) (hs : ∀ x ∈ L, x.1.size ≤ maxLen ∧ x.2.size ≤ maxLen) (hb : body.size ≤ maxLen) (h : Src w a (cellsFl L)) :
    Calls Tryd.prog 10 #[.agg #[.slice a n c, .string body]] w fun e w' => e = .returned (.tuple #[.string (textA L body).1, .int .i64 (textA L body).2]) ∧ Below w.heap.size w w' := by
  obtain ⟨T, C, hT⟩ : ∃ T C, textA L body = (T, C) := ⟨_, _, rfl⟩
  rw [hT]
  have HC : ∀ w, Src w a (cellsFl L) → Calls Tryd.prog 35 #[.agg #[.slice a n c, .string body]] w fun e w' => e = .returned (.bool (fitsB L body)) ∧ Below w.heap.size w w' := fun w h => fitsI a n c L body w hL hn hs hb h
  have HH : Hid (Src w a (cellsFl L)) := h
  have HL : Hid (L.length = n) := hL
  clear h hs hb hL hn
  cases hf : fitsB L body with
  | false =>
    obtain ⟨rfl, rfl⟩ : (⟨#[]⟩ : ByteArray) = T ∧ (1 : Int) = C := by
      unfold textA at hT; rw [hf] at hT; simpa using hT
    rw [hf] at HC
    clear hf hT
    go_enter Tryd.func10, Tryd.ntmps10
    go_wp2_with (go_at_call 35; refine (HC _ (HH.out.below ((Below.refl _ _).alloc (Nat.le_refl _) _))).mono ?_; rintro e w1 ⟨rfl, hb1⟩)
    go_ret2
    exact ⟨rfl, Below.new hb1⟩
  | true =>
    rw [hf] at HC
    obtain ⟨hn8, hb85, hall⟩ := fitsB_facts hf
    have HT : Hid ((let t := headT L ++ (⟨#[10]⟩ ++ body); if t.size ≤ 85 then (t, (0 : Int)) else (⟨#[]⟩, 7)) = (T, C)) := by
      show _ = _; unfold textA at hT; rw [hf] at hT; simpa using hT
    have HA : Hid (L.all fldB = true) := hall
    have hn8' : n ≤ 8 := by rw [← HL.out]; exact hn8
    clear hf hT hall hn8
    go_enter Tryd.func10, Tryd.ntmps10
    go_wp2_with (go_at_call 35; refine (HC _ (HH.out.below ((Below.refl _ _).alloc (Nat.le_refl _) _))).mono ?_; rintro e w1 ⟨rfl, hb1⟩; have hz1 := size_new hb1; have BX := (Box.new (w := w) (vs := #[.slice a n c, .string body]) (t := 25) rfl).below hb1; have bx0 := (BX 0 _ rfl).1; have bx1 := (BX 1 _ rfl).1)
    have HB1 : Hid (Below w.heap.size w w1) := Below.new hb1
    have HX : Hid (Box w1 w.heap.size [.slice a n c, .string body]) := BX
    clear BX hb1 bx0 bx1
    go_loopw [4, 13] (fun t i wr => ∃ (k : Nat) (x : ByteArray), k ≤ n ∧ t = .string x ∧ i = .int .i64 k ∧ x.size ≤ 100 * k ∧ Hid (x = headT (L.take k)) ∧ Hid (Below w1.heap.size w1 wr)) (fun _ i _ => n - (intOf i).toNat)
    case atStart => exact ⟨0, ⟨#[]⟩, by omega, rfl, rfl, by show 0 ≤ _; omega, rfl, Below.refl _ _⟩
    case round =>
      obtain ⟨k, x, hk, rfl, rfl, hx, hxe, hbr⟩ := hrel
      by_cases hlt : k < n
      · have hkL : k < L.length := by rw [HL.out]; exact hlt
        obtain ⟨b, o, x0, x1, rfl, hc0, hc1, hy⟩ := srcFl ((HH.out.below HB1.out).below hbr.out) hkL
        have HZ := fl_sizes HA.out hkL
        have HS := headT_size _ (all_take HA.out (k + 1))
        have HE := headT_take L k hkL
        rw [hy.out] at HZ HE
        obtain ⟨hz0, hz1'⟩ := HZ
        simp only at hz0 hz1'
        have HN : Hid (x ++ (((x0 ++ ⟨#[58, 32]⟩) ++ x1) ++ ⟨#[10]⟩) = headT (L.take (k + 1))) := by show _ = _; rw [HE, hxe.out]; rfl
        rw [← HN.out] at HS
        have HS' : Hid ((x ++ (((x0 ++ ⟨#[58, 32]⟩) ++ x1) ++ ⟨#[10]⟩)).size ≤ 100 * (k + 1)) := by show _ ≤ _; simp only [List.length_take] at HS; omega
        clear HE HS hkL
        go_wp2_with fail
        exact ⟨⟨k + 1, _, by omega, rfl, by go_num, HS'.out, HN.out, hbr.out.alloc hbr.out.size _⟩, by simp [intOf]; omega⟩
      · have hkn : k = n := by omega
        have hxL : x = headT L := by rw [hxe.out, hkn, ← HL.out, List.take_of_length_le (Nat.le_refl _)]
        have hz : (x ++ (⟨#[10]⟩ ++ body)).size = x.size + (1 + body.size) := by rw [size_app, size_app]; rfl
        have bx1 := ((HX.out.below hbr.out) 1 _ rfl).1
        have HB : Hid (Below w.heap.size w wr) := HB1.out.trans (hbr.out.mono (by omega))
        have HT' := HT.out
        rw [← hxL] at HT'
        clear hkn hxL hxe HT
        by_cases hq : x.size + (1 + body.size) ≤ 85
        · obtain ⟨rfl, rfl⟩ : x ++ (⟨#[10]⟩ ++ body) = T ∧ (0 : Int) = C := by
            simp only [hz, if_pos hq] at HT'; simpa using HT'
          clear HT'
          have HZ : Hid ((x ++ (⟨#[10]⟩ ++ body)).size = x.size + (1 + body.size)) := hz
          have hz2 : decide (85 < ((x ++ (⟨#[10]⟩ ++ body)).size : Int)) = false := decide_eq_false (by rw [hz]; omega)
          clear hz
          go_wp2_with fail
          go_ret2
          exact ⟨rfl, HB.out⟩
        · obtain ⟨rfl, rfl⟩ : (⟨#[]⟩ : ByteArray) = T ∧ (7 : Int) = C := by
            simp only [hz, if_neg hq] at HT'; simpa using HT'
          clear HT' hz
          have hz2 : decide (85 < (x.size : Int) + (1 + (body.size : Int))) = true := decide_eq_true (by omega)
          go_wp2_with fail
          go_ret2
          exact ⟨rfl, HB.out⟩

set_option maxHeartbeats 1000000 in
theorem l08TextS (a : Option Addr) (n c : Nat) (L : List MFl) (body : ByteArray) (w : World) (hL : L.length = n) (hf : fitsB L body = true) (h : Src w a (cellsFl L)) :
    Calls Tryd.prog 38 #[.agg #[.slice a n c, .string body]] w fun e w' => e = .returned (.string (headT L ++ (⟨#[10]⟩ ++ body))) ∧ Below w.heap.size w w' := by
  obtain ⟨hn8, hb85, hall⟩ := fitsB_facts hf
  have HA : Hid (L.all fldB = true) := hall
  have HH : Hid (Src w a (cellsFl L)) := h
  have HL : Hid (L.length = n) := hL
  have hn8' : n ≤ 8 := by omega
  clear h hL hall hf hn8
  have HR : Hid (headT L ++ (⟨#[10]⟩ ++ body) = (headT L ++ ⟨#[10]⟩) ++ body) := ByteArray.append_assoc.symm
  go_enter Tryd.func38, Tryd.ntmps38
  go_wp2_with fail
  go_loopw [3, 4] (fun t i wr => ∃ (k : Nat) (x : ByteArray), k ≤ n ∧ t = .string x ∧ i = .int .i64 k ∧ x.size ≤ 100 * k ∧ Hid (x = headT (L.take k)) ∧ Hid (Below w.heap.size w wr) ∧ Hid (Box wr w.heap.size [.slice a n c, .string body])) (fun _ i _ => n - (intOf i).toNat)
  case atStart => exact ⟨0, ⟨#[]⟩, by omega, rfl, rfl, by show 0 ≤ _; omega, rfl, (Below.refl _ _).alloc (Nat.le_refl _) _, Box.new (vs := #[.slice a n c, .string body]) rfl⟩
  case round =>
    obtain ⟨k, x, hk, rfl, rfl, hx, hxe, hbr, hbx⟩ := hrel
    have bx0 := (hbx.out 0 _ rfl).1
    have bx1 := (hbx.out 1 _ rfl).1
    by_cases hlt : k < n
    · have hkL : k < L.length := by rw [HL.out]; exact hlt
      obtain ⟨b, o, x0, x1, rfl, hc0, hc1, hy⟩ := srcFl (HH.out.below hbr.out) hkL
      have HZ := fl_sizes HA.out hkL
      have HS := headT_size _ (all_take HA.out (k + 1))
      have HE := headT_take L k hkL
      rw [hy.out] at HZ HE
      obtain ⟨hz0, hz1'⟩ := HZ
      simp only at hz0 hz1'
      have HN : Hid (x ++ (((x0 ++ ⟨#[58, 32]⟩) ++ x1) ++ ⟨#[10]⟩) = headT (L.take (k + 1))) := by show _ = _; rw [HE, hxe.out]; rfl
      rw [← HN.out] at HS
      have HS' : Hid ((x ++ (((x0 ++ ⟨#[58, 32]⟩) ++ x1) ++ ⟨#[10]⟩)).size ≤ 100 * (k + 1)) := by show _ ≤ _; simp only [List.length_take] at HS; omega
      clear HE HS hkL
      go_wp2_with fail
      go_quiet (fail)
      all_goals
        go_wp2_with fail
        exact ⟨⟨k + 1, _, by omega, rfl, by go_num, HS'.out, HN.out, Below.drewN' hbr.out _, hbx.out⟩, by simp [intOf]; omega⟩
    · have hkn : k = n := by omega
      have hxL : Hid (x = headT L) := by show _ = _; rw [hxe.out, hkn, ← HL.out, List.take_of_length_le (Nat.le_refl _)]
      clear hkn hxe
      go_wp2_with fail
      go_ret
      exact ⟨ret_str (by rw [HR.out, ← hxL.out]), hbr.out⟩

set_option maxHeartbeats 1000000 in
theorem specMessageText (a : Option Addr) (n c : Nat) (L : List MFl) (body : ByteArray) (w : World) (hL : L.length = n) (hn : n ≤ maxLen) (hs : ∀ x ∈ L, x.1.size ≤ maxLen ∧ x.2.size ≤ maxLen) (hb : body.size ≤ maxLen) (h : Src w a (cellsFl L)) :
    Calls Tryd.prog 11 #[.agg #[.slice a n c, .string body]] w fun e w' => e = .returned (.tuple #[.string (textA L body).1, .int .i64 (textA L body).2]) ∧ Below w.heap.size w w' := by
  unfold maxLen at hn hb
  obtain ⟨T, C, hT⟩ : ∃ T C, textA L body = (T, C) := ⟨_, _, rfl⟩
  rw [hT]
  have HBAD : Hid (fitsB L body = false → (⟨#[]⟩ : ByteArray) = T ∧ (1 : Int) = C) := by
    show _ → _; intro hf; unfold textA at hT; rw [hf] at hT; simpa using hT
  have HTX : Hid (fitsB L body = true → (let t := headT L ++ (⟨#[10]⟩ ++ body); if t.size ≤ 85 then (t, (0 : Int)) else (⟨#[]⟩, 7)) = (T, C)) := by
    show _ → _; intro hf; unfold textA at hT; rw [hf] at hT; simpa using hT
  clear hT
  by_cases h8 : 8 < n
  · have HF : fitsB L body = false := by unfold fitsB; rw [decide_eq_false (by omega)]; rfl
    obtain ⟨rfl, rfl⟩ := HBAD.out HF
    clear h hL hs HF HTX
    go_enter Tryd.func11, Tryd.ntmps11
    go_wp2_with fail
    go_ret2
    exact ⟨rfl, (Below.refl _ _).alloc (Nat.le_refl _) _⟩
  have h8' : decide (8 < (n : Int)) = false := decide_eq_false (by omega)
  by_cases h85 : 85 < body.size
  · have HF : fitsB L body = false := by unfold fitsB; rw [decide_eq_false (show ¬ body.size ≤ 85 by omega)]; simp
    obtain ⟨rfl, rfl⟩ := HBAD.out HF
    clear h hL hs HF HTX
    go_enter Tryd.func11, Tryd.ntmps11
    go_wp2_with fail
    go_ret2
    exact ⟨rfl, (Below.refl _ _).alloc (Nat.le_refl _) _⟩
  have h85' : decide (85 < (body.size : Int)) = false := decide_eq_false (by omega)
  have HW : Hid (fitsB L body = (L.drop 0).all fldB) := by show _ = _; unfold fitsB; rw [decide_eq_true (show L.length ≤ 8 by omega), decide_eq_true (show body.size ≤ 85 by omega)]; rfl
  have HH : Hid (Src w a (cellsFl L)) := h
  have HL : Hid (L.length = n) := hL
  have HS : Hid (∀ x ∈ L, x.1.size ≤ maxLen ∧ x.2.size ≤ maxLen) := hs
  clear h hL hs
  go_enter Tryd.func11, Tryd.ntmps11
  go_wp2_with fail
  go_loopw [4] (fun i wr => ∃ k : Nat, k ≤ n ∧ i = .int .i64 k ∧ Hid (fitsB L body = (L.drop k).all fldB) ∧ Hid (Below w.heap.size w wr) ∧ Hid (Box wr w.heap.size [.slice a n c, .string body])) (fun i _ => n - (intOf i).toNat)
  case atStart => exact ⟨0, by omega, rfl, HW, (Below.refl _ _).alloc (Nat.le_refl _) _, Box.new (vs := #[.slice a n c, .string body]) rfl⟩
  case round =>
    obtain ⟨k, hk, rfl, hr, hb, hbx⟩ := hrel
    have bx0 := (hbx.out 0 _ rfl).1
    have bx1 := (hbx.out 1 _ rfl).1
    by_cases hlt : k < n
    · have hkL : k < L.length := by rw [HL.out]; exact hlt
      obtain ⟨b, o, x0, x1, rfl, hc0, hc1, hy⟩ := srcFl (HH.out.below hb.out) hkL
      have HM := HS.out _ (fl_mem L k hkL)
      rw [hy.out] at HM
      have HZ : Hid (x0.size ≤ maxLen ∧ x1.size ≤ maxLen) := HM
      have hzz := HM.2
      unfold maxLen at hzz
      simp only at hzz
      have HD := fl_drop L k hkL
      rw [hy.out] at HD
      have HE : Hid (fitsB L body = (fldB (x0, x1) && (L.drop (k + 1)).all fldB)) := by show _ = _; rw [hr.out, HD]
      clear hkL HM HD
      cases hN : nameB x0 with
      | false =>
        have HF : fitsB L body = false := by rw [HE.out]; simp [fldB, hN]
        obtain ⟨rfl, rfl⟩ := HBAD.out HF
        have HC : ∀ w, Calls Tryd.prog 36 #[.string x0] w fun e w' => e = .returned (.bool false) ∧ w = w' := fun w => by rw [← hN]; exact l08NameS x0 w HZ.out.1
        clear hN HF
        go_wp2_with (go_at_call 36; refine (HC _).mono ?_; rintro e w' ⟨rfl, rfl⟩)
        go_ret2
        exact ⟨rfl, hb.out⟩
      | true =>
        have HC : ∀ w, Calls Tryd.prog 36 #[.string x0] w fun e w' => e = .returned (.bool true) ∧ w = w' := fun w => by rw [← hN]; exact l08NameS x0 w HZ.out.1
        by_cases h85v : 85 < x1.size
        · have HF : fitsB L body = false := by rw [HE.out]; simp [fldB, hN]; intro h; omega
          obtain ⟨rfl, rfl⟩ := HBAD.out HF
          have hd : decide (85 < (x1.size : Int)) = true := decide_eq_true (by omega)
          clear hN HF
          go_wp2_with (go_at_call 36; refine (HC _).mono ?_; rintro e w' ⟨rfl, rfl⟩)
          go_ret2
          exact ⟨rfl, hb.out⟩
        have hd : decide (85 < (x1.size : Int)) = false := decide_eq_false (by omega)
        obtain ⟨v, hv⟩ : ∃ v, valB x1 = v := ⟨_, rfl⟩
        have HV : ∀ w, Calls Tryd.prog 37 #[.string x1] w fun e w' => e = .returned (.bool v) ∧ w = w' := fun w => by rw [← hv]; exact l08ValueS x1 w HZ.out.2
        have HF : Hid (fitsB L body = (v && (L.drop (k + 1)).all fldB)) := by show _ = _; rw [HE.out]; simp [fldB, hN, hv, show x1.size ≤ 85 by omega]
        clear hN hv
        cases v with
        | false =>
          obtain ⟨rfl, rfl⟩ := HBAD.out (by rw [HF.out]; rfl)
          go_wp2_with (first | (go_at_call 36; refine (HC _).mono ?_; rintro e w' ⟨rfl, rfl⟩) | (go_at_call 37; refine (HV _).mono ?_; rintro e w' ⟨rfl, rfl⟩))
          go_ret2
          exact ⟨rfl, hb.out⟩
        | true =>
          go_wp2_with (first | (go_at_call 36; refine (HC _).mono ?_; rintro e w' ⟨rfl, rfl⟩) | (go_at_call 37; refine (HV _).mono ?_; rintro e w' ⟨rfl, rfl⟩))
          exact ⟨⟨k + 1, by omega, by go_num, by show _ = _; rw [HF.out]; rfl, hb.out, hbx⟩, by simp [intOf]; omega⟩
    · have hF : fitsB L body = true := by rw [hr.out, fl_end L k (by rw [HL.out]; omega)]
      have HC : ∀ w, Src w a (cellsFl L) → Calls Tryd.prog 38 #[.agg #[.slice a n c, .string body]] w fun e w' => e = .returned (.string (headT L ++ (⟨#[10]⟩ ++ body))) ∧ Below w.heap.size w w' := fun w h => l08TextS a n c L body w HL.out hF h
      have HT' := HTX.out hF
      have hsz := headT_size L (fitsB_facts hF).2.2
      have hl8 := (fitsB_facts hF).1
      obtain ⟨x, hx⟩ : ∃ x, headT L ++ (⟨#[10]⟩ ++ body) = x := ⟨_, rfl⟩
      have hxs : x.size ≤ 2000 := by
        rw [← hx, size_app, size_app]
        have : (⟨#[10]⟩ : ByteArray).size = 1 := rfl
        omega
      rw [hx] at HT'
      simp only [hx] at HC
      clear hF hr hx hsz hl8 HTX HBAD
      by_cases hq : x.size ≤ 85
      · obtain ⟨rfl, rfl⟩ : x = T ∧ (0 : Int) = C := by simp only [if_pos hq] at HT'; simpa using HT'
        have hd : decide (85 < (x.size : Int)) = false := decide_eq_false (by omega)
        clear HT'
        go_wp2_with (go_at_call 38; refine (HC _ (HH.out.below hb.out)).mono ?_; rintro e w1 ⟨rfl, hb1⟩)
        go_ret2
        exact ⟨rfl, hb.out.trans (hb1.mono hb.out.size)⟩
      · obtain ⟨rfl, rfl⟩ : (⟨#[]⟩ : ByteArray) = T ∧ (7 : Int) = C := by simp only [if_neg hq] at HT'; simpa using HT'
        have hd : decide (85 < (x.size : Int)) = true := decide_eq_true (by omega)
        clear HT'
        go_wp2_with (go_at_call 38; refine (HC _ (HH.out.below hb.out)).mono ?_; rintro e w1 ⟨rfl, hb1⟩)
        go_ret2
        exact ⟨rfl, hb.out.trans (hb1.mono hb.out.size)⟩
end Go.Proofs.YtgbhjhbmolgbeaaDoor
