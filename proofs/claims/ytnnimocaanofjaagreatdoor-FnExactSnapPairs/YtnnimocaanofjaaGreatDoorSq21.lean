/-
  Texts of the store, brought together: Rss. By an AI agent.
-/
import Derived.Test.YtnnimocaanofjaaGreatDoorSq19
import Derived.Test.YtnnimocaanofjaaGreatDoorSq20
namespace Go.Proofs.YtnnimocaanofjaaGreatDoor
open Go.ChangeShapes Go.WideShapes Go.ChangeAt Go.RowKit Go.Deep
set_option linter.unusedVariables false
set_option linter.unusedSimpArgs false
set_option maxRecDepth 100000
open List (setIfInBounds_toArray set_cons_zero set_cons_succ)
def superR (B : List Nat) : Option UM := if sealedB B = true then (match superA (bodyB B) with
  | none => none
  | some D => if okU D = true then some D else none) else none
theorem superR_open {B : List Nat} (h : sealedB B = false) : superR B = none := by unfold superR; rw [h]; rfl
theorem superR_none {B : List Nat} (h : superA (bodyB B) = none) : superR B = none := by unfold superR; rw [h]; split <;> rfl
theorem superR_bad {B : List Nat} {D : UM} (h : superA (bodyB B) = some D) (ho : okU D = false) : superR B = none := by unfold superR; rw [h]; simp [ho]
theorem superR_some {B : List Nat} {D : UM} (hs : sealedB B = true) (h : superA (bodyB B) = some D) (ho : okU D = true) : superR B = some D := by unfold superR; rw [h]; simp [ho, hs]
theorem superA_short {B : List Nat} (h : B.length < 4) : superA B = none := by
  unfold superA
  by_cases h1 : B.length < 3 ∨ B.getD 0 0 ≠ 115
  · rw [if_pos h1]
  · rw [if_neg h1]
    have e : B.drop 3 = [] := List.drop_of_length_le (by omega)
    rw [e]
    rfl
theorem rfA_of {B : List Nat} (hl : B.length ≤ 65536) : rfA B = match rdA B with | none => ([], 3) | some l => (l, 0) := rfA_rdA B (by omega)
theorem rd_sizes : ∀ {B : List Nat} {k p : Nat} {l : List ByteArray}, rdSt B k = some (l, p) → ∀ f ∈ l, f.size ≤ 300
  | B, 0, p, l, h => by simp [rdSt] at h; rw [h.1]; intro f hf; cases hf
  | B, k + 1, p, l, h => by
    cases hk : rdSt B k with
    | none => simp [rdSt, hk] at h
    | some lp =>
      obtain ⟨l', p'⟩ := lp
      have ih := rd_sizes hk
      simp [rdSt, hk] at h
      obtain ⟨_, h2, _, h1, _⟩ := h
      rw [← h1]
      intro f hf
      rw [List.mem_append] at hf
      rcases hf with hf | hf
      · exact ih f hf
      · simp at hf
        rw [hf]
        unfold sub
        rw [strB_size, List.length_take]
        omega
theorem rf_sizes {B : List Nat} {R : List ByteArray} {q : Int} (h : rfA B = (R, q)) : ∀ f ∈ R, f.size ≤ 300 := by
  unfold rfA at h
  by_cases h1 : 65536 < B.length
  · rw [if_pos h1] at h; cases h; intro f hf; cases hf
  rw [if_neg h1] at h
  cases hc : cutA B with
  | none => rw [hc] at h; cases h; intro f hf; cases hf
  | some lp =>
    obtain ⟨l, p⟩ := lp
    rw [hc] at h
    unfold cutA at hc
    by_cases h3 : B.length = 0 ∨ 200 < B.getD 0 0
    · rw [if_pos h3] at hc; cases hc
    rw [if_neg h3] at hc
    have hl := rd_sizes hc
    change (if p = B.length then (l, (0 : Int)) else ([], 3)) = (R, q) at h
    by_cases h2 : p = B.length
    · rw [if_pos h2] at h; cases h; exact hl
    · rw [if_neg h2] at h; cases h; intro f hf; cases hf
theorem num_two (f : ByteArray) (h : 3 ≤ f.size) : numOf (bytesOf (f.extract 1 3)) = (bytesOf f).getD 1 0 * 256 + (bytesOf f).getD 2 0 := by
  rw [bytes_extract, show 3 - 1 = 2 from rfl, take_two (bytesOf f) 1 (by rw [bytesOf_length]; omega)]
  simp [numOf]
set_option maxHeartbeats 2000000 in
theorem l04Read (s : ByteArray) (w : World) (hs : s.size ≤ 65536) :
    Calls Tryz.prog 79 #[.string s] w fun e w' => ((superR (bytesOf s) = none ∧ ∃ g r a k c, e = .returned (.tuple #[.agg #[.int .i64 g, .int .i64 r, .slice a k c], .bool false])) ∨ (∃ D u, superR (bytesOf s) = some D ∧ e = .returned (.tuple #[u, .bool true]) ∧ OwnsU w' w.heap.size w'.heap.size u D)) ∧ Below w.heap.size w w' := by
  have A0 : Hid (Below w.heap.size w (w.alloc (.cells #[.int .i64 0, .int .i64 0, .slice none 0 0] 42))) := (Below.refl _ _).alloc (Nat.le_refl _) _
  go_enter Tryz.func79, Tryz.ntmps79
  go_wp2_with fail
  refine (l03Unseal s _ hs).mono ?_
  rintro e w1 ⟨⟨t, rfl, ht⟩, hb1⟩
  have B1 : Hid (Below w.heap.size w w1) := Below.new hb1
  have X1 : Hid (Box w1 w.heap.size [.int .i64 0, .int .i64 0, .slice none 0 0]) := Box.below (Box.new rfl) hb1
  have Z1 : Hid (w.heap.size + 1 ≤ w1.heap.size) := size_new hb1
  clear hb1
  obtain ⟨p0, f0⟩ := X1.out 0 _ rfl
  obtain ⟨p1, f1⟩ := (X1.out.set 0 (.int .i64 0)) 1 _ rfl
  obtain ⟨p2, f2⟩ := ((X1.out.set 0 (.int .i64 0)).set 1 (.int .i64 0)) 2 _ rfl
  have X3 := ((X1.out.set 0 (.int .i64 0)).set 1 (.int .i64 0)).set 2 (.slice none 0 0)
  obtain ⟨r0, _⟩ := X3 0 _ rfl
  obtain ⟨r1, _⟩ := X3 1 _ rfl
  obtain ⟨r2, _⟩ := X3 2 _ rfl
  clear X3
  have B3 : Hid (Below w.heap.size w (((w1.setCell ⟨w.heap.size, 0, none⟩ (.int .i64 0)).setCell ⟨w.heap.size, 1, none⟩ (.int .i64 0)).setCell ⟨w.heap.size, 2, none⟩ (.slice none 0 0))) := ((B1.out.setCell (Nat.le_refl _) _).setCell (Nat.le_refl _) _).setCell (Nat.le_refl _) _
  obtain ⟨ok, hok⟩ : ∃ b, sealedB (bytesOf s) = b := ⟨_, rfl⟩
  rw [hok] at ht ⊢
  cases ok with
  | false =>
    have F : Hid (superR (bytesOf s) = none) := superR_open hok
    clear ht hok
    go_wp2_with fail
    exact bodyPost_ret (v := .tuple #[.agg #[.int .i64 0, .int .i64 0, .slice none 0 0], .bool false]) (by simp [results, Tryz.results79, go_sem, r0, r1, r2]) rfl ⟨.inl ⟨F.out, _, _, _, _, _, rfl⟩, B3.out⟩
  | true =>
  have htt := ht rfl
  have SE : Hid (sealedB (bytesOf s) = true) := hok
  obtain ⟨B, hB⟩ : ∃ B, bodyB (bytesOf s) = B := ⟨_, rfl⟩
  rw [hB] at htt
  have hB8 : ∀ x ∈ B, x < 256 := by rw [← hB]; exact fun x hx => bytes_lt s x (List.mem_of_mem_take hx)
  have HB : Hid (bodyB (bytesOf s) = B) := hB
  have BT : Hid (bytesOf t = B) := by show _ = _; rw [htt, bytes_strB B hB8]
  obtain ⟨k, hk⟩ : ∃ k, t.size = k := ⟨_, rfl⟩
  have KB : Hid (B.length = k) := by show _ = _; rw [← BT.out, bytesOf_length, hk]
  have hk9 : k ≤ 65536 := by
    rw [← KB.out, ← hB]
    unfold bodyB
    rw [List.length_take, bytesOf_length]
    omega
  clear ht hok htt hB
  by_cases t1 : (k : Int) < 4
  · have F : Hid (superR (bytesOf s) = none) := superR_none (by rw [HB.out]; exact superA_short (by rw [KB.out]; omega))
    go_wp2_with fail
    exact bodyPost_ret (v := .tuple #[.agg #[.int .i64 0, .int .i64 0, .slice none 0 0], .bool false]) (by simp [results, Tryz.results79, go_sem, r0, r1, r2]) rfl ⟨.inl ⟨F.out, _, _, _, _, _, rfl⟩, B3.out⟩
  obtain ⟨x0, hx0⟩ : ∃ x, (t[0]'(by omega)).toNat = x := ⟨_, rfl⟩
  obtain ⟨x1, hx1⟩ : ∃ x, (t[1]'(by omega)).toNat = x := ⟨_, rfl⟩
  obtain ⟨x2, hx2⟩ : ∃ x, (t[2]'(by omega)).toNat = x := ⟨_, rfl⟩
  have hx08 : x0 < 256 := by rw [← hx0]; exact UInt8.toNat_lt _
  have hx18 : x1 < 256 := by rw [← hx1]; exact UInt8.toNat_lt _
  have hx28 : x2 < 256 := by rw [← hx2]; exact UInt8.toNat_lt _
  have HX : Hid (B.getD 0 0 = x0 ∧ B.getD 1 0 = x1 ∧ B.getD 2 0 = x2) := ⟨by rw [← BT.out, bytesOf_get t 0 (by omega), hx0], by rw [← BT.out, bytesOf_get t 1 (by omega), hx1], by rw [← BT.out, bytesOf_get t 2 (by omega), hx2]⟩
  have hk0 : 0 < k := by omega
  have hk1 : (1 : Int) < (k : Int) := by omega
  have hk2 : (2 : Int) < (k : Int) := by omega
  by_cases t2 : x0 = 115
  case neg =>
    have F : Hid (superR (bytesOf s) = none) := superR_none (by rw [HB.out]; unfold superA; rw [if_pos (Or.inr (by rw [HX.out.1]; exact t2))])
    have t3 : ((x0 : Int) != 115) = true := by simp; omega
    go_wp2_with fail
    exact bodyPost_ret (v := .tuple #[.agg #[.int .i64 0, .int .i64 0, .slice none 0 0], .bool false]) (by simp [results, Tryz.results79, go_sem, r0, r1, r2]) rfl ⟨.inl ⟨F.out, _, _, _, _, _, rfl⟩, B3.out⟩
  subst t2
  have NF : Hid (¬ (B.length < 3 ∨ B.getD 0 0 ≠ 115)) := by show ¬ _; rw [HX.out.1, KB.out]; omega
  have cut3 : ∀ W, (Instr.slice 9 (.string t) (some (.int .i64 3)) none none).run Tryz.prog W = .ok (.string (t.extract 3 k)) W := fun W => by
    have h9 := run_slice_string_l (P := Tryz.prog) W 9 t Tryz.underlying9 .i64 3 (by omega) (by omega)
    rw [hk] at h9
    exact h9
  obtain ⟨t3, ht3⟩ : ∃ g, t.extract 3 k = g := ⟨_, rfl⟩
  have D3 : Hid (bytesOf t3 = B.drop 3 ∧ t3.size ≤ 65536) := by
    refine ⟨?_, ?_⟩
    · rw [← ht3, bytes_extract, BT.out, List.take_of_length_le (by rw [List.length_drop, KB.out]; exact Nat.le_refl _)]
    · rw [← ht3, ByteArray.size_extract]; omega
  rw [ht3] at cut3
  clear ht3
  go_wp2_with fail
  refine (l01Read t3 _ (by have := D3.out.2; omega)).mono ?_
  clear cut3
  rintro e w2 (⟨hrd, v2, rfl, o2, hb2⟩ | ⟨l, v2, hrd, rfl, o2, hb2⟩)
  · have F : Hid (superR (bytesOf s) = none) := superR_none (by
      rw [HB.out]
      unfold superA
      rw [if_neg NF.out, rfA_of (by rw [List.length_drop, KB.out]; omega), ← D3.out.1, hrd]
      rfl)
    have X2 := X1.out.below hb2
    obtain ⟨p0, f0⟩ := X2 0 _ rfl
    obtain ⟨p1, f1⟩ := (X2.set 0 (.int .i64 0)) 1 _ rfl
    obtain ⟨p2, f2⟩ := ((X2.set 0 (.int .i64 0)).set 1 (.int .i64 0)) 2 _ rfl
    have X3 := ((X2.set 0 (.int .i64 0)).set 1 (.int .i64 0)).set 2 (.slice none 0 0)
    obtain ⟨r0, _⟩ := X3 0 _ rfl
    obtain ⟨r1, _⟩ := X3 1 _ rfl
    obtain ⟨r2, _⟩ := X3 2 _ rfl
    clear X3 X2 B3
    have B2 : Hid (Below w.heap.size w w2) := B1.out.trans (hb2.mono (by have := Z1.out; omega))
    have B3 : Hid (Below w.heap.size w (((w2.setCell ⟨w.heap.size, 0, none⟩ (.int .i64 0)).setCell ⟨w.heap.size, 1, none⟩ (.int .i64 0)).setCell ⟨w.heap.size, 2, none⟩ (.slice none 0 0))) := ((B2.out.setCell (Nat.le_refl _) _).setCell (Nat.le_refl _) _).setCell (Nat.le_refl _) _
    clear hrd hb2 o2
    go_wp2_with fail
    exact bodyPost_ret (v := .tuple #[.agg #[.int .i64 0, .int .i64 0, .slice none 0 0], .bool false]) (by simp [results, Tryz.results79, go_sem, r0, r1, r2]) rfl ⟨.inl ⟨F.out, _, _, _, _, _, rfl⟩, B3.out⟩
  obtain ⟨la, lc, rfl, ls, _⟩ := own_src o2
  have RF : Hid (rfA (B.drop 3) = (l, 0)) := by
    show _ = _
    rw [rfA_of (by rw [List.length_drop, KB.out]; omega), ← D3.out.1, hrd]
  obtain ⟨m, hm⟩ : ∃ m, l.length = m := ⟨_, rfl⟩
  have HM : Hid (l.length = m) := hm
  have hm9 : m ≤ 1048576 := by rw [← hm]; exact rf_small RF.out
  have B2 : Hid (Below w.heap.size w w2) := B1.out.trans (hb2.mono (by have := Z1.out; omega))
  have X2 : Hid (Box w2 w.heap.size [.int .i64 0, .int .i64 0, .slice none 0 0]) := X1.out.below hb2
  have Z2 : Hid (w.heap.size + 1 ≤ w2.heap.size) := by have := Z1.out; have := hb2.size; show _ ≤ _; omega
  have S2 : Hid (Src w2 la (cellsS l)) := ls
  rw [hm]
  clear hm hrd o2 hb2 ls p0 p1 p2 f0 f1 f2 r0 r1 r2 B3 X1 B1 Z1
  go_wp2_with fail
  go_region
  · go_wp2_with fail
    have BW : Hid (Below w2.heap.size w2 ((w2.alloc (.cells #[] 122)).alloc (.cells #[.int .i64 (x1 : Int), .int .i64 ((x2 : Int) - 1), .slice (some ⟨w2.heap.size, 0, none⟩) 0 0] 42)).drew) := (((Below.refl _ _).alloc (Nat.le_refl _) _).alloc (by simp) _).drew
    have XW : Hid (Box ((w2.alloc (.cells #[] 122)).alloc (.cells #[.int .i64 (x1 : Int), .int .i64 ((x2 : Int) - 1), .slice (some ⟨w2.heap.size, 0, none⟩) 0 0] 42)).drew (w2.heap.size + 1) [.int .i64 (x1 : Int), .int .i64 ((x2 : Int) - 1), .slice (some ⟨w2.heap.size, 0, none⟩) 0 0]) := Box.new (w := w2.alloc (.cells #[] 122)) (by simp)
    have OW : Hid (World.ownsRow ((w2.alloc (.cells #[] 122)).alloc (.cells #[.int .i64 (x1 : Int), .int .i64 ((x2 : Int) - 1), .slice (some ⟨w2.heap.size, 0, none⟩) 0 0] 42)).drew w2.heap.size 122 3 (.slice (some ⟨w2.heap.size, 0, none⟩) 0 0) 0 (cellsSn ([] : List SN))) := (own_empty (w := w2) rfl (Nat.le_refl _)).alloc _
    have NW : Hid (∀ g, Value.ownBlock (.slice (some ⟨w2.heap.size, 0, none⟩) 0 0) = some g → g ≠ w2.heap.size + 1) := fun g e => by have e2 : some (w2.heap.size) = some g := e; injection e2 with e3; omega
    have ZW : Hid (w2.heap.size ≤ w2.heap.size + 1) := by show _ ≤ _; omega
    obtain ⟨W0, hW0⟩ : ∃ W, ((w2.alloc (.cells #[] 122)).alloc (.cells #[.int .i64 (x1 : Int), .int .i64 ((x2 : Int) - 1), .slice (some ⟨w2.heap.size, 0, none⟩) 0 0] 42)).drew = W := ⟨_, rfl⟩
    rw [hW0] at BW XW OW ⊢
    clear hW0
    obtain ⟨u0, hu0⟩ : ∃ u, Value.slice (some ⟨w2.heap.size, 0, none⟩) 0 0 = u := ⟨_, rfl⟩
    rw [hu0] at XW OW NW
    clear hu0
    obtain ⟨Bs, hBs⟩ : ∃ b, w2.heap.size + 1 = b := ⟨_, rfl⟩
    rw [hBs] at XW NW ZW ⊢
    clear hBs
    go_loopw [9] (fun iv wr => ∃ (k : Nat) (u : Value), k ≤ m ∧ iv = .int .i64 (k : Int) ∧ Hid (Below w2.heap.size w2 wr) ∧ Hid (Box wr Bs [.int .i64 (x1 : Int), .int .i64 ((x2 : Int) - 1), u]) ∧ Hid (wr.ownsRow w2.heap.size 122 3 u k (cellsSn ((l.map snapOf).take k))) ∧ Hid (∀ g, Value.ownBlock u = some g → g ≠ Bs) ∧ Hid (∀ f ∈ l.take k, ¬ f.size < 3)) (fun i _ => m - (intOf i).toNat)
    case atStart => exact ⟨0, _, by omega, rfl, BW.out, XW.out, OW.out, NW.out, fun f hf => by simp at hf⟩
    case round =>
      clear BW XW OW NW
      obtain ⟨k, u, hk, rfl, hb, hx, ho, hn, hg⟩ := hrel
      obtain ⟨ua, uc, rfl, _, _⟩ := own_src ho.out
      have BT : Hid (Below w.heap.size w wr) := B2.out.trans (hb.out.mono (by have := Z2.out; omega))
      by_cases hlt : k < m
      · have hki : (k : Int) < (m : Int) := by omega
        have hk00 : (0 : Int) ≤ (k : Int) := by omega
        obtain ⟨lb, lo, f, rfl, fc, hf⟩ := srcS (S2.out.below hb.out) (i := k) (by rw [HM.out]; exact hlt)
        have EC : Hid (∀ w9, Below w2.heap.size w2 w9 → w9.cell? ⟨lb, lo + k, none⟩ = some (.string f)) := fun w9 hb9 => by
          obtain ⟨lb', lo', y', e', yc', hy'⟩ := srcS (S2.out.below hb9) (i := k) (by rw [HM.out]; exact hlt)
          cases e'
          rw [yc', ← hy'.out, hf.out]
        have HF : Hid (l[k]? = some f) := by
          show _ = _
          have h9 := hf.out
          rw [List.getD_eq_getElem?_getD, List.getElem?_eq_getElem (by rw [HM.out]; exact hlt)] at h9
          rw [List.getElem?_eq_getElem (by rw [HM.out]; exact hlt)]
          exact congrArg some h9
        by_cases t4 : (f.size : Int) < 3
        · have F : Hid (superR (bytesOf s) = none) := superR_none (by
            rw [HB.out]
            unfold superA
            rw [if_neg NF.out, RF.out, if_neg (by simp), if_pos ⟨f, List.mem_of_getElem? HF.out, by omega⟩])
          have X9 : Box wr w.heap.size [.int .i64 0, .int .i64 0, .slice none 0 0] := X2.out.below hb.out
          obtain ⟨p0, f0⟩ := X9 0 _ rfl
          obtain ⟨p1, f1⟩ := (X9.set 0 (.int .i64 0)) 1 _ rfl
          obtain ⟨p2, f2⟩ := ((X9.set 0 (.int .i64 0)).set 1 (.int .i64 0)) 2 _ rfl
          have X3 := ((X9.set 0 (.int .i64 0)).set 1 (.int .i64 0)).set 2 (.slice none 0 0)
          obtain ⟨r0, _⟩ := X3 0 _ rfl
          obtain ⟨r1, _⟩ := X3 1 _ rfl
          obtain ⟨r2, _⟩ := X3 2 _ rfl
          clear X3 X9
          have B3 : Hid (Below w.heap.size w (((wr.setCell ⟨w.heap.size, 0, none⟩ (.int .i64 0)).setCell ⟨w.heap.size, 1, none⟩ (.int .i64 0)).setCell ⟨w.heap.size, 2, none⟩ (.slice none 0 0))) := ((BT.out.setCell (Nat.le_refl _) _).setCell (Nat.le_refl _) _).setCell (Nat.le_refl _) _
          clear hn EC
          go_wp2_with fail
          exact bodyPost_ret (v := .tuple #[.agg #[.int .i64 0, .int .i64 0, .slice none 0 0], .bool false]) (by simp [results, Tryz.results79, go_sem, r0, r1, r2]) rfl ⟨.inl ⟨F.out, _, _, _, _, _, rfl⟩, B3.out⟩
        obtain ⟨y0, hy0⟩ : ∃ y, (f[0]'(by omega)).toNat = y := ⟨_, rfl⟩
        have hy08 : y0 < 256 := by rw [← hy0]; exact UInt8.toNat_lt _
        obtain ⟨tk, htk⟩ : ∃ x : Nat, (bytesOf f).getD 1 0 * 256 + (bytesOf f).getD 2 0 = x := ⟨_, rfl⟩
        have cut3 : ∀ W, (Instr.slice 9 (.string f) (some (.int .i64 3)) none none).run Tryz.prog W = .ok (.string (f.extract 3 f.size)) W := fun W => by
          have h9 := run_slice_string_l (P := Tryz.prog) W 9 f Tryz.underlying9 .i64 3 (by omega) (by omega)
          exact h9
        have cut13 : ∀ W, (Instr.slice 9 (.string f) (some (.int .i64 1)) (some (.int .i64 3)) none).run Tryz.prog W = .ok (.string (f.extract 1 3)) W := fun W => cut_text W f 1 3 1 3 (by omega) (by omega) rfl rfl
        obtain ⟨g, hg3⟩ : ∃ g, f.extract 3 f.size = g := ⟨_, rfl⟩
        obtain ⟨h, hh3⟩ : ∃ h, f.extract 1 3 = h := ⟨_, rfl⟩
        have SN0 : Hid (snapOf f = (g, (y0 : Int) - 1, (tk : Int))) := by
          show _ = _
          unfold snapOf
          rw [bytesOf_get f 0 (by omega), hy0, htk, hg3]
        have LOF : Hid (∀ w9, Calls Tryz.prog 122 #[.string h] w9 fun e w' => e = .returned (.int .i64 ((tk : Nat) : Int)) ∧ w' = w9) := fun w9 => by
          have h8 := l01Of h w9 (by rw [← hh3, ByteArray.size_extract]; omega)
          rw [← hh3, num_two f (by omega), htk, hh3] at h8
          exact h8
        rw [hg3] at cut3
        rw [hh3] at cut13
        clear htk hg3 hh3
        have hf0 : 0 < f.size := by omega
        have hwr1 : IntKind.i64.wrap (y0 : Int) = (y0 : Int) := by rw [IntKind.wrap_i64]; omega
        have hwr2 : IntKind.i64.wrap ((y0 : Int) - 1) = (y0 : Int) - 1 := by rw [IntKind.wrap_i64]; omega
        have NX : Hid ((l.map snapOf).take (k + 1) = (l.map snapOf).take k ++ [(g, (y0 : Int) - 1, (tk : Int))]) := by
          show _ = _
          rw [List.take_add_one, List.getElem?_map, HF.out, Option.map_some, SN0.out]
          rfl
        have GN : Hid (∀ f ∈ l.take (k + 1), ¬ f.size < 3) := fun f' hf' => by
          rw [List.take_add_one, HF.out, List.mem_append] at hf'
          rcases hf' with h9 | h9
          · exact hg.out f' h9
          · simp at h9; subst h9; omega
        have ZX : Hid (Bs < wr.heap.size) := World.block_lt_of_cell? _ _ (hx.out 0 _ rfl).1
        have RLT : Hid (∀ g, Value.ownBlock (.slice ua k uc) = some g → w2.heap.size ≤ g ∧ g < wr.heap.size) := fun g e => ho.out.lt g e
        obtain ⟨e0, _⟩ := hx.out 2 _ rfl
        have e1 := EC.out _ hb.out
        clear fc
        go_wp2_with fail
        refine wp_region_noPanic ?_
        refine wp_region_held_drew (S := (fun w' => w'.cell? ⟨lb, lo + k, none⟩ = some (.string f))) (by kernel_rfl) e1 (fun hHeld => ?_)
        refine wpAnyH_take (i := 0) (v := .pointer (some ⟨Bs, 2, none⟩)) rfl (by kernel_rfl) (by kernel_rfl) (by kernel_rfl) (fun _ _ _ h => h) (Or.inl ⟨by rfl, ?_⟩) hHeld ?_
        · intro w9 hSw
          have s0 := hSw
          go_simp
        refine wpAnyH_take (i := 2) (v := .slice (some ⟨lb, lo, none⟩) m lc) rfl (by kernel_rfl) (by kernel_rfl) (by kernel_rfl) (fun _ _ _ h => h) (Or.inl ⟨by rfl, ?_⟩) hHeld ?_
        · intro w9 hSw
          have s0 := hSw
          go_simp
        refine wpAnyH_take (i := 3) (v := .int .i64 (k : Int)) rfl (by kernel_rfl) (by kernel_rfl) (by kernel_rfl) (fun _ _ _ h => h) (Or.inl ⟨by rfl, ?_⟩) hHeld ?_
        · intro w9 hSw
          have s0 := hSw
          go_simp
        refine wpAnyH_take (i := 4) (v := .pointer (some ⟨lb, lo + k, none⟩)) rfl (by kernel_rfl) (by kernel_rfl) (by kernel_rfl) (fun _ _ _ h => h) (Or.inl ⟨by rfl, ?_⟩) hHeld ?_
        · intro w9 hSw
          have s0 := hSw
          go_simp
        refine wpAnyH_take (i := 5) (v := .string f) rfl (by kernel_rfl) (by kernel_rfl) (by kernel_rfl) (fun _ _ _ h => h) (Or.inl ⟨by rfl, ?_⟩) hHeld ?_
        · intro w9 hSw
          have s0 := hSw
          go_simp
        simp only [Act.put, setIfInBounds_toArray, set_cons_zero, set_cons_succ]
        refine wpAnyH_take (i := 6) (v := .string g) rfl (by kernel_rfl) (by kernel_rfl) (by kernel_rfl) (fun _ _ _ h => h) (Or.inl ⟨by rfl, ?_⟩) hHeld ?_
        · intro w9 hSw
          have s0 := hSw
          go_simp
        refine wpAnyH_take (i := 7) (v := .slice (some ⟨lb, lo, none⟩) m lc) rfl (by kernel_rfl) (by kernel_rfl) (by kernel_rfl) (fun _ _ _ h => h) (Or.inl ⟨by rfl, ?_⟩) hHeld ?_
        · intro w9 hSw
          have s0 := hSw
          go_simp
        refine wpAnyH_take (i := 8) (v := .int .i64 (k : Int)) rfl (by kernel_rfl) (by kernel_rfl) (by kernel_rfl) (fun _ _ _ h => h) (Or.inl ⟨by rfl, ?_⟩) hHeld ?_
        · intro w9 hSw
          have s0 := hSw
          go_simp
        refine wpAnyH_take (i := 9) (v := .pointer (some ⟨lb, lo + k, none⟩)) rfl (by kernel_rfl) (by kernel_rfl) (by kernel_rfl) (fun _ _ _ h => h) (Or.inl ⟨by rfl, ?_⟩) hHeld ?_
        · intro w9 hSw
          have s0 := hSw
          go_simp
        refine wpAnyH_take (i := 10) (v := .string f) rfl (by kernel_rfl) (by kernel_rfl) (by kernel_rfl) (fun _ _ _ h => h) (Or.inl ⟨by rfl, ?_⟩) hHeld ?_
        · intro w9 hSw
          have s0 := hSw
          go_simp
        simp only [Act.put, setIfInBounds_toArray, set_cons_zero, set_cons_succ]
        refine wpAnyH_take (i := 11) (v := .int .u8 (y0 : Int)) rfl (by kernel_rfl) (by kernel_rfl) (by kernel_rfl) (fun _ _ _ h => h) (Or.inl ⟨by rfl, ?_⟩) hHeld ?_
        · intro w9 hSw
          have s0 := hSw
          go_simp
        refine wpAnyH_take (i := 12) (v := .int .i64 (y0 : Int)) rfl (by kernel_rfl) (by kernel_rfl) (by kernel_rfl) (fun _ _ _ h => h) (Or.inl ⟨by rfl, ?_⟩) hHeld ?_
        · intro w9 hSw
          have s0 := hSw
          go_simp
        refine wpAnyH_take (i := 13) (v := .int .i64 ((y0 : Int) - 1)) rfl (by kernel_rfl) (by kernel_rfl) (by kernel_rfl) (fun _ _ _ h => h) (Or.inl ⟨by rfl, ?_⟩) hHeld ?_
        · intro w9 hSw
          have s0 := hSw
          go_simp
        refine wpAnyH_take (i := 14) (v := .slice (some ⟨lb, lo, none⟩) m lc) rfl (by kernel_rfl) (by kernel_rfl) (by kernel_rfl) (fun _ _ _ h => h) (Or.inl ⟨by rfl, ?_⟩) hHeld ?_
        · intro w9 hSw
          have s0 := hSw
          go_simp
        refine wpAnyH_take (i := 15) (v := .int .i64 (k : Int)) rfl (by kernel_rfl) (by kernel_rfl) (by kernel_rfl) (fun _ _ _ h => h) (Or.inl ⟨by rfl, ?_⟩) hHeld ?_
        · intro w9 hSw
          have s0 := hSw
          go_simp
        simp only [Act.put, setIfInBounds_toArray, set_cons_zero, set_cons_succ]
        refine wpAnyH_take (i := 16) (v := .pointer (some ⟨lb, lo + k, none⟩)) rfl (by kernel_rfl) (by kernel_rfl) (by kernel_rfl) (fun _ _ _ h => h) (Or.inl ⟨by rfl, ?_⟩) hHeld ?_
        · intro w9 hSw
          have s0 := hSw
          go_simp
        refine wpAnyH_take (i := 17) (v := .string f) rfl (by kernel_rfl) (by kernel_rfl) (by kernel_rfl) (fun _ _ _ h => h) (Or.inl ⟨by rfl, ?_⟩) hHeld ?_
        · intro w9 hSw
          have s0 := hSw
          go_simp
        refine wpAnyH_take (i := 18) (v := .string h) rfl (by kernel_rfl) (by kernel_rfl) (by kernel_rfl) (fun _ _ _ h => h) (Or.inl ⟨by rfl, ?_⟩) hHeld ?_
        · intro w9 hSw
          have s0 := hSw
          go_simp
        simp only [Act.put, setIfInBounds_toArray, set_cons_zero, set_cons_succ]
        have BA : Hid (Below w2.heap.size w2 (wr.alloc (.cells #[.string g, .int .i64 ((y0 : Int) - 1), .int .i64 (tk : Int)] 122)).drew) := (hb.out.alloc hb.out.size _).drew
        have XA : Hid (Box (wr.alloc (.cells #[.string g, .int .i64 ((y0 : Int) - 1), .int .i64 (tk : Int)] 122)).drew Bs [.int .i64 (x1 : Int), .int .i64 ((x2 : Int) - 1), .slice ua k uc]) := hx.out.old _
        refine wpAnyH_ready (rs := [1, 19]) (by kernel_rfl) (by simp) ?_
        refine AllReadyH.cons rfl (fun K hK => ?_) (AllReadyH.cons rfl (fun K hK => ?_) AllReadyH.nil)
        · skip
          go_simp
          refine hK.out _ _ e1 (fun hHeld => ?_)
          clear hK K
          refine wpAnyH_ready (rs := [19]) (by kernel_rfl) (by simp) ?_
          refine AllReadyH.cons rfl (fun K hK => ?_) AllReadyH.nil
          go_simp
          refine (LOF.out _).mono ?_
          rintro e w3 ⟨rfl, hw3⟩
          obtain rfl := hw3
          dsimp only
          refine hK.out _ _ e1 (fun hHeld => ?_)
          clear hK K
          refine wpAnyH_take (i := 20) (v := .agg #[.string g, .int .i64 ((y0 : Int) - 1), .int .i64 (tk : Int)]) rfl (by kernel_rfl) (by kernel_rfl) (by kernel_rfl) (fun _ _ _ h => h) (Or.inl ⟨by rfl, ?_⟩) hHeld ?_
          · intro w9 hSw
            have s0 := hSw
            go_simp
          simp only [Act.put, setIfInBounds_toArray, set_cons_zero, set_cons_succ]
          refine wpAnyH_ready (rs := [21]) (by kernel_rfl) (by simp) ?_
          refine AllReadyH.cons rfl (fun K hK => ?_) AllReadyH.nil
          go_simp
          clear e1
          have e1 := EC.out _ BA.out
          refine hK.out _ _ e1 (fun hHeld => ?_)
          clear hK K
          clear e0
          refine wpAnyH_ready (rs := [22]) (by kernel_rfl) (by simp) ?_
          refine AllReadyH.cons rfl (fun K hK => ?_) AllReadyH.nil
          refine step_append_src rfl (.tmp 60) (.tmp 80) 40 rfl w2.heap.size 122 (.agg #[.string ⟨#[]⟩, .int .i64 0, .int .i64 0]) 3 32 Tryz.underlying40 infoSn rfl (by decide) (by decide) (.slice ua k uc) k (cellsSn ((l.map snapOf).take k)) (by simp [Act.eval]) (show World.ownsRow (wr.alloc (.cells #[.string g, .int .i64 ((y0 : Int) - 1), .int .i64 (tk : Int)] 122)).drew _ _ _ _ _ _ from ho.out.alloc _) ⟨wr.heap.size, 0, none⟩ 1 1 (cellsSn [(g, (y0 : Int) - 1, (tk : Int))]) (by simp [Act.eval]) rfl (show Src (wr.alloc (.cells #[.string g, .int .i64 ((y0 : Int) - 1), .int .i64 (tk : Int)] 122)) _ _ from src_oneSn rfl) (cellsSn_one _) (by omega) (by decide) BA.out.size ?_
          intro v' w' hown hgrow hnew
          obtain ⟨b', d', rfl, _, _⟩ := own_src hown
          have XG : Hid (Box w' Bs [.int .i64 (x1 : Int), .int .i64 ((x2 : Int) - 1), .slice ua k uc]) := Box.grown XA.out hgrow (fun e => hn.out _ e rfl)
          have OG : Hid (w'.ownsRow w2.heap.size 122 3 (.slice b' (k + 1) d') (k + 1) (cellsSn ((l.map snapOf).take (k + 1)))) := by rw [NX.out, cellsSn_append]; exact hown
          have BG : Hid (Below w2.heap.size w2 w') := BA.out.grown hgrow BA.out.size (fun g e => (RLT.out g e).1)
          have NG : Hid (∀ g, Value.ownBlock (.slice b' (k + 1) d') = some g → g ≠ Bs) := fun gg e => by
            rcases hnew with h9 | h9
            · rw [h9] at e; exact hn.out gg e
            · have h8 := h9 gg e; have h7 := ZX.out; have h6 : (wr.alloc (.cells #[.string g, .int .i64 ((y0 : Int) - 1), .int .i64 (tk : Int)] 122)).drew.heap.size = wr.heap.size + 1 := by simp
              omega
          clear hown hgrow hnew e1
          obtain ⟨e0, ef⟩ := XG.out 2 _ rfl
          have e1 := EC.out _ BG.out
          refine hK.out _ _ e1 (fun hHeld => ?_)
          clear hK K
          have XF : Hid (Box (w'.setCell ⟨Bs, 2, none⟩ (.slice b' (k + 1) d')) Bs [.int .i64 (x1 : Int), .int .i64 ((x2 : Int) - 1), .slice b' (k + 1) d']) := XG.out.set 2 _
          have BF : Hid (Below w2.heap.size w2 (w'.setCell ⟨Bs, 2, none⟩ (.slice b' (k + 1) d'))) := BG.out.setCell ZW.out _
          have OF : Hid ((w'.setCell ⟨Bs, 2, none⟩ (.slice b' (k + 1) d')).ownsRow w2.heap.size 122 3 (.slice b' (k + 1) d') (k + 1) (cellsSn ((l.map snapOf).take (k + 1)))) := own_setOther OG.out (fun e => NG.out _ e rfl) _
          refine wpAnyH_take (i := 23) (v := .pointer (some ⟨Bs, 2, none⟩)) rfl (by kernel_rfl) (by kernel_rfl) (by kernel_rfl) (fun _ _ _ h => h) (Or.inl ⟨by rfl, ?_⟩) hHeld ?_
          · intro w9 hSw
            have s0 := hSw
            go_simp
          simp only [Act.put, setIfInBounds_toArray, set_cons_zero, set_cons_succ]
          refine wpAnyH_ready (rs := [24]) (by kernel_rfl) (by simp) ?_
          refine AllReadyH.cons rfl (fun K hK => ?_) AllReadyH.nil
          go_simp
          clear e0 ef e1
          have e1 := EC.out _ BF.out
          refine hK.out _ _ e1 (fun hHeld => ?_)
          clear hK K
          refine wpAnyH_done (by kernel_rfl) ?_ _
          refine NoPanic.normal ?_
          clear e1
          go_wp2_with fail
          exact ⟨⟨k + 1, _, by omega, by go_num, BF.out, XF.out, OF.out, NG.out, GN.out⟩, by simp [intOf]; omega⟩
        · skip
          go_simp
          refine (LOF.out _).mono ?_
          rintro e w3 ⟨rfl, hw3⟩
          obtain rfl := hw3
          dsimp only
          refine hK.out _ _ e1 (fun hHeld => ?_)
          clear hK K
          refine wpAnyH_take (i := 20) (v := .agg #[.string g, .int .i64 ((y0 : Int) - 1), .int .i64 (tk : Int)]) rfl (by kernel_rfl) (by kernel_rfl) (by kernel_rfl) (fun _ _ _ h => h) (Or.inl ⟨by rfl, ?_⟩) hHeld ?_
          · intro w9 hSw
            have s0 := hSw
            go_simp
          simp only [Act.put, setIfInBounds_toArray, set_cons_zero, set_cons_succ]
          refine wpAnyH_ready (rs := [1, 21]) (by kernel_rfl) (by simp) ?_
          refine AllReadyH.cons rfl (fun K hK => ?_) (AllReadyH.cons rfl (fun K hK => ?_) AllReadyH.nil)
          · skip
            go_simp
            refine hK.out _ _ e1 (fun hHeld => ?_)
            clear hK K
            refine wpAnyH_ready (rs := [21]) (by kernel_rfl) (by simp) ?_
            refine AllReadyH.cons rfl (fun K hK => ?_) AllReadyH.nil
            go_simp
            clear e1
            have e1 := EC.out _ BA.out
            refine hK.out _ _ e1 (fun hHeld => ?_)
            clear hK K
            clear e0
            refine wpAnyH_ready (rs := [22]) (by kernel_rfl) (by simp) ?_
            refine AllReadyH.cons rfl (fun K hK => ?_) AllReadyH.nil
            refine step_append_src rfl (.tmp 60) (.tmp 80) 40 rfl w2.heap.size 122 (.agg #[.string ⟨#[]⟩, .int .i64 0, .int .i64 0]) 3 32 Tryz.underlying40 infoSn rfl (by decide) (by decide) (.slice ua k uc) k (cellsSn ((l.map snapOf).take k)) (by simp [Act.eval]) (show World.ownsRow (wr.alloc (.cells #[.string g, .int .i64 ((y0 : Int) - 1), .int .i64 (tk : Int)] 122)).drew _ _ _ _ _ _ from ho.out.alloc _) ⟨wr.heap.size, 0, none⟩ 1 1 (cellsSn [(g, (y0 : Int) - 1, (tk : Int))]) (by simp [Act.eval]) rfl (show Src (wr.alloc (.cells #[.string g, .int .i64 ((y0 : Int) - 1), .int .i64 (tk : Int)] 122)) _ _ from src_oneSn rfl) (cellsSn_one _) (by omega) (by decide) BA.out.size ?_
            intro v' w' hown hgrow hnew
            obtain ⟨b', d', rfl, _, _⟩ := own_src hown
            have XG : Hid (Box w' Bs [.int .i64 (x1 : Int), .int .i64 ((x2 : Int) - 1), .slice ua k uc]) := Box.grown XA.out hgrow (fun e => hn.out _ e rfl)
            have OG : Hid (w'.ownsRow w2.heap.size 122 3 (.slice b' (k + 1) d') (k + 1) (cellsSn ((l.map snapOf).take (k + 1)))) := by rw [NX.out, cellsSn_append]; exact hown
            have BG : Hid (Below w2.heap.size w2 w') := BA.out.grown hgrow BA.out.size (fun g e => (RLT.out g e).1)
            have NG : Hid (∀ g, Value.ownBlock (.slice b' (k + 1) d') = some g → g ≠ Bs) := fun gg e => by
              rcases hnew with h9 | h9
              · rw [h9] at e; exact hn.out gg e
              · have h8 := h9 gg e; have h7 := ZX.out; have h6 : (wr.alloc (.cells #[.string g, .int .i64 ((y0 : Int) - 1), .int .i64 (tk : Int)] 122)).drew.heap.size = wr.heap.size + 1 := by simp
                omega
            clear hown hgrow hnew e1
            obtain ⟨e0, ef⟩ := XG.out 2 _ rfl
            have e1 := EC.out _ BG.out
            refine hK.out _ _ e1 (fun hHeld => ?_)
            clear hK K
            have XF : Hid (Box (w'.setCell ⟨Bs, 2, none⟩ (.slice b' (k + 1) d')) Bs [.int .i64 (x1 : Int), .int .i64 ((x2 : Int) - 1), .slice b' (k + 1) d']) := XG.out.set 2 _
            have BF : Hid (Below w2.heap.size w2 (w'.setCell ⟨Bs, 2, none⟩ (.slice b' (k + 1) d'))) := BG.out.setCell ZW.out _
            have OF : Hid ((w'.setCell ⟨Bs, 2, none⟩ (.slice b' (k + 1) d')).ownsRow w2.heap.size 122 3 (.slice b' (k + 1) d') (k + 1) (cellsSn ((l.map snapOf).take (k + 1)))) := own_setOther OG.out (fun e => NG.out _ e rfl) _
            refine wpAnyH_take (i := 23) (v := .pointer (some ⟨Bs, 2, none⟩)) rfl (by kernel_rfl) (by kernel_rfl) (by kernel_rfl) (fun _ _ _ h => h) (Or.inl ⟨by rfl, ?_⟩) hHeld ?_
            · intro w9 hSw
              have s0 := hSw
              go_simp
            simp only [Act.put, setIfInBounds_toArray, set_cons_zero, set_cons_succ]
            refine wpAnyH_ready (rs := [24]) (by kernel_rfl) (by simp) ?_
            refine AllReadyH.cons rfl (fun K hK => ?_) AllReadyH.nil
            go_simp
            clear e0 ef e1
            have e1 := EC.out _ BF.out
            refine hK.out _ _ e1 (fun hHeld => ?_)
            clear hK K
            refine wpAnyH_done (by kernel_rfl) ?_ _
            refine NoPanic.normal ?_
            clear e1
            go_wp2_with fail
            exact ⟨⟨k + 1, _, by omega, by go_num, BF.out, XF.out, OF.out, NG.out, GN.out⟩, by simp [intOf]; omega⟩
          · skip
            go_simp
            clear e1
            have e1 := EC.out _ BA.out
            refine hK.out _ _ e1 (fun hHeld => ?_)
            clear hK K
            clear e0
            obtain ⟨e0, _⟩ := XA.out 2 _ rfl
            refine wpAnyH_ready (rs := [1]) (by kernel_rfl) (by simp) ?_
            refine AllReadyH.cons rfl (fun K hK => ?_) AllReadyH.nil
            go_simp
            refine hK.out _ _ e1 (fun hHeld => ?_)
            clear hK K
            clear e0
            refine wpAnyH_ready (rs := [22]) (by kernel_rfl) (by simp) ?_
            refine AllReadyH.cons rfl (fun K hK => ?_) AllReadyH.nil
            refine step_append_src rfl (.tmp 60) (.tmp 80) 40 rfl w2.heap.size 122 (.agg #[.string ⟨#[]⟩, .int .i64 0, .int .i64 0]) 3 32 Tryz.underlying40 infoSn rfl (by decide) (by decide) (.slice ua k uc) k (cellsSn ((l.map snapOf).take k)) (by simp [Act.eval]) (show World.ownsRow (wr.alloc (.cells #[.string g, .int .i64 ((y0 : Int) - 1), .int .i64 (tk : Int)] 122)).drew _ _ _ _ _ _ from ho.out.alloc _) ⟨wr.heap.size, 0, none⟩ 1 1 (cellsSn [(g, (y0 : Int) - 1, (tk : Int))]) (by simp [Act.eval]) rfl (show Src (wr.alloc (.cells #[.string g, .int .i64 ((y0 : Int) - 1), .int .i64 (tk : Int)] 122)) _ _ from src_oneSn rfl) (cellsSn_one _) (by omega) (by decide) BA.out.size ?_
            intro v' w' hown hgrow hnew
            obtain ⟨b', d', rfl, _, _⟩ := own_src hown
            have XG : Hid (Box w' Bs [.int .i64 (x1 : Int), .int .i64 ((x2 : Int) - 1), .slice ua k uc]) := Box.grown XA.out hgrow (fun e => hn.out _ e rfl)
            have OG : Hid (w'.ownsRow w2.heap.size 122 3 (.slice b' (k + 1) d') (k + 1) (cellsSn ((l.map snapOf).take (k + 1)))) := by rw [NX.out, cellsSn_append]; exact hown
            have BG : Hid (Below w2.heap.size w2 w') := BA.out.grown hgrow BA.out.size (fun g e => (RLT.out g e).1)
            have NG : Hid (∀ g, Value.ownBlock (.slice b' (k + 1) d') = some g → g ≠ Bs) := fun gg e => by
              rcases hnew with h9 | h9
              · rw [h9] at e; exact hn.out gg e
              · have h8 := h9 gg e; have h7 := ZX.out; have h6 : (wr.alloc (.cells #[.string g, .int .i64 ((y0 : Int) - 1), .int .i64 (tk : Int)] 122)).drew.heap.size = wr.heap.size + 1 := by simp
                omega
            clear hown hgrow hnew e1
            obtain ⟨e0, ef⟩ := XG.out 2 _ rfl
            have e1 := EC.out _ BG.out
            refine hK.out _ _ e1 (fun hHeld => ?_)
            clear hK K
            have XF : Hid (Box (w'.setCell ⟨Bs, 2, none⟩ (.slice b' (k + 1) d')) Bs [.int .i64 (x1 : Int), .int .i64 ((x2 : Int) - 1), .slice b' (k + 1) d']) := XG.out.set 2 _
            have BF : Hid (Below w2.heap.size w2 (w'.setCell ⟨Bs, 2, none⟩ (.slice b' (k + 1) d'))) := BG.out.setCell ZW.out _
            have OF : Hid ((w'.setCell ⟨Bs, 2, none⟩ (.slice b' (k + 1) d')).ownsRow w2.heap.size 122 3 (.slice b' (k + 1) d') (k + 1) (cellsSn ((l.map snapOf).take (k + 1)))) := own_setOther OG.out (fun e => NG.out _ e rfl) _
            refine wpAnyH_take (i := 23) (v := .pointer (some ⟨Bs, 2, none⟩)) rfl (by kernel_rfl) (by kernel_rfl) (by kernel_rfl) (fun _ _ _ h => h) (Or.inl ⟨by rfl, ?_⟩) hHeld ?_
            · intro w9 hSw
              have s0 := hSw
              go_simp
            simp only [Act.put, setIfInBounds_toArray, set_cons_zero, set_cons_succ]
            refine wpAnyH_ready (rs := [24]) (by kernel_rfl) (by simp) ?_
            refine AllReadyH.cons rfl (fun K hK => ?_) AllReadyH.nil
            go_simp
            clear e0 ef e1
            have e1 := EC.out _ BF.out
            refine hK.out _ _ e1 (fun hHeld => ?_)
            clear hK K
            refine wpAnyH_done (by kernel_rfl) ?_ _
            refine NoPanic.normal ?_
            clear e1
            go_wp2_with fail
            exact ⟨⟨k + 1, _, by omega, by go_num, BF.out, XF.out, OF.out, NG.out, GN.out⟩, by simp [intOf]; omega⟩
      · have hkm : k = m := by omega
        have EL : Hid ((l.map snapOf).length = k) := by show _ = _; rw [List.length_map, HM.out, hkm]
        have FO : Hid (OwnsU wr w2.heap.size wr.heap.size (.agg #[.int .i64 (x1 : Int), .int .i64 ((x2 : Int) - 1), .slice ua k uc]) ⟨(x1 : Int), (x2 : Int) - 1, l.map snapOf⟩) := by
          refine ⟨_, rfl, OwnsR.mk ?_ (Nat.le_refl _)⟩
          have h9 := ho.out
          rw [List.take_of_length_le (by rw [List.length_map, HM.out]; omega)] at h9
          show wr.ownsRow _ _ _ _ (l.map snapOf).length _
          rw [EL.out]
          exact h9
        have F0 : Hid (superA (bodyB (bytesOf s)) = some ⟨(x1 : Int), (x2 : Int) - 1, l.map snapOf⟩) := by
          show _ = _
          rw [HB.out]
          unfold superA
          rw [if_neg NF.out, RF.out, if_neg (by simp), HX.out.2.1, HX.out.2.2, if_neg]
          rintro ⟨f, hf, h9⟩
          refine hg.out f ?_ h9
          rw [List.take_of_length_le (by rw [HM.out]; omega)]
          exact hf
        have SM : Hid (smallU ⟨(x1 : Int), (x2 : Int) - 1, l.map snapOf⟩) := by
          refine ⟨by show (l.map snapOf).length ≤ _; rw [EL.out]; omega, fun x hx => ?_⟩
          obtain ⟨f, hf, rfl⟩ := List.mem_map.1 hx
          show (f.extract 3 f.size).size ≤ _
          rw [ByteArray.size_extract]
          have h9 := rf_sizes RF.out f hf
          omega
        have hkm2 : ¬ (k : Int) < (m : Int) := by omega
        clear hkm
        obtain ⟨ok, hok⟩ : ∃ b, okU ⟨(x1 : Int), (x2 : Int) - 1, l.map snapOf⟩ = b := ⟨_, rfl⟩
        have SOK : Hid (∀ w9, Below wr.heap.size wr w9 → Calls Tryz.prog 33 #[.agg #[.int .i64 (x1 : Int), .int .i64 ((x2 : Int) - 1), .slice ua k uc]] w9 fun e w' => e = .returned (.bool ok) ∧ Below w9.heap.size w9 w') := fun w9 hb9 => by
          have h9 := specSuperOK _ _ w9 SM.out (FO.out.reads.below hb9)
          rw [hok] at h9
          exact h9
        have HOK : Hid (okU ⟨(x1 : Int), (x2 : Int) - 1, l.map snapOf⟩ = ok) := hok
        clear hok
        have X9 : Hid (Box wr w.heap.size [.int .i64 0, .int .i64 0, .slice none 0 0]) := X2.out.below hb.out
        obtain ⟨e0, _⟩ := hx.out 0 _ rfl
        obtain ⟨e1, _⟩ := hx.out 1 _ rfl
        obtain ⟨e2, _⟩ := hx.out 2 _ rfl
        go_wp2_with fail
        refine wp_region_noPanic ?_
        refine wp_region_held_drew (S := (fun w' => w'.cell? ⟨Bs, 0, none⟩ = some (.int .i64 (x1 : Int)) ∧ w'.cell? ⟨Bs, 1, none⟩ = some (.int .i64 ((x2 : Int) - 1)) ∧ w'.cell? ⟨Bs, 2, none⟩ = some (.slice ua k uc))) (by kernel_rfl) ⟨e0, e1, e2⟩ (fun hHeld => ?_)
        refine wpAnyH_take (i := 0) (v := .agg #[.int .i64 (x1 : Int), .int .i64 ((x2 : Int) - 1), .slice ua k uc]) rfl (by kernel_rfl) (by kernel_rfl) (by kernel_rfl) (fun _ _ _ h => h) (Or.inl ⟨by rfl, ?_⟩) hHeld ?_
        · intro w9 hSw
          obtain ⟨s0, s1, s2⟩ := hSw
          go_simp
        refine wpAnyH_take (i := 1) (v := .agg #[.int .i64 (x1 : Int), .int .i64 ((x2 : Int) - 1), .slice ua k uc]) rfl (by kernel_rfl) (by kernel_rfl) (by kernel_rfl) (fun _ _ _ h => h) (Or.inl ⟨by rfl, ?_⟩) hHeld ?_
        · intro w9 hSw
          obtain ⟨s0, s1, s2⟩ := hSw
          go_simp
        simp only [Act.put, setIfInBounds_toArray, set_cons_zero, set_cons_succ]
        refine wpAnyH_ready (rs := [2]) (by kernel_rfl) (by simp) ?_
        refine AllReadyH.cons rfl (fun K hK => ?_) AllReadyH.nil
        go_simp
        refine (SOK.out _ ((Below.refl _ _).drew)).mono ?_
        rintro e w4 ⟨rfl, hb4⟩
        dsimp only
        have B4 : Hid (Below w.heap.size w w4) := BT.out.drew.trans (hb4.mono BT.out.size)
        have X4 : Hid (Box w4 w.heap.size [.int .i64 0, .int .i64 0, .slice none 0 0]) := Box.below (w := wr.drew) X9.out hb4
        have Y4 : Hid (Box w4 Bs [.int .i64 (x1 : Int), .int .i64 ((x2 : Int) - 1), .slice ua k uc]) := Box.below (w := wr.drew) hx.out hb4
        have O4 : Hid (OwnsU w4 w2.heap.size wr.heap.size (.agg #[.int .i64 (x1 : Int), .int .i64 ((x2 : Int) - 1), .slice ua k uc]) ⟨(x1 : Int), (x2 : Int) - 1, l.map snapOf⟩) := OwnsU.below (w := wr.drew) FO.out hb4
        have ZW4 : Hid (wr.heap.size ≤ w4.heap.size) := hb4.size
        clear hb4 e0 e1 e2
        obtain ⟨e0, _⟩ := Y4.out 0 _ rfl
        obtain ⟨e1, _⟩ := Y4.out 1 _ rfl
        obtain ⟨e2, _⟩ := Y4.out 2 _ rfl
        refine hK.out _ _ ⟨e0, e1, e2⟩ (fun hHeld => ?_)
        clear hK K
        obtain ⟨p0, f0⟩ := X4.out 0 _ rfl
        obtain ⟨p1, f1⟩ := (X4.out.set 0 (.int .i64 (x1 : Int))) 1 _ rfl
        obtain ⟨p2, f2⟩ := ((X4.out.set 0 (.int .i64 (x1 : Int))).set 1 (.int .i64 ((x2 : Int) - 1))) 2 _ rfl
        have X5 := ((X4.out.set 0 (.int .i64 (x1 : Int))).set 1 (.int .i64 ((x2 : Int) - 1))).set 2 (.slice ua k uc)
        obtain ⟨r0, _⟩ := X5 0 _ rfl
        obtain ⟨r1, _⟩ := X5 1 _ rfl
        obtain ⟨r2, _⟩ := X5 2 _ rfl
        clear X5
        have YE : Hid (Box (((w4.setCell ⟨w.heap.size, 0, none⟩ (.int .i64 (x1 : Int))).setCell ⟨w.heap.size, 1, none⟩ (.int .i64 ((x2 : Int) - 1))).setCell ⟨w.heap.size, 2, none⟩ (.slice ua k uc)) Bs [.int .i64 (x1 : Int), .int .i64 ((x2 : Int) - 1), .slice ua k uc]) := ((Y4.out.other _ (by have := ZW.out; have := Z2.out; (try dsimp only); omega) _).other _ (by have := ZW.out; have := Z2.out; (try dsimp only); omega) _).other _ (by have := ZW.out; have := Z2.out; (try dsimp only); omega) _
        have BE : Hid (Below w.heap.size w (((w4.setCell ⟨w.heap.size, 0, none⟩ (.int .i64 (x1 : Int))).setCell ⟨w.heap.size, 1, none⟩ (.int .i64 ((x2 : Int) - 1))).setCell ⟨w.heap.size, 2, none⟩ (.slice ua k uc))) := ((B4.out.setCell (Nat.le_refl _) _).setCell (Nat.le_refl _) _).setCell (Nat.le_refl _) _
        have OE : Hid (OwnsU (((w4.setCell ⟨w.heap.size, 0, none⟩ (.int .i64 (x1 : Int))).setCell ⟨w.heap.size, 1, none⟩ (.int .i64 ((x2 : Int) - 1))).setCell ⟨w.heap.size, 2, none⟩ (.slice ua k uc)) w.heap.size (((w4.setCell ⟨w.heap.size, 0, none⟩ (.int .i64 (x1 : Int))).setCell ⟨w.heap.size, 1, none⟩ (.int .i64 ((x2 : Int) - 1))).setCell ⟨w.heap.size, 2, none⟩ (.slice ua k uc)).heap.size (.agg #[.int .i64 (x1 : Int), .int .i64 ((x2 : Int) - 1), .slice ua k uc]) ⟨(x1 : Int), (x2 : Int) - 1, l.map snapOf⟩) := by
          obtain ⟨v9, e9, h9⟩ := O4.out
          refine ⟨v9, e9, OwnsR.mk (own_mono (own_setLow (own_setLow (own_setLow h9.1 ?_ _) ?_ _) ?_ _) ?_) (Nat.le_refl _)⟩
          all_goals (have := Z2.out; (try dsimp only); omega)
        refine wpAnyH_ready (rs := [3]) (by kernel_rfl) (by simp) ?_
        refine AllReadyH.cons rfl (fun K hK => ?_) AllReadyH.nil
        go_simp
        clear e0 e1 e2
        obtain ⟨e0, _⟩ := YE.out 0 _ rfl
        obtain ⟨e1, _⟩ := YE.out 1 _ rfl
        obtain ⟨e2, _⟩ := YE.out 2 _ rfl
        refine hK.out _ _ ⟨e0, e1, e2⟩ (fun hHeld => ?_)
        clear hK K
        refine wpAnyH_ready (rs := [4]) (by kernel_rfl) (by simp) ?_
        refine AllReadyH.cons rfl (fun K hK => ?_) AllReadyH.nil
        go_simp
        refine hK.out _ _ ⟨e0, e1, e2⟩ (fun hHeld => ?_)
        clear hK K
        refine wpAnyH_done (by kernel_rfl) ?_ _
        refine NoPanic.normal ?_
        clear e0 e1 e2 p0 p1 p2 f0 f1 f2
        cases ok with
        | false =>
          have F : Hid (superR (bytesOf s) = none) := superR_bad F0.out HOK.out
          go_wp2_with fail
          exact bodyPost_ret (v := .tuple #[.agg #[.int .i64 (x1 : Int), .int .i64 ((x2 : Int) - 1), .slice ua k uc], .bool false]) (by simp [results, Tryz.results79, go_sem, r0, r1, r2]) rfl ⟨.inl ⟨F.out, _, _, _, _, _, rfl⟩, BE.out⟩
        | true =>
          have F : Hid (superR (bytesOf s) = some ⟨(x1 : Int), (x2 : Int) - 1, l.map snapOf⟩) := superR_some SE.out F0.out HOK.out
          go_wp2_with fail
          exact bodyPost_ret (v := .tuple #[.agg #[.int .i64 (x1 : Int), .int .i64 ((x2 : Int) - 1), .slice ua k uc], .bool true]) (by simp [results, Tryz.results79, go_sem, r0, r1, r2]) rfl ⟨.inr ⟨_, _, F.out, rfl, OE.out⟩, BE.out⟩
  · go_wp2_with fail
    have BW : Hid (Below w2.heap.size w2 ((w2.alloc (.cells #[.int .i64 (x1 : Int), .int .i64 ((x2 : Int) - 1), .slice (some ⟨w2.heap.size + 1, 0, none⟩) 0 0] 42)).alloc (.cells #[] 122)).drew) := (((Below.refl _ _).alloc (Nat.le_refl _) _).alloc (by simp) _).drew
    have XW : Hid (Box ((w2.alloc (.cells #[.int .i64 (x1 : Int), .int .i64 ((x2 : Int) - 1), .slice (some ⟨w2.heap.size + 1, 0, none⟩) 0 0] 42)).alloc (.cells #[] 122)).drew (w2.heap.size) [.int .i64 (x1 : Int), .int .i64 ((x2 : Int) - 1), .slice (some ⟨w2.heap.size + 1, 0, none⟩) 0 0]) := (Box.new (w := w2) rfl).old _
    have OW : Hid (World.ownsRow ((w2.alloc (.cells #[.int .i64 (x1 : Int), .int .i64 ((x2 : Int) - 1), .slice (some ⟨w2.heap.size + 1, 0, none⟩) 0 0] 42)).alloc (.cells #[] 122)).drew w2.heap.size 122 3 (.slice (some ⟨w2.heap.size + 1, 0, none⟩) 0 0) 0 (cellsSn ([] : List SN))) := own_empty (w := w2.alloc (.cells #[.int .i64 (x1 : Int), .int .i64 ((x2 : Int) - 1), .slice (some ⟨w2.heap.size + 1, 0, none⟩) 0 0] 42)) (by simp) (by simp)
    have NW : Hid (∀ g, Value.ownBlock (.slice (some ⟨w2.heap.size + 1, 0, none⟩) 0 0) = some g → g ≠ w2.heap.size) := fun g e => by have e2 : some (w2.heap.size + 1) = some g := e; injection e2 with e3; omega
    have ZW : Hid (w2.heap.size ≤ w2.heap.size) := by show _ ≤ _; omega
    obtain ⟨W0, hW0⟩ : ∃ W, ((w2.alloc (.cells #[.int .i64 (x1 : Int), .int .i64 ((x2 : Int) - 1), .slice (some ⟨w2.heap.size + 1, 0, none⟩) 0 0] 42)).alloc (.cells #[] 122)).drew = W := ⟨_, rfl⟩
    rw [hW0] at BW XW OW ⊢
    clear hW0
    obtain ⟨u0, hu0⟩ : ∃ u, Value.slice (some ⟨w2.heap.size + 1, 0, none⟩) 0 0 = u := ⟨_, rfl⟩
    rw [hu0] at XW OW NW
    clear hu0
    go_loopw [9] (fun iv wr => ∃ (k : Nat) (u : Value), k ≤ m ∧ iv = .int .i64 (k : Int) ∧ Hid (Below w2.heap.size w2 wr) ∧ Hid (Box wr w2.heap.size [.int .i64 (x1 : Int), .int .i64 ((x2 : Int) - 1), u]) ∧ Hid (wr.ownsRow w2.heap.size 122 3 u k (cellsSn ((l.map snapOf).take k))) ∧ Hid (∀ g, Value.ownBlock u = some g → g ≠ w2.heap.size) ∧ Hid (∀ f ∈ l.take k, ¬ f.size < 3)) (fun i _ => m - (intOf i).toNat)
    case atStart => exact ⟨0, _, by omega, rfl, BW.out, XW.out, OW.out, NW.out, fun f hf => by simp at hf⟩
    case round =>
      clear BW XW OW NW
      obtain ⟨k, u, hk, rfl, hb, hx, ho, hn, hg⟩ := hrel
      obtain ⟨ua, uc, rfl, _, _⟩ := own_src ho.out
      have BT : Hid (Below w.heap.size w wr) := B2.out.trans (hb.out.mono (by have := Z2.out; omega))
      by_cases hlt : k < m
      · have hki : (k : Int) < (m : Int) := by omega
        have hk00 : (0 : Int) ≤ (k : Int) := by omega
        obtain ⟨lb, lo, f, rfl, fc, hf⟩ := srcS (S2.out.below hb.out) (i := k) (by rw [HM.out]; exact hlt)
        have EC : Hid (∀ w9, Below w2.heap.size w2 w9 → w9.cell? ⟨lb, lo + k, none⟩ = some (.string f)) := fun w9 hb9 => by
          obtain ⟨lb', lo', y', e', yc', hy'⟩ := srcS (S2.out.below hb9) (i := k) (by rw [HM.out]; exact hlt)
          cases e'
          rw [yc', ← hy'.out, hf.out]
        have HF : Hid (l[k]? = some f) := by
          show _ = _
          have h9 := hf.out
          rw [List.getD_eq_getElem?_getD, List.getElem?_eq_getElem (by rw [HM.out]; exact hlt)] at h9
          rw [List.getElem?_eq_getElem (by rw [HM.out]; exact hlt)]
          exact congrArg some h9
        by_cases t4 : (f.size : Int) < 3
        · have F : Hid (superR (bytesOf s) = none) := superR_none (by
            rw [HB.out]
            unfold superA
            rw [if_neg NF.out, RF.out, if_neg (by simp), if_pos ⟨f, List.mem_of_getElem? HF.out, by omega⟩])
          have X9 : Box wr w.heap.size [.int .i64 0, .int .i64 0, .slice none 0 0] := X2.out.below hb.out
          obtain ⟨p0, f0⟩ := X9 0 _ rfl
          obtain ⟨p1, f1⟩ := (X9.set 0 (.int .i64 0)) 1 _ rfl
          obtain ⟨p2, f2⟩ := ((X9.set 0 (.int .i64 0)).set 1 (.int .i64 0)) 2 _ rfl
          have X3 := ((X9.set 0 (.int .i64 0)).set 1 (.int .i64 0)).set 2 (.slice none 0 0)
          obtain ⟨r0, _⟩ := X3 0 _ rfl
          obtain ⟨r1, _⟩ := X3 1 _ rfl
          obtain ⟨r2, _⟩ := X3 2 _ rfl
          clear X3 X9
          have B3 : Hid (Below w.heap.size w (((wr.setCell ⟨w.heap.size, 0, none⟩ (.int .i64 0)).setCell ⟨w.heap.size, 1, none⟩ (.int .i64 0)).setCell ⟨w.heap.size, 2, none⟩ (.slice none 0 0))) := ((BT.out.setCell (Nat.le_refl _) _).setCell (Nat.le_refl _) _).setCell (Nat.le_refl _) _
          clear hn EC
          go_wp2_with fail
          exact bodyPost_ret (v := .tuple #[.agg #[.int .i64 0, .int .i64 0, .slice none 0 0], .bool false]) (by simp [results, Tryz.results79, go_sem, r0, r1, r2]) rfl ⟨.inl ⟨F.out, _, _, _, _, _, rfl⟩, B3.out⟩
        obtain ⟨y0, hy0⟩ : ∃ y, (f[0]'(by omega)).toNat = y := ⟨_, rfl⟩
        have hy08 : y0 < 256 := by rw [← hy0]; exact UInt8.toNat_lt _
        obtain ⟨tk, htk⟩ : ∃ x : Nat, (bytesOf f).getD 1 0 * 256 + (bytesOf f).getD 2 0 = x := ⟨_, rfl⟩
        have cut3 : ∀ W, (Instr.slice 9 (.string f) (some (.int .i64 3)) none none).run Tryz.prog W = .ok (.string (f.extract 3 f.size)) W := fun W => by
          have h9 := run_slice_string_l (P := Tryz.prog) W 9 f Tryz.underlying9 .i64 3 (by omega) (by omega)
          exact h9
        have cut13 : ∀ W, (Instr.slice 9 (.string f) (some (.int .i64 1)) (some (.int .i64 3)) none).run Tryz.prog W = .ok (.string (f.extract 1 3)) W := fun W => cut_text W f 1 3 1 3 (by omega) (by omega) rfl rfl
        obtain ⟨g, hg3⟩ : ∃ g, f.extract 3 f.size = g := ⟨_, rfl⟩
        obtain ⟨h, hh3⟩ : ∃ h, f.extract 1 3 = h := ⟨_, rfl⟩
        have SN0 : Hid (snapOf f = (g, (y0 : Int) - 1, (tk : Int))) := by
          show _ = _
          unfold snapOf
          rw [bytesOf_get f 0 (by omega), hy0, htk, hg3]
        have LOF : Hid (∀ w9, Calls Tryz.prog 122 #[.string h] w9 fun e w' => e = .returned (.int .i64 ((tk : Nat) : Int)) ∧ w' = w9) := fun w9 => by
          have h8 := l01Of h w9 (by rw [← hh3, ByteArray.size_extract]; omega)
          rw [← hh3, num_two f (by omega), htk, hh3] at h8
          exact h8
        rw [hg3] at cut3
        rw [hh3] at cut13
        clear htk hg3 hh3
        have hf0 : 0 < f.size := by omega
        have hwr1 : IntKind.i64.wrap (y0 : Int) = (y0 : Int) := by rw [IntKind.wrap_i64]; omega
        have hwr2 : IntKind.i64.wrap ((y0 : Int) - 1) = (y0 : Int) - 1 := by rw [IntKind.wrap_i64]; omega
        have NX : Hid ((l.map snapOf).take (k + 1) = (l.map snapOf).take k ++ [(g, (y0 : Int) - 1, (tk : Int))]) := by
          show _ = _
          rw [List.take_add_one, List.getElem?_map, HF.out, Option.map_some, SN0.out]
          rfl
        have GN : Hid (∀ f ∈ l.take (k + 1), ¬ f.size < 3) := fun f' hf' => by
          rw [List.take_add_one, HF.out, List.mem_append] at hf'
          rcases hf' with h9 | h9
          · exact hg.out f' h9
          · simp at h9; subst h9; omega
        have ZX : Hid (w2.heap.size < wr.heap.size) := World.block_lt_of_cell? _ _ (hx.out 0 _ rfl).1
        have RLT : Hid (∀ g, Value.ownBlock (.slice ua k uc) = some g → w2.heap.size ≤ g ∧ g < wr.heap.size) := fun g e => ho.out.lt g e
        obtain ⟨e0, _⟩ := hx.out 2 _ rfl
        have e1 := EC.out _ hb.out
        clear fc
        go_wp2_with fail
        refine wp_region_noPanic ?_
        refine wp_region_held_drew (S := (fun w' => w'.cell? ⟨lb, lo + k, none⟩ = some (.string f))) (by kernel_rfl) e1 (fun hHeld => ?_)
        refine wpAnyH_take (i := 0) (v := .pointer (some ⟨w2.heap.size, 2, none⟩)) rfl (by kernel_rfl) (by kernel_rfl) (by kernel_rfl) (fun _ _ _ h => h) (Or.inl ⟨by rfl, ?_⟩) hHeld ?_
        · intro w9 hSw
          have s0 := hSw
          go_simp
        refine wpAnyH_take (i := 2) (v := .slice (some ⟨lb, lo, none⟩) m lc) rfl (by kernel_rfl) (by kernel_rfl) (by kernel_rfl) (fun _ _ _ h => h) (Or.inl ⟨by rfl, ?_⟩) hHeld ?_
        · intro w9 hSw
          have s0 := hSw
          go_simp
        refine wpAnyH_take (i := 3) (v := .int .i64 (k : Int)) rfl (by kernel_rfl) (by kernel_rfl) (by kernel_rfl) (fun _ _ _ h => h) (Or.inl ⟨by rfl, ?_⟩) hHeld ?_
        · intro w9 hSw
          have s0 := hSw
          go_simp
        refine wpAnyH_take (i := 4) (v := .pointer (some ⟨lb, lo + k, none⟩)) rfl (by kernel_rfl) (by kernel_rfl) (by kernel_rfl) (fun _ _ _ h => h) (Or.inl ⟨by rfl, ?_⟩) hHeld ?_
        · intro w9 hSw
          have s0 := hSw
          go_simp
        refine wpAnyH_take (i := 5) (v := .string f) rfl (by kernel_rfl) (by kernel_rfl) (by kernel_rfl) (fun _ _ _ h => h) (Or.inl ⟨by rfl, ?_⟩) hHeld ?_
        · intro w9 hSw
          have s0 := hSw
          go_simp
        simp only [Act.put, setIfInBounds_toArray, set_cons_zero, set_cons_succ]
        refine wpAnyH_take (i := 6) (v := .string g) rfl (by kernel_rfl) (by kernel_rfl) (by kernel_rfl) (fun _ _ _ h => h) (Or.inl ⟨by rfl, ?_⟩) hHeld ?_
        · intro w9 hSw
          have s0 := hSw
          go_simp
        refine wpAnyH_take (i := 7) (v := .slice (some ⟨lb, lo, none⟩) m lc) rfl (by kernel_rfl) (by kernel_rfl) (by kernel_rfl) (fun _ _ _ h => h) (Or.inl ⟨by rfl, ?_⟩) hHeld ?_
        · intro w9 hSw
          have s0 := hSw
          go_simp
        refine wpAnyH_take (i := 8) (v := .int .i64 (k : Int)) rfl (by kernel_rfl) (by kernel_rfl) (by kernel_rfl) (fun _ _ _ h => h) (Or.inl ⟨by rfl, ?_⟩) hHeld ?_
        · intro w9 hSw
          have s0 := hSw
          go_simp
        refine wpAnyH_take (i := 9) (v := .pointer (some ⟨lb, lo + k, none⟩)) rfl (by kernel_rfl) (by kernel_rfl) (by kernel_rfl) (fun _ _ _ h => h) (Or.inl ⟨by rfl, ?_⟩) hHeld ?_
        · intro w9 hSw
          have s0 := hSw
          go_simp
        refine wpAnyH_take (i := 10) (v := .string f) rfl (by kernel_rfl) (by kernel_rfl) (by kernel_rfl) (fun _ _ _ h => h) (Or.inl ⟨by rfl, ?_⟩) hHeld ?_
        · intro w9 hSw
          have s0 := hSw
          go_simp
        simp only [Act.put, setIfInBounds_toArray, set_cons_zero, set_cons_succ]
        refine wpAnyH_take (i := 11) (v := .int .u8 (y0 : Int)) rfl (by kernel_rfl) (by kernel_rfl) (by kernel_rfl) (fun _ _ _ h => h) (Or.inl ⟨by rfl, ?_⟩) hHeld ?_
        · intro w9 hSw
          have s0 := hSw
          go_simp
        refine wpAnyH_take (i := 12) (v := .int .i64 (y0 : Int)) rfl (by kernel_rfl) (by kernel_rfl) (by kernel_rfl) (fun _ _ _ h => h) (Or.inl ⟨by rfl, ?_⟩) hHeld ?_
        · intro w9 hSw
          have s0 := hSw
          go_simp
        refine wpAnyH_take (i := 13) (v := .int .i64 ((y0 : Int) - 1)) rfl (by kernel_rfl) (by kernel_rfl) (by kernel_rfl) (fun _ _ _ h => h) (Or.inl ⟨by rfl, ?_⟩) hHeld ?_
        · intro w9 hSw
          have s0 := hSw
          go_simp
        refine wpAnyH_take (i := 14) (v := .slice (some ⟨lb, lo, none⟩) m lc) rfl (by kernel_rfl) (by kernel_rfl) (by kernel_rfl) (fun _ _ _ h => h) (Or.inl ⟨by rfl, ?_⟩) hHeld ?_
        · intro w9 hSw
          have s0 := hSw
          go_simp
        refine wpAnyH_take (i := 15) (v := .int .i64 (k : Int)) rfl (by kernel_rfl) (by kernel_rfl) (by kernel_rfl) (fun _ _ _ h => h) (Or.inl ⟨by rfl, ?_⟩) hHeld ?_
        · intro w9 hSw
          have s0 := hSw
          go_simp
        simp only [Act.put, setIfInBounds_toArray, set_cons_zero, set_cons_succ]
        refine wpAnyH_take (i := 16) (v := .pointer (some ⟨lb, lo + k, none⟩)) rfl (by kernel_rfl) (by kernel_rfl) (by kernel_rfl) (fun _ _ _ h => h) (Or.inl ⟨by rfl, ?_⟩) hHeld ?_
        · intro w9 hSw
          have s0 := hSw
          go_simp
        refine wpAnyH_take (i := 17) (v := .string f) rfl (by kernel_rfl) (by kernel_rfl) (by kernel_rfl) (fun _ _ _ h => h) (Or.inl ⟨by rfl, ?_⟩) hHeld ?_
        · intro w9 hSw
          have s0 := hSw
          go_simp
        refine wpAnyH_take (i := 18) (v := .string h) rfl (by kernel_rfl) (by kernel_rfl) (by kernel_rfl) (fun _ _ _ h => h) (Or.inl ⟨by rfl, ?_⟩) hHeld ?_
        · intro w9 hSw
          have s0 := hSw
          go_simp
        simp only [Act.put, setIfInBounds_toArray, set_cons_zero, set_cons_succ]
        have BA : Hid (Below w2.heap.size w2 (wr.alloc (.cells #[.string g, .int .i64 ((y0 : Int) - 1), .int .i64 (tk : Int)] 122)).drew) := (hb.out.alloc hb.out.size _).drew
        have XA : Hid (Box (wr.alloc (.cells #[.string g, .int .i64 ((y0 : Int) - 1), .int .i64 (tk : Int)] 122)).drew w2.heap.size [.int .i64 (x1 : Int), .int .i64 ((x2 : Int) - 1), .slice ua k uc]) := hx.out.old _
        refine wpAnyH_ready (rs := [1, 19]) (by kernel_rfl) (by simp) ?_
        refine AllReadyH.cons rfl (fun K hK => ?_) (AllReadyH.cons rfl (fun K hK => ?_) AllReadyH.nil)
        · skip
          go_simp
          refine hK.out _ _ e1 (fun hHeld => ?_)
          clear hK K
          refine wpAnyH_ready (rs := [19]) (by kernel_rfl) (by simp) ?_
          refine AllReadyH.cons rfl (fun K hK => ?_) AllReadyH.nil
          go_simp
          refine (LOF.out _).mono ?_
          rintro e w3 ⟨rfl, hw3⟩
          obtain rfl := hw3
          dsimp only
          refine hK.out _ _ e1 (fun hHeld => ?_)
          clear hK K
          refine wpAnyH_take (i := 20) (v := .agg #[.string g, .int .i64 ((y0 : Int) - 1), .int .i64 (tk : Int)]) rfl (by kernel_rfl) (by kernel_rfl) (by kernel_rfl) (fun _ _ _ h => h) (Or.inl ⟨by rfl, ?_⟩) hHeld ?_
          · intro w9 hSw
            have s0 := hSw
            go_simp
          simp only [Act.put, setIfInBounds_toArray, set_cons_zero, set_cons_succ]
          refine wpAnyH_ready (rs := [21]) (by kernel_rfl) (by simp) ?_
          refine AllReadyH.cons rfl (fun K hK => ?_) AllReadyH.nil
          go_simp
          clear e1
          have e1 := EC.out _ BA.out
          refine hK.out _ _ e1 (fun hHeld => ?_)
          clear hK K
          clear e0
          refine wpAnyH_ready (rs := [22]) (by kernel_rfl) (by simp) ?_
          refine AllReadyH.cons rfl (fun K hK => ?_) AllReadyH.nil
          refine step_append_src rfl (.tmp 60) (.tmp 80) 40 rfl w2.heap.size 122 (.agg #[.string ⟨#[]⟩, .int .i64 0, .int .i64 0]) 3 32 Tryz.underlying40 infoSn rfl (by decide) (by decide) (.slice ua k uc) k (cellsSn ((l.map snapOf).take k)) (by simp [Act.eval]) (show World.ownsRow (wr.alloc (.cells #[.string g, .int .i64 ((y0 : Int) - 1), .int .i64 (tk : Int)] 122)).drew _ _ _ _ _ _ from ho.out.alloc _) ⟨wr.heap.size, 0, none⟩ 1 1 (cellsSn [(g, (y0 : Int) - 1, (tk : Int))]) (by simp [Act.eval]) rfl (show Src (wr.alloc (.cells #[.string g, .int .i64 ((y0 : Int) - 1), .int .i64 (tk : Int)] 122)) _ _ from src_oneSn rfl) (cellsSn_one _) (by omega) (by decide) BA.out.size ?_
          intro v' w' hown hgrow hnew
          obtain ⟨b', d', rfl, _, _⟩ := own_src hown
          have XG : Hid (Box w' w2.heap.size [.int .i64 (x1 : Int), .int .i64 ((x2 : Int) - 1), .slice ua k uc]) := Box.grown XA.out hgrow (fun e => hn.out _ e rfl)
          have OG : Hid (w'.ownsRow w2.heap.size 122 3 (.slice b' (k + 1) d') (k + 1) (cellsSn ((l.map snapOf).take (k + 1)))) := by rw [NX.out, cellsSn_append]; exact hown
          have BG : Hid (Below w2.heap.size w2 w') := BA.out.grown hgrow BA.out.size (fun g e => (RLT.out g e).1)
          have NG : Hid (∀ g, Value.ownBlock (.slice b' (k + 1) d') = some g → g ≠ w2.heap.size) := fun gg e => by
            rcases hnew with h9 | h9
            · rw [h9] at e; exact hn.out gg e
            · have h8 := h9 gg e; have h7 := ZX.out; have h6 : (wr.alloc (.cells #[.string g, .int .i64 ((y0 : Int) - 1), .int .i64 (tk : Int)] 122)).drew.heap.size = wr.heap.size + 1 := by simp
              omega
          clear hown hgrow hnew e1
          obtain ⟨e0, ef⟩ := XG.out 2 _ rfl
          have e1 := EC.out _ BG.out
          refine hK.out _ _ e1 (fun hHeld => ?_)
          clear hK K
          have XF : Hid (Box (w'.setCell ⟨w2.heap.size, 2, none⟩ (.slice b' (k + 1) d')) w2.heap.size [.int .i64 (x1 : Int), .int .i64 ((x2 : Int) - 1), .slice b' (k + 1) d']) := XG.out.set 2 _
          have BF : Hid (Below w2.heap.size w2 (w'.setCell ⟨w2.heap.size, 2, none⟩ (.slice b' (k + 1) d'))) := BG.out.setCell ZW.out _
          have OF : Hid ((w'.setCell ⟨w2.heap.size, 2, none⟩ (.slice b' (k + 1) d')).ownsRow w2.heap.size 122 3 (.slice b' (k + 1) d') (k + 1) (cellsSn ((l.map snapOf).take (k + 1)))) := own_setOther OG.out (fun e => NG.out _ e rfl) _
          refine wpAnyH_take (i := 23) (v := .pointer (some ⟨w2.heap.size, 2, none⟩)) rfl (by kernel_rfl) (by kernel_rfl) (by kernel_rfl) (fun _ _ _ h => h) (Or.inl ⟨by rfl, ?_⟩) hHeld ?_
          · intro w9 hSw
            have s0 := hSw
            go_simp
          simp only [Act.put, setIfInBounds_toArray, set_cons_zero, set_cons_succ]
          refine wpAnyH_ready (rs := [24]) (by kernel_rfl) (by simp) ?_
          refine AllReadyH.cons rfl (fun K hK => ?_) AllReadyH.nil
          go_simp
          clear e0 ef e1
          have e1 := EC.out _ BF.out
          refine hK.out _ _ e1 (fun hHeld => ?_)
          clear hK K
          refine wpAnyH_done (by kernel_rfl) ?_ _
          refine NoPanic.normal ?_
          clear e1
          go_wp2_with fail
          exact ⟨⟨k + 1, _, by omega, by go_num, BF.out, XF.out, OF.out, NG.out, GN.out⟩, by simp [intOf]; omega⟩
        · skip
          go_simp
          refine (LOF.out _).mono ?_
          rintro e w3 ⟨rfl, hw3⟩
          obtain rfl := hw3
          dsimp only
          refine hK.out _ _ e1 (fun hHeld => ?_)
          clear hK K
          refine wpAnyH_take (i := 20) (v := .agg #[.string g, .int .i64 ((y0 : Int) - 1), .int .i64 (tk : Int)]) rfl (by kernel_rfl) (by kernel_rfl) (by kernel_rfl) (fun _ _ _ h => h) (Or.inl ⟨by rfl, ?_⟩) hHeld ?_
          · intro w9 hSw
            have s0 := hSw
            go_simp
          simp only [Act.put, setIfInBounds_toArray, set_cons_zero, set_cons_succ]
          refine wpAnyH_ready (rs := [1, 21]) (by kernel_rfl) (by simp) ?_
          refine AllReadyH.cons rfl (fun K hK => ?_) (AllReadyH.cons rfl (fun K hK => ?_) AllReadyH.nil)
          · skip
            go_simp
            refine hK.out _ _ e1 (fun hHeld => ?_)
            clear hK K
            refine wpAnyH_ready (rs := [21]) (by kernel_rfl) (by simp) ?_
            refine AllReadyH.cons rfl (fun K hK => ?_) AllReadyH.nil
            go_simp
            clear e1
            have e1 := EC.out _ BA.out
            refine hK.out _ _ e1 (fun hHeld => ?_)
            clear hK K
            clear e0
            refine wpAnyH_ready (rs := [22]) (by kernel_rfl) (by simp) ?_
            refine AllReadyH.cons rfl (fun K hK => ?_) AllReadyH.nil
            refine step_append_src rfl (.tmp 60) (.tmp 80) 40 rfl w2.heap.size 122 (.agg #[.string ⟨#[]⟩, .int .i64 0, .int .i64 0]) 3 32 Tryz.underlying40 infoSn rfl (by decide) (by decide) (.slice ua k uc) k (cellsSn ((l.map snapOf).take k)) (by simp [Act.eval]) (show World.ownsRow (wr.alloc (.cells #[.string g, .int .i64 ((y0 : Int) - 1), .int .i64 (tk : Int)] 122)).drew _ _ _ _ _ _ from ho.out.alloc _) ⟨wr.heap.size, 0, none⟩ 1 1 (cellsSn [(g, (y0 : Int) - 1, (tk : Int))]) (by simp [Act.eval]) rfl (show Src (wr.alloc (.cells #[.string g, .int .i64 ((y0 : Int) - 1), .int .i64 (tk : Int)] 122)) _ _ from src_oneSn rfl) (cellsSn_one _) (by omega) (by decide) BA.out.size ?_
            intro v' w' hown hgrow hnew
            obtain ⟨b', d', rfl, _, _⟩ := own_src hown
            have XG : Hid (Box w' w2.heap.size [.int .i64 (x1 : Int), .int .i64 ((x2 : Int) - 1), .slice ua k uc]) := Box.grown XA.out hgrow (fun e => hn.out _ e rfl)
            have OG : Hid (w'.ownsRow w2.heap.size 122 3 (.slice b' (k + 1) d') (k + 1) (cellsSn ((l.map snapOf).take (k + 1)))) := by rw [NX.out, cellsSn_append]; exact hown
            have BG : Hid (Below w2.heap.size w2 w') := BA.out.grown hgrow BA.out.size (fun g e => (RLT.out g e).1)
            have NG : Hid (∀ g, Value.ownBlock (.slice b' (k + 1) d') = some g → g ≠ w2.heap.size) := fun gg e => by
              rcases hnew with h9 | h9
              · rw [h9] at e; exact hn.out gg e
              · have h8 := h9 gg e; have h7 := ZX.out; have h6 : (wr.alloc (.cells #[.string g, .int .i64 ((y0 : Int) - 1), .int .i64 (tk : Int)] 122)).drew.heap.size = wr.heap.size + 1 := by simp
                omega
            clear hown hgrow hnew e1
            obtain ⟨e0, ef⟩ := XG.out 2 _ rfl
            have e1 := EC.out _ BG.out
            refine hK.out _ _ e1 (fun hHeld => ?_)
            clear hK K
            have XF : Hid (Box (w'.setCell ⟨w2.heap.size, 2, none⟩ (.slice b' (k + 1) d')) w2.heap.size [.int .i64 (x1 : Int), .int .i64 ((x2 : Int) - 1), .slice b' (k + 1) d']) := XG.out.set 2 _
            have BF : Hid (Below w2.heap.size w2 (w'.setCell ⟨w2.heap.size, 2, none⟩ (.slice b' (k + 1) d'))) := BG.out.setCell ZW.out _
            have OF : Hid ((w'.setCell ⟨w2.heap.size, 2, none⟩ (.slice b' (k + 1) d')).ownsRow w2.heap.size 122 3 (.slice b' (k + 1) d') (k + 1) (cellsSn ((l.map snapOf).take (k + 1)))) := own_setOther OG.out (fun e => NG.out _ e rfl) _
            refine wpAnyH_take (i := 23) (v := .pointer (some ⟨w2.heap.size, 2, none⟩)) rfl (by kernel_rfl) (by kernel_rfl) (by kernel_rfl) (fun _ _ _ h => h) (Or.inl ⟨by rfl, ?_⟩) hHeld ?_
            · intro w9 hSw
              have s0 := hSw
              go_simp
            simp only [Act.put, setIfInBounds_toArray, set_cons_zero, set_cons_succ]
            refine wpAnyH_ready (rs := [24]) (by kernel_rfl) (by simp) ?_
            refine AllReadyH.cons rfl (fun K hK => ?_) AllReadyH.nil
            go_simp
            clear e0 ef e1
            have e1 := EC.out _ BF.out
            refine hK.out _ _ e1 (fun hHeld => ?_)
            clear hK K
            refine wpAnyH_done (by kernel_rfl) ?_ _
            refine NoPanic.normal ?_
            clear e1
            go_wp2_with fail
            exact ⟨⟨k + 1, _, by omega, by go_num, BF.out, XF.out, OF.out, NG.out, GN.out⟩, by simp [intOf]; omega⟩
          · skip
            go_simp
            clear e1
            have e1 := EC.out _ BA.out
            refine hK.out _ _ e1 (fun hHeld => ?_)
            clear hK K
            clear e0
            obtain ⟨e0, _⟩ := XA.out 2 _ rfl
            refine wpAnyH_ready (rs := [1]) (by kernel_rfl) (by simp) ?_
            refine AllReadyH.cons rfl (fun K hK => ?_) AllReadyH.nil
            go_simp
            refine hK.out _ _ e1 (fun hHeld => ?_)
            clear hK K
            clear e0
            refine wpAnyH_ready (rs := [22]) (by kernel_rfl) (by simp) ?_
            refine AllReadyH.cons rfl (fun K hK => ?_) AllReadyH.nil
            refine step_append_src rfl (.tmp 60) (.tmp 80) 40 rfl w2.heap.size 122 (.agg #[.string ⟨#[]⟩, .int .i64 0, .int .i64 0]) 3 32 Tryz.underlying40 infoSn rfl (by decide) (by decide) (.slice ua k uc) k (cellsSn ((l.map snapOf).take k)) (by simp [Act.eval]) (show World.ownsRow (wr.alloc (.cells #[.string g, .int .i64 ((y0 : Int) - 1), .int .i64 (tk : Int)] 122)).drew _ _ _ _ _ _ from ho.out.alloc _) ⟨wr.heap.size, 0, none⟩ 1 1 (cellsSn [(g, (y0 : Int) - 1, (tk : Int))]) (by simp [Act.eval]) rfl (show Src (wr.alloc (.cells #[.string g, .int .i64 ((y0 : Int) - 1), .int .i64 (tk : Int)] 122)) _ _ from src_oneSn rfl) (cellsSn_one _) (by omega) (by decide) BA.out.size ?_
            intro v' w' hown hgrow hnew
            obtain ⟨b', d', rfl, _, _⟩ := own_src hown
            have XG : Hid (Box w' w2.heap.size [.int .i64 (x1 : Int), .int .i64 ((x2 : Int) - 1), .slice ua k uc]) := Box.grown XA.out hgrow (fun e => hn.out _ e rfl)
            have OG : Hid (w'.ownsRow w2.heap.size 122 3 (.slice b' (k + 1) d') (k + 1) (cellsSn ((l.map snapOf).take (k + 1)))) := by rw [NX.out, cellsSn_append]; exact hown
            have BG : Hid (Below w2.heap.size w2 w') := BA.out.grown hgrow BA.out.size (fun g e => (RLT.out g e).1)
            have NG : Hid (∀ g, Value.ownBlock (.slice b' (k + 1) d') = some g → g ≠ w2.heap.size) := fun gg e => by
              rcases hnew with h9 | h9
              · rw [h9] at e; exact hn.out gg e
              · have h8 := h9 gg e; have h7 := ZX.out; have h6 : (wr.alloc (.cells #[.string g, .int .i64 ((y0 : Int) - 1), .int .i64 (tk : Int)] 122)).drew.heap.size = wr.heap.size + 1 := by simp
                omega
            clear hown hgrow hnew e1
            obtain ⟨e0, ef⟩ := XG.out 2 _ rfl
            have e1 := EC.out _ BG.out
            refine hK.out _ _ e1 (fun hHeld => ?_)
            clear hK K
            have XF : Hid (Box (w'.setCell ⟨w2.heap.size, 2, none⟩ (.slice b' (k + 1) d')) w2.heap.size [.int .i64 (x1 : Int), .int .i64 ((x2 : Int) - 1), .slice b' (k + 1) d']) := XG.out.set 2 _
            have BF : Hid (Below w2.heap.size w2 (w'.setCell ⟨w2.heap.size, 2, none⟩ (.slice b' (k + 1) d'))) := BG.out.setCell ZW.out _
            have OF : Hid ((w'.setCell ⟨w2.heap.size, 2, none⟩ (.slice b' (k + 1) d')).ownsRow w2.heap.size 122 3 (.slice b' (k + 1) d') (k + 1) (cellsSn ((l.map snapOf).take (k + 1)))) := own_setOther OG.out (fun e => NG.out _ e rfl) _
            refine wpAnyH_take (i := 23) (v := .pointer (some ⟨w2.heap.size, 2, none⟩)) rfl (by kernel_rfl) (by kernel_rfl) (by kernel_rfl) (fun _ _ _ h => h) (Or.inl ⟨by rfl, ?_⟩) hHeld ?_
            · intro w9 hSw
              have s0 := hSw
              go_simp
            simp only [Act.put, setIfInBounds_toArray, set_cons_zero, set_cons_succ]
            refine wpAnyH_ready (rs := [24]) (by kernel_rfl) (by simp) ?_
            refine AllReadyH.cons rfl (fun K hK => ?_) AllReadyH.nil
            go_simp
            clear e0 ef e1
            have e1 := EC.out _ BF.out
            refine hK.out _ _ e1 (fun hHeld => ?_)
            clear hK K
            refine wpAnyH_done (by kernel_rfl) ?_ _
            refine NoPanic.normal ?_
            clear e1
            go_wp2_with fail
            exact ⟨⟨k + 1, _, by omega, by go_num, BF.out, XF.out, OF.out, NG.out, GN.out⟩, by simp [intOf]; omega⟩
      · have hkm : k = m := by omega
        have EL : Hid ((l.map snapOf).length = k) := by show _ = _; rw [List.length_map, HM.out, hkm]
        have FO : Hid (OwnsU wr w2.heap.size wr.heap.size (.agg #[.int .i64 (x1 : Int), .int .i64 ((x2 : Int) - 1), .slice ua k uc]) ⟨(x1 : Int), (x2 : Int) - 1, l.map snapOf⟩) := by
          refine ⟨_, rfl, OwnsR.mk ?_ (Nat.le_refl _)⟩
          have h9 := ho.out
          rw [List.take_of_length_le (by rw [List.length_map, HM.out]; omega)] at h9
          show wr.ownsRow _ _ _ _ (l.map snapOf).length _
          rw [EL.out]
          exact h9
        have F0 : Hid (superA (bodyB (bytesOf s)) = some ⟨(x1 : Int), (x2 : Int) - 1, l.map snapOf⟩) := by
          show _ = _
          rw [HB.out]
          unfold superA
          rw [if_neg NF.out, RF.out, if_neg (by simp), HX.out.2.1, HX.out.2.2, if_neg]
          rintro ⟨f, hf, h9⟩
          refine hg.out f ?_ h9
          rw [List.take_of_length_le (by rw [HM.out]; omega)]
          exact hf
        have SM : Hid (smallU ⟨(x1 : Int), (x2 : Int) - 1, l.map snapOf⟩) := by
          refine ⟨by show (l.map snapOf).length ≤ _; rw [EL.out]; omega, fun x hx => ?_⟩
          obtain ⟨f, hf, rfl⟩ := List.mem_map.1 hx
          show (f.extract 3 f.size).size ≤ _
          rw [ByteArray.size_extract]
          have h9 := rf_sizes RF.out f hf
          omega
        have hkm2 : ¬ (k : Int) < (m : Int) := by omega
        clear hkm
        obtain ⟨ok, hok⟩ : ∃ b, okU ⟨(x1 : Int), (x2 : Int) - 1, l.map snapOf⟩ = b := ⟨_, rfl⟩
        have SOK : Hid (∀ w9, Below wr.heap.size wr w9 → Calls Tryz.prog 33 #[.agg #[.int .i64 (x1 : Int), .int .i64 ((x2 : Int) - 1), .slice ua k uc]] w9 fun e w' => e = .returned (.bool ok) ∧ Below w9.heap.size w9 w') := fun w9 hb9 => by
          have h9 := specSuperOK _ _ w9 SM.out (FO.out.reads.below hb9)
          rw [hok] at h9
          exact h9
        have HOK : Hid (okU ⟨(x1 : Int), (x2 : Int) - 1, l.map snapOf⟩ = ok) := hok
        clear hok
        have X9 : Hid (Box wr w.heap.size [.int .i64 0, .int .i64 0, .slice none 0 0]) := X2.out.below hb.out
        obtain ⟨e0, _⟩ := hx.out 0 _ rfl
        obtain ⟨e1, _⟩ := hx.out 1 _ rfl
        obtain ⟨e2, _⟩ := hx.out 2 _ rfl
        go_wp2_with fail
        refine wp_region_noPanic ?_
        refine wp_region_held_drew (S := (fun w' => w'.cell? ⟨w2.heap.size, 0, none⟩ = some (.int .i64 (x1 : Int)) ∧ w'.cell? ⟨w2.heap.size, 1, none⟩ = some (.int .i64 ((x2 : Int) - 1)) ∧ w'.cell? ⟨w2.heap.size, 2, none⟩ = some (.slice ua k uc))) (by kernel_rfl) ⟨e0, e1, e2⟩ (fun hHeld => ?_)
        refine wpAnyH_take (i := 0) (v := .agg #[.int .i64 (x1 : Int), .int .i64 ((x2 : Int) - 1), .slice ua k uc]) rfl (by kernel_rfl) (by kernel_rfl) (by kernel_rfl) (fun _ _ _ h => h) (Or.inl ⟨by rfl, ?_⟩) hHeld ?_
        · intro w9 hSw
          obtain ⟨s0, s1, s2⟩ := hSw
          go_simp
        refine wpAnyH_take (i := 1) (v := .agg #[.int .i64 (x1 : Int), .int .i64 ((x2 : Int) - 1), .slice ua k uc]) rfl (by kernel_rfl) (by kernel_rfl) (by kernel_rfl) (fun _ _ _ h => h) (Or.inl ⟨by rfl, ?_⟩) hHeld ?_
        · intro w9 hSw
          obtain ⟨s0, s1, s2⟩ := hSw
          go_simp
        simp only [Act.put, setIfInBounds_toArray, set_cons_zero, set_cons_succ]
        refine wpAnyH_ready (rs := [2]) (by kernel_rfl) (by simp) ?_
        refine AllReadyH.cons rfl (fun K hK => ?_) AllReadyH.nil
        go_simp
        refine (SOK.out _ ((Below.refl _ _).drew)).mono ?_
        rintro e w4 ⟨rfl, hb4⟩
        dsimp only
        have B4 : Hid (Below w.heap.size w w4) := BT.out.drew.trans (hb4.mono BT.out.size)
        have X4 : Hid (Box w4 w.heap.size [.int .i64 0, .int .i64 0, .slice none 0 0]) := Box.below (w := wr.drew) X9.out hb4
        have Y4 : Hid (Box w4 w2.heap.size [.int .i64 (x1 : Int), .int .i64 ((x2 : Int) - 1), .slice ua k uc]) := Box.below (w := wr.drew) hx.out hb4
        have O4 : Hid (OwnsU w4 w2.heap.size wr.heap.size (.agg #[.int .i64 (x1 : Int), .int .i64 ((x2 : Int) - 1), .slice ua k uc]) ⟨(x1 : Int), (x2 : Int) - 1, l.map snapOf⟩) := OwnsU.below (w := wr.drew) FO.out hb4
        have ZW4 : Hid (wr.heap.size ≤ w4.heap.size) := hb4.size
        clear hb4 e0 e1 e2
        obtain ⟨e0, _⟩ := Y4.out 0 _ rfl
        obtain ⟨e1, _⟩ := Y4.out 1 _ rfl
        obtain ⟨e2, _⟩ := Y4.out 2 _ rfl
        refine hK.out _ _ ⟨e0, e1, e2⟩ (fun hHeld => ?_)
        clear hK K
        obtain ⟨p0, f0⟩ := X4.out 0 _ rfl
        obtain ⟨p1, f1⟩ := (X4.out.set 0 (.int .i64 (x1 : Int))) 1 _ rfl
        obtain ⟨p2, f2⟩ := ((X4.out.set 0 (.int .i64 (x1 : Int))).set 1 (.int .i64 ((x2 : Int) - 1))) 2 _ rfl
        have X5 := ((X4.out.set 0 (.int .i64 (x1 : Int))).set 1 (.int .i64 ((x2 : Int) - 1))).set 2 (.slice ua k uc)
        obtain ⟨r0, _⟩ := X5 0 _ rfl
        obtain ⟨r1, _⟩ := X5 1 _ rfl
        obtain ⟨r2, _⟩ := X5 2 _ rfl
        clear X5
        have YE : Hid (Box (((w4.setCell ⟨w.heap.size, 0, none⟩ (.int .i64 (x1 : Int))).setCell ⟨w.heap.size, 1, none⟩ (.int .i64 ((x2 : Int) - 1))).setCell ⟨w.heap.size, 2, none⟩ (.slice ua k uc)) w2.heap.size [.int .i64 (x1 : Int), .int .i64 ((x2 : Int) - 1), .slice ua k uc]) := ((Y4.out.other _ (by have := ZW.out; have := Z2.out; (try dsimp only); omega) _).other _ (by have := ZW.out; have := Z2.out; (try dsimp only); omega) _).other _ (by have := ZW.out; have := Z2.out; (try dsimp only); omega) _
        have BE : Hid (Below w.heap.size w (((w4.setCell ⟨w.heap.size, 0, none⟩ (.int .i64 (x1 : Int))).setCell ⟨w.heap.size, 1, none⟩ (.int .i64 ((x2 : Int) - 1))).setCell ⟨w.heap.size, 2, none⟩ (.slice ua k uc))) := ((B4.out.setCell (Nat.le_refl _) _).setCell (Nat.le_refl _) _).setCell (Nat.le_refl _) _
        have OE : Hid (OwnsU (((w4.setCell ⟨w.heap.size, 0, none⟩ (.int .i64 (x1 : Int))).setCell ⟨w.heap.size, 1, none⟩ (.int .i64 ((x2 : Int) - 1))).setCell ⟨w.heap.size, 2, none⟩ (.slice ua k uc)) w.heap.size (((w4.setCell ⟨w.heap.size, 0, none⟩ (.int .i64 (x1 : Int))).setCell ⟨w.heap.size, 1, none⟩ (.int .i64 ((x2 : Int) - 1))).setCell ⟨w.heap.size, 2, none⟩ (.slice ua k uc)).heap.size (.agg #[.int .i64 (x1 : Int), .int .i64 ((x2 : Int) - 1), .slice ua k uc]) ⟨(x1 : Int), (x2 : Int) - 1, l.map snapOf⟩) := by
          obtain ⟨v9, e9, h9⟩ := O4.out
          refine ⟨v9, e9, OwnsR.mk (own_mono (own_setLow (own_setLow (own_setLow h9.1 ?_ _) ?_ _) ?_ _) ?_) (Nat.le_refl _)⟩
          all_goals (have := Z2.out; (try dsimp only); omega)
        refine wpAnyH_ready (rs := [3]) (by kernel_rfl) (by simp) ?_
        refine AllReadyH.cons rfl (fun K hK => ?_) AllReadyH.nil
        go_simp
        clear e0 e1 e2
        obtain ⟨e0, _⟩ := YE.out 0 _ rfl
        obtain ⟨e1, _⟩ := YE.out 1 _ rfl
        obtain ⟨e2, _⟩ := YE.out 2 _ rfl
        refine hK.out _ _ ⟨e0, e1, e2⟩ (fun hHeld => ?_)
        clear hK K
        refine wpAnyH_ready (rs := [4]) (by kernel_rfl) (by simp) ?_
        refine AllReadyH.cons rfl (fun K hK => ?_) AllReadyH.nil
        go_simp
        refine hK.out _ _ ⟨e0, e1, e2⟩ (fun hHeld => ?_)
        clear hK K
        refine wpAnyH_done (by kernel_rfl) ?_ _
        refine NoPanic.normal ?_
        clear e0 e1 e2 p0 p1 p2 f0 f1 f2
        cases ok with
        | false =>
          have F : Hid (superR (bytesOf s) = none) := superR_bad F0.out HOK.out
          go_wp2_with fail
          exact bodyPost_ret (v := .tuple #[.agg #[.int .i64 (x1 : Int), .int .i64 ((x2 : Int) - 1), .slice ua k uc], .bool false]) (by simp [results, Tryz.results79, go_sem, r0, r1, r2]) rfl ⟨.inl ⟨F.out, _, _, _, _, _, rfl⟩, BE.out⟩
        | true =>
          have F : Hid (superR (bytesOf s) = some ⟨(x1 : Int), (x2 : Int) - 1, l.map snapOf⟩) := superR_some SE.out F0.out HOK.out
          go_wp2_with fail
          exact bodyPost_ret (v := .tuple #[.agg #[.int .i64 (x1 : Int), .int .i64 ((x2 : Int) - 1), .slice ua k uc], .bool true]) (by simp [results, Tryz.results79, go_sem, r0, r1, r2]) rfl ⟨.inr ⟨_, _, F.out, rfl, OE.out⟩, BE.out⟩
end Go.Proofs.YtnnimocaanofjaaGreatDoor
