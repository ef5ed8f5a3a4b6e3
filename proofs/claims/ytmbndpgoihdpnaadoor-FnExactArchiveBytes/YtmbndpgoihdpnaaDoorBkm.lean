
/-
  The bytes of a backup as lists; kind and parts of the program. By an AI agent.
-/
import Derived.Test.YtmbndpgoihdpnaaDoorBok
import Derived.Test.YtmbndpgoihdpnaaDoorPsum
namespace Go.Proofs.YtmbndpgoihdpnaaDoor
open Go.ChangeShapes Go.WideShapes Go.ChangeAt Go.RowKit Go.Deep
set_option linter.unusedVariables false
set_option linter.unusedSimpArgs false
set_option maxRecDepth 100000

def kindN (d : MDf) : Nat := (if d.2.2.2.1 = true then 1 else 0) + (if d.2.2.2.2 = true then 2 else 0)
def partB (d : MDf) : List Nat := kindN d :: fieldsB [d.1, d.2.1, d.2.2.1]
def partsB (M : List MDf) : List Nat := M.flatMap partB
def headB (D : BM) : List Nat := numQ D.C.toNat ++ fieldsB [D.F, D.T]
def linkN (D : BM) : Nat := sumL (headB D ++ partsB D.D ++ numQ D.S.toNat)
def bytesK (D : BM) : List Nat := [98, 97, 99, 107, 117, 112] ++ headB D ++ [D.D.length % 256] ++ partsB D.D ++ numQ D.S.toNat ++ numQ (linkN D)
/-- What BackupBytes answers. -/
def bkA (D : BM) : List Nat × Int := if okK D = true then (bytesK D, 0) else ([], 1)
theorem partsB_snoc {M : List MDf} {k : Nat} {x : MDf} (hk : k < M.length) (h : M.getD k df0 = x) : partsB (M.take (k + 1)) = partsB (M.take k) ++ partB x := by
  rw [List.getD_eq_getElem?_getD, List.getElem?_eq_getElem hk] at h
  have h2 : M[k] = x := h
  rw [List.take_succ_eq_append_getElem hk, h2]
  simp [partsB]
theorem three_len (x y z : ByteArray) : (fieldsB [x, y, z]).length = 7 + x.size + y.size + z.size := by
  unfold fieldsB
  simp [fieldB_length]; omega
theorem partB_len (x : MDf) : (partB x).length = 8 + x.1.size + x.2.1.size + x.2.2.1.size := by
  unfold partB
  rw [List.length_cons, three_len]; omega
theorem partsB_len (M : List MDf) (k : Nat) (hs : ∀ p ∈ M, p.1.size ≤ 90 ∧ p.2.1.size ≤ 90 ∧ p.2.2.1.size ≤ 90) : (partsB (M.take k)).length ≤ k * 278 := by
  induction k with
  | zero => simp [partsB]
  | succ k ih =>
    by_cases hk : k < M.length
    · rw [partsB_snoc (x := M.getD k df0) hk rfl, List.length_append, partB_len]
      have h9 := hs _ (mem_getDK M df0 k hk)
      omega
    · rw [List.take_of_length_le (by omega)] at ih ⊢
      omega
theorem kind_le (d : MDf) : kindN d ≤ 3 := by unfold kindN; split <;> split <;> omega
theorem partsB_lt (M : List MDf) : ∀ x ∈ partsB M, x < 256 := by
  intro x hx
  unfold partsB at hx
  rw [List.mem_flatMap] at hx
  obtain ⟨p, _, h⟩ := hx
  unfold partB at h
  rw [List.mem_cons] at h
  rcases h with rfl | h
  · have := kind_le p; omega
  · exact fieldsB_ltP _ x h
theorem form_fit {d : MDf} (h : formB d = true) : d.1.size ≤ 90 ∧ d.2.1.size ≤ 90 ∧ d.2.2.1.size ≤ 90 := by
  obtain ⟨x0, x1, x2, x3, x4⟩ := d
  rw [formB_of] at h
  simp only [Bool.and_eq_true] at h
  obtain ⟨⟨⟨h1, h2⟩, h3⟩, _⟩ := h
  unfold keyB at h1
  simp only [Bool.and_eq_true, decide_eq_true_eq] at h1
  have f2 : x1.size ≤ 90 := by unfold sideB at h2; split at h2 <;> (simp only [decide_eq_true_eq] at h2; omega)
  have f3 : x2.size ≤ 90 := by unfold sideB at h3; split at h3 <;> (simp only [decide_eq_true_eq] at h3; omega)
  exact ⟨by show x0.size ≤ 90; omega, f2, f3⟩
theorem okK_facts {D : BM} (h : okK D = true) : (0 ≤ D.C ∧ D.C ≤ 4294967295) ∧ (0 ≤ D.S ∧ D.S ≤ 4294967295) ∧ D.F.size ≤ 8 ∧ D.T.size ≤ 8 ∧ D.D.length ≤ 120 ∧ ∀ p ∈ D.D, p.1.size ≤ 90 ∧ p.2.1.size ≤ 90 ∧ p.2.2.1.size ≤ 90 := by
  unfold okK at h
  simp only [Bool.and_eq_true, decide_eq_true_eq] at h
  obtain ⟨⟨⟨h1, h2⟩, h3⟩, h4⟩ := h
  unfold followsB at h1
  simp only [Bool.and_eq_true] at h1
  have sh : ∀ s : ByteArray, shortB s = true → s.size ≤ 8 := fun s hs => by
    unfold shortB at hs
    simp only [Bool.and_eq_true, decide_eq_true_eq] at hs
    omega
  unfold u32B at h2
  simp only [decide_eq_true_eq] at h2
  refine ⟨?_, h2, ?_, sh _ h1.1, h3, fun p hp => ?_⟩
  · have h5 := h1.2
    split at h5
    · simp only [decide_eq_true_eq] at h5; omega
    · simp only [Bool.and_eq_true] at h5
      have h6 := h5.2
      unfold u32B at h6
      simp only [decide_eq_true_eq] at h6
      exact h6
  · have h5 := h1.2
    split at h5
    · omega
    · simp only [Bool.and_eq_true] at h5
      exact sh _ h5.1
  · obtain ⟨i, hi, rfl⟩ := List.getElem_of_mem hp
    unfold difsB at h4
    rw [List.all_eq_true] at h4
    have h5 := h4 i (List.mem_range.2 hi)
    unfold difB at h5
    simp only [Bool.and_eq_true] at h5
    have h6 := form_fit h5.1
    rw [List.getD_eq_getElem?_getD, List.getElem?_eq_getElem hi] at h6
    exact h6
theorem src_3S {w : World} {s t u : ByteArray} {B ty : Nat} (hB : B = w.heap.size) : Src (w.alloc (.cells #[.string s, .string t, .string u] ty)) (some ⟨B, 0, none⟩) (cellsS [s, t, u]) := by
  have hb : Box (w.alloc (.cells #[.string s, .string t, .string u] ty)) B [.string s, .string t, .string u] := Box.new hB
  refine .inr ⟨B, 0, rfl, fun j hj => ?_⟩
  have hj4 : j < 3 := hj
  rw [Nat.zero_add]
  match j, hj4 with
  | 0, _ => exact (hb 0 _ rfl).1
  | 1, _ => exact (hb 1 _ rfl).1
  | 2, _ => exact (hb 2 _ rfl).1

theorem diffKind (x0 x1 x2 : ByteArray) (x3 x4 : Bool) (w : World) :
    Calls Tryd.prog 74 #[.agg #[.string x0, .string x1, .string x2, .bool x3, .bool x4]] w fun e w' => e = .returned (.int .u8 ((kindN (x0, x1, x2, x3, x4) : Nat) : Int)) ∧ Below w.heap.size w w' := by
  cases x3 <;> cases x4
  all_goals
    go_enter Tryd.func74, Tryd.ntmps74
    go_wp2_with fail
    go_ret
    exact ⟨by first | rfl | decide, (Below.refl _ _).alloc (Nat.le_refl _) _⟩

set_option maxHeartbeats 2000000 in
theorem backupParts (F T : ByteArray) (C S : Int) (a : Option Addr) (n c : Nat) (M : List MDf) (w : World) (hM : M.length = n) (hn : n ≤ 120) (hs : ∀ p ∈ M, p.1.size ≤ 90 ∧ p.2.1.size ≤ 90 ∧ p.2.2.1.size ≤ 90) (h : Src w a (cellsDf M)) :
    Calls Tryd.prog 45 #[.agg #[.string F, .string T, .int .i64 C, .slice a n c, .int .i64 S]] w fun e w' => ∃ v, e = .returned v ∧ w'.ownsRow (w.heap.size + 1) 5 1 v (partsB M).length (cellsB (partsB M)) ∧ Below w.heap.size w w' := by
  have HS : Hid (∀ p ∈ M, p.1.size ≤ 90 ∧ p.2.1.size ≤ 90 ∧ p.2.2.1.size ≤ 90) := hs
  have HH : Hid (Src w a (cellsDf M)) := h
  have HM : Hid (M.length = n) := hM
  clear hs h hM
  go_enter Tryd.func45, Tryd.ntmps45
  go_wp2_with fail
  go_loopw [3, 9] (fun v i wr => ∃ (k : Nat), k ≤ n ∧ i = .int .i64 k ∧ Hid (Below w.heap.size w wr) ∧ Hid (Box wr w.heap.size [.string F, .string T, .int .i64 C, .slice a n c, .int .i64 S]) ∧ Hid (wr.ownsRow (w.heap.size + 1) 5 1 v (partsB (M.take k)).length (cellsB (partsB (M.take k))))) (fun _ i _ => n - (intOf i).toNat)
  case atStart => exact ⟨0, by omega, rfl, (Below.refl _ _).alloc (Nat.le_refl _) _, Box.new rfl, World.ownsRow_nil _ _ _ _⟩
  case round =>
    obtain ⟨k, hk, rfl, hb, hx, ho⟩ := hrel
    obtain ⟨va, vc, rfl, _, _⟩ := own_src ho.out
    obtain ⟨m, hm⟩ : ∃ m, (partsB (M.take k)).length = m := ⟨_, rfl⟩
    have hm2 : m ≤ 33360 := by rw [← hm]; exact Nat.le_trans (partsB_len M k HS.out) (by omega)
    have HO : Hid (wr.ownsRow (w.heap.size + 1) 5 1 (.slice va m vc) m (cellsB (partsB (M.take k)))) := by rw [← hm]; exact ho.out
    rw [hm]
    have MM : Hid ((partsB (M.take k)).length = m) := hm
    have ZB : Hid (w.heap.size + 1 ≤ wr.heap.size) := World.block_lt_of_cell? _ _ (hx.out 0 _ rfl).1
    clear ho hm
    by_cases hlt : k < n
    · obtain ⟨b, o, x0, x1, x2, x3, x4, rfl, q0, q1, q2, q3, q4, hy⟩ := srcDf (HH.out.below hb.out) (i := k) (by rw [HM.out]; exact hlt)
      have hki : (k : Int) < (n : Int) := by omega
      have hk0 : (0 : Int) ≤ (k : Int) := by omega
      have XY : Hid (x0.size ≤ 90 ∧ x1.size ≤ 90 ∧ x2.size ≤ 90) := by
        have h1 := HS.out _ (mem_getDK M df0 k (by rw [HM.out]; exact hlt))
        rw [hy.out] at h1
        exact h1
      have SN : Hid (partsB (M.take (k + 1)) = partsB (M.take k) ++ partB (x0, x1, x2, x3, x4)) := partsB_snoc (by rw [HM.out]; exact hlt) hy.out
      obtain ⟨kd, hkd⟩ : ∃ x, kindN (x0, x1, x2, x3, x4) = x := ⟨_, rfl⟩
      have KD : Hid (kindN (x0, x1, x2, x3, x4) = kd ∧ kd ≤ 3) := ⟨hkd, by rw [← hkd]; exact kind_le _⟩
      have FL : Hid (∀ z ∈ [x0, x1, x2], z.size ≤ 300) := fun z hz => by
        have h9 := XY.out
        simp at hz
        rcases hz with rfl | rfl | rfl <;> omega
      obtain ⟨q, hq⟩ : ∃ q, (fieldsB [x0, x1, x2]).length = q := ⟨_, rfl⟩
      have Q : Hid ((fieldsB [x0, x1, x2]).length = q) := hq
      have hq2 : q ≤ 277 ∧ 0 < q := by rw [← hq, three_len]; have := XY.out; omega
      clear hq hkd
      have B0 : Hid (Below w.heap.size w (wr.alloc (.cells #[.string x0, .string x1, .string x2, .bool x3, .bool x4] 78))) := hb.out.alloc hb.out.size _
      have X0 : Hid (Box (wr.alloc (.cells #[.string x0, .string x1, .string x2, .bool x3, .bool x4] 78)) w.heap.size [.string F, .string T, .int .i64 C, .slice (some ⟨b, o, none⟩) n c, .int .i64 S]) := hx.out.old _
      have Y0 : Hid (Box (wr.alloc (.cells #[.string x0, .string x1, .string x2, .bool x3, .bool x4] 78)) wr.heap.size [.string x0, .string x1, .string x2, .bool x3, .bool x4]) := Box.new rfl
      have OA : Hid ((wr.alloc (.cells #[.string x0, .string x1, .string x2, .bool x3, .bool x4] 78)).ownsRow (w.heap.size + 1) 5 1 (.slice va m vc) m (cellsB (partsB (M.take k)))) := World.ownsRow.alloc HO.out _
      have NY : Hid (∀ g, Value.ownBlock (.slice va m vc) = some g → g ≠ wr.heap.size) := fun g e => by have := (HO.out.lt g e).2; omega
      go_wp2_with fail
      go_at_call 74
      refine (diffKind x0 x1 x2 x3 x4 _).mono ?_
      rw [KD.out.1]
      rintro e w2 ⟨rfl, hb2⟩
      have B2 : Hid (Below w.heap.size w w2) := B0.out.trans (hb2.mono B0.out.size)
      have X2 : Hid (Box w2 w.heap.size [.string F, .string T, .int .i64 C, .slice (some ⟨b, o, none⟩) n c, .int .i64 S]) := X0.out.below hb2
      have Y2 : Hid (Box w2 wr.heap.size [.string x0, .string x1, .string x2, .bool x3, .bool x4]) := Y0.out.below hb2
      have O2 : Hid (w2.ownsRow (w.heap.size + 1) 5 1 (.slice va m vc) m (cellsB (partsB (M.take k)))) := own_below OA.out hb2
      have Z2 : Hid (w.heap.size + 1 ≤ w2.heap.size) := by have := ZB.out; have := hb2.size; simp at this; show _ ≤ _; omega
      clear hb2 B0 X0 Y0 OA q0 q1 q2 q3 q4
      have hlt3 : Hid (∀ g, Value.ownBlock (.slice va m vc) = some g → w.heap.size + 1 ≤ g) := fun g e => (O2.out.lt g e).1
      go_wp2_with (at_builtin; refine wpList_append_src _ rfl _ _ 34 rfl (w.heap.size + 1) 5 (.int .u8 0) 1 1 Tryd.underlying34 infoB rfl (by decide) (by decide) _ m (cellsB (partsB (M.take k))) rfl (World.ownsRow.alloc O2.out _) (some ⟨w2.heap.size, 0, none⟩) 1 1 (cellsB [kd]) rfl rfl (src_oneB rfl rfl) (cellsB_one _) (by omega) (le_alloc Z2.out _) ?_)
      intro v3 w3 hown3 hgrow3
      obtain ⟨va3, vc3, rfl, _, _⟩ := own_src hown3
      have X3 : Hid (Box w3 w.heap.size [.string F, .string T, .int .i64 C, .slice (some ⟨b, o, none⟩) n c, .int .i64 S]) := Box.grown (X2.out.old _) hgrow3 (fun e => by have := hlt3.out _ e; omega)
      have Y3 : Hid (Box w3 wr.heap.size [.string x0, .string x1, .string x2, .bool x3, .bool x4]) := Box.grown (Y2.out.old _) hgrow3 (fun e => NY.out _ e rfl)
      have O3 : Hid (w3.ownsRow (w.heap.size + 1) 5 1 (.slice va3 (m + 1) vc3) (m + 1) (cellsB (partsB (M.take k) ++ [kd]))) := by rw [cellsB_append]; exact hown3
      have B3 : Hid (Below w.heap.size w w3) := (B2.out.alloc B2.out.size _).grown hgrow3 (by have := B2.out.size; simp; omega) (fun g e => by have := hlt3.out g e; omega)
      have Z3 : Hid (w.heap.size + 1 ≤ w3.heap.size) := World.block_lt_of_cell? _ _ (X3.out 0 _ rfl).1
      clear hown3 hgrow3 O2 X2 Y2 B2 Z2
      obtain ⟨y0, _⟩ := Y3.out 0 _ rfl
      obtain ⟨y1, _⟩ := Y3.out 1 _ rfl
      obtain ⟨y2, _⟩ := Y3.out 2 _ rfl
      have A3 : Hid (Below w3.heap.size w3 (w3.alloc (.cells #[.string x0, .string x1, .string x2] 9))) := (Below.refl _ _).alloc (Nat.le_refl _) _
      go_wp2_with fail
      go_at_call 73
      refine (fieldsOf (some ⟨w3.heap.size, 0, none⟩) 3 3 [x0, x1, x2] _ rfl (by omega) FL.out (src_3S rfl)).mono ?_
      rintro e w4 ⟨v4, rfl, o4, hb4⟩
      have hb5 : Below w3.heap.size w3 w4 := Below.new hb4
      have B4 : Hid (Below w.heap.size w w4) := B3.out.trans (hb5.mono B3.out.size)
      have X4 : Hid (Box w4 w.heap.size [.string F, .string T, .int .i64 C, .slice (some ⟨b, o, none⟩) n c, .int .i64 S]) := X3.out.below hb5
      have O4 : Hid (w4.ownsRow (w.heap.size + 1) 5 1 (.slice va3 (m + 1) vc3) (m + 1) (cellsB (partsB (M.take k) ++ [kd]))) := own_below O3.out hb5
      have Z4 : Hid (w.heap.size + 1 ≤ w4.heap.size) := by have := Z3.out; have := hb5.size; show _ ≤ _; omega
      rw [Q.out] at o4
      obtain ⟨a4, c4, rfl, s4, _⟩ := own_src o4
      have S4 : Hid (Src w4 a4 (cellsB (fieldsB [x0, x1, x2]))) := s4
      have hlt5 : Hid (∀ g, Value.ownBlock (.slice va3 (m + 1) vc3) = some g → w.heap.size + 1 ≤ g) := fun g e => (O4.out.lt g e).1
      clear o4 hb4 hb5 s4 O3 X3 Y3 B3 Z3 y0 y1 y2 A3
      go_wp2_with (at_builtin; refine wpList_append_src _ rfl _ _ 34 rfl (w.heap.size + 1) 5 (.int .u8 0) 1 1 Tryd.underlying34 infoB rfl (by decide) (by decide) _ (m + 1) (cellsB (partsB (M.take k) ++ [kd])) rfl O4.out a4 q c4 (cellsB (fieldsB [x0, x1, x2])) rfl (by rw [cellsB_length, Q.out]; omega) S4.out (cellsB_one _) (by omega) Z4.out ?_)
      intro v5 w5 hown5 hgrow5
      have O5 : Hid (w5.ownsRow (w.heap.size + 1) 5 1 v5 (partsB (M.take (k + 1))).length (cellsB (partsB (M.take (k + 1))))) := by
        have e9 : partsB (M.take (k + 1)) = partsB (M.take k) ++ [kd] ++ fieldsB [x0, x1, x2] := by rw [SN.out]; unfold partB; rw [KD.out.1]; simp
        rw [e9, cellsB_append, List.length_append, List.length_append, MM.out, Q.out]
        exact hown5
      have B5 : Hid (Below w.heap.size w w5) := B4.out.grown hgrow5 B4.out.size (fun g e => by have := hlt5.out g e; omega)
      have X5 : Hid (Box w5 w.heap.size [.string F, .string T, .int .i64 C, .slice (some ⟨b, o, none⟩) n c, .int .i64 S]) := Box.grown X4.out hgrow5 (fun e => by have := hlt5.out _ e; omega)
      clear hown5 hgrow5
      go_wp2_with fail
      exact ⟨⟨k + 1, by omega, by go_num, B5.out, X5.out, O5.out⟩, by simp [intOf]; omega⟩
    · have hkn : k = n := by omega
      have FE : Hid (partsB (M.take k) = partsB M) := by show _ = _; rw [hkn, ← HM.out, List.take_length]
      have FO : Hid (wr.ownsRow (w.heap.size + 1) 5 1 (.slice va m vc) (partsB M).length (cellsB (partsB M))) := by rw [← FE.out, MM.out]; exact HO.out
      clear hkn
      go_wp2_with fail
      go_ret
      exact ⟨.slice va m vc, rfl, FO.out, hb.out⟩
end Go.Proofs.YtmbndpgoihdpnaaDoor
