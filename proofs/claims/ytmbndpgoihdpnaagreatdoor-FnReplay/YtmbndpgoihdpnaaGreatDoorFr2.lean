/-
  Ra2. By an AI agent.
-/
import Derived.Test.YtmbndpgoihdpnaaGreatDoorBok
import Derived.Test.YtmbndpgoihdpnaaGreatDoorRa1
import Derived.Test.YtmbndpgoihdpnaaGreatDoorCuts
import Derived.Test.YtmbndpgoihdpnaaGreatDoorApi
import Derived.Lib.AppendZeros
import Derived.Deep.RegionHeld3
namespace Go.Proofs.YtmbndpgoihdpnaaGreatDoor
open Go.ChangeShapes Go.WideShapes Go.ChangeAt Go.RowKit Go.Deep
set_option linter.unusedVariables false
set_option linter.unusedSimpArgs false
set_option maxRecDepth 100000

def kindN (d : MDf) : Nat := (if d.2.2.2.1 = true then 1 else 0) + (if d.2.2.2.2 = true then 2 else 0)
def partB (d : MDf) : List Nat := kindN d :: fieldsB [d.1, d.2.1, d.2.2.1]
def partsB (M : List MDf) : List Nat := M.flatMap partB
def headB (D : BM) : List Nat := numQ D.C.toNat ++ fieldsB [D.F, D.T]
def linkN (D : BM) : Nat := sumL (headB D ++ partsB D.D ++ numQ D.S.toNat)
def bytesK (D : BM) : List Nat := [98, 97, 99, 107, 117, 112] ++ headB D ++ [D.D.length % 256] ++ partsB D.D ++ numQ D.S.toNat ++ numQ (linkN D)
/-- What BackupBytes answers. -/
def bkA (D : BM) : List Nat × Int := if okK D = true then (bytesK D, 0) else ([], 1)
theorem partsB_snoc {M : List MDf} {k : Nat} {x : MDf} (hk : k < M.length) (h : M.getD k df0 = x) : partsB (M.take (k + 1)) = partsB (M.take k) ++ partB x := by
  rw [List.getD_eq_getElem?_getD, List.getElem?_eq_getElem hk] at h
  have h2 : M[k] = x := h
  rw [List.take_succ_eq_append_getElem hk, h2]
  simp [partsB]
theorem three_len (x y z : ByteArray) : (fieldsB [x, y, z]).length = 7 + x.size + y.size + z.size := by
  unfold fieldsB
  simp [fieldB_length]; omega
theorem partB_len (x : MDf) : (partB x).length = 8 + x.1.size + x.2.1.size + x.2.2.1.size := by
  unfold partB
  rw [List.length_cons, three_len]; omega
theorem partsB_len (M : List MDf) (k : Nat) (hs : ∀ p ∈ M, p.1.size ≤ 90 ∧ p.2.1.size ≤ 90 ∧ p.2.2.1.size ≤ 90) : (partsB (M.take k)).length ≤ k * 278 := by
  induction k with
  | zero => simp [partsB]
  | succ k ih =>
    by_cases hk : k < M.length
    · rw [partsB_snoc (x := M.getD k df0) hk rfl, List.length_append, partB_len]
      have h9 := hs _ (mem_getDK M df0 k hk)
      omega
    · rw [List.take_of_length_le (by omega)] at ih ⊢
      omega
theorem kind_le (d : MDf) : kindN d ≤ 3 := by unfold kindN; split <;> split <;> omega
theorem partsB_lt (M : List MDf) : ∀ x ∈ partsB M, x < 256 := by
  intro x hx
  unfold partsB at hx
  rw [List.mem_flatMap] at hx
  obtain ⟨p, _, h⟩ := hx
  unfold partB at h
  rw [List.mem_cons] at h
  rcases h with rfl | h
  · have := kind_le p; omega
  · exact fieldsB_ltP _ x h
theorem form_fit {d : MDf} (h : formB d = true) : d.1.size ≤ 90 ∧ d.2.1.size ≤ 90 ∧ d.2.2.1.size ≤ 90 := by
  obtain ⟨x0, x1, x2, x3, x4⟩ := d
  rw [formB_of] at h
  simp only [Bool.and_eq_true] at h
  obtain ⟨⟨⟨h1, h2⟩, h3⟩, _⟩ := h
  unfold keyB at h1
  simp only [Bool.and_eq_true, decide_eq_true_eq] at h1
  have f2 : x1.size ≤ 90 := by unfold sideB at h2; split at h2 <;> (simp only [decide_eq_true_eq] at h2; omega)
  have f3 : x2.size ≤ 90 := by unfold sideB at h3; split at h3 <;> (simp only [decide_eq_true_eq] at h3; omega)
  exact ⟨by show x0.size ≤ 90; omega, f2, f3⟩
theorem okK_facts {D : BM} (h : okK D = true) : (0 ≤ D.C ∧ D.C ≤ 4294967295) ∧ (0 ≤ D.S ∧ D.S ≤ 4294967295) ∧ D.F.size ≤ 8 ∧ D.T.size ≤ 8 ∧ D.D.length ≤ 120 ∧ ∀ p ∈ D.D, p.1.size ≤ 90 ∧ p.2.1.size ≤ 90 ∧ p.2.2.1.size ≤ 90 := by
  unfold okK at h
  simp only [Bool.and_eq_true, decide_eq_true_eq] at h
  obtain ⟨⟨⟨h1, h2⟩, h3⟩, h4⟩ := h
  unfold followsB at h1
  simp only [Bool.and_eq_true] at h1
  have sh : ∀ s : ByteArray, shortB s = true → s.size ≤ 8 := fun s hs => by
    unfold shortB at hs
    simp only [Bool.and_eq_true, decide_eq_true_eq] at hs
    omega
  unfold u32B at h2
  simp only [decide_eq_true_eq] at h2
  refine ⟨?_, h2, ?_, sh _ h1.1, h3, fun p hp => ?_⟩
  · have h5 := h1.2
    split at h5
    · simp only [decide_eq_true_eq] at h5; omega
    · simp only [Bool.and_eq_true] at h5
      have h6 := h5.2
      unfold u32B at h6
      simp only [decide_eq_true_eq] at h6
      exact h6
  · have h5 := h1.2
    split at h5
    · omega
    · simp only [Bool.and_eq_true] at h5
      exact sh _ h5.1
  · obtain ⟨i, hi, rfl⟩ := List.getElem_of_mem hp
    unfold difsB at h4
    rw [List.all_eq_true] at h4
    have h5 := h4 i (List.mem_range.2 hi)
    unfold difB at h5
    simp only [Bool.and_eq_true] at h5
    have h6 := form_fit h5.1
    rw [List.getD_eq_getElem?_getD, List.getElem?_eq_getElem hi] at h6
    exact h6
theorem src_3S {w : World} {s t u : ByteArray} {B ty : Nat} (hB : B = w.heap.size) : Src (w.alloc (.cells #[.string s, .string t, .string u] ty)) (some ⟨B, 0, none⟩) (cellsS [s, t, u]) := by
  have hb : Box (w.alloc (.cells #[.string s, .string t, .string u] ty)) B [.string s, .string t, .string u] := Box.new hB
  refine .inr ⟨B, 0, rfl, fun j hj => ?_⟩
  have hj4 : j < 3 := hj
  rw [Nat.zero_add]
  match j, hj4 with
  | 0, _ => exact (hb 0 _ rfl).1
  | 1, _ => exact (hb 1 _ rfl).1
  | 2, _ => exact (hb 2 _ rfl).1

theorem diffKind (x0 x1 x2 : ByteArray) (x3 x4 : Bool) (w : World) :
    Calls Tryz.prog 97 #[.agg #[.string x0, .string x1, .string x2, .bool x3, .bool x4]] w fun e w' => e = .returned (.int .u8 ((kindN (x0, x1, x2, x3, x4) : Nat) : Int)) ∧ Below w.heap.size w w' := by
  cases x3 <;> cases x4
  all_goals
    go_enter Tryz.func97, Tryz.ntmps97
    go_wp2_with fail
    go_ret
    exact ⟨by first | rfl | decide, (Below.refl _ _).alloc (Nat.le_refl _) _⟩

set_option maxHeartbeats 2000000 in
theorem backupParts (F T : ByteArray) (C S : Int) (a : Option Addr) (n c : Nat) (M : List MDf) (w : World) (hM : M.length = n) (hn : n ≤ 120) (hs : ∀ p ∈ M, p.1.size ≤ 90 ∧ p.2.1.size ≤ 90 ∧ p.2.2.1.size ≤ 90) (h : Src w a (cellsDf M)) :
    Calls Tryz.prog 63 #[.agg #[.string F, .string T, .int .i64 C, .slice a n c, .int .i64 S]] w fun e w' => ∃ v, e = .returned v ∧ w'.ownsRow (w.heap.size + 1) 5 1 v (partsB M).length (cellsB (partsB M)) ∧ Below w.heap.size w w' := by
  have HS : Hid (∀ p ∈ M, p.1.size ≤ 90 ∧ p.2.1.size ≤ 90 ∧ p.2.2.1.size ≤ 90) := hs
  have HH : Hid (Src w a (cellsDf M)) := h
  have HM : Hid (M.length = n) := hM
  clear hs h hM
  go_enter Tryz.func63, Tryz.ntmps63
  go_wp2_with fail
  go_loopw [3, 9] (fun v i wr => ∃ (k : Nat), k ≤ n ∧ i = .int .i64 k ∧ Hid (Below w.heap.size w wr) ∧ Hid (Box wr w.heap.size [.string F, .string T, .int .i64 C, .slice a n c, .int .i64 S]) ∧ Hid (wr.ownsRow (w.heap.size + 1) 5 1 v (partsB (M.take k)).length (cellsB (partsB (M.take k))))) (fun _ i _ => n - (intOf i).toNat)
  case atStart => exact ⟨0, by omega, rfl, (Below.refl _ _).alloc (Nat.le_refl _) _, Box.new rfl, World.ownsRow_nil _ _ _ _⟩
  case round =>
    obtain ⟨k, hk, rfl, hb, hx, ho⟩ := hrel
    obtain ⟨va, vc, rfl, _, _⟩ := own_src ho.out
    obtain ⟨m, hm⟩ : ∃ m, (partsB (M.take k)).length = m := ⟨_, rfl⟩
    have hm2 : m ≤ 33360 := by rw [← hm]; exact Nat.le_trans (partsB_len M k HS.out) (by omega)
    have HO : Hid (wr.ownsRow (w.heap.size + 1) 5 1 (.slice va m vc) m (cellsB (partsB (M.take k)))) := by rw [← hm]; exact ho.out
    rw [hm]
    have MM : Hid ((partsB (M.take k)).length = m) := hm
    have ZB : Hid (w.heap.size + 1 ≤ wr.heap.size) := World.block_lt_of_cell? _ _ (hx.out 0 _ rfl).1
    clear ho hm
    by_cases hlt : k < n
    · obtain ⟨b, o, x0, x1, x2, x3, x4, rfl, q0, q1, q2, q3, q4, hy⟩ := srcDf (HH.out.below hb.out) (i := k) (by rw [HM.out]; exact hlt)
      have hki : (k : Int) < (n : Int) := by omega
      have hk0 : (0 : Int) ≤ (k : Int) := by omega
      have XY : Hid (x0.size ≤ 90 ∧ x1.size ≤ 90 ∧ x2.size ≤ 90) := by
        have h1 := HS.out _ (mem_getDK M df0 k (by rw [HM.out]; exact hlt))
        rw [hy.out] at h1
        exact h1
      have SN : Hid (partsB (M.take (k + 1)) = partsB (M.take k) ++ partB (x0, x1, x2, x3, x4)) := partsB_snoc (by rw [HM.out]; exact hlt) hy.out
      obtain ⟨kd, hkd⟩ : ∃ x, kindN (x0, x1, x2, x3, x4) = x := ⟨_, rfl⟩
      have KD : Hid (kindN (x0, x1, x2, x3, x4) = kd ∧ kd ≤ 3) := ⟨hkd, by rw [← hkd]; exact kind_le _⟩
      have FL : Hid (∀ z ∈ [x0, x1, x2], z.size ≤ 300) := fun z hz => by
        have h9 := XY.out
        simp at hz
        rcases hz with rfl | rfl | rfl <;> omega
      obtain ⟨q, hq⟩ : ∃ q, (fieldsB [x0, x1, x2]).length = q := ⟨_, rfl⟩
      have Q : Hid ((fieldsB [x0, x1, x2]).length = q) := hq
      have hq2 : q ≤ 277 ∧ 0 < q := by rw [← hq, three_len]; have := XY.out; omega
      clear hq hkd
      have B0 : Hid (Below w.heap.size w (wr.alloc (.cells #[.string x0, .string x1, .string x2, .bool x3, .bool x4] 108))) := hb.out.alloc hb.out.size _
      have X0 : Hid (Box (wr.alloc (.cells #[.string x0, .string x1, .string x2, .bool x3, .bool x4] 108)) w.heap.size [.string F, .string T, .int .i64 C, .slice (some ⟨b, o, none⟩) n c, .int .i64 S]) := hx.out.old _
      have Y0 : Hid (Box (wr.alloc (.cells #[.string x0, .string x1, .string x2, .bool x3, .bool x4] 108)) wr.heap.size [.string x0, .string x1, .string x2, .bool x3, .bool x4]) := Box.new rfl
      have OA : Hid ((wr.alloc (.cells #[.string x0, .string x1, .string x2, .bool x3, .bool x4] 108)).ownsRow (w.heap.size + 1) 5 1 (.slice va m vc) m (cellsB (partsB (M.take k)))) := World.ownsRow.alloc HO.out _
      have NY : Hid (∀ g, Value.ownBlock (.slice va m vc) = some g → g ≠ wr.heap.size) := fun g e => by have := (HO.out.lt g e).2; omega
      go_wp2_with fail
      go_at_call 97
      refine (diffKind x0 x1 x2 x3 x4 _).mono ?_
      rw [KD.out.1]
      rintro e w2 ⟨rfl, hb2⟩
      have B2 : Hid (Below w.heap.size w w2) := B0.out.trans (hb2.mono B0.out.size)
      have X2 : Hid (Box w2 w.heap.size [.string F, .string T, .int .i64 C, .slice (some ⟨b, o, none⟩) n c, .int .i64 S]) := X0.out.below hb2
      have Y2 : Hid (Box w2 wr.heap.size [.string x0, .string x1, .string x2, .bool x3, .bool x4]) := Y0.out.below hb2
      have O2 : Hid (w2.ownsRow (w.heap.size + 1) 5 1 (.slice va m vc) m (cellsB (partsB (M.take k)))) := own_below OA.out hb2
      have Z2 : Hid (w.heap.size + 1 ≤ w2.heap.size) := by have := ZB.out; have := hb2.size; simp at this; show _ ≤ _; omega
      clear hb2 B0 X0 Y0 OA q0 q1 q2 q3 q4
      have hlt3 : Hid (∀ g, Value.ownBlock (.slice va m vc) = some g → w.heap.size + 1 ≤ g) := fun g e => (O2.out.lt g e).1
      go_wp2_with (at_builtin; refine wpList_append_src _ rfl _ _ 55 rfl (w.heap.size + 1) 5 (.int .u8 0) 1 1 Tryz.underlying55 infoB rfl (by decide) (by decide) _ m (cellsB (partsB (M.take k))) rfl (World.ownsRow.alloc O2.out _) (some ⟨w2.heap.size, 0, none⟩) 1 1 (cellsB [kd]) rfl rfl (src_oneB rfl rfl) (cellsB_one _) (by omega) (le_alloc Z2.out _) ?_)
      intro v3 w3 hown3 hgrow3
      obtain ⟨va3, vc3, rfl, _, _⟩ := own_src hown3
      have X3 : Hid (Box w3 w.heap.size [.string F, .string T, .int .i64 C, .slice (some ⟨b, o, none⟩) n c, .int .i64 S]) := Box.grown (X2.out.old _) hgrow3 (fun e => by have := hlt3.out _ e; omega)
      have Y3 : Hid (Box w3 wr.heap.size [.string x0, .string x1, .string x2, .bool x3, .bool x4]) := Box.grown (Y2.out.old _) hgrow3 (fun e => NY.out _ e rfl)
      have O3 : Hid (w3.ownsRow (w.heap.size + 1) 5 1 (.slice va3 (m + 1) vc3) (m + 1) (cellsB (partsB (M.take k) ++ [kd]))) := by rw [cellsB_append]; exact hown3
      have B3 : Hid (Below w.heap.size w w3) := (B2.out.alloc B2.out.size _).grown hgrow3 (by have := B2.out.size; simp; omega) (fun g e => by have := hlt3.out g e; omega)
      have Z3 : Hid (w.heap.size + 1 ≤ w3.heap.size) := World.block_lt_of_cell? _ _ (X3.out 0 _ rfl).1
      clear hown3 hgrow3 O2 X2 Y2 B2 Z2
      obtain ⟨y0, _⟩ := Y3.out 0 _ rfl
      obtain ⟨y1, _⟩ := Y3.out 1 _ rfl
      obtain ⟨y2, _⟩ := Y3.out 2 _ rfl
      have A3 : Hid (Below w3.heap.size w3 (w3.alloc (.cells #[.string x0, .string x1, .string x2] 9))) := (Below.refl _ _).alloc (Nat.le_refl _) _
      go_wp2_with fail
      go_at_call 93
      refine (fieldsOf (some ⟨w3.heap.size, 0, none⟩) 3 3 [x0, x1, x2] _ rfl (by omega) FL.out (src_3S rfl)).mono ?_
      rintro e w4 ⟨v4, rfl, o4, hb4⟩
      have hb5 : Below w3.heap.size w3 w4 := Below.new hb4
      have B4 : Hid (Below w.heap.size w w4) := B3.out.trans (hb5.mono B3.out.size)
      have X4 : Hid (Box w4 w.heap.size [.string F, .string T, .int .i64 C, .slice (some ⟨b, o, none⟩) n c, .int .i64 S]) := X3.out.below hb5
      have O4 : Hid (w4.ownsRow (w.heap.size + 1) 5 1 (.slice va3 (m + 1) vc3) (m + 1) (cellsB (partsB (M.take k) ++ [kd]))) := own_below O3.out hb5
      have Z4 : Hid (w.heap.size + 1 ≤ w4.heap.size) := by have := Z3.out; have := hb5.size; show _ ≤ _; omega
      rw [Q.out] at o4
      obtain ⟨a4, c4, rfl, s4, _⟩ := own_src o4
      have S4 : Hid (Src w4 a4 (cellsB (fieldsB [x0, x1, x2]))) := s4
      have hlt5 : Hid (∀ g, Value.ownBlock (.slice va3 (m + 1) vc3) = some g → w.heap.size + 1 ≤ g) := fun g e => (O4.out.lt g e).1
      clear o4 hb4 hb5 s4 O3 X3 Y3 B3 Z3 y0 y1 y2 A3
      go_wp2_with (at_builtin; refine wpList_append_src _ rfl _ _ 55 rfl (w.heap.size + 1) 5 (.int .u8 0) 1 1 Tryz.underlying55 infoB rfl (by decide) (by decide) _ (m + 1) (cellsB (partsB (M.take k) ++ [kd])) rfl O4.out a4 q c4 (cellsB (fieldsB [x0, x1, x2])) rfl (by rw [cellsB_length, Q.out]; omega) S4.out (cellsB_one _) (by omega) Z4.out ?_)
      intro v5 w5 hown5 hgrow5
      have O5 : Hid (w5.ownsRow (w.heap.size + 1) 5 1 v5 (partsB (M.take (k + 1))).length (cellsB (partsB (M.take (k + 1))))) := by
        have e9 : partsB (M.take (k + 1)) = partsB (M.take k) ++ [kd] ++ fieldsB [x0, x1, x2] := by rw [SN.out]; unfold partB; rw [KD.out.1]; simp
        rw [e9, cellsB_append, List.length_append, List.length_append, MM.out, Q.out]
        exact hown5
      have B5 : Hid (Below w.heap.size w w5) := B4.out.grown hgrow5 B4.out.size (fun g e => by have := hlt5.out g e; omega)
      have X5 : Hid (Box w5 w.heap.size [.string F, .string T, .int .i64 C, .slice (some ⟨b, o, none⟩) n c, .int .i64 S]) := Box.grown X4.out hgrow5 (fun e => by have := hlt5.out _ e; omega)
      clear hown5 hgrow5
      go_wp2_with fail
      exact ⟨⟨k + 1, by omega, by go_num, B5.out, X5.out, O5.out⟩, by simp [intOf]; omega⟩
    · have hkn : k = n := by omega
      have FE : Hid (partsB (M.take k) = partsB M) := by show _ = _; rw [hkn, ← HM.out, List.take_length]
      have FO : Hid (wr.ownsRow (w.heap.size + 1) 5 1 (.slice va m vc) (partsB M).length (cellsB (partsB M))) := by rw [← FE.out, MM.out]; exact HO.out
      clear hkn
      go_wp2_with fail
      go_ret
      exact ⟨.slice va m vc, rfl, FO.out, hb.out⟩
set_option maxHeartbeats 1000000 in
theorem slicesGrow (n : Nat) (w : World) (h0 : 0 < n) (hn : n ≤ 1048576) :
    Calls Tryz.prog 96 #[.slice none 0 0, .int .i64 (n : Int)] w fun e w' => ∃ v, e = .returned v ∧ w'.ownsRow w.heap.size 5 1 v 0 (cellsB []) ∧ Below w.heap.size w w' := by
  obtain ⟨i5, hi5, hz5⟩ := Option.map_eq_some_iff.1 infoB
  simp only [Prod.mk.injEq] at hz5
  obtain ⟨cp, hcp⟩ : ∃ c, grownCap w n 0 5 = c := ⟨_, rfl⟩
  have CP : Hid (n ≤ cp ∧ cp ≤ maxLen) := ⟨by rw [← hcp]; exact grownCap_ge _ _ _ _, by rw [← hcp]; exact grownCap_le_maxLen _ _ _ _ (by unfold maxLen; omega)⟩
  have RN := Lib.run_append_nil_zeros (P := Tryz.prog) w 55 3 55 5 i5 (.int .u8 0) .i64 .i64 Tryz.underlying55 Tryz.underlying3 hi5 hz5.1 n h0 (by rw [hz5.2.1]; decide) (by omega) (by rw [hz5.2.2]; omega)
  rw [hcp] at RN
  obtain ⟨cs, hcs⟩ : ∃ cs, Builtin.zeroCells (Value.int .u8 0).cells n ++ Builtin.zeroCells (Value.int .u8 0).cells (cp - n) = cs := ⟨_, rfl⟩
  have CS : Hid (cs.size = cp) := by
    show _ = _
    rw [← hcs]
    have h9 := CP.out.1
    simp [size_zeroCells, Value.cells]
    omega
  rw [hcs] at RN
  have RH : Hid ((Builtin.append_ #[55, 3] 55 #[.slice none 0 0, .int .i64 n]).run Tryz.prog w = .ok (.slice (some ⟨w.heap.size, 0, none⟩) n cp) (w.drew.alloc (.cells cs 5))) := RN
  have hn0 : (0 : Int) < (n : Int) := by omega
  have hnn : ¬ (n : Int) < 0 := by omega
  have CUT : ∀ W, (Instr.slice 55 (.slice (some ⟨w.heap.size, 0, none⟩) n cp) none (some (.int .i64 0)) none).run Tryz.prog W = .ok (.slice (some ⟨w.heap.size, 0, none⟩) 0 cp) W := fun W => cut_h (P := Tryz.prog) (e := 5) Tryz.underlying55 (fun w => Tryz.sizeOf5 w) (some ⟨w.heap.size, 0, none⟩) n cp 0 (by omega) W
  have OW : Hid ((w.drew.alloc (.cells cs 5)).ownsRow w.heap.size 5 1 (.slice (some ⟨w.heap.size, 0, none⟩) 0 cp) 0 (cellsB [])) := by
    refine ⟨rfl, .inr ⟨w.heap.size, cp, cs, rfl, Nat.le_refl _, ?_, Nat.zero_le _, CP.out.2, by rw [CS.out]; omega, by simp [cellsB]⟩⟩
    exact heap_alloc_new w.drew _
  have BW : Hid (Below w.heap.size w (w.drew.alloc (.cells cs 5))) := (Below.refl w.heap.size w).drew.alloc (Nat.le_refl _) _
  clear RN hcs hcp hi5 hz5
  go_enter Tryz.func96, Tryz.ntmps96
  go_wp2_with (at_builtin; refine Lib.wpList_append_run _ rfl _ _ _ _ rfl _ _ rfl rfl _ _ RH.out ?_)
  go_wp2_with fail
  go_ret
  exact ⟨_, rfl, OW.out, BW.out⟩

/-- Rows of bytes, one behind the other. -/
def catB (Ls : Nat → List Nat) (k : Nat) : List Nat := (List.range k).flatMap Ls
theorem catB_snoc (Ls : Nat → List Nat) (k : Nat) : catB Ls (k + 1) = catB Ls k ++ Ls k := by unfold catB; rw [List.range_succ, List.flatMap_append]; simp
theorem catB_le (Ls : Nat → List Nat) (n k : Nat) (h : k ≤ n) : (catB Ls k).length ≤ (catB Ls n).length := by
  induction n with
  | zero => obtain rfl : k = 0 := by omega
            exact Nat.le_refl _
  | succ n ih =>
    by_cases e : k = n + 1
    · rw [e]; exact Nat.le_refl _
    · rw [catB_snoc, List.length_append]; have := ih (by omega); omega
set_option maxHeartbeats 2000000 in
theorem slicesConcat (sa : Option Addr) (n sc : Nat) (vs : List Value) (Ls : Nat → List Nat) (w : World) (hv : vs.length = n) (hn : n ≤ 100) (ht0 : 0 < (catB Ls n).length) (ht : (catB Ls n).length ≤ 1048576) (h : Src w sa vs)
    (hr : ∀ i, i < n → ∃ a c, vs.getD i undef = .slice a (Ls i).length c ∧ Src w a (cellsB (Ls i))) :
    Calls Tryz.prog 61 #[.slice sa n sc] w fun e w' => ∃ v, e = .returned v ∧ w'.ownsRow w.heap.size 5 1 v (catB Ls n).length (cellsB (catB Ls n)) ∧ Below w.heap.size w w' := by
  have HR : Hid (∀ i, i < n → ∃ b o a c, sa = some ⟨b, o, none⟩ ∧ (∀ W, Below w.heap.size w W → W.cell? ⟨b, o + i, none⟩ = some (.slice a (Ls i).length c) ∧ Src W a (cellsB (Ls i)))) := fun i hi => by
    obtain ⟨a, c, h1, h2⟩ := hr i hi
    rcases h with h | ⟨b, o, e, hc⟩
    · rw [h] at hv; simp at hv; omega
    · refine ⟨b, o, a, c, e, fun W hW => ⟨?_, h2.below hW⟩⟩
      have h3 := hc i (by omega)
      rw [h1] at h3
      exact (hW.cell (World.block_lt_of_cell? _ _ h3)).trans h3
  obtain ⟨T, hT⟩ : ∃ T, (catB Ls n).length = T := ⟨_, rfl⟩
  have HT : Hid ((catB Ls n).length = T) := hT
  have hT0 : 0 < T := by rw [← hT]; exact ht0
  have hT1 : T ≤ 1048576 := by rw [← hT]; exact ht
  clear h hr hv ht0 ht hT
  go_enter Tryz.func61, Tryz.ntmps61
  go_wp2_with fail
  go_loopw [3, 11] (fun s i wr => ∃ (k : Nat), k ≤ n ∧ i = .int .i64 k ∧ s = .int .i64 ((catB Ls k).length : Int) ∧ wr = w) (fun _ i _ => n - (RowKit.intOf i).toNat)
  case atStart => exact ⟨0, by omega, rfl, rfl, rfl⟩
  case round =>
    obtain ⟨k, hk, rfl, rfl, hw⟩ := hrel
    obtain rfl := hw.symm
    by_cases hlt : k < n
    · obtain ⟨b, o, a, c, rfl, hc⟩ := HR.out k hlt
      obtain ⟨q1, _⟩ := hc _ (Below.refl _ _)
      obtain ⟨l, hl⟩ : ∃ l, (Ls k).length = l := ⟨_, rfl⟩
      obtain ⟨t, htt⟩ : ∃ t, (catB Ls k).length = t := ⟨_, rfl⟩
      have h9 := catB_le Ls n (k + 1) (by omega)
      rw [catB_snoc, List.length_append, htt, hl, HT.out] at h9
      have SN : Hid ((catB Ls (k + 1)).length = t + l) := by show _ = _; rw [catB_snoc, List.length_append, htt, hl]
      rw [hl] at q1
      rw [htt]
      have hki : (k : Int) < (n : Int) := by omega
      have hk0 : (0 : Int) ≤ (k : Int) := by omega
      have hnt : ¬ ((t : Int) + (l : Int)) < 0 := by omega
      clear hc hl htt
      go_wp2_with fail
      exact ⟨⟨k + 1, by omega, by go_num, by rw [SN.out]; go_num, by first | rfl | trivial⟩, by simp [RowKit.intOf]; omega⟩
    · have hkn : k = n := by omega
      have TK : Hid ((catB Ls k).length = T) := by rw [hkn]; exact HT.out
      rw [TK.out]
      clear hkn
      go_wp2_with fail
      go_at_call 96
      refine (slicesGrow T _ hT0 hT1).mono ?_
      rintro e w1 ⟨v1, rfl, o1, hb1⟩
      obtain ⟨va, vc, rfl, _, _⟩ := own_src o1
      have O1 : Hid (w1.ownsRow w.heap.size 5 1 (.slice va 0 vc) 0 (cellsB [])) := o1
      have B1 : Hid (Below w.heap.size w w1) := hb1
      clear o1 hb1
      go_wp2_with fail
      go_loopw [6, 27] (fun v i wr => ∃ (k : Nat), k ≤ n ∧ i = .int .i64 k ∧ Hid (Below w.heap.size w wr) ∧ Hid (wr.ownsRow w.heap.size 5 1 v (catB Ls k).length (cellsB (catB Ls k)))) (fun _ i _ => n - (RowKit.intOf i).toNat)
      case atStart => exact ⟨0, by omega, rfl, B1.out, O1.out⟩
      case round =>
        obtain ⟨k2, hk2, rfl, hb, ho⟩ := hrel
        obtain ⟨ua, uc, rfl, _, _⟩ := own_src ho.out
        obtain ⟨t, htt⟩ : ∃ t, (catB Ls k2).length = t := ⟨_, rfl⟩
        have HO : Hid (wr.ownsRow w.heap.size 5 1 (.slice ua t uc) t (cellsB (catB Ls k2))) := by rw [← htt]; exact ho.out
        have MM : Hid ((catB Ls k2).length = t) := htt
        rw [htt]
        clear ho
        by_cases hlt2 : k2 < n
        · obtain ⟨b, o, a, c, rfl, hc⟩ := HR.out k2 hlt2
          obtain ⟨q1, q2⟩ := hc _ hb.out
          obtain ⟨l, hl⟩ : ∃ l, (Ls k2).length = l := ⟨_, rfl⟩
          have h9 := catB_le Ls n (k2 + 1) (by omega)
          rw [catB_snoc, List.length_append, htt, hl, HT.out] at h9
          have LL : Hid ((Ls k2).length = l) := hl
          have S2 : Hid (Src wr a (cellsB (Ls k2))) := q2
          rw [hl] at q1
          have hki : (k2 : Int) < (n : Int) := by omega
          have hk0 : (0 : Int) ≤ (k2 : Int) := by omega
          have hlt3 : Hid (∀ g, Value.ownBlock (.slice ua t uc) = some g → w.heap.size ≤ g) := fun g e => (HO.out.lt g e).1
          clear hc hl htt q2
          go_wp2_with (at_builtin; refine wpList_append_src _ rfl _ _ 55 rfl w.heap.size 5 (.int .u8 0) 1 1 Tryz.underlying55 infoB rfl (by decide) (by decide) _ t (cellsB (catB Ls k2)) rfl HO.out a l c (cellsB (Ls k2)) rfl (by rw [cellsB_length, LL.out]; omega) S2.out (cellsB_one _) (by omega) hb.out.size ?_)
          intro v3 w3 hown3 hgrow3
          have O3 : Hid (w3.ownsRow w.heap.size 5 1 v3 (catB Ls (k2 + 1)).length (cellsB (catB Ls (k2 + 1)))) := by rw [catB_snoc, cellsB_append, List.length_append, MM.out, LL.out]; exact hown3
          have B3 : Hid (Below w.heap.size w w3) := hb.out.grown hgrow3 hb.out.size hlt3.out
          clear hown3 hgrow3
          go_wp2_with fail
          exact ⟨⟨k2 + 1, by omega, by go_num, B3.out, O3.out⟩, by simp [RowKit.intOf]; omega⟩
        · have hkn : k2 = n := by omega
          have h8 : t = T := by rw [← MM.out, hkn]; exact HT.out
          have FO : Hid (wr.ownsRow w.heap.size 5 1 (.slice ua t uc) T (cellsB (catB Ls n))) := by
            have h9 := HO.out
            rw [hkn] at h9
            rw [← h8]
            exact h9
          clear h8
          clear hkn
          go_wp2_with fail
          go_ret
          exact ⟨.slice ua t uc, rfl, by rw [HT.out]; exact FO.out, hb.out⟩
theorem numberBytesV (x : Nat) (w : World) (hx : x < 4294967296) :
    Calls Tryz.prog 64 #[.int .i64 (x : Int)] w fun e w' => ∃ v, e = .returned v ∧ w'.ownsRow w.heap.size 5 1 v 4 (cellsB (numQ x)) ∧ Below w.heap.size w w' :=
  (numberBytes x w hx).mono fun e w' ⟨h1, h2, h3⟩ => ⟨_, h1, h2, h3⟩
set_option maxHeartbeats 2000000 in
theorem backupHead (F T : ByteArray) (cx : Nat) (S : Int) (a : Option Addr) (n c : Nat) (w : World) (hF : F.size ≤ 8) (hT : T.size ≤ 8) (hc : cx < 4294967296) :
    Calls Tryz.prog 62 #[.agg #[.string F, .string T, .int .i64 (cx : Int), .slice a n c, .int .i64 S]] w fun e w' => ∃ v, e = .returned v ∧ w'.ownsRow (w.heap.size + 1) 5 1 v (numQ cx ++ fieldsB [F, T]).length (cellsB (numQ cx ++ fieldsB [F, T])) ∧ Below w.heap.size w w' := by
  have FL : Hid (∀ z ∈ [F, T], z.size ≤ 300) := fun z hz => by
    simp at hz
    rcases hz with rfl | rfl <;> omega
  obtain ⟨q, hq⟩ : ∃ q, (fieldsB [F, T]).length = q := ⟨_, rfl⟩
  have FQ : Hid ((fieldsB [F, T]).length = q) := hq
  have hq2 : q ≤ 21 ∧ 0 < q := by rw [← hq, two_len]; omega
  clear hq
  obtain ⟨hd, hhd⟩ : ∃ x, numQ cx ++ fieldsB [F, T] = x := ⟨_, rfl⟩
  have LQ : Hid (hd.length = 4 + q ∧ numQ cx ++ fieldsB [F, T] = hd) := ⟨by rw [← hhd, List.length_append, FQ.out]; rfl, hhd⟩
  rw [hhd]
  clear hhd
  go_enter Tryz.func62, Tryz.ntmps62
  go_wp2_with fail
  have B1 : Hid (Below w.heap.size w (w.alloc (.cells #[.string F, .string T, .int .i64 (cx : Int), .slice a n c, .int .i64 S] 34))) := (Below.refl _ _).alloc (Nat.le_refl _) _
  have X2 : Hid (Box ((w.alloc (.cells #[.string F, .string T, .int .i64 (cx : Int), .slice a n c, .int .i64 S] 34)).drew) w.heap.size [.string F, .string T, .int .i64 (cx : Int), .slice a n c, .int .i64 S]) := Box.new (w := w) rfl
  obtain ⟨e0, _⟩ := X2.out 0 _ rfl
  obtain ⟨e1, _⟩ := X2.out 1 _ rfl
  obtain ⟨e2, _⟩ := X2.out 2 _ rfl
  refine wp_region_noPanic ?_
  refine wp_region_held_drew (S := (fun w' => w'.cell? ⟨w.heap.size, 0, none⟩ = some (.string F) ∧ w'.cell? ⟨w.heap.size, 1, none⟩ = some (.string T) ∧ w'.cell? ⟨w.heap.size, 2, none⟩ = some (.int .i64 (cx : Int)))) (by kernel_rfl) ⟨e0, e1, e2⟩ (fun hHeld => ?_)
  refine wpAnyH_take (i := 0) (v := .pointer (some ⟨w.heap.size, 2, none⟩)) rfl (by kernel_rfl) (by kernel_rfl) (by kernel_rfl) (fun _ _ _ h => h) (Or.inl ⟨by kernel_rfl, ?_⟩) hHeld ?_
  · intro w9 hSw
    obtain ⟨s0, s1, s2⟩ := hSw
    go_simp
  simp only [Act.put, List.setIfInBounds_toArray, List.set_cons_zero, List.set_cons_succ]
  refine wpAnyH_take (i := 1) (v := .int .i64 (cx : Int)) rfl (by kernel_rfl) (by kernel_rfl) (by kernel_rfl) (fun _ _ _ h => h) (Or.inl ⟨by kernel_rfl, ?_⟩) hHeld ?_
  · intro w9 hSw
    obtain ⟨s0, s1, s2⟩ := hSw
    go_simp
  simp only [Act.put, List.setIfInBounds_toArray, List.set_cons_zero, List.set_cons_succ]
  refine wpAnyH_take (i := 3) (v := .pointer (some ⟨w.heap.size, 0, none⟩)) rfl (by kernel_rfl) (by kernel_rfl) (by kernel_rfl) (fun _ _ _ h => h) (Or.inl ⟨by kernel_rfl, ?_⟩) hHeld ?_
  · intro w9 hSw
    obtain ⟨s0, s1, s2⟩ := hSw
    go_simp
  simp only [Act.put, List.setIfInBounds_toArray, List.set_cons_zero, List.set_cons_succ]
  refine wpAnyH_take (i := 4) (v := .string F) rfl (by kernel_rfl) (by kernel_rfl) (by kernel_rfl) (fun _ _ _ h => h) (Or.inl ⟨by kernel_rfl, ?_⟩) hHeld ?_
  · intro w9 hSw
    obtain ⟨s0, s1, s2⟩ := hSw
    go_simp
  simp only [Act.put, List.setIfInBounds_toArray, List.set_cons_zero, List.set_cons_succ]
  refine wpAnyH_take (i := 5) (v := .pointer (some ⟨w.heap.size, 1, none⟩)) rfl (by kernel_rfl) (by kernel_rfl) (by kernel_rfl) (fun _ _ _ h => h) (Or.inl ⟨by kernel_rfl, ?_⟩) hHeld ?_
  · intro w9 hSw
    obtain ⟨s0, s1, s2⟩ := hSw
    go_simp
  simp only [Act.put, List.setIfInBounds_toArray, List.set_cons_zero, List.set_cons_succ]
  refine wpAnyH_take (i := 6) (v := .string T) rfl (by kernel_rfl) (by kernel_rfl) (by kernel_rfl) (fun _ _ _ h => h) (Or.inl ⟨by kernel_rfl, ?_⟩) hHeld ?_
  · intro w9 hSw
    obtain ⟨s0, s1, s2⟩ := hSw
    go_simp
  simp only [Act.put, List.setIfInBounds_toArray, List.set_cons_zero, List.set_cons_succ]
  refine wpAnyH_ready (rs := [2, 7]) (by kernel_rfl) (by simp) ?_
  refine AllReadyH.cons rfl (fun K hK => ?_) (AllReadyH.cons rfl (fun K hK => ?_) AllReadyH.nil)
  · skip
    go_simp
    refine (numberBytesV cx ((w.alloc (.cells #[.string F, .string T, .int .i64 (cx : Int), .slice a n c, .int .i64 S] 34)).drew) hc).mono ?_
    rintro e wa3 ⟨va3, rfl, o3, hb3⟩
    obtain ⟨g3, c3, rfl, _, _⟩ := own_src o3
    dsimp only
    have B4 : Hid (Below w.heap.size w (wa3)) := (B1.out.drew).trans (hb3.mono (B1.out.drew).size)
    have X5 : Hid (Box (wa3) w.heap.size [.string F, .string T, .int .i64 (cx : Int), .slice a n c, .int .i64 S]) := Box.below (w := (w.alloc (.cells #[.string F, .string T, .int .i64 (cx : Int), .slice a n c, .int .i64 S] 34)).drew) X2.out hb3
    have N6 : Hid (World.ownsRow (wa3) (w.heap.size + 1) 5 1 (.slice g3 4 c3) 4 (cellsB (numQ cx))) := own_mono o3 (show w.heap.size + 1 ≤ _ from World.block_lt_of_cell? _ _ (X2.out 0 _ rfl).1)
    clear o3 hb3
    clear e0 e1 e2
    obtain ⟨e0, _⟩ := X5.out 0 _ rfl
    obtain ⟨e1, _⟩ := X5.out 1 _ rfl
    obtain ⟨e2, _⟩ := X5.out 2 _ rfl
    refine hK _ _ ⟨e0, e1, e2⟩ (fun hHeld => ?_)
    clear hK K
    refine wpAnyH_ready (rs := [7]) (by kernel_rfl) (by simp) ?_
    refine AllReadyH.cons rfl (fun K hK => ?_) AllReadyH.nil
    go_simp
    have B7 : Hid (Below w.heap.size w (((wa3).alloc (.cells #[.string F, .string T] 9)))) := B4.out.alloc B4.out.size _
    have X8 : Hid (Box (((wa3).alloc (.cells #[.string F, .string T] 9))) w.heap.size [.string F, .string T, .int .i64 (cx : Int), .slice a n c, .int .i64 S]) := Box.old (w := wa3) X5.out _
    have N9 : Hid (World.ownsRow (((wa3).alloc (.cells #[.string F, .string T] 9))) (w.heap.size + 1) 5 1 (.slice g3 4 c3) 4 (cellsB (numQ cx))) := World.ownsRow.alloc (w := wa3) N6.out _
    have Q10 : Hid (Src (((wa3).alloc (.cells #[.string F, .string T] 9))) (some ⟨wa3.heap.size, 0, none⟩) (cellsS [F, T])) := src_2S (w := wa3) (by simp)
    clear e0 e1 e2
    obtain ⟨e0, _⟩ := X8.out 0 _ rfl
    obtain ⟨e1, _⟩ := X8.out 1 _ rfl
    obtain ⟨e2, _⟩ := X8.out 2 _ rfl
    refine hK _ _ ⟨e0, e1, e2⟩ (fun hHeld => ?_)
    clear hK K
    refine wpAnyH_ready (rs := [8]) (by kernel_rfl) (by simp) ?_
    refine AllReadyH.cons rfl (fun K hK => ?_) AllReadyH.nil
    go_simp
    refine (fieldsOf (some ⟨wa3.heap.size, 0, none⟩) 2 2 [F, T] (((wa3).alloc (.cells #[.string F, .string T] 9))) rfl (by omega) FL.out Q10.out).mono ?_
    rintro e wa11 ⟨va11, rfl, o11, hb11⟩
    dsimp only
    rw [FQ.out] at o11
    obtain ⟨g11, c11, rfl, _, s11⟩ := own_some o11 (by omega)
    have B12 : Hid (Below w.heap.size w (wa11)) := (B7.out).trans (hb11.mono (B7.out).size)
    have X13 : Hid (Box (wa11) w.heap.size [.string F, .string T, .int .i64 (cx : Int), .slice a n c, .int .i64 S]) := Box.below (w := ((wa3).alloc (.cells #[.string F, .string T] 9))) X8.out hb11
    have N14 : Hid (World.ownsRow (wa11) (w.heap.size + 1) 5 1 (.slice g3 4 c3) 4 (cellsB (numQ cx))) := own_below (w := ((wa3).alloc (.cells #[.string F, .string T] 9))) N9.out hb11
    have Q15 : Hid (Src (wa11) (some ⟨wa3.heap.size, 0, none⟩) (cellsS [F, T])) := Src.below (w := ((wa3).alloc (.cells #[.string F, .string T] 9))) Q10.out hb11
    have P16 : Hid (Src (wa11) (some ⟨g11, 0, none⟩) (cellsB (fieldsB [F, T]))) := s11
    clear o11 hb11 s11
    clear e0 e1 e2
    obtain ⟨e0, _⟩ := X13.out 0 _ rfl
    obtain ⟨e1, _⟩ := X13.out 1 _ rfl
    obtain ⟨e2, _⟩ := X13.out 2 _ rfl
    refine hK _ _ ⟨e0, e1, e2⟩ (fun hHeld => ?_)
    clear hK K
    refine wpAnyH_ready (rs := [9]) (by kernel_rfl) (by simp) ?_
    refine AllReadyH.cons rfl (fun K hK => ?_) AllReadyH.nil
    refine step_append_src rfl (.tmp 5) (.tmp 11) 55 rfl (w.heap.size + 1) 5 (.int .u8 0) 1 1 Tryz.underlying55 infoB rfl (by decide) (by decide) (.slice g3 4 c3) 4 (cellsB (numQ cx)) (by rfl) N14.out ⟨g11, 0, none⟩ q c11 (cellsB (fieldsB [F, T])) (by rfl) (by rw [cellsB_length, FQ.out]; omega) P16.out (cellsB_one _) (by omega) (by omega) (show w.heap.size + 1 ≤ _ from World.block_lt_of_cell? _ _ (X13.out 0 _ rfl).1) ?_
    intro va17 wa17 hown17 hgrow17 _
    have B18 : Hid (Below w.heap.size w (wa17)) := (B12.out).grown hgrow17 (B12.out).size (fun g e => by have h9 := (N14.out.lt g e).1; omega)
    have X19 : Hid (Box (wa17) w.heap.size [.string F, .string T, .int .i64 (cx : Int), .slice a n c, .int .i64 S]) := Box.grown X13.out hgrow17 (fun e => by have h9 := (N14.out.lt _ e).1; omega)
    have R20 : Hid (World.ownsRow (wa17) (w.heap.size + 1) 5 1 (va17) (4 + q) (cellsB (numQ cx ++ fieldsB [F, T]))) := by rw [cellsB_append]; exact hown17
    clear hown17 hgrow17
    clear e0 e1 e2
    obtain ⟨e0, _⟩ := X19.out 0 _ rfl
    obtain ⟨e1, _⟩ := X19.out 1 _ rfl
    obtain ⟨e2, _⟩ := X19.out 2 _ rfl
    refine hK _ _ ⟨e0, e1, e2⟩ (fun hHeld => ?_)
    clear hK K
    refine wpAnyH_ready (rs := [10]) (by kernel_rfl) (by simp) ?_
    refine AllReadyH.cons rfl (fun K hK => ?_) AllReadyH.nil
    go_simp
    clear e0 e1 e2
    obtain ⟨e0, _⟩ := X19.out 0 _ rfl
    obtain ⟨e1, _⟩ := X19.out 1 _ rfl
    obtain ⟨e2, _⟩ := X19.out 2 _ rfl
    refine hK _ _ ⟨e0, e1, e2⟩ (fun hHeld => ?_)
    clear hK K
    refine wpAnyH_done (by kernel_rfl) ?_ _
    refine NoPanic.normal ?_
    clear e0 e1 e2
    clear hHeld
    have FIN : Hid ((wa17).ownsRow (w.heap.size + 1) 5 1 va17 hd.length (cellsB hd)) := by rw [LQ.out.1, ← LQ.out.2]; exact R20.out
    go_wp2_with fail
    go_ret
    exact ⟨va17, rfl, FIN.out, B18.out⟩
  · skip
    go_simp
    have B21 : Hid (Below w.heap.size w (((w.alloc (.cells #[.string F, .string T, .int .i64 (cx : Int), .slice a n c, .int .i64 S] 34)).alloc (.cells #[.string F, .string T] 9)))) := B1.out.alloc B1.out.size _
    have X22 : Hid (Box ((((w.alloc (.cells #[.string F, .string T, .int .i64 (cx : Int), .slice a n c, .int .i64 S] 34)).alloc (.cells #[.string F, .string T] 9))).drew) w.heap.size [.string F, .string T, .int .i64 (cx : Int), .slice a n c, .int .i64 S]) := Box.old (w := w.alloc (.cells #[.string F, .string T, .int .i64 (cx : Int), .slice a n c, .int .i64 S] 34)) X2.out _
    have Q23 : Hid (Src ((((w.alloc (.cells #[.string F, .string T, .int .i64 (cx : Int), .slice a n c, .int .i64 S] 34)).alloc (.cells #[.string F, .string T] 9))).drew) (some ⟨w.heap.size + 1, 0, none⟩) (cellsS [F, T])) := src_2S (w := w.alloc (.cells #[.string F, .string T, .int .i64 (cx : Int), .slice a n c, .int .i64 S] 34)) (by simp)
    clear e0 e1 e2
    obtain ⟨e0, _⟩ := X22.out 0 _ rfl
    obtain ⟨e1, _⟩ := X22.out 1 _ rfl
    obtain ⟨e2, _⟩ := X22.out 2 _ rfl
    refine hK _ _ ⟨e0, e1, e2⟩ (fun hHeld => ?_)
    clear hK K
    refine wpAnyH_ready (rs := [2]) (by kernel_rfl) (by simp) ?_
    refine AllReadyH.cons rfl (fun K hK => ?_) AllReadyH.nil
    go_simp
    refine (numberBytesV cx ((((w.alloc (.cells #[.string F, .string T, .int .i64 (cx : Int), .slice a n c, .int .i64 S] 34)).alloc (.cells #[.string F, .string T] 9))).drew) hc).mono ?_
    rintro e wa24 ⟨va24, rfl, o24, hb24⟩
    obtain ⟨g24, c24, rfl, _, _⟩ := own_src o24
    dsimp only
    have B25 : Hid (Below w.heap.size w (wa24)) := (B21.out.drew).trans (hb24.mono (B21.out.drew).size)
    have X26 : Hid (Box (wa24) w.heap.size [.string F, .string T, .int .i64 (cx : Int), .slice a n c, .int .i64 S]) := Box.below (w := (((w.alloc (.cells #[.string F, .string T, .int .i64 (cx : Int), .slice a n c, .int .i64 S] 34)).alloc (.cells #[.string F, .string T] 9))).drew) X22.out hb24
    have Q27 : Hid (Src (wa24) (some ⟨w.heap.size + 1, 0, none⟩) (cellsS [F, T])) := Src.below (w := (((w.alloc (.cells #[.string F, .string T, .int .i64 (cx : Int), .slice a n c, .int .i64 S] 34)).alloc (.cells #[.string F, .string T] 9))).drew) Q23.out hb24
    have N28 : Hid (World.ownsRow (wa24) (w.heap.size + 1) 5 1 (.slice g24 4 c24) 4 (cellsB (numQ cx))) := own_mono o24 (show w.heap.size + 1 ≤ _ from World.block_lt_of_cell? _ _ (X22.out 0 _ rfl).1)
    clear o24 hb24
    clear e0 e1 e2
    obtain ⟨e0, _⟩ := X26.out 0 _ rfl
    obtain ⟨e1, _⟩ := X26.out 1 _ rfl
    obtain ⟨e2, _⟩ := X26.out 2 _ rfl
    refine hK _ _ ⟨e0, e1, e2⟩ (fun hHeld => ?_)
    clear hK K
    refine wpAnyH_ready (rs := [8]) (by kernel_rfl) (by simp) ?_
    refine AllReadyH.cons rfl (fun K hK => ?_) AllReadyH.nil
    go_simp
    refine (fieldsOf (some ⟨w.heap.size + 1, 0, none⟩) 2 2 [F, T] (wa24) rfl (by omega) FL.out Q27.out).mono ?_
    rintro e wa29 ⟨va29, rfl, o29, hb29⟩
    dsimp only
    rw [FQ.out] at o29
    obtain ⟨g29, c29, rfl, _, s29⟩ := own_some o29 (by omega)
    have B30 : Hid (Below w.heap.size w (wa29)) := (B25.out).trans (hb29.mono (B25.out).size)
    have X31 : Hid (Box (wa29) w.heap.size [.string F, .string T, .int .i64 (cx : Int), .slice a n c, .int .i64 S]) := Box.below (w := wa24) X26.out hb29
    have Q32 : Hid (Src (wa29) (some ⟨w.heap.size + 1, 0, none⟩) (cellsS [F, T])) := Src.below (w := wa24) Q27.out hb29
    have N33 : Hid (World.ownsRow (wa29) (w.heap.size + 1) 5 1 (.slice g24 4 c24) 4 (cellsB (numQ cx))) := own_below (w := wa24) N28.out hb29
    have P34 : Hid (Src (wa29) (some ⟨g29, 0, none⟩) (cellsB (fieldsB [F, T]))) := s29
    clear o29 hb29 s29
    clear e0 e1 e2
    obtain ⟨e0, _⟩ := X31.out 0 _ rfl
    obtain ⟨e1, _⟩ := X31.out 1 _ rfl
    obtain ⟨e2, _⟩ := X31.out 2 _ rfl
    refine hK _ _ ⟨e0, e1, e2⟩ (fun hHeld => ?_)
    clear hK K
    refine wpAnyH_ready (rs := [9]) (by kernel_rfl) (by simp) ?_
    refine AllReadyH.cons rfl (fun K hK => ?_) AllReadyH.nil
    refine step_append_src rfl (.tmp 5) (.tmp 11) 55 rfl (w.heap.size + 1) 5 (.int .u8 0) 1 1 Tryz.underlying55 infoB rfl (by decide) (by decide) (.slice g24 4 c24) 4 (cellsB (numQ cx)) (by rfl) N33.out ⟨g29, 0, none⟩ q c29 (cellsB (fieldsB [F, T])) (by rfl) (by rw [cellsB_length, FQ.out]; omega) P34.out (cellsB_one _) (by omega) (by omega) (show w.heap.size + 1 ≤ _ from World.block_lt_of_cell? _ _ (X31.out 0 _ rfl).1) ?_
    intro va35 wa35 hown35 hgrow35 _
    have B36 : Hid (Below w.heap.size w (wa35)) := (B30.out).grown hgrow35 (B30.out).size (fun g e => by have h9 := (N33.out.lt g e).1; omega)
    have X37 : Hid (Box (wa35) w.heap.size [.string F, .string T, .int .i64 (cx : Int), .slice a n c, .int .i64 S]) := Box.grown X31.out hgrow35 (fun e => by have h9 := (N33.out.lt _ e).1; omega)
    have R38 : Hid (World.ownsRow (wa35) (w.heap.size + 1) 5 1 (va35) (4 + q) (cellsB (numQ cx ++ fieldsB [F, T]))) := by rw [cellsB_append]; exact hown35
    clear hown35 hgrow35
    clear e0 e1 e2
    obtain ⟨e0, _⟩ := X37.out 0 _ rfl
    obtain ⟨e1, _⟩ := X37.out 1 _ rfl
    obtain ⟨e2, _⟩ := X37.out 2 _ rfl
    refine hK _ _ ⟨e0, e1, e2⟩ (fun hHeld => ?_)
    clear hK K
    refine wpAnyH_ready (rs := [10]) (by kernel_rfl) (by simp) ?_
    refine AllReadyH.cons rfl (fun K hK => ?_) AllReadyH.nil
    go_simp
    clear e0 e1 e2
    obtain ⟨e0, _⟩ := X37.out 0 _ rfl
    obtain ⟨e1, _⟩ := X37.out 1 _ rfl
    obtain ⟨e2, _⟩ := X37.out 2 _ rfl
    refine hK _ _ ⟨e0, e1, e2⟩ (fun hHeld => ?_)
    clear hK K
    refine wpAnyH_done (by kernel_rfl) ?_ _
    refine NoPanic.normal ?_
    clear e0 e1 e2
    clear hHeld
    have FIN : Hid ((wa35).ownsRow (w.heap.size + 1) 5 1 va35 hd.length (cellsB hd)) := by rw [LQ.out.1, ← LQ.out.2]; exact R38.out
    go_wp2_with fail
    go_ret
    exact ⟨va35, rfl, FIN.out, B36.out⟩
theorem src_vals {w : World} {xs : List Value} {B ty : Nat} (hB : B = w.heap.size) : Src (w.alloc (.cells xs.toArray ty)) (some ⟨B, 0, none⟩) xs := by
  have hb : Box (w.alloc (.cells xs.toArray ty)) B xs := Box.new hB
  refine .inr ⟨B, 0, rfl, fun j hj => ?_⟩
  rw [Nat.zero_add]
  refine (hb j _ ?_).1
  rw [List.getElem?_eq_getElem hj, List.getD_eq_getElem?_getD, List.getElem?_eq_getElem hj]
  rfl
set_option maxHeartbeats 4000000 in
theorem backupLink (F T : ByteArray) (cx sx : Nat) (a : Option Addr) (n c : Nat) (M : List MDf) (w : World) (hF : F.size ≤ 8) (hT : T.size ≤ 8) (hc : cx < 4294967296) (hx : sx < 4294967296) (hM : M.length = n) (hn : n ≤ 120) (hs : ∀ p ∈ M, p.1.size ≤ 90 ∧ p.2.1.size ≤ 90 ∧ p.2.2.1.size ≤ 90) (h : Src w a (cellsDf M)) (hH : HasHalf w) :
    Calls Tryz.prog 65 #[.agg #[.string F, .string T, .int .i64 (cx : Int), .slice a n c, .int .i64 (sx : Int)]] w fun e w' => e = .returned (.int .i64 ((sumL (numQ cx ++ fieldsB [F, T] ++ partsB M ++ numQ sx) : Nat) : Int)) ∧ Below w.heap.size w w' := by
  have HS : Hid (∀ p ∈ M, p.1.size ≤ 90 ∧ p.2.1.size ≤ 90 ∧ p.2.2.1.size ≤ 90) := hs
  have HH : Hid (Src w a (cellsDf M)) := h
  have HM : Hid (M.length = n) := hM
  have HT9 : Hid (HasHalf w) := hH
  obtain ⟨hd, hhd⟩ : ∃ x, numQ cx ++ fieldsB [F, T] = x := ⟨_, rfl⟩
  have HD : Hid (numQ cx ++ fieldsB [F, T] = hd) := hhd
  obtain ⟨pt, hpt⟩ : ∃ x, partsB M = x := ⟨_, rfl⟩
  have PT : Hid (partsB M = pt) := hpt
  obtain ⟨l1, hl1⟩ : ∃ l, hd.length = l := ⟨_, rfl⟩
  have L1 : Hid (hd.length = l1) := hl1
  obtain ⟨l2, hl2⟩ : ∃ l, pt.length = l := ⟨_, rfl⟩
  have L2 : Hid (pt.length = l2) := hl2
  have hl1b : l1 ≤ 25 ∧ 0 < l1 := by
    rw [← hl1, ← hhd, List.length_append, two_len]
    have h4 : (numQ cx).length = 4 := rfl
    omega
  have hl2b : l2 ≤ 33360 := by
    rw [← hl2, ← hpt]
    have h9 := partsB_len M n hs
    rw [List.take_of_length_le (by omega)] at h9
    omega
  have LT1 : Hid (∀ x ∈ hd, x < 256) := fun x hx9 => by
    rw [← hhd, List.mem_append] at hx9
    rcases hx9 with h9 | h9
    · exact numQ_lt _ x h9
    · exact fieldsB_ltP _ x h9
  have LT2 : Hid (∀ x ∈ pt, x < 256) := fun x hx9 => by rw [← hpt] at hx9; exact partsB_lt M x hx9
  rw [hhd, hpt]
  obtain ⟨tot, htot⟩ : ∃ x, hd ++ pt ++ numQ sx = x := ⟨_, rfl⟩
  obtain ⟨tl, htl⟩ : ∃ x, tot.length = x := ⟨_, rfl⟩
  have htl9 : tl ≤ 40000 ∧ 0 < tl := by
    have h9 : tl = l1 + l2 + 4 := by rw [← htl, ← htot, List.length_append, List.length_append, hl1, hl2]; rfl
    omega
  have CT : Hid (catB (fun i => [hd, pt, numQ sx].getD i []) 3 = tot ∧ tot.length = tl) := ⟨by rw [← htot]; simp [catB, List.range_succ], htl⟩
  have LT : Hid (∀ x ∈ tot, x < 256) := fun x hx9 => by
    rw [← htot, List.mem_append, List.mem_append] at hx9
    rcases hx9 with (h9 | h9) | h9
    · exact LT1.out x h9
    · exact LT2.out x h9
    · exact numQ_lt _ x h9
  rw [htot]
  obtain ⟨sm, hsm⟩ : ∃ s, sumL tot = s := ⟨_, rfl⟩
  have SM : Hid (sumL tot = sm) := hsm
  rw [hsm]
  clear hs h hM hH hhd hpt hl1 hl2 htot htl hsm
  go_enter Tryz.func65, Tryz.ntmps65
  go_wp2_with fail
  have B39 : Hid (Below w.heap.size w (w.alloc (.cells #[.string F, .string T, .int .i64 (cx : Int), .slice a n c, .int .i64 (sx : Int)] 34))) := (Below.refl _ _).alloc (Nat.le_refl _) _
  have X40 : Hid (Box ((w.alloc (.cells #[.string F, .string T, .int .i64 (cx : Int), .slice a n c, .int .i64 (sx : Int)] 34)).drew) w.heap.size [.string F, .string T, .int .i64 (cx : Int), .slice a n c, .int .i64 (sx : Int)]) := Box.new (w := w) rfl
  have T41 : Hid (HasHalf ((w.alloc (.cells #[.string F, .string T, .int .i64 (cx : Int), .slice a n c, .int .i64 (sx : Int)] 34)).drew)) := HasHalf.below (w := w) HT9.out (((Below.refl _ _).alloc (Nat.le_refl _) _).drew)
  obtain ⟨e0, _⟩ := X40.out 0 _ rfl
  obtain ⟨e1, _⟩ := X40.out 1 _ rfl
  obtain ⟨e2, _⟩ := X40.out 2 _ rfl
  obtain ⟨e3, _⟩ := X40.out 3 _ rfl
  obtain ⟨e4, _⟩ := X40.out 4 _ rfl
  refine wp_region_noPanic ?_
  refine wp_region_held_drew (S := (fun w' => w'.cell? ⟨w.heap.size, 0, none⟩ = some (.string F) ∧ w'.cell? ⟨w.heap.size, 1, none⟩ = some (.string T) ∧ w'.cell? ⟨w.heap.size, 2, none⟩ = some (.int .i64 (cx : Int)) ∧ w'.cell? ⟨w.heap.size, 3, none⟩ = some (.slice a n c) ∧ w'.cell? ⟨w.heap.size, 4, none⟩ = some (.int .i64 (sx : Int)))) (by kernel_rfl) ⟨e0, e1, e2, e3, e4⟩ (fun hHeld => ?_)
  refine wpAnyH_take (i := 0) (v := .agg #[.string F, .string T, .int .i64 (cx : Int), .slice a n c, .int .i64 (sx : Int)]) rfl (by kernel_rfl) (by kernel_rfl) (by kernel_rfl) (fun _ _ _ h => h) (Or.inl ⟨by kernel_rfl, ?_⟩) hHeld ?_
  · intro w9 hSw
    obtain ⟨s0, s1, s2, s3, s4⟩ := hSw
    go_simp
  simp only [Act.put, List.setIfInBounds_toArray, List.set_cons_zero, List.set_cons_succ]
  refine wpAnyH_take (i := 2) (v := .agg #[.string F, .string T, .int .i64 (cx : Int), .slice a n c, .int .i64 (sx : Int)]) rfl (by kernel_rfl) (by kernel_rfl) (by kernel_rfl) (fun _ _ _ h => h) (Or.inl ⟨by kernel_rfl, ?_⟩) hHeld ?_
  · intro w9 hSw
    obtain ⟨s0, s1, s2, s3, s4⟩ := hSw
    go_simp
  simp only [Act.put, List.setIfInBounds_toArray, List.set_cons_zero, List.set_cons_succ]
  refine wpAnyH_take (i := 4) (v := .pointer (some ⟨w.heap.size, 4, none⟩)) rfl (by kernel_rfl) (by kernel_rfl) (by kernel_rfl) (fun _ _ _ h => h) (Or.inl ⟨by kernel_rfl, ?_⟩) hHeld ?_
  · intro w9 hSw
    obtain ⟨s0, s1, s2, s3, s4⟩ := hSw
    go_simp
  simp only [Act.put, List.setIfInBounds_toArray, List.set_cons_zero, List.set_cons_succ]
  refine wpAnyH_take (i := 5) (v := .int .i64 (sx : Int)) rfl (by kernel_rfl) (by kernel_rfl) (by kernel_rfl) (fun _ _ _ h => h) (Or.inl ⟨by kernel_rfl, ?_⟩) hHeld ?_
  · intro w9 hSw
    obtain ⟨s0, s1, s2, s3, s4⟩ := hSw
    go_simp
  simp only [Act.put, List.setIfInBounds_toArray, List.set_cons_zero, List.set_cons_succ]
  refine wpAnyH_ready (rs := [1]) (by kernel_rfl) (by simp) ?_
  refine AllReadyH.cons rfl (fun K hK => ?_) AllReadyH.nil
  go_simp
  refine (backupHead F T cx (sx : Int) a n c ((w.alloc (.cells #[.string F, .string T, .int .i64 (cx : Int), .slice a n c, .int .i64 (sx : Int)] 34)).drew) hF hT hc).mono ?_
  rw [HD.out]
  rintro e wa42 ⟨va42, rfl, o42, hb42⟩
  rw [L1.out] at o42
  obtain ⟨g42, c42, rfl, s42, _⟩ := own_src o42
  dsimp only
  have B43 : Hid (Below w.heap.size w (wa42)) := (B39.out.drew).trans (hb42.mono (B39.out.drew).size)
  have X44 : Hid (Box (wa42) w.heap.size [.string F, .string T, .int .i64 (cx : Int), .slice a n c, .int .i64 (sx : Int)]) := Box.below (w := (w.alloc (.cells #[.string F, .string T, .int .i64 (cx : Int), .slice a n c, .int .i64 (sx : Int)] 34)).drew) X40.out hb42
  have T45 : Hid (HasHalf (wa42)) := HasHalf.below (w := (w.alloc (.cells #[.string F, .string T, .int .i64 (cx : Int), .slice a n c, .int .i64 (sx : Int)] 34)).drew) T41.out hb42
  have H46 : Hid (Src (wa42) g42 (cellsB hd)) := s42
  clear o42 hb42 s42
  clear e0 e1 e2 e3 e4
  obtain ⟨e0, _⟩ := X44.out 0 _ rfl
  obtain ⟨e1, _⟩ := X44.out 1 _ rfl
  obtain ⟨e2, _⟩ := X44.out 2 _ rfl
  obtain ⟨e3, _⟩ := X44.out 3 _ rfl
  obtain ⟨e4, _⟩ := X44.out 4 _ rfl
  refine hK _ _ ⟨e0, e1, e2, e3, e4⟩ (fun hHeld => ?_)
  clear hK K
  refine wpAnyH_ready (rs := [3]) (by kernel_rfl) (by simp) ?_
  refine AllReadyH.cons rfl (fun K hK => ?_) AllReadyH.nil
  go_simp
  refine (backupParts F T (cx : Int) (sx : Int) a n c M (wa42) HM.out hn HS.out (Src.below (w := w) HH.out (B43.out))).mono ?_
  rw [PT.out, L2.out]
  rintro e wa47 ⟨va47, rfl, o47, hb47⟩
  obtain ⟨g47, c47, rfl, s47, _⟩ := own_src o47
  dsimp only
  have B48 : Hid (Below w.heap.size w (wa47)) := (B43.out).trans (hb47.mono (B43.out).size)
  have X49 : Hid (Box (wa47) w.heap.size [.string F, .string T, .int .i64 (cx : Int), .slice a n c, .int .i64 (sx : Int)]) := Box.below (w := wa42) X44.out hb47
  have T50 : Hid (HasHalf (wa47)) := HasHalf.below (w := wa42) T45.out hb47
  have H51 : Hid (Src (wa47) g42 (cellsB hd)) := Src.below (w := wa42) H46.out hb47
  have P52 : Hid (Src (wa47) g47 (cellsB pt)) := s47
  clear o47 hb47 s47
  clear e0 e1 e2 e3 e4
  obtain ⟨e0, _⟩ := X49.out 0 _ rfl
  obtain ⟨e1, _⟩ := X49.out 1 _ rfl
  obtain ⟨e2, _⟩ := X49.out 2 _ rfl
  obtain ⟨e3, _⟩ := X49.out 3 _ rfl
  obtain ⟨e4, _⟩ := X49.out 4 _ rfl
  refine hK _ _ ⟨e0, e1, e2, e3, e4⟩ (fun hHeld => ?_)
  clear hK K
  refine wpAnyH_ready (rs := [6]) (by kernel_rfl) (by simp) ?_
  refine AllReadyH.cons rfl (fun K hK => ?_) AllReadyH.nil
  go_simp
  refine (numberBytesV sx (wa47) hx).mono ?_
  rintro e wa53 ⟨va53, rfl, o53, hb53⟩
  obtain ⟨g53, c53, rfl, s53, _⟩ := own_src o53
  dsimp only
  have B54 : Hid (Below w.heap.size w (wa53)) := (B48.out).trans (hb53.mono (B48.out).size)
  have X55 : Hid (Box (wa53) w.heap.size [.string F, .string T, .int .i64 (cx : Int), .slice a n c, .int .i64 (sx : Int)]) := Box.below (w := wa47) X49.out hb53
  have T56 : Hid (HasHalf (wa53)) := HasHalf.below (w := wa47) T50.out hb53
  have H57 : Hid (Src (wa53) g42 (cellsB hd)) := Src.below (w := wa47) H51.out hb53
  have P58 : Hid (Src (wa53) g47 (cellsB pt)) := Src.below (w := wa47) P52.out hb53
  have N59 : Hid (Src (wa53) g53 (cellsB (numQ sx))) := s53
  clear o53 hb53 s53
  clear e0 e1 e2 e3 e4
  obtain ⟨e0, _⟩ := X55.out 0 _ rfl
  obtain ⟨e1, _⟩ := X55.out 1 _ rfl
  obtain ⟨e2, _⟩ := X55.out 2 _ rfl
  obtain ⟨e3, _⟩ := X55.out 3 _ rfl
  obtain ⟨e4, _⟩ := X55.out 4 _ rfl
  refine hK _ _ ⟨e0, e1, e2, e3, e4⟩ (fun hHeld => ?_)
  clear hK K
  refine wpAnyH_ready (rs := [7]) (by kernel_rfl) (by simp) ?_
  refine AllReadyH.cons rfl (fun K hK => ?_) AllReadyH.nil
  go_simp
  have B60 : Hid (Below w.heap.size w (((wa53).alloc (.cells #[.slice g42 l1 c42, .slice g47 l2 c47, .slice g53 4 c53] 55)))) := B54.out.alloc B54.out.size _
  have X61 : Hid (Box (((wa53).alloc (.cells #[.slice g42 l1 c42, .slice g47 l2 c47, .slice g53 4 c53] 55))) w.heap.size [.string F, .string T, .int .i64 (cx : Int), .slice a n c, .int .i64 (sx : Int)]) := Box.old (w := wa53) X55.out _
  have T62 : Hid (HasHalf (((wa53).alloc (.cells #[.slice g42 l1 c42, .slice g47 l2 c47, .slice g53 4 c53] 55)))) := HasHalf.below (w := wa53) T56.out (((Below.refl _ (wa53)).alloc (Nat.le_refl _) (.cells #[.slice g42 l1 c42, .slice g47 l2 c47, .slice g53 4 c53] 55)))
  have H63 : Hid (Src (((wa53).alloc (.cells #[.slice g42 l1 c42, .slice g47 l2 c47, .slice g53 4 c53] 55))) g42 (cellsB hd)) := Src.below (w := wa53) H57.out (((Below.refl _ (wa53)).alloc (Nat.le_refl _) (.cells #[.slice g42 l1 c42, .slice g47 l2 c47, .slice g53 4 c53] 55)))
  have P64 : Hid (Src (((wa53).alloc (.cells #[.slice g42 l1 c42, .slice g47 l2 c47, .slice g53 4 c53] 55))) g47 (cellsB pt)) := Src.below (w := wa53) P58.out (((Below.refl _ (wa53)).alloc (Nat.le_refl _) (.cells #[.slice g42 l1 c42, .slice g47 l2 c47, .slice g53 4 c53] 55)))
  have N65 : Hid (Src (((wa53).alloc (.cells #[.slice g42 l1 c42, .slice g47 l2 c47, .slice g53 4 c53] 55))) g53 (cellsB (numQ sx))) := Src.below (w := wa53) N59.out (((Below.refl _ (wa53)).alloc (Nat.le_refl _) (.cells #[.slice g42 l1 c42, .slice g47 l2 c47, .slice g53 4 c53] 55)))
  have O66 : Hid (Src (((wa53).alloc (.cells #[.slice g42 l1 c42, .slice g47 l2 c47, .slice g53 4 c53] 55))) (some ⟨wa53.heap.size, 0, none⟩) [.slice g42 l1 c42, .slice g47 l2 c47, .slice g53 4 c53]) := src_vals (w := wa53) (xs := [.slice g42 l1 c42, .slice g47 l2 c47, .slice g53 4 c53]) (by simp)
  clear e0 e1 e2 e3 e4
  obtain ⟨e0, _⟩ := X61.out 0 _ rfl
  obtain ⟨e1, _⟩ := X61.out 1 _ rfl
  obtain ⟨e2, _⟩ := X61.out 2 _ rfl
  obtain ⟨e3, _⟩ := X61.out 3 _ rfl
  obtain ⟨e4, _⟩ := X61.out 4 _ rfl
  refine hK _ _ ⟨e0, e1, e2, e3, e4⟩ (fun hHeld => ?_)
  clear hK K
  refine wpAnyH_ready (rs := [8]) (by kernel_rfl) (by simp) ?_
  refine AllReadyH.cons rfl (fun K hK => ?_) AllReadyH.nil
  have HRC : Hid (∀ i, i < 3 → ∃ a c, ([.slice g42 l1 c42, .slice g47 l2 c47, .slice g53 4 c53] : List Value).getD i undef = .slice a ((fun i => [hd, pt, numQ sx].getD i []) i).length c ∧ Src (((wa53).alloc (.cells #[.slice g42 l1 c42, .slice g47 l2 c47, .slice g53 4 c53] 55))) a (cellsB ((fun i => [hd, pt, numQ sx].getD i []) i))) := fun i hi => by
    match i, hi with
    | 0, _ => exact ⟨g42, c42, by show Value.slice g42 l1 c42 = Value.slice g42 (hd).length c42; rw [L1.out], H63.out⟩
    | 1, _ => exact ⟨g47, c47, by show Value.slice g47 l2 c47 = Value.slice g47 (pt).length c47; rw [L2.out], P64.out⟩
    | 2, _ => exact ⟨g53, c53, rfl, N65.out⟩
  have CC : Hid (Calls Tryz.prog 61 #[.slice (some ⟨wa53.heap.size, 0, none⟩) 3 3] (((wa53).alloc (.cells #[.slice g42 l1 c42, .slice g47 l2 c47, .slice g53 4 c53] 55))) fun e w' => ∃ v, e = .returned v ∧ w'.ownsRow (((wa53).alloc (.cells #[.slice g42 l1 c42, .slice g47 l2 c47, .slice g53 4 c53] 55))).heap.size 5 1 v tl (cellsB tot) ∧ Below (((wa53).alloc (.cells #[.slice g42 l1 c42, .slice g47 l2 c47, .slice g53 4 c53] 55))).heap.size (((wa53).alloc (.cells #[.slice g42 l1 c42, .slice g47 l2 c47, .slice g53 4 c53] 55))) w') := by
    have h9 := slicesConcat (some ⟨wa53.heap.size, 0, none⟩) 3 3 [.slice g42 l1 c42, .slice g47 l2 c47, .slice g53 4 c53] (fun i => [hd, pt, numQ sx].getD i []) (((wa53).alloc (.cells #[.slice g42 l1 c42, .slice g47 l2 c47, .slice g53 4 c53] 55))) rfl (by omega) (by rw [CT.out.1, CT.out.2]; omega) (by rw [CT.out.1, CT.out.2]; omega) O66.out HRC.out
    rw [CT.out.1, CT.out.2] at h9
    exact h9
  clear HRC
  go_simp
  refine CC.out.mono ?_
  rintro e wa67 ⟨va67, rfl, o67, hb67⟩
  obtain ⟨g67, c67, rfl, s67, _⟩ := own_src o67
  clear CC
  dsimp only
  have B68 : Hid (Below w.heap.size w (wa67)) := (B60.out).trans (hb67.mono (B60.out).size)
  have X69 : Hid (Box (wa67) w.heap.size [.string F, .string T, .int .i64 (cx : Int), .slice a n c, .int .i64 (sx : Int)]) := Box.below (w := ((wa53).alloc (.cells #[.slice g42 l1 c42, .slice g47 l2 c47, .slice g53 4 c53] 55))) X61.out hb67
  have T70 : Hid (HasHalf (wa67)) := HasHalf.below (w := ((wa53).alloc (.cells #[.slice g42 l1 c42, .slice g47 l2 c47, .slice g53 4 c53] 55))) T62.out hb67
  have H71 : Hid (Src (wa67) g42 (cellsB hd)) := Src.below (w := ((wa53).alloc (.cells #[.slice g42 l1 c42, .slice g47 l2 c47, .slice g53 4 c53] 55))) H63.out hb67
  have P72 : Hid (Src (wa67) g47 (cellsB pt)) := Src.below (w := ((wa53).alloc (.cells #[.slice g42 l1 c42, .slice g47 l2 c47, .slice g53 4 c53] 55))) P64.out hb67
  have N73 : Hid (Src (wa67) g53 (cellsB (numQ sx))) := Src.below (w := ((wa53).alloc (.cells #[.slice g42 l1 c42, .slice g47 l2 c47, .slice g53 4 c53] 55))) N65.out hb67
  have O74 : Hid (Src (wa67) (some ⟨wa53.heap.size, 0, none⟩) [.slice g42 l1 c42, .slice g47 l2 c47, .slice g53 4 c53]) := Src.below (w := ((wa53).alloc (.cells #[.slice g42 l1 c42, .slice g47 l2 c47, .slice g53 4 c53] 55))) O66.out hb67
  have C75 : Hid (World.ownsRow (wa67) (w.heap.size + 1) 5 1 (.slice g67 tl c67) tl (cellsB tot)) := own_mono o67 (show w.heap.size + 1 ≤ _ from World.block_lt_of_cell? _ _ (X61.out 0 _ rfl).1)
  have Cs76 : Hid (Src (wa67) g67 (cellsB tot)) := s67
  clear o67 hb67 s67
  clear e0 e1 e2 e3 e4
  obtain ⟨e0, _⟩ := X69.out 0 _ rfl
  obtain ⟨e1, _⟩ := X69.out 1 _ rfl
  obtain ⟨e2, _⟩ := X69.out 2 _ rfl
  obtain ⟨e3, _⟩ := X69.out 3 _ rfl
  obtain ⟨e4, _⟩ := X69.out 4 _ rfl
  refine hK _ _ ⟨e0, e1, e2, e3, e4⟩ (fun hHeld => ?_)
  clear hK K
  refine wpAnyH_ready (rs := [9]) (by kernel_rfl) (by simp) ?_
  refine AllReadyH.cons rfl (fun K hK => ?_) AllReadyH.nil
  go_simp
  refine (check32L g67 tl c67 tot (wa67) CT.out.2 (by omega) LT.out Cs76.out T70.out).mono ?_
  rw [SM.out]
  rintro e wa77 ⟨rfl, hw77⟩
  obtain rfl := hw77.symm
  dsimp only
  clear e0 e1 e2 e3 e4
  obtain ⟨e0, _⟩ := X69.out 0 _ rfl
  obtain ⟨e1, _⟩ := X69.out 1 _ rfl
  obtain ⟨e2, _⟩ := X69.out 2 _ rfl
  obtain ⟨e3, _⟩ := X69.out 3 _ rfl
  obtain ⟨e4, _⟩ := X69.out 4 _ rfl
  refine hK _ _ ⟨e0, e1, e2, e3, e4⟩ (fun hHeld => ?_)
  clear hK K
  refine wpAnyH_ready (rs := [10]) (by kernel_rfl) (by simp) ?_
  refine AllReadyH.cons rfl (fun K hK => ?_) AllReadyH.nil
  go_simp
  clear e0 e1 e2 e3 e4
  obtain ⟨e0, _⟩ := X69.out 0 _ rfl
  obtain ⟨e1, _⟩ := X69.out 1 _ rfl
  obtain ⟨e2, _⟩ := X69.out 2 _ rfl
  obtain ⟨e3, _⟩ := X69.out 3 _ rfl
  obtain ⟨e4, _⟩ := X69.out 4 _ rfl
  refine hK _ _ ⟨e0, e1, e2, e3, e4⟩ (fun hHeld => ?_)
  clear hK K
  refine wpAnyH_done (by kernel_rfl) ?_ _
  refine NoPanic.normal ?_
  clear e0 e1 e2 e3 e4
  clear hHeld
  go_wp2_with fail
  go_ret
  exact ⟨rfl, B68.out⟩
/-- What a step of a replay answers: the pairs and a code. -/
def folA (P : List PM) (l : ByteArray) (c : Int) (D : BM) : List PM × Int :=
  if D.F ≠ l then (P, 13) else if D.C ≠ c then (P, 14) else if (applyB P D.D).2 ≠ 0 then (P, (applyB P D.D).2) else if ((sumL (fsP (applyB P D.D).1) : Nat) : Int) ≠ D.S then (P, 8) else ((applyB P D.D).1, 0)
def rpyA (P : List PM) (l : ByteArray) (c : Int) (D : BM) : List PM × Int :=
  if 4096 < P.length ∨ 65536 < l.size then ([], 2) else if okP P = false ∨ okK D = false then ([], 1) else folA P l c D
theorem run_goodL : ∀ (ds : List DF) (L R : List PM), GoodL L → runM L ds = (R, 0) → GoodL R
  | [], L, R, h, e => by rw [runM] at e; cases e; exact h
  | d :: ds, L, R, h, e => by
    by_cases h1 : formB d = false
    · rw [run_form h1] at e; simp at e
    · have h2 : formB d = true := by simpa using h1
      by_cases h3 : heldM L d.1 = (d.2.1, d.2.2.2.1)
      · rw [run_step h2 h3] at e
        exact run_goodL ds _ R (step_good h h2) e
      · rw [run_old h2 h3] at e; simp at e
theorem applyB_goodL {L : List PM} {ds : List DF} {R : List PM} (h : GoodL L) (e : applyB L ds = (R, 0)) : GoodL R ∧ R.length ≤ 60 := by
  obtain ⟨X, x, hx⟩ : ∃ X x, runM L ds = (X, x) := ⟨_, _, rfl⟩
  by_cases h0 : x = 0
  · subst h0
    by_cases h6 : 60 < X.length
    · rw [applyB_full hx h6] at e; simp at e
    · rw [applyB_good hx h6] at e
      simp only [Prod.mk.injEq, and_true] at e
      subst e
      exact ⟨run_goodL _ _ _ h hx, by omega⟩
  · rw [applyB_bad hx h0] at e
    simp only [Prod.mk.injEq] at e
    exact absurd e.2 h0
theorem okP_fitR {M : List PM} (h : okP M = true) : M.length ≤ 60 ∧ ∀ p ∈ M, p.1.size ≤ 90 ∧ p.2.size ≤ 90 := by
  refine ⟨(okP_up h).2.1, fun p hp => ?_⟩
  have h9 := (okP_up h).2.2 p hp
  unfold fitB keyB at h9
  simp only [Bool.and_eq_true, decide_eq_true_eq] at h9
  omega
theorem fol_len {P : List PM} {l : ByteArray} {c : Int} {D : BM} {R : List PM} {q : Int} (hk : okP P = true) (h : folA P l c D = (R, q)) : okP R = true := by
  unfold folA at h
  split at h
  · cases h; exact hk
  split at h
  · cases h; exact hk
  split at h
  · cases h; exact hk
  split at h
  · cases h; exact hk
  · rename_i h3 _
    have h4 : (applyB P D.D).2 = 0 := by simpa using h3
    cases h
    have := applyB_goodL (okP_good hk).1 (show applyB P D.D = ((applyB P D.D).1, 0) by rw [← h4])
    exact this.1.pairsB this.2
end Go.Proofs.YtmbndpgoihdpnaaGreatDoor
