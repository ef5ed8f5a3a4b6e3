
/-
  Contracts of the helpers on messages: sizes, copies, comparisons, marks. By an AI agent.
-/
import Derived.Test.YtgbhjhbmolgbeaaDoorListsf
namespace Go.Proofs.YtgbhjhbmolgbeaaDoor
open Go.ChangeShapes Go.WideShapes Go.ChangeAt Go.RowKit Go.Deep
set_option linter.unusedVariables false

/-- A message: its fields, its body. -/
structure GM where
  F : List MFl
  Y : ByteArray
/-- v reads as D. -/
def ReadsG (w : World) (v : Value) (D : GM) : Prop :=
  ∃ a c, v = .agg #[.slice a D.F.length c, .string D.Y] ∧ Src w a (cellsFl D.F)
theorem ReadsG.below {w w' : World} {v : Value} {D : GM} (h : ReadsG w v D) (hb : Below w.heap.size w w') : ReadsG w' v D := by
  obtain ⟨a, c, rfl, h1⟩ := h
  exact ⟨a, c, rfl, h1.below hb⟩
theorem ReadsG.drew {w : World} {v : Value} {D : GM} (h : ReadsG w v D) : ReadsG w.drew v D := h
/-- v owns D, in blocks from lo up to hi. -/
def OwnsG (w : World) (lo hi : Nat) (v : Value) (D : GM) : Prop :=
  ∃ v1, v = .agg #[v1, .string D.Y] ∧ OwnsR w 33 2 lo hi v1 D.F.length (cellsFl D.F)
theorem OwnsG.reads {w : World} {lo hi : Nat} {v : Value} {D : GM} (h : OwnsG w lo hi v D) : ReadsG w v D := by
  obtain ⟨v1, rfl, h1⟩ := h
  obtain ⟨a1, c1, rfl, s1, _⟩ := own_src h1.1
  exact ⟨a1, c1, rfl, s1⟩
theorem OwnsG.below {w w' : World} {lo hi : Nat} {v : Value} {D : GM} (h : OwnsG w lo hi v D) (hb : Below w.heap.size w w') : OwnsG w' lo hi v D := by
  obtain ⟨v1, rfl, h1⟩ := h
  exact ⟨v1, rfl, h1.below hb⟩
theorem OwnsG.turned {w w' : World} {lo hi lo' hi' : Nat} {v : Value} {D : GM} (h : OwnsG w lo hi v D) (ht : Turned lo' hi' w w') (hd : hi ≤ lo' ∨ hi' ≤ lo) : OwnsG w' lo hi v D := by
  obtain ⟨v1, rfl, h1⟩ := h
  exact ⟨v1, rfl, h1.turned ht hd⟩
theorem OwnsG.mono {w : World} {lo hi lo' hi' : Nat} {v : Value} {D : GM} (h : OwnsG w lo hi v D) (hl : lo' ≤ lo) (hh : hi ≤ hi') : OwnsG w lo' hi' v D := by
  obtain ⟨v1, rfl, h1⟩ := h
  exact ⟨v1, rfl, h1.mono hl hh⟩
theorem OwnsG.drew {w : World} {lo hi : Nat} {v : Value} {D : GM} (h : OwnsG w lo hi v D) : OwnsG w.drew lo hi v D := h
theorem OwnsG.lit {w : World} {lo hi : Nat} {v : Value} {D : GM} (h : OwnsG w lo hi v D) : ∃ a c, v = .agg #[.slice a D.F.length c, .string D.Y] := by
  obtain ⟨a, c, e, _⟩ := h.reads
  exact ⟨a, c, e⟩
def smallG (D : GM) : Prop := (D.F.length ≤ 1048576 ∧ ∀ x ∈ D.F, x.1.size ≤ 1048576 ∧ x.2.size ≤ 1048576) ∧ D.Y.size ≤ 1048576
def maxG (D : GM) : Prop := (D.F.length ≤ maxLen ∧ ∀ x ∈ D.F, x.1.size ≤ maxLen ∧ x.2.size ≤ maxLen) ∧ D.Y.size ≤ maxLen

set_option maxHeartbeats 1000000 in
theorem toMessage (v : Value) (D : GM) (w : World) (hs : smallG D) (h : ReadsG w v D) :
    Calls Tryd.prog 25 #[v] w fun e w' => ∃ v', e = .returned v' ∧ OwnsG w' w.heap.size w'.heap.size v' D ∧ Below w.heap.size w w' := by
  obtain ⟨a, c, rfl, s1⟩ := h
  obtain ⟨n, hn⟩ : ∃ n, D.F.length = n := ⟨_, rfl⟩
  obtain ⟨Y, hY⟩ : ∃ Y, D.Y = Y := ⟨_, rfl⟩
  have HS : Hid (n ≤ 1048576) := by rw [← hn]; exact hs.1.1
  have S1 : Hid (Src w a (cellsFl D.F)) := s1
  rw [hn, hY]
  have N1 : Hid (D.F.length = n) := hn
  have NY : Hid (D.Y = Y) := hY
  clear hs s1 hn hY
  go_enter Tryd.func25, Tryd.ntmps25
  go_wp2_with fail
  refine (toFieldS a n c D.F _ N1.out HS.out (S1.out.below ((((Below.refl _ _).alloc (Nat.le_refl _) _).alloc (by simp) _).alloc (by simp; omega) _))).mono ?_
  rintro e w1 ⟨v1, rfl, o1, hb1⟩
  obtain ⟨b1, d1, rfl, _, _⟩ := own_src o1
  have B1 : Hid (Below w.heap.size w w1) := ((((Below.refl _ _).alloc (Nat.le_refl _) _).alloc (by simp) _).alloc (by simp; omega) _).trans (hb1.mono (by simp; omega))
  have HB0 : Hid (Box w1 w.heap.size [.slice a n c, .string Y]) := Box.below (((Box.new rfl).old _).old _) hb1
  have HRs : Hid (Box w1 (w.heap.size + 1) [.slice none 0 0, .string ⟨#[]⟩]) := Box.below ((Box.new (by simp)).old _) hb1
  have HO : Hid (Box w1 (w.heap.size + 1 + 1) [.slice none 0 0, .string ⟨#[]⟩]) := Box.below (Box.new (by simp)) hb1
  have O1 : Hid (w1.ownsRow (w.heap.size + 3) 33 2 (.slice b1 n d1) n (cellsFl D.F)) := own_mono o1 (by simp)
  clear o1 hb1
  obtain ⟨q0, q0f⟩ := HO.out 0 _ rfl
  obtain ⟨q1, q1f⟩ := (HO.out.set 0 (.slice b1 n d1)) 1 _ rfl
  have HB4 : Hid (Box (w1.setCell ⟨w.heap.size + 1 + 1, 0, none⟩ (.slice b1 n d1)) w.heap.size [.slice a n c, .string Y]) := HB0.out.other _ (by dsimp only; omega) _
  obtain ⟨y1, _⟩ := HB4.out 1 _ rfl
  have HO4 : Hid (Box ((w1.setCell ⟨w.heap.size + 1 + 1, 0, none⟩ (.slice b1 n d1)).setCell ⟨w.heap.size + 1 + 1, 1, none⟩ (.string Y)) (w.heap.size + 1 + 1) [.slice b1 n d1, .string Y]) := (HO.out.set 0 (.slice b1 n d1)).set 1 (.string Y)
  have HR4 : Hid (Box ((w1.setCell ⟨w.heap.size + 1 + 1, 0, none⟩ (.slice b1 n d1)).setCell ⟨w.heap.size + 1 + 1, 1, none⟩ (.string Y)) (w.heap.size + 1) [.slice none 0 0, .string ⟨#[]⟩]) := (HRs.out.other _ (by dsimp only; omega) _).other _ (by dsimp only; omega) _
  obtain ⟨f0, _⟩ := HO4.out 0 _ rfl
  obtain ⟨f1, _⟩ := HO4.out 1 _ rfl
  obtain ⟨g0, h0⟩ := HR4.out 0 _ rfl
  obtain ⟨g1, h1⟩ := (HR4.out.set 0 (.slice b1 n d1)) 1 _ rfl
  have HR5 := (HR4.out.set 0 (.slice b1 n d1)).set 1 (.string Y)
  obtain ⟨r0, _⟩ := HR5 0 _ rfl
  obtain ⟨r1, _⟩ := HR5 1 _ rfl
  clear HR5
  go_wp2_with fail
  refine bodyPost_ret (v := .agg #[.slice b1 n d1, .string Y]) (by simp [results, Tryd.results25, go_sem, r0, r1]) rfl ⟨_, rfl, ?_, ?_⟩
  · refine ⟨.slice b1 n d1, by rw [NY.out], OwnsR.mk ?_ (Nat.le_refl _)⟩
    rw [N1.out]
    exact own_mono (own_setLow (own_setLow (own_setLow (own_setLow O1.out (by dsimp only; omega) _) (by dsimp only; omega) _) (by dsimp only; omega) _) (by dsimp only; omega) _) (by omega)
  · exact Below.setCell (Below.setCell (Below.setCell (Below.setCell B1.out (by dsimp only; omega) _) (by dsimp only; omega) _) (by dsimp only; omega) _) (by dsimp only; omega) _

set_option maxHeartbeats 1000000 in
theorem szMessage (v : Value) (D : GM) (l : Int) (w : World) (hl0 : 0 ≤ l) (hl1 : l ≤ 1048576) (hm : maxG D) (h : ReadsG w v D) :
    Calls Tryd.prog 24 #[v, .int .i64 l] w fun e w' => ∃ r : Int, e = .returned (.int .i64 r) ∧ r ≤ l ∧ (0 ≤ r → smallG D) ∧ Below w.heap.size w w' := by
  obtain ⟨a, c, rfl, s1⟩ := h
  obtain ⟨n, hn⟩ : ∃ n, D.F.length = n := ⟨_, rfl⟩
  obtain ⟨Y, hY⟩ : ∃ Y, D.Y = Y := ⟨_, rfl⟩
  have HM : Hid (n ≤ maxLen ∧ ∀ x ∈ D.F, x.1.size ≤ maxLen ∧ x.2.size ≤ maxLen) := by rw [← hn]; exact hm.1
  have hY2 : Y.size ≤ maxLen := by rw [← hY]; exact hm.2
  unfold maxLen at hY2
  have S1 : Hid (Src w a (cellsFl D.F)) := s1
  rw [hn, hY]
  have N1 : Hid (D.F.length = n) := hn
  have NY : Hid (D.Y = Y) := hY
  clear hm s1 hn hY
  go_enter Tryd.func24, Tryd.ntmps24
  go_wp2_with fail
  refine (szFieldS a n c D.F l _ N1.out HM.out.1 HM.out.2 hl0 hl1 (S1.out.below ((Below.refl _ _).alloc (Nat.le_refl _) _))).mono ?_
  rintro e w1 ⟨r, rfl, hr1, hr, hb1⟩
  have B1 : Hid (Below w.heap.size w w1) := Below.new hb1
  obtain ⟨y1, _⟩ := (Box.below (Box.new (w := w) (vs := #[.slice a n c, .string Y]) (t := 47) rfl) hb1) 1 _ rfl
  have HR : Hid (0 ≤ r → D.F.length ≤ 1048576 ∧ ∀ x ∈ D.F, x.1.size ≤ 1048576 ∧ x.2.size ≤ 1048576) := fun h => ⟨by rw [N1.out]; exact (hr h).2.1, (hr h).2.2⟩
  clear hb1 hr
  by_cases hneg : r < 0
  · go_wp2_with fail
    go_ret
    exact ⟨-1, rfl, by omega, fun h => absurd h (by omega), B1.out⟩
  · by_cases hneg2 : r - Y.size < 0
    · go_wp2_with fail
      go_ret
      exact ⟨-1, rfl, by omega, fun h => absurd h (by omega), B1.out⟩
    · go_wp2_with fail
      go_ret
      exact ⟨r - Y.size, rfl, by omega, fun _ => ⟨HR.out (by omega), by rw [NY.out]; omega⟩, B1.out⟩

set_option maxHeartbeats 1000000 in
theorem eqMessage (v v' : Value) (D : GM) (w : World) (hs : D.F.length ≤ 9000000000000000000) (h : ReadsG w v D) (h' : ReadsG w v' D) :
    Calls Tryd.prog 21 #[v, v'] w fun e w' => e = .returned (.bool true) ∧ Below w.heap.size w w' := by
  obtain ⟨a, c, rfl, s1⟩ := h
  obtain ⟨b, d, rfl, s2⟩ := h'
  obtain ⟨n, hn⟩ : ∃ n, D.F.length = n := ⟨_, rfl⟩
  obtain ⟨Y, hY⟩ : ∃ Y, D.Y = Y := ⟨_, rfl⟩
  have HS : Hid (n ≤ 9000000000000000000) := by rw [← hn]; exact hs
  have S1 : Hid (Src w a (cellsFl D.F) ∧ Src w b (cellsFl D.F)) := ⟨s1, s2⟩
  rw [hn, hY]
  have N1 : Hid (D.F.length = n) := hn
  clear hs s1 s2 hn hY
  go_enter Tryd.func21, Tryd.ntmps21
  go_wp2_with fail
  refine (eqFieldS a b n c d D.F _ N1.out HS.out (S1.out.1.below (((Below.refl _ _).alloc (Nat.le_refl _) _).alloc (by simp) _)) (S1.out.2.below (((Below.refl _ _).alloc (Nat.le_refl _) _).alloc (by simp) _))).mono ?_
  rintro e w1 ⟨rfl, hb1⟩
  have B1 : Hid (Below w.heap.size w w1) := (((Below.refl _ _).alloc (Nat.le_refl _) _).alloc (by simp) _).trans (hb1.mono (by simp; omega))
  obtain ⟨y1, _⟩ := (Box.below ((Box.new (w := w) (vs := #[.slice a n c, .string Y]) (t := 25) rfl).old _) hb1) 1 _ rfl
  obtain ⟨y2, _⟩ := (Box.below (Box.new (vs := #[.slice b n d, .string Y]) (t := 25) (by simp)) hb1 : Box w1 (w.heap.size + 1) _) 1 _ rfl
  clear hb1
  go_wp2_with fail
  go_ret
  exact ⟨rfl, B1.out⟩

def mkG (D : GM) (k : Nat) : GM := ⟨mkFl k D.F.length, D.Y⟩
set_option maxHeartbeats 1000000 in
theorem markMessage (v : Value) (D : GM) (k lo hi : Nat) (w : World) (hs : D.F.length ≤ 1048576) (hk0 : 0 < k) (hk1 : k ≤ 4194304) (hhi : hi ≤ w.heap.size) (h : OwnsG w lo hi v D) :
    Calls Tryd.prog 22 #[v, .int .i64 (k : Int)] w fun e w' => e = .returned (.int .i64 ((k + D.F.length * 2 : Nat) : Int)) ∧ Turned lo hi w w' ∧ OwnsG w' lo hi v (mkG D k) := by
  obtain ⟨v1, rfl, h1⟩ := h
  obtain ⟨a, c, rfl⟩ := h1.lit
  obtain ⟨n, hn⟩ : ∃ n, D.F.length = n := ⟨_, rfl⟩
  have H1 : Hid (OwnsR w 33 2 lo hi (.slice a n c) n (cellsFl D.F)) := by rw [← hn]; exact h1
  have HS : Hid (n ≤ 1048576) := by rw [← hn]; exact hs
  have HU : Hid (mkG D k = ⟨mkFl k n, D.Y⟩) := by show _ = _; unfold mkG; rw [hn]
  rw [hn, HU.out]
  clear hn h1 hs
  go_enter Tryd.func22, Tryd.ntmps22
  go_wp2_with fail
  refine (markFieldS (.slice a n c) n k lo (cellsFl D.F) _ HS.out hk0 hk1 (own_below H1.out.1 ((Below.refl _ _).alloc (Nat.le_refl _) _))).mono ?_
  rintro e w1 ⟨rfl, g1, o1⟩
  have T1 : Hid (Turned lo hi w w1) := (Turned.of_below ((Below.refl _ _).alloc (Nat.le_refl _) _)).trans (Turned.of_grown g1 (fun j e => ⟨((own_mono H1.out.1 (Nat.le_refl _)).lt j e).1, H1.out.2 j e⟩))
  have O1 : Hid (OwnsR w1 33 2 lo hi (.slice a n c) n (cellsFl (mkFl k n))) := ⟨o1, H1.out.2⟩
  clear g1 o1
  go_wp2_with fail
  go_ret
  refine ⟨rfl, T1.out, _, rfl, ?_⟩
  show OwnsR w1 33 2 lo hi (.slice a n c) (mkFl k n).length (cellsFl (mkFl k n))
  rw [mkFl_length]
  exact O1.out

set_option maxHeartbeats 1000000 in
theorem heldMessage (v : Value) (D : GM) (k : Nat) (w : World) (hs : D.F.length ≤ 1048576) (hk0 : 0 < k) (hk1 : k ≤ 4194304) (h : ReadsG w v (mkG D k)) :
    Calls Tryd.prog 23 #[v, .int .i64 (k : Int)] w fun e w' => e = .returned (.int .i64 ((k + D.F.length * 2 : Nat) : Int)) ∧ Below w.heap.size w w' := by
  obtain ⟨a, c, rfl, s1⟩ := h
  obtain ⟨n, hn⟩ : ∃ n, D.F.length = n := ⟨_, rfl⟩
  have HS : Hid (n ≤ 1048576) := by rw [← hn]; exact hs
  have e1 : (mkG D k).F = mkFl k n := by unfold mkG; rw [hn]
  have S1 : Hid (Src w a (cellsFl (mkFl k n))) := by rw [← e1]; exact s1
  rw [e1, mkFl_length, hn]
  have PB : Hid (0 < k + n * 2 ∧ k + n * 2 ≤ 9000000) := ⟨by omega, by have := HS.out; omega⟩
  obtain ⟨Y, hY⟩ : ∃ Y, (mkG D k).Y = Y := ⟨_, rfl⟩
  rw [hY]
  clear hn e1 s1 hs hY
  go_enter Tryd.func23, Tryd.ntmps23
  go_wp2_with fail
  refine (heldFieldS a n c k _ HS.out hk0 hk1 (S1.out.below ((Below.refl _ _).alloc (Nat.le_refl _) _))).mono ?_
  rintro e w1 ⟨rfl, hb1⟩
  have B1 : Hid (Below w.heap.size w w1) := Below.new hb1
  clear hb1
  obtain ⟨z, hz⟩ : ∃ z : Nat, k + n * 2 = z := ⟨_, rfl⟩
  rw [hz] at PB ⊢
  have hz0 : (0 : Int) ≤ (z : Int) := by omega
  have HZ : Hid (k + n * 2 = z) := hz
  clear hz
  go_wp2_with fail
  go_ret
  exact ⟨by show Ending.returned (.int .i64 ((z : Nat) : Int)) = _; rw [← HZ.out], B1.out⟩
end Go.Proofs.YtgbhjhbmolgbeaaDoor
