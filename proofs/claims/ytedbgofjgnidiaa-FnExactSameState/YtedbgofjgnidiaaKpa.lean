
/-
  Contracts of the helpers on what a state keeps: sizes, copies, comparisons. By an AI agent.
-/
import Derived.Test.YtedbgofjgnidiaaBoxes
import Derived.Test.YtedbgofjgnidiaaListsp
namespace Go.Proofs.Ytedbgofjgnidiaa
open Go.ChangeShapes Go.WideShapes Go.ChangeAt Go.RowKit Go.Deep
set_option linter.unusedVariables false

/-- A kept snapshot: its name, its tick, its pairs. -/
structure KeM where
  S : ByteArray
  T : Int
  P : List PM
abbrev ke0 : KeM := ⟨⟨#[]⟩, 0, []⟩
/-- v reads as D. -/
def ReadsKe (w : World) (v : Value) (D : KeM) : Prop :=
  ∃ a c, v = .agg #[.string D.S, .int .i64 D.T, .slice a D.P.length c] ∧ Src w a (cellsP D.P)
theorem ReadsKe.below {w w' : World} {v : Value} {D : KeM} (h : ReadsKe w v D) (hb : Below w.heap.size w w') : ReadsKe w' v D := by
  obtain ⟨a, c, rfl, h1⟩ := h
  exact ⟨a, c, rfl, h1.below hb⟩
theorem ReadsKe.drew {w : World} {v : Value} {D : KeM} (h : ReadsKe w v D) : ReadsKe w.drew v D := h
/-- v owns D, in blocks from lo up to hi. -/
def OwnsKe (w : World) (lo hi : Nat) (v : Value) (D : KeM) : Prop :=
  ∃ v1, v = .agg #[.string D.S, .int .i64 D.T, v1] ∧ (w.ownsRow lo 42 2 v1 D.P.length (cellsP D.P) ∧ ∀ k, v1.ownBlock = some k → k < hi)
theorem OwnsKe.mk {w : World} {lo hi : Nat} {v1 : Value} {S : ByteArray} {T : Int} {D : KeM} (hS : D.S = S) (hT : D.T = T) (h1 : w.ownsRow lo 42 2 v1 D.P.length (cellsP D.P)) (hh : w.heap.size ≤ hi) : OwnsKe w lo hi (.agg #[.string S, .int .i64 T, v1]) D :=
  ⟨v1, by rw [hS, hT], h1, fun k e => by have := (h1.lt k e).2; omega⟩
theorem OwnsKe.reads {w : World} {lo hi : Nat} {v : Value} {D : KeM} (h : OwnsKe w lo hi v D) : ReadsKe w v D := by
  obtain ⟨v1, rfl, h1, _⟩ := h
  obtain ⟨a1, c1, rfl, s1, _⟩ := own_src h1
  exact ⟨a1, c1, rfl, s1⟩
theorem OwnsKe.below {w w' : World} {lo hi : Nat} {v : Value} {D : KeM} (h : OwnsKe w lo hi v D) (hb : Below w.heap.size w w') : OwnsKe w' lo hi v D := by
  obtain ⟨v1, rfl, h1, k1⟩ := h
  exact ⟨v1, rfl, own_below h1 hb, k1⟩
theorem OwnsKe.turned {w w' : World} {lo hi lo' hi' : Nat} {v : Value} {D : KeM} (h : OwnsKe w lo hi v D) (ht : Turned lo' hi' w w') (hd : hi ≤ lo' ∨ hi' ≤ lo) : OwnsKe w' lo hi v D := by
  obtain ⟨v1, rfl, h1, k1⟩ := h
  exact ⟨v1, rfl, own_turned h1 ht k1 hd, k1⟩
theorem OwnsKe.mono {w : World} {lo hi lo' hi' : Nat} {v : Value} {D : KeM} (h : OwnsKe w lo hi v D) (hl : lo' ≤ lo) (hh : hi ≤ hi') : OwnsKe w lo' hi' v D := by
  obtain ⟨v1, rfl, h1, k1⟩ := h
  exact ⟨v1, rfl, own_mono h1 hl, fun k e => Nat.lt_of_lt_of_le (k1 k e) hh⟩
theorem OwnsKe.drew {w : World} {lo hi : Nat} {v : Value} {D : KeM} (h : OwnsKe w lo hi v D) : OwnsKe w.drew lo hi v D := h
theorem OwnsKe.lit {w : World} {lo hi : Nat} {v : Value} {D : KeM} (h : OwnsKe w lo hi v D) : ∃ a c, v = .agg #[.string D.S, .int .i64 D.T, .slice a D.P.length c] := by
  obtain ⟨a, c, e, _⟩ := h.reads
  exact ⟨a, c, e⟩
def smallKe (D : KeM) : Prop := D.S.size ≤ 1048576 ∧ D.P.length ≤ 1048576 ∧ (∀ x ∈ D.P, x.1.size ≤ 1048576 ∧ x.2.size ≤ 1048576)
def maxKe (D : KeM) : Prop := D.S.size ≤ maxLen ∧ D.P.length ≤ maxLen ∧ (∀ x ∈ D.P, x.1.size ≤ maxLen ∧ x.2.size ≤ maxLen)
abbrev W3k (w : World) (B : Nat) (v0 v1 v2 : Value) : World := ((w.setCell ⟨B, 0, none⟩ v0).setCell ⟨B, 1, none⟩ v1).setCell ⟨B, 2, none⟩ v2
theorem Box.w3k {w : World} {B : Nat} {z0 z1 z2 : Value} (h : Box w B [z0, z1, z2]) (v0 v1 v2 : Value) :
    (w.cell? ⟨B, 0, none⟩ = some z0 ∧ w.frozen? ⟨B, 0, none⟩ = false) ∧
    ((w.setCell ⟨B, 0, none⟩ v0).cell? ⟨B, 1, none⟩ = some z1 ∧ (w.setCell ⟨B, 0, none⟩ v0).frozen? ⟨B, 1, none⟩ = false) ∧
    (((w.setCell ⟨B, 0, none⟩ v0).setCell ⟨B, 1, none⟩ v1).cell? ⟨B, 2, none⟩ = some z2 ∧ ((w.setCell ⟨B, 0, none⟩ v0).setCell ⟨B, 1, none⟩ v1).frozen? ⟨B, 2, none⟩ = false) ∧
    ((W3k w B v0 v1 v2).cell? ⟨B, 0, none⟩ = some v0 ∧ (W3k w B v0 v1 v2).cell? ⟨B, 1, none⟩ = some v1 ∧ (W3k w B v0 v1 v2).cell? ⟨B, 2, none⟩ = some v2) :=
  ⟨h 0 _ rfl, (h.set 0 v0) 1 _ rfl, ((h.set 0 v0).set 1 v1) 2 _ rfl, ((((h.set 0 v0).set 1 v1).set 2 v2) 0 _ rfl).1, ((((h.set 0 v0).set 1 v1).set 2 v2) 1 _ rfl).1, ((((h.set 0 v0).set 1 v1).set 2 v2) 2 _ rfl).1⟩

set_option maxHeartbeats 1000000 in
theorem toKept (v : Value) (D : KeM) (w : World) (hs : smallKe D) (h : ReadsKe w v D) :
    Calls Try.prog 22 #[v] w fun e w' => ∃ v', e = .returned v' ∧ OwnsKe w' w.heap.size w'.heap.size v' D ∧ Below w.heap.size w w' := by
  obtain ⟨a1, c1, rfl, s1⟩ := h
  obtain ⟨n1, hn1⟩ : ∃ n, D.P.length = n := ⟨_, rfl⟩
  obtain ⟨S, hS⟩ : ∃ A, D.S = A := ⟨_, rfl⟩
  obtain ⟨T, hT⟩ : ∃ A, D.T = A := ⟨_, rfl⟩
  have HS : Hid (n1 ≤ 1048576) := by rw [← hn1]; exact hs.2.1
  have S1 : Hid (Src w a1 (cellsP D.P)) := s1
  rw [hn1, hS, hT]
  have N1 : Hid (D.P.length = n1) := hn1
  have NS : Hid (D.S = S) := hS
  have NT : Hid (D.T = T) := hT
  clear hs s1 hn1 hS hT
  go_enter Try.func22, Try.ntmps22
  go_wp2_with fail
  refine (toPairS a1 n1 c1 D.P _ N1.out HS.out (S1.out.below ((((Below.refl _ _).alloc (Nat.le_refl _) _).alloc (by simp) _).alloc (by simp; omega) _))).mono ?_
  rintro e w1 ⟨v1, rfl, o1, hb1⟩
  obtain ⟨b1, d1, rfl, _, _⟩ := own_src o1
  have B1 : Hid (Below w.heap.size w w1) := ((((Below.refl _ _).alloc (Nat.le_refl _) _).alloc (by simp) _).alloc (by simp; omega) _).trans (hb1.mono (by simp; omega))
  have HR : Hid (Box w1 (w.heap.size + 1) [.string ⟨#[]⟩, .int .i64 0, .slice none 0 0]) := Box.below ((Box.new (by simp)).old _) hb1
  have HO : Hid (Box w1 (w.heap.size + 1 + 1) [.string S, .int .i64 T, .slice none 0 0]) := Box.below (Box.new (by simp)) hb1
  have O1 : Hid (w1.ownsRow (w.heap.size + 3) 42 2 (.slice b1 n1 d1) n1 (cellsP D.P)) := own_mono o1 (by simp)
  clear o1 hb1
  obtain ⟨q3', q3f⟩ := HO.out 2 _ rfl
  have HO4 : Hid (Box (w1.setCell ⟨w.heap.size + 1 + 1, 2, none⟩ (.slice b1 n1 d1)) (w.heap.size + 1 + 1) [.string S, .int .i64 T, .slice b1 n1 d1]) := HO.out.set 2 _
  have HR4 : Hid (Box (w1.setCell ⟨w.heap.size + 1 + 1, 2, none⟩ (.slice b1 n1 d1)) (w.heap.size + 1) [.string ⟨#[]⟩, .int .i64 0, .slice none 0 0]) := HR.out.other _ (by dsimp only; omega) _
  obtain ⟨f0, _⟩ := HO4.out 0 _ rfl
  obtain ⟨f1, _⟩ := HO4.out 1 _ rfl
  obtain ⟨f2, _⟩ := HO4.out 2 _ rfl
  obtain ⟨⟨g0, h0⟩, ⟨g1, h1⟩, ⟨g2, h2⟩, r0, r1, r2⟩ := HR4.out.w3k (.string S) (.int .i64 T) (.slice b1 n1 d1)
  go_wp2_with fail
  refine bodyPost_ret (v := .agg #[.string S, .int .i64 T, .slice b1 n1 d1]) (by simp [results, Try.results22, go_sem, r0, r1, r2]) rfl ⟨_, rfl, ?_, ?_⟩
  · refine OwnsKe.mk NS.out NT.out ?_ (Nat.le_refl _)
    rw [N1.out]
    exact own_mono (own_setLow (own_setLow (own_setLow (own_setLow O1.out (by dsimp only; omega) _) (by dsimp only; omega) _) (by dsimp only; omega) _) (by dsimp only; omega) _) (by omega)
  · exact Below.setCell (Below.setCell (Below.setCell (Below.setCell B1.out (by dsimp only; omega) _) (by dsimp only; omega) _) (by dsimp only; omega) _) (by dsimp only; omega) _

set_option maxHeartbeats 1000000 in
theorem szKept (v : Value) (D : KeM) (l : Int) (w : World) (hl0 : 0 ≤ l) (hl1 : l ≤ 1048576) (hm : maxKe D) (h : ReadsKe w v D) :
    Calls Try.prog 20 #[v, .int .i64 l] w fun e w' => ∃ r : Int, e = .returned (.int .i64 r) ∧ r ≤ l ∧ (0 ≤ r → r + D.P.length ≤ l ∧ smallKe D) ∧ Below w.heap.size w w' := by
  obtain ⟨a1, c1, rfl, s1⟩ := h
  have HM : Hid (maxKe D) := hm
  have S1 : Hid (Src w a1 (cellsP D.P)) := s1
  obtain ⟨n1, hn1⟩ : ∃ n, D.P.length = n := ⟨_, rfl⟩
  obtain ⟨S, hS⟩ : ∃ A, D.S = A := ⟨_, rfl⟩
  obtain ⟨T, hT⟩ : ∃ A, D.T = A := ⟨_, rfl⟩
  have hz : S.size ≤ maxLen := by rw [← hS]; exact hm.1
  unfold maxLen at hz
  rw [hn1, hS, hT]
  have N1 : Hid (D.P.length = n1) := hn1
  have NS : Hid (D.S = S) := hS
  clear hm s1 hn1 hS hT
  go_enter Try.func20, Try.ntmps20
  by_cases hneg0 : l - S.size < 0
  · go_wp2_with fail
    go_ret
    exact ⟨-1, rfl, by omega, fun h => absurd h (by omega), (Below.refl _ _).alloc (Nat.le_refl _) _⟩
  go_wp2_with fail
  refine (szPairS a1 n1 c1 D.P (l - S.size) _ N1.out (by rw [← N1.out]; exact HM.out.2.1) HM.out.2.2 (by omega) (by omega) (S1.out.below ((Below.refl _ _).alloc (Nat.le_refl _) _))).mono ?_
  rintro e w1 ⟨r1, rfl, hl1', hr1, hb1⟩
  have B1 : Hid (Below w.heap.size w w1) := ((Below.refl _ _).alloc (Nat.le_refl _) _).trans (hb1.mono (by simp))
  have HR1 : Hid (0 ≤ r1 → r1 + n1 ≤ l - S.size ∧ n1 ≤ 1048576 ∧ ∀ x ∈ D.P, x.1.size ≤ 1048576 ∧ x.2.size ≤ 1048576) := hr1
  clear hb1 hr1
  by_cases hneg1 : r1 < 0
  · go_wp2_with fail
    go_ret
    exact ⟨-1, rfl, by omega, fun h => absurd h (by omega), B1.out⟩
  have HF : Hid (r1 + n1 ≤ l ∧ smallKe D) := by
    obtain ⟨x0, x1, x2⟩ := HR1.out (by omega)
    unfold smallKe
    rw [N1.out, NS.out]
    exact ⟨by omega, by omega, x1, x2⟩
  go_wp2_with fail
  go_ret
  exact ⟨r1, rfl, by omega, fun _ => HF.out, B1.out⟩

set_option maxHeartbeats 1000000 in
theorem eqKept (v v' : Value) (D : KeM) (w : World) (hs : D.P.length ≤ 9000000000000000000) (h : ReadsKe w v D) (h' : ReadsKe w v' D) :
    Calls Try.prog 24 #[v, v'] w fun e w' => e = .returned (.bool true) ∧ Below w.heap.size w w' := by
  obtain ⟨a1, c1, rfl, s1⟩ := h
  obtain ⟨b1, d1, rfl, t1⟩ := h'
  have S1 : Hid (Src w a1 (cellsP D.P) ∧ Src w b1 (cellsP D.P)) := ⟨s1, t1⟩
  obtain ⟨n1, hn1⟩ : ∃ n, D.P.length = n := ⟨_, rfl⟩
  obtain ⟨S, hS⟩ : ∃ A, D.S = A := ⟨_, rfl⟩
  obtain ⟨T, hT⟩ : ∃ A, D.T = A := ⟨_, rfl⟩
  rw [hn1] at hs
  rw [hn1, hS, hT]
  have N1 : Hid (D.P.length = n1) := hn1
  have hSS : (S.toList != S.toList) = false := by simp
  have hTT : (T != T) = false := by simp
  clear s1 hn1 hS hT t1
  go_enter Try.func24, Try.ntmps24
  go_wp2_with fail
  refine (eqPairS a1 b1 n1 c1 d1 D.P _ N1.out hs (S1.out.1.below (((Below.refl _ _).alloc (Nat.le_refl _) _).alloc (by simp) _)) (S1.out.2.below (((Below.refl _ _).alloc (Nat.le_refl _) _).alloc (by simp) _))).mono ?_
  rintro e w1 ⟨rfl, hb1⟩
  have B1 : Hid (Below w.heap.size w w1) := (((Below.refl _ _).alloc (Nat.le_refl _) _).alloc (by simp) _).trans (hb1.mono (by simp; omega))
  clear hb1
  go_wp2_with fail
  go_ret
  exact ⟨rfl, B1.out⟩
end Go.Proofs.Ytedbgofjgnidiaa
