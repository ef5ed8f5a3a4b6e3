
/-
  Contracts of the helpers on sessions that take mail: sizes, copies, comparisons, marks. By an AI agent.
-/
import Derived.Test.YtbaljcdiofoppaaBoxes
import Derived.Test.YtbaljcdiofoppaaLists2
namespace Go.Proofs.Ytbaljcdiofoppaa
open Go.ChangeShapes Go.WideShapes Go.ChangeAt Go.RowKit Go.Deep
set_option linter.unusedVariables false

/-- A session: Hello, Data, Open, From, Rcpts, Lines. -/
structure SMT where
  H : Bool
  D : Bool
  O : Bool
  F : ByteArray
  R : List ByteArray
  L : List ByteArray
/-- v reads as D. -/
def ReadsT (w : World) (v : Value) (D : SMT) : Prop :=
  ∃ a c b d, v = .agg #[.bool D.H, .bool D.D, .bool D.O, .string D.F, .slice a D.R.length c, .slice b D.L.length d] ∧ Src w a (cellsS D.R) ∧ Src w b (cellsS D.L)
theorem ReadsT.below {w w' : World} {v : Value} {D : SMT} (h : ReadsT w v D) (hb : Below w.heap.size w w') : ReadsT w' v D := by
  obtain ⟨a, c, b, d, rfl, h1, h2⟩ := h
  exact ⟨a, c, b, d, rfl, h1.below hb, h2.below hb⟩
theorem ReadsT.drew {w : World} {v : Value} {D : SMT} (h : ReadsT w v D) : ReadsT w.drew v D := h
/-- v owns D, its two rows in blocks of their own from lo up to hi. -/
def OwnsT (w : World) (lo hi : Nat) (v : Value) (D : SMT) : Prop :=
  ∃ v1 v2, v = .agg #[.bool D.H, .bool D.D, .bool D.O, .string D.F, v1, v2] ∧ OwnsR w 9 1 lo hi v1 D.R.length (cellsS D.R) ∧ OwnsR w 9 1 lo hi v2 D.L.length (cellsS D.L) ∧ ∀ g, v1.ownBlock = some g → v2.ownBlock ≠ some g
theorem OwnsT.reads {w : World} {lo hi : Nat} {v : Value} {D : SMT} (h : OwnsT w lo hi v D) : ReadsT w v D := by
  obtain ⟨v1, v2, rfl, h1, h2, _⟩ := h
  obtain ⟨a1, c1, rfl, s1, _⟩ := own_src h1.1
  obtain ⟨a2, c2, rfl, s2, _⟩ := own_src h2.1
  exact ⟨a1, c1, a2, c2, rfl, s1, s2⟩
theorem OwnsT.below {w w' : World} {lo hi : Nat} {v : Value} {D : SMT} (h : OwnsT w lo hi v D) (hb : Below w.heap.size w w') : OwnsT w' lo hi v D := by
  obtain ⟨v1, v2, rfl, h1, h2, h3⟩ := h
  exact ⟨v1, v2, rfl, h1.below hb, h2.below hb, h3⟩
theorem OwnsT.turned {w w' : World} {lo hi lo' hi' : Nat} {v : Value} {D : SMT} (h : OwnsT w lo hi v D) (ht : Turned lo' hi' w w') (hd : hi ≤ lo' ∨ hi' ≤ lo) : OwnsT w' lo hi v D := by
  obtain ⟨v1, v2, rfl, h1, h2, h3⟩ := h
  exact ⟨v1, v2, rfl, h1.turned ht hd, h2.turned ht hd, h3⟩
theorem OwnsT.mono {w : World} {lo hi lo' hi' : Nat} {v : Value} {D : SMT} (h : OwnsT w lo hi v D) (hl : lo' ≤ lo) (hh : hi ≤ hi') : OwnsT w lo' hi' v D := by
  obtain ⟨v1, v2, rfl, h1, h2, h3⟩ := h
  exact ⟨v1, v2, rfl, h1.mono hl hh, h2.mono hl hh, h3⟩
theorem OwnsT.drew {w : World} {lo hi : Nat} {v : Value} {D : SMT} (h : OwnsT w lo hi v D) : OwnsT w.drew lo hi v D := h
theorem OwnsT.lit {w : World} {lo hi : Nat} {v : Value} {D : SMT} (h : OwnsT w lo hi v D) : ∃ a c b d, v = .agg #[.bool D.H, .bool D.D, .bool D.O, .string D.F, .slice a D.R.length c, .slice b D.L.length d] := by
  obtain ⟨a, c, b, d, e, _⟩ := h.reads
  exact ⟨a, c, b, d, e⟩
def smallT (D : SMT) : Prop := (D.R.length ≤ 1048576 ∧ ∀ x ∈ D.R, x.size ≤ 1048576) ∧ (D.L.length ≤ 1048576 ∧ ∀ x ∈ D.L, x.size ≤ 1048576) ∧ D.F.size ≤ 1048576
def maxT (D : SMT) : Prop := (D.R.length ≤ maxLen ∧ ∀ x ∈ D.R, x.size ≤ maxLen) ∧ (D.L.length ≤ maxLen ∧ ∀ x ∈ D.L, x.size ≤ maxLen) ∧ D.F.size ≤ maxLen

set_option maxHeartbeats 2000000 in
theorem toSmtp (v : Value) (D : SMT) (w : World) (hs : smallT D) (h : ReadsT w v D) :
    Calls Try.prog 12 #[v] w fun e w' => ∃ v', e = .returned v' ∧ OwnsT w' w.heap.size w'.heap.size v' D ∧ Below w.heap.size w w' := by
  obtain ⟨a, c, b, d, rfl, s1, s2⟩ := h
  obtain ⟨H, hH⟩ : ∃ H, D.H = H := ⟨_, rfl⟩
  obtain ⟨Q, hQ⟩ : ∃ Q, D.D = Q := ⟨_, rfl⟩
  obtain ⟨O, hO⟩ : ∃ O, D.O = O := ⟨_, rfl⟩
  obtain ⟨F, hF⟩ : ∃ F, D.F = F := ⟨_, rfl⟩
  obtain ⟨n, hn⟩ : ∃ n, D.R.length = n := ⟨_, rfl⟩
  obtain ⟨m, hm⟩ : ∃ m, D.L.length = m := ⟨_, rfl⟩
  have HS : Hid (n ≤ 1048576 ∧ m ≤ 1048576) := ⟨by rw [← hn]; exact hs.1.1, by rw [← hm]; exact hs.2.1.1⟩
  have S1 : Hid (Src w a (cellsS D.R)) := s1
  have S2 : Hid (Src w b (cellsS D.L)) := s2
  rw [hH, hQ, hO, hF, hn, hm]
  have N1 : Hid (D.R.length = n) := hn
  have N2 : Hid (D.L.length = m) := hm
  have NG : Hid (D.H = H ∧ D.D = Q ∧ D.O = O ∧ D.F = F) := ⟨hH, hQ, hO, hF⟩
  clear hs s1 s2 hH hQ hO hF hn hm
  go_enter Try.func12, Try.ntmps12
  go_wp2_with fail
  refine (toStringS a n c D.R _ N1.out HS.out.1 (S1.out.below ((((Below.refl _ _).alloc (Nat.le_refl _) _).alloc (by simp) _).alloc (by simp; omega) _))).mono ?_
  rintro e w1 ⟨v1, rfl, o1, hb1⟩
  obtain ⟨b1, d1, rfl, _, g1⟩ := own_src o1
  have B1 : Hid (Below w.heap.size w w1) := ((((Below.refl _ _).alloc (Nat.le_refl _) _).alloc (by simp) _).alloc (by simp; omega) _).trans (hb1.mono (by simp; omega))
  have Z1 : Hid (w.heap.size + 1 + 1 + 1 ≤ w1.heap.size) := by have := hb1.size; simp at this; show _ ≤ _; omega
  have HB0 : Hid (Box w1 w.heap.size [.bool H, .bool Q, .bool O, .string F, .slice a n c, .slice b m d]) := Box.below (((Box.new rfl).old _).old _) hb1
  have HRs : Hid (Box w1 (w.heap.size + 1) [.bool false, .bool false, .bool false, .string ⟨#[]⟩, .slice none 0 0, .slice none 0 0]) := Box.below ((Box.new (by simp)).old _) hb1
  have HO : Hid (Box w1 (w.heap.size + 1 + 1) [.bool H, .bool Q, .bool O, .string F, .slice none 0 0, .slice none 0 0]) := Box.below (Box.new (by simp)) hb1
  have O1 : Hid (w1.ownsRow (w.heap.size + 3) 9 1 (.slice b1 n d1) n (cellsS D.R)) := own_mono o1 (by simp)
  clear o1 hb1 g1
  obtain ⟨w1', hw1'⟩ : ∃ w1', w1.setCell ⟨w.heap.size + 1 + 1, 4, none⟩ (.slice b1 n d1) = w1' := ⟨_, rfl⟩
  have B1' : Hid (Below w.heap.size w w1') := by rw [← hw1']; exact Below.setCell B1.out (by dsimp only; omega) _
  have Z1' : Hid (w.heap.size + 1 + 1 + 1 ≤ w1'.heap.size) := by rw [← hw1']; show _ ≤ _; simpa using Z1.out
  have HB1 : Hid (Box w1' w.heap.size [.bool H, .bool Q, .bool O, .string F, .slice a n c, .slice b m d]) := by rw [← hw1']; exact HB0.out.other _ (by dsimp only; omega) _
  have HR1 : Hid (Box w1' (w.heap.size + 1) [.bool false, .bool false, .bool false, .string ⟨#[]⟩, .slice none 0 0, .slice none 0 0]) := by rw [← hw1']; exact HRs.out.other _ (by dsimp only; omega) _
  have HO1 : Hid (Box w1' (w.heap.size + 1 + 1) [.bool H, .bool Q, .bool O, .string F, .slice b1 n d1, .slice none 0 0]) := by rw [← hw1']; exact HO.out.set 4 _
  have O1' : Hid (w1'.ownsRow (w.heap.size + 3) 9 1 (.slice b1 n d1) n (cellsS D.R)) := by rw [← hw1']; exact own_setLow O1.out (by dsimp only; omega) _
  obtain ⟨q4, q4f⟩ := HO.out 4 _ rfl
  obtain ⟨y5, _⟩ := HB1.out 5 _ rfl
  rw [← hw1'] at y5
  have HW : Hid (w1.setCell ⟨w.heap.size + 1 + 1, 4, none⟩ (.slice b1 n d1) = w1') := hw1'
  clear HB0 HRs HO O1 B1 Z1 hw1'
  go_wp2_with fail
  rw [HW.out]
  clear y5 q4 q4f
  refine (toStringS b m d D.L _ N2.out HS.out.2 (S2.out.below B1'.out)).mono ?_
  rintro e w2 ⟨v2, rfl, o2, hb2⟩
  obtain ⟨b2, d2, rfl, _, _⟩ := own_src o2
  have B2 : Hid (Below w.heap.size w w2) := B1'.out.trans (hb2.mono B1'.out.size)
  have HR2 : Hid (Box w2 (w.heap.size + 1) [.bool false, .bool false, .bool false, .string ⟨#[]⟩, .slice none 0 0, .slice none 0 0]) := HR1.out.below hb2
  have HO2 : Hid (Box w2 (w.heap.size + 1 + 1) [.bool H, .bool Q, .bool O, .string F, .slice b1 n d1, .slice none 0 0]) := HO1.out.below hb2
  have O2 : Hid (w2.ownsRow (w.heap.size + 3) 9 1 (.slice b1 n d1) n (cellsS D.R)) := own_below O1'.out hb2
  have P2 : Hid (w2.ownsRow (w.heap.size + 3) 9 1 (.slice b2 m d2) m (cellsS D.L)) := own_mono o2 Z1'.out
  have AP : Hid (∀ g, (Value.slice b1 n d1).ownBlock = some g → (Value.slice b2 m d2).ownBlock ≠ some g) := fun g h1 h2 => by
    have k1 := (O1'.out.lt g h1).2
    have k2 := (o2.lt g h2).1
    omega
  clear o2 hb2 HR1 HO1 HB1 O1' B1' Z1' HW
  obtain ⟨q5, q5f⟩ := HO2.out 5 _ rfl
  have HO4 : Hid (Box (w2.setCell ⟨w.heap.size + 1 + 1, 5, none⟩ (.slice b2 m d2)) (w.heap.size + 1 + 1) [.bool H, .bool Q, .bool O, .string F, .slice b1 n d1, .slice b2 m d2]) := HO2.out.set 5 _
  have HR4 : Hid (Box (w2.setCell ⟨w.heap.size + 1 + 1, 5, none⟩ (.slice b2 m d2)) (w.heap.size + 1) [.bool false, .bool false, .bool false, .string ⟨#[]⟩, .slice none 0 0, .slice none 0 0]) := HR2.out.other _ (by dsimp only; omega) _
  obtain ⟨f0, _⟩ := HO4.out 0 _ rfl
  obtain ⟨f1, _⟩ := HO4.out 1 _ rfl
  obtain ⟨f2, _⟩ := HO4.out 2 _ rfl
  obtain ⟨f3, _⟩ := HO4.out 3 _ rfl
  obtain ⟨f4, _⟩ := HO4.out 4 _ rfl
  obtain ⟨f5, _⟩ := HO4.out 5 _ rfl
  obtain ⟨g0, h0⟩ := HR4.out 0 _ rfl
  obtain ⟨g1, h1⟩ := (HR4.out.set 0 (.bool H)) 1 _ rfl
  obtain ⟨g2, h2⟩ := ((HR4.out.set 0 (.bool H)).set 1 (.bool Q)) 2 _ rfl
  obtain ⟨g3, h3⟩ := (((HR4.out.set 0 (.bool H)).set 1 (.bool Q)).set 2 (.bool O)) 3 _ rfl
  obtain ⟨g4, h4⟩ := ((((HR4.out.set 0 (.bool H)).set 1 (.bool Q)).set 2 (.bool O)).set 3 (.string F)) 4 _ rfl
  obtain ⟨g5, h5⟩ := (((((HR4.out.set 0 (.bool H)).set 1 (.bool Q)).set 2 (.bool O)).set 3 (.string F)).set 4 (.slice b1 n d1)) 5 _ rfl
  have HR5 := ((((((HR4.out.set 0 (.bool H)).set 1 (.bool Q)).set 2 (.bool O)).set 3 (.string F)).set 4 (.slice b1 n d1)).set 5 (.slice b2 m d2))
  obtain ⟨r0, _⟩ := HR5 0 _ rfl
  obtain ⟨r1, _⟩ := HR5 1 _ rfl
  obtain ⟨r2, _⟩ := HR5 2 _ rfl
  obtain ⟨r3, _⟩ := HR5 3 _ rfl
  obtain ⟨r4, _⟩ := HR5 4 _ rfl
  obtain ⟨r5, _⟩ := HR5 5 _ rfl
  clear HR5
  go_wp2_with fail
  refine bodyPost_ret (v := .agg #[.bool H, .bool Q, .bool O, .string F, .slice b1 n d1, .slice b2 m d2]) (by simp [results, Try.results12, go_sem, r0, r1, r2, r3, r4, r5]) rfl ⟨_, rfl, ?_, ?_⟩
  · refine ⟨.slice b1 n d1, .slice b2 m d2, by rw [NG.out.1, NG.out.2.1, NG.out.2.2.1, NG.out.2.2.2], OwnsR.mk ?_ (Nat.le_refl _), OwnsR.mk ?_ (Nat.le_refl _), AP.out⟩
    · rw [N1.out]
      exact own_mono (own_setLow (own_setLow (own_setLow (own_setLow (own_setLow (own_setLow (own_setLow O2.out (by dsimp only; omega) _) (by dsimp only; omega) _) (by dsimp only; omega) _) (by dsimp only; omega) _) (by dsimp only; omega) _) (by dsimp only; omega) _) (by dsimp only; omega) _) (by omega)
    · rw [N2.out]
      exact own_mono (own_setLow (own_setLow (own_setLow (own_setLow (own_setLow (own_setLow (own_setLow P2.out (by dsimp only; omega) _) (by dsimp only; omega) _) (by dsimp only; omega) _) (by dsimp only; omega) _) (by dsimp only; omega) _) (by dsimp only; omega) _) (by dsimp only; omega) _) (by omega)
  · exact (Below.setCell (Below.setCell (Below.setCell (Below.setCell (Below.setCell (Below.setCell (Below.setCell B2.out (by dsimp only; omega) _) (by dsimp only; omega) _) (by dsimp only; omega) _) (by dsimp only; omega) _) (by dsimp only; omega) _) (by dsimp only; omega) _) (by dsimp only; omega) _)

set_option maxHeartbeats 2000000 in
theorem szSmtp (v : Value) (D : SMT) (l : Int) (w : World) (hl0 : 0 ≤ l) (hl1 : l ≤ 1048576) (hm : maxT D) (h : ReadsT w v D) :
    Calls Try.prog 10 #[v, .int .i64 l] w fun e w' => ∃ r : Int, e = .returned (.int .i64 r) ∧ r ≤ l ∧ (0 ≤ r → smallT D) ∧ Below w.heap.size w w' := by
  obtain ⟨a, c, b, d, rfl, s1, s2⟩ := h
  have HM : Hid (maxT D) := hm
  clear hm
  obtain ⟨H, hH⟩ : ∃ H, D.H = H := ⟨_, rfl⟩
  obtain ⟨Q, hQ⟩ : ∃ Q, D.D = Q := ⟨_, rfl⟩
  obtain ⟨O, hO⟩ : ∃ O, D.O = O := ⟨_, rfl⟩
  obtain ⟨F, hF⟩ : ∃ F, D.F = F := ⟨_, rfl⟩
  obtain ⟨n, hn⟩ : ∃ n, D.R.length = n := ⟨_, rfl⟩
  obtain ⟨m, hm⟩ : ∃ m, D.L.length = m := ⟨_, rfl⟩
  have HM1 : Hid (n ≤ maxLen ∧ ∀ x ∈ D.R, x.size ≤ maxLen) := by rw [← hn]; exact HM.out.1
  have HM2 : Hid (m ≤ maxLen ∧ ∀ x ∈ D.L, x.size ≤ maxLen) := by rw [← hm]; exact HM.out.2.1
  have hF2 : F.size ≤ maxLen := by rw [← hF]; exact HM.out.2.2
  unfold maxLen at hF2
  have S1 : Hid (Src w a (cellsS D.R)) := s1
  have S2 : Hid (Src w b (cellsS D.L)) := s2
  rw [hH, hQ, hO, hF, hn, hm]
  have N1 : Hid (D.R.length = n) := hn
  have N2 : Hid (D.L.length = m) := hm
  have NG : Hid (D.H = H ∧ D.D = Q ∧ D.O = O ∧ D.F = F) := ⟨hH, hQ, hO, hF⟩
  clear s1 s2 hH hQ hO hF hn hm HM
  by_cases hneg0 : l - F.size < 0
  · go_enter Try.func10, Try.ntmps10
    go_wp2_with fail
    go_ret
    exact ⟨-1, rfl, by omega, fun h => absurd h (by omega), (Below.refl _ _).alloc (Nat.le_refl _) _⟩
  go_enter Try.func10, Try.ntmps10
  go_wp2_with fail
  refine (szStringS a n c D.R (l - F.size) _ N1.out HM1.out.1 HM1.out.2 (by omega) (by omega) (S1.out.below ((Below.refl _ _).alloc (Nat.le_refl _) _))).mono ?_
  rintro e w1 ⟨r, rfl, hr1, hr, hb1⟩
  have B1 : Hid (Below w.heap.size w w1) := Below.new hb1
  have X1 : Hid (Box w1 w.heap.size [.bool H, .bool Q, .bool O, .string F, .slice a n c, .slice b m d]) := Box.below (Box.new rfl) hb1
  have HR : Hid (0 ≤ r → D.R.length ≤ 1048576 ∧ ∀ x ∈ D.R, x.size ≤ 1048576) := fun h => ⟨by rw [N1.out]; exact (hr h).2.1, (hr h).2.2⟩
  clear hb1 hr
  by_cases hneg : r < 0
  · go_wp2_with fail
    go_ret
    exact ⟨-1, rfl, by omega, fun h => absurd h (by omega), B1.out⟩
  obtain ⟨y5, _⟩ := X1.out 5 _ rfl
  go_wp2_with fail
  refine (szStringS b m d D.L r _ N2.out HM2.out.1 HM2.out.2 (by omega) (by omega) (S2.out.below B1.out)).mono ?_
  rintro e w2 ⟨t, rfl, ht1, ht, hb2⟩
  have B2 : Hid (Below w.heap.size w w2) := B1.out.trans (hb2.mono B1.out.size)
  have HT : Hid (0 ≤ t → D.L.length ≤ 1048576 ∧ ∀ x ∈ D.L, x.size ≤ 1048576) := fun h => ⟨by rw [N2.out]; exact (ht h).2.1, (ht h).2.2⟩
  clear hb2 ht y5
  by_cases hneg2 : t < 0
  · go_wp2_with fail
    go_ret
    exact ⟨-1, rfl, by omega, fun h => absurd h (by omega), B2.out⟩
  · go_wp2_with fail
    go_ret
    exact ⟨t, rfl, by omega, fun h => ⟨HR.out (by omega), HT.out h, by rw [NG.out.2.2.2]; omega⟩, B2.out⟩

set_option maxHeartbeats 2000000 in
theorem eqSmtp (v v' : Value) (D : SMT) (w : World) (hs : D.R.length ≤ 9000000000000000000 ∧ D.L.length ≤ 9000000000000000000) (h : ReadsT w v D) (h' : ReadsT w v' D) :
    Calls Try.prog 7 #[v, v'] w fun e w' => e = .returned (.bool true) ∧ Below w.heap.size w w' := by
  obtain ⟨a, c, b, d, rfl, s1, s2⟩ := h
  obtain ⟨a', c', b', d', rfl, s1', s2'⟩ := h'
  obtain ⟨H, hH⟩ : ∃ H, D.H = H := ⟨_, rfl⟩
  obtain ⟨Q, hQ⟩ : ∃ Q, D.D = Q := ⟨_, rfl⟩
  obtain ⟨O, hO⟩ : ∃ O, D.O = O := ⟨_, rfl⟩
  obtain ⟨F, hF⟩ : ∃ F, D.F = F := ⟨_, rfl⟩
  obtain ⟨n, hn⟩ : ∃ n, D.R.length = n := ⟨_, rfl⟩
  obtain ⟨m, hm⟩ : ∃ m, D.L.length = m := ⟨_, rfl⟩
  have HS : Hid (n ≤ 9000000000000000000 ∧ m ≤ 9000000000000000000) := by rw [← hn, ← hm]; exact hs
  have S1 : Hid (Src w a (cellsS D.R) ∧ Src w a' (cellsS D.R)) := ⟨s1, s1'⟩
  have S2 : Hid (Src w b (cellsS D.L) ∧ Src w b' (cellsS D.L)) := ⟨s2, s2'⟩
  rw [hH, hQ, hO, hF, hn, hm]
  have N1 : Hid (D.R.length = n) := hn
  have N2 : Hid (D.L.length = m) := hm
  have NG : Hid (D.H = H ∧ D.D = Q ∧ D.O = O ∧ D.F = F) := ⟨hH, hQ, hO, hF⟩
  clear hs s1 s2 s1' s2' hH hQ hO hF hn hm
  have e1 : (H != H) = false := by simp
  have e2 : (Q != Q) = false := by simp
  have e3 : (O != O) = false := by simp
  go_enter Try.func7, Try.ntmps7
  go_wp2_with fail
  refine (eqStringS a a' n c c' D.R _ N1.out HS.out.1 (S1.out.1.below (((Below.refl _ _).alloc (Nat.le_refl _) _).alloc (by simp) _)) (S1.out.2.below (((Below.refl _ _).alloc (Nat.le_refl _) _).alloc (by simp) _))).mono ?_
  rintro e w1 ⟨rfl, hb1⟩
  have B1 : Hid (Below w.heap.size w w1) := (((Below.refl _ _).alloc (Nat.le_refl _) _).alloc (by simp) _).trans (hb1.mono (by simp; omega))
  have X1 : Hid (Box w1 w.heap.size [.bool H, .bool Q, .bool O, .string F, .slice a n c, .slice b m d]) := Box.below ((Box.new rfl).old _) hb1
  have Y1 : Hid (Box w1 (w.heap.size + 1) [.bool H, .bool Q, .bool O, .string F, .slice a' n c', .slice b' m d']) := Box.below (Box.new (by simp)) hb1
  clear hb1
  obtain ⟨y1, _⟩ := X1.out 5 _ rfl
  obtain ⟨y2, _⟩ := Y1.out 5 _ rfl
  go_wp2_with fail
  refine (eqStringS b b' m d d' D.L _ N2.out HS.out.2 (S2.out.1.below B1.out) (S2.out.2.below B1.out)).mono ?_
  rintro e w2 ⟨rfl, hb2⟩
  have B2 : Hid (Below w.heap.size w w2) := B1.out.trans (hb2.mono B1.out.size)
  clear hb2 y1 y2
  go_wp2_with fail
  go_ret
  exact ⟨rfl, B2.out⟩

def mkT (D : SMT) (k : Nat) : SMT := ⟨D.H, D.D, D.O, D.F, mkS k D.R.length, mkS (k + D.R.length) D.L.length⟩
set_option maxHeartbeats 2000000 in
theorem markSmtp (v : Value) (D : SMT) (k lo hi : Nat) (w : World) (hs : D.R.length ≤ 1048576 ∧ D.L.length ≤ 1048576) (hk0 : 0 < k) (hk1 : k ≤ 4194304) (hhi : hi ≤ w.heap.size) (h : OwnsT w lo hi v D) :
    Calls Try.prog 8 #[v, .int .i64 (k : Int)] w fun e w' => e = .returned (.int .i64 ((k + D.R.length + D.L.length : Nat) : Int)) ∧ Turned lo hi w w' ∧ OwnsT w' lo hi v (mkT D k) := by
  obtain ⟨v1, v2, rfl, h1, h2, h3⟩ := h
  obtain ⟨a, c, rfl⟩ := h1.lit
  obtain ⟨b, d, rfl⟩ := h2.lit
  obtain ⟨H, hH⟩ : ∃ H, D.H = H := ⟨_, rfl⟩
  obtain ⟨Q, hQ⟩ : ∃ Q, D.D = Q := ⟨_, rfl⟩
  obtain ⟨O, hO⟩ : ∃ O, D.O = O := ⟨_, rfl⟩
  obtain ⟨F, hF⟩ : ∃ F, D.F = F := ⟨_, rfl⟩
  obtain ⟨n, hn⟩ : ∃ n, D.R.length = n := ⟨_, rfl⟩
  obtain ⟨m, hm⟩ : ∃ m, D.L.length = m := ⟨_, rfl⟩
  have H1 : Hid (OwnsR w 9 1 lo hi (.slice a n c) n (cellsS D.R)) := by rw [← hn]; exact h1
  have H2 : Hid (OwnsR w 9 1 lo hi (.slice b m d) m (cellsS D.L)) := by rw [← hm]; exact h2
  have H3 : Hid (∀ g, (Value.slice a n c).ownBlock = some g → (Value.slice b m d).ownBlock ≠ some g) := by rw [← hn, ← hm]; exact h3
  have HS : Hid (n ≤ 1048576 ∧ m ≤ 1048576) := by rw [← hn, ← hm]; exact hs
  have HU : Hid (mkT D k = ⟨H, Q, O, F, mkS k n, mkS (k + n) m⟩) := by show _ = _; unfold mkT; rw [hn, hm, hH, hQ, hO, hF]
  rw [HU.out]
  rw [hH, hQ, hO, hF, hn, hm]
  clear h1 h2 h3 hs hH hQ hO hF hn hm
  go_enter Try.func8, Try.ntmps8
  go_wp2_with fail
  refine (markStringS (.slice a n c) n k lo (cellsS D.R) _ HS.out.1 hk0 (by omega) (own_below H1.out.1 ((Below.refl _ _).alloc (Nat.le_refl _) _))).mono ?_
  rintro e w1 ⟨rfl, g1, o1⟩
  have T1 : Hid (Turned lo hi w w1) := (Turned.of_below ((Below.refl _ _).alloc (Nat.le_refl _) _)).trans (Turned.of_grown g1 (fun j e => ⟨((own_mono H1.out.1 (Nat.le_refl _)).lt j e).1, H1.out.2 j e⟩))
  have O1 : Hid (OwnsR w1 9 1 lo hi (.slice a n c) n (cellsS (mkS k n))) := ⟨o1, H1.out.2⟩
  have P1 : Hid (OwnsR w1 9 1 lo hi (.slice b m d) m (cellsS D.L)) := ⟨own_grown (own_below H2.out.1 ((Below.refl _ _).alloc (Nat.le_refl _) _)) g1 (fun g hg h9 => H3.out g h9 hg), H2.out.2⟩
  have X1 : Hid (Box w1 w.heap.size [.bool H, .bool Q, .bool O, .string F, .slice a n c, .slice b m d]) := Box.grown (Box.new rfl) g1 (fun h9 => by have := H1.out.2 _ h9; omega)
  clear g1 o1
  obtain ⟨y5, _⟩ := X1.out 5 _ rfl
  have HP : Hid (0 < k + n ∧ k + n ≤ 8388608) := ⟨by omega, by have := HS.out.1; omega⟩
  go_wp2_with fail
  refine (markStringS (.slice b m d) m (k + n) lo (cellsS D.L) _ HS.out.2 HP.out.1 HP.out.2 P1.out.1).mono ?_
  rintro e w2 ⟨rfl, g2, o2⟩
  have T2 : Hid (Turned lo hi w w2) := T1.out.trans (Turned.of_grown g2 (fun j e => ⟨((own_mono P1.out.1 (Nat.le_refl _)).lt j e).1, P1.out.2 j e⟩))
  have O2 : Hid (OwnsR w2 9 1 lo hi (.slice a n c) n (cellsS (mkS k n))) := ⟨own_grown O1.out.1 g2 (fun g hg h9 => H3.out g hg h9), O1.out.2⟩
  have P2 : Hid (OwnsR w2 9 1 lo hi (.slice b m d) m (cellsS (mkS (k + n) m))) := ⟨o2, P1.out.2⟩
  clear g2 o2 y5
  go_wp2_with fail
  go_ret
  refine ⟨rfl, T2.out, _, _, rfl, ?_, ?_, H3.out⟩
  · show OwnsR w2 9 1 lo hi (.slice a n c) (mkS k n).length (cellsS (mkS k n))
    rw [mkS_length]
    exact O2.out
  · show OwnsR w2 9 1 lo hi (.slice b m d) (mkS (k + n) m).length (cellsS (mkS (k + n) m))
    rw [mkS_length]
    exact P2.out

set_option maxHeartbeats 2000000 in
theorem heldSmtp (v : Value) (D : SMT) (k : Nat) (w : World) (hs : D.R.length ≤ 1048576 ∧ D.L.length ≤ 1048576) (hk0 : 0 < k) (hk1 : k ≤ 4194304) (h : ReadsT w v (mkT D k)) :
    Calls Try.prog 9 #[v, .int .i64 (k : Int)] w fun e w' => e = .returned (.int .i64 ((k + D.R.length + D.L.length : Nat) : Int)) ∧ Below w.heap.size w w' := by
  obtain ⟨a, c, b, d, rfl, s1, s2⟩ := h
  obtain ⟨n, hn⟩ : ∃ n, D.R.length = n := ⟨_, rfl⟩
  obtain ⟨m, hm⟩ : ∃ m, D.L.length = m := ⟨_, rfl⟩
  have HS : Hid (n ≤ 1048576 ∧ m ≤ 1048576) := by rw [← hn, ← hm]; exact hs
  have e1 : (mkT D k).R = mkS k n := by unfold mkT; rw [hn]
  have e2 : (mkT D k).L = mkS (k + n) m := by unfold mkT; rw [hn, hm]
  have S1 : Hid (Src w a (cellsS (mkS k n))) := by rw [← e1]; exact s1
  have S2 : Hid (Src w b (cellsS (mkS (k + n) m))) := by rw [← e2]; exact s2
  rw [e1, e2, mkS_length, mkS_length, hn, hm]
  have PB : Hid (0 < k + n ∧ k + n ≤ 8388608) := ⟨by omega, by have := HS.out; omega⟩
  obtain ⟨H, hH⟩ : ∃ H, (mkT D k).H = H := ⟨_, rfl⟩
  obtain ⟨Q, hQ⟩ : ∃ Q, (mkT D k).D = Q := ⟨_, rfl⟩
  obtain ⟨O, hO⟩ : ∃ O, (mkT D k).O = O := ⟨_, rfl⟩
  obtain ⟨F, hF⟩ : ∃ F, (mkT D k).F = F := ⟨_, rfl⟩
  rw [hH, hQ, hO, hF]
  clear hn hm e1 e2 s1 s2 hs hH hQ hO hF
  go_enter Try.func9, Try.ntmps9
  go_wp2_with fail
  refine (heldStringS a n c k _ HS.out.1 hk0 (by omega) (S1.out.below ((Below.refl _ _).alloc (Nat.le_refl _) _))).mono ?_
  rintro e w1 ⟨rfl, hb1⟩
  have B1 : Hid (Below w.heap.size w w1) := Below.new hb1
  have X1 : Hid (Box w1 w.heap.size [.bool H, .bool Q, .bool O, .string F, .slice a n c, .slice b m d]) := Box.below (Box.new rfl) hb1
  clear hb1
  obtain ⟨z, hz⟩ : ∃ z : Nat, k + n = z := ⟨_, rfl⟩
  rw [hz] at PB S2 ⊢
  have hz0 : (0 : Int) ≤ (z : Int) := by omega
  have HZ : Hid (k + n = z) := hz
  clear hz
  obtain ⟨y5, _⟩ := X1.out 5 _ rfl
  go_wp2_with fail
  refine (heldStringS b m d z _ HS.out.2 PB.out.1 PB.out.2 (S2.out.below B1.out)).mono ?_
  rintro e w2 ⟨rfl, hb2⟩
  have B2 : Hid (Below w.heap.size w w2) := B1.out.trans (hb2.mono B1.out.size)
  clear hb2 y5
  obtain ⟨x, hx⟩ : ∃ x : Nat, z + m = x := ⟨_, rfl⟩
  rw [hx]
  have hx0 : (0 : Int) ≤ (x : Int) := by omega
  have HX : Hid (z + m = x) := hx
  clear hx
  go_wp2_with fail
  go_ret
  exact ⟨by show Ending.returned (.int .i64 ((x : Nat) : Int)) = _; rw [← HX.out, ← HZ.out], B2.out⟩
end Go.Proofs.Ytbaljcdiofoppaa
