
/-
  Contracts of the helpers on backups: sizes, copies, comparisons, marks. By an AI agent.
-/
import Derived.Test.YtmbndpgoihdpnaaGreatDoorListsd
namespace Go.Proofs.YtmbndpgoihdpnaaGreatDoor
open Go.ChangeShapes Go.WideShapes Go.ChangeAt Go.RowKit Go.Deep
set_option linter.unusedVariables false

/-- Five values stored at the head of block B. -/
abbrev W5 (w : World) (B : Nat) (v0 v1 v2 v3 v4 : Value) : World := (W4 w B v0 v1 v2 v3).setCell ⟨B, 4, none⟩ v4
theorem Box.w5 {w : World} {B : Nat} {z0 z1 z2 z3 z4 : Value} (h : Box w B [z0, z1, z2, z3, z4]) (v0 v1 v2 v3 v4 : Value) : Box (W5 w B v0 v1 v2 v3 v4) B [v0, v1, v2, v3, v4] := ((((h.set 0 v0).set 1 v1).set 2 v2).set 3 v3).set 4 v4
theorem Box.w5in {w : World} {B : Nat} {z0 z1 z2 z3 z4 : Value} (h : Box w B [z0, z1, z2, z3, z4]) (v0 v1 v2 v3 v4 : Value) :
    (w.cell? ⟨B, 0, none⟩ = some z0 ∧ w.frozen? ⟨B, 0, none⟩ = false) ∧
    ((w.setCell ⟨B, 0, none⟩ v0).cell? ⟨B, 1, none⟩ = some z1 ∧ (w.setCell ⟨B, 0, none⟩ v0).frozen? ⟨B, 1, none⟩ = false) ∧
    (((w.setCell ⟨B, 0, none⟩ v0).setCell ⟨B, 1, none⟩ v1).cell? ⟨B, 2, none⟩ = some z2 ∧ ((w.setCell ⟨B, 0, none⟩ v0).setCell ⟨B, 1, none⟩ v1).frozen? ⟨B, 2, none⟩ = false) ∧
    ((((w.setCell ⟨B, 0, none⟩ v0).setCell ⟨B, 1, none⟩ v1).setCell ⟨B, 2, none⟩ v2).cell? ⟨B, 3, none⟩ = some z3 ∧ (((w.setCell ⟨B, 0, none⟩ v0).setCell ⟨B, 1, none⟩ v1).setCell ⟨B, 2, none⟩ v2).frozen? ⟨B, 3, none⟩ = false) ∧
    ((((((w.setCell ⟨B, 0, none⟩ v0).setCell ⟨B, 1, none⟩ v1).setCell ⟨B, 2, none⟩ v2).setCell ⟨B, 3, none⟩ v3)).cell? ⟨B, 4, none⟩ = some z4 ∧ (((((w.setCell ⟨B, 0, none⟩ v0).setCell ⟨B, 1, none⟩ v1).setCell ⟨B, 2, none⟩ v2).setCell ⟨B, 3, none⟩ v3)).frozen? ⟨B, 4, none⟩ = false) ∧
    ((W5 w B v0 v1 v2 v3 v4).cell? ⟨B, 0, none⟩ = some v0 ∧ (W5 w B v0 v1 v2 v3 v4).cell? ⟨B, 1, none⟩ = some v1 ∧ (W5 w B v0 v1 v2 v3 v4).cell? ⟨B, 2, none⟩ = some v2 ∧ (W5 w B v0 v1 v2 v3 v4).cell? ⟨B, 3, none⟩ = some v3 ∧ (W5 w B v0 v1 v2 v3 v4).cell? ⟨B, 4, none⟩ = some v4) :=
  ⟨h 0 _ rfl, (h.set 0 v0) 1 _ rfl, ((h.set 0 v0).set 1 v1) 2 _ rfl, (((h.set 0 v0).set 1 v1).set 2 v2) 3 _ rfl, ((((h.set 0 v0).set 1 v1).set 2 v2).set 3 v3) 4 _ rfl, ((h.w5 v0 v1 v2 v3 v4) 0 _ rfl).1, ((h.w5 v0 v1 v2 v3 v4) 1 _ rfl).1, ((h.w5 v0 v1 v2 v3 v4) 2 _ rfl).1, ((h.w5 v0 v1 v2 v3 v4) 3 _ rfl).1, ((h.w5 v0 v1 v2 v3 v4) 4 _ rfl).1⟩
theorem Below.w5 {b B : Nat} {a w : World} (h : Below b a w) (hB : b ≤ B) (v0 v1 v2 v3 v4 : Value) : Below b a (W5 w B v0 v1 v2 v3 v4) := Below.setCell (Below.w4 h hB v0 v1 v2 v3) hB _
theorem own_w5 {w : World} {base e s n B : Nat} {v : Value} {xs : List Value} (h : w.ownsRow base e s v n xs) (hB : B < base) (v0 v1 v2 v3 v4 : Value) : (W5 w B v0 v1 v2 v3 v4).ownsRow base e s v n xs := own_setLow (own_w4 h hB v0 v1 v2 v3) hB _
theorem size_w5 (w : World) (B : Nat) (v0 v1 v2 v3 v4 : Value) : (W5 w B v0 v1 v2 v3 v4).heap.size = w.heap.size := by simp [W5, W4]
/-- A backup: from, to, chain, differences, sum. -/
structure BM where
  F : ByteArray
  T : ByteArray
  C : Int
  D : List MDf
  S : Int
def ReadsK (w : World) (v : Value) (D : BM) : Prop :=
  ∃ a c, v = .agg #[.string D.F, .string D.T, .int .i64 D.C, .slice a D.D.length c, .int .i64 D.S] ∧ Src w a (cellsDf D.D)
theorem ReadsK.below {w w' : World} {v : Value} {D : BM} (h : ReadsK w v D) (hb : Below w.heap.size w w') : ReadsK w' v D := by
  obtain ⟨a, c, rfl, h1⟩ := h
  exact ⟨a, c, rfl, h1.below hb⟩
theorem ReadsK.drew {w : World} {v : Value} {D : BM} (h : ReadsK w v D) : ReadsK w.drew v D := h
def OwnsK (w : World) (lo hi : Nat) (v : Value) (D : BM) : Prop :=
  ∃ v1, v = .agg #[.string D.F, .string D.T, .int .i64 D.C, v1, .int .i64 D.S] ∧ OwnsR w 108 5 lo hi v1 D.D.length (cellsDf D.D)
theorem OwnsK.reads {w : World} {lo hi : Nat} {v : Value} {D : BM} (h : OwnsK w lo hi v D) : ReadsK w v D := by
  obtain ⟨v1, rfl, h1⟩ := h
  obtain ⟨a1, c1, rfl, s1, _⟩ := own_src h1.1
  exact ⟨a1, c1, rfl, s1⟩
theorem OwnsK.below {w w' : World} {lo hi : Nat} {v : Value} {D : BM} (h : OwnsK w lo hi v D) (hb : Below w.heap.size w w') : OwnsK w' lo hi v D := by
  obtain ⟨v1, rfl, h1⟩ := h
  exact ⟨v1, rfl, h1.below hb⟩
theorem OwnsK.turned {w w' : World} {lo hi lo' hi' : Nat} {v : Value} {D : BM} (h : OwnsK w lo hi v D) (ht : Turned lo' hi' w w') (hd : hi ≤ lo' ∨ hi' ≤ lo) : OwnsK w' lo hi v D := by
  obtain ⟨v1, rfl, h1⟩ := h
  exact ⟨v1, rfl, h1.turned ht hd⟩
theorem OwnsK.mono {w : World} {lo hi lo' hi' : Nat} {v : Value} {D : BM} (h : OwnsK w lo hi v D) (hl : lo' ≤ lo) (hh : hi ≤ hi') : OwnsK w lo' hi' v D := by
  obtain ⟨v1, rfl, h1⟩ := h
  exact ⟨v1, rfl, h1.mono hl hh⟩
theorem OwnsK.drew {w : World} {lo hi : Nat} {v : Value} {D : BM} (h : OwnsK w lo hi v D) : OwnsK w.drew lo hi v D := h
theorem OwnsK.lit {w : World} {lo hi : Nat} {v : Value} {D : BM} (h : OwnsK w lo hi v D) : ∃ a c, v = .agg #[.string D.F, .string D.T, .int .i64 D.C, .slice a D.D.length c, .int .i64 D.S] := by
  obtain ⟨a, c, e, _⟩ := h.reads
  exact ⟨a, c, e⟩
def smallK (D : BM) : Prop := D.D.length ≤ 1048576 ∧ D.F.size ≤ 1048576 ∧ D.T.size ≤ 1048576 ∧ ∀ x ∈ D.D, x.1.size ≤ 1048576 ∧ x.2.1.size ≤ 1048576 ∧ x.2.2.1.size ≤ 1048576
def maxK (D : BM) : Prop := D.D.length ≤ maxLen ∧ D.F.size ≤ maxLen ∧ D.T.size ≤ maxLen ∧ ∀ x ∈ D.D, x.1.size ≤ maxLen ∧ x.2.1.size ≤ maxLen ∧ x.2.2.1.size ≤ maxLen

set_option maxHeartbeats 2000000 in
theorem toBackup (v : Value) (D : BM) (w : World) (hs : smallK D) (h : ReadsK w v D) :
    Calls Tryz.prog 11 #[v] w fun e w' => ∃ v', e = .returned v' ∧ OwnsK w' w.heap.size w'.heap.size v' D ∧ Below w.heap.size w w' := by
  obtain ⟨a, c, rfl, s1⟩ := h
  obtain ⟨n, hn⟩ : ∃ n, D.D.length = n := ⟨_, rfl⟩
  obtain ⟨F, hF⟩ : ∃ F, D.F = F := ⟨_, rfl⟩
  obtain ⟨T, hT⟩ : ∃ T, D.T = T := ⟨_, rfl⟩
  obtain ⟨C, hC⟩ : ∃ C, D.C = C := ⟨_, rfl⟩
  obtain ⟨S, hS⟩ : ∃ S, D.S = S := ⟨_, rfl⟩
  have HS : Hid (n ≤ 1048576) := by rw [← hn]; exact hs.1
  have S1 : Hid (Src w a (cellsDf D.D)) := s1
  rw [hn, hF, hT, hC, hS]
  have N1 : Hid (D.D.length = n) := hn
  have NG : Hid (D.F = F ∧ D.T = T ∧ D.C = C ∧ D.S = S) := ⟨hF, hT, hC, hS⟩
  clear hs s1 hn hF hT hC hS
  go_enter Tryz.func11, Tryz.ntmps11
  go_wp2_with fail
  refine (toDiffS a n c D.D _ N1.out HS.out (S1.out.below ((((Below.refl _ _).alloc (Nat.le_refl _) _).alloc (by simp) _).alloc (by simp; omega) _))).mono ?_
  rintro e w1 ⟨v1, rfl, o1, hb1⟩
  obtain ⟨b1, d1, rfl, _, _⟩ := own_src o1
  have B1 : Hid (Below w.heap.size w w1) := ((((Below.refl _ _).alloc (Nat.le_refl _) _).alloc (by simp) _).alloc (by simp; omega) _).trans (hb1.mono (by simp; omega))
  have HA : Hid (Box w1 w.heap.size [.string F, .string T, .int .i64 C, .slice a n c, .int .i64 S]) := Box.below (((Box.new rfl).old _).old _) hb1
  have HRs : Hid (Box w1 (w.heap.size + 1) [.string ⟨#[]⟩, .string ⟨#[]⟩, .int .i64 0, .slice none 0 0, .int .i64 0]) := Box.below ((Box.new (by simp)).old _) hb1
  have HO : Hid (Box w1 (w.heap.size + 1 + 1) [.string F, .string T, .int .i64 C, .slice none 0 0, .int .i64 0]) := Box.below (Box.new (by simp)) hb1
  have O1 : Hid (w1.ownsRow (w.heap.size + 3) 108 5 (.slice b1 n d1) n (cellsDf D.D)) := own_mono o1 (by simp)
  clear o1 hb1
  obtain ⟨q3, q3f⟩ := HO.out 3 _ rfl
  have HO3 : Hid (Box (w1.setCell ⟨w.heap.size + 1 + 1, 3, none⟩ (.slice b1 n d1)) (w.heap.size + 1 + 1) [.string F, .string T, .int .i64 C, .slice b1 n d1, .int .i64 0]) := HO.out.set 3 _
  obtain ⟨q4, q4f⟩ := HO3.out 4 _ rfl
  obtain ⟨p4, _⟩ := (HA.out.other ⟨w.heap.size + 1 + 1, 3, none⟩ (by dsimp only; omega) (.slice b1 n d1)) 4 _ rfl
  have HO4 : Hid (Box ((w1.setCell ⟨w.heap.size + 1 + 1, 3, none⟩ (.slice b1 n d1)).setCell ⟨w.heap.size + 1 + 1, 4, none⟩ (.int .i64 S)) (w.heap.size + 1 + 1) [.string F, .string T, .int .i64 C, .slice b1 n d1, .int .i64 S]) := HO3.out.set 4 _
  have HR4 : Hid (Box ((w1.setCell ⟨w.heap.size + 1 + 1, 3, none⟩ (.slice b1 n d1)).setCell ⟨w.heap.size + 1 + 1, 4, none⟩ (.int .i64 S)) (w.heap.size + 1) [.string ⟨#[]⟩, .string ⟨#[]⟩, .int .i64 0, .slice none 0 0, .int .i64 0]) := (HRs.out.other _ (by dsimp only; omega) _).other _ (by dsimp only; omega) _
  obtain ⟨f0, _⟩ := HO4.out 0 _ rfl
  obtain ⟨f1, _⟩ := HO4.out 1 _ rfl
  obtain ⟨f2, _⟩ := HO4.out 2 _ rfl
  obtain ⟨f3, _⟩ := HO4.out 3 _ rfl
  obtain ⟨f4, _⟩ := HO4.out 4 _ rfl
  obtain ⟨⟨g0, h0⟩, ⟨g1, h1⟩, ⟨g2, h2⟩, ⟨g3, h3⟩, ⟨g4, h4⟩, r0, r1, r2, r3, r4⟩ := HR4.out.w5in (.string F) (.string T) (.int .i64 C) (.slice b1 n d1) (.int .i64 S)
  go_wp2_with fail
  refine bodyPost_ret (v := .agg #[.string F, .string T, .int .i64 C, .slice b1 n d1, .int .i64 S]) (by simp [results, Tryz.results11, go_sem, r0, r1, r2, r3, r4]) rfl ⟨_, rfl, ?_, ?_⟩
  · refine ⟨.slice b1 n d1, by rw [NG.out.1, NG.out.2.1, NG.out.2.2.1, NG.out.2.2.2], OwnsR.mk ?_ (Nat.le_refl _)⟩
    rw [N1.out]
    exact own_mono (own_setLow (own_setLow (own_setLow (own_setLow (own_setLow (own_setLow (own_setLow (O1.out) (by dsimp only; omega) _) (by dsimp only; omega) _) (by dsimp only; omega) _) (by dsimp only; omega) _) (by dsimp only; omega) _) (by dsimp only; omega) _) (by dsimp only; omega) _) (by omega)
  · exact Below.setCell (Below.setCell (Below.setCell (Below.setCell (Below.setCell (Below.setCell (Below.setCell (B1.out) (by dsimp only; omega) _) (by dsimp only; omega) _) (by dsimp only; omega) _) (by dsimp only; omega) _) (by dsimp only; omega) _) (by dsimp only; omega) _) (by dsimp only; omega) _

set_option maxHeartbeats 1000000 in
theorem szBackup (v : Value) (D : BM) (l : Int) (w : World) (hl0 : 0 ≤ l) (hl1 : l ≤ 1048576) (hm : maxK D) (h : ReadsK w v D) :
    Calls Tryz.prog 8 #[v, .int .i64 l] w fun e w' => ∃ r : Int, e = .returned (.int .i64 r) ∧ r ≤ l ∧ (0 ≤ r → smallK D) ∧ Below w.heap.size w w' := by
  obtain ⟨a, c, rfl, s1⟩ := h
  obtain ⟨n, hn⟩ : ∃ n, D.D.length = n := ⟨_, rfl⟩
  obtain ⟨F, hF⟩ : ∃ F, D.F = F := ⟨_, rfl⟩
  obtain ⟨T, hT⟩ : ∃ T, D.T = T := ⟨_, rfl⟩
  obtain ⟨C, hC⟩ : ∃ C, D.C = C := ⟨_, rfl⟩
  obtain ⟨S, hS⟩ : ∃ S, D.S = S := ⟨_, rfl⟩
  have HM : Hid (n ≤ maxLen ∧ ∀ x ∈ D.D, x.1.size ≤ maxLen ∧ x.2.1.size ≤ maxLen ∧ x.2.2.1.size ≤ maxLen) := by rw [← hn]; exact ⟨hm.1, hm.2.2.2⟩
  have hfm : F.size ≤ maxLen := by rw [← hF]; exact hm.2.1
  have htm : T.size ≤ maxLen := by rw [← hT]; exact hm.2.2.1
  unfold maxLen at hfm htm
  have S1 : Hid (Src w a (cellsDf D.D)) := s1
  rw [hn, hF, hT, hC, hS]
  have N1 : Hid (D.D.length = n ∧ D.F = F ∧ D.T = T) := ⟨hn, hF, hT⟩
  have A0 : Hid (Below w.heap.size w (w.alloc (.cells #[.string F, .string T, .int .i64 C, .slice a n c, .int .i64 S] 25))) := (Below.refl _ _).alloc (Nat.le_refl _) _
  clear hm s1 hn hF hT hC hS
  by_cases k1 : l - (F.size : Int) < 0
  · go_enter Tryz.func8, Tryz.ntmps8
    go_wp2_with fail
    go_ret
    exact ⟨-1, rfl, by omega, fun h => absurd h (by omega), A0.out⟩
  by_cases k2 : l - (F.size : Int) - (T.size : Int) < 0
  · go_enter Tryz.func8, Tryz.ntmps8
    go_wp2_with fail
    go_ret
    exact ⟨-1, rfl, by omega, fun h => absurd h (by omega), A0.out⟩
  go_enter Tryz.func8, Tryz.ntmps8
  go_wp2_with fail
  refine (szDiffS a n c D.D _ _ N1.out.1 HM.out.1 HM.out.2 (by omega) (by omega) (S1.out.below A0.out)).mono ?_
  rintro e w1 ⟨r, rfl, hr1, hr, hb1⟩
  have B1 : Hid (Below w.heap.size w w1) := Below.new hb1
  have HR : Hid (0 ≤ r → smallK D) := fun h => ⟨by rw [N1.out.1]; exact (hr h).2.1, by rw [N1.out.2.1]; omega, by rw [N1.out.2.2]; omega, (hr h).2.2⟩
  clear hb1 hr
  by_cases hneg : r < 0
  · go_wp2_with fail
    go_ret
    exact ⟨-1, rfl, by omega, fun h => absurd h (by omega), B1.out⟩
  · go_wp2_with fail
    go_ret
    exact ⟨r, rfl, by omega, HR.out, B1.out⟩

set_option maxHeartbeats 1000000 in
theorem eqBackup (v v' : Value) (D : BM) (w : World) (hs : D.D.length ≤ 9000000000000000000) (h : ReadsK w v D) (h' : ReadsK w v' D) :
    Calls Tryz.prog 14 #[v, v'] w fun e w' => e = .returned (.bool true) ∧ Below w.heap.size w w' := by
  obtain ⟨a, c, rfl, s1⟩ := h
  obtain ⟨b, d, rfl, s2⟩ := h'
  obtain ⟨n, hn⟩ : ∃ n, D.D.length = n := ⟨_, rfl⟩
  obtain ⟨F, hF⟩ : ∃ F, D.F = F := ⟨_, rfl⟩
  obtain ⟨T, hT⟩ : ∃ T, D.T = T := ⟨_, rfl⟩
  obtain ⟨C, hC⟩ : ∃ C, D.C = C := ⟨_, rfl⟩
  obtain ⟨S, hS⟩ : ∃ S, D.S = S := ⟨_, rfl⟩
  have HS : Hid (n ≤ 9000000000000000000) := by rw [← hn]; exact hs
  have S1 : Hid (Src w a (cellsDf D.D) ∧ Src w b (cellsDf D.D)) := ⟨s1, s2⟩
  rw [hn, hF, hT, hC, hS]
  have N1 : Hid (D.D.length = n) := hn
  have hCC : (C != C) = false := by simp
  have hSS : (S != S) = false := by simp
  clear hs s1 s2 hn hF hT hC hS
  go_enter Tryz.func14, Tryz.ntmps14
  go_wp2_with fail
  refine (eqDiffS a b n c d D.D _ N1.out HS.out (S1.out.1.below (((Below.refl _ _).alloc (Nat.le_refl _) _).alloc (by simp) _)) (S1.out.2.below (((Below.refl _ _).alloc (Nat.le_refl _) _).alloc (by simp) _))).mono ?_
  rintro e w1 ⟨rfl, hb1⟩
  have B1 : Hid (Below w.heap.size w w1) := (((Below.refl _ _).alloc (Nat.le_refl _) _).alloc (by simp) _).trans (hb1.mono (by simp; omega))
  have X1 : Hid (Box w1 w.heap.size [.string F, .string T, .int .i64 C, .slice a n c, .int .i64 S]) := Box.below ((Box.new rfl).old _) hb1
  have Y1 : Hid (Box w1 (w.heap.size + 1) [.string F, .string T, .int .i64 C, .slice b n d, .int .i64 S]) := Box.below (Box.new (by simp)) hb1
  clear hb1
  obtain ⟨x4, _⟩ := X1.out 4 _ rfl
  obtain ⟨y4, _⟩ := Y1.out 4 _ rfl
  go_wp2_with fail
  go_ret
  exact ⟨rfl, B1.out⟩

def mkK (D : BM) (k : Nat) : BM := ⟨D.F, D.T, D.C, mkDf k D.D.length, D.S⟩
set_option maxHeartbeats 1000000 in
theorem markBackup (v : Value) (D : BM) (k lo hi : Nat) (w : World) (hs : D.D.length ≤ 1048576) (hk0 : 0 < k) (hk1 : k ≤ 4194304) (hhi : hi ≤ w.heap.size) (h : OwnsK w lo hi v D) :
    Calls Tryz.prog 16 #[v, .int .i64 (k : Int)] w fun e w' => e = .returned (.int .i64 ((k + D.D.length * 5 : Nat) : Int)) ∧ Turned lo hi w w' ∧ OwnsK w' lo hi v (mkK D k) := by
  obtain ⟨v1, rfl, h1⟩ := h
  obtain ⟨a, c, rfl⟩ := h1.lit
  obtain ⟨n, hn⟩ : ∃ n, D.D.length = n := ⟨_, rfl⟩
  have H1 : Hid (OwnsR w 108 5 lo hi (.slice a n c) n (cellsDf D.D)) := by rw [← hn]; exact h1
  have HS : Hid (n ≤ 1048576) := by rw [← hn]; exact hs
  have HU : Hid (mkK D k = ⟨D.F, D.T, D.C, mkDf k n, D.S⟩) := by show _ = _; unfold mkK; rw [hn]
  rw [hn, HU.out]
  clear hn h1 hs
  go_enter Tryz.func16, Tryz.ntmps16
  go_wp2_with fail
  refine (markDiffS (.slice a n c) n k lo (cellsDf D.D) _ HS.out hk0 (Nat.le_trans hk1 (by decide)) (own_below H1.out.1 ((Below.refl _ _).alloc (Nat.le_refl _) _))).mono ?_
  rintro e w1 ⟨rfl, g1, o1⟩
  have T1 : Hid (Turned lo hi w w1) := (Turned.of_below ((Below.refl _ _).alloc (Nat.le_refl _) _)).trans (Turned.of_grown g1 (fun j e => ⟨((own_mono H1.out.1 (Nat.le_refl _)).lt j e).1, H1.out.2 j e⟩))
  have O1 : Hid (OwnsR w1 108 5 lo hi (.slice a n c) n (cellsDf (mkDf k n))) := ⟨o1, H1.out.2⟩
  clear g1 o1
  go_wp2_with fail
  go_ret
  refine ⟨rfl, T1.out, _, rfl, ?_⟩
  show OwnsR w1 108 5 lo hi (.slice a n c) (mkDf k n).length (cellsDf (mkDf k n))
  rw [mkDf_length]
  exact O1.out

end Go.Proofs.YtmbndpgoihdpnaaGreatDoor
