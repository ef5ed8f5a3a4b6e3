
/-
  Contracts of the helpers on superblocks: sizes, copies, comparisons, marks. By an AI agent.
-/
import Derived.Test.YtlkobhighhkmoaaDoorSnaps
namespace Go.Proofs.YtlkobhighhkmoaaDoor
open Go.ChangeShapes Go.WideShapes Go.ChangeAt Go.RowKit Go.Deep
set_option linter.unusedVariables false

/-- A superblock: its generation, its root, its snapshots. -/
structure UM where
  G : Int
  R : Int
  S : List SN
/-- v reads as D. -/
def ReadsU (w : World) (v : Value) (D : UM) : Prop :=
  ∃ a c, v = .agg #[.int .i64 D.G, .int .i64 D.R, .slice a D.S.length c] ∧ Src w a (cellsSn D.S)
theorem ReadsU.below {w w' : World} {v : Value} {D : UM} (h : ReadsU w v D) (hb : Below w.heap.size w w') : ReadsU w' v D := by
  obtain ⟨a, c, rfl, h1⟩ := h
  exact ⟨a, c, rfl, h1.below hb⟩
theorem ReadsU.drew {w : World} {v : Value} {D : UM} (h : ReadsU w v D) : ReadsU w.drew v D := h
/-- v owns D, in blocks from lo up to hi. -/
def OwnsU (w : World) (lo hi : Nat) (v : Value) (D : UM) : Prop :=
  ∃ v1, v = .agg #[.int .i64 D.G, .int .i64 D.R, v1] ∧ OwnsR w 78 3 lo hi v1 D.S.length (cellsSn D.S)
theorem OwnsU.reads {w : World} {lo hi : Nat} {v : Value} {D : UM} (h : OwnsU w lo hi v D) : ReadsU w v D := by
  obtain ⟨v1, rfl, h1⟩ := h
  obtain ⟨a1, c1, rfl, s1, _⟩ := own_src h1.1
  exact ⟨a1, c1, rfl, s1⟩
theorem OwnsU.below {w w' : World} {lo hi : Nat} {v : Value} {D : UM} (h : OwnsU w lo hi v D) (hb : Below w.heap.size w w') : OwnsU w' lo hi v D := by
  obtain ⟨v1, rfl, h1⟩ := h
  exact ⟨v1, rfl, h1.below hb⟩
theorem OwnsU.turned {w w' : World} {lo hi lo' hi' : Nat} {v : Value} {D : UM} (h : OwnsU w lo hi v D) (ht : Turned lo' hi' w w') (hd : hi ≤ lo' ∨ hi' ≤ lo) : OwnsU w' lo hi v D := by
  obtain ⟨v1, rfl, h1⟩ := h
  exact ⟨v1, rfl, h1.turned ht hd⟩
theorem OwnsU.mono {w : World} {lo hi lo' hi' : Nat} {v : Value} {D : UM} (h : OwnsU w lo hi v D) (hl : lo' ≤ lo) (hh : hi ≤ hi') : OwnsU w lo' hi' v D := by
  obtain ⟨v1, rfl, h1⟩ := h
  exact ⟨v1, rfl, h1.mono hl hh⟩
theorem OwnsU.drew {w : World} {lo hi : Nat} {v : Value} {D : UM} (h : OwnsU w lo hi v D) : OwnsU w.drew lo hi v D := h
theorem OwnsU.lit {w : World} {lo hi : Nat} {v : Value} {D : UM} (h : OwnsU w lo hi v D) : ∃ a c, v = .agg #[.int .i64 D.G, .int .i64 D.R, .slice a D.S.length c] := by
  obtain ⟨a, c, e, _⟩ := h.reads
  exact ⟨a, c, e⟩
def smallU (D : UM) : Prop := D.S.length ≤ 1048576 ∧ ∀ x ∈ D.S, x.1.size ≤ 1048576
def maxU (D : UM) : Prop := D.S.length ≤ maxLen ∧ ∀ x ∈ D.S, x.1.size ≤ maxLen

set_option maxHeartbeats 1000000 in
theorem eqSuper (v v' : Value) (D : UM) (w : World) (hs : D.S.length ≤ 9000000000000000000) (h : ReadsU w v D) (h' : ReadsU w v' D) :
    Calls Tryd.prog 27 #[v, v'] w fun e w' => e = .returned (.bool true) ∧ Below w.heap.size w w' := by
  obtain ⟨a, c, rfl, s1⟩ := h
  obtain ⟨b, d, rfl, s2⟩ := h'
  obtain ⟨n, hn⟩ : ∃ n, D.S.length = n := ⟨_, rfl⟩
  obtain ⟨G, hG⟩ : ∃ G, D.G = G := ⟨_, rfl⟩
  obtain ⟨R, hR⟩ : ∃ R, D.R = R := ⟨_, rfl⟩
  have HS : Hid (n ≤ 9000000000000000000) := by rw [← hn]; exact hs
  have S1 : Hid (Src w a (cellsSn D.S) ∧ Src w b (cellsSn D.S)) := ⟨s1, s2⟩
  rw [hn, hG, hR]
  have N1 : Hid (D.S.length = n) := hn
  have hGG : (G != G) = false := by simp
  have hRR : (R != R) = false := by simp
  clear hs s1 s2 hn hG hR
  go_enter Tryd.func27, Tryd.ntmps27
  go_wp2_with fail
  refine (eqSnapS a b n c d D.S _ N1.out HS.out (S1.out.1.below (((Below.refl _ _).alloc (Nat.le_refl _) _).alloc (by simp) _)) (S1.out.2.below (((Below.refl _ _).alloc (Nat.le_refl _) _).alloc (by simp) _))).mono ?_
  rintro e w1 ⟨rfl, hb1⟩
  have B1 : Hid (Below w.heap.size w w1) := (((Below.refl _ _).alloc (Nat.le_refl _) _).alloc (by simp) _).trans (hb1.mono (by simp; omega))
  clear hb1
  go_wp2_with fail
  go_ret
  exact ⟨rfl, B1.out⟩

def mkU (D : UM) (k : Nat) : UM := ⟨D.G, D.R, mkSn k D.S.length⟩
set_option maxHeartbeats 1000000 in
theorem markSuper (v : Value) (D : UM) (k lo hi : Nat) (w : World) (hs : D.S.length ≤ 1048576) (hk0 : 0 < k) (hk1 : k ≤ 4194304) (hhi : hi ≤ w.heap.size) (h : OwnsU w lo hi v D) :
    Calls Tryd.prog 30 #[v, .int .i64 (k : Int)] w fun e w' => e = .returned (.int .i64 ((k + D.S.length * 3 : Nat) : Int)) ∧ Turned lo hi w w' ∧ OwnsU w' lo hi v (mkU D k) := by
  obtain ⟨v1, rfl, h1⟩ := h
  obtain ⟨a, c, rfl⟩ := h1.lit
  obtain ⟨n, hn⟩ : ∃ n, D.S.length = n := ⟨_, rfl⟩
  have H1 : Hid (OwnsR w 78 3 lo hi (.slice a n c) n (cellsSn D.S)) := by rw [← hn]; exact h1
  have HS : Hid (n ≤ 1048576) := by rw [← hn]; exact hs
  have HU : Hid (mkU D k = ⟨D.G, D.R, mkSn k n⟩) := by show _ = _; unfold mkU; rw [hn]
  rw [hn, HU.out]
  clear hn h1 hs
  go_enter Tryd.func30, Tryd.ntmps30
  go_wp2_with fail
  refine (markSnapS (.slice a n c) n k lo (cellsSn D.S) _ HS.out hk0 hk1 (own_below H1.out.1 ((Below.refl _ _).alloc (Nat.le_refl _) _))).mono ?_
  rintro e w1 ⟨rfl, g1, o1⟩
  have T1 : Hid (Turned lo hi w w1) := (Turned.of_below ((Below.refl _ _).alloc (Nat.le_refl _) _)).trans (Turned.of_grown g1 (fun j e => ⟨((own_mono H1.out.1 (Nat.le_refl _)).lt j e).1, H1.out.2 j e⟩))
  have O1 : Hid (OwnsR w1 78 3 lo hi (.slice a n c) n (cellsSn (mkSn k n))) := ⟨o1, H1.out.2⟩
  clear g1 o1
  go_wp2_with fail
  go_ret
  refine ⟨rfl, T1.out, _, rfl, ?_⟩
  show OwnsR w1 78 3 lo hi (.slice a n c) (mkSn k n).length (cellsSn (mkSn k n))
  rw [mkSn_length]
  exact O1.out

set_option maxHeartbeats 1000000 in
theorem heldSuper (v : Value) (D : UM) (k : Nat) (w : World) (hs : D.S.length ≤ 1048576) (hk0 : 0 < k) (hk1 : k ≤ 4194304) (h : ReadsU w v (mkU D k)) :
    Calls Tryd.prog 33 #[v, .int .i64 (k : Int)] w fun e w' => e = .returned (.int .i64 ((k + D.S.length * 3 : Nat) : Int)) ∧ Below w.heap.size w w' := by
  obtain ⟨a, c, rfl, s1⟩ := h
  obtain ⟨n, hn⟩ : ∃ n, D.S.length = n := ⟨_, rfl⟩
  have HS : Hid (n ≤ 1048576) := by rw [← hn]; exact hs
  have e1 : (mkU D k).S = mkSn k n := by unfold mkU; rw [hn]
  have S1 : Hid (Src w a (cellsSn (mkSn k n))) := by rw [← e1]; exact s1
  rw [e1, mkSn_length, hn]
  have PB : Hid (0 < k + n * 3 ∧ k + n * 3 ≤ 9000000) := ⟨by omega, by have := HS.out; omega⟩
  obtain ⟨G, hG⟩ : ∃ G, (mkU D k).G = G := ⟨_, rfl⟩
  obtain ⟨R, hR⟩ : ∃ R, (mkU D k).R = R := ⟨_, rfl⟩
  rw [hG, hR]
  clear hn e1 s1 hs hG hR
  go_enter Tryd.func33, Tryd.ntmps33
  go_wp2_with fail
  refine (heldSnapS a n c k _ HS.out hk0 hk1 (S1.out.below ((Below.refl _ _).alloc (Nat.le_refl _) _))).mono ?_
  rintro e w1 ⟨rfl, hb1⟩
  have B1 : Hid (Below w.heap.size w w1) := Below.new hb1
  clear hb1
  obtain ⟨z, hz⟩ : ∃ z : Nat, k + n * 3 = z := ⟨_, rfl⟩
  rw [hz] at PB ⊢
  have hz0 : (0 : Int) ≤ (z : Int) := by omega
  have HZ : Hid (k + n * 3 = z) := hz
  clear hz
  go_wp2_with fail
  go_ret
  exact ⟨by show Ending.returned (.int .i64 ((z : Nat) : Int)) = _; rw [← HZ.out], B1.out⟩
end Go.Proofs.YtlkobhighhkmoaaDoor
