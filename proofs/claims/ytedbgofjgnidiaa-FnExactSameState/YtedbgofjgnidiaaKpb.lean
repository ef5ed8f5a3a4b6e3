
/-
  Rows of kept snapshots; states. By an AI agent.
-/
import Derived.Test.YtedbgofjgnidiaaKpa
namespace Go.Proofs.Ytedbgofjgnidiaa
open Go.ChangeShapes Go.WideShapes Go.ChangeAt Go.RowKit Go.Deep
set_option linter.unusedVariables false
set_option maxRecDepth 100000

/-- A kept snapshot's three cells. -/
structure KeV where
  S : ByteArray
  T : Int
  v1 : Value
abbrev kv0 : KeV := ⟨⟨#[]⟩, 0, .slice none 0 0⟩
abbrev KeV.val (x : KeV) : Value := .agg #[.string x.S, .int .i64 x.T, x.v1]
def cellsKe (V : List KeV) : List Value := V.flatMap fun x => [.string x.S, .int .i64 x.T, x.v1]
theorem cellsKe_length (V : List KeV) : (cellsKe V).length = V.length * 3 := by
  induction V with
  | nil => rfl
  | cons p L ih => simp [cellsKe] at ih ⊢; omega
theorem cellsKe_append (V U : List KeV) : cellsKe (V ++ U) = cellsKe V ++ cellsKe U := by simp [cellsKe]
theorem cellsKe_get : ∀ (V : List KeV) (i : Nat), i < V.length → (cellsKe V)[i * 3]? = some (.string (V.getD i kv0).S) ∧ (cellsKe V)[i * 3 + 1]? = some (.int .i64 (V.getD i kv0).T) ∧ (cellsKe V)[i * 3 + 2]? = some (V.getD i kv0).v1
  | [], i, h => absurd h (by simp)
  | p :: L, 0, _ => ⟨rfl, rfl, rfl⟩
  | p :: L, i + 1, h => by
    have ih := cellsKe_get L i (by simpa using h)
    have e1 : (i + 1) * 3 = i * 3 + 1 + 1 + 1 := by omega
    have e2 : cellsKe (p :: L) = .string p.S :: .int .i64 p.T :: p.v1 :: cellsKe L := rfl
    rw [e2, e1]
    exact ih
/-- A slice of kept snapshots reads as H. -/
def ReadsKL (w : World) (a : Option Addr) (H : List KeM) : Prop :=
  ∃ V : List KeV, V.length = H.length ∧ Src w a (cellsKe V) ∧ ∀ i, i < H.length → ReadsKe w (V.getD i kv0).val (H.getD i ke0)
theorem ReadsKL.below {w w' : World} {a : Option Addr} {H : List KeM} (h : ReadsKL w a H) (hb : Below w.heap.size w w') : ReadsKL w' a H := by
  obtain ⟨V, h1, h2, h3⟩ := h
  exact ⟨V, h1, h2.below hb, fun i hi => (h3 i hi).below hb⟩
theorem ReadsKL.drew {w : World} {a : Option Addr} {H : List KeM} (h : ReadsKL w a H) : ReadsKL w.drew a H := h
theorem srcKe {w : World} {a : Option Addr} {H : List KeM} (h : ReadsKL w a H) {i : Nat} (hi : i < H.length) : ∃ b o D a1 c1, a = some ⟨b, o, none⟩ ∧ w.cell? ⟨b, o + i * 3, none⟩ = some (.string D.S) ∧ w.cell? ⟨b, o + i * 3 + 1, none⟩ = some (.int .i64 D.T) ∧ w.cell? ⟨b, o + i * 3 + 2, none⟩ = some (.slice a1 D.P.length c1) ∧ Hid (H.getD i ke0 = D) ∧ Hid (ReadsKe w (.agg #[.string D.S, .int .i64 D.T, .slice a1 D.P.length c1]) D) := by
  obtain ⟨V, h1, h2, h3⟩ := h
  rcases h2 with h2 | ⟨b, o, rfl, hc⟩
  · have h4 := cellsKe_length V
    rw [h2] at h4
    simp only [List.length_nil] at h4
    omega
  · have hR := h3 i hi
    obtain ⟨g0, g1, g2⟩ := cellsKe_get V i (by omega)
    have k0 := hc (i * 3) (by rw [cellsKe_length]; omega)
    have k1 := hc (i * 3 + 1) (by rw [cellsKe_length]; omega)
    have k2 := hc (i * 3 + 2) (by rw [cellsKe_length]; omega)
    rw [getD_some g0] at k0
    rw [getD_some g1] at k1
    rw [getD_some g2] at k2
    obtain ⟨a1, c1, e, s1⟩ := hR
    have e2 := e
    simp only [Value.agg.injEq, Array.mk.injEq, List.cons.injEq, Value.string.injEq, Value.int.injEq, and_true, true_and] at e
    obtain ⟨e0, e1, e2'⟩ := e
    refine ⟨b, o, H.getD i ke0, a1, c1, rfl, ?_, ?_, ?_, rfl, ⟨a1, c1, rfl, s1⟩⟩
    · rw [k0, e0]
    · rw [← Nat.add_assoc] at k1; rw [k1, e1]
    · rw [← Nat.add_assoc] at k2; rw [k2, e2']
theorem getD_memK (H : List KeM) (i : Nat) (h : i < H.length) : H.getD i ke0 ∈ H := by
  rw [List.getD_eq_getElem?_getD, List.getElem?_eq_getElem h]; exact List.getElem_mem _

set_option maxHeartbeats 1000000 in
theorem eqKeptS (a b : Option Addr) (n c d : Nat) (H : List KeM) (w : World) (hL : H.length = n) (hn : n ≤ 1048576) (hs : ∀ D ∈ H, D.P.length ≤ 9000000000000000000) (ha : ReadsKL w a H) (hb : ReadsKL w b H) :
    Calls Try.prog 18 #[.slice a n c, .slice b n d] w fun e w' => e = .returned (.bool true) ∧ Below w.heap.size w w' := by
  have hne : ((n : Int) != (n : Int)) = false := by simp
  have HA : Hid (ReadsKL w a H) := ha
  have HB : Hid (ReadsKL w b H) := hb
  have HL : Hid (H.length = n) := hL
  have HS : Hid (∀ D ∈ H, D.P.length ≤ 9000000000000000000) := hs
  clear ha hb hL hs
  go_enter Try.func18, Try.ntmps18
  go_wp2_with fail
  go_loopw [5] (fun i wr => ∃ k : Nat, k ≤ n ∧ i = .int .i64 k ∧ Hid (Below w.heap.size w wr)) (fun i _ => n - (intOf i).toNat)
  case atStart => exact ⟨0, by omega, rfl, Below.refl _ _⟩
  case round =>
    obtain ⟨k, hk, rfl, hB⟩ := hrel
    by_cases hlt : k < n
    · obtain ⟨b1, o1, D, a1, c1, rfl, p0, p1, p2, hD, hR⟩ := srcKe (HA.out.below hB.out) (i := k) (by rw [HL.out]; exact hlt)
      obtain ⟨b2, o2, D', d1, e1, rfl, q0, q1, q2, hD', hR'⟩ := srcKe (HB.out.below hB.out) (i := k) (by rw [HL.out]; exact hlt)
      obtain rfl : D = D' := hD.out.symm.trans hD'.out
      have WT : Hid (D.P.length ≤ 9000000000000000000) := by
        show D.P.length ≤ _
        rw [← hD.out]
        exact HS.out _ (getD_memK H k (by rw [HL.out]; exact hlt))
      have hk0 : (0 : Int) ≤ (k : Int) := by omega
      have hki : (k : Int) < (n : Int) := by omega
      go_wp2_with fail
      go_region_with (go_at_call 24; refine (eqKept _ _ D _ WT.out hR.out.drew hR'.out.drew).mono ?_; rintro e w1 ⟨rfl, hb1⟩)
      all_goals go_wp2_with fail
      all_goals exact ⟨⟨k + 1, by omega, by go_num, hB.out.drew.trans (hb1.mono hB.out.size)⟩, by simp [intOf]; omega⟩
    · go_wp2_with fail
      go_ret
      exact ⟨rfl, hB.out⟩

/-- A state: its pairs, its kept snapshots. -/
structure StM where
  P : List PM
  H : List KeM
/-- A state's value. -/
def ReadsSt (w : World) (v : Value) (D : StM) : Prop := ∃ a c b d, v = .agg #[.slice a D.P.length c, .slice b D.H.length d] ∧ Src w a (cellsP D.P) ∧ ReadsKL w b D.H
theorem ReadsSt.below {w w' : World} {v : Value} {D : StM} (h : ReadsSt w v D) (hb : Below w.heap.size w w') : ReadsSt w' v D := by
  obtain ⟨a, c, b, d, rfl, h1, h2⟩ := h
  exact ⟨a, c, b, d, rfl, h1.below hb, h2.below hb⟩
theorem ReadsSt.drew {w : World} {v : Value} {D : StM} (h : ReadsSt w v D) : ReadsSt w.drew v D := h
def wtSt (D : StM) : Nat := D.P.length + D.H.length
def smallSt (D : StM) : Prop := D.P.length ≤ 1048576 ∧ (∀ x ∈ D.P, x.1.size ≤ 1048576 ∧ x.2.size ≤ 1048576) ∧ D.H.length ≤ 1048576 ∧ ∀ E ∈ D.H, smallKe E
def maxSt (D : StM) : Prop := D.P.length ≤ maxLen ∧ (∀ x ∈ D.P, x.1.size ≤ maxLen ∧ x.2.size ≤ maxLen) ∧ D.H.length ≤ maxLen ∧ ∀ E ∈ D.H, maxKe E

set_option maxHeartbeats 1000000 in
theorem eqState (v v' : Value) (D : StM) (w : World) (hs : smallSt D) (h : ReadsSt w v D) (h' : ReadsSt w v' D) :
    Calls Try.prog 8 #[v, v'] w fun e w' => e = .returned (.bool true) ∧ Below w.heap.size w w' := by
  obtain ⟨a1, c1, a2, c2, rfl, s1, s2⟩ := h
  obtain ⟨b1, d1, b2, d2, rfl, t1, t2⟩ := h'
  have S1 : Hid (Src w a1 (cellsP D.P) ∧ Src w b1 (cellsP D.P)) := ⟨s1, t1⟩
  have S2 : Hid (ReadsKL w a2 D.H ∧ ReadsKL w b2 D.H) := ⟨s2, t2⟩
  have HS : Hid (smallSt D) := hs
  obtain ⟨n1, hn1⟩ : ∃ n, D.P.length = n := ⟨_, rfl⟩
  obtain ⟨n2, hn2⟩ : ∃ n, D.H.length = n := ⟨_, rfl⟩
  rw [hn1, hn2]
  have N1 : Hid (D.P.length = n1) := hn1
  have N2 : Hid (D.H.length = n2) := hn2
  have NS : Hid (n1 ≤ 1048576 ∧ n2 ≤ 1048576) := by rw [← hn1, ← hn2]; exact ⟨hs.1, hs.2.2.1⟩
  clear hs s1 s2 hn1 hn2 t1 t2
  go_enter Try.func8, Try.ntmps8
  go_wp2_with fail
  refine (eqPairS a1 b1 n1 c1 d1 D.P _ N1.out (by have := NS.out.1; omega) (S1.out.1.below (((Below.refl _ _).alloc (Nat.le_refl _) _).alloc (by simp) _)) (S1.out.2.below (((Below.refl _ _).alloc (Nat.le_refl _) _).alloc (by simp) _))).mono ?_
  rintro e w1 ⟨rfl, hb1⟩
  have B1 : Hid (Below w.heap.size w w1) := (((Below.refl _ _).alloc (Nat.le_refl _) _).alloc (by simp) _).trans (hb1.mono (by simp; omega))
  have HA : Hid (Box w1 w.heap.size [.slice a1 n1 c1, .slice a2 n2 c2]) := Box.below ((Box.new rfl).old _) hb1
  have HB : Hid (Box w1 (w.heap.size + 1) [.slice b1 n1 d1, .slice b2 n2 d2]) := Box.below (Box.new (by simp)) hb1
  clear hb1
  obtain ⟨p2, _⟩ := HA.out 1 _ rfl
  obtain ⟨q2, _⟩ := HB.out 1 _ rfl
  go_wp2_with fail
  refine (eqKeptS a2 b2 n2 c2 d2 D.H _ N2.out NS.out.2 (fun E hE => by have := (HS.out.2.2.2 E hE).2.1; omega) (S2.out.1.below B1.out) (S2.out.2.below B1.out)).mono ?_
  rintro e w2 ⟨rfl, hb2⟩
  have B2 : Hid (Below w.heap.size w w2) := B1.out.trans (hb2.mono B1.out.size)
  clear hb2 HA HB B1 p2 q2
  go_wp2_with fail
  go_ret
  exact ⟨rfl, B2.out⟩
end Go.Proofs.Ytedbgofjgnidiaa
