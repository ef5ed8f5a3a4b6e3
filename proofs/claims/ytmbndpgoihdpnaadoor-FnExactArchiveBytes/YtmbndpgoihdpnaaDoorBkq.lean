
/-
  Rows of backups: what they read as, how they are compared. By an AI agent.
-/
import Derived.Test.YtmbndpgoihdpnaaDoorBkp
namespace Go.Proofs.YtmbndpgoihdpnaaDoor
open Go.ChangeShapes Go.WideShapes Go.ChangeAt Go.RowKit Go.Deep
set_option linter.unusedVariables false
set_option maxRecDepth 100000

/-- A backup's five cells. -/
structure BkV where
  F : ByteArray
  T : ByteArray
  C : Int
  v1 : Value
  S : Int
abbrev bv0 : BkV := ⟨⟨#[]⟩, ⟨#[]⟩, 0, .slice none 0 0, 0⟩
abbrev bk0 : BM := ⟨⟨#[]⟩, ⟨#[]⟩, 0, [], 0⟩
abbrev BkV.val (x : BkV) : Value := .agg #[.string x.F, .string x.T, .int .i64 x.C, x.v1, .int .i64 x.S]
def cellsBk (V : List BkV) : List Value := V.flatMap fun x => [.string x.F, .string x.T, .int .i64 x.C, x.v1, .int .i64 x.S]
theorem cellsBk_length (V : List BkV) : (cellsBk V).length = V.length * 5 := by
  induction V with
  | nil => rfl
  | cons p L ih => simp [cellsBk] at ih ⊢; omega
theorem cellsBk_append (V U : List BkV) : cellsBk (V ++ U) = cellsBk V ++ cellsBk U := by simp [cellsBk]
theorem cellsBk_get : ∀ (V : List BkV) (i : Nat), i < V.length → (cellsBk V)[i * 5]? = some (.string (V.getD i bv0).F) ∧ (cellsBk V)[i * 5 + 1]? = some (.string (V.getD i bv0).T) ∧ (cellsBk V)[i * 5 + 2]? = some (.int .i64 (V.getD i bv0).C) ∧ (cellsBk V)[i * 5 + 3]? = some (V.getD i bv0).v1 ∧ (cellsBk V)[i * 5 + 4]? = some (.int .i64 (V.getD i bv0).S)
  | [], i, h => absurd h (by simp)
  | p :: L, 0, _ => ⟨rfl, rfl, rfl, rfl, rfl⟩
  | p :: L, i + 1, h => by
    have ih := cellsBk_get L i (by simpa using h)
    have e1 : (i + 1) * 5 = i * 5 + 1 + 1 + 1 + 1 + 1 := by omega
    have e2 : cellsBk (p :: L) = .string p.F :: .string p.T :: .int .i64 p.C :: p.v1 :: .int .i64 p.S :: cellsBk L := rfl
    rw [e2, e1]
    exact ih
/-- A slice of backups reads as H. -/
def ReadsBL (w : World) (a : Option Addr) (H : List BM) : Prop :=
  ∃ V : List BkV, V.length = H.length ∧ Src w a (cellsBk V) ∧ ∀ i, i < H.length → ReadsK w (V.getD i bv0).val (H.getD i bk0)
theorem ReadsBL.below {w w' : World} {a : Option Addr} {H : List BM} (h : ReadsBL w a H) (hb : Below w.heap.size w w') : ReadsBL w' a H := by
  obtain ⟨V, h1, h2, h3⟩ := h
  exact ⟨V, h1, h2.below hb, fun i hi => (h3 i hi).below hb⟩
theorem ReadsBL.drew {w : World} {a : Option Addr} {H : List BM} (h : ReadsBL w a H) : ReadsBL w.drew a H := h
theorem srcBk {w : World} {a : Option Addr} {H : List BM} (h : ReadsBL w a H) {i : Nat} (hi : i < H.length) : ∃ b o D a1 c1, a = some ⟨b, o, none⟩ ∧ w.cell? ⟨b, o + i * 5, none⟩ = some (.string D.F) ∧ w.cell? ⟨b, o + i * 5 + 1, none⟩ = some (.string D.T) ∧ w.cell? ⟨b, o + i * 5 + 2, none⟩ = some (.int .i64 D.C) ∧ w.cell? ⟨b, o + i * 5 + 3, none⟩ = some (.slice a1 D.D.length c1) ∧ w.cell? ⟨b, o + i * 5 + 4, none⟩ = some (.int .i64 D.S) ∧ Hid (H.getD i bk0 = D) ∧ Hid (ReadsK w (.agg #[.string D.F, .string D.T, .int .i64 D.C, .slice a1 D.D.length c1, .int .i64 D.S]) D) := by
  obtain ⟨V, h1, h2, h3⟩ := h
  rcases h2 with h2 | ⟨b, o, rfl, hc⟩
  · have h4 := cellsBk_length V
    rw [h2] at h4
    simp only [List.length_nil] at h4
    omega
  · have hR := h3 i hi
    obtain ⟨g0, g1, g2, g3, g4⟩ := cellsBk_get V i (by omega)
    have k0 := hc (i * 5) (by rw [cellsBk_length]; omega)
    have k1 := hc (i * 5 + 1) (by rw [cellsBk_length]; omega)
    have k2 := hc (i * 5 + 2) (by rw [cellsBk_length]; omega)
    have k3 := hc (i * 5 + 3) (by rw [cellsBk_length]; omega)
    have k4 := hc (i * 5 + 4) (by rw [cellsBk_length]; omega)
    rw [getD_some g0] at k0
    rw [getD_some g1] at k1
    rw [getD_some g2] at k2
    rw [getD_some g3] at k3
    rw [getD_some g4] at k4
    obtain ⟨a1, c1, e, s1⟩ := hR
    simp only [Value.agg.injEq, Array.mk.injEq, List.cons.injEq, Value.string.injEq, Value.int.injEq, and_true, true_and] at e
    obtain ⟨e0, e1, e2, e3, e4⟩ := e
    refine ⟨b, o, H.getD i bk0, a1, c1, rfl, ?_, ?_, ?_, ?_, ?_, rfl, ⟨a1, c1, rfl, s1⟩⟩
    · rw [k0, e0]
    · rw [← Nat.add_assoc] at k1; rw [k1, e1]
    · rw [← Nat.add_assoc] at k2; rw [k2, e2]
    · rw [← Nat.add_assoc] at k3; rw [k3, e3]
    · rw [← Nat.add_assoc] at k4; rw [k4, e4]
theorem getD_memB (H : List BM) (i : Nat) (h : i < H.length) : H.getD i bk0 ∈ H := by
  rw [List.getD_eq_getElem?_getD, List.getElem?_eq_getElem h]; exact List.getElem_mem _

set_option maxHeartbeats 1000000 in
theorem eqBackupS (a b : Option Addr) (n c d : Nat) (H : List BM) (w : World) (hL : H.length = n) (hn : n ≤ 1048576) (hs : ∀ D ∈ H, D.D.length ≤ 9000000000000000000) (ha : ReadsBL w a H) (hb : ReadsBL w b H) :
    Calls Tryd.prog 11 #[.slice a n c, .slice b n d] w fun e w' => e = .returned (.bool true) ∧ Below w.heap.size w w' := by
  have hne : ((n : Int) != (n : Int)) = false := by simp
  have HA : Hid (ReadsBL w a H) := ha
  have HB : Hid (ReadsBL w b H) := hb
  have HL : Hid (H.length = n) := hL
  have HS : Hid (∀ D ∈ H, D.D.length ≤ 9000000000000000000) := hs
  clear ha hb hL hs
  go_enter Tryd.func11, Tryd.ntmps11
  go_wp2_with fail
  go_loopw [5] (fun i wr => ∃ k : Nat, k ≤ n ∧ i = .int .i64 k ∧ Hid (Below w.heap.size w wr)) (fun i _ => n - (RowKit.intOf i).toNat)
  case atStart => exact ⟨0, by omega, rfl, Below.refl _ _⟩
  case round =>
    obtain ⟨k, hk, rfl, hB⟩ := hrel
    by_cases hlt : k < n
    · obtain ⟨b1, o1, D, a1, c1, rfl, p0, p1, p2, p3, p4, hD, hR⟩ := srcBk (HA.out.below hB.out) (i := k) (by rw [HL.out]; exact hlt)
      obtain ⟨b2, o2, D', d1, e1, rfl, q0, q1, q2, q3, q4, hD', hR'⟩ := srcBk (HB.out.below hB.out) (i := k) (by rw [HL.out]; exact hlt)
      obtain rfl : D = D' := hD.out.symm.trans hD'.out
      have WT : Hid (D.D.length ≤ 9000000000000000000) := by
        show D.D.length ≤ _
        rw [← hD.out]
        exact HS.out _ (getD_memB H k (by rw [HL.out]; exact hlt))
      have hk0 : (0 : Int) ≤ (k : Int) := by omega
      have hki : (k : Int) < (n : Int) := by omega
      go_wp2_with fail
      go_region_with (go_at_call 18; refine (eqBackup _ _ D _ WT.out hR.out.drew hR'.out.drew).mono ?_; rintro e w1 ⟨rfl, hb1⟩)
      all_goals go_wp2_with fail
      all_goals exact ⟨⟨k + 1, by omega, by go_num, hB.out.drew.trans (hb1.mono hB.out.size)⟩, by simp [RowKit.intOf]; omega⟩
    · go_wp2_with fail
      go_ret
      exact ⟨rfl, hB.out⟩
end Go.Proofs.YtmbndpgoihdpnaaDoor
