
/-
  The specification's CountRefs. By an AI agent.
-/
import Derived.Test.YtmpaophegdeokaaTrc
namespace Go.Proofs.Ytmpaophegdeokaa
open Go.ChangeShapes Go.WideShapes Go.ChangeAt Go.RowKit Go.Deep
set_option linter.unusedVariables false
set_option maxRecDepth 100000

theorem l03ReachedE (v : Value) (H : List NM) (ra : Option Addr) (n rc : Nat) (L : List Int) (w : World) (hsm : smallH H) (h : ReadsH w v H) (hL : L.length = n) (hn : n ≤ 1048576) (hs : Src w ra (cellsI L)) :
    Calls Try.prog 102 #[v, .slice ra n rc] w fun e w' => ∃ u ok, e = .returned (.tuple #[u, .bool ok]) ∧ Below w.heap.size w w' ∧ (ok = false → allF H L st0.R = none) ∧ (ok = true → ∃ A, allF H L st0.R = some A ∧ A.length = 50 ∧ w'.ownsRow w.heap.size 4 1 u 50 (A.map Value.bool)) := by
  refine (l03Reached v H ra n rc L w hsm h hL hn hs).mono ?_
  rintro e w1 ⟨hb1, (⟨h1, u, rfl⟩ | ⟨A, u, h1, hA, rfl, ho⟩)⟩
  · exact ⟨u, false, rfl, hb1, fun _ => h1, fun h => by cases h⟩
  · exact ⟨u, true, rfl, hb1, fun h => (by cases h), fun _ => ⟨A, h1, hA, ho⟩⟩
set_option maxHeartbeats 2000000 in
theorem specCountRefs (v : Value) (H : List NM) (ra : Option Addr) (n rc : Nat) (L : List Int) (w : World) (hsm : smallH H) (h : ReadsH w v H) (hL : L.length = n) (hn : n ≤ 1048576) (hs : Src w ra (cellsI L)) :
    Calls Try.prog 44 #[v, .slice ra n rc] w fun e w' => ∃ u R q, e = .returned (.tuple #[u, .int .i64 q]) ∧ refsA H L = (R, q) ∧ w'.ownsRow w.heap.size 3 1 u R.length (cellsI R) ∧ R.length ≤ 50 ∧ Below w.heap.size w w' := by
  obtain ⟨a, c, rfl, hr⟩ := h
  have HR : Hid (ReadsH w (.agg #[.slice a H.length c]) H) := ⟨a, c, rfl, hr⟩
  have HS : Hid (smallH H) := hsm
  have HL : Hid (L.length = n) := hL
  have HC : Hid (Src w ra (cellsI L)) := hs
  clear hr hsm hL hs
  by_cases t1 : (4096 : Int) < (n : Int)
  · have F : Hid (refsA H L = ([], 2)) := by show refsA H L = _; unfold refsA; rw [if_pos (by rw [HL.out]; omega)]
    go_enter Try.func44, Try.ntmps44
    go_wp2_with fail
    go_ret2
    exact ⟨_, _, _, rfl, F.out, own_empty (by simp) (by simp), by simp, ((Below.refl _ _).alloc (Nat.le_refl _) _).alloc (by simp) _⟩
  by_cases t2 : (20 : Int) < (n : Int)
  · have F : Hid (refsA H L = ([], 6)) := by show refsA H L = _; unfold refsA; rw [if_neg (by rw [HL.out]; omega), if_pos (by rw [HL.out]; omega)]
    go_enter Try.func44, Try.ntmps44
    go_wp2_with fail
    go_ret2
    exact ⟨_, _, _, rfl, F.out, own_empty (by simp) (by simp), by simp, ((Below.refl _ _).alloc (Nat.le_refl _) _).alloc (by simp) _⟩
  have RA : Hid (refsA H L = match allF H L st0.R with | none => ([], 1) | some A => (cntI (rT L L.length ++ kT H A 50), 0)) := by show refsA H L = _; unfold refsA; rw [if_neg (by rw [HL.out]; omega), if_neg (by rw [HL.out]; omega)]; cases allF H L st0.R <;> rfl
  go_enter Try.func44, Try.ntmps44
  go_wp2_with fail
  refine (l03ReachedE _ H ra n rc L _ HS.out (HR.out.below ((Below.refl _ _).alloc (Nat.le_refl _) _)) HL.out (by omega) (HC.out.below ((Below.refl _ _).alloc (Nat.le_refl _) _))).mono ?_
  rintro e w1 ⟨u, ok, rfl, hb1, g1, g2⟩
  have B1 : Hid (Below w.heap.size w w1) := Below.new hb1
  have X1 : Hid (Box w1 w.heap.size [.slice a H.length c]) := Box.below (Box.new rfl) hb1
  have Z1 : Hid (w.heap.size ≤ w1.heap.size) := B1.out.size
  obtain ⟨p0, _⟩ := X1.out 0 _ rfl
  have G1 : Hid (ok = false → allF H L st0.R = none) := g1
  cases ok with
  | false =>
    have F : Hid (refsA H L = ([], 1)) := by show _ = _; rw [RA.out, G1.out rfl]
    clear hb1 g1 g2
    go_wp2_with fail
    go_ret2
    exact ⟨_, _, _, rfl, F.out, own_empty (by simp) Z1.out, by simp, B1.out.alloc B1.out.size _⟩
  | true =>
    obtain ⟨A, h1, hA, ho⟩ := g2 rfl
    have F : Hid (refsA H L = (cntI (rT L n ++ kT H A 50), 0)) := by show _ = _; rw [RA.out, h1, HL.out]
    have AN := all_nod L _ A h1 (nod0 H) rfl
    have HN : Hid (nodS H A ∧ ∀ r ∈ L, r = -1 ∨ pageB r = true) := AN
    obtain ⟨ga, gc, rfl, hsrc, _⟩ := own_src ho
    have HG : Hid (A.length = 50 ∧ Src w1 ga (A.map Value.bool)) := ⟨hA, hsrc⟩
    clear hb1 g1 g2 h1 hA ho hsrc AN
    go_wp2_with fail
    refine (l03Refs _ H ra ga n rc gc L A _ (HR.out.below B1.out) HL.out (by omega) (HC.out.below B1.out) HG.out.1 HG.out.2 HN.out.1 HN.out.2).mono ?_
    rintro e w2 ⟨u2, rfl, o2, hb2⟩
    have B2 : Hid (Below w.heap.size w w2) := B1.out.trans (hb2.mono B1.out.size)
    have O2 : Hid (w2.ownsRow w.heap.size 3 1 u2 50 (cellsI (cntI (rT L n ++ kT H A 50)))) := by rw [cntI_comm]; exact own_mono o2 Z1.out
    clear hb2 o2
    go_wp2_with fail
    go_ret2
    exact ⟨_, _, _, rfl, F.out, by rw [cntI_length]; exact O2.out, by rw [cntI_length]; exact Nat.le_refl _, B2.out⟩
end Go.Proofs.Ytmpaophegdeokaa
