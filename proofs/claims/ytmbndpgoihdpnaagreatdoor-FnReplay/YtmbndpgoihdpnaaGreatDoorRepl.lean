
/-
  Lists of pairs in which some stand in the place of others: the program's replaced. By an AI agent.
-/
import Derived.Test.YtmbndpgoihdpnaaGreatDoorOwned
import Derived.Test.YtmbndpgoihdpnaaGreatDoorCuts
namespace Go.Proofs.YtmbndpgoihdpnaaGreatDoor
open Go.ChangeShapes Go.WideShapes Go.ChangeAt Go.RowKit Go.Deep
set_option linter.unusedVariables false
set_option maxRecDepth 100000

theorem cellsP_take (L : List PM) (p : Nat) : (cellsP L).take (p * 2) = cellsP (L.take p) := by
  induction L generalizing p with
  | nil => simp [cellsP]
  | cons x L ih =>
    cases p with
    | zero => simp [cellsP]
    | succ p =>
      have e2 : cellsP (x :: L) = .string x.1 :: .string x.2 :: cellsP L := rfl
      have e3 : cellsP ((x :: L).take (p + 1)) = .string x.1 :: .string x.2 :: cellsP (L.take p) := rfl
      rw [e2, e3, ← ih p, show (p + 1) * 2 = p * 2 + 1 + 1 from by omega]
      rfl
theorem cellsP_drop (L : List PM) (p : Nat) : (cellsP L).drop (p * 2) = cellsP (L.drop p) := by
  induction L generalizing p with
  | nil => simp [cellsP]
  | cons x L ih =>
    cases p with
    | zero => simp
    | succ p =>
      have e2 : cellsP (x :: L) = .string x.1 :: .string x.2 :: cellsP L := rfl
      rw [e2, List.drop_succ_cons, ← ih p, show (p + 1) * 2 = p * 2 + 1 + 1 from by omega]
      rfl
set_option maxHeartbeats 1000000 in
theorem copyPairsS (a : Option Addr) (m c : Nat) (L : List PM) (w : World) (hm : L.length = m) (hm1 : m ≤ 1048576) (h : Src w a (cellsP L)) :
    Calls Tryz.prog 45 #[.slice a m c] w fun e w' => ∃ v, e = .returned v ∧ OwnsP w' w.heap.size v L ∧ Below w.heap.size w w' := by
  have HH : Hid (Src w a (cellsP L)) := h
  have HM : Hid (L.length = m) := hm
  clear h hm
  go_enter Tryz.func45, Tryz.ntmps45
  go_wp2_with (at_builtin; refine wpList_append_src _ rfl _ _ 28 rfl w.heap.size 70 (.agg #[.string ⟨#[]⟩, .string ⟨#[]⟩]) 2 32 Tryz.underlying28 infoP rfl (by decide) (by decide) _ 0 [] rfl (World.ownsRow_nil _ _ _ _) a m c (cellsP L) rfl (by rw [cellsP_length, HM.out]) HH.out (cellsP_one L) (by omega) (Nat.le_refl _) ?_)
  intro v' w1 hown hgrow
  have HO : Hid (OwnsP w1 w.heap.size v' L) := by
    show OwnsP w1 w.heap.size v' L
    unfold OwnsP; rw [HM.out]; simpa using hown
  have HB : Hid (Below w.heap.size w w1) := (Below.refl _ _).grown hgrow (Nat.le_refl _) (fun k e => by cases e)
  clear hown hgrow
  go_wp2_with fail
  go_ret
  exact ⟨_, rfl, HO.out, HB.out⟩

set_option maxHeartbeats 1000000 in
theorem replacedP (a : Option Addr) (n c p q : Nat) (L : List PM) (ia : Option Addr) (m d : Nat) (M : List PM) (w : World) (hL : L.length = n) (hn : n ≤ 4096) (hc : n ≤ c) (hp : p ≤ n) (hq : q ≤ n) (hM : M.length = m) (hm : m ≤ 4096) (h : Src w a (cellsP L)) (hi : Src w ia (cellsP M)) :
    Calls Tryz.prog 126 #[.slice a n c, .int .i64 (p : Int), .int .i64 (q : Int), .slice ia m d] w fun e w' => ∃ v, e = .returned v ∧ OwnsP w' w.heap.size v (L.take p ++ M ++ L.drop q) ∧ Below w.heap.size w w' := by
  have cut1 := cut_h (P := Tryz.prog) (e := 70) Tryz.underlying28 (fun w => Tryz.sizeOf70 w) a n c p (by omega)
  have cut2 := cut_l (P := Tryz.prog) (e := 70) Tryz.underlying28 (fun w => Tryz.sizeOf70 w) a n c q hq
  have T0 : Hid ((L.take p).length = p) := by show (L.take p).length = p; rw [List.length_take]; omega
  have T1 : Hid ((L.drop q).length = n - q) := by show (L.drop q).length = n - q; rw [List.length_drop]; omega
  have TM : Hid (M.length = m) := hM
  have S1 : Hid (Src w a (cellsP (L.take p))) := by have h9 := h.head (p * 2); rw [cellsP_take] at h9; exact h9
  have S2 : Hid (Src w (cutP a c q 2) (cellsP (L.drop q))) := by have h9 := h.tail (n := n) (c := c) (q := q) (s := 2) (by rw [cellsP_length, hL]) hq hc; rw [cellsP_drop] at h9; exact h9
  have S3 : Hid (Src w ia (cellsP M)) := hi
  generalize cutP a c q 2 = a2 at cut2 S2
  obtain ⟨r, hr⟩ : ∃ r, n - q = r := ⟨_, rfl⟩
  obtain ⟨cr, hcr⟩ : ∃ r, c - q = r := ⟨_, rfl⟩
  rw [hr, hcr] at cut2
  rw [hr] at T1
  have hr9 : r ≤ 4096 := by omega
  have hp9 : p ≤ 4096 := by omega
  clear h hi hL hM hr hcr
  go_enter Tryz.func126, Tryz.ntmps126
  go_wp2_with fail
  refine (copyPairsS a p c (L.take p) _ T0.out (by omega) S1.out).mono ?_
  rintro e w1 ⟨v1, rfl, ho1, hb1⟩
  have O1 : Hid (w1.ownsRow w.heap.size 70 2 v1 p (cellsP (L.take p))) := by
    have h9 := ho1
    unfold OwnsP at h9
    rw [T0.out] at h9
    exact h9
  have B1 : Hid (Below w.heap.size w w1) := hb1
  clear ho1 hb1
  go_wp2_with (at_builtin; refine wpList_append_src _ rfl _ _ 28 rfl w.heap.size 70 (.agg #[.string ⟨#[]⟩, .string ⟨#[]⟩]) 2 32 Tryz.underlying28 infoP rfl (by decide) (by decide) _ p (cellsP (L.take p)) rfl O1.out ia m d (cellsP M) rfl (by rw [cellsP_length, TM.out]) (S3.out.below B1.out) (cellsP_one M) (by omega) B1.out.size ?_)
  intro v2 w2 hown2 hgrow2
  have O2 : Hid (w2.ownsRow w.heap.size 70 2 v2 (p + m) (cellsP (L.take p ++ M))) := by rw [cellsP_append]; exact hown2
  have B2 : Hid (Below w.heap.size w w2) := B1.out.grown hgrow2 B1.out.size (fun k e => (O1.out.lt k e).1)
  clear hown2 hgrow2
  go_wp2_with (at_builtin; refine wpList_append_src _ rfl _ _ 28 rfl w.heap.size 70 (.agg #[.string ⟨#[]⟩, .string ⟨#[]⟩]) 2 32 Tryz.underlying28 infoP rfl (by decide) (by decide) _ (p + m) (cellsP (L.take p ++ M)) rfl O2.out a2 r cr (cellsP (L.drop q)) rfl (by rw [cellsP_length, T1.out]) (S2.out.below B2.out) (cellsP_one _) (by omega) B2.out.size ?_)
  intro v3 w3 hown3 hgrow3
  have O3 : Hid (OwnsP w3 w.heap.size v3 (L.take p ++ M ++ L.drop q)) := by
    show OwnsP w3 w.heap.size v3 (L.take p ++ M ++ L.drop q)
    unfold OwnsP
    rw [cellsP_append, List.length_append, List.length_append, T0.out, T1.out, TM.out]
    exact hown3
  have B3 : Hid (Below w.heap.size w w3) := B2.out.grown hgrow3 B2.out.size (fun k e => (O2.out.lt k e).1)
  clear hown3 hgrow3
  go_wp2_with fail
  go_ret
  exact ⟨_, rfl, O3.out, B3.out⟩
end Go.Proofs.YtmbndpgoihdpnaaGreatDoor
