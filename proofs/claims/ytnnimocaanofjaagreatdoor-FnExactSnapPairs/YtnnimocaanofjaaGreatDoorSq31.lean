/-
  Texts of the store, brought together: Opn, Seq. By an AI agent.
-/
import Derived.Test.YtnnimocaanofjaaGreatDoorSq30
namespace Go.Proofs.YtnnimocaanofjaaGreatDoor
open Go.ChangeShapes Go.WideShapes Go.ChangeAt Go.RowKit Go.Deep
set_option linter.unusedVariables false
set_option linter.unusedSimpArgs false
set_option maxRecDepth 100000
def openM (D : DM) : Int × Option (UM × List Bool) :=
  if ¬ okD D ∨ D.S.length ≠ 52 ∨ 0 < D.C.length then (1, none) else match newTo (D.S.take 2) 2 with
    | none => (8, none)
    | some U => match allF (pagesM (D.S.drop 2)) (rootsU U) st0.R with
      | none => (3, none)
      | some A => (0, some (U, A))
theorem cellsS_takeO (L : List ByteArray) (p : Nat) : (cellsS L).take p = cellsS (L.take p) := by simp [cellsS, List.map_take]
theorem cellsS_dropO (L : List ByteArray) (p : Nat) : (cellsS L).drop p = cellsS (L.drop p) := by simp [cellsS, List.map_drop]
theorem superR_len {B : List Nat} {U : UM} (h : superR B = some U) : U.S.length ≤ 4 := by
  unfold superR at h
  split at h
  · split at h
    · cases h
    · rename_i D _
      split at h
      · rename_i hk
        cases h
        unfold okU at hk
        simp only [Bool.and_eq_true, decide_eq_true_eq] at hk
        exact hk.1.2
      · cases h
  · cases h
theorem newest_one {m n : Option UM} {U : UM} (h : newestM m n = some U) : m = some U ∨ n = some U := by
  cases m with
  | none => exact .inr h
  | some a =>
    cases n with
    | none => exact .inl h
    | some b =>
      rw [newest_two rfl rfl] at h
      split at h
      · exact .inl h
      · exact .inr h
theorem newest_len {S : List ByteArray} {U : UM} (h : newTo S 2 = some U) : U.S.length ≤ 100000 := by
  have h1 : newestM (newestM none (superR (bytesOf (S.getD 0 e0)))) (superR (bytesOf (S.getD 1 e0))) = some U := h
  rcases newest_one h1 with h2 | h2
  · rcases newest_one h2 with h3 | h3
    · cases h3
    · have := superR_len h3; omega
  · have := superR_len h2; omega
theorem read_small (B : List Nat) (h8 : ∀ x ∈ B, x < 256) : smallN (readN B).1 ∧ wtN (readN B).1 ≤ 100 := by
  have h0 : smallN nm0 ∧ wtN nm0 ≤ 100 := ⟨⟨by decide, (fun x hx => by cases hx), fun x hx => by cases hx⟩, by decide⟩
  unfold readN
  split
  · exact h0
  · split
    · exact h0
    · cases h : nodeA (bodyB B) with
      | none => exact h0
      | some D =>
        simp only
        split
        · exact h0
        · rename_i hn
          have hbad : badN D = false := by
            unfold badN
            cases hf : freeB D with
            | true => exact absurd (.inl hf) hn
            | false =>
              cases ho : okB D with
              | false => exact absurd (.inr ho) hn
              | true => rfl
          refine ⟨nodeA_small (fun x hx => h8 x (List.mem_of_mem_take hx)) h, ?_⟩
          have h9 := ok_small hbad
          simp only
          unfold wtN
          omega
theorem pages_small {S : List ByteArray} (h : S.length = 50) (hz : ∀ x ∈ S, x.size ≤ 420) : smallH (pagesM S) := by
  refine ⟨?_, fun D hD => ?_⟩
  · unfold wtH
    have key : ∀ T : List ByteArray, ((pagesM T).map wtN).sum ≤ 100 * T.length := by
      intro T
      induction T with
      | nil => simp [pagesM]
      | cons x T ih =>
        have h1 := (read_small (bytesOf x) (bytesOf_lt x)).2
        have e : ((pagesM (x :: T)).map wtN).sum = wtN (readN (bytesOf x)).1 + ((pagesM T).map wtN).sum := by simp [pagesM]
        rw [e, List.length_cons]
        omega
    have h2 := key S
    have h3 : (pagesM S).length = 50 := by unfold pagesM; rw [List.length_map, h]
    omega
  · unfold pagesM at hD
    rw [List.mem_map] at hD
    obtain ⟨x, _, rfl⟩ := hD
    exact (read_small (bytesOf x) (bytesOf_lt x)).1
def OpenAt (w' : World) (lo B : Nat) (d0 d1 d2 d3 : Value) (D : DM) (U : UM) (A : List Bool) : Prop :=
  ∃ g r sa k sc u, Box w' B ([.int .i64 g, .int .i64 r, .slice sa k sc, d0, d1, d2, d3, u] ++ A.map Value.bool) ∧ OwnsU w' lo B (.agg #[.int .i64 g, .int .i64 r, .slice sa k sc]) U ∧ OwnsHL w' (B + 1) w'.heap.size u 50 (keepH A (pagesM (D.S.drop 2))) ∧ A.length = 50 ∧ lo ≤ B
set_option maxHeartbeats 4000000 in
theorem openedI (a1 a2 a3 : Option Addr) (n1 c1 n2 c2 n3 c3 : Nat) (AA : Bool) (D : DM) (w : World) (hs : smallD D) (hN : D.S.length = n1 ∧ D.C.length = n2 ∧ D.K.length = n3 ∧ D.A = AA) (hc : n1 ≤ c1) (hr : ReadsD w (.agg #[.slice a1 n1 c1, .slice a2 n2 c2, .bool AA, .slice a3 n3 c3]) D) (s1 : Src w a1 (cellsS D.S)) (hH : HasHalf w) :
    Calls Tryz.prog 51 #[.agg #[.slice a1 n1 c1, .slice a2 n2 c2, .bool AA, .slice a3 n3 c3]] w fun e w' => Below w.heap.size w w' ∧ ((∃ q, q ≠ 0 ∧ openM D = (q, none) ∧ e = .returned (.tuple #[.pointer none, .int .i64 q])) ∨ ∃ U A B, openM D = (0, some (U, A)) ∧ e = .returned (.tuple #[.pointer (some ⟨B, 0, none⟩), .int .i64 0]) ∧ OpenAt w' w.heap.size B (.slice a1 n1 c1) (.slice a2 n2 c2) (.bool AA) (.slice a3 n3 c3) D U A) := by
  have HD : Hid (ReadsD w (.agg #[.slice a1 n1 c1, .slice a2 n2 c2, .bool AA, .slice a3 n3 c3]) D) := hr
  have HS : Hid (smallD D) := hs
  have HN : Hid (D.S.length = n1 ∧ D.C.length = n2 ∧ D.K.length = n3 ∧ D.A = AA) := hN
  have S1 : Hid (Src w a1 (cellsS D.S)) := s1
  have HT : Hid (HasHalf w) := hH
  clear hr hs hN s1 hH
  obtain ⟨ok, hok⟩ : ∃ b, decide (okD D) = b := ⟨_, rfl⟩
  have HOK : Hid (decide (okD D) = ok) := hok
  have AB : Hid (∀ o, Below w.heap.size w (w.alloc o)) := fun o => (Below.refl _ _).alloc (Nat.le_refl _) _
  have X0 : Hid (Box (w.alloc (.cells #[.slice a1 n1 c1, .slice a2 n2 c2, .bool AA, .slice a3 n3 c3] 39)) w.heap.size [.slice a1 n1 c1, .slice a2 n2 c2, .bool AA, .slice a3 n3 c3]) := Box.new rfl
  go_enter Tryz.func51, Tryz.ntmps51
  go_wp2_with fail
  refine (implDiskOK _ D _ HS.out (HD.out.below (AB.out _))).mono ?_
  rw [hok]
  clear hok
  rintro e w1 ⟨rfl, hb1⟩
  have B1 : Hid (Below w.heap.size w w1) := Below.new hb1
  have X1 : Hid (Box w1 w.heap.size [.slice a1 n1 c1, .slice a2 n2 c2, .bool AA, .slice a3 n3 c3]) := X0.out.below hb1
  clear hb1 X0 AB
  obtain ⟨p0, _⟩ := X1.out 0 _ rfl
  obtain ⟨p1, _⟩ := X1.out 1 _ rfl
  cases ok with
  | false =>
    have F : Hid (openM D = (1, none)) := by show _ = _; unfold openM; rw [if_pos (.inl (of_decide_eq_false HOK.out))]
    go_wp2_with fail
    exact bodyPost_ret (v := .tuple #[.pointer none, .int .i64 1]) (by simp [results, Tryz.results51, go_sem]) rfl ⟨B1.out, .inl ⟨1, by omega, F.out, rfl⟩⟩
  | true =>
    by_cases hn : n1 = 52
    case neg =>
      have F : Hid (openM D = (1, none)) := by show _ = _; unfold openM; rw [if_pos (.inr (.inl (by rw [HN.out.1]; exact hn)))]
      have e1 : ((n1 : Int) != 52) = true := by simp; omega
      go_wp2_with fail
      exact bodyPost_ret (v := .tuple #[.pointer none, .int .i64 1]) (by simp [results, Tryz.results51, go_sem]) rfl ⟨B1.out, .inl ⟨1, by omega, F.out, rfl⟩⟩
    subst hn
    by_cases hq : 0 < n2
    · have F : Hid (openM D = (1, none)) := by show _ = _; unfold openM; rw [if_pos (.inr (.inr (by rw [HN.out.2.1]; exact hq)))]
      have e2 : (0 : Int) < (n2 : Int) := by omega
      go_wp2_with fail
      exact bodyPost_ret (v := .tuple #[.pointer none, .int .i64 1]) (by simp [results, Tryz.results51, go_sem]) rfl ⟨B1.out, .inl ⟨1, by omega, F.out, rfl⟩⟩
    have e2 : ¬ (0 : Int) < (n2 : Int) := by omega
    have OKD : Hid (okD D) := by show okD D; exact of_decide_eq_true HOK.out
    have OM : Hid (openM D = match newTo (D.S.take 2) 2 with
        | none => (8, none)
        | some U => match allF (pagesM (D.S.drop 2)) (rootsU U) st0.R with
          | none => (3, none)
          | some A => (0, some (U, A))) := by
      show _ = _
      unfold openM
      rw [if_neg (by rw [HN.out.1, HN.out.2.1]; intro h9; rcases h9 with h9 | h9 | h9 <;> first | exact h9 OKD.out | omega)]
    have cut1 := cut_h (P := Tryz.prog) (e := 9) Tryz.underlying22 (fun w => Tryz.sizeOf9 w) a1 52 c1 2 (by omega)
    obtain ⟨ca, hca⟩ : ∃ ca, cutP a1 c1 2 1 = ca := ⟨_, rfl⟩
    have cut2 : ∀ W, (Instr.slice 22 (.slice a1 52 c1) (some (.int .i64 2)) none none).run Tryz.prog W = .ok (.slice ca 50 (c1 - 2)) W := fun W => by
      rw [← hca]
      exact cut_l (P := Tryz.prog) (e := 9) Tryz.underlying22 (fun w => Tryz.sizeOf9 w) a1 52 c1 2 (by omega) W
    have SA : Hid (Src w a1 (cellsS (D.S.take 2))) := by have h9 := S1.out.head 2; rw [cellsS_takeO] at h9; exact h9
    have SB : Hid (Src w ca (cellsS (D.S.drop 2))) := by rw [← hca]; have h9 := S1.out.tail (n := 52) (c := c1) (q := 2) (s := 1) (by rw [cellsS_length, HN.out.1]) (by omega) hc; rw [cellsS_dropO] at h9; exact h9
    clear hca
    have ZS : Hid (∀ x ∈ D.S, x.size ≤ 420) := OKD.out.1.2.2
    go_wp2_with fail
    refine (implNewest a1 2 c1 (D.S.take 2) _ (by rw [List.length_take, HN.out.1]; rfl) (by omega) (fun x hx => ZS.out x (List.mem_of_mem_take hx)) (SA.out.below B1.out) (HT.out.below B1.out)).mono ?_
    rintro e w2 ⟨g, r, sa, k, sc, x, rfl, ⟨b, rfl, hrl⟩, hb2⟩
    have B2 : Hid (Below w.heap.size w w2) := B1.out.trans (hb2.mono B1.out.size)
    have X2 : Hid (Box w2 w.heap.size [.slice a1 52 c1, .slice a2 n2 c2, .bool AA, .slice a3 n3 c3]) := X1.out.below hb2
    have Z2 : Hid (w.heap.size + 1 ≤ w1.heap.size) := World.block_lt_of_cell? _ _ (X1.out 0 _ rfl).1
    have RL : Hid (ReadL w2 (w1.heap.size + 1) (newTo (D.S.take 2) 2) g r sa k sc b) := hrl
    clear hrl hb2 X1 p0 p1
    cases b with
    | false =>
      have F : Hid (openM D = (8, none)) := by
        show _ = _
        rw [OM.out]
        rcases RL.out with ⟨_, h9⟩ | ⟨h9, _⟩
        · rw [h9]
        · cases h9
      have B3 : Hid (Below w.heap.size w (w2.alloc (.cells #[.int .i64 g, .int .i64 r, .slice sa k sc] 42))) := B2.out.alloc B2.out.size _
      go_wp2_with fail
      exact bodyPost_ret (v := .tuple #[.pointer none, .int .i64 8]) (by simp [results, Tryz.results51, go_sem]) rfl ⟨B3.out, .inl ⟨8, by omega, F.out, rfl⟩⟩
    | true =>
      obtain ⟨U, hU⟩ : ∃ U, newTo (D.S.take 2) 2 = some U ∧ U.G = g ∧ OwnsU w2 (w1.heap.size + 1) w2.heap.size (.agg #[.int .i64 g, .int .i64 r, .slice sa k sc]) U := by
        rcases RL.out with ⟨h9, _⟩ | ⟨_, U, h1, h2, h3⟩
        · cases h9
        · exact ⟨U, h1, h2, h3⟩
      have UU : Hid (newTo (D.S.take 2) 2 = some U ∧ OwnsU w2 (w1.heap.size + 1) w2.heap.size (.agg #[.int .i64 g, .int .i64 r, .slice sa k sc]) U) := ⟨hU.1, hU.2.2⟩
      clear hU RL
      obtain ⟨t0, _⟩ := (X2.out.old (.cells #[.int .i64 g, .int .i64 r, .slice sa k sc] 42)) 0 _ rfl
      obtain ⟨t1, _⟩ := (X2.out.old (.cells #[.int .i64 g, .int .i64 r, .slice sa k sc] 42)) 1 _ rfl
      obtain ⟨t2, _⟩ := (X2.out.old (.cells #[.int .i64 g, .int .i64 r, .slice sa k sc] 42)) 2 _ rfl
      obtain ⟨t3, _⟩ := (X2.out.old (.cells #[.int .i64 g, .int .i64 r, .slice sa k sc] 42)) 3 _ rfl
      have tq : ∀ o, ((w2.alloc (.cells #[.int .i64 g, .int .i64 r, .slice sa k sc] 42)).alloc o).cell? ⟨w.heap.size, 0, none⟩ = some (.slice a1 52 c1) := fun o => (((X2.out.old _).old o) 0 _ rfl).1
      have A3 : Hid (∀ o W, (w2.alloc (.cells #[.int .i64 g, .int .i64 r, .slice sa k sc] 42)).alloc o = W → Below w.heap.size w W ∧ OwnsU W (w1.heap.size + 1) w2.heap.size (.agg #[.int .i64 g, .int .i64 r, .slice sa k sc]) U ∧ W.heap.size = w2.heap.size + 2) := fun o W e => by
        subst e
        exact ⟨(B2.out.alloc B2.out.size _).alloc (by have := B2.out.size; simp; omega) _, (UU.out.2.below ((Below.refl _ _).alloc (Nat.le_refl _) _)).below ((Below.refl _ _).alloc (Nat.le_refl _) _), by simp⟩
      have VV : Hid (∀ L W, (w2.alloc (.cells #[.int .i64 g, .int .i64 r, .slice sa k sc] 42)).alloc (.cells L 106) = W → Box W (w2.heap.size + 1) L.toList) := fun L W e => by
        subst e
        exact Box.new (by simp)
      go_wp2_with fail
      generalize hw3 : World.alloc (World.alloc w2 (.cells #[.int .i64 g, .int .i64 r, .slice sa k sc] 42)) _ = w3
      obtain ⟨b3, u3, z3⟩ := A3.out _ _ hw3
      have V3 : Hid (Box w3 (w2.heap.size + 1) ([.int .i64 g, .int .i64 r, .slice sa k sc, .slice a1 52 c1, .slice a2 n2 c2, .bool AA, .slice a3 n3 c3, .slice none 0 0] ++ st0.R.map Value.bool)) := VV.out _ _ hw3
      clear hw3
      have B3 : Hid (Below w.heap.size w w3) := b3
      have U3 : Hid (OwnsU w3 (w1.heap.size + 1) w2.heap.size (.agg #[.int .i64 g, .int .i64 r, .slice sa k sc]) U) := u3
      have Z3 : Hid (w3.heap.size = w2.heap.size + 2) := z3
      clear b3 u3 z3 A3 VV
      refine (readPagesI ca (c1 - 2) (D.S.drop 2) w3 (by rw [List.length_drop, HN.out.1]) (fun x hx => ZS.out x (List.mem_of_mem_drop hx)) (SB.out.below B3.out) (HT.out.below B3.out)).mono ?_
      rintro e w4 ⟨v4, rfl, own4, hb4⟩
      have B4 : Hid (Below w.heap.size w w4) := B3.out.trans (hb4.mono B3.out.size)
      have V4 : Hid (Box w4 (w2.heap.size + 1) ([.int .i64 g, .int .i64 r, .slice sa k sc, .slice a1 52 c1, .slice a2 n2 c2, .bool AA, .slice a3 n3 c3, .slice none 0 0] ++ st0.R.map Value.bool)) := V3.out.below hb4
      have U4 : Hid (OwnsU w4 (w1.heap.size + 1) w2.heap.size (.agg #[.int .i64 g, .int .i64 r, .slice sa k sc]) U) := U3.out.below hb4
      have O4 : Hid (OwnsH w4 (w2.heap.size + 2) w4.heap.size v4 (pagesM (D.S.drop 2))) := by have h9 := own4; rw [Z3.out] at h9; exact h9
      have LP : Hid ((pagesM (D.S.drop 2)).length = 50) := by show _ = _; unfold pagesM; rw [List.length_map, List.length_drop, HN.out.1]
      obtain ⟨a4, d4, hv4, _⟩ : ∃ a4 d4, v4 = .agg #[.slice a4 50 d4] ∧ True := by
        obtain ⟨u, rfl, ho⟩ := O4.out
        obtain ⟨a4, d4, rfl, _⟩ := ho.lit
        exact ⟨a4, d4, by rw [LP.out], trivial⟩
      subst hv4
      have Z4 : Hid (w2.heap.size + 2 ≤ w4.heap.size) := by have h9 := hb4.size; rw [Z3.out] at h9; exact h9
      have Z1 : Hid (w.heap.size + 1 ≤ w1.heap.size + 1) := by have := Z2.out; show _ ≤ _; omega
      clear own4 hb4 B3 V3 U3 t0 t1 t2 t3 tq cut1 cut2 Z3
      go_wp2_with fail
      refine (holdI (w2.heap.size + 1) g r sa k sc (.slice a1 52 c1) (.slice a2 n2 c2) (.bool AA) (.slice a3 n3 c3) U _ (pagesM (D.S.drop 2)) _ (newest_len UU.out.1) LP.out (pages_small (by rw [List.length_drop, HN.out.1]) (fun x hx => ZS.out x (List.mem_of_mem_drop hx))) V4.out U4.out.reads (w2.heap.size + 2) w4.heap.size (by omega) O4.out).mono ?_
      rintro e w5 ⟨T5, hcase⟩
      have TT : Hid (Turned (w2.heap.size + 1) (w2.heap.size + 1 + 1) w4 w5) := T5
      have B5 : Hid (Below w.heap.size w w5) := Below.turned B4.out T5 (by have h8 : w.heap.size ≤ w2.heap.size := B2.out.size; omega) (by have h8 : w.heap.size ≤ w2.heap.size := B2.out.size; omega)
      clear T5
      rcases hcase with ⟨hno, rfl⟩ | ⟨A, u, hyes, hA, rfl, hbox, hheap⟩
      · have F : Hid (openM D = (3, none)) := by show _ = _; rw [OM.out, UU.out.1]; simp only; rw [hno]
        clear hno
        go_wp2_with fail
        exact bodyPost_ret (v := .tuple #[.pointer none, .int .i64 3]) (by simp [results, Tryz.results51, go_sem]) rfl ⟨B5.out, .inl ⟨3, by omega, F.out, rfl⟩⟩
      · have F : Hid (openM D = (0, some (U, A))) := by show _ = _; rw [OM.out, UU.out.1]; simp only; rw [hyes]
        have OA : Hid (OpenAt w5 w.heap.size (w2.heap.size + 1) (.slice a1 52 c1) (.slice a2 n2 c2) (.bool AA) (.slice a3 n3 c3) D U A) := ⟨g, r, sa, k, sc, u, hbox, (U4.out.turned TT.out (.inl (by omega))).mono (by have := Z2.out; omega) (by omega), hheap.mono (by have := Z4.out; omega) (Nat.le_refl _), hA, by have h8 : w.heap.size ≤ w2.heap.size := B2.out.size; omega⟩
        clear hyes hbox hheap hA
        go_wp2_with fail
        exact bodyPost_ret (v := .tuple #[.pointer (some ⟨w2.heap.size + 1, 0, none⟩), .int .i64 0]) (by simp [results, Tryz.results51, go_sem]) rfl ⟨B5.out, .inr ⟨U, A, w2.heap.size + 1, F.out, rfl, OA.out⟩⟩
theorem toList_injE {x y : ByteArray} (h : x.toList = y.toList) : x = y := ByteArray.ext (Array.ext' (by simpa [ByteArray.toList_eq] using h))
theorem take_more {α : Type} {L M : List α} {d : α} {k : Nat} (hL : k < L.length) (hM : k < M.length) (h : L.take k = M.take k) (e : L.getD k d = M.getD k d) : L.take (k + 1) = M.take (k + 1) := by
  rw [List.take_add_one, List.take_add_one, h, List.getElem?_eq_getElem hL, List.getElem?_eq_getElem hM]
  rw [List.getD_eq_getElem?_getD, List.getD_eq_getElem?_getD, List.getElem?_eq_getElem hL, List.getElem?_eq_getElem hM] at e
  have e2 : L[k] = M[k] := by simpa using e
  rw [e2]
set_option maxHeartbeats 1000000 in
theorem eqLI (b : Bool) (a a' : Option Addr) (n m c c' : Nat) (L M : List Int) (w : World) (hL : L.length = n) (hM : M.length = m) (hn : n ≤ 1048576) (hm : m ≤ 1048576) (h : Src w a (cellsI L)) (h' : Src w a' (cellsI M)) (hb : decide (L = M) = b) :
    Calls Tryz.prog 129 #[.slice a n c, .slice a' m c'] w fun e w' => e = .returned (.bool b) ∧ Below w.heap.size w w' := by
  have HS : Hid (Src w a (cellsI L) ∧ Src w a' (cellsI M)) := ⟨h, h'⟩
  have HL : Hid (L.length = n ∧ M.length = m) := ⟨hL, hM⟩
  have HB : Hid (decide (L = M) = b) := hb
  clear h h' hL hM hb
  by_cases hnm : n = m
  case neg =>
    have e1 : ((n : Int) != (m : Int)) = true := by simp; omega
    have hb : b = false := by rw [← HB.out]; exact decide_eq_false (fun e => hnm (by rw [← HL.out.1, ← HL.out.2, e]))
    subst hb
    go_enter Tryz.func129, Tryz.ntmps129
    go_wp2_with fail
    go_ret
    exact ⟨rfl, Below.refl _ _⟩
  subst hnm
  have e1 : ((n : Int) != (n : Int)) = false := by simp
  go_enter Tryz.func129, Tryz.ntmps129
  go_wp2_with fail
  go_loopw [13] (fun i wr => ∃ k : Nat, k ≤ n ∧ i = .int .i64 k ∧ Hid (Below w.heap.size w wr) ∧ Hid (L.take k = M.take k)) (fun i _ => n - (intOf i).toNat)
  case atStart => exact ⟨0, by omega, rfl, Below.refl _ _, rfl⟩
  case round =>
    obtain ⟨k, hk, rfl, hB, hT⟩ := hrel
    by_cases hlt : k < n
    · obtain ⟨b1, o1, x, rfl, p, hx⟩ := srcI (HS.out.1.below hB.out) (i := k) (by rw [HL.out.1]; exact hlt)
      obtain ⟨b2, o2, y, rfl, q, hy⟩ := srcI (HS.out.2.below hB.out) (i := k) (by rw [HL.out.2]; exact hlt)
      have hk0 : (0 : Int) ≤ (k : Int) := by omega
      have hki : (k : Int) < (n : Int) := by omega
      by_cases he : x = y
      · have T2 : Hid (L.take (k + 1) = M.take (k + 1)) := take_more (d := (0 : Int)) (by rw [HL.out.1]; exact hlt) (by rw [HL.out.2]; exact hlt) hT.out (by rw [hx.out, hy.out]; exact he)
        subst he
        have hyy : (x != x) = false := by simp
        go_wp2_with fail
        go_quiet (fail)
        go_wp2_with fail
        exact ⟨⟨k + 1, by omega, by go_num, Below.drewN' hB.out _, T2.out⟩, by simp [intOf]; omega⟩
      · have hb : b = false := by
          rw [← HB.out]
          exact decide_eq_false (fun e => he (by rw [← hx.out, ← hy.out, e]))
        subst hb
        clear hT
        have hne : (x != y) = true := by simpa using he
        go_wp2_with fail
        go_quiet (fail)
        go_wp2_with fail
        go_ret
        exact ⟨rfl, Below.drewN' hB.out _⟩
    · have hb : b = true := by
        rw [← HB.out]
        have h9 := hT.out
        rw [List.take_of_length_le (by rw [HL.out.1]; omega), List.take_of_length_le (by rw [HL.out.2]; omega)] at h9
        exact decide_eq_true h9
      subst hb
      go_wp2_with fail
      go_ret
      exact ⟨rfl, hB.out⟩
set_option maxHeartbeats 1000000 in
theorem eqLS (b : Bool) (a a' : Option Addr) (n m c c' : Nat) (L M : List ByteArray) (w : World) (hL : L.length = n) (hM : M.length = m) (hn : n ≤ 1048576) (hm : m ≤ 1048576) (h : Src w a (cellsS L)) (h' : Src w a' (cellsS M)) (hb : decide (L = M) = b) :
    Calls Tryz.prog 128 #[.slice a n c, .slice a' m c'] w fun e w' => e = .returned (.bool b) ∧ Below w.heap.size w w' := by
  have HS : Hid (Src w a (cellsS L) ∧ Src w a' (cellsS M)) := ⟨h, h'⟩
  have HL : Hid (L.length = n ∧ M.length = m) := ⟨hL, hM⟩
  have HB : Hid (decide (L = M) = b) := hb
  clear h h' hL hM hb
  by_cases hnm : n = m
  case neg =>
    have e1 : ((n : Int) != (m : Int)) = true := by simp; omega
    have hb : b = false := by rw [← HB.out]; exact decide_eq_false (fun e => hnm (by rw [← HL.out.1, ← HL.out.2, e]))
    subst hb
    go_enter Tryz.func128, Tryz.ntmps128
    go_wp2_with fail
    go_ret
    exact ⟨rfl, Below.refl _ _⟩
  subst hnm
  have e1 : ((n : Int) != (n : Int)) = false := by simp
  go_enter Tryz.func128, Tryz.ntmps128
  go_wp2_with fail
  go_loopw [13] (fun i wr => ∃ k : Nat, k ≤ n ∧ i = .int .i64 k ∧ Hid (Below w.heap.size w wr) ∧ Hid (L.take k = M.take k)) (fun i _ => n - (intOf i).toNat)
  case atStart => exact ⟨0, by omega, rfl, Below.refl _ _, rfl⟩
  case round =>
    obtain ⟨k, hk, rfl, hB, hT⟩ := hrel
    by_cases hlt : k < n
    · obtain ⟨b1, o1, x, rfl, p, hx⟩ := srcS (HS.out.1.below hB.out) (i := k) (by rw [HL.out.1]; exact hlt)
      obtain ⟨b2, o2, y, rfl, q, hy⟩ := srcS (HS.out.2.below hB.out) (i := k) (by rw [HL.out.2]; exact hlt)
      have hk0 : (0 : Int) ≤ (k : Int) := by omega
      have hki : (k : Int) < (n : Int) := by omega
      by_cases he : x = y
      · have T2 : Hid (L.take (k + 1) = M.take (k + 1)) := take_more (d := e0) (by rw [HL.out.1]; exact hlt) (by rw [HL.out.2]; exact hlt) hT.out (by rw [hx.out, hy.out]; exact he)
        subst he
        go_wp2_with fail
        go_quiet (fail)
        go_wp2_with fail
        exact ⟨⟨k + 1, by omega, by go_num, Below.drewN' hB.out _, T2.out⟩, by simp [intOf]; omega⟩
      · have hb : b = false := by
          rw [← HB.out]
          exact decide_eq_false (fun e => he (by rw [← hx.out, ← hy.out, e]))
        subst hb
        clear hT
        have hne : (x.toList == y.toList) = false := by
          rw [beq_eq_false_iff_ne]
          intro e9
          exact he (ByteArray.ext (Array.ext' (by simpa [ByteArray.toList_eq] using e9)))
        go_wp2_with fail
        go_quiet (fail)
        go_wp2_with fail
        go_ret
        exact ⟨rfl, Below.drewN' hB.out _⟩
    · have hb : b = true := by
        rw [← HB.out]
        have h9 := hT.out
        rw [List.take_of_length_le (by rw [HL.out.1]; omega), List.take_of_length_le (by rw [HL.out.2]; omega)] at h9
        exact decide_eq_true h9
      subst hb
      go_wp2_with fail
      go_ret
      exact ⟨rfl, hB.out⟩
set_option maxHeartbeats 1000000 in
theorem eqLP (b : Bool) (a a' : Option Addr) (n m c c' : Nat) (L M : List PM) (w : World) (hL : L.length = n) (hM : M.length = m) (hn : n ≤ 1048576) (hm : m ≤ 1048576) (h : Src w a (cellsP L)) (h' : Src w a' (cellsP M)) (hb : decide (L = M) = b) :
    Calls Tryz.prog 127 #[.slice a n c, .slice a' m c'] w fun e w' => e = .returned (.bool b) ∧ Below w.heap.size w w' := by
  have HS : Hid (Src w a (cellsP L) ∧ Src w a' (cellsP M)) := ⟨h, h'⟩
  have HL : Hid (L.length = n ∧ M.length = m) := ⟨hL, hM⟩
  have HB : Hid (decide (L = M) = b) := hb
  clear h h' hL hM hb
  by_cases hnm : n = m
  case neg =>
    have e1 : ((n : Int) != (m : Int)) = true := by simp; omega
    have hb : b = false := by rw [← HB.out]; exact decide_eq_false (fun e => hnm (by rw [← HL.out.1, ← HL.out.2, e]))
    subst hb
    go_enter Tryz.func127, Tryz.ntmps127
    go_wp2_with fail
    go_ret
    exact ⟨rfl, Below.refl _ _⟩
  subst hnm
  have e1 : ((n : Int) != (n : Int)) = false := by simp
  go_enter Tryz.func127, Tryz.ntmps127
  go_wp2_with fail
  go_loopw [13] (fun i wr => ∃ k : Nat, k ≤ n ∧ i = .int .i64 k ∧ Hid (Below w.heap.size w wr) ∧ Hid (L.take k = M.take k)) (fun i _ => n - (intOf i).toNat)
  case atStart => exact ⟨0, by omega, rfl, Below.refl _ _, rfl⟩
  case round =>
    obtain ⟨k, hk, rfl, hB, hT⟩ := hrel
    by_cases hlt : k < n
    · obtain ⟨b1, o1, x0, x1, rfl, pp0, pp1, hx⟩ := srcP (HS.out.1.below hB.out) (i := k) (by rw [HL.out.1]; exact hlt)
      obtain ⟨b2, o2, y0, y1, rfl, qq0, qq1, hy⟩ := srcP (HS.out.2.below hB.out) (i := k) (by rw [HL.out.2]; exact hlt)
      have hk0 : (0 : Int) ≤ (k : Int) := by omega
      have hki : (k : Int) < (n : Int) := by omega
      by_cases he : (x0, x1) = (y0, y1)
      · have T2 : Hid (L.take (k + 1) = M.take (k + 1)) := take_more (d := p0) (by rw [HL.out.1]; exact hlt) (by rw [HL.out.2]; exact hlt) hT.out (by rw [hx.out, hy.out]; exact he)
        simp only [Prod.mk.injEq] at he
        obtain ⟨rfl, rfl⟩ := he
        go_wp2_with fail
        go_quiet (fail)
        go_wp2_with fail
        exact ⟨⟨k + 1, by omega, by go_num, Below.drewN' hB.out _, T2.out⟩, by simp [intOf]; omega⟩
      · have hb : b = false := by
          rw [← HB.out]
          exact decide_eq_false (fun e => he (by rw [← hx.out, ← hy.out, e]))
        subst hb
        clear hT
        by_cases hk9 : x0 = y0
        · subst hk9
          have hv9 : x1 ≠ y1 := fun e => he (by rw [e])
          have hnex1 : (x1.toList == y1.toList) = false := by
            rw [beq_eq_false_iff_ne]
            intro e9
            exact hv9 (toList_injE e9)
          go_wp2_with fail
          go_quiet (fail)
          go_wp2_with fail
          go_ret
          exact ⟨rfl, Below.drewN' hB.out _⟩
        · skip
          have hnex0 : (x0.toList == y0.toList) = false := by
            rw [beq_eq_false_iff_ne]
            intro e9
            exact hk9 (toList_injE e9)
          go_wp2_with fail
          go_quiet (fail)
          go_wp2_with fail
          go_ret
          exact ⟨rfl, Below.drewN' hB.out _⟩
    · have hb : b = true := by
        rw [← HB.out]
        have h9 := hT.out
        rw [List.take_of_length_le (by rw [HL.out.1]; omega), List.take_of_length_le (by rw [HL.out.2]; omega)] at h9
        exact decide_eq_true h9
      subst hb
      go_wp2_with fail
      go_ret
      exact ⟨rfl, hB.out⟩
set_option maxHeartbeats 1000000 in
theorem eqLSn (b : Bool) (a a' : Option Addr) (n m c c' : Nat) (L M : List SN) (w : World) (hL : L.length = n) (hM : M.length = m) (hn : n ≤ 1048576) (hm : m ≤ 1048576) (h : Src w a (cellsSn L)) (h' : Src w a' (cellsSn M)) (hb : decide (L = M) = b) :
    Calls Tryz.prog 90 #[.slice a n c, .slice a' m c'] w fun e w' => e = .returned (.bool b) ∧ Below w.heap.size w w' := by
  have HS : Hid (Src w a (cellsSn L) ∧ Src w a' (cellsSn M)) := ⟨h, h'⟩
  have HL : Hid (L.length = n ∧ M.length = m) := ⟨hL, hM⟩
  have HB : Hid (decide (L = M) = b) := hb
  clear h h' hL hM hb
  by_cases hnm : n = m
  case neg =>
    have e1 : ((n : Int) != (m : Int)) = true := by simp; omega
    have hb : b = false := by rw [← HB.out]; exact decide_eq_false (fun e => hnm (by rw [← HL.out.1, ← HL.out.2, e]))
    subst hb
    go_enter Tryz.func90, Tryz.ntmps90
    go_wp2_with fail
    go_ret
    exact ⟨rfl, Below.refl _ _⟩
  subst hnm
  have e1 : ((n : Int) != (n : Int)) = false := by simp
  go_enter Tryz.func90, Tryz.ntmps90
  go_wp2_with fail
  go_loopw [13] (fun i wr => ∃ k : Nat, k ≤ n ∧ i = .int .i64 k ∧ Hid (Below w.heap.size w wr) ∧ Hid (L.take k = M.take k)) (fun i _ => n - (intOf i).toNat)
  case atStart => exact ⟨0, by omega, rfl, Below.refl _ _, rfl⟩
  case round =>
    obtain ⟨k, hk, rfl, hB, hT⟩ := hrel
    by_cases hlt : k < n
    · obtain ⟨b1, o1, x0, x1, x2, rfl, pp0, pp1, pp2, hx⟩ := srcSn (HS.out.1.below hB.out) (i := k) (by rw [HL.out.1]; exact hlt)
      obtain ⟨b2, o2, y0, y1, y2, rfl, qq0, qq1, qq2, hy⟩ := srcSn (HS.out.2.below hB.out) (i := k) (by rw [HL.out.2]; exact hlt)
      have hk0 : (0 : Int) ≤ (k : Int) := by omega
      have hki : (k : Int) < (n : Int) := by omega
      by_cases he : (x0, x1, x2) = (y0, y1, y2)
      · have T2 : Hid (L.take (k + 1) = M.take (k + 1)) := take_more (d := sn0) (by rw [HL.out.1]; exact hlt) (by rw [HL.out.2]; exact hlt) hT.out (by rw [hx.out, hy.out]; exact he)
        simp only [Prod.mk.injEq] at he
        obtain ⟨rfl, rfl, rfl⟩ := he
        go_wp2_with fail
        go_quiet (fail)
        go_wp2_with fail
        exact ⟨⟨k + 1, by omega, by go_num, Below.drewN' hB.out _, T2.out⟩, by simp [intOf]; omega⟩
      · have hb : b = false := by
          rw [← HB.out]
          exact decide_eq_false (fun e => he (by rw [← hx.out, ← hy.out, e]))
        subst hb
        clear hT
        by_cases hk9 : x0 = y0
        · subst hk9
          by_cases hv9 : x1 = y1
          · subst hv9
            have hz9 : x2 ≠ y2 := fun e => he (by rw [e])
            have hzb : (x2 == y2) = false := by simpa using hz9
            go_wp2_with fail
            go_quiet (fail)
            go_wp2_with fail
            go_ret
            exact ⟨rfl, Below.drewN' hB.out _⟩
          · have hvb : (x1 == y1) = false := by simpa using hv9
            go_wp2_with fail
            go_quiet (fail)
            go_wp2_with fail
            go_ret
            exact ⟨rfl, Below.drewN' hB.out _⟩
        · skip
          have hnex0 : (x0.toList == y0.toList) = false := by
            rw [beq_eq_false_iff_ne]
            intro e9
            exact hk9 (toList_injE e9)
          go_wp2_with fail
          go_quiet (fail)
          go_wp2_with fail
          go_ret
          exact ⟨rfl, Below.drewN' hB.out _⟩
    · have hb : b = true := by
        rw [← HB.out]
        have h9 := hT.out
        rw [List.take_of_length_le (by rw [HL.out.1]; omega), List.take_of_length_le (by rw [HL.out.2]; omega)] at h9
        exact decide_eq_true h9
      subst hb
      go_wp2_with fail
      go_ret
      exact ⟨rfl, hB.out⟩
end Go.Proofs.YtnnimocaanofjaaGreatDoor
