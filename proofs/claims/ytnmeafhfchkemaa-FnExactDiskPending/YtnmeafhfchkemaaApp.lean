/-
  Appending what a slice, nil or not, leads to; copies of lists. By an AI agent.
-/
import Derived.Test.YtnmeafhfchkemaaDisks
namespace Go.Proofs.Ytnmeafhfchkemaa
open Go.ChangeShapes Go.WideShapes Go.ChangeAt Go.RowKit Go.Deep
set_option linter.unusedVariables false

theorem run_append_src {P : Program} (w : World) (base : Nat) (t ty e : TypeId) (z : Value) (size bytes : Nat) (ht : P.underlying t = some (.slice e)) (hinfo : (P.info? e).map (fun i => (i.zero, i.size, i.bytes)) = some (some z, size, bytes))
    (hzs : z.cells.size = size) (hsz : 0 < size) (hby : bytes ≤ 64) (v : Value) (n : Nat) (xs : List Value) (hown : w.ownsRow base e size v n xs)
    (ad : Option Addr) (m c : Nat) (news : List Value) (hl : news.length = m * size) (hsrc : Src w ad news) (h1 : ∀ u ∈ news, u.oneCell' = true) (hn : n + m ≤ 4194304) (hbase : base ≤ w.heap.size) :
    ∃ v' w', (Builtin.append_ #[t, t] ty #[v, .slice ad m c]).run P w = .ok v' w' ∧ w'.ownsRow base e size v' (n + m) (xs ++ news) ∧ w.grownBy w' v.ownBlock := by
  obtain ⟨i, hi, hzz⟩ := Option.map_eq_some_iff.1 hinfo
  simp only [Prod.mk.injEq] at hzz
  obtain ⟨hz, hsize, hbyt⟩ := hzz
  have hbb : (n + m) * bytes ≤ 4194304 * 64 := Nat.mul_le_mul hn hby
  cases ad with
  | some ad =>
    have hnews : ∀ j u, news[j]? = some u → w.cell? (ad.add j) = some u := by
      rcases hsrc with h0 | ⟨b, o, e2, hc⟩
      · intro j u hu; rw [h0] at hu; cases hu
      · cases e2
        exact Src.news (.inr ⟨b, o, rfl, hc⟩)
    obtain ⟨v', w', hr, ho, hg, _⟩ := run_append_own (P := P) w base t ty e i z size bytes ht hi hz hsize hbyt hzs hsz v n xs hown ad m c news hl hnews h1 (by unfold maxLen; omega) (by omega) hbase
    exact ⟨v', w', hr, ho, hg⟩
  | none =>
    have h0 : news = [] := by
      rcases hsrc with h0 | ⟨b, o, e2, hc⟩
      · exact h0
      · cases e2
    subst h0
    have hm : m = 0 := by
      rcases Nat.eq_zero_or_pos m with h | h
      · exact h
      · have := Nat.mul_pos h hsz
        simp at hl
        omega
    subst hm
    refine ⟨v, w, ?_, by simpa using hown, gb_refl _ _⟩
    obtain ⟨hl2, ⟨rfl, hn0⟩ | ⟨g, cap, cur, rfl, hb, hg, hc1, hc2, hs, htk⟩⟩ := hown
    · simp [Builtin.append_, run_underlying ht, sizeOf, typeInfo, hi, Builtin.lenOf, Builtin.firstCells]
    · simp [Builtin.append_, run_underlying ht, sizeOf, typeInfo, hi, Builtin.lenOf, Builtin.firstCells, hc1, storeCells]

theorem wpList_append_src {P : Program} (w : World) {ops : Array Oper} {rest : List Oper} {o : Oper} {a : Act} {Q : Exit → Act → World → Prop} (hgd : o.guard = none) (s x : Operand) (t : TypeId)
    (ho : o.op = .call { callee := .builtin .append, args := #[s, x], argTypes := #[t, t] })
    (base : Nat) (e : TypeId) (z : Value) (size bytes : Nat) (ht : P.underlying t = some (.slice e)) (hinfo : (P.info? e).map (fun i => (i.zero, i.size, i.bytes)) = some (some z, size, bytes))
    (hzs : z.cells.size = size) (hsz : 0 < size) (hby : bytes ≤ 64) (v : Value) (n : Nat) (xs : List Value) (hs : a.eval s = v) (hown : w.ownsRow base e size v n xs)
    (ad : Option Addr) (m c : Nat) (news : List Value) (hx : a.eval x = .slice ad m c) (hl : news.length = m * size) (hsrc : Src w ad news) (h1 : ∀ u ∈ news, u.oneCell' = true) (hn : n + m ≤ 4194304) (hbase : base ≤ w.heap.size)
    (h : ∀ v' w', w'.ownsRow base e size v' (n + m) (xs ++ news) → w.grownBy w' v.ownBlock → wpList P ops Q rest (a.put o.dst v') w') : wpList P ops Q (o :: rest) a w :=
  wpList_plain hgd fun _ hK => by
    obtain ⟨v', w', hr, h2, h3⟩ := run_append_src (P := P) w base t o.type e z size bytes ht hinfo hzs hsz hby v n xs hown ad m c news hl hsrc h1 hn hbase
    unfold Oper.wp execOp
    simp only [ho, resolve, invoke, builtin, Sem.run_bind, Sem.run_pure, Result.andThen_ok, List.map_toArray, List.map_cons, List.map_nil, hs, hx, hr]
    exact hK _ _ (h v' w' h2 h3)

set_option maxHeartbeats 400000 in
theorem copyS (a : Option Addr) (n c : Nat) (L : List ByteArray) (w : World) (hL : L.length = n) (hn : n ≤ 1048576) (h : Src w a (cellsS L)) :
    Calls Try.prog 131 #[.slice a n c] w fun e w' => ∃ v, e = .returned v ∧ w'.ownsRow w.heap.size 9 1 v n (cellsS L) ∧ Below w.heap.size w w' := by
  have HH : Hid (Src w a (cellsS L)) := h
  have HL : Hid ((cellsS L).length = n * 1) := by show _ = _; rw [cellsS_length]; omega
  clear h hL
  go_enter Try.func131, Try.ntmps131
  go_wp2_with (at_builtin; refine wpList_append_src _ rfl _ _ 23 rfl w.heap.size 9 (.string ⟨#[]⟩) 1 16 Try.underlying23 infoS rfl (by decide) (by decide) _ 0 [] rfl (World.ownsRow_nil _ _ _ _) a n c (cellsS L) rfl HL.out HH.out (cellsS_one L) (by omega) (Nat.le_refl _) ?_)
  intro v' w1 hown hgrow
  have HO : Hid (w1.ownsRow w.heap.size 9 1 v' n (cellsS L)) := by simpa [Hid] using hown
  have HB : Hid (Below w.heap.size w w1) := (Below.refl _ _).grown hgrow (Nat.le_refl _) (fun k e => by cases e)
  clear hown hgrow
  go_wp2_with fail
  go_ret
  exact ⟨_, rfl, HO.out, HB.out⟩

set_option maxHeartbeats 400000 in
theorem copyI (a : Option Addr) (n c : Nat) (L : List Int) (w : World) (hL : L.length = n) (hn : n ≤ 1048576) (h : Src w a (cellsI L)) :
    Calls Try.prog 101 #[.slice a n c] w fun e w' => ∃ v, e = .returned v ∧ w'.ownsRow w.heap.size 3 1 v n (cellsI L) ∧ Below w.heap.size w w' := by
  have HH : Hid (Src w a (cellsI L)) := h
  have HL : Hid ((cellsI L).length = n * 1) := by show _ = _; rw [cellsI_length]; omega
  clear h hL
  go_enter Try.func101, Try.ntmps101
  go_wp2_with (at_builtin; refine wpList_append_src _ rfl _ _ 44 rfl w.heap.size 3 (.int .i64 0) 1 8 Try.underlying44 infoI rfl (by decide) (by decide) _ 0 [] rfl (World.ownsRow_nil _ _ _ _) a n c (cellsI L) rfl HL.out HH.out (cellsI_one L) (by omega) (Nat.le_refl _) ?_)
  intro v' w1 hown hgrow
  have HO : Hid (w1.ownsRow w.heap.size 3 1 v' n (cellsI L)) := by simpa [Hid] using hown
  have HB : Hid (Below w.heap.size w w1) := (Below.refl _ _).grown hgrow (Nat.le_refl _) (fun k e => by cases e)
  clear hown hgrow
  go_wp2_with fail
  go_ret
  exact ⟨_, rfl, HO.out, HB.out⟩

set_option maxHeartbeats 400000 in
theorem copyQ (a : Option Addr) (n c : Nat) (L : List (Int × ByteArray)) (w : World) (hL : L.length = n) (hn : n ≤ 1048576) (h : Src w a (cellsQ L)) :
    Calls Try.prog 132 #[.slice a n c] w fun e w' => ∃ v, e = .returned v ∧ w'.ownsRow w.heap.size 108 2 v n (cellsQ L) ∧ Below w.heap.size w w' := by
  have HH : Hid (Src w a (cellsQ L)) := h
  have HL : Hid ((cellsQ L).length = n * 2) := by show _ = _; rw [cellsQ_length]; omega
  clear h hL
  go_enter Try.func132, Try.ntmps132
  go_wp2_with (at_builtin; refine wpList_append_src _ rfl _ _ 43 rfl w.heap.size 108 (.agg #[.int .i64 0, .string ⟨#[]⟩]) 2 24 Try.underlying43 infoQ rfl (by decide) (by decide) _ 0 [] rfl (World.ownsRow_nil _ _ _ _) a n c (cellsQ L) rfl HL.out HH.out (cellsQ_one L) (by omega) (Nat.le_refl _) ?_)
  intro v' w1 hown hgrow
  have HO : Hid (w1.ownsRow w.heap.size 108 2 v' n (cellsQ L)) := by simpa [Hid] using hown
  have HB : Hid (Below w.heap.size w w1) := (Below.refl _ _).grown hgrow (Nat.le_refl _) (fun k e => by cases e)
  clear hown hgrow
  go_wp2_with fail
  go_ret
  exact ⟨_, rfl, HO.out, HB.out⟩

set_option maxHeartbeats 1000000 in
theorem heldDisk (v : Value) (D : DM) (k : Nat) (w : World) (hs : D.S.length ≤ 1048576 ∧ D.C.length ≤ 1048576 ∧ D.K.length ≤ 1048576) (hk0 : 0 < k) (hk1 : k ≤ 1048576) (h : ReadsD w v (markedD D k)) :
    Calls Try.prog 65 #[v, .int .i64 (k : Int)] w fun e w' => e = .returned (.int .i64 ((endD D k : Nat) : Int)) ∧ Below w.heap.size w w' := by
  obtain ⟨a1, c1, a2, c2, a3, c3, rfl, s1, s2, s3⟩ := h
  unfold markedD at s1 s2 s3 ⊢
  unfold endD
  simp only [mkS_length, mkQ_length, mkI_length] at s1 s2 s3 ⊢
  obtain ⟨n1, hn1⟩ : ∃ n, D.S.length = n := ⟨_, rfl⟩
  obtain ⟨n2, hn2⟩ : ∃ n, D.C.length = n := ⟨_, rfl⟩
  obtain ⟨n3, hn3⟩ : ∃ n, D.K.length = n := ⟨_, rfl⟩
  obtain ⟨A, hA⟩ : ∃ A, D.A = A := ⟨_, rfl⟩
  rw [hn1] at hs s1 s2 s3 ⊢
  rw [hn2] at hs s2 s3 ⊢
  rw [hn3] at hs s3 ⊢
  rw [hA]
  obtain ⟨z1, z2, z3⟩ := hs
  have S1 : Hid (Src w a1 (cellsS (mkS k n1))) := s1
  have S2 : Hid (Src w a2 (cellsQ (mkQ (k + n1) n2))) := s2
  have S3 : Hid (Src w a3 (cellsI (mkI (k + n1 + n2 * 2) n3))) := s3
  clear s1 s2 s3 hn1 hn2 hn3 hA
  go_enter Try.func65, Try.ntmps65
  go_wp2_with fail
  refine (heldStringS a1 n1 c1 k _ z1 hk0 (by omega) (S1.out.below ((Below.refl _ _).alloc (Nat.le_refl _) _))).mono ?_
  rintro e w1 ⟨rfl, hb1⟩
  have B1 : Hid (Below w.heap.size w w1) := ((Below.refl _ _).alloc (Nat.le_refl _) _).trans (hb1.mono (by simp))
  have HA : Hid (Box w1 w.heap.size [.slice a1 n1 c1, .slice a2 n2 c2, .bool A, .slice a3 n3 c3]) := Box.below (Box.new rfl) hb1
  clear hb1
  obtain ⟨p1, _⟩ := HA.out 1 _ rfl
  go_wp2_with fail
  rw [show ((k : Int) + (n1 : Int)) = ((k + n1 : Nat) : Int) from by omega]
  refine (heldPendingS a2 n2 c2 (k + n1) _ z2 (by omega) (by omega) (S2.out.below B1.out)).mono ?_
  rintro e w2 ⟨rfl, hb2⟩
  have B2 : Hid (Below w.heap.size w w2) := B1.out.trans (hb2.mono B1.out.size)
  have HA2 : Hid (Box w2 w.heap.size [.slice a1 n1 c1, .slice a2 n2 c2, .bool A, .slice a3 n3 c3]) := HA.out.below hb2
  clear hb2 HA p1
  obtain ⟨p3, _⟩ := HA2.out 3 _ rfl
  go_wp2_with fail
  rw [show ((k : Int) + (n1 : Int) + (n2 : Int) * 2) = ((k + n1 + n2 * 2 : Nat) : Int) from by omega]
  refine (heldIntS a3 n3 c3 (k + n1 + n2 * 2) _ z3 (by omega) (by omega) (S3.out.below B2.out)).mono ?_
  rintro e w3 ⟨rfl, hb3⟩
  have B3 : Hid (Below w.heap.size w w3) := B2.out.trans (hb3.mono B2.out.size)
  clear hb3 p3
  go_wp2_with fail
  go_ret
  exact ⟨rfl, B3.out⟩
end Go.Proofs.Ytnmeafhfchkemaa
