/-
  Texts of the store, brought together: Heaps1, Heaps2, Heaps3, Cpn, Pairs0. By an AI agent.
-/
import Derived.Test.YtnnimocaanofjaaGreatDoorSq03
import Derived.Deep.RegionHeld3
namespace Go.Proofs.YtnnimocaanofjaaGreatDoor
open Go.ChangeShapes Go.WideShapes Go.ChangeAt Go.RowKit Go.Deep
set_option linter.unusedVariables false
set_option linter.unusedSimpArgs false
set_option maxRecDepth 100000
structure NV where
  A : Bool
  v1 : Value
  v2 : Value
  v3 : Value
abbrev nv0 : NV := ⟨false, .slice none 0 0, .slice none 0 0, .slice none 0 0⟩
abbrev NV.val (x : NV) : Value := .agg #[.bool x.A, x.v1, x.v2, x.v3]
def cellsN (V : List NV) : List Value := V.flatMap fun x => [.bool x.A, x.v1, x.v2, x.v3]
theorem cellsN_length (V : List NV) : (cellsN V).length = V.length * 4 := by
  induction V with
  | nil => rfl
  | cons p L ih => simp [cellsN] at ih ⊢; omega
theorem cellsN_append (V U : List NV) : cellsN (V ++ U) = cellsN V ++ cellsN U := by simp [cellsN]
theorem cellsN_get : ∀ (V : List NV) (i : Nat), i < V.length → (cellsN V)[i * 4]? = some (.bool (V.getD i nv0).A) ∧ (cellsN V)[i * 4 + 1]? = some (V.getD i nv0).v1 ∧ (cellsN V)[i * 4 + 2]? = some (V.getD i nv0).v2 ∧ (cellsN V)[i * 4 + 3]? = some (V.getD i nv0).v3
  | [], i, h => absurd h (by simp)
  | p :: L, 0, _ => ⟨rfl, rfl, rfl, rfl⟩
  | p :: L, i + 1, h => by
    have ih := cellsN_get L i (by simpa using h)
    have e1 : (i + 1) * 4 = i * 4 + 1 + 1 + 1 + 1 := by omega
    have e2 : cellsN (p :: L) = .bool p.A :: p.v1 :: p.v2 :: p.v3 :: cellsN L := rfl
    rw [e2, e1]
    exact ih
def ReadsHL (w : World) (a : Option Addr) (H : List NM) : Prop :=
  ∃ V : List NV, V.length = H.length ∧ Src w a (cellsN V) ∧ ∀ i, i < H.length → ReadsN w (V.getD i nv0).val (H.getD i nm0)
theorem ReadsHL.below {w w' : World} {a : Option Addr} {H : List NM} (h : ReadsHL w a H) (hb : Below w.heap.size w w') : ReadsHL w' a H := by
  obtain ⟨V, h1, h2, h3⟩ := h
  exact ⟨V, h1, h2.below hb, fun i hi => (h3 i hi).below hb⟩
theorem srcN {w : World} {a : Option Addr} {H : List NM} (h : ReadsHL w a H) {i : Nat} (hi : i < H.length) : ∃ b o D a1 c1 a2 c2 a3 c3, a = some ⟨b, o, none⟩ ∧ w.cell? ⟨b, o + i * 4, none⟩ = some (.bool D.A) ∧ w.cell? ⟨b, o + i * 4 + 1, none⟩ = some (.slice a1 D.P.length c1) ∧ w.cell? ⟨b, o + i * 4 + 2, none⟩ = some (.slice a2 D.L.length c2) ∧ w.cell? ⟨b, o + i * 4 + 3, none⟩ = some (.slice a3 D.K.length c3) ∧ Hid (H.getD i nm0 = D) ∧ Hid (ReadsN w (.agg #[.bool D.A, .slice a1 D.P.length c1, .slice a2 D.L.length c2, .slice a3 D.K.length c3]) D) := by
  obtain ⟨V, h1, h2, h3⟩ := h
  rcases h2 with h2 | ⟨b, o, rfl, hc⟩
  · have h4 := cellsN_length V
    rw [h2] at h4
    simp only [List.length_nil] at h4
    omega
  · have hR := h3 i hi
    obtain ⟨g0, g1, g2, g3⟩ := cellsN_get V i (by omega)
    have k0 := hc (i * 4) (by rw [cellsN_length]; omega)
    have k1 := hc (i * 4 + 1) (by rw [cellsN_length]; omega)
    have k2 := hc (i * 4 + 2) (by rw [cellsN_length]; omega)
    have k3 := hc (i * 4 + 3) (by rw [cellsN_length]; omega)
    rw [getD_some g0] at k0
    rw [getD_some g1] at k1
    rw [getD_some g2] at k2
    rw [getD_some g3] at k3
    obtain ⟨a1, c1, a2, c2, a3, c3, e, s1, s2, s3⟩ := hR
    have e2 := e
    simp only [Value.agg.injEq, Array.mk.injEq, List.cons.injEq, Value.bool.injEq, and_true] at e
    obtain ⟨e0, e1, e2', e3⟩ := e
    refine ⟨b, o, H.getD i nm0, a1, c1, a2, c2, a3, c3, rfl, ?_, ?_, ?_, ?_, rfl, ⟨a1, c1, a2, c2, a3, c3, rfl, s1, s2, s3⟩⟩
    · rw [k0, e0]
    · rw [← Nat.add_assoc] at k1; rw [k1, e1]
    · rw [← Nat.add_assoc] at k2; rw [k2, e2']
    · rw [← Nat.add_assoc] at k3; rw [k3, e3]
def wtH (H : List NM) : Nat := H.length + (H.map wtN).sum
def smallH (H : List NM) : Prop := wtH H ≤ 1048576 ∧ ∀ D ∈ H, smallN D
theorem getD_memH (H : List NM) (i : Nat) (h : i < H.length) : H.getD i nm0 ∈ H := by
  rw [List.getD_eq_getElem?_getD, List.getElem?_eq_getElem h]; exact List.getElem_mem _
set_option maxHeartbeats 1000000 in
theorem eqNodeS (a b : Option Addr) (n c d : Nat) (H : List NM) (w : World) (hL : H.length = n) (hn : n ≤ 1048576) (hs : ∀ D ∈ H, wtN D ≤ 9000000000000000000) (ha : ReadsHL w a H) (hb : ReadsHL w b H) :
    Calls Tryz.prog 94 #[.slice a n c, .slice b n d] w fun e w' => e = .returned (.bool true) ∧ Below w.heap.size w w' := by
  have hne : ((n : Int) != (n : Int)) = false := by simp
  have HA : Hid (ReadsHL w a H) := ha
  have HB : Hid (ReadsHL w b H) := hb
  have HL : Hid (H.length = n) := hL
  have HS : Hid (∀ D ∈ H, wtN D ≤ 9000000000000000000) := hs
  clear ha hb hL hs
  go_enter Tryz.func94, Tryz.ntmps94
  go_wp2_with fail
  go_loopw [5] (fun i wr => ∃ k : Nat, k ≤ n ∧ i = .int .i64 k ∧ Hid (Below w.heap.size w wr)) (fun i _ => n - (intOf i).toNat)
  case atStart => exact ⟨0, by omega, rfl, Below.refl _ _⟩
  case round =>
    obtain ⟨k, hk, rfl, hB⟩ := hrel
    by_cases hlt : k < n
    · obtain ⟨b1, o1, D, a1, c1, a2, c2, a3, c3, rfl, p0, p1, p2, p3, hD, hR⟩ := srcN (HA.out.below hB.out) (i := k) (by rw [HL.out]; exact hlt)
      obtain ⟨b2, o2, D', d1, e1, d2, e2, d3, e3, rfl, q0, q1, q2, q3, hD', hR'⟩ := srcN (HB.out.below hB.out) (i := k) (by rw [HL.out]; exact hlt)
      obtain rfl : D = D' := hD.out.symm.trans hD'.out
      have WT : Hid (wtN D ≤ 9000000000000000000) := by
        show wtN D ≤ _
        rw [← hD.out]
        exact HS.out _ (getD_memH H k (by rw [HL.out]; exact hlt))
      have hk0 : (0 : Int) ≤ (k : Int) := by omega
      have hki : (k : Int) < (n : Int) := by omega
      go_wp2_with fail
      go_region_with (go_at_call 131; refine (eqNode _ _ D _ WT.out hR.out.drew hR'.out.drew).mono ?_; rintro e w1 ⟨rfl, hb1⟩)
      all_goals go_wp2_with fail
      all_goals exact ⟨⟨k + 1, by omega, by go_num, hB.out.drew.trans (hb1.mono hB.out.size)⟩, by simp [intOf]; omega⟩
    · go_wp2_with fail
      go_ret
      exact ⟨rfl, hB.out⟩
def ReadsH (w : World) (v : Value) (H : List NM) : Prop := ∃ a c, v = .agg #[.slice a H.length c] ∧ ReadsHL w a H
theorem ReadsH.below {w w' : World} {v : Value} {H : List NM} (h : ReadsH w v H) (hb : Below w.heap.size w w') : ReadsH w' v H := by
  obtain ⟨a, c, rfl, h1⟩ := h
  exact ⟨a, c, rfl, h1.below hb⟩
set_option maxHeartbeats 400000 in
theorem eqHeap (v v' : Value) (H : List NM) (w : World) (hn : H.length ≤ 1048576) (hs : ∀ D ∈ H, wtN D ≤ 9000000000000000000) (h : ReadsH w v H) (h' : ReadsH w v' H) :
    Calls Tryz.prog 42 #[v, v'] w fun e w' => e = .returned (.bool true) ∧ Below w.heap.size w w' := by
  obtain ⟨a, c, rfl, s1⟩ := h
  obtain ⟨b, d, rfl, t1⟩ := h'
  obtain ⟨n, hl⟩ : ∃ n, H.length = n := ⟨_, rfl⟩
  have HS : Hid (∀ D ∈ H, wtN D ≤ 9000000000000000000) := hs
  have S1 : Hid (ReadsHL w a H) := s1
  have T1 : Hid (ReadsHL w b H) := t1
  have HL : Hid (H.length = n) := hl
  rw [hl] at hn ⊢
  clear hs s1 t1 hl
  go_enter Tryz.func42, Tryz.ntmps42
  go_wp2_with fail
  refine (eqNodeS a b n c d H _ HL.out hn HS.out (S1.out.below (((Below.refl _ _).alloc (Nat.le_refl _) _).alloc (by simp) _)) (T1.out.below (((Below.refl _ _).alloc (Nat.le_refl _) _).alloc (by simp) _))).mono ?_
  rintro e w1 ⟨rfl, hb1⟩
  have B1 : Hid (Below w.heap.size w w1) := (((Below.refl _ _).alloc (Nat.le_refl _) _).alloc (by simp) _).trans (hb1.mono (by simp; omega))
  clear hb1
  go_wp2_with fail
  go_ret
  exact ⟨rfl, B1.out⟩
def OwnsVs (w : World) : Nat → Nat → List NV → List NM → Prop
  | lo, hi, [], [] => lo ≤ hi
  | lo, hi, v :: V, D :: H => ∃ m, lo ≤ m ∧ OwnsN w lo m v.val D ∧ OwnsVs w m hi V H
  | _, _, _, _ => False
theorem OwnsVs.le {w : World} : ∀ {V : List NV} {H : List NM} {lo hi : Nat}, OwnsVs w lo hi V H → lo ≤ hi
  | [], [], lo, hi, h => h
  | v :: V, D :: H, lo, hi, ⟨m, h1, _, h2⟩ => Nat.le_trans h1 (OwnsVs.le h2)
  | [], D :: H, _, _, h => False.elim h
  | v :: V, [], _, _, h => False.elim h
theorem OwnsVs.len {w : World} : ∀ {V : List NV} {H : List NM} {lo hi : Nat}, OwnsVs w lo hi V H → V.length = H.length
  | [], [], lo, hi, h => rfl
  | v :: V, D :: H, lo, hi, ⟨m, h1, _, h2⟩ => by rw [List.length_cons, List.length_cons, OwnsVs.len h2]
  | [], D :: H, _, _, h => False.elim h
  | v :: V, [], _, _, h => False.elim h
theorem OwnsVs.below {w w' : World} (hb : Below w.heap.size w w') : ∀ {V : List NV} {H : List NM} {lo hi : Nat}, OwnsVs w lo hi V H → OwnsVs w' lo hi V H
  | [], [], lo, hi, h => h
  | v :: V, D :: H, lo, hi, ⟨m, h1, h3, h2⟩ => ⟨m, h1, h3.below hb, OwnsVs.below hb h2⟩
  | [], D :: H, _, _, h => False.elim h
  | v :: V, [], _, _, h => False.elim h
theorem OwnsVs.turned {w w' : World} {lo' hi' : Nat} (ht : Turned lo' hi' w w') : ∀ {V : List NV} {H : List NM} {lo hi : Nat}, OwnsVs w lo hi V H → (hi ≤ lo' ∨ hi' ≤ lo) → OwnsVs w' lo hi V H
  | [], [], lo, hi, h, _ => h
  | v :: V, D :: H, lo, hi, ⟨m, h1, h3, h2⟩, hd => ⟨m, h1, h3.turned ht (by have := h2.le; omega), OwnsVs.turned ht h2 (by omega)⟩
  | [], D :: H, _, _, h, _ => False.elim h
  | v :: V, [], _, _, h, _ => False.elim h
theorem OwnsVs.lift {w : World} : ∀ {V : List NV} {H : List NM} {lo hi hi' : Nat}, OwnsVs w lo hi V H → hi ≤ hi' → OwnsVs w lo hi' V H
  | [], [], lo, hi, hi', h, hh => Nat.le_trans h hh
  | v :: V, D :: H, lo, hi, hi', ⟨m, h1, h3, h2⟩, hh => ⟨m, h1, h3, OwnsVs.lift h2 hh⟩
  | [], D :: H, _, _, _, h, _ => False.elim h
  | v :: V, [], _, _, _, h, _ => False.elim h
theorem OwnsVs.snoc {w : World} {v : NV} {D : NM} {m hi : Nat} (hv : OwnsN w m hi v.val D) (hm : m ≤ hi) : ∀ {V : List NV} {H : List NM} {lo : Nat}, OwnsVs w lo m V H → OwnsVs w lo hi (V ++ [v]) (H ++ [D])
  | [], [], lo, h => ⟨hi, Nat.le_trans h hm, hv.mono h (Nat.le_refl _), Nat.le_refl _⟩
  | u :: V, E :: H, lo, ⟨m', h1, h3, h2⟩ => ⟨m', h1, h3, OwnsVs.snoc hv hm h2⟩
  | [], D :: H, _, h => False.elim h
  | v :: V, [], _, h => False.elim h
theorem OwnsVs.reads {w : World} : ∀ {V : List NV} {H : List NM} {lo hi : Nat}, OwnsVs w lo hi V H → ∀ i, i < H.length → ReadsN w (V.getD i nv0).val (H.getD i nm0)
  | [], [], lo, hi, h, i, hi' => absurd hi' (by simp)
  | v :: V, D :: H, lo, hi, ⟨m, h1, h3, h2⟩, 0, _ => h3.reads
  | v :: V, D :: H, lo, hi, ⟨m, h1, h3, h2⟩, i + 1, hi' => OwnsVs.reads h2 i (by simpa using hi')
  | [], D :: H, _, _, h, _, _ => False.elim h
  | v :: V, [], _, _, h, _, _ => False.elim h
def OwnsHL (w : World) (lo hi : Nat) (v : Value) (n : Nat) (H : List NM) : Prop :=
  ∃ V, w.ownsRow lo 137 4 v n (cellsN V) ∧ (∀ k, v.ownBlock = some k → k < hi) ∧ OwnsVs w lo hi V H
theorem OwnsHL.below {w w' : World} {lo hi n : Nat} {v : Value} {H : List NM} (h : OwnsHL w lo hi v n H) (hb : Below w.heap.size w w') : OwnsHL w' lo hi v n H := by
  obtain ⟨V, h1, h2, h3⟩ := h
  exact ⟨V, own_below h1 hb, h2, h3.below hb⟩
theorem OwnsHL.turned {w w' : World} {lo hi lo' hi' n : Nat} {v : Value} {H : List NM} (h : OwnsHL w lo hi v n H) (ht : Turned lo' hi' w w') (hd : hi ≤ lo' ∨ hi' ≤ lo) : OwnsHL w' lo hi v n H := by
  obtain ⟨V, h1, h2, h3⟩ := h
  exact ⟨V, own_turned h1 ht h2 hd, h2, h3.turned ht hd⟩
theorem OwnsHL.reads {w : World} {lo hi n : Nat} {a : Option Addr} {c : Nat} {H : List NM} (h : OwnsHL w lo hi (.slice a n c) n H) : ReadsHL w a H := by
  obtain ⟨V, h1, h2, h3⟩ := h
  obtain ⟨a', c', e, s, _⟩ := own_src h1
  cases e
  exact ⟨V, h3.len, s, h3.reads⟩
theorem OwnsHL.lit {w : World} {lo hi n : Nat} {v : Value} {H : List NM} (h : OwnsHL w lo hi v n H) : ∃ a c, v = .slice a n c ∧ H.length = n := by
  obtain ⟨V, h1, h2, h3⟩ := h
  obtain ⟨a', c', e, s, _⟩ := own_src h1
  have := h1.1
  rw [cellsN_length] at this
  exact ⟨a', c', e, by have := h3.len; omega⟩
def mkN (D : NM) (x : Nat) : NM := ⟨((x : Int) % 3 == 0), mkP (x + 1) D.P.length, mkS (x + 1 + D.P.length * 2) D.L.length, mkI (x + 1 + D.P.length * 2 + D.L.length) D.K.length⟩
def endN (D : NM) (x : Nat) : Nat := x + 1 + D.P.length * 2 + D.L.length + D.K.length
def markH : List NM → Nat → List NM
  | [], _ => []
  | D :: H, x => mkN D x :: markH H (endN D x)
def endH : List NM → Nat → Nat
  | [], x => x
  | D :: H, x => endH H (endN D x)
theorem markH_length : ∀ (H : List NM) (x : Nat), (markH H x).length = H.length
  | [], _ => rfl
  | D :: H, x => by rw [markH, List.length_cons, List.length_cons, markH_length]
theorem markH_snoc : ∀ (H : List NM) (D : NM) (x : Nat), markH (H ++ [D]) x = markH H x ++ [mkN D (endH H x)]
  | [], D, x => rfl
  | E :: H, D, x => by rw [List.cons_append, markH, markH, endH, markH_snoc]; rfl
theorem endH_snoc : ∀ (H : List NM) (D : NM) (x : Nat), endH (H ++ [D]) x = endN D (endH H x)
  | [], D, x => rfl
  | E :: H, D, x => by rw [List.cons_append, endH, endH, endH_snoc]
theorem endH_le : ∀ (H : List NM) (x : Nat), endH H x ≤ x + 2 * wtH H
  | [], x => by simp [endH, wtH]
  | D :: H, x => by
    have := endH_le H (endN D x)
    rw [endH]
    unfold wtH at this ⊢
    unfold endN wtN at this ⊢
    simp only [List.length_cons, List.map_cons, List.sum_cons] at this ⊢
    omega
theorem wtH_append (H G : List NM) : wtH (H ++ G) = wtH H + wtH G := by unfold wtH; simp; omega
theorem set_mid (X Y : List Value) (u0 u1 u2 u3 x : Value) : (X ++ u0 :: u1 :: u2 :: u3 :: Y).set X.length x = X ++ x :: u1 :: u2 :: u3 :: Y := by
  rw [List.set_append_right _ _ (Nat.le_refl _)]; simp
theorem OwnsN.setKind {w : World} {lo hi g i : Nat} {v : Value} {D : NM} (h : OwnsN w lo hi v D) (hk : ∃ c f, w.heap[g]? = some (.cells c 137 f)) (u : Value) : OwnsN (w.setCell ⟨g, i, none⟩ u) lo hi v D := by
  obtain ⟨v1, v2, v3, rfl, ⟨h1, k1⟩, ⟨h2, k2⟩, h3, k3⟩ := h
  exact ⟨v1, v2, v3, rfl, ⟨own_setOther h1 (own_notkind h1 hk (by decide)) u, k1⟩, ⟨own_setOther h2 (own_notkind h2 hk (by decide)) u, k2⟩, own_setOther h3 (own_notkind h3 hk (by decide)) u, k3⟩
theorem OwnsVs.setKind {w : World} {g i : Nat} (hk : ∃ c f, w.heap[g]? = some (.cells c 137 f)) (u : Value) : ∀ {V : List NV} {H : List NM} {lo hi : Nat}, OwnsVs w lo hi V H → OwnsVs (w.setCell ⟨g, i, none⟩ u) lo hi V H
  | [], [], lo, hi, h => h
  | v :: V, D :: H, lo, hi, ⟨m, h1, h3, h2⟩ => ⟨m, h1, h3.setKind hk u, OwnsVs.setKind hk u h2⟩
  | [], D :: H, _, _, h => False.elim h
  | v :: V, [], _, _, h => False.elim h
theorem mid1 (X Y : List Value) (u0 u1 u2 u3 : Value) (m : Nat) (h : X.length = m) : (X ++ u0 :: u1 :: u2 :: u3 :: Y)[m + 1]? = some u1 := by
  subst h; rw [List.getElem?_append_right (by omega)]; simp
theorem mid2 (X Y : List Value) (u0 u1 u2 u3 : Value) (m : Nat) (h : X.length = m) : (X ++ u0 :: u1 :: u2 :: u3 :: Y)[m + 2]? = some u2 := by
  subst h; rw [List.getElem?_append_right (by omega)]; simp
theorem mid3 (X Y : List Value) (u0 u1 u2 u3 : Value) (m : Nat) (h : X.length = m) : (X ++ u0 :: u1 :: u2 :: u3 :: Y)[m + 3]? = some u3 := by
  subst h; rw [List.getElem?_append_right (by omega)]; simp
theorem mid0 (X Y : List Value) (u0 u1 u2 u3 : Value) (m : Nat) (h : X.length = m) : (X ++ u0 :: u1 :: u2 :: u3 :: Y)[m]? = some u0 := by
  subst h; rw [List.getElem?_append_right (by omega)]; simp
theorem own_at {w : World} {base e s n g cap i : Nat} {xs : List Value} {u : Value} (h : w.ownsRow base e s (.slice (some ⟨g, 0, none⟩) n cap) n xs) (hi : xs[i]? = some u) : w.cell? ⟨g, i, none⟩ = some u ∧ w.frozen? ⟨g, i, none⟩ = false := by
  have := own_cell h (List.getElem?_eq_some_iff.1 hi).1
  rw [getD_some hi] at this
  exact this
def OwnsH (w : World) (lo hi : Nat) (v : Value) (H : List NM) : Prop := ∃ u, v = .agg #[u] ∧ OwnsHL w lo hi u H.length H
theorem OwnsH.below {w w' : World} {lo hi : Nat} {v : Value} {H : List NM} (h : OwnsH w lo hi v H) (hb : Below w.heap.size w w') : OwnsH w' lo hi v H := by
  obtain ⟨u, rfl, h⟩ := h; exact ⟨u, rfl, h.below hb⟩
theorem OwnsH.drew {w : World} {lo hi : Nat} {v : Value} {H : List NM} (h : OwnsH w lo hi v H) : OwnsH w.drew lo hi v H := h.below (Below.refl _ _).drew
theorem OwnsH.turned {w w' : World} {lo hi lo' hi' : Nat} {v : Value} {H : List NM} (h : OwnsH w lo hi v H) (ht : Turned lo' hi' w w') (hd : hi ≤ lo' ∨ hi' ≤ lo) : OwnsH w' lo hi v H := by
  obtain ⟨u, rfl, h⟩ := h; exact ⟨u, rfl, h.turned ht hd⟩
theorem OwnsH.reads {w : World} {lo hi : Nat} {v : Value} {H : List NM} (h : OwnsH w lo hi v H) : ReadsH w v H := by
  obtain ⟨u, rfl, h⟩ := h
  obtain ⟨a, c, rfl, _⟩ := h.lit
  exact ⟨a, c, rfl, h.reads⟩
theorem OwnsH.lit {w : World} {lo hi : Nat} {v : Value} {H : List NM} (h : OwnsH w lo hi v H) : ∃ a c, v = .agg #[.slice a H.length c] := by
  obtain ⟨u, rfl, h⟩ := h
  obtain ⟨a, c, rfl, _⟩ := h.lit
  exact ⟨a, c, rfl⟩
theorem infoN : (Tryz.prog.info? 137).map (fun i => (i.zero, i.size, i.bytes)) = some (some (.agg #[.bool false, .slice none 0 0, .slice none 0 0, .slice none 0 0]), 4, 80) := by kernel_rfl
theorem run_make_big {P : Program} (t e : TypeId) (z : Value) (s bytes n : Nat) (ht : P.underlying t = some (.slice e)) (hinfo : (P.info? e).map (fun i => (i.zero, i.size, i.bytes)) = some (some z, s, bytes)) (hb : bytes ≤ 4096) (hn : n ≤ 1048576) (w : World) :
    (Instr.makeSlice t (.int .i64 (n : Int)) (.int .i64 (n : Int))).run P w = .ok (.slice (some ⟨w.heap.size, 0, none⟩) n n) (w.alloc (.cells (madeCells z.cells (n * s)) e)) := by
  obtain ⟨i, hi, hzz⟩ := Option.map_eq_some_iff.1 hinfo
  simp only [Prod.mk.injEq] at hzz
  obtain ⟨hz, hs, hby⟩ := hzz
  have hm : bytes * n ≤ 4096 * 1048576 := Nat.mul_le_mul hb hn
  have hm' : (i.bytes : Int) * (n : Int) ≤ 281474976710656 := by
    rw [hby]
    have h : ((bytes * n : Nat) : Int) ≤ 281474976710656 := by omega
    rwa [Int.natCast_mul] at h
  have hr := run_make (P := P) w t e i z ht hi hz .i64 .i64 n n (by omega) (Int.le_refl _) hm' (by omega)
  simp only [Int.toNat_natCast, hs] at hr
  exact hr
theorem run_make_N (n : Nat) (hn : n ≤ 1048576) (w : World) : (Instr.makeSlice 43 (.int .i64 (n : Int)) (.int .i64 (n : Int))).run Tryz.prog w = .ok (.slice (some ⟨w.heap.size, 0, none⟩) n n) (w.alloc (.cells (madeCells #[.bool false, .slice none 0 0, .slice none 0 0, .slice none 0 0] (n * 4)) 137)) :=
  run_make_big 43 137 (.agg #[.bool false, .slice none 0 0, .slice none 0 0, .slice none 0 0]) 4 80 n Tryz.underlying43 infoN (by omega) hn w
def freshH : List NM := List.replicate 50 nm0
theorem ownN_nil (w : World) (lo hi : Nat) : OwnsN w lo hi nv0.val nm0 :=
  ⟨_, _, _, rfl, ⟨World.ownsRow_nil _ _ _ _, fun k e => by cases e⟩, ⟨World.ownsRow_nil _ _ _ _, fun k e => by cases e⟩, World.ownsRow_nil _ _ _ _, fun k e => by cases e⟩
theorem ownVs_nil (w : World) (lo hi : Nat) (h : lo ≤ hi) : ∀ n, OwnsVs w lo hi (List.replicate n nv0) (List.replicate n nm0)
  | 0 => h
  | n + 1 => ⟨lo, Nat.le_refl _, ownN_nil w lo lo, ownVs_nil w lo hi h n⟩
theorem made50 : (madeCells #[.bool false, .slice none 0 0, .slice none 0 0, .slice none 0 0] 200).toList = cellsN (List.replicate 50 nv0) := by kernel_rfl
theorem fresh_own (w : World) : OwnsHL (w.alloc (.cells (madeCells #[.bool false, .slice none 0 0, .slice none 0 0, .slice none 0 0] 200) 137)) w.heap.size (w.heap.size + 1) (.slice (some ⟨w.heap.size, 0, none⟩) 50 50) 50 freshH := by
  refine ⟨List.replicate 50 nv0, ⟨by rw [cellsN_length]; simp, .inr ⟨w.heap.size, 50, _, rfl, Nat.le_refl _, heap_alloc_new w _, Nat.le_refl _, by unfold maxLen; omega, by simp [size_madeCells], ?_⟩⟩, fun k e => by cases e; show w.heap.size < w.heap.size + 1; omega, ownVs_nil _ _ _ (by omega) 50⟩
  rw [← made50, List.take_of_length_le]
  simp [size_madeCells]
theorem OwnsVs.low {w : World} : ∀ {V : List NV} {H : List NM} {lo hi lo' : Nat}, OwnsVs w lo hi V H → lo' ≤ lo → OwnsVs w lo' hi V H
  | [], [], lo, hi, lo', h, hl => Nat.le_trans hl h
  | v :: V, D :: H, lo, hi, lo', ⟨m, h1, h3, h2⟩, hl => ⟨m, Nat.le_trans hl h1, h3.mono hl (Nat.le_refl _), h2⟩
  | [], D :: H, _, _, _, h, _ => False.elim h
  | v :: V, [], _, _, _, h, _ => False.elim h
theorem OwnsHL.mono {w : World} {lo hi lo' hi' n : Nat} {v : Value} {H : List NM} (h : OwnsHL w lo hi v n H) (hl : lo' ≤ lo) (hh : hi ≤ hi') : OwnsHL w lo' hi' v n H := by
  obtain ⟨V, h1, h2, h3⟩ := h
  exact ⟨V, own_mono h1 hl, fun k e => Nat.lt_of_lt_of_le (h2 k e) hh, (h3.low hl).lift hh⟩
theorem OwnsH.mono {w : World} {lo hi lo' hi' : Nat} {v : Value} {H : List NM} (h : OwnsH w lo hi v H) (hl : lo' ≤ lo) (hh : hi ≤ hi') : OwnsH w lo' hi' v H := by
  obtain ⟨u, rfl, h⟩ := h; exact ⟨u, rfl, h.mono hl hh⟩
set_option maxHeartbeats 400000 in
theorem implNewHeap (w : World) : Calls Tryz.prog 140 #[] w fun e w' => ∃ v, e = .returned v ∧ OwnsH w' w.heap.size w'.heap.size v freshH ∧ Below w.heap.size w w' := by
  have hmk : ∀ w : World, (Instr.makeSlice 43 (.int .i64 50) (.int .i64 50)).run Tryz.prog w = .ok (.slice (some ⟨w.heap.size, 0, none⟩) 50 50) (w.alloc (.cells (madeCells #[.bool false, .slice none 0 0, .slice none 0 0, .slice none 0 0] 200) 137)) := fun w => run_make_N 50 (by omega) w
  go_enter Tryz.func140, Tryz.ntmps140
  go_wp2_with fail
  refine bodyPost_ret (v := .agg #[.slice (some ⟨w.heap.size + 1, 0, none⟩) 50 50]) (by simp [results, Tryz.results140, go_sem]) rfl ⟨_, rfl, ⟨_, rfl, ?_⟩, ((Below.refl _ _).alloc (Nat.le_refl _) _).alloc (by simp) _⟩
  have := fresh_own (w.alloc (.cells #[.slice (some ⟨w.heap.size + 1, 0, none⟩) 50 50] 45))
  rw [World.size_alloc] at this
  exact this.mono (by omega) (by simp)
set_option maxHeartbeats 400000 in
theorem specNewHeap (w : World) : Calls Tryz.prog 84 #[] w fun e w' => ∃ v, e = .returned v ∧ OwnsH w' w.heap.size w'.heap.size v freshH ∧ Below w.heap.size w w' := by
  have hmk : ∀ w : World, (Instr.makeSlice 43 (.int .i64 50) (.int .i64 50)).run Tryz.prog w = .ok (.slice (some ⟨w.heap.size, 0, none⟩) 50 50) (w.alloc (.cells (madeCells #[.bool false, .slice none 0 0, .slice none 0 0, .slice none 0 0] 200) 137)) := fun w => run_make_N 50 (by omega) w
  go_enter Tryz.func84, Tryz.ntmps84
  go_wp2_with fail
  refine bodyPost_ret (v := .agg #[.slice (some ⟨w.heap.size + 1, 0, none⟩) 50 50]) (by simp [results, Tryz.results84, go_sem]) rfl ⟨_, rfl, ⟨_, rfl, ?_⟩, ((Below.refl _ _).alloc (Nat.le_refl _) _).alloc (by simp) _⟩
  have := fresh_own (w.alloc (.cells #[.slice (some ⟨w.heap.size + 1, 0, none⟩) 50 50] 45))
  rw [World.size_alloc] at this
  exact this.mono (by omega) (by simp)
set_option maxHeartbeats 1000000 in
theorem copyPairsN (a : Option Addr) (m c : Nat) (L : List PM) (w : World) (hm : L.length = m) (hm1 : m ≤ 1048576) (h : Src w a (cellsP L)) :
    Calls Tryz.prog 177 #[.slice a m c] w fun e w' => ∃ v, e = .returned v ∧ w'.ownsRow w.heap.size 109 2 v m (cellsP L) ∧ Below w.heap.size w w' := by
  have HH : Hid (Src w a (cellsP L)) := h
  have HM : Hid (L.length = m) := hm
  clear h hm
  go_enter Tryz.func177, Tryz.ntmps177
  go_wp2_with (at_builtin; refine wpList_append_src _ rfl _ _ 59 rfl w.heap.size 109 (.agg #[.string ⟨#[]⟩, .string ⟨#[]⟩]) 2 32 Tryz.underlying59 infoP rfl (by decide) (by decide) _ 0 [] rfl (World.ownsRow_nil _ _ _ _) a m c (cellsP L) rfl (by rw [cellsP_length, HM.out]) HH.out (cellsP_one L) (by omega) (Nat.le_refl _) ?_)
  intro v' w1 hown hgrow
  have HO : Hid (w1.ownsRow w.heap.size 109 2 v' m (cellsP L)) := by simpa [Hid] using hown
  have HB : Hid (Below w.heap.size w w1) := (Below.refl _ _).grown hgrow (Nat.le_refl _) (fun k e => by cases e)
  clear hown hgrow
  go_wp2_with fail
  go_ret
  exact ⟨_, rfl, HO.out, HB.out⟩
set_option maxHeartbeats 2000000 in
theorem copyNodeI (v : Value) (D : NM) (w : World) (hs : wtN D ≤ 1048576) (h : ReadsN w v D) :
    Calls Tryz.prog 158 #[v] w fun e w' => ∃ v', e = .returned v' ∧ OwnsN w' w.heap.size w'.heap.size v' D ∧ Below w.heap.size w w' := by
  obtain ⟨a1, c1, a2, c2, a3, c3, rfl, s1, s2, s3⟩ := h
  obtain ⟨n1, hn1⟩ : ∃ n, D.P.length = n := ⟨_, rfl⟩
  obtain ⟨n2, hn2⟩ : ∃ n, D.L.length = n := ⟨_, rfl⟩
  obtain ⟨n3, hn3⟩ : ∃ n, D.K.length = n := ⟨_, rfl⟩
  obtain ⟨A, hA⟩ : ∃ A, D.A = A := ⟨_, rfl⟩
  have HS : Hid (n1 ≤ 1048576 ∧ n2 ≤ 1048576 ∧ n3 ≤ 1048576) := by
    unfold wtN at hs
    exact ⟨by omega, by omega, by omega⟩
  have S1 : Hid (Src w a1 (cellsP D.P)) := s1
  have S2 : Hid (Src w a2 (cellsS D.L)) := s2
  have S3 : Hid (Src w a3 (cellsI D.K)) := s3
  rw [hn1, hn2, hn3, hA]
  have N1 : Hid (D.P.length = n1) := hn1
  have N2 : Hid (D.L.length = n2) := hn2
  have N3 : Hid (D.K.length = n3) := hn3
  have NA : Hid (D.A = A) := hA
  clear hs s1 s2 s3 hn1 hn2 hn3 hA
  go_enter Tryz.func158, Tryz.ntmps158
  go_wp2_with fail
  refine (copyPairsN a1 n1 c1 D.P _ N1.out HS.out.1 (S1.out.below (((Below.refl _ _).alloc (Nat.le_refl _) _).alloc (by simp) _))).mono ?_
  rintro e w1 ⟨v1, rfl, o1, hb1⟩
  obtain ⟨b1, d1, rfl, _, _⟩ := own_src o1
  have B1 : Hid (Below w.heap.size w w1) := (((Below.refl _ _).alloc (Nat.le_refl _) _).alloc (by simp) _).trans (hb1.mono (by simp; omega))
  have HA : Hid (Box w1 w.heap.size [.bool A, .slice a1 n1 c1, .slice a2 n2 c2, .slice a3 n3 c3]) := Box.below ((Box.new rfl).old _) hb1
  have HR : Hid (Box w1 (w.heap.size + 1) [.bool false, .slice none 0 0, .slice none 0 0, .slice none 0 0]) := Box.below (Box.new (by simp)) hb1
  have O1 : Hid (w1.ownsRow (w.heap.size + 2) 109 2 (.slice b1 n1 d1) n1 (cellsP D.P)) := own_mono o1 (by simp)
  clear o1 hb1
  obtain ⟨p1, p1f⟩ := HA.out 1 _ rfl
  have p2 := ((HA.out.set 1 (.slice b1 n1 d1)) 2 _ rfl).1
  go_wp2_with fail
  have B1' : Hid (Below w.heap.size w (w1.setCell ⟨w.heap.size, 1, none⟩ (.slice b1 n1 d1))) := Below.setCell (p := ⟨w.heap.size, 1, none⟩) B1.out (Nat.le_refl _) _
  refine (copyS a2 n2 c2 D.L _ N2.out HS.out.2.1 (S2.out.below B1'.out)).mono ?_
  rintro e w2 ⟨v2, rfl, o2, hb2⟩
  obtain ⟨b2, d2, rfl, _, _⟩ := own_src o2
  have B2 : Hid (Below w.heap.size w w2) := B1'.out.trans (hb2.mono B1'.out.size)
  have HA2 : Hid (Box w2 w.heap.size [.bool A, .slice b1 n1 d1, .slice a2 n2 c2, .slice a3 n3 c3]) := (HA.out.set 1 (.slice b1 n1 d1)).below hb2
  have HR2 : Hid (Box w2 (w.heap.size + 1) [.bool false, .slice none 0 0, .slice none 0 0, .slice none 0 0]) := (HR.out.other _ (by dsimp only; omega) _).below hb2
  have X1 : Hid (w.heap.size + 2 ≤ w1.heap.size) := World.block_lt_of_cell? _ _ (HR.out 0 _ rfl).1
  have O12 : Hid (w2.ownsRow (w.heap.size + 2) 109 2 (.slice b1 n1 d1) n1 (cellsP D.P)) := own_below (own_setLow O1.out (by dsimp only; omega) _) hb2
  have O22 : Hid (w2.ownsRow (w.heap.size + 2) 9 1 (.slice b2 n2 d2) n2 (cellsS D.L)) := own_mono o2 (by simp; exact X1.out)
  clear O1 HA HR B1 B1' o2 hb2 p1 p1f p2
  obtain ⟨p2, p2f⟩ := HA2.out 2 _ rfl
  have p3 := ((HA2.out.set 2 (.slice b2 n2 d2)) 3 _ rfl).1
  go_wp2_with fail
  have B2' : Hid (Below w.heap.size w (w2.setCell ⟨w.heap.size, 2, none⟩ (.slice b2 n2 d2))) := Below.setCell (p := ⟨w.heap.size, 2, none⟩) B2.out (Nat.le_refl _) _
  refine (copyI a3 n3 c3 D.K _ N3.out HS.out.2.2 (S3.out.below B2'.out)).mono ?_
  rintro e w3 ⟨v3, rfl, o3, hb3⟩
  obtain ⟨b3, d3, rfl, _, _⟩ := own_src o3
  have B3 : Hid (Below w.heap.size w w3) := B2'.out.trans (hb3.mono B2'.out.size)
  have HA3 : Hid (Box w3 w.heap.size [.bool A, .slice b1 n1 d1, .slice b2 n2 d2, .slice a3 n3 c3]) := (HA2.out.set 2 (.slice b2 n2 d2)).below hb3
  have HR3 : Hid (Box w3 (w.heap.size + 1) [.bool false, .slice none 0 0, .slice none 0 0, .slice none 0 0]) := (HR2.out.other _ (by dsimp only; omega) _).below hb3
  have X2 : Hid (w.heap.size + 2 ≤ w2.heap.size) := World.block_lt_of_cell? _ _ (HR2.out 0 _ rfl).1
  have O13 : Hid (w3.ownsRow (w.heap.size + 2) 109 2 (.slice b1 n1 d1) n1 (cellsP D.P)) := own_below (own_setLow O12.out (by dsimp only; omega) _) hb3
  have O23 : Hid (w3.ownsRow (w.heap.size + 2) 9 1 (.slice b2 n2 d2) n2 (cellsS D.L)) := own_below (own_setLow O22.out (by dsimp only; omega) _) hb3
  have O33 : Hid (w3.ownsRow (w.heap.size + 2) 3 1 (.slice b3 n3 d3) n3 (cellsI D.K)) := own_mono o3 (by simp; exact X2.out)
  clear O12 O22 HA2 HR2 B2 B2' o3 hb3 p2 p2f p3
  obtain ⟨q3, q3f⟩ := HA3.out 3 _ rfl
  have HO4 : Hid (Box (w3.setCell ⟨w.heap.size, 3, none⟩ (.slice b3 n3 d3)) w.heap.size [.bool A, .slice b1 n1 d1, .slice b2 n2 d2, .slice b3 n3 d3]) := HA3.out.set 3 _
  have HR4 : Hid (Box (w3.setCell ⟨w.heap.size, 3, none⟩ (.slice b3 n3 d3)) (w.heap.size + 1) [.bool false, .slice none 0 0, .slice none 0 0, .slice none 0 0]) := HR3.out.other _ (by dsimp only; omega) _
  obtain ⟨f0, _⟩ := HO4.out 0 _ rfl
  obtain ⟨f1, _⟩ := HO4.out 1 _ rfl
  obtain ⟨f2, _⟩ := HO4.out 2 _ rfl
  obtain ⟨f3, _⟩ := HO4.out 3 _ rfl
  obtain ⟨⟨g0, h0⟩, ⟨g1, h1⟩, ⟨g2, h2⟩, ⟨g3, h3⟩, r0, r1, r2, r3⟩ := HR4.out.w4in (.bool A) (.slice b1 n1 d1) (.slice b2 n2 d2) (.slice b3 n3 d3)
  go_wp2_with fail
  refine bodyPost_ret (v := .agg #[.bool A, .slice b1 n1 d1, .slice b2 n2 d2, .slice b3 n3 d3]) (by simp [results, Tryz.results158, go_sem, r0, r1, r2, r3]) rfl ⟨_, rfl, ?_, ?_⟩
  · refine OwnsN.mk NA.out ?_ ?_ ?_ (Nat.le_refl _)
    · rw [N1.out]
      exact own_mono (own_setLow (own_setLow (own_setLow (own_setLow (own_setLow O13.out (by dsimp only; omega) _) (by dsimp only; omega) _) (by dsimp only; omega) _) (by dsimp only; omega) _) (by dsimp only; omega) _) (by omega)
    · rw [N2.out]
      exact own_mono (own_setLow (own_setLow (own_setLow (own_setLow (own_setLow O23.out (by dsimp only; omega) _) (by dsimp only; omega) _) (by dsimp only; omega) _) (by dsimp only; omega) _) (by dsimp only; omega) _) (by omega)
    · rw [N3.out]
      exact own_mono (own_setLow (own_setLow (own_setLow (own_setLow (own_setLow O33.out (by dsimp only; omega) _) (by dsimp only; omega) _) (by dsimp only; omega) _) (by dsimp only; omega) _) (by dsimp only; omega) _) (by omega)
  · exact Below.setCell (Below.setCell (Below.setCell (Below.setCell (Below.setCell B3.out (by dsimp only; omega) _) (by dsimp only; omega) _) (by dsimp only; omega) _) (by dsimp only; omega) _) (by dsimp only; omega) _
def Sp (w : World) (a : Option Addr) (n : Nat) (f g : Nat → ByteArray) : Prop :=
  n = 0 ∨ ∃ b off, a = some ⟨b, off, none⟩ ∧ ∀ i, i < n → w.cell? ⟨b, off + i * 2, none⟩ = some (.string (f i)) ∧ w.cell? ⟨b, off + i * 2 + 1, none⟩ = some (.string (g i))
theorem Sp.below {w w' : World} {a : Option Addr} {n : Nat} {f g : Nat → ByteArray} (h : Sp w a n f g) (hb : Below w.heap.size w w') : Sp w' a n f g := by
  rcases h with h | ⟨b, off, rfl, hc⟩
  · exact .inl h
  · refine .inr ⟨b, off, rfl, fun i hi => ?_⟩
    obtain ⟨h1, h2⟩ := hc i hi
    rw [← h1, ← h2]
    exact ⟨hb.cell (p := ⟨b, off + i * 2, none⟩) (World.block_lt_of_cell? _ _ h1), hb.cell (p := ⟨b, off + i * 2 + 1, none⟩) (World.block_lt_of_cell? _ _ h2)⟩
abbrev fK (L : List PM) (i : Nat) : ByteArray := (L.getD i p0).1
abbrev fV (L : List PM) (i : Nat) : ByteArray := (L.getD i p0).2
theorem sp_src {w : World} {a : Option Addr} {L : List PM} {n : Nat} (h : Src w a (cellsP L)) (hn : L.length = n) : Sp w a n (fK L) (fV L) := by
  subst hn
  rcases h with h | ⟨b, o, rfl, hc⟩
  · have h2 := cellsP_length L
    rw [h] at h2
    exact .inl (by simp only [List.length_nil] at h2; omega)
  · refine .inr ⟨b, o, rfl, fun i hi => ?_⟩
    have h1 := hc (i * 2) (by rw [cellsP_length]; omega)
    have h2 := hc (i * 2 + 1) (by rw [cellsP_length]; omega)
    rw [getD_some (cellsP_get L i hi).1] at h1
    rw [getD_some (cellsP_get L i hi).2] at h2
    exact ⟨h1, h2⟩
theorem mem_getD {α : Type} (L : List α) (d : α) (i : Nat) (h : i < L.length) : L.getD i d ∈ L := by
  rw [List.getD_eq_getElem?_getD, List.getElem?_eq_getElem h]; exact List.getElem_mem _
end Go.Proofs.YtnnimocaanofjaaGreatDoor
