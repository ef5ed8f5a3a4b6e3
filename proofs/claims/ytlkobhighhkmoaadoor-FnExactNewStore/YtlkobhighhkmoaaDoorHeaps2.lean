
/-
  Heaps that are owned; marks in them. By an AI agent.
-/
import Derived.Test.YtlkobhighhkmoaaDoorHeaps1
namespace Go.Proofs.YtlkobhighhkmoaaDoor
open Go.ChangeShapes Go.WideShapes Go.ChangeAt Go.RowKit Go.Deep
set_option linter.unusedVariables false
set_option maxRecDepth 100000

/-- The nodes V own H, each in blocks of its own, one behind the other, from lo up to hi. -/
def OwnsVs (w : World) : Nat → Nat → List NV → List NM → Prop
  | lo, hi, [], [] => lo ≤ hi
  | lo, hi, v :: V, D :: H => ∃ m, lo ≤ m ∧ OwnsN w lo m v.val D ∧ OwnsVs w m hi V H
  | _, _, _, _ => False
theorem OwnsVs.le {w : World} : ∀ {V : List NV} {H : List NM} {lo hi : Nat}, OwnsVs w lo hi V H → lo ≤ hi
  | [], [], lo, hi, h => h
  | v :: V, D :: H, lo, hi, ⟨m, h1, _, h2⟩ => Nat.le_trans h1 (OwnsVs.le h2)
  | [], D :: H, _, _, h => False.elim h
  | v :: V, [], _, _, h => False.elim h
theorem OwnsVs.len {w : World} : ∀ {V : List NV} {H : List NM} {lo hi : Nat}, OwnsVs w lo hi V H → V.length = H.length
  | [], [], lo, hi, h => rfl
  | v :: V, D :: H, lo, hi, ⟨m, h1, _, h2⟩ => by rw [List.length_cons, List.length_cons, OwnsVs.len h2]
  | [], D :: H, _, _, h => False.elim h
  | v :: V, [], _, _, h => False.elim h
theorem OwnsVs.below {w w' : World} (hb : Below w.heap.size w w') : ∀ {V : List NV} {H : List NM} {lo hi : Nat}, OwnsVs w lo hi V H → OwnsVs w' lo hi V H
  | [], [], lo, hi, h => h
  | v :: V, D :: H, lo, hi, ⟨m, h1, h3, h2⟩ => ⟨m, h1, h3.below hb, OwnsVs.below hb h2⟩
  | [], D :: H, _, _, h => False.elim h
  | v :: V, [], _, _, h => False.elim h
theorem OwnsVs.turned {w w' : World} {lo' hi' : Nat} (ht : Turned lo' hi' w w') : ∀ {V : List NV} {H : List NM} {lo hi : Nat}, OwnsVs w lo hi V H → (hi ≤ lo' ∨ hi' ≤ lo) → OwnsVs w' lo hi V H
  | [], [], lo, hi, h, _ => h
  | v :: V, D :: H, lo, hi, ⟨m, h1, h3, h2⟩, hd => ⟨m, h1, h3.turned ht (by have := h2.le; omega), OwnsVs.turned ht h2 (by omega)⟩
  | [], D :: H, _, _, h, _ => False.elim h
  | v :: V, [], _, _, h, _ => False.elim h
theorem OwnsVs.lift {w : World} : ∀ {V : List NV} {H : List NM} {lo hi hi' : Nat}, OwnsVs w lo hi V H → hi ≤ hi' → OwnsVs w lo hi' V H
  | [], [], lo, hi, hi', h, hh => Nat.le_trans h hh
  | v :: V, D :: H, lo, hi, hi', ⟨m, h1, h3, h2⟩, hh => ⟨m, h1, h3, OwnsVs.lift h2 hh⟩
  | [], D :: H, _, _, _, h, _ => False.elim h
  | v :: V, [], _, _, _, h, _ => False.elim h
theorem OwnsVs.snoc {w : World} {v : NV} {D : NM} {m hi : Nat} (hv : OwnsN w m hi v.val D) (hm : m ≤ hi) : ∀ {V : List NV} {H : List NM} {lo : Nat}, OwnsVs w lo m V H → OwnsVs w lo hi (V ++ [v]) (H ++ [D])
  | [], [], lo, h => ⟨hi, Nat.le_trans h hm, hv.mono h (Nat.le_refl _), Nat.le_refl _⟩
  | u :: V, E :: H, lo, ⟨m', h1, h3, h2⟩ => ⟨m', h1, h3, OwnsVs.snoc hv hm h2⟩
  | [], D :: H, _, h => False.elim h
  | v :: V, [], _, h => False.elim h
theorem OwnsVs.reads {w : World} : ∀ {V : List NV} {H : List NM} {lo hi : Nat}, OwnsVs w lo hi V H → ∀ i, i < H.length → ReadsN w (V.getD i nv0).val (H.getD i nm0)
  | [], [], lo, hi, h, i, hi' => absurd hi' (by simp)
  | v :: V, D :: H, lo, hi, ⟨m, h1, h3, h2⟩, 0, _ => h3.reads
  | v :: V, D :: H, lo, hi, ⟨m, h1, h3, h2⟩, i + 1, hi' => OwnsVs.reads h2 i (by simpa using hi')
  | [], D :: H, _, _, h, _, _ => False.elim h
  | v :: V, [], _, _, h, _, _ => False.elim h
/-- v owns the nodes H, in blocks from lo up to hi. -/
def OwnsHL (w : World) (lo hi : Nat) (v : Value) (n : Nat) (H : List NM) : Prop :=
  ∃ V, w.ownsRow lo 120 4 v n (cellsN V) ∧ (∀ k, v.ownBlock = some k → k < hi) ∧ OwnsVs w lo hi V H
theorem OwnsHL.below {w w' : World} {lo hi n : Nat} {v : Value} {H : List NM} (h : OwnsHL w lo hi v n H) (hb : Below w.heap.size w w') : OwnsHL w' lo hi v n H := by
  obtain ⟨V, h1, h2, h3⟩ := h
  exact ⟨V, own_below h1 hb, h2, h3.below hb⟩
theorem OwnsHL.turned {w w' : World} {lo hi lo' hi' n : Nat} {v : Value} {H : List NM} (h : OwnsHL w lo hi v n H) (ht : Turned lo' hi' w w') (hd : hi ≤ lo' ∨ hi' ≤ lo) : OwnsHL w' lo hi v n H := by
  obtain ⟨V, h1, h2, h3⟩ := h
  exact ⟨V, own_turned h1 ht h2 hd, h2, h3.turned ht hd⟩
theorem OwnsHL.reads {w : World} {lo hi n : Nat} {a : Option Addr} {c : Nat} {H : List NM} (h : OwnsHL w lo hi (.slice a n c) n H) : ReadsHL w a H := by
  obtain ⟨V, h1, h2, h3⟩ := h
  obtain ⟨a', c', e, s, _⟩ := own_src h1
  cases e
  exact ⟨V, h3.len, s, h3.reads⟩
theorem OwnsHL.lit {w : World} {lo hi n : Nat} {v : Value} {H : List NM} (h : OwnsHL w lo hi v n H) : ∃ a c, v = .slice a n c ∧ H.length = n := by
  obtain ⟨V, h1, h2, h3⟩ := h
  obtain ⟨a', c', e, s, _⟩ := own_src h1
  have := h1.1
  rw [cellsN_length] at this
  exact ⟨a', c', e, by have := h3.len; omega⟩
def mkN (D : NM) (x : Nat) : NM := ⟨((x : Int) % 3 == 0), mkP (x + 1) D.P.length, mkS (x + 1 + D.P.length * 2) D.L.length, mkI (x + 1 + D.P.length * 2 + D.L.length) D.K.length⟩
def endN (D : NM) (x : Nat) : Nat := x + 1 + D.P.length * 2 + D.L.length + D.K.length
def markH : List NM → Nat → List NM
  | [], _ => []
  | D :: H, x => mkN D x :: markH H (endN D x)
def endH : List NM → Nat → Nat
  | [], x => x
  | D :: H, x => endH H (endN D x)
theorem markH_length : ∀ (H : List NM) (x : Nat), (markH H x).length = H.length
  | [], _ => rfl
  | D :: H, x => by rw [markH, List.length_cons, List.length_cons, markH_length]
theorem markH_snoc : ∀ (H : List NM) (D : NM) (x : Nat), markH (H ++ [D]) x = markH H x ++ [mkN D (endH H x)]
  | [], D, x => rfl
  | E :: H, D, x => by rw [List.cons_append, markH, markH, endH, markH_snoc]; rfl
theorem endH_snoc : ∀ (H : List NM) (D : NM) (x : Nat), endH (H ++ [D]) x = endN D (endH H x)
  | [], D, x => rfl
  | E :: H, D, x => by rw [List.cons_append, endH, endH, endH_snoc]
theorem endH_le : ∀ (H : List NM) (x : Nat), endH H x ≤ x + 2 * wtH H
  | [], x => by simp [endH, wtH]
  | D :: H, x => by
    have := endH_le H (endN D x)
    rw [endH]
    unfold wtH at this ⊢
    unfold endN wtN at this ⊢
    simp only [List.length_cons, List.map_cons, List.sum_cons] at this ⊢
    omega
theorem wtH_append (H G : List NM) : wtH (H ++ G) = wtH H + wtH G := by unfold wtH; simp; omega
theorem set_mid (X Y : List Value) (u0 u1 u2 u3 x : Value) : (X ++ u0 :: u1 :: u2 :: u3 :: Y).set X.length x = X ++ x :: u1 :: u2 :: u3 :: Y := by
  rw [List.set_append_right _ _ (Nat.le_refl _)]; simp

theorem OwnsN.setKind {w : World} {lo hi g i : Nat} {v : Value} {D : NM} (h : OwnsN w lo hi v D) (hk : ∃ c f, w.heap[g]? = some (.cells c 120 f)) (u : Value) : OwnsN (w.setCell ⟨g, i, none⟩ u) lo hi v D := by
  obtain ⟨v1, v2, v3, rfl, ⟨h1, k1⟩, ⟨h2, k2⟩, h3, k3⟩ := h
  exact ⟨v1, v2, v3, rfl, ⟨own_setOther h1 (own_notkind h1 hk (by decide)) u, k1⟩, ⟨own_setOther h2 (own_notkind h2 hk (by decide)) u, k2⟩, own_setOther h3 (own_notkind h3 hk (by decide)) u, k3⟩
theorem OwnsVs.setKind {w : World} {g i : Nat} (hk : ∃ c f, w.heap[g]? = some (.cells c 120 f)) (u : Value) : ∀ {V : List NV} {H : List NM} {lo hi : Nat}, OwnsVs w lo hi V H → OwnsVs (w.setCell ⟨g, i, none⟩ u) lo hi V H
  | [], [], lo, hi, h => h
  | v :: V, D :: H, lo, hi, ⟨m, h1, h3, h2⟩ => ⟨m, h1, h3.setKind hk u, OwnsVs.setKind hk u h2⟩
  | [], D :: H, _, _, h => False.elim h
  | v :: V, [], _, _, h => False.elim h
theorem mid1 (X Y : List Value) (u0 u1 u2 u3 : Value) (m : Nat) (h : X.length = m) : (X ++ u0 :: u1 :: u2 :: u3 :: Y)[m + 1]? = some u1 := by
  subst h; rw [List.getElem?_append_right (by omega)]; simp
theorem mid2 (X Y : List Value) (u0 u1 u2 u3 : Value) (m : Nat) (h : X.length = m) : (X ++ u0 :: u1 :: u2 :: u3 :: Y)[m + 2]? = some u2 := by
  subst h; rw [List.getElem?_append_right (by omega)]; simp
theorem mid3 (X Y : List Value) (u0 u1 u2 u3 : Value) (m : Nat) (h : X.length = m) : (X ++ u0 :: u1 :: u2 :: u3 :: Y)[m + 3]? = some u3 := by
  subst h; rw [List.getElem?_append_right (by omega)]; simp
theorem mid0 (X Y : List Value) (u0 u1 u2 u3 : Value) (m : Nat) (h : X.length = m) : (X ++ u0 :: u1 :: u2 :: u3 :: Y)[m]? = some u0 := by
  subst h; rw [List.getElem?_append_right (by omega)]; simp
theorem own_at {w : World} {base e s n g cap i : Nat} {xs : List Value} {u : Value} (h : w.ownsRow base e s (.slice (some ⟨g, 0, none⟩) n cap) n xs) (hi : xs[i]? = some u) : w.cell? ⟨g, i, none⟩ = some u ∧ w.frozen? ⟨g, i, none⟩ = false := by
  have := own_cell h (List.getElem?_eq_some_iff.1 hi).1
  rw [getD_some hi] at this
  exact this

set_option maxHeartbeats 2000000 in
theorem markNodeS (v : Value) (H : List NM) (lo hi k n : Nat) (w : World) (hw : wtH H ≤ 1048576) (hk0 : 0 < k) (hk1 : k ≤ 1048576) (hh : hi ≤ w.heap.size) (h : OwnsHL w lo hi v n H) :
    Calls Tryd.prog 62 #[v, .int .i64 (k : Int)] w fun e w' => e = .returned (.int .i64 ((endH H k : Nat) : Int)) ∧ Turned lo hi w w' ∧ OwnsHL w' lo hi v n (markH H k) := by
  have hHn : H.length = n := h.lit.choose_spec.choose_spec.2
  obtain ⟨V, h1, h2, h3⟩ := h
  rcases h1.2 with ⟨rfl, h0⟩ | ⟨B, cap, cur, rfl, _⟩
  · subst h0
    have hH0 : H = [] := List.eq_nil_of_length_eq_zero hHn
    subst hH0
    have HO : Hid (OwnsHL w lo hi (.slice none 0 0) 0 []) := ⟨V, h1, h2, h3⟩
    clear h1 h2 h3 hHn
    go_enter Tryd.func62, Tryd.ntmps62
    go_wp2_with fail
    go_loop [1, 5] (fun kk i => i = .int .i64 0 ∧ kk = .int .i64 (k : Int)) (fun _ _ => 0)
    case atStart => exact ⟨rfl, rfl⟩
    case round =>
      obtain ⟨rfl, rfl⟩ := hrel
      go_wp2_with fail
      go_ret
      exact ⟨rfl, Turned.of_below (Below.refl _ _), HO.out⟩
  have HN : Hid (H.length = n) := hHn
  have HW : Hid (wtH H ≤ 1048576) := hw
  have HH : Hid (hi ≤ w.heap.size) := hh
  have HB : Hid (lo ≤ B ∧ B < hi) := ⟨(h1.lt B rfl).1, h2 B rfl⟩
  have R0 : Hid (w.ownsRow lo 120 4 (.slice (some ⟨B, 0, none⟩) n cap) n (cellsN V)) := h1
  have V0 : Hid (OwnsVs w lo hi V H) := h3
  have HNB : n ≤ 1048576 := by
    have := hw
    unfold wtH at this
    omega
  clear h1 h2 h3 hHn hw hh
  go_enter Tryd.func62, Tryd.ntmps62
  go_wp2_with fail
  go_loopw [1, 5] (fun kk i wr => ∃ (j x m : Nat) (V1 V2 : List NV) (H1 H2 : List NM), j ≤ n ∧ i = .int .i64 (j : Int) ∧ kk = .int .i64 (x : Int) ∧ x ≤ 4194304 ∧ 0 < x ∧ Hid (x = endH H1 k) ∧ Hid (H = H1 ++ H2) ∧ Hid (V1.length = j ∧ H1.length = j) ∧ Hid (OwnsVs wr lo m V1 (markH H1 k)) ∧ Hid (OwnsVs wr m hi V2 H2) ∧ Hid (wr.ownsRow lo 120 4 (.slice (some ⟨B, 0, none⟩) n cap) n (cellsN (V1 ++ V2))) ∧ Hid (Turned lo hi w wr)) (fun _ i _ => n - (intOf i).toNat)
  case atStart => exact ⟨0, k, lo, [], V, [], H, by omega, rfl, rfl, by omega, by omega, rfl, rfl, ⟨rfl, rfl⟩, Nat.le_refl _, V0.out, R0.out, Turned.of_below (Below.refl _ _)⟩
  case round =>
    obtain ⟨j, x, m, V1, V2, H1, H2, hj, rfl, rfl, hx1, hx0, hx, hH, hl, O1, O2, R, T⟩ := hrel
    by_cases hlt : j < n
    · have hjn : (j : Int) < (n : Int) := by omega
      have hl2 : H2.length = n - j := by have h9 := congrArg List.length hH.out; rw [HN.out, List.length_append, hl.out.2] at h9; omega
      obtain ⟨D, H2, rfl⟩ : ∃ D H', H2 = D :: H' := by cases H2 with | nil => simp at hl2; omega | cons D H' => exact ⟨D, H', rfl⟩
      obtain ⟨u, V2, rfl⟩ : ∃ u V', V2 = u :: V' := by have := O2.out.len; cases V2 with | nil => simp at this | cons D H' => exact ⟨D, H', rfl⟩
      obtain ⟨m', hm, ⟨v1, v2, v3, ev, ⟨r1, k1⟩, ⟨r2, k2⟩, r3, k3⟩, O3⟩ := O2.out
      obtain ⟨uA, u1, u2, u3⟩ := u
      simp only [NV.val, Value.agg.injEq, Array.mk.injEq, List.cons.injEq, Value.bool.injEq, and_true] at ev
      obtain ⟨rfl, rfl, rfl, rfl⟩ := ev
      obtain ⟨a1, c1, rfl, _, _⟩ := own_src r1
      obtain ⟨a2, c2, rfl, _, _⟩ := own_src r2
      obtain ⟨a3, c3, rfl, _, _⟩ := own_src r3
      have hm' : Hid (m ≤ m' ∧ m' ≤ hi) := ⟨hm, O3.le⟩
      have hlm : Hid (lo ≤ m) := O1.out.le
      obtain ⟨n1, e1⟩ : ∃ n, D.P.length = n := ⟨_, rfl⟩
      obtain ⟨n2, e2⟩ : ∃ n, D.L.length = n := ⟨_, rfl⟩
      obtain ⟨n3, e3⟩ : ∃ n, D.K.length = n := ⟨_, rfl⟩
      have EN : Hid (endN D x = x + 1 + n1 * 2 + n2 + n3) := by show endN D x = _; unfold endN; rw [e1, e2, e3]
      have hbd : Hid (x + 1 + n1 * 2 + n2 + n3 ≤ 4194304 ∧ n1 ≤ 1048576 ∧ n2 ≤ 1048576 ∧ n3 ≤ 1048576) := by
        have h8 := endH_le (H1 ++ [D]) k
        have h9 := HW.out
        rw [hH.out, wtH_append] at h9
        rw [endH_snoc, ← hx.out, EN.out, wtH_append] at h8
        have h7 : wtH (D :: H2) = wtH [D] + wtH H2 := wtH_append [D] H2
        have h6 : wtH [D] = 1 + (n1 + n2 + n3) := by unfold wtH wtN; rw [← e1, ← e2, ← e3]; simp
        show _ ∧ _
        omega
      have MK : Hid (mkN D x = ⟨((x : Int) % 3 == 0), mkP (x + 1) n1, mkS (x + 1 + n1 * 2) n2, mkI (x + 1 + n1 * 2 + n2) n3⟩) := by show mkN D x = _; unfold mkN; rw [e1, e2, e3]
      obtain ⟨x1, hx1'⟩ : ∃ q, cellsP D.P = q := ⟨_, rfl⟩
      obtain ⟨x2, hx2'⟩ : ∃ q, cellsS D.L = q := ⟨_, rfl⟩
      obtain ⟨x3, hx3'⟩ : ∃ q, cellsI D.K = q := ⟨_, rfl⟩
      rw [hx1', e1] at r1
      rw [hx2', e2] at r2
      rw [hx3', e3] at r3
      rw [e1] at k1
      rw [e2] at k2
      rw [e3] at k3
      have R1 : Hid (wr.ownsRow m 132 2 (.slice a1 n1 c1) n1 x1) := r1
      have R2 : Hid (wr.ownsRow m 9 1 (.slice a2 n2 c2) n2 x2) := r2
      have R3 : Hid (wr.ownsRow m 3 1 (.slice a3 n3 c3) n3 x3) := r3
      have NE : Hid ((∀ g, (Value.slice a1 n1 c1).ownBlock = some g → (Value.slice a2 n2 c2).ownBlock ≠ some g) ∧ (∀ g, (Value.slice a1 n1 c1).ownBlock = some g → (Value.slice a3 n3 c3).ownBlock ≠ some g) ∧ (∀ g, (Value.slice a2 n2 c2).ownBlock = some g → (Value.slice a3 n3 c3).ownBlock ≠ some g)) := ⟨own_ne r1 r2 (by decide), own_ne r1 r3 (by decide), own_ne r2 r3 (by decide)⟩
      have rr := R.out
      rw [e1, e2, e3] at rr
      have RR : Hid (wr.ownsRow lo 120 4 (.slice (some ⟨B, 0, none⟩) n cap) n (cellsN V1 ++ .bool D.A :: .slice a1 n1 c1 :: .slice a2 n2 c2 :: .slice a3 n3 c3 :: cellsN V2)) := by
        have := rr
        rw [cellsN_append] at this
        exact this
      have NB : Hid ((Value.slice a1 n1 c1).ownBlock ≠ some B ∧ (Value.slice a2 n2 c2).ownBlock ≠ some B ∧ (Value.slice a3 n3 c3).ownBlock ≠ some B) := ⟨own_ne RR.out r1 (by decide) B rfl, own_ne RR.out r2 (by decide) B rfl, own_ne RR.out r3 (by decide) B rfl⟩
      have KK : Hid ((∀ g, (Value.slice a1 n1 c1).ownBlock = some g → m ≤ g ∧ g < m') ∧ (∀ g, (Value.slice a2 n2 c2).ownBlock = some g → m ≤ g ∧ g < m') ∧ (∀ g, (Value.slice a3 n3 c3).ownBlock = some g → m ≤ g ∧ g < m')) := ⟨fun g e => ⟨(r1.lt g e).1, k1 g e⟩, fun g e => ⟨(r2.lt g e).1, k2 g e⟩, fun g e => ⟨(r3.lt g e).1, k3 g e⟩⟩
      have O3' : Hid (OwnsVs wr m' hi V2 H2) := O3
      have CL : Hid ((cellsN V1).length = j * 4) := by show _ = _; rw [cellsN_length, hl.out.1]
      have S0 : Hid ((wr.setCell ⟨B, j * 4, none⟩ (.bool ((x : Int) % 3 == 0))).ownsRow lo 120 4 (.slice (some ⟨B, 0, none⟩) n cap) n (cellsN V1 ++ .bool ((x : Int) % 3 == 0) :: .slice a1 n1 c1 :: .slice a2 n2 c2 :: .slice a3 n3 c3 :: cellsN V2)) := by
        have s := own_set RR.out (j * 4) (by rw [List.length_append, CL.out]; simp only [List.length_cons]; omega) (.bool ((x : Int) % 3 == 0))
        rw [← CL.out, set_mid] at s
        rw [CL.out] at s
        exact s
      have T0 : Hid (Turned lo hi w (wr.setCell ⟨B, j * 4, none⟩ (.bool ((x : Int) % 3 == 0)))) := T.out.trans (Turned.of_grown (gb_set (gb_refl _ _) _ _) (fun q e => by cases e; exact HB.out))
      have KD : Hid (∃ c f, wr.heap[B]? = some (.cells c 120 f)) := Lib.ownsRow_kind RR.out B rfl
      have P1 : Hid (OwnsVs (wr.setCell ⟨B, j * 4, none⟩ (.bool ((x : Int) % 3 == 0))) lo m V1 (markH H1 k)) := O1.out.setKind KD.out _
      have P2 : Hid (OwnsVs (wr.setCell ⟨B, j * 4, none⟩ (.bool ((x : Int) % 3 == 0))) m' hi V2 H2) := O3'.out.setKind KD.out _
      have Q1 : Hid ((wr.setCell ⟨B, j * 4, none⟩ (.bool ((x : Int) % 3 == 0))).ownsRow m 132 2 (.slice a1 n1 c1) n1 x1) := own_setOther R1.out NB.out.1 _
      have Q2 : Hid ((wr.setCell ⟨B, j * 4, none⟩ (.bool ((x : Int) % 3 == 0))).ownsRow m 9 1 (.slice a2 n2 c2) n2 x2) := own_setOther R2.out NB.out.2.1 _
      have Q3 : Hid ((wr.setCell ⟨B, j * 4, none⟩ (.bool ((x : Int) % 3 == 0))).ownsRow m 3 1 (.slice a3 n3 c3) n3 x3) := own_setOther R3.out NB.out.2.2 _
      obtain ⟨o1, o2⟩ := own_at RR.out (mid0 _ _ _ _ _ _ _ CL.out)
      obtain ⟨o3, _⟩ := own_at S0.out (mid1 _ _ _ _ _ _ _ CL.out)
      clear r1 r2 r3 k1 k2 k3 rr hl2 hm O3 hx1' hx2' hx3' e1 e2 e3 RR R1 R2 R3 R O1 O2 O3' T KD
      go_wp2_with fail
      rw [show ((x : Int) + 1) = ((x + 1 : Nat) : Int) from by omega]
      refine (markPairS _ n1 (x + 1) m x1 _ hbd.out.2.1 (by omega) (by have := hbd.out.1; omega) Q1.out).mono ?_
      rintro e w1 ⟨rfl, g1, r1⟩
      have S1 : Hid (w1.ownsRow lo 120 4 (.slice (some ⟨B, 0, none⟩) n cap) n (cellsN V1 ++ .bool ((x : Int) % 3 == 0) :: .slice a1 n1 c1 :: .slice a2 n2 c2 :: .slice a3 n3 c3 :: cellsN V2)) := own_grown S0.out g1 (fun g e e2 => by cases e; exact NB.out.1 e2)
      have Q21 : Hid (w1.ownsRow m 9 1 (.slice a2 n2 c2) n2 x2) := own_grown Q2.out g1 (fun g e e2 => NE.out.1 g e2 e)
      have Q31 : Hid (w1.ownsRow m 3 1 (.slice a3 n3 c3) n3 x3) := own_grown Q3.out g1 (fun g e e2 => NE.out.2.1 g e2 e)
      have Q11 : Hid (w1.ownsRow m 132 2 (.slice a1 n1 c1) n1 (cellsP (mkP (x + 1) n1))) := r1
      have T1 : Hid (Turned m m' (wr.setCell ⟨B, j * 4, none⟩ (.bool ((x : Int) % 3 == 0))) w1) := Turned.of_grown g1 KK.out.1
      clear g1 r1 Q1 Q2 Q3 S0 o1 o2 o3
      obtain ⟨o3, _⟩ := own_at S1.out (mid2 _ _ _ _ _ _ _ CL.out)
      go_wp2_with fail
      rw [show ((x : Int) + 1 + (n1 : Int) * 2) = ((x + 1 + n1 * 2 : Nat) : Int) from by omega]
      refine (markStringS _ n2 (x + 1 + n1 * 2) m x2 _ hbd.out.2.2.1 (by omega) (by have := hbd.out.1; omega) Q21.out).mono ?_
      rintro e w2 ⟨rfl, g2, r2⟩
      have S2 : Hid (w2.ownsRow lo 120 4 (.slice (some ⟨B, 0, none⟩) n cap) n (cellsN V1 ++ .bool ((x : Int) % 3 == 0) :: .slice a1 n1 c1 :: .slice a2 n2 c2 :: .slice a3 n3 c3 :: cellsN V2)) := own_grown S1.out g2 (fun g e e2 => by cases e; exact NB.out.2.1 e2)
      have Q12 : Hid (w2.ownsRow m 132 2 (.slice a1 n1 c1) n1 (cellsP (mkP (x + 1) n1))) := own_grown Q11.out g2 (fun g e e2 => NE.out.1 g e e2)
      have Q32 : Hid (w2.ownsRow m 3 1 (.slice a3 n3 c3) n3 x3) := own_grown Q31.out g2 (fun g e e2 => NE.out.2.2 g e2 e)
      have Q22 : Hid (w2.ownsRow m 9 1 (.slice a2 n2 c2) n2 (cellsS (mkS (x + 1 + n1 * 2) n2))) := r2
      have T2 : Hid (Turned m m' (wr.setCell ⟨B, j * 4, none⟩ (.bool ((x : Int) % 3 == 0))) w2) := T1.out.trans (Turned.of_grown g2 KK.out.2.1)
      clear g2 r2 Q11 Q21 Q31 S1 o3 T1
      obtain ⟨o3, _⟩ := own_at S2.out (mid3 _ _ _ _ _ _ _ CL.out)
      go_wp2_with fail
      rw [show ((x : Int) + 1 + (n1 : Int) * 2 + (n2 : Int)) = ((x + 1 + n1 * 2 + n2 : Nat) : Int) from by omega]
      refine (markIntS _ n3 (x + 1 + n1 * 2 + n2) m x3 _ hbd.out.2.2.2 (by omega) (by have := hbd.out.1; omega) Q32.out).mono ?_
      rintro e w3 ⟨rfl, g3, r3⟩
      have S3 : Hid (w3.ownsRow lo 120 4 (.slice (some ⟨B, 0, none⟩) n cap) n (cellsN V1 ++ .bool ((x : Int) % 3 == 0) :: .slice a1 n1 c1 :: .slice a2 n2 c2 :: .slice a3 n3 c3 :: cellsN V2)) := own_grown S2.out g3 (fun g e e2 => by cases e; exact NB.out.2.2 e2)
      have Q13 : Hid (w3.ownsRow m 132 2 (.slice a1 n1 c1) n1 (cellsP (mkP (x + 1) n1))) := own_grown Q12.out g3 (fun g e e2 => NE.out.2.1 g e e2)
      have Q23 : Hid (w3.ownsRow m 9 1 (.slice a2 n2 c2) n2 (cellsS (mkS (x + 1 + n1 * 2) n2))) := own_grown Q22.out g3 (fun g e e2 => NE.out.2.2 g e e2)
      have Q33 : Hid (w3.ownsRow m 3 1 (.slice a3 n3 c3) n3 (cellsI (mkI (x + 1 + n1 * 2 + n2) n3))) := r3
      have T3 : Hid (Turned m m' (wr.setCell ⟨B, j * 4, none⟩ (.bool ((x : Int) % 3 == 0))) w3) := T2.out.trans (Turned.of_grown g3 KK.out.2.2)
      have TW : Hid (Turned lo hi w w3) := T0.out.trans ⟨T3.out.os, T3.out.tape, T3.out.output, T3.out.size, fun q hq hr => T3.out.block q hq (by have := hlm.out; have := hm'.out; omega)⟩
      have NN : Hid (OwnsN w3 m m' (NV.val ⟨((x : Int) % 3 == 0), .slice a1 n1 c1, .slice a2 n2 c2, .slice a3 n3 c3⟩) (mkN D x)) := by
        rw [MK.out]
        refine ⟨.slice a1 n1 c1, .slice a2 n2 c2, .slice a3 n3 c3, rfl, ⟨?_, fun g e => (KK.out.1 g e).2⟩, ⟨?_, fun g e => (KK.out.2.1 g e).2⟩, ?_, fun g e => (KK.out.2.2 g e).2⟩
        · simpa [mkP_length] using Q13.out
        · simpa [mkS_length] using Q23.out
        · simpa [mkI_length] using Q33.out
      have F1 : Hid (OwnsVs w3 lo m' (V1 ++ [⟨((x : Int) % 3 == 0), .slice a1 n1 c1, .slice a2 n2 c2, .slice a3 n3 c3⟩]) (markH (H1 ++ [D]) k)) := by
        rw [markH_snoc, ← hx.out]
        exact OwnsVs.snoc NN.out hm'.out.1 (P1.out.turned T3.out (.inl (Nat.le_refl _)))
      have F2 : Hid (OwnsVs w3 m' hi V2 H2) := P2.out.turned T3.out (.inr (Nat.le_refl _))
      have F3 : Hid (w3.ownsRow lo 120 4 (.slice (some ⟨B, 0, none⟩) n cap) n (cellsN (V1 ++ [⟨((x : Int) % 3 == 0), .slice a1 n1 c1, .slice a2 n2 c2, .slice a3 n3 c3⟩] ++ V2))) := own_congr S3.out (by rw [cellsN_append, cellsN_append, List.append_assoc]; rfl)
      clear g3 r3 Q12 Q22 Q32 S2 o3 T2 Q13 Q23 Q33 S3 T3 NN P1 P2 T0
      go_wp2_with fail
      exact ⟨⟨j + 1, x + 1 + n1 * 2 + n2 + n3, m', _, V2, H1 ++ [D], H2, by omega, by go_num, by go_num, hbd.out.1, by omega, by show _ = _; rw [endH_snoc, ← hx.out, EN.out], by show _ = _; rw [hH.out]; simp, by rw [List.length_append, List.length_append, hl.out.1, hl.out.2]; exact ⟨rfl, rfl⟩, F1, F2, F3, TW⟩, by simp [intOf]; omega⟩
    · have hjn : j = n := by omega
      have hl2 : H2.length = 0 := by have h9 := congrArg List.length hH.out; rw [HN.out, List.length_append, hl.out.2] at h9; omega
      have hH2 : H2 = [] := List.eq_nil_of_length_eq_zero hl2
      subst hH2
      have hV2 : V2 = [] := List.eq_nil_of_length_eq_zero (O2.out.len)
      subst hV2
      have hHH : H1 = H := by rw [hH.out]; simp
      subst hHH
      have F : Hid (OwnsHL wr lo hi (.slice (some ⟨B, 0, none⟩) n cap) n (markH H1 k)) := ⟨V1, own_congr R.out (by simp), fun q e => by cases e; exact HB.out.2, O1.out.lift O2.out⟩
      have E : Hid ((x : Int) = ((endH H1 k : Nat) : Int)) := by show (x : Int) = _; rw [hx.out]
      clear hjn hl2 hH R O1 O2 V0 R0
      go_wp2_with fail
      go_ret
      exact ⟨by show Ending.returned (.int .i64 (x : Int)) = _; rw [E.out], T.out, F.out⟩
end Go.Proofs.YtlkobhighhkmoaaDoor
