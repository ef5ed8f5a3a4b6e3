/-
  Bkq Bkr Bkw in one. By an AI agent.
-/
import Derived.Test.YtmbndpgoihdpnaaGreatDoorBkp
import Derived.Lib.OwnKind
namespace Go.Proofs.YtmbndpgoihdpnaaGreatDoor
open Go.ChangeShapes Go.WideShapes Go.ChangeAt Go.RowKit Go.Deep
set_option linter.unusedVariables false
set_option maxRecDepth 100000

/-- A backup's five cells. -/
structure BkV where
  F : ByteArray
  T : ByteArray
  C : Int
  v1 : Value
  S : Int
abbrev bv0 : BkV := ⟨⟨#[]⟩, ⟨#[]⟩, 0, .slice none 0 0, 0⟩
abbrev bk0 : BM := ⟨⟨#[]⟩, ⟨#[]⟩, 0, [], 0⟩
abbrev BkV.val (x : BkV) : Value := .agg #[.string x.F, .string x.T, .int .i64 x.C, x.v1, .int .i64 x.S]
def cellsBk (V : List BkV) : List Value := V.flatMap fun x => [.string x.F, .string x.T, .int .i64 x.C, x.v1, .int .i64 x.S]
theorem cellsBk_length (V : List BkV) : (cellsBk V).length = V.length * 5 := by
  induction V with
  | nil => rfl
  | cons p L ih => simp [cellsBk] at ih ⊢; omega
theorem cellsBk_append (V U : List BkV) : cellsBk (V ++ U) = cellsBk V ++ cellsBk U := by simp [cellsBk]
theorem cellsBk_get : ∀ (V : List BkV) (i : Nat), i < V.length → (cellsBk V)[i * 5]? = some (.string (V.getD i bv0).F) ∧ (cellsBk V)[i * 5 + 1]? = some (.string (V.getD i bv0).T) ∧ (cellsBk V)[i * 5 + 2]? = some (.int .i64 (V.getD i bv0).C) ∧ (cellsBk V)[i * 5 + 3]? = some (V.getD i bv0).v1 ∧ (cellsBk V)[i * 5 + 4]? = some (.int .i64 (V.getD i bv0).S)
  | [], i, h => absurd h (by simp)
  | p :: L, 0, _ => ⟨rfl, rfl, rfl, rfl, rfl⟩
  | p :: L, i + 1, h => by
    have ih := cellsBk_get L i (by simpa using h)
    have e1 : (i + 1) * 5 = i * 5 + 1 + 1 + 1 + 1 + 1 := by omega
    have e2 : cellsBk (p :: L) = .string p.F :: .string p.T :: .int .i64 p.C :: p.v1 :: .int .i64 p.S :: cellsBk L := rfl
    rw [e2, e1]
    exact ih
/-- A slice of backups reads as H. -/
def ReadsBL (w : World) (a : Option Addr) (H : List BM) : Prop :=
  ∃ V : List BkV, V.length = H.length ∧ Src w a (cellsBk V) ∧ ∀ i, i < H.length → ReadsK w (V.getD i bv0).val (H.getD i bk0)
theorem ReadsBL.below {w w' : World} {a : Option Addr} {H : List BM} (h : ReadsBL w a H) (hb : Below w.heap.size w w') : ReadsBL w' a H := by
  obtain ⟨V, h1, h2, h3⟩ := h
  exact ⟨V, h1, h2.below hb, fun i hi => (h3 i hi).below hb⟩
theorem ReadsBL.drew {w : World} {a : Option Addr} {H : List BM} (h : ReadsBL w a H) : ReadsBL w.drew a H := h
theorem srcBk {w : World} {a : Option Addr} {H : List BM} (h : ReadsBL w a H) {i : Nat} (hi : i < H.length) : ∃ b o D a1 c1, a = some ⟨b, o, none⟩ ∧ w.cell? ⟨b, o + i * 5, none⟩ = some (.string D.F) ∧ w.cell? ⟨b, o + i * 5 + 1, none⟩ = some (.string D.T) ∧ w.cell? ⟨b, o + i * 5 + 2, none⟩ = some (.int .i64 D.C) ∧ w.cell? ⟨b, o + i * 5 + 3, none⟩ = some (.slice a1 D.D.length c1) ∧ w.cell? ⟨b, o + i * 5 + 4, none⟩ = some (.int .i64 D.S) ∧ Hid (H.getD i bk0 = D) ∧ Hid (ReadsK w (.agg #[.string D.F, .string D.T, .int .i64 D.C, .slice a1 D.D.length c1, .int .i64 D.S]) D) := by
  obtain ⟨V, h1, h2, h3⟩ := h
  rcases h2 with h2 | ⟨b, o, rfl, hc⟩
  · have h4 := cellsBk_length V
    rw [h2] at h4
    simp only [List.length_nil] at h4
    omega
  · have hR := h3 i hi
    obtain ⟨g0, g1, g2, g3, g4⟩ := cellsBk_get V i (by omega)
    have k0 := hc (i * 5) (by rw [cellsBk_length]; omega)
    have k1 := hc (i * 5 + 1) (by rw [cellsBk_length]; omega)
    have k2 := hc (i * 5 + 2) (by rw [cellsBk_length]; omega)
    have k3 := hc (i * 5 + 3) (by rw [cellsBk_length]; omega)
    have k4 := hc (i * 5 + 4) (by rw [cellsBk_length]; omega)
    rw [getD_some g0] at k0
    rw [getD_some g1] at k1
    rw [getD_some g2] at k2
    rw [getD_some g3] at k3
    rw [getD_some g4] at k4
    obtain ⟨a1, c1, e, s1⟩ := hR
    simp only [Value.agg.injEq, Array.mk.injEq, List.cons.injEq, Value.string.injEq, Value.int.injEq, and_true, true_and] at e
    obtain ⟨e0, e1, e2, e3, e4⟩ := e
    refine ⟨b, o, H.getD i bk0, a1, c1, rfl, ?_, ?_, ?_, ?_, ?_, rfl, ⟨a1, c1, rfl, s1⟩⟩
    · rw [k0, e0]
    · rw [← Nat.add_assoc] at k1; rw [k1, e1]
    · rw [← Nat.add_assoc] at k2; rw [k2, e2]
    · rw [← Nat.add_assoc] at k3; rw [k3, e3]
    · rw [← Nat.add_assoc] at k4; rw [k4, e4]
theorem getD_memB (H : List BM) (i : Nat) (h : i < H.length) : H.getD i bk0 ∈ H := by
  rw [List.getD_eq_getElem?_getD, List.getElem?_eq_getElem h]; exact List.getElem_mem _

set_option maxHeartbeats 1000000 in
theorem eqBackupS (a b : Option Addr) (n c d : Nat) (H : List BM) (w : World) (hL : H.length = n) (hn : n ≤ 1048576) (hs : ∀ D ∈ H, D.D.length ≤ 9000000000000000000) (ha : ReadsBL w a H) (hb : ReadsBL w b H) :
    Calls Tryz.prog 22 #[.slice a n c, .slice b n d] w fun e w' => e = .returned (.bool true) ∧ Below w.heap.size w w' := by
  have hne : ((n : Int) != (n : Int)) = false := by simp
  have HA : Hid (ReadsBL w a H) := ha
  have HB : Hid (ReadsBL w b H) := hb
  have HL : Hid (H.length = n) := hL
  have HS : Hid (∀ D ∈ H, D.D.length ≤ 9000000000000000000) := hs
  clear ha hb hL hs
  go_enter Tryz.func22, Tryz.ntmps22
  go_wp2_with fail
  go_loopw [5] (fun i wr => ∃ k : Nat, k ≤ n ∧ i = .int .i64 k ∧ Hid (Below w.heap.size w wr)) (fun i _ => n - (RowKit.intOf i).toNat)
  case atStart => exact ⟨0, by omega, rfl, Below.refl _ _⟩
  case round =>
    obtain ⟨k, hk, rfl, hB⟩ := hrel
    by_cases hlt : k < n
    · obtain ⟨b1, o1, D, a1, c1, rfl, p0, p1, p2, p3, p4, hD, hR⟩ := srcBk (HA.out.below hB.out) (i := k) (by rw [HL.out]; exact hlt)
      obtain ⟨b2, o2, D', d1, e1, rfl, q0, q1, q2, q3, q4, hD', hR'⟩ := srcBk (HB.out.below hB.out) (i := k) (by rw [HL.out]; exact hlt)
      obtain rfl : D = D' := hD.out.symm.trans hD'.out
      have WT : Hid (D.D.length ≤ 9000000000000000000) := by
        show D.D.length ≤ _
        rw [← hD.out]
        exact HS.out _ (getD_memB H k (by rw [HL.out]; exact hlt))
      have hk0 : (0 : Int) ≤ (k : Int) := by omega
      have hki : (k : Int) < (n : Int) := by omega
      go_wp2_with fail
      go_region_with (go_at_call 14; refine (eqBackup _ _ D _ WT.out hR.out.drew hR'.out.drew).mono ?_; rintro e w1 ⟨rfl, hb1⟩)
      all_goals go_wp2_with fail
      all_goals exact ⟨⟨k + 1, by omega, by go_num, hB.out.drew.trans (hb1.mono hB.out.size)⟩, by simp [RowKit.intOf]; omega⟩
    · go_wp2_with fail
      go_ret
      exact ⟨rfl, hB.out⟩
/-- The backups V own H, each in blocks of its own, one behind the other, from lo up to hi. -/
def OwnsBs (w : World) : Nat → Nat → List BkV → List BM → Prop
  | lo, hi, [], [] => lo ≤ hi
  | lo, hi, v :: V, D :: H => ∃ m, lo ≤ m ∧ OwnsK w lo m v.val D ∧ OwnsBs w m hi V H
  | _, _, _, _ => False
theorem OwnsBs.len {w : World} : ∀ {V : List BkV} {H : List BM} {lo hi : Nat}, OwnsBs w lo hi V H → V.length = H.length
  | [], [], lo, hi, h => rfl
  | v :: V, D :: H, lo, hi, ⟨m, h1, _, h2⟩ => by rw [List.length_cons, List.length_cons, OwnsBs.len h2]
  | [], D :: H, _, _, h => False.elim h
  | v :: V, [], _, _, h => False.elim h
theorem OwnsBs.le {w : World} : ∀ {V : List BkV} {H : List BM} {lo hi : Nat}, OwnsBs w lo hi V H → lo ≤ hi
  | [], [], lo, hi, h => h
  | v :: V, D :: H, lo, hi, ⟨m, h1, _, h2⟩ => Nat.le_trans h1 (OwnsBs.le h2)
  | [], D :: H, _, _, h => False.elim h
  | v :: V, [], _, _, h => False.elim h
theorem OwnsBs.below {w w' : World} (hb : Below w.heap.size w w') : ∀ {V : List BkV} {H : List BM} {lo hi : Nat}, OwnsBs w lo hi V H → OwnsBs w' lo hi V H
  | [], [], lo, hi, h => h
  | v :: V, D :: H, lo, hi, ⟨m, h1, h3, h2⟩ => ⟨m, h1, h3.below hb, OwnsBs.below hb h2⟩
  | [], D :: H, _, _, h => False.elim h
  | v :: V, [], _, _, h => False.elim h
theorem OwnsBs.turned {w w' : World} {lo' hi' : Nat} (ht : Turned lo' hi' w w') : ∀ {V : List BkV} {H : List BM} {lo hi : Nat}, OwnsBs w lo hi V H → hi ≤ lo' ∨ hi' ≤ lo → OwnsBs w' lo hi V H
  | [], [], lo, hi, h, _ => h
  | v :: V, D :: H, lo, hi, ⟨m, h1, h3, h2⟩, hd => ⟨m, h1, h3.turned ht (by have := OwnsBs.le h2; omega), OwnsBs.turned ht h2 (by omega)⟩
  | [], D :: H, _, _, h, _ => False.elim h
  | v :: V, [], _, _, h, _ => False.elim h
theorem OwnsBs.snoc {w : World} {v : BkV} {D : BM} {m hi : Nat} (hv : OwnsK w m hi v.val D) (hm : m ≤ hi) : ∀ {V : List BkV} {H : List BM} {lo : Nat}, OwnsBs w lo m V H → OwnsBs w lo hi (V ++ [v]) (H ++ [D])
  | [], [], lo, h => ⟨hi, Nat.le_trans h hm, hv.mono h (Nat.le_refl _), Nat.le_refl _⟩
  | u :: V, E :: H, lo, ⟨m', h1, h3, h2⟩ => ⟨m', h1, h3, OwnsBs.snoc hv hm h2⟩
  | [], D :: H, _, h => False.elim h
  | v :: V, [], _, h => False.elim h
theorem OwnsBs.reads {w : World} : ∀ {V : List BkV} {H : List BM} {lo hi : Nat}, OwnsBs w lo hi V H → ∀ i, i < H.length → ReadsK w (V.getD i bv0).val (H.getD i bk0)
  | [], [], lo, hi, h, i, hi' => absurd hi' (by simp)
  | v :: V, D :: H, lo, hi, ⟨m, h1, h3, h2⟩, 0, _ => h3.reads
  | v :: V, D :: H, lo, hi, ⟨m, h1, h3, h2⟩, i + 1, hi' => OwnsBs.reads h2 i (by simpa using hi')
  | [], D :: H, _, _, h, _, _ => False.elim h
  | v :: V, [], _, _, h, _, _ => False.elim h
/-- v owns the backups H, in blocks from lo up to hi. -/
def OwnsBL (w : World) (lo hi : Nat) (v : Value) (n : Nat) (H : List BM) : Prop :=
  ∃ V, w.ownsRow lo 34 5 v n (cellsBk V) ∧ (∀ k, v.ownBlock = some k → k < hi) ∧ OwnsBs w lo hi V H
theorem OwnsBL.reads {w : World} {lo hi n : Nat} {a : Option Addr} {c : Nat} {H : List BM} (h : OwnsBL w lo hi (.slice a n c) n H) : ReadsBL w a H := by
  obtain ⟨V, h1, h2, h3⟩ := h
  obtain ⟨a', c', e, s, _⟩ := own_src h1
  cases e
  exact ⟨V, h3.len, s, h3.reads⟩
theorem OwnsBL.lit {w : World} {lo hi n : Nat} {v : Value} {H : List BM} (h : OwnsBL w lo hi v n H) : ∃ a c, v = .slice a n c ∧ H.length = n := by
  obtain ⟨V, h1, h2, h3⟩ := h
  obtain ⟨a', c', e, s, _⟩ := own_src h1
  have := h1.1
  rw [cellsBk_length] at this
  exact ⟨a', c', e, by have := h3.len; omega⟩
theorem OwnsBL.below {w w' : World} {lo hi n : Nat} {v : Value} {H : List BM} (h : OwnsBL w lo hi v n H) (hb : Below w.heap.size w w') : OwnsBL w' lo hi v n H := by
  obtain ⟨V, h1, h2, h3⟩ := h
  exact ⟨V, own_below h1 hb, h2, h3.below hb⟩
theorem OwnsBL.drew {w : World} {lo hi n : Nat} {v : Value} {H : List BM} (h : OwnsBL w lo hi v n H) : OwnsBL w.drew lo hi v n H := h.below (Below.drew (Below.refl _ _))
theorem OwnsK.setKind {w : World} {lo hi g i : Nat} {v : Value} {D : BM} (h : OwnsK w lo hi v D) (hk : ∃ c f, w.heap[g]? = some (.cells c 34 f)) (u : Value) : OwnsK (w.setCell ⟨g, i, none⟩ u) lo hi v D := by
  obtain ⟨v1, rfl, h1, k1⟩ := h
  exact ⟨v1, rfl, own_setOther h1 (own_notkind h1 hk (by decide)) u, k1⟩
theorem OwnsBs.setKind {w : World} {g i : Nat} (hk : ∃ c f, w.heap[g]? = some (.cells c 34 f)) (u : Value) : ∀ {V : List BkV} {H : List BM} {lo hi : Nat}, OwnsBs w lo hi V H → OwnsBs (w.setCell ⟨g, i, none⟩ u) lo hi V H
  | [], [], lo, hi, h => h
  | v :: V, D :: H, lo, hi, ⟨m, h1, h3, h2⟩ => ⟨m, h1, h3.setKind hk u, OwnsBs.setKind hk u h2⟩
  | [], D :: H, _, _, h => False.elim h
  | v :: V, [], _, _, h => False.elim h
theorem bmid0 (X Y : List Value) (u0 u1 u2 u3 u4 : Value) (m : Nat) (h : X.length = m) : (X ++ u0 :: u1 :: u2 :: u3 :: u4 :: Y)[m]? = some u0 := by
  subst h; rw [List.getElem?_append_right (by omega)]; simp
theorem bmid1 (X Y : List Value) (u0 u1 u2 u3 u4 : Value) (m : Nat) (h : X.length = m) : (X ++ u0 :: u1 :: u2 :: u3 :: u4 :: Y)[m + 1]? = some u1 := by
  subst h; rw [List.getElem?_append_right (by omega)]; simp
theorem bmid2 (X Y : List Value) (u0 u1 u2 u3 u4 : Value) (m : Nat) (h : X.length = m) : (X ++ u0 :: u1 :: u2 :: u3 :: u4 :: Y)[m + 2]? = some u2 := by
  subst h; rw [List.getElem?_append_right (by omega)]; simp
theorem bmid3 (X Y : List Value) (u0 u1 u2 u3 u4 : Value) (m : Nat) (h : X.length = m) : (X ++ u0 :: u1 :: u2 :: u3 :: u4 :: Y)[m + 3]? = some u3 := by
  subst h; rw [List.getElem?_append_right (by omega)]; simp
theorem bmid4 (X Y : List Value) (u0 u1 u2 u3 u4 : Value) (m : Nat) (h : X.length = m) : (X ++ u0 :: u1 :: u2 :: u3 :: u4 :: Y)[m + 4]? = some u4 := by
  subst h; rw [List.getElem?_append_right (by omega)]; simp
theorem bown_at {w : World} {base e s n g cap i : Nat} {xs : List Value} {u : Value} (h : w.ownsRow base e s (.slice (some ⟨g, 0, none⟩) n cap) n xs) (hi : xs[i]? = some u) : w.cell? ⟨g, i, none⟩ = some u ∧ w.frozen? ⟨g, i, none⟩ = false := by
  have := own_cell h (List.getElem?_eq_some_iff.1 hi).1
  rw [getD_some hi] at this
  exact this
theorem infoBk : (Tryz.prog.info? 34).map (fun i => (i.zero, i.size, i.bytes)) = some (some (.agg #[.string ⟨#[]⟩, .string ⟨#[]⟩, .int .i64 0, .slice none 0 0, .int .i64 0]), 5, 72) := by kernel_rfl
theorem run_make_rowsX {P : Program} (t e : TypeId) (z : Value) (s bytes n : Nat) (ht : P.underlying t = some (.slice e)) (hinfo : (P.info? e).map (fun i => (i.zero, i.size, i.bytes)) = some (some z, s, bytes)) (hb : bytes ≤ 128) (hn : n ≤ 1048576) (w : World) :
    (Instr.makeSlice t (.int .i64 (n : Int)) (.int .i64 (n : Int))).run P w = .ok (.slice (some ⟨w.heap.size, 0, none⟩) n n) (w.alloc (.cells (madeCells z.cells (n * s)) e)) := by
  obtain ⟨i, hi, hzz⟩ := Option.map_eq_some_iff.1 hinfo
  simp only [Prod.mk.injEq] at hzz
  obtain ⟨hz, hs, hby⟩ := hzz
  have hm : bytes * n ≤ 128 * 1048576 := Nat.mul_le_mul hb hn
  have hm' : (i.bytes : Int) * (n : Int) ≤ 281474976710656 := by
    rw [hby]
    have h : ((bytes * n : Nat) : Int) ≤ 281474976710656 := by omega
    rwa [Int.natCast_mul] at h
  have hr := run_make (P := P) w t e i z ht hi hz .i64 .i64 n n (by omega) (Int.le_refl _) hm' (by omega)
  simp only [Int.toNat_natCast, hs] at hr
  exact hr
theorem run_make_Bk (n : Nat) (hn : n ≤ 1048576) (w : World) : (Instr.makeSlice 44 (.int .i64 (n : Int)) (.int .i64 (n : Int))).run Tryz.prog w = .ok (.slice (some ⟨w.heap.size, 0, none⟩) n n) (w.alloc (.cells (madeCells #[.string ⟨#[]⟩, .string ⟨#[]⟩, .int .i64 0, .slice none 0 0, .int .i64 0] (n * 5)) 34)) :=
  run_make_rowsX 44 34 (.agg #[.string ⟨#[]⟩, .string ⟨#[]⟩, .int .i64 0, .slice none 0 0, .int .i64 0]) 5 72 n Tryz.underlying44 infoBk (by omega) hn w
theorem bset5 (X Y : List Value) (u0 u1 u2 u3 u4 x0 x1 x2 x3 x4 : Value) (m : Nat) (h : X.length = m) : (((((X ++ u0 :: u1 :: u2 :: u3 :: u4 :: Y).set m x0).set (m + 1) x1).set (m + 2) x2).set (m + 3) x3).set (m + 4) x4 = X ++ x0 :: x1 :: x2 :: x3 :: x4 :: Y := by
  subst h
  induction X with
  | nil => rfl
  | cons z X ih => 
    simp only [List.cons_append, List.length_cons, List.set_cons_succ, Nat.succ_add, Nat.add_right_comm _ 1] at ih ⊢
    rw [ih]
theorem bdrop5 (zs : List Value) (k n : Nat) (hz : zs.length = n * 5) (hk : k < n) : ∃ u0 u1 u2 u3 u4, zs.drop (k * 5) = u0 :: u1 :: u2 :: u3 :: u4 :: zs.drop ((k + 1) * 5) := by
  refine ⟨zs[k * 5], zs[k * 5 + 1], zs[k * 5 + 2], zs[k * 5 + 3], zs[k * 5 + 4], ?_⟩
  rw [List.drop_eq_getElem_cons (by omega), List.drop_eq_getElem_cons (by omega), List.drop_eq_getElem_cons (by omega), List.drop_eq_getElem_cons (by omega), List.drop_eq_getElem_cons (by omega), show (k + 1) * 5 = k * 5 + 1 + 1 + 1 + 1 + 1 by omega]
theorem boff_other {w : World} {B i j : Nat} {u x : Value} (h : w.cell? ⟨B, i, none⟩ = some u) (hne : i ≠ j) : (w.setCell ⟨B, j, none⟩ x).cell? ⟨B, i, none⟩ = some u := by
  rw [World.cell?_setCell_other _ _ _ _ (fun e => hne (congrArg Addr.off e).symm)]
  exact h
/-- How much a row of backups counts for. -/
def wtB (H : List BM) : Nat := (H.map fun D => 1 + D.D.length).sum
theorem wtB_append (H U : List BM) : wtB (H ++ U) = wtB H + wtB U := by simp [wtB]
theorem wtB_take {H : List BM} {k : Nat} {D : BM} (hk : k < H.length) (h : H.getD k bk0 = D) : wtB (H.take (k + 1)) = wtB (H.take k) + 1 + D.D.length := by
  have e : H.take (k + 1) = H.take k ++ [D] := by
    rw [List.take_succ_eq_append_getElem hk, ← h, List.getD_eq_getElem?_getD, List.getElem?_eq_getElem hk]; rfl
  rw [e, wtB_append]
  simp [wtB]; omega

set_option maxHeartbeats 1000000 in
theorem szBackupX (v : Value) (D : BM) (l : Int) (w : World) (hl0 : 0 ≤ l) (hl1 : l ≤ 1048576) (hm : maxK D) (h : ReadsK w v D) :
    Calls Tryz.prog 8 #[v, .int .i64 l] w fun e w' => ∃ r : Int, e = .returned (.int .i64 r) ∧ r ≤ l ∧ (0 ≤ r → r + D.D.length ≤ l ∧ smallK D) ∧ Below w.heap.size w w' := by
  obtain ⟨a, c, rfl, s1⟩ := h
  obtain ⟨n, hn⟩ : ∃ n, D.D.length = n := ⟨_, rfl⟩
  obtain ⟨F, hF⟩ : ∃ F, D.F = F := ⟨_, rfl⟩
  obtain ⟨T, hT⟩ : ∃ T, D.T = T := ⟨_, rfl⟩
  obtain ⟨C, hC⟩ : ∃ C, D.C = C := ⟨_, rfl⟩
  obtain ⟨S, hS⟩ : ∃ S, D.S = S := ⟨_, rfl⟩
  have HM : Hid (n ≤ maxLen ∧ ∀ x ∈ D.D, x.1.size ≤ maxLen ∧ x.2.1.size ≤ maxLen ∧ x.2.2.1.size ≤ maxLen) := by rw [← hn]; exact ⟨hm.1, hm.2.2.2⟩
  have hfm : F.size ≤ maxLen := by rw [← hF]; exact hm.2.1
  have htm : T.size ≤ maxLen := by rw [← hT]; exact hm.2.2.1
  unfold maxLen at hfm htm
  have S1 : Hid (Src w a (cellsDf D.D)) := s1
  rw [hn, hF, hT, hC, hS]
  have N1 : Hid (D.D.length = n ∧ D.F = F ∧ D.T = T) := ⟨hn, hF, hT⟩
  have A0 : Hid (Below w.heap.size w (w.alloc (.cells #[.string F, .string T, .int .i64 C, .slice a n c, .int .i64 S] 25))) := (Below.refl _ _).alloc (Nat.le_refl _) _
  clear hm s1 hn hF hT hC hS
  by_cases k1 : l - (F.size : Int) < 0
  · go_enter Tryz.func8, Tryz.ntmps8
    go_wp2_with fail
    go_ret
    exact ⟨-1, rfl, by omega, fun h => absurd h (by omega), A0.out⟩
  by_cases k2 : l - (F.size : Int) - (T.size : Int) < 0
  · go_enter Tryz.func8, Tryz.ntmps8
    go_wp2_with fail
    go_ret
    exact ⟨-1, rfl, by omega, fun h => absurd h (by omega), A0.out⟩
  go_enter Tryz.func8, Tryz.ntmps8
  go_wp2_with fail
  refine (szDiffS a n c D.D _ _ N1.out.1 HM.out.1 HM.out.2 (by omega) (by omega) (S1.out.below A0.out)).mono ?_
  rintro e w1 ⟨r, rfl, hr1, hr, hb1⟩
  have B1 : Hid (Below w.heap.size w w1) := Below.new hb1
  have HR : Hid (0 ≤ r → r + (n : Int) ≤ l ∧ smallK D) := fun h => ⟨by have h9 := (hr h).1; omega, by rw [N1.out.1]; exact (hr h).2.1, by rw [N1.out.2.1]; omega, by rw [N1.out.2.2]; omega, (hr h).2.2⟩
  clear hb1 hr
  by_cases hneg : r < 0
  · go_wp2_with fail
    go_ret
    exact ⟨-1, rfl, by omega, fun h => absurd h (by omega), B1.out⟩
  · go_wp2_with fail
    go_ret
    exact ⟨r, rfl, by omega, HR.out, B1.out⟩

set_option maxHeartbeats 1000000 in
theorem szBackupS (a : Option Addr) (n c : Nat) (H : List BM) (l : Int) (w : World) (hL : H.length = n) (hn : n ≤ maxLen) (hs : ∀ D ∈ H, maxK D) (h0 : 0 ≤ l) (h1 : l ≤ 1048576) (h : ReadsBL w a H) :
    Calls Tryz.prog 18 #[.slice a n c, .int .i64 l] w fun e w' => ∃ r : Int, e = .returned (.int .i64 r) ∧ r ≤ l ∧ (0 ≤ r → n ≤ 1048576 ∧ wtB H ≤ 1048576 ∧ ∀ D ∈ H, smallK D) ∧ Below w.heap.size w w' := by
  unfold maxLen at hn
  by_cases hbig : l < n
  · clear h hs hL
    go_enter Tryz.func18, Tryz.ntmps18
    go_wp2_with fail
    go_ret
    exact ⟨-1, rfl, by omega, fun h => absurd h (by omega), Below.refl _ _⟩
  have HS : Hid (∀ i, i < n → maxK (H.getD i bk0)) := fun i hi => hs _ (getD_memB H i (by omega))
  have HH : Hid (ReadsBL w a H) := h
  have HL : Hid (H.length = n) := hL
  clear hs h hL
  go_enter Tryz.func18, Tryz.ntmps18
  go_wp2_with fail
  go_loopw [1, 5] (fun v i wr => ∃ (k : Nat) (x : Int), k ≤ n ∧ i = .int .i64 k ∧ v = .int .i64 x ∧ 0 ≤ x ∧ x ≤ l ∧ Hid (x + wtB (H.take k) + (n - k : Nat) ≤ l) ∧ Hid (∀ i, i < k → smallK (H.getD i bk0)) ∧ Hid (Below w.heap.size w wr)) (fun _ i _ => n - (RowKit.intOf i).toNat)
  case atStart => exact ⟨0, _, by omega, rfl, rfl, by omega, by omega, by show _ ≤ _; rw [List.take_zero]; show _ + ((0 : Nat) : Int) + _ ≤ l; omega, fun i hi => absurd hi (by omega), Below.refl _ _⟩
  case round =>
    obtain ⟨k, x, hk, rfl, rfl, hx0, hx1, hwt, hall, hb⟩ := hrel
    by_cases hlt : k < n
    · obtain ⟨bk, o, D, a1, c1, rfl, r0, r1, r2, r3, r4, hD, hR⟩ := srcBk (HH.out.below hb.out) (i := k) (by rw [HL.out]; exact hlt)
      have HM : Hid (maxK D) := by show maxK D; rw [← hD.out]; exact HS.out k hlt
      go_wp2_with fail
      refine (szBackupX _ D x _ hx0 (by omega) HM.out hR.out).mono ?_
      rintro e w1 ⟨r, rfl, hr1, hr2, hb1⟩
      have HB1 : Hid (Below w.heap.size w w1) := hb.out.trans (hb1.mono hb.out.size)
      clear hb1 r0 r1 r2 r3 r4
      by_cases hneg : r < 0
      · clear hr2
        go_wp2_with fail
        go_ret
        exact ⟨-1, rfl, by omega, fun h => absurd h (by omega), HB1.out⟩
      · have hr3 := hr2 (by omega)
        have hall2 : Hid (∀ i, i < k + 1 → smallK (H.getD i bk0)) := fun i hi => by
          by_cases e : i = k
          · rw [e, hD.out]; exact hr3.2
          · exact hall.out i (by omega)
        have hwt2 : Hid (r + wtB (H.take (k + 1)) + (n - (k + 1) : Nat) ≤ l) := by
          show _ ≤ _
          rw [wtB_take (by rw [HL.out]; exact hlt) hD.out]
          have h8 := hwt.out
          have h7 := hr3.1
          omega
        clear hr2 hr3 hwt
        go_wp2_with fail
        exact ⟨⟨k + 1, _, by omega, by go_num, rfl, by omega, by omega, hwt2, hall2, HB1.out⟩, by simp [RowKit.intOf]; omega⟩
    · have hkn : k = n := by omega
      have hfin : Hid (n ≤ 1048576 ∧ wtB H ≤ 1048576 ∧ ∀ D ∈ H, smallK D) := by
        refine ⟨by omega, ?_, fun y hy => ?_⟩
        · have h8 := hwt.out
          rw [List.take_of_length_le (by rw [HL.out]; omega)] at h8
          omega
        obtain ⟨i, hi, rfl⟩ := List.getElem_of_mem hy
        have := hall.out i (by rw [hkn, ← HL.out]; exact hi)
        rw [List.getD_eq_getElem?_getD, List.getElem?_eq_getElem hi] at this
        exact this
      clear hkn
      go_wp2_with fail
      go_ret
      exact ⟨x, rfl, hx1, fun _ => hfin.out, hb.out⟩

set_option maxHeartbeats 2000000 in
theorem toBackupS (a : Option Addr) (n c : Nat) (H : List BM) (w : World) (hL : H.length = n) (hn : n ≤ 1048576) (hs : ∀ D ∈ H, smallK D) (h : ReadsBL w a H) :
    Calls Tryz.prog 20 #[.slice a n c] w fun e w' => ∃ v, e = .returned v ∧ OwnsBL w' w.heap.size w'.heap.size v n H ∧ Below w.heap.size w w' := by
  have hmk := run_make_Bk n hn
  have HH : Hid (ReadsBL w a H) := h
  have HL : Hid (H.length = n) := hL
  have HS : Hid (∀ i, i < n → smallK (H.getD i bk0)) := fun i hi => hs _ (getD_memB H i (by omega))
  clear h hs hL
  go_enter Tryz.func20, Tryz.ntmps20
  go_wp2_with fail
  clear hmk
  obtain ⟨zs, hz, ho⟩ := rows_made w #[.string ⟨#[]⟩, .string ⟨#[]⟩, .int .i64 0, .slice none 0 0, .int .i64 0] n 5 34 rfl (by omega) (by unfold maxLen; omega)
  have HZ : Hid (zs.length = n * 5) := hz
  have HO : Hid (World.ownsRow (w.alloc (.cells (madeCells #[.string ⟨#[]⟩, .string ⟨#[]⟩, .int .i64 0, .slice none 0 0, .int .i64 0] (n * 5)) 34)) w.heap.size 34 5 (.slice (some ⟨w.heap.size, 0, none⟩) n n) n zs) := ho
  clear hz ho
  go_loopw [4] (fun i wr => ∃ (k : Nat) (V : List BkV), k ≤ n ∧ i = .int .i64 k ∧ Hid (V.length = k) ∧ Hid (Below w.heap.size w wr) ∧ Hid (OwnsBs wr w.heap.size wr.heap.size V (H.take k)) ∧ Hid (wr.ownsRow w.heap.size 34 5 (.slice (some ⟨w.heap.size, 0, none⟩) n n) n (cellsBk V ++ zs.drop (k * 5)))) (fun i _ => n - (RowKit.intOf i).toNat)
  case atStart => exact ⟨0, [], by omega, rfl, rfl, (Below.refl _ _).alloc (Nat.le_refl _) _, by show _ ≤ _; simp, by simpa [Hid, cellsBk] using HO.out⟩
  case round =>
    obtain ⟨k, V, hk, rfl, hV, hb, hvs, ho⟩ := hrel
    by_cases hlt : k < n
    · obtain ⟨bk, o, D, a1, c1, rfl, r0, r1, r2, r3, r4, hD, hR⟩ := srcBk (HH.out.below hb.out) (i := k) (by rw [HL.out]; exact hlt)
      have SD : Hid (smallK D) := by show smallK D; rw [← hD.out]; exact HS.out k hlt
      have HT : Hid (H.take (k + 1) = H.take k ++ [D]) := by
        show _ = _
        rw [List.take_succ_eq_append_getElem (by rw [HL.out]; exact hlt), ← hD.out, List.getD_eq_getElem?_getD, List.getElem?_eq_getElem (by rw [HL.out]; exact hlt)]
        rfl
      go_wp2_with fail
      refine (toBackup _ D _ SD.out hR.out).mono ?_
      rintro e w1 ⟨v1, rfl, own1, hb1⟩
      obtain ⟨b1, d1, rfl⟩ := own1.lit
      have HB : Hid (Below w.heap.size w w1) := hb.out.trans (hb1.mono hb.out.size)
      have HV1 : Hid (OwnsBs w1 w.heap.size w1.heap.size (V ++ [⟨D.F, D.T, D.C, .slice b1 D.D.length d1, D.S⟩]) (H.take (k + 1))) := by
        show OwnsBs _ _ _ _ _
        rw [HT.out]
        exact OwnsBs.snoc own1 hb1.size (hvs.out.below hb1)
      obtain ⟨u0, u1, u2, u3, u4, hdr⟩ := bdrop5 zs k n HZ.out hlt
      have HO1 : Hid (w1.ownsRow w.heap.size 34 5 (.slice (some ⟨w.heap.size, 0, none⟩) n n) n (cellsBk V ++ u0 :: u1 :: u2 :: u3 :: u4 :: zs.drop ((k + 1) * 5))) := by
        have := own_below ho.out hb1
        rw [hdr] at this
        exact this
      have HCL : Hid ((cellsBk V).length = k * 5) := by show _ = _; rw [cellsBk_length, hV.out]
      clear hb hb1 ho r0 r1 r2 r3 r4 hvs own1 hdr
      obtain ⟨F, hF⟩ : ∃ A, D.F = A := ⟨_, rfl⟩
      obtain ⟨T, hT⟩ : ∃ A, D.T = A := ⟨_, rfl⟩
      obtain ⟨C, hC⟩ : ∃ A, D.C = A := ⟨_, rfl⟩
      obtain ⟨S, hS⟩ : ∃ A, D.S = A := ⟨_, rfl⟩
      obtain ⟨n1, hn1⟩ : ∃ n, D.D.length = n := ⟨_, rfl⟩
      rw [hF, hT, hC, hS, hn1] at HV1 ⊢
      clear hF hT hC hS hn1
      obtain ⟨x0, f0⟩ := bown_at HO1.out (bmid0 _ _ u0 u1 u2 u3 u4 _ HCL.out)
      obtain ⟨x1, f1⟩ := bown_at HO1.out (bmid1 _ _ u0 u1 u2 u3 u4 _ HCL.out)
      obtain ⟨x2, f2⟩ := bown_at HO1.out (bmid2 _ _ u0 u1 u2 u3 u4 _ HCL.out)
      obtain ⟨x3, f3⟩ := bown_at HO1.out (bmid3 _ _ u0 u1 u2 u3 u4 _ HCL.out)
      obtain ⟨x4, f4⟩ := bown_at HO1.out (bmid4 _ _ u0 u1 u2 u3 u4 _ HCL.out)
      have y1 := boff_other (x := .string F) x1 (j := k * 5) (by omega)
      have y2 := boff_other (x := .string T) (boff_other (x := .string F) x2 (j := k * 5) (by omega)) (j := k * 5 + 1) (by omega)
      have y3 := boff_other (x := .int .i64 C) (boff_other (x := .string T) (boff_other (x := .string F) x3 (j := k * 5) (by omega)) (j := k * 5 + 1) (by omega)) (j := k * 5 + 2) (by omega)
      have y4 := boff_other (x := .slice b1 n1 d1) (boff_other (x := .int .i64 C) (boff_other (x := .string T) (boff_other (x := .string F) x4 (j := k * 5) (by omega)) (j := k * 5 + 1) (by omega)) (j := k * 5 + 2) (by omega)) (j := k * 5 + 3) (by omega)
      have HF : Hid (OwnsBs (((((w1.setCell ⟨w.heap.size, k * 5, none⟩ (.string F)).setCell ⟨w.heap.size, k * 5 + 1, none⟩ (.string T)).setCell ⟨w.heap.size, k * 5 + 2, none⟩ (.int .i64 C)).setCell ⟨w.heap.size, k * 5 + 3, none⟩ (.slice b1 n1 d1)).setCell ⟨w.heap.size, k * 5 + 4, none⟩ (.int .i64 S)) w.heap.size w1.heap.size (V ++ [⟨F, T, C, .slice b1 n1 d1, S⟩]) (H.take (k + 1)) ∧ World.ownsRow (((((w1.setCell ⟨w.heap.size, k * 5, none⟩ (.string F)).setCell ⟨w.heap.size, k * 5 + 1, none⟩ (.string T)).setCell ⟨w.heap.size, k * 5 + 2, none⟩ (.int .i64 C)).setCell ⟨w.heap.size, k * 5 + 3, none⟩ (.slice b1 n1 d1)).setCell ⟨w.heap.size, k * 5 + 4, none⟩ (.int .i64 S)) w.heap.size 34 5 (.slice (some ⟨w.heap.size, 0, none⟩) n n) n (cellsBk (V ++ [⟨F, T, C, .slice b1 n1 d1, S⟩]) ++ zs.drop ((k + 1) * 5))) := by
        have hln : (cellsBk V ++ u0 :: u1 :: u2 :: u3 :: u4 :: zs.drop ((k + 1) * 5)).length = n * 5 := by
          rw [List.length_append, HCL.out]; simp [HZ.out]; omega
        have s0 := own_set HO1.out (k * 5) (by rw [hln]; omega) (.string F)
        have s1 := own_set s0 (k * 5 + 1) (by rw [List.length_set, hln]; omega) (.string T)
        have s2 := own_set s1 (k * 5 + 2) (by rw [List.length_set, List.length_set, hln]; omega) (.int .i64 C)
        have s3 := own_set s2 (k * 5 + 3) (by rw [List.length_set, List.length_set, List.length_set, hln]; omega) (.slice b1 n1 d1)
        have s4 := own_set s3 (k * 5 + 4) (by rw [List.length_set, List.length_set, List.length_set, List.length_set, hln]; omega) (.int .i64 S)
        rw [bset5 _ _ _ _ _ _ _ _ _ _ _ _ _ HCL.out] at s4
        refine ⟨OwnsBs.setKind (Lib.ownsRow_kind s3 _ rfl) _ (OwnsBs.setKind (Lib.ownsRow_kind s2 _ rfl) _ (OwnsBs.setKind (Lib.ownsRow_kind s1 _ rfl) _ (OwnsBs.setKind (Lib.ownsRow_kind s0 _ rfl) _ (OwnsBs.setKind (Lib.ownsRow_kind HO1.out _ rfl) _ HV1.out)))), ?_⟩
        rw [cellsBk_append, List.append_assoc]
        exact s4
      clear HV1 HO1
      go_wp2_with fail
      refine ⟨⟨k + 1, V ++ [BkV.mk F T C (.slice b1 n1 d1) S], by omega, by go_num, by show _ = _; rw [List.length_append, hV.out]; rfl, ((((HB.out.setCell (Nat.le_refl _) _).setCell (Nat.le_refl _) _).setCell (Nat.le_refl _) _).setCell (Nat.le_refl _) _).setCell (Nat.le_refl _) _, ?_, HF.out.2⟩, by simp [RowKit.intOf]; omega⟩
      have := HF.out.1
      show OwnsBs _ _ _ _ _
      simp only [World.size_setCell]
      exact this
    · have hkn : k = n := by omega
      have HF : Hid (OwnsBL wr w.heap.size wr.heap.size (.slice (some ⟨w.heap.size, 0, none⟩) n n) n H) := by
        have h1 := hvs.out
        rw [List.take_of_length_le (by rw [HL.out]; omega)] at h1
        have h2 := ho.out
        rw [List.drop_eq_nil_of_le (by rw [HZ.out]; omega), List.append_nil] at h2
        exact ⟨V, h2, fun j e => (h2.lt j e).2, h1⟩
      clear hkn
      go_wp2_with fail
      go_ret
      exact ⟨_, rfl, HF.out, hb.out⟩
set_option maxHeartbeats 4000000 in
theorem markBackupS (v : Value) (H : List BM) (lo hi k n : Nat) (w : World) (hw : wtB H ≤ 1048576) (hk0 : 0 < k) (hk1 : k ≤ 1048576) (hh : hi ≤ w.heap.size) (h : OwnsBL w lo hi v n H) :
    Calls Tryz.prog 23 #[v, .int .i64 (k : Int)] w fun e w' => ∃ E : Nat, e = .returned (.int .i64 (E : Int)) ∧ Turned lo hi w w' := by
  have hHn : H.length = n := h.lit.choose_spec.choose_spec.2
  obtain ⟨V, h1, h2, h3⟩ := h
  rcases h1.2 with ⟨rfl, h0⟩ | ⟨B, cap, cur, rfl, _⟩
  · subst h0
    clear h1 h2 h3 hHn hw
    go_enter Tryz.func23, Tryz.ntmps23
    go_wp2_with fail
    go_loop [1, 5] (fun kk i => i = .int .i64 0 ∧ kk = .int .i64 (k : Int)) (fun _ _ => 0)
    case atStart => exact ⟨rfl, rfl⟩
    case round =>
      obtain ⟨rfl, rfl⟩ := hrel
      go_wp2_with fail
      go_ret
      first | exact ⟨⟨k, rfl⟩, Turned.of_below (Below.refl _ _)⟩ | exact ⟨k, rfl, Turned.of_below (Below.refl _ _)⟩
  have HB : Hid (lo ≤ B ∧ B < hi) := ⟨(h1.lt B rfl).1, h2 B rfl⟩
  have R0 : Hid (w.ownsRow lo 34 5 (.slice (some ⟨B, 0, none⟩) n cap) n (cellsBk V)) := h1
  have V0 : Hid (OwnsBs w lo hi V H) := h3
  have HH : Hid (hi ≤ w.heap.size) := hh
  have HW : Hid (k + 5 * wtB H ≤ 6291456 ∧ wtB H ≤ 1048576) := by show _ ∧ _; omega
  have HN : Hid (H.length + 0 = n) := hHn
  have HNB : n ≤ 9000000 := by
    have h9 : H.length ≤ wtB H := by
      clear h3 hHn hw HW HN V0
      induction H with
      | nil => simp
      | cons D H ih => have : wtB (D :: H) = wtB [D] + wtB H := wtB_append [D] H
                       have h8 : wtB [D] = 1 + D.D.length := by simp [wtB]
                       rw [List.length_cons]; omega
    omega
  clear h1 h2 h3 hHn hw hh
  go_enter Tryz.func23, Tryz.ntmps23
  go_wp2_with fail
  go_loopw [1, 5] (fun kk i wr => ∃ (j x m : Nat) (zs : List Value) (V2 : List BkV) (H2 : List BM), j ≤ n ∧ i = .int .i64 (j : Int) ∧ kk = .int .i64 (x : Int) ∧ 0 < x ∧ x ≤ 6291456 ∧ Hid (x + 5 * wtB H2 ≤ 6291456 ∧ wtB H2 ≤ 1048576) ∧ Hid (H2.length + j = n) ∧ Hid (zs.length = j * 5) ∧ Hid (lo ≤ m) ∧ Hid (OwnsBs wr m hi V2 H2) ∧ Hid (wr.ownsRow lo 34 5 (.slice (some ⟨B, 0, none⟩) n cap) n (zs ++ cellsBk V2)) ∧ Hid (Turned lo hi w wr)) (fun _ i _ => n - (RowKit.intOf i).toNat)
  case atStart => exact ⟨0, k, lo, [], V, H, by omega, rfl, rfl, hk0, by omega, HW.out, HN.out, rfl, Nat.le_refl _, V0.out, R0.out, Turned.of_below (Below.refl _ _)⟩
  case round =>
    obtain ⟨j, x, m, zs, V2, H2, hj, rfl, rfl, hx0, hx1, hx, hl, hz, hlm, O2, R, T⟩ := hrel
    by_cases hlt : j < n
    · have hjn : (j : Int) < (n : Int) := by omega
      have hl2 := hl.out
      obtain ⟨D, H2, rfl⟩ : ∃ D H', H2 = D :: H' := by cases H2 with | nil => simp at hl2; omega | cons D H' => exact ⟨D, H', rfl⟩
      obtain ⟨u, V2, rfl⟩ : ∃ u V', V2 = u :: V' := by have := O2.out.len; cases V2 with | nil => simp at this | cons D H' => exact ⟨D, H', rfl⟩
      obtain ⟨m', hm, ⟨v1, ev, r1, k1⟩, O3⟩ := O2.out
      obtain ⟨uF, uT, uC, u1, uS⟩ := u
      simp only [BkV.val, Value.agg.injEq, Array.mk.injEq, List.cons.injEq, Value.string.injEq, Value.int.injEq, and_true, true_and] at ev
      obtain ⟨rfl, rfl, rfl, rfl, rfl⟩ := ev
      obtain ⟨a1, c1, rfl, _, _⟩ := own_src r1
      have hm' : Hid (m ≤ m' ∧ m' ≤ hi) := ⟨hm, O3.le⟩
      obtain ⟨n1, e1⟩ : ∃ n, D.D.length = n := ⟨_, rfl⟩
      have hbd : Hid (x + 5 + n1 * 5 + 5 * wtB H2 ≤ 6291456 ∧ n1 ≤ 1048576 ∧ wtB H2 ≤ 1048576) := by
        have h8 := hx.out
        have h7 : wtB (D :: H2) = wtB [D] + wtB H2 := wtB_append [D] H2
        have h6 : wtB [D] = 1 + n1 := by simp [wtB, e1]
        show _ ∧ _ ∧ _
        have h5 := h8.1
        have h4 := h8.2
        omega
      have hxb : x + 5 ≤ 6291456 := by have := hbd.out.1; omega
      have HL2 : Hid (H2.length + (j + 1) = n) := by show _ = _; rw [List.length_cons] at hl2; omega
      obtain ⟨x1, hx1'⟩ : ∃ q, cellsDf D.D = q := ⟨_, rfl⟩
      rw [hx1', e1] at r1
      rw [e1] at k1
      have R1 : Hid (wr.ownsRow m 108 5 (.slice a1 n1 c1) n1 x1) := r1
      have rr := R.out
      obtain ⟨F, hF⟩ : ∃ A, D.F = A := ⟨_, rfl⟩
      obtain ⟨T', hT⟩ : ∃ A, D.T = A := ⟨_, rfl⟩
      obtain ⟨C, hC⟩ : ∃ A, D.C = A := ⟨_, rfl⟩
      obtain ⟨S, hS⟩ : ∃ A, D.S = A := ⟨_, rfl⟩
      rw [e1, hF, hT, hC, hS] at rr
      have RR : Hid (wr.ownsRow lo 34 5 (.slice (some ⟨B, 0, none⟩) n cap) n (zs ++ .string F :: .string T' :: .int .i64 C :: .slice a1 n1 c1 :: .int .i64 S :: cellsBk V2)) := rr
      have NB : Hid ((Value.slice a1 n1 c1).ownBlock ≠ some B) := own_ne RR.out r1 (by decide) B rfl
      have KK : Hid (∀ g, (Value.slice a1 n1 c1).ownBlock = some g → m ≤ g ∧ g < m') := fun g e => ⟨(r1.lt g e).1, k1 g e⟩
      have O3' : Hid (OwnsBs wr m' hi V2 H2) := O3
      have CL : Hid (zs.length = j * 5) := hz.out
      clear r1 k1 rr hl2 hm O3 hx1' hF hT hC hS R O2 hx hl hz e1
      go_wp2_with fail
      refine (markText x _ hx0 (by omega)).mono ?_
      rintro e w1 ⟨rfl, hb1⟩
      have S1 : Hid (w1.ownsRow lo 34 5 (.slice (some ⟨B, 0, none⟩) n cap) n (zs ++ .string F :: .string T' :: .int .i64 C :: .slice a1 n1 c1 :: .int .i64 S :: cellsBk V2)) := own_below RR.out hb1
      have Q1 : Hid (w1.ownsRow m 108 5 (.slice a1 n1 c1) n1 x1) := own_below R1.out hb1
      have P1 : Hid (OwnsBs w1 m' hi V2 H2) := O3'.out.below hb1
      have T1 : Hid (Turned lo hi w w1) := T.out.trans (Turned.of_below hb1)
      clear hb1 RR R1 O3' T
      obtain ⟨o0, q0⟩ := bown_at S1.out (bmid0 _ _ _ _ _ _ _ _ CL.out)
      have hset : Hid (∀ (X0 : Value) (c0 c1' c2 c3 c4 : Value) (Y : List Value), (zs ++ c0 :: c1' :: c2 :: c3 :: c4 :: Y).set (j * 5) X0 = zs ++ X0 :: c1' :: c2 :: c3 :: c4 :: Y ∧ (zs ++ c0 :: c1' :: c2 :: c3 :: c4 :: Y).set (j * 5 + 1) X0 = zs ++ c0 :: X0 :: c2 :: c3 :: c4 :: Y ∧ (zs ++ c0 :: c1' :: c2 :: c3 :: c4 :: Y).set (j * 5 + 2) X0 = zs ++ c0 :: c1' :: X0 :: c3 :: c4 :: Y ∧ (zs ++ c0 :: c1' :: c2 :: c3 :: c4 :: Y).set (j * 5 + 4) X0 = zs ++ c0 :: c1' :: c2 :: c3 :: X0 :: Y ∧ j * 5 + 4 < (zs ++ c0 :: c1' :: c2 :: c3 :: c4 :: Y).length) := by
        intro X0 c0 c1' c2 c3 c4 Y
        rw [← CL.out]
        refine ⟨by simp, by simp, by simp, by simp, by simp⟩
      have s1 := own_set S1.out (j * 5) (by have := (hset.out (.string (markT x)) (.string F) (.string T') (.int .i64 C) (.slice a1 n1 c1) (.int .i64 S) (cellsBk V2)).2.2.2.2; omega) (.string (markT x))
      rw [(hset.out _ _ _ _ _ _ _).1] at s1
      have S1' : Hid ((w1.setCell ⟨B, j * 5, none⟩ (.string (markT x))).ownsRow lo 34 5 (.slice (some ⟨B, 0, none⟩) n cap) n (zs ++ .string (markT x) :: .string T' :: .int .i64 C :: .slice a1 n1 c1 :: .int .i64 S :: cellsBk V2)) := s1
      have Q1' : Hid ((w1.setCell ⟨B, j * 5, none⟩ (.string (markT x))).ownsRow m 108 5 (.slice a1 n1 c1) n1 x1) := own_setOther Q1.out NB.out _
      have P1' : Hid (OwnsBs (w1.setCell ⟨B, j * 5, none⟩ (.string (markT x))) m' hi V2 H2) := P1.out.setKind (Lib.ownsRow_kind S1.out B rfl) _
      have T1' : Hid (Turned lo hi w (w1.setCell ⟨B, j * 5, none⟩ (.string (markT x)))) := T1.out.trans (Turned.of_grown (gb_set (gb_refl _ _) _ _) (fun q e => by cases e; exact HB.out))
      clear s1 S1 Q1 P1 T1
      go_wp2_with fail
      first | rw [show ((x : Int) + 1) = ((x + 1 : Nat) : Int) from by omega]
      refine (markText (x + 1) _ (by omega) (by omega)).mono ?_
      rintro e w2 ⟨rfl, hb2⟩
      have S2 : Hid (w2.ownsRow lo 34 5 (.slice (some ⟨B, 0, none⟩) n cap) n (zs ++ .string (markT x) :: .string T' :: .int .i64 C :: .slice a1 n1 c1 :: .int .i64 S :: cellsBk V2)) := own_below S1'.out hb2
      have Q2 : Hid (w2.ownsRow m 108 5 (.slice a1 n1 c1) n1 x1) := own_below Q1'.out hb2
      have P2 : Hid (OwnsBs w2 m' hi V2 H2) := P1'.out.below hb2
      have T2 : Hid (Turned lo hi w w2) := T1'.out.trans (Turned.of_below hb2)
      clear hb2 S1' Q1' P1' T1' o0 q0
      obtain ⟨o1, q1⟩ := bown_at S2.out (bmid1 _ _ _ _ _ _ _ _ CL.out)
      obtain ⟨o2, q2⟩ := bown_at S2.out (bmid2 _ _ _ _ _ _ _ _ CL.out)
      obtain ⟨o3, q3⟩ := bown_at S2.out (bmid3 _ _ _ _ _ _ _ _ CL.out)
      have o2' := boff_other (x := .string (markT (x + 1))) o2 (j := j * 5 + 1) (by omega)
      have o3' := boff_other (x := .int .i64 ((x : Int) + 2)) (boff_other (x := .string (markT (x + 1))) o3 (j := j * 5 + 1) (by omega)) (j := j * 5 + 2) (by omega)
      have o3'' := boff_other (x := .int .i64 ((x : Int) + 1 + 1)) (boff_other (x := .string (markT (x + 1))) o3 (j := j * 5 + 1) (by omega)) (j := j * 5 + 2) (by omega)
      obtain ⟨E2, hE2⟩ : ∃ E, ((w2.setCell ⟨B, j * 5 + 1, none⟩ (.string (markT (x + 1)))).setCell ⟨B, j * 5 + 2, none⟩ (.int .i64 ((x : Int) + 2))) = E := ⟨_, rfl⟩
      have HE2 : Hid (((w2.setCell ⟨B, j * 5 + 1, none⟩ (.string (markT (x + 1)))).setCell ⟨B, j * 5 + 2, none⟩ (.int .i64 ((x : Int) + 2))) = E2) := hE2
      have s2 := own_set S2.out (j * 5 + 1) (by have := (hset.out (.string (markT x)) (.string (markT x)) (.string T') (.int .i64 C) (.slice a1 n1 c1) (.int .i64 S) (cellsBk V2)).2.2.2.2; omega) (.string (markT (x + 1)))
      rw [(hset.out _ _ _ _ _ _ _).2.1] at s2
      have s3 := own_set s2 (j * 5 + 2) (by have := (hset.out (.string (markT x)) (.string (markT x)) (.string (markT (x + 1))) (.int .i64 C) (.slice a1 n1 c1) (.int .i64 S) (cellsBk V2)).2.2.2.2; omega) (.int .i64 ((x : Int) + 2))
      rw [(hset.out _ _ _ _ _ _ _).2.2.1] at s3
      have S3 : Hid (E2.ownsRow lo 34 5 (.slice (some ⟨B, 0, none⟩) n cap) n (zs ++ .string (markT x) :: .string (markT (x + 1)) :: .int .i64 ((x : Int) + 2) :: .slice a1 n1 c1 :: .int .i64 S :: cellsBk V2)) := by rw [← hE2]; exact s3
      have Q3 : Hid (E2.ownsRow m 108 5 (.slice a1 n1 c1) n1 x1) := by rw [← hE2]; exact own_setOther (own_setOther Q2.out NB.out _) NB.out _
      have P3 : Hid (OwnsBs E2 m' hi V2 H2) := by rw [← hE2]; exact (P2.out.setKind (Lib.ownsRow_kind S2.out B rfl) _).setKind (Lib.ownsRow_kind s2 B rfl) _
      have T3 : Hid (Turned lo hi w E2) := by rw [← hE2]; exact (T2.out.trans (Turned.of_grown (gb_set (gb_refl _ _) _ _) (fun q e => by cases e; exact HB.out))).trans (Turned.of_grown (gb_set (gb_refl _ _) _ _) (fun q e => by cases e; exact HB.out))
      clear s2 s3 S2 Q2 P2 T2 o2 o3 hE2
      go_wp2_with fail
      first | rw [show ((x : Int) + 1 + 1) = ((x : Int) + 2) from by omega] | skip
      rw [HE2.out]
      first | rw [show ((x : Int) + 3) = ((x + 3 : Nat) : Int) from by omega] | rw [show ((x : Int) + 2 + 1) = ((x + 3 : Nat) : Int) from by omega] | rw [show ((x : Int) + 1 + 2) = ((x + 3 : Nat) : Int) from by omega] | rw [show ((x : Int) + 1 + 1 + 1) = ((x + 3 : Nat) : Int) from by omega]
      refine (markDiffS _ n1 (x + 3) m x1 _ hbd.out.2.1 (by omega) (by have := hbd.out.1; omega) Q3.out).mono ?_
      rintro e w3 ⟨rfl, g1, _⟩
      have S4 : Hid (w3.ownsRow lo 34 5 (.slice (some ⟨B, 0, none⟩) n cap) n (zs ++ .string (markT x) :: .string (markT (x + 1)) :: .int .i64 ((x : Int) + 2) :: .slice a1 n1 c1 :: .int .i64 S :: cellsBk V2)) := own_grown S3.out g1 (fun g e e2 => by cases e; exact NB.out e2)
      have T34 : Hid (Turned m m' E2 w3) := Turned.of_grown g1 KK.out
      have P4 : Hid (OwnsBs w3 m' hi V2 H2) := P3.out.turned T34.out (.inr (Nat.le_refl _))
      have T4 : Hid (Turned lo hi w w3) := T3.out.trans ⟨T34.out.os, T34.out.tape, T34.out.output, T34.out.size, fun q hq hr => T34.out.block q hq (by have := hlm.out; have := hm'.out; omega)⟩
      clear g1 S3 Q3 P3 T3 T34 HE2 o1 q1 q2 q3 o2' o3' o3''
      obtain ⟨o4, q4⟩ := bown_at S4.out (bmid4 _ _ _ _ _ _ _ _ CL.out)
      have hkk : ((x + 3 + n1 * 5 : Nat) : Int) + 1 = ((x + 4 + n1 * 5 : Nat) : Int) := by omega
      obtain ⟨X4, hX4⟩ : ∃ X : Int, ((x + 3 + n1 * 5 : Nat) : Int) = X := ⟨_, rfl⟩
      have HX4 : Hid (((x + 3 + n1 * 5 : Nat) : Int) = X4) := hX4
      have hXb : 0 ≤ X4 ∧ X4 ≤ 6291456 := by have := hbd.out.1; omega
      rw [hX4]
      clear hX4 hkk
      have s4 := own_set S4.out (j * 5 + 4) (hset.out (.string (markT x)) (.string (markT x)) (.string (markT (x + 1))) (.int .i64 ((x : Int) + 2)) (.slice a1 n1 c1) (.int .i64 S) (cellsBk V2)).2.2.2.2 (.int .i64 X4)
      rw [(hset.out _ _ _ _ _ _ _).2.2.2.1] at s4
      have S5 : Hid ((w3.setCell ⟨B, j * 5 + 4, none⟩ (.int .i64 X4)).ownsRow lo 34 5 (.slice (some ⟨B, 0, none⟩) n cap) n ((zs ++ [.string (markT x), .string (markT (x + 1)), .int .i64 ((x : Int) + 2), .slice a1 n1 c1, .int .i64 X4]) ++ cellsBk V2)) := own_congr s4 (by simp)
      have P5 : Hid (OwnsBs (w3.setCell ⟨B, j * 5 + 4, none⟩ (.int .i64 X4)) m' hi V2 H2) := P4.out.setKind (Lib.ownsRow_kind S4.out B rfl) _
      have T5 : Hid (Turned lo hi w (w3.setCell ⟨B, j * 5 + 4, none⟩ (.int .i64 X4))) := T4.out.trans (Turned.of_grown (gb_set (gb_refl _ _) _ _) (fun q e => by cases e; exact HB.out))
      clear s4 S4 P4 T4
      go_wp2_with fail
      exact ⟨⟨j + 1, x + 4 + n1 * 5, m', _, V2, H2, by omega, by go_num, by have := HX4.out; first | (congr 1; omega) | go_num, by omega, by have := hbd.out.1; omega, by show _ ∧ _; have := hbd.out.1; have := hbd.out.2.2; omega, HL2.out, by show _ = _; rw [List.length_append, CL.out]; simp; omega, by show _ ≤ _; have := hlm.out; have := hm'.out; omega, P5.out, S5.out, T5.out⟩, by simp [RowKit.intOf]; omega⟩
    · have F : Hid (Turned lo hi w wr) := T.out
      clear hl hx O2 R T V0 R0
      go_wp2_with fail
      go_ret
      first | exact ⟨⟨x, rfl⟩, F.out⟩ | exact ⟨x, rfl, F.out⟩
end Go.Proofs.YtmbndpgoihdpnaaGreatDoor
