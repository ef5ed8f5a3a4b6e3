
/-
  Backups that are owned; sizes and copies of rows of backups. By an AI agent.
-/
import Derived.Test.YtmbndpgoihdpnaaDoorBkq
import Derived.Lib.OwnKind
namespace Go.Proofs.YtmbndpgoihdpnaaDoor
open Go.ChangeShapes Go.WideShapes Go.ChangeAt Go.RowKit Go.Deep
set_option linter.unusedVariables false
set_option maxRecDepth 100000

/-- The backups V own H, each in blocks of its own, one behind the other, from lo up to hi. -/
def OwnsBs (w : World) : Nat → Nat → List BkV → List BM → Prop
  | lo, hi, [], [] => lo ≤ hi
  | lo, hi, v :: V, D :: H => ∃ m, lo ≤ m ∧ OwnsK w lo m v.val D ∧ OwnsBs w m hi V H
  | _, _, _, _ => False
theorem OwnsBs.len {w : World} : ∀ {V : List BkV} {H : List BM} {lo hi : Nat}, OwnsBs w lo hi V H → V.length = H.length
  | [], [], lo, hi, h => rfl
  | v :: V, D :: H, lo, hi, ⟨m, h1, _, h2⟩ => by rw [List.length_cons, List.length_cons, OwnsBs.len h2]
  | [], D :: H, _, _, h => False.elim h
  | v :: V, [], _, _, h => False.elim h
theorem OwnsBs.le {w : World} : ∀ {V : List BkV} {H : List BM} {lo hi : Nat}, OwnsBs w lo hi V H → lo ≤ hi
  | [], [], lo, hi, h => h
  | v :: V, D :: H, lo, hi, ⟨m, h1, _, h2⟩ => Nat.le_trans h1 (OwnsBs.le h2)
  | [], D :: H, _, _, h => False.elim h
  | v :: V, [], _, _, h => False.elim h
theorem OwnsBs.below {w w' : World} (hb : Below w.heap.size w w') : ∀ {V : List BkV} {H : List BM} {lo hi : Nat}, OwnsBs w lo hi V H → OwnsBs w' lo hi V H
  | [], [], lo, hi, h => h
  | v :: V, D :: H, lo, hi, ⟨m, h1, h3, h2⟩ => ⟨m, h1, h3.below hb, OwnsBs.below hb h2⟩
  | [], D :: H, _, _, h => False.elim h
  | v :: V, [], _, _, h => False.elim h
theorem OwnsBs.turned {w w' : World} {lo' hi' : Nat} (ht : Turned lo' hi' w w') : ∀ {V : List BkV} {H : List BM} {lo hi : Nat}, OwnsBs w lo hi V H → hi ≤ lo' ∨ hi' ≤ lo → OwnsBs w' lo hi V H
  | [], [], lo, hi, h, _ => h
  | v :: V, D :: H, lo, hi, ⟨m, h1, h3, h2⟩, hd => ⟨m, h1, h3.turned ht (by have := OwnsBs.le h2; omega), OwnsBs.turned ht h2 (by omega)⟩
  | [], D :: H, _, _, h, _ => False.elim h
  | v :: V, [], _, _, h, _ => False.elim h
theorem OwnsBs.snoc {w : World} {v : BkV} {D : BM} {m hi : Nat} (hv : OwnsK w m hi v.val D) (hm : m ≤ hi) : ∀ {V : List BkV} {H : List BM} {lo : Nat}, OwnsBs w lo m V H → OwnsBs w lo hi (V ++ [v]) (H ++ [D])
  | [], [], lo, h => ⟨hi, Nat.le_trans h hm, hv.mono h (Nat.le_refl _), Nat.le_refl _⟩
  | u :: V, E :: H, lo, ⟨m', h1, h3, h2⟩ => ⟨m', h1, h3, OwnsBs.snoc hv hm h2⟩
  | [], D :: H, _, h => False.elim h
  | v :: V, [], _, h => False.elim h
theorem OwnsBs.reads {w : World} : ∀ {V : List BkV} {H : List BM} {lo hi : Nat}, OwnsBs w lo hi V H → ∀ i, i < H.length → ReadsK w (V.getD i bv0).val (H.getD i bk0)
  | [], [], lo, hi, h, i, hi' => absurd hi' (by simp)
  | v :: V, D :: H, lo, hi, ⟨m, h1, h3, h2⟩, 0, _ => h3.reads
  | v :: V, D :: H, lo, hi, ⟨m, h1, h3, h2⟩, i + 1, hi' => OwnsBs.reads h2 i (by simpa using hi')
  | [], D :: H, _, _, h, _, _ => False.elim h
  | v :: V, [], _, _, h, _, _ => False.elim h
/-- v owns the backups H, in blocks from lo up to hi. -/
def OwnsBL (w : World) (lo hi : Nat) (v : Value) (n : Nat) (H : List BM) : Prop :=
  ∃ V, w.ownsRow lo 37 5 v n (cellsBk V) ∧ (∀ k, v.ownBlock = some k → k < hi) ∧ OwnsBs w lo hi V H
theorem OwnsBL.reads {w : World} {lo hi n : Nat} {a : Option Addr} {c : Nat} {H : List BM} (h : OwnsBL w lo hi (.slice a n c) n H) : ReadsBL w a H := by
  obtain ⟨V, h1, h2, h3⟩ := h
  obtain ⟨a', c', e, s, _⟩ := own_src h1
  cases e
  exact ⟨V, h3.len, s, h3.reads⟩
theorem OwnsBL.lit {w : World} {lo hi n : Nat} {v : Value} {H : List BM} (h : OwnsBL w lo hi v n H) : ∃ a c, v = .slice a n c ∧ H.length = n := by
  obtain ⟨V, h1, h2, h3⟩ := h
  obtain ⟨a', c', e, s, _⟩ := own_src h1
  have := h1.1
  rw [cellsBk_length] at this
  exact ⟨a', c', e, by have := h3.len; omega⟩
theorem OwnsBL.below {w w' : World} {lo hi n : Nat} {v : Value} {H : List BM} (h : OwnsBL w lo hi v n H) (hb : Below w.heap.size w w') : OwnsBL w' lo hi v n H := by
  obtain ⟨V, h1, h2, h3⟩ := h
  exact ⟨V, own_below h1 hb, h2, h3.below hb⟩
theorem OwnsBL.drew {w : World} {lo hi n : Nat} {v : Value} {H : List BM} (h : OwnsBL w lo hi v n H) : OwnsBL w.drew lo hi v n H := h.below (Below.drew (Below.refl _ _))
theorem OwnsK.setKind {w : World} {lo hi g i : Nat} {v : Value} {D : BM} (h : OwnsK w lo hi v D) (hk : ∃ c f, w.heap[g]? = some (.cells c 37 f)) (u : Value) : OwnsK (w.setCell ⟨g, i, none⟩ u) lo hi v D := by
  obtain ⟨v1, rfl, h1, k1⟩ := h
  exact ⟨v1, rfl, own_setOther h1 (own_notkind h1 hk (by decide)) u, k1⟩
theorem OwnsBs.setKind {w : World} {g i : Nat} (hk : ∃ c f, w.heap[g]? = some (.cells c 37 f)) (u : Value) : ∀ {V : List BkV} {H : List BM} {lo hi : Nat}, OwnsBs w lo hi V H → OwnsBs (w.setCell ⟨g, i, none⟩ u) lo hi V H
  | [], [], lo, hi, h => h
  | v :: V, D :: H, lo, hi, ⟨m, h1, h3, h2⟩ => ⟨m, h1, h3.setKind hk u, OwnsBs.setKind hk u h2⟩
  | [], D :: H, _, _, h => False.elim h
  | v :: V, [], _, _, h => False.elim h
theorem bmid0 (X Y : List Value) (u0 u1 u2 u3 u4 : Value) (m : Nat) (h : X.length = m) : (X ++ u0 :: u1 :: u2 :: u3 :: u4 :: Y)[m]? = some u0 := by
  subst h; rw [List.getElem?_append_right (by omega)]; simp
theorem bmid1 (X Y : List Value) (u0 u1 u2 u3 u4 : Value) (m : Nat) (h : X.length = m) : (X ++ u0 :: u1 :: u2 :: u3 :: u4 :: Y)[m + 1]? = some u1 := by
  subst h; rw [List.getElem?_append_right (by omega)]; simp
theorem bmid2 (X Y : List Value) (u0 u1 u2 u3 u4 : Value) (m : Nat) (h : X.length = m) : (X ++ u0 :: u1 :: u2 :: u3 :: u4 :: Y)[m + 2]? = some u2 := by
  subst h; rw [List.getElem?_append_right (by omega)]; simp
theorem bmid3 (X Y : List Value) (u0 u1 u2 u3 u4 : Value) (m : Nat) (h : X.length = m) : (X ++ u0 :: u1 :: u2 :: u3 :: u4 :: Y)[m + 3]? = some u3 := by
  subst h; rw [List.getElem?_append_right (by omega)]; simp
theorem bmid4 (X Y : List Value) (u0 u1 u2 u3 u4 : Value) (m : Nat) (h : X.length = m) : (X ++ u0 :: u1 :: u2 :: u3 :: u4 :: Y)[m + 4]? = some u4 := by
  subst h; rw [List.getElem?_append_right (by omega)]; simp
theorem bown_at {w : World} {base e s n g cap i : Nat} {xs : List Value} {u : Value} (h : w.ownsRow base e s (.slice (some ⟨g, 0, none⟩) n cap) n xs) (hi : xs[i]? = some u) : w.cell? ⟨g, i, none⟩ = some u ∧ w.frozen? ⟨g, i, none⟩ = false := by
  have := own_cell h (List.getElem?_eq_some_iff.1 hi).1
  rw [getD_some hi] at this
  exact this
theorem infoBk : (Tryd.prog.info? 37).map (fun i => (i.zero, i.size, i.bytes)) = some (some (.agg #[.string ⟨#[]⟩, .string ⟨#[]⟩, .int .i64 0, .slice none 0 0, .int .i64 0]), 5, 72) := by kernel_rfl
theorem run_make_rowsX {P : Program} (t e : TypeId) (z : Value) (s bytes n : Nat) (ht : P.underlying t = some (.slice e)) (hinfo : (P.info? e).map (fun i => (i.zero, i.size, i.bytes)) = some (some z, s, bytes)) (hb : bytes ≤ 128) (hn : n ≤ 1048576) (w : World) :
    (Instr.makeSlice t (.int .i64 (n : Int)) (.int .i64 (n : Int))).run P w = .ok (.slice (some ⟨w.heap.size, 0, none⟩) n n) (w.alloc (.cells (madeCells z.cells (n * s)) e)) := by
  obtain ⟨i, hi, hzz⟩ := Option.map_eq_some_iff.1 hinfo
  simp only [Prod.mk.injEq] at hzz
  obtain ⟨hz, hs, hby⟩ := hzz
  have hm : bytes * n ≤ 128 * 1048576 := Nat.mul_le_mul hb hn
  have hm' : (i.bytes : Int) * (n : Int) ≤ 281474976710656 := by
    rw [hby]
    have h : ((bytes * n : Nat) : Int) ≤ 281474976710656 := by omega
    rwa [Int.natCast_mul] at h
  have hr := run_make (P := P) w t e i z ht hi hz .i64 .i64 n n (by omega) (Int.le_refl _) hm' (by omega)
  simp only [Int.toNat_natCast, hs] at hr
  exact hr
theorem run_make_Bk (n : Nat) (hn : n ≤ 1048576) (w : World) : (Instr.makeSlice 27 (.int .i64 (n : Int)) (.int .i64 (n : Int))).run Tryd.prog w = .ok (.slice (some ⟨w.heap.size, 0, none⟩) n n) (w.alloc (.cells (madeCells #[.string ⟨#[]⟩, .string ⟨#[]⟩, .int .i64 0, .slice none 0 0, .int .i64 0] (n * 5)) 37)) :=
  run_make_rowsX 27 37 (.agg #[.string ⟨#[]⟩, .string ⟨#[]⟩, .int .i64 0, .slice none 0 0, .int .i64 0]) 5 72 n Tryd.underlying27 infoBk (by omega) hn w
theorem bset5 (X Y : List Value) (u0 u1 u2 u3 u4 x0 x1 x2 x3 x4 : Value) (m : Nat) (h : X.length = m) : (((((X ++ u0 :: u1 :: u2 :: u3 :: u4 :: Y).set m x0).set (m + 1) x1).set (m + 2) x2).set (m + 3) x3).set (m + 4) x4 = X ++ x0 :: x1 :: x2 :: x3 :: x4 :: Y := by
  subst h
  induction X with
  | nil => rfl
  | cons z X ih => 
    simp only [List.cons_append, List.length_cons, List.set_cons_succ, Nat.succ_add, Nat.add_right_comm _ 1] at ih ⊢
    rw [ih]
theorem bdrop5 (zs : List Value) (k n : Nat) (hz : zs.length = n * 5) (hk : k < n) : ∃ u0 u1 u2 u3 u4, zs.drop (k * 5) = u0 :: u1 :: u2 :: u3 :: u4 :: zs.drop ((k + 1) * 5) := by
  refine ⟨zs[k * 5], zs[k * 5 + 1], zs[k * 5 + 2], zs[k * 5 + 3], zs[k * 5 + 4], ?_⟩
  rw [List.drop_eq_getElem_cons (by omega), List.drop_eq_getElem_cons (by omega), List.drop_eq_getElem_cons (by omega), List.drop_eq_getElem_cons (by omega), List.drop_eq_getElem_cons (by omega), show (k + 1) * 5 = k * 5 + 1 + 1 + 1 + 1 + 1 by omega]
theorem boff_other {w : World} {B i j : Nat} {u x : Value} (h : w.cell? ⟨B, i, none⟩ = some u) (hne : i ≠ j) : (w.setCell ⟨B, j, none⟩ x).cell? ⟨B, i, none⟩ = some u := by
  rw [World.cell?_setCell_other _ _ _ _ (fun e => hne (congrArg Addr.off e).symm)]
  exact h
/-- How much a row of backups counts for. -/
def wtB (H : List BM) : Nat := (H.map fun D => 1 + D.D.length).sum
theorem wtB_append (H U : List BM) : wtB (H ++ U) = wtB H + wtB U := by simp [wtB]
theorem wtB_take {H : List BM} {k : Nat} {D : BM} (hk : k < H.length) (h : H.getD k bk0 = D) : wtB (H.take (k + 1)) = wtB (H.take k) + 1 + D.D.length := by
  have e : H.take (k + 1) = H.take k ++ [D] := by
    rw [List.take_succ_eq_append_getElem hk, ← h, List.getD_eq_getElem?_getD, List.getElem?_eq_getElem hk]; rfl
  rw [e, wtB_append]
  simp [wtB]; omega

set_option maxHeartbeats 1000000 in
theorem szBackupX (v : Value) (D : BM) (l : Int) (w : World) (hl0 : 0 ≤ l) (hl1 : l ≤ 1048576) (hm : maxK D) (h : ReadsK w v D) :
    Calls Tryd.prog 29 #[v, .int .i64 l] w fun e w' => ∃ r : Int, e = .returned (.int .i64 r) ∧ r ≤ l ∧ (0 ≤ r → r + D.D.length ≤ l ∧ smallK D) ∧ Below w.heap.size w w' := by
  obtain ⟨a, c, rfl, s1⟩ := h
  obtain ⟨n, hn⟩ : ∃ n, D.D.length = n := ⟨_, rfl⟩
  obtain ⟨F, hF⟩ : ∃ F, D.F = F := ⟨_, rfl⟩
  obtain ⟨T, hT⟩ : ∃ T, D.T = T := ⟨_, rfl⟩
  obtain ⟨C, hC⟩ : ∃ C, D.C = C := ⟨_, rfl⟩
  obtain ⟨S, hS⟩ : ∃ S, D.S = S := ⟨_, rfl⟩
  have HM : Hid (n ≤ maxLen ∧ ∀ x ∈ D.D, x.1.size ≤ maxLen ∧ x.2.1.size ≤ maxLen ∧ x.2.2.1.size ≤ maxLen) := by rw [← hn]; exact ⟨hm.1, hm.2.2.2⟩
  have hfm : F.size ≤ maxLen := by rw [← hF]; exact hm.2.1
  have htm : T.size ≤ maxLen := by rw [← hT]; exact hm.2.2.1
  unfold maxLen at hfm htm
  have S1 : Hid (Src w a (cellsDf D.D)) := s1
  rw [hn, hF, hT, hC, hS]
  have N1 : Hid (D.D.length = n ∧ D.F = F ∧ D.T = T) := ⟨hn, hF, hT⟩
  have A0 : Hid (Below w.heap.size w (w.alloc (.cells #[.string F, .string T, .int .i64 C, .slice a n c, .int .i64 S] 55))) := (Below.refl _ _).alloc (Nat.le_refl _) _
  clear hm s1 hn hF hT hC hS
  by_cases k1 : l - (F.size : Int) < 0
  · go_enter Tryd.func29, Tryd.ntmps29
    go_wp2_with fail
    go_ret
    exact ⟨-1, rfl, by omega, fun h => absurd h (by omega), A0.out⟩
  by_cases k2 : l - (F.size : Int) - (T.size : Int) < 0
  · go_enter Tryd.func29, Tryd.ntmps29
    go_wp2_with fail
    go_ret
    exact ⟨-1, rfl, by omega, fun h => absurd h (by omega), A0.out⟩
  go_enter Tryd.func29, Tryd.ntmps29
  go_wp2_with fail
  refine (szDiffS a n c D.D _ _ N1.out.1 HM.out.1 HM.out.2 (by omega) (by omega) (S1.out.below A0.out)).mono ?_
  rintro e w1 ⟨r, rfl, hr1, hr, hb1⟩
  have B1 : Hid (Below w.heap.size w w1) := Below.new hb1
  have HR : Hid (0 ≤ r → r + (n : Int) ≤ l ∧ smallK D) := fun h => ⟨by have h9 := (hr h).1; omega, by rw [N1.out.1]; exact (hr h).2.1, by rw [N1.out.2.1]; omega, by rw [N1.out.2.2]; omega, (hr h).2.2⟩
  clear hb1 hr
  by_cases hneg : r < 0
  · go_wp2_with fail
    go_ret
    exact ⟨-1, rfl, by omega, fun h => absurd h (by omega), B1.out⟩
  · go_wp2_with fail
    go_ret
    exact ⟨r, rfl, by omega, HR.out, B1.out⟩

set_option maxHeartbeats 1000000 in
theorem szBackupS (a : Option Addr) (n c : Nat) (H : List BM) (l : Int) (w : World) (hL : H.length = n) (hn : n ≤ maxLen) (hs : ∀ D ∈ H, maxK D) (h0 : 0 ≤ l) (h1 : l ≤ 1048576) (h : ReadsBL w a H) :
    Calls Tryd.prog 6 #[.slice a n c, .int .i64 l] w fun e w' => ∃ r : Int, e = .returned (.int .i64 r) ∧ r ≤ l ∧ (0 ≤ r → n ≤ 1048576 ∧ wtB H ≤ 1048576 ∧ ∀ D ∈ H, smallK D) ∧ Below w.heap.size w w' := by
  unfold maxLen at hn
  by_cases hbig : l < n
  · clear h hs hL
    go_enter Tryd.func6, Tryd.ntmps6
    go_wp2_with fail
    go_ret
    exact ⟨-1, rfl, by omega, fun h => absurd h (by omega), Below.refl _ _⟩
  have HS : Hid (∀ i, i < n → maxK (H.getD i bk0)) := fun i hi => hs _ (getD_memB H i (by omega))
  have HH : Hid (ReadsBL w a H) := h
  have HL : Hid (H.length = n) := hL
  clear hs h hL
  go_enter Tryd.func6, Tryd.ntmps6
  go_wp2_with fail
  go_loopw [1, 5] (fun v i wr => ∃ (k : Nat) (x : Int), k ≤ n ∧ i = .int .i64 k ∧ v = .int .i64 x ∧ 0 ≤ x ∧ x ≤ l ∧ Hid (x + wtB (H.take k) + (n - k : Nat) ≤ l) ∧ Hid (∀ i, i < k → smallK (H.getD i bk0)) ∧ Hid (Below w.heap.size w wr)) (fun _ i _ => n - (RowKit.intOf i).toNat)
  case atStart => exact ⟨0, _, by omega, rfl, rfl, by omega, by omega, by show _ ≤ _; rw [List.take_zero]; show _ + ((0 : Nat) : Int) + _ ≤ l; omega, fun i hi => absurd hi (by omega), Below.refl _ _⟩
  case round =>
    obtain ⟨k, x, hk, rfl, rfl, hx0, hx1, hwt, hall, hb⟩ := hrel
    by_cases hlt : k < n
    · obtain ⟨bk, o, D, a1, c1, rfl, r0, r1, r2, r3, r4, hD, hR⟩ := srcBk (HH.out.below hb.out) (i := k) (by rw [HL.out]; exact hlt)
      have HM : Hid (maxK D) := by show maxK D; rw [← hD.out]; exact HS.out k hlt
      go_wp2_with fail
      refine (szBackupX _ D x _ hx0 (by omega) HM.out hR.out).mono ?_
      rintro e w1 ⟨r, rfl, hr1, hr2, hb1⟩
      have HB1 : Hid (Below w.heap.size w w1) := hb.out.trans (hb1.mono hb.out.size)
      clear hb1 r0 r1 r2 r3 r4
      by_cases hneg : r < 0
      · clear hr2
        go_wp2_with fail
        go_ret
        exact ⟨-1, rfl, by omega, fun h => absurd h (by omega), HB1.out⟩
      · have hr3 := hr2 (by omega)
        have hall2 : Hid (∀ i, i < k + 1 → smallK (H.getD i bk0)) := fun i hi => by
          by_cases e : i = k
          · rw [e, hD.out]; exact hr3.2
          · exact hall.out i (by omega)
        have hwt2 : Hid (r + wtB (H.take (k + 1)) + (n - (k + 1) : Nat) ≤ l) := by
          show _ ≤ _
          rw [wtB_take (by rw [HL.out]; exact hlt) hD.out]
          have h8 := hwt.out
          have h7 := hr3.1
          omega
        clear hr2 hr3 hwt
        go_wp2_with fail
        exact ⟨⟨k + 1, _, by omega, by go_num, rfl, by omega, by omega, hwt2, hall2, HB1.out⟩, by simp [RowKit.intOf]; omega⟩
    · have hkn : k = n := by omega
      have hfin : Hid (n ≤ 1048576 ∧ wtB H ≤ 1048576 ∧ ∀ D ∈ H, smallK D) := by
        refine ⟨by omega, ?_, fun y hy => ?_⟩
        · have h8 := hwt.out
          rw [List.take_of_length_le (by rw [HL.out]; omega)] at h8
          omega
        obtain ⟨i, hi, rfl⟩ := List.getElem_of_mem hy
        have := hall.out i (by rw [hkn, ← HL.out]; exact hi)
        rw [List.getD_eq_getElem?_getD, List.getElem?_eq_getElem hi] at this
        exact this
      clear hkn
      go_wp2_with fail
      go_ret
      exact ⟨x, rfl, hx1, fun _ => hfin.out, hb.out⟩

set_option maxHeartbeats 2000000 in
theorem toBackupS (a : Option Addr) (n c : Nat) (H : List BM) (w : World) (hL : H.length = n) (hn : n ≤ 1048576) (hs : ∀ D ∈ H, smallK D) (h : ReadsBL w a H) :
    Calls Tryd.prog 8 #[.slice a n c] w fun e w' => ∃ v, e = .returned v ∧ OwnsBL w' w.heap.size w'.heap.size v n H ∧ Below w.heap.size w w' := by
  have hmk := run_make_Bk n hn
  have HH : Hid (ReadsBL w a H) := h
  have HL : Hid (H.length = n) := hL
  have HS : Hid (∀ i, i < n → smallK (H.getD i bk0)) := fun i hi => hs _ (getD_memB H i (by omega))
  clear h hs hL
  go_enter Tryd.func8, Tryd.ntmps8
  go_wp2_with fail
  clear hmk
  obtain ⟨zs, hz, ho⟩ := rows_made w #[.string ⟨#[]⟩, .string ⟨#[]⟩, .int .i64 0, .slice none 0 0, .int .i64 0] n 5 37 rfl (by omega) (by unfold maxLen; omega)
  have HZ : Hid (zs.length = n * 5) := hz
  have HO : Hid (World.ownsRow (w.alloc (.cells (madeCells #[.string ⟨#[]⟩, .string ⟨#[]⟩, .int .i64 0, .slice none 0 0, .int .i64 0] (n * 5)) 37)) w.heap.size 37 5 (.slice (some ⟨w.heap.size, 0, none⟩) n n) n zs) := ho
  clear hz ho
  go_loopw [4] (fun i wr => ∃ (k : Nat) (V : List BkV), k ≤ n ∧ i = .int .i64 k ∧ Hid (V.length = k) ∧ Hid (Below w.heap.size w wr) ∧ Hid (OwnsBs wr w.heap.size wr.heap.size V (H.take k)) ∧ Hid (wr.ownsRow w.heap.size 37 5 (.slice (some ⟨w.heap.size, 0, none⟩) n n) n (cellsBk V ++ zs.drop (k * 5)))) (fun i _ => n - (RowKit.intOf i).toNat)
  case atStart => exact ⟨0, [], by omega, rfl, rfl, (Below.refl _ _).alloc (Nat.le_refl _) _, by show _ ≤ _; simp, by simpa [Hid, cellsBk] using HO.out⟩
  case round =>
    obtain ⟨k, V, hk, rfl, hV, hb, hvs, ho⟩ := hrel
    by_cases hlt : k < n
    · obtain ⟨bk, o, D, a1, c1, rfl, r0, r1, r2, r3, r4, hD, hR⟩ := srcBk (HH.out.below hb.out) (i := k) (by rw [HL.out]; exact hlt)
      have SD : Hid (smallK D) := by show smallK D; rw [← hD.out]; exact HS.out k hlt
      have HT : Hid (H.take (k + 1) = H.take k ++ [D]) := by
        show _ = _
        rw [List.take_succ_eq_append_getElem (by rw [HL.out]; exact hlt), ← hD.out, List.getD_eq_getElem?_getD, List.getElem?_eq_getElem (by rw [HL.out]; exact hlt)]
        rfl
      go_wp2_with fail
      refine (toBackup _ D _ SD.out hR.out).mono ?_
      rintro e w1 ⟨v1, rfl, own1, hb1⟩
      obtain ⟨b1, d1, rfl⟩ := own1.lit
      have HB : Hid (Below w.heap.size w w1) := hb.out.trans (hb1.mono hb.out.size)
      have HV1 : Hid (OwnsBs w1 w.heap.size w1.heap.size (V ++ [⟨D.F, D.T, D.C, .slice b1 D.D.length d1, D.S⟩]) (H.take (k + 1))) := by
        show OwnsBs _ _ _ _ _
        rw [HT.out]
        exact OwnsBs.snoc own1 hb1.size (hvs.out.below hb1)
      obtain ⟨u0, u1, u2, u3, u4, hdr⟩ := bdrop5 zs k n HZ.out hlt
      have HO1 : Hid (w1.ownsRow w.heap.size 37 5 (.slice (some ⟨w.heap.size, 0, none⟩) n n) n (cellsBk V ++ u0 :: u1 :: u2 :: u3 :: u4 :: zs.drop ((k + 1) * 5))) := by
        have := own_below ho.out hb1
        rw [hdr] at this
        exact this
      have HCL : Hid ((cellsBk V).length = k * 5) := by show _ = _; rw [cellsBk_length, hV.out]
      clear hb hb1 ho r0 r1 r2 r3 r4 hvs own1 hdr
      obtain ⟨F, hF⟩ : ∃ A, D.F = A := ⟨_, rfl⟩
      obtain ⟨T, hT⟩ : ∃ A, D.T = A := ⟨_, rfl⟩
      obtain ⟨C, hC⟩ : ∃ A, D.C = A := ⟨_, rfl⟩
      obtain ⟨S, hS⟩ : ∃ A, D.S = A := ⟨_, rfl⟩
      obtain ⟨n1, hn1⟩ : ∃ n, D.D.length = n := ⟨_, rfl⟩
      rw [hF, hT, hC, hS, hn1] at HV1 ⊢
      clear hF hT hC hS hn1
      obtain ⟨x0, f0⟩ := bown_at HO1.out (bmid0 _ _ u0 u1 u2 u3 u4 _ HCL.out)
      obtain ⟨x1, f1⟩ := bown_at HO1.out (bmid1 _ _ u0 u1 u2 u3 u4 _ HCL.out)
      obtain ⟨x2, f2⟩ := bown_at HO1.out (bmid2 _ _ u0 u1 u2 u3 u4 _ HCL.out)
      obtain ⟨x3, f3⟩ := bown_at HO1.out (bmid3 _ _ u0 u1 u2 u3 u4 _ HCL.out)
      obtain ⟨x4, f4⟩ := bown_at HO1.out (bmid4 _ _ u0 u1 u2 u3 u4 _ HCL.out)
      have y1 := boff_other (x := .string F) x1 (j := k * 5) (by omega)
      have y2 := boff_other (x := .string T) (boff_other (x := .string F) x2 (j := k * 5) (by omega)) (j := k * 5 + 1) (by omega)
      have y3 := boff_other (x := .int .i64 C) (boff_other (x := .string T) (boff_other (x := .string F) x3 (j := k * 5) (by omega)) (j := k * 5 + 1) (by omega)) (j := k * 5 + 2) (by omega)
      have y4 := boff_other (x := .slice b1 n1 d1) (boff_other (x := .int .i64 C) (boff_other (x := .string T) (boff_other (x := .string F) x4 (j := k * 5) (by omega)) (j := k * 5 + 1) (by omega)) (j := k * 5 + 2) (by omega)) (j := k * 5 + 3) (by omega)
      have HF : Hid (OwnsBs (((((w1.setCell ⟨w.heap.size, k * 5, none⟩ (.string F)).setCell ⟨w.heap.size, k * 5 + 1, none⟩ (.string T)).setCell ⟨w.heap.size, k * 5 + 2, none⟩ (.int .i64 C)).setCell ⟨w.heap.size, k * 5 + 3, none⟩ (.slice b1 n1 d1)).setCell ⟨w.heap.size, k * 5 + 4, none⟩ (.int .i64 S)) w.heap.size w1.heap.size (V ++ [⟨F, T, C, .slice b1 n1 d1, S⟩]) (H.take (k + 1)) ∧ World.ownsRow (((((w1.setCell ⟨w.heap.size, k * 5, none⟩ (.string F)).setCell ⟨w.heap.size, k * 5 + 1, none⟩ (.string T)).setCell ⟨w.heap.size, k * 5 + 2, none⟩ (.int .i64 C)).setCell ⟨w.heap.size, k * 5 + 3, none⟩ (.slice b1 n1 d1)).setCell ⟨w.heap.size, k * 5 + 4, none⟩ (.int .i64 S)) w.heap.size 37 5 (.slice (some ⟨w.heap.size, 0, none⟩) n n) n (cellsBk (V ++ [⟨F, T, C, .slice b1 n1 d1, S⟩]) ++ zs.drop ((k + 1) * 5))) := by
        have hln : (cellsBk V ++ u0 :: u1 :: u2 :: u3 :: u4 :: zs.drop ((k + 1) * 5)).length = n * 5 := by
          rw [List.length_append, HCL.out]; simp [HZ.out]; omega
        have s0 := own_set HO1.out (k * 5) (by rw [hln]; omega) (.string F)
        have s1 := own_set s0 (k * 5 + 1) (by rw [List.length_set, hln]; omega) (.string T)
        have s2 := own_set s1 (k * 5 + 2) (by rw [List.length_set, List.length_set, hln]; omega) (.int .i64 C)
        have s3 := own_set s2 (k * 5 + 3) (by rw [List.length_set, List.length_set, List.length_set, hln]; omega) (.slice b1 n1 d1)
        have s4 := own_set s3 (k * 5 + 4) (by rw [List.length_set, List.length_set, List.length_set, List.length_set, hln]; omega) (.int .i64 S)
        rw [bset5 _ _ _ _ _ _ _ _ _ _ _ _ _ HCL.out] at s4
        refine ⟨OwnsBs.setKind (Lib.ownsRow_kind s3 _ rfl) _ (OwnsBs.setKind (Lib.ownsRow_kind s2 _ rfl) _ (OwnsBs.setKind (Lib.ownsRow_kind s1 _ rfl) _ (OwnsBs.setKind (Lib.ownsRow_kind s0 _ rfl) _ (OwnsBs.setKind (Lib.ownsRow_kind HO1.out _ rfl) _ HV1.out)))), ?_⟩
        rw [cellsBk_append, List.append_assoc]
        exact s4
      clear HV1 HO1
      go_wp2_with fail
      refine ⟨⟨k + 1, V ++ [BkV.mk F T C (.slice b1 n1 d1) S], by omega, by go_num, by show _ = _; rw [List.length_append, hV.out]; rfl, ((((HB.out.setCell (Nat.le_refl _) _).setCell (Nat.le_refl _) _).setCell (Nat.le_refl _) _).setCell (Nat.le_refl _) _).setCell (Nat.le_refl _) _, ?_, HF.out.2⟩, by simp [RowKit.intOf]; omega⟩
      have := HF.out.1
      show OwnsBs _ _ _ _ _
      simp only [World.size_setCell]
      exact this
    · have hkn : k = n := by omega
      have HF : Hid (OwnsBL wr w.heap.size wr.heap.size (.slice (some ⟨w.heap.size, 0, none⟩) n n) n H) := by
        have h1 := hvs.out
        rw [List.take_of_length_le (by rw [HL.out]; omega)] at h1
        have h2 := ho.out
        rw [List.drop_eq_nil_of_le (by rw [HZ.out]; omega), List.append_nil] at h2
        exact ⟨V, h2, fun j e => (h2.lt j e).2, h1⟩
      clear hkn
      go_wp2_with fail
      go_ret
      exact ⟨_, rfl, HF.out, hb.out⟩
end Go.Proofs.YtmbndpgoihdpnaaDoor
