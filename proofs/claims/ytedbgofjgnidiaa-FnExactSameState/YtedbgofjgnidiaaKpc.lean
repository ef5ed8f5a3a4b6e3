
/-
  States that are owned; sizes and turnings of states. By an AI agent.
-/
import Derived.Test.YtedbgofjgnidiaaKpb
namespace Go.Proofs.Ytedbgofjgnidiaa
open Go.ChangeShapes Go.WideShapes Go.ChangeAt Go.RowKit Go.Deep
set_option linter.unusedVariables false
set_option maxRecDepth 100000

/-- The kept snapshots V own H, each in blocks of its own, one behind the other, from lo up to hi. -/
def OwnsKs (w : World) : Nat → Nat → List KeV → List KeM → Prop
  | lo, hi, [], [] => lo ≤ hi
  | lo, hi, v :: V, D :: H => ∃ m, lo ≤ m ∧ OwnsKe w lo m v.val D ∧ OwnsKs w m hi V H
  | _, _, _, _ => False
theorem OwnsKs.len {w : World} : ∀ {V : List KeV} {H : List KeM} {lo hi : Nat}, OwnsKs w lo hi V H → V.length = H.length
  | [], [], lo, hi, h => rfl
  | v :: V, D :: H, lo, hi, ⟨m, h1, _, h2⟩ => by rw [List.length_cons, List.length_cons, OwnsKs.len h2]
  | [], D :: H, _, _, h => False.elim h
  | v :: V, [], _, _, h => False.elim h
theorem OwnsKs.below {w w' : World} (hb : Below w.heap.size w w') : ∀ {V : List KeV} {H : List KeM} {lo hi : Nat}, OwnsKs w lo hi V H → OwnsKs w' lo hi V H
  | [], [], lo, hi, h => h
  | v :: V, D :: H, lo, hi, ⟨m, h1, h3, h2⟩ => ⟨m, h1, h3.below hb, OwnsKs.below hb h2⟩
  | [], D :: H, _, _, h => False.elim h
  | v :: V, [], _, _, h => False.elim h
theorem OwnsKs.snoc {w : World} {v : KeV} {D : KeM} {m hi : Nat} (hv : OwnsKe w m hi v.val D) (hm : m ≤ hi) : ∀ {V : List KeV} {H : List KeM} {lo : Nat}, OwnsKs w lo m V H → OwnsKs w lo hi (V ++ [v]) (H ++ [D])
  | [], [], lo, h => ⟨hi, Nat.le_trans h hm, hv.mono h (Nat.le_refl _), Nat.le_refl _⟩
  | u :: V, E :: H, lo, ⟨m', h1, h3, h2⟩ => ⟨m', h1, h3, OwnsKs.snoc hv hm h2⟩
  | [], D :: H, _, h => False.elim h
  | v :: V, [], _, h => False.elim h
theorem OwnsKs.reads {w : World} : ∀ {V : List KeV} {H : List KeM} {lo hi : Nat}, OwnsKs w lo hi V H → ∀ i, i < H.length → ReadsKe w (V.getD i kv0).val (H.getD i ke0)
  | [], [], lo, hi, h, i, hi' => absurd hi' (by simp)
  | v :: V, D :: H, lo, hi, ⟨m, h1, h3, h2⟩, 0, _ => h3.reads
  | v :: V, D :: H, lo, hi, ⟨m, h1, h3, h2⟩, i + 1, hi' => OwnsKs.reads h2 i (by simpa using hi')
  | [], D :: H, _, _, h, _, _ => False.elim h
  | v :: V, [], _, _, h, _, _ => False.elim h
/-- v owns the kept snapshots H, in blocks from lo up to hi. -/
def OwnsKL (w : World) (lo hi : Nat) (v : Value) (n : Nat) (H : List KeM) : Prop :=
  ∃ V, w.ownsRow lo 38 3 v n (cellsKe V) ∧ (∀ k, v.ownBlock = some k → k < hi) ∧ OwnsKs w lo hi V H
theorem OwnsKL.reads {w : World} {lo hi n : Nat} {a : Option Addr} {c : Nat} {H : List KeM} (h : OwnsKL w lo hi (.slice a n c) n H) : ReadsKL w a H := by
  obtain ⟨V, h1, h2, h3⟩ := h
  obtain ⟨a', c', e, s, _⟩ := own_src h1
  cases e
  exact ⟨V, h3.len, s, h3.reads⟩
theorem OwnsKL.lit {w : World} {lo hi n : Nat} {v : Value} {H : List KeM} (h : OwnsKL w lo hi v n H) : ∃ a c, v = .slice a n c ∧ H.length = n := by
  obtain ⟨V, h1, h2, h3⟩ := h
  obtain ⟨a', c', e, s, _⟩ := own_src h1
  have := h1.1
  rw [cellsKe_length] at this
  exact ⟨a', c', e, by have := h3.len; omega⟩
theorem OwnsKe.setKind {w : World} {lo hi g i : Nat} {v : Value} {D : KeM} (h : OwnsKe w lo hi v D) (hk : ∃ c f, w.heap[g]? = some (.cells c 38 f)) (u : Value) : OwnsKe (w.setCell ⟨g, i, none⟩ u) lo hi v D := by
  obtain ⟨v1, rfl, h1, k1⟩ := h
  exact ⟨v1, rfl, own_setOther h1 (own_notkind h1 hk (by decide)) u, k1⟩
theorem OwnsKs.setKind {w : World} {g i : Nat} (hk : ∃ c f, w.heap[g]? = some (.cells c 38 f)) (u : Value) : ∀ {V : List KeV} {H : List KeM} {lo hi : Nat}, OwnsKs w lo hi V H → OwnsKs (w.setCell ⟨g, i, none⟩ u) lo hi V H
  | [], [], lo, hi, h => h
  | v :: V, D :: H, lo, hi, ⟨m, h1, h3, h2⟩ => ⟨m, h1, h3.setKind hk u, OwnsKs.setKind hk u h2⟩
  | [], D :: H, _, _, h => False.elim h
  | v :: V, [], _, _, h => False.elim h
theorem OwnsKs.low3 {w : World} {p : Addr} : ∀ {V : List KeV} {H : List KeM} {lo hi : Nat}, OwnsKs w lo hi V H → p.block < lo → ∀ u, OwnsKs (w.setCell p u) lo hi V H
  | [], [], lo, hi, h, _, _ => h
  | v :: V, D :: H, lo, hi, ⟨m, h1, ⟨v1, e1, h3, h4⟩, h2⟩, hp, u => ⟨m, h1, ⟨v1, e1, own_setLow h3 hp u, h4⟩, OwnsKs.low3 h2 (Nat.lt_of_lt_of_le hp h1) u⟩
  | [], D :: H, _, _, h, _, _ => False.elim h
  | v :: V, [], _, _, h, _, _ => False.elim h
theorem kmid0 (X Y : List Value) (u0 u1 u2 : Value) (m : Nat) (h : X.length = m) : (X ++ u0 :: u1 :: u2 :: Y)[m]? = some u0 := by
  subst h; rw [List.getElem?_append_right (by omega)]; simp
theorem kmid1 (X Y : List Value) (u0 u1 u2 : Value) (m : Nat) (h : X.length = m) : (X ++ u0 :: u1 :: u2 :: Y)[m + 1]? = some u1 := by
  subst h; rw [List.getElem?_append_right (by omega)]; simp
theorem kmid2 (X Y : List Value) (u0 u1 u2 : Value) (m : Nat) (h : X.length = m) : (X ++ u0 :: u1 :: u2 :: Y)[m + 2]? = some u2 := by
  subst h; rw [List.getElem?_append_right (by omega)]; simp
theorem kown_at {w : World} {base e s n g cap i : Nat} {xs : List Value} {u : Value} (h : w.ownsRow base e s (.slice (some ⟨g, 0, none⟩) n cap) n xs) (hi : xs[i]? = some u) : w.cell? ⟨g, i, none⟩ = some u ∧ w.frozen? ⟨g, i, none⟩ = false := by
  have := own_cell h (List.getElem?_eq_some_iff.1 hi).1
  rw [getD_some hi] at this
  exact this
theorem infoKe : (Try.prog.info? 38).map (fun i => (i.zero, i.size, i.bytes)) = some (some (.agg #[.string ⟨#[]⟩, .int .i64 0, .slice none 0 0]), 3, 48) := by kernel_rfl
theorem run_make_Ke (n : Nat) (hn : n ≤ 1048576) (w : World) : (Instr.makeSlice 29 (.int .i64 (n : Int)) (.int .i64 (n : Int))).run Try.prog w = .ok (.slice (some ⟨w.heap.size, 0, none⟩) n n) (w.alloc (.cells (madeCells #[.string ⟨#[]⟩, .int .i64 0, .slice none 0 0] (n * 3)) 38)) :=
  run_make_rows 29 38 (.agg #[.string ⟨#[]⟩, .int .i64 0, .slice none 0 0]) 3 48 n Try.underlying29 infoKe (by omega) hn w
theorem kset3 (X Y : List Value) (u0 u1 u2 x0 x1 x2 : Value) (m : Nat) (h : X.length = m) : (((X ++ u0 :: u1 :: u2 :: Y).set m x0).set (m + 1) x1).set (m + 2) x2 = X ++ x0 :: x1 :: x2 :: Y := by
  subst h
  induction X with
  | nil => rfl
  | cons z X ih => 
    simp only [List.cons_append, List.length_cons, List.set_cons_succ, Nat.succ_add, Nat.add_right_comm _ 1] at ih ⊢
    rw [ih]
theorem kdrop3 (zs : List Value) (k n : Nat) (hz : zs.length = n * 3) (hk : k < n) : ∃ u0 u1 u2, zs.drop (k * 3) = u0 :: u1 :: u2 :: zs.drop ((k + 1) * 3) := by
  refine ⟨zs[k * 3], zs[k * 3 + 1], zs[k * 3 + 2], ?_⟩
  rw [List.drop_eq_getElem_cons (by omega), List.drop_eq_getElem_cons (by omega), List.drop_eq_getElem_cons (by omega), show (k + 1) * 3 = k * 3 + 1 + 1 + 1 by omega]
theorem koff_other {w : World} {B i j : Nat} {u x : Value} (h : w.cell? ⟨B, i, none⟩ = some u) (hne : i ≠ j) : (w.setCell ⟨B, j, none⟩ x).cell? ⟨B, i, none⟩ = some u := by
  rw [World.cell?_setCell_other _ _ _ _ (fun e => hne (congrArg Addr.off e).symm)]
  exact h

set_option maxHeartbeats 1000000 in
theorem szKeptS (a : Option Addr) (n c : Nat) (H : List KeM) (l : Int) (w : World) (hL : H.length = n) (hn : n ≤ maxLen) (hs : ∀ D ∈ H, maxKe D) (h0 : 0 ≤ l) (h1 : l ≤ 1048576) (h : ReadsKL w a H) :
    Calls Try.prog 10 #[.slice a n c, .int .i64 l] w fun e w' => ∃ r : Int, e = .returned (.int .i64 r) ∧ r ≤ l ∧ (0 ≤ r → n ≤ 1048576 ∧ ∀ D ∈ H, smallKe D) ∧ Below w.heap.size w w' := by
  unfold maxLen at hn
  by_cases hbig : l < n
  · clear h hs hL
    go_enter Try.func10, Try.ntmps10
    go_wp2_with fail
    go_ret
    exact ⟨-1, rfl, by omega, fun h => absurd h (by omega), Below.refl _ _⟩
  have HS : Hid (∀ i, i < n → maxKe (H.getD i ke0)) := fun i hi => hs _ (getD_memK H i (by omega))
  have HH : Hid (ReadsKL w a H) := h
  have HL : Hid (H.length = n) := hL
  clear hs h hL
  go_enter Try.func10, Try.ntmps10
  go_wp2_with fail
  go_loopw [1, 5] (fun v i wr => ∃ (k : Nat) (x : Int), k ≤ n ∧ i = .int .i64 k ∧ v = .int .i64 x ∧ 0 ≤ x ∧ x ≤ l ∧ Hid (∀ i, i < k → smallKe (H.getD i ke0)) ∧ Hid (Below w.heap.size w wr)) (fun _ i _ => n - (RowKit.intOf i).toNat)
  case atStart => exact ⟨0, _, by omega, rfl, rfl, by omega, by omega, fun i hi => absurd hi (by omega), Below.refl _ _⟩
  case round =>
    obtain ⟨k, x, hk, rfl, rfl, hx0, hx1, hall, hb⟩ := hrel
    by_cases hlt : k < n
    · obtain ⟨bk, o, D, a1, c1, rfl, r0, r1, r2, hD, hR⟩ := srcKe (HH.out.below hb.out) (i := k) (by rw [HL.out]; exact hlt)
      have HM : Hid (maxKe D) := by show maxKe D; rw [← hD.out]; exact HS.out k hlt
      go_wp2_with fail
      refine (szKept _ D x _ hx0 (by omega) HM.out hR.out).mono ?_
      rintro e w1 ⟨r, rfl, hr1, hr2, hb1⟩
      have HB1 : Hid (Below w.heap.size w w1) := hb.out.trans (hb1.mono hb.out.size)
      clear hb1 r0 r1 r2
      by_cases hneg : r < 0
      · clear hr2
        go_wp2_with fail
        go_ret
        exact ⟨-1, rfl, by omega, fun h => absurd h (by omega), HB1.out⟩
      · have hr3 := hr2 (by omega)
        have hall2 : Hid (∀ i, i < k + 1 → smallKe (H.getD i ke0)) := fun i hi => by
          by_cases e : i = k
          · rw [e, hD.out]; exact hr3.2
          · exact hall.out i (by omega)
        clear hr2 hr3
        go_wp2_with fail
        exact ⟨⟨k + 1, _, by omega, by go_num, rfl, by omega, by omega, hall2, HB1.out⟩, by simp [RowKit.intOf]; omega⟩
    · have hkn : k = n := by omega
      have hfin : Hid (n ≤ 1048576 ∧ ∀ D ∈ H, smallKe D) := by
        refine ⟨by omega, fun y hy => ?_⟩
        obtain ⟨i, hi, rfl⟩ := List.getElem_of_mem hy
        have := hall.out i (by rw [hkn, ← HL.out]; exact hi)
        rw [List.getD_eq_getElem?_getD, List.getElem?_eq_getElem hi] at this
        exact this
      clear hkn
      go_wp2_with fail
      go_ret
      exact ⟨x, rfl, hx1, fun _ => hfin.out, hb.out⟩

set_option maxHeartbeats 1000000 in
theorem szState (v : Value) (D : StM) (l : Int) (w : World) (h0 : 0 ≤ l) (h1 : l ≤ 1048576) (hm : maxSt D) (h : ReadsSt w v D) :
    Calls Try.prog 4 #[v, .int .i64 l] w fun e w' => ∃ r : Int, e = .returned (.int .i64 r) ∧ r ≤ l ∧ (0 ≤ r → smallSt D) ∧ Below w.heap.size w w' := by
  obtain ⟨a1, c1, a2, c2, rfl, s1, s2⟩ := h
  have S1 : Hid (Src w a1 (cellsP D.P)) := s1
  have S2 : Hid (ReadsKL w a2 D.H) := s2
  have HM : Hid (maxSt D) := hm
  obtain ⟨n1, hn1⟩ : ∃ n, D.P.length = n := ⟨_, rfl⟩
  obtain ⟨n2, hn2⟩ : ∃ n, D.H.length = n := ⟨_, rfl⟩
  rw [hn1, hn2]
  have N1 : Hid (D.P.length = n1) := hn1
  have N2 : Hid (D.H.length = n2) := hn2
  clear hm s1 s2 hn1 hn2
  go_enter Try.func4, Try.ntmps4
  go_wp2_with fail
  refine (szPairS a1 n1 c1 D.P l _ N1.out (by rw [← N1.out]; exact HM.out.1) HM.out.2.1 (by omega) (by omega) (S1.out.below ((Below.refl _ _).alloc (Nat.le_refl _) _))).mono ?_
  rintro e w1 ⟨r1, rfl, hl1', hr1, hb1⟩
  have B1 : Hid (Below w.heap.size w w1) := ((Below.refl _ _).alloc (Nat.le_refl _) _).trans (hb1.mono (by simp))
  have HA : Hid (Box w1 w.heap.size [.slice a1 n1 c1, .slice a2 n2 c2]) := Box.below (Box.new rfl) hb1
  have HR1 : Hid (0 ≤ r1 → r1 + n1 ≤ l ∧ n1 ≤ 1048576 ∧ ∀ x ∈ D.P, x.1.size ≤ 1048576 ∧ x.2.size ≤ 1048576) := hr1
  clear hb1 hr1
  by_cases hneg1 : r1 < 0
  · go_wp2_with fail
    go_ret
    exact ⟨-1, rfl, by omega, fun h => absurd h (by omega), B1.out⟩
  obtain ⟨p2, _⟩ := HA.out 1 _ rfl
  go_wp2_with fail
  refine (szKeptS a2 n2 c2 D.H r1 _ N2.out (by rw [← N2.out]; exact HM.out.2.2.1) HM.out.2.2.2 (by omega) (by omega) (S2.out.below B1.out)).mono ?_
  rintro e w2 ⟨r2, rfl, hl2, hr2, hb2⟩
  have B2 : Hid (Below w.heap.size w w2) := B1.out.trans (hb2.mono B1.out.size)
  have HR2 : Hid (0 ≤ r2 → n2 ≤ 1048576 ∧ ∀ D' ∈ D.H, smallKe D') := hr2
  clear hb2 hr2 HA p2
  by_cases hneg2 : r2 < 0
  · go_wp2_with fail
    go_ret
    exact ⟨-1, rfl, by omega, fun h => absurd h (by omega), B2.out⟩
  have HF : Hid (smallSt D) := by
    obtain ⟨x0, x1, x2⟩ := HR1.out (by omega)
    obtain ⟨y1, y2⟩ := HR2.out (by omega)
    unfold smallSt
    rw [N1.out, N2.out]
    exact ⟨x1, x2, y1, y2⟩
  go_wp2_with fail
  go_ret
  exact ⟨r2, rfl, by omega, fun _ => HF.out, B2.out⟩

set_option maxHeartbeats 2000000 in
theorem toKeptS (a : Option Addr) (n c : Nat) (H : List KeM) (w : World) (hL : H.length = n) (hn : n ≤ 1048576) (hs : ∀ D ∈ H, smallKe D) (h : ReadsKL w a H) :
    Calls Try.prog 13 #[.slice a n c] w fun e w' => ∃ v, e = .returned v ∧ OwnsKL w' w.heap.size w'.heap.size v n H ∧ Below w.heap.size w w' := by
  have hmk := run_make_Ke n hn
  have HH : Hid (ReadsKL w a H) := h
  have HL : Hid (H.length = n) := hL
  have HS : Hid (∀ D ∈ H, smallKe D) := hs
  clear h hL hs
  go_enter Try.func13, Try.ntmps13
  go_wp2_with fail
  clear hmk
  obtain ⟨zs, hz, ho⟩ := rows_made w #[.string ⟨#[]⟩, .int .i64 0, .slice none 0 0] n 3 38 rfl (by omega) (by unfold maxLen; omega)
  have HZ : Hid (zs.length = n * 3) := hz
  have HO : Hid (World.ownsRow (w.alloc (.cells (madeCells #[.string ⟨#[]⟩, .int .i64 0, .slice none 0 0] (n * 3)) 38)) w.heap.size 38 3 (.slice (some ⟨w.heap.size, 0, none⟩) n n) n zs) := ho
  clear hz ho
  go_loopw [4] (fun i wr => ∃ (k : Nat) (V : List KeV), k ≤ n ∧ i = .int .i64 k ∧ Hid (V.length = k) ∧ Hid (Below w.heap.size w wr) ∧ Hid (OwnsKs wr w.heap.size wr.heap.size V (H.take k)) ∧ Hid (wr.ownsRow w.heap.size 38 3 (.slice (some ⟨w.heap.size, 0, none⟩) n n) n (cellsKe V ++ zs.drop (k * 3)))) (fun i _ => n - (RowKit.intOf i).toNat)
  case atStart => exact ⟨0, [], by omega, rfl, rfl, (Below.refl _ _).alloc (Nat.le_refl _) _, by show OwnsKs _ _ _ [] []; exact (by simp : w.heap.size ≤ (w.alloc _).heap.size), by show World.ownsRow _ _ _ _ _ _ (cellsKe [] ++ zs.drop 0); exact HO.out⟩
  case round =>
    obtain ⟨k, V, hk, rfl, hV, hb, hvs, ho⟩ := hrel
    by_cases hlt : k < n
    · obtain ⟨bk, o, D, a1, c1, rfl, r0, r1, r2, hD, hR⟩ := srcKe (HH.out.below hb.out) (i := k) (by rw [HL.out]; exact hlt)
      have SD : Hid (smallKe D) := by show smallKe D; rw [← hD.out]; exact HS.out _ (getD_memK H k (by rw [HL.out]; exact hlt))
      have HT : Hid (H.take (k + 1) = H.take k ++ [D]) := by
        show _ = _
        rw [List.take_succ_eq_append_getElem (by rw [HL.out]; exact hlt), ← hD.out, List.getD_eq_getElem?_getD, List.getElem?_eq_getElem (by rw [HL.out]; exact hlt)]
        rfl
      go_wp2_with fail
      refine (toKept _ D _ SD.out hR.out).mono ?_
      rintro e w1 ⟨v1, rfl, own1, hb1⟩
      obtain ⟨b1, d1, rfl⟩ := own1.lit
      have HB : Hid (Below w.heap.size w w1) := hb.out.trans (hb1.mono hb.out.size)
      have HV1 : Hid (OwnsKs w1 w.heap.size w1.heap.size (V ++ [⟨D.S, D.T, .slice b1 D.P.length d1⟩]) (H.take (k + 1))) := by
        show OwnsKs _ _ _ _ _
        rw [HT.out]
        exact OwnsKs.snoc own1 hb1.size (hvs.out.below hb1)
      obtain ⟨u0, u1, u2, hdr⟩ := kdrop3 zs k n HZ.out hlt
      have HO1 : Hid (w1.ownsRow w.heap.size 38 3 (.slice (some ⟨w.heap.size, 0, none⟩) n n) n (cellsKe V ++ u0 :: u1 :: u2 :: zs.drop ((k + 1) * 3))) := by
        have := own_below ho.out hb1
        rw [hdr] at this
        exact this
      have HCL : Hid ((cellsKe V).length = k * 3) := by show _ = _; rw [cellsKe_length, hV.out]
      clear hb hb1 ho r0 r1 r2 hvs own1 hdr
      obtain ⟨S, hS⟩ : ∃ A, D.S = A := ⟨_, rfl⟩
      obtain ⟨T, hT⟩ : ∃ A, D.T = A := ⟨_, rfl⟩
      obtain ⟨n1, hn1⟩ : ∃ n, D.P.length = n := ⟨_, rfl⟩
      rw [hS, hT, hn1] at HV1 ⊢
      clear hS hT hn1
      obtain ⟨x0, f0⟩ := kown_at HO1.out (kmid0 _ _ u0 u1 u2 _ HCL.out)
      obtain ⟨x1, f1⟩ := kown_at HO1.out (kmid1 _ _ u0 u1 u2 _ HCL.out)
      obtain ⟨x2, f2⟩ := kown_at HO1.out (kmid2 _ _ u0 u1 u2 _ HCL.out)
      have y1 := koff_other (x := .string S) x1 (j := k * 3) (by omega)
      have y2 := koff_other (x := .int .i64 T) (koff_other (x := .string S) x2 (j := k * 3) (by omega)) (j := k * 3 + 1) (by omega)
      have HF : Hid (OwnsKs (((w1.setCell ⟨w.heap.size, k * 3, none⟩ (.string S)).setCell ⟨w.heap.size, k * 3 + 1, none⟩ (.int .i64 T)).setCell ⟨w.heap.size, k * 3 + 2, none⟩ (.slice b1 n1 d1)) w.heap.size w1.heap.size (V ++ [⟨S, T, .slice b1 n1 d1⟩]) (H.take (k + 1)) ∧ World.ownsRow (((w1.setCell ⟨w.heap.size, k * 3, none⟩ (.string S)).setCell ⟨w.heap.size, k * 3 + 1, none⟩ (.int .i64 T)).setCell ⟨w.heap.size, k * 3 + 2, none⟩ (.slice b1 n1 d1)) w.heap.size 38 3 (.slice (some ⟨w.heap.size, 0, none⟩) n n) n (cellsKe (V ++ [⟨S, T, .slice b1 n1 d1⟩]) ++ zs.drop ((k + 1) * 3))) := by
        have hln : (cellsKe V ++ u0 :: u1 :: u2 :: zs.drop ((k + 1) * 3)).length = n * 3 := by
          rw [List.length_append, HCL.out]; simp [HZ.out]; omega
        have s0 := own_set HO1.out (k * 3) (by rw [hln]; omega) (.string S)
        have s1 := own_set s0 (k * 3 + 1) (by rw [List.length_set, hln]; omega) (.int .i64 T)
        have s2 := own_set s1 (k * 3 + 2) (by rw [List.length_set, List.length_set, hln]; omega) (.slice b1 n1 d1)
        rw [kset3 _ _ _ _ _ _ _ _ _ HCL.out] at s2
        refine ⟨OwnsKs.setKind (Lib.ownsRow_kind s1 _ rfl) _ (OwnsKs.setKind (Lib.ownsRow_kind s0 _ rfl) _ (OwnsKs.setKind (Lib.ownsRow_kind HO1.out _ rfl) _ HV1.out)), ?_⟩
        rw [cellsKe_append, List.append_assoc]
        exact s2
      clear HV1 HO1
      go_wp2_with fail
      refine ⟨⟨k + 1, V ++ [KeV.mk S T (.slice b1 n1 d1)], by omega, by go_num, by show _ = _; rw [List.length_append, hV.out]; rfl, ((HB.out.setCell (Nat.le_refl _) _).setCell (Nat.le_refl _) _).setCell (Nat.le_refl _) _, ?_, HF.out.2⟩, by simp [RowKit.intOf]; omega⟩
      have := HF.out.1
      show OwnsKs _ _ _ _ _
      simp only [World.size_setCell]
      exact this
    · have hkn : k = n := by omega
      have HF : Hid (OwnsKL wr w.heap.size wr.heap.size (.slice (some ⟨w.heap.size, 0, none⟩) n n) n H) := by
        have h1 := hvs.out
        rw [List.take_of_length_le (by rw [HL.out]; omega)] at h1
        have h2 := ho.out
        rw [List.drop_eq_nil_of_le (by rw [HZ.out]; omega), List.append_nil] at h2
        exact ⟨V, h2, fun j e => (h2.lt j e).2, h1⟩
      clear hkn
      go_wp2_with fail
      go_ret
      exact ⟨_, rfl, HF.out, hb.out⟩

set_option maxHeartbeats 1000000 in
theorem toState (v : Value) (D : StM) (w : World) (hs : smallSt D) (h : ReadsSt w v D) :
    Calls Try.prog 6 #[v] w fun e w' => ∃ v', e = .returned v' ∧ (∃ a n c b m d, v' = .agg #[.slice a n c, .slice b m d]) ∧ ReadsSt w' v' D ∧ Below w.heap.size w w' := by
  obtain ⟨a1, c1, a2, c2, rfl, s1, s2⟩ := h
  obtain ⟨n1, hn1⟩ : ∃ n, D.P.length = n := ⟨_, rfl⟩
  obtain ⟨n2, hn2⟩ : ∃ n, D.H.length = n := ⟨_, rfl⟩
  have HS : Hid (smallSt D) := hs
  have S1 : Hid (Src w a1 (cellsP D.P)) := s1
  have S2 : Hid (ReadsKL w a2 D.H) := s2
  have NS : Hid (n1 ≤ 1048576 ∧ n2 ≤ 1048576) := by rw [← hn1, ← hn2]; exact ⟨hs.1, hs.2.2.1⟩
  rw [hn1, hn2]
  have N1 : Hid (D.P.length = n1) := hn1
  have N2 : Hid (D.H.length = n2) := hn2
  clear hs s1 s2 hn1 hn2
  go_enter Try.func6, Try.ntmps6
  go_wp2_with fail
  refine (toPairS a1 n1 c1 D.P _ N1.out NS.out.1 (S1.out.below ((((Below.refl _ _).alloc (Nat.le_refl _) _).alloc (by simp) _).alloc (by simp; omega) _))).mono ?_
  rintro e w1 ⟨v1, rfl, o1, hb1⟩
  obtain ⟨b1, d1, rfl, _, _⟩ := own_src o1
  have B1 : Hid (Below w.heap.size w w1) := ((((Below.refl _ _).alloc (Nat.le_refl _) _).alloc (by simp) _).alloc (by simp; omega) _).trans (hb1.mono (by simp; omega))
  have HA : Hid (Box w1 w.heap.size [.slice a1 n1 c1, .slice a2 n2 c2]) := Box.below (((Box.new rfl).old _).old _) hb1
  have HR : Hid (Box w1 (w.heap.size + 1) [.slice none 0 0, .slice none 0 0]) := Box.below ((Box.new (by simp)).old _) hb1
  have HO : Hid (Box w1 (w.heap.size + 1 + 1) [.slice none 0 0, .slice none 0 0]) := Box.below (Box.new (by simp)) hb1
  have O1 : Hid (w1.ownsRow (w.heap.size + 3) 42 2 (.slice b1 n1 d1) n1 (cellsP D.P)) := own_mono o1 (by simp)
  clear o1 hb1
  obtain ⟨p2, _⟩ := HA.out 1 _ rfl
  have p2' : (w1.setCell ⟨w.heap.size + 1 + 1, 0, none⟩ (.slice b1 n1 d1)).cell? ⟨w.heap.size, 1, none⟩ = some (.slice a2 n2 c2) := ((HA.out.other _ (by dsimp only; omega) _) 1 _ rfl).1
  obtain ⟨q1', q1f⟩ := HO.out 0 _ rfl
  go_wp2_with fail
  have B1' : Hid (Below w.heap.size w (w1.setCell ⟨w.heap.size + 1 + 1, 0, none⟩ (.slice b1 n1 d1))) := Below.setCell (p := ⟨w.heap.size + 1 + 1, 0, none⟩) B1.out (by show _ ≤ w.heap.size + 1 + 1; omega) _
  refine (toKeptS a2 n2 c2 D.H _ N2.out NS.out.2 HS.out.2.2.2 (S2.out.below B1'.out)).mono ?_
  rintro e w2 ⟨v2, rfl, o2, hb2⟩
  obtain ⟨b2, d2, rfl, _⟩ := o2.lit
  have B2 : Hid (Below w.heap.size w w2) := B1'.out.trans (hb2.mono B1'.out.size)
  have HR2 : Hid (Box w2 (w.heap.size + 1) [.slice none 0 0, .slice none 0 0]) := (HR.out.other _ (by dsimp only; omega) _).below hb2
  have HO2 : Hid (Box w2 (w.heap.size + 1 + 1) [.slice b1 n1 d1, .slice none 0 0]) := (HO.out.set 0 (.slice b1 n1 d1)).below hb2
  have O12 : Hid (w2.ownsRow (w.heap.size + 3) 42 2 (.slice b1 n1 d1) n1 (cellsP D.P)) := own_below (own_setLow O1.out (by dsimp only; omega) _) hb2
  have X1 : Hid (w.heap.size + 3 ≤ w1.heap.size) := World.block_lt_of_cell? _ _ (HO.out 0 _ rfl).1
  have R2 : Hid (ReadsKL w2 b2 D.H ∧ OwnsKL w2 (w1.setCell ⟨w.heap.size + 1 + 1, 0, none⟩ (.slice b1 n1 d1)).heap.size w2.heap.size (.slice b2 n2 d2) n2 D.H) := ⟨o2.reads, o2⟩
  clear O1 HA HR HO B1' o2 hb2 p2 p2' q1' q1f
  obtain ⟨q2', q2f⟩ := HO2.out 1 _ rfl
  have HO3 : Hid (Box (w2.setCell ⟨w.heap.size + 1 + 1, 1, none⟩ (.slice b2 n2 d2)) (w.heap.size + 1 + 1) [.slice b1 n1 d1, .slice b2 n2 d2]) := HO2.out.set 1 _
  have HR3 : Hid (Box (w2.setCell ⟨w.heap.size + 1 + 1, 1, none⟩ (.slice b2 n2 d2)) (w.heap.size + 1) [.slice none 0 0, .slice none 0 0]) := HR2.out.other _ (by dsimp only; omega) _
  obtain ⟨f0, _⟩ := HO3.out 0 _ rfl
  obtain ⟨f1, _⟩ := HO3.out 1 _ rfl
  obtain ⟨g0, h0⟩ := HR3.out 0 _ rfl
  obtain ⟨g1, h1⟩ := (HR3.out.set 0 (.slice b1 n1 d1)) 1 _ rfl
  obtain ⟨r0, _⟩ := ((HR3.out.set 0 (.slice b1 n1 d1)).set 1 (.slice b2 n2 d2)) 0 _ rfl
  obtain ⟨r1, _⟩ := ((HR3.out.set 0 (.slice b1 n1 d1)).set 1 (.slice b2 n2 d2)) 1 _ rfl
  go_wp2_with fail
  refine bodyPost_ret (v := .agg #[.slice b1 n1 d1, .slice b2 n2 d2]) (by simp [results, Try.results6, go_sem, r0, r1]) rfl ⟨_, rfl, ⟨_, _, _, _, _, _, rfl⟩, ?_, ?_⟩
  · refine ⟨b1, d1, b2, d2, by rw [N1.out, N2.out], ?_, ?_⟩
    · obtain ⟨a9, c9, e9, s9, _⟩ := own_src (own_setLow (own_setLow (own_setLow O12.out (a := ⟨w.heap.size + 1 + 1, 1, none⟩) (by dsimp only; omega) (.slice b2 n2 d2)) (a := ⟨w.heap.size + 1, 0, none⟩) (by dsimp only; omega) (.slice b1 n1 d1)) (a := ⟨w.heap.size + 1, 1, none⟩) (by dsimp only; omega) (.slice b2 n2 d2))
      cases e9
      exact s9
    · obtain ⟨V, k1, k2, k3⟩ := R2.out.2
      have LO : w.heap.size + 3 ≤ (w1.setCell ⟨w.heap.size + 1 + 1, 0, none⟩ (.slice b1 n1 d1)).heap.size := by rw [World.size_setCell]; exact X1.out
      refine OwnsKL.reads (lo := (w1.setCell ⟨w.heap.size + 1 + 1, 0, none⟩ (.slice b1 n1 d1)).heap.size) (hi := w2.heap.size) (n := n2) (c := d2) ⟨V, own_setLow (own_setLow (own_setLow k1 (by dsimp only; omega) _) (by dsimp only; omega) _) (by dsimp only; omega) _, k2, ?_⟩
      exact OwnsKs.low3 (OwnsKs.low3 (OwnsKs.low3 k3 (by dsimp only; omega) _) (by dsimp only; omega) _) (by dsimp only; omega) _
  · exact Below.setCell (Below.setCell (Below.setCell B2.out (by dsimp only; omega) _) (by dsimp only; omega) _) (by dsimp only; omega) _
end Go.Proofs.Ytedbgofjgnidiaa
