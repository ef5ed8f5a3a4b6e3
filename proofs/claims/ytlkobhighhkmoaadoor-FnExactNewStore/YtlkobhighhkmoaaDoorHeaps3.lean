
/-
  Marks in heaps that are held; new heaps. By an AI agent.
-/
import Derived.Test.YtlkobhighhkmoaaDoorHeaps2
namespace Go.Proofs.YtlkobhighhkmoaaDoor
open Go.ChangeShapes Go.WideShapes Go.ChangeAt Go.RowKit Go.Deep
set_option linter.unusedVariables false
set_option maxRecDepth 100000

theorem markH_get : ∀ (H : List NM) (k j : Nat), j < H.length → (markH H k).getD j nm0 = mkN (H.getD j nm0) (endH (H.take j) k)
  | [], _, _, h => absurd h (by simp)
  | D :: H, k, 0, _ => rfl
  | D :: H, k, j + 1, h => by
    have := markH_get H (endN D k) j (by simpa using h)
    rw [markH]
    exact this
theorem endH_step (H : List NM) (k j : Nat) (h : j < H.length) : endH (H.take (j + 1)) k = endN (H.getD j nm0) (endH (H.take j) k) := by
  rw [List.take_succ_eq_append_getElem h, endH_snoc]
  congr 1
  rw [List.getD_eq_getElem?_getD, List.getElem?_eq_getElem h]
  rfl
theorem wtH_take (H : List NM) (j : Nat) : wtH (H.take j) ≤ wtH H := by
  have := wtH_append (H.take j) (H.drop j)
  rw [List.take_append_drop] at this
  omega
theorem wt_mem {H : List NM} {D : NM} (h : D ∈ H) : wtN D + 1 ≤ wtH H := by
  obtain ⟨X, Y, rfl⟩ := List.append_of_mem h
  have h1 := wtH_append X (D :: Y)
  have h2 : wtH (D :: Y) = wtH [D] + wtH Y := wtH_append [D] Y
  have h3 : wtH [D] = 1 + wtN D := by unfold wtH; simp
  omega

set_option maxHeartbeats 1000000 in
theorem heldNodeS (a : Option Addr) (n c k : Nat) (H : List NM) (w : World) (hL : H.length = n) (hw : wtH H ≤ 1048576) (hk0 : 0 < k) (hk1 : k ≤ 1048576) (h : ReadsHL w a (markH H k)) :
    Calls Tryd.prog 67 #[.slice a n c, .int .i64 (k : Int)] w fun e w' => e = .returned (.int .i64 ((endH H k : Nat) : Int)) ∧ Below w.heap.size w w' := by
  have HR : Hid (ReadsHL w a (markH H k)) := h
  have HL : Hid (H.length = n) := hL
  have HW : Hid (wtH H ≤ 1048576) := hw
  have hnb : n ≤ 1048576 := by have := hw; unfold wtH at this; omega
  clear h hL hw
  go_enter Tryd.func67, Tryd.ntmps67
  go_wp2_with fail
  go_loopw [1, 5] (fun kk i wr => ∃ j x : Nat, j ≤ n ∧ i = .int .i64 (j : Int) ∧ kk = .int .i64 (x : Int) ∧ x ≤ 4194304 ∧ 0 < x ∧ Hid (x = endH (H.take j) k) ∧ Hid (Below w.heap.size w wr)) (fun _ i _ => n - (intOf i).toNat)
  case atStart => exact ⟨0, k, by omega, rfl, rfl, by omega, by omega, rfl, Below.refl _ _⟩
  case round =>
    obtain ⟨j, x, hj, rfl, rfl, hx1, hx0, hx, hb⟩ := hrel
    by_cases hlt : j < n
    · obtain ⟨B, o, D', a1, c1, a2, c2, a3, c3, rfl, p0, p1, p2, p3, hD, hR⟩ := srcN (HR.out.below hb.out) (i := j) (by rw [markH_length, HL.out]; exact hlt)
      obtain ⟨D, eD⟩ : ∃ D, H.getD j nm0 = D := ⟨_, rfl⟩
      have hD2 := hD.out
      rw [markH_get H k j (by rw [HL.out]; exact hlt), eD, ← hx.out] at hD2
      have hmem : D ∈ H := by rw [← eD]; exact getD_memH H j (by rw [HL.out]; exact hlt)
      have ES : Hid (endH (H.take (j + 1)) k = endN D x) := by show _ = _; rw [endH_step H k j (by rw [HL.out]; exact hlt), eD, hx.out]
      obtain ⟨n1, e1⟩ : ∃ n, D.P.length = n := ⟨_, rfl⟩
      obtain ⟨n2, e2⟩ : ∃ n, D.L.length = n := ⟨_, rfl⟩
      obtain ⟨n3, e3⟩ : ∃ n, D.K.length = n := ⟨_, rfl⟩
      have EN : Hid (endN D x = x + 1 + n1 * 2 + n2 + n3) := by show endN D x = _; unfold endN; rw [e1, e2, e3]
      have hbd : Hid (x + 1 + n1 * 2 + n2 + n3 ≤ 4194304 ∧ n1 ≤ 1048576 ∧ n2 ≤ 1048576 ∧ n3 ≤ 1048576) := by
        have h8 := endH_le (H.take (j + 1)) k
        have h9 := HW.out
        have h7 := wtH_take H (j + 1)
        have h6 := wt_mem hmem
        unfold wtN at h6
        rw [e1, e2, e3] at h6
        rw [ES.out, EN.out] at h8
        show _ ∧ _
        omega
      unfold mkN at hD2
      rw [e1, e2, e3] at hD2
      subst hD2
      obtain ⟨b1, d1, b2, d2, b3, d3, ev, s1, s2, s3⟩ := hR.out
      simp only [Value.agg.injEq, Array.mk.injEq, List.cons.injEq, Value.slice.injEq, and_true, true_and] at ev
      obtain ⟨⟨rfl, rfl⟩, ⟨rfl, rfl⟩, rfl, rfl⟩ := ev
      simp only [mkP_length, mkS_length, mkI_length] at p0 p1 p2 p3 s1 s2 s3
      have S1 : Hid (Src wr a1 (cellsP (mkP (x + 1) n1))) := s1
      have S2 : Hid (Src wr a2 (cellsS (mkS (x + 1 + n1 * 2) n2))) := s2
      have S3 : Hid (Src wr a3 (cellsI (mkI (x + 1 + n1 * 2 + n2) n3))) := s3
      have P2 : Hid (wr.cell? ⟨B, o + j * 4 + 2, none⟩ = some (.slice a2 n2 c2)) := p2
      have P3 : Hid (wr.cell? ⟨B, o + j * 4 + 3, none⟩ = some (.slice a3 n3 c3)) := p3
      have hjn : (j : Int) < (n : Int) := by omega
      have hne : (((x : Int) % 3 == 0) != ((x : Int) % 3 == 0)) = false := by cases ((x : Int) % 3 == 0) <;> rfl
      clear s1 s2 s3 hD hR hmem eD e1 e2 e3 p2 p3
      go_wp2_with fail
      rw [show ((x : Int) + 1) = ((x + 1 : Nat) : Int) from by omega]
      refine (heldPairS a1 n1 c1 (x + 1) _ hbd.out.2.1 (by omega) (by have := hbd.out.1; omega) S1.out).mono ?_
      rintro e w1 ⟨rfl, hb1⟩
      have B1 : Hid (Below w.heap.size w w1) := hb.out.trans (hb1.mono hb.out.size)
      have S21 : Hid (Src w1 a2 (cellsS (mkS (x + 1 + n1 * 2) n2))) := S2.out.below hb1
      have S31 : Hid (Src w1 a3 (cellsI (mkI (x + 1 + n1 * 2 + n2) n3))) := S3.out.below hb1
      have p2 : w1.cell? ⟨B, o + j * 4 + 2, none⟩ = some (.slice a2 n2 c2) := (hb1.cell (p := ⟨B, o + j * 4 + 2, none⟩) (World.block_lt_of_cell? _ _ P2.out)).trans P2.out
      have P31 : Hid (w1.cell? ⟨B, o + j * 4 + 3, none⟩ = some (.slice a3 n3 c3)) := (hb1.cell (p := ⟨B, o + j * 4 + 3, none⟩) (World.block_lt_of_cell? _ _ P3.out)).trans P3.out
      have hk1 : decide (((x + 1 + n1 * 2 : Nat) : Int) < 0) = false := by simp; omega
      clear hb1 p0 p1 S1 S2 S3 P2 P3
      go_wp2_with fail
      clear hk1
      refine (heldStringS a2 n2 c2 (x + 1 + n1 * 2) _ hbd.out.2.2.1 (by omega) (by have := hbd.out.1; omega) S21.out).mono ?_
      rintro e w2 ⟨rfl, hb2⟩
      have B2 : Hid (Below w.heap.size w w2) := B1.out.trans (hb2.mono B1.out.size)
      have S32 : Hid (Src w2 a3 (cellsI (mkI (x + 1 + n1 * 2 + n2) n3))) := S31.out.below hb2
      have p3 : w2.cell? ⟨B, o + j * 4 + 3, none⟩ = some (.slice a3 n3 c3) := (hb2.cell (p := ⟨B, o + j * 4 + 3, none⟩) (World.block_lt_of_cell? _ _ P31.out)).trans P31.out
      have hk1 : decide (((x + 1 + n1 * 2 + n2 : Nat) : Int) < 0) = false := by simp; omega
      clear hb2 p2 S21 S31 P31
      go_wp2_with fail
      clear hk1
      refine (heldIntS a3 n3 c3 (x + 1 + n1 * 2 + n2) _ hbd.out.2.2.2 (by omega) (by have := hbd.out.1; omega) S32.out).mono ?_
      rintro e w3 ⟨rfl, hb3⟩
      have B3 : Hid (Below w.heap.size w w3) := B2.out.trans (hb3.mono B2.out.size)
      have hk1 : decide (((x + 1 + n1 * 2 + n2 + n3 : Nat) : Int) < 0) = false := by simp; omega
      clear hb3 p3 S32
      go_wp2_with fail
      exact ⟨⟨j + 1, x + 1 + n1 * 2 + n2 + n3, by omega, by go_num, by go_num, hbd.out.1, by omega, by show _ = _; rw [ES.out, EN.out], B3.out⟩, by simp [intOf]; omega⟩
    · have hjn : j = n := by omega
      have E : Hid ((x : Int) = ((endH H k : Nat) : Int)) := by show (x : Int) = _; rw [hx.out, hjn, ← HL.out, List.take_length]
      clear hjn
      go_wp2_with fail
      go_ret
      exact ⟨by show Ending.returned (.int .i64 (x : Int)) = _; rw [E.out], hb.out⟩

/-- v owns the heap H, in blocks from lo up to hi. -/
def OwnsH (w : World) (lo hi : Nat) (v : Value) (H : List NM) : Prop := ∃ u, v = .agg #[u] ∧ OwnsHL w lo hi u H.length H
theorem OwnsH.below {w w' : World} {lo hi : Nat} {v : Value} {H : List NM} (h : OwnsH w lo hi v H) (hb : Below w.heap.size w w') : OwnsH w' lo hi v H := by
  obtain ⟨u, rfl, h⟩ := h; exact ⟨u, rfl, h.below hb⟩
theorem OwnsH.drew {w : World} {lo hi : Nat} {v : Value} {H : List NM} (h : OwnsH w lo hi v H) : OwnsH w.drew lo hi v H := h.below (Below.refl _ _).drew
theorem OwnsH.turned {w w' : World} {lo hi lo' hi' : Nat} {v : Value} {H : List NM} (h : OwnsH w lo hi v H) (ht : Turned lo' hi' w w') (hd : hi ≤ lo' ∨ hi' ≤ lo) : OwnsH w' lo hi v H := by
  obtain ⟨u, rfl, h⟩ := h; exact ⟨u, rfl, h.turned ht hd⟩
theorem OwnsH.reads {w : World} {lo hi : Nat} {v : Value} {H : List NM} (h : OwnsH w lo hi v H) : ReadsH w v H := by
  obtain ⟨u, rfl, h⟩ := h
  obtain ⟨a, c, rfl, _⟩ := h.lit
  exact ⟨a, c, rfl, h.reads⟩
theorem OwnsH.lit {w : World} {lo hi : Nat} {v : Value} {H : List NM} (h : OwnsH w lo hi v H) : ∃ a c, v = .agg #[.slice a H.length c] := by
  obtain ⟨u, rfl, h⟩ := h
  obtain ⟨a, c, rfl, _⟩ := h.lit
  exact ⟨a, c, rfl⟩

set_option maxHeartbeats 400000 in
theorem markHeap (v : Value) (H : List NM) (lo hi k : Nat) (w : World) (hw : wtH H ≤ 1048576) (hk0 : 0 < k) (hk1 : k ≤ 1048576) (hh : hi ≤ w.heap.size) (h : OwnsH w lo hi v H) :
    Calls Tryd.prog 31 #[v, .int .i64 (k : Int)] w fun e w' => e = .returned (.int .i64 ((endH H k : Nat) : Int)) ∧ Turned lo hi w w' ∧ OwnsH w' lo hi v (markH H k) := by
  obtain ⟨u, rfl, h⟩ := h
  obtain ⟨a, c, rfl, _⟩ := h.lit
  have HO : Hid (OwnsHL w lo hi (.slice a H.length c) H.length H) := h
  obtain ⟨n, hn⟩ : ∃ n, H.length = n := ⟨_, rfl⟩
  have HW : Hid (wtH H ≤ 1048576) := hw
  have HL : Hid ((markH H k).length = n) := by show _ = n; rw [markH_length, hn]
  rw [hn] at HO ⊢
  clear h hn hw
  go_enter Tryd.func31, Tryd.ntmps31
  go_wp2_with fail
  refine (markNodeS _ H lo hi k n _ HW.out hk0 hk1 (by simp; omega) (HO.out.below ((Below.refl _ _).alloc (Nat.le_refl _) _))).mono ?_
  rintro e w1 ⟨rfl, t1, o1⟩
  have T1 : Hid (Turned lo hi w w1) := (Turned.of_below ((Below.refl _ _).alloc (Nat.le_refl _) _)).trans t1
  have O1 : Hid (OwnsHL w1 lo hi (.slice a n c) n (markH H k)) := o1
  clear t1 o1
  go_wp2_with fail
  go_ret
  exact ⟨rfl, T1.out, _, rfl, by rw [HL.out]; exact O1.out⟩

set_option maxHeartbeats 400000 in
theorem heldHeap (v : Value) (H : List NM) (k : Nat) (w : World) (hw : wtH H ≤ 1048576) (hk0 : 0 < k) (hk1 : k ≤ 1048576) (h : ReadsH w v (markH H k)) :
    Calls Tryd.prog 34 #[v, .int .i64 (k : Int)] w fun e w' => e = .returned (.int .i64 ((endH H k : Nat) : Int)) ∧ Below w.heap.size w w' := by
  obtain ⟨a, c, rfl, s⟩ := h
  have S : Hid (ReadsHL w a (markH H k)) := s
  rw [markH_length]
  obtain ⟨n, hn⟩ : ∃ n, H.length = n := ⟨_, rfl⟩
  have HL : Hid (H.length = n) := hn
  have HW : Hid (wtH H ≤ 1048576) := hw
  rw [hn]
  clear s hn hw
  have hk2 : decide (((endH H k : Nat) : Int) < 0) = false := by simp
  go_enter Tryd.func34, Tryd.ntmps34
  go_wp2_with fail
  refine (heldNodeS a n c k H _ HL.out HW.out hk0 hk1 (S.out.below ((Below.refl _ _).alloc (Nat.le_refl _) _))).mono ?_
  rintro e w1 ⟨rfl, hb1⟩
  have B1 : Hid (Below w.heap.size w w1) := Below.new hb1
  clear hb1
  go_wp2_with fail
  go_ret
  exact ⟨rfl, B1.out⟩

theorem infoN : (Tryd.prog.info? 120).map (fun i => (i.zero, i.size, i.bytes)) = some (some (.agg #[.bool false, .slice none 0 0, .slice none 0 0, .slice none 0 0]), 4, 80) := by kernel_rfl
theorem run_make_big {P : Program} (t e : TypeId) (z : Value) (s bytes n : Nat) (ht : P.underlying t = some (.slice e)) (hinfo : (P.info? e).map (fun i => (i.zero, i.size, i.bytes)) = some (some z, s, bytes)) (hb : bytes ≤ 4096) (hn : n ≤ 1048576) (w : World) :
    (Instr.makeSlice t (.int .i64 (n : Int)) (.int .i64 (n : Int))).run P w = .ok (.slice (some ⟨w.heap.size, 0, none⟩) n n) (w.alloc (.cells (madeCells z.cells (n * s)) e)) := by
  obtain ⟨i, hi, hzz⟩ := Option.map_eq_some_iff.1 hinfo
  simp only [Prod.mk.injEq] at hzz
  obtain ⟨hz, hs, hby⟩ := hzz
  have hm : bytes * n ≤ 4096 * 1048576 := Nat.mul_le_mul hb hn
  have hm' : (i.bytes : Int) * (n : Int) ≤ 281474976710656 := by
    rw [hby]
    have h : ((bytes * n : Nat) : Int) ≤ 281474976710656 := by omega
    rwa [Int.natCast_mul] at h
  have hr := run_make (P := P) w t e i z ht hi hz .i64 .i64 n n (by omega) (Int.le_refl _) hm' (by omega)
  simp only [Int.toNat_natCast, hs] at hr
  exact hr
theorem run_make_N (n : Nat) (hn : n ≤ 1048576) (w : World) : (Instr.makeSlice 30 (.int .i64 (n : Int)) (.int .i64 (n : Int))).run Tryd.prog w = .ok (.slice (some ⟨w.heap.size, 0, none⟩) n n) (w.alloc (.cells (madeCells #[.bool false, .slice none 0 0, .slice none 0 0, .slice none 0 0] (n * 4)) 120)) :=
  run_make_big 30 120 (.agg #[.bool false, .slice none 0 0, .slice none 0 0, .slice none 0 0]) 4 80 n Tryd.underlying30 infoN (by omega) hn w
def freshH : List NM := List.replicate 50 nm0
theorem ownN_nil (w : World) (lo hi : Nat) : OwnsN w lo hi nv0.val nm0 :=
  ⟨_, _, _, rfl, ⟨World.ownsRow_nil _ _ _ _, fun k e => by cases e⟩, ⟨World.ownsRow_nil _ _ _ _, fun k e => by cases e⟩, World.ownsRow_nil _ _ _ _, fun k e => by cases e⟩
theorem ownVs_nil (w : World) (lo hi : Nat) (h : lo ≤ hi) : ∀ n, OwnsVs w lo hi (List.replicate n nv0) (List.replicate n nm0)
  | 0 => h
  | n + 1 => ⟨lo, Nat.le_refl _, ownN_nil w lo lo, ownVs_nil w lo hi h n⟩
theorem made50 : (madeCells #[.bool false, .slice none 0 0, .slice none 0 0, .slice none 0 0] 200).toList = cellsN (List.replicate 50 nv0) := by kernel_rfl
theorem fresh_own (w : World) : OwnsHL (w.alloc (.cells (madeCells #[.bool false, .slice none 0 0, .slice none 0 0, .slice none 0 0] 200) 120)) w.heap.size (w.heap.size + 1) (.slice (some ⟨w.heap.size, 0, none⟩) 50 50) 50 freshH := by
  refine ⟨List.replicate 50 nv0, ⟨by rw [cellsN_length]; simp, .inr ⟨w.heap.size, 50, _, rfl, Nat.le_refl _, heap_alloc_new w _, Nat.le_refl _, by unfold maxLen; omega, by simp [size_madeCells], ?_⟩⟩, fun k e => by cases e; show w.heap.size < w.heap.size + 1; omega, ownVs_nil _ _ _ (by omega) 50⟩
  rw [← made50, List.take_of_length_le]
  simp [size_madeCells]
theorem OwnsVs.low {w : World} : ∀ {V : List NV} {H : List NM} {lo hi lo' : Nat}, OwnsVs w lo hi V H → lo' ≤ lo → OwnsVs w lo' hi V H
  | [], [], lo, hi, lo', h, hl => Nat.le_trans hl h
  | v :: V, D :: H, lo, hi, lo', ⟨m, h1, h3, h2⟩, hl => ⟨m, Nat.le_trans hl h1, h3.mono hl (Nat.le_refl _), h2⟩
  | [], D :: H, _, _, _, h, _ => False.elim h
  | v :: V, [], _, _, _, h, _ => False.elim h
theorem OwnsHL.mono {w : World} {lo hi lo' hi' n : Nat} {v : Value} {H : List NM} (h : OwnsHL w lo hi v n H) (hl : lo' ≤ lo) (hh : hi ≤ hi') : OwnsHL w lo' hi' v n H := by
  obtain ⟨V, h1, h2, h3⟩ := h
  exact ⟨V, own_mono h1 hl, fun k e => Nat.lt_of_lt_of_le (h2 k e) hh, (h3.low hl).lift hh⟩
theorem OwnsH.mono {w : World} {lo hi lo' hi' : Nat} {v : Value} {H : List NM} (h : OwnsH w lo hi v H) (hl : lo' ≤ lo) (hh : hi ≤ hi') : OwnsH w lo' hi' v H := by
  obtain ⟨u, rfl, h⟩ := h; exact ⟨u, rfl, h.mono hl hh⟩
set_option maxHeartbeats 400000 in
theorem implNewHeap (w : World) : Calls Tryd.prog 25 #[] w fun e w' => ∃ v, e = .returned v ∧ OwnsH w' w.heap.size w'.heap.size v freshH ∧ Below w.heap.size w w' := by
  have hmk : ∀ w : World, (Instr.makeSlice 30 (.int .i64 50) (.int .i64 50)).run Tryd.prog w = .ok (.slice (some ⟨w.heap.size, 0, none⟩) 50 50) (w.alloc (.cells (madeCells #[.bool false, .slice none 0 0, .slice none 0 0, .slice none 0 0] 200) 120)) := fun w => run_make_N 50 (by omega) w
  go_enter Tryd.func25, Tryd.ntmps25
  go_wp2_with fail
  refine bodyPost_ret (v := .agg #[.slice (some ⟨w.heap.size + 1, 0, none⟩) 50 50]) (by simp [results, Tryd.results25, go_sem]) rfl ⟨_, rfl, ⟨_, rfl, ?_⟩, ((Below.refl _ _).alloc (Nat.le_refl _) _).alloc (by simp) _⟩
  have := fresh_own (w.alloc (.cells #[.slice (some ⟨w.heap.size + 1, 0, none⟩) 50 50] 32))
  rw [World.size_alloc] at this
  exact this.mono (by omega) (by simp)
set_option maxHeartbeats 400000 in
theorem specNewHeap (w : World) : Calls Tryd.prog 21 #[] w fun e w' => ∃ v, e = .returned v ∧ OwnsH w' w.heap.size w'.heap.size v freshH ∧ Below w.heap.size w w' := by
  have hmk : ∀ w : World, (Instr.makeSlice 30 (.int .i64 50) (.int .i64 50)).run Tryd.prog w = .ok (.slice (some ⟨w.heap.size, 0, none⟩) 50 50) (w.alloc (.cells (madeCells #[.bool false, .slice none 0 0, .slice none 0 0, .slice none 0 0] 200) 120)) := fun w => run_make_N 50 (by omega) w
  go_enter Tryd.func21, Tryd.ntmps21
  go_wp2_with fail
  refine bodyPost_ret (v := .agg #[.slice (some ⟨w.heap.size + 1, 0, none⟩) 50 50]) (by simp [results, Tryd.results21, go_sem]) rfl ⟨_, rfl, ⟨_, rfl, ?_⟩, ((Below.refl _ _).alloc (Nat.le_refl _) _).alloc (by simp) _⟩
  have := fresh_own (w.alloc (.cells #[.slice (some ⟨w.heap.size + 1, 0, none⟩) 50 50] 32))
  rw [World.size_alloc] at this
  exact this.mono (by omega) (by simp)
end Go.Proofs.YtlkobhighhkmoaaDoor
