
/-
  Marks in heaps that are held; new heaps. By an AI agent.
-/
import Derived.Test.YtmpaophegdeokaaHeaps2
namespace Go.Proofs.Ytmpaophegdeokaa
open Go.ChangeShapes Go.WideShapes Go.ChangeAt Go.RowKit Go.Deep
set_option linter.unusedVariables false
set_option maxRecDepth 100000

theorem markH_get : ∀ (H : List NM) (k j : Nat), j < H.length → (markH H k).getD j nm0 = mkN (H.getD j nm0) (endH (H.take j) k)
  | [], _, _, h => absurd h (by simp)
  | D :: H, k, 0, _ => rfl
  | D :: H, k, j + 1, h => by
    have := markH_get H (endN D k) j (by simpa using h)
    rw [markH]
    exact this
theorem endH_step (H : List NM) (k j : Nat) (h : j < H.length) : endH (H.take (j + 1)) k = endN (H.getD j nm0) (endH (H.take j) k) := by
  rw [List.take_succ_eq_append_getElem h, endH_snoc]
  congr 1
  rw [List.getD_eq_getElem?_getD, List.getElem?_eq_getElem h]
  rfl
theorem wtH_take (H : List NM) (j : Nat) : wtH (H.take j) ≤ wtH H := by
  have := wtH_append (H.take j) (H.drop j)
  rw [List.take_append_drop] at this
  omega
theorem wt_mem {H : List NM} {D : NM} (h : D ∈ H) : wtN D + 1 ≤ wtH H := by
  obtain ⟨X, Y, rfl⟩ := List.append_of_mem h
  have h1 := wtH_append X (D :: Y)
  have h2 : wtH (D :: Y) = wtH [D] + wtH Y := wtH_append [D] Y
  have h3 : wtH [D] = 1 + wtN D := by unfold wtH; simp
  omega

/-- v owns the heap H, in blocks from lo up to hi. -/
def OwnsH (w : World) (lo hi : Nat) (v : Value) (H : List NM) : Prop := ∃ u, v = .agg #[u] ∧ OwnsHL w lo hi u H.length H
theorem OwnsH.below {w w' : World} {lo hi : Nat} {v : Value} {H : List NM} (h : OwnsH w lo hi v H) (hb : Below w.heap.size w w') : OwnsH w' lo hi v H := by
  obtain ⟨u, rfl, h⟩ := h; exact ⟨u, rfl, h.below hb⟩
theorem OwnsH.drew {w : World} {lo hi : Nat} {v : Value} {H : List NM} (h : OwnsH w lo hi v H) : OwnsH w.drew lo hi v H := h.below (Below.refl _ _).drew
theorem OwnsH.turned {w w' : World} {lo hi lo' hi' : Nat} {v : Value} {H : List NM} (h : OwnsH w lo hi v H) (ht : Turned lo' hi' w w') (hd : hi ≤ lo' ∨ hi' ≤ lo) : OwnsH w' lo hi v H := by
  obtain ⟨u, rfl, h⟩ := h; exact ⟨u, rfl, h.turned ht hd⟩
theorem OwnsH.reads {w : World} {lo hi : Nat} {v : Value} {H : List NM} (h : OwnsH w lo hi v H) : ReadsH w v H := by
  obtain ⟨u, rfl, h⟩ := h
  obtain ⟨a, c, rfl, _⟩ := h.lit
  exact ⟨a, c, rfl, h.reads⟩
theorem OwnsH.lit {w : World} {lo hi : Nat} {v : Value} {H : List NM} (h : OwnsH w lo hi v H) : ∃ a c, v = .agg #[.slice a H.length c] := by
  obtain ⟨u, rfl, h⟩ := h
  obtain ⟨a, c, rfl, _⟩ := h.lit
  exact ⟨a, c, rfl⟩

set_option maxHeartbeats 400000 in
theorem markHeap (v : Value) (H : List NM) (lo hi k : Nat) (w : World) (hw : wtH H ≤ 1048576) (hk0 : 0 < k) (hk1 : k ≤ 1048576) (hh : hi ≤ w.heap.size) (h : OwnsH w lo hi v H) :
    Calls Try.prog 50 #[v, .int .i64 (k : Int)] w fun e w' => e = .returned (.int .i64 ((endH H k : Nat) : Int)) ∧ Turned lo hi w w' ∧ OwnsH w' lo hi v (markH H k) := by
  obtain ⟨u, rfl, h⟩ := h
  obtain ⟨a, c, rfl, _⟩ := h.lit
  have HO : Hid (OwnsHL w lo hi (.slice a H.length c) H.length H) := h
  obtain ⟨n, hn⟩ : ∃ n, H.length = n := ⟨_, rfl⟩
  have HW : Hid (wtH H ≤ 1048576) := hw
  have HL : Hid ((markH H k).length = n) := by show _ = n; rw [markH_length, hn]
  rw [hn] at HO ⊢
  clear h hn hw
  go_enter Try.func50, Try.ntmps50
  go_wp2_with fail
  refine (markNodeS _ H lo hi k n _ HW.out hk0 hk1 (by simp; omega) (HO.out.below ((Below.refl _ _).alloc (Nat.le_refl _) _))).mono ?_
  rintro e w1 ⟨rfl, t1, o1⟩
  have T1 : Hid (Turned lo hi w w1) := (Turned.of_below ((Below.refl _ _).alloc (Nat.le_refl _) _)).trans t1
  have O1 : Hid (OwnsHL w1 lo hi (.slice a n c) n (markH H k)) := o1
  clear t1 o1
  go_wp2_with fail
  go_ret
  exact ⟨rfl, T1.out, _, rfl, by rw [HL.out]; exact O1.out⟩

theorem infoN : (Try.prog.info? 143).map (fun i => (i.zero, i.size, i.bytes)) = some (some (.agg #[.bool false, .slice none 0 0, .slice none 0 0, .slice none 0 0]), 4, 80) := by kernel_rfl
theorem run_make_big {P : Program} (t e : TypeId) (z : Value) (s bytes n : Nat) (ht : P.underlying t = some (.slice e)) (hinfo : (P.info? e).map (fun i => (i.zero, i.size, i.bytes)) = some (some z, s, bytes)) (hb : bytes ≤ 4096) (hn : n ≤ 1048576) (w : World) :
    (Instr.makeSlice t (.int .i64 (n : Int)) (.int .i64 (n : Int))).run P w = .ok (.slice (some ⟨w.heap.size, 0, none⟩) n n) (w.alloc (.cells (madeCells z.cells (n * s)) e)) := by
  obtain ⟨i, hi, hzz⟩ := Option.map_eq_some_iff.1 hinfo
  simp only [Prod.mk.injEq] at hzz
  obtain ⟨hz, hs, hby⟩ := hzz
  have hm : bytes * n ≤ 4096 * 1048576 := Nat.mul_le_mul hb hn
  have hm' : (i.bytes : Int) * (n : Int) ≤ 281474976710656 := by
    rw [hby]
    have h : ((bytes * n : Nat) : Int) ≤ 281474976710656 := by omega
    rwa [Int.natCast_mul] at h
  have hr := run_make (P := P) w t e i z ht hi hz .i64 .i64 n n (by omega) (Int.le_refl _) hm' (by omega)
  simp only [Int.toNat_natCast, hs] at hr
  exact hr
theorem run_make_N (n : Nat) (hn : n ≤ 1048576) (w : World) : (Instr.makeSlice 70 (.int .i64 (n : Int)) (.int .i64 (n : Int))).run Try.prog w = .ok (.slice (some ⟨w.heap.size, 0, none⟩) n n) (w.alloc (.cells (madeCells #[.bool false, .slice none 0 0, .slice none 0 0, .slice none 0 0] (n * 4)) 143)) :=
  run_make_big 70 143 (.agg #[.bool false, .slice none 0 0, .slice none 0 0, .slice none 0 0]) 4 80 n Try.underlying70 infoN (by omega) hn w
def freshH : List NM := List.replicate 50 nm0
theorem ownN_nil (w : World) (lo hi : Nat) : OwnsN w lo hi nv0.val nm0 :=
  ⟨_, _, _, rfl, ⟨World.ownsRow_nil _ _ _ _, fun k e => by cases e⟩, ⟨World.ownsRow_nil _ _ _ _, fun k e => by cases e⟩, World.ownsRow_nil _ _ _ _, fun k e => by cases e⟩
theorem ownVs_nil (w : World) (lo hi : Nat) (h : lo ≤ hi) : ∀ n, OwnsVs w lo hi (List.replicate n nv0) (List.replicate n nm0)
  | 0 => h
  | n + 1 => ⟨lo, Nat.le_refl _, ownN_nil w lo lo, ownVs_nil w lo hi h n⟩
theorem made50 : (madeCells #[.bool false, .slice none 0 0, .slice none 0 0, .slice none 0 0] 200).toList = cellsN (List.replicate 50 nv0) := by kernel_rfl
theorem fresh_own (w : World) : OwnsHL (w.alloc (.cells (madeCells #[.bool false, .slice none 0 0, .slice none 0 0, .slice none 0 0] 200) 143)) w.heap.size (w.heap.size + 1) (.slice (some ⟨w.heap.size, 0, none⟩) 50 50) 50 freshH := by
  refine ⟨List.replicate 50 nv0, ⟨by rw [cellsN_length]; simp, .inr ⟨w.heap.size, 50, _, rfl, Nat.le_refl _, heap_alloc_new w _, Nat.le_refl _, by unfold maxLen; omega, by simp [size_madeCells], ?_⟩⟩, fun k e => by cases e; show w.heap.size < w.heap.size + 1; omega, ownVs_nil _ _ _ (by omega) 50⟩
  rw [← made50, List.take_of_length_le]
  simp [size_madeCells]
theorem OwnsVs.low {w : World} : ∀ {V : List NV} {H : List NM} {lo hi lo' : Nat}, OwnsVs w lo hi V H → lo' ≤ lo → OwnsVs w lo' hi V H
  | [], [], lo, hi, lo', h, hl => Nat.le_trans hl h
  | v :: V, D :: H, lo, hi, lo', ⟨m, h1, h3, h2⟩, hl => ⟨m, Nat.le_trans hl h1, h3.mono hl (Nat.le_refl _), h2⟩
  | [], D :: H, _, _, _, h, _ => False.elim h
  | v :: V, [], _, _, _, h, _ => False.elim h
theorem OwnsHL.mono {w : World} {lo hi lo' hi' n : Nat} {v : Value} {H : List NM} (h : OwnsHL w lo hi v n H) (hl : lo' ≤ lo) (hh : hi ≤ hi') : OwnsHL w lo' hi' v n H := by
  obtain ⟨V, h1, h2, h3⟩ := h
  exact ⟨V, own_mono h1 hl, fun k e => Nat.lt_of_lt_of_le (h2 k e) hh, (h3.low hl).lift hh⟩
theorem OwnsH.mono {w : World} {lo hi lo' hi' : Nat} {v : Value} {H : List NM} (h : OwnsH w lo hi v H) (hl : lo' ≤ lo) (hh : hi ≤ hi') : OwnsH w lo' hi' v H := by
  obtain ⟨u, rfl, h⟩ := h; exact ⟨u, rfl, h.mono hl hh⟩
end Go.Proofs.Ytmpaophegdeokaa
