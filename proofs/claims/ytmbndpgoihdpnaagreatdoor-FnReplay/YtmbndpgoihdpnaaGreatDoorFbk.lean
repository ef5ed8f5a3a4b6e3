/-
  Bkc. By an AI agent.
-/
import Derived.Test.YtmbndpgoihdpnaaGreatDoorFr2
namespace Go.Proofs.YtmbndpgoihdpnaaGreatDoor
open Go.ChangeShapes Go.WideShapes Go.ChangeAt Go.RowKit Go.Deep
set_option linter.unusedVariables false
set_option linter.unusedSimpArgs false
set_option maxRecDepth 100000

theorem src_6B {w : World} {B t : Nat} (hB : B = w.heap.size) : Src (w.alloc (.cells #[.int .u8 98, .int .u8 97, .int .u8 99, .int .u8 107, .int .u8 117, .int .u8 112] t)) (some ⟨B, 0, none⟩) (cellsB [98, 97, 99, 107, 117, 112]) :=
  src_vals (xs := cellsB [98, 97, 99, 107, 117, 112]) hB
abbrev mkO : Obj := .cells #[.int .u8 98, .int .u8 97, .int .u8 99, .int .u8 107, .int .u8 117, .int .u8 112] 5
abbrev bx5 (F T : ByteArray) (cx sx : Nat) (a : Option Addr) (n c : Nat) : List Value := [.string F, .string T, .int .i64 (cx : Int), .slice a n c, .int .i64 (sx : Int)]
theorem cells5 {w : World} {B : Nat} {v0 v1 v2 v3 v4 : Value} (h : Box w B [v0, v1, v2, v3, v4]) : w.cell? ⟨B, 0, none⟩ = some v0 ∧ w.cell? ⟨B, 1, none⟩ = some v1 ∧ w.cell? ⟨B, 2, none⟩ = some v2 ∧ w.cell? ⟨B, 3, none⟩ = some v3 ∧ w.cell? ⟨B, 4, none⟩ = some v4 := ⟨(h 0 _ rfl).1, (h 1 _ rfl).1, (h 2 _ rfl).1, (h 3 _ rfl).1, (h 4 _ rfl).1⟩
theorem blk_below {w w' : World} {g : Nat} {o : Obj} (h : w.heap[g]? = some o) (hb : Below w.heap.size w w') : w'.heap[g]? = some o := by
  rcases Nat.lt_or_ge g w.heap.size with h1 | h1
  · exact (hb.block g h1).trans h
  · rw [Array.getElem?_eq_none h1] at h
    cases h
/-- A row of bytes of a constant text is converted to its own type: one place behind it is frozen, no cell is another one. -/
def Frozen (w w' : World) (g : Nat) : Prop := (∀ p, w'.cell? p = w.cell? p) ∧ (∀ p : Addr, p.block ≠ g → w'.frozen? p = w.frozen? p) ∧ (∀ k, k ≠ g → w'.heap[k]? = w.heap[k]?) ∧ w'.heap.size = w.heap.size ∧ w'.os = w.os ∧ w'.tape = w.tape ∧ w'.output = w.output
theorem frozen_freeze (w : World) (g k : Nat) : Frozen w (w.freeze ⟨g, k, none⟩ 1) g := by
  have hne : ∀ j, j ≠ g → (w.freeze ⟨g, k, none⟩ 1).heap[j]? = w.heap[j]? := fun j hj => by
    unfold World.freeze
    rw [if_neg (by decide)]
    show (w.heap.modify g _)[j]? = _
    rw [Array.getElem?_modify, if_neg (fun e => hj e.symm)]
  refine ⟨fun p => ?_, fun p hp => ?_, hne, ?_, ?_, ?_, ?_⟩
  · by_cases hp : p.block = g
    · unfold World.cell?
      have h1 : (w.freeze ⟨g, k, none⟩ 1).heap[p.block]? = (w.heap[p.block]?).map fun | .cells c elem (lo, hi) => .cells c elem (if lo == hi then (k, k + 1) else (min lo k, max hi (k + 1))) | o => o := by
        unfold World.freeze
        rw [if_neg (by decide)]
        show (w.heap.modify g _)[p.block]? = _
        rw [Array.getElem?_modify, if_pos hp.symm]
        rfl
      rw [h1]
      cases w.heap[p.block]? with
      | none => rfl
      | some o => cases o <;> rfl
    · unfold World.cell?
      rw [hne _ hp]
  · unfold World.frozen?
    rw [hne _ hp]
  all_goals unfold World.freeze
  all_goals rw [if_neg (by decide)]
  · simp
theorem convert_const_at (w : World) (g : Nat) (C : Array Value) (n c : Nat) (h : w.heap[g]? = some (.cells C 5)) : (convert 55 55 (.slice (some ⟨g, 0, none⟩) n c)).run Tryz.prog w = .ok (.slice (some ⟨g, 0, none⟩) n c) (w.freeze ⟨g, C.size, none⟩ 1) := by
  have hsh : w.shape? g = some (5, C.size) := by
    unfold World.shape?
    rw [h]
  simp [convert, run_underlying Tryz.underlying55, run_underlying Tryz.underlying5, markStringish, hsh]
theorem below_frozen {b g : Nat} {a w w' : World} (h : Below b a w) (hf : Frozen w w' g) (hb : b ≤ g) : Below b a w' :=
  ⟨hf.2.2.2.2.1.trans h.os, hf.2.2.2.2.2.1.trans h.tape, hf.2.2.2.2.2.2.trans h.output, by rw [hf.2.2.2.1]; exact h.size, fun k hk => (hf.2.2.1 k (by omega)).trans (h.block k hk)⟩
theorem box_frozen {w w' : World} {B g : Nat} {vs : List Value} (h : Box w B vs) (hf : Frozen w w' g) (hb : B ≠ g) : Box w' B vs := fun i v hv => by
  obtain ⟨h1, h2⟩ := h i v hv
  exact ⟨(hf.1 _).trans h1, (hf.2.1 ⟨B, i, none⟩ hb).trans h2⟩
theorem src_frozen {w w' : World} {g : Nat} {a : Option Addr} {xs : List Value} (h : Src w a xs) (hf : Frozen w w' g) : Src w' a xs := by
  rcases h with h | ⟨b, o, e, hc⟩
  · exact .inl h
  · exact .inr ⟨b, o, e, fun j hj => (hf.1 _).trans (hc j hj)⟩
theorem half_frozen {w w' : World} {g : Nat} (h : HasHalf w) (hf : Frozen w w' g) : HasHalf w' := fun i hi => (hf.1 _).trans (h i hi)
theorem heap_at_alloc {g : Nat} (w : World) (o : Obj) (h : g = w.heap.size) : (w.alloc o).heap[g]? = some o := by subst h; exact heap_alloc_new _ _
theorem bkA_len {D : BM} {R : List Nat} {q : Int} (h : bkA D = (R, q)) : R.length ≤ 1048576 := by
  unfold bkA at h
  split at h
  · rename_i hk
    cases h
    have f := okK_facts hk
    unfold bytesK headB
    simp only [List.length_append, two_len, List.length_cons, List.length_nil]
    have h4 : ∀ x, (numQ x).length = 4 := fun x => rfl
    have h9 := partsB_len D.D D.D.length f.2.2.2.2.2
    rw [List.take_length] at h9
    have f3 := f.2.2.1
    have f4 := f.2.2.2.1
    have f5 := f.2.2.2.2.1
    rw [h4, h4, h4]
    omega
  · cases h; exact Nat.zero_le _
set_option maxHeartbeats 8000000 in
theorem implBackupBytes (v : Value) (D : BM) (w : World) (hsm : smallK D) (hv : ReadsK w v D) (hH : HasHalf w) :
    Calls Tryz.prog 32 #[v] w fun e w' => ∃ u R q, e = .returned (.tuple #[u, .int .i64 q]) ∧ bkA D = (R, q) ∧ w'.ownsRow w.heap.size 5 1 u R.length (cellsB R) ∧ R.length ≤ 1048576 ∧ Below w.heap.size w w' := by
  obtain ⟨a, c, rfl, h⟩ := hv
  obtain ⟨ok, hok⟩ : ∃ b, okK D = b := ⟨_, rfl⟩
  have OK : Hid (okK D = ok) := hok
  have SK : Hid (smallK D) := hsm
  have RK : Hid (ReadsK w (.agg #[.string D.F, .string D.T, .int .i64 D.C, .slice a D.D.length c, .int .i64 D.S]) D) := ⟨a, c, rfl, h⟩
  have A0 : Hid (Below w.heap.size w (w.alloc (.cells #[.string D.F, .string D.T, .int .i64 D.C, .slice a D.D.length c, .int .i64 D.S] 34))) := (Below.refl _ _).alloc (Nat.le_refl _) _
  clear hsm hok
  cases ok with
  | false =>
    have FF : Hid (bkA D = ([], 1)) := by show _ = _; unfold bkA; rw [if_neg (by rw [OK.out]; decide)]
    obtain ⟨F, hF⟩ : ∃ x, D.F = x := ⟨_, rfl⟩
    obtain ⟨T, hT⟩ : ∃ x, D.T = x := ⟨_, rfl⟩
    obtain ⟨C, hC⟩ : ∃ x, D.C = x := ⟨_, rfl⟩
    obtain ⟨S, hS⟩ : ∃ x, D.S = x := ⟨_, rfl⟩
    obtain ⟨n, hn⟩ : ∃ x, D.D.length = x := ⟨_, rfl⟩
    rw [hF, hT, hC, hS, hn] at RK A0 ⊢
    clear h hH hF hT hC hS hn
    go_enter Tryz.func32, Tryz.ntmps32
    go_wp2_with fail
    go_at_call 43
    refine (implBackupOK _ D _ SK.out (RK.out.below A0.out)).mono ?_
    rw [OK.out]
    rintro e w1 ⟨rfl, hb1⟩
    have B1 : Hid (Below w.heap.size w w1) := Below.new hb1
    clear hb1
    go_wp2_with fail
    go_ret2
    exact ⟨_, [], 1, rfl, FF.out, World.ownsRow_nil _ _ _ _, by simp, B1.out⟩
  | true =>
  have F0 := okK_facts OK.out
  obtain ⟨F, hF9⟩ : ∃ x, D.F = x := ⟨_, rfl⟩
  obtain ⟨T, hT9⟩ : ∃ x, D.T = x := ⟨_, rfl⟩
  obtain ⟨M, hM9⟩ : ∃ x, D.D = x := ⟨_, rfl⟩
  obtain ⟨n, hM⟩ : ∃ x, M.length = x := ⟨_, rfl⟩
  obtain ⟨cx, hcx⟩ : ∃ x : Nat, D.C = (x : Int) := ⟨D.C.toNat, by have := F0.1; omega⟩
  obtain ⟨sx, hsx⟩ : ∃ x : Nat, D.S = (x : Int) := ⟨D.S.toNat, by have := F0.2.1; omega⟩
  have hF : F.size ≤ 8 := by rw [← hF9]; exact F0.2.2.1
  have hT : T.size ≤ 8 := by rw [← hT9]; exact F0.2.2.2.1
  have hc : cx < 4294967296 := by have := F0.1; omega
  have hx : sx < 4294967296 := by have := F0.2.1; omega
  have hn : n ≤ 120 := by rw [← hM, ← hM9]; exact F0.2.2.2.2.1
  have hs : ∀ p ∈ M, p.1.size ≤ 90 ∧ p.2.1.size ≤ 90 ∧ p.2.2.1.size ≤ 90 := by rw [← hM9]; exact F0.2.2.2.2.2
  rw [hM9] at h
  have HS : Hid (∀ p ∈ M, p.1.size ≤ 90 ∧ p.2.1.size ≤ 90 ∧ p.2.2.1.size ≤ 90) := hs
  have HH : Hid (Src w a (cellsDf M)) := h
  have HM : Hid (M.length = n) := hM
  have HT9 : Hid (HasHalf w) := hH
  obtain ⟨hd, hhd⟩ : ∃ x, numQ cx ++ fieldsB [F, T] = x := ⟨_, rfl⟩
  have HD : Hid (numQ cx ++ fieldsB [F, T] = hd) := hhd
  obtain ⟨pt, hpt⟩ : ∃ x, partsB M = x := ⟨_, rfl⟩
  have PT : Hid (partsB M = pt) := hpt
  obtain ⟨l1, hl1⟩ : ∃ l, hd.length = l := ⟨_, rfl⟩
  have L1 : Hid (hd.length = l1) := hl1
  obtain ⟨l2, hl2⟩ : ∃ l, pt.length = l := ⟨_, rfl⟩
  have L2 : Hid (pt.length = l2) := hl2
  have hl1b : l1 ≤ 25 ∧ 0 < l1 := by
    rw [← hl1, ← hhd, List.length_append, two_len]
    have h4 : (numQ cx).length = 4 := rfl
    omega
  have hl2b : l2 ≤ 33360 := by
    rw [← hl2, ← hpt]
    have h9 := partsB_len M n hs
    rw [List.take_of_length_le (by omega)] at h9
    omega
  have LT1 : Hid (∀ x ∈ hd, x < 256) := fun x hx9 => by
    rw [← hhd, List.mem_append] at hx9
    rcases hx9 with h9 | h9
    · exact numQ_lt _ x h9
    · exact fieldsB_ltP _ x h9
  have LT2 : Hid (∀ x ∈ pt, x < 256) := fun x hx9 => by rw [← hpt] at hx9; exact partsB_lt M x hx9
  obtain ⟨lk, hlk⟩ : ∃ s, sumL (numQ cx ++ fieldsB [F, T] ++ partsB M ++ numQ sx) = s := ⟨_, rfl⟩
  have LK : Hid (sumL (numQ cx ++ fieldsB [F, T] ++ partsB M ++ numQ sx) = lk) := hlk
  have hlk2 : lk < 4294967296 := by rw [← hlk]; exact sumL_lt _
  obtain ⟨tot, htot⟩ : ∃ x, [98, 97, 99, 107, 117, 112] ++ hd ++ [n] ++ pt ++ numQ sx ++ numQ lk = x := ⟨_, rfl⟩
  obtain ⟨tl, htl⟩ : ∃ x, tot.length = x := ⟨_, rfl⟩
  have htl9 : tl ≤ 40000 ∧ 0 < tl := by
    have h9 : tl = 6 + l1 + 1 + l2 + 4 + 4 := by
      rw [← htl, ← htot]
      simp only [List.length_append, hl1, hl2]
      rfl
    omega
  have CT : Hid (catB (fun i => [[98, 97, 99, 107, 117, 112], hd, [n], pt, numQ sx, numQ lk].getD i []) 6 = tot ∧ tot.length = tl) := ⟨by rw [← htot]; simp [catB, List.range_succ], htl⟩
  have FF : Hid (bkA D = (tot, 0)) := by
    show _ = _
    unfold bkA
    rw [if_pos OK.out, ← htot]
    unfold bytesK linkN headB
    rw [hF9, hT9, hM9, hcx, hsx, hM, Int.toNat_natCast, Int.toNat_natCast, hlk, hhd, hpt, Nat.mod_eq_of_lt (by omega)]
  rw [hF9, hT9, hcx, hsx, hM9, hM] at RK A0 ⊢
  have hnw : IntKind.u8.wrap (n : Int) = (n : Int) := by rw [IntKind.wrap_u8]; omega
  clear hs h hM hH hhd hpt hl1 hl2 htot htl hlk F0 hF9 hT9 hM9 hcx hsx
  go_enter Tryz.func32, Tryz.ntmps32
  go_wp2_with fail
  go_at_call 43
  refine (implBackupOK _ D _ SK.out (RK.out.below A0.out)).mono ?_
  rw [OK.out]
  rintro e w1 ⟨rfl, hb1⟩
  have B1 : Hid (Below w.heap.size w w1) := Below.new hb1
  have X1 : Hid (Box w1 w.heap.size (bx5 F T cx sx a n c)) := Box.below (Box.new rfl) hb1
  have Z1 : Hid (w.heap.size + 1 ≤ w1.heap.size) := size_new hb1
  clear hb1
  obtain ⟨p3, _⟩ := X1.out 3 _ rfl
  go_wp2_with fail
  have B40 : Hid (Below w.heap.size w (w1.alloc (.cells #[.int .u8 (n : Int)] 5))) := B1.out.alloc B1.out.size _
  have X41 : Hid (Box ((w1.alloc (.cells #[.int .u8 (n : Int)] 5)).drew) w.heap.size (bx5 F T cx sx a n c)) := Box.old (w := w1) X1.out _
  have T42 : Hid (HasHalf ((w1.alloc (.cells #[.int .u8 (n : Int)] 5)).drew)) := HasHalf.below (w := w) HT9.out ((B1.out.alloc B1.out.size _).drew)
  have Y43 : Hid (Src ((w1.alloc (.cells #[.int .u8 (n : Int)] 5)).drew) (some ⟨w1.heap.size, 0, none⟩) (cellsB [n])) := src_oneB (w := w1) rfl rfl
  clear p3
  obtain ⟨e0, e1, e2, e3, e4⟩ := cells5 X41.out
  refine wp_region_noPanic ?_
  refine wp_region_held_drew (S := (fun w' => w'.cell? ⟨w.heap.size, 0, none⟩ = some (.string F) ∧ w'.cell? ⟨w.heap.size, 1, none⟩ = some (.string T) ∧ w'.cell? ⟨w.heap.size, 2, none⟩ = some (.int .i64 (cx : Int)) ∧ w'.cell? ⟨w.heap.size, 3, none⟩ = some (.slice a n c) ∧ w'.cell? ⟨w.heap.size, 4, none⟩ = some (.int .i64 (sx : Int)))) (by kernel_rfl) ⟨e0, e1, e2, e3, e4⟩ (fun hHeld => ?_)
  refine wpAnyH_take (i := 2) (v := .agg #[.string F, .string T, .int .i64 (cx : Int), .slice a n c, .int .i64 (sx : Int)]) rfl (by kernel_rfl) (by kernel_rfl) (by kernel_rfl) (fun _ _ _ h => h) (Or.inl ⟨by kernel_rfl, ?_⟩) hHeld ?_
  · intro w9 hSw
    obtain ⟨s0, s1, s2, s3, s4⟩ := hSw
    go_simp
  simp only [Act.put, List.setIfInBounds_toArray, List.set_cons_zero, List.set_cons_succ]
  refine wpAnyH_take (i := 4) (v := .slice (some ⟨w1.heap.size, 0, none⟩) 1 1) rfl (by kernel_rfl) (by kernel_rfl) (by kernel_rfl) (fun _ _ _ h => h) (Or.inl ⟨by kernel_rfl, ?_⟩) hHeld ?_
  · intro w9 hSw
    obtain ⟨s0, s1, s2, s3, s4⟩ := hSw
    go_simp
  simp only [Act.put, List.setIfInBounds_toArray, List.set_cons_zero, List.set_cons_succ]
  refine wpAnyH_take (i := 5) (v := .agg #[.string F, .string T, .int .i64 (cx : Int), .slice a n c, .int .i64 (sx : Int)]) rfl (by kernel_rfl) (by kernel_rfl) (by kernel_rfl) (fun _ _ _ h => h) (Or.inl ⟨by kernel_rfl, ?_⟩) hHeld ?_
  · intro w9 hSw
    obtain ⟨s0, s1, s2, s3, s4⟩ := hSw
    go_simp
  simp only [Act.put, List.setIfInBounds_toArray, List.set_cons_zero, List.set_cons_succ]
  refine wpAnyH_take (i := 7) (v := .pointer (some ⟨w.heap.size, 4, none⟩)) rfl (by kernel_rfl) (by kernel_rfl) (by kernel_rfl) (fun _ _ _ h => h) (Or.inl ⟨by kernel_rfl, ?_⟩) hHeld ?_
  · intro w9 hSw
    obtain ⟨s0, s1, s2, s3, s4⟩ := hSw
    go_simp
  simp only [Act.put, List.setIfInBounds_toArray, List.set_cons_zero, List.set_cons_succ]
  refine wpAnyH_take (i := 8) (v := .int .i64 (sx : Int)) rfl (by kernel_rfl) (by kernel_rfl) (by kernel_rfl) (fun _ _ _ h => h) (Or.inl ⟨by kernel_rfl, ?_⟩) hHeld ?_
  · intro w9 hSw
    obtain ⟨s0, s1, s2, s3, s4⟩ := hSw
    go_simp
  simp only [Act.put, List.setIfInBounds_toArray, List.set_cons_zero, List.set_cons_succ]
  refine wpAnyH_take (i := 10) (v := .agg #[.string F, .string T, .int .i64 (cx : Int), .slice a n c, .int .i64 (sx : Int)]) rfl (by kernel_rfl) (by kernel_rfl) (by kernel_rfl) (fun _ _ _ h => h) (Or.inl ⟨by kernel_rfl, ?_⟩) hHeld ?_
  · intro w9 hSw
    obtain ⟨s0, s1, s2, s3, s4⟩ := hSw
    go_simp
  simp only [Act.put, List.setIfInBounds_toArray, List.set_cons_zero, List.set_cons_succ]
  refine wpAnyH_ready (rs := [0, 3]) (by kernel_rfl) (by simp) ?_
  refine AllReadyH.cons rfl (fun K hK => ?_) (AllReadyH.cons rfl (fun K hK => ?_) AllReadyH.nil)
  · skip
    go_simp
    have B44 : Hid (Below w.heap.size w (((w1.alloc (.cells #[.int .u8 (n : Int)] 5)).alloc mkO))) := B40.out.alloc B40.out.size _
    have X45 : Hid (Box ((((w1.alloc (.cells #[.int .u8 (n : Int)] 5)).alloc mkO)).drew) w.heap.size (bx5 F T cx sx a n c)) := Box.old (w := w1.alloc (.cells #[.int .u8 (n : Int)] 5)) X41.out _
    have T46 : Hid (HasHalf ((((w1.alloc (.cells #[.int .u8 (n : Int)] 5)).alloc mkO)).drew)) := HasHalf.below (w := w1.alloc (.cells #[.int .u8 (n : Int)] 5)) T42.out (((Below.refl _ (w1.alloc (.cells #[.int .u8 (n : Int)] 5))).alloc (Nat.le_refl _) mkO).drew)
    have Y47 : Hid (Src ((((w1.alloc (.cells #[.int .u8 (n : Int)] 5)).alloc mkO)).drew) (some ⟨w1.heap.size, 0, none⟩) (cellsB [n])) := Src.below (w := w1.alloc (.cells #[.int .u8 (n : Int)] 5)) Y43.out (((Below.refl _ (w1.alloc (.cells #[.int .u8 (n : Int)] 5))).alloc (Nat.le_refl _) mkO).drew)
    have A48 : Hid (Src ((((w1.alloc (.cells #[.int .u8 (n : Int)] 5)).alloc mkO)).drew) (some ⟨w1.heap.size + 1, 0, none⟩) (cellsB [98, 97, 99, 107, 117, 112])) := src_6B (w := w1.alloc (.cells #[.int .u8 (n : Int)] 5)) (by simp)
    have Q49 : Hid (((((w1.alloc (.cells #[.int .u8 (n : Int)] 5)).alloc mkO)).drew).heap[w1.heap.size + 1]? = some mkO) := (heap_at_alloc (w1.alloc (.cells #[.int .u8 (n : Int)] 5)) _ (by simp))
    have GG50 : Hid (w.heap.size < w1.heap.size + 1) := by show _ < _; have h9 := World.block_lt_of_cell? _ _ (X41.out 0 _ rfl).1; simpa using h9
    clear e0 e1 e2 e3 e4
    obtain ⟨e0, e1, e2, e3, e4⟩ := cells5 X45.out
    refine hK _ _ ⟨e0, e1, e2, e3, e4⟩ (fun hHeld => ?_)
    clear hK K
    refine wpAnyH_ready (rs := [1, 3]) (by kernel_rfl) (by simp) ?_
    refine AllReadyH.cons rfl (fun K hK => ?_) (AllReadyH.cons rfl (fun K hK => ?_) AllReadyH.nil)
    · skip
      obtain ⟨wa51, hcv51, fz51⟩ : ∃ W2, (convert 55 55 (.slice (some ⟨w1.heap.size + 1, 0, none⟩) 6 6)).run Tryz.prog ((((w1.alloc (.cells #[.int .u8 (n : Int)] 5)).alloc mkO)).drew) = .ok (.slice (some ⟨w1.heap.size + 1, 0, none⟩) 6 6) W2 ∧ Frozen ((((w1.alloc (.cells #[.int .u8 (n : Int)] 5)).alloc mkO)).drew) W2 (w1.heap.size + 1) := ⟨_, convert_const_at ((((w1.alloc (.cells #[.int .u8 (n : Int)] 5)).alloc mkO)).drew) (w1.heap.size + 1) _ 6 6 Q49.out, frozen_freeze _ _ _⟩
      have FZ51 : Hid (Frozen ((((w1.alloc (.cells #[.int .u8 (n : Int)] 5)).alloc mkO)).drew) wa51 (w1.heap.size + 1)) := fz51
      clear fz51
      go_simp
      have B52 : Hid (Below w.heap.size w (wa51)) := below_frozen (B44.out.drew) FZ51.out (Nat.le_of_lt GG50.out)
      have X53 : Hid (Box (wa51) w.heap.size (bx5 F T cx sx a n c)) := box_frozen (w := (((w1.alloc (.cells #[.int .u8 (n : Int)] 5)).alloc mkO)).drew) X45.out FZ51.out (Nat.ne_of_lt GG50.out)
      have T54 : Hid (HasHalf (wa51)) := half_frozen (w := (((w1.alloc (.cells #[.int .u8 (n : Int)] 5)).alloc mkO)).drew) T46.out FZ51.out
      have Y55 : Hid (Src (wa51) (some ⟨w1.heap.size, 0, none⟩) (cellsB [n])) := src_frozen (w := (((w1.alloc (.cells #[.int .u8 (n : Int)] 5)).alloc mkO)).drew) Y47.out FZ51.out
      have A56 : Hid (Src (wa51) (some ⟨w1.heap.size + 1, 0, none⟩) (cellsB [98, 97, 99, 107, 117, 112])) := src_frozen (w := (((w1.alloc (.cells #[.int .u8 (n : Int)] 5)).alloc mkO)).drew) A48.out FZ51.out
      clear hcv51
      clear e0 e1 e2 e3 e4
      obtain ⟨e0, e1, e2, e3, e4⟩ := cells5 X53.out
      refine hK _ _ ⟨e0, e1, e2, e3, e4⟩ (fun hHeld => ?_)
      clear hK K
      refine wpAnyH_ready (rs := [3]) (by kernel_rfl) (by simp) ?_
      refine AllReadyH.cons rfl (fun K hK => ?_) AllReadyH.nil
      go_simp
      refine (backupHead F T cx (sx : Int) a n c (wa51) hF hT hc).mono ?_
      rw [HD.out]
      rintro e wa57 ⟨va57, rfl, o57, hb57⟩
      rw [L1.out] at o57
      obtain ⟨g57, c57, rfl, s57, _⟩ := own_src o57
      dsimp only
      have B58 : Hid (Below w.heap.size w (wa57)) := (B52.out).trans (hb57.mono (B52.out).size)
      have X59 : Hid (Box (wa57) w.heap.size (bx5 F T cx sx a n c)) := X53.out.below hb57
      have T60 : Hid (HasHalf (wa57)) := T54.out.below hb57
      have Y61 : Hid (Src (wa57) (some ⟨w1.heap.size, 0, none⟩) (cellsB [n])) := Y55.out.below hb57
      have A62 : Hid (Src (wa57) (some ⟨w1.heap.size + 1, 0, none⟩) (cellsB [98, 97, 99, 107, 117, 112])) := A56.out.below hb57
      have H63 : Hid (Src (wa57) g57 (cellsB hd)) := s57
      clear o57 hb57 s57
      clear e0 e1 e2 e3 e4
      obtain ⟨e0, e1, e2, e3, e4⟩ := cells5 X59.out
      refine hK _ _ ⟨e0, e1, e2, e3, e4⟩ (fun hHeld => ?_)
      clear hK K
      refine wpAnyH_ready (rs := [6]) (by kernel_rfl) (by simp) ?_
      refine AllReadyH.cons rfl (fun K hK => ?_) AllReadyH.nil
      go_simp
      refine (backupParts F T (cx : Int) (sx : Int) a n c M (wa57) HM.out hn HS.out (Src.below (w := w) HH.out (B58.out))).mono ?_
      rw [PT.out, L2.out]
      rintro e wa64 ⟨va64, rfl, o64, hb64⟩
      obtain ⟨g64, c64, rfl, s64, _⟩ := own_src o64
      dsimp only
      have B65 : Hid (Below w.heap.size w (wa64)) := (B58.out).trans (hb64.mono (B58.out).size)
      have X66 : Hid (Box (wa64) w.heap.size (bx5 F T cx sx a n c)) := X59.out.below hb64
      have T67 : Hid (HasHalf (wa64)) := T60.out.below hb64
      have Y68 : Hid (Src (wa64) (some ⟨w1.heap.size, 0, none⟩) (cellsB [n])) := Y61.out.below hb64
      have A69 : Hid (Src (wa64) (some ⟨w1.heap.size + 1, 0, none⟩) (cellsB [98, 97, 99, 107, 117, 112])) := A62.out.below hb64
      have H70 : Hid (Src (wa64) g57 (cellsB hd)) := H63.out.below hb64
      have P71 : Hid (Src (wa64) g64 (cellsB pt)) := s64
      clear o64 hb64 s64
      clear e0 e1 e2 e3 e4
      obtain ⟨e0, e1, e2, e3, e4⟩ := cells5 X66.out
      refine hK _ _ ⟨e0, e1, e2, e3, e4⟩ (fun hHeld => ?_)
      clear hK K
      refine wpAnyH_ready (rs := [9]) (by kernel_rfl) (by simp) ?_
      refine AllReadyH.cons rfl (fun K hK => ?_) AllReadyH.nil
      go_simp
      refine (numberBytesV sx (wa64) hx).mono ?_
      rintro e wa72 ⟨va72, rfl, o72, hb72⟩
      obtain ⟨g72, c72, rfl, s72, _⟩ := own_src o72
      dsimp only
      have B73 : Hid (Below w.heap.size w (wa72)) := (B65.out).trans (hb72.mono (B65.out).size)
      have X74 : Hid (Box (wa72) w.heap.size (bx5 F T cx sx a n c)) := X66.out.below hb72
      have T75 : Hid (HasHalf (wa72)) := T67.out.below hb72
      have Y76 : Hid (Src (wa72) (some ⟨w1.heap.size, 0, none⟩) (cellsB [n])) := Y68.out.below hb72
      have A77 : Hid (Src (wa72) (some ⟨w1.heap.size + 1, 0, none⟩) (cellsB [98, 97, 99, 107, 117, 112])) := A69.out.below hb72
      have H78 : Hid (Src (wa72) g57 (cellsB hd)) := H70.out.below hb72
      have P79 : Hid (Src (wa72) g64 (cellsB pt)) := P71.out.below hb72
      have N80 : Hid (Src (wa72) g72 (cellsB (numQ sx))) := s72
      clear o72 hb72 s72
      clear e0 e1 e2 e3 e4
      obtain ⟨e0, e1, e2, e3, e4⟩ := cells5 X74.out
      refine hK _ _ ⟨e0, e1, e2, e3, e4⟩ (fun hHeld => ?_)
      clear hK K
      refine wpAnyH_ready (rs := [11]) (by kernel_rfl) (by simp) ?_
      refine AllReadyH.cons rfl (fun K hK => ?_) AllReadyH.nil
      go_simp
      refine (backupLink F T cx sx a n c M (wa72) hF hT hc hx HM.out hn HS.out (Src.below (w := w) HH.out (B73.out)) T75.out).mono ?_
      rw [LK.out]
      rintro e wa81 ⟨rfl, hb81⟩
      dsimp only
      have B82 : Hid (Below w.heap.size w (wa81)) := (B73.out).trans (hb81.mono (B73.out).size)
      have X83 : Hid (Box (wa81) w.heap.size (bx5 F T cx sx a n c)) := X74.out.below hb81
      have T84 : Hid (HasHalf (wa81)) := T75.out.below hb81
      have Y85 : Hid (Src (wa81) (some ⟨w1.heap.size, 0, none⟩) (cellsB [n])) := Y76.out.below hb81
      have A86 : Hid (Src (wa81) (some ⟨w1.heap.size + 1, 0, none⟩) (cellsB [98, 97, 99, 107, 117, 112])) := A77.out.below hb81
      have H87 : Hid (Src (wa81) g57 (cellsB hd)) := H78.out.below hb81
      have P88 : Hid (Src (wa81) g64 (cellsB pt)) := P79.out.below hb81
      have N89 : Hid (Src (wa81) g72 (cellsB (numQ sx))) := N80.out.below hb81
      clear hb81
      clear e0 e1 e2 e3 e4
      obtain ⟨e0, e1, e2, e3, e4⟩ := cells5 X83.out
      refine hK _ _ ⟨e0, e1, e2, e3, e4⟩ (fun hHeld => ?_)
      clear hK K
      refine wpAnyH_ready (rs := [12]) (by kernel_rfl) (by simp) ?_
      refine AllReadyH.cons rfl (fun K hK => ?_) AllReadyH.nil
      go_simp
      refine (numberBytesV lk (wa81) hlk2).mono ?_
      rintro e wa90 ⟨va90, rfl, o90, hb90⟩
      obtain ⟨g90, c90, rfl, s90, _⟩ := own_src o90
      dsimp only
      have B91 : Hid (Below w.heap.size w (wa90)) := (B82.out).trans (hb90.mono (B82.out).size)
      have X92 : Hid (Box (wa90) w.heap.size (bx5 F T cx sx a n c)) := X83.out.below hb90
      have T93 : Hid (HasHalf (wa90)) := T84.out.below hb90
      have Y94 : Hid (Src (wa90) (some ⟨w1.heap.size, 0, none⟩) (cellsB [n])) := Y85.out.below hb90
      have A95 : Hid (Src (wa90) (some ⟨w1.heap.size + 1, 0, none⟩) (cellsB [98, 97, 99, 107, 117, 112])) := A86.out.below hb90
      have H96 : Hid (Src (wa90) g57 (cellsB hd)) := H87.out.below hb90
      have P97 : Hid (Src (wa90) g64 (cellsB pt)) := P88.out.below hb90
      have N98 : Hid (Src (wa90) g72 (cellsB (numQ sx))) := N89.out.below hb90
      have K99 : Hid (Src (wa90) g90 (cellsB (numQ lk))) := s90
      clear o90 hb90 s90
      clear e0 e1 e2 e3 e4
      obtain ⟨e0, e1, e2, e3, e4⟩ := cells5 X92.out
      refine hK _ _ ⟨e0, e1, e2, e3, e4⟩ (fun hHeld => ?_)
      clear hK K
      refine wpAnyH_ready (rs := [13]) (by kernel_rfl) (by simp) ?_
      refine AllReadyH.cons rfl (fun K hK => ?_) AllReadyH.nil
      go_simp
      obtain ⟨wa100, hwo100, hb100, so100⟩ : ∃ W2, (wa90).alloc (.cells #[.slice (some ⟨w1.heap.size + 1, 0, none⟩) 6 6, .slice g57 l1 c57, .slice (some ⟨w1.heap.size, 0, none⟩) 1 1, .slice g64 l2 c64, .slice g72 4 c72, .slice g90 4 c90] 55) = W2 ∧ Below (wa90).heap.size (wa90) W2 ∧ Src W2 (some ⟨wa90.heap.size, 0, none⟩) [.slice (some ⟨w1.heap.size + 1, 0, none⟩) 6 6, .slice g57 l1 c57, .slice (some ⟨w1.heap.size, 0, none⟩) 1 1, .slice g64 l2 c64, .slice g72 4 c72, .slice g90 4 c90] := ⟨_, rfl, (Below.refl _ _).alloc (Nat.le_refl _) _, src_vals (xs := [.slice (some ⟨w1.heap.size + 1, 0, none⟩) 6 6, .slice g57 l1 c57, .slice (some ⟨w1.heap.size, 0, none⟩) 1 1, .slice g64 l2 c64, .slice g72 4 c72, .slice g90 4 c90]) rfl⟩
      rw [hwo100]
      have B101 : Hid (Below w.heap.size w (wa100)) := (B91.out).trans (hb100.mono (B91.out).size)
      have X102 : Hid (Box (wa100) w.heap.size (bx5 F T cx sx a n c)) := X92.out.below hb100
      have T103 : Hid (HasHalf (wa100)) := T93.out.below hb100
      have Y104 : Hid (Src (wa100) (some ⟨w1.heap.size, 0, none⟩) (cellsB [n])) := Y94.out.below hb100
      have A105 : Hid (Src (wa100) (some ⟨w1.heap.size + 1, 0, none⟩) (cellsB [98, 97, 99, 107, 117, 112])) := A95.out.below hb100
      have H106 : Hid (Src (wa100) g57 (cellsB hd)) := H96.out.below hb100
      have P107 : Hid (Src (wa100) g64 (cellsB pt)) := P97.out.below hb100
      have N108 : Hid (Src (wa100) g72 (cellsB (numQ sx))) := N98.out.below hb100
      have K109 : Hid (Src (wa100) g90 (cellsB (numQ lk))) := K99.out.below hb100
      have O110 : Hid (Src (wa100) (some ⟨wa90.heap.size, 0, none⟩) [.slice (some ⟨w1.heap.size + 1, 0, none⟩) 6 6, .slice g57 l1 c57, .slice (some ⟨w1.heap.size, 0, none⟩) 1 1, .slice g64 l2 c64, .slice g72 4 c72, .slice g90 4 c90]) := so100
      clear hwo100 hb100 so100
      clear e0 e1 e2 e3 e4
      obtain ⟨e0, e1, e2, e3, e4⟩ := cells5 X102.out
      refine hK _ _ ⟨e0, e1, e2, e3, e4⟩ (fun hHeld => ?_)
      clear hK K
      refine wpAnyH_ready (rs := [14]) (by kernel_rfl) (by simp) ?_
      refine AllReadyH.cons rfl (fun K hK => ?_) AllReadyH.nil
      have HRC : Hid (∀ i, i < 6 → ∃ a c, ([.slice (some ⟨w1.heap.size + 1, 0, none⟩) 6 6, .slice g57 l1 c57, .slice (some ⟨w1.heap.size, 0, none⟩) 1 1, .slice g64 l2 c64, .slice g72 4 c72, .slice g90 4 c90] : List Value).getD i undef = .slice a ((fun i => [[98, 97, 99, 107, 117, 112], hd, [n], pt, numQ sx, numQ lk].getD i []) i).length c ∧ Src (wa100) a (cellsB ((fun i => [[98, 97, 99, 107, 117, 112], hd, [n], pt, numQ sx, numQ lk].getD i []) i))) := fun i hi => by
        match i, hi with
        | 0, _ => exact ⟨(some ⟨w1.heap.size + 1, 0, none⟩), 6, rfl, A105.out⟩
        | 1, _ => exact ⟨g57, c57, by show Value.slice g57 l1 c57 = Value.slice g57 (hd).length c57; rw [L1.out], H106.out⟩
        | 2, _ => exact ⟨(some ⟨w1.heap.size, 0, none⟩), 1, rfl, Y104.out⟩
        | 3, _ => exact ⟨g64, c64, by show Value.slice g64 l2 c64 = Value.slice g64 (pt).length c64; rw [L2.out], P107.out⟩
        | 4, _ => exact ⟨g72, c72, rfl, N108.out⟩
        | 5, _ => exact ⟨g90, c90, rfl, K109.out⟩
      have CC : Hid (Calls Tryz.prog 61 #[.slice (some ⟨wa90.heap.size, 0, none⟩) 6 6] (wa100) fun e w' => ∃ v, e = .returned v ∧ w'.ownsRow (wa100).heap.size 5 1 v tl (cellsB tot) ∧ Below (wa100).heap.size (wa100) w') := by
        have h9 := slicesConcat (some ⟨wa90.heap.size, 0, none⟩) 6 6 [.slice (some ⟨w1.heap.size + 1, 0, none⟩) 6 6, .slice g57 l1 c57, .slice (some ⟨w1.heap.size, 0, none⟩) 1 1, .slice g64 l2 c64, .slice g72 4 c72, .slice g90 4 c90] (fun i => [[98, 97, 99, 107, 117, 112], hd, [n], pt, numQ sx, numQ lk].getD i []) (wa100) rfl (by omega) (by rw [CT.out.1, CT.out.2]; omega) (by rw [CT.out.1, CT.out.2]; omega) O110.out HRC.out
        rw [CT.out.1, CT.out.2] at h9
        exact h9
      clear HRC
      go_simp
      refine CC.out.mono ?_
      rintro e wa111 ⟨va111, rfl, o111, hb111⟩
      obtain ⟨g111, c111, rfl, s111, _⟩ := own_src o111
      clear CC
      dsimp only
      have B112 : Hid (Below w.heap.size w (wa111)) := (B101.out).trans (hb111.mono (B101.out).size)
      have X113 : Hid (Box (wa111) w.heap.size (bx5 F T cx sx a n c)) := X102.out.below hb111
      have T114 : Hid (HasHalf (wa111)) := T103.out.below hb111
      have Y115 : Hid (Src (wa111) (some ⟨w1.heap.size, 0, none⟩) (cellsB [n])) := Y104.out.below hb111
      have A116 : Hid (Src (wa111) (some ⟨w1.heap.size + 1, 0, none⟩) (cellsB [98, 97, 99, 107, 117, 112])) := A105.out.below hb111
      have H117 : Hid (Src (wa111) g57 (cellsB hd)) := H106.out.below hb111
      have P118 : Hid (Src (wa111) g64 (cellsB pt)) := P107.out.below hb111
      have N119 : Hid (Src (wa111) g72 (cellsB (numQ sx))) := N108.out.below hb111
      have K120 : Hid (Src (wa111) g90 (cellsB (numQ lk))) := K109.out.below hb111
      have O121 : Hid (Src (wa111) (some ⟨wa90.heap.size, 0, none⟩) [.slice (some ⟨w1.heap.size + 1, 0, none⟩) 6 6, .slice g57 l1 c57, .slice (some ⟨w1.heap.size, 0, none⟩) 1 1, .slice g64 l2 c64, .slice g72 4 c72, .slice g90 4 c90]) := O110.out.below hb111
      have C122 : Hid (World.ownsRow (wa111) (w.heap.size + 1) 5 1 (.slice g111 tl c111) tl (cellsB tot)) := own_mono o111 (show w.heap.size + 1 ≤ _ from World.block_lt_of_cell? _ _ (X102.out 0 _ rfl).1)
      have Cs123 : Hid (Src (wa111) g111 (cellsB tot)) := s111
      clear o111 hb111 s111
      clear e0 e1 e2 e3 e4
      obtain ⟨e0, e1, e2, e3, e4⟩ := cells5 X113.out
      refine hK _ _ ⟨e0, e1, e2, e3, e4⟩ (fun hHeld => ?_)
      clear hK K
      refine wpAnyH_ready (rs := [15]) (by kernel_rfl) (by simp) ?_
      refine AllReadyH.cons rfl (fun K hK => ?_) AllReadyH.nil
      go_simp
      clear e0 e1 e2 e3 e4
      obtain ⟨e0, e1, e2, e3, e4⟩ := cells5 X113.out
      refine hK _ _ ⟨e0, e1, e2, e3, e4⟩ (fun hHeld => ?_)
      clear hK K
      refine wpAnyH_ready (rs := [16]) (by kernel_rfl) (by simp) ?_
      refine AllReadyH.cons rfl (fun K hK => ?_) AllReadyH.nil
      go_simp
      clear e0 e1 e2 e3 e4
      obtain ⟨e0, e1, e2, e3, e4⟩ := cells5 X113.out
      refine hK _ _ ⟨e0, e1, e2, e3, e4⟩ (fun hHeld => ?_)
      clear hK K
      refine wpAnyH_done (by kernel_rfl) ?_ _
      refine NoPanic.normal ?_
      clear e0 e1 e2 e3 e4
      clear hHeld
      have FIN : Hid ((wa111).ownsRow w.heap.size 5 1 (.slice g111 tl c111) tot.length (cellsB tot)) := by rw [CT.out.2]; exact own_mono C122.out (by omega)
      go_wp2_with fail
      go_ret2
      exact ⟨.slice g111 tl c111, tot, 0, rfl, FF.out, FIN.out, by rw [CT.out.2]; omega, B112.out⟩
    · skip
      go_simp
      refine (backupHead F T cx (sx : Int) a n c ((((w1.alloc (.cells #[.int .u8 (n : Int)] 5)).alloc mkO)).drew) hF hT hc).mono ?_
      rw [HD.out]
      rintro e wa124 ⟨va124, rfl, o124, hb124⟩
      rw [L1.out] at o124
      obtain ⟨g124, c124, rfl, s124, _⟩ := own_src o124
      dsimp only
      have B125 : Hid (Below w.heap.size w (wa124)) := (B44.out.drew).trans (hb124.mono (B44.out.drew).size)
      have X126 : Hid (Box (wa124) w.heap.size (bx5 F T cx sx a n c)) := Box.below (w := (((w1.alloc (.cells #[.int .u8 (n : Int)] 5)).alloc mkO)).drew) X45.out hb124
      have T127 : Hid (HasHalf (wa124)) := HasHalf.below (w := (((w1.alloc (.cells #[.int .u8 (n : Int)] 5)).alloc mkO)).drew) T46.out hb124
      have Y128 : Hid (Src (wa124) (some ⟨w1.heap.size, 0, none⟩) (cellsB [n])) := Src.below (w := (((w1.alloc (.cells #[.int .u8 (n : Int)] 5)).alloc mkO)).drew) Y47.out hb124
      have A129 : Hid (Src (wa124) (some ⟨w1.heap.size + 1, 0, none⟩) (cellsB [98, 97, 99, 107, 117, 112])) := Src.below (w := (((w1.alloc (.cells #[.int .u8 (n : Int)] 5)).alloc mkO)).drew) A48.out hb124
      have Q130 : Hid ((wa124).heap[w1.heap.size + 1]? = some mkO) := blk_below (w := (((w1.alloc (.cells #[.int .u8 (n : Int)] 5)).alloc mkO)).drew) Q49.out hb124
      have H131 : Hid (Src (wa124) g124 (cellsB hd)) := s124
      clear o124 hb124 s124
      clear e0 e1 e2 e3 e4
      obtain ⟨e0, e1, e2, e3, e4⟩ := cells5 X126.out
      refine hK _ _ ⟨e0, e1, e2, e3, e4⟩ (fun hHeld => ?_)
      clear hK K
      refine wpAnyH_ready (rs := [1, 6]) (by kernel_rfl) (by simp) ?_
      refine AllReadyH.cons rfl (fun K hK => ?_) (AllReadyH.cons rfl (fun K hK => ?_) AllReadyH.nil)
      · skip
        obtain ⟨wa132, hcv132, fz132⟩ : ∃ W2, (convert 55 55 (.slice (some ⟨w1.heap.size + 1, 0, none⟩) 6 6)).run Tryz.prog (wa124) = .ok (.slice (some ⟨w1.heap.size + 1, 0, none⟩) 6 6) W2 ∧ Frozen (wa124) W2 (w1.heap.size + 1) := ⟨_, convert_const_at (wa124) (w1.heap.size + 1) _ 6 6 Q130.out, frozen_freeze _ _ _⟩
        have FZ132 : Hid (Frozen (wa124) wa132 (w1.heap.size + 1)) := fz132
        clear fz132
        go_simp
        have B133 : Hid (Below w.heap.size w (wa132)) := below_frozen (B125.out) FZ132.out (Nat.le_of_lt GG50.out)
        have X134 : Hid (Box (wa132) w.heap.size (bx5 F T cx sx a n c)) := box_frozen (w := wa124) X126.out FZ132.out (Nat.ne_of_lt GG50.out)
        have T135 : Hid (HasHalf (wa132)) := half_frozen (w := wa124) T127.out FZ132.out
        have Y136 : Hid (Src (wa132) (some ⟨w1.heap.size, 0, none⟩) (cellsB [n])) := src_frozen (w := wa124) Y128.out FZ132.out
        have A137 : Hid (Src (wa132) (some ⟨w1.heap.size + 1, 0, none⟩) (cellsB [98, 97, 99, 107, 117, 112])) := src_frozen (w := wa124) A129.out FZ132.out
        have H138 : Hid (Src (wa132) g124 (cellsB hd)) := src_frozen (w := wa124) H131.out FZ132.out
        clear hcv132
        clear e0 e1 e2 e3 e4
        obtain ⟨e0, e1, e2, e3, e4⟩ := cells5 X134.out
        refine hK _ _ ⟨e0, e1, e2, e3, e4⟩ (fun hHeld => ?_)
        clear hK K
        refine wpAnyH_ready (rs := [6]) (by kernel_rfl) (by simp) ?_
        refine AllReadyH.cons rfl (fun K hK => ?_) AllReadyH.nil
        go_simp
        refine (backupParts F T (cx : Int) (sx : Int) a n c M (wa132) HM.out hn HS.out (Src.below (w := w) HH.out (B133.out))).mono ?_
        rw [PT.out, L2.out]
        rintro e wa139 ⟨va139, rfl, o139, hb139⟩
        obtain ⟨g139, c139, rfl, s139, _⟩ := own_src o139
        dsimp only
        have B140 : Hid (Below w.heap.size w (wa139)) := (B133.out).trans (hb139.mono (B133.out).size)
        have X141 : Hid (Box (wa139) w.heap.size (bx5 F T cx sx a n c)) := X134.out.below hb139
        have T142 : Hid (HasHalf (wa139)) := T135.out.below hb139
        have Y143 : Hid (Src (wa139) (some ⟨w1.heap.size, 0, none⟩) (cellsB [n])) := Y136.out.below hb139
        have A144 : Hid (Src (wa139) (some ⟨w1.heap.size + 1, 0, none⟩) (cellsB [98, 97, 99, 107, 117, 112])) := A137.out.below hb139
        have H145 : Hid (Src (wa139) g124 (cellsB hd)) := H138.out.below hb139
        have P146 : Hid (Src (wa139) g139 (cellsB pt)) := s139
        clear o139 hb139 s139
        clear e0 e1 e2 e3 e4
        obtain ⟨e0, e1, e2, e3, e4⟩ := cells5 X141.out
        refine hK _ _ ⟨e0, e1, e2, e3, e4⟩ (fun hHeld => ?_)
        clear hK K
        refine wpAnyH_ready (rs := [9]) (by kernel_rfl) (by simp) ?_
        refine AllReadyH.cons rfl (fun K hK => ?_) AllReadyH.nil
        go_simp
        refine (numberBytesV sx (wa139) hx).mono ?_
        rintro e wa147 ⟨va147, rfl, o147, hb147⟩
        obtain ⟨g147, c147, rfl, s147, _⟩ := own_src o147
        dsimp only
        have B148 : Hid (Below w.heap.size w (wa147)) := (B140.out).trans (hb147.mono (B140.out).size)
        have X149 : Hid (Box (wa147) w.heap.size (bx5 F T cx sx a n c)) := X141.out.below hb147
        have T150 : Hid (HasHalf (wa147)) := T142.out.below hb147
        have Y151 : Hid (Src (wa147) (some ⟨w1.heap.size, 0, none⟩) (cellsB [n])) := Y143.out.below hb147
        have A152 : Hid (Src (wa147) (some ⟨w1.heap.size + 1, 0, none⟩) (cellsB [98, 97, 99, 107, 117, 112])) := A144.out.below hb147
        have H153 : Hid (Src (wa147) g124 (cellsB hd)) := H145.out.below hb147
        have P154 : Hid (Src (wa147) g139 (cellsB pt)) := P146.out.below hb147
        have N155 : Hid (Src (wa147) g147 (cellsB (numQ sx))) := s147
        clear o147 hb147 s147
        clear e0 e1 e2 e3 e4
        obtain ⟨e0, e1, e2, e3, e4⟩ := cells5 X149.out
        refine hK _ _ ⟨e0, e1, e2, e3, e4⟩ (fun hHeld => ?_)
        clear hK K
        refine wpAnyH_ready (rs := [11]) (by kernel_rfl) (by simp) ?_
        refine AllReadyH.cons rfl (fun K hK => ?_) AllReadyH.nil
        go_simp
        refine (backupLink F T cx sx a n c M (wa147) hF hT hc hx HM.out hn HS.out (Src.below (w := w) HH.out (B148.out)) T150.out).mono ?_
        rw [LK.out]
        rintro e wa156 ⟨rfl, hb156⟩
        dsimp only
        have B157 : Hid (Below w.heap.size w (wa156)) := (B148.out).trans (hb156.mono (B148.out).size)
        have X158 : Hid (Box (wa156) w.heap.size (bx5 F T cx sx a n c)) := X149.out.below hb156
        have T159 : Hid (HasHalf (wa156)) := T150.out.below hb156
        have Y160 : Hid (Src (wa156) (some ⟨w1.heap.size, 0, none⟩) (cellsB [n])) := Y151.out.below hb156
        have A161 : Hid (Src (wa156) (some ⟨w1.heap.size + 1, 0, none⟩) (cellsB [98, 97, 99, 107, 117, 112])) := A152.out.below hb156
        have H162 : Hid (Src (wa156) g124 (cellsB hd)) := H153.out.below hb156
        have P163 : Hid (Src (wa156) g139 (cellsB pt)) := P154.out.below hb156
        have N164 : Hid (Src (wa156) g147 (cellsB (numQ sx))) := N155.out.below hb156
        clear hb156
        clear e0 e1 e2 e3 e4
        obtain ⟨e0, e1, e2, e3, e4⟩ := cells5 X158.out
        refine hK _ _ ⟨e0, e1, e2, e3, e4⟩ (fun hHeld => ?_)
        clear hK K
        refine wpAnyH_ready (rs := [12]) (by kernel_rfl) (by simp) ?_
        refine AllReadyH.cons rfl (fun K hK => ?_) AllReadyH.nil
        go_simp
        refine (numberBytesV lk (wa156) hlk2).mono ?_
        rintro e wa165 ⟨va165, rfl, o165, hb165⟩
        obtain ⟨g165, c165, rfl, s165, _⟩ := own_src o165
        dsimp only
        have B166 : Hid (Below w.heap.size w (wa165)) := (B157.out).trans (hb165.mono (B157.out).size)
        have X167 : Hid (Box (wa165) w.heap.size (bx5 F T cx sx a n c)) := X158.out.below hb165
        have T168 : Hid (HasHalf (wa165)) := T159.out.below hb165
        have Y169 : Hid (Src (wa165) (some ⟨w1.heap.size, 0, none⟩) (cellsB [n])) := Y160.out.below hb165
        have A170 : Hid (Src (wa165) (some ⟨w1.heap.size + 1, 0, none⟩) (cellsB [98, 97, 99, 107, 117, 112])) := A161.out.below hb165
        have H171 : Hid (Src (wa165) g124 (cellsB hd)) := H162.out.below hb165
        have P172 : Hid (Src (wa165) g139 (cellsB pt)) := P163.out.below hb165
        have N173 : Hid (Src (wa165) g147 (cellsB (numQ sx))) := N164.out.below hb165
        have K174 : Hid (Src (wa165) g165 (cellsB (numQ lk))) := s165
        clear o165 hb165 s165
        clear e0 e1 e2 e3 e4
        obtain ⟨e0, e1, e2, e3, e4⟩ := cells5 X167.out
        refine hK _ _ ⟨e0, e1, e2, e3, e4⟩ (fun hHeld => ?_)
        clear hK K
        refine wpAnyH_ready (rs := [13]) (by kernel_rfl) (by simp) ?_
        refine AllReadyH.cons rfl (fun K hK => ?_) AllReadyH.nil
        go_simp
        obtain ⟨wa175, hwo175, hb175, so175⟩ : ∃ W2, (wa165).alloc (.cells #[.slice (some ⟨w1.heap.size + 1, 0, none⟩) 6 6, .slice g124 l1 c124, .slice (some ⟨w1.heap.size, 0, none⟩) 1 1, .slice g139 l2 c139, .slice g147 4 c147, .slice g165 4 c165] 55) = W2 ∧ Below (wa165).heap.size (wa165) W2 ∧ Src W2 (some ⟨wa165.heap.size, 0, none⟩) [.slice (some ⟨w1.heap.size + 1, 0, none⟩) 6 6, .slice g124 l1 c124, .slice (some ⟨w1.heap.size, 0, none⟩) 1 1, .slice g139 l2 c139, .slice g147 4 c147, .slice g165 4 c165] := ⟨_, rfl, (Below.refl _ _).alloc (Nat.le_refl _) _, src_vals (xs := [.slice (some ⟨w1.heap.size + 1, 0, none⟩) 6 6, .slice g124 l1 c124, .slice (some ⟨w1.heap.size, 0, none⟩) 1 1, .slice g139 l2 c139, .slice g147 4 c147, .slice g165 4 c165]) rfl⟩
        rw [hwo175]
        have B176 : Hid (Below w.heap.size w (wa175)) := (B166.out).trans (hb175.mono (B166.out).size)
        have X177 : Hid (Box (wa175) w.heap.size (bx5 F T cx sx a n c)) := X167.out.below hb175
        have T178 : Hid (HasHalf (wa175)) := T168.out.below hb175
        have Y179 : Hid (Src (wa175) (some ⟨w1.heap.size, 0, none⟩) (cellsB [n])) := Y169.out.below hb175
        have A180 : Hid (Src (wa175) (some ⟨w1.heap.size + 1, 0, none⟩) (cellsB [98, 97, 99, 107, 117, 112])) := A170.out.below hb175
        have H181 : Hid (Src (wa175) g124 (cellsB hd)) := H171.out.below hb175
        have P182 : Hid (Src (wa175) g139 (cellsB pt)) := P172.out.below hb175
        have N183 : Hid (Src (wa175) g147 (cellsB (numQ sx))) := N173.out.below hb175
        have K184 : Hid (Src (wa175) g165 (cellsB (numQ lk))) := K174.out.below hb175
        have O185 : Hid (Src (wa175) (some ⟨wa165.heap.size, 0, none⟩) [.slice (some ⟨w1.heap.size + 1, 0, none⟩) 6 6, .slice g124 l1 c124, .slice (some ⟨w1.heap.size, 0, none⟩) 1 1, .slice g139 l2 c139, .slice g147 4 c147, .slice g165 4 c165]) := so175
        clear hwo175 hb175 so175
        clear e0 e1 e2 e3 e4
        obtain ⟨e0, e1, e2, e3, e4⟩ := cells5 X177.out
        refine hK _ _ ⟨e0, e1, e2, e3, e4⟩ (fun hHeld => ?_)
        clear hK K
        refine wpAnyH_ready (rs := [14]) (by kernel_rfl) (by simp) ?_
        refine AllReadyH.cons rfl (fun K hK => ?_) AllReadyH.nil
        have HRC : Hid (∀ i, i < 6 → ∃ a c, ([.slice (some ⟨w1.heap.size + 1, 0, none⟩) 6 6, .slice g124 l1 c124, .slice (some ⟨w1.heap.size, 0, none⟩) 1 1, .slice g139 l2 c139, .slice g147 4 c147, .slice g165 4 c165] : List Value).getD i undef = .slice a ((fun i => [[98, 97, 99, 107, 117, 112], hd, [n], pt, numQ sx, numQ lk].getD i []) i).length c ∧ Src (wa175) a (cellsB ((fun i => [[98, 97, 99, 107, 117, 112], hd, [n], pt, numQ sx, numQ lk].getD i []) i))) := fun i hi => by
          match i, hi with
          | 0, _ => exact ⟨(some ⟨w1.heap.size + 1, 0, none⟩), 6, rfl, A180.out⟩
          | 1, _ => exact ⟨g124, c124, by show Value.slice g124 l1 c124 = Value.slice g124 (hd).length c124; rw [L1.out], H181.out⟩
          | 2, _ => exact ⟨(some ⟨w1.heap.size, 0, none⟩), 1, rfl, Y179.out⟩
          | 3, _ => exact ⟨g139, c139, by show Value.slice g139 l2 c139 = Value.slice g139 (pt).length c139; rw [L2.out], P182.out⟩
          | 4, _ => exact ⟨g147, c147, rfl, N183.out⟩
          | 5, _ => exact ⟨g165, c165, rfl, K184.out⟩
        have CC : Hid (Calls Tryz.prog 61 #[.slice (some ⟨wa165.heap.size, 0, none⟩) 6 6] (wa175) fun e w' => ∃ v, e = .returned v ∧ w'.ownsRow (wa175).heap.size 5 1 v tl (cellsB tot) ∧ Below (wa175).heap.size (wa175) w') := by
          have h9 := slicesConcat (some ⟨wa165.heap.size, 0, none⟩) 6 6 [.slice (some ⟨w1.heap.size + 1, 0, none⟩) 6 6, .slice g124 l1 c124, .slice (some ⟨w1.heap.size, 0, none⟩) 1 1, .slice g139 l2 c139, .slice g147 4 c147, .slice g165 4 c165] (fun i => [[98, 97, 99, 107, 117, 112], hd, [n], pt, numQ sx, numQ lk].getD i []) (wa175) rfl (by omega) (by rw [CT.out.1, CT.out.2]; omega) (by rw [CT.out.1, CT.out.2]; omega) O185.out HRC.out
          rw [CT.out.1, CT.out.2] at h9
          exact h9
        clear HRC
        go_simp
        refine CC.out.mono ?_
        rintro e wa186 ⟨va186, rfl, o186, hb186⟩
        obtain ⟨g186, c186, rfl, s186, _⟩ := own_src o186
        clear CC
        dsimp only
        have B187 : Hid (Below w.heap.size w (wa186)) := (B176.out).trans (hb186.mono (B176.out).size)
        have X188 : Hid (Box (wa186) w.heap.size (bx5 F T cx sx a n c)) := X177.out.below hb186
        have T189 : Hid (HasHalf (wa186)) := T178.out.below hb186
        have Y190 : Hid (Src (wa186) (some ⟨w1.heap.size, 0, none⟩) (cellsB [n])) := Y179.out.below hb186
        have A191 : Hid (Src (wa186) (some ⟨w1.heap.size + 1, 0, none⟩) (cellsB [98, 97, 99, 107, 117, 112])) := A180.out.below hb186
        have H192 : Hid (Src (wa186) g124 (cellsB hd)) := H181.out.below hb186
        have P193 : Hid (Src (wa186) g139 (cellsB pt)) := P182.out.below hb186
        have N194 : Hid (Src (wa186) g147 (cellsB (numQ sx))) := N183.out.below hb186
        have K195 : Hid (Src (wa186) g165 (cellsB (numQ lk))) := K184.out.below hb186
        have O196 : Hid (Src (wa186) (some ⟨wa165.heap.size, 0, none⟩) [.slice (some ⟨w1.heap.size + 1, 0, none⟩) 6 6, .slice g124 l1 c124, .slice (some ⟨w1.heap.size, 0, none⟩) 1 1, .slice g139 l2 c139, .slice g147 4 c147, .slice g165 4 c165]) := O185.out.below hb186
        have C197 : Hid (World.ownsRow (wa186) (w.heap.size + 1) 5 1 (.slice g186 tl c186) tl (cellsB tot)) := own_mono o186 (show w.heap.size + 1 ≤ _ from World.block_lt_of_cell? _ _ (X177.out 0 _ rfl).1)
        have Cs198 : Hid (Src (wa186) g186 (cellsB tot)) := s186
        clear o186 hb186 s186
        clear e0 e1 e2 e3 e4
        obtain ⟨e0, e1, e2, e3, e4⟩ := cells5 X188.out
        refine hK _ _ ⟨e0, e1, e2, e3, e4⟩ (fun hHeld => ?_)
        clear hK K
        refine wpAnyH_ready (rs := [15]) (by kernel_rfl) (by simp) ?_
        refine AllReadyH.cons rfl (fun K hK => ?_) AllReadyH.nil
        go_simp
        clear e0 e1 e2 e3 e4
        obtain ⟨e0, e1, e2, e3, e4⟩ := cells5 X188.out
        refine hK _ _ ⟨e0, e1, e2, e3, e4⟩ (fun hHeld => ?_)
        clear hK K
        refine wpAnyH_ready (rs := [16]) (by kernel_rfl) (by simp) ?_
        refine AllReadyH.cons rfl (fun K hK => ?_) AllReadyH.nil
        go_simp
        clear e0 e1 e2 e3 e4
        obtain ⟨e0, e1, e2, e3, e4⟩ := cells5 X188.out
        refine hK _ _ ⟨e0, e1, e2, e3, e4⟩ (fun hHeld => ?_)
        clear hK K
        refine wpAnyH_done (by kernel_rfl) ?_ _
        refine NoPanic.normal ?_
        clear e0 e1 e2 e3 e4
        clear hHeld
        have FIN : Hid ((wa186).ownsRow w.heap.size 5 1 (.slice g186 tl c186) tot.length (cellsB tot)) := by rw [CT.out.2]; exact own_mono C197.out (by omega)
        go_wp2_with fail
        go_ret2
        exact ⟨.slice g186 tl c186, tot, 0, rfl, FF.out, FIN.out, by rw [CT.out.2]; omega, B187.out⟩
      · skip
        go_simp
        refine (backupParts F T (cx : Int) (sx : Int) a n c M (wa124) HM.out hn HS.out (Src.below (w := w) HH.out (B125.out))).mono ?_
        rw [PT.out, L2.out]
        rintro e wa199 ⟨va199, rfl, o199, hb199⟩
        obtain ⟨g199, c199, rfl, s199, _⟩ := own_src o199
        dsimp only
        have B200 : Hid (Below w.heap.size w (wa199)) := (B125.out).trans (hb199.mono (B125.out).size)
        have X201 : Hid (Box (wa199) w.heap.size (bx5 F T cx sx a n c)) := X126.out.below hb199
        have T202 : Hid (HasHalf (wa199)) := T127.out.below hb199
        have Y203 : Hid (Src (wa199) (some ⟨w1.heap.size, 0, none⟩) (cellsB [n])) := Y128.out.below hb199
        have A204 : Hid (Src (wa199) (some ⟨w1.heap.size + 1, 0, none⟩) (cellsB [98, 97, 99, 107, 117, 112])) := A129.out.below hb199
        have Q205 : Hid ((wa199).heap[w1.heap.size + 1]? = some mkO) := blk_below (w := wa124) Q130.out hb199
        have H206 : Hid (Src (wa199) g124 (cellsB hd)) := H131.out.below hb199
        have P207 : Hid (Src (wa199) g199 (cellsB pt)) := s199
        clear o199 hb199 s199
        clear e0 e1 e2 e3 e4
        obtain ⟨e0, e1, e2, e3, e4⟩ := cells5 X201.out
        refine hK _ _ ⟨e0, e1, e2, e3, e4⟩ (fun hHeld => ?_)
        clear hK K
        refine wpAnyH_ready (rs := [1, 9]) (by kernel_rfl) (by simp) ?_
        refine AllReadyH.cons rfl (fun K hK => ?_) (AllReadyH.cons rfl (fun K hK => ?_) AllReadyH.nil)
        · skip
          obtain ⟨wa208, hcv208, fz208⟩ : ∃ W2, (convert 55 55 (.slice (some ⟨w1.heap.size + 1, 0, none⟩) 6 6)).run Tryz.prog (wa199) = .ok (.slice (some ⟨w1.heap.size + 1, 0, none⟩) 6 6) W2 ∧ Frozen (wa199) W2 (w1.heap.size + 1) := ⟨_, convert_const_at (wa199) (w1.heap.size + 1) _ 6 6 Q205.out, frozen_freeze _ _ _⟩
          have FZ208 : Hid (Frozen (wa199) wa208 (w1.heap.size + 1)) := fz208
          clear fz208
          go_simp
          have B209 : Hid (Below w.heap.size w (wa208)) := below_frozen (B200.out) FZ208.out (Nat.le_of_lt GG50.out)
          have X210 : Hid (Box (wa208) w.heap.size (bx5 F T cx sx a n c)) := box_frozen (w := wa199) X201.out FZ208.out (Nat.ne_of_lt GG50.out)
          have T211 : Hid (HasHalf (wa208)) := half_frozen (w := wa199) T202.out FZ208.out
          have Y212 : Hid (Src (wa208) (some ⟨w1.heap.size, 0, none⟩) (cellsB [n])) := src_frozen (w := wa199) Y203.out FZ208.out
          have A213 : Hid (Src (wa208) (some ⟨w1.heap.size + 1, 0, none⟩) (cellsB [98, 97, 99, 107, 117, 112])) := src_frozen (w := wa199) A204.out FZ208.out
          have H214 : Hid (Src (wa208) g124 (cellsB hd)) := src_frozen (w := wa199) H206.out FZ208.out
          have P215 : Hid (Src (wa208) g199 (cellsB pt)) := src_frozen (w := wa199) P207.out FZ208.out
          clear hcv208
          clear e0 e1 e2 e3 e4
          obtain ⟨e0, e1, e2, e3, e4⟩ := cells5 X210.out
          refine hK _ _ ⟨e0, e1, e2, e3, e4⟩ (fun hHeld => ?_)
          clear hK K
          refine wpAnyH_ready (rs := [9]) (by kernel_rfl) (by simp) ?_
          refine AllReadyH.cons rfl (fun K hK => ?_) AllReadyH.nil
          go_simp
          refine (numberBytesV sx (wa208) hx).mono ?_
          rintro e wa216 ⟨va216, rfl, o216, hb216⟩
          obtain ⟨g216, c216, rfl, s216, _⟩ := own_src o216
          dsimp only
          have B217 : Hid (Below w.heap.size w (wa216)) := (B209.out).trans (hb216.mono (B209.out).size)
          have X218 : Hid (Box (wa216) w.heap.size (bx5 F T cx sx a n c)) := X210.out.below hb216
          have T219 : Hid (HasHalf (wa216)) := T211.out.below hb216
          have Y220 : Hid (Src (wa216) (some ⟨w1.heap.size, 0, none⟩) (cellsB [n])) := Y212.out.below hb216
          have A221 : Hid (Src (wa216) (some ⟨w1.heap.size + 1, 0, none⟩) (cellsB [98, 97, 99, 107, 117, 112])) := A213.out.below hb216
          have H222 : Hid (Src (wa216) g124 (cellsB hd)) := H214.out.below hb216
          have P223 : Hid (Src (wa216) g199 (cellsB pt)) := P215.out.below hb216
          have N224 : Hid (Src (wa216) g216 (cellsB (numQ sx))) := s216
          clear o216 hb216 s216
          clear e0 e1 e2 e3 e4
          obtain ⟨e0, e1, e2, e3, e4⟩ := cells5 X218.out
          refine hK _ _ ⟨e0, e1, e2, e3, e4⟩ (fun hHeld => ?_)
          clear hK K
          refine wpAnyH_ready (rs := [11]) (by kernel_rfl) (by simp) ?_
          refine AllReadyH.cons rfl (fun K hK => ?_) AllReadyH.nil
          go_simp
          refine (backupLink F T cx sx a n c M (wa216) hF hT hc hx HM.out hn HS.out (Src.below (w := w) HH.out (B217.out)) T219.out).mono ?_
          rw [LK.out]
          rintro e wa225 ⟨rfl, hb225⟩
          dsimp only
          have B226 : Hid (Below w.heap.size w (wa225)) := (B217.out).trans (hb225.mono (B217.out).size)
          have X227 : Hid (Box (wa225) w.heap.size (bx5 F T cx sx a n c)) := X218.out.below hb225
          have T228 : Hid (HasHalf (wa225)) := T219.out.below hb225
          have Y229 : Hid (Src (wa225) (some ⟨w1.heap.size, 0, none⟩) (cellsB [n])) := Y220.out.below hb225
          have A230 : Hid (Src (wa225) (some ⟨w1.heap.size + 1, 0, none⟩) (cellsB [98, 97, 99, 107, 117, 112])) := A221.out.below hb225
          have H231 : Hid (Src (wa225) g124 (cellsB hd)) := H222.out.below hb225
          have P232 : Hid (Src (wa225) g199 (cellsB pt)) := P223.out.below hb225
          have N233 : Hid (Src (wa225) g216 (cellsB (numQ sx))) := N224.out.below hb225
          clear hb225
          clear e0 e1 e2 e3 e4
          obtain ⟨e0, e1, e2, e3, e4⟩ := cells5 X227.out
          refine hK _ _ ⟨e0, e1, e2, e3, e4⟩ (fun hHeld => ?_)
          clear hK K
          refine wpAnyH_ready (rs := [12]) (by kernel_rfl) (by simp) ?_
          refine AllReadyH.cons rfl (fun K hK => ?_) AllReadyH.nil
          go_simp
          refine (numberBytesV lk (wa225) hlk2).mono ?_
          rintro e wa234 ⟨va234, rfl, o234, hb234⟩
          obtain ⟨g234, c234, rfl, s234, _⟩ := own_src o234
          dsimp only
          have B235 : Hid (Below w.heap.size w (wa234)) := (B226.out).trans (hb234.mono (B226.out).size)
          have X236 : Hid (Box (wa234) w.heap.size (bx5 F T cx sx a n c)) := X227.out.below hb234
          have T237 : Hid (HasHalf (wa234)) := T228.out.below hb234
          have Y238 : Hid (Src (wa234) (some ⟨w1.heap.size, 0, none⟩) (cellsB [n])) := Y229.out.below hb234
          have A239 : Hid (Src (wa234) (some ⟨w1.heap.size + 1, 0, none⟩) (cellsB [98, 97, 99, 107, 117, 112])) := A230.out.below hb234
          have H240 : Hid (Src (wa234) g124 (cellsB hd)) := H231.out.below hb234
          have P241 : Hid (Src (wa234) g199 (cellsB pt)) := P232.out.below hb234
          have N242 : Hid (Src (wa234) g216 (cellsB (numQ sx))) := N233.out.below hb234
          have K243 : Hid (Src (wa234) g234 (cellsB (numQ lk))) := s234
          clear o234 hb234 s234
          clear e0 e1 e2 e3 e4
          obtain ⟨e0, e1, e2, e3, e4⟩ := cells5 X236.out
          refine hK _ _ ⟨e0, e1, e2, e3, e4⟩ (fun hHeld => ?_)
          clear hK K
          refine wpAnyH_ready (rs := [13]) (by kernel_rfl) (by simp) ?_
          refine AllReadyH.cons rfl (fun K hK => ?_) AllReadyH.nil
          go_simp
          obtain ⟨wa244, hwo244, hb244, so244⟩ : ∃ W2, (wa234).alloc (.cells #[.slice (some ⟨w1.heap.size + 1, 0, none⟩) 6 6, .slice g124 l1 c124, .slice (some ⟨w1.heap.size, 0, none⟩) 1 1, .slice g199 l2 c199, .slice g216 4 c216, .slice g234 4 c234] 55) = W2 ∧ Below (wa234).heap.size (wa234) W2 ∧ Src W2 (some ⟨wa234.heap.size, 0, none⟩) [.slice (some ⟨w1.heap.size + 1, 0, none⟩) 6 6, .slice g124 l1 c124, .slice (some ⟨w1.heap.size, 0, none⟩) 1 1, .slice g199 l2 c199, .slice g216 4 c216, .slice g234 4 c234] := ⟨_, rfl, (Below.refl _ _).alloc (Nat.le_refl _) _, src_vals (xs := [.slice (some ⟨w1.heap.size + 1, 0, none⟩) 6 6, .slice g124 l1 c124, .slice (some ⟨w1.heap.size, 0, none⟩) 1 1, .slice g199 l2 c199, .slice g216 4 c216, .slice g234 4 c234]) rfl⟩
          rw [hwo244]
          have B245 : Hid (Below w.heap.size w (wa244)) := (B235.out).trans (hb244.mono (B235.out).size)
          have X246 : Hid (Box (wa244) w.heap.size (bx5 F T cx sx a n c)) := X236.out.below hb244
          have T247 : Hid (HasHalf (wa244)) := T237.out.below hb244
          have Y248 : Hid (Src (wa244) (some ⟨w1.heap.size, 0, none⟩) (cellsB [n])) := Y238.out.below hb244
          have A249 : Hid (Src (wa244) (some ⟨w1.heap.size + 1, 0, none⟩) (cellsB [98, 97, 99, 107, 117, 112])) := A239.out.below hb244
          have H250 : Hid (Src (wa244) g124 (cellsB hd)) := H240.out.below hb244
          have P251 : Hid (Src (wa244) g199 (cellsB pt)) := P241.out.below hb244
          have N252 : Hid (Src (wa244) g216 (cellsB (numQ sx))) := N242.out.below hb244
          have K253 : Hid (Src (wa244) g234 (cellsB (numQ lk))) := K243.out.below hb244
          have O254 : Hid (Src (wa244) (some ⟨wa234.heap.size, 0, none⟩) [.slice (some ⟨w1.heap.size + 1, 0, none⟩) 6 6, .slice g124 l1 c124, .slice (some ⟨w1.heap.size, 0, none⟩) 1 1, .slice g199 l2 c199, .slice g216 4 c216, .slice g234 4 c234]) := so244
          clear hwo244 hb244 so244
          clear e0 e1 e2 e3 e4
          obtain ⟨e0, e1, e2, e3, e4⟩ := cells5 X246.out
          refine hK _ _ ⟨e0, e1, e2, e3, e4⟩ (fun hHeld => ?_)
          clear hK K
          refine wpAnyH_ready (rs := [14]) (by kernel_rfl) (by simp) ?_
          refine AllReadyH.cons rfl (fun K hK => ?_) AllReadyH.nil
          have HRC : Hid (∀ i, i < 6 → ∃ a c, ([.slice (some ⟨w1.heap.size + 1, 0, none⟩) 6 6, .slice g124 l1 c124, .slice (some ⟨w1.heap.size, 0, none⟩) 1 1, .slice g199 l2 c199, .slice g216 4 c216, .slice g234 4 c234] : List Value).getD i undef = .slice a ((fun i => [[98, 97, 99, 107, 117, 112], hd, [n], pt, numQ sx, numQ lk].getD i []) i).length c ∧ Src (wa244) a (cellsB ((fun i => [[98, 97, 99, 107, 117, 112], hd, [n], pt, numQ sx, numQ lk].getD i []) i))) := fun i hi => by
            match i, hi with
            | 0, _ => exact ⟨(some ⟨w1.heap.size + 1, 0, none⟩), 6, rfl, A249.out⟩
            | 1, _ => exact ⟨g124, c124, by show Value.slice g124 l1 c124 = Value.slice g124 (hd).length c124; rw [L1.out], H250.out⟩
            | 2, _ => exact ⟨(some ⟨w1.heap.size, 0, none⟩), 1, rfl, Y248.out⟩
            | 3, _ => exact ⟨g199, c199, by show Value.slice g199 l2 c199 = Value.slice g199 (pt).length c199; rw [L2.out], P251.out⟩
            | 4, _ => exact ⟨g216, c216, rfl, N252.out⟩
            | 5, _ => exact ⟨g234, c234, rfl, K253.out⟩
          have CC : Hid (Calls Tryz.prog 61 #[.slice (some ⟨wa234.heap.size, 0, none⟩) 6 6] (wa244) fun e w' => ∃ v, e = .returned v ∧ w'.ownsRow (wa244).heap.size 5 1 v tl (cellsB tot) ∧ Below (wa244).heap.size (wa244) w') := by
            have h9 := slicesConcat (some ⟨wa234.heap.size, 0, none⟩) 6 6 [.slice (some ⟨w1.heap.size + 1, 0, none⟩) 6 6, .slice g124 l1 c124, .slice (some ⟨w1.heap.size, 0, none⟩) 1 1, .slice g199 l2 c199, .slice g216 4 c216, .slice g234 4 c234] (fun i => [[98, 97, 99, 107, 117, 112], hd, [n], pt, numQ sx, numQ lk].getD i []) (wa244) rfl (by omega) (by rw [CT.out.1, CT.out.2]; omega) (by rw [CT.out.1, CT.out.2]; omega) O254.out HRC.out
            rw [CT.out.1, CT.out.2] at h9
            exact h9
          clear HRC
          go_simp
          refine CC.out.mono ?_
          rintro e wa255 ⟨va255, rfl, o255, hb255⟩
          obtain ⟨g255, c255, rfl, s255, _⟩ := own_src o255
          clear CC
          dsimp only
          have B256 : Hid (Below w.heap.size w (wa255)) := (B245.out).trans (hb255.mono (B245.out).size)
          have X257 : Hid (Box (wa255) w.heap.size (bx5 F T cx sx a n c)) := X246.out.below hb255
          have T258 : Hid (HasHalf (wa255)) := T247.out.below hb255
          have Y259 : Hid (Src (wa255) (some ⟨w1.heap.size, 0, none⟩) (cellsB [n])) := Y248.out.below hb255
          have A260 : Hid (Src (wa255) (some ⟨w1.heap.size + 1, 0, none⟩) (cellsB [98, 97, 99, 107, 117, 112])) := A249.out.below hb255
          have H261 : Hid (Src (wa255) g124 (cellsB hd)) := H250.out.below hb255
          have P262 : Hid (Src (wa255) g199 (cellsB pt)) := P251.out.below hb255
          have N263 : Hid (Src (wa255) g216 (cellsB (numQ sx))) := N252.out.below hb255
          have K264 : Hid (Src (wa255) g234 (cellsB (numQ lk))) := K253.out.below hb255
          have O265 : Hid (Src (wa255) (some ⟨wa234.heap.size, 0, none⟩) [.slice (some ⟨w1.heap.size + 1, 0, none⟩) 6 6, .slice g124 l1 c124, .slice (some ⟨w1.heap.size, 0, none⟩) 1 1, .slice g199 l2 c199, .slice g216 4 c216, .slice g234 4 c234]) := O254.out.below hb255
          have C266 : Hid (World.ownsRow (wa255) (w.heap.size + 1) 5 1 (.slice g255 tl c255) tl (cellsB tot)) := own_mono o255 (show w.heap.size + 1 ≤ _ from World.block_lt_of_cell? _ _ (X246.out 0 _ rfl).1)
          have Cs267 : Hid (Src (wa255) g255 (cellsB tot)) := s255
          clear o255 hb255 s255
          clear e0 e1 e2 e3 e4
          obtain ⟨e0, e1, e2, e3, e4⟩ := cells5 X257.out
          refine hK _ _ ⟨e0, e1, e2, e3, e4⟩ (fun hHeld => ?_)
          clear hK K
          refine wpAnyH_ready (rs := [15]) (by kernel_rfl) (by simp) ?_
          refine AllReadyH.cons rfl (fun K hK => ?_) AllReadyH.nil
          go_simp
          clear e0 e1 e2 e3 e4
          obtain ⟨e0, e1, e2, e3, e4⟩ := cells5 X257.out
          refine hK _ _ ⟨e0, e1, e2, e3, e4⟩ (fun hHeld => ?_)
          clear hK K
          refine wpAnyH_ready (rs := [16]) (by kernel_rfl) (by simp) ?_
          refine AllReadyH.cons rfl (fun K hK => ?_) AllReadyH.nil
          go_simp
          clear e0 e1 e2 e3 e4
          obtain ⟨e0, e1, e2, e3, e4⟩ := cells5 X257.out
          refine hK _ _ ⟨e0, e1, e2, e3, e4⟩ (fun hHeld => ?_)
          clear hK K
          refine wpAnyH_done (by kernel_rfl) ?_ _
          refine NoPanic.normal ?_
          clear e0 e1 e2 e3 e4
          clear hHeld
          have FIN : Hid ((wa255).ownsRow w.heap.size 5 1 (.slice g255 tl c255) tot.length (cellsB tot)) := by rw [CT.out.2]; exact own_mono C266.out (by omega)
          go_wp2_with fail
          go_ret2
          exact ⟨.slice g255 tl c255, tot, 0, rfl, FF.out, FIN.out, by rw [CT.out.2]; omega, B256.out⟩
        · skip
          go_simp
          refine (numberBytesV sx (wa199) hx).mono ?_
          rintro e wa268 ⟨va268, rfl, o268, hb268⟩
          obtain ⟨g268, c268, rfl, s268, _⟩ := own_src o268
          dsimp only
          have B269 : Hid (Below w.heap.size w (wa268)) := (B200.out).trans (hb268.mono (B200.out).size)
          have X270 : Hid (Box (wa268) w.heap.size (bx5 F T cx sx a n c)) := X201.out.below hb268
          have T271 : Hid (HasHalf (wa268)) := T202.out.below hb268
          have Y272 : Hid (Src (wa268) (some ⟨w1.heap.size, 0, none⟩) (cellsB [n])) := Y203.out.below hb268
          have A273 : Hid (Src (wa268) (some ⟨w1.heap.size + 1, 0, none⟩) (cellsB [98, 97, 99, 107, 117, 112])) := A204.out.below hb268
          have Q274 : Hid ((wa268).heap[w1.heap.size + 1]? = some mkO) := blk_below (w := wa199) Q205.out hb268
          have H275 : Hid (Src (wa268) g124 (cellsB hd)) := H206.out.below hb268
          have P276 : Hid (Src (wa268) g199 (cellsB pt)) := P207.out.below hb268
          have N277 : Hid (Src (wa268) g268 (cellsB (numQ sx))) := s268
          clear o268 hb268 s268
          clear e0 e1 e2 e3 e4
          obtain ⟨e0, e1, e2, e3, e4⟩ := cells5 X270.out
          refine hK _ _ ⟨e0, e1, e2, e3, e4⟩ (fun hHeld => ?_)
          clear hK K
          refine wpAnyH_ready (rs := [1, 11]) (by kernel_rfl) (by simp) ?_
          refine AllReadyH.cons rfl (fun K hK => ?_) (AllReadyH.cons rfl (fun K hK => ?_) AllReadyH.nil)
          · skip
            obtain ⟨wa278, hcv278, fz278⟩ : ∃ W2, (convert 55 55 (.slice (some ⟨w1.heap.size + 1, 0, none⟩) 6 6)).run Tryz.prog (wa268) = .ok (.slice (some ⟨w1.heap.size + 1, 0, none⟩) 6 6) W2 ∧ Frozen (wa268) W2 (w1.heap.size + 1) := ⟨_, convert_const_at (wa268) (w1.heap.size + 1) _ 6 6 Q274.out, frozen_freeze _ _ _⟩
            have FZ278 : Hid (Frozen (wa268) wa278 (w1.heap.size + 1)) := fz278
            clear fz278
            go_simp
            have B279 : Hid (Below w.heap.size w (wa278)) := below_frozen (B269.out) FZ278.out (Nat.le_of_lt GG50.out)
            have X280 : Hid (Box (wa278) w.heap.size (bx5 F T cx sx a n c)) := box_frozen (w := wa268) X270.out FZ278.out (Nat.ne_of_lt GG50.out)
            have T281 : Hid (HasHalf (wa278)) := half_frozen (w := wa268) T271.out FZ278.out
            have Y282 : Hid (Src (wa278) (some ⟨w1.heap.size, 0, none⟩) (cellsB [n])) := src_frozen (w := wa268) Y272.out FZ278.out
            have A283 : Hid (Src (wa278) (some ⟨w1.heap.size + 1, 0, none⟩) (cellsB [98, 97, 99, 107, 117, 112])) := src_frozen (w := wa268) A273.out FZ278.out
            have H284 : Hid (Src (wa278) g124 (cellsB hd)) := src_frozen (w := wa268) H275.out FZ278.out
            have P285 : Hid (Src (wa278) g199 (cellsB pt)) := src_frozen (w := wa268) P276.out FZ278.out
            have N286 : Hid (Src (wa278) g268 (cellsB (numQ sx))) := src_frozen (w := wa268) N277.out FZ278.out
            clear hcv278
            clear e0 e1 e2 e3 e4
            obtain ⟨e0, e1, e2, e3, e4⟩ := cells5 X280.out
            refine hK _ _ ⟨e0, e1, e2, e3, e4⟩ (fun hHeld => ?_)
            clear hK K
            refine wpAnyH_ready (rs := [11]) (by kernel_rfl) (by simp) ?_
            refine AllReadyH.cons rfl (fun K hK => ?_) AllReadyH.nil
            go_simp
            refine (backupLink F T cx sx a n c M (wa278) hF hT hc hx HM.out hn HS.out (Src.below (w := w) HH.out (B279.out)) T281.out).mono ?_
            rw [LK.out]
            rintro e wa287 ⟨rfl, hb287⟩
            dsimp only
            have B288 : Hid (Below w.heap.size w (wa287)) := (B279.out).trans (hb287.mono (B279.out).size)
            have X289 : Hid (Box (wa287) w.heap.size (bx5 F T cx sx a n c)) := X280.out.below hb287
            have T290 : Hid (HasHalf (wa287)) := T281.out.below hb287
            have Y291 : Hid (Src (wa287) (some ⟨w1.heap.size, 0, none⟩) (cellsB [n])) := Y282.out.below hb287
            have A292 : Hid (Src (wa287) (some ⟨w1.heap.size + 1, 0, none⟩) (cellsB [98, 97, 99, 107, 117, 112])) := A283.out.below hb287
            have H293 : Hid (Src (wa287) g124 (cellsB hd)) := H284.out.below hb287
            have P294 : Hid (Src (wa287) g199 (cellsB pt)) := P285.out.below hb287
            have N295 : Hid (Src (wa287) g268 (cellsB (numQ sx))) := N286.out.below hb287
            clear hb287
            clear e0 e1 e2 e3 e4
            obtain ⟨e0, e1, e2, e3, e4⟩ := cells5 X289.out
            refine hK _ _ ⟨e0, e1, e2, e3, e4⟩ (fun hHeld => ?_)
            clear hK K
            refine wpAnyH_ready (rs := [12]) (by kernel_rfl) (by simp) ?_
            refine AllReadyH.cons rfl (fun K hK => ?_) AllReadyH.nil
            go_simp
            refine (numberBytesV lk (wa287) hlk2).mono ?_
            rintro e wa296 ⟨va296, rfl, o296, hb296⟩
            obtain ⟨g296, c296, rfl, s296, _⟩ := own_src o296
            dsimp only
            have B297 : Hid (Below w.heap.size w (wa296)) := (B288.out).trans (hb296.mono (B288.out).size)
            have X298 : Hid (Box (wa296) w.heap.size (bx5 F T cx sx a n c)) := X289.out.below hb296
            have T299 : Hid (HasHalf (wa296)) := T290.out.below hb296
            have Y300 : Hid (Src (wa296) (some ⟨w1.heap.size, 0, none⟩) (cellsB [n])) := Y291.out.below hb296
            have A301 : Hid (Src (wa296) (some ⟨w1.heap.size + 1, 0, none⟩) (cellsB [98, 97, 99, 107, 117, 112])) := A292.out.below hb296
            have H302 : Hid (Src (wa296) g124 (cellsB hd)) := H293.out.below hb296
            have P303 : Hid (Src (wa296) g199 (cellsB pt)) := P294.out.below hb296
            have N304 : Hid (Src (wa296) g268 (cellsB (numQ sx))) := N295.out.below hb296
            have K305 : Hid (Src (wa296) g296 (cellsB (numQ lk))) := s296
            clear o296 hb296 s296
            clear e0 e1 e2 e3 e4
            obtain ⟨e0, e1, e2, e3, e4⟩ := cells5 X298.out
            refine hK _ _ ⟨e0, e1, e2, e3, e4⟩ (fun hHeld => ?_)
            clear hK K
            refine wpAnyH_ready (rs := [13]) (by kernel_rfl) (by simp) ?_
            refine AllReadyH.cons rfl (fun K hK => ?_) AllReadyH.nil
            go_simp
            obtain ⟨wa306, hwo306, hb306, so306⟩ : ∃ W2, (wa296).alloc (.cells #[.slice (some ⟨w1.heap.size + 1, 0, none⟩) 6 6, .slice g124 l1 c124, .slice (some ⟨w1.heap.size, 0, none⟩) 1 1, .slice g199 l2 c199, .slice g268 4 c268, .slice g296 4 c296] 55) = W2 ∧ Below (wa296).heap.size (wa296) W2 ∧ Src W2 (some ⟨wa296.heap.size, 0, none⟩) [.slice (some ⟨w1.heap.size + 1, 0, none⟩) 6 6, .slice g124 l1 c124, .slice (some ⟨w1.heap.size, 0, none⟩) 1 1, .slice g199 l2 c199, .slice g268 4 c268, .slice g296 4 c296] := ⟨_, rfl, (Below.refl _ _).alloc (Nat.le_refl _) _, src_vals (xs := [.slice (some ⟨w1.heap.size + 1, 0, none⟩) 6 6, .slice g124 l1 c124, .slice (some ⟨w1.heap.size, 0, none⟩) 1 1, .slice g199 l2 c199, .slice g268 4 c268, .slice g296 4 c296]) rfl⟩
            rw [hwo306]
            have B307 : Hid (Below w.heap.size w (wa306)) := (B297.out).trans (hb306.mono (B297.out).size)
            have X308 : Hid (Box (wa306) w.heap.size (bx5 F T cx sx a n c)) := X298.out.below hb306
            have T309 : Hid (HasHalf (wa306)) := T299.out.below hb306
            have Y310 : Hid (Src (wa306) (some ⟨w1.heap.size, 0, none⟩) (cellsB [n])) := Y300.out.below hb306
            have A311 : Hid (Src (wa306) (some ⟨w1.heap.size + 1, 0, none⟩) (cellsB [98, 97, 99, 107, 117, 112])) := A301.out.below hb306
            have H312 : Hid (Src (wa306) g124 (cellsB hd)) := H302.out.below hb306
            have P313 : Hid (Src (wa306) g199 (cellsB pt)) := P303.out.below hb306
            have N314 : Hid (Src (wa306) g268 (cellsB (numQ sx))) := N304.out.below hb306
            have K315 : Hid (Src (wa306) g296 (cellsB (numQ lk))) := K305.out.below hb306
            have O316 : Hid (Src (wa306) (some ⟨wa296.heap.size, 0, none⟩) [.slice (some ⟨w1.heap.size + 1, 0, none⟩) 6 6, .slice g124 l1 c124, .slice (some ⟨w1.heap.size, 0, none⟩) 1 1, .slice g199 l2 c199, .slice g268 4 c268, .slice g296 4 c296]) := so306
            clear hwo306 hb306 so306
            clear e0 e1 e2 e3 e4
            obtain ⟨e0, e1, e2, e3, e4⟩ := cells5 X308.out
            refine hK _ _ ⟨e0, e1, e2, e3, e4⟩ (fun hHeld => ?_)
            clear hK K
            refine wpAnyH_ready (rs := [14]) (by kernel_rfl) (by simp) ?_
            refine AllReadyH.cons rfl (fun K hK => ?_) AllReadyH.nil
            have HRC : Hid (∀ i, i < 6 → ∃ a c, ([.slice (some ⟨w1.heap.size + 1, 0, none⟩) 6 6, .slice g124 l1 c124, .slice (some ⟨w1.heap.size, 0, none⟩) 1 1, .slice g199 l2 c199, .slice g268 4 c268, .slice g296 4 c296] : List Value).getD i undef = .slice a ((fun i => [[98, 97, 99, 107, 117, 112], hd, [n], pt, numQ sx, numQ lk].getD i []) i).length c ∧ Src (wa306) a (cellsB ((fun i => [[98, 97, 99, 107, 117, 112], hd, [n], pt, numQ sx, numQ lk].getD i []) i))) := fun i hi => by
              match i, hi with
              | 0, _ => exact ⟨(some ⟨w1.heap.size + 1, 0, none⟩), 6, rfl, A311.out⟩
              | 1, _ => exact ⟨g124, c124, by show Value.slice g124 l1 c124 = Value.slice g124 (hd).length c124; rw [L1.out], H312.out⟩
              | 2, _ => exact ⟨(some ⟨w1.heap.size, 0, none⟩), 1, rfl, Y310.out⟩
              | 3, _ => exact ⟨g199, c199, by show Value.slice g199 l2 c199 = Value.slice g199 (pt).length c199; rw [L2.out], P313.out⟩
              | 4, _ => exact ⟨g268, c268, rfl, N314.out⟩
              | 5, _ => exact ⟨g296, c296, rfl, K315.out⟩
            have CC : Hid (Calls Tryz.prog 61 #[.slice (some ⟨wa296.heap.size, 0, none⟩) 6 6] (wa306) fun e w' => ∃ v, e = .returned v ∧ w'.ownsRow (wa306).heap.size 5 1 v tl (cellsB tot) ∧ Below (wa306).heap.size (wa306) w') := by
              have h9 := slicesConcat (some ⟨wa296.heap.size, 0, none⟩) 6 6 [.slice (some ⟨w1.heap.size + 1, 0, none⟩) 6 6, .slice g124 l1 c124, .slice (some ⟨w1.heap.size, 0, none⟩) 1 1, .slice g199 l2 c199, .slice g268 4 c268, .slice g296 4 c296] (fun i => [[98, 97, 99, 107, 117, 112], hd, [n], pt, numQ sx, numQ lk].getD i []) (wa306) rfl (by omega) (by rw [CT.out.1, CT.out.2]; omega) (by rw [CT.out.1, CT.out.2]; omega) O316.out HRC.out
              rw [CT.out.1, CT.out.2] at h9
              exact h9
            clear HRC
            go_simp
            refine CC.out.mono ?_
            rintro e wa317 ⟨va317, rfl, o317, hb317⟩
            obtain ⟨g317, c317, rfl, s317, _⟩ := own_src o317
            clear CC
            dsimp only
            have B318 : Hid (Below w.heap.size w (wa317)) := (B307.out).trans (hb317.mono (B307.out).size)
            have X319 : Hid (Box (wa317) w.heap.size (bx5 F T cx sx a n c)) := X308.out.below hb317
            have T320 : Hid (HasHalf (wa317)) := T309.out.below hb317
            have Y321 : Hid (Src (wa317) (some ⟨w1.heap.size, 0, none⟩) (cellsB [n])) := Y310.out.below hb317
            have A322 : Hid (Src (wa317) (some ⟨w1.heap.size + 1, 0, none⟩) (cellsB [98, 97, 99, 107, 117, 112])) := A311.out.below hb317
            have H323 : Hid (Src (wa317) g124 (cellsB hd)) := H312.out.below hb317
            have P324 : Hid (Src (wa317) g199 (cellsB pt)) := P313.out.below hb317
            have N325 : Hid (Src (wa317) g268 (cellsB (numQ sx))) := N314.out.below hb317
            have K326 : Hid (Src (wa317) g296 (cellsB (numQ lk))) := K315.out.below hb317
            have O327 : Hid (Src (wa317) (some ⟨wa296.heap.size, 0, none⟩) [.slice (some ⟨w1.heap.size + 1, 0, none⟩) 6 6, .slice g124 l1 c124, .slice (some ⟨w1.heap.size, 0, none⟩) 1 1, .slice g199 l2 c199, .slice g268 4 c268, .slice g296 4 c296]) := O316.out.below hb317
            have C328 : Hid (World.ownsRow (wa317) (w.heap.size + 1) 5 1 (.slice g317 tl c317) tl (cellsB tot)) := own_mono o317 (show w.heap.size + 1 ≤ _ from World.block_lt_of_cell? _ _ (X308.out 0 _ rfl).1)
            have Cs329 : Hid (Src (wa317) g317 (cellsB tot)) := s317
            clear o317 hb317 s317
            clear e0 e1 e2 e3 e4
            obtain ⟨e0, e1, e2, e3, e4⟩ := cells5 X319.out
            refine hK _ _ ⟨e0, e1, e2, e3, e4⟩ (fun hHeld => ?_)
            clear hK K
            refine wpAnyH_ready (rs := [15]) (by kernel_rfl) (by simp) ?_
            refine AllReadyH.cons rfl (fun K hK => ?_) AllReadyH.nil
            go_simp
            clear e0 e1 e2 e3 e4
            obtain ⟨e0, e1, e2, e3, e4⟩ := cells5 X319.out
            refine hK _ _ ⟨e0, e1, e2, e3, e4⟩ (fun hHeld => ?_)
            clear hK K
            refine wpAnyH_ready (rs := [16]) (by kernel_rfl) (by simp) ?_
            refine AllReadyH.cons rfl (fun K hK => ?_) AllReadyH.nil
            go_simp
            clear e0 e1 e2 e3 e4
            obtain ⟨e0, e1, e2, e3, e4⟩ := cells5 X319.out
            refine hK _ _ ⟨e0, e1, e2, e3, e4⟩ (fun hHeld => ?_)
            clear hK K
            refine wpAnyH_done (by kernel_rfl) ?_ _
            refine NoPanic.normal ?_
            clear e0 e1 e2 e3 e4
            clear hHeld
            have FIN : Hid ((wa317).ownsRow w.heap.size 5 1 (.slice g317 tl c317) tot.length (cellsB tot)) := by rw [CT.out.2]; exact own_mono C328.out (by omega)
            go_wp2_with fail
            go_ret2
            exact ⟨.slice g317 tl c317, tot, 0, rfl, FF.out, FIN.out, by rw [CT.out.2]; omega, B318.out⟩
          · skip
            go_simp
            refine (backupLink F T cx sx a n c M (wa268) hF hT hc hx HM.out hn HS.out (Src.below (w := w) HH.out (B269.out)) T271.out).mono ?_
            rw [LK.out]
            rintro e wa330 ⟨rfl, hb330⟩
            dsimp only
            have B331 : Hid (Below w.heap.size w (wa330)) := (B269.out).trans (hb330.mono (B269.out).size)
            have X332 : Hid (Box (wa330) w.heap.size (bx5 F T cx sx a n c)) := X270.out.below hb330
            have T333 : Hid (HasHalf (wa330)) := T271.out.below hb330
            have Y334 : Hid (Src (wa330) (some ⟨w1.heap.size, 0, none⟩) (cellsB [n])) := Y272.out.below hb330
            have A335 : Hid (Src (wa330) (some ⟨w1.heap.size + 1, 0, none⟩) (cellsB [98, 97, 99, 107, 117, 112])) := A273.out.below hb330
            have Q336 : Hid ((wa330).heap[w1.heap.size + 1]? = some mkO) := blk_below (w := wa268) Q274.out hb330
            have H337 : Hid (Src (wa330) g124 (cellsB hd)) := H275.out.below hb330
            have P338 : Hid (Src (wa330) g199 (cellsB pt)) := P276.out.below hb330
            have N339 : Hid (Src (wa330) g268 (cellsB (numQ sx))) := N277.out.below hb330
            clear hb330
            clear e0 e1 e2 e3 e4
            obtain ⟨e0, e1, e2, e3, e4⟩ := cells5 X332.out
            refine hK _ _ ⟨e0, e1, e2, e3, e4⟩ (fun hHeld => ?_)
            clear hK K
            refine wpAnyH_ready (rs := [1, 12]) (by kernel_rfl) (by simp) ?_
            refine AllReadyH.cons rfl (fun K hK => ?_) (AllReadyH.cons rfl (fun K hK => ?_) AllReadyH.nil)
            · skip
              obtain ⟨wa340, hcv340, fz340⟩ : ∃ W2, (convert 55 55 (.slice (some ⟨w1.heap.size + 1, 0, none⟩) 6 6)).run Tryz.prog (wa330) = .ok (.slice (some ⟨w1.heap.size + 1, 0, none⟩) 6 6) W2 ∧ Frozen (wa330) W2 (w1.heap.size + 1) := ⟨_, convert_const_at (wa330) (w1.heap.size + 1) _ 6 6 Q336.out, frozen_freeze _ _ _⟩
              have FZ340 : Hid (Frozen (wa330) wa340 (w1.heap.size + 1)) := fz340
              clear fz340
              go_simp
              have B341 : Hid (Below w.heap.size w (wa340)) := below_frozen (B331.out) FZ340.out (Nat.le_of_lt GG50.out)
              have X342 : Hid (Box (wa340) w.heap.size (bx5 F T cx sx a n c)) := box_frozen (w := wa330) X332.out FZ340.out (Nat.ne_of_lt GG50.out)
              have T343 : Hid (HasHalf (wa340)) := half_frozen (w := wa330) T333.out FZ340.out
              have Y344 : Hid (Src (wa340) (some ⟨w1.heap.size, 0, none⟩) (cellsB [n])) := src_frozen (w := wa330) Y334.out FZ340.out
              have A345 : Hid (Src (wa340) (some ⟨w1.heap.size + 1, 0, none⟩) (cellsB [98, 97, 99, 107, 117, 112])) := src_frozen (w := wa330) A335.out FZ340.out
              have H346 : Hid (Src (wa340) g124 (cellsB hd)) := src_frozen (w := wa330) H337.out FZ340.out
              have P347 : Hid (Src (wa340) g199 (cellsB pt)) := src_frozen (w := wa330) P338.out FZ340.out
              have N348 : Hid (Src (wa340) g268 (cellsB (numQ sx))) := src_frozen (w := wa330) N339.out FZ340.out
              clear hcv340
              clear e0 e1 e2 e3 e4
              obtain ⟨e0, e1, e2, e3, e4⟩ := cells5 X342.out
              refine hK _ _ ⟨e0, e1, e2, e3, e4⟩ (fun hHeld => ?_)
              clear hK K
              refine wpAnyH_ready (rs := [12]) (by kernel_rfl) (by simp) ?_
              refine AllReadyH.cons rfl (fun K hK => ?_) AllReadyH.nil
              go_simp
              refine (numberBytesV lk (wa340) hlk2).mono ?_
              rintro e wa349 ⟨va349, rfl, o349, hb349⟩
              obtain ⟨g349, c349, rfl, s349, _⟩ := own_src o349
              dsimp only
              have B350 : Hid (Below w.heap.size w (wa349)) := (B341.out).trans (hb349.mono (B341.out).size)
              have X351 : Hid (Box (wa349) w.heap.size (bx5 F T cx sx a n c)) := X342.out.below hb349
              have T352 : Hid (HasHalf (wa349)) := T343.out.below hb349
              have Y353 : Hid (Src (wa349) (some ⟨w1.heap.size, 0, none⟩) (cellsB [n])) := Y344.out.below hb349
              have A354 : Hid (Src (wa349) (some ⟨w1.heap.size + 1, 0, none⟩) (cellsB [98, 97, 99, 107, 117, 112])) := A345.out.below hb349
              have H355 : Hid (Src (wa349) g124 (cellsB hd)) := H346.out.below hb349
              have P356 : Hid (Src (wa349) g199 (cellsB pt)) := P347.out.below hb349
              have N357 : Hid (Src (wa349) g268 (cellsB (numQ sx))) := N348.out.below hb349
              have K358 : Hid (Src (wa349) g349 (cellsB (numQ lk))) := s349
              clear o349 hb349 s349
              clear e0 e1 e2 e3 e4
              obtain ⟨e0, e1, e2, e3, e4⟩ := cells5 X351.out
              refine hK _ _ ⟨e0, e1, e2, e3, e4⟩ (fun hHeld => ?_)
              clear hK K
              refine wpAnyH_ready (rs := [13]) (by kernel_rfl) (by simp) ?_
              refine AllReadyH.cons rfl (fun K hK => ?_) AllReadyH.nil
              go_simp
              obtain ⟨wa359, hwo359, hb359, so359⟩ : ∃ W2, (wa349).alloc (.cells #[.slice (some ⟨w1.heap.size + 1, 0, none⟩) 6 6, .slice g124 l1 c124, .slice (some ⟨w1.heap.size, 0, none⟩) 1 1, .slice g199 l2 c199, .slice g268 4 c268, .slice g349 4 c349] 55) = W2 ∧ Below (wa349).heap.size (wa349) W2 ∧ Src W2 (some ⟨wa349.heap.size, 0, none⟩) [.slice (some ⟨w1.heap.size + 1, 0, none⟩) 6 6, .slice g124 l1 c124, .slice (some ⟨w1.heap.size, 0, none⟩) 1 1, .slice g199 l2 c199, .slice g268 4 c268, .slice g349 4 c349] := ⟨_, rfl, (Below.refl _ _).alloc (Nat.le_refl _) _, src_vals (xs := [.slice (some ⟨w1.heap.size + 1, 0, none⟩) 6 6, .slice g124 l1 c124, .slice (some ⟨w1.heap.size, 0, none⟩) 1 1, .slice g199 l2 c199, .slice g268 4 c268, .slice g349 4 c349]) rfl⟩
              rw [hwo359]
              have B360 : Hid (Below w.heap.size w (wa359)) := (B350.out).trans (hb359.mono (B350.out).size)
              have X361 : Hid (Box (wa359) w.heap.size (bx5 F T cx sx a n c)) := X351.out.below hb359
              have T362 : Hid (HasHalf (wa359)) := T352.out.below hb359
              have Y363 : Hid (Src (wa359) (some ⟨w1.heap.size, 0, none⟩) (cellsB [n])) := Y353.out.below hb359
              have A364 : Hid (Src (wa359) (some ⟨w1.heap.size + 1, 0, none⟩) (cellsB [98, 97, 99, 107, 117, 112])) := A354.out.below hb359
              have H365 : Hid (Src (wa359) g124 (cellsB hd)) := H355.out.below hb359
              have P366 : Hid (Src (wa359) g199 (cellsB pt)) := P356.out.below hb359
              have N367 : Hid (Src (wa359) g268 (cellsB (numQ sx))) := N357.out.below hb359
              have K368 : Hid (Src (wa359) g349 (cellsB (numQ lk))) := K358.out.below hb359
              have O369 : Hid (Src (wa359) (some ⟨wa349.heap.size, 0, none⟩) [.slice (some ⟨w1.heap.size + 1, 0, none⟩) 6 6, .slice g124 l1 c124, .slice (some ⟨w1.heap.size, 0, none⟩) 1 1, .slice g199 l2 c199, .slice g268 4 c268, .slice g349 4 c349]) := so359
              clear hwo359 hb359 so359
              clear e0 e1 e2 e3 e4
              obtain ⟨e0, e1, e2, e3, e4⟩ := cells5 X361.out
              refine hK _ _ ⟨e0, e1, e2, e3, e4⟩ (fun hHeld => ?_)
              clear hK K
              refine wpAnyH_ready (rs := [14]) (by kernel_rfl) (by simp) ?_
              refine AllReadyH.cons rfl (fun K hK => ?_) AllReadyH.nil
              have HRC : Hid (∀ i, i < 6 → ∃ a c, ([.slice (some ⟨w1.heap.size + 1, 0, none⟩) 6 6, .slice g124 l1 c124, .slice (some ⟨w1.heap.size, 0, none⟩) 1 1, .slice g199 l2 c199, .slice g268 4 c268, .slice g349 4 c349] : List Value).getD i undef = .slice a ((fun i => [[98, 97, 99, 107, 117, 112], hd, [n], pt, numQ sx, numQ lk].getD i []) i).length c ∧ Src (wa359) a (cellsB ((fun i => [[98, 97, 99, 107, 117, 112], hd, [n], pt, numQ sx, numQ lk].getD i []) i))) := fun i hi => by
                match i, hi with
                | 0, _ => exact ⟨(some ⟨w1.heap.size + 1, 0, none⟩), 6, rfl, A364.out⟩
                | 1, _ => exact ⟨g124, c124, by show Value.slice g124 l1 c124 = Value.slice g124 (hd).length c124; rw [L1.out], H365.out⟩
                | 2, _ => exact ⟨(some ⟨w1.heap.size, 0, none⟩), 1, rfl, Y363.out⟩
                | 3, _ => exact ⟨g199, c199, by show Value.slice g199 l2 c199 = Value.slice g199 (pt).length c199; rw [L2.out], P366.out⟩
                | 4, _ => exact ⟨g268, c268, rfl, N367.out⟩
                | 5, _ => exact ⟨g349, c349, rfl, K368.out⟩
              have CC : Hid (Calls Tryz.prog 61 #[.slice (some ⟨wa349.heap.size, 0, none⟩) 6 6] (wa359) fun e w' => ∃ v, e = .returned v ∧ w'.ownsRow (wa359).heap.size 5 1 v tl (cellsB tot) ∧ Below (wa359).heap.size (wa359) w') := by
                have h9 := slicesConcat (some ⟨wa349.heap.size, 0, none⟩) 6 6 [.slice (some ⟨w1.heap.size + 1, 0, none⟩) 6 6, .slice g124 l1 c124, .slice (some ⟨w1.heap.size, 0, none⟩) 1 1, .slice g199 l2 c199, .slice g268 4 c268, .slice g349 4 c349] (fun i => [[98, 97, 99, 107, 117, 112], hd, [n], pt, numQ sx, numQ lk].getD i []) (wa359) rfl (by omega) (by rw [CT.out.1, CT.out.2]; omega) (by rw [CT.out.1, CT.out.2]; omega) O369.out HRC.out
                rw [CT.out.1, CT.out.2] at h9
                exact h9
              clear HRC
              go_simp
              refine CC.out.mono ?_
              rintro e wa370 ⟨va370, rfl, o370, hb370⟩
              obtain ⟨g370, c370, rfl, s370, _⟩ := own_src o370
              clear CC
              dsimp only
              have B371 : Hid (Below w.heap.size w (wa370)) := (B360.out).trans (hb370.mono (B360.out).size)
              have X372 : Hid (Box (wa370) w.heap.size (bx5 F T cx sx a n c)) := X361.out.below hb370
              have T373 : Hid (HasHalf (wa370)) := T362.out.below hb370
              have Y374 : Hid (Src (wa370) (some ⟨w1.heap.size, 0, none⟩) (cellsB [n])) := Y363.out.below hb370
              have A375 : Hid (Src (wa370) (some ⟨w1.heap.size + 1, 0, none⟩) (cellsB [98, 97, 99, 107, 117, 112])) := A364.out.below hb370
              have H376 : Hid (Src (wa370) g124 (cellsB hd)) := H365.out.below hb370
              have P377 : Hid (Src (wa370) g199 (cellsB pt)) := P366.out.below hb370
              have N378 : Hid (Src (wa370) g268 (cellsB (numQ sx))) := N367.out.below hb370
              have K379 : Hid (Src (wa370) g349 (cellsB (numQ lk))) := K368.out.below hb370
              have O380 : Hid (Src (wa370) (some ⟨wa349.heap.size, 0, none⟩) [.slice (some ⟨w1.heap.size + 1, 0, none⟩) 6 6, .slice g124 l1 c124, .slice (some ⟨w1.heap.size, 0, none⟩) 1 1, .slice g199 l2 c199, .slice g268 4 c268, .slice g349 4 c349]) := O369.out.below hb370
              have C381 : Hid (World.ownsRow (wa370) (w.heap.size + 1) 5 1 (.slice g370 tl c370) tl (cellsB tot)) := own_mono o370 (show w.heap.size + 1 ≤ _ from World.block_lt_of_cell? _ _ (X361.out 0 _ rfl).1)
              have Cs382 : Hid (Src (wa370) g370 (cellsB tot)) := s370
              clear o370 hb370 s370
              clear e0 e1 e2 e3 e4
              obtain ⟨e0, e1, e2, e3, e4⟩ := cells5 X372.out
              refine hK _ _ ⟨e0, e1, e2, e3, e4⟩ (fun hHeld => ?_)
              clear hK K
              refine wpAnyH_ready (rs := [15]) (by kernel_rfl) (by simp) ?_
              refine AllReadyH.cons rfl (fun K hK => ?_) AllReadyH.nil
              go_simp
              clear e0 e1 e2 e3 e4
              obtain ⟨e0, e1, e2, e3, e4⟩ := cells5 X372.out
              refine hK _ _ ⟨e0, e1, e2, e3, e4⟩ (fun hHeld => ?_)
              clear hK K
              refine wpAnyH_ready (rs := [16]) (by kernel_rfl) (by simp) ?_
              refine AllReadyH.cons rfl (fun K hK => ?_) AllReadyH.nil
              go_simp
              clear e0 e1 e2 e3 e4
              obtain ⟨e0, e1, e2, e3, e4⟩ := cells5 X372.out
              refine hK _ _ ⟨e0, e1, e2, e3, e4⟩ (fun hHeld => ?_)
              clear hK K
              refine wpAnyH_done (by kernel_rfl) ?_ _
              refine NoPanic.normal ?_
              clear e0 e1 e2 e3 e4
              clear hHeld
              have FIN : Hid ((wa370).ownsRow w.heap.size 5 1 (.slice g370 tl c370) tot.length (cellsB tot)) := by rw [CT.out.2]; exact own_mono C381.out (by omega)
              go_wp2_with fail
              go_ret2
              exact ⟨.slice g370 tl c370, tot, 0, rfl, FF.out, FIN.out, by rw [CT.out.2]; omega, B371.out⟩
            · skip
              go_simp
              refine (numberBytesV lk (wa330) hlk2).mono ?_
              rintro e wa383 ⟨va383, rfl, o383, hb383⟩
              obtain ⟨g383, c383, rfl, s383, _⟩ := own_src o383
              dsimp only
              have B384 : Hid (Below w.heap.size w (wa383)) := (B331.out).trans (hb383.mono (B331.out).size)
              have X385 : Hid (Box (wa383) w.heap.size (bx5 F T cx sx a n c)) := X332.out.below hb383
              have T386 : Hid (HasHalf (wa383)) := T333.out.below hb383
              have Y387 : Hid (Src (wa383) (some ⟨w1.heap.size, 0, none⟩) (cellsB [n])) := Y334.out.below hb383
              have A388 : Hid (Src (wa383) (some ⟨w1.heap.size + 1, 0, none⟩) (cellsB [98, 97, 99, 107, 117, 112])) := A335.out.below hb383
              have Q389 : Hid ((wa383).heap[w1.heap.size + 1]? = some mkO) := blk_below (w := wa330) Q336.out hb383
              have H390 : Hid (Src (wa383) g124 (cellsB hd)) := H337.out.below hb383
              have P391 : Hid (Src (wa383) g199 (cellsB pt)) := P338.out.below hb383
              have N392 : Hid (Src (wa383) g268 (cellsB (numQ sx))) := N339.out.below hb383
              have K393 : Hid (Src (wa383) g383 (cellsB (numQ lk))) := s383
              clear o383 hb383 s383
              clear e0 e1 e2 e3 e4
              obtain ⟨e0, e1, e2, e3, e4⟩ := cells5 X385.out
              refine hK _ _ ⟨e0, e1, e2, e3, e4⟩ (fun hHeld => ?_)
              clear hK K
              refine wpAnyH_ready (rs := [1]) (by kernel_rfl) (by simp) ?_
              refine AllReadyH.cons rfl (fun K hK => ?_) AllReadyH.nil
              obtain ⟨wa394, hcv394, fz394⟩ : ∃ W2, (convert 55 55 (.slice (some ⟨w1.heap.size + 1, 0, none⟩) 6 6)).run Tryz.prog (wa383) = .ok (.slice (some ⟨w1.heap.size + 1, 0, none⟩) 6 6) W2 ∧ Frozen (wa383) W2 (w1.heap.size + 1) := ⟨_, convert_const_at (wa383) (w1.heap.size + 1) _ 6 6 Q389.out, frozen_freeze _ _ _⟩
              have FZ394 : Hid (Frozen (wa383) wa394 (w1.heap.size + 1)) := fz394
              clear fz394
              go_simp
              have B395 : Hid (Below w.heap.size w (wa394)) := below_frozen (B384.out) FZ394.out (Nat.le_of_lt GG50.out)
              have X396 : Hid (Box (wa394) w.heap.size (bx5 F T cx sx a n c)) := box_frozen (w := wa383) X385.out FZ394.out (Nat.ne_of_lt GG50.out)
              have T397 : Hid (HasHalf (wa394)) := half_frozen (w := wa383) T386.out FZ394.out
              have Y398 : Hid (Src (wa394) (some ⟨w1.heap.size, 0, none⟩) (cellsB [n])) := src_frozen (w := wa383) Y387.out FZ394.out
              have A399 : Hid (Src (wa394) (some ⟨w1.heap.size + 1, 0, none⟩) (cellsB [98, 97, 99, 107, 117, 112])) := src_frozen (w := wa383) A388.out FZ394.out
              have H400 : Hid (Src (wa394) g124 (cellsB hd)) := src_frozen (w := wa383) H390.out FZ394.out
              have P401 : Hid (Src (wa394) g199 (cellsB pt)) := src_frozen (w := wa383) P391.out FZ394.out
              have N402 : Hid (Src (wa394) g268 (cellsB (numQ sx))) := src_frozen (w := wa383) N392.out FZ394.out
              have K403 : Hid (Src (wa394) g383 (cellsB (numQ lk))) := src_frozen (w := wa383) K393.out FZ394.out
              clear hcv394
              clear e0 e1 e2 e3 e4
              obtain ⟨e0, e1, e2, e3, e4⟩ := cells5 X396.out
              refine hK _ _ ⟨e0, e1, e2, e3, e4⟩ (fun hHeld => ?_)
              clear hK K
              refine wpAnyH_ready (rs := [13]) (by kernel_rfl) (by simp) ?_
              refine AllReadyH.cons rfl (fun K hK => ?_) AllReadyH.nil
              go_simp
              obtain ⟨wa404, hwo404, hb404, so404⟩ : ∃ W2, (wa394).alloc (.cells #[.slice (some ⟨w1.heap.size + 1, 0, none⟩) 6 6, .slice g124 l1 c124, .slice (some ⟨w1.heap.size, 0, none⟩) 1 1, .slice g199 l2 c199, .slice g268 4 c268, .slice g383 4 c383] 55) = W2 ∧ Below (wa394).heap.size (wa394) W2 ∧ Src W2 (some ⟨wa394.heap.size, 0, none⟩) [.slice (some ⟨w1.heap.size + 1, 0, none⟩) 6 6, .slice g124 l1 c124, .slice (some ⟨w1.heap.size, 0, none⟩) 1 1, .slice g199 l2 c199, .slice g268 4 c268, .slice g383 4 c383] := ⟨_, rfl, (Below.refl _ _).alloc (Nat.le_refl _) _, src_vals (xs := [.slice (some ⟨w1.heap.size + 1, 0, none⟩) 6 6, .slice g124 l1 c124, .slice (some ⟨w1.heap.size, 0, none⟩) 1 1, .slice g199 l2 c199, .slice g268 4 c268, .slice g383 4 c383]) rfl⟩
              rw [hwo404]
              have B405 : Hid (Below w.heap.size w (wa404)) := (B395.out).trans (hb404.mono (B395.out).size)
              have X406 : Hid (Box (wa404) w.heap.size (bx5 F T cx sx a n c)) := X396.out.below hb404
              have T407 : Hid (HasHalf (wa404)) := T397.out.below hb404
              have Y408 : Hid (Src (wa404) (some ⟨w1.heap.size, 0, none⟩) (cellsB [n])) := Y398.out.below hb404
              have A409 : Hid (Src (wa404) (some ⟨w1.heap.size + 1, 0, none⟩) (cellsB [98, 97, 99, 107, 117, 112])) := A399.out.below hb404
              have H410 : Hid (Src (wa404) g124 (cellsB hd)) := H400.out.below hb404
              have P411 : Hid (Src (wa404) g199 (cellsB pt)) := P401.out.below hb404
              have N412 : Hid (Src (wa404) g268 (cellsB (numQ sx))) := N402.out.below hb404
              have K413 : Hid (Src (wa404) g383 (cellsB (numQ lk))) := K403.out.below hb404
              have O414 : Hid (Src (wa404) (some ⟨wa394.heap.size, 0, none⟩) [.slice (some ⟨w1.heap.size + 1, 0, none⟩) 6 6, .slice g124 l1 c124, .slice (some ⟨w1.heap.size, 0, none⟩) 1 1, .slice g199 l2 c199, .slice g268 4 c268, .slice g383 4 c383]) := so404
              clear hwo404 hb404 so404
              clear e0 e1 e2 e3 e4
              obtain ⟨e0, e1, e2, e3, e4⟩ := cells5 X406.out
              refine hK _ _ ⟨e0, e1, e2, e3, e4⟩ (fun hHeld => ?_)
              clear hK K
              refine wpAnyH_ready (rs := [14]) (by kernel_rfl) (by simp) ?_
              refine AllReadyH.cons rfl (fun K hK => ?_) AllReadyH.nil
              have HRC : Hid (∀ i, i < 6 → ∃ a c, ([.slice (some ⟨w1.heap.size + 1, 0, none⟩) 6 6, .slice g124 l1 c124, .slice (some ⟨w1.heap.size, 0, none⟩) 1 1, .slice g199 l2 c199, .slice g268 4 c268, .slice g383 4 c383] : List Value).getD i undef = .slice a ((fun i => [[98, 97, 99, 107, 117, 112], hd, [n], pt, numQ sx, numQ lk].getD i []) i).length c ∧ Src (wa404) a (cellsB ((fun i => [[98, 97, 99, 107, 117, 112], hd, [n], pt, numQ sx, numQ lk].getD i []) i))) := fun i hi => by
                match i, hi with
                | 0, _ => exact ⟨(some ⟨w1.heap.size + 1, 0, none⟩), 6, rfl, A409.out⟩
                | 1, _ => exact ⟨g124, c124, by show Value.slice g124 l1 c124 = Value.slice g124 (hd).length c124; rw [L1.out], H410.out⟩
                | 2, _ => exact ⟨(some ⟨w1.heap.size, 0, none⟩), 1, rfl, Y408.out⟩
                | 3, _ => exact ⟨g199, c199, by show Value.slice g199 l2 c199 = Value.slice g199 (pt).length c199; rw [L2.out], P411.out⟩
                | 4, _ => exact ⟨g268, c268, rfl, N412.out⟩
                | 5, _ => exact ⟨g383, c383, rfl, K413.out⟩
              have CC : Hid (Calls Tryz.prog 61 #[.slice (some ⟨wa394.heap.size, 0, none⟩) 6 6] (wa404) fun e w' => ∃ v, e = .returned v ∧ w'.ownsRow (wa404).heap.size 5 1 v tl (cellsB tot) ∧ Below (wa404).heap.size (wa404) w') := by
                have h9 := slicesConcat (some ⟨wa394.heap.size, 0, none⟩) 6 6 [.slice (some ⟨w1.heap.size + 1, 0, none⟩) 6 6, .slice g124 l1 c124, .slice (some ⟨w1.heap.size, 0, none⟩) 1 1, .slice g199 l2 c199, .slice g268 4 c268, .slice g383 4 c383] (fun i => [[98, 97, 99, 107, 117, 112], hd, [n], pt, numQ sx, numQ lk].getD i []) (wa404) rfl (by omega) (by rw [CT.out.1, CT.out.2]; omega) (by rw [CT.out.1, CT.out.2]; omega) O414.out HRC.out
                rw [CT.out.1, CT.out.2] at h9
                exact h9
              clear HRC
              go_simp
              refine CC.out.mono ?_
              rintro e wa415 ⟨va415, rfl, o415, hb415⟩
              obtain ⟨g415, c415, rfl, s415, _⟩ := own_src o415
              clear CC
              dsimp only
              have B416 : Hid (Below w.heap.size w (wa415)) := (B405.out).trans (hb415.mono (B405.out).size)
              have X417 : Hid (Box (wa415) w.heap.size (bx5 F T cx sx a n c)) := X406.out.below hb415
              have T418 : Hid (HasHalf (wa415)) := T407.out.below hb415
              have Y419 : Hid (Src (wa415) (some ⟨w1.heap.size, 0, none⟩) (cellsB [n])) := Y408.out.below hb415
              have A420 : Hid (Src (wa415) (some ⟨w1.heap.size + 1, 0, none⟩) (cellsB [98, 97, 99, 107, 117, 112])) := A409.out.below hb415
              have H421 : Hid (Src (wa415) g124 (cellsB hd)) := H410.out.below hb415
              have P422 : Hid (Src (wa415) g199 (cellsB pt)) := P411.out.below hb415
              have N423 : Hid (Src (wa415) g268 (cellsB (numQ sx))) := N412.out.below hb415
              have K424 : Hid (Src (wa415) g383 (cellsB (numQ lk))) := K413.out.below hb415
              have O425 : Hid (Src (wa415) (some ⟨wa394.heap.size, 0, none⟩) [.slice (some ⟨w1.heap.size + 1, 0, none⟩) 6 6, .slice g124 l1 c124, .slice (some ⟨w1.heap.size, 0, none⟩) 1 1, .slice g199 l2 c199, .slice g268 4 c268, .slice g383 4 c383]) := O414.out.below hb415
              have C426 : Hid (World.ownsRow (wa415) (w.heap.size + 1) 5 1 (.slice g415 tl c415) tl (cellsB tot)) := own_mono o415 (show w.heap.size + 1 ≤ _ from World.block_lt_of_cell? _ _ (X406.out 0 _ rfl).1)
              have Cs427 : Hid (Src (wa415) g415 (cellsB tot)) := s415
              clear o415 hb415 s415
              clear e0 e1 e2 e3 e4
              obtain ⟨e0, e1, e2, e3, e4⟩ := cells5 X417.out
              refine hK _ _ ⟨e0, e1, e2, e3, e4⟩ (fun hHeld => ?_)
              clear hK K
              refine wpAnyH_ready (rs := [15]) (by kernel_rfl) (by simp) ?_
              refine AllReadyH.cons rfl (fun K hK => ?_) AllReadyH.nil
              go_simp
              clear e0 e1 e2 e3 e4
              obtain ⟨e0, e1, e2, e3, e4⟩ := cells5 X417.out
              refine hK _ _ ⟨e0, e1, e2, e3, e4⟩ (fun hHeld => ?_)
              clear hK K
              refine wpAnyH_ready (rs := [16]) (by kernel_rfl) (by simp) ?_
              refine AllReadyH.cons rfl (fun K hK => ?_) AllReadyH.nil
              go_simp
              clear e0 e1 e2 e3 e4
              obtain ⟨e0, e1, e2, e3, e4⟩ := cells5 X417.out
              refine hK _ _ ⟨e0, e1, e2, e3, e4⟩ (fun hHeld => ?_)
              clear hK K
              refine wpAnyH_done (by kernel_rfl) ?_ _
              refine NoPanic.normal ?_
              clear e0 e1 e2 e3 e4
              clear hHeld
              have FIN : Hid ((wa415).ownsRow w.heap.size 5 1 (.slice g415 tl c415) tot.length (cellsB tot)) := by rw [CT.out.2]; exact own_mono C426.out (by omega)
              go_wp2_with fail
              go_ret2
              exact ⟨.slice g415 tl c415, tot, 0, rfl, FF.out, FIN.out, by rw [CT.out.2]; omega, B416.out⟩
  · skip
    go_simp
    refine (backupHead F T cx (sx : Int) a n c ((w1.alloc (.cells #[.int .u8 (n : Int)] 5)).drew) hF hT hc).mono ?_
    rw [HD.out]
    rintro e wa428 ⟨va428, rfl, o428, hb428⟩
    rw [L1.out] at o428
    obtain ⟨g428, c428, rfl, s428, _⟩ := own_src o428
    dsimp only
    have B429 : Hid (Below w.heap.size w (wa428)) := (B40.out.drew).trans (hb428.mono (B40.out.drew).size)
    have X430 : Hid (Box (wa428) w.heap.size (bx5 F T cx sx a n c)) := Box.below (w := (w1.alloc (.cells #[.int .u8 (n : Int)] 5)).drew) X41.out hb428
    have T431 : Hid (HasHalf (wa428)) := HasHalf.below (w := (w1.alloc (.cells #[.int .u8 (n : Int)] 5)).drew) T42.out hb428
    have Y432 : Hid (Src (wa428) (some ⟨w1.heap.size, 0, none⟩) (cellsB [n])) := Src.below (w := (w1.alloc (.cells #[.int .u8 (n : Int)] 5)).drew) Y43.out hb428
    have H433 : Hid (Src (wa428) g428 (cellsB hd)) := s428
    clear o428 hb428 s428
    clear e0 e1 e2 e3 e4
    obtain ⟨e0, e1, e2, e3, e4⟩ := cells5 X430.out
    refine hK _ _ ⟨e0, e1, e2, e3, e4⟩ (fun hHeld => ?_)
    clear hK K
    refine wpAnyH_ready (rs := [0, 6]) (by kernel_rfl) (by simp) ?_
    refine AllReadyH.cons rfl (fun K hK => ?_) (AllReadyH.cons rfl (fun K hK => ?_) AllReadyH.nil)
    · skip
      go_simp
      have B434 : Hid (Below w.heap.size w (((wa428).alloc mkO))) := B429.out.alloc B429.out.size _
      have X435 : Hid (Box (((wa428).alloc mkO)) w.heap.size (bx5 F T cx sx a n c)) := Box.old (w := wa428) X430.out _
      have T436 : Hid (HasHalf (((wa428).alloc mkO))) := HasHalf.below (w := wa428) T431.out (((Below.refl _ (wa428)).alloc (Nat.le_refl _) mkO))
      have Y437 : Hid (Src (((wa428).alloc mkO)) (some ⟨w1.heap.size, 0, none⟩) (cellsB [n])) := Src.below (w := wa428) Y432.out (((Below.refl _ (wa428)).alloc (Nat.le_refl _) mkO))
      have H438 : Hid (Src (((wa428).alloc mkO)) g428 (cellsB hd)) := Src.below (w := wa428) H433.out (((Below.refl _ (wa428)).alloc (Nat.le_refl _) mkO))
      have A439 : Hid (Src (((wa428).alloc mkO)) (some ⟨wa428.heap.size, 0, none⟩) (cellsB [98, 97, 99, 107, 117, 112])) := src_6B (w := wa428) (by simp)
      have Q440 : Hid ((((wa428).alloc mkO)).heap[wa428.heap.size]? = some mkO) := (heap_at_alloc (wa428) _ (by simp))
      have GG441 : Hid (w.heap.size < wa428.heap.size) := by show _ < _; have h9 := World.block_lt_of_cell? _ _ (X430.out 0 _ rfl).1; simpa using h9
      clear e0 e1 e2 e3 e4
      obtain ⟨e0, e1, e2, e3, e4⟩ := cells5 X435.out
      refine hK _ _ ⟨e0, e1, e2, e3, e4⟩ (fun hHeld => ?_)
      clear hK K
      refine wpAnyH_ready (rs := [1, 6]) (by kernel_rfl) (by simp) ?_
      refine AllReadyH.cons rfl (fun K hK => ?_) (AllReadyH.cons rfl (fun K hK => ?_) AllReadyH.nil)
      · skip
        obtain ⟨wa442, hcv442, fz442⟩ : ∃ W2, (convert 55 55 (.slice (some ⟨wa428.heap.size, 0, none⟩) 6 6)).run Tryz.prog (((wa428).alloc mkO)) = .ok (.slice (some ⟨wa428.heap.size, 0, none⟩) 6 6) W2 ∧ Frozen (((wa428).alloc mkO)) W2 (wa428.heap.size) := ⟨_, convert_const_at (((wa428).alloc mkO)) (wa428.heap.size) _ 6 6 Q440.out, frozen_freeze _ _ _⟩
        have FZ442 : Hid (Frozen (((wa428).alloc mkO)) wa442 (wa428.heap.size)) := fz442
        clear fz442
        go_simp
        have B443 : Hid (Below w.heap.size w (wa442)) := below_frozen (B434.out) FZ442.out (Nat.le_of_lt GG441.out)
        have X444 : Hid (Box (wa442) w.heap.size (bx5 F T cx sx a n c)) := box_frozen (w := ((wa428).alloc mkO)) X435.out FZ442.out (Nat.ne_of_lt GG441.out)
        have T445 : Hid (HasHalf (wa442)) := half_frozen (w := ((wa428).alloc mkO)) T436.out FZ442.out
        have Y446 : Hid (Src (wa442) (some ⟨w1.heap.size, 0, none⟩) (cellsB [n])) := src_frozen (w := ((wa428).alloc mkO)) Y437.out FZ442.out
        have H447 : Hid (Src (wa442) g428 (cellsB hd)) := src_frozen (w := ((wa428).alloc mkO)) H438.out FZ442.out
        have A448 : Hid (Src (wa442) (some ⟨wa428.heap.size, 0, none⟩) (cellsB [98, 97, 99, 107, 117, 112])) := src_frozen (w := ((wa428).alloc mkO)) A439.out FZ442.out
        clear hcv442
        clear e0 e1 e2 e3 e4
        obtain ⟨e0, e1, e2, e3, e4⟩ := cells5 X444.out
        refine hK _ _ ⟨e0, e1, e2, e3, e4⟩ (fun hHeld => ?_)
        clear hK K
        refine wpAnyH_ready (rs := [6]) (by kernel_rfl) (by simp) ?_
        refine AllReadyH.cons rfl (fun K hK => ?_) AllReadyH.nil
        go_simp
        refine (backupParts F T (cx : Int) (sx : Int) a n c M (wa442) HM.out hn HS.out (Src.below (w := w) HH.out (B443.out))).mono ?_
        rw [PT.out, L2.out]
        rintro e wa449 ⟨va449, rfl, o449, hb449⟩
        obtain ⟨g449, c449, rfl, s449, _⟩ := own_src o449
        dsimp only
        have B450 : Hid (Below w.heap.size w (wa449)) := (B443.out).trans (hb449.mono (B443.out).size)
        have X451 : Hid (Box (wa449) w.heap.size (bx5 F T cx sx a n c)) := X444.out.below hb449
        have T452 : Hid (HasHalf (wa449)) := T445.out.below hb449
        have Y453 : Hid (Src (wa449) (some ⟨w1.heap.size, 0, none⟩) (cellsB [n])) := Y446.out.below hb449
        have H454 : Hid (Src (wa449) g428 (cellsB hd)) := H447.out.below hb449
        have A455 : Hid (Src (wa449) (some ⟨wa428.heap.size, 0, none⟩) (cellsB [98, 97, 99, 107, 117, 112])) := A448.out.below hb449
        have P456 : Hid (Src (wa449) g449 (cellsB pt)) := s449
        clear o449 hb449 s449
        clear e0 e1 e2 e3 e4
        obtain ⟨e0, e1, e2, e3, e4⟩ := cells5 X451.out
        refine hK _ _ ⟨e0, e1, e2, e3, e4⟩ (fun hHeld => ?_)
        clear hK K
        refine wpAnyH_ready (rs := [9]) (by kernel_rfl) (by simp) ?_
        refine AllReadyH.cons rfl (fun K hK => ?_) AllReadyH.nil
        go_simp
        refine (numberBytesV sx (wa449) hx).mono ?_
        rintro e wa457 ⟨va457, rfl, o457, hb457⟩
        obtain ⟨g457, c457, rfl, s457, _⟩ := own_src o457
        dsimp only
        have B458 : Hid (Below w.heap.size w (wa457)) := (B450.out).trans (hb457.mono (B450.out).size)
        have X459 : Hid (Box (wa457) w.heap.size (bx5 F T cx sx a n c)) := X451.out.below hb457
        have T460 : Hid (HasHalf (wa457)) := T452.out.below hb457
        have Y461 : Hid (Src (wa457) (some ⟨w1.heap.size, 0, none⟩) (cellsB [n])) := Y453.out.below hb457
        have H462 : Hid (Src (wa457) g428 (cellsB hd)) := H454.out.below hb457
        have A463 : Hid (Src (wa457) (some ⟨wa428.heap.size, 0, none⟩) (cellsB [98, 97, 99, 107, 117, 112])) := A455.out.below hb457
        have P464 : Hid (Src (wa457) g449 (cellsB pt)) := P456.out.below hb457
        have N465 : Hid (Src (wa457) g457 (cellsB (numQ sx))) := s457
        clear o457 hb457 s457
        clear e0 e1 e2 e3 e4
        obtain ⟨e0, e1, e2, e3, e4⟩ := cells5 X459.out
        refine hK _ _ ⟨e0, e1, e2, e3, e4⟩ (fun hHeld => ?_)
        clear hK K
        refine wpAnyH_ready (rs := [11]) (by kernel_rfl) (by simp) ?_
        refine AllReadyH.cons rfl (fun K hK => ?_) AllReadyH.nil
        go_simp
        refine (backupLink F T cx sx a n c M (wa457) hF hT hc hx HM.out hn HS.out (Src.below (w := w) HH.out (B458.out)) T460.out).mono ?_
        rw [LK.out]
        rintro e wa466 ⟨rfl, hb466⟩
        dsimp only
        have B467 : Hid (Below w.heap.size w (wa466)) := (B458.out).trans (hb466.mono (B458.out).size)
        have X468 : Hid (Box (wa466) w.heap.size (bx5 F T cx sx a n c)) := X459.out.below hb466
        have T469 : Hid (HasHalf (wa466)) := T460.out.below hb466
        have Y470 : Hid (Src (wa466) (some ⟨w1.heap.size, 0, none⟩) (cellsB [n])) := Y461.out.below hb466
        have H471 : Hid (Src (wa466) g428 (cellsB hd)) := H462.out.below hb466
        have A472 : Hid (Src (wa466) (some ⟨wa428.heap.size, 0, none⟩) (cellsB [98, 97, 99, 107, 117, 112])) := A463.out.below hb466
        have P473 : Hid (Src (wa466) g449 (cellsB pt)) := P464.out.below hb466
        have N474 : Hid (Src (wa466) g457 (cellsB (numQ sx))) := N465.out.below hb466
        clear hb466
        clear e0 e1 e2 e3 e4
        obtain ⟨e0, e1, e2, e3, e4⟩ := cells5 X468.out
        refine hK _ _ ⟨e0, e1, e2, e3, e4⟩ (fun hHeld => ?_)
        clear hK K
        refine wpAnyH_ready (rs := [12]) (by kernel_rfl) (by simp) ?_
        refine AllReadyH.cons rfl (fun K hK => ?_) AllReadyH.nil
        go_simp
        refine (numberBytesV lk (wa466) hlk2).mono ?_
        rintro e wa475 ⟨va475, rfl, o475, hb475⟩
        obtain ⟨g475, c475, rfl, s475, _⟩ := own_src o475
        dsimp only
        have B476 : Hid (Below w.heap.size w (wa475)) := (B467.out).trans (hb475.mono (B467.out).size)
        have X477 : Hid (Box (wa475) w.heap.size (bx5 F T cx sx a n c)) := X468.out.below hb475
        have T478 : Hid (HasHalf (wa475)) := T469.out.below hb475
        have Y479 : Hid (Src (wa475) (some ⟨w1.heap.size, 0, none⟩) (cellsB [n])) := Y470.out.below hb475
        have H480 : Hid (Src (wa475) g428 (cellsB hd)) := H471.out.below hb475
        have A481 : Hid (Src (wa475) (some ⟨wa428.heap.size, 0, none⟩) (cellsB [98, 97, 99, 107, 117, 112])) := A472.out.below hb475
        have P482 : Hid (Src (wa475) g449 (cellsB pt)) := P473.out.below hb475
        have N483 : Hid (Src (wa475) g457 (cellsB (numQ sx))) := N474.out.below hb475
        have K484 : Hid (Src (wa475) g475 (cellsB (numQ lk))) := s475
        clear o475 hb475 s475
        clear e0 e1 e2 e3 e4
        obtain ⟨e0, e1, e2, e3, e4⟩ := cells5 X477.out
        refine hK _ _ ⟨e0, e1, e2, e3, e4⟩ (fun hHeld => ?_)
        clear hK K
        refine wpAnyH_ready (rs := [13]) (by kernel_rfl) (by simp) ?_
        refine AllReadyH.cons rfl (fun K hK => ?_) AllReadyH.nil
        go_simp
        obtain ⟨wa485, hwo485, hb485, so485⟩ : ∃ W2, (wa475).alloc (.cells #[.slice (some ⟨wa428.heap.size, 0, none⟩) 6 6, .slice g428 l1 c428, .slice (some ⟨w1.heap.size, 0, none⟩) 1 1, .slice g449 l2 c449, .slice g457 4 c457, .slice g475 4 c475] 55) = W2 ∧ Below (wa475).heap.size (wa475) W2 ∧ Src W2 (some ⟨wa475.heap.size, 0, none⟩) [.slice (some ⟨wa428.heap.size, 0, none⟩) 6 6, .slice g428 l1 c428, .slice (some ⟨w1.heap.size, 0, none⟩) 1 1, .slice g449 l2 c449, .slice g457 4 c457, .slice g475 4 c475] := ⟨_, rfl, (Below.refl _ _).alloc (Nat.le_refl _) _, src_vals (xs := [.slice (some ⟨wa428.heap.size, 0, none⟩) 6 6, .slice g428 l1 c428, .slice (some ⟨w1.heap.size, 0, none⟩) 1 1, .slice g449 l2 c449, .slice g457 4 c457, .slice g475 4 c475]) rfl⟩
        rw [hwo485]
        have B486 : Hid (Below w.heap.size w (wa485)) := (B476.out).trans (hb485.mono (B476.out).size)
        have X487 : Hid (Box (wa485) w.heap.size (bx5 F T cx sx a n c)) := X477.out.below hb485
        have T488 : Hid (HasHalf (wa485)) := T478.out.below hb485
        have Y489 : Hid (Src (wa485) (some ⟨w1.heap.size, 0, none⟩) (cellsB [n])) := Y479.out.below hb485
        have H490 : Hid (Src (wa485) g428 (cellsB hd)) := H480.out.below hb485
        have A491 : Hid (Src (wa485) (some ⟨wa428.heap.size, 0, none⟩) (cellsB [98, 97, 99, 107, 117, 112])) := A481.out.below hb485
        have P492 : Hid (Src (wa485) g449 (cellsB pt)) := P482.out.below hb485
        have N493 : Hid (Src (wa485) g457 (cellsB (numQ sx))) := N483.out.below hb485
        have K494 : Hid (Src (wa485) g475 (cellsB (numQ lk))) := K484.out.below hb485
        have O495 : Hid (Src (wa485) (some ⟨wa475.heap.size, 0, none⟩) [.slice (some ⟨wa428.heap.size, 0, none⟩) 6 6, .slice g428 l1 c428, .slice (some ⟨w1.heap.size, 0, none⟩) 1 1, .slice g449 l2 c449, .slice g457 4 c457, .slice g475 4 c475]) := so485
        clear hwo485 hb485 so485
        clear e0 e1 e2 e3 e4
        obtain ⟨e0, e1, e2, e3, e4⟩ := cells5 X487.out
        refine hK _ _ ⟨e0, e1, e2, e3, e4⟩ (fun hHeld => ?_)
        clear hK K
        refine wpAnyH_ready (rs := [14]) (by kernel_rfl) (by simp) ?_
        refine AllReadyH.cons rfl (fun K hK => ?_) AllReadyH.nil
        have HRC : Hid (∀ i, i < 6 → ∃ a c, ([.slice (some ⟨wa428.heap.size, 0, none⟩) 6 6, .slice g428 l1 c428, .slice (some ⟨w1.heap.size, 0, none⟩) 1 1, .slice g449 l2 c449, .slice g457 4 c457, .slice g475 4 c475] : List Value).getD i undef = .slice a ((fun i => [[98, 97, 99, 107, 117, 112], hd, [n], pt, numQ sx, numQ lk].getD i []) i).length c ∧ Src (wa485) a (cellsB ((fun i => [[98, 97, 99, 107, 117, 112], hd, [n], pt, numQ sx, numQ lk].getD i []) i))) := fun i hi => by
          match i, hi with
          | 0, _ => exact ⟨(some ⟨wa428.heap.size, 0, none⟩), 6, rfl, A491.out⟩
          | 1, _ => exact ⟨g428, c428, by show Value.slice g428 l1 c428 = Value.slice g428 (hd).length c428; rw [L1.out], H490.out⟩
          | 2, _ => exact ⟨(some ⟨w1.heap.size, 0, none⟩), 1, rfl, Y489.out⟩
          | 3, _ => exact ⟨g449, c449, by show Value.slice g449 l2 c449 = Value.slice g449 (pt).length c449; rw [L2.out], P492.out⟩
          | 4, _ => exact ⟨g457, c457, rfl, N493.out⟩
          | 5, _ => exact ⟨g475, c475, rfl, K494.out⟩
        have CC : Hid (Calls Tryz.prog 61 #[.slice (some ⟨wa475.heap.size, 0, none⟩) 6 6] (wa485) fun e w' => ∃ v, e = .returned v ∧ w'.ownsRow (wa485).heap.size 5 1 v tl (cellsB tot) ∧ Below (wa485).heap.size (wa485) w') := by
          have h9 := slicesConcat (some ⟨wa475.heap.size, 0, none⟩) 6 6 [.slice (some ⟨wa428.heap.size, 0, none⟩) 6 6, .slice g428 l1 c428, .slice (some ⟨w1.heap.size, 0, none⟩) 1 1, .slice g449 l2 c449, .slice g457 4 c457, .slice g475 4 c475] (fun i => [[98, 97, 99, 107, 117, 112], hd, [n], pt, numQ sx, numQ lk].getD i []) (wa485) rfl (by omega) (by rw [CT.out.1, CT.out.2]; omega) (by rw [CT.out.1, CT.out.2]; omega) O495.out HRC.out
          rw [CT.out.1, CT.out.2] at h9
          exact h9
        clear HRC
        go_simp
        refine CC.out.mono ?_
        rintro e wa496 ⟨va496, rfl, o496, hb496⟩
        obtain ⟨g496, c496, rfl, s496, _⟩ := own_src o496
        clear CC
        dsimp only
        have B497 : Hid (Below w.heap.size w (wa496)) := (B486.out).trans (hb496.mono (B486.out).size)
        have X498 : Hid (Box (wa496) w.heap.size (bx5 F T cx sx a n c)) := X487.out.below hb496
        have T499 : Hid (HasHalf (wa496)) := T488.out.below hb496
        have Y500 : Hid (Src (wa496) (some ⟨w1.heap.size, 0, none⟩) (cellsB [n])) := Y489.out.below hb496
        have H501 : Hid (Src (wa496) g428 (cellsB hd)) := H490.out.below hb496
        have A502 : Hid (Src (wa496) (some ⟨wa428.heap.size, 0, none⟩) (cellsB [98, 97, 99, 107, 117, 112])) := A491.out.below hb496
        have P503 : Hid (Src (wa496) g449 (cellsB pt)) := P492.out.below hb496
        have N504 : Hid (Src (wa496) g457 (cellsB (numQ sx))) := N493.out.below hb496
        have K505 : Hid (Src (wa496) g475 (cellsB (numQ lk))) := K494.out.below hb496
        have O506 : Hid (Src (wa496) (some ⟨wa475.heap.size, 0, none⟩) [.slice (some ⟨wa428.heap.size, 0, none⟩) 6 6, .slice g428 l1 c428, .slice (some ⟨w1.heap.size, 0, none⟩) 1 1, .slice g449 l2 c449, .slice g457 4 c457, .slice g475 4 c475]) := O495.out.below hb496
        have C507 : Hid (World.ownsRow (wa496) (w.heap.size + 1) 5 1 (.slice g496 tl c496) tl (cellsB tot)) := own_mono o496 (show w.heap.size + 1 ≤ _ from World.block_lt_of_cell? _ _ (X487.out 0 _ rfl).1)
        have Cs508 : Hid (Src (wa496) g496 (cellsB tot)) := s496
        clear o496 hb496 s496
        clear e0 e1 e2 e3 e4
        obtain ⟨e0, e1, e2, e3, e4⟩ := cells5 X498.out
        refine hK _ _ ⟨e0, e1, e2, e3, e4⟩ (fun hHeld => ?_)
        clear hK K
        refine wpAnyH_ready (rs := [15]) (by kernel_rfl) (by simp) ?_
        refine AllReadyH.cons rfl (fun K hK => ?_) AllReadyH.nil
        go_simp
        clear e0 e1 e2 e3 e4
        obtain ⟨e0, e1, e2, e3, e4⟩ := cells5 X498.out
        refine hK _ _ ⟨e0, e1, e2, e3, e4⟩ (fun hHeld => ?_)
        clear hK K
        refine wpAnyH_ready (rs := [16]) (by kernel_rfl) (by simp) ?_
        refine AllReadyH.cons rfl (fun K hK => ?_) AllReadyH.nil
        go_simp
        clear e0 e1 e2 e3 e4
        obtain ⟨e0, e1, e2, e3, e4⟩ := cells5 X498.out
        refine hK _ _ ⟨e0, e1, e2, e3, e4⟩ (fun hHeld => ?_)
        clear hK K
        refine wpAnyH_done (by kernel_rfl) ?_ _
        refine NoPanic.normal ?_
        clear e0 e1 e2 e3 e4
        clear hHeld
        have FIN : Hid ((wa496).ownsRow w.heap.size 5 1 (.slice g496 tl c496) tot.length (cellsB tot)) := by rw [CT.out.2]; exact own_mono C507.out (by omega)
        go_wp2_with fail
        go_ret2
        exact ⟨.slice g496 tl c496, tot, 0, rfl, FF.out, FIN.out, by rw [CT.out.2]; omega, B497.out⟩
      · skip
        go_simp
        refine (backupParts F T (cx : Int) (sx : Int) a n c M (((wa428).alloc mkO)) HM.out hn HS.out (Src.below (w := w) HH.out (B434.out))).mono ?_
        rw [PT.out, L2.out]
        rintro e wa509 ⟨va509, rfl, o509, hb509⟩
        obtain ⟨g509, c509, rfl, s509, _⟩ := own_src o509
        dsimp only
        have B510 : Hid (Below w.heap.size w (wa509)) := (B434.out).trans (hb509.mono (B434.out).size)
        have X511 : Hid (Box (wa509) w.heap.size (bx5 F T cx sx a n c)) := X435.out.below hb509
        have T512 : Hid (HasHalf (wa509)) := T436.out.below hb509
        have Y513 : Hid (Src (wa509) (some ⟨w1.heap.size, 0, none⟩) (cellsB [n])) := Y437.out.below hb509
        have H514 : Hid (Src (wa509) g428 (cellsB hd)) := H438.out.below hb509
        have A515 : Hid (Src (wa509) (some ⟨wa428.heap.size, 0, none⟩) (cellsB [98, 97, 99, 107, 117, 112])) := A439.out.below hb509
        have Q516 : Hid ((wa509).heap[wa428.heap.size]? = some mkO) := blk_below (w := ((wa428).alloc mkO)) Q440.out hb509
        have P517 : Hid (Src (wa509) g509 (cellsB pt)) := s509
        clear o509 hb509 s509
        clear e0 e1 e2 e3 e4
        obtain ⟨e0, e1, e2, e3, e4⟩ := cells5 X511.out
        refine hK _ _ ⟨e0, e1, e2, e3, e4⟩ (fun hHeld => ?_)
        clear hK K
        refine wpAnyH_ready (rs := [1, 9]) (by kernel_rfl) (by simp) ?_
        refine AllReadyH.cons rfl (fun K hK => ?_) (AllReadyH.cons rfl (fun K hK => ?_) AllReadyH.nil)
        · skip
          obtain ⟨wa518, hcv518, fz518⟩ : ∃ W2, (convert 55 55 (.slice (some ⟨wa428.heap.size, 0, none⟩) 6 6)).run Tryz.prog (wa509) = .ok (.slice (some ⟨wa428.heap.size, 0, none⟩) 6 6) W2 ∧ Frozen (wa509) W2 (wa428.heap.size) := ⟨_, convert_const_at (wa509) (wa428.heap.size) _ 6 6 Q516.out, frozen_freeze _ _ _⟩
          have FZ518 : Hid (Frozen (wa509) wa518 (wa428.heap.size)) := fz518
          clear fz518
          go_simp
          have B519 : Hid (Below w.heap.size w (wa518)) := below_frozen (B510.out) FZ518.out (Nat.le_of_lt GG441.out)
          have X520 : Hid (Box (wa518) w.heap.size (bx5 F T cx sx a n c)) := box_frozen (w := wa509) X511.out FZ518.out (Nat.ne_of_lt GG441.out)
          have T521 : Hid (HasHalf (wa518)) := half_frozen (w := wa509) T512.out FZ518.out
          have Y522 : Hid (Src (wa518) (some ⟨w1.heap.size, 0, none⟩) (cellsB [n])) := src_frozen (w := wa509) Y513.out FZ518.out
          have H523 : Hid (Src (wa518) g428 (cellsB hd)) := src_frozen (w := wa509) H514.out FZ518.out
          have A524 : Hid (Src (wa518) (some ⟨wa428.heap.size, 0, none⟩) (cellsB [98, 97, 99, 107, 117, 112])) := src_frozen (w := wa509) A515.out FZ518.out
          have P525 : Hid (Src (wa518) g509 (cellsB pt)) := src_frozen (w := wa509) P517.out FZ518.out
          clear hcv518
          clear e0 e1 e2 e3 e4
          obtain ⟨e0, e1, e2, e3, e4⟩ := cells5 X520.out
          refine hK _ _ ⟨e0, e1, e2, e3, e4⟩ (fun hHeld => ?_)
          clear hK K
          refine wpAnyH_ready (rs := [9]) (by kernel_rfl) (by simp) ?_
          refine AllReadyH.cons rfl (fun K hK => ?_) AllReadyH.nil
          go_simp
          refine (numberBytesV sx (wa518) hx).mono ?_
          rintro e wa526 ⟨va526, rfl, o526, hb526⟩
          obtain ⟨g526, c526, rfl, s526, _⟩ := own_src o526
          dsimp only
          have B527 : Hid (Below w.heap.size w (wa526)) := (B519.out).trans (hb526.mono (B519.out).size)
          have X528 : Hid (Box (wa526) w.heap.size (bx5 F T cx sx a n c)) := X520.out.below hb526
          have T529 : Hid (HasHalf (wa526)) := T521.out.below hb526
          have Y530 : Hid (Src (wa526) (some ⟨w1.heap.size, 0, none⟩) (cellsB [n])) := Y522.out.below hb526
          have H531 : Hid (Src (wa526) g428 (cellsB hd)) := H523.out.below hb526
          have A532 : Hid (Src (wa526) (some ⟨wa428.heap.size, 0, none⟩) (cellsB [98, 97, 99, 107, 117, 112])) := A524.out.below hb526
          have P533 : Hid (Src (wa526) g509 (cellsB pt)) := P525.out.below hb526
          have N534 : Hid (Src (wa526) g526 (cellsB (numQ sx))) := s526
          clear o526 hb526 s526
          clear e0 e1 e2 e3 e4
          obtain ⟨e0, e1, e2, e3, e4⟩ := cells5 X528.out
          refine hK _ _ ⟨e0, e1, e2, e3, e4⟩ (fun hHeld => ?_)
          clear hK K
          refine wpAnyH_ready (rs := [11]) (by kernel_rfl) (by simp) ?_
          refine AllReadyH.cons rfl (fun K hK => ?_) AllReadyH.nil
          go_simp
          refine (backupLink F T cx sx a n c M (wa526) hF hT hc hx HM.out hn HS.out (Src.below (w := w) HH.out (B527.out)) T529.out).mono ?_
          rw [LK.out]
          rintro e wa535 ⟨rfl, hb535⟩
          dsimp only
          have B536 : Hid (Below w.heap.size w (wa535)) := (B527.out).trans (hb535.mono (B527.out).size)
          have X537 : Hid (Box (wa535) w.heap.size (bx5 F T cx sx a n c)) := X528.out.below hb535
          have T538 : Hid (HasHalf (wa535)) := T529.out.below hb535
          have Y539 : Hid (Src (wa535) (some ⟨w1.heap.size, 0, none⟩) (cellsB [n])) := Y530.out.below hb535
          have H540 : Hid (Src (wa535) g428 (cellsB hd)) := H531.out.below hb535
          have A541 : Hid (Src (wa535) (some ⟨wa428.heap.size, 0, none⟩) (cellsB [98, 97, 99, 107, 117, 112])) := A532.out.below hb535
          have P542 : Hid (Src (wa535) g509 (cellsB pt)) := P533.out.below hb535
          have N543 : Hid (Src (wa535) g526 (cellsB (numQ sx))) := N534.out.below hb535
          clear hb535
          clear e0 e1 e2 e3 e4
          obtain ⟨e0, e1, e2, e3, e4⟩ := cells5 X537.out
          refine hK _ _ ⟨e0, e1, e2, e3, e4⟩ (fun hHeld => ?_)
          clear hK K
          refine wpAnyH_ready (rs := [12]) (by kernel_rfl) (by simp) ?_
          refine AllReadyH.cons rfl (fun K hK => ?_) AllReadyH.nil
          go_simp
          refine (numberBytesV lk (wa535) hlk2).mono ?_
          rintro e wa544 ⟨va544, rfl, o544, hb544⟩
          obtain ⟨g544, c544, rfl, s544, _⟩ := own_src o544
          dsimp only
          have B545 : Hid (Below w.heap.size w (wa544)) := (B536.out).trans (hb544.mono (B536.out).size)
          have X546 : Hid (Box (wa544) w.heap.size (bx5 F T cx sx a n c)) := X537.out.below hb544
          have T547 : Hid (HasHalf (wa544)) := T538.out.below hb544
          have Y548 : Hid (Src (wa544) (some ⟨w1.heap.size, 0, none⟩) (cellsB [n])) := Y539.out.below hb544
          have H549 : Hid (Src (wa544) g428 (cellsB hd)) := H540.out.below hb544
          have A550 : Hid (Src (wa544) (some ⟨wa428.heap.size, 0, none⟩) (cellsB [98, 97, 99, 107, 117, 112])) := A541.out.below hb544
          have P551 : Hid (Src (wa544) g509 (cellsB pt)) := P542.out.below hb544
          have N552 : Hid (Src (wa544) g526 (cellsB (numQ sx))) := N543.out.below hb544
          have K553 : Hid (Src (wa544) g544 (cellsB (numQ lk))) := s544
          clear o544 hb544 s544
          clear e0 e1 e2 e3 e4
          obtain ⟨e0, e1, e2, e3, e4⟩ := cells5 X546.out
          refine hK _ _ ⟨e0, e1, e2, e3, e4⟩ (fun hHeld => ?_)
          clear hK K
          refine wpAnyH_ready (rs := [13]) (by kernel_rfl) (by simp) ?_
          refine AllReadyH.cons rfl (fun K hK => ?_) AllReadyH.nil
          go_simp
          obtain ⟨wa554, hwo554, hb554, so554⟩ : ∃ W2, (wa544).alloc (.cells #[.slice (some ⟨wa428.heap.size, 0, none⟩) 6 6, .slice g428 l1 c428, .slice (some ⟨w1.heap.size, 0, none⟩) 1 1, .slice g509 l2 c509, .slice g526 4 c526, .slice g544 4 c544] 55) = W2 ∧ Below (wa544).heap.size (wa544) W2 ∧ Src W2 (some ⟨wa544.heap.size, 0, none⟩) [.slice (some ⟨wa428.heap.size, 0, none⟩) 6 6, .slice g428 l1 c428, .slice (some ⟨w1.heap.size, 0, none⟩) 1 1, .slice g509 l2 c509, .slice g526 4 c526, .slice g544 4 c544] := ⟨_, rfl, (Below.refl _ _).alloc (Nat.le_refl _) _, src_vals (xs := [.slice (some ⟨wa428.heap.size, 0, none⟩) 6 6, .slice g428 l1 c428, .slice (some ⟨w1.heap.size, 0, none⟩) 1 1, .slice g509 l2 c509, .slice g526 4 c526, .slice g544 4 c544]) rfl⟩
          rw [hwo554]
          have B555 : Hid (Below w.heap.size w (wa554)) := (B545.out).trans (hb554.mono (B545.out).size)
          have X556 : Hid (Box (wa554) w.heap.size (bx5 F T cx sx a n c)) := X546.out.below hb554
          have T557 : Hid (HasHalf (wa554)) := T547.out.below hb554
          have Y558 : Hid (Src (wa554) (some ⟨w1.heap.size, 0, none⟩) (cellsB [n])) := Y548.out.below hb554
          have H559 : Hid (Src (wa554) g428 (cellsB hd)) := H549.out.below hb554
          have A560 : Hid (Src (wa554) (some ⟨wa428.heap.size, 0, none⟩) (cellsB [98, 97, 99, 107, 117, 112])) := A550.out.below hb554
          have P561 : Hid (Src (wa554) g509 (cellsB pt)) := P551.out.below hb554
          have N562 : Hid (Src (wa554) g526 (cellsB (numQ sx))) := N552.out.below hb554
          have K563 : Hid (Src (wa554) g544 (cellsB (numQ lk))) := K553.out.below hb554
          have O564 : Hid (Src (wa554) (some ⟨wa544.heap.size, 0, none⟩) [.slice (some ⟨wa428.heap.size, 0, none⟩) 6 6, .slice g428 l1 c428, .slice (some ⟨w1.heap.size, 0, none⟩) 1 1, .slice g509 l2 c509, .slice g526 4 c526, .slice g544 4 c544]) := so554
          clear hwo554 hb554 so554
          clear e0 e1 e2 e3 e4
          obtain ⟨e0, e1, e2, e3, e4⟩ := cells5 X556.out
          refine hK _ _ ⟨e0, e1, e2, e3, e4⟩ (fun hHeld => ?_)
          clear hK K
          refine wpAnyH_ready (rs := [14]) (by kernel_rfl) (by simp) ?_
          refine AllReadyH.cons rfl (fun K hK => ?_) AllReadyH.nil
          have HRC : Hid (∀ i, i < 6 → ∃ a c, ([.slice (some ⟨wa428.heap.size, 0, none⟩) 6 6, .slice g428 l1 c428, .slice (some ⟨w1.heap.size, 0, none⟩) 1 1, .slice g509 l2 c509, .slice g526 4 c526, .slice g544 4 c544] : List Value).getD i undef = .slice a ((fun i => [[98, 97, 99, 107, 117, 112], hd, [n], pt, numQ sx, numQ lk].getD i []) i).length c ∧ Src (wa554) a (cellsB ((fun i => [[98, 97, 99, 107, 117, 112], hd, [n], pt, numQ sx, numQ lk].getD i []) i))) := fun i hi => by
            match i, hi with
            | 0, _ => exact ⟨(some ⟨wa428.heap.size, 0, none⟩), 6, rfl, A560.out⟩
            | 1, _ => exact ⟨g428, c428, by show Value.slice g428 l1 c428 = Value.slice g428 (hd).length c428; rw [L1.out], H559.out⟩
            | 2, _ => exact ⟨(some ⟨w1.heap.size, 0, none⟩), 1, rfl, Y558.out⟩
            | 3, _ => exact ⟨g509, c509, by show Value.slice g509 l2 c509 = Value.slice g509 (pt).length c509; rw [L2.out], P561.out⟩
            | 4, _ => exact ⟨g526, c526, rfl, N562.out⟩
            | 5, _ => exact ⟨g544, c544, rfl, K563.out⟩
          have CC : Hid (Calls Tryz.prog 61 #[.slice (some ⟨wa544.heap.size, 0, none⟩) 6 6] (wa554) fun e w' => ∃ v, e = .returned v ∧ w'.ownsRow (wa554).heap.size 5 1 v tl (cellsB tot) ∧ Below (wa554).heap.size (wa554) w') := by
            have h9 := slicesConcat (some ⟨wa544.heap.size, 0, none⟩) 6 6 [.slice (some ⟨wa428.heap.size, 0, none⟩) 6 6, .slice g428 l1 c428, .slice (some ⟨w1.heap.size, 0, none⟩) 1 1, .slice g509 l2 c509, .slice g526 4 c526, .slice g544 4 c544] (fun i => [[98, 97, 99, 107, 117, 112], hd, [n], pt, numQ sx, numQ lk].getD i []) (wa554) rfl (by omega) (by rw [CT.out.1, CT.out.2]; omega) (by rw [CT.out.1, CT.out.2]; omega) O564.out HRC.out
            rw [CT.out.1, CT.out.2] at h9
            exact h9
          clear HRC
          go_simp
          refine CC.out.mono ?_
          rintro e wa565 ⟨va565, rfl, o565, hb565⟩
          obtain ⟨g565, c565, rfl, s565, _⟩ := own_src o565
          clear CC
          dsimp only
          have B566 : Hid (Below w.heap.size w (wa565)) := (B555.out).trans (hb565.mono (B555.out).size)
          have X567 : Hid (Box (wa565) w.heap.size (bx5 F T cx sx a n c)) := X556.out.below hb565
          have T568 : Hid (HasHalf (wa565)) := T557.out.below hb565
          have Y569 : Hid (Src (wa565) (some ⟨w1.heap.size, 0, none⟩) (cellsB [n])) := Y558.out.below hb565
          have H570 : Hid (Src (wa565) g428 (cellsB hd)) := H559.out.below hb565
          have A571 : Hid (Src (wa565) (some ⟨wa428.heap.size, 0, none⟩) (cellsB [98, 97, 99, 107, 117, 112])) := A560.out.below hb565
          have P572 : Hid (Src (wa565) g509 (cellsB pt)) := P561.out.below hb565
          have N573 : Hid (Src (wa565) g526 (cellsB (numQ sx))) := N562.out.below hb565
          have K574 : Hid (Src (wa565) g544 (cellsB (numQ lk))) := K563.out.below hb565
          have O575 : Hid (Src (wa565) (some ⟨wa544.heap.size, 0, none⟩) [.slice (some ⟨wa428.heap.size, 0, none⟩) 6 6, .slice g428 l1 c428, .slice (some ⟨w1.heap.size, 0, none⟩) 1 1, .slice g509 l2 c509, .slice g526 4 c526, .slice g544 4 c544]) := O564.out.below hb565
          have C576 : Hid (World.ownsRow (wa565) (w.heap.size + 1) 5 1 (.slice g565 tl c565) tl (cellsB tot)) := own_mono o565 (show w.heap.size + 1 ≤ _ from World.block_lt_of_cell? _ _ (X556.out 0 _ rfl).1)
          have Cs577 : Hid (Src (wa565) g565 (cellsB tot)) := s565
          clear o565 hb565 s565
          clear e0 e1 e2 e3 e4
          obtain ⟨e0, e1, e2, e3, e4⟩ := cells5 X567.out
          refine hK _ _ ⟨e0, e1, e2, e3, e4⟩ (fun hHeld => ?_)
          clear hK K
          refine wpAnyH_ready (rs := [15]) (by kernel_rfl) (by simp) ?_
          refine AllReadyH.cons rfl (fun K hK => ?_) AllReadyH.nil
          go_simp
          clear e0 e1 e2 e3 e4
          obtain ⟨e0, e1, e2, e3, e4⟩ := cells5 X567.out
          refine hK _ _ ⟨e0, e1, e2, e3, e4⟩ (fun hHeld => ?_)
          clear hK K
          refine wpAnyH_ready (rs := [16]) (by kernel_rfl) (by simp) ?_
          refine AllReadyH.cons rfl (fun K hK => ?_) AllReadyH.nil
          go_simp
          clear e0 e1 e2 e3 e4
          obtain ⟨e0, e1, e2, e3, e4⟩ := cells5 X567.out
          refine hK _ _ ⟨e0, e1, e2, e3, e4⟩ (fun hHeld => ?_)
          clear hK K
          refine wpAnyH_done (by kernel_rfl) ?_ _
          refine NoPanic.normal ?_
          clear e0 e1 e2 e3 e4
          clear hHeld
          have FIN : Hid ((wa565).ownsRow w.heap.size 5 1 (.slice g565 tl c565) tot.length (cellsB tot)) := by rw [CT.out.2]; exact own_mono C576.out (by omega)
          go_wp2_with fail
          go_ret2
          exact ⟨.slice g565 tl c565, tot, 0, rfl, FF.out, FIN.out, by rw [CT.out.2]; omega, B566.out⟩
        · skip
          go_simp
          refine (numberBytesV sx (wa509) hx).mono ?_
          rintro e wa578 ⟨va578, rfl, o578, hb578⟩
          obtain ⟨g578, c578, rfl, s578, _⟩ := own_src o578
          dsimp only
          have B579 : Hid (Below w.heap.size w (wa578)) := (B510.out).trans (hb578.mono (B510.out).size)
          have X580 : Hid (Box (wa578) w.heap.size (bx5 F T cx sx a n c)) := X511.out.below hb578
          have T581 : Hid (HasHalf (wa578)) := T512.out.below hb578
          have Y582 : Hid (Src (wa578) (some ⟨w1.heap.size, 0, none⟩) (cellsB [n])) := Y513.out.below hb578
          have H583 : Hid (Src (wa578) g428 (cellsB hd)) := H514.out.below hb578
          have A584 : Hid (Src (wa578) (some ⟨wa428.heap.size, 0, none⟩) (cellsB [98, 97, 99, 107, 117, 112])) := A515.out.below hb578
          have Q585 : Hid ((wa578).heap[wa428.heap.size]? = some mkO) := blk_below (w := wa509) Q516.out hb578
          have P586 : Hid (Src (wa578) g509 (cellsB pt)) := P517.out.below hb578
          have N587 : Hid (Src (wa578) g578 (cellsB (numQ sx))) := s578
          clear o578 hb578 s578
          clear e0 e1 e2 e3 e4
          obtain ⟨e0, e1, e2, e3, e4⟩ := cells5 X580.out
          refine hK _ _ ⟨e0, e1, e2, e3, e4⟩ (fun hHeld => ?_)
          clear hK K
          refine wpAnyH_ready (rs := [1, 11]) (by kernel_rfl) (by simp) ?_
          refine AllReadyH.cons rfl (fun K hK => ?_) (AllReadyH.cons rfl (fun K hK => ?_) AllReadyH.nil)
          · skip
            obtain ⟨wa588, hcv588, fz588⟩ : ∃ W2, (convert 55 55 (.slice (some ⟨wa428.heap.size, 0, none⟩) 6 6)).run Tryz.prog (wa578) = .ok (.slice (some ⟨wa428.heap.size, 0, none⟩) 6 6) W2 ∧ Frozen (wa578) W2 (wa428.heap.size) := ⟨_, convert_const_at (wa578) (wa428.heap.size) _ 6 6 Q585.out, frozen_freeze _ _ _⟩
            have FZ588 : Hid (Frozen (wa578) wa588 (wa428.heap.size)) := fz588
            clear fz588
            go_simp
            have B589 : Hid (Below w.heap.size w (wa588)) := below_frozen (B579.out) FZ588.out (Nat.le_of_lt GG441.out)
            have X590 : Hid (Box (wa588) w.heap.size (bx5 F T cx sx a n c)) := box_frozen (w := wa578) X580.out FZ588.out (Nat.ne_of_lt GG441.out)
            have T591 : Hid (HasHalf (wa588)) := half_frozen (w := wa578) T581.out FZ588.out
            have Y592 : Hid (Src (wa588) (some ⟨w1.heap.size, 0, none⟩) (cellsB [n])) := src_frozen (w := wa578) Y582.out FZ588.out
            have H593 : Hid (Src (wa588) g428 (cellsB hd)) := src_frozen (w := wa578) H583.out FZ588.out
            have A594 : Hid (Src (wa588) (some ⟨wa428.heap.size, 0, none⟩) (cellsB [98, 97, 99, 107, 117, 112])) := src_frozen (w := wa578) A584.out FZ588.out
            have P595 : Hid (Src (wa588) g509 (cellsB pt)) := src_frozen (w := wa578) P586.out FZ588.out
            have N596 : Hid (Src (wa588) g578 (cellsB (numQ sx))) := src_frozen (w := wa578) N587.out FZ588.out
            clear hcv588
            clear e0 e1 e2 e3 e4
            obtain ⟨e0, e1, e2, e3, e4⟩ := cells5 X590.out
            refine hK _ _ ⟨e0, e1, e2, e3, e4⟩ (fun hHeld => ?_)
            clear hK K
            refine wpAnyH_ready (rs := [11]) (by kernel_rfl) (by simp) ?_
            refine AllReadyH.cons rfl (fun K hK => ?_) AllReadyH.nil
            go_simp
            refine (backupLink F T cx sx a n c M (wa588) hF hT hc hx HM.out hn HS.out (Src.below (w := w) HH.out (B589.out)) T591.out).mono ?_
            rw [LK.out]
            rintro e wa597 ⟨rfl, hb597⟩
            dsimp only
            have B598 : Hid (Below w.heap.size w (wa597)) := (B589.out).trans (hb597.mono (B589.out).size)
            have X599 : Hid (Box (wa597) w.heap.size (bx5 F T cx sx a n c)) := X590.out.below hb597
            have T600 : Hid (HasHalf (wa597)) := T591.out.below hb597
            have Y601 : Hid (Src (wa597) (some ⟨w1.heap.size, 0, none⟩) (cellsB [n])) := Y592.out.below hb597
            have H602 : Hid (Src (wa597) g428 (cellsB hd)) := H593.out.below hb597
            have A603 : Hid (Src (wa597) (some ⟨wa428.heap.size, 0, none⟩) (cellsB [98, 97, 99, 107, 117, 112])) := A594.out.below hb597
            have P604 : Hid (Src (wa597) g509 (cellsB pt)) := P595.out.below hb597
            have N605 : Hid (Src (wa597) g578 (cellsB (numQ sx))) := N596.out.below hb597
            clear hb597
            clear e0 e1 e2 e3 e4
            obtain ⟨e0, e1, e2, e3, e4⟩ := cells5 X599.out
            refine hK _ _ ⟨e0, e1, e2, e3, e4⟩ (fun hHeld => ?_)
            clear hK K
            refine wpAnyH_ready (rs := [12]) (by kernel_rfl) (by simp) ?_
            refine AllReadyH.cons rfl (fun K hK => ?_) AllReadyH.nil
            go_simp
            refine (numberBytesV lk (wa597) hlk2).mono ?_
            rintro e wa606 ⟨va606, rfl, o606, hb606⟩
            obtain ⟨g606, c606, rfl, s606, _⟩ := own_src o606
            dsimp only
            have B607 : Hid (Below w.heap.size w (wa606)) := (B598.out).trans (hb606.mono (B598.out).size)
            have X608 : Hid (Box (wa606) w.heap.size (bx5 F T cx sx a n c)) := X599.out.below hb606
            have T609 : Hid (HasHalf (wa606)) := T600.out.below hb606
            have Y610 : Hid (Src (wa606) (some ⟨w1.heap.size, 0, none⟩) (cellsB [n])) := Y601.out.below hb606
            have H611 : Hid (Src (wa606) g428 (cellsB hd)) := H602.out.below hb606
            have A612 : Hid (Src (wa606) (some ⟨wa428.heap.size, 0, none⟩) (cellsB [98, 97, 99, 107, 117, 112])) := A603.out.below hb606
            have P613 : Hid (Src (wa606) g509 (cellsB pt)) := P604.out.below hb606
            have N614 : Hid (Src (wa606) g578 (cellsB (numQ sx))) := N605.out.below hb606
            have K615 : Hid (Src (wa606) g606 (cellsB (numQ lk))) := s606
            clear o606 hb606 s606
            clear e0 e1 e2 e3 e4
            obtain ⟨e0, e1, e2, e3, e4⟩ := cells5 X608.out
            refine hK _ _ ⟨e0, e1, e2, e3, e4⟩ (fun hHeld => ?_)
            clear hK K
            refine wpAnyH_ready (rs := [13]) (by kernel_rfl) (by simp) ?_
            refine AllReadyH.cons rfl (fun K hK => ?_) AllReadyH.nil
            go_simp
            obtain ⟨wa616, hwo616, hb616, so616⟩ : ∃ W2, (wa606).alloc (.cells #[.slice (some ⟨wa428.heap.size, 0, none⟩) 6 6, .slice g428 l1 c428, .slice (some ⟨w1.heap.size, 0, none⟩) 1 1, .slice g509 l2 c509, .slice g578 4 c578, .slice g606 4 c606] 55) = W2 ∧ Below (wa606).heap.size (wa606) W2 ∧ Src W2 (some ⟨wa606.heap.size, 0, none⟩) [.slice (some ⟨wa428.heap.size, 0, none⟩) 6 6, .slice g428 l1 c428, .slice (some ⟨w1.heap.size, 0, none⟩) 1 1, .slice g509 l2 c509, .slice g578 4 c578, .slice g606 4 c606] := ⟨_, rfl, (Below.refl _ _).alloc (Nat.le_refl _) _, src_vals (xs := [.slice (some ⟨wa428.heap.size, 0, none⟩) 6 6, .slice g428 l1 c428, .slice (some ⟨w1.heap.size, 0, none⟩) 1 1, .slice g509 l2 c509, .slice g578 4 c578, .slice g606 4 c606]) rfl⟩
            rw [hwo616]
            have B617 : Hid (Below w.heap.size w (wa616)) := (B607.out).trans (hb616.mono (B607.out).size)
            have X618 : Hid (Box (wa616) w.heap.size (bx5 F T cx sx a n c)) := X608.out.below hb616
            have T619 : Hid (HasHalf (wa616)) := T609.out.below hb616
            have Y620 : Hid (Src (wa616) (some ⟨w1.heap.size, 0, none⟩) (cellsB [n])) := Y610.out.below hb616
            have H621 : Hid (Src (wa616) g428 (cellsB hd)) := H611.out.below hb616
            have A622 : Hid (Src (wa616) (some ⟨wa428.heap.size, 0, none⟩) (cellsB [98, 97, 99, 107, 117, 112])) := A612.out.below hb616
            have P623 : Hid (Src (wa616) g509 (cellsB pt)) := P613.out.below hb616
            have N624 : Hid (Src (wa616) g578 (cellsB (numQ sx))) := N614.out.below hb616
            have K625 : Hid (Src (wa616) g606 (cellsB (numQ lk))) := K615.out.below hb616
            have O626 : Hid (Src (wa616) (some ⟨wa606.heap.size, 0, none⟩) [.slice (some ⟨wa428.heap.size, 0, none⟩) 6 6, .slice g428 l1 c428, .slice (some ⟨w1.heap.size, 0, none⟩) 1 1, .slice g509 l2 c509, .slice g578 4 c578, .slice g606 4 c606]) := so616
            clear hwo616 hb616 so616
            clear e0 e1 e2 e3 e4
            obtain ⟨e0, e1, e2, e3, e4⟩ := cells5 X618.out
            refine hK _ _ ⟨e0, e1, e2, e3, e4⟩ (fun hHeld => ?_)
            clear hK K
            refine wpAnyH_ready (rs := [14]) (by kernel_rfl) (by simp) ?_
            refine AllReadyH.cons rfl (fun K hK => ?_) AllReadyH.nil
            have HRC : Hid (∀ i, i < 6 → ∃ a c, ([.slice (some ⟨wa428.heap.size, 0, none⟩) 6 6, .slice g428 l1 c428, .slice (some ⟨w1.heap.size, 0, none⟩) 1 1, .slice g509 l2 c509, .slice g578 4 c578, .slice g606 4 c606] : List Value).getD i undef = .slice a ((fun i => [[98, 97, 99, 107, 117, 112], hd, [n], pt, numQ sx, numQ lk].getD i []) i).length c ∧ Src (wa616) a (cellsB ((fun i => [[98, 97, 99, 107, 117, 112], hd, [n], pt, numQ sx, numQ lk].getD i []) i))) := fun i hi => by
              match i, hi with
              | 0, _ => exact ⟨(some ⟨wa428.heap.size, 0, none⟩), 6, rfl, A622.out⟩
              | 1, _ => exact ⟨g428, c428, by show Value.slice g428 l1 c428 = Value.slice g428 (hd).length c428; rw [L1.out], H621.out⟩
              | 2, _ => exact ⟨(some ⟨w1.heap.size, 0, none⟩), 1, rfl, Y620.out⟩
              | 3, _ => exact ⟨g509, c509, by show Value.slice g509 l2 c509 = Value.slice g509 (pt).length c509; rw [L2.out], P623.out⟩
              | 4, _ => exact ⟨g578, c578, rfl, N624.out⟩
              | 5, _ => exact ⟨g606, c606, rfl, K625.out⟩
            have CC : Hid (Calls Tryz.prog 61 #[.slice (some ⟨wa606.heap.size, 0, none⟩) 6 6] (wa616) fun e w' => ∃ v, e = .returned v ∧ w'.ownsRow (wa616).heap.size 5 1 v tl (cellsB tot) ∧ Below (wa616).heap.size (wa616) w') := by
              have h9 := slicesConcat (some ⟨wa606.heap.size, 0, none⟩) 6 6 [.slice (some ⟨wa428.heap.size, 0, none⟩) 6 6, .slice g428 l1 c428, .slice (some ⟨w1.heap.size, 0, none⟩) 1 1, .slice g509 l2 c509, .slice g578 4 c578, .slice g606 4 c606] (fun i => [[98, 97, 99, 107, 117, 112], hd, [n], pt, numQ sx, numQ lk].getD i []) (wa616) rfl (by omega) (by rw [CT.out.1, CT.out.2]; omega) (by rw [CT.out.1, CT.out.2]; omega) O626.out HRC.out
              rw [CT.out.1, CT.out.2] at h9
              exact h9
            clear HRC
            go_simp
            refine CC.out.mono ?_
            rintro e wa627 ⟨va627, rfl, o627, hb627⟩
            obtain ⟨g627, c627, rfl, s627, _⟩ := own_src o627
            clear CC
            dsimp only
            have B628 : Hid (Below w.heap.size w (wa627)) := (B617.out).trans (hb627.mono (B617.out).size)
            have X629 : Hid (Box (wa627) w.heap.size (bx5 F T cx sx a n c)) := X618.out.below hb627
            have T630 : Hid (HasHalf (wa627)) := T619.out.below hb627
            have Y631 : Hid (Src (wa627) (some ⟨w1.heap.size, 0, none⟩) (cellsB [n])) := Y620.out.below hb627
            have H632 : Hid (Src (wa627) g428 (cellsB hd)) := H621.out.below hb627
            have A633 : Hid (Src (wa627) (some ⟨wa428.heap.size, 0, none⟩) (cellsB [98, 97, 99, 107, 117, 112])) := A622.out.below hb627
            have P634 : Hid (Src (wa627) g509 (cellsB pt)) := P623.out.below hb627
            have N635 : Hid (Src (wa627) g578 (cellsB (numQ sx))) := N624.out.below hb627
            have K636 : Hid (Src (wa627) g606 (cellsB (numQ lk))) := K625.out.below hb627
            have O637 : Hid (Src (wa627) (some ⟨wa606.heap.size, 0, none⟩) [.slice (some ⟨wa428.heap.size, 0, none⟩) 6 6, .slice g428 l1 c428, .slice (some ⟨w1.heap.size, 0, none⟩) 1 1, .slice g509 l2 c509, .slice g578 4 c578, .slice g606 4 c606]) := O626.out.below hb627
            have C638 : Hid (World.ownsRow (wa627) (w.heap.size + 1) 5 1 (.slice g627 tl c627) tl (cellsB tot)) := own_mono o627 (show w.heap.size + 1 ≤ _ from World.block_lt_of_cell? _ _ (X618.out 0 _ rfl).1)
            have Cs639 : Hid (Src (wa627) g627 (cellsB tot)) := s627
            clear o627 hb627 s627
            clear e0 e1 e2 e3 e4
            obtain ⟨e0, e1, e2, e3, e4⟩ := cells5 X629.out
            refine hK _ _ ⟨e0, e1, e2, e3, e4⟩ (fun hHeld => ?_)
            clear hK K
            refine wpAnyH_ready (rs := [15]) (by kernel_rfl) (by simp) ?_
            refine AllReadyH.cons rfl (fun K hK => ?_) AllReadyH.nil
            go_simp
            clear e0 e1 e2 e3 e4
            obtain ⟨e0, e1, e2, e3, e4⟩ := cells5 X629.out
            refine hK _ _ ⟨e0, e1, e2, e3, e4⟩ (fun hHeld => ?_)
            clear hK K
            refine wpAnyH_ready (rs := [16]) (by kernel_rfl) (by simp) ?_
            refine AllReadyH.cons rfl (fun K hK => ?_) AllReadyH.nil
            go_simp
            clear e0 e1 e2 e3 e4
            obtain ⟨e0, e1, e2, e3, e4⟩ := cells5 X629.out
            refine hK _ _ ⟨e0, e1, e2, e3, e4⟩ (fun hHeld => ?_)
            clear hK K
            refine wpAnyH_done (by kernel_rfl) ?_ _
            refine NoPanic.normal ?_
            clear e0 e1 e2 e3 e4
            clear hHeld
            have FIN : Hid ((wa627).ownsRow w.heap.size 5 1 (.slice g627 tl c627) tot.length (cellsB tot)) := by rw [CT.out.2]; exact own_mono C638.out (by omega)
            go_wp2_with fail
            go_ret2
            exact ⟨.slice g627 tl c627, tot, 0, rfl, FF.out, FIN.out, by rw [CT.out.2]; omega, B628.out⟩
          · skip
            go_simp
            refine (backupLink F T cx sx a n c M (wa578) hF hT hc hx HM.out hn HS.out (Src.below (w := w) HH.out (B579.out)) T581.out).mono ?_
            rw [LK.out]
            rintro e wa640 ⟨rfl, hb640⟩
            dsimp only
            have B641 : Hid (Below w.heap.size w (wa640)) := (B579.out).trans (hb640.mono (B579.out).size)
            have X642 : Hid (Box (wa640) w.heap.size (bx5 F T cx sx a n c)) := X580.out.below hb640
            have T643 : Hid (HasHalf (wa640)) := T581.out.below hb640
            have Y644 : Hid (Src (wa640) (some ⟨w1.heap.size, 0, none⟩) (cellsB [n])) := Y582.out.below hb640
            have H645 : Hid (Src (wa640) g428 (cellsB hd)) := H583.out.below hb640
            have A646 : Hid (Src (wa640) (some ⟨wa428.heap.size, 0, none⟩) (cellsB [98, 97, 99, 107, 117, 112])) := A584.out.below hb640
            have Q647 : Hid ((wa640).heap[wa428.heap.size]? = some mkO) := blk_below (w := wa578) Q585.out hb640
            have P648 : Hid (Src (wa640) g509 (cellsB pt)) := P586.out.below hb640
            have N649 : Hid (Src (wa640) g578 (cellsB (numQ sx))) := N587.out.below hb640
            clear hb640
            clear e0 e1 e2 e3 e4
            obtain ⟨e0, e1, e2, e3, e4⟩ := cells5 X642.out
            refine hK _ _ ⟨e0, e1, e2, e3, e4⟩ (fun hHeld => ?_)
            clear hK K
            refine wpAnyH_ready (rs := [1, 12]) (by kernel_rfl) (by simp) ?_
            refine AllReadyH.cons rfl (fun K hK => ?_) (AllReadyH.cons rfl (fun K hK => ?_) AllReadyH.nil)
            · skip
              obtain ⟨wa650, hcv650, fz650⟩ : ∃ W2, (convert 55 55 (.slice (some ⟨wa428.heap.size, 0, none⟩) 6 6)).run Tryz.prog (wa640) = .ok (.slice (some ⟨wa428.heap.size, 0, none⟩) 6 6) W2 ∧ Frozen (wa640) W2 (wa428.heap.size) := ⟨_, convert_const_at (wa640) (wa428.heap.size) _ 6 6 Q647.out, frozen_freeze _ _ _⟩
              have FZ650 : Hid (Frozen (wa640) wa650 (wa428.heap.size)) := fz650
              clear fz650
              go_simp
              have B651 : Hid (Below w.heap.size w (wa650)) := below_frozen (B641.out) FZ650.out (Nat.le_of_lt GG441.out)
              have X652 : Hid (Box (wa650) w.heap.size (bx5 F T cx sx a n c)) := box_frozen (w := wa640) X642.out FZ650.out (Nat.ne_of_lt GG441.out)
              have T653 : Hid (HasHalf (wa650)) := half_frozen (w := wa640) T643.out FZ650.out
              have Y654 : Hid (Src (wa650) (some ⟨w1.heap.size, 0, none⟩) (cellsB [n])) := src_frozen (w := wa640) Y644.out FZ650.out
              have H655 : Hid (Src (wa650) g428 (cellsB hd)) := src_frozen (w := wa640) H645.out FZ650.out
              have A656 : Hid (Src (wa650) (some ⟨wa428.heap.size, 0, none⟩) (cellsB [98, 97, 99, 107, 117, 112])) := src_frozen (w := wa640) A646.out FZ650.out
              have P657 : Hid (Src (wa650) g509 (cellsB pt)) := src_frozen (w := wa640) P648.out FZ650.out
              have N658 : Hid (Src (wa650) g578 (cellsB (numQ sx))) := src_frozen (w := wa640) N649.out FZ650.out
              clear hcv650
              clear e0 e1 e2 e3 e4
              obtain ⟨e0, e1, e2, e3, e4⟩ := cells5 X652.out
              refine hK _ _ ⟨e0, e1, e2, e3, e4⟩ (fun hHeld => ?_)
              clear hK K
              refine wpAnyH_ready (rs := [12]) (by kernel_rfl) (by simp) ?_
              refine AllReadyH.cons rfl (fun K hK => ?_) AllReadyH.nil
              go_simp
              refine (numberBytesV lk (wa650) hlk2).mono ?_
              rintro e wa659 ⟨va659, rfl, o659, hb659⟩
              obtain ⟨g659, c659, rfl, s659, _⟩ := own_src o659
              dsimp only
              have B660 : Hid (Below w.heap.size w (wa659)) := (B651.out).trans (hb659.mono (B651.out).size)
              have X661 : Hid (Box (wa659) w.heap.size (bx5 F T cx sx a n c)) := X652.out.below hb659
              have T662 : Hid (HasHalf (wa659)) := T653.out.below hb659
              have Y663 : Hid (Src (wa659) (some ⟨w1.heap.size, 0, none⟩) (cellsB [n])) := Y654.out.below hb659
              have H664 : Hid (Src (wa659) g428 (cellsB hd)) := H655.out.below hb659
              have A665 : Hid (Src (wa659) (some ⟨wa428.heap.size, 0, none⟩) (cellsB [98, 97, 99, 107, 117, 112])) := A656.out.below hb659
              have P666 : Hid (Src (wa659) g509 (cellsB pt)) := P657.out.below hb659
              have N667 : Hid (Src (wa659) g578 (cellsB (numQ sx))) := N658.out.below hb659
              have K668 : Hid (Src (wa659) g659 (cellsB (numQ lk))) := s659
              clear o659 hb659 s659
              clear e0 e1 e2 e3 e4
              obtain ⟨e0, e1, e2, e3, e4⟩ := cells5 X661.out
              refine hK _ _ ⟨e0, e1, e2, e3, e4⟩ (fun hHeld => ?_)
              clear hK K
              refine wpAnyH_ready (rs := [13]) (by kernel_rfl) (by simp) ?_
              refine AllReadyH.cons rfl (fun K hK => ?_) AllReadyH.nil
              go_simp
              obtain ⟨wa669, hwo669, hb669, so669⟩ : ∃ W2, (wa659).alloc (.cells #[.slice (some ⟨wa428.heap.size, 0, none⟩) 6 6, .slice g428 l1 c428, .slice (some ⟨w1.heap.size, 0, none⟩) 1 1, .slice g509 l2 c509, .slice g578 4 c578, .slice g659 4 c659] 55) = W2 ∧ Below (wa659).heap.size (wa659) W2 ∧ Src W2 (some ⟨wa659.heap.size, 0, none⟩) [.slice (some ⟨wa428.heap.size, 0, none⟩) 6 6, .slice g428 l1 c428, .slice (some ⟨w1.heap.size, 0, none⟩) 1 1, .slice g509 l2 c509, .slice g578 4 c578, .slice g659 4 c659] := ⟨_, rfl, (Below.refl _ _).alloc (Nat.le_refl _) _, src_vals (xs := [.slice (some ⟨wa428.heap.size, 0, none⟩) 6 6, .slice g428 l1 c428, .slice (some ⟨w1.heap.size, 0, none⟩) 1 1, .slice g509 l2 c509, .slice g578 4 c578, .slice g659 4 c659]) rfl⟩
              rw [hwo669]
              have B670 : Hid (Below w.heap.size w (wa669)) := (B660.out).trans (hb669.mono (B660.out).size)
              have X671 : Hid (Box (wa669) w.heap.size (bx5 F T cx sx a n c)) := X661.out.below hb669
              have T672 : Hid (HasHalf (wa669)) := T662.out.below hb669
              have Y673 : Hid (Src (wa669) (some ⟨w1.heap.size, 0, none⟩) (cellsB [n])) := Y663.out.below hb669
              have H674 : Hid (Src (wa669) g428 (cellsB hd)) := H664.out.below hb669
              have A675 : Hid (Src (wa669) (some ⟨wa428.heap.size, 0, none⟩) (cellsB [98, 97, 99, 107, 117, 112])) := A665.out.below hb669
              have P676 : Hid (Src (wa669) g509 (cellsB pt)) := P666.out.below hb669
              have N677 : Hid (Src (wa669) g578 (cellsB (numQ sx))) := N667.out.below hb669
              have K678 : Hid (Src (wa669) g659 (cellsB (numQ lk))) := K668.out.below hb669
              have O679 : Hid (Src (wa669) (some ⟨wa659.heap.size, 0, none⟩) [.slice (some ⟨wa428.heap.size, 0, none⟩) 6 6, .slice g428 l1 c428, .slice (some ⟨w1.heap.size, 0, none⟩) 1 1, .slice g509 l2 c509, .slice g578 4 c578, .slice g659 4 c659]) := so669
              clear hwo669 hb669 so669
              clear e0 e1 e2 e3 e4
              obtain ⟨e0, e1, e2, e3, e4⟩ := cells5 X671.out
              refine hK _ _ ⟨e0, e1, e2, e3, e4⟩ (fun hHeld => ?_)
              clear hK K
              refine wpAnyH_ready (rs := [14]) (by kernel_rfl) (by simp) ?_
              refine AllReadyH.cons rfl (fun K hK => ?_) AllReadyH.nil
              have HRC : Hid (∀ i, i < 6 → ∃ a c, ([.slice (some ⟨wa428.heap.size, 0, none⟩) 6 6, .slice g428 l1 c428, .slice (some ⟨w1.heap.size, 0, none⟩) 1 1, .slice g509 l2 c509, .slice g578 4 c578, .slice g659 4 c659] : List Value).getD i undef = .slice a ((fun i => [[98, 97, 99, 107, 117, 112], hd, [n], pt, numQ sx, numQ lk].getD i []) i).length c ∧ Src (wa669) a (cellsB ((fun i => [[98, 97, 99, 107, 117, 112], hd, [n], pt, numQ sx, numQ lk].getD i []) i))) := fun i hi => by
                match i, hi with
                | 0, _ => exact ⟨(some ⟨wa428.heap.size, 0, none⟩), 6, rfl, A675.out⟩
                | 1, _ => exact ⟨g428, c428, by show Value.slice g428 l1 c428 = Value.slice g428 (hd).length c428; rw [L1.out], H674.out⟩
                | 2, _ => exact ⟨(some ⟨w1.heap.size, 0, none⟩), 1, rfl, Y673.out⟩
                | 3, _ => exact ⟨g509, c509, by show Value.slice g509 l2 c509 = Value.slice g509 (pt).length c509; rw [L2.out], P676.out⟩
                | 4, _ => exact ⟨g578, c578, rfl, N677.out⟩
                | 5, _ => exact ⟨g659, c659, rfl, K678.out⟩
              have CC : Hid (Calls Tryz.prog 61 #[.slice (some ⟨wa659.heap.size, 0, none⟩) 6 6] (wa669) fun e w' => ∃ v, e = .returned v ∧ w'.ownsRow (wa669).heap.size 5 1 v tl (cellsB tot) ∧ Below (wa669).heap.size (wa669) w') := by
                have h9 := slicesConcat (some ⟨wa659.heap.size, 0, none⟩) 6 6 [.slice (some ⟨wa428.heap.size, 0, none⟩) 6 6, .slice g428 l1 c428, .slice (some ⟨w1.heap.size, 0, none⟩) 1 1, .slice g509 l2 c509, .slice g578 4 c578, .slice g659 4 c659] (fun i => [[98, 97, 99, 107, 117, 112], hd, [n], pt, numQ sx, numQ lk].getD i []) (wa669) rfl (by omega) (by rw [CT.out.1, CT.out.2]; omega) (by rw [CT.out.1, CT.out.2]; omega) O679.out HRC.out
                rw [CT.out.1, CT.out.2] at h9
                exact h9
              clear HRC
              go_simp
              refine CC.out.mono ?_
              rintro e wa680 ⟨va680, rfl, o680, hb680⟩
              obtain ⟨g680, c680, rfl, s680, _⟩ := own_src o680
              clear CC
              dsimp only
              have B681 : Hid (Below w.heap.size w (wa680)) := (B670.out).trans (hb680.mono (B670.out).size)
              have X682 : Hid (Box (wa680) w.heap.size (bx5 F T cx sx a n c)) := X671.out.below hb680
              have T683 : Hid (HasHalf (wa680)) := T672.out.below hb680
              have Y684 : Hid (Src (wa680) (some ⟨w1.heap.size, 0, none⟩) (cellsB [n])) := Y673.out.below hb680
              have H685 : Hid (Src (wa680) g428 (cellsB hd)) := H674.out.below hb680
              have A686 : Hid (Src (wa680) (some ⟨wa428.heap.size, 0, none⟩) (cellsB [98, 97, 99, 107, 117, 112])) := A675.out.below hb680
              have P687 : Hid (Src (wa680) g509 (cellsB pt)) := P676.out.below hb680
              have N688 : Hid (Src (wa680) g578 (cellsB (numQ sx))) := N677.out.below hb680
              have K689 : Hid (Src (wa680) g659 (cellsB (numQ lk))) := K678.out.below hb680
              have O690 : Hid (Src (wa680) (some ⟨wa659.heap.size, 0, none⟩) [.slice (some ⟨wa428.heap.size, 0, none⟩) 6 6, .slice g428 l1 c428, .slice (some ⟨w1.heap.size, 0, none⟩) 1 1, .slice g509 l2 c509, .slice g578 4 c578, .slice g659 4 c659]) := O679.out.below hb680
              have C691 : Hid (World.ownsRow (wa680) (w.heap.size + 1) 5 1 (.slice g680 tl c680) tl (cellsB tot)) := own_mono o680 (show w.heap.size + 1 ≤ _ from World.block_lt_of_cell? _ _ (X671.out 0 _ rfl).1)
              have Cs692 : Hid (Src (wa680) g680 (cellsB tot)) := s680
              clear o680 hb680 s680
              clear e0 e1 e2 e3 e4
              obtain ⟨e0, e1, e2, e3, e4⟩ := cells5 X682.out
              refine hK _ _ ⟨e0, e1, e2, e3, e4⟩ (fun hHeld => ?_)
              clear hK K
              refine wpAnyH_ready (rs := [15]) (by kernel_rfl) (by simp) ?_
              refine AllReadyH.cons rfl (fun K hK => ?_) AllReadyH.nil
              go_simp
              clear e0 e1 e2 e3 e4
              obtain ⟨e0, e1, e2, e3, e4⟩ := cells5 X682.out
              refine hK _ _ ⟨e0, e1, e2, e3, e4⟩ (fun hHeld => ?_)
              clear hK K
              refine wpAnyH_ready (rs := [16]) (by kernel_rfl) (by simp) ?_
              refine AllReadyH.cons rfl (fun K hK => ?_) AllReadyH.nil
              go_simp
              clear e0 e1 e2 e3 e4
              obtain ⟨e0, e1, e2, e3, e4⟩ := cells5 X682.out
              refine hK _ _ ⟨e0, e1, e2, e3, e4⟩ (fun hHeld => ?_)
              clear hK K
              refine wpAnyH_done (by kernel_rfl) ?_ _
              refine NoPanic.normal ?_
              clear e0 e1 e2 e3 e4
              clear hHeld
              have FIN : Hid ((wa680).ownsRow w.heap.size 5 1 (.slice g680 tl c680) tot.length (cellsB tot)) := by rw [CT.out.2]; exact own_mono C691.out (by omega)
              go_wp2_with fail
              go_ret2
              exact ⟨.slice g680 tl c680, tot, 0, rfl, FF.out, FIN.out, by rw [CT.out.2]; omega, B681.out⟩
            · skip
              go_simp
              refine (numberBytesV lk (wa640) hlk2).mono ?_
              rintro e wa693 ⟨va693, rfl, o693, hb693⟩
              obtain ⟨g693, c693, rfl, s693, _⟩ := own_src o693
              dsimp only
              have B694 : Hid (Below w.heap.size w (wa693)) := (B641.out).trans (hb693.mono (B641.out).size)
              have X695 : Hid (Box (wa693) w.heap.size (bx5 F T cx sx a n c)) := X642.out.below hb693
              have T696 : Hid (HasHalf (wa693)) := T643.out.below hb693
              have Y697 : Hid (Src (wa693) (some ⟨w1.heap.size, 0, none⟩) (cellsB [n])) := Y644.out.below hb693
              have H698 : Hid (Src (wa693) g428 (cellsB hd)) := H645.out.below hb693
              have A699 : Hid (Src (wa693) (some ⟨wa428.heap.size, 0, none⟩) (cellsB [98, 97, 99, 107, 117, 112])) := A646.out.below hb693
              have Q700 : Hid ((wa693).heap[wa428.heap.size]? = some mkO) := blk_below (w := wa640) Q647.out hb693
              have P701 : Hid (Src (wa693) g509 (cellsB pt)) := P648.out.below hb693
              have N702 : Hid (Src (wa693) g578 (cellsB (numQ sx))) := N649.out.below hb693
              have K703 : Hid (Src (wa693) g693 (cellsB (numQ lk))) := s693
              clear o693 hb693 s693
              clear e0 e1 e2 e3 e4
              obtain ⟨e0, e1, e2, e3, e4⟩ := cells5 X695.out
              refine hK _ _ ⟨e0, e1, e2, e3, e4⟩ (fun hHeld => ?_)
              clear hK K
              refine wpAnyH_ready (rs := [1]) (by kernel_rfl) (by simp) ?_
              refine AllReadyH.cons rfl (fun K hK => ?_) AllReadyH.nil
              obtain ⟨wa704, hcv704, fz704⟩ : ∃ W2, (convert 55 55 (.slice (some ⟨wa428.heap.size, 0, none⟩) 6 6)).run Tryz.prog (wa693) = .ok (.slice (some ⟨wa428.heap.size, 0, none⟩) 6 6) W2 ∧ Frozen (wa693) W2 (wa428.heap.size) := ⟨_, convert_const_at (wa693) (wa428.heap.size) _ 6 6 Q700.out, frozen_freeze _ _ _⟩
              have FZ704 : Hid (Frozen (wa693) wa704 (wa428.heap.size)) := fz704
              clear fz704
              go_simp
              have B705 : Hid (Below w.heap.size w (wa704)) := below_frozen (B694.out) FZ704.out (Nat.le_of_lt GG441.out)
              have X706 : Hid (Box (wa704) w.heap.size (bx5 F T cx sx a n c)) := box_frozen (w := wa693) X695.out FZ704.out (Nat.ne_of_lt GG441.out)
              have T707 : Hid (HasHalf (wa704)) := half_frozen (w := wa693) T696.out FZ704.out
              have Y708 : Hid (Src (wa704) (some ⟨w1.heap.size, 0, none⟩) (cellsB [n])) := src_frozen (w := wa693) Y697.out FZ704.out
              have H709 : Hid (Src (wa704) g428 (cellsB hd)) := src_frozen (w := wa693) H698.out FZ704.out
              have A710 : Hid (Src (wa704) (some ⟨wa428.heap.size, 0, none⟩) (cellsB [98, 97, 99, 107, 117, 112])) := src_frozen (w := wa693) A699.out FZ704.out
              have P711 : Hid (Src (wa704) g509 (cellsB pt)) := src_frozen (w := wa693) P701.out FZ704.out
              have N712 : Hid (Src (wa704) g578 (cellsB (numQ sx))) := src_frozen (w := wa693) N702.out FZ704.out
              have K713 : Hid (Src (wa704) g693 (cellsB (numQ lk))) := src_frozen (w := wa693) K703.out FZ704.out
              clear hcv704
              clear e0 e1 e2 e3 e4
              obtain ⟨e0, e1, e2, e3, e4⟩ := cells5 X706.out
              refine hK _ _ ⟨e0, e1, e2, e3, e4⟩ (fun hHeld => ?_)
              clear hK K
              refine wpAnyH_ready (rs := [13]) (by kernel_rfl) (by simp) ?_
              refine AllReadyH.cons rfl (fun K hK => ?_) AllReadyH.nil
              go_simp
              obtain ⟨wa714, hwo714, hb714, so714⟩ : ∃ W2, (wa704).alloc (.cells #[.slice (some ⟨wa428.heap.size, 0, none⟩) 6 6, .slice g428 l1 c428, .slice (some ⟨w1.heap.size, 0, none⟩) 1 1, .slice g509 l2 c509, .slice g578 4 c578, .slice g693 4 c693] 55) = W2 ∧ Below (wa704).heap.size (wa704) W2 ∧ Src W2 (some ⟨wa704.heap.size, 0, none⟩) [.slice (some ⟨wa428.heap.size, 0, none⟩) 6 6, .slice g428 l1 c428, .slice (some ⟨w1.heap.size, 0, none⟩) 1 1, .slice g509 l2 c509, .slice g578 4 c578, .slice g693 4 c693] := ⟨_, rfl, (Below.refl _ _).alloc (Nat.le_refl _) _, src_vals (xs := [.slice (some ⟨wa428.heap.size, 0, none⟩) 6 6, .slice g428 l1 c428, .slice (some ⟨w1.heap.size, 0, none⟩) 1 1, .slice g509 l2 c509, .slice g578 4 c578, .slice g693 4 c693]) rfl⟩
              rw [hwo714]
              have B715 : Hid (Below w.heap.size w (wa714)) := (B705.out).trans (hb714.mono (B705.out).size)
              have X716 : Hid (Box (wa714) w.heap.size (bx5 F T cx sx a n c)) := X706.out.below hb714
              have T717 : Hid (HasHalf (wa714)) := T707.out.below hb714
              have Y718 : Hid (Src (wa714) (some ⟨w1.heap.size, 0, none⟩) (cellsB [n])) := Y708.out.below hb714
              have H719 : Hid (Src (wa714) g428 (cellsB hd)) := H709.out.below hb714
              have A720 : Hid (Src (wa714) (some ⟨wa428.heap.size, 0, none⟩) (cellsB [98, 97, 99, 107, 117, 112])) := A710.out.below hb714
              have P721 : Hid (Src (wa714) g509 (cellsB pt)) := P711.out.below hb714
              have N722 : Hid (Src (wa714) g578 (cellsB (numQ sx))) := N712.out.below hb714
              have K723 : Hid (Src (wa714) g693 (cellsB (numQ lk))) := K713.out.below hb714
              have O724 : Hid (Src (wa714) (some ⟨wa704.heap.size, 0, none⟩) [.slice (some ⟨wa428.heap.size, 0, none⟩) 6 6, .slice g428 l1 c428, .slice (some ⟨w1.heap.size, 0, none⟩) 1 1, .slice g509 l2 c509, .slice g578 4 c578, .slice g693 4 c693]) := so714
              clear hwo714 hb714 so714
              clear e0 e1 e2 e3 e4
              obtain ⟨e0, e1, e2, e3, e4⟩ := cells5 X716.out
              refine hK _ _ ⟨e0, e1, e2, e3, e4⟩ (fun hHeld => ?_)
              clear hK K
              refine wpAnyH_ready (rs := [14]) (by kernel_rfl) (by simp) ?_
              refine AllReadyH.cons rfl (fun K hK => ?_) AllReadyH.nil
              have HRC : Hid (∀ i, i < 6 → ∃ a c, ([.slice (some ⟨wa428.heap.size, 0, none⟩) 6 6, .slice g428 l1 c428, .slice (some ⟨w1.heap.size, 0, none⟩) 1 1, .slice g509 l2 c509, .slice g578 4 c578, .slice g693 4 c693] : List Value).getD i undef = .slice a ((fun i => [[98, 97, 99, 107, 117, 112], hd, [n], pt, numQ sx, numQ lk].getD i []) i).length c ∧ Src (wa714) a (cellsB ((fun i => [[98, 97, 99, 107, 117, 112], hd, [n], pt, numQ sx, numQ lk].getD i []) i))) := fun i hi => by
                match i, hi with
                | 0, _ => exact ⟨(some ⟨wa428.heap.size, 0, none⟩), 6, rfl, A720.out⟩
                | 1, _ => exact ⟨g428, c428, by show Value.slice g428 l1 c428 = Value.slice g428 (hd).length c428; rw [L1.out], H719.out⟩
                | 2, _ => exact ⟨(some ⟨w1.heap.size, 0, none⟩), 1, rfl, Y718.out⟩
                | 3, _ => exact ⟨g509, c509, by show Value.slice g509 l2 c509 = Value.slice g509 (pt).length c509; rw [L2.out], P721.out⟩
                | 4, _ => exact ⟨g578, c578, rfl, N722.out⟩
                | 5, _ => exact ⟨g693, c693, rfl, K723.out⟩
              have CC : Hid (Calls Tryz.prog 61 #[.slice (some ⟨wa704.heap.size, 0, none⟩) 6 6] (wa714) fun e w' => ∃ v, e = .returned v ∧ w'.ownsRow (wa714).heap.size 5 1 v tl (cellsB tot) ∧ Below (wa714).heap.size (wa714) w') := by
                have h9 := slicesConcat (some ⟨wa704.heap.size, 0, none⟩) 6 6 [.slice (some ⟨wa428.heap.size, 0, none⟩) 6 6, .slice g428 l1 c428, .slice (some ⟨w1.heap.size, 0, none⟩) 1 1, .slice g509 l2 c509, .slice g578 4 c578, .slice g693 4 c693] (fun i => [[98, 97, 99, 107, 117, 112], hd, [n], pt, numQ sx, numQ lk].getD i []) (wa714) rfl (by omega) (by rw [CT.out.1, CT.out.2]; omega) (by rw [CT.out.1, CT.out.2]; omega) O724.out HRC.out
                rw [CT.out.1, CT.out.2] at h9
                exact h9
              clear HRC
              go_simp
              refine CC.out.mono ?_
              rintro e wa725 ⟨va725, rfl, o725, hb725⟩
              obtain ⟨g725, c725, rfl, s725, _⟩ := own_src o725
              clear CC
              dsimp only
              have B726 : Hid (Below w.heap.size w (wa725)) := (B715.out).trans (hb725.mono (B715.out).size)
              have X727 : Hid (Box (wa725) w.heap.size (bx5 F T cx sx a n c)) := X716.out.below hb725
              have T728 : Hid (HasHalf (wa725)) := T717.out.below hb725
              have Y729 : Hid (Src (wa725) (some ⟨w1.heap.size, 0, none⟩) (cellsB [n])) := Y718.out.below hb725
              have H730 : Hid (Src (wa725) g428 (cellsB hd)) := H719.out.below hb725
              have A731 : Hid (Src (wa725) (some ⟨wa428.heap.size, 0, none⟩) (cellsB [98, 97, 99, 107, 117, 112])) := A720.out.below hb725
              have P732 : Hid (Src (wa725) g509 (cellsB pt)) := P721.out.below hb725
              have N733 : Hid (Src (wa725) g578 (cellsB (numQ sx))) := N722.out.below hb725
              have K734 : Hid (Src (wa725) g693 (cellsB (numQ lk))) := K723.out.below hb725
              have O735 : Hid (Src (wa725) (some ⟨wa704.heap.size, 0, none⟩) [.slice (some ⟨wa428.heap.size, 0, none⟩) 6 6, .slice g428 l1 c428, .slice (some ⟨w1.heap.size, 0, none⟩) 1 1, .slice g509 l2 c509, .slice g578 4 c578, .slice g693 4 c693]) := O724.out.below hb725
              have C736 : Hid (World.ownsRow (wa725) (w.heap.size + 1) 5 1 (.slice g725 tl c725) tl (cellsB tot)) := own_mono o725 (show w.heap.size + 1 ≤ _ from World.block_lt_of_cell? _ _ (X716.out 0 _ rfl).1)
              have Cs737 : Hid (Src (wa725) g725 (cellsB tot)) := s725
              clear o725 hb725 s725
              clear e0 e1 e2 e3 e4
              obtain ⟨e0, e1, e2, e3, e4⟩ := cells5 X727.out
              refine hK _ _ ⟨e0, e1, e2, e3, e4⟩ (fun hHeld => ?_)
              clear hK K
              refine wpAnyH_ready (rs := [15]) (by kernel_rfl) (by simp) ?_
              refine AllReadyH.cons rfl (fun K hK => ?_) AllReadyH.nil
              go_simp
              clear e0 e1 e2 e3 e4
              obtain ⟨e0, e1, e2, e3, e4⟩ := cells5 X727.out
              refine hK _ _ ⟨e0, e1, e2, e3, e4⟩ (fun hHeld => ?_)
              clear hK K
              refine wpAnyH_ready (rs := [16]) (by kernel_rfl) (by simp) ?_
              refine AllReadyH.cons rfl (fun K hK => ?_) AllReadyH.nil
              go_simp
              clear e0 e1 e2 e3 e4
              obtain ⟨e0, e1, e2, e3, e4⟩ := cells5 X727.out
              refine hK _ _ ⟨e0, e1, e2, e3, e4⟩ (fun hHeld => ?_)
              clear hK K
              refine wpAnyH_done (by kernel_rfl) ?_ _
              refine NoPanic.normal ?_
              clear e0 e1 e2 e3 e4
              clear hHeld
              have FIN : Hid ((wa725).ownsRow w.heap.size 5 1 (.slice g725 tl c725) tot.length (cellsB tot)) := by rw [CT.out.2]; exact own_mono C736.out (by omega)
              go_wp2_with fail
              go_ret2
              exact ⟨.slice g725 tl c725, tot, 0, rfl, FF.out, FIN.out, by rw [CT.out.2]; omega, B726.out⟩
    · skip
      go_simp
      refine (backupParts F T (cx : Int) (sx : Int) a n c M (wa428) HM.out hn HS.out (Src.below (w := w) HH.out (B429.out))).mono ?_
      rw [PT.out, L2.out]
      rintro e wa738 ⟨va738, rfl, o738, hb738⟩
      obtain ⟨g738, c738, rfl, s738, _⟩ := own_src o738
      dsimp only
      have B739 : Hid (Below w.heap.size w (wa738)) := (B429.out).trans (hb738.mono (B429.out).size)
      have X740 : Hid (Box (wa738) w.heap.size (bx5 F T cx sx a n c)) := X430.out.below hb738
      have T741 : Hid (HasHalf (wa738)) := T431.out.below hb738
      have Y742 : Hid (Src (wa738) (some ⟨w1.heap.size, 0, none⟩) (cellsB [n])) := Y432.out.below hb738
      have H743 : Hid (Src (wa738) g428 (cellsB hd)) := H433.out.below hb738
      have P744 : Hid (Src (wa738) g738 (cellsB pt)) := s738
      clear o738 hb738 s738
      clear e0 e1 e2 e3 e4
      obtain ⟨e0, e1, e2, e3, e4⟩ := cells5 X740.out
      refine hK _ _ ⟨e0, e1, e2, e3, e4⟩ (fun hHeld => ?_)
      clear hK K
      refine wpAnyH_ready (rs := [0, 9]) (by kernel_rfl) (by simp) ?_
      refine AllReadyH.cons rfl (fun K hK => ?_) (AllReadyH.cons rfl (fun K hK => ?_) AllReadyH.nil)
      · skip
        go_simp
        have B745 : Hid (Below w.heap.size w (((wa738).alloc mkO))) := B739.out.alloc B739.out.size _
        have X746 : Hid (Box (((wa738).alloc mkO)) w.heap.size (bx5 F T cx sx a n c)) := Box.old (w := wa738) X740.out _
        have T747 : Hid (HasHalf (((wa738).alloc mkO))) := HasHalf.below (w := wa738) T741.out (((Below.refl _ (wa738)).alloc (Nat.le_refl _) mkO))
        have Y748 : Hid (Src (((wa738).alloc mkO)) (some ⟨w1.heap.size, 0, none⟩) (cellsB [n])) := Src.below (w := wa738) Y742.out (((Below.refl _ (wa738)).alloc (Nat.le_refl _) mkO))
        have H749 : Hid (Src (((wa738).alloc mkO)) g428 (cellsB hd)) := Src.below (w := wa738) H743.out (((Below.refl _ (wa738)).alloc (Nat.le_refl _) mkO))
        have P750 : Hid (Src (((wa738).alloc mkO)) g738 (cellsB pt)) := Src.below (w := wa738) P744.out (((Below.refl _ (wa738)).alloc (Nat.le_refl _) mkO))
        have A751 : Hid (Src (((wa738).alloc mkO)) (some ⟨wa738.heap.size, 0, none⟩) (cellsB [98, 97, 99, 107, 117, 112])) := src_6B (w := wa738) (by simp)
        have Q752 : Hid ((((wa738).alloc mkO)).heap[wa738.heap.size]? = some mkO) := (heap_at_alloc (wa738) _ (by simp))
        have GG753 : Hid (w.heap.size < wa738.heap.size) := by show _ < _; have h9 := World.block_lt_of_cell? _ _ (X740.out 0 _ rfl).1; simpa using h9
        clear e0 e1 e2 e3 e4
        obtain ⟨e0, e1, e2, e3, e4⟩ := cells5 X746.out
        refine hK _ _ ⟨e0, e1, e2, e3, e4⟩ (fun hHeld => ?_)
        clear hK K
        refine wpAnyH_ready (rs := [1, 9]) (by kernel_rfl) (by simp) ?_
        refine AllReadyH.cons rfl (fun K hK => ?_) (AllReadyH.cons rfl (fun K hK => ?_) AllReadyH.nil)
        · skip
          obtain ⟨wa754, hcv754, fz754⟩ : ∃ W2, (convert 55 55 (.slice (some ⟨wa738.heap.size, 0, none⟩) 6 6)).run Tryz.prog (((wa738).alloc mkO)) = .ok (.slice (some ⟨wa738.heap.size, 0, none⟩) 6 6) W2 ∧ Frozen (((wa738).alloc mkO)) W2 (wa738.heap.size) := ⟨_, convert_const_at (((wa738).alloc mkO)) (wa738.heap.size) _ 6 6 Q752.out, frozen_freeze _ _ _⟩
          have FZ754 : Hid (Frozen (((wa738).alloc mkO)) wa754 (wa738.heap.size)) := fz754
          clear fz754
          go_simp
          have B755 : Hid (Below w.heap.size w (wa754)) := below_frozen (B745.out) FZ754.out (Nat.le_of_lt GG753.out)
          have X756 : Hid (Box (wa754) w.heap.size (bx5 F T cx sx a n c)) := box_frozen (w := ((wa738).alloc mkO)) X746.out FZ754.out (Nat.ne_of_lt GG753.out)
          have T757 : Hid (HasHalf (wa754)) := half_frozen (w := ((wa738).alloc mkO)) T747.out FZ754.out
          have Y758 : Hid (Src (wa754) (some ⟨w1.heap.size, 0, none⟩) (cellsB [n])) := src_frozen (w := ((wa738).alloc mkO)) Y748.out FZ754.out
          have H759 : Hid (Src (wa754) g428 (cellsB hd)) := src_frozen (w := ((wa738).alloc mkO)) H749.out FZ754.out
          have P760 : Hid (Src (wa754) g738 (cellsB pt)) := src_frozen (w := ((wa738).alloc mkO)) P750.out FZ754.out
          have A761 : Hid (Src (wa754) (some ⟨wa738.heap.size, 0, none⟩) (cellsB [98, 97, 99, 107, 117, 112])) := src_frozen (w := ((wa738).alloc mkO)) A751.out FZ754.out
          clear hcv754
          clear e0 e1 e2 e3 e4
          obtain ⟨e0, e1, e2, e3, e4⟩ := cells5 X756.out
          refine hK _ _ ⟨e0, e1, e2, e3, e4⟩ (fun hHeld => ?_)
          clear hK K
          refine wpAnyH_ready (rs := [9]) (by kernel_rfl) (by simp) ?_
          refine AllReadyH.cons rfl (fun K hK => ?_) AllReadyH.nil
          go_simp
          refine (numberBytesV sx (wa754) hx).mono ?_
          rintro e wa762 ⟨va762, rfl, o762, hb762⟩
          obtain ⟨g762, c762, rfl, s762, _⟩ := own_src o762
          dsimp only
          have B763 : Hid (Below w.heap.size w (wa762)) := (B755.out).trans (hb762.mono (B755.out).size)
          have X764 : Hid (Box (wa762) w.heap.size (bx5 F T cx sx a n c)) := X756.out.below hb762
          have T765 : Hid (HasHalf (wa762)) := T757.out.below hb762
          have Y766 : Hid (Src (wa762) (some ⟨w1.heap.size, 0, none⟩) (cellsB [n])) := Y758.out.below hb762
          have H767 : Hid (Src (wa762) g428 (cellsB hd)) := H759.out.below hb762
          have P768 : Hid (Src (wa762) g738 (cellsB pt)) := P760.out.below hb762
          have A769 : Hid (Src (wa762) (some ⟨wa738.heap.size, 0, none⟩) (cellsB [98, 97, 99, 107, 117, 112])) := A761.out.below hb762
          have N770 : Hid (Src (wa762) g762 (cellsB (numQ sx))) := s762
          clear o762 hb762 s762
          clear e0 e1 e2 e3 e4
          obtain ⟨e0, e1, e2, e3, e4⟩ := cells5 X764.out
          refine hK _ _ ⟨e0, e1, e2, e3, e4⟩ (fun hHeld => ?_)
          clear hK K
          refine wpAnyH_ready (rs := [11]) (by kernel_rfl) (by simp) ?_
          refine AllReadyH.cons rfl (fun K hK => ?_) AllReadyH.nil
          go_simp
          refine (backupLink F T cx sx a n c M (wa762) hF hT hc hx HM.out hn HS.out (Src.below (w := w) HH.out (B763.out)) T765.out).mono ?_
          rw [LK.out]
          rintro e wa771 ⟨rfl, hb771⟩
          dsimp only
          have B772 : Hid (Below w.heap.size w (wa771)) := (B763.out).trans (hb771.mono (B763.out).size)
          have X773 : Hid (Box (wa771) w.heap.size (bx5 F T cx sx a n c)) := X764.out.below hb771
          have T774 : Hid (HasHalf (wa771)) := T765.out.below hb771
          have Y775 : Hid (Src (wa771) (some ⟨w1.heap.size, 0, none⟩) (cellsB [n])) := Y766.out.below hb771
          have H776 : Hid (Src (wa771) g428 (cellsB hd)) := H767.out.below hb771
          have P777 : Hid (Src (wa771) g738 (cellsB pt)) := P768.out.below hb771
          have A778 : Hid (Src (wa771) (some ⟨wa738.heap.size, 0, none⟩) (cellsB [98, 97, 99, 107, 117, 112])) := A769.out.below hb771
          have N779 : Hid (Src (wa771) g762 (cellsB (numQ sx))) := N770.out.below hb771
          clear hb771
          clear e0 e1 e2 e3 e4
          obtain ⟨e0, e1, e2, e3, e4⟩ := cells5 X773.out
          refine hK _ _ ⟨e0, e1, e2, e3, e4⟩ (fun hHeld => ?_)
          clear hK K
          refine wpAnyH_ready (rs := [12]) (by kernel_rfl) (by simp) ?_
          refine AllReadyH.cons rfl (fun K hK => ?_) AllReadyH.nil
          go_simp
          refine (numberBytesV lk (wa771) hlk2).mono ?_
          rintro e wa780 ⟨va780, rfl, o780, hb780⟩
          obtain ⟨g780, c780, rfl, s780, _⟩ := own_src o780
          dsimp only
          have B781 : Hid (Below w.heap.size w (wa780)) := (B772.out).trans (hb780.mono (B772.out).size)
          have X782 : Hid (Box (wa780) w.heap.size (bx5 F T cx sx a n c)) := X773.out.below hb780
          have T783 : Hid (HasHalf (wa780)) := T774.out.below hb780
          have Y784 : Hid (Src (wa780) (some ⟨w1.heap.size, 0, none⟩) (cellsB [n])) := Y775.out.below hb780
          have H785 : Hid (Src (wa780) g428 (cellsB hd)) := H776.out.below hb780
          have P786 : Hid (Src (wa780) g738 (cellsB pt)) := P777.out.below hb780
          have A787 : Hid (Src (wa780) (some ⟨wa738.heap.size, 0, none⟩) (cellsB [98, 97, 99, 107, 117, 112])) := A778.out.below hb780
          have N788 : Hid (Src (wa780) g762 (cellsB (numQ sx))) := N779.out.below hb780
          have K789 : Hid (Src (wa780) g780 (cellsB (numQ lk))) := s780
          clear o780 hb780 s780
          clear e0 e1 e2 e3 e4
          obtain ⟨e0, e1, e2, e3, e4⟩ := cells5 X782.out
          refine hK _ _ ⟨e0, e1, e2, e3, e4⟩ (fun hHeld => ?_)
          clear hK K
          refine wpAnyH_ready (rs := [13]) (by kernel_rfl) (by simp) ?_
          refine AllReadyH.cons rfl (fun K hK => ?_) AllReadyH.nil
          go_simp
          obtain ⟨wa790, hwo790, hb790, so790⟩ : ∃ W2, (wa780).alloc (.cells #[.slice (some ⟨wa738.heap.size, 0, none⟩) 6 6, .slice g428 l1 c428, .slice (some ⟨w1.heap.size, 0, none⟩) 1 1, .slice g738 l2 c738, .slice g762 4 c762, .slice g780 4 c780] 55) = W2 ∧ Below (wa780).heap.size (wa780) W2 ∧ Src W2 (some ⟨wa780.heap.size, 0, none⟩) [.slice (some ⟨wa738.heap.size, 0, none⟩) 6 6, .slice g428 l1 c428, .slice (some ⟨w1.heap.size, 0, none⟩) 1 1, .slice g738 l2 c738, .slice g762 4 c762, .slice g780 4 c780] := ⟨_, rfl, (Below.refl _ _).alloc (Nat.le_refl _) _, src_vals (xs := [.slice (some ⟨wa738.heap.size, 0, none⟩) 6 6, .slice g428 l1 c428, .slice (some ⟨w1.heap.size, 0, none⟩) 1 1, .slice g738 l2 c738, .slice g762 4 c762, .slice g780 4 c780]) rfl⟩
          rw [hwo790]
          have B791 : Hid (Below w.heap.size w (wa790)) := (B781.out).trans (hb790.mono (B781.out).size)
          have X792 : Hid (Box (wa790) w.heap.size (bx5 F T cx sx a n c)) := X782.out.below hb790
          have T793 : Hid (HasHalf (wa790)) := T783.out.below hb790
          have Y794 : Hid (Src (wa790) (some ⟨w1.heap.size, 0, none⟩) (cellsB [n])) := Y784.out.below hb790
          have H795 : Hid (Src (wa790) g428 (cellsB hd)) := H785.out.below hb790
          have P796 : Hid (Src (wa790) g738 (cellsB pt)) := P786.out.below hb790
          have A797 : Hid (Src (wa790) (some ⟨wa738.heap.size, 0, none⟩) (cellsB [98, 97, 99, 107, 117, 112])) := A787.out.below hb790
          have N798 : Hid (Src (wa790) g762 (cellsB (numQ sx))) := N788.out.below hb790
          have K799 : Hid (Src (wa790) g780 (cellsB (numQ lk))) := K789.out.below hb790
          have O800 : Hid (Src (wa790) (some ⟨wa780.heap.size, 0, none⟩) [.slice (some ⟨wa738.heap.size, 0, none⟩) 6 6, .slice g428 l1 c428, .slice (some ⟨w1.heap.size, 0, none⟩) 1 1, .slice g738 l2 c738, .slice g762 4 c762, .slice g780 4 c780]) := so790
          clear hwo790 hb790 so790
          clear e0 e1 e2 e3 e4
          obtain ⟨e0, e1, e2, e3, e4⟩ := cells5 X792.out
          refine hK _ _ ⟨e0, e1, e2, e3, e4⟩ (fun hHeld => ?_)
          clear hK K
          refine wpAnyH_ready (rs := [14]) (by kernel_rfl) (by simp) ?_
          refine AllReadyH.cons rfl (fun K hK => ?_) AllReadyH.nil
          have HRC : Hid (∀ i, i < 6 → ∃ a c, ([.slice (some ⟨wa738.heap.size, 0, none⟩) 6 6, .slice g428 l1 c428, .slice (some ⟨w1.heap.size, 0, none⟩) 1 1, .slice g738 l2 c738, .slice g762 4 c762, .slice g780 4 c780] : List Value).getD i undef = .slice a ((fun i => [[98, 97, 99, 107, 117, 112], hd, [n], pt, numQ sx, numQ lk].getD i []) i).length c ∧ Src (wa790) a (cellsB ((fun i => [[98, 97, 99, 107, 117, 112], hd, [n], pt, numQ sx, numQ lk].getD i []) i))) := fun i hi => by
            match i, hi with
            | 0, _ => exact ⟨(some ⟨wa738.heap.size, 0, none⟩), 6, rfl, A797.out⟩
            | 1, _ => exact ⟨g428, c428, by show Value.slice g428 l1 c428 = Value.slice g428 (hd).length c428; rw [L1.out], H795.out⟩
            | 2, _ => exact ⟨(some ⟨w1.heap.size, 0, none⟩), 1, rfl, Y794.out⟩
            | 3, _ => exact ⟨g738, c738, by show Value.slice g738 l2 c738 = Value.slice g738 (pt).length c738; rw [L2.out], P796.out⟩
            | 4, _ => exact ⟨g762, c762, rfl, N798.out⟩
            | 5, _ => exact ⟨g780, c780, rfl, K799.out⟩
          have CC : Hid (Calls Tryz.prog 61 #[.slice (some ⟨wa780.heap.size, 0, none⟩) 6 6] (wa790) fun e w' => ∃ v, e = .returned v ∧ w'.ownsRow (wa790).heap.size 5 1 v tl (cellsB tot) ∧ Below (wa790).heap.size (wa790) w') := by
            have h9 := slicesConcat (some ⟨wa780.heap.size, 0, none⟩) 6 6 [.slice (some ⟨wa738.heap.size, 0, none⟩) 6 6, .slice g428 l1 c428, .slice (some ⟨w1.heap.size, 0, none⟩) 1 1, .slice g738 l2 c738, .slice g762 4 c762, .slice g780 4 c780] (fun i => [[98, 97, 99, 107, 117, 112], hd, [n], pt, numQ sx, numQ lk].getD i []) (wa790) rfl (by omega) (by rw [CT.out.1, CT.out.2]; omega) (by rw [CT.out.1, CT.out.2]; omega) O800.out HRC.out
            rw [CT.out.1, CT.out.2] at h9
            exact h9
          clear HRC
          go_simp
          refine CC.out.mono ?_
          rintro e wa801 ⟨va801, rfl, o801, hb801⟩
          obtain ⟨g801, c801, rfl, s801, _⟩ := own_src o801
          clear CC
          dsimp only
          have B802 : Hid (Below w.heap.size w (wa801)) := (B791.out).trans (hb801.mono (B791.out).size)
          have X803 : Hid (Box (wa801) w.heap.size (bx5 F T cx sx a n c)) := X792.out.below hb801
          have T804 : Hid (HasHalf (wa801)) := T793.out.below hb801
          have Y805 : Hid (Src (wa801) (some ⟨w1.heap.size, 0, none⟩) (cellsB [n])) := Y794.out.below hb801
          have H806 : Hid (Src (wa801) g428 (cellsB hd)) := H795.out.below hb801
          have P807 : Hid (Src (wa801) g738 (cellsB pt)) := P796.out.below hb801
          have A808 : Hid (Src (wa801) (some ⟨wa738.heap.size, 0, none⟩) (cellsB [98, 97, 99, 107, 117, 112])) := A797.out.below hb801
          have N809 : Hid (Src (wa801) g762 (cellsB (numQ sx))) := N798.out.below hb801
          have K810 : Hid (Src (wa801) g780 (cellsB (numQ lk))) := K799.out.below hb801
          have O811 : Hid (Src (wa801) (some ⟨wa780.heap.size, 0, none⟩) [.slice (some ⟨wa738.heap.size, 0, none⟩) 6 6, .slice g428 l1 c428, .slice (some ⟨w1.heap.size, 0, none⟩) 1 1, .slice g738 l2 c738, .slice g762 4 c762, .slice g780 4 c780]) := O800.out.below hb801
          have C812 : Hid (World.ownsRow (wa801) (w.heap.size + 1) 5 1 (.slice g801 tl c801) tl (cellsB tot)) := own_mono o801 (show w.heap.size + 1 ≤ _ from World.block_lt_of_cell? _ _ (X792.out 0 _ rfl).1)
          have Cs813 : Hid (Src (wa801) g801 (cellsB tot)) := s801
          clear o801 hb801 s801
          clear e0 e1 e2 e3 e4
          obtain ⟨e0, e1, e2, e3, e4⟩ := cells5 X803.out
          refine hK _ _ ⟨e0, e1, e2, e3, e4⟩ (fun hHeld => ?_)
          clear hK K
          refine wpAnyH_ready (rs := [15]) (by kernel_rfl) (by simp) ?_
          refine AllReadyH.cons rfl (fun K hK => ?_) AllReadyH.nil
          go_simp
          clear e0 e1 e2 e3 e4
          obtain ⟨e0, e1, e2, e3, e4⟩ := cells5 X803.out
          refine hK _ _ ⟨e0, e1, e2, e3, e4⟩ (fun hHeld => ?_)
          clear hK K
          refine wpAnyH_ready (rs := [16]) (by kernel_rfl) (by simp) ?_
          refine AllReadyH.cons rfl (fun K hK => ?_) AllReadyH.nil
          go_simp
          clear e0 e1 e2 e3 e4
          obtain ⟨e0, e1, e2, e3, e4⟩ := cells5 X803.out
          refine hK _ _ ⟨e0, e1, e2, e3, e4⟩ (fun hHeld => ?_)
          clear hK K
          refine wpAnyH_done (by kernel_rfl) ?_ _
          refine NoPanic.normal ?_
          clear e0 e1 e2 e3 e4
          clear hHeld
          have FIN : Hid ((wa801).ownsRow w.heap.size 5 1 (.slice g801 tl c801) tot.length (cellsB tot)) := by rw [CT.out.2]; exact own_mono C812.out (by omega)
          go_wp2_with fail
          go_ret2
          exact ⟨.slice g801 tl c801, tot, 0, rfl, FF.out, FIN.out, by rw [CT.out.2]; omega, B802.out⟩
        · skip
          go_simp
          refine (numberBytesV sx (((wa738).alloc mkO)) hx).mono ?_
          rintro e wa814 ⟨va814, rfl, o814, hb814⟩
          obtain ⟨g814, c814, rfl, s814, _⟩ := own_src o814
          dsimp only
          have B815 : Hid (Below w.heap.size w (wa814)) := (B745.out).trans (hb814.mono (B745.out).size)
          have X816 : Hid (Box (wa814) w.heap.size (bx5 F T cx sx a n c)) := X746.out.below hb814
          have T817 : Hid (HasHalf (wa814)) := T747.out.below hb814
          have Y818 : Hid (Src (wa814) (some ⟨w1.heap.size, 0, none⟩) (cellsB [n])) := Y748.out.below hb814
          have H819 : Hid (Src (wa814) g428 (cellsB hd)) := H749.out.below hb814
          have P820 : Hid (Src (wa814) g738 (cellsB pt)) := P750.out.below hb814
          have A821 : Hid (Src (wa814) (some ⟨wa738.heap.size, 0, none⟩) (cellsB [98, 97, 99, 107, 117, 112])) := A751.out.below hb814
          have Q822 : Hid ((wa814).heap[wa738.heap.size]? = some mkO) := blk_below (w := ((wa738).alloc mkO)) Q752.out hb814
          have N823 : Hid (Src (wa814) g814 (cellsB (numQ sx))) := s814
          clear o814 hb814 s814
          clear e0 e1 e2 e3 e4
          obtain ⟨e0, e1, e2, e3, e4⟩ := cells5 X816.out
          refine hK _ _ ⟨e0, e1, e2, e3, e4⟩ (fun hHeld => ?_)
          clear hK K
          refine wpAnyH_ready (rs := [1, 11]) (by kernel_rfl) (by simp) ?_
          refine AllReadyH.cons rfl (fun K hK => ?_) (AllReadyH.cons rfl (fun K hK => ?_) AllReadyH.nil)
          · skip
            obtain ⟨wa824, hcv824, fz824⟩ : ∃ W2, (convert 55 55 (.slice (some ⟨wa738.heap.size, 0, none⟩) 6 6)).run Tryz.prog (wa814) = .ok (.slice (some ⟨wa738.heap.size, 0, none⟩) 6 6) W2 ∧ Frozen (wa814) W2 (wa738.heap.size) := ⟨_, convert_const_at (wa814) (wa738.heap.size) _ 6 6 Q822.out, frozen_freeze _ _ _⟩
            have FZ824 : Hid (Frozen (wa814) wa824 (wa738.heap.size)) := fz824
            clear fz824
            go_simp
            have B825 : Hid (Below w.heap.size w (wa824)) := below_frozen (B815.out) FZ824.out (Nat.le_of_lt GG753.out)
            have X826 : Hid (Box (wa824) w.heap.size (bx5 F T cx sx a n c)) := box_frozen (w := wa814) X816.out FZ824.out (Nat.ne_of_lt GG753.out)
            have T827 : Hid (HasHalf (wa824)) := half_frozen (w := wa814) T817.out FZ824.out
            have Y828 : Hid (Src (wa824) (some ⟨w1.heap.size, 0, none⟩) (cellsB [n])) := src_frozen (w := wa814) Y818.out FZ824.out
            have H829 : Hid (Src (wa824) g428 (cellsB hd)) := src_frozen (w := wa814) H819.out FZ824.out
            have P830 : Hid (Src (wa824) g738 (cellsB pt)) := src_frozen (w := wa814) P820.out FZ824.out
            have A831 : Hid (Src (wa824) (some ⟨wa738.heap.size, 0, none⟩) (cellsB [98, 97, 99, 107, 117, 112])) := src_frozen (w := wa814) A821.out FZ824.out
            have N832 : Hid (Src (wa824) g814 (cellsB (numQ sx))) := src_frozen (w := wa814) N823.out FZ824.out
            clear hcv824
            clear e0 e1 e2 e3 e4
            obtain ⟨e0, e1, e2, e3, e4⟩ := cells5 X826.out
            refine hK _ _ ⟨e0, e1, e2, e3, e4⟩ (fun hHeld => ?_)
            clear hK K
            refine wpAnyH_ready (rs := [11]) (by kernel_rfl) (by simp) ?_
            refine AllReadyH.cons rfl (fun K hK => ?_) AllReadyH.nil
            go_simp
            refine (backupLink F T cx sx a n c M (wa824) hF hT hc hx HM.out hn HS.out (Src.below (w := w) HH.out (B825.out)) T827.out).mono ?_
            rw [LK.out]
            rintro e wa833 ⟨rfl, hb833⟩
            dsimp only
            have B834 : Hid (Below w.heap.size w (wa833)) := (B825.out).trans (hb833.mono (B825.out).size)
            have X835 : Hid (Box (wa833) w.heap.size (bx5 F T cx sx a n c)) := X826.out.below hb833
            have T836 : Hid (HasHalf (wa833)) := T827.out.below hb833
            have Y837 : Hid (Src (wa833) (some ⟨w1.heap.size, 0, none⟩) (cellsB [n])) := Y828.out.below hb833
            have H838 : Hid (Src (wa833) g428 (cellsB hd)) := H829.out.below hb833
            have P839 : Hid (Src (wa833) g738 (cellsB pt)) := P830.out.below hb833
            have A840 : Hid (Src (wa833) (some ⟨wa738.heap.size, 0, none⟩) (cellsB [98, 97, 99, 107, 117, 112])) := A831.out.below hb833
            have N841 : Hid (Src (wa833) g814 (cellsB (numQ sx))) := N832.out.below hb833
            clear hb833
            clear e0 e1 e2 e3 e4
            obtain ⟨e0, e1, e2, e3, e4⟩ := cells5 X835.out
            refine hK _ _ ⟨e0, e1, e2, e3, e4⟩ (fun hHeld => ?_)
            clear hK K
            refine wpAnyH_ready (rs := [12]) (by kernel_rfl) (by simp) ?_
            refine AllReadyH.cons rfl (fun K hK => ?_) AllReadyH.nil
            go_simp
            refine (numberBytesV lk (wa833) hlk2).mono ?_
            rintro e wa842 ⟨va842, rfl, o842, hb842⟩
            obtain ⟨g842, c842, rfl, s842, _⟩ := own_src o842
            dsimp only
            have B843 : Hid (Below w.heap.size w (wa842)) := (B834.out).trans (hb842.mono (B834.out).size)
            have X844 : Hid (Box (wa842) w.heap.size (bx5 F T cx sx a n c)) := X835.out.below hb842
            have T845 : Hid (HasHalf (wa842)) := T836.out.below hb842
            have Y846 : Hid (Src (wa842) (some ⟨w1.heap.size, 0, none⟩) (cellsB [n])) := Y837.out.below hb842
            have H847 : Hid (Src (wa842) g428 (cellsB hd)) := H838.out.below hb842
            have P848 : Hid (Src (wa842) g738 (cellsB pt)) := P839.out.below hb842
            have A849 : Hid (Src (wa842) (some ⟨wa738.heap.size, 0, none⟩) (cellsB [98, 97, 99, 107, 117, 112])) := A840.out.below hb842
            have N850 : Hid (Src (wa842) g814 (cellsB (numQ sx))) := N841.out.below hb842
            have K851 : Hid (Src (wa842) g842 (cellsB (numQ lk))) := s842
            clear o842 hb842 s842
            clear e0 e1 e2 e3 e4
            obtain ⟨e0, e1, e2, e3, e4⟩ := cells5 X844.out
            refine hK _ _ ⟨e0, e1, e2, e3, e4⟩ (fun hHeld => ?_)
            clear hK K
            refine wpAnyH_ready (rs := [13]) (by kernel_rfl) (by simp) ?_
            refine AllReadyH.cons rfl (fun K hK => ?_) AllReadyH.nil
            go_simp
            obtain ⟨wa852, hwo852, hb852, so852⟩ : ∃ W2, (wa842).alloc (.cells #[.slice (some ⟨wa738.heap.size, 0, none⟩) 6 6, .slice g428 l1 c428, .slice (some ⟨w1.heap.size, 0, none⟩) 1 1, .slice g738 l2 c738, .slice g814 4 c814, .slice g842 4 c842] 55) = W2 ∧ Below (wa842).heap.size (wa842) W2 ∧ Src W2 (some ⟨wa842.heap.size, 0, none⟩) [.slice (some ⟨wa738.heap.size, 0, none⟩) 6 6, .slice g428 l1 c428, .slice (some ⟨w1.heap.size, 0, none⟩) 1 1, .slice g738 l2 c738, .slice g814 4 c814, .slice g842 4 c842] := ⟨_, rfl, (Below.refl _ _).alloc (Nat.le_refl _) _, src_vals (xs := [.slice (some ⟨wa738.heap.size, 0, none⟩) 6 6, .slice g428 l1 c428, .slice (some ⟨w1.heap.size, 0, none⟩) 1 1, .slice g738 l2 c738, .slice g814 4 c814, .slice g842 4 c842]) rfl⟩
            rw [hwo852]
            have B853 : Hid (Below w.heap.size w (wa852)) := (B843.out).trans (hb852.mono (B843.out).size)
            have X854 : Hid (Box (wa852) w.heap.size (bx5 F T cx sx a n c)) := X844.out.below hb852
            have T855 : Hid (HasHalf (wa852)) := T845.out.below hb852
            have Y856 : Hid (Src (wa852) (some ⟨w1.heap.size, 0, none⟩) (cellsB [n])) := Y846.out.below hb852
            have H857 : Hid (Src (wa852) g428 (cellsB hd)) := H847.out.below hb852
            have P858 : Hid (Src (wa852) g738 (cellsB pt)) := P848.out.below hb852
            have A859 : Hid (Src (wa852) (some ⟨wa738.heap.size, 0, none⟩) (cellsB [98, 97, 99, 107, 117, 112])) := A849.out.below hb852
            have N860 : Hid (Src (wa852) g814 (cellsB (numQ sx))) := N850.out.below hb852
            have K861 : Hid (Src (wa852) g842 (cellsB (numQ lk))) := K851.out.below hb852
            have O862 : Hid (Src (wa852) (some ⟨wa842.heap.size, 0, none⟩) [.slice (some ⟨wa738.heap.size, 0, none⟩) 6 6, .slice g428 l1 c428, .slice (some ⟨w1.heap.size, 0, none⟩) 1 1, .slice g738 l2 c738, .slice g814 4 c814, .slice g842 4 c842]) := so852
            clear hwo852 hb852 so852
            clear e0 e1 e2 e3 e4
            obtain ⟨e0, e1, e2, e3, e4⟩ := cells5 X854.out
            refine hK _ _ ⟨e0, e1, e2, e3, e4⟩ (fun hHeld => ?_)
            clear hK K
            refine wpAnyH_ready (rs := [14]) (by kernel_rfl) (by simp) ?_
            refine AllReadyH.cons rfl (fun K hK => ?_) AllReadyH.nil
            have HRC : Hid (∀ i, i < 6 → ∃ a c, ([.slice (some ⟨wa738.heap.size, 0, none⟩) 6 6, .slice g428 l1 c428, .slice (some ⟨w1.heap.size, 0, none⟩) 1 1, .slice g738 l2 c738, .slice g814 4 c814, .slice g842 4 c842] : List Value).getD i undef = .slice a ((fun i => [[98, 97, 99, 107, 117, 112], hd, [n], pt, numQ sx, numQ lk].getD i []) i).length c ∧ Src (wa852) a (cellsB ((fun i => [[98, 97, 99, 107, 117, 112], hd, [n], pt, numQ sx, numQ lk].getD i []) i))) := fun i hi => by
              match i, hi with
              | 0, _ => exact ⟨(some ⟨wa738.heap.size, 0, none⟩), 6, rfl, A859.out⟩
              | 1, _ => exact ⟨g428, c428, by show Value.slice g428 l1 c428 = Value.slice g428 (hd).length c428; rw [L1.out], H857.out⟩
              | 2, _ => exact ⟨(some ⟨w1.heap.size, 0, none⟩), 1, rfl, Y856.out⟩
              | 3, _ => exact ⟨g738, c738, by show Value.slice g738 l2 c738 = Value.slice g738 (pt).length c738; rw [L2.out], P858.out⟩
              | 4, _ => exact ⟨g814, c814, rfl, N860.out⟩
              | 5, _ => exact ⟨g842, c842, rfl, K861.out⟩
            have CC : Hid (Calls Tryz.prog 61 #[.slice (some ⟨wa842.heap.size, 0, none⟩) 6 6] (wa852) fun e w' => ∃ v, e = .returned v ∧ w'.ownsRow (wa852).heap.size 5 1 v tl (cellsB tot) ∧ Below (wa852).heap.size (wa852) w') := by
              have h9 := slicesConcat (some ⟨wa842.heap.size, 0, none⟩) 6 6 [.slice (some ⟨wa738.heap.size, 0, none⟩) 6 6, .slice g428 l1 c428, .slice (some ⟨w1.heap.size, 0, none⟩) 1 1, .slice g738 l2 c738, .slice g814 4 c814, .slice g842 4 c842] (fun i => [[98, 97, 99, 107, 117, 112], hd, [n], pt, numQ sx, numQ lk].getD i []) (wa852) rfl (by omega) (by rw [CT.out.1, CT.out.2]; omega) (by rw [CT.out.1, CT.out.2]; omega) O862.out HRC.out
              rw [CT.out.1, CT.out.2] at h9
              exact h9
            clear HRC
            go_simp
            refine CC.out.mono ?_
            rintro e wa863 ⟨va863, rfl, o863, hb863⟩
            obtain ⟨g863, c863, rfl, s863, _⟩ := own_src o863
            clear CC
            dsimp only
            have B864 : Hid (Below w.heap.size w (wa863)) := (B853.out).trans (hb863.mono (B853.out).size)
            have X865 : Hid (Box (wa863) w.heap.size (bx5 F T cx sx a n c)) := X854.out.below hb863
            have T866 : Hid (HasHalf (wa863)) := T855.out.below hb863
            have Y867 : Hid (Src (wa863) (some ⟨w1.heap.size, 0, none⟩) (cellsB [n])) := Y856.out.below hb863
            have H868 : Hid (Src (wa863) g428 (cellsB hd)) := H857.out.below hb863
            have P869 : Hid (Src (wa863) g738 (cellsB pt)) := P858.out.below hb863
            have A870 : Hid (Src (wa863) (some ⟨wa738.heap.size, 0, none⟩) (cellsB [98, 97, 99, 107, 117, 112])) := A859.out.below hb863
            have N871 : Hid (Src (wa863) g814 (cellsB (numQ sx))) := N860.out.below hb863
            have K872 : Hid (Src (wa863) g842 (cellsB (numQ lk))) := K861.out.below hb863
            have O873 : Hid (Src (wa863) (some ⟨wa842.heap.size, 0, none⟩) [.slice (some ⟨wa738.heap.size, 0, none⟩) 6 6, .slice g428 l1 c428, .slice (some ⟨w1.heap.size, 0, none⟩) 1 1, .slice g738 l2 c738, .slice g814 4 c814, .slice g842 4 c842]) := O862.out.below hb863
            have C874 : Hid (World.ownsRow (wa863) (w.heap.size + 1) 5 1 (.slice g863 tl c863) tl (cellsB tot)) := own_mono o863 (show w.heap.size + 1 ≤ _ from World.block_lt_of_cell? _ _ (X854.out 0 _ rfl).1)
            have Cs875 : Hid (Src (wa863) g863 (cellsB tot)) := s863
            clear o863 hb863 s863
            clear e0 e1 e2 e3 e4
            obtain ⟨e0, e1, e2, e3, e4⟩ := cells5 X865.out
            refine hK _ _ ⟨e0, e1, e2, e3, e4⟩ (fun hHeld => ?_)
            clear hK K
            refine wpAnyH_ready (rs := [15]) (by kernel_rfl) (by simp) ?_
            refine AllReadyH.cons rfl (fun K hK => ?_) AllReadyH.nil
            go_simp
            clear e0 e1 e2 e3 e4
            obtain ⟨e0, e1, e2, e3, e4⟩ := cells5 X865.out
            refine hK _ _ ⟨e0, e1, e2, e3, e4⟩ (fun hHeld => ?_)
            clear hK K
            refine wpAnyH_ready (rs := [16]) (by kernel_rfl) (by simp) ?_
            refine AllReadyH.cons rfl (fun K hK => ?_) AllReadyH.nil
            go_simp
            clear e0 e1 e2 e3 e4
            obtain ⟨e0, e1, e2, e3, e4⟩ := cells5 X865.out
            refine hK _ _ ⟨e0, e1, e2, e3, e4⟩ (fun hHeld => ?_)
            clear hK K
            refine wpAnyH_done (by kernel_rfl) ?_ _
            refine NoPanic.normal ?_
            clear e0 e1 e2 e3 e4
            clear hHeld
            have FIN : Hid ((wa863).ownsRow w.heap.size 5 1 (.slice g863 tl c863) tot.length (cellsB tot)) := by rw [CT.out.2]; exact own_mono C874.out (by omega)
            go_wp2_with fail
            go_ret2
            exact ⟨.slice g863 tl c863, tot, 0, rfl, FF.out, FIN.out, by rw [CT.out.2]; omega, B864.out⟩
          · skip
            go_simp
            refine (backupLink F T cx sx a n c M (wa814) hF hT hc hx HM.out hn HS.out (Src.below (w := w) HH.out (B815.out)) T817.out).mono ?_
            rw [LK.out]
            rintro e wa876 ⟨rfl, hb876⟩
            dsimp only
            have B877 : Hid (Below w.heap.size w (wa876)) := (B815.out).trans (hb876.mono (B815.out).size)
            have X878 : Hid (Box (wa876) w.heap.size (bx5 F T cx sx a n c)) := X816.out.below hb876
            have T879 : Hid (HasHalf (wa876)) := T817.out.below hb876
            have Y880 : Hid (Src (wa876) (some ⟨w1.heap.size, 0, none⟩) (cellsB [n])) := Y818.out.below hb876
            have H881 : Hid (Src (wa876) g428 (cellsB hd)) := H819.out.below hb876
            have P882 : Hid (Src (wa876) g738 (cellsB pt)) := P820.out.below hb876
            have A883 : Hid (Src (wa876) (some ⟨wa738.heap.size, 0, none⟩) (cellsB [98, 97, 99, 107, 117, 112])) := A821.out.below hb876
            have Q884 : Hid ((wa876).heap[wa738.heap.size]? = some mkO) := blk_below (w := wa814) Q822.out hb876
            have N885 : Hid (Src (wa876) g814 (cellsB (numQ sx))) := N823.out.below hb876
            clear hb876
            clear e0 e1 e2 e3 e4
            obtain ⟨e0, e1, e2, e3, e4⟩ := cells5 X878.out
            refine hK _ _ ⟨e0, e1, e2, e3, e4⟩ (fun hHeld => ?_)
            clear hK K
            refine wpAnyH_ready (rs := [1, 12]) (by kernel_rfl) (by simp) ?_
            refine AllReadyH.cons rfl (fun K hK => ?_) (AllReadyH.cons rfl (fun K hK => ?_) AllReadyH.nil)
            · skip
              obtain ⟨wa886, hcv886, fz886⟩ : ∃ W2, (convert 55 55 (.slice (some ⟨wa738.heap.size, 0, none⟩) 6 6)).run Tryz.prog (wa876) = .ok (.slice (some ⟨wa738.heap.size, 0, none⟩) 6 6) W2 ∧ Frozen (wa876) W2 (wa738.heap.size) := ⟨_, convert_const_at (wa876) (wa738.heap.size) _ 6 6 Q884.out, frozen_freeze _ _ _⟩
              have FZ886 : Hid (Frozen (wa876) wa886 (wa738.heap.size)) := fz886
              clear fz886
              go_simp
              have B887 : Hid (Below w.heap.size w (wa886)) := below_frozen (B877.out) FZ886.out (Nat.le_of_lt GG753.out)
              have X888 : Hid (Box (wa886) w.heap.size (bx5 F T cx sx a n c)) := box_frozen (w := wa876) X878.out FZ886.out (Nat.ne_of_lt GG753.out)
              have T889 : Hid (HasHalf (wa886)) := half_frozen (w := wa876) T879.out FZ886.out
              have Y890 : Hid (Src (wa886) (some ⟨w1.heap.size, 0, none⟩) (cellsB [n])) := src_frozen (w := wa876) Y880.out FZ886.out
              have H891 : Hid (Src (wa886) g428 (cellsB hd)) := src_frozen (w := wa876) H881.out FZ886.out
              have P892 : Hid (Src (wa886) g738 (cellsB pt)) := src_frozen (w := wa876) P882.out FZ886.out
              have A893 : Hid (Src (wa886) (some ⟨wa738.heap.size, 0, none⟩) (cellsB [98, 97, 99, 107, 117, 112])) := src_frozen (w := wa876) A883.out FZ886.out
              have N894 : Hid (Src (wa886) g814 (cellsB (numQ sx))) := src_frozen (w := wa876) N885.out FZ886.out
              clear hcv886
              clear e0 e1 e2 e3 e4
              obtain ⟨e0, e1, e2, e3, e4⟩ := cells5 X888.out
              refine hK _ _ ⟨e0, e1, e2, e3, e4⟩ (fun hHeld => ?_)
              clear hK K
              refine wpAnyH_ready (rs := [12]) (by kernel_rfl) (by simp) ?_
              refine AllReadyH.cons rfl (fun K hK => ?_) AllReadyH.nil
              go_simp
              refine (numberBytesV lk (wa886) hlk2).mono ?_
              rintro e wa895 ⟨va895, rfl, o895, hb895⟩
              obtain ⟨g895, c895, rfl, s895, _⟩ := own_src o895
              dsimp only
              have B896 : Hid (Below w.heap.size w (wa895)) := (B887.out).trans (hb895.mono (B887.out).size)
              have X897 : Hid (Box (wa895) w.heap.size (bx5 F T cx sx a n c)) := X888.out.below hb895
              have T898 : Hid (HasHalf (wa895)) := T889.out.below hb895
              have Y899 : Hid (Src (wa895) (some ⟨w1.heap.size, 0, none⟩) (cellsB [n])) := Y890.out.below hb895
              have H900 : Hid (Src (wa895) g428 (cellsB hd)) := H891.out.below hb895
              have P901 : Hid (Src (wa895) g738 (cellsB pt)) := P892.out.below hb895
              have A902 : Hid (Src (wa895) (some ⟨wa738.heap.size, 0, none⟩) (cellsB [98, 97, 99, 107, 117, 112])) := A893.out.below hb895
              have N903 : Hid (Src (wa895) g814 (cellsB (numQ sx))) := N894.out.below hb895
              have K904 : Hid (Src (wa895) g895 (cellsB (numQ lk))) := s895
              clear o895 hb895 s895
              clear e0 e1 e2 e3 e4
              obtain ⟨e0, e1, e2, e3, e4⟩ := cells5 X897.out
              refine hK _ _ ⟨e0, e1, e2, e3, e4⟩ (fun hHeld => ?_)
              clear hK K
              refine wpAnyH_ready (rs := [13]) (by kernel_rfl) (by simp) ?_
              refine AllReadyH.cons rfl (fun K hK => ?_) AllReadyH.nil
              go_simp
              obtain ⟨wa905, hwo905, hb905, so905⟩ : ∃ W2, (wa895).alloc (.cells #[.slice (some ⟨wa738.heap.size, 0, none⟩) 6 6, .slice g428 l1 c428, .slice (some ⟨w1.heap.size, 0, none⟩) 1 1, .slice g738 l2 c738, .slice g814 4 c814, .slice g895 4 c895] 55) = W2 ∧ Below (wa895).heap.size (wa895) W2 ∧ Src W2 (some ⟨wa895.heap.size, 0, none⟩) [.slice (some ⟨wa738.heap.size, 0, none⟩) 6 6, .slice g428 l1 c428, .slice (some ⟨w1.heap.size, 0, none⟩) 1 1, .slice g738 l2 c738, .slice g814 4 c814, .slice g895 4 c895] := ⟨_, rfl, (Below.refl _ _).alloc (Nat.le_refl _) _, src_vals (xs := [.slice (some ⟨wa738.heap.size, 0, none⟩) 6 6, .slice g428 l1 c428, .slice (some ⟨w1.heap.size, 0, none⟩) 1 1, .slice g738 l2 c738, .slice g814 4 c814, .slice g895 4 c895]) rfl⟩
              rw [hwo905]
              have B906 : Hid (Below w.heap.size w (wa905)) := (B896.out).trans (hb905.mono (B896.out).size)
              have X907 : Hid (Box (wa905) w.heap.size (bx5 F T cx sx a n c)) := X897.out.below hb905
              have T908 : Hid (HasHalf (wa905)) := T898.out.below hb905
              have Y909 : Hid (Src (wa905) (some ⟨w1.heap.size, 0, none⟩) (cellsB [n])) := Y899.out.below hb905
              have H910 : Hid (Src (wa905) g428 (cellsB hd)) := H900.out.below hb905
              have P911 : Hid (Src (wa905) g738 (cellsB pt)) := P901.out.below hb905
              have A912 : Hid (Src (wa905) (some ⟨wa738.heap.size, 0, none⟩) (cellsB [98, 97, 99, 107, 117, 112])) := A902.out.below hb905
              have N913 : Hid (Src (wa905) g814 (cellsB (numQ sx))) := N903.out.below hb905
              have K914 : Hid (Src (wa905) g895 (cellsB (numQ lk))) := K904.out.below hb905
              have O915 : Hid (Src (wa905) (some ⟨wa895.heap.size, 0, none⟩) [.slice (some ⟨wa738.heap.size, 0, none⟩) 6 6, .slice g428 l1 c428, .slice (some ⟨w1.heap.size, 0, none⟩) 1 1, .slice g738 l2 c738, .slice g814 4 c814, .slice g895 4 c895]) := so905
              clear hwo905 hb905 so905
              clear e0 e1 e2 e3 e4
              obtain ⟨e0, e1, e2, e3, e4⟩ := cells5 X907.out
              refine hK _ _ ⟨e0, e1, e2, e3, e4⟩ (fun hHeld => ?_)
              clear hK K
              refine wpAnyH_ready (rs := [14]) (by kernel_rfl) (by simp) ?_
              refine AllReadyH.cons rfl (fun K hK => ?_) AllReadyH.nil
              have HRC : Hid (∀ i, i < 6 → ∃ a c, ([.slice (some ⟨wa738.heap.size, 0, none⟩) 6 6, .slice g428 l1 c428, .slice (some ⟨w1.heap.size, 0, none⟩) 1 1, .slice g738 l2 c738, .slice g814 4 c814, .slice g895 4 c895] : List Value).getD i undef = .slice a ((fun i => [[98, 97, 99, 107, 117, 112], hd, [n], pt, numQ sx, numQ lk].getD i []) i).length c ∧ Src (wa905) a (cellsB ((fun i => [[98, 97, 99, 107, 117, 112], hd, [n], pt, numQ sx, numQ lk].getD i []) i))) := fun i hi => by
                match i, hi with
                | 0, _ => exact ⟨(some ⟨wa738.heap.size, 0, none⟩), 6, rfl, A912.out⟩
                | 1, _ => exact ⟨g428, c428, by show Value.slice g428 l1 c428 = Value.slice g428 (hd).length c428; rw [L1.out], H910.out⟩
                | 2, _ => exact ⟨(some ⟨w1.heap.size, 0, none⟩), 1, rfl, Y909.out⟩
                | 3, _ => exact ⟨g738, c738, by show Value.slice g738 l2 c738 = Value.slice g738 (pt).length c738; rw [L2.out], P911.out⟩
                | 4, _ => exact ⟨g814, c814, rfl, N913.out⟩
                | 5, _ => exact ⟨g895, c895, rfl, K914.out⟩
              have CC : Hid (Calls Tryz.prog 61 #[.slice (some ⟨wa895.heap.size, 0, none⟩) 6 6] (wa905) fun e w' => ∃ v, e = .returned v ∧ w'.ownsRow (wa905).heap.size 5 1 v tl (cellsB tot) ∧ Below (wa905).heap.size (wa905) w') := by
                have h9 := slicesConcat (some ⟨wa895.heap.size, 0, none⟩) 6 6 [.slice (some ⟨wa738.heap.size, 0, none⟩) 6 6, .slice g428 l1 c428, .slice (some ⟨w1.heap.size, 0, none⟩) 1 1, .slice g738 l2 c738, .slice g814 4 c814, .slice g895 4 c895] (fun i => [[98, 97, 99, 107, 117, 112], hd, [n], pt, numQ sx, numQ lk].getD i []) (wa905) rfl (by omega) (by rw [CT.out.1, CT.out.2]; omega) (by rw [CT.out.1, CT.out.2]; omega) O915.out HRC.out
                rw [CT.out.1, CT.out.2] at h9
                exact h9
              clear HRC
              go_simp
              refine CC.out.mono ?_
              rintro e wa916 ⟨va916, rfl, o916, hb916⟩
              obtain ⟨g916, c916, rfl, s916, _⟩ := own_src o916
              clear CC
              dsimp only
              have B917 : Hid (Below w.heap.size w (wa916)) := (B906.out).trans (hb916.mono (B906.out).size)
              have X918 : Hid (Box (wa916) w.heap.size (bx5 F T cx sx a n c)) := X907.out.below hb916
              have T919 : Hid (HasHalf (wa916)) := T908.out.below hb916
              have Y920 : Hid (Src (wa916) (some ⟨w1.heap.size, 0, none⟩) (cellsB [n])) := Y909.out.below hb916
              have H921 : Hid (Src (wa916) g428 (cellsB hd)) := H910.out.below hb916
              have P922 : Hid (Src (wa916) g738 (cellsB pt)) := P911.out.below hb916
              have A923 : Hid (Src (wa916) (some ⟨wa738.heap.size, 0, none⟩) (cellsB [98, 97, 99, 107, 117, 112])) := A912.out.below hb916
              have N924 : Hid (Src (wa916) g814 (cellsB (numQ sx))) := N913.out.below hb916
              have K925 : Hid (Src (wa916) g895 (cellsB (numQ lk))) := K914.out.below hb916
              have O926 : Hid (Src (wa916) (some ⟨wa895.heap.size, 0, none⟩) [.slice (some ⟨wa738.heap.size, 0, none⟩) 6 6, .slice g428 l1 c428, .slice (some ⟨w1.heap.size, 0, none⟩) 1 1, .slice g738 l2 c738, .slice g814 4 c814, .slice g895 4 c895]) := O915.out.below hb916
              have C927 : Hid (World.ownsRow (wa916) (w.heap.size + 1) 5 1 (.slice g916 tl c916) tl (cellsB tot)) := own_mono o916 (show w.heap.size + 1 ≤ _ from World.block_lt_of_cell? _ _ (X907.out 0 _ rfl).1)
              have Cs928 : Hid (Src (wa916) g916 (cellsB tot)) := s916
              clear o916 hb916 s916
              clear e0 e1 e2 e3 e4
              obtain ⟨e0, e1, e2, e3, e4⟩ := cells5 X918.out
              refine hK _ _ ⟨e0, e1, e2, e3, e4⟩ (fun hHeld => ?_)
              clear hK K
              refine wpAnyH_ready (rs := [15]) (by kernel_rfl) (by simp) ?_
              refine AllReadyH.cons rfl (fun K hK => ?_) AllReadyH.nil
              go_simp
              clear e0 e1 e2 e3 e4
              obtain ⟨e0, e1, e2, e3, e4⟩ := cells5 X918.out
              refine hK _ _ ⟨e0, e1, e2, e3, e4⟩ (fun hHeld => ?_)
              clear hK K
              refine wpAnyH_ready (rs := [16]) (by kernel_rfl) (by simp) ?_
              refine AllReadyH.cons rfl (fun K hK => ?_) AllReadyH.nil
              go_simp
              clear e0 e1 e2 e3 e4
              obtain ⟨e0, e1, e2, e3, e4⟩ := cells5 X918.out
              refine hK _ _ ⟨e0, e1, e2, e3, e4⟩ (fun hHeld => ?_)
              clear hK K
              refine wpAnyH_done (by kernel_rfl) ?_ _
              refine NoPanic.normal ?_
              clear e0 e1 e2 e3 e4
              clear hHeld
              have FIN : Hid ((wa916).ownsRow w.heap.size 5 1 (.slice g916 tl c916) tot.length (cellsB tot)) := by rw [CT.out.2]; exact own_mono C927.out (by omega)
              go_wp2_with fail
              go_ret2
              exact ⟨.slice g916 tl c916, tot, 0, rfl, FF.out, FIN.out, by rw [CT.out.2]; omega, B917.out⟩
            · skip
              go_simp
              refine (numberBytesV lk (wa876) hlk2).mono ?_
              rintro e wa929 ⟨va929, rfl, o929, hb929⟩
              obtain ⟨g929, c929, rfl, s929, _⟩ := own_src o929
              dsimp only
              have B930 : Hid (Below w.heap.size w (wa929)) := (B877.out).trans (hb929.mono (B877.out).size)
              have X931 : Hid (Box (wa929) w.heap.size (bx5 F T cx sx a n c)) := X878.out.below hb929
              have T932 : Hid (HasHalf (wa929)) := T879.out.below hb929
              have Y933 : Hid (Src (wa929) (some ⟨w1.heap.size, 0, none⟩) (cellsB [n])) := Y880.out.below hb929
              have H934 : Hid (Src (wa929) g428 (cellsB hd)) := H881.out.below hb929
              have P935 : Hid (Src (wa929) g738 (cellsB pt)) := P882.out.below hb929
              have A936 : Hid (Src (wa929) (some ⟨wa738.heap.size, 0, none⟩) (cellsB [98, 97, 99, 107, 117, 112])) := A883.out.below hb929
              have Q937 : Hid ((wa929).heap[wa738.heap.size]? = some mkO) := blk_below (w := wa876) Q884.out hb929
              have N938 : Hid (Src (wa929) g814 (cellsB (numQ sx))) := N885.out.below hb929
              have K939 : Hid (Src (wa929) g929 (cellsB (numQ lk))) := s929
              clear o929 hb929 s929
              clear e0 e1 e2 e3 e4
              obtain ⟨e0, e1, e2, e3, e4⟩ := cells5 X931.out
              refine hK _ _ ⟨e0, e1, e2, e3, e4⟩ (fun hHeld => ?_)
              clear hK K
              refine wpAnyH_ready (rs := [1]) (by kernel_rfl) (by simp) ?_
              refine AllReadyH.cons rfl (fun K hK => ?_) AllReadyH.nil
              obtain ⟨wa940, hcv940, fz940⟩ : ∃ W2, (convert 55 55 (.slice (some ⟨wa738.heap.size, 0, none⟩) 6 6)).run Tryz.prog (wa929) = .ok (.slice (some ⟨wa738.heap.size, 0, none⟩) 6 6) W2 ∧ Frozen (wa929) W2 (wa738.heap.size) := ⟨_, convert_const_at (wa929) (wa738.heap.size) _ 6 6 Q937.out, frozen_freeze _ _ _⟩
              have FZ940 : Hid (Frozen (wa929) wa940 (wa738.heap.size)) := fz940
              clear fz940
              go_simp
              have B941 : Hid (Below w.heap.size w (wa940)) := below_frozen (B930.out) FZ940.out (Nat.le_of_lt GG753.out)
              have X942 : Hid (Box (wa940) w.heap.size (bx5 F T cx sx a n c)) := box_frozen (w := wa929) X931.out FZ940.out (Nat.ne_of_lt GG753.out)
              have T943 : Hid (HasHalf (wa940)) := half_frozen (w := wa929) T932.out FZ940.out
              have Y944 : Hid (Src (wa940) (some ⟨w1.heap.size, 0, none⟩) (cellsB [n])) := src_frozen (w := wa929) Y933.out FZ940.out
              have H945 : Hid (Src (wa940) g428 (cellsB hd)) := src_frozen (w := wa929) H934.out FZ940.out
              have P946 : Hid (Src (wa940) g738 (cellsB pt)) := src_frozen (w := wa929) P935.out FZ940.out
              have A947 : Hid (Src (wa940) (some ⟨wa738.heap.size, 0, none⟩) (cellsB [98, 97, 99, 107, 117, 112])) := src_frozen (w := wa929) A936.out FZ940.out
              have N948 : Hid (Src (wa940) g814 (cellsB (numQ sx))) := src_frozen (w := wa929) N938.out FZ940.out
              have K949 : Hid (Src (wa940) g929 (cellsB (numQ lk))) := src_frozen (w := wa929) K939.out FZ940.out
              clear hcv940
              clear e0 e1 e2 e3 e4
              obtain ⟨e0, e1, e2, e3, e4⟩ := cells5 X942.out
              refine hK _ _ ⟨e0, e1, e2, e3, e4⟩ (fun hHeld => ?_)
              clear hK K
              refine wpAnyH_ready (rs := [13]) (by kernel_rfl) (by simp) ?_
              refine AllReadyH.cons rfl (fun K hK => ?_) AllReadyH.nil
              go_simp
              obtain ⟨wa950, hwo950, hb950, so950⟩ : ∃ W2, (wa940).alloc (.cells #[.slice (some ⟨wa738.heap.size, 0, none⟩) 6 6, .slice g428 l1 c428, .slice (some ⟨w1.heap.size, 0, none⟩) 1 1, .slice g738 l2 c738, .slice g814 4 c814, .slice g929 4 c929] 55) = W2 ∧ Below (wa940).heap.size (wa940) W2 ∧ Src W2 (some ⟨wa940.heap.size, 0, none⟩) [.slice (some ⟨wa738.heap.size, 0, none⟩) 6 6, .slice g428 l1 c428, .slice (some ⟨w1.heap.size, 0, none⟩) 1 1, .slice g738 l2 c738, .slice g814 4 c814, .slice g929 4 c929] := ⟨_, rfl, (Below.refl _ _).alloc (Nat.le_refl _) _, src_vals (xs := [.slice (some ⟨wa738.heap.size, 0, none⟩) 6 6, .slice g428 l1 c428, .slice (some ⟨w1.heap.size, 0, none⟩) 1 1, .slice g738 l2 c738, .slice g814 4 c814, .slice g929 4 c929]) rfl⟩
              rw [hwo950]
              have B951 : Hid (Below w.heap.size w (wa950)) := (B941.out).trans (hb950.mono (B941.out).size)
              have X952 : Hid (Box (wa950) w.heap.size (bx5 F T cx sx a n c)) := X942.out.below hb950
              have T953 : Hid (HasHalf (wa950)) := T943.out.below hb950
              have Y954 : Hid (Src (wa950) (some ⟨w1.heap.size, 0, none⟩) (cellsB [n])) := Y944.out.below hb950
              have H955 : Hid (Src (wa950) g428 (cellsB hd)) := H945.out.below hb950
              have P956 : Hid (Src (wa950) g738 (cellsB pt)) := P946.out.below hb950
              have A957 : Hid (Src (wa950) (some ⟨wa738.heap.size, 0, none⟩) (cellsB [98, 97, 99, 107, 117, 112])) := A947.out.below hb950
              have N958 : Hid (Src (wa950) g814 (cellsB (numQ sx))) := N948.out.below hb950
              have K959 : Hid (Src (wa950) g929 (cellsB (numQ lk))) := K949.out.below hb950
              have O960 : Hid (Src (wa950) (some ⟨wa940.heap.size, 0, none⟩) [.slice (some ⟨wa738.heap.size, 0, none⟩) 6 6, .slice g428 l1 c428, .slice (some ⟨w1.heap.size, 0, none⟩) 1 1, .slice g738 l2 c738, .slice g814 4 c814, .slice g929 4 c929]) := so950
              clear hwo950 hb950 so950
              clear e0 e1 e2 e3 e4
              obtain ⟨e0, e1, e2, e3, e4⟩ := cells5 X952.out
              refine hK _ _ ⟨e0, e1, e2, e3, e4⟩ (fun hHeld => ?_)
              clear hK K
              refine wpAnyH_ready (rs := [14]) (by kernel_rfl) (by simp) ?_
              refine AllReadyH.cons rfl (fun K hK => ?_) AllReadyH.nil
              have HRC : Hid (∀ i, i < 6 → ∃ a c, ([.slice (some ⟨wa738.heap.size, 0, none⟩) 6 6, .slice g428 l1 c428, .slice (some ⟨w1.heap.size, 0, none⟩) 1 1, .slice g738 l2 c738, .slice g814 4 c814, .slice g929 4 c929] : List Value).getD i undef = .slice a ((fun i => [[98, 97, 99, 107, 117, 112], hd, [n], pt, numQ sx, numQ lk].getD i []) i).length c ∧ Src (wa950) a (cellsB ((fun i => [[98, 97, 99, 107, 117, 112], hd, [n], pt, numQ sx, numQ lk].getD i []) i))) := fun i hi => by
                match i, hi with
                | 0, _ => exact ⟨(some ⟨wa738.heap.size, 0, none⟩), 6, rfl, A957.out⟩
                | 1, _ => exact ⟨g428, c428, by show Value.slice g428 l1 c428 = Value.slice g428 (hd).length c428; rw [L1.out], H955.out⟩
                | 2, _ => exact ⟨(some ⟨w1.heap.size, 0, none⟩), 1, rfl, Y954.out⟩
                | 3, _ => exact ⟨g738, c738, by show Value.slice g738 l2 c738 = Value.slice g738 (pt).length c738; rw [L2.out], P956.out⟩
                | 4, _ => exact ⟨g814, c814, rfl, N958.out⟩
                | 5, _ => exact ⟨g929, c929, rfl, K959.out⟩
              have CC : Hid (Calls Tryz.prog 61 #[.slice (some ⟨wa940.heap.size, 0, none⟩) 6 6] (wa950) fun e w' => ∃ v, e = .returned v ∧ w'.ownsRow (wa950).heap.size 5 1 v tl (cellsB tot) ∧ Below (wa950).heap.size (wa950) w') := by
                have h9 := slicesConcat (some ⟨wa940.heap.size, 0, none⟩) 6 6 [.slice (some ⟨wa738.heap.size, 0, none⟩) 6 6, .slice g428 l1 c428, .slice (some ⟨w1.heap.size, 0, none⟩) 1 1, .slice g738 l2 c738, .slice g814 4 c814, .slice g929 4 c929] (fun i => [[98, 97, 99, 107, 117, 112], hd, [n], pt, numQ sx, numQ lk].getD i []) (wa950) rfl (by omega) (by rw [CT.out.1, CT.out.2]; omega) (by rw [CT.out.1, CT.out.2]; omega) O960.out HRC.out
                rw [CT.out.1, CT.out.2] at h9
                exact h9
              clear HRC
              go_simp
              refine CC.out.mono ?_
              rintro e wa961 ⟨va961, rfl, o961, hb961⟩
              obtain ⟨g961, c961, rfl, s961, _⟩ := own_src o961
              clear CC
              dsimp only
              have B962 : Hid (Below w.heap.size w (wa961)) := (B951.out).trans (hb961.mono (B951.out).size)
              have X963 : Hid (Box (wa961) w.heap.size (bx5 F T cx sx a n c)) := X952.out.below hb961
              have T964 : Hid (HasHalf (wa961)) := T953.out.below hb961
              have Y965 : Hid (Src (wa961) (some ⟨w1.heap.size, 0, none⟩) (cellsB [n])) := Y954.out.below hb961
              have H966 : Hid (Src (wa961) g428 (cellsB hd)) := H955.out.below hb961
              have P967 : Hid (Src (wa961) g738 (cellsB pt)) := P956.out.below hb961
              have A968 : Hid (Src (wa961) (some ⟨wa738.heap.size, 0, none⟩) (cellsB [98, 97, 99, 107, 117, 112])) := A957.out.below hb961
              have N969 : Hid (Src (wa961) g814 (cellsB (numQ sx))) := N958.out.below hb961
              have K970 : Hid (Src (wa961) g929 (cellsB (numQ lk))) := K959.out.below hb961
              have O971 : Hid (Src (wa961) (some ⟨wa940.heap.size, 0, none⟩) [.slice (some ⟨wa738.heap.size, 0, none⟩) 6 6, .slice g428 l1 c428, .slice (some ⟨w1.heap.size, 0, none⟩) 1 1, .slice g738 l2 c738, .slice g814 4 c814, .slice g929 4 c929]) := O960.out.below hb961
              have C972 : Hid (World.ownsRow (wa961) (w.heap.size + 1) 5 1 (.slice g961 tl c961) tl (cellsB tot)) := own_mono o961 (show w.heap.size + 1 ≤ _ from World.block_lt_of_cell? _ _ (X952.out 0 _ rfl).1)
              have Cs973 : Hid (Src (wa961) g961 (cellsB tot)) := s961
              clear o961 hb961 s961
              clear e0 e1 e2 e3 e4
              obtain ⟨e0, e1, e2, e3, e4⟩ := cells5 X963.out
              refine hK _ _ ⟨e0, e1, e2, e3, e4⟩ (fun hHeld => ?_)
              clear hK K
              refine wpAnyH_ready (rs := [15]) (by kernel_rfl) (by simp) ?_
              refine AllReadyH.cons rfl (fun K hK => ?_) AllReadyH.nil
              go_simp
              clear e0 e1 e2 e3 e4
              obtain ⟨e0, e1, e2, e3, e4⟩ := cells5 X963.out
              refine hK _ _ ⟨e0, e1, e2, e3, e4⟩ (fun hHeld => ?_)
              clear hK K
              refine wpAnyH_ready (rs := [16]) (by kernel_rfl) (by simp) ?_
              refine AllReadyH.cons rfl (fun K hK => ?_) AllReadyH.nil
              go_simp
              clear e0 e1 e2 e3 e4
              obtain ⟨e0, e1, e2, e3, e4⟩ := cells5 X963.out
              refine hK _ _ ⟨e0, e1, e2, e3, e4⟩ (fun hHeld => ?_)
              clear hK K
              refine wpAnyH_done (by kernel_rfl) ?_ _
              refine NoPanic.normal ?_
              clear e0 e1 e2 e3 e4
              clear hHeld
              have FIN : Hid ((wa961).ownsRow w.heap.size 5 1 (.slice g961 tl c961) tot.length (cellsB tot)) := by rw [CT.out.2]; exact own_mono C972.out (by omega)
              go_wp2_with fail
              go_ret2
              exact ⟨.slice g961 tl c961, tot, 0, rfl, FF.out, FIN.out, by rw [CT.out.2]; omega, B962.out⟩
      · skip
        go_simp
        refine (numberBytesV sx (wa738) hx).mono ?_
        rintro e wa974 ⟨va974, rfl, o974, hb974⟩
        obtain ⟨g974, c974, rfl, s974, _⟩ := own_src o974
        dsimp only
        have B975 : Hid (Below w.heap.size w (wa974)) := (B739.out).trans (hb974.mono (B739.out).size)
        have X976 : Hid (Box (wa974) w.heap.size (bx5 F T cx sx a n c)) := X740.out.below hb974
        have T977 : Hid (HasHalf (wa974)) := T741.out.below hb974
        have Y978 : Hid (Src (wa974) (some ⟨w1.heap.size, 0, none⟩) (cellsB [n])) := Y742.out.below hb974
        have H979 : Hid (Src (wa974) g428 (cellsB hd)) := H743.out.below hb974
        have P980 : Hid (Src (wa974) g738 (cellsB pt)) := P744.out.below hb974
        have N981 : Hid (Src (wa974) g974 (cellsB (numQ sx))) := s974
        clear o974 hb974 s974
        clear e0 e1 e2 e3 e4
        obtain ⟨e0, e1, e2, e3, e4⟩ := cells5 X976.out
        refine hK _ _ ⟨e0, e1, e2, e3, e4⟩ (fun hHeld => ?_)
        clear hK K
        refine wpAnyH_ready (rs := [0, 11]) (by kernel_rfl) (by simp) ?_
        refine AllReadyH.cons rfl (fun K hK => ?_) (AllReadyH.cons rfl (fun K hK => ?_) AllReadyH.nil)
        · skip
          go_simp
          have B982 : Hid (Below w.heap.size w (((wa974).alloc mkO))) := B975.out.alloc B975.out.size _
          have X983 : Hid (Box (((wa974).alloc mkO)) w.heap.size (bx5 F T cx sx a n c)) := Box.old (w := wa974) X976.out _
          have T984 : Hid (HasHalf (((wa974).alloc mkO))) := HasHalf.below (w := wa974) T977.out (((Below.refl _ (wa974)).alloc (Nat.le_refl _) mkO))
          have Y985 : Hid (Src (((wa974).alloc mkO)) (some ⟨w1.heap.size, 0, none⟩) (cellsB [n])) := Src.below (w := wa974) Y978.out (((Below.refl _ (wa974)).alloc (Nat.le_refl _) mkO))
          have H986 : Hid (Src (((wa974).alloc mkO)) g428 (cellsB hd)) := Src.below (w := wa974) H979.out (((Below.refl _ (wa974)).alloc (Nat.le_refl _) mkO))
          have P987 : Hid (Src (((wa974).alloc mkO)) g738 (cellsB pt)) := Src.below (w := wa974) P980.out (((Below.refl _ (wa974)).alloc (Nat.le_refl _) mkO))
          have N988 : Hid (Src (((wa974).alloc mkO)) g974 (cellsB (numQ sx))) := Src.below (w := wa974) N981.out (((Below.refl _ (wa974)).alloc (Nat.le_refl _) mkO))
          have A989 : Hid (Src (((wa974).alloc mkO)) (some ⟨wa974.heap.size, 0, none⟩) (cellsB [98, 97, 99, 107, 117, 112])) := src_6B (w := wa974) (by simp)
          have Q990 : Hid ((((wa974).alloc mkO)).heap[wa974.heap.size]? = some mkO) := (heap_at_alloc (wa974) _ (by simp))
          have GG991 : Hid (w.heap.size < wa974.heap.size) := by show _ < _; have h9 := World.block_lt_of_cell? _ _ (X976.out 0 _ rfl).1; simpa using h9
          clear e0 e1 e2 e3 e4
          obtain ⟨e0, e1, e2, e3, e4⟩ := cells5 X983.out
          refine hK _ _ ⟨e0, e1, e2, e3, e4⟩ (fun hHeld => ?_)
          clear hK K
          refine wpAnyH_ready (rs := [1, 11]) (by kernel_rfl) (by simp) ?_
          refine AllReadyH.cons rfl (fun K hK => ?_) (AllReadyH.cons rfl (fun K hK => ?_) AllReadyH.nil)
          · skip
            obtain ⟨wa992, hcv992, fz992⟩ : ∃ W2, (convert 55 55 (.slice (some ⟨wa974.heap.size, 0, none⟩) 6 6)).run Tryz.prog (((wa974).alloc mkO)) = .ok (.slice (some ⟨wa974.heap.size, 0, none⟩) 6 6) W2 ∧ Frozen (((wa974).alloc mkO)) W2 (wa974.heap.size) := ⟨_, convert_const_at (((wa974).alloc mkO)) (wa974.heap.size) _ 6 6 Q990.out, frozen_freeze _ _ _⟩
            have FZ992 : Hid (Frozen (((wa974).alloc mkO)) wa992 (wa974.heap.size)) := fz992
            clear fz992
            go_simp
            have B993 : Hid (Below w.heap.size w (wa992)) := below_frozen (B982.out) FZ992.out (Nat.le_of_lt GG991.out)
            have X994 : Hid (Box (wa992) w.heap.size (bx5 F T cx sx a n c)) := box_frozen (w := ((wa974).alloc mkO)) X983.out FZ992.out (Nat.ne_of_lt GG991.out)
            have T995 : Hid (HasHalf (wa992)) := half_frozen (w := ((wa974).alloc mkO)) T984.out FZ992.out
            have Y996 : Hid (Src (wa992) (some ⟨w1.heap.size, 0, none⟩) (cellsB [n])) := src_frozen (w := ((wa974).alloc mkO)) Y985.out FZ992.out
            have H997 : Hid (Src (wa992) g428 (cellsB hd)) := src_frozen (w := ((wa974).alloc mkO)) H986.out FZ992.out
            have P998 : Hid (Src (wa992) g738 (cellsB pt)) := src_frozen (w := ((wa974).alloc mkO)) P987.out FZ992.out
            have N999 : Hid (Src (wa992) g974 (cellsB (numQ sx))) := src_frozen (w := ((wa974).alloc mkO)) N988.out FZ992.out
            have A1000 : Hid (Src (wa992) (some ⟨wa974.heap.size, 0, none⟩) (cellsB [98, 97, 99, 107, 117, 112])) := src_frozen (w := ((wa974).alloc mkO)) A989.out FZ992.out
            clear hcv992
            clear e0 e1 e2 e3 e4
            obtain ⟨e0, e1, e2, e3, e4⟩ := cells5 X994.out
            refine hK _ _ ⟨e0, e1, e2, e3, e4⟩ (fun hHeld => ?_)
            clear hK K
            refine wpAnyH_ready (rs := [11]) (by kernel_rfl) (by simp) ?_
            refine AllReadyH.cons rfl (fun K hK => ?_) AllReadyH.nil
            go_simp
            refine (backupLink F T cx sx a n c M (wa992) hF hT hc hx HM.out hn HS.out (Src.below (w := w) HH.out (B993.out)) T995.out).mono ?_
            rw [LK.out]
            rintro e wa1001 ⟨rfl, hb1001⟩
            dsimp only
            have B1002 : Hid (Below w.heap.size w (wa1001)) := (B993.out).trans (hb1001.mono (B993.out).size)
            have X1003 : Hid (Box (wa1001) w.heap.size (bx5 F T cx sx a n c)) := X994.out.below hb1001
            have T1004 : Hid (HasHalf (wa1001)) := T995.out.below hb1001
            have Y1005 : Hid (Src (wa1001) (some ⟨w1.heap.size, 0, none⟩) (cellsB [n])) := Y996.out.below hb1001
            have H1006 : Hid (Src (wa1001) g428 (cellsB hd)) := H997.out.below hb1001
            have P1007 : Hid (Src (wa1001) g738 (cellsB pt)) := P998.out.below hb1001
            have N1008 : Hid (Src (wa1001) g974 (cellsB (numQ sx))) := N999.out.below hb1001
            have A1009 : Hid (Src (wa1001) (some ⟨wa974.heap.size, 0, none⟩) (cellsB [98, 97, 99, 107, 117, 112])) := A1000.out.below hb1001
            clear hb1001
            clear e0 e1 e2 e3 e4
            obtain ⟨e0, e1, e2, e3, e4⟩ := cells5 X1003.out
            refine hK _ _ ⟨e0, e1, e2, e3, e4⟩ (fun hHeld => ?_)
            clear hK K
            refine wpAnyH_ready (rs := [12]) (by kernel_rfl) (by simp) ?_
            refine AllReadyH.cons rfl (fun K hK => ?_) AllReadyH.nil
            go_simp
            refine (numberBytesV lk (wa1001) hlk2).mono ?_
            rintro e wa1010 ⟨va1010, rfl, o1010, hb1010⟩
            obtain ⟨g1010, c1010, rfl, s1010, _⟩ := own_src o1010
            dsimp only
            have B1011 : Hid (Below w.heap.size w (wa1010)) := (B1002.out).trans (hb1010.mono (B1002.out).size)
            have X1012 : Hid (Box (wa1010) w.heap.size (bx5 F T cx sx a n c)) := X1003.out.below hb1010
            have T1013 : Hid (HasHalf (wa1010)) := T1004.out.below hb1010
            have Y1014 : Hid (Src (wa1010) (some ⟨w1.heap.size, 0, none⟩) (cellsB [n])) := Y1005.out.below hb1010
            have H1015 : Hid (Src (wa1010) g428 (cellsB hd)) := H1006.out.below hb1010
            have P1016 : Hid (Src (wa1010) g738 (cellsB pt)) := P1007.out.below hb1010
            have N1017 : Hid (Src (wa1010) g974 (cellsB (numQ sx))) := N1008.out.below hb1010
            have A1018 : Hid (Src (wa1010) (some ⟨wa974.heap.size, 0, none⟩) (cellsB [98, 97, 99, 107, 117, 112])) := A1009.out.below hb1010
            have K1019 : Hid (Src (wa1010) g1010 (cellsB (numQ lk))) := s1010
            clear o1010 hb1010 s1010
            clear e0 e1 e2 e3 e4
            obtain ⟨e0, e1, e2, e3, e4⟩ := cells5 X1012.out
            refine hK _ _ ⟨e0, e1, e2, e3, e4⟩ (fun hHeld => ?_)
            clear hK K
            refine wpAnyH_ready (rs := [13]) (by kernel_rfl) (by simp) ?_
            refine AllReadyH.cons rfl (fun K hK => ?_) AllReadyH.nil
            go_simp
            obtain ⟨wa1020, hwo1020, hb1020, so1020⟩ : ∃ W2, (wa1010).alloc (.cells #[.slice (some ⟨wa974.heap.size, 0, none⟩) 6 6, .slice g428 l1 c428, .slice (some ⟨w1.heap.size, 0, none⟩) 1 1, .slice g738 l2 c738, .slice g974 4 c974, .slice g1010 4 c1010] 55) = W2 ∧ Below (wa1010).heap.size (wa1010) W2 ∧ Src W2 (some ⟨wa1010.heap.size, 0, none⟩) [.slice (some ⟨wa974.heap.size, 0, none⟩) 6 6, .slice g428 l1 c428, .slice (some ⟨w1.heap.size, 0, none⟩) 1 1, .slice g738 l2 c738, .slice g974 4 c974, .slice g1010 4 c1010] := ⟨_, rfl, (Below.refl _ _).alloc (Nat.le_refl _) _, src_vals (xs := [.slice (some ⟨wa974.heap.size, 0, none⟩) 6 6, .slice g428 l1 c428, .slice (some ⟨w1.heap.size, 0, none⟩) 1 1, .slice g738 l2 c738, .slice g974 4 c974, .slice g1010 4 c1010]) rfl⟩
            rw [hwo1020]
            have B1021 : Hid (Below w.heap.size w (wa1020)) := (B1011.out).trans (hb1020.mono (B1011.out).size)
            have X1022 : Hid (Box (wa1020) w.heap.size (bx5 F T cx sx a n c)) := X1012.out.below hb1020
            have T1023 : Hid (HasHalf (wa1020)) := T1013.out.below hb1020
            have Y1024 : Hid (Src (wa1020) (some ⟨w1.heap.size, 0, none⟩) (cellsB [n])) := Y1014.out.below hb1020
            have H1025 : Hid (Src (wa1020) g428 (cellsB hd)) := H1015.out.below hb1020
            have P1026 : Hid (Src (wa1020) g738 (cellsB pt)) := P1016.out.below hb1020
            have N1027 : Hid (Src (wa1020) g974 (cellsB (numQ sx))) := N1017.out.below hb1020
            have A1028 : Hid (Src (wa1020) (some ⟨wa974.heap.size, 0, none⟩) (cellsB [98, 97, 99, 107, 117, 112])) := A1018.out.below hb1020
            have K1029 : Hid (Src (wa1020) g1010 (cellsB (numQ lk))) := K1019.out.below hb1020
            have O1030 : Hid (Src (wa1020) (some ⟨wa1010.heap.size, 0, none⟩) [.slice (some ⟨wa974.heap.size, 0, none⟩) 6 6, .slice g428 l1 c428, .slice (some ⟨w1.heap.size, 0, none⟩) 1 1, .slice g738 l2 c738, .slice g974 4 c974, .slice g1010 4 c1010]) := so1020
            clear hwo1020 hb1020 so1020
            clear e0 e1 e2 e3 e4
            obtain ⟨e0, e1, e2, e3, e4⟩ := cells5 X1022.out
            refine hK _ _ ⟨e0, e1, e2, e3, e4⟩ (fun hHeld => ?_)
            clear hK K
            refine wpAnyH_ready (rs := [14]) (by kernel_rfl) (by simp) ?_
            refine AllReadyH.cons rfl (fun K hK => ?_) AllReadyH.nil
            have HRC : Hid (∀ i, i < 6 → ∃ a c, ([.slice (some ⟨wa974.heap.size, 0, none⟩) 6 6, .slice g428 l1 c428, .slice (some ⟨w1.heap.size, 0, none⟩) 1 1, .slice g738 l2 c738, .slice g974 4 c974, .slice g1010 4 c1010] : List Value).getD i undef = .slice a ((fun i => [[98, 97, 99, 107, 117, 112], hd, [n], pt, numQ sx, numQ lk].getD i []) i).length c ∧ Src (wa1020) a (cellsB ((fun i => [[98, 97, 99, 107, 117, 112], hd, [n], pt, numQ sx, numQ lk].getD i []) i))) := fun i hi => by
              match i, hi with
              | 0, _ => exact ⟨(some ⟨wa974.heap.size, 0, none⟩), 6, rfl, A1028.out⟩
              | 1, _ => exact ⟨g428, c428, by show Value.slice g428 l1 c428 = Value.slice g428 (hd).length c428; rw [L1.out], H1025.out⟩
              | 2, _ => exact ⟨(some ⟨w1.heap.size, 0, none⟩), 1, rfl, Y1024.out⟩
              | 3, _ => exact ⟨g738, c738, by show Value.slice g738 l2 c738 = Value.slice g738 (pt).length c738; rw [L2.out], P1026.out⟩
              | 4, _ => exact ⟨g974, c974, rfl, N1027.out⟩
              | 5, _ => exact ⟨g1010, c1010, rfl, K1029.out⟩
            have CC : Hid (Calls Tryz.prog 61 #[.slice (some ⟨wa1010.heap.size, 0, none⟩) 6 6] (wa1020) fun e w' => ∃ v, e = .returned v ∧ w'.ownsRow (wa1020).heap.size 5 1 v tl (cellsB tot) ∧ Below (wa1020).heap.size (wa1020) w') := by
              have h9 := slicesConcat (some ⟨wa1010.heap.size, 0, none⟩) 6 6 [.slice (some ⟨wa974.heap.size, 0, none⟩) 6 6, .slice g428 l1 c428, .slice (some ⟨w1.heap.size, 0, none⟩) 1 1, .slice g738 l2 c738, .slice g974 4 c974, .slice g1010 4 c1010] (fun i => [[98, 97, 99, 107, 117, 112], hd, [n], pt, numQ sx, numQ lk].getD i []) (wa1020) rfl (by omega) (by rw [CT.out.1, CT.out.2]; omega) (by rw [CT.out.1, CT.out.2]; omega) O1030.out HRC.out
              rw [CT.out.1, CT.out.2] at h9
              exact h9
            clear HRC
            go_simp
            refine CC.out.mono ?_
            rintro e wa1031 ⟨va1031, rfl, o1031, hb1031⟩
            obtain ⟨g1031, c1031, rfl, s1031, _⟩ := own_src o1031
            clear CC
            dsimp only
            have B1032 : Hid (Below w.heap.size w (wa1031)) := (B1021.out).trans (hb1031.mono (B1021.out).size)
            have X1033 : Hid (Box (wa1031) w.heap.size (bx5 F T cx sx a n c)) := X1022.out.below hb1031
            have T1034 : Hid (HasHalf (wa1031)) := T1023.out.below hb1031
            have Y1035 : Hid (Src (wa1031) (some ⟨w1.heap.size, 0, none⟩) (cellsB [n])) := Y1024.out.below hb1031
            have H1036 : Hid (Src (wa1031) g428 (cellsB hd)) := H1025.out.below hb1031
            have P1037 : Hid (Src (wa1031) g738 (cellsB pt)) := P1026.out.below hb1031
            have N1038 : Hid (Src (wa1031) g974 (cellsB (numQ sx))) := N1027.out.below hb1031
            have A1039 : Hid (Src (wa1031) (some ⟨wa974.heap.size, 0, none⟩) (cellsB [98, 97, 99, 107, 117, 112])) := A1028.out.below hb1031
            have K1040 : Hid (Src (wa1031) g1010 (cellsB (numQ lk))) := K1029.out.below hb1031
            have O1041 : Hid (Src (wa1031) (some ⟨wa1010.heap.size, 0, none⟩) [.slice (some ⟨wa974.heap.size, 0, none⟩) 6 6, .slice g428 l1 c428, .slice (some ⟨w1.heap.size, 0, none⟩) 1 1, .slice g738 l2 c738, .slice g974 4 c974, .slice g1010 4 c1010]) := O1030.out.below hb1031
            have C1042 : Hid (World.ownsRow (wa1031) (w.heap.size + 1) 5 1 (.slice g1031 tl c1031) tl (cellsB tot)) := own_mono o1031 (show w.heap.size + 1 ≤ _ from World.block_lt_of_cell? _ _ (X1022.out 0 _ rfl).1)
            have Cs1043 : Hid (Src (wa1031) g1031 (cellsB tot)) := s1031
            clear o1031 hb1031 s1031
            clear e0 e1 e2 e3 e4
            obtain ⟨e0, e1, e2, e3, e4⟩ := cells5 X1033.out
            refine hK _ _ ⟨e0, e1, e2, e3, e4⟩ (fun hHeld => ?_)
            clear hK K
            refine wpAnyH_ready (rs := [15]) (by kernel_rfl) (by simp) ?_
            refine AllReadyH.cons rfl (fun K hK => ?_) AllReadyH.nil
            go_simp
            clear e0 e1 e2 e3 e4
            obtain ⟨e0, e1, e2, e3, e4⟩ := cells5 X1033.out
            refine hK _ _ ⟨e0, e1, e2, e3, e4⟩ (fun hHeld => ?_)
            clear hK K
            refine wpAnyH_ready (rs := [16]) (by kernel_rfl) (by simp) ?_
            refine AllReadyH.cons rfl (fun K hK => ?_) AllReadyH.nil
            go_simp
            clear e0 e1 e2 e3 e4
            obtain ⟨e0, e1, e2, e3, e4⟩ := cells5 X1033.out
            refine hK _ _ ⟨e0, e1, e2, e3, e4⟩ (fun hHeld => ?_)
            clear hK K
            refine wpAnyH_done (by kernel_rfl) ?_ _
            refine NoPanic.normal ?_
            clear e0 e1 e2 e3 e4
            clear hHeld
            have FIN : Hid ((wa1031).ownsRow w.heap.size 5 1 (.slice g1031 tl c1031) tot.length (cellsB tot)) := by rw [CT.out.2]; exact own_mono C1042.out (by omega)
            go_wp2_with fail
            go_ret2
            exact ⟨.slice g1031 tl c1031, tot, 0, rfl, FF.out, FIN.out, by rw [CT.out.2]; omega, B1032.out⟩
          · skip
            go_simp
            refine (backupLink F T cx sx a n c M (((wa974).alloc mkO)) hF hT hc hx HM.out hn HS.out (Src.below (w := w) HH.out (B982.out)) T984.out).mono ?_
            rw [LK.out]
            rintro e wa1044 ⟨rfl, hb1044⟩
            dsimp only
            have B1045 : Hid (Below w.heap.size w (wa1044)) := (B982.out).trans (hb1044.mono (B982.out).size)
            have X1046 : Hid (Box (wa1044) w.heap.size (bx5 F T cx sx a n c)) := X983.out.below hb1044
            have T1047 : Hid (HasHalf (wa1044)) := T984.out.below hb1044
            have Y1048 : Hid (Src (wa1044) (some ⟨w1.heap.size, 0, none⟩) (cellsB [n])) := Y985.out.below hb1044
            have H1049 : Hid (Src (wa1044) g428 (cellsB hd)) := H986.out.below hb1044
            have P1050 : Hid (Src (wa1044) g738 (cellsB pt)) := P987.out.below hb1044
            have N1051 : Hid (Src (wa1044) g974 (cellsB (numQ sx))) := N988.out.below hb1044
            have A1052 : Hid (Src (wa1044) (some ⟨wa974.heap.size, 0, none⟩) (cellsB [98, 97, 99, 107, 117, 112])) := A989.out.below hb1044
            have Q1053 : Hid ((wa1044).heap[wa974.heap.size]? = some mkO) := blk_below (w := ((wa974).alloc mkO)) Q990.out hb1044
            clear hb1044
            clear e0 e1 e2 e3 e4
            obtain ⟨e0, e1, e2, e3, e4⟩ := cells5 X1046.out
            refine hK _ _ ⟨e0, e1, e2, e3, e4⟩ (fun hHeld => ?_)
            clear hK K
            refine wpAnyH_ready (rs := [1, 12]) (by kernel_rfl) (by simp) ?_
            refine AllReadyH.cons rfl (fun K hK => ?_) (AllReadyH.cons rfl (fun K hK => ?_) AllReadyH.nil)
            · skip
              obtain ⟨wa1054, hcv1054, fz1054⟩ : ∃ W2, (convert 55 55 (.slice (some ⟨wa974.heap.size, 0, none⟩) 6 6)).run Tryz.prog (wa1044) = .ok (.slice (some ⟨wa974.heap.size, 0, none⟩) 6 6) W2 ∧ Frozen (wa1044) W2 (wa974.heap.size) := ⟨_, convert_const_at (wa1044) (wa974.heap.size) _ 6 6 Q1053.out, frozen_freeze _ _ _⟩
              have FZ1054 : Hid (Frozen (wa1044) wa1054 (wa974.heap.size)) := fz1054
              clear fz1054
              go_simp
              have B1055 : Hid (Below w.heap.size w (wa1054)) := below_frozen (B1045.out) FZ1054.out (Nat.le_of_lt GG991.out)
              have X1056 : Hid (Box (wa1054) w.heap.size (bx5 F T cx sx a n c)) := box_frozen (w := wa1044) X1046.out FZ1054.out (Nat.ne_of_lt GG991.out)
              have T1057 : Hid (HasHalf (wa1054)) := half_frozen (w := wa1044) T1047.out FZ1054.out
              have Y1058 : Hid (Src (wa1054) (some ⟨w1.heap.size, 0, none⟩) (cellsB [n])) := src_frozen (w := wa1044) Y1048.out FZ1054.out
              have H1059 : Hid (Src (wa1054) g428 (cellsB hd)) := src_frozen (w := wa1044) H1049.out FZ1054.out
              have P1060 : Hid (Src (wa1054) g738 (cellsB pt)) := src_frozen (w := wa1044) P1050.out FZ1054.out
              have N1061 : Hid (Src (wa1054) g974 (cellsB (numQ sx))) := src_frozen (w := wa1044) N1051.out FZ1054.out
              have A1062 : Hid (Src (wa1054) (some ⟨wa974.heap.size, 0, none⟩) (cellsB [98, 97, 99, 107, 117, 112])) := src_frozen (w := wa1044) A1052.out FZ1054.out
              clear hcv1054
              clear e0 e1 e2 e3 e4
              obtain ⟨e0, e1, e2, e3, e4⟩ := cells5 X1056.out
              refine hK _ _ ⟨e0, e1, e2, e3, e4⟩ (fun hHeld => ?_)
              clear hK K
              refine wpAnyH_ready (rs := [12]) (by kernel_rfl) (by simp) ?_
              refine AllReadyH.cons rfl (fun K hK => ?_) AllReadyH.nil
              go_simp
              refine (numberBytesV lk (wa1054) hlk2).mono ?_
              rintro e wa1063 ⟨va1063, rfl, o1063, hb1063⟩
              obtain ⟨g1063, c1063, rfl, s1063, _⟩ := own_src o1063
              dsimp only
              have B1064 : Hid (Below w.heap.size w (wa1063)) := (B1055.out).trans (hb1063.mono (B1055.out).size)
              have X1065 : Hid (Box (wa1063) w.heap.size (bx5 F T cx sx a n c)) := X1056.out.below hb1063
              have T1066 : Hid (HasHalf (wa1063)) := T1057.out.below hb1063
              have Y1067 : Hid (Src (wa1063) (some ⟨w1.heap.size, 0, none⟩) (cellsB [n])) := Y1058.out.below hb1063
              have H1068 : Hid (Src (wa1063) g428 (cellsB hd)) := H1059.out.below hb1063
              have P1069 : Hid (Src (wa1063) g738 (cellsB pt)) := P1060.out.below hb1063
              have N1070 : Hid (Src (wa1063) g974 (cellsB (numQ sx))) := N1061.out.below hb1063
              have A1071 : Hid (Src (wa1063) (some ⟨wa974.heap.size, 0, none⟩) (cellsB [98, 97, 99, 107, 117, 112])) := A1062.out.below hb1063
              have K1072 : Hid (Src (wa1063) g1063 (cellsB (numQ lk))) := s1063
              clear o1063 hb1063 s1063
              clear e0 e1 e2 e3 e4
              obtain ⟨e0, e1, e2, e3, e4⟩ := cells5 X1065.out
              refine hK _ _ ⟨e0, e1, e2, e3, e4⟩ (fun hHeld => ?_)
              clear hK K
              refine wpAnyH_ready (rs := [13]) (by kernel_rfl) (by simp) ?_
              refine AllReadyH.cons rfl (fun K hK => ?_) AllReadyH.nil
              go_simp
              obtain ⟨wa1073, hwo1073, hb1073, so1073⟩ : ∃ W2, (wa1063).alloc (.cells #[.slice (some ⟨wa974.heap.size, 0, none⟩) 6 6, .slice g428 l1 c428, .slice (some ⟨w1.heap.size, 0, none⟩) 1 1, .slice g738 l2 c738, .slice g974 4 c974, .slice g1063 4 c1063] 55) = W2 ∧ Below (wa1063).heap.size (wa1063) W2 ∧ Src W2 (some ⟨wa1063.heap.size, 0, none⟩) [.slice (some ⟨wa974.heap.size, 0, none⟩) 6 6, .slice g428 l1 c428, .slice (some ⟨w1.heap.size, 0, none⟩) 1 1, .slice g738 l2 c738, .slice g974 4 c974, .slice g1063 4 c1063] := ⟨_, rfl, (Below.refl _ _).alloc (Nat.le_refl _) _, src_vals (xs := [.slice (some ⟨wa974.heap.size, 0, none⟩) 6 6, .slice g428 l1 c428, .slice (some ⟨w1.heap.size, 0, none⟩) 1 1, .slice g738 l2 c738, .slice g974 4 c974, .slice g1063 4 c1063]) rfl⟩
              rw [hwo1073]
              have B1074 : Hid (Below w.heap.size w (wa1073)) := (B1064.out).trans (hb1073.mono (B1064.out).size)
              have X1075 : Hid (Box (wa1073) w.heap.size (bx5 F T cx sx a n c)) := X1065.out.below hb1073
              have T1076 : Hid (HasHalf (wa1073)) := T1066.out.below hb1073
              have Y1077 : Hid (Src (wa1073) (some ⟨w1.heap.size, 0, none⟩) (cellsB [n])) := Y1067.out.below hb1073
              have H1078 : Hid (Src (wa1073) g428 (cellsB hd)) := H1068.out.below hb1073
              have P1079 : Hid (Src (wa1073) g738 (cellsB pt)) := P1069.out.below hb1073
              have N1080 : Hid (Src (wa1073) g974 (cellsB (numQ sx))) := N1070.out.below hb1073
              have A1081 : Hid (Src (wa1073) (some ⟨wa974.heap.size, 0, none⟩) (cellsB [98, 97, 99, 107, 117, 112])) := A1071.out.below hb1073
              have K1082 : Hid (Src (wa1073) g1063 (cellsB (numQ lk))) := K1072.out.below hb1073
              have O1083 : Hid (Src (wa1073) (some ⟨wa1063.heap.size, 0, none⟩) [.slice (some ⟨wa974.heap.size, 0, none⟩) 6 6, .slice g428 l1 c428, .slice (some ⟨w1.heap.size, 0, none⟩) 1 1, .slice g738 l2 c738, .slice g974 4 c974, .slice g1063 4 c1063]) := so1073
              clear hwo1073 hb1073 so1073
              clear e0 e1 e2 e3 e4
              obtain ⟨e0, e1, e2, e3, e4⟩ := cells5 X1075.out
              refine hK _ _ ⟨e0, e1, e2, e3, e4⟩ (fun hHeld => ?_)
              clear hK K
              refine wpAnyH_ready (rs := [14]) (by kernel_rfl) (by simp) ?_
              refine AllReadyH.cons rfl (fun K hK => ?_) AllReadyH.nil
              have HRC : Hid (∀ i, i < 6 → ∃ a c, ([.slice (some ⟨wa974.heap.size, 0, none⟩) 6 6, .slice g428 l1 c428, .slice (some ⟨w1.heap.size, 0, none⟩) 1 1, .slice g738 l2 c738, .slice g974 4 c974, .slice g1063 4 c1063] : List Value).getD i undef = .slice a ((fun i => [[98, 97, 99, 107, 117, 112], hd, [n], pt, numQ sx, numQ lk].getD i []) i).length c ∧ Src (wa1073) a (cellsB ((fun i => [[98, 97, 99, 107, 117, 112], hd, [n], pt, numQ sx, numQ lk].getD i []) i))) := fun i hi => by
                match i, hi with
                | 0, _ => exact ⟨(some ⟨wa974.heap.size, 0, none⟩), 6, rfl, A1081.out⟩
                | 1, _ => exact ⟨g428, c428, by show Value.slice g428 l1 c428 = Value.slice g428 (hd).length c428; rw [L1.out], H1078.out⟩
                | 2, _ => exact ⟨(some ⟨w1.heap.size, 0, none⟩), 1, rfl, Y1077.out⟩
                | 3, _ => exact ⟨g738, c738, by show Value.slice g738 l2 c738 = Value.slice g738 (pt).length c738; rw [L2.out], P1079.out⟩
                | 4, _ => exact ⟨g974, c974, rfl, N1080.out⟩
                | 5, _ => exact ⟨g1063, c1063, rfl, K1082.out⟩
              have CC : Hid (Calls Tryz.prog 61 #[.slice (some ⟨wa1063.heap.size, 0, none⟩) 6 6] (wa1073) fun e w' => ∃ v, e = .returned v ∧ w'.ownsRow (wa1073).heap.size 5 1 v tl (cellsB tot) ∧ Below (wa1073).heap.size (wa1073) w') := by
                have h9 := slicesConcat (some ⟨wa1063.heap.size, 0, none⟩) 6 6 [.slice (some ⟨wa974.heap.size, 0, none⟩) 6 6, .slice g428 l1 c428, .slice (some ⟨w1.heap.size, 0, none⟩) 1 1, .slice g738 l2 c738, .slice g974 4 c974, .slice g1063 4 c1063] (fun i => [[98, 97, 99, 107, 117, 112], hd, [n], pt, numQ sx, numQ lk].getD i []) (wa1073) rfl (by omega) (by rw [CT.out.1, CT.out.2]; omega) (by rw [CT.out.1, CT.out.2]; omega) O1083.out HRC.out
                rw [CT.out.1, CT.out.2] at h9
                exact h9
              clear HRC
              go_simp
              refine CC.out.mono ?_
              rintro e wa1084 ⟨va1084, rfl, o1084, hb1084⟩
              obtain ⟨g1084, c1084, rfl, s1084, _⟩ := own_src o1084
              clear CC
              dsimp only
              have B1085 : Hid (Below w.heap.size w (wa1084)) := (B1074.out).trans (hb1084.mono (B1074.out).size)
              have X1086 : Hid (Box (wa1084) w.heap.size (bx5 F T cx sx a n c)) := X1075.out.below hb1084
              have T1087 : Hid (HasHalf (wa1084)) := T1076.out.below hb1084
              have Y1088 : Hid (Src (wa1084) (some ⟨w1.heap.size, 0, none⟩) (cellsB [n])) := Y1077.out.below hb1084
              have H1089 : Hid (Src (wa1084) g428 (cellsB hd)) := H1078.out.below hb1084
              have P1090 : Hid (Src (wa1084) g738 (cellsB pt)) := P1079.out.below hb1084
              have N1091 : Hid (Src (wa1084) g974 (cellsB (numQ sx))) := N1080.out.below hb1084
              have A1092 : Hid (Src (wa1084) (some ⟨wa974.heap.size, 0, none⟩) (cellsB [98, 97, 99, 107, 117, 112])) := A1081.out.below hb1084
              have K1093 : Hid (Src (wa1084) g1063 (cellsB (numQ lk))) := K1082.out.below hb1084
              have O1094 : Hid (Src (wa1084) (some ⟨wa1063.heap.size, 0, none⟩) [.slice (some ⟨wa974.heap.size, 0, none⟩) 6 6, .slice g428 l1 c428, .slice (some ⟨w1.heap.size, 0, none⟩) 1 1, .slice g738 l2 c738, .slice g974 4 c974, .slice g1063 4 c1063]) := O1083.out.below hb1084
              have C1095 : Hid (World.ownsRow (wa1084) (w.heap.size + 1) 5 1 (.slice g1084 tl c1084) tl (cellsB tot)) := own_mono o1084 (show w.heap.size + 1 ≤ _ from World.block_lt_of_cell? _ _ (X1075.out 0 _ rfl).1)
              have Cs1096 : Hid (Src (wa1084) g1084 (cellsB tot)) := s1084
              clear o1084 hb1084 s1084
              clear e0 e1 e2 e3 e4
              obtain ⟨e0, e1, e2, e3, e4⟩ := cells5 X1086.out
              refine hK _ _ ⟨e0, e1, e2, e3, e4⟩ (fun hHeld => ?_)
              clear hK K
              refine wpAnyH_ready (rs := [15]) (by kernel_rfl) (by simp) ?_
              refine AllReadyH.cons rfl (fun K hK => ?_) AllReadyH.nil
              go_simp
              clear e0 e1 e2 e3 e4
              obtain ⟨e0, e1, e2, e3, e4⟩ := cells5 X1086.out
              refine hK _ _ ⟨e0, e1, e2, e3, e4⟩ (fun hHeld => ?_)
              clear hK K
              refine wpAnyH_ready (rs := [16]) (by kernel_rfl) (by simp) ?_
              refine AllReadyH.cons rfl (fun K hK => ?_) AllReadyH.nil
              go_simp
              clear e0 e1 e2 e3 e4
              obtain ⟨e0, e1, e2, e3, e4⟩ := cells5 X1086.out
              refine hK _ _ ⟨e0, e1, e2, e3, e4⟩ (fun hHeld => ?_)
              clear hK K
              refine wpAnyH_done (by kernel_rfl) ?_ _
              refine NoPanic.normal ?_
              clear e0 e1 e2 e3 e4
              clear hHeld
              have FIN : Hid ((wa1084).ownsRow w.heap.size 5 1 (.slice g1084 tl c1084) tot.length (cellsB tot)) := by rw [CT.out.2]; exact own_mono C1095.out (by omega)
              go_wp2_with fail
              go_ret2
              exact ⟨.slice g1084 tl c1084, tot, 0, rfl, FF.out, FIN.out, by rw [CT.out.2]; omega, B1085.out⟩
            · skip
              go_simp
              refine (numberBytesV lk (wa1044) hlk2).mono ?_
              rintro e wa1097 ⟨va1097, rfl, o1097, hb1097⟩
              obtain ⟨g1097, c1097, rfl, s1097, _⟩ := own_src o1097
              dsimp only
              have B1098 : Hid (Below w.heap.size w (wa1097)) := (B1045.out).trans (hb1097.mono (B1045.out).size)
              have X1099 : Hid (Box (wa1097) w.heap.size (bx5 F T cx sx a n c)) := X1046.out.below hb1097
              have T1100 : Hid (HasHalf (wa1097)) := T1047.out.below hb1097
              have Y1101 : Hid (Src (wa1097) (some ⟨w1.heap.size, 0, none⟩) (cellsB [n])) := Y1048.out.below hb1097
              have H1102 : Hid (Src (wa1097) g428 (cellsB hd)) := H1049.out.below hb1097
              have P1103 : Hid (Src (wa1097) g738 (cellsB pt)) := P1050.out.below hb1097
              have N1104 : Hid (Src (wa1097) g974 (cellsB (numQ sx))) := N1051.out.below hb1097
              have A1105 : Hid (Src (wa1097) (some ⟨wa974.heap.size, 0, none⟩) (cellsB [98, 97, 99, 107, 117, 112])) := A1052.out.below hb1097
              have Q1106 : Hid ((wa1097).heap[wa974.heap.size]? = some mkO) := blk_below (w := wa1044) Q1053.out hb1097
              have K1107 : Hid (Src (wa1097) g1097 (cellsB (numQ lk))) := s1097
              clear o1097 hb1097 s1097
              clear e0 e1 e2 e3 e4
              obtain ⟨e0, e1, e2, e3, e4⟩ := cells5 X1099.out
              refine hK _ _ ⟨e0, e1, e2, e3, e4⟩ (fun hHeld => ?_)
              clear hK K
              refine wpAnyH_ready (rs := [1]) (by kernel_rfl) (by simp) ?_
              refine AllReadyH.cons rfl (fun K hK => ?_) AllReadyH.nil
              obtain ⟨wa1108, hcv1108, fz1108⟩ : ∃ W2, (convert 55 55 (.slice (some ⟨wa974.heap.size, 0, none⟩) 6 6)).run Tryz.prog (wa1097) = .ok (.slice (some ⟨wa974.heap.size, 0, none⟩) 6 6) W2 ∧ Frozen (wa1097) W2 (wa974.heap.size) := ⟨_, convert_const_at (wa1097) (wa974.heap.size) _ 6 6 Q1106.out, frozen_freeze _ _ _⟩
              have FZ1108 : Hid (Frozen (wa1097) wa1108 (wa974.heap.size)) := fz1108
              clear fz1108
              go_simp
              have B1109 : Hid (Below w.heap.size w (wa1108)) := below_frozen (B1098.out) FZ1108.out (Nat.le_of_lt GG991.out)
              have X1110 : Hid (Box (wa1108) w.heap.size (bx5 F T cx sx a n c)) := box_frozen (w := wa1097) X1099.out FZ1108.out (Nat.ne_of_lt GG991.out)
              have T1111 : Hid (HasHalf (wa1108)) := half_frozen (w := wa1097) T1100.out FZ1108.out
              have Y1112 : Hid (Src (wa1108) (some ⟨w1.heap.size, 0, none⟩) (cellsB [n])) := src_frozen (w := wa1097) Y1101.out FZ1108.out
              have H1113 : Hid (Src (wa1108) g428 (cellsB hd)) := src_frozen (w := wa1097) H1102.out FZ1108.out
              have P1114 : Hid (Src (wa1108) g738 (cellsB pt)) := src_frozen (w := wa1097) P1103.out FZ1108.out
              have N1115 : Hid (Src (wa1108) g974 (cellsB (numQ sx))) := src_frozen (w := wa1097) N1104.out FZ1108.out
              have A1116 : Hid (Src (wa1108) (some ⟨wa974.heap.size, 0, none⟩) (cellsB [98, 97, 99, 107, 117, 112])) := src_frozen (w := wa1097) A1105.out FZ1108.out
              have K1117 : Hid (Src (wa1108) g1097 (cellsB (numQ lk))) := src_frozen (w := wa1097) K1107.out FZ1108.out
              clear hcv1108
              clear e0 e1 e2 e3 e4
              obtain ⟨e0, e1, e2, e3, e4⟩ := cells5 X1110.out
              refine hK _ _ ⟨e0, e1, e2, e3, e4⟩ (fun hHeld => ?_)
              clear hK K
              refine wpAnyH_ready (rs := [13]) (by kernel_rfl) (by simp) ?_
              refine AllReadyH.cons rfl (fun K hK => ?_) AllReadyH.nil
              go_simp
              obtain ⟨wa1118, hwo1118, hb1118, so1118⟩ : ∃ W2, (wa1108).alloc (.cells #[.slice (some ⟨wa974.heap.size, 0, none⟩) 6 6, .slice g428 l1 c428, .slice (some ⟨w1.heap.size, 0, none⟩) 1 1, .slice g738 l2 c738, .slice g974 4 c974, .slice g1097 4 c1097] 55) = W2 ∧ Below (wa1108).heap.size (wa1108) W2 ∧ Src W2 (some ⟨wa1108.heap.size, 0, none⟩) [.slice (some ⟨wa974.heap.size, 0, none⟩) 6 6, .slice g428 l1 c428, .slice (some ⟨w1.heap.size, 0, none⟩) 1 1, .slice g738 l2 c738, .slice g974 4 c974, .slice g1097 4 c1097] := ⟨_, rfl, (Below.refl _ _).alloc (Nat.le_refl _) _, src_vals (xs := [.slice (some ⟨wa974.heap.size, 0, none⟩) 6 6, .slice g428 l1 c428, .slice (some ⟨w1.heap.size, 0, none⟩) 1 1, .slice g738 l2 c738, .slice g974 4 c974, .slice g1097 4 c1097]) rfl⟩
              rw [hwo1118]
              have B1119 : Hid (Below w.heap.size w (wa1118)) := (B1109.out).trans (hb1118.mono (B1109.out).size)
              have X1120 : Hid (Box (wa1118) w.heap.size (bx5 F T cx sx a n c)) := X1110.out.below hb1118
              have T1121 : Hid (HasHalf (wa1118)) := T1111.out.below hb1118
              have Y1122 : Hid (Src (wa1118) (some ⟨w1.heap.size, 0, none⟩) (cellsB [n])) := Y1112.out.below hb1118
              have H1123 : Hid (Src (wa1118) g428 (cellsB hd)) := H1113.out.below hb1118
              have P1124 : Hid (Src (wa1118) g738 (cellsB pt)) := P1114.out.below hb1118
              have N1125 : Hid (Src (wa1118) g974 (cellsB (numQ sx))) := N1115.out.below hb1118
              have A1126 : Hid (Src (wa1118) (some ⟨wa974.heap.size, 0, none⟩) (cellsB [98, 97, 99, 107, 117, 112])) := A1116.out.below hb1118
              have K1127 : Hid (Src (wa1118) g1097 (cellsB (numQ lk))) := K1117.out.below hb1118
              have O1128 : Hid (Src (wa1118) (some ⟨wa1108.heap.size, 0, none⟩) [.slice (some ⟨wa974.heap.size, 0, none⟩) 6 6, .slice g428 l1 c428, .slice (some ⟨w1.heap.size, 0, none⟩) 1 1, .slice g738 l2 c738, .slice g974 4 c974, .slice g1097 4 c1097]) := so1118
              clear hwo1118 hb1118 so1118
              clear e0 e1 e2 e3 e4
              obtain ⟨e0, e1, e2, e3, e4⟩ := cells5 X1120.out
              refine hK _ _ ⟨e0, e1, e2, e3, e4⟩ (fun hHeld => ?_)
              clear hK K
              refine wpAnyH_ready (rs := [14]) (by kernel_rfl) (by simp) ?_
              refine AllReadyH.cons rfl (fun K hK => ?_) AllReadyH.nil
              have HRC : Hid (∀ i, i < 6 → ∃ a c, ([.slice (some ⟨wa974.heap.size, 0, none⟩) 6 6, .slice g428 l1 c428, .slice (some ⟨w1.heap.size, 0, none⟩) 1 1, .slice g738 l2 c738, .slice g974 4 c974, .slice g1097 4 c1097] : List Value).getD i undef = .slice a ((fun i => [[98, 97, 99, 107, 117, 112], hd, [n], pt, numQ sx, numQ lk].getD i []) i).length c ∧ Src (wa1118) a (cellsB ((fun i => [[98, 97, 99, 107, 117, 112], hd, [n], pt, numQ sx, numQ lk].getD i []) i))) := fun i hi => by
                match i, hi with
                | 0, _ => exact ⟨(some ⟨wa974.heap.size, 0, none⟩), 6, rfl, A1126.out⟩
                | 1, _ => exact ⟨g428, c428, by show Value.slice g428 l1 c428 = Value.slice g428 (hd).length c428; rw [L1.out], H1123.out⟩
                | 2, _ => exact ⟨(some ⟨w1.heap.size, 0, none⟩), 1, rfl, Y1122.out⟩
                | 3, _ => exact ⟨g738, c738, by show Value.slice g738 l2 c738 = Value.slice g738 (pt).length c738; rw [L2.out], P1124.out⟩
                | 4, _ => exact ⟨g974, c974, rfl, N1125.out⟩
                | 5, _ => exact ⟨g1097, c1097, rfl, K1127.out⟩
              have CC : Hid (Calls Tryz.prog 61 #[.slice (some ⟨wa1108.heap.size, 0, none⟩) 6 6] (wa1118) fun e w' => ∃ v, e = .returned v ∧ w'.ownsRow (wa1118).heap.size 5 1 v tl (cellsB tot) ∧ Below (wa1118).heap.size (wa1118) w') := by
                have h9 := slicesConcat (some ⟨wa1108.heap.size, 0, none⟩) 6 6 [.slice (some ⟨wa974.heap.size, 0, none⟩) 6 6, .slice g428 l1 c428, .slice (some ⟨w1.heap.size, 0, none⟩) 1 1, .slice g738 l2 c738, .slice g974 4 c974, .slice g1097 4 c1097] (fun i => [[98, 97, 99, 107, 117, 112], hd, [n], pt, numQ sx, numQ lk].getD i []) (wa1118) rfl (by omega) (by rw [CT.out.1, CT.out.2]; omega) (by rw [CT.out.1, CT.out.2]; omega) O1128.out HRC.out
                rw [CT.out.1, CT.out.2] at h9
                exact h9
              clear HRC
              go_simp
              refine CC.out.mono ?_
              rintro e wa1129 ⟨va1129, rfl, o1129, hb1129⟩
              obtain ⟨g1129, c1129, rfl, s1129, _⟩ := own_src o1129
              clear CC
              dsimp only
              have B1130 : Hid (Below w.heap.size w (wa1129)) := (B1119.out).trans (hb1129.mono (B1119.out).size)
              have X1131 : Hid (Box (wa1129) w.heap.size (bx5 F T cx sx a n c)) := X1120.out.below hb1129
              have T1132 : Hid (HasHalf (wa1129)) := T1121.out.below hb1129
              have Y1133 : Hid (Src (wa1129) (some ⟨w1.heap.size, 0, none⟩) (cellsB [n])) := Y1122.out.below hb1129
              have H1134 : Hid (Src (wa1129) g428 (cellsB hd)) := H1123.out.below hb1129
              have P1135 : Hid (Src (wa1129) g738 (cellsB pt)) := P1124.out.below hb1129
              have N1136 : Hid (Src (wa1129) g974 (cellsB (numQ sx))) := N1125.out.below hb1129
              have A1137 : Hid (Src (wa1129) (some ⟨wa974.heap.size, 0, none⟩) (cellsB [98, 97, 99, 107, 117, 112])) := A1126.out.below hb1129
              have K1138 : Hid (Src (wa1129) g1097 (cellsB (numQ lk))) := K1127.out.below hb1129
              have O1139 : Hid (Src (wa1129) (some ⟨wa1108.heap.size, 0, none⟩) [.slice (some ⟨wa974.heap.size, 0, none⟩) 6 6, .slice g428 l1 c428, .slice (some ⟨w1.heap.size, 0, none⟩) 1 1, .slice g738 l2 c738, .slice g974 4 c974, .slice g1097 4 c1097]) := O1128.out.below hb1129
              have C1140 : Hid (World.ownsRow (wa1129) (w.heap.size + 1) 5 1 (.slice g1129 tl c1129) tl (cellsB tot)) := own_mono o1129 (show w.heap.size + 1 ≤ _ from World.block_lt_of_cell? _ _ (X1120.out 0 _ rfl).1)
              have Cs1141 : Hid (Src (wa1129) g1129 (cellsB tot)) := s1129
              clear o1129 hb1129 s1129
              clear e0 e1 e2 e3 e4
              obtain ⟨e0, e1, e2, e3, e4⟩ := cells5 X1131.out
              refine hK _ _ ⟨e0, e1, e2, e3, e4⟩ (fun hHeld => ?_)
              clear hK K
              refine wpAnyH_ready (rs := [15]) (by kernel_rfl) (by simp) ?_
              refine AllReadyH.cons rfl (fun K hK => ?_) AllReadyH.nil
              go_simp
              clear e0 e1 e2 e3 e4
              obtain ⟨e0, e1, e2, e3, e4⟩ := cells5 X1131.out
              refine hK _ _ ⟨e0, e1, e2, e3, e4⟩ (fun hHeld => ?_)
              clear hK K
              refine wpAnyH_ready (rs := [16]) (by kernel_rfl) (by simp) ?_
              refine AllReadyH.cons rfl (fun K hK => ?_) AllReadyH.nil
              go_simp
              clear e0 e1 e2 e3 e4
              obtain ⟨e0, e1, e2, e3, e4⟩ := cells5 X1131.out
              refine hK _ _ ⟨e0, e1, e2, e3, e4⟩ (fun hHeld => ?_)
              clear hK K
              refine wpAnyH_done (by kernel_rfl) ?_ _
              refine NoPanic.normal ?_
              clear e0 e1 e2 e3 e4
              clear hHeld
              have FIN : Hid ((wa1129).ownsRow w.heap.size 5 1 (.slice g1129 tl c1129) tot.length (cellsB tot)) := by rw [CT.out.2]; exact own_mono C1140.out (by omega)
              go_wp2_with fail
              go_ret2
              exact ⟨.slice g1129 tl c1129, tot, 0, rfl, FF.out, FIN.out, by rw [CT.out.2]; omega, B1130.out⟩
        · skip
          go_simp
          refine (backupLink F T cx sx a n c M (wa974) hF hT hc hx HM.out hn HS.out (Src.below (w := w) HH.out (B975.out)) T977.out).mono ?_
          rw [LK.out]
          rintro e wa1142 ⟨rfl, hb1142⟩
          dsimp only
          have B1143 : Hid (Below w.heap.size w (wa1142)) := (B975.out).trans (hb1142.mono (B975.out).size)
          have X1144 : Hid (Box (wa1142) w.heap.size (bx5 F T cx sx a n c)) := X976.out.below hb1142
          have T1145 : Hid (HasHalf (wa1142)) := T977.out.below hb1142
          have Y1146 : Hid (Src (wa1142) (some ⟨w1.heap.size, 0, none⟩) (cellsB [n])) := Y978.out.below hb1142
          have H1147 : Hid (Src (wa1142) g428 (cellsB hd)) := H979.out.below hb1142
          have P1148 : Hid (Src (wa1142) g738 (cellsB pt)) := P980.out.below hb1142
          have N1149 : Hid (Src (wa1142) g974 (cellsB (numQ sx))) := N981.out.below hb1142
          clear hb1142
          clear e0 e1 e2 e3 e4
          obtain ⟨e0, e1, e2, e3, e4⟩ := cells5 X1144.out
          refine hK _ _ ⟨e0, e1, e2, e3, e4⟩ (fun hHeld => ?_)
          clear hK K
          refine wpAnyH_ready (rs := [0, 12]) (by kernel_rfl) (by simp) ?_
          refine AllReadyH.cons rfl (fun K hK => ?_) (AllReadyH.cons rfl (fun K hK => ?_) AllReadyH.nil)
          · skip
            go_simp
            have B1150 : Hid (Below w.heap.size w (((wa1142).alloc mkO))) := B1143.out.alloc B1143.out.size _
            have X1151 : Hid (Box (((wa1142).alloc mkO)) w.heap.size (bx5 F T cx sx a n c)) := Box.old (w := wa1142) X1144.out _
            have T1152 : Hid (HasHalf (((wa1142).alloc mkO))) := HasHalf.below (w := wa1142) T1145.out (((Below.refl _ (wa1142)).alloc (Nat.le_refl _) mkO))
            have Y1153 : Hid (Src (((wa1142).alloc mkO)) (some ⟨w1.heap.size, 0, none⟩) (cellsB [n])) := Src.below (w := wa1142) Y1146.out (((Below.refl _ (wa1142)).alloc (Nat.le_refl _) mkO))
            have H1154 : Hid (Src (((wa1142).alloc mkO)) g428 (cellsB hd)) := Src.below (w := wa1142) H1147.out (((Below.refl _ (wa1142)).alloc (Nat.le_refl _) mkO))
            have P1155 : Hid (Src (((wa1142).alloc mkO)) g738 (cellsB pt)) := Src.below (w := wa1142) P1148.out (((Below.refl _ (wa1142)).alloc (Nat.le_refl _) mkO))
            have N1156 : Hid (Src (((wa1142).alloc mkO)) g974 (cellsB (numQ sx))) := Src.below (w := wa1142) N1149.out (((Below.refl _ (wa1142)).alloc (Nat.le_refl _) mkO))
            have A1157 : Hid (Src (((wa1142).alloc mkO)) (some ⟨wa1142.heap.size, 0, none⟩) (cellsB [98, 97, 99, 107, 117, 112])) := src_6B (w := wa1142) (by simp)
            have Q1158 : Hid ((((wa1142).alloc mkO)).heap[wa1142.heap.size]? = some mkO) := (heap_at_alloc (wa1142) _ (by simp))
            have GG1159 : Hid (w.heap.size < wa1142.heap.size) := by show _ < _; have h9 := World.block_lt_of_cell? _ _ (X1144.out 0 _ rfl).1; simpa using h9
            clear e0 e1 e2 e3 e4
            obtain ⟨e0, e1, e2, e3, e4⟩ := cells5 X1151.out
            refine hK _ _ ⟨e0, e1, e2, e3, e4⟩ (fun hHeld => ?_)
            clear hK K
            refine wpAnyH_ready (rs := [1, 12]) (by kernel_rfl) (by simp) ?_
            refine AllReadyH.cons rfl (fun K hK => ?_) (AllReadyH.cons rfl (fun K hK => ?_) AllReadyH.nil)
            · skip
              obtain ⟨wa1160, hcv1160, fz1160⟩ : ∃ W2, (convert 55 55 (.slice (some ⟨wa1142.heap.size, 0, none⟩) 6 6)).run Tryz.prog (((wa1142).alloc mkO)) = .ok (.slice (some ⟨wa1142.heap.size, 0, none⟩) 6 6) W2 ∧ Frozen (((wa1142).alloc mkO)) W2 (wa1142.heap.size) := ⟨_, convert_const_at (((wa1142).alloc mkO)) (wa1142.heap.size) _ 6 6 Q1158.out, frozen_freeze _ _ _⟩
              have FZ1160 : Hid (Frozen (((wa1142).alloc mkO)) wa1160 (wa1142.heap.size)) := fz1160
              clear fz1160
              go_simp
              have B1161 : Hid (Below w.heap.size w (wa1160)) := below_frozen (B1150.out) FZ1160.out (Nat.le_of_lt GG1159.out)
              have X1162 : Hid (Box (wa1160) w.heap.size (bx5 F T cx sx a n c)) := box_frozen (w := ((wa1142).alloc mkO)) X1151.out FZ1160.out (Nat.ne_of_lt GG1159.out)
              have T1163 : Hid (HasHalf (wa1160)) := half_frozen (w := ((wa1142).alloc mkO)) T1152.out FZ1160.out
              have Y1164 : Hid (Src (wa1160) (some ⟨w1.heap.size, 0, none⟩) (cellsB [n])) := src_frozen (w := ((wa1142).alloc mkO)) Y1153.out FZ1160.out
              have H1165 : Hid (Src (wa1160) g428 (cellsB hd)) := src_frozen (w := ((wa1142).alloc mkO)) H1154.out FZ1160.out
              have P1166 : Hid (Src (wa1160) g738 (cellsB pt)) := src_frozen (w := ((wa1142).alloc mkO)) P1155.out FZ1160.out
              have N1167 : Hid (Src (wa1160) g974 (cellsB (numQ sx))) := src_frozen (w := ((wa1142).alloc mkO)) N1156.out FZ1160.out
              have A1168 : Hid (Src (wa1160) (some ⟨wa1142.heap.size, 0, none⟩) (cellsB [98, 97, 99, 107, 117, 112])) := src_frozen (w := ((wa1142).alloc mkO)) A1157.out FZ1160.out
              clear hcv1160
              clear e0 e1 e2 e3 e4
              obtain ⟨e0, e1, e2, e3, e4⟩ := cells5 X1162.out
              refine hK _ _ ⟨e0, e1, e2, e3, e4⟩ (fun hHeld => ?_)
              clear hK K
              refine wpAnyH_ready (rs := [12]) (by kernel_rfl) (by simp) ?_
              refine AllReadyH.cons rfl (fun K hK => ?_) AllReadyH.nil
              go_simp
              refine (numberBytesV lk (wa1160) hlk2).mono ?_
              rintro e wa1169 ⟨va1169, rfl, o1169, hb1169⟩
              obtain ⟨g1169, c1169, rfl, s1169, _⟩ := own_src o1169
              dsimp only
              have B1170 : Hid (Below w.heap.size w (wa1169)) := (B1161.out).trans (hb1169.mono (B1161.out).size)
              have X1171 : Hid (Box (wa1169) w.heap.size (bx5 F T cx sx a n c)) := X1162.out.below hb1169
              have T1172 : Hid (HasHalf (wa1169)) := T1163.out.below hb1169
              have Y1173 : Hid (Src (wa1169) (some ⟨w1.heap.size, 0, none⟩) (cellsB [n])) := Y1164.out.below hb1169
              have H1174 : Hid (Src (wa1169) g428 (cellsB hd)) := H1165.out.below hb1169
              have P1175 : Hid (Src (wa1169) g738 (cellsB pt)) := P1166.out.below hb1169
              have N1176 : Hid (Src (wa1169) g974 (cellsB (numQ sx))) := N1167.out.below hb1169
              have A1177 : Hid (Src (wa1169) (some ⟨wa1142.heap.size, 0, none⟩) (cellsB [98, 97, 99, 107, 117, 112])) := A1168.out.below hb1169
              have K1178 : Hid (Src (wa1169) g1169 (cellsB (numQ lk))) := s1169
              clear o1169 hb1169 s1169
              clear e0 e1 e2 e3 e4
              obtain ⟨e0, e1, e2, e3, e4⟩ := cells5 X1171.out
              refine hK _ _ ⟨e0, e1, e2, e3, e4⟩ (fun hHeld => ?_)
              clear hK K
              refine wpAnyH_ready (rs := [13]) (by kernel_rfl) (by simp) ?_
              refine AllReadyH.cons rfl (fun K hK => ?_) AllReadyH.nil
              go_simp
              obtain ⟨wa1179, hwo1179, hb1179, so1179⟩ : ∃ W2, (wa1169).alloc (.cells #[.slice (some ⟨wa1142.heap.size, 0, none⟩) 6 6, .slice g428 l1 c428, .slice (some ⟨w1.heap.size, 0, none⟩) 1 1, .slice g738 l2 c738, .slice g974 4 c974, .slice g1169 4 c1169] 55) = W2 ∧ Below (wa1169).heap.size (wa1169) W2 ∧ Src W2 (some ⟨wa1169.heap.size, 0, none⟩) [.slice (some ⟨wa1142.heap.size, 0, none⟩) 6 6, .slice g428 l1 c428, .slice (some ⟨w1.heap.size, 0, none⟩) 1 1, .slice g738 l2 c738, .slice g974 4 c974, .slice g1169 4 c1169] := ⟨_, rfl, (Below.refl _ _).alloc (Nat.le_refl _) _, src_vals (xs := [.slice (some ⟨wa1142.heap.size, 0, none⟩) 6 6, .slice g428 l1 c428, .slice (some ⟨w1.heap.size, 0, none⟩) 1 1, .slice g738 l2 c738, .slice g974 4 c974, .slice g1169 4 c1169]) rfl⟩
              rw [hwo1179]
              have B1180 : Hid (Below w.heap.size w (wa1179)) := (B1170.out).trans (hb1179.mono (B1170.out).size)
              have X1181 : Hid (Box (wa1179) w.heap.size (bx5 F T cx sx a n c)) := X1171.out.below hb1179
              have T1182 : Hid (HasHalf (wa1179)) := T1172.out.below hb1179
              have Y1183 : Hid (Src (wa1179) (some ⟨w1.heap.size, 0, none⟩) (cellsB [n])) := Y1173.out.below hb1179
              have H1184 : Hid (Src (wa1179) g428 (cellsB hd)) := H1174.out.below hb1179
              have P1185 : Hid (Src (wa1179) g738 (cellsB pt)) := P1175.out.below hb1179
              have N1186 : Hid (Src (wa1179) g974 (cellsB (numQ sx))) := N1176.out.below hb1179
              have A1187 : Hid (Src (wa1179) (some ⟨wa1142.heap.size, 0, none⟩) (cellsB [98, 97, 99, 107, 117, 112])) := A1177.out.below hb1179
              have K1188 : Hid (Src (wa1179) g1169 (cellsB (numQ lk))) := K1178.out.below hb1179
              have O1189 : Hid (Src (wa1179) (some ⟨wa1169.heap.size, 0, none⟩) [.slice (some ⟨wa1142.heap.size, 0, none⟩) 6 6, .slice g428 l1 c428, .slice (some ⟨w1.heap.size, 0, none⟩) 1 1, .slice g738 l2 c738, .slice g974 4 c974, .slice g1169 4 c1169]) := so1179
              clear hwo1179 hb1179 so1179
              clear e0 e1 e2 e3 e4
              obtain ⟨e0, e1, e2, e3, e4⟩ := cells5 X1181.out
              refine hK _ _ ⟨e0, e1, e2, e3, e4⟩ (fun hHeld => ?_)
              clear hK K
              refine wpAnyH_ready (rs := [14]) (by kernel_rfl) (by simp) ?_
              refine AllReadyH.cons rfl (fun K hK => ?_) AllReadyH.nil
              have HRC : Hid (∀ i, i < 6 → ∃ a c, ([.slice (some ⟨wa1142.heap.size, 0, none⟩) 6 6, .slice g428 l1 c428, .slice (some ⟨w1.heap.size, 0, none⟩) 1 1, .slice g738 l2 c738, .slice g974 4 c974, .slice g1169 4 c1169] : List Value).getD i undef = .slice a ((fun i => [[98, 97, 99, 107, 117, 112], hd, [n], pt, numQ sx, numQ lk].getD i []) i).length c ∧ Src (wa1179) a (cellsB ((fun i => [[98, 97, 99, 107, 117, 112], hd, [n], pt, numQ sx, numQ lk].getD i []) i))) := fun i hi => by
                match i, hi with
                | 0, _ => exact ⟨(some ⟨wa1142.heap.size, 0, none⟩), 6, rfl, A1187.out⟩
                | 1, _ => exact ⟨g428, c428, by show Value.slice g428 l1 c428 = Value.slice g428 (hd).length c428; rw [L1.out], H1184.out⟩
                | 2, _ => exact ⟨(some ⟨w1.heap.size, 0, none⟩), 1, rfl, Y1183.out⟩
                | 3, _ => exact ⟨g738, c738, by show Value.slice g738 l2 c738 = Value.slice g738 (pt).length c738; rw [L2.out], P1185.out⟩
                | 4, _ => exact ⟨g974, c974, rfl, N1186.out⟩
                | 5, _ => exact ⟨g1169, c1169, rfl, K1188.out⟩
              have CC : Hid (Calls Tryz.prog 61 #[.slice (some ⟨wa1169.heap.size, 0, none⟩) 6 6] (wa1179) fun e w' => ∃ v, e = .returned v ∧ w'.ownsRow (wa1179).heap.size 5 1 v tl (cellsB tot) ∧ Below (wa1179).heap.size (wa1179) w') := by
                have h9 := slicesConcat (some ⟨wa1169.heap.size, 0, none⟩) 6 6 [.slice (some ⟨wa1142.heap.size, 0, none⟩) 6 6, .slice g428 l1 c428, .slice (some ⟨w1.heap.size, 0, none⟩) 1 1, .slice g738 l2 c738, .slice g974 4 c974, .slice g1169 4 c1169] (fun i => [[98, 97, 99, 107, 117, 112], hd, [n], pt, numQ sx, numQ lk].getD i []) (wa1179) rfl (by omega) (by rw [CT.out.1, CT.out.2]; omega) (by rw [CT.out.1, CT.out.2]; omega) O1189.out HRC.out
                rw [CT.out.1, CT.out.2] at h9
                exact h9
              clear HRC
              go_simp
              refine CC.out.mono ?_
              rintro e wa1190 ⟨va1190, rfl, o1190, hb1190⟩
              obtain ⟨g1190, c1190, rfl, s1190, _⟩ := own_src o1190
              clear CC
              dsimp only
              have B1191 : Hid (Below w.heap.size w (wa1190)) := (B1180.out).trans (hb1190.mono (B1180.out).size)
              have X1192 : Hid (Box (wa1190) w.heap.size (bx5 F T cx sx a n c)) := X1181.out.below hb1190
              have T1193 : Hid (HasHalf (wa1190)) := T1182.out.below hb1190
              have Y1194 : Hid (Src (wa1190) (some ⟨w1.heap.size, 0, none⟩) (cellsB [n])) := Y1183.out.below hb1190
              have H1195 : Hid (Src (wa1190) g428 (cellsB hd)) := H1184.out.below hb1190
              have P1196 : Hid (Src (wa1190) g738 (cellsB pt)) := P1185.out.below hb1190
              have N1197 : Hid (Src (wa1190) g974 (cellsB (numQ sx))) := N1186.out.below hb1190
              have A1198 : Hid (Src (wa1190) (some ⟨wa1142.heap.size, 0, none⟩) (cellsB [98, 97, 99, 107, 117, 112])) := A1187.out.below hb1190
              have K1199 : Hid (Src (wa1190) g1169 (cellsB (numQ lk))) := K1188.out.below hb1190
              have O1200 : Hid (Src (wa1190) (some ⟨wa1169.heap.size, 0, none⟩) [.slice (some ⟨wa1142.heap.size, 0, none⟩) 6 6, .slice g428 l1 c428, .slice (some ⟨w1.heap.size, 0, none⟩) 1 1, .slice g738 l2 c738, .slice g974 4 c974, .slice g1169 4 c1169]) := O1189.out.below hb1190
              have C1201 : Hid (World.ownsRow (wa1190) (w.heap.size + 1) 5 1 (.slice g1190 tl c1190) tl (cellsB tot)) := own_mono o1190 (show w.heap.size + 1 ≤ _ from World.block_lt_of_cell? _ _ (X1181.out 0 _ rfl).1)
              have Cs1202 : Hid (Src (wa1190) g1190 (cellsB tot)) := s1190
              clear o1190 hb1190 s1190
              clear e0 e1 e2 e3 e4
              obtain ⟨e0, e1, e2, e3, e4⟩ := cells5 X1192.out
              refine hK _ _ ⟨e0, e1, e2, e3, e4⟩ (fun hHeld => ?_)
              clear hK K
              refine wpAnyH_ready (rs := [15]) (by kernel_rfl) (by simp) ?_
              refine AllReadyH.cons rfl (fun K hK => ?_) AllReadyH.nil
              go_simp
              clear e0 e1 e2 e3 e4
              obtain ⟨e0, e1, e2, e3, e4⟩ := cells5 X1192.out
              refine hK _ _ ⟨e0, e1, e2, e3, e4⟩ (fun hHeld => ?_)
              clear hK K
              refine wpAnyH_ready (rs := [16]) (by kernel_rfl) (by simp) ?_
              refine AllReadyH.cons rfl (fun K hK => ?_) AllReadyH.nil
              go_simp
              clear e0 e1 e2 e3 e4
              obtain ⟨e0, e1, e2, e3, e4⟩ := cells5 X1192.out
              refine hK _ _ ⟨e0, e1, e2, e3, e4⟩ (fun hHeld => ?_)
              clear hK K
              refine wpAnyH_done (by kernel_rfl) ?_ _
              refine NoPanic.normal ?_
              clear e0 e1 e2 e3 e4
              clear hHeld
              have FIN : Hid ((wa1190).ownsRow w.heap.size 5 1 (.slice g1190 tl c1190) tot.length (cellsB tot)) := by rw [CT.out.2]; exact own_mono C1201.out (by omega)
              go_wp2_with fail
              go_ret2
              exact ⟨.slice g1190 tl c1190, tot, 0, rfl, FF.out, FIN.out, by rw [CT.out.2]; omega, B1191.out⟩
            · skip
              go_simp
              refine (numberBytesV lk (((wa1142).alloc mkO)) hlk2).mono ?_
              rintro e wa1203 ⟨va1203, rfl, o1203, hb1203⟩
              obtain ⟨g1203, c1203, rfl, s1203, _⟩ := own_src o1203
              dsimp only
              have B1204 : Hid (Below w.heap.size w (wa1203)) := (B1150.out).trans (hb1203.mono (B1150.out).size)
              have X1205 : Hid (Box (wa1203) w.heap.size (bx5 F T cx sx a n c)) := X1151.out.below hb1203
              have T1206 : Hid (HasHalf (wa1203)) := T1152.out.below hb1203
              have Y1207 : Hid (Src (wa1203) (some ⟨w1.heap.size, 0, none⟩) (cellsB [n])) := Y1153.out.below hb1203
              have H1208 : Hid (Src (wa1203) g428 (cellsB hd)) := H1154.out.below hb1203
              have P1209 : Hid (Src (wa1203) g738 (cellsB pt)) := P1155.out.below hb1203
              have N1210 : Hid (Src (wa1203) g974 (cellsB (numQ sx))) := N1156.out.below hb1203
              have A1211 : Hid (Src (wa1203) (some ⟨wa1142.heap.size, 0, none⟩) (cellsB [98, 97, 99, 107, 117, 112])) := A1157.out.below hb1203
              have Q1212 : Hid ((wa1203).heap[wa1142.heap.size]? = some mkO) := blk_below (w := ((wa1142).alloc mkO)) Q1158.out hb1203
              have K1213 : Hid (Src (wa1203) g1203 (cellsB (numQ lk))) := s1203
              clear o1203 hb1203 s1203
              clear e0 e1 e2 e3 e4
              obtain ⟨e0, e1, e2, e3, e4⟩ := cells5 X1205.out
              refine hK _ _ ⟨e0, e1, e2, e3, e4⟩ (fun hHeld => ?_)
              clear hK K
              refine wpAnyH_ready (rs := [1]) (by kernel_rfl) (by simp) ?_
              refine AllReadyH.cons rfl (fun K hK => ?_) AllReadyH.nil
              obtain ⟨wa1214, hcv1214, fz1214⟩ : ∃ W2, (convert 55 55 (.slice (some ⟨wa1142.heap.size, 0, none⟩) 6 6)).run Tryz.prog (wa1203) = .ok (.slice (some ⟨wa1142.heap.size, 0, none⟩) 6 6) W2 ∧ Frozen (wa1203) W2 (wa1142.heap.size) := ⟨_, convert_const_at (wa1203) (wa1142.heap.size) _ 6 6 Q1212.out, frozen_freeze _ _ _⟩
              have FZ1214 : Hid (Frozen (wa1203) wa1214 (wa1142.heap.size)) := fz1214
              clear fz1214
              go_simp
              have B1215 : Hid (Below w.heap.size w (wa1214)) := below_frozen (B1204.out) FZ1214.out (Nat.le_of_lt GG1159.out)
              have X1216 : Hid (Box (wa1214) w.heap.size (bx5 F T cx sx a n c)) := box_frozen (w := wa1203) X1205.out FZ1214.out (Nat.ne_of_lt GG1159.out)
              have T1217 : Hid (HasHalf (wa1214)) := half_frozen (w := wa1203) T1206.out FZ1214.out
              have Y1218 : Hid (Src (wa1214) (some ⟨w1.heap.size, 0, none⟩) (cellsB [n])) := src_frozen (w := wa1203) Y1207.out FZ1214.out
              have H1219 : Hid (Src (wa1214) g428 (cellsB hd)) := src_frozen (w := wa1203) H1208.out FZ1214.out
              have P1220 : Hid (Src (wa1214) g738 (cellsB pt)) := src_frozen (w := wa1203) P1209.out FZ1214.out
              have N1221 : Hid (Src (wa1214) g974 (cellsB (numQ sx))) := src_frozen (w := wa1203) N1210.out FZ1214.out
              have A1222 : Hid (Src (wa1214) (some ⟨wa1142.heap.size, 0, none⟩) (cellsB [98, 97, 99, 107, 117, 112])) := src_frozen (w := wa1203) A1211.out FZ1214.out
              have K1223 : Hid (Src (wa1214) g1203 (cellsB (numQ lk))) := src_frozen (w := wa1203) K1213.out FZ1214.out
              clear hcv1214
              clear e0 e1 e2 e3 e4
              obtain ⟨e0, e1, e2, e3, e4⟩ := cells5 X1216.out
              refine hK _ _ ⟨e0, e1, e2, e3, e4⟩ (fun hHeld => ?_)
              clear hK K
              refine wpAnyH_ready (rs := [13]) (by kernel_rfl) (by simp) ?_
              refine AllReadyH.cons rfl (fun K hK => ?_) AllReadyH.nil
              go_simp
              obtain ⟨wa1224, hwo1224, hb1224, so1224⟩ : ∃ W2, (wa1214).alloc (.cells #[.slice (some ⟨wa1142.heap.size, 0, none⟩) 6 6, .slice g428 l1 c428, .slice (some ⟨w1.heap.size, 0, none⟩) 1 1, .slice g738 l2 c738, .slice g974 4 c974, .slice g1203 4 c1203] 55) = W2 ∧ Below (wa1214).heap.size (wa1214) W2 ∧ Src W2 (some ⟨wa1214.heap.size, 0, none⟩) [.slice (some ⟨wa1142.heap.size, 0, none⟩) 6 6, .slice g428 l1 c428, .slice (some ⟨w1.heap.size, 0, none⟩) 1 1, .slice g738 l2 c738, .slice g974 4 c974, .slice g1203 4 c1203] := ⟨_, rfl, (Below.refl _ _).alloc (Nat.le_refl _) _, src_vals (xs := [.slice (some ⟨wa1142.heap.size, 0, none⟩) 6 6, .slice g428 l1 c428, .slice (some ⟨w1.heap.size, 0, none⟩) 1 1, .slice g738 l2 c738, .slice g974 4 c974, .slice g1203 4 c1203]) rfl⟩
              rw [hwo1224]
              have B1225 : Hid (Below w.heap.size w (wa1224)) := (B1215.out).trans (hb1224.mono (B1215.out).size)
              have X1226 : Hid (Box (wa1224) w.heap.size (bx5 F T cx sx a n c)) := X1216.out.below hb1224
              have T1227 : Hid (HasHalf (wa1224)) := T1217.out.below hb1224
              have Y1228 : Hid (Src (wa1224) (some ⟨w1.heap.size, 0, none⟩) (cellsB [n])) := Y1218.out.below hb1224
              have H1229 : Hid (Src (wa1224) g428 (cellsB hd)) := H1219.out.below hb1224
              have P1230 : Hid (Src (wa1224) g738 (cellsB pt)) := P1220.out.below hb1224
              have N1231 : Hid (Src (wa1224) g974 (cellsB (numQ sx))) := N1221.out.below hb1224
              have A1232 : Hid (Src (wa1224) (some ⟨wa1142.heap.size, 0, none⟩) (cellsB [98, 97, 99, 107, 117, 112])) := A1222.out.below hb1224
              have K1233 : Hid (Src (wa1224) g1203 (cellsB (numQ lk))) := K1223.out.below hb1224
              have O1234 : Hid (Src (wa1224) (some ⟨wa1214.heap.size, 0, none⟩) [.slice (some ⟨wa1142.heap.size, 0, none⟩) 6 6, .slice g428 l1 c428, .slice (some ⟨w1.heap.size, 0, none⟩) 1 1, .slice g738 l2 c738, .slice g974 4 c974, .slice g1203 4 c1203]) := so1224
              clear hwo1224 hb1224 so1224
              clear e0 e1 e2 e3 e4
              obtain ⟨e0, e1, e2, e3, e4⟩ := cells5 X1226.out
              refine hK _ _ ⟨e0, e1, e2, e3, e4⟩ (fun hHeld => ?_)
              clear hK K
              refine wpAnyH_ready (rs := [14]) (by kernel_rfl) (by simp) ?_
              refine AllReadyH.cons rfl (fun K hK => ?_) AllReadyH.nil
              have HRC : Hid (∀ i, i < 6 → ∃ a c, ([.slice (some ⟨wa1142.heap.size, 0, none⟩) 6 6, .slice g428 l1 c428, .slice (some ⟨w1.heap.size, 0, none⟩) 1 1, .slice g738 l2 c738, .slice g974 4 c974, .slice g1203 4 c1203] : List Value).getD i undef = .slice a ((fun i => [[98, 97, 99, 107, 117, 112], hd, [n], pt, numQ sx, numQ lk].getD i []) i).length c ∧ Src (wa1224) a (cellsB ((fun i => [[98, 97, 99, 107, 117, 112], hd, [n], pt, numQ sx, numQ lk].getD i []) i))) := fun i hi => by
                match i, hi with
                | 0, _ => exact ⟨(some ⟨wa1142.heap.size, 0, none⟩), 6, rfl, A1232.out⟩
                | 1, _ => exact ⟨g428, c428, by show Value.slice g428 l1 c428 = Value.slice g428 (hd).length c428; rw [L1.out], H1229.out⟩
                | 2, _ => exact ⟨(some ⟨w1.heap.size, 0, none⟩), 1, rfl, Y1228.out⟩
                | 3, _ => exact ⟨g738, c738, by show Value.slice g738 l2 c738 = Value.slice g738 (pt).length c738; rw [L2.out], P1230.out⟩
                | 4, _ => exact ⟨g974, c974, rfl, N1231.out⟩
                | 5, _ => exact ⟨g1203, c1203, rfl, K1233.out⟩
              have CC : Hid (Calls Tryz.prog 61 #[.slice (some ⟨wa1214.heap.size, 0, none⟩) 6 6] (wa1224) fun e w' => ∃ v, e = .returned v ∧ w'.ownsRow (wa1224).heap.size 5 1 v tl (cellsB tot) ∧ Below (wa1224).heap.size (wa1224) w') := by
                have h9 := slicesConcat (some ⟨wa1214.heap.size, 0, none⟩) 6 6 [.slice (some ⟨wa1142.heap.size, 0, none⟩) 6 6, .slice g428 l1 c428, .slice (some ⟨w1.heap.size, 0, none⟩) 1 1, .slice g738 l2 c738, .slice g974 4 c974, .slice g1203 4 c1203] (fun i => [[98, 97, 99, 107, 117, 112], hd, [n], pt, numQ sx, numQ lk].getD i []) (wa1224) rfl (by omega) (by rw [CT.out.1, CT.out.2]; omega) (by rw [CT.out.1, CT.out.2]; omega) O1234.out HRC.out
                rw [CT.out.1, CT.out.2] at h9
                exact h9
              clear HRC
              go_simp
              refine CC.out.mono ?_
              rintro e wa1235 ⟨va1235, rfl, o1235, hb1235⟩
              obtain ⟨g1235, c1235, rfl, s1235, _⟩ := own_src o1235
              clear CC
              dsimp only
              have B1236 : Hid (Below w.heap.size w (wa1235)) := (B1225.out).trans (hb1235.mono (B1225.out).size)
              have X1237 : Hid (Box (wa1235) w.heap.size (bx5 F T cx sx a n c)) := X1226.out.below hb1235
              have T1238 : Hid (HasHalf (wa1235)) := T1227.out.below hb1235
              have Y1239 : Hid (Src (wa1235) (some ⟨w1.heap.size, 0, none⟩) (cellsB [n])) := Y1228.out.below hb1235
              have H1240 : Hid (Src (wa1235) g428 (cellsB hd)) := H1229.out.below hb1235
              have P1241 : Hid (Src (wa1235) g738 (cellsB pt)) := P1230.out.below hb1235
              have N1242 : Hid (Src (wa1235) g974 (cellsB (numQ sx))) := N1231.out.below hb1235
              have A1243 : Hid (Src (wa1235) (some ⟨wa1142.heap.size, 0, none⟩) (cellsB [98, 97, 99, 107, 117, 112])) := A1232.out.below hb1235
              have K1244 : Hid (Src (wa1235) g1203 (cellsB (numQ lk))) := K1233.out.below hb1235
              have O1245 : Hid (Src (wa1235) (some ⟨wa1214.heap.size, 0, none⟩) [.slice (some ⟨wa1142.heap.size, 0, none⟩) 6 6, .slice g428 l1 c428, .slice (some ⟨w1.heap.size, 0, none⟩) 1 1, .slice g738 l2 c738, .slice g974 4 c974, .slice g1203 4 c1203]) := O1234.out.below hb1235
              have C1246 : Hid (World.ownsRow (wa1235) (w.heap.size + 1) 5 1 (.slice g1235 tl c1235) tl (cellsB tot)) := own_mono o1235 (show w.heap.size + 1 ≤ _ from World.block_lt_of_cell? _ _ (X1226.out 0 _ rfl).1)
              have Cs1247 : Hid (Src (wa1235) g1235 (cellsB tot)) := s1235
              clear o1235 hb1235 s1235
              clear e0 e1 e2 e3 e4
              obtain ⟨e0, e1, e2, e3, e4⟩ := cells5 X1237.out
              refine hK _ _ ⟨e0, e1, e2, e3, e4⟩ (fun hHeld => ?_)
              clear hK K
              refine wpAnyH_ready (rs := [15]) (by kernel_rfl) (by simp) ?_
              refine AllReadyH.cons rfl (fun K hK => ?_) AllReadyH.nil
              go_simp
              clear e0 e1 e2 e3 e4
              obtain ⟨e0, e1, e2, e3, e4⟩ := cells5 X1237.out
              refine hK _ _ ⟨e0, e1, e2, e3, e4⟩ (fun hHeld => ?_)
              clear hK K
              refine wpAnyH_ready (rs := [16]) (by kernel_rfl) (by simp) ?_
              refine AllReadyH.cons rfl (fun K hK => ?_) AllReadyH.nil
              go_simp
              clear e0 e1 e2 e3 e4
              obtain ⟨e0, e1, e2, e3, e4⟩ := cells5 X1237.out
              refine hK _ _ ⟨e0, e1, e2, e3, e4⟩ (fun hHeld => ?_)
              clear hK K
              refine wpAnyH_done (by kernel_rfl) ?_ _
              refine NoPanic.normal ?_
              clear e0 e1 e2 e3 e4
              clear hHeld
              have FIN : Hid ((wa1235).ownsRow w.heap.size 5 1 (.slice g1235 tl c1235) tot.length (cellsB tot)) := by rw [CT.out.2]; exact own_mono C1246.out (by omega)
              go_wp2_with fail
              go_ret2
              exact ⟨.slice g1235 tl c1235, tot, 0, rfl, FF.out, FIN.out, by rw [CT.out.2]; omega, B1236.out⟩
          · skip
            go_simp
            refine (numberBytesV lk (wa1142) hlk2).mono ?_
            rintro e wa1248 ⟨va1248, rfl, o1248, hb1248⟩
            obtain ⟨g1248, c1248, rfl, s1248, _⟩ := own_src o1248
            dsimp only
            have B1249 : Hid (Below w.heap.size w (wa1248)) := (B1143.out).trans (hb1248.mono (B1143.out).size)
            have X1250 : Hid (Box (wa1248) w.heap.size (bx5 F T cx sx a n c)) := X1144.out.below hb1248
            have T1251 : Hid (HasHalf (wa1248)) := T1145.out.below hb1248
            have Y1252 : Hid (Src (wa1248) (some ⟨w1.heap.size, 0, none⟩) (cellsB [n])) := Y1146.out.below hb1248
            have H1253 : Hid (Src (wa1248) g428 (cellsB hd)) := H1147.out.below hb1248
            have P1254 : Hid (Src (wa1248) g738 (cellsB pt)) := P1148.out.below hb1248
            have N1255 : Hid (Src (wa1248) g974 (cellsB (numQ sx))) := N1149.out.below hb1248
            have K1256 : Hid (Src (wa1248) g1248 (cellsB (numQ lk))) := s1248
            clear o1248 hb1248 s1248
            clear e0 e1 e2 e3 e4
            obtain ⟨e0, e1, e2, e3, e4⟩ := cells5 X1250.out
            refine hK _ _ ⟨e0, e1, e2, e3, e4⟩ (fun hHeld => ?_)
            clear hK K
            refine wpAnyH_ready (rs := [0]) (by kernel_rfl) (by simp) ?_
            refine AllReadyH.cons rfl (fun K hK => ?_) AllReadyH.nil
            go_simp
            have B1257 : Hid (Below w.heap.size w (((wa1248).alloc mkO))) := B1249.out.alloc B1249.out.size _
            have X1258 : Hid (Box (((wa1248).alloc mkO)) w.heap.size (bx5 F T cx sx a n c)) := Box.old (w := wa1248) X1250.out _
            have T1259 : Hid (HasHalf (((wa1248).alloc mkO))) := HasHalf.below (w := wa1248) T1251.out (((Below.refl _ (wa1248)).alloc (Nat.le_refl _) mkO))
            have Y1260 : Hid (Src (((wa1248).alloc mkO)) (some ⟨w1.heap.size, 0, none⟩) (cellsB [n])) := Src.below (w := wa1248) Y1252.out (((Below.refl _ (wa1248)).alloc (Nat.le_refl _) mkO))
            have H1261 : Hid (Src (((wa1248).alloc mkO)) g428 (cellsB hd)) := Src.below (w := wa1248) H1253.out (((Below.refl _ (wa1248)).alloc (Nat.le_refl _) mkO))
            have P1262 : Hid (Src (((wa1248).alloc mkO)) g738 (cellsB pt)) := Src.below (w := wa1248) P1254.out (((Below.refl _ (wa1248)).alloc (Nat.le_refl _) mkO))
            have N1263 : Hid (Src (((wa1248).alloc mkO)) g974 (cellsB (numQ sx))) := Src.below (w := wa1248) N1255.out (((Below.refl _ (wa1248)).alloc (Nat.le_refl _) mkO))
            have K1264 : Hid (Src (((wa1248).alloc mkO)) g1248 (cellsB (numQ lk))) := Src.below (w := wa1248) K1256.out (((Below.refl _ (wa1248)).alloc (Nat.le_refl _) mkO))
            have A1265 : Hid (Src (((wa1248).alloc mkO)) (some ⟨wa1248.heap.size, 0, none⟩) (cellsB [98, 97, 99, 107, 117, 112])) := src_6B (w := wa1248) (by simp)
            have Q1266 : Hid ((((wa1248).alloc mkO)).heap[wa1248.heap.size]? = some mkO) := (heap_at_alloc (wa1248) _ (by simp))
            have GG1267 : Hid (w.heap.size < wa1248.heap.size) := by show _ < _; have h9 := World.block_lt_of_cell? _ _ (X1250.out 0 _ rfl).1; simpa using h9
            clear e0 e1 e2 e3 e4
            obtain ⟨e0, e1, e2, e3, e4⟩ := cells5 X1258.out
            refine hK _ _ ⟨e0, e1, e2, e3, e4⟩ (fun hHeld => ?_)
            clear hK K
            refine wpAnyH_ready (rs := [1]) (by kernel_rfl) (by simp) ?_
            refine AllReadyH.cons rfl (fun K hK => ?_) AllReadyH.nil
            obtain ⟨wa1268, hcv1268, fz1268⟩ : ∃ W2, (convert 55 55 (.slice (some ⟨wa1248.heap.size, 0, none⟩) 6 6)).run Tryz.prog (((wa1248).alloc mkO)) = .ok (.slice (some ⟨wa1248.heap.size, 0, none⟩) 6 6) W2 ∧ Frozen (((wa1248).alloc mkO)) W2 (wa1248.heap.size) := ⟨_, convert_const_at (((wa1248).alloc mkO)) (wa1248.heap.size) _ 6 6 Q1266.out, frozen_freeze _ _ _⟩
            have FZ1268 : Hid (Frozen (((wa1248).alloc mkO)) wa1268 (wa1248.heap.size)) := fz1268
            clear fz1268
            go_simp
            have B1269 : Hid (Below w.heap.size w (wa1268)) := below_frozen (B1257.out) FZ1268.out (Nat.le_of_lt GG1267.out)
            have X1270 : Hid (Box (wa1268) w.heap.size (bx5 F T cx sx a n c)) := box_frozen (w := ((wa1248).alloc mkO)) X1258.out FZ1268.out (Nat.ne_of_lt GG1267.out)
            have T1271 : Hid (HasHalf (wa1268)) := half_frozen (w := ((wa1248).alloc mkO)) T1259.out FZ1268.out
            have Y1272 : Hid (Src (wa1268) (some ⟨w1.heap.size, 0, none⟩) (cellsB [n])) := src_frozen (w := ((wa1248).alloc mkO)) Y1260.out FZ1268.out
            have H1273 : Hid (Src (wa1268) g428 (cellsB hd)) := src_frozen (w := ((wa1248).alloc mkO)) H1261.out FZ1268.out
            have P1274 : Hid (Src (wa1268) g738 (cellsB pt)) := src_frozen (w := ((wa1248).alloc mkO)) P1262.out FZ1268.out
            have N1275 : Hid (Src (wa1268) g974 (cellsB (numQ sx))) := src_frozen (w := ((wa1248).alloc mkO)) N1263.out FZ1268.out
            have K1276 : Hid (Src (wa1268) g1248 (cellsB (numQ lk))) := src_frozen (w := ((wa1248).alloc mkO)) K1264.out FZ1268.out
            have A1277 : Hid (Src (wa1268) (some ⟨wa1248.heap.size, 0, none⟩) (cellsB [98, 97, 99, 107, 117, 112])) := src_frozen (w := ((wa1248).alloc mkO)) A1265.out FZ1268.out
            clear hcv1268
            clear e0 e1 e2 e3 e4
            obtain ⟨e0, e1, e2, e3, e4⟩ := cells5 X1270.out
            refine hK _ _ ⟨e0, e1, e2, e3, e4⟩ (fun hHeld => ?_)
            clear hK K
            refine wpAnyH_ready (rs := [13]) (by kernel_rfl) (by simp) ?_
            refine AllReadyH.cons rfl (fun K hK => ?_) AllReadyH.nil
            go_simp
            obtain ⟨wa1278, hwo1278, hb1278, so1278⟩ : ∃ W2, (wa1268).alloc (.cells #[.slice (some ⟨wa1248.heap.size, 0, none⟩) 6 6, .slice g428 l1 c428, .slice (some ⟨w1.heap.size, 0, none⟩) 1 1, .slice g738 l2 c738, .slice g974 4 c974, .slice g1248 4 c1248] 55) = W2 ∧ Below (wa1268).heap.size (wa1268) W2 ∧ Src W2 (some ⟨wa1268.heap.size, 0, none⟩) [.slice (some ⟨wa1248.heap.size, 0, none⟩) 6 6, .slice g428 l1 c428, .slice (some ⟨w1.heap.size, 0, none⟩) 1 1, .slice g738 l2 c738, .slice g974 4 c974, .slice g1248 4 c1248] := ⟨_, rfl, (Below.refl _ _).alloc (Nat.le_refl _) _, src_vals (xs := [.slice (some ⟨wa1248.heap.size, 0, none⟩) 6 6, .slice g428 l1 c428, .slice (some ⟨w1.heap.size, 0, none⟩) 1 1, .slice g738 l2 c738, .slice g974 4 c974, .slice g1248 4 c1248]) rfl⟩
            rw [hwo1278]
            have B1279 : Hid (Below w.heap.size w (wa1278)) := (B1269.out).trans (hb1278.mono (B1269.out).size)
            have X1280 : Hid (Box (wa1278) w.heap.size (bx5 F T cx sx a n c)) := X1270.out.below hb1278
            have T1281 : Hid (HasHalf (wa1278)) := T1271.out.below hb1278
            have Y1282 : Hid (Src (wa1278) (some ⟨w1.heap.size, 0, none⟩) (cellsB [n])) := Y1272.out.below hb1278
            have H1283 : Hid (Src (wa1278) g428 (cellsB hd)) := H1273.out.below hb1278
            have P1284 : Hid (Src (wa1278) g738 (cellsB pt)) := P1274.out.below hb1278
            have N1285 : Hid (Src (wa1278) g974 (cellsB (numQ sx))) := N1275.out.below hb1278
            have K1286 : Hid (Src (wa1278) g1248 (cellsB (numQ lk))) := K1276.out.below hb1278
            have A1287 : Hid (Src (wa1278) (some ⟨wa1248.heap.size, 0, none⟩) (cellsB [98, 97, 99, 107, 117, 112])) := A1277.out.below hb1278
            have O1288 : Hid (Src (wa1278) (some ⟨wa1268.heap.size, 0, none⟩) [.slice (some ⟨wa1248.heap.size, 0, none⟩) 6 6, .slice g428 l1 c428, .slice (some ⟨w1.heap.size, 0, none⟩) 1 1, .slice g738 l2 c738, .slice g974 4 c974, .slice g1248 4 c1248]) := so1278
            clear hwo1278 hb1278 so1278
            clear e0 e1 e2 e3 e4
            obtain ⟨e0, e1, e2, e3, e4⟩ := cells5 X1280.out
            refine hK _ _ ⟨e0, e1, e2, e3, e4⟩ (fun hHeld => ?_)
            clear hK K
            refine wpAnyH_ready (rs := [14]) (by kernel_rfl) (by simp) ?_
            refine AllReadyH.cons rfl (fun K hK => ?_) AllReadyH.nil
            have HRC : Hid (∀ i, i < 6 → ∃ a c, ([.slice (some ⟨wa1248.heap.size, 0, none⟩) 6 6, .slice g428 l1 c428, .slice (some ⟨w1.heap.size, 0, none⟩) 1 1, .slice g738 l2 c738, .slice g974 4 c974, .slice g1248 4 c1248] : List Value).getD i undef = .slice a ((fun i => [[98, 97, 99, 107, 117, 112], hd, [n], pt, numQ sx, numQ lk].getD i []) i).length c ∧ Src (wa1278) a (cellsB ((fun i => [[98, 97, 99, 107, 117, 112], hd, [n], pt, numQ sx, numQ lk].getD i []) i))) := fun i hi => by
              match i, hi with
              | 0, _ => exact ⟨(some ⟨wa1248.heap.size, 0, none⟩), 6, rfl, A1287.out⟩
              | 1, _ => exact ⟨g428, c428, by show Value.slice g428 l1 c428 = Value.slice g428 (hd).length c428; rw [L1.out], H1283.out⟩
              | 2, _ => exact ⟨(some ⟨w1.heap.size, 0, none⟩), 1, rfl, Y1282.out⟩
              | 3, _ => exact ⟨g738, c738, by show Value.slice g738 l2 c738 = Value.slice g738 (pt).length c738; rw [L2.out], P1284.out⟩
              | 4, _ => exact ⟨g974, c974, rfl, N1285.out⟩
              | 5, _ => exact ⟨g1248, c1248, rfl, K1286.out⟩
            have CC : Hid (Calls Tryz.prog 61 #[.slice (some ⟨wa1268.heap.size, 0, none⟩) 6 6] (wa1278) fun e w' => ∃ v, e = .returned v ∧ w'.ownsRow (wa1278).heap.size 5 1 v tl (cellsB tot) ∧ Below (wa1278).heap.size (wa1278) w') := by
              have h9 := slicesConcat (some ⟨wa1268.heap.size, 0, none⟩) 6 6 [.slice (some ⟨wa1248.heap.size, 0, none⟩) 6 6, .slice g428 l1 c428, .slice (some ⟨w1.heap.size, 0, none⟩) 1 1, .slice g738 l2 c738, .slice g974 4 c974, .slice g1248 4 c1248] (fun i => [[98, 97, 99, 107, 117, 112], hd, [n], pt, numQ sx, numQ lk].getD i []) (wa1278) rfl (by omega) (by rw [CT.out.1, CT.out.2]; omega) (by rw [CT.out.1, CT.out.2]; omega) O1288.out HRC.out
              rw [CT.out.1, CT.out.2] at h9
              exact h9
            clear HRC
            go_simp
            refine CC.out.mono ?_
            rintro e wa1289 ⟨va1289, rfl, o1289, hb1289⟩
            obtain ⟨g1289, c1289, rfl, s1289, _⟩ := own_src o1289
            clear CC
            dsimp only
            have B1290 : Hid (Below w.heap.size w (wa1289)) := (B1279.out).trans (hb1289.mono (B1279.out).size)
            have X1291 : Hid (Box (wa1289) w.heap.size (bx5 F T cx sx a n c)) := X1280.out.below hb1289
            have T1292 : Hid (HasHalf (wa1289)) := T1281.out.below hb1289
            have Y1293 : Hid (Src (wa1289) (some ⟨w1.heap.size, 0, none⟩) (cellsB [n])) := Y1282.out.below hb1289
            have H1294 : Hid (Src (wa1289) g428 (cellsB hd)) := H1283.out.below hb1289
            have P1295 : Hid (Src (wa1289) g738 (cellsB pt)) := P1284.out.below hb1289
            have N1296 : Hid (Src (wa1289) g974 (cellsB (numQ sx))) := N1285.out.below hb1289
            have K1297 : Hid (Src (wa1289) g1248 (cellsB (numQ lk))) := K1286.out.below hb1289
            have A1298 : Hid (Src (wa1289) (some ⟨wa1248.heap.size, 0, none⟩) (cellsB [98, 97, 99, 107, 117, 112])) := A1287.out.below hb1289
            have O1299 : Hid (Src (wa1289) (some ⟨wa1268.heap.size, 0, none⟩) [.slice (some ⟨wa1248.heap.size, 0, none⟩) 6 6, .slice g428 l1 c428, .slice (some ⟨w1.heap.size, 0, none⟩) 1 1, .slice g738 l2 c738, .slice g974 4 c974, .slice g1248 4 c1248]) := O1288.out.below hb1289
            have C1300 : Hid (World.ownsRow (wa1289) (w.heap.size + 1) 5 1 (.slice g1289 tl c1289) tl (cellsB tot)) := own_mono o1289 (show w.heap.size + 1 ≤ _ from World.block_lt_of_cell? _ _ (X1280.out 0 _ rfl).1)
            have Cs1301 : Hid (Src (wa1289) g1289 (cellsB tot)) := s1289
            clear o1289 hb1289 s1289
            clear e0 e1 e2 e3 e4
            obtain ⟨e0, e1, e2, e3, e4⟩ := cells5 X1291.out
            refine hK _ _ ⟨e0, e1, e2, e3, e4⟩ (fun hHeld => ?_)
            clear hK K
            refine wpAnyH_ready (rs := [15]) (by kernel_rfl) (by simp) ?_
            refine AllReadyH.cons rfl (fun K hK => ?_) AllReadyH.nil
            go_simp
            clear e0 e1 e2 e3 e4
            obtain ⟨e0, e1, e2, e3, e4⟩ := cells5 X1291.out
            refine hK _ _ ⟨e0, e1, e2, e3, e4⟩ (fun hHeld => ?_)
            clear hK K
            refine wpAnyH_ready (rs := [16]) (by kernel_rfl) (by simp) ?_
            refine AllReadyH.cons rfl (fun K hK => ?_) AllReadyH.nil
            go_simp
            clear e0 e1 e2 e3 e4
            obtain ⟨e0, e1, e2, e3, e4⟩ := cells5 X1291.out
            refine hK _ _ ⟨e0, e1, e2, e3, e4⟩ (fun hHeld => ?_)
            clear hK K
            refine wpAnyH_done (by kernel_rfl) ?_ _
            refine NoPanic.normal ?_
            clear e0 e1 e2 e3 e4
            clear hHeld
            have FIN : Hid ((wa1289).ownsRow w.heap.size 5 1 (.slice g1289 tl c1289) tot.length (cellsB tot)) := by rw [CT.out.2]; exact own_mono C1300.out (by omega)
            go_wp2_with fail
            go_ret2
            exact ⟨.slice g1289 tl c1289, tot, 0, rfl, FF.out, FIN.out, by rw [CT.out.2]; omega, B1290.out⟩
end Go.Proofs.YtmbndpgoihdpnaaGreatDoor
