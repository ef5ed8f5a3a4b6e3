
/-
  The bytes of a backup, by the specification. By an AI agent.
-/
import Derived.Test.YtmbndpgoihdpnaaDoorBkt
import Derived.Test.YtmbndpgoihdpnaaDoorBkc
import Derived.Test.YtmbndpgoihdpnaaDoorBokz
namespace Go.Proofs.YtmbndpgoihdpnaaDoor
open Go.ChangeShapes Go.WideShapes Go.ChangeAt Go.RowKit Go.Deep
set_option linter.unusedVariables false
set_option linter.unusedSimpArgs false
set_option maxRecDepth 100000

theorem wpList_append_full {P : Program} (w : World) {ops : Array Oper} {rest : List Oper} {o : Oper} {a : Act} {Q : Exit → Act → World → Prop} (hgd : o.guard = none) (s x : Operand) (t : TypeId)
    (ho : o.op = .call { callee := .builtin .append, args := #[s, x], argTypes := #[t, t] })
    (e : TypeId) (z : Value) (size bytes : Nat) (ht : P.underlying t = some (.slice e)) (hinfo : (P.info? e).map (fun i => (i.zero, i.size, i.bytes)) = some (some z, size, bytes))
    (hzs : z.cells.size = size) (hsz : 0 < size) (hby : bytes ≤ 64) (b : Addr) (n cap : Nat) (olds : List Value) (hs : a.eval s = .slice (some b) n cap) (hlo : olds.length = n * size) (holds : ∀ j u, olds[j]? = some u → w.cell? (b.add j) = some u)
    (ad : Addr) (m c : Nat) (news : List Value) (hx : a.eval x = .slice (some ad) m c) (hl : news.length = m * size) (hnews : ∀ j u, news[j]? = some u → w.cell? (ad.add j) = some u) (hg : cap < n + m) (hn : n + m ≤ 4194304)
    (h : ∀ v' w', w'.ownsRow w.heap.size e size v' (n + m) (olds ++ news) → w.grownBy w' none → wpList P ops Q rest (a.put o.dst v') w') : wpList P ops Q (o :: rest) a w :=
  wpList_plain hgd fun _ hK => by
    obtain ⟨i, hi, hzz⟩ := Option.map_eq_some_iff.1 hinfo
    simp only [Prod.mk.injEq] at hzz
    obtain ⟨hz, hsize, hbyt⟩ := hzz
    have hbb : (n + m) * bytes ≤ 4194304 * 64 := Nat.mul_le_mul hn hby
    obtain ⟨v', w', hr, h2, h3⟩ := run_append_arg_grows (P := P) (w := w) t o.type e i z size bytes ht hi hz hsize hbyt hzs hsz b n cap olds hlo holds ad m c news hl hnews hg (by unfold maxLen; omega) (by omega)
    unfold Oper.wp execOp
    simp only [ho, resolve, invoke, builtin, Sem.run_bind, Sem.run_pure, Result.andThen_ok, List.map_toArray, List.map_cons, List.map_nil, hs, hx, hr]
    exact hK _ _ (h v' w' h2 h3)
theorem src_news {w : World} {b o : Nat} {xs : List Value} (h : Src w (some ⟨b, o, none⟩) xs) : ∀ j u, xs[j]? = some u → w.cell? ((⟨b, o, none⟩ : Addr).add j) = some u := by
  rcases h with h | ⟨b', o', e, hc⟩
  · intro j u hu
    rw [h] at hu
    cases hu
  · cases e
    exact Src.news (.inr ⟨b, o, rfl, hc⟩)
theorem srcOf_own {w : World} {base e s n g c : Nat} {xs : List Value} (h : w.ownsRow base e s (.slice (some ⟨g, 0, none⟩) n c) n xs) : Src w (some ⟨g, 0, none⟩) xs := by
  obtain ⟨a, c', e', hs, _⟩ := own_src h
  cases e'
  exact hs
set_option maxHeartbeats 8000000 in
theorem specBytes (F T : ByteArray) (cx sx : Nat) (a : Option Addr) (n c : Nat) (M : List MDf) (w : World) (hF : F.size ≤ 8) (hT : T.size ≤ 8) (hc : cx < 4294967296) (hx : sx < 4294967296) (hM : M.length = n) (hn : n ≤ 120) (hs : ∀ p ∈ M, p.1.size ≤ 90 ∧ p.2.1.size ≤ 90 ∧ p.2.2.1.size ≤ 90) (h : Src w a (cellsDf M)) :
    Calls Tryd.prog 31 #[.agg #[.string F, .string T, .int .i64 (cx : Int), .slice a n c, .int .i64 (sx : Int)]] w fun e w' => ∃ v, e = .returned v ∧ w'.ownsRow (w.heap.size + 1) 5 1 v ([98, 97, 99, 107, 117, 112] ++ (numQ cx ++ fieldsB [F, T]) ++ [n] ++ partsB M ++ numQ sx ++ numQ (sumL (numQ cx ++ fieldsB [F, T] ++ partsB M ++ numQ sx))).length (cellsB ([98, 97, 99, 107, 117, 112] ++ (numQ cx ++ fieldsB [F, T]) ++ [n] ++ partsB M ++ numQ sx ++ numQ (sumL (numQ cx ++ fieldsB [F, T] ++ partsB M ++ numQ sx)))) ∧ Below w.heap.size w w' := by
  have HS : Hid (∀ p ∈ M, p.1.size ≤ 90 ∧ p.2.1.size ≤ 90 ∧ p.2.2.1.size ≤ 90) := hs
  have HH : Hid (Src w a (cellsDf M)) := h
  have HM : Hid (M.length = n) := hM
  obtain ⟨hd, hhd⟩ : ∃ x, numQ cx ++ fieldsB [F, T] = x := ⟨_, rfl⟩
  have HD : Hid (numQ cx ++ fieldsB [F, T] = hd) := hhd
  obtain ⟨pt, hpt⟩ : ∃ x, partsB M = x := ⟨_, rfl⟩
  have PT : Hid (partsB M = pt) := hpt
  obtain ⟨l1, hl1⟩ : ∃ l, hd.length = l := ⟨_, rfl⟩
  have L1 : Hid (hd.length = l1) := hl1
  obtain ⟨l2, hl2⟩ : ∃ l, pt.length = l := ⟨_, rfl⟩
  have L2 : Hid (pt.length = l2) := hl2
  have hl1b : l1 ≤ 25 ∧ 0 < l1 := by
    rw [← hl1, ← hhd, List.length_append, two_len]
    have h4 : (numQ cx).length = 4 := rfl
    omega
  have hl2b : l2 ≤ 33360 := by
    rw [← hl2, ← hpt]
    have h9 := partsB_len M n hs
    rw [List.take_of_length_le (by omega)] at h9
    omega
  have LT1 : Hid (∀ x ∈ hd, x < 256) := fun x hx9 => by
    rw [← hhd, List.mem_append] at hx9
    rcases hx9 with h9 | h9
    · exact numQ_lt _ x h9
    · exact fieldsB_ltP _ x h9
  have LT2 : Hid (∀ x ∈ pt, x < 256) := fun x hx9 => by rw [← hpt] at hx9; exact partsB_lt M x hx9
  have FL : Hid (∀ z ∈ [F, T], z.size ≤ 300) := fun z hz => by
    simp at hz
    rcases hz with rfl | rfl <;> omega
  obtain ⟨q, hq⟩ : ∃ q, (fieldsB [F, T]).length = q := ⟨_, rfl⟩
  have FQ : Hid ((fieldsB [F, T]).length = q) := hq
  have hq2 : q ≤ 21 ∧ 0 < q := by rw [← hq, two_len]; omega
  clear hq
  obtain ⟨lk, hlk⟩ : ∃ s, sumL (numQ cx ++ fieldsB [F, T] ++ partsB M ++ numQ sx) = s := ⟨_, rfl⟩
  have LK : Hid (sumL (numQ cx ++ fieldsB [F, T] ++ partsB M ++ numQ sx) = lk) := hlk
  have hlk2 : lk < 4294967296 := by rw [← hlk]; exact sumL_lt _
  obtain ⟨pre, hpre⟩ : ∃ x, [98, 97, 99, 107, 117, 112] ++ hd ++ [n] = x := ⟨_, rfl⟩
  obtain ⟨pl, hpl⟩ : ∃ x, pre.length = x := ⟨_, rfl⟩
  have PL : Hid (pre.length = pl) := hpl
  have PR : Hid ([98, 97, 99, 107, 117, 112] ++ hd ++ [n] = pre) := hpre
  have hpl2 : pl ≤ 60 := by rw [← hpl, ← hpre]; simp only [List.length_append, hl1]; simp; omega
  have LQ : Hid (hd.length = 4 + q ∧ hd = numQ cx ++ fieldsB [F, T]) := ⟨by rw [← HD.out, List.length_append, FQ.out]; rfl, HD.out.symm⟩
  obtain ⟨tot, htot⟩ : ∃ x, pre ++ pt ++ numQ sx ++ numQ lk = x := ⟨_, rfl⟩
  have TT : Hid (pre ++ pt ++ numQ sx ++ numQ lk = tot) := htot
  rw [hlk, hhd, hpt, hpre, htot]
  have hnw : IntKind.u8.wrap (n : Int) = (n : Int) := by rw [IntKind.wrap_u8]; omega
  clear hs h hM hhd hpt hl1 hl2 htot hpre hpl hlk
  have X1 : Hid (Box ((w.alloc (.cells #[.string F, .string T, .int .i64 (cx : Int), .slice a n c, .int .i64 (sx : Int)] 37)).alloc (.cells #[.int .u8 98, .int .u8 97, .int .u8 99, .int .u8 107, .int .u8 117, .int .u8 112] 5)) w.heap.size [.string F, .string T, .int .i64 (cx : Int), .slice a n c, .int .i64 (sx : Int)]) := (Box.new rfl).old _
  have B1 : Hid (Below w.heap.size w ((w.alloc (.cells #[.string F, .string T, .int .i64 (cx : Int), .slice a n c, .int .i64 (sx : Int)] 37)).alloc (.cells #[.int .u8 98, .int .u8 97, .int .u8 99, .int .u8 107, .int .u8 117, .int .u8 112] 5))) := ((Below.refl _ _).alloc (Nat.le_refl _) _).alloc (by simp) _
  have S1 : Hid (Src ((w.alloc (.cells #[.string F, .string T, .int .i64 (cx : Int), .slice a n c, .int .i64 (sx : Int)] 37)).alloc (.cells #[.int .u8 98, .int .u8 97, .int .u8 99, .int .u8 107, .int .u8 117, .int .u8 112] 5)) (some ⟨w.heap.size + 1, 0, none⟩) (cellsB [98, 97, 99, 107, 117, 112])) := src_6B (w := w.alloc (.cells #[.string F, .string T, .int .i64 (cx : Int), .slice a n c, .int .i64 (sx : Int)] 37)) (by simp)
  obtain ⟨wf, kc, fz⟩ : ∃ W2, (convert 34 34 (.slice (some ⟨w.heap.size + 1, 0, none⟩) 6 6)).run Tryd.prog ((w.alloc (.cells #[.string F, .string T, .int .i64 (cx : Int), .slice a n c, .int .i64 (sx : Int)] 37)).alloc (.cells #[.int .u8 98, .int .u8 97, .int .u8 99, .int .u8 107, .int .u8 117, .int .u8 112] 5)) = .ok (.slice (some ⟨w.heap.size + 1, 0, none⟩) 6 6) W2 ∧ Frozen ((w.alloc (.cells #[.string F, .string T, .int .i64 (cx : Int), .slice a n c, .int .i64 (sx : Int)] 37)).alloc (.cells #[.int .u8 98, .int .u8 97, .int .u8 99, .int .u8 107, .int .u8 117, .int .u8 112] 5)) W2 (w.heap.size + 1) := ⟨_, convert_const_at ((w.alloc (.cells #[.string F, .string T, .int .i64 (cx : Int), .slice a n c, .int .i64 (sx : Int)] 37)).alloc (.cells #[.int .u8 98, .int .u8 97, .int .u8 99, .int .u8 107, .int .u8 117, .int .u8 112] 5)) (w.heap.size + 1) #[.int .u8 98, .int .u8 97, .int .u8 99, .int .u8 107, .int .u8 117, .int .u8 112] 6 6 (heap_at_alloc _ _ (by simp)), frozen_freeze _ _ _⟩
  have Xf : Hid (Box wf w.heap.size [.string F, .string T, .int .i64 (cx : Int), .slice a n c, .int .i64 (sx : Int)]) := box_frozen X1.out fz (by omega)
  have Bf : Hid (Below w.heap.size w wf) := below_frozen B1.out fz (by omega)
  have Sf : Hid (Src wf (some ⟨w.heap.size + 1, 0, none⟩) (cellsB [98, 97, 99, 107, 117, 112])) := src_frozen S1.out fz
  have Zf : Hid (w.heap.size + 2 ≤ wf.heap.size) := by show _ ≤ _; rw [fz.2.2.2.1]; simp
  clear fz X1 B1 S1
  obtain ⟨p2, _⟩ := Xf.out 2 _ rfl
  go_enter Tryd.func31, Tryd.ntmps31
  go_wp2_with fail
  go_at_call 55
  refine (l01Number4 cx _ hc).mono ?_
  rintro e w2 ⟨v2, rfl, o2, hb2⟩
  obtain ⟨g2, c2, rfl, _, s2⟩ := own_some o2 (by omega)
  have S2 : Hid (Src w2 (some ⟨g2, 0, none⟩) (cellsB (numQ cx))) := s2
  have B2 : Hid (Below w.heap.size w w2) := Bf.out.trans (hb2.mono Bf.out.size)
  have X2 : Hid (Box w2 w.heap.size [.string F, .string T, .int .i64 (cx : Int), .slice a n c, .int .i64 (sx : Int)]) := Xf.out.below hb2
  have M2 : Hid (Src w2 (some ⟨w.heap.size + 1, 0, none⟩) (cellsB [98, 97, 99, 107, 117, 112])) := Sf.out.below hb2
  have Z2 : Hid (w.heap.size + 2 ≤ w2.heap.size) := Nat.le_trans Zf.out hb2.size
  clear hb2 o2 s2 p2 kc Xf Bf Sf Zf
  go_wp2_with (at_builtin; refine wpList_append_full _ rfl _ _ 34 rfl 5 (.int .u8 0) 1 1 Tryd.underlying34 infoB rfl (by decide) (by decide) ⟨w.heap.size + 1, 0, none⟩ 6 6 (cellsB [98, 97, 99, 107, 117, 112]) rfl rfl (src_news M2.out) ⟨g2, 0, none⟩ 4 c2 (cellsB (numQ cx)) rfl rfl (src_news S2.out) (by omega) (by omega) ?_)
  intro v3 w3 hown3 hgrow3
  have O3 : Hid (w3.ownsRow (w.heap.size + 1) 5 1 v3 10 (cellsB ([98, 97, 99, 107, 117, 112] ++ numQ cx))) := by rw [cellsB_append]; exact own_mono hown3 (by have h9 := Z2.out; omega)
  have X3 : Hid (Box w3 w.heap.size [.string F, .string T, .int .i64 (cx : Int), .slice a n c, .int .i64 (sx : Int)]) := Box.grown X2.out hgrow3 (fun e => by cases e)
  have B3 : Hid (Below w.heap.size w w3) := B2.out.grown hgrow3 B2.out.size (fun g e => by cases e)
  obtain ⟨a3, c3, rfl, _, _⟩ := own_src hown3
  have Z3 : Hid (w.heap.size + 1 ≤ w3.heap.size) := World.block_lt_of_cell? _ _ (X3.out 0 _ rfl).1
  clear hown3 hgrow3 S2 X2 M2 B2 Z2
  obtain ⟨p0, _⟩ := X3.out 0 _ rfl
  obtain ⟨p1, _⟩ := X3.out 1 _ rfl
  have A3 : Hid (Below w3.heap.size w3 (w3.alloc (.cells #[.string F, .string T] 9))) := (Below.refl _ _).alloc (Nat.le_refl _) _
  go_wp2_with fail
  go_at_call 56
  refine (l01Fields (some ⟨w3.heap.size, 0, none⟩) 2 2 [F, T] _ rfl (by omega) FL.out (src_2S rfl)).mono ?_
  rintro e w4 ⟨v4, rfl, o4, hb4⟩
  rw [FQ.out] at o4
  obtain ⟨g4, c4, rfl, _, s4⟩ := own_some o4 (by omega)
  have h34 : Below w3.heap.size w3 w4 := Below.new hb4
  have S4 : Hid (Src w4 (some ⟨g4, 0, none⟩) (cellsB (fieldsB [F, T]))) := s4
  have B4 : Hid (Below w.heap.size w w4) := B3.out.trans (h34.mono B3.out.size)
  have X4 : Hid (Box w4 w.heap.size [.string F, .string T, .int .i64 (cx : Int), .slice a n c, .int .i64 (sx : Int)]) := X3.out.below h34
  have O4 : Hid (w4.ownsRow (w.heap.size + 1) 5 1 (.slice a3 10 c3) 10 (cellsB ([98, 97, 99, 107, 117, 112] ++ numQ cx))) := own_below O3.out h34
  have Z4 : Hid (w.heap.size + 1 ≤ w4.heap.size) := Nat.le_trans Z3.out h34.size
  have lt4 : Hid (∀ g, Value.ownBlock (.slice a3 10 c3) = some g → w.heap.size + 1 ≤ g) := fun g e => (O3.out.lt g e).1
  clear hb4 o4 s4 h34 p0 p1 A3 O3 X3 B3 Z3
  go_wp2_with (at_builtin; refine wpList_append_src _ rfl _ _ 34 rfl (w.heap.size + 1) 5 (.int .u8 0) 1 1 Tryd.underlying34 infoB rfl (by decide) (by decide) _ 10 (cellsB ([98, 97, 99, 107, 117, 112] ++ numQ cx)) rfl O4.out (some ⟨g4, 0, none⟩) q c4 (cellsB (fieldsB [F, T])) rfl (by rw [cellsB_length, FQ.out]; omega) S4.out (cellsB_one _) (by omega) Z4.out ?_)
  intro v5 w5 hown5 hgrow5
  have O5 : Hid (w5.ownsRow (w.heap.size + 1) 5 1 v5 (10 + q) (cellsB ([98, 97, 99, 107, 117, 112] ++ hd))) := by rw [LQ.out.2, ← List.append_assoc, cellsB_append]; exact hown5
  have X5 : Hid (Box w5 w.heap.size [.string F, .string T, .int .i64 (cx : Int), .slice a n c, .int .i64 (sx : Int)]) := Box.grown X4.out hgrow5 (fun e => by have h9 := lt4.out _ e; omega)
  have B5 : Hid (Below w.heap.size w w5) := B4.out.grown hgrow5 B4.out.size (fun g e => by have h9 := lt4.out g e; omega)
  obtain ⟨a5, c5, rfl, _, _⟩ := own_src hown5
  have lt5 : Hid (∀ g, Value.ownBlock (.slice a5 (10 + q) c5) = some g → w.heap.size + 1 ≤ g) := fun g e => (O5.out.lt g e).1
  have Z5 : Hid (w.heap.size + 1 ≤ w5.heap.size) := World.block_lt_of_cell? _ _ (X5.out 0 _ rfl).1
  clear hown5 hgrow5 S4 X4 B4 Z4 O4 lt4
  obtain ⟨p3, _⟩ := X5.out 3 _ rfl
  go_wp2_with (at_builtin; refine wpList_append_src _ rfl _ _ 34 rfl (w.heap.size + 1) 5 (.int .u8 0) 1 1 Tryd.underlying34 infoB rfl (by decide) (by decide) _ (10 + q) (cellsB ([98, 97, 99, 107, 117, 112] ++ hd)) rfl (World.ownsRow.alloc O5.out _) (some ⟨w5.heap.size, 0, none⟩) 1 1 (cellsB [n]) rfl rfl (src_oneB rfl rfl) (cellsB_one _) (by omega) (le_alloc Z5.out _) ?_)
  intro v6 w6 hown6 hgrow6
  have EP : Hid (pre.length = 10 + q + 1) := by show _ = _; rw [← PR.out, List.length_append, List.length_append, LQ.out.1]; simp; omega
  have O6 : Hid (w6.ownsRow (w.heap.size + 1) 5 1 v6 pre.length (cellsB pre)) := by rw [EP.out, ← PR.out, cellsB_append]; exact hown6
  have X6 : Hid (Box w6 w.heap.size [.string F, .string T, .int .i64 (cx : Int), .slice a n c, .int .i64 (sx : Int)]) := Box.grown (X5.out.old _) hgrow6 (fun e => by have h9 := lt5.out _ e; omega)
  have B6 : Hid (Below w.heap.size w w6) := (B5.out.alloc B5.out.size _).grown hgrow6 (le_alloc B5.out.size _) (fun g e => by have h9 := lt5.out g e; omega)
  clear hown6 hgrow6 X5 B5 Z5 O5 lt5 p3
  go_wp2_with fail
  go_loopw [3, 4] (fun v i wr => ∃ (k : Nat), k ≤ n ∧ i = .int .i64 k ∧ Hid (Below w.heap.size w wr) ∧ Hid (Box wr w.heap.size [.string F, .string T, .int .i64 (cx : Int), .slice a n c, .int .i64 (sx : Int)]) ∧ Hid (wr.ownsRow (w.heap.size + 1) 5 1 v (pre ++ partsB (M.take k)).length (cellsB (pre ++ partsB (M.take k))))) (fun _ i _ => n - (intOf i).toNat)
  case atStart => exact ⟨0, by omega, rfl, B6.out, X6.out, by show World.ownsRow _ _ _ _ _ _ _; simpa [partsB] using O6.out⟩
  case round =>
    clear O6 X6 B6
    obtain ⟨k, hk, rfl, hb, hX, ho⟩ := hrel
    obtain ⟨va, vc, rfl, _, _⟩ := own_src ho.out
    obtain ⟨m, hm⟩ : ∃ m, (pre ++ partsB (M.take k)).length = m := ⟨_, rfl⟩
    have hm2 : m ≤ 33500 := by
      have h9 := partsB_len M k HS.out
      rw [← hm, List.length_append, PL.out]
      omega
    have HO : Hid (wr.ownsRow (w.heap.size + 1) 5 1 (.slice va m vc) m (cellsB (pre ++ partsB (M.take k)))) := by rw [← hm]; exact ho.out
    rw [hm]
    have MM : Hid ((pre ++ partsB (M.take k)).length = m) := hm
    have ZB : Hid (w.heap.size + 1 ≤ wr.heap.size) := World.block_lt_of_cell? _ _ (hX.out 0 _ rfl).1
    have hlt3 : Hid (∀ g, Value.ownBlock (.slice va m vc) = some g → w.heap.size + 1 ≤ g) := fun g e => (HO.out.lt g e).1
    clear ho hm
    obtain ⟨b3, _⟩ := hX.out 3 _ rfl
    by_cases hlt : k < n
    · obtain ⟨b, o, x0, x1, x2, x3, x4, rfl, q0, q1, q2, q3, q4, hy⟩ := srcDf (HH.out.below hb.out) (i := k) (by rw [HM.out]; exact hlt)
      have hki : (k : Int) < (n : Int) := by omega
      have hk0 : (0 : Int) ≤ (k : Int) := by omega
      have XY : Hid (x0.size ≤ 90 ∧ x1.size ≤ 90 ∧ x2.size ≤ 90) := by
        have h1 := HS.out _ (mem_getDK M df0 k (by rw [HM.out]; exact hlt))
        rw [hy.out] at h1
        exact h1
      have SN : Hid (partsB (M.take (k + 1)) = partsB (M.take k) ++ partB (x0, x1, x2, x3, x4)) := partsB_snoc (by rw [HM.out]; exact hlt) hy.out
      obtain ⟨q, hq⟩ : ∃ q, (partB (x0, x1, x2, x3, x4)).length = q := ⟨_, rfl⟩
      have Q : Hid ((partB (x0, x1, x2, x3, x4)).length = q) := hq
      have hq2 : q ≤ 278 ∧ 0 < q := by rw [← hq, partB_len]; have h9 := XY.out; dsimp only; omega
      clear hq
      go_wp2_with fail
      go_at_call 57
      refine (l06Diff x0 x1 x2 x3 x4 _ XY.out.1 XY.out.2.1 XY.out.2.2).mono ?_
      rintro e w2 ⟨v2, rfl, o2, hb2⟩
      rw [Q.out] at o2
      obtain ⟨g2, c2, rfl, _, s2⟩ := own_some o2 (by omega)
      have S2 : Hid (Src w2 (some ⟨g2, 0, none⟩) (cellsB (partB (x0, x1, x2, x3, x4)))) := s2
      have B2 : Hid (Below w.heap.size w w2) := hb.out.trans (hb2.mono hb.out.size)
      have X2 : Hid (Box w2 w.heap.size [.string F, .string T, .int .i64 (cx : Int), .slice (some ⟨b, o, none⟩) n c, .int .i64 (sx : Int)]) := hX.out.below hb2
      have O2 : Hid (w2.ownsRow (w.heap.size + 1) 5 1 (.slice va m vc) m (cellsB (pre ++ partsB (M.take k)))) := own_below HO.out hb2
      have Z2 : Hid (w.heap.size + 1 ≤ w2.heap.size) := World.block_lt_of_cell? _ _ (X2.out 0 _ rfl).1
      clear hb2 o2 s2 q0 q1 q2 q3 q4 b3
      go_wp2_with (at_builtin; refine wpList_append_src _ rfl _ _ 34 rfl (w.heap.size + 1) 5 (.int .u8 0) 1 1 Tryd.underlying34 infoB rfl (by decide) (by decide) _ m (cellsB (pre ++ partsB (M.take k))) rfl O2.out (some ⟨g2, 0, none⟩) q c2 (cellsB (partB (x0, x1, x2, x3, x4))) rfl (by rw [cellsB_length, Q.out]; omega) S2.out (cellsB_one _) (by omega) Z2.out ?_)
      intro v3 w3 hown3 hgrow3
      have X3 : Hid (Box w3 w.heap.size [.string F, .string T, .int .i64 (cx : Int), .slice (some ⟨b, o, none⟩) n c, .int .i64 (sx : Int)]) := Box.grown X2.out hgrow3 (fun e => by have h9 := hlt3.out _ e; omega)
      have B3 : Hid (Below w.heap.size w w3) := B2.out.grown hgrow3 B2.out.size (fun g e => by have h9 := hlt3.out g e; omega)
      have O3 : Hid (w3.ownsRow (w.heap.size + 1) 5 1 v3 (pre ++ partsB (M.take (k + 1))).length (cellsB (pre ++ partsB (M.take (k + 1))))) := by
        rw [SN.out, ← List.append_assoc, cellsB_append, List.length_append, MM.out, Q.out]
        exact hown3
      clear hown3 hgrow3
      go_wp2_with fail
      exact ⟨⟨k + 1, by omega, by go_num, B3.out, X3.out, O3.out⟩, by simp [intOf]; omega⟩
    · have hkn : ¬ (k : Int) < (n : Int) := by omega
      have EK : Hid (partsB (M.take k) = pt) := by show _ = _; rw [List.take_of_length_le (by rw [HM.out]; omega)]; exact PT.out
      rw [EK.out] at HO MM
      have NN : Hid (m ≤ 33500) := hm2
      go_wp2_with fail
      have B78 : Hid (Below w.heap.size w (wr)) := hb.out
      have X79 : Hid (Box ((wr).drew) w.heap.size [.string F, .string T, .int .i64 (cx : Int), .slice a n c, .int .i64 (sx : Int)]) := hX.out
      have O80 : Hid (World.ownsRow ((wr).drew) (w.heap.size + 1) 5 1 (.slice va m vc) m (cellsB (pre ++ pt))) := HO.out
      clear b3
      obtain ⟨e0, _⟩ := X79.out 0 _ rfl
      obtain ⟨e1, _⟩ := X79.out 1 _ rfl
      obtain ⟨e2, _⟩ := X79.out 2 _ rfl
      obtain ⟨e3, _⟩ := X79.out 3 _ rfl
      obtain ⟨e4, _⟩ := X79.out 4 _ rfl
      refine wp_region_noPanic ?_
      refine wp_region_held_drew (S := (fun w' => w'.cell? ⟨w.heap.size, 0, none⟩ = some (.string F) ∧ w'.cell? ⟨w.heap.size, 1, none⟩ = some (.string T) ∧ w'.cell? ⟨w.heap.size, 2, none⟩ = some (.int .i64 (cx : Int)) ∧ w'.cell? ⟨w.heap.size, 3, none⟩ = some (.slice a n c) ∧ w'.cell? ⟨w.heap.size, 4, none⟩ = some (.int .i64 (sx : Int)))) (by kernel_rfl) ⟨e0, e1, e2, e3, e4⟩ (fun hHeld => ?_)
      refine wpAnyH_take (i := 0) (v := .slice va m vc) rfl (by kernel_rfl) (by kernel_rfl) (by kernel_rfl) (fun _ _ _ h => h) (Or.inl ⟨by kernel_rfl, ?_⟩) hHeld ?_
      · intro w9 hSw
        obtain ⟨s0, s1, s2, s3, s4⟩ := hSw
        go_simp
      simp only [Act.put, List.setIfInBounds_toArray, List.set_cons_zero, List.set_cons_succ]
      refine wpAnyH_take (i := 1) (v := .pointer (some ⟨w.heap.size, 4, none⟩)) rfl (by kernel_rfl) (by kernel_rfl) (by kernel_rfl) (fun _ _ _ h => h) (Or.inl ⟨by kernel_rfl, ?_⟩) hHeld ?_
      · intro w9 hSw
        obtain ⟨s0, s1, s2, s3, s4⟩ := hSw
        go_simp
      simp only [Act.put, List.setIfInBounds_toArray, List.set_cons_zero, List.set_cons_succ]
      refine wpAnyH_take (i := 2) (v := .int .i64 (sx : Int)) rfl (by kernel_rfl) (by kernel_rfl) (by kernel_rfl) (fun _ _ _ h => h) (Or.inl ⟨by kernel_rfl, ?_⟩) hHeld ?_
      · intro w9 hSw
        obtain ⟨s0, s1, s2, s3, s4⟩ := hSw
        go_simp
      simp only [Act.put, List.setIfInBounds_toArray, List.set_cons_zero, List.set_cons_succ]
      refine wpAnyH_take (i := 5) (v := .agg #[.string F, .string T, .int .i64 (cx : Int), .slice a n c, .int .i64 (sx : Int)]) rfl (by kernel_rfl) (by kernel_rfl) (by kernel_rfl) (fun _ _ _ h => h) (Or.inl ⟨by kernel_rfl, ?_⟩) hHeld ?_
      · intro w9 hSw
        obtain ⟨s0, s1, s2, s3, s4⟩ := hSw
        go_simp
      simp only [Act.put, List.setIfInBounds_toArray, List.set_cons_zero, List.set_cons_succ]
      refine wpAnyH_ready (rs := [3]) (by kernel_rfl) (by simp) ?_
      refine AllReadyH.cons rfl (fun K hK => ?_) AllReadyH.nil
      go_simp
      refine (l01Number4 sx ((wr).drew) hx).mono ?_
      rintro e wa81 ⟨va81, rfl, o81, hb81⟩
      obtain ⟨g81, c81, rfl, _, s81⟩ := own_some o81 (by omega)
      dsimp only
      have B82 : Hid (Below w.heap.size w (wa81)) := (B78.out.drew).trans (hb81.mono (B78.out.drew).size)
      have X83 : Hid (Box (wa81) w.heap.size [.string F, .string T, .int .i64 (cx : Int), .slice a n c, .int .i64 (sx : Int)]) := Box.below (w := (wr).drew) X79.out hb81
      have O84 : Hid (World.ownsRow (wa81) (w.heap.size + 1) 5 1 (.slice va m vc) m (cellsB (pre ++ pt))) := own_below (w := (wr).drew) O80.out hb81
      have N85 : Hid (Src (wa81) (some ⟨g81, 0, none⟩) (cellsB (numQ sx))) := s81
      clear o81 hb81 s81
      clear e0 e1 e2 e3 e4
      obtain ⟨e0, _⟩ := X83.out 0 _ rfl
      obtain ⟨e1, _⟩ := X83.out 1 _ rfl
      obtain ⟨e2, _⟩ := X83.out 2 _ rfl
      obtain ⟨e3, _⟩ := X83.out 3 _ rfl
      obtain ⟨e4, _⟩ := X83.out 4 _ rfl
      refine hK _ _ ⟨e0, e1, e2, e3, e4⟩ (fun hHeld => ?_)
      clear hK K
      refine wpAnyH_ready (rs := [4]) (by kernel_rfl) (by simp) ?_
      refine AllReadyH.cons rfl (fun K hK => ?_) AllReadyH.nil
      refine step_append_src rfl (.tmp 41) (.tmp 44) 34 rfl (w.heap.size + 1) 5 (.int .u8 0) 1 1 Tryd.underlying34 infoB rfl (by decide) (by decide) (.slice va m vc) m (cellsB (pre ++ pt)) (by rfl) O84.out ⟨g81, 0, none⟩ 4 c81 (cellsB (numQ sx)) (by rfl) rfl N85.out (cellsB_one _) (by omega) (by omega) (show w.heap.size + 1 ≤ _ from World.block_lt_of_cell? _ _ (X83.out 0 _ rfl).1) ?_
      intro va86 wa86 hown86 hgrow86 _
      have B87 : Hid (Below w.heap.size w (wa86)) := (B82.out).grown hgrow86 (B82.out).size (fun g e => by have h9 := (O84.out.lt g e).1; omega)
      have X88 : Hid (Box (wa86) w.heap.size [.string F, .string T, .int .i64 (cx : Int), .slice a n c, .int .i64 (sx : Int)]) := Box.grown X83.out hgrow86 (fun e => by have h9 := (O84.out.lt _ e).1; omega)
      obtain ⟨ra86, rc86, rfl, _, _⟩ := own_src hown86
      have R89 : Hid (World.ownsRow (wa86) (w.heap.size + 1) 5 1 (.slice ra86 (m + 4) rc86) (m + 4) (cellsB (pre ++ pt ++ numQ sx))) := by rw [cellsB_append]; exact hown86
      clear hown86 hgrow86
      clear e0 e1 e2 e3 e4
      obtain ⟨e0, _⟩ := X88.out 0 _ rfl
      obtain ⟨e1, _⟩ := X88.out 1 _ rfl
      obtain ⟨e2, _⟩ := X88.out 2 _ rfl
      obtain ⟨e3, _⟩ := X88.out 3 _ rfl
      obtain ⟨e4, _⟩ := X88.out 4 _ rfl
      refine hK _ _ ⟨e0, e1, e2, e3, e4⟩ (fun hHeld => ?_)
      clear hK K
      refine wpAnyH_ready (rs := [6]) (by kernel_rfl) (by simp) ?_
      refine AllReadyH.cons rfl (fun K hK => ?_) AllReadyH.nil
      go_simp
      refine (specLink F T cx sx a n c M (wa86) hF hT hc hx HM.out hn HS.out (Src.below (w := w) HH.out (B87.out))).mono ?_
      rw [LK.out]
      rintro e wa90 ⟨rfl, hb90⟩
      dsimp only
      have B91 : Hid (Below w.heap.size w (wa90)) := (B87.out).trans (hb90.mono (B87.out).size)
      have X92 : Hid (Box (wa90) w.heap.size [.string F, .string T, .int .i64 (cx : Int), .slice a n c, .int .i64 (sx : Int)]) := Box.below (w := wa86) X88.out hb90
      have R93 : Hid (World.ownsRow (wa90) (w.heap.size + 1) 5 1 (.slice ra86 (m + 4) rc86) (m + 4) (cellsB (pre ++ pt ++ numQ sx))) := own_below (w := wa86) R89.out hb90
      clear hb90
      clear e0 e1 e2 e3 e4
      obtain ⟨e0, _⟩ := X92.out 0 _ rfl
      obtain ⟨e1, _⟩ := X92.out 1 _ rfl
      obtain ⟨e2, _⟩ := X92.out 2 _ rfl
      obtain ⟨e3, _⟩ := X92.out 3 _ rfl
      obtain ⟨e4, _⟩ := X92.out 4 _ rfl
      refine hK _ _ ⟨e0, e1, e2, e3, e4⟩ (fun hHeld => ?_)
      clear hK K
      refine wpAnyH_ready (rs := [7]) (by kernel_rfl) (by simp) ?_
      refine AllReadyH.cons rfl (fun K hK => ?_) AllReadyH.nil
      go_simp
      refine (l01Number4 lk (wa90) hlk2).mono ?_
      rintro e wa94 ⟨va94, rfl, o94, hb94⟩
      obtain ⟨g94, c94, rfl, _, s94⟩ := own_some o94 (by omega)
      dsimp only
      have NE94 : Hid (∀ kk, Value.ownBlock (.slice ra86 (m + 4) rc86) = some kk → Value.ownBlock (.slice (some ⟨g94, 0, none⟩) 4 c94) ≠ some kk) := fun kk e e2 => by have h8 := (R93.out.lt kk e).2; have h9 := (o94.lt kk e2).1; exact absurd h8 (Nat.not_lt.mpr h9)
      have B95 : Hid (Below w.heap.size w (wa94)) := (B91.out).trans (hb94.mono (B91.out).size)
      have X96 : Hid (Box (wa94) w.heap.size [.string F, .string T, .int .i64 (cx : Int), .slice a n c, .int .i64 (sx : Int)]) := Box.below (w := wa90) X92.out hb94
      have R97 : Hid (World.ownsRow (wa94) (w.heap.size + 1) 5 1 (.slice ra86 (m + 4) rc86) (m + 4) (cellsB (pre ++ pt ++ numQ sx))) := own_below (w := wa90) R93.out hb94
      have K98 : Hid (World.ownsRow (wa94) (w.heap.size + 1) 5 1 (.slice (some ⟨g94, 0, none⟩) 4 c94) 4 (cellsB (numQ lk))) := own_mono o94 (show w.heap.size + 1 ≤ _ from World.block_lt_of_cell? _ _ (X92.out 0 _ rfl).1)
      clear o94 hb94 s94
      clear e0 e1 e2 e3 e4
      obtain ⟨e0, _⟩ := X96.out 0 _ rfl
      obtain ⟨e1, _⟩ := X96.out 1 _ rfl
      obtain ⟨e2, _⟩ := X96.out 2 _ rfl
      obtain ⟨e3, _⟩ := X96.out 3 _ rfl
      obtain ⟨e4, _⟩ := X96.out 4 _ rfl
      refine hK _ _ ⟨e0, e1, e2, e3, e4⟩ (fun hHeld => ?_)
      clear hK K
      refine wpAnyH_ready (rs := [8]) (by kernel_rfl) (by simp) ?_
      refine AllReadyH.cons rfl (fun K hK => ?_) AllReadyH.nil
      have SK99 : Hid (Src (wa94) (some ⟨g94, 0, none⟩) (cellsB (numQ lk))) := srcOf_own K98.out
      refine step_append_src rfl (.tmp 45) (.tmp 48) 34 rfl (w.heap.size + 1) 5 (.int .u8 0) 1 1 Tryd.underlying34 infoB rfl (by decide) (by decide) (.slice ra86 (m + 4) rc86) (m + 4) (cellsB (pre ++ pt ++ numQ sx)) (by rfl) R97.out ⟨g94, 0, none⟩ 4 c94 (cellsB (numQ lk)) (by rfl) rfl SK99.out (cellsB_one _) (by omega) (by omega) (show w.heap.size + 1 ≤ _ from World.block_lt_of_cell? _ _ (X96.out 0 _ rfl).1) ?_
      intro va99 wa99 hown99 hgrow99 _
      clear SK99
      have B100 : Hid (Below w.heap.size w (wa99)) := (B95.out).grown hgrow99 (B95.out).size (fun g e => by have h9 := (R97.out.lt g e).1; omega)
      have X101 : Hid (Box (wa99) w.heap.size [.string F, .string T, .int .i64 (cx : Int), .slice a n c, .int .i64 (sx : Int)]) := Box.grown X96.out hgrow99 (fun e => by have h9 := (R97.out.lt _ e).1; omega)
      have E102 : Hid (World.ownsRow (wa99) (w.heap.size + 1) 5 1 (va99) (m + 4 + 4) (cellsB (tot))) := by rw [← TT.out, cellsB_append]; exact hown99
      clear hown99 hgrow99
      clear e0 e1 e2 e3 e4
      obtain ⟨e0, _⟩ := X101.out 0 _ rfl
      obtain ⟨e1, _⟩ := X101.out 1 _ rfl
      obtain ⟨e2, _⟩ := X101.out 2 _ rfl
      obtain ⟨e3, _⟩ := X101.out 3 _ rfl
      obtain ⟨e4, _⟩ := X101.out 4 _ rfl
      refine hK _ _ ⟨e0, e1, e2, e3, e4⟩ (fun hHeld => ?_)
      clear hK K
      refine wpAnyH_ready (rs := [9]) (by kernel_rfl) (by simp) ?_
      refine AllReadyH.cons rfl (fun K hK => ?_) AllReadyH.nil
      go_simp
      clear e0 e1 e2 e3 e4
      obtain ⟨e0, _⟩ := X101.out 0 _ rfl
      obtain ⟨e1, _⟩ := X101.out 1 _ rfl
      obtain ⟨e2, _⟩ := X101.out 2 _ rfl
      obtain ⟨e3, _⟩ := X101.out 3 _ rfl
      obtain ⟨e4, _⟩ := X101.out 4 _ rfl
      refine hK _ _ ⟨e0, e1, e2, e3, e4⟩ (fun hHeld => ?_)
      clear hK K
      refine wpAnyH_done (by kernel_rfl) ?_ _
      refine NoPanic.normal ?_
      clear e0 e1 e2 e3 e4
      clear hHeld
      have FIN : Hid ((wa99).ownsRow (w.heap.size + 1) 5 1 va99 tot.length (cellsB tot)) := by
        have h9 : tot.length = m + 4 + 4 := by rw [← TT.out, List.length_append, List.length_append, MM.out]; rfl
        rw [h9]
        exact E102.out
      go_wp2_with fail
      go_ret
      exact ⟨va99, rfl, FIN.out, B100.out⟩
set_option maxHeartbeats 2000000 in
theorem specBackupBytes (v : Value) (D : BM) (w : World) (hsm : smallK D) (hv : ReadsK w v D) :
    Calls Tryd.prog 26 #[v] w fun e w' => ∃ u R q, e = .returned (.tuple #[u, .int .i64 q]) ∧ bkA D = (R, q) ∧ w'.ownsRow w.heap.size 5 1 u R.length (cellsB R) ∧ R.length ≤ 1048576 ∧ Below w.heap.size w w' := by
  obtain ⟨a, c, rfl, h⟩ := hv
  obtain ⟨ok, hok⟩ : ∃ b, okK D = b := ⟨_, rfl⟩
  have OK : Hid (okK D = ok) := hok
  have SK : Hid (smallK D) := hsm
  have RK : Hid (ReadsK w (.agg #[.string D.F, .string D.T, .int .i64 D.C, .slice a D.D.length c, .int .i64 D.S]) D) := ⟨a, c, rfl, h⟩
  have A0 : Hid (Below w.heap.size w (w.alloc (.cells #[.string D.F, .string D.T, .int .i64 D.C, .slice a D.D.length c, .int .i64 D.S] 37))) := (Below.refl _ _).alloc (Nat.le_refl _) _
  clear hsm hok
  cases ok with
  | false =>
    have FF : Hid (bkA D = ([], 1)) := by show _ = _; unfold bkA; rw [if_neg (by rw [OK.out]; decide)]
    obtain ⟨F, hF⟩ : ∃ x, D.F = x := ⟨_, rfl⟩
    obtain ⟨T, hT⟩ : ∃ x, D.T = x := ⟨_, rfl⟩
    obtain ⟨C, hC⟩ : ∃ x, D.C = x := ⟨_, rfl⟩
    obtain ⟨S, hS⟩ : ∃ x, D.S = x := ⟨_, rfl⟩
    obtain ⟨n, hn⟩ : ∃ x, D.D.length = x := ⟨_, rfl⟩
    rw [hF, hT, hC, hS, hn] at RK A0 ⊢
    clear h hF hT hC hS hn
    go_enter Tryd.func26, Tryd.ntmps26
    go_wp2_with fail
    go_at_call 30
    refine (specBackupOK _ D _ SK.out (RK.out.below A0.out)).mono ?_
    rw [OK.out]
    rintro e w1 ⟨rfl, hb1⟩
    have B1 : Hid (Below w.heap.size w w1) := Below.new hb1
    clear hb1
    go_wp2_with fail
    go_ret2
    exact ⟨_, [], 1, rfl, FF.out, own_empty rfl B1.out.size, by simp, B1.out.alloc B1.out.size _⟩
  | true =>
  have F0 := okK_facts OK.out
  have LN : Hid (∀ {R : List Nat} {q : Int}, bkA D = (R, q) → R.length ≤ 1048576) := fun e => bkA_len e
  obtain ⟨F, hF9⟩ : ∃ x, D.F = x := ⟨_, rfl⟩
  obtain ⟨T, hT9⟩ : ∃ x, D.T = x := ⟨_, rfl⟩
  obtain ⟨M, hM9⟩ : ∃ x, D.D = x := ⟨_, rfl⟩
  obtain ⟨n, hM⟩ : ∃ x, M.length = x := ⟨_, rfl⟩
  obtain ⟨cx, hcx⟩ : ∃ x : Nat, D.C = (x : Int) := ⟨D.C.toNat, by have := F0.1; omega⟩
  obtain ⟨sx, hsx⟩ : ∃ x : Nat, D.S = (x : Int) := ⟨D.S.toNat, by have := F0.2.1; omega⟩
  have hF : F.size ≤ 8 := by rw [← hF9]; exact F0.2.2.1
  have hT : T.size ≤ 8 := by rw [← hT9]; exact F0.2.2.2.1
  have hc : cx < 4294967296 := by have := F0.1; omega
  have hx : sx < 4294967296 := by have := F0.2.1; omega
  have hn : n ≤ 120 := by rw [← hM, ← hM9]; exact F0.2.2.2.2.1
  have hs : ∀ p ∈ M, p.1.size ≤ 90 ∧ p.2.1.size ≤ 90 ∧ p.2.2.1.size ≤ 90 := by rw [← hM9]; exact F0.2.2.2.2.2
  rw [hM9] at h
  have HQ : Hid (M.length = n ∧ (∀ p ∈ M, p.1.size ≤ 90 ∧ p.2.1.size ≤ 90 ∧ p.2.2.1.size ≤ 90) ∧ Src w a (cellsDf M)) := ⟨hM, hs, h⟩
  have FF : Hid (bkA D = ([98, 97, 99, 107, 117, 112] ++ (numQ cx ++ fieldsB [F, T]) ++ [n] ++ partsB M ++ numQ sx ++ numQ (sumL (numQ cx ++ fieldsB [F, T] ++ partsB M ++ numQ sx)), 0)) := by
    show _ = _
    unfold bkA
    rw [if_pos OK.out]
    unfold bytesK linkN headB
    rw [hF9, hT9, hM9, hcx, hsx, hM, Int.toNat_natCast, Int.toNat_natCast, Nat.mod_eq_of_lt (by omega)]
  rw [hF9, hT9, hcx, hsx, hM9, hM] at RK A0 ⊢
  clear hs h hM F0 hF9 hT9 hM9 hcx hsx
  go_enter Tryd.func26, Tryd.ntmps26
  go_wp2_with fail
  go_at_call 30
  refine (specBackupOK _ D _ SK.out (RK.out.below A0.out)).mono ?_
  rw [OK.out]
  rintro e w1 ⟨rfl, hb1⟩
  have B1 : Hid (Below w.heap.size w w1) := Below.new hb1
  have X1 : Hid (Box w1 w.heap.size [.string F, .string T, .int .i64 (cx : Int), .slice a n c, .int .i64 (sx : Int)]) := Box.below (Box.new rfl) hb1
  clear hb1
  obtain ⟨p0, _⟩ := X1.out 0 _ rfl
  obtain ⟨p1, _⟩ := X1.out 1 _ rfl
  obtain ⟨p2, _⟩ := X1.out 2 _ rfl
  obtain ⟨p3, _⟩ := X1.out 3 _ rfl
  obtain ⟨p4, _⟩ := X1.out 4 _ rfl
  go_wp2_with fail
  go_at_call 31
  refine (specBytes F T cx sx a n c M _ hF hT hc hx HQ.out.1 hn HQ.out.2.1 (HQ.out.2.2.below B1.out)).mono ?_
  rintro e w2 ⟨v2, rfl, o2, hb2⟩
  have B2 : Hid (Below w.heap.size w w2) := B1.out.trans (hb2.mono B1.out.size)
  obtain ⟨tot, htot⟩ : ∃ x, [98, 97, 99, 107, 117, 112] ++ (numQ cx ++ fieldsB [F, T]) ++ [n] ++ partsB M ++ numQ sx ++ numQ (sumL (numQ cx ++ fieldsB [F, T] ++ partsB M ++ numQ sx)) = x := ⟨_, rfl⟩
  rw [htot] at o2 FF
  have O2 : Hid (w2.ownsRow w.heap.size 5 1 v2 tot.length (cellsB tot)) := own_mono o2 (by have h9 := B1.out.size; omega)
  clear hb2 o2 htot p0 p1 p2 p3 p4
  go_wp2_with fail
  go_ret2
  exact ⟨v2, tot, 0, rfl, FF.out, O2.out, LN.out FF.out, B2.out⟩
end Go.Proofs.YtmbndpgoihdpnaaDoor
