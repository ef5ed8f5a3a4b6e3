/-
  Texts of the store, brought together: Sok, Flds2, Flds3. By an AI agent.
-/
import Derived.Test.YtnnimocaanofjaaGreatDoorSq16
import Derived.Test.YtnnimocaanofjaaGreatDoorSq15
namespace Go.Proofs.YtnnimocaanofjaaGreatDoor
open Go.ChangeShapes Go.WideShapes Go.ChangeAt Go.RowKit Go.Deep
set_option linter.unusedVariables false
set_option linter.unusedSimpArgs false
set_option maxRecDepth 100000
def rootB (r : Int) : Bool := decide (-1 ≤ r ∧ r ≤ 49)
def tickB (t : Int) : Bool := decide (0 ≤ t ∧ t ≤ 60000)
def upN (S : List SN) (i : Nat) : Bool := decide (i = 0) || Op.bytesLess (S.getD (i - 1) sn0).1.toList (S.getD i sn0).1.toList
def snapB (S : List SN) (i : Nat) : Bool := shortB (S.getD i sn0).1 && rootB (S.getD i sn0).2.1 && tickB (S.getD i sn0).2.2 && upN S i
def snapsB (S : List SN) : Bool := (List.range S.length).all (snapB S)
def okU (D : UM) : Bool := decide (0 ≤ D.G ∧ D.G ≤ 200) && rootB D.R && decide (D.S.length ≤ 4) && snapsB D.S
theorem snaps_bad {S : List SN} {k : Nat} (hk : k < S.length) (h : snapB S k = false) : snapsB S = false := by
  unfold snapsB
  rw [List.all_eq_false]
  exact ⟨k, List.mem_range.2 hk, by rw [h]; decide⟩
theorem snaps_good {S : List SN} (h : ∀ k, k < S.length → snapB S k = true) : snapsB S = true := by
  unfold snapsB
  rw [List.all_eq_true]
  exact fun k hk => h k (List.mem_range.1 hk)
theorem rootFits (b : Bool) (r : Int) (w : World) (h : rootB r = b) : Calls Tryz.prog 174 #[.int .i64 r] w fun e w' => e = .returned (.bool b) ∧ w = w' := by
  have HB : Hid (rootB r = b) := h
  by_cases h1 : r = -1
  · subst h1
    clear h
    go_enter Tryz.func174, Tryz.ntmps174
    go_wp2_with fail
    go_ret
    exact ⟨ret_bool (by rw [← HB.out]; rfl), rfl⟩
  · have h1' : (r == -1) = false := by simpa using h1
    have HP : Hid (pageB r = b) := by show pageB r = b; rw [← h]; rw [Bool.eq_iff_iff]; simp [pageB, rootB]; omega
    clear h h1
    go_enter Tryz.func174, Tryz.ntmps174
    go_wp2_with (go_at_call 162; refine (isPage _ _).mono ?_; rw [HP.out]; rintro e w1 ⟨rfl, rfl⟩)
    go_ret
    exact ⟨rfl, rfl⟩
theorem tickFits (b : Bool) (r : Int) (w : World) (h : tickB r = b) : Calls Tryz.prog 176 #[.int .i64 r] w fun e w' => e = .returned (.bool b) ∧ w = w' := by
  have HB : Hid (tickB r = b) := h
  clear h
  go_enter Tryz.func176, Tryz.ntmps176
  go_wp2
  all_goals
    go_ret
    exact ⟨ret_bool (by rw [← HB.out, Bool.eq_iff_iff]; simp [tickB]; omega), rfl⟩
theorem shortNameIs (b : Bool) (s : ByteArray) (w : World) (h : shortB s = b) (hs : s.size ≤ maxLen) : Calls Tryz.prog 175 #[.string s] w fun e w' => e = .returned (.bool b) ∧ w = w' := by
  rw [← h]; exact shortName s w hs
theorem l04NameIs (b : Bool) (s : ByteArray) (w : World) (h : shortB s = b) (hs : s.size ≤ maxLen) : Calls Tryz.prog 78 #[.string s] w fun e w' => e = .returned (.bool b) ∧ w' = w := by
  rw [← h]; exact (l04Name s w hs).mono fun e w' ⟨h1, h2⟩ => ⟨h1, h2.symm⟩
set_option maxHeartbeats 4000000 in
theorem implSuperOK (v : Value) (D : UM) (w : World) (hs : smallU D) (h : ReadsU w v D) :
    Calls Tryz.prog 157 #[v] w fun e w' => e = .returned (.bool (okU D)) ∧ Below w.heap.size w w' := by
  obtain ⟨a, c, rfl, s1⟩ := h
  obtain ⟨bb, hbb⟩ : ∃ bb, okU D = bb := ⟨_, rfl⟩
  rw [hbb]
  obtain ⟨pb, hpb⟩ : ∃ pb, snapsB D.S = pb := ⟨_, rfl⟩
  obtain ⟨n, hn⟩ : ∃ n, D.S.length = n := ⟨_, rfl⟩
  obtain ⟨G, hG⟩ : ∃ G, D.G = G := ⟨_, rfl⟩
  obtain ⟨R, hR⟩ : ∃ R, D.R = R := ⟨_, rfl⟩
  have S1 : Hid (Src w a (cellsSn D.S)) := s1
  have N1 : Hid (D.S.length = n) := hn
  have HF : Hid (bb = (decide (0 ≤ G ∧ G ≤ 200) && rootB R && decide (n ≤ 4) && pb)) := by
    show bb = _
    rw [← hbb, ← hpb, ← hn, ← hG, ← hR]; rfl
  have HL : Hid (∀ x ∈ D.S, x.1.size ≤ 1048576) := hs.2
  have PB : Hid (snapsB D.S = pb) := hpb
  have NB : Hid (n ≤ 1048576) := by rw [← hn]; exact hs.1
  rw [hn, hG, hR]
  clear s1 hn hG hR hbb hpb hs
  by_cases t1 : G < 0
  · have F : Hid (bb = false) := by show bb = false; rw [HF.out, decide_eq_false (by omega)]; rfl
    clear HF
    go_enter Tryz.func157, Tryz.ntmps157
    go_wp2_with fail
    go_ret
    exact ⟨ret_bool F.out.symm, (Below.refl _ _).alloc (Nat.le_refl _) _⟩
  by_cases t2 : 200 < G
  · have F : Hid (bb = false) := by show bb = false; rw [HF.out, decide_eq_false (by omega)]; rfl
    clear HF
    go_enter Tryz.func157, Tryz.ntmps157
    go_wp2_with fail
    go_ret
    exact ⟨ret_bool F.out.symm, (Below.refl _ _).alloc (Nat.le_refl _) _⟩
  cases hr : rootB R with
  | false =>
    have F : Hid (bb = false) := by show bb = false; rw [HF.out, hr]; simp
    have HR : Hid (rootB R = false) := hr
    clear HF hr
    go_enter Tryz.func157, Tryz.ntmps157
    go_wp2_with (go_at_call 174; refine (rootFits false _ _ HR.out).mono ?_; rintro e w1 ⟨rfl, rfl⟩)
    go_ret
    exact ⟨ret_bool F.out.symm, (Below.refl _ _).alloc (Nat.le_refl _) _⟩
  | true =>
  have HR : Hid (rootB R = true) := hr
  by_cases t3 : (4 : Int) < (n : Int)
  · have F : Hid (bb = false) := by show bb = false; rw [HF.out, decide_eq_false (p := n ≤ 4) (by omega)]; simp
    clear HF hr
    go_enter Tryz.func157, Tryz.ntmps157
    go_wp2_with (go_at_call 174; refine (rootFits true _ _ HR.out).mono ?_; rintro e w1 ⟨rfl, rfl⟩)
    go_ret
    exact ⟨ret_bool F.out.symm, (Below.refl _ _).alloc (Nat.le_refl _) _⟩
  have FP : Hid (bb = pb) := by show bb = pb; rw [HF.out, hr, decide_eq_true (p := n ≤ 4) (by omega), decide_eq_true (p := 0 ≤ G ∧ G ≤ 200) (by omega)]; simp
  clear HF hr
  go_enter Tryz.func157, Tryz.ntmps157
  go_wp2_with (go_at_call 174; refine (rootFits true _ _ HR.out).mono ?_; rintro e w1 ⟨rfl, rfl⟩)
  go_loopw [28] (fun i wr => ∃ k : Nat, k ≤ n ∧ i = .int .i64 k ∧ Hid (∀ j, j < k → snapB D.S j = true) ∧ Hid (Below w.heap.size w wr) ∧ Hid (Box wr w.heap.size [.int .i64 G, .int .i64 R, .slice a n c])) (fun i _ => n - (intOf i).toNat)
  case atStart => exact ⟨0, by omega, rfl, fun j hj => absurd hj (by omega), (Below.refl _ _).alloc (Nat.le_refl _) _, Box.new rfl⟩
  case round =>
    obtain ⟨k, hk, rfl, hg, hb, hx⟩ := hrel
    by_cases hlt : k < n
    · obtain ⟨b, o, x, y, z, rfl, q1, q2, q3, hy⟩ := srcSn (S1.out.below hb.out) (i := k) (by rw [N1.out]; exact hlt)
      have hki : (k : Int) < (n : Int) := by omega
      have SX : Hid (x.size ≤ maxLen) := by
        have h1 := HL.out _ (mem_getD D.S sn0 k (by rw [N1.out]; exact hlt))
        rw [hy.out] at h1
        show x.size ≤ maxLen
        unfold maxLen; exact Nat.le_trans h1 (by omega)
      have HB1 : Hid (Below w.heap.size w (wr.alloc (.cells #[.string x, .int .i64 y, .int .i64 z] 122))) := hb.out.alloc hb.out.size _
      have HX1 : Hid (Box (wr.alloc (.cells #[.string x, .int .i64 y, .int .i64 z] 122)) w.heap.size [.int .i64 G, .int .i64 R, .slice (some ⟨b, o, none⟩) n c]) := hx.out.old _
      have hgd : Hid (snapB D.S k = (shortB x && rootB y && tickB z && upN D.S k)) := by show _ = _; unfold snapB; rw [hy.out]
      cases h1 : shortB x with
      | false =>
        have F : Hid (bb = false) := by
          show bb = false
          rw [FP.out, ← PB.out]
          exact snaps_bad (k := k) (by rw [N1.out]; exact hlt) (by rw [hgd.out, h1]; rfl)
        have H1 : Hid (shortB x = false) := h1
        clear h1
        go_wp2_with (go_at_call 175; refine (shortNameIs false _ _ H1.out SX.out).mono ?_; rintro e w1 ⟨rfl, rfl⟩)
        go_ret
        exact ⟨ret_bool F.out.symm, HB1.out⟩
      | true =>
      have H1 : Hid (shortB x = true) := h1
      cases h2 : rootB y with
      | false =>
        have F : Hid (bb = false) := by
          show bb = false
          rw [FP.out, ← PB.out]
          exact snaps_bad (k := k) (by rw [N1.out]; exact hlt) (by rw [hgd.out, h1, h2]; rfl)
        have H2 : Hid (rootB y = false) := h2
        clear h1 h2
        go_wp2_with (first | (go_at_call 174; refine (rootFits false _ _ H2.out).mono ?_; rintro e w1 ⟨rfl, rfl⟩) | (go_at_call 175; refine (shortNameIs true _ _ H1.out SX.out).mono ?_; rintro e w1 ⟨rfl, rfl⟩))
        go_ret
        exact ⟨ret_bool F.out.symm, HB1.out⟩
      | true =>
      have H2 : Hid (rootB y = true) := h2
      cases h3 : tickB z with
      | false =>
        have F : Hid (bb = false) := by
          show bb = false
          rw [FP.out, ← PB.out]
          exact snaps_bad (k := k) (by rw [N1.out]; exact hlt) (by rw [hgd.out, h1, h2, h3]; rfl)
        have H3 : Hid (tickB z = false) := h3
        clear h1 h2 h3
        go_wp2_with (first | (go_at_call 176; refine (tickFits false _ _ H3.out).mono ?_; rintro e w1 ⟨rfl, rfl⟩) | (go_at_call 174; refine (rootFits true _ _ H2.out).mono ?_; rintro e w1 ⟨rfl, rfl⟩) | (go_at_call 175; refine (shortNameIs true _ _ H1.out SX.out).mono ?_; rintro e w1 ⟨rfl, rfl⟩))
        go_ret
        exact ⟨ret_bool F.out.symm, HB1.out⟩
      | true =>
      have H3 : Hid (tickB z = true) := h3
      have hgd2 : Hid (snapB D.S k = upN D.S k) := by show _ = _; rw [hgd.out, h1, h2, h3]; rfl
      clear h1 h2 h3
      by_cases hz : k = 0
      · have hgood : Hid (snapB D.S k = true) := by show snapB D.S k = true; rw [hgd2.out]; unfold upN; rw [decide_eq_true hz]; rfl
        have hkz : decide (0 < k) = false := by simp; omega
        clear hz
        go_wp2_with (first | (go_at_call 176; refine (tickFits true _ _ H3.out).mono ?_; rintro e w1 ⟨rfl, rfl⟩) | (go_at_call 174; refine (rootFits true _ _ H2.out).mono ?_; rintro e w1 ⟨rfl, rfl⟩) | (go_at_call 175; refine (shortNameIs true _ _ H1.out SX.out).mono ?_; rintro e w1 ⟨rfl, rfl⟩))
        go_quiet (fail)
        go_wp2_with fail
        exact ⟨⟨k + 1, by omega, by go_num, fun j hj => by
          by_cases e : j = k
          · rw [e]; exact hgood.out
          · exact hg.out j (by omega), Below.drewN' HB1.out _, HX1.out⟩, by simp [intOf]; omega⟩
      · obtain ⟨b4, o4, x4, y4, z4, e4, d1, d2, d3, hy4⟩ := srcSn (S1.out.below HB1.out) (i := k - 1) (by rw [N1.out]; omega)
        cases e4
        obtain ⟨g2, _⟩ := HX1.out 2 _ rfl
        have hkp : 0 < k := by omega
        have hkm : (0 : Int) ≤ (k : Int) - 1 := by omega
        have hkm2 : (k : Int) - 1 < (n : Int) := by omega
        by_cases hl : Op.bytesLess x4.toList x.toList = true
        · have hgood : Hid (snapB D.S k = true) := by show snapB D.S k = true; rw [hgd2.out]; unfold upN; rw [hy.out, hy4.out, hl]; simp
          clear hz
          go_wp2_with (first | (go_at_call 176; refine (tickFits true _ _ H3.out).mono ?_; rintro e w1 ⟨rfl, rfl⟩) | (go_at_call 174; refine (rootFits true _ _ H2.out).mono ?_; rintro e w1 ⟨rfl, rfl⟩) | (go_at_call 175; refine (shortNameIs true _ _ H1.out SX.out).mono ?_; rintro e w1 ⟨rfl, rfl⟩))
          go_quiet (fail)
          go_wp2_with fail
          exact ⟨⟨k + 1, by omega, by go_num, fun j hj => by
            by_cases e : j = k
            · rw [e]; exact hgood.out
            · exact hg.out j (by omega), Below.drewN' HB1.out _, HX1.out⟩, by simp [intOf]; omega⟩
        · have hl' : Op.bytesLess x4.toList x.toList = false := by simpa using hl
          have F : Hid (bb = false) := by
            show bb = false
            rw [FP.out, ← PB.out]
            exact snaps_bad (k := k) (by rw [N1.out]; exact hlt) (by rw [hgd2.out]; unfold upN; rw [hy.out, hy4.out, hl', decide_eq_false hz]; rfl)
          clear hl hz
          go_wp2_with (first | (go_at_call 176; refine (tickFits true _ _ H3.out).mono ?_; rintro e w1 ⟨rfl, rfl⟩) | (go_at_call 174; refine (rootFits true _ _ H2.out).mono ?_; rintro e w1 ⟨rfl, rfl⟩) | (go_at_call 175; refine (shortNameIs true _ _ H1.out SX.out).mono ?_; rintro e w1 ⟨rfl, rfl⟩))
          go_quiet (fail)
          go_wp2_with fail
          go_ret
          exact ⟨ret_bool F.out.symm, Below.drewN' HB1.out _⟩
    · have hkn : k = n := by omega
      have F : Hid (bb = true) := by
        show bb = true
        rw [FP.out, ← PB.out]
        exact snaps_good fun j hj => hg.out j (by rw [N1.out] at hj; omega)
      clear hkn
      go_wp2_with fail
      go_ret
      exact ⟨ret_bool F.out.symm, hb.out⟩
theorem step_call {P : Program} {ops : Array Oper} {o : Oper} {a : Act} {w : World} {K : Act → World → Prop} {Q : Exit → Act → World → Prop} {E : Prop}
    (hg : o.guard = none) (f : FuncId) (fn : Func) (hf : P.funcs[f]? = some fn) (hn : (fn.name == "runtime.NumGoroutine") = false) (hb : fn.body.isNone = false) (args : Array Operand) (tys : Array TypeId) (ho : o.op = .call { callee := .value (.func f), args := args, argTypes := tys })
    (vs : Array Value) (hv : args.map a.eval = vs) (Post : Ending → World → Prop) (h : Calls P f vs w Post) (hp : ∀ e w', Post e w' → ∃ v, e = .returned v ∧ K (a.put o.dst v) w') :
    if Region.wanted o (yielded ops a.tmps) = true then Oper.wp P o a w K Q else E := by
  have hw : Region.wanted o (yielded ops a.tmps) = true := by simp [Region.wanted, hg]
  rw [if_pos hw]
  have hrun : (execOp a.eval o).run P w = .ok (.enter f vs) w := by
    unfold execOp
    simp only [ho, resolve, hv]
    have hn' : ¬ fn.name = "runtime.NumGoroutine" := by simpa using hn
    have hb' : ¬ fn.body = none := fun h => by rw [h] at hb; simp at hb
    simp [go_sem, callFunc, hf, hn', hb']
  unfold Oper.wp
  rw [hrun, Oper.upon_enter]
  exact h.mono fun e w' hpe => by
    obtain ⟨v, rfl, hk⟩ := hp e w' hpe
    exact hk
def ltk (L : List ByteArray) (k : Nat) : List Nat := (L.length % 256) :: (L.take k).flatMap fieldB
theorem fieldB_length (s : ByteArray) : (fieldB s).length = 2 + s.size := by simp [fieldB, numB, bytesOf_length]; omega
theorem ltk_snoc (L : List ByteArray) (k : Nat) (y : ByteArray) (h : k < L.length) (hy : L.getD k e0 = y) : ltk L (k + 1) = ltk L k ++ fieldB y := by
  unfold ltk
  rw [List.getD_eq_getElem?_getD, List.getElem?_eq_getElem h] at hy
  rw [List.take_succ_eq_append_getElem h, List.flatMap_append]
  simp at hy
  simp [hy]
theorem ltk_all (L : List ByteArray) : ltk L L.length = fieldsB L := by unfold ltk fieldsB; rw [List.take_length]
theorem flat_le (L : List ByteArray) (m : Nat) (hs : ∀ x ∈ L, x.size ≤ m) : (L.flatMap fieldB).length ≤ L.length * (2 + m) := by
  induction L with
  | nil => simp
  | cons x L ih =>
    have h1 := hs x (by simp)
    have h2 := ih (fun y hy => hs y (by simp [hy]))
    rw [List.flatMap_cons, List.length_append, fieldB_length, List.length_cons, Nat.succ_mul]
    omega
theorem ltk_le (L : List ByteArray) (k : Nat) (hs : ∀ x ∈ L, x.size ≤ 300) (hk : k ≤ 200) : (ltk L k).length ≤ 60401 := by
  unfold ltk
  rw [List.length_cons]
  have h := flat_le (L.take k) 300 (fun x hx => hs x (List.mem_of_mem_take hx))
  have h2 : (L.take k).length ≤ 200 := by have := List.length_take_le k L; omega
  have h3 : (L.take k).length * (2 + 300) ≤ 200 * 302 := Nat.mul_le_mul_right _ h2
  omega
theorem own_lit {w : World} {base : Nat} (cur : Array Value) (n s e : Nat) (hb : base ≤ w.heap.size) (hn : n ≤ maxLen) (hs : cur.size = n * s) : (w.alloc (.cells cur e)).ownsRow base e s (.slice (some ⟨w.heap.size, 0, none⟩) n n) n cur.toList :=
  ⟨by simp [hs], .inr ⟨w.heap.size, n, cur, rfl, hb, heap_alloc_new w _, Nat.le_refl _, hn, hs, by rw [List.take_of_length_le (by simp [hs])]⟩⟩
theorem own_oneB {w : World} {x : Nat} {z : Int} {B base : Nat} (hB : B = w.heap.size) (hz : z = (x : Int)) (hb : base ≤ w.heap.size) : (w.alloc (.cells #[.int .u8 z] 5)).ownsRow base 5 1 (.slice (some ⟨B, 0, none⟩) 1 1) 1 (cellsB [x]) := by
  subst hB hz
  exact own_lit #[.int .u8 (x : Int)] 1 1 5 hb (by unfold maxLen; omega) rfl
theorem infoB2 : ∃ i, Tryz.prog.info? 5 = some i ∧ i.zero = some (.int .u8 0) ∧ i.size = 1 ∧ i.bytes = 1 := by
  obtain ⟨i, hi, hz⟩ := Option.map_eq_some_iff.1 infoB
  simp only [Prod.mk.injEq] at hz
  exact ⟨i, hi, hz.1, hz.2.1, hz.2.2⟩
theorem step_append_string {P : Program} {ops : Array Oper} {o : Oper} {a : Act} {w : World} {K : Act → World → Prop} {Q : Exit → Act → World → Prop} {E : Prop}
    (hg : o.guard = none) (sl x : Operand) (t u : TypeId) (ho : o.op = .call { callee := .builtin .append, args := #[sl, x], argTypes := #[t, u] })
    (base : Nat) (e : TypeId) (i : TypeInfo) (ht : P.underlying t = some (.slice e)) (hu : P.underlying u = some .string) (hi : P.info? e = some i) (hz : i.zero = some (.int .u8 0)) (hsize : i.size = 1) (hby : i.bytes = 1)
    (v : Value) (n : Nat) (xs : List Value) (hs : a.eval sl = v) (hown : w.ownsRow base e 1 v n xs) (s : ByteArray) (hx : a.eval x = .string s)
    (h63 : n + s.size ≤ maxLen) (hbytes : n + s.size ≤ 140737488355328) (hbase : base ≤ w.heap.size)
    (h : ∀ v' w', w'.ownsRow base e 1 v' (n + s.size) (xs ++ Lib.strCells s) → w.grownBy w' v.ownBlock → K (a.put o.dst v') w') :
    if Region.wanted o (yielded ops a.tmps) = true then Oper.wp P o a w K Q else E := by
  have hw : Region.wanted o (yielded ops a.tmps) = true := by simp [Region.wanted, hg]
  rw [if_pos hw]
  obtain ⟨v', w', hr, h2, h3, h4⟩ := Lib.run_append_own_string (P := P) w base t u o.type e i ht hu hi hz hsize hby v n xs hown s h63 hbytes hbase
  unfold Oper.wp execOp
  simp only [ho, resolve, invoke, builtin, Sem.run_bind, Sem.run_pure, Result.andThen_ok, List.map_toArray, List.map_cons, List.map_nil, hs, hx, hr]
  exact h v' w' h2 h3
theorem src_some {w : World} {a : Option Addr} {x y : Nat} {L : List Nat} (h : Src w a (cellsB (x :: y :: L))) : ∃ b o, a = some ⟨b, o, none⟩ := by
  rcases h with h | ⟨b, o, rfl, _⟩
  · cases h
  · exact ⟨b, o, rfl⟩
set_option maxHeartbeats 2000000 in
theorem l01Fields (a : Option Addr) (n c : Nat) (L : List ByteArray) (w : World) (hL : L.length = n) (hn : n ≤ 200) (hs : ∀ x ∈ L, x.size ≤ 300) (h : Src w a (cellsS L)) :
    Calls Tryz.prog 83 #[.slice a n c] w fun e w' => ∃ v, e = .returned v ∧ w'.ownsRow w.heap.size 5 1 v (fieldsB L).length (cellsB (fieldsB L)) ∧ Below w.heap.size w w' := by
  have HA : Hid (∀ x ∈ L, x.size ≤ 300) := hs
  have HH : Hid (Src w a (cellsS L)) := h
  have HL : Hid (L.length = n) := hL
  obtain ⟨i0, hi0, hz0, hz1, hz2⟩ := infoB2
  have HI : Hid (Tryz.prog.info? 5 = some i0 ∧ i0.zero = some (.int .u8 0) ∧ i0.size = 1 ∧ i0.bytes = 1) := ⟨hi0, hz0, hz1, hz2⟩
  clear h hL hs hi0 hz0 hz1 hz2
  go_enter Tryz.func83, Tryz.ntmps83
  go_wp2_with fail
  go_loopw [3, 4] (fun bv i wr => ∃ (k m : Nat) (u : Value), u = bv ∧ k ≤ n ∧ i = .int .i64 k ∧ m ≤ 60401 ∧ Hid (m = (ltk L k).length) ∧ Hid (Below w.heap.size w wr) ∧ Hid (wr.ownsRow w.heap.size 5 1 u m (cellsB (ltk L k)))) (fun _ i _ => n - (intOf i).toNat)
  case atStart => exact ⟨0, 1, _, rfl, by omega, rfl, by omega, rfl, (Below.refl _ _).alloc (Nat.le_refl _) _, own_congr (own_oneB rfl (x := n % 256) (by first | rfl | (simp; done) | omega) (Nat.le_refl _)) (by unfold ltk; rw [HL.out]; rfl)⟩
  case round =>
    obtain ⟨k, m, u, hu, hk, rfl, hm, HM, hB, HW⟩ := hrel
    subst hu
    by_cases hlt : k < n
    · obtain ⟨b, o, y, rfl, hc, hy⟩ := srcS (HH.out.below hB.out) (i := k) (by rw [HL.out]; exact hlt)
      have hsz : y.size ≤ 300 := by
        rw [← hy.out]
        refine HA.out _ ?_
        rw [List.getD_eq_getElem?_getD, List.getElem?_eq_getElem (by rw [HL.out]; exact hlt)]; exact List.getElem_mem _
      have hlt3 : Hid (∀ g, Value.ownBlock u = some g → w.heap.size ≤ g ∧ g < wr.heap.size) := fun g e => HW.out.lt g e
      have XR : Hid (w.heap.size ≤ wr.heap.size) := hB.out.size
      have HX : Hid (ltk L (k + 1) = ltk L k ++ (numB y.size ++ bytesOf y)) := ltk_snoc L k y (by rw [HL.out]; exact hlt) hy.out
      have HM3 : Hid (m + 2 + y.size = (ltk L (k + 1)).length) := by
        show _ = _
        rw [HX.out, List.length_append, List.length_append, bytesOf_length, HM.out]; simp [numB]; omega
      have HM4 : Hid (m + 2 + y.size ≤ 60401) := by show m + 2 + y.size ≤ 60401; rw [HM3.out]; exact ltk_le L (k + 1) HA.out (by omega)
      have HN : Hid (Value.ownBlock u ≠ some b) := fun e => by
        have h1 := (hlt3.out b e).1
        obtain ⟨b', o', y', e', hc', _⟩ := srcS HH.out (i := k) (by rw [HL.out]; exact hlt)
        cases e'
        have h2 := World.block_lt_of_cell? _ _ hc'
        dsimp only at h2
        omega
      have hk0 : (0 : Int) ≤ (k : Int) := by omega
      have hkn : (k : Int) < (n : Int) := by omega
      go_wp2_with fail
      go_region_law (first
        | (refine step_append_string rfl (.tmp 22) (.tmp 26) 74 9 rfl w.heap.size 5 i0 Tryz.underlying74 Tryz.underlying9 HI.out.1 HI.out.2.1 HI.out.2.2.1 HI.out.2.2.2 v2 (m + 2) (cellsB (ltk L k) ++ cellsB (numB y.size)) (by simp [Act.eval]) O2.out y (by simp [Act.eval]) (by unfold maxLen; have := HM4.out; omega) (by have := HM4.out; omega) B2.out.size ?_; intro v3 w3 hown3 hgrow3; have B3 : Hid (Below w.heap.size w w3) := B2.out.grown hgrow3 B2.out.size (fun g e => (O2.out.lt g e).1); have O3 : Hid (w3.ownsRow w.heap.size 5 1 v3 (m + 2 + y.size) (cellsB (ltk L (k + 1)))) := own_congr hown3 (by rw [HX.out, strCells_bytes, cellsB_append, cellsB_append, List.append_assoc]); clear hown3 hgrow3)
        | (refine step_append_src rfl (.tmp 15) (.tmp 21) 74 rfl w.heap.size 5 (.int .u8 0) 1 1 Tryz.underlying74 infoB rfl (by decide) (by decide) u m (cellsB (ltk L k)) (by simp [Act.eval]) O1.out ⟨b1, o1, none⟩ 2 c1 (cellsB (numB y.size)) (by simp [Act.eval]) rfl S1.out (cellsB_one _) (by omega) (by omega) B1.out.size ?_; intro v2 w2 hown2 hgrow2 _; have B2 : Hid (Below w.heap.size w w2) := B1.out.grown hgrow2 B1.out.size (fun g e => (hlt3.out g e).1); have O2 : Hid (w2.ownsRow w.heap.size 5 1 v2 (m + 2) (cellsB (ltk L k) ++ cellsB (numB y.size))) := hown2; have hc2 : w2.cell? ⟨b, o + k, none⟩ = some (.string y) := (World.cell?_of_block (a := ⟨b, o + k, none⟩) (hgrow2.block b (World.block_lt_of_cell? _ _ hc1) (fun e => HN.out e.symm))).trans hc1; clear hown2 hgrow2)
        | (refine step_call rfl 81 _ Tryz.func81 (by kernel_rfl) (by kernel_rfl) #[.tmp 20, .const (.int .i64 2)] #[3, 3] rfl #[.int .i64 (y.size : Int), .int .i64 2] (by simp [Act.eval, Act.put]) _ (l01Number2 y.size _ (by omega)) ?_; rintro e w1 ⟨v1, rfl, hv1, hb1⟩; refine ⟨v1, rfl, ?_⟩; obtain ⟨ao, c1, rfl, s1, _⟩ := own_src hv1; obtain ⟨b1, o1, rfl⟩ := src_some s1; have S1 : Hid (Src w1 (some ⟨b1, o1, none⟩) (cellsB (numB y.size))) := s1; have B1 : Hid (Below w.heap.size w w1) := hB.out.drew.trans (hb1.mono hB.out.size); have O1 : Hid (w1.ownsRow w.heap.size 5 1 u m (cellsB (ltk L k))) := own_below (w := wr.drew) HW.out hb1; have hc1 : w1.cell? ⟨b, o + k, none⟩ = some (.string y) := (hb1.cell (p := ⟨b, o + k, none⟩) (World.block_lt_of_cell? _ _ hc)).trans hc; clear hv1 hb1 s1))
      all_goals go_wp2_with fail
      all_goals exact ⟨⟨k + 1, m + 2 + y.size, _, rfl, by omega, by go_num, HM4.out, HM3, B3.out, O3.out⟩, by simp [intOf]; omega⟩
    · have hkn : k = n := by omega
      have HF : Hid (ltk L k = fieldsB L) := by show _ = _; rw [hkn, ← HL.out, ltk_all]
      have HO : Hid (wr.ownsRow w.heap.size 5 1 u (fieldsB L).length (cellsB (fieldsB L))) := by
        have := HW.out
        rw [HM.out, HF.out] at this
        exact this
      clear hkn
      go_wp2_with fail
      go_ret
      exact ⟨_, rfl, HO.out, hB.out⟩
end Go.Proofs.YtnnimocaanofjaaGreatDoor
