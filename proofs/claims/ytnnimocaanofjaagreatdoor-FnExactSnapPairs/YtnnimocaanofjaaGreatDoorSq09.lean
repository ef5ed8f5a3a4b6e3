/-
  Texts of the store, brought together: Tr0, Noks. By an AI agent.
-/
import Derived.Test.YtnnimocaanofjaaGreatDoorSq08
namespace Go.Proofs.YtnnimocaanofjaaGreatDoor
open Go.ChangeShapes Go.WideShapes Go.ChangeAt Go.RowKit Go.Deep
set_option linter.unusedVariables false
set_option linter.unusedSimpArgs false
set_option maxRecDepth 100000
def KeptX (bad : List Nat) (w w' : World) : Prop := ∀ (k : Nat) (c : Array Value) (t : Nat), w.heap[k]? = some (Obj.cells c t (0, 0)) → t ∉ bad → w'.heap[k]? = some (Obj.cells c t (0, 0))
theorem KeptX.refl (bad : List Nat) (w : World) : KeptX bad w w := fun _ _ _ h _ => h
theorem KeptX.trans {bad : List Nat} {a b c : World} (h1 : KeptX bad a b) (h2 : KeptX bad b c) : KeptX bad a c := fun k x t h hn => h2 k x t (h1 k x t h hn) hn
theorem KeptX.of_below {bad : List Nat} {w w' : World} (h : Below w.heap.size w w') : KeptX bad w w' := fun k c t hk _ => by
  have hlt : k < w.heap.size := (Array.getElem?_eq_some_iff.1 hk).1
  rw [h.block k hlt]; exact hk
theorem KeptX.alloc {bad : List Nat} (w : World) (o : Obj) : KeptX bad w (w.alloc o) := KeptX.of_below ((Below.refl _ _).alloc (Nat.le_refl _) _)
theorem KeptX.drewN {bad : List Nat} (w : World) (n : Nat) : KeptX bad w (w.drewN n) := fun _ _ _ h _ => h
theorem KeptX.setCell {bad : List Nat} {w : World} {g i e : Nat} {c : Array Value} (hg : w.heap[g]? = some (.cells c e (0, 0))) (he : e ∈ bad) (v : Value) : KeptX bad w (w.setCell ⟨g, i, none⟩ v) := fun k x t hk hn => by
  rw [Below.heap_setCell _ _ _ _ (by
    intro e2
    have e3 : k = g := e2
    subst e3
    rw [hg] at hk
    cases hk
    exact hn he)]
  exact hk
theorem KeptX.grown {bad : List Nat} {w w' : World} {base e s n : Nat} {v : Value} {xs : List Value} (ho : w.ownsRow base e s v n xs) (he : e ∈ bad) (hg : w.grownBy w' v.ownBlock) : KeptX bad w w' := fun k x t hk hn => by
  have hlt : k < w.heap.size := (Array.getElem?_eq_some_iff.1 hk).1
  rw [hg.block k hlt (fun e2 => by
    obtain ⟨c, f, hk2⟩ := Lib.ownsRow_kind ho k e2.symm
    rw [hk] at hk2
    cases hk2
    exact hn he)]
  exact hk
theorem KeptX.own {bad : List Nat} {w w' : World} {base e s n : Nat} {v : Value} {xs : List Value} (h : KeptX bad w w') (ho : w.ownsRow base e s v n xs) (he : e ∉ bad) : w'.ownsRow base e s v n xs := by
  obtain ⟨hl, h0 | ⟨g, cap, cur, rfl, hb0, hg, rest⟩⟩ := ho
  · exact ⟨hl, .inl h0⟩
  · exact ⟨hl, .inr ⟨g, cap, cur, rfl, hb0, h g cur e hg he, rest⟩⟩
section
variable {w : World} {g t : Nat} {c : Array Value}
theorem blk_at (h : w.heap[g]? = some (.cells c t (0, 0))) {i : Nat} {v : Value} (hi : c[i]? = some v) : w.cell? ⟨g, i, none⟩ = some v ∧ w.frozen? ⟨g, i, none⟩ = false :=
  ⟨by rw [cell_of_row w g i c _ _ h]; exact hi, frozen_of_row w g i c _ h⟩
theorem blk_set (h : w.heap[g]? = some (.cells c t (0, 0))) (i : Nat) (v : Value) : (w.setCell ⟨g, i, none⟩ v).heap[g]? = some (.cells (c.setIfInBounds i v) t (0, 0)) := by
  simp [World.setCell, Array.getElem?_modify, h]
theorem blk_new (w : World) (c : Array Value) (t : Nat) : (w.alloc (.cells c t)).heap[w.heap.size]? = some (.cells c t (0, 0)) := heap_alloc_new w _
theorem blk_old (h : w.heap[g]? = some (.cells c t (0, 0))) (o : Obj) : (w.alloc o).heap[g]? = some (.cells c t (0, 0)) := by
  have hlt : g < w.heap.size := (Array.getElem?_eq_some_iff.1 h).1
  rw [heap_alloc_old w _ hlt]; exact h
theorem blk_other (h : w.heap[g]? = some (.cells c t (0, 0))) (a : Addr) (hne : g ≠ a.block) (v : Value) : (w.setCell a v).heap[g]? = some (.cells c t (0, 0)) := by
  rw [Below.heap_setCell _ _ _ _ hne]; exact h
end
def ptrs (gs : List Nat) : List Value := gs.map fun g => .pointer (some ⟨g, 0, none⟩)
theorem ptrs_length (gs : List Nat) : (ptrs gs).length = gs.length := by simp [ptrs]
theorem ptrs_append (gs fs : List Nat) : ptrs (gs ++ fs) = ptrs gs ++ ptrs fs := by simp [ptrs]
theorem ptrs_get (gs : List Nat) (i : Nat) (h : i < gs.length) : (ptrs gs)[i]? = some (.pointer (some ⟨gs.getD i 0, 0, none⟩)) := by simp [ptrs, h]
theorem ptrs_one (gs : List Nat) : ∀ u ∈ ptrs gs, u.oneCell' = true := by
  intro u hu
  simp only [ptrs, List.mem_map] at hu
  obtain ⟨x, _, rfl⟩ := hu
  rfl
def TwAt (H : List NM) (w0 : World) (lo hi : Nat) : Nat → World → Nat → Int → Prop
  | 0, _, _, _ => False
  | d + 1, w, g, q => badN (nd H q) = false ∧ lo ≤ g ∧ g < hi ∧ ∃ (a : Option Addr) (c kc : Nat) (ka : Option Addr) (gs : List Nat), w.heap[g]? = some (.cells #[.int .i64 q, .slice a (nd H q).P.length c, .slice ka gs.length kc] 216 (0, 0)) ∧ Src w0 a (cellsP (nd H q).P) ∧ gs.length = (nd H q).K.length ∧ (w.ownsRow lo 162 1 (.slice ka gs.length kc) gs.length (ptrs gs) ∧ ∀ b, (Value.slice ka gs.length kc).ownBlock = some b → b < hi) ∧ ∀ i, i < gs.length → TwAt H w0 lo hi d w (gs.getD i 0) ((nd H q).K.getD i 0)
theorem TwAt.kept {H : List NM} {w0 : World} {lo hi : Nat} {bad : List Nat} {w w' : World} (h : KeptX bad w w') (h1 : 216 ∉ bad) (h2 : 162 ∉ bad) : ∀ {d : Nat} {g : Nat} {q : Int}, TwAt H w0 lo hi d w g q → TwAt H w0 lo hi d w' g q
  | 0, _, _, ht => ht
  | d + 1, g, q, ⟨hb, l1, l2, a, c, kc, ka, gs, e1, e2, e3, ⟨e4, e6⟩, e5⟩ => ⟨hb, l1, l2, a, c, kc, ka, gs, h g _ _ e1 h1, e2, e3, ⟨h.own e4 h2, e6⟩, fun i hi => (e5 i hi).kept h h1 h2⟩
theorem TwAt.mono {H : List NM} {w0 : World} {lo hi lo' hi' : Nat} {w : World} (hl : lo' ≤ lo) (hh : hi ≤ hi') : ∀ {d : Nat} {g : Nat} {q : Int}, TwAt H w0 lo hi d w g q → TwAt H w0 lo' hi' d w g q
  | 0, _, _, ht => ht
  | d + 1, g, q, ⟨hb, l1, l2, a, c, kc, ka, gs, e1, e2, e3, ⟨e4, e6⟩, e5⟩ => ⟨hb, Nat.le_trans hl l1, Nat.lt_of_lt_of_le l2 hh, a, c, kc, ka, gs, e1, e2, e3, ⟨own_mono e4 hl, fun b e => Nat.lt_of_lt_of_le (e6 b e) hh⟩, fun i hi => (e5 i hi).mono hl hh⟩
theorem TwAt.grown {H : List NM} {w0 : World} {lo hi : Nat} {w w' : World} {row : Option Nat} (h : w.grownBy w' row) (hr : ∀ b, row = some b → b < lo ∨ hi ≤ b) : ∀ {d : Nat} {g : Nat} {q : Int}, TwAt H w0 lo hi d w g q → TwAt H w0 lo hi d w' g q
  | 0, _, _, ht => ht
  | d + 1, g, q, ⟨hb, l1, l2, a, c, kc, ka, gs, e1, e2, e3, ⟨e4, e6⟩, e5⟩ => ⟨hb, l1, l2, a, c, kc, ka, gs, by
      rw [h.block g (Array.getElem?_eq_some_iff.1 e1).1 (fun e => by have := hr g e.symm; omega)]; exact e1, e2, e3, ⟨own_grown e4 h (fun b e e2 => by have h1 := (e4.lt b e).1; have h2 := e6 b e; have := hr b e2; omega), e6⟩, fun i hi => (e5 i hi).grown h hr⟩
theorem own_drewN' {w : World} {base e s n m : Nat} {v : Value} {xs : List Value} (h : w.ownsRow base e s v n xs) : (w.drewN m).ownsRow base e s v n xs := h
theorem src_onePtr {w : World} {g B t : Nat} (hB : B = w.heap.size) : Src (w.alloc (.cells #[.pointer (some ⟨g, 0, none⟩)] t)) (some ⟨B, 0, none⟩) (ptrs [g]) := by
  subst hB
  refine .inr ⟨_, 0, rfl, fun j hj => ?_⟩
  have hb := Box.new (w := w) (B := w.heap.size) (vs := #[.pointer (some ⟨g, 0, none⟩)]) (t := t) rfl
  have hj' : j < 1 := hj
  rw [Nat.zero_add]
  match j, hj' with
  | 0, _ => exact (hb 0 _ rfl).1
theorem wpList_append_src' {P : Program} (w : World) {ops : Array Oper} {rest : List Oper} {o : Oper} {a : Act} {Q : Exit → Act → World → Prop} (hgd : o.guard = none) (s x : Operand) (t : TypeId)
    (ho : o.op = .call { callee := .builtin .append, args := #[s, x], argTypes := #[t, t] })
    (base : Nat) (e : TypeId) (z : Value) (size bytes : Nat) (ht : P.underlying t = some (.slice e)) (hinfo : (P.info? e).map (fun i => (i.zero, i.size, i.bytes)) = some (some z, size, bytes))
    (hzs : z.cells.size = size) (hsz : 0 < size) (hby : bytes ≤ 64) (v : Value) (n : Nat) (xs : List Value) (hs : a.eval s = v) (hown : w.ownsRow base e size v n xs)
    (ad : Addr) (m c : Nat) (news : List Value) (hx : a.eval x = .slice (some ad) m c) (hl : news.length = m * size) (hsrc : Src w (some ad) news) (h1 : ∀ u ∈ news, u.oneCell' = true) (hn : n + m ≤ 4194304) (hm : 0 < m) (hbase : base ≤ w.heap.size)
    (h : ∀ v' w', w'.ownsRow base e size v' (n + m) (xs ++ news) → w.grownBy w' v.ownBlock → (v'.ownBlock = v.ownBlock ∨ ∀ g, v'.ownBlock = some g → w.heap.size ≤ g) → wpList P ops Q rest (a.put o.dst v') w') : wpList P ops Q (o :: rest) a w :=
  wpList_plain hgd fun _ hK => by
    obtain ⟨v', w', hr, h2, h3, h4⟩ := run_append_src' (P := P) w base t o.type e z size bytes ht hinfo hzs hsz hby v n xs hown ad m c news hl hsrc h1 hn hm hbase
    unfold Oper.wp execOp
    simp only [ho, resolve, invoke, builtin, Sem.run_bind, Sem.run_pure, Result.andThen_ok, List.map_toArray, List.map_cons, List.map_nil, hs, hx, hr]
    exact hK _ _ (h v' w' h2 h3 h4)
theorem step_append_any {P : Program} {ops : Array Oper} {o : Oper} {a : Act} {w : World} {K : Act → World → Prop} {Q : Exit → Act → World → Prop} {E : Prop}
    (hg : o.guard = none) (s x : Operand) (t : TypeId) (ho : o.op = .call { callee := .builtin .append, args := #[s, x], argTypes := #[t, t] })
    (base : Nat) (e : TypeId) (z : Value) (size bytes : Nat) (ht : P.underlying t = some (.slice e)) (hinfo : (P.info? e).map (fun i => (i.zero, i.size, i.bytes)) = some (some z, size, bytes))
    (hzs : z.cells.size = size) (hsz : 0 < size) (hby : bytes ≤ 64) (v : Value) (n : Nat) (xs : List Value) (hs : a.eval s = v) (hown : w.ownsRow base e size v n xs)
    (ad : Option Addr) (m c : Nat) (news : List Value) (hx : a.eval x = .slice ad m c) (hl : news.length = m * size) (hsrc : Src w ad news) (h1 : ∀ u ∈ news, u.oneCell' = true) (hn : n + m ≤ 4194304) (hbase : base ≤ w.heap.size)
    (h : ∀ v' w', w'.ownsRow base e size v' (n + m) (xs ++ news) → w.grownBy w' v.ownBlock → K (a.put o.dst v') w') :
    if Region.wanted o (yielded ops a.tmps) = true then Oper.wp P o a w K Q else E := by
  have hw : Region.wanted o (yielded ops a.tmps) = true := by simp [Region.wanted, hg]
  rw [if_pos hw]
  obtain ⟨v', w', hr, h2, h3⟩ := run_append_src (P := P) w base t o.type e z size bytes ht hinfo hzs hsz hby v n xs hown ad m c news hl hsrc h1 hn hbase
  unfold Oper.wp execOp
  simp only [ho, resolve, invoke, builtin, Sem.run_bind, Sem.run_pure, Result.andThen_ok, List.map_toArray, List.map_cons, List.map_nil, hs, hx, hr]
  exact h v' w' h2 h3
set_option maxHeartbeats 1000000 in
theorem least {H : List NM} {w0 : World} {base0 lo hi : Nat} : ∀ (d : Nat) (g : Nat) (q : Int) (w : World), Below base0 w0 w → base0 = w0.heap.size → TwAt H w0 lo hi d w g q →
    Calls Tryz.prog 163 #[.pointer (some ⟨g, 0, none⟩)] w fun e w' => e = .returned (.string (leastM H d q)) ∧ w' = w
  | 0, _, _, _, _, _, h => False.elim h
  | d + 1, g, q, w, hB, hb0, ⟨hbad, _, _, a, c, kc, ka, gs, e1, e2, e3, ⟨e4, _⟩, e5⟩ => by
    have hs := ok_small hbad
    obtain ⟨p1, _⟩ := blk_at e1 (i := 1) rfl
    obtain ⟨p2, _⟩ := blk_at e1 (i := 2) rfl
    cases hK : (nd H q).K with
    | nil =>
      have hg0 : gs = [] := List.eq_nil_of_length_eq_zero (by rw [e3, hK]; rfl)
      subst hg0
      have hP := hs.2.2.2.1 hK
      obtain ⟨b, o, x, y, rfl, c1, c2, hx⟩ := srcP (e2.below (hb0 ▸ hB)) (i := 0) (by omega)
      have E : Hid (leastM H (d + 1) q = x) := by show leastM H (d + 1) q = x; rw [leastM, hK]; show ((nd H q).P.getD 0 p0).1 = x; rw [hx.out]
      obtain ⟨n, hn⟩ : ∃ n, (nd H q).P.length = n := ⟨_, rfl⟩
      rw [hn] at p1 hP
      have hn0 : (0 : Int) < (n : Int) := by omega
      rw [E.out]
      clear hs e2 e3 e4 e5 hK hx hn hbad e1 hB
      simp only [Nat.zero_mul, Nat.add_zero, List.length_nil] at c1 c2 p2
      go_enter Tryz.func163, Tryz.ntmps163
      go_wp2_with fail
      go_ret
      exact ⟨rfl, rfl⟩
    | cons k K =>
      have hgl : 0 < gs.length := by rw [e3, hK]; simp
      have h5 := e5 0 hgl
      have hk0 : (nd H q).K.getD 0 0 = k := by rw [hK]; rfl
      rw [hk0] at h5
      obtain ⟨n, hn⟩ : ∃ n, gs.length = n := ⟨_, rfl⟩
      obtain ⟨a', c', ea, sa, _⟩ := own_src e4
      cases ea
      have hcell : ∃ b o, ka = some ⟨b, o, none⟩ ∧ w.cell? ⟨b, o, none⟩ = some (.pointer (some ⟨gs.getD 0 0, 0, none⟩)) := by
        rcases sa with sa | ⟨b, o, rfl, hc⟩
        · rw [← ptrs_length, sa] at hgl; simp at hgl
        · have := hc 0 (by rw [ptrs_length]; exact hgl)
          rw [getD_some (ptrs_get gs 0 hgl), Nat.add_zero] at this
          exact ⟨b, o, rfl, this⟩
      obtain ⟨b, o, rfl, c1⟩ := hcell
      obtain ⟨g1, hg1⟩ : ∃ g1, gs.getD 0 0 = g1 := ⟨_, rfl⟩
      rw [hg1] at c1 h5
      rw [hn] at p2 hgl
      have hn0 : (0 : Int) < (n : Int) := by omega
      have IH := least d g1 k w hB hb0 h5
      have E : Hid (leastM H (d + 1) q = leastM H d k) := by show leastM H (d + 1) q = _; rw [leastM, hK]
      rw [E.out]
      have HI : Hid (Calls Tryz.prog 163 #[.pointer (some ⟨g1, 0, none⟩)] w fun e w' => e = .returned (.string (leastM H d k)) ∧ w' = w) := IH
      clear hs e2 e3 e4 e5 hK hn hbad e1 hB h5 IH hk0 hg1 sa p1
      go_enter Tryz.func163, Tryz.ntmps163
      go_wp2_with (go_at_call 163; refine HI.out.mono ?_; rintro e w' ⟨rfl, rfl⟩)
      go_ret
      exact ⟨rfl, rfl⟩
theorem page_in (q : Int) : (decide (0 ≤ q) && decide (q ≤ 49)) = pageB q := by
  rw [Bool.eq_iff_iff]; simp [pageB]; omega
theorem key_in (y : ByteArray) : (decide (1 ≤ (y.size : Int)) && decide ((y.size : Int) ≤ 30)) = keyB y := rfl
theorem ok_leaf {D : NM} (h : D.A = true) : okB D = leafB D := by
  have h1 : freeB D = false := by unfold freeB; rw [h]; simp
  have h2 : innerB D = false := by unfold innerB; rw [h]; simp
  unfold okB
  rw [h1, h2]; simp
theorem ok_inner {D : NM} (h : D.A = false) (hf : freeB D = false) : okB D = innerB D := by
  have h2 : leafB D = false := by unfold leafB; rw [h]; simp
  unfold okB
  rw [hf, h2]; simp
set_option maxHeartbeats 4000000 in
theorem specNodeOK (v : Value) (D : NM) (w : World) (hs : smallN D) (h : ReadsN w v D) :
    Calls Tryz.prog 124 #[v] w fun e w' => e = .returned (.bool (okB D)) ∧ Below w.heap.size w w' := by
  obtain ⟨bb, hbb⟩ : ∃ bb, okB D = bb := ⟨_, rfl⟩
  rw [hbb]
  have HB : Hid (okB D = bb) := hbb
  obtain ⟨b1, h1⟩ : ∃ b, freeB D = b := ⟨_, rfl⟩
  have H1 : Hid (freeB D = b1) := h1
  have HS : Hid (smallN D) := hs
  obtain ⟨a1, c1, a2, c2, a3, c3, rfl, s1, s2, s3⟩ := h
  have HR : Hid (ReadsN w (.agg #[.bool D.A, .slice a1 D.P.length c1, .slice a2 D.L.length c2, .slice a3 D.K.length c3]) D) := ⟨a1, c1, a2, c2, a3, c3, rfl, s1, s2, s3⟩
  have S1 : Hid (Src w a1 (cellsP D.P)) := s1
  have S2 : Hid (Src w a2 (cellsS D.L)) := s2
  have S3 : Hid (Src w a3 (cellsI D.K)) := s3
  obtain ⟨n1, hn1⟩ : ∃ n, D.P.length = n := ⟨_, rfl⟩
  obtain ⟨n2, hn2⟩ : ∃ n, D.L.length = n := ⟨_, rfl⟩
  obtain ⟨n3, hn3⟩ : ∃ n, D.K.length = n := ⟨_, rfl⟩
  obtain ⟨A, hA⟩ : ∃ A, D.A = A := ⟨_, rfl⟩
  have N1 : Hid (D.P.length = n1) := hn1
  have N2 : Hid (D.L.length = n2) := hn2
  have N3 : Hid (D.K.length = n3) := hn3
  have NA : Hid (D.A = A) := hA
  have HN : Hid (n1 ≤ 1048576 ∧ n2 ≤ 1048576 ∧ n3 ≤ 1048576) := by
    have h1 := hs.1
    unfold wtN at h1
    exact ⟨by omega, by omega, by omega⟩
  have HP : Hid (∀ x ∈ D.P, x.1.size ≤ 1048576 ∧ x.2.size ≤ 1048576) := hs.2.1
  have HL : Hid (∀ x ∈ D.L, x.size ≤ 1048576) := hs.2.2
  rw [hn1, hn2, hn3, hA] at HR ⊢
  clear s1 s2 s3 hn1 hn2 hn3 hA hbb h1 hs
  go_enter Tryz.func124, Tryz.ntmps124
  go_wp2_with fail
  refine (l03Free _ D _ (HR.out.below ((Below.refl _ _).alloc (Nat.le_refl _) _))).mono ?_
  rw [H1.out]
  rintro e w1 ⟨rfl, hb1⟩
  have B1 : Hid (Below w.heap.size w w1) := Below.new hb1
  have X1 : Hid (Box w1 w.heap.size [.bool A, .slice a1 n1 c1, .slice a2 n2 c2, .slice a3 n3 c3]) := Box.below (Box.new rfl) hb1
  clear hb1
  cases b1 with
  | true =>
    have F : Hid (bb = true) := by show bb = true; rw [← HB.out]; unfold okB; rw [H1.out]; rfl
    go_wp2_with fail
    go_ret
    exact ⟨ret_bool F.out.symm, B1.out⟩
  | false =>
    obtain ⟨p0, _⟩ := X1.out 0 _ rfl
    obtain ⟨p1, _⟩ := X1.out 1 _ rfl
    obtain ⟨p2, _⟩ := X1.out 2 _ rfl
    obtain ⟨p3, _⟩ := X1.out 3 _ rfl
    cases A with
    | true =>
      obtain ⟨pb, hpb⟩ : ∃ pb, pairsB (fK D.P) (fV D.P) n1 = pb := ⟨_, rfl⟩
      have PB : Hid (pairsB (fK D.P) (fV D.P) n1 = pb) := hpb
      have HF : Hid (bb = (decide (true = true ∧ n2 = 0 ∧ n3 = 0 ∧ 1 ≤ n1 ∧ n1 ≤ 3) && pb)) := by
        show bb = _
        rw [← HB.out, ok_leaf NA.out, ← hpb, ← N1.out, ← N2.out, ← N3.out]
        unfold leafB
        rw [NA.out]
      clear hpb
      by_cases t1 : 1 ≤ n1 ∧ n1 ≤ 3
      · have hin : Hid ((decide (1 ≤ (n1 : Int)) && decide ((n1 : Int) ≤ 3)) = true) := by show _ = true; simp; omega
        go_wp2_with (first | (go_at_call 77; refine (l01InIs true _ _ _ _ hin.out).mono ?_; rintro e w9 ⟨rfl, rfl⟩) | (go_at_call 152; refine (specPairsOK a1 n1 c1 (fK D.P) (fV D.P) _ HN.out.1 (fun i hi => HP.out _ (mem_getD D.P Go.Proofs.YtnnimocaanofjaaGreatDoor.p0 i (by rw [N1.out]; exact hi))) (sp_src (S1.out.below B1.out) N1.out)).mono ?_; rw [PB.out]; rintro e w2 ⟨rfl, hb2⟩; have B2 : Hid (Below w.heap.size w w2) := B1.out.trans (hb2.mono B1.out.size); have X2 : Hid (Box w2 w.heap.size [.bool true, .slice a1 n1 c1, .slice a2 n2 c2, .slice a3 n3 c3]) := X1.out.below hb2; clear hb2 p0 p1 p2 p3; obtain ⟨p0, _⟩ := X2.out 0 _ rfl; obtain ⟨p1, _⟩ := X2.out 1 _ rfl; obtain ⟨p2, _⟩ := X2.out 2 _ rfl; obtain ⟨p3, _⟩ := X2.out 3 _ rfl))
        all_goals
          go_ret
          refine ⟨ret_bool ?_, B2.out⟩
          rw [HF.out]
          rw [Bool.eq_iff_iff]
          simp_all
          try omega
      · have hin : Hid ((decide (1 ≤ (n1 : Int)) && decide ((n1 : Int) ≤ 3)) = false) := by show _ = false; simp; omega
        have F : Hid (bb = false) := by show bb = false; rw [HF.out, decide_eq_false (by rintro ⟨_, _, _, h4⟩; exact t1 h4)]; rfl
        clear HF t1
        go_wp2_with (go_at_call 77; refine (l01InIs false _ _ _ _ hin.out).mono ?_; rintro e w9 ⟨rfl, rfl⟩)
        go_ret
        exact ⟨ret_bool F.out.symm, B1.out⟩
    | false =>
      obtain ⟨pb, hpb⟩ : ∃ pb, kidsB D.K D.L = pb := ⟨_, rfl⟩
      have PB : Hid (kidsB D.K D.L = pb) := hpb
      have HF : Hid (bb = (decide (false = false ∧ n1 = 0 ∧ n2 = n3 ∧ 1 ≤ n3 ∧ n3 ≤ 4) && pb)) := by
        show bb = _
        rw [← HB.out, ok_inner NA.out H1.out, ← hpb, ← N1.out, ← N2.out, ← N3.out]
        unfold innerB
        rw [NA.out]
      clear hpb
      by_cases t1 : n1 = 0
      case neg =>
        have F : Hid (bb = false) := by show bb = false; rw [HF.out, decide_eq_false (by rintro ⟨_, h2, _⟩; exact t1 h2)]; rfl
        have t1' : ((n1 : Int) != 0) = true := by simp; omega
        clear HF t1
        go_wp2_with fail
        go_ret
        exact ⟨ret_bool F.out.symm, B1.out⟩
      subst t1
      by_cases t2 : 1 ≤ n3 ∧ n3 ≤ 4
      case neg =>
        have hin : Hid ((decide (1 ≤ (n3 : Int)) && decide ((n3 : Int) ≤ 4)) = false) := by show _ = false; simp; omega
        have F : Hid (bb = false) := by show bb = false; rw [HF.out, decide_eq_false (by rintro ⟨_, _, _, h4⟩; exact t2 h4)]; rfl
        clear HF t2
        go_wp2_with (go_at_call 77; refine (l01InIs false _ _ _ _ hin.out).mono ?_; rintro e w9 ⟨rfl, rfl⟩)
        go_ret
        exact ⟨ret_bool F.out.symm, B1.out⟩
      have hin : Hid ((decide (1 ≤ (n3 : Int)) && decide ((n3 : Int) ≤ 4)) = true) := by show _ = true; simp; omega
      by_cases t3 : n2 = n3
      case neg =>
        have F : Hid (bb = false) := by show bb = false; rw [HF.out, decide_eq_false (by rintro ⟨_, _, h3, _⟩; exact t3 h3)]; rfl
        have t3' : ((n2 : Int) != (n3 : Int)) = true := by simp; omega
        clear HF t2 t3
        go_wp2_with (go_at_call 77; refine (l01InIs true _ _ _ _ hin.out).mono ?_; rintro e w9 ⟨rfl, rfl⟩)
        go_ret
        exact ⟨ret_bool F.out.symm, B1.out⟩
      subst t3
      have t3' : ((n2 : Int) != (n2 : Int)) = false := by simp
      have FP : Hid (bb = pb) := by show bb = pb; rw [HF.out, decide_eq_true ⟨rfl, rfl, rfl, t2⟩]; simp
      clear HF
      go_wp2_with (go_at_call 77; refine (l01InIs true _ _ _ _ hin.out).mono ?_; rintro e w9 ⟨rfl, rfl⟩)
      go_loopw [3] (fun i wr => ∃ k : Nat, k ≤ n2 ∧ i = .int .i64 k ∧ Hid (∀ j, j < k → kidB D.K D.L j = true) ∧ Hid (Below w.heap.size w wr) ∧ Hid (Box wr w.heap.size [.bool false, .slice a1 0 c1, .slice a2 n2 c2, .slice a3 n2 c3])) (fun i _ => n2 - (intOf i).toNat)
      case atStart => exact ⟨0, by omega, rfl, fun j hj => absurd hj (by omega), B1.out, X1.out⟩
      case round =>
        obtain ⟨k, hk, rfl, hg, hb, hx⟩ := hrel
        clear p0 p1 p2 p3
        obtain ⟨x2, _⟩ := hx.out 2 _ rfl
        obtain ⟨x3, _⟩ := hx.out 3 _ rfl
        by_cases hlt : k < n2
        · obtain ⟨b2, o2, y, rfl, q2, hy⟩ := srcS (S2.out.below hb.out) (i := k) (by rw [N2.out]; exact hlt)
          obtain ⟨b3, o3, q, rfl, q3, hq⟩ := srcI (S3.out.below hb.out) (i := k) (by rw [N3.out]; exact hlt)
          have hysz : y.size ≤ 1048576 := by
            have h1 := HL.out _ (mem_getD D.L e0 k (by rw [N2.out]; exact hlt))
            rw [hy.out] at h1
            exact h1
          have hki : (k : Int) < (n2 : Int) := by omega
          have hk0 : (0 : Int) ≤ (k : Int) := by omega
          cases hp : pageB q with
          | false =>
            have F : Hid (bb = false) := by
              show bb = false
              rw [FP.out, ← PB.out]
              exact kids_bad (k := k) (by rw [N3.out]; exact hlt) (by unfold kidB; rw [hq.out, hp]; rfl)
            have HP2 : Hid ((decide (0 ≤ q) && decide (q ≤ 49)) = false) := by show _ = false; rw [page_in]; exact hp
            clear hp
            go_wp2_with fail
            go_quiet ((go_at_call 77; exact Calls.quiet_of_same (l01InIs false q 0 49 _ HP2.out)))
            go_wp2_with fail
            go_ret
            exact ⟨ret_bool F.out.symm, Below.drewN' hb.out _⟩
          | true =>
            have HP2 : Hid ((decide (0 ≤ q) && decide (q ≤ 49)) = true) := by show _ = true; rw [page_in]; exact hp
            cases hk1 : keyB y with
            | false =>
              have F : Hid (bb = false) := by
                show bb = false
                rw [FP.out, ← PB.out]
                exact kids_bad (k := k) (by rw [N3.out]; exact hlt) (by unfold kidB; rw [hq.out, hp, hy.out, hk1]; rfl)
              have HK : Hid ((decide (1 ≤ (y.size : Int)) && decide ((y.size : Int) ≤ 30)) = false) := by show _ = false; rw [key_in]; exact hk1
              clear hp hk1
              go_wp2_with fail
              go_quiet (first | (go_at_call_of 77 (Value.int IntKind.i64 49); exact Calls.quiet_of_same (l01InIs true q 0 49 _ HP2.out)) | (go_at_call_of 77 (Value.int IntKind.i64 30); exact Calls.quiet_of_same (l01InIs false (y.size : Int) 1 30 _ HK.out)))
              go_wp2_with fail
              go_ret
              exact ⟨ret_bool F.out.symm, Below.drewN' hb.out _⟩
            | true =>
              have HK : Hid ((decide (1 ≤ (y.size : Int)) && decide ((y.size : Int) ≤ 30)) = true) := by show _ = true; rw [key_in]; exact hk1
              by_cases hz : k = 0
              · have hgood : Hid (kidB D.K D.L k = true) := by show kidB D.K D.L k = true; unfold kidB upB; rw [hq.out, hp, hy.out, hk1, decide_eq_true hz]; rfl
                have hkz : decide (0 < k) = false := by simp; omega
                clear hp hk1 hz
                go_wp2_with fail
                go_quiet (first | (go_at_call_of 77 (Value.int IntKind.i64 49); exact Calls.quiet_of_same (l01InIs true q 0 49 _ HP2.out)) | (go_at_call_of 77 (Value.int IntKind.i64 30); exact Calls.quiet_of_same (l01InIs true (y.size : Int) 1 30 _ HK.out)))
                go_wp2_with fail
                exact ⟨⟨k + 1, by omega, by go_num, fun j hj => by
                  by_cases e : j = k
                  · rw [e]; exact hgood.out
                  · exact hg.out j (by omega), Below.drewN' hb.out _, hx.out⟩, by simp [intOf]; omega⟩
              · obtain ⟨b4, o4, y4, e4, q4, hy4⟩ := srcS (S2.out.below hb.out) (i := k - 1) (by rw [N2.out]; omega)
                cases e4
                have hkp : 0 < k := by omega
                have hkp2 : (0 : Int) < (k : Int) := by omega
                have hkm : (0 : Int) ≤ (k : Int) - 1 := by omega
                have hkm2 : (k : Int) - 1 < (n2 : Int) := by omega
                by_cases hl : Op.bytesLess y4.toList y.toList = true
                · have hgood : Hid (kidB D.K D.L k = true) := by show kidB D.K D.L k = true; unfold kidB upB; rw [hq.out, hp, hy.out, hk1, hy4.out, hl, decide_eq_false hz]; rfl
                  clear hp hk1 hz
                  go_wp2_with fail
                  go_quiet (first | (go_at_call_of 77 (Value.int IntKind.i64 49); exact Calls.quiet_of_same (l01InIs true q 0 49 _ HP2.out)) | (go_at_call_of 77 (Value.int IntKind.i64 30); exact Calls.quiet_of_same (l01InIs true (y.size : Int) 1 30 _ HK.out)))
                  go_wp2_with fail
                  exact ⟨⟨k + 1, by omega, by go_num, fun j hj => by
                    by_cases e : j = k
                    · rw [e]; exact hgood.out
                    · exact hg.out j (by omega), Below.drewN' hb.out _, hx.out⟩, by simp [intOf]; omega⟩
                · have hl' : Op.bytesLess y4.toList y.toList = false := by simpa using hl
                  have F : Hid (bb = false) := by
                    show bb = false
                    rw [FP.out, ← PB.out]
                    exact kids_bad (k := k) (by rw [N3.out]; exact hlt) (by unfold kidB upB; rw [hq.out, hp, hy.out, hk1, hy4.out, hl', decide_eq_false hz]; rfl)
                  clear hp hk1 hz hl
                  go_wp2_with fail
                  go_quiet (first | (go_at_call_of 77 (Value.int IntKind.i64 49); exact Calls.quiet_of_same (l01InIs true q 0 49 _ HP2.out)) | (go_at_call_of 77 (Value.int IntKind.i64 30); exact Calls.quiet_of_same (l01InIs true (y.size : Int) 1 30 _ HK.out)))
                  go_wp2_with fail
                  go_ret
                  exact ⟨ret_bool F.out.symm, Below.drewN' hb.out _⟩
        · have hkn : k = n2 := by omega
          have F : Hid (bb = true) := by
            show bb = true
            rw [FP.out, ← PB.out]
            exact kids_good (fun j hj => hg.out j (by rw [hkn]; rw [N3.out] at hj; exact hj))
          clear hkn
          go_wp2_with fail
          go_ret
          exact ⟨ret_bool F.out.symm, hb.out⟩
end Go.Proofs.YtnnimocaanofjaaGreatDoor
