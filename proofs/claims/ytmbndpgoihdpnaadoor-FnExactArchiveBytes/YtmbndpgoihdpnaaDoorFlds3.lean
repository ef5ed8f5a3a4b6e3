
/-
  The specification's fields. By an AI agent.
-/
import Derived.Test.YtmbndpgoihdpnaaDoorFlds2
namespace Go.Proofs.YtmbndpgoihdpnaaDoor
open Go.ChangeShapes Go.WideShapes Go.ChangeAt Go.RowKit Go.Deep
set_option linter.unusedVariables false
set_option maxRecDepth 100000

theorem step_append_string {P : Program} {ops : Array Oper} {o : Oper} {a : Act} {w : World} {K : Act → World → Prop} {Q : Exit → Act → World → Prop} {E : Prop}
    (hg : o.guard = none) (sl x : Operand) (t u : TypeId) (ho : o.op = .call { callee := .builtin .append, args := #[sl, x], argTypes := #[t, u] })
    (base : Nat) (e : TypeId) (i : TypeInfo) (ht : P.underlying t = some (.slice e)) (hu : P.underlying u = some .string) (hi : P.info? e = some i) (hz : i.zero = some (.int .u8 0)) (hsize : i.size = 1) (hby : i.bytes = 1)
    (v : Value) (n : Nat) (xs : List Value) (hs : a.eval sl = v) (hown : w.ownsRow base e 1 v n xs) (s : ByteArray) (hx : a.eval x = .string s)
    (h63 : n + s.size ≤ maxLen) (hbytes : n + s.size ≤ 140737488355328) (hbase : base ≤ w.heap.size)
    (h : ∀ v' w', w'.ownsRow base e 1 v' (n + s.size) (xs ++ Lib.strCells s) → w.grownBy w' v.ownBlock → K (a.put o.dst v') w') :
    if Region.wanted o (yielded ops a.tmps) = true then Oper.wp P o a w K Q else E := by
  have hw : Region.wanted o (yielded ops a.tmps) = true := by simp [Region.wanted, hg]
  rw [if_pos hw]
  obtain ⟨v', w', hr, h2, h3, h4⟩ := Lib.run_append_own_string (P := P) w base t u o.type e i ht hu hi hz hsize hby v n xs hown s h63 hbytes hbase
  unfold Oper.wp execOp
  simp only [ho, resolve, invoke, builtin, Sem.run_bind, Sem.run_pure, Result.andThen_ok, List.map_toArray, List.map_cons, List.map_nil, hs, hx, hr]
  exact h v' w' h2 h3

theorem src_some {w : World} {a : Option Addr} {x y : Nat} {L : List Nat} (h : Src w a (cellsB (x :: y :: L))) : ∃ b o, a = some ⟨b, o, none⟩ := by
  rcases h with h | ⟨b, o, rfl, _⟩
  · cases h
  · exact ⟨b, o, rfl⟩

set_option maxHeartbeats 2000000 in
theorem l01Fields (a : Option Addr) (n c : Nat) (L : List ByteArray) (w : World) (hL : L.length = n) (hn : n ≤ 200) (hs : ∀ x ∈ L, x.size ≤ 300) (h : Src w a (cellsS L)) :
    Calls Tryd.prog 56 #[.slice a n c] w fun e w' => ∃ v, e = .returned v ∧ w'.ownsRow w.heap.size 5 1 v (fieldsB L).length (cellsB (fieldsB L)) ∧ Below w.heap.size w w' := by
  have HA : Hid (∀ x ∈ L, x.size ≤ 300) := hs
  have HH : Hid (Src w a (cellsS L)) := h
  have HL : Hid (L.length = n) := hL
  obtain ⟨i0, hi0, hz0, hz1, hz2⟩ := infoB2
  have HI : Hid (Tryd.prog.info? 5 = some i0 ∧ i0.zero = some (.int .u8 0) ∧ i0.size = 1 ∧ i0.bytes = 1) := ⟨hi0, hz0, hz1, hz2⟩
  clear h hL hs hi0 hz0 hz1 hz2
  go_enter Tryd.func56, Tryd.ntmps56
  go_wp2_with fail
  go_loopw [3, 4] (fun bv i wr => ∃ (k m : Nat) (u : Value), u = bv ∧ k ≤ n ∧ i = .int .i64 k ∧ m ≤ 60401 ∧ Hid (m = (ltk L k).length) ∧ Hid (Below w.heap.size w wr) ∧ Hid (wr.ownsRow w.heap.size 5 1 u m (cellsB (ltk L k)))) (fun _ i _ => n - (RowKit.intOf i).toNat)
  case atStart => exact ⟨0, 1, _, rfl, by omega, rfl, by omega, rfl, (Below.refl _ _).alloc (Nat.le_refl _) _, own_congr (own_oneB rfl (x := n % 256) (by first | rfl | (simp; done) | omega) (Nat.le_refl _)) (by unfold ltk; rw [HL.out]; rfl)⟩
  case round =>
    obtain ⟨k, m, u, hu, hk, rfl, hm, HM, hB, HW⟩ := hrel
    subst hu
    by_cases hlt : k < n
    · obtain ⟨b, o, y, rfl, hc, hy⟩ := srcS (HH.out.below hB.out) (i := k) (by rw [HL.out]; exact hlt)
      have hsz : y.size ≤ 300 := by
        rw [← hy.out]
        refine HA.out _ ?_
        rw [List.getD_eq_getElem?_getD, List.getElem?_eq_getElem (by rw [HL.out]; exact hlt)]; exact List.getElem_mem _
      have hlt3 : Hid (∀ g, Value.ownBlock u = some g → w.heap.size ≤ g ∧ g < wr.heap.size) := fun g e => HW.out.lt g e
      have XR : Hid (w.heap.size ≤ wr.heap.size) := hB.out.size
      have HX : Hid (ltk L (k + 1) = ltk L k ++ (numB y.size ++ bytesOf y)) := ltk_snoc L k y (by rw [HL.out]; exact hlt) hy.out
      have HM3 : Hid (m + 2 + y.size = (ltk L (k + 1)).length) := by
        show _ = _
        rw [HX.out, List.length_append, List.length_append, bytesOf_length, HM.out]; simp [numB]; omega
      have HM4 : Hid (m + 2 + y.size ≤ 60401) := by show m + 2 + y.size ≤ 60401; rw [HM3.out]; exact ltk_le L (k + 1) HA.out (by omega)
      have HN : Hid (Value.ownBlock u ≠ some b) := fun e => by
        have h1 := (hlt3.out b e).1
        obtain ⟨b', o', y', e', hc', _⟩ := srcS HH.out (i := k) (by rw [HL.out]; exact hlt)
        cases e'
        have h2 := World.block_lt_of_cell? _ _ hc'
        dsimp only at h2
        omega
      have hk0 : (0 : Int) ≤ (k : Int) := by omega
      have hkn : (k : Int) < (n : Int) := by omega
      go_wp2_with fail
      go_region_law (first
        | (refine step_append_string rfl (.tmp 22) (.tmp 26) 34 9 rfl w.heap.size 5 i0 Tryd.underlying34 Tryd.underlying9 HI.out.1 HI.out.2.1 HI.out.2.2.1 HI.out.2.2.2 v2 (m + 2) (cellsB (ltk L k) ++ cellsB (numB y.size)) (by simp [Act.eval]) O2.out y (by simp [Act.eval]) (by unfold maxLen; have := HM4.out; omega) (by have := HM4.out; omega) B2.out.size ?_; intro v3 w3 hown3 hgrow3; have B3 : Hid (Below w.heap.size w w3) := B2.out.grown hgrow3 B2.out.size (fun g e => (O2.out.lt g e).1); have O3 : Hid (w3.ownsRow w.heap.size 5 1 v3 (m + 2 + y.size) (cellsB (ltk L (k + 1)))) := own_congr hown3 (by rw [HX.out, strCells_bytes, cellsB_append, cellsB_append, List.append_assoc]); clear hown3 hgrow3)
        | (refine step_append_src rfl (.tmp 15) (.tmp 21) 34 rfl w.heap.size 5 (.int .u8 0) 1 1 Tryd.underlying34 infoB rfl (by decide) (by decide) u m (cellsB (ltk L k)) (by simp [Act.eval]) O1.out ⟨b1, o1, none⟩ 2 c1 (cellsB (numB y.size)) (by simp [Act.eval]) rfl S1.out (cellsB_one _) (by omega) (by omega) B1.out.size ?_; intro v2 w2 hown2 hgrow2 _; have B2 : Hid (Below w.heap.size w w2) := B1.out.grown hgrow2 B1.out.size (fun g e => (hlt3.out g e).1); have O2 : Hid (w2.ownsRow w.heap.size 5 1 v2 (m + 2) (cellsB (ltk L k) ++ cellsB (numB y.size))) := hown2; have hc2 : w2.cell? ⟨b, o + k, none⟩ = some (.string y) := (World.cell?_of_block (a := ⟨b, o + k, none⟩) (hgrow2.block b (World.block_lt_of_cell? _ _ hc1) (fun e => HN.out e.symm))).trans hc1; clear hown2 hgrow2)
        | (refine step_call rfl 55 _ Tryd.func55 (by kernel_rfl) (by kernel_rfl) #[.tmp 20, .const (.int .i64 2)] #[3, 3] rfl #[.int .i64 (y.size : Int), .int .i64 2] (by simp [Act.eval, Act.put]) _ (l01Number2 y.size _ (by omega)) ?_; rintro e w1 ⟨v1, rfl, hv1, hb1⟩; refine ⟨v1, rfl, ?_⟩; obtain ⟨ao, c1, rfl, s1, _⟩ := own_src hv1; obtain ⟨b1, o1, rfl⟩ := src_some s1; have S1 : Hid (Src w1 (some ⟨b1, o1, none⟩) (cellsB (numB y.size))) := s1; have B1 : Hid (Below w.heap.size w w1) := hB.out.drew.trans (hb1.mono hB.out.size); have O1 : Hid (w1.ownsRow w.heap.size 5 1 u m (cellsB (ltk L k))) := own_below (w := wr.drew) HW.out hb1; have hc1 : w1.cell? ⟨b, o + k, none⟩ = some (.string y) := (hb1.cell (p := ⟨b, o + k, none⟩) (World.block_lt_of_cell? _ _ hc)).trans hc; clear hv1 hb1 s1))
      all_goals go_wp2_with fail
      all_goals exact ⟨⟨k + 1, m + 2 + y.size, _, rfl, by omega, by go_num, HM4.out, HM3, B3.out, O3.out⟩, by simp [RowKit.intOf]; omega⟩
    · have hkn : k = n := by omega
      have HF : Hid (ltk L k = fieldsB L) := by show _ = _; rw [hkn, ← HL.out, ltk_all]
      have HO : Hid (wr.ownsRow w.heap.size 5 1 u (fieldsB L).length (cellsB (fieldsB L))) := by
        have := HW.out
        rw [HM.out, HF.out] at this
        exact this
      clear hkn
      go_wp2_with fail
      go_ret
      exact ⟨_, rfl, HO.out, hB.out⟩

end Go.Proofs.YtmbndpgoihdpnaaDoor
