
/-
  A call of a Go function as a step of a region that draws. By an AI agent.
-/
import Derived.Test.YtmbndpgoihdpnaaDoorFlds
namespace Go.Proofs.YtmbndpgoihdpnaaDoor
open Go.ChangeShapes Go.WideShapes Go.ChangeAt Go.RowKit Go.Deep
set_option linter.unusedVariables false
set_option maxRecDepth 100000

theorem step_call {P : Program} {ops : Array Oper} {o : Oper} {a : Act} {w : World} {K : Act → World → Prop} {Q : Exit → Act → World → Prop} {E : Prop}
    (hg : o.guard = none) (f : FuncId) (fn : Func) (hf : P.funcs[f]? = some fn) (hn : (fn.name == "runtime.NumGoroutine") = false) (hb : fn.body.isNone = false) (args : Array Operand) (tys : Array TypeId) (ho : o.op = .call { callee := .value (.func f), args := args, argTypes := tys })
    (vs : Array Value) (hv : args.map a.eval = vs) (Post : Ending → World → Prop) (h : Calls P f vs w Post) (hp : ∀ e w', Post e w' → ∃ v, e = .returned v ∧ K (a.put o.dst v) w') :
    if Region.wanted o (yielded ops a.tmps) = true then Oper.wp P o a w K Q else E := by
  have hw : Region.wanted o (yielded ops a.tmps) = true := by simp [Region.wanted, hg]
  rw [if_pos hw]
  have hrun : (execOp a.eval o).run P w = .ok (.enter f vs) w := by
    unfold execOp
    simp only [ho, resolve, hv]
    have hn' : ¬ fn.name = "runtime.NumGoroutine" := by simpa using hn
    have hb' : ¬ fn.body = none := fun h => by rw [h] at hb; simp at hb
    simp [go_sem, callFunc, hf, hn', hb']
  unfold Oper.wp
  rw [hrun, Oper.upon_enter]
  exact h.mono fun e w' hpe => by
    obtain ⟨v, rfl, hk⟩ := hp e w' hpe
    exact hk

def ltk (L : List ByteArray) (k : Nat) : List Nat := (L.length % 256) :: (L.take k).flatMap fieldB
theorem fieldB_length (s : ByteArray) : (fieldB s).length = 2 + s.size := by simp [fieldB, numB, bytesOf_length]; omega
theorem ltk_snoc (L : List ByteArray) (k : Nat) (y : ByteArray) (h : k < L.length) (hy : L.getD k e0 = y) : ltk L (k + 1) = ltk L k ++ fieldB y := by
  unfold ltk
  rw [List.getD_eq_getElem?_getD, List.getElem?_eq_getElem h] at hy
  rw [List.take_succ_eq_append_getElem h, List.flatMap_append]
  simp at hy
  simp [hy]
theorem ltk_all (L : List ByteArray) : ltk L L.length = fieldsB L := by unfold ltk fieldsB; rw [List.take_length]
theorem flat_le (L : List ByteArray) (m : Nat) (hs : ∀ x ∈ L, x.size ≤ m) : (L.flatMap fieldB).length ≤ L.length * (2 + m) := by
  induction L with
  | nil => simp
  | cons x L ih =>
    have h1 := hs x (by simp)
    have h2 := ih (fun y hy => hs y (by simp [hy]))
    rw [List.flatMap_cons, List.length_append, fieldB_length, List.length_cons, Nat.succ_mul]
    omega
theorem ltk_le (L : List ByteArray) (k : Nat) (hs : ∀ x ∈ L, x.size ≤ 300) (hk : k ≤ 200) : (ltk L k).length ≤ 60401 := by
  unfold ltk
  rw [List.length_cons]
  have h := flat_le (L.take k) 300 (fun x hx => hs x (List.mem_of_mem_take hx))
  have h2 : (L.take k).length ≤ 200 := by have := List.length_take_le k L; omega
  have h3 : (L.take k).length * (2 + 300) ≤ 200 * 302 := Nat.mul_le_mul_right _ h2
  omega
theorem srcB_two {w : World} {x y : Nat} {z1 z2 : Int} {B t : Nat} (hB : B = w.heap.size) (h1 : z1 = (x : Int)) (h2 : z2 = (y : Int)) : Src (w.alloc (.cells #[.int .u8 z1, .int .u8 z2] t)) (some ⟨B, 0, none⟩) (cellsB [x, y]) := by
  subst hB h1 h2
  refine .inr ⟨_, 0, rfl, fun j hj => ?_⟩
  have hb := Box.new (w := w) (B := w.heap.size) (vs := #[.int .u8 (x : Int), .int .u8 (y : Int)]) (t := t) rfl
  have hj' : j < 2 := hj
  rw [Nat.zero_add]
  match j, hj' with
  | 0, _ => exact (hb 0 _ rfl).1
  | 1, _ => exact (hb 1 _ rfl).1
theorem own_lit {w : World} {base : Nat} (cur : Array Value) (n s e : Nat) (hb : base ≤ w.heap.size) (hn : n ≤ maxLen) (hs : cur.size = n * s) : (w.alloc (.cells cur e)).ownsRow base e s (.slice (some ⟨w.heap.size, 0, none⟩) n n) n cur.toList :=
  ⟨by simp [hs], .inr ⟨w.heap.size, n, cur, rfl, hb, heap_alloc_new w _, Nat.le_refl _, hn, hs, by rw [List.take_of_length_le (by simp [hs])]⟩⟩
theorem own_oneB {w : World} {x : Nat} {z : Int} {B base : Nat} (hB : B = w.heap.size) (hz : z = (x : Int)) (hb : base ≤ w.heap.size) : (w.alloc (.cells #[.int .u8 z] 5)).ownsRow base 5 1 (.slice (some ⟨B, 0, none⟩) 1 1) 1 (cellsB [x]) := by
  subst hB hz
  exact own_lit #[.int .u8 (x : Int)] 1 1 5 hb (by unfold maxLen; omega) rfl
theorem infoB2 : ∃ i, Tryd.prog.info? 5 = some i ∧ i.zero = some (.int .u8 0) ∧ i.size = 1 ∧ i.bytes = 1 := by
  obtain ⟨i, hi, hz⟩ := Option.map_eq_some_iff.1 infoB
  simp only [Prod.mk.injEq] at hz
  exact ⟨i, hi, hz.1, hz.2.1, hz.2.2⟩
/-- What FieldsBytes answers. -/
def fdsA (L : List ByteArray) : List Nat × Int := if 4096 < L.length then ([], 2) else if 200 < L.length then ([], 6) else if (∃ x ∈ L, 300 < x.size) then ([], 4) else (fieldsB L, 0)

set_option maxHeartbeats 1000000 in
theorem implFieldsBytes (a : Option Addr) (n c : Nat) (L : List ByteArray) (w : World) (hL : L.length = n) (hn : n ≤ 1048576) (hs : ∀ x ∈ L, x.size ≤ 1048576) (h : Src w a (cellsS L)) :
    Calls Tryd.prog 100 #[.slice a n c] w fun e w' => ∃ v R q, e = .returned (.tuple #[v, .int .i64 q]) ∧ fdsA L = (R, q) ∧ w'.ownsRow w.heap.size 5 1 v R.length (cellsB R) ∧ Below w.heap.size w w' := by
  have HS : Hid (∀ i, i < n → (L.getD i e0).size ≤ 1048576) := fun i hi => hs _ (by
    rw [List.getD_eq_getElem?_getD, List.getElem?_eq_getElem (by omega)]; exact List.getElem_mem _)
  have HH : Hid (Src w a (cellsS L)) := h
  have HL : Hid (L.length = n) := hL
  clear h hL hs
  by_cases t1 : (4096 : Int) < (n : Int)
  · have F : Hid (fdsA L = ([], 2)) := by show fdsA L = _; unfold fdsA; rw [if_pos (by rw [HL.out]; omega)]
    go_enter Tryd.func100, Tryd.ntmps100
    go_wp2_with fail
    go_ret2
    exact ⟨_, _, _, rfl, F.out, World.ownsRow_nil _ _ _ _, Below.refl _ _⟩
  by_cases t2 : (200 : Int) < (n : Int)
  · have F : Hid (fdsA L = ([], 6)) := by show fdsA L = _; unfold fdsA; rw [if_neg (by rw [HL.out]; omega), if_pos (by rw [HL.out]; omega)]
    go_enter Tryd.func100, Tryd.ntmps100
    go_wp2_with fail
    go_ret2
    exact ⟨_, _, _, rfl, F.out, World.ownsRow_nil _ _ _ _, Below.refl _ _⟩
  have T1 : Hid (¬ 4096 < L.length) := by show ¬ 4096 < L.length; rw [HL.out]; omega
  have T2 : Hid (¬ 200 < L.length) := by show ¬ 200 < L.length; rw [HL.out]; omega
  go_enter Tryd.func100, Tryd.ntmps100
  go_wp2_with fail
  go_loopw [17] (fun i wr => ∃ k : Nat, k ≤ n ∧ i = .int .i64 k ∧ Hid (∀ i, i < k → (L.getD i e0).size ≤ 300) ∧ Hid (Below w.heap.size w wr)) (fun i _ => n - (RowKit.intOf i).toNat)
  case atStart => exact ⟨0, by omega, rfl, fun i hi => absurd hi (by omega), Below.refl _ _⟩
  case round =>
    obtain ⟨k, hk, rfl, hall, hb⟩ := hrel
    by_cases hlt : k < n
    · obtain ⟨b, o, y, rfl, hc, hy⟩ := srcS (HH.out.below hb.out) (i := k) (by rw [HL.out]; exact hlt)
      have hsz : y.size ≤ 1048576 := by rw [← hy.out]; exact HS.out k hlt
      by_cases hbig : (300 : Int) < (y.size : Int)
      · have F : Hid (fdsA L = ([], 4)) := by
          show fdsA L = _
          unfold fdsA
          rw [if_neg T1.out, if_neg T2.out, if_pos]
          refine ⟨L.getD k e0, ?_, by rw [hy.out]; omega⟩
          rw [List.getD_eq_getElem?_getD, List.getElem?_eq_getElem (by rw [HL.out]; exact hlt)]; exact List.getElem_mem _
        go_wp2_with fail
        go_ret2
        exact ⟨_, _, _, rfl, F.out, World.ownsRow_nil _ _ _ _, hb.out⟩
      · have hall2 : Hid (∀ i, i < k + 1 → (L.getD i e0).size ≤ 300) := fun i hi => by
          by_cases e : i = k
          · rw [e, hy.out]; omega
          · exact hall.out i (by omega)
        go_wp2_with fail
        exact ⟨⟨k + 1, by omega, by go_num, hall2, hb.out⟩, by simp [RowKit.intOf]; omega⟩
    · have hkn : k = n := by omega
      have HA : Hid (∀ x ∈ L, x.size ≤ 300) := fun y hy => by
        obtain ⟨i, hi, rfl⟩ := List.getElem_of_mem hy
        have := hall.out i (by rw [hkn, ← HL.out]; exact hi)
        rw [List.getD_eq_getElem?_getD, List.getElem?_eq_getElem hi] at this
        exact this
      have F : Hid (fdsA L = (fieldsB L, 0)) := by
        show fdsA L = _
        unfold fdsA
        rw [if_neg T1.out, if_neg T2.out, if_neg]
        rintro ⟨x, hx, h3⟩
        have := HA.out x hx
        omega
      clear hkn hall
      go_wp2_with fail
      go_loopw [6, 31] (fun bv i wr => ∃ (k m : Nat) (u : Value), u = bv ∧ k ≤ n ∧ i = .int .i64 k ∧ m ≤ 60401 ∧ Hid (m = (ltk L k).length) ∧ Hid (Below w.heap.size w wr) ∧ Hid (wr.ownsRow w.heap.size 5 1 u m (cellsB (ltk L k)))) (fun _ i _ => n - (RowKit.intOf i).toNat)
      case atStart => exact ⟨0, 1, _, rfl, by omega, rfl, by omega, rfl, hb.out.alloc hb.out.size _, own_congr (own_oneB rfl (x := n % 256) (by first | rfl | (simp; done) | omega) hb.out.size) (by unfold ltk; rw [HL.out]; rfl)⟩
      case round =>
        obtain ⟨k, m, u, hu, hk, rfl, hm, HM, hB, HW⟩ := hrel
        subst hu
        by_cases hlt : k < n
        · obtain ⟨b, o, y, rfl, hc, hy⟩ := srcS (HH.out.below hB.out) (i := k) (by rw [HL.out]; exact hlt)
          have hsz : y.size ≤ 300 := by
            rw [← hy.out]
            refine HA.out _ ?_
            rw [List.getD_eq_getElem?_getD, List.getElem?_eq_getElem (by rw [HL.out]; exact hlt)]; exact List.getElem_mem _
          have hlt3 : Hid (∀ g, Value.ownBlock u = some g → w.heap.size ≤ g ∧ g < wr.heap.size) := fun g e => HW.out.lt g e
          have XR : Hid (w.heap.size ≤ wr.heap.size) := hB.out.size
          have HX : Hid (ltk L (k + 1) = ltk L k ++ (numB y.size ++ bytesOf y)) := ltk_snoc L k y (by rw [HL.out]; exact hlt) hy.out
          go_wp2_with (at_builtin; refine wpList_append_src _ rfl _ _ 34 rfl w.heap.size 5 (.int .u8 0) 1 1 Tryd.underlying34 infoB rfl (by decide) (by decide) _ m (cellsB (ltk L k)) rfl (HW.out.alloc _) (some ⟨wr.heap.size, 0, none⟩) 2 2 (cellsB (numB y.size)) rfl rfl (srcB_two rfl (by first | rfl | (simp; omega) | omega) (by first | rfl | (simp; done) | omega)) (cellsB_one _) (by omega) (le_alloc XR.out _) ?_)
          intro v2 w2 hown2 hgrow2
          have B2 : Hid (Below w.heap.size w w2) := (hB.out.alloc hB.out.size _).grown hgrow2 (le_alloc hB.out.size _) (fun g e => (hlt3.out g e).1)
          have O2 : Hid (w2.ownsRow w.heap.size 5 1 v2 (m + 2) (cellsB (ltk L k) ++ cellsB (numB y.size))) := hown2
          have hlt4 : Hid (∀ g, Value.ownBlock v2 = some g → w.heap.size ≤ g ∧ g < w2.heap.size) := fun g e => O2.out.lt g e
          clear hown2 hgrow2
          obtain ⟨i0, hi0, hz0, hz1, hz2⟩ := infoB2
          have HI : Hid (Tryd.prog.info? 5 = some i0 ∧ i0.zero = some (.int .u8 0) ∧ i0.size = 1 ∧ i0.bytes = 1) := ⟨hi0, hz0, hz1, hz2⟩
          clear hi0 hz0 hz1 hz2
          go_wp2_with (at_builtin; refine Lib.wpList_append_own_string _ rfl _ _ 34 9 rfl w.heap.size 5 i0 Tryd.underlying34 Tryd.underlying9 HI.out.1 HI.out.2.1 HI.out.2.2.1 HI.out.2.2.2 v2 (m + 2) _ rfl O2.out y rfl (by unfold maxLen; omega) (by omega) B2.out.size ?_)
          intro v3 w3 hown3 hgrow3 _
          have B3 : Hid (Below w.heap.size w w3) := B2.out.grown hgrow3 B2.out.size (fun g e => (hlt4.out g e).1)
          have O3 : Hid (w3.ownsRow w.heap.size 5 1 v3 (m + 2 + y.size) (cellsB (ltk L (k + 1)))) := own_congr hown3 (by rw [HX.out, strCells_bytes, cellsB_append, cellsB_append])
          have HM3 : Hid (m + 2 + y.size = (ltk L (k + 1)).length) := by
            show _ = _
            rw [HX.out, List.length_append, List.length_append, bytesOf_length, HM.out]; simp [numB]; omega
          have HM4 : m + 2 + y.size ≤ 60401 := by rw [HM3.out]; exact ltk_le L (k + 1) HA.out (by omega)
          clear hown3 hgrow3
          go_wp2_with fail
          exact ⟨⟨k + 1, m + 2 + y.size, _, rfl, by omega, by go_num, HM4, HM3, B3.out, O3.out⟩, by simp [RowKit.intOf]; omega⟩
        · have hkn : k = n := by omega
          have HF : Hid (ltk L k = fieldsB L) := by show _ = _; rw [hkn, ← HL.out, ltk_all]
          have HO : Hid (wr.ownsRow w.heap.size 5 1 u (fieldsB L).length (cellsB (fieldsB L))) := by
            have := HW.out
            rw [HM.out, HF.out] at this
            exact this
          clear hkn
          go_wp2_with fail
          go_ret2
          exact ⟨_, _, _, rfl, F.out, HO.out, hB.out⟩
end Go.Proofs.YtmbndpgoihdpnaaDoor
