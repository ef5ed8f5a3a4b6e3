/-
  Byargs Shq Shr in one. By an AI agent.
-/
import Derived.Test.YthgbclipknfmjaaGreatDoorFl30
import Derived.Test.YthgbclipknfmjaaGreatDoorFl06
import Derived.Lib.SmallJoins
import Derived.SliceStrings
import Derived.ChangeSlices
import Derived.Deep.SlicePairs
import Derived.Deep.Slices
import Derived.Handed
import Derived.HandedShaped
import Derived.LaidLaws
import Derived.LaidMore
import Derived.Lib.LaidTab
import Derived.FnData
namespace Go.Proofs.YthgbclipknfmjaaGreatDoor
open Go.ChangeShapes Go.WideShapes Go.ChangeAt Go.RowKit Go.Deep
set_option linter.unusedVariables false
theorem src_of_row {W : World} {x : Addr} {zs : List Value} {n : Nat} (hn : n ≤ zs.length) (hc : ∀ i, i < zs.length → W.cell? (x.add i) = some (zs.getD i undef)) : Src W (some x) (zs.take n) := by
  by_cases h0 : n = 0
  · subst h0; exact .inl (by simp)
  obtain ⟨b, o, spot⟩ := x
  have h1 := hc 0 (by omega)
  have hspot : spot = none := by simpa [Addr.add] using World.cell?_spot h1
  subst hspot
  refine .inr ⟨b, o, rfl, fun j hj => ?_⟩
  have hj2 : j < n := by simp at hj; omega
  have h2 := hc j (by omega)
  have e1 : (zs.take n).getD j undef = zs.getD j undef := by
    rw [List.getD_eq_getElem?_getD, List.getElem?_take, if_pos hj2, ← List.getD_eq_getElem?_getD]
  rw [e1, ← h2]
  congr 1
  unfold Addr.add
  split
  · rename_i h0; subst h0; rfl
  · rfl
section
variable {H : Type} {enc : TypeId × Value → H} {W : World} {v : Value} {fuel : Nat} {x : DataW H × List MemPlace}
theorem bytes_arg (h : DataW.trod enc Tryz.prog W 0 (fun _ => true) true fuel 22 [v] = some x) :
    ∃ (L : List Nat) (a : Option Addr) (c : Nat), v = .slice a L.length c ∧ Src W a (cellsB L) ∧ L.length ≤ maxLen ∧ ∀ s ∈ L, s < 256 := by
  rcases open_ints Tryz.underlying22 Tryz.underlying5 (by kernel_rfl) h with ⟨hcs, _⟩ | ⟨ad, len, cap, zs, hcs, _, hl, hm, hz, _, hcell, hwz⟩
  · simp only [List.cons.injEq, and_true] at hcs
    exact ⟨[], none, 0, hcs, .inl rfl, by simp, fun s hs => by cases hs⟩
  · simp only [List.cons.injEq, and_true] at hcs
    rw [if_pos rfl] at hz
    have hbd : ∀ n ∈ zs, 0 ≤ n ∧ n < 256 := fun n hn => by have := bounds_u8 (hwz n hn); omega
    let f : Int → Nat := fun z => z.toNat
    have hcb : cellsB (zs.map f) = zs.map (Value.int .u8) := by
      unfold cellsB
      rw [List.map_map]
      refine List.map_congr_left fun n hn => ?_
      show Value.int .u8 ((n.toNat : Nat) : Int) = _
      rw [Int.toNat_of_nonneg (hbd n hn).1]
    have hlen : ((zs.map f).take len).length = len := by simp; omega
    refine ⟨(zs.map f).take len, some ad, cap, by rw [hlen]; exact hcs, ?_, by rw [hlen]; omega, fun s hs => ?_⟩
    · have := src_of_row (W := W) (x := ad) (zs := cellsB (zs.map f)) (n := len) (by rw [cellsB_length]; simp; omega) (fun i hi => by
        rw [cellsB_length, List.length_map] at hi
        rw [hcell i hi, hcb, getD_some (u := Value.int .u8 (zs.getD i 0))]
        simp [hi])
      rw [show cellsB ((zs.map f).take len) = (cellsB (zs.map f)).take len from by simp [cellsB, List.map_take]]
      exact this
    · have h1 := List.mem_of_mem_take hs
      rw [List.mem_map] at h1
      obtain ⟨n, hn, rfl⟩ := h1
      have := hbd n hn
      show n.toNat < 256
      omega
end
set_option maxRecDepth 100000
section
variable {H : Type} {enc : TypeId × Value → H} {W : World} {v : Value} {d : DataW H} {p : List MemPlace} {base : Nat}
theorem bytes_in (hv : Value.okWide Tryz.prog W .any base 22 v) (h : DataW.Trod enc Tryz.prog W 0 (fun _ => true) true 22 v d p) :
    ∃ (A : Option Addr) (C : Nat) (L : List Nat), v = .slice A L.length C ∧ Src W A (cellsB L) ∧ L.length ≤ maxLen ∧ ∀ s ∈ L, s < 256 := by
  obtain ⟨a, len, cap, rfl⟩ := okWide_slice Tryz.underlying22 hv
  obtain ⟨fuel, hf⟩ := h
  obtain ⟨L, b, c, e, sl, ml⟩ := bytes_arg (show DataW.trod _ _ _ _ _ _ _ _ [.slice a len cap] = _ by simpa [Value.cells] using hf)
  exact ⟨b, c, L, e, sl, ml⟩
end
end Go.Proofs.YthgbclipknfmjaaGreatDoor
namespace Go.Proofs.YthgbclipknfmjaaGreatDoor
open Go.RowKit
set_option linter.unusedVariables false

theorem lift_shaped {H : Type} {enc : TypeId × Value → H} {a : Assume} {C : Checked} {os : Os} {f : FuncId} {fn : Func} {s : ChangeSpec} {X : World → Array Value → Prop}
    (hX : ∀ (w w' : World) (args : Array Value), w.heap = w'.heap → X w args → X w' args)
    (own : ownKnob C.prog.godebug = none) (started : os.Started) (noInit : C.prog.inits.idxOf? f = none) (hfn : C.prog.funcs[f]? = some fn)
    (wit : ∃ (w : World) (tape : Tape) (i : Input), w.os = os ∧ (w.forCall tape i).Shaped C.prog ∧ i.vars = [] ∧ Input.okWide C.prog (w.forCall tape i) .any w.heap.size f i ∧
      ((s.pre enc C.prog fn [] false (w.forCall tape i).memory i.args ∧ X (w.forCall tape i).memory i.args) ∧ sizedMet enc C.prog fn (OpenSpec.ofChange s) false (w.forCall tape i).memory i.args) ∧ a.holds C.prog (lone (Frame.enter C.prog f i.args .normal) [] (w.forCall tape i)))
    (con : ∀ (W : World) (base : Nat) (args : Array Value) (ds gs : List (DataW H)) (before : List MemPlace),
      (∀ (j : Nat) t v, fn.params[j]? = some t → args[j]? = some v → Value.okWide C.prog W .any base t v) →
      DataW.Whole enc C.prog fn.params.toList s.vars false W args.toList ds gs before → W.ShapedOpen C.prog → X W args →
      Calls C.prog f args W fun e W' => ∃ v, e = .returned v ∧ s.post enc C.prog fn false true false false W args v W') :
    ReturnsInHanded a C os f .any (fun w args => (s.pre enc C.prog fn [] false w args ∧ X w args) ∧ sizedMet enc C.prog fn (OpenSpec.ofChange s) false w args) (s.post enc C.prog fn false true false false) := by
  refine returnsInHanded_of_calls own started noInit wit ?_
  intro w tape i _ shape _ good hpre _
  obtain ⟨_, _, _, g, hg, _, _, _, _, vals⟩ := good
  obtain rfl : g = fn := Option.some.inj (hg.symm.trans hfn)
  obtain ⟨⟨⟨ds, gs, before, whole, _⟩, hXw⟩, _⟩ := hpre
  exact (con (w.forCall tape i) w.heap.size i.args ds gs before vals (DataW.Whole.of_heap (w' := w.forCall tape i) (by rfl) whole) shape (hX _ (w.forCall tape i) _ (by rfl) hXw)).mono fun e W' ⟨v, he, hp⟩ => by
    subst he
    exact ChangeSpec.post_blind hp
theorem tab_cells {W : World} {n : String} {cs : Array Value} {g : Nat} (hg : Tryz.prog.globalNamed n = some g) (h : W.var? Tryz.prog n = some cs) : g < W.heap.size := by
  simp only [World.var?, hg, Option.bind_some] at h
  cases hh : W.heap[g]? with
  | none => rw [hh] at h; cases h
  | some o => exact (Array.getElem?_eq_some_iff.1 hh).1
theorem err_cell {W : World} {n : String} {g : Nat} {t : TypeId} {ms : Array (String × TypeId)} {cs : Array Value} {fuel : Nat} {name : String} {d : DataW Unit} {p : List MemPlace} (hg : Tryz.prog.globalNamed n = some g) (ht : Tryz.prog.underlying t = some (.interface ms)) (hv : W.var? Tryz.prog n = some cs) (hd : DataW.trod (fun _ => ()) Tryz.prog W 0 (fun _ => true) false fuel t cs.toList = some (.iface name d, p)) :
    ∃ ev, W.cell? ⟨g, 0, none⟩ = some ev ∧ (ev = .nilIface ∨ ∃ te pe, ev = .iface te pe) := by
  obtain ⟨f1, u, v, h1, _, _⟩ := iface_of_trod ht hd
  refine ⟨.iface u v, ?_, .inr ⟨u, v, rfl⟩⟩
  rw [World.var?_cell hg hv 0, ← Array.getElem?_toList, h1]
  rfl
theorem gl_of {W : World} (hS : W.ShapedOpen Tryz.prog) (h : laidMetH Tryz.prog Rows.fnExactValidityRisesRow.laid W) : Gl W ∧ 8 ≤ W.heap.size := by
  rw [MakeChecks.laidMetH_plain _ _ _ (by kernel_rfl)] at h
  obtain ⟨ps, h0, _⟩ := h
  obtain ⟨g0, t0, cs0, f0, p0, q0, hg0, ht0, hv0, hd0, h1, _⟩ := h0
  obtain ⟨g1, t1, cs1, f1, p1, q1, hg1, ht1, hv1, hd1, h2, _⟩ := h1
  obtain ⟨g2, t2, cs2, f2, p2, q2, hg2, ht2, hv2, hd2, h3, _⟩ := h2
  obtain ⟨g3, t3, cs3, f3, p3, q3, hg3, ht3, hv3, hd3, h4, _⟩ := h3
  obtain ⟨g4, t4, cs4, f4, p4, q4, hg4, ht4, hv4, hd4, h5, _⟩ := h4
  obtain ⟨g5, t5, cs5, f5, p5, q5, hg5, ht5, hv5, hd5, h6, _⟩ := h5
  have e1 : Tryz.prog.globalNamed "unicode/utf8.acceptRanges" = some 7 := by kernel_rfl
  have e2 : Tryz.prog.globalNamed "internal/strconv.uint64pow10" = some 1 := by kernel_rfl
  have e4 : Tryz.prog.globalNamed "strconv.ErrRange" = some 3 := by kernel_rfl
  have e5 : Tryz.prog.globalNamed "strconv.ErrSyntax" = some 2 := by kernel_rfl
  obtain rfl := Option.some.inj (e2.symm.trans hg2)
  obtain rfl := Option.some.inj (e4.symm.trans hg4)
  obtain rfl := Option.some.inj (e5.symm.trans hg5)
  have k2 : (Tryz.prog.globals[1]?).map (·.type) = some t2 := ht2
  have k4 : (Tryz.prog.globals[3]?).map (·.type) = some t4 := ht4
  have k5 : (Tryz.prog.globals[2]?).map (·.type) = some t5 := ht5
  refine ⟨⟨?_, ?_, Tryz.laysM146.s1_3 W hS, ?_⟩, ?_⟩
  · obtain rfl := Option.some.inj ((show (Tryz.prog.globals[2]?).map (·.type) = some 173 by kernel_rfl).symm.trans k5)
    exact err_cell e5 Tryz.underlying173 hv5 hd5
  · obtain rfl := Option.some.inj ((show (Tryz.prog.globals[3]?).map (·.type) = some 173 by kernel_rfl).symm.trans k4)
    exact err_cell e4 Tryz.underlying173 hv4 hd4
  · obtain rfl := Option.some.inj ((show (Tryz.prog.globals[1]?).map (·.type) = some 197 by kernel_rfl).symm.trans k2)
    unfold Lib.TabIs
    have e : (Rows.laid_internal_strconv_uint64pow10 : DataW Unit) = Lib.tabData .u64 Lib.pow10Tab := by rfl
    have hd2' : DataW.trod (fun _ => ()) Tryz.prog W 0 (fun _ => true) false f2 197 cs2.toList = some (Lib.tabData .u64 Lib.pow10Tab, p2) := by rw [← e]; exact hd2
    rw [hv2, ← Lib.cells_of_tab Tryz.underlying197 Tryz.underlying171 (by kernel_rfl) (by kernel_rfl) hd2']
  · exact tab_cells e1 hv3
end Go.Proofs.YthgbclipknfmjaaGreatDoor
namespace Go.Proofs.YthgbclipknfmjaaGreatDoor
theorem gl_row {W : World} {l : List (String × DataW Unit)} (e : l = Rows.fnExactValidityRisesRow.laid) (hS : W.ShapedOpen Tryz.prog) (h : laidMetH Tryz.prog l W) : Gl W ∧ 8 ≤ W.heap.size := gl_of hS (by rw [← e]; exact h)
end Go.Proofs.YthgbclipknfmjaaGreatDoor
