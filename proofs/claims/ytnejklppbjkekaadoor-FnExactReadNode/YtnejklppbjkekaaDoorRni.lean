
/-
  Inner nodes out of fields, by the program: innerOf. By an AI agent.
-/
import Derived.Test.YtnejklppbjkekaaDoorRnl
namespace Go.Proofs.YtnejklppbjkekaaDoor
open Go.ChangeShapes Go.WideShapes Go.ChangeAt Go.RowKit Go.Deep
set_option linter.unusedVariables false
set_option maxRecDepth 100000

def kidOf (f : ByteArray) : Int := (((bytesOf f).getD 0 0 : Nat) : Int)
def leastOf (f : ByteArray) : ByteArray := f.extract 1 f.size
def innerN (l : List ByteArray) : Option NM := if ∃ f ∈ l, f.size = 0 then none else some ⟨false, [], l.map leastOf, l.map kidOf⟩
theorem src_oneI9 {w : World} {x : Int} {B t : Nat} (hB : B = w.heap.size) : Src (w.alloc (.cells #[.int .i64 x] t)) (some ⟨B, 0, none⟩) (cellsI [x]) := by
  subst hB
  refine .inr ⟨_, 0, rfl, fun j hj => ?_⟩
  have hb := Box.new (w := w) (B := w.heap.size) (vs := #[.int .i64 x]) (t := t) rfl
  have hj2 : j < 1 := hj
  obtain rfl : j = 0 := by omega
  exact (hb 0 _ rfl).1

set_option maxHeartbeats 4000000 in
theorem innerOf (la : Option Addr) (m lc : Nat) (l : List ByteArray) (w : World) (hL : l.length = m) (hm : m ≤ 1048576) (h : Src w la (cellsS l)) :
    Calls Tryd.prog 122 #[.slice la m lc] w fun e w' => ((innerN l = none ∧ e = .returned (.tuple #[.agg #[.bool false, .slice none 0 0, .slice none 0 0, .slice none 0 0], .bool false])) ∨ (∃ D u, innerN l = some D ∧ e = .returned (.tuple #[u, .bool true]) ∧ OwnsN w' w.heap.size w'.heap.size u D)) ∧ Below w.heap.size w w' := by
  have HM : Hid (l.length = m) := hL
  have S1 : Hid (Src w la (cellsS l)) := h
  clear hL h
  go_enter Tryd.func122, Tryd.ntmps122
  go_wp2_with fail
  go_loopw [10] (fun iv wr => ∃ (k : Nat) (u v : Value), k ≤ m ∧ iv = .int .i64 (k : Int) ∧ Hid (Below w.heap.size w wr) ∧ Hid (Box wr w.heap.size [.bool false, .slice none 0 0, .slice none 0 0, .slice none 0 0]) ∧ Hid (Box wr (w.heap.size + 1) [.bool false, .slice none 0 0, u, v]) ∧ Hid (wr.ownsRow (w.heap.size + 2) 9 1 u k (cellsS ((l.map leastOf).take k))) ∧ Hid (wr.ownsRow (w.heap.size + 2) 3 1 v k (cellsI ((l.map kidOf).take k))) ∧ Hid (∀ f ∈ l.take k, ¬ f.size = 0)) (fun i _ => m - (intOf i).toNat)
  case atStart => exact ⟨0, _, _, by omega, rfl, ((Below.refl _ _).alloc (Nat.le_refl _) _).alloc (by simp) _, Box.old (Box.new rfl) _, Box.new (by simp), World.ownsRow_nil _ _ _ _, World.ownsRow_nil _ _ _ _, fun f hf => by simp at hf⟩
  case round =>
    obtain ⟨k, u, v, hk, rfl, hb, hz, hx, ho, hp, hg⟩ := hrel
    obtain ⟨ua, uc, rfl, _, _⟩ := own_src ho.out
    obtain ⟨va, vc, rfl, _, _⟩ := own_src hp.out
    by_cases hlt : k < m
    · have hki : (k : Int) < (m : Int) := by omega
      have hk0 : (0 : Int) ≤ (k : Int) := by omega
      obtain ⟨lb, lo, f, rfl, fc, hf⟩ := srcS (S1.out.below hb.out) (i := k) (by rw [HM.out]; exact hlt)
      have HF : Hid (l[k]? = some f) := by
        show _ = _
        have h9 := hf.out
        rw [List.getD_eq_getElem?_getD, List.getElem?_eq_getElem (by rw [HM.out]; exact hlt)] at h9
        rw [List.getElem?_eq_getElem (by rw [HM.out]; exact hlt)]
        exact congrArg some h9
      by_cases t3 : f.size = 0
      · have F : Hid (innerN l = none) := by show _ = _; unfold innerN; rw [if_pos ⟨f, List.mem_of_getElem? HF.out, t3⟩]
        have t4 : ((f.size : Int) == 0) = true := by rw [t3]; rfl
        obtain ⟨p0, pf0⟩ := (hz.out) 0 _ rfl
        obtain ⟨p1, pf1⟩ := ((hz.out).set 0 (.bool false)) 1 _ rfl
        obtain ⟨p2, pf2⟩ := (((hz.out).set 0 (.bool false)).set 1 (.slice none 0 0)) 2 _ rfl
        obtain ⟨p3, pf3⟩ := ((((hz.out).set 0 (.bool false)).set 1 (.slice none 0 0)).set 2 (.slice none 0 0)) 3 _ rfl
        have X8 := ((((hz.out).set 0 (.bool false)).set 1 (.slice none 0 0)).set 2 (.slice none 0 0)).set 3 (.slice none 0 0)
        obtain ⟨r0, _⟩ := X8 0 _ rfl
        obtain ⟨r1, _⟩ := X8 1 _ rfl
        obtain ⟨r2, _⟩ := X8 2 _ rfl
        obtain ⟨r3, _⟩ := X8 3 _ rfl
        clear X8
        have BE : Hid (Below w.heap.size w ((((wr.setCell ⟨w.heap.size, 0, none⟩ (.bool false)).setCell ⟨w.heap.size, 1, none⟩ (.slice none 0 0)).setCell ⟨w.heap.size, 2, none⟩ (.slice none 0 0)).setCell ⟨w.heap.size, 3, none⟩ (.slice none 0 0))) := (((hb.out.setCell (Nat.le_refl _) _).setCell (Nat.le_refl _) _).setCell (Nat.le_refl _) _).setCell (Nat.le_refl _) _
        go_wp2_with fail
        exact bodyPost_ret (v := .tuple #[.agg #[.bool false, .slice none 0 0, .slice none 0 0, .slice none 0 0], .bool false]) (by simp [results, Tryd.results122, go_sem, r0, r1, r2, r3]) rfl ⟨.inl ⟨F.out, rfl⟩, BE.out⟩
      · have t4 : ((f.size : Int) == 0) = false := beq_eq_false_iff_ne.2 (by omega)
        obtain ⟨y0, hy0⟩ : ∃ y, (f[0]'(by omega)).toNat = y := ⟨_, rfl⟩
        have hy08 : y0 < 256 := by rw [← hy0]; exact UInt8.toNat_lt _
        have hf0 : 0 < f.size := by omega
        have hwr1 : IntKind.i64.wrap (y0 : Int) = (y0 : Int) := by rw [IntKind.wrap_i64]; omega
        have K0 : Hid (kidOf f = (y0 : Int)) := by show _ = _; unfold kidOf; rw [bytesOf_get f 0 (by omega), hy0]
        have cut1 : ∀ W, (Instr.slice 9 (.string f) (some (.int .i64 1)) none none).run Tryd.prog W = .ok (.string (f.extract 1 f.size)) W := fun W => by
          have h9 := run_slice_string_l (P := Tryd.prog) W 9 f Tryd.underlying9 .i64 1 (by omega) (by omega)
          exact h9
        obtain ⟨g, hg1⟩ : ∃ g, f.extract 1 f.size = g := ⟨_, rfl⟩
        rw [hg1] at cut1
        have L0 : Hid (leastOf f = g) := hg1
        have NK : Hid ((l.map kidOf).take (k + 1) = (l.map kidOf).take k ++ [(y0 : Int)]) := by
          show _ = _
          rw [List.take_add_one, List.getElem?_map, HF.out, Option.map_some, K0.out]
          rfl
        have NL : Hid ((l.map leastOf).take (k + 1) = (l.map leastOf).take k ++ [g]) := by
          show _ = _
          rw [List.take_add_one, List.getElem?_map, HF.out, Option.map_some, L0.out]
          rfl
        have GN : Hid (∀ f ∈ l.take (k + 1), ¬ f.size = 0) := fun f' hf' => by
          rw [List.take_add_one, HF.out, List.mem_append] at hf'
          rcases hf' with h9 | h9
          · exact hg.out f' h9
          · simp at h9; subst h9; exact t3
        have ZB : Hid ((w.heap.size + 2) ≤ wr.heap.size) := World.block_lt_of_cell? _ _ (hx.out 0 _ rfl).1
        obtain ⟨e2, _⟩ := hx.out 3 _ rfl
        have XA : Hid (Box (wr.alloc (.cells #[.int .i64 (y0 : Int)] 3)) (w.heap.size + 1) [.bool false, .slice none 0 0, .slice ua k uc, .slice va k vc]) := hx.out.old _
        have ZA : Hid (Box (wr.alloc (.cells #[.int .i64 (y0 : Int)] 3)) w.heap.size [.bool false, .slice none 0 0, .slice none 0 0, .slice none 0 0]) := hz.out.old _
        obtain ⟨e2', _⟩ := XA.out 3 _ rfl
        have BA : Hid (Below w.heap.size w (wr.alloc (.cells #[.int .i64 (y0 : Int)] 3)).drew) := (hb.out.alloc hb.out.size _).drew
        have RW : Hid ((wr.alloc (.cells #[.int .i64 (y0 : Int)] 3)).drew.ownsRow (w.heap.size + 2) 3 1 (.slice va k vc) k (cellsI ((l.map kidOf).take k))) := hp.out.alloc _
        have RU : Hid ((wr.alloc (.cells #[.int .i64 (y0 : Int)] 3)).drew.ownsRow (w.heap.size + 2) 9 1 (.slice ua k uc) k (cellsS ((l.map leastOf).take k))) := ho.out.alloc _
        have BQ : Hid ((w.heap.size + 2) ≤ (wr.alloc (.cells #[.int .i64 (y0 : Int)] 3)).drew.heap.size) := le_alloc ZB.out _
        have RLT : Hid (∀ g, Value.ownBlock (.slice va k vc) = some g → (w.heap.size + 2) ≤ g ∧ g < wr.heap.size) := fun g e => hp.out.lt g e
        clear hf hx ho hp hg hg1
        go_wp2_with fail
        go_region_law (refine step_append_src rfl (.tmp 19) (.tmp 23) 25 rfl (w.heap.size + 2) 3 (.int .i64 0) 1 8 Tryd.underlying25 infoI rfl (by decide) (by decide) (.slice va k vc) k (cellsI ((l.map kidOf).take k)) (by simp [Act.eval]) RW.out ⟨wr.heap.size, 0, none⟩ 1 1 (cellsI [(y0 : Int)]) (by simp [Act.eval]) rfl (show Src (wr.alloc (.cells #[.int .i64 (y0 : Int)] 3)) _ _ from src_oneI9 rfl) (cellsI_one _) (by omega) (by decide) BQ.out ?_; intro v' w' hown hgrow hnew; obtain ⟨b', d', rfl, _, _⟩ := own_src hown; have XG : Hid (Box w' (w.heap.size + 1) [.bool false, .slice none 0 0, .slice ua k uc, .slice va k vc]) := (Box.grown (w := (wr.alloc (.cells #[.int .i64 (y0 : Int)] 3)).drew) XA.out hgrow (fun e => by have := (RLT.out _ e).1; omega)); have ZG : Hid (Box w' w.heap.size [.bool false, .slice none 0 0, .slice none 0 0, .slice none 0 0]) := (Box.grown (w := (wr.alloc (.cells #[.int .i64 (y0 : Int)] 3)).drew) ZA.out hgrow (fun e => by have := (RLT.out _ e).1; omega)); obtain ⟨pw, pf⟩ := XG.out 3 _ rfl; have OG : Hid (w'.ownsRow (w.heap.size + 2) 3 1 (.slice b' (k + 1) d') (k + 1) (cellsI ((l.map kidOf).take (k + 1)))) := (by rw [NK.out, cellsI_append]; exact hown); have UG : Hid (w'.ownsRow (w.heap.size + 2) 9 1 (.slice ua k uc) k (cellsS ((l.map leastOf).take k))) := (own_grown RU.out hgrow (fun kk e e2 => own_ne RU.out RW.out (by decide) kk e e2)); have BG : Hid (Below w.heap.size w w') := (BA.out.grown hgrow BA.out.size (fun g e => by have := (RLT.out g e).1; omega)); clear hown hgrow hnew)
        all_goals
          have B3 : Hid (Below w.heap.size w (w'.setCell ⟨(w.heap.size + 1), 3, none⟩ (.slice b' (k + 1) d'))) := BG.out.setCell (by dsimp only; omega) _
          have Z3 : Hid (Box (w'.setCell ⟨(w.heap.size + 1), 3, none⟩ (.slice b' (k + 1) d')) w.heap.size [.bool false, .slice none 0 0, .slice none 0 0, .slice none 0 0]) := ZG.out.other _ (by dsimp only; omega) _
          have X3 : Hid (Box (w'.setCell ⟨(w.heap.size + 1), 3, none⟩ (.slice b' (k + 1) d')) (w.heap.size + 1) [.bool false, .slice none 0 0, .slice ua k uc, .slice b' (k + 1) d']) := XG.out.set 3 _
          have O3 : Hid ((w'.setCell ⟨(w.heap.size + 1), 3, none⟩ (.slice b' (k + 1) d')).ownsRow (w.heap.size + 2) 3 1 (.slice b' (k + 1) d') (k + 1) (cellsI ((l.map kidOf).take (k + 1)))) := own_setLow OG.out (by dsimp only; omega) _
          have U3 : Hid ((w'.setCell ⟨(w.heap.size + 1), 3, none⟩ (.slice b' (k + 1) d')).ownsRow (w.heap.size + 2) 9 1 (.slice ua k uc) k (cellsS ((l.map leastOf).take k))) := own_setLow UG.out (by dsimp only; omega) _
          clear XG ZG OG UG BG pw pf XA ZA BA RW RU BQ RLT e2 e2' ZB
          generalize (w'.setCell ⟨(w.heap.size + 1), 3, none⟩ (.slice b' (k + 1) d')) = wq at B3 Z3 X3 O3 U3 ⊢
          have ZB : Hid ((w.heap.size + 2) ≤ wq.heap.size) := World.block_lt_of_cell? _ _ (X3.out 0 _ rfl).1
          obtain ⟨e2, _⟩ := X3.out 2 _ rfl
          have XA : Hid (Box (wq.alloc (.cells #[.string g] 9)) (w.heap.size + 1) [.bool false, .slice none 0 0, .slice ua k uc, .slice b' (k + 1) d']) := X3.out.old _
          have ZA : Hid (Box (wq.alloc (.cells #[.string g] 9)) w.heap.size [.bool false, .slice none 0 0, .slice none 0 0, .slice none 0 0]) := Z3.out.old _
          obtain ⟨e2', _⟩ := XA.out 2 _ rfl
          have BA : Hid (Below w.heap.size w (wq.alloc (.cells #[.string g] 9)).drew) := (B3.out.alloc B3.out.size _).drew
          have RW : Hid ((wq.alloc (.cells #[.string g] 9)).drew.ownsRow (w.heap.size + 2) 9 1 (.slice ua k uc) k (cellsS ((l.map leastOf).take k))) := U3.out.alloc _
          have RU : Hid ((wq.alloc (.cells #[.string g] 9)).drew.ownsRow (w.heap.size + 2) 3 1 (.slice b' (k + 1) d') (k + 1) (cellsI ((l.map kidOf).take (k + 1)))) := O3.out.alloc _
          have BQ : Hid ((w.heap.size + 2) ≤ (wq.alloc (.cells #[.string g] 9)).drew.heap.size) := le_alloc ZB.out _
          have RLT : Hid (∀ g, Value.ownBlock (.slice ua k uc) = some g → (w.heap.size + 2) ≤ g ∧ g < wq.heap.size) := fun g e => U3.out.lt g e
          clear X3 O3 U3 Z3 B3
          go_wp2_with fail
          go_region_law (refine step_append_src rfl (.tmp 27) (.tmp 30) 24 rfl (w.heap.size + 2) 9 (.string ⟨#[]⟩) 1 16 Tryd.underlying24 infoS rfl (by decide) (by decide) (.slice ua k uc) k (cellsS ((l.map leastOf).take k)) (by simp [Act.eval]) RW.out ⟨wq.heap.size, 0, none⟩ 1 1 (cellsS [g]) (by simp [Act.eval]) rfl (show Src (wq.alloc (.cells #[.string g] 9)) _ _ from src_oneS rfl) (cellsS_one _) (by omega) (by decide) BQ.out ?_; intro v2 w2 hown hgrow hnew; obtain ⟨b2, d2, rfl, _, _⟩ := own_src hown; have XG : Hid (Box w2 (w.heap.size + 1) [.bool false, .slice none 0 0, .slice ua k uc, .slice b' (k + 1) d']) := (Box.grown (w := (wq.alloc (.cells #[.string g] 9)).drew) XA.out hgrow (fun e => by have := (RLT.out _ e).1; omega)); have ZG : Hid (Box w2 w.heap.size [.bool false, .slice none 0 0, .slice none 0 0, .slice none 0 0]) := (Box.grown (w := (wq.alloc (.cells #[.string g] 9)).drew) ZA.out hgrow (fun e => by have := (RLT.out _ e).1; omega)); obtain ⟨pw, pf⟩ := XG.out 2 _ rfl; have OG : Hid (w2.ownsRow (w.heap.size + 2) 9 1 (.slice b2 (k + 1) d2) (k + 1) (cellsS ((l.map leastOf).take (k + 1)))) := (by rw [NL.out, cellsS_append]; exact hown); have UG : Hid (w2.ownsRow (w.heap.size + 2) 3 1 (.slice b' (k + 1) d') (k + 1) (cellsI ((l.map kidOf).take (k + 1)))) := (own_grown RU.out hgrow (fun kk e e2 => own_ne RU.out RW.out (by decide) kk e e2)); have BG : Hid (Below w.heap.size w w2) := (BA.out.grown hgrow BA.out.size (fun g e => by have := (RLT.out g e).1; omega)); clear hown hgrow hnew)
          all_goals go_wp2_with fail
          all_goals exact ⟨⟨k + 1, _, _, by omega, by go_num, BG.out.setCell (by dsimp only; omega) _, ZG.out.other _ (by dsimp only; omega) _, XG.out.set 2 _, own_setLow OG.out (by dsimp only; omega) _, own_setLow UG.out (by dsimp only; omega) _, GN.out⟩, by simp [intOf]; omega⟩
    · have hkm : k = m := by omega
      have hki : ¬ (k : Int) < (m : Int) := by omega
      have EL : Hid ((l.map leastOf).length = k ∧ (l.map kidOf).length = k) := ⟨by rw [List.length_map, HM.out, hkm], by rw [List.length_map, HM.out, hkm]⟩
      have F : Hid (innerN l = some ⟨false, [], l.map leastOf, l.map kidOf⟩) := by
        show _ = _
        unfold innerN
        rw [if_neg]
        rintro ⟨f, hf, h9⟩
        refine hg.out f ?_ h9
        rw [List.take_of_length_le (by rw [HM.out]; omega)]
        exact hf
      obtain ⟨s0, _⟩ := hx.out 0 _ rfl
      obtain ⟨s1, _⟩ := hx.out 1 _ rfl
      obtain ⟨s2, _⟩ := hx.out 2 _ rfl
      obtain ⟨s3, _⟩ := hx.out 3 _ rfl
      obtain ⟨p0, pf0⟩ := (hz.out) 0 _ rfl
      obtain ⟨p1, pf1⟩ := ((hz.out).set 0 (.bool false)) 1 _ rfl
      obtain ⟨p2, pf2⟩ := (((hz.out).set 0 (.bool false)).set 1 (.slice none 0 0)) 2 _ rfl
      obtain ⟨p3, pf3⟩ := ((((hz.out).set 0 (.bool false)).set 1 (.slice none 0 0)).set 2 (.slice ua k uc)) 3 _ rfl
      have X8 := ((((hz.out).set 0 (.bool false)).set 1 (.slice none 0 0)).set 2 (.slice ua k uc)).set 3 (.slice va k vc)
      obtain ⟨r0, _⟩ := X8 0 _ rfl
      obtain ⟨r1, _⟩ := X8 1 _ rfl
      obtain ⟨r2, _⟩ := X8 2 _ rfl
      obtain ⟨r3, _⟩ := X8 3 _ rfl
      clear X8
      have BE : Hid (Below w.heap.size w ((((wr.setCell ⟨w.heap.size, 0, none⟩ (.bool false)).setCell ⟨w.heap.size, 1, none⟩ (.slice none 0 0)).setCell ⟨w.heap.size, 2, none⟩ (.slice ua k uc)).setCell ⟨w.heap.size, 3, none⟩ (.slice va k vc))) := (((hb.out.setCell (Nat.le_refl _) _).setCell (Nat.le_refl _) _).setCell (Nat.le_refl _) _).setCell (Nat.le_refl _) _
      have OE : Hid (OwnsN ((((wr.setCell ⟨w.heap.size, 0, none⟩ (.bool false)).setCell ⟨w.heap.size, 1, none⟩ (.slice none 0 0)).setCell ⟨w.heap.size, 2, none⟩ (.slice ua k uc)).setCell ⟨w.heap.size, 3, none⟩ (.slice va k vc)) w.heap.size ((((wr.setCell ⟨w.heap.size, 0, none⟩ (.bool false)).setCell ⟨w.heap.size, 1, none⟩ (.slice none 0 0)).setCell ⟨w.heap.size, 2, none⟩ (.slice ua k uc)).setCell ⟨w.heap.size, 3, none⟩ (.slice va k vc)).heap.size (.agg #[.bool false, .slice none 0 0, .slice ua k uc, .slice va k vc]) ⟨false, [], l.map leastOf, l.map kidOf⟩) := by
        refine OwnsN.mk rfl (World.ownsRow_nil _ _ _ _) ?_ ?_ (Nat.le_refl _)
        · show World.ownsRow _ _ _ _ _ (l.map leastOf).length _
          rw [EL.out.1]
          have h9 := ho.out
          rw [List.take_of_length_le (by rw [EL.out.1]; omega)] at h9
          refine own_mono (own_setLow (own_setLow (own_setLow (own_setLow h9 ?_ _) ?_ _) ?_ _) ?_ _) (by omega) <;> (dsimp only; omega)
        · show World.ownsRow _ _ _ _ _ (l.map kidOf).length _
          rw [EL.out.2]
          have h9 := hp.out
          rw [List.take_of_length_le (by rw [EL.out.2]; omega)] at h9
          refine own_mono (own_setLow (own_setLow (own_setLow (own_setLow h9 ?_ _) ?_ _) ?_ _) ?_ _) (by omega) <;> (dsimp only; omega)
      clear hkm
      go_wp2_with fail
      exact bodyPost_ret (v := .tuple #[.agg #[.bool false, .slice none 0 0, .slice ua k uc, .slice va k vc], .bool true]) (by simp [results, Tryd.results122, go_sem, r0, r1, r2, r3]) rfl ⟨.inr ⟨_, F.out, _, rfl, OE.out⟩, BE.out⟩
end Go.Proofs.YtnejklppbjkekaaDoor
