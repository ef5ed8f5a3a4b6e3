/-
  Texts of the store, brought together: Rni, Rdp. By an AI agent.
-/
import Derived.Test.YtnnimocaanofjaaGreatDoorSq25
namespace Go.Proofs.YtnnimocaanofjaaGreatDoor
open Go.ChangeShapes Go.WideShapes Go.ChangeAt Go.RowKit Go.Deep
set_option linter.unusedVariables false
set_option linter.unusedSimpArgs false
set_option maxRecDepth 100000
def kidOf (f : ByteArray) : Int := (((bytesOf f).getD 0 0 : Nat) : Int)
def leastOf (f : ByteArray) : ByteArray := f.extract 1 f.size
def innerN (l : List ByteArray) : Option NM := if ∃ f ∈ l, f.size = 0 then none else some ⟨false, [], l.map leastOf, l.map kidOf⟩
theorem src_oneI9 {w : World} {x : Int} {B t : Nat} (hB : B = w.heap.size) : Src (w.alloc (.cells #[.int .i64 x] t)) (some ⟨B, 0, none⟩) (cellsI [x]) := by
  subst hB
  refine .inr ⟨_, 0, rfl, fun j hj => ?_⟩
  have hb := Box.new (w := w) (B := w.heap.size) (vs := #[.int .i64 x]) (t := t) rfl
  have hj2 : j < 1 := hj
  obtain rfl : j = 0 := by omega
  exact (hb 0 _ rfl).1
set_option maxHeartbeats 4000000 in
theorem innerOf (la : Option Addr) (m lc : Nat) (l : List ByteArray) (w : World) (hL : l.length = m) (hm : m ≤ 1048576) (h : Src w la (cellsS l)) :
    Calls Tryz.prog 179 #[.slice la m lc] w fun e w' => ((innerN l = none ∧ e = .returned (.tuple #[.agg #[.bool false, .slice none 0 0, .slice none 0 0, .slice none 0 0], .bool false])) ∨ (∃ D u, innerN l = some D ∧ e = .returned (.tuple #[u, .bool true]) ∧ OwnsN w' w.heap.size w'.heap.size u D)) ∧ Below w.heap.size w w' := by
  have HM : Hid (l.length = m) := hL
  have S1 : Hid (Src w la (cellsS l)) := h
  clear hL h
  go_enter Tryz.func179, Tryz.ntmps179
  go_wp2_with fail
  go_loopw [10] (fun iv wr => ∃ (k : Nat) (u v : Value), k ≤ m ∧ iv = .int .i64 (k : Int) ∧ Hid (Below w.heap.size w wr) ∧ Hid (Box wr w.heap.size [.bool false, .slice none 0 0, .slice none 0 0, .slice none 0 0]) ∧ Hid (Box wr (w.heap.size + 1) [.bool false, .slice none 0 0, u, v]) ∧ Hid (wr.ownsRow (w.heap.size + 2) 9 1 u k (cellsS ((l.map leastOf).take k))) ∧ Hid (wr.ownsRow (w.heap.size + 2) 3 1 v k (cellsI ((l.map kidOf).take k))) ∧ Hid (∀ f ∈ l.take k, ¬ f.size = 0)) (fun i _ => m - (intOf i).toNat)
  case atStart => exact ⟨0, _, _, by omega, rfl, ((Below.refl _ _).alloc (Nat.le_refl _) _).alloc (by simp) _, Box.old (Box.new rfl) _, Box.new (by simp), World.ownsRow_nil _ _ _ _, World.ownsRow_nil _ _ _ _, fun f hf => by simp at hf⟩
  case round =>
    obtain ⟨k, u, v, hk, rfl, hb, hz, hx, ho, hp, hg⟩ := hrel
    obtain ⟨ua, uc, rfl, _, _⟩ := own_src ho.out
    obtain ⟨va, vc, rfl, _, _⟩ := own_src hp.out
    by_cases hlt : k < m
    · have hki : (k : Int) < (m : Int) := by omega
      have hk0 : (0 : Int) ≤ (k : Int) := by omega
      obtain ⟨lb, lo, f, rfl, fc, hf⟩ := srcS (S1.out.below hb.out) (i := k) (by rw [HM.out]; exact hlt)
      have HF : Hid (l[k]? = some f) := by
        show _ = _
        have h9 := hf.out
        rw [List.getD_eq_getElem?_getD, List.getElem?_eq_getElem (by rw [HM.out]; exact hlt)] at h9
        rw [List.getElem?_eq_getElem (by rw [HM.out]; exact hlt)]
        exact congrArg some h9
      by_cases t3 : f.size = 0
      · have F : Hid (innerN l = none) := by show _ = _; unfold innerN; rw [if_pos ⟨f, List.mem_of_getElem? HF.out, t3⟩]
        have t4 : ((f.size : Int) == 0) = true := by rw [t3]; rfl
        obtain ⟨p0, pf0⟩ := (hz.out) 0 _ rfl
        obtain ⟨p1, pf1⟩ := ((hz.out).set 0 (.bool false)) 1 _ rfl
        obtain ⟨p2, pf2⟩ := (((hz.out).set 0 (.bool false)).set 1 (.slice none 0 0)) 2 _ rfl
        obtain ⟨p3, pf3⟩ := ((((hz.out).set 0 (.bool false)).set 1 (.slice none 0 0)).set 2 (.slice none 0 0)) 3 _ rfl
        have X8 := ((((hz.out).set 0 (.bool false)).set 1 (.slice none 0 0)).set 2 (.slice none 0 0)).set 3 (.slice none 0 0)
        obtain ⟨r0, _⟩ := X8 0 _ rfl
        obtain ⟨r1, _⟩ := X8 1 _ rfl
        obtain ⟨r2, _⟩ := X8 2 _ rfl
        obtain ⟨r3, _⟩ := X8 3 _ rfl
        clear X8
        have BE : Hid (Below w.heap.size w ((((wr.setCell ⟨w.heap.size, 0, none⟩ (.bool false)).setCell ⟨w.heap.size, 1, none⟩ (.slice none 0 0)).setCell ⟨w.heap.size, 2, none⟩ (.slice none 0 0)).setCell ⟨w.heap.size, 3, none⟩ (.slice none 0 0))) := (((hb.out.setCell (Nat.le_refl _) _).setCell (Nat.le_refl _) _).setCell (Nat.le_refl _) _).setCell (Nat.le_refl _) _
        go_wp2_with fail
        exact bodyPost_ret (v := .tuple #[.agg #[.bool false, .slice none 0 0, .slice none 0 0, .slice none 0 0], .bool false]) (by simp [results, Tryz.results179, go_sem, r0, r1, r2, r3]) rfl ⟨.inl ⟨F.out, rfl⟩, BE.out⟩
      · have t4 : ((f.size : Int) == 0) = false := beq_eq_false_iff_ne.2 (by omega)
        obtain ⟨y0, hy0⟩ : ∃ y, (f[0]'(by omega)).toNat = y := ⟨_, rfl⟩
        have hy08 : y0 < 256 := by rw [← hy0]; exact UInt8.toNat_lt _
        have hf0 : 0 < f.size := by omega
        have hwr1 : IntKind.i64.wrap (y0 : Int) = (y0 : Int) := by rw [IntKind.wrap_i64]; omega
        have K0 : Hid (kidOf f = (y0 : Int)) := by show _ = _; unfold kidOf; rw [bytesOf_get f 0 (by omega), hy0]
        have cut1 : ∀ W, (Instr.slice 9 (.string f) (some (.int .i64 1)) none none).run Tryz.prog W = .ok (.string (f.extract 1 f.size)) W := fun W => by
          have h9 := run_slice_string_l (P := Tryz.prog) W 9 f Tryz.underlying9 .i64 1 (by omega) (by omega)
          exact h9
        obtain ⟨g, hg1⟩ : ∃ g, f.extract 1 f.size = g := ⟨_, rfl⟩
        rw [hg1] at cut1
        have L0 : Hid (leastOf f = g) := hg1
        have NK : Hid ((l.map kidOf).take (k + 1) = (l.map kidOf).take k ++ [(y0 : Int)]) := by
          show _ = _
          rw [List.take_add_one, List.getElem?_map, HF.out, Option.map_some, K0.out]
          rfl
        have NL : Hid ((l.map leastOf).take (k + 1) = (l.map leastOf).take k ++ [g]) := by
          show _ = _
          rw [List.take_add_one, List.getElem?_map, HF.out, Option.map_some, L0.out]
          rfl
        have GN : Hid (∀ f ∈ l.take (k + 1), ¬ f.size = 0) := fun f' hf' => by
          rw [List.take_add_one, HF.out, List.mem_append] at hf'
          rcases hf' with h9 | h9
          · exact hg.out f' h9
          · simp at h9; subst h9; exact t3
        have ZB : Hid ((w.heap.size + 2) ≤ wr.heap.size) := World.block_lt_of_cell? _ _ (hx.out 0 _ rfl).1
        obtain ⟨e2, _⟩ := hx.out 3 _ rfl
        have XA : Hid (Box (wr.alloc (.cells #[.int .i64 (y0 : Int)] 3)) (w.heap.size + 1) [.bool false, .slice none 0 0, .slice ua k uc, .slice va k vc]) := hx.out.old _
        have ZA : Hid (Box (wr.alloc (.cells #[.int .i64 (y0 : Int)] 3)) w.heap.size [.bool false, .slice none 0 0, .slice none 0 0, .slice none 0 0]) := hz.out.old _
        obtain ⟨e2', _⟩ := XA.out 3 _ rfl
        have BA : Hid (Below w.heap.size w (wr.alloc (.cells #[.int .i64 (y0 : Int)] 3)).drew) := (hb.out.alloc hb.out.size _).drew
        have RW : Hid ((wr.alloc (.cells #[.int .i64 (y0 : Int)] 3)).drew.ownsRow (w.heap.size + 2) 3 1 (.slice va k vc) k (cellsI ((l.map kidOf).take k))) := hp.out.alloc _
        have RU : Hid ((wr.alloc (.cells #[.int .i64 (y0 : Int)] 3)).drew.ownsRow (w.heap.size + 2) 9 1 (.slice ua k uc) k (cellsS ((l.map leastOf).take k))) := ho.out.alloc _
        have BQ : Hid ((w.heap.size + 2) ≤ (wr.alloc (.cells #[.int .i64 (y0 : Int)] 3)).drew.heap.size) := le_alloc ZB.out _
        have RLT : Hid (∀ g, Value.ownBlock (.slice va k vc) = some g → (w.heap.size + 2) ≤ g ∧ g < wr.heap.size) := fun g e => hp.out.lt g e
        clear hf hx ho hp hg hg1
        go_wp2_with fail
        go_region_law (refine step_append_src rfl (.tmp 19) (.tmp 23) 24 rfl (w.heap.size + 2) 3 (.int .i64 0) 1 8 Tryz.underlying24 infoI rfl (by decide) (by decide) (.slice va k vc) k (cellsI ((l.map kidOf).take k)) (by simp [Act.eval]) RW.out ⟨wr.heap.size, 0, none⟩ 1 1 (cellsI [(y0 : Int)]) (by simp [Act.eval]) rfl (show Src (wr.alloc (.cells #[.int .i64 (y0 : Int)] 3)) _ _ from src_oneI9 rfl) (cellsI_one _) (by omega) (by decide) BQ.out ?_; intro v' w' hown hgrow hnew; obtain ⟨b', d', rfl, _, _⟩ := own_src hown; have XG : Hid (Box w' (w.heap.size + 1) [.bool false, .slice none 0 0, .slice ua k uc, .slice va k vc]) := (Box.grown (w := (wr.alloc (.cells #[.int .i64 (y0 : Int)] 3)).drew) XA.out hgrow (fun e => by have := (RLT.out _ e).1; omega)); have ZG : Hid (Box w' w.heap.size [.bool false, .slice none 0 0, .slice none 0 0, .slice none 0 0]) := (Box.grown (w := (wr.alloc (.cells #[.int .i64 (y0 : Int)] 3)).drew) ZA.out hgrow (fun e => by have := (RLT.out _ e).1; omega)); obtain ⟨pw, pf⟩ := XG.out 3 _ rfl; have OG : Hid (w'.ownsRow (w.heap.size + 2) 3 1 (.slice b' (k + 1) d') (k + 1) (cellsI ((l.map kidOf).take (k + 1)))) := (by rw [NK.out, cellsI_append]; exact hown); have UG : Hid (w'.ownsRow (w.heap.size + 2) 9 1 (.slice ua k uc) k (cellsS ((l.map leastOf).take k))) := (own_grown RU.out hgrow (fun kk e e2 => own_ne RU.out RW.out (by decide) kk e e2)); have BG : Hid (Below w.heap.size w w') := (BA.out.grown hgrow BA.out.size (fun g e => by have := (RLT.out g e).1; omega)); clear hown hgrow hnew)
        all_goals
          have B3 : Hid (Below w.heap.size w (w'.setCell ⟨(w.heap.size + 1), 3, none⟩ (.slice b' (k + 1) d'))) := BG.out.setCell (by dsimp only; omega) _
          have Z3 : Hid (Box (w'.setCell ⟨(w.heap.size + 1), 3, none⟩ (.slice b' (k + 1) d')) w.heap.size [.bool false, .slice none 0 0, .slice none 0 0, .slice none 0 0]) := ZG.out.other _ (by dsimp only; omega) _
          have X3 : Hid (Box (w'.setCell ⟨(w.heap.size + 1), 3, none⟩ (.slice b' (k + 1) d')) (w.heap.size + 1) [.bool false, .slice none 0 0, .slice ua k uc, .slice b' (k + 1) d']) := XG.out.set 3 _
          have O3 : Hid ((w'.setCell ⟨(w.heap.size + 1), 3, none⟩ (.slice b' (k + 1) d')).ownsRow (w.heap.size + 2) 3 1 (.slice b' (k + 1) d') (k + 1) (cellsI ((l.map kidOf).take (k + 1)))) := own_setLow OG.out (by dsimp only; omega) _
          have U3 : Hid ((w'.setCell ⟨(w.heap.size + 1), 3, none⟩ (.slice b' (k + 1) d')).ownsRow (w.heap.size + 2) 9 1 (.slice ua k uc) k (cellsS ((l.map leastOf).take k))) := own_setLow UG.out (by dsimp only; omega) _
          clear XG ZG OG UG BG pw pf XA ZA BA RW RU BQ RLT e2 e2' ZB
          generalize (w'.setCell ⟨(w.heap.size + 1), 3, none⟩ (.slice b' (k + 1) d')) = wq at B3 Z3 X3 O3 U3 ⊢
          have ZB : Hid ((w.heap.size + 2) ≤ wq.heap.size) := World.block_lt_of_cell? _ _ (X3.out 0 _ rfl).1
          obtain ⟨e2, _⟩ := X3.out 2 _ rfl
          have XA : Hid (Box (wq.alloc (.cells #[.string g] 9)) (w.heap.size + 1) [.bool false, .slice none 0 0, .slice ua k uc, .slice b' (k + 1) d']) := X3.out.old _
          have ZA : Hid (Box (wq.alloc (.cells #[.string g] 9)) w.heap.size [.bool false, .slice none 0 0, .slice none 0 0, .slice none 0 0]) := Z3.out.old _
          obtain ⟨e2', _⟩ := XA.out 2 _ rfl
          have BA : Hid (Below w.heap.size w (wq.alloc (.cells #[.string g] 9)).drew) := (B3.out.alloc B3.out.size _).drew
          have RW : Hid ((wq.alloc (.cells #[.string g] 9)).drew.ownsRow (w.heap.size + 2) 9 1 (.slice ua k uc) k (cellsS ((l.map leastOf).take k))) := U3.out.alloc _
          have RU : Hid ((wq.alloc (.cells #[.string g] 9)).drew.ownsRow (w.heap.size + 2) 3 1 (.slice b' (k + 1) d') (k + 1) (cellsI ((l.map kidOf).take (k + 1)))) := O3.out.alloc _
          have BQ : Hid ((w.heap.size + 2) ≤ (wq.alloc (.cells #[.string g] 9)).drew.heap.size) := le_alloc ZB.out _
          have RLT : Hid (∀ g, Value.ownBlock (.slice ua k uc) = some g → (w.heap.size + 2) ≤ g ∧ g < wq.heap.size) := fun g e => U3.out.lt g e
          clear X3 O3 U3 Z3 B3
          go_wp2_with fail
          go_region_law (refine step_append_src rfl (.tmp 27) (.tmp 30) 22 rfl (w.heap.size + 2) 9 (.string ⟨#[]⟩) 1 16 Tryz.underlying22 infoS rfl (by decide) (by decide) (.slice ua k uc) k (cellsS ((l.map leastOf).take k)) (by simp [Act.eval]) RW.out ⟨wq.heap.size, 0, none⟩ 1 1 (cellsS [g]) (by simp [Act.eval]) rfl (show Src (wq.alloc (.cells #[.string g] 9)) _ _ from src_oneS rfl) (cellsS_one _) (by omega) (by decide) BQ.out ?_; intro v2 w2 hown hgrow hnew; obtain ⟨b2, d2, rfl, _, _⟩ := own_src hown; have XG : Hid (Box w2 (w.heap.size + 1) [.bool false, .slice none 0 0, .slice ua k uc, .slice b' (k + 1) d']) := (Box.grown (w := (wq.alloc (.cells #[.string g] 9)).drew) XA.out hgrow (fun e => by have := (RLT.out _ e).1; omega)); have ZG : Hid (Box w2 w.heap.size [.bool false, .slice none 0 0, .slice none 0 0, .slice none 0 0]) := (Box.grown (w := (wq.alloc (.cells #[.string g] 9)).drew) ZA.out hgrow (fun e => by have := (RLT.out _ e).1; omega)); obtain ⟨pw, pf⟩ := XG.out 2 _ rfl; have OG : Hid (w2.ownsRow (w.heap.size + 2) 9 1 (.slice b2 (k + 1) d2) (k + 1) (cellsS ((l.map leastOf).take (k + 1)))) := (by rw [NL.out, cellsS_append]; exact hown); have UG : Hid (w2.ownsRow (w.heap.size + 2) 3 1 (.slice b' (k + 1) d') (k + 1) (cellsI ((l.map kidOf).take (k + 1)))) := (own_grown RU.out hgrow (fun kk e e2 => own_ne RU.out RW.out (by decide) kk e e2)); have BG : Hid (Below w.heap.size w w2) := (BA.out.grown hgrow BA.out.size (fun g e => by have := (RLT.out g e).1; omega)); clear hown hgrow hnew)
          all_goals go_wp2_with fail
          all_goals exact ⟨⟨k + 1, _, _, by omega, by go_num, BG.out.setCell (by dsimp only; omega) _, ZG.out.other _ (by dsimp only; omega) _, XG.out.set 2 _, own_setLow OG.out (by dsimp only; omega) _, own_setLow UG.out (by dsimp only; omega) _, GN.out⟩, by simp [intOf]; omega⟩
    · have hkm : k = m := by omega
      have hki : ¬ (k : Int) < (m : Int) := by omega
      have EL : Hid ((l.map leastOf).length = k ∧ (l.map kidOf).length = k) := ⟨by rw [List.length_map, HM.out, hkm], by rw [List.length_map, HM.out, hkm]⟩
      have F : Hid (innerN l = some ⟨false, [], l.map leastOf, l.map kidOf⟩) := by
        show _ = _
        unfold innerN
        rw [if_neg]
        rintro ⟨f, hf, h9⟩
        refine hg.out f ?_ h9
        rw [List.take_of_length_le (by rw [HM.out]; omega)]
        exact hf
      obtain ⟨s0, _⟩ := hx.out 0 _ rfl
      obtain ⟨s1, _⟩ := hx.out 1 _ rfl
      obtain ⟨s2, _⟩ := hx.out 2 _ rfl
      obtain ⟨s3, _⟩ := hx.out 3 _ rfl
      obtain ⟨p0, pf0⟩ := (hz.out) 0 _ rfl
      obtain ⟨p1, pf1⟩ := ((hz.out).set 0 (.bool false)) 1 _ rfl
      obtain ⟨p2, pf2⟩ := (((hz.out).set 0 (.bool false)).set 1 (.slice none 0 0)) 2 _ rfl
      obtain ⟨p3, pf3⟩ := ((((hz.out).set 0 (.bool false)).set 1 (.slice none 0 0)).set 2 (.slice ua k uc)) 3 _ rfl
      have X8 := ((((hz.out).set 0 (.bool false)).set 1 (.slice none 0 0)).set 2 (.slice ua k uc)).set 3 (.slice va k vc)
      obtain ⟨r0, _⟩ := X8 0 _ rfl
      obtain ⟨r1, _⟩ := X8 1 _ rfl
      obtain ⟨r2, _⟩ := X8 2 _ rfl
      obtain ⟨r3, _⟩ := X8 3 _ rfl
      clear X8
      have BE : Hid (Below w.heap.size w ((((wr.setCell ⟨w.heap.size, 0, none⟩ (.bool false)).setCell ⟨w.heap.size, 1, none⟩ (.slice none 0 0)).setCell ⟨w.heap.size, 2, none⟩ (.slice ua k uc)).setCell ⟨w.heap.size, 3, none⟩ (.slice va k vc))) := (((hb.out.setCell (Nat.le_refl _) _).setCell (Nat.le_refl _) _).setCell (Nat.le_refl _) _).setCell (Nat.le_refl _) _
      have OE : Hid (OwnsN ((((wr.setCell ⟨w.heap.size, 0, none⟩ (.bool false)).setCell ⟨w.heap.size, 1, none⟩ (.slice none 0 0)).setCell ⟨w.heap.size, 2, none⟩ (.slice ua k uc)).setCell ⟨w.heap.size, 3, none⟩ (.slice va k vc)) w.heap.size ((((wr.setCell ⟨w.heap.size, 0, none⟩ (.bool false)).setCell ⟨w.heap.size, 1, none⟩ (.slice none 0 0)).setCell ⟨w.heap.size, 2, none⟩ (.slice ua k uc)).setCell ⟨w.heap.size, 3, none⟩ (.slice va k vc)).heap.size (.agg #[.bool false, .slice none 0 0, .slice ua k uc, .slice va k vc]) ⟨false, [], l.map leastOf, l.map kidOf⟩) := by
        refine OwnsN.mk rfl (World.ownsRow_nil _ _ _ _) ?_ ?_ (Nat.le_refl _)
        · show World.ownsRow _ _ _ _ _ (l.map leastOf).length _
          rw [EL.out.1]
          have h9 := ho.out
          rw [List.take_of_length_le (by rw [EL.out.1]; omega)] at h9
          refine own_mono (own_setLow (own_setLow (own_setLow (own_setLow h9 ?_ _) ?_ _) ?_ _) ?_ _) (by omega) <;> (dsimp only; omega)
        · show World.ownsRow _ _ _ _ _ (l.map kidOf).length _
          rw [EL.out.2]
          have h9 := hp.out
          rw [List.take_of_length_le (by rw [EL.out.2]; omega)] at h9
          refine own_mono (own_setLow (own_setLow (own_setLow (own_setLow h9 ?_ _) ?_ _) ?_ _) ?_ _) (by omega) <;> (dsimp only; omega)
      clear hkm
      go_wp2_with fail
      exact bodyPost_ret (v := .tuple #[.agg #[.bool false, .slice none 0 0, .slice ua k uc, .slice va k vc], .bool true]) (by simp [results, Tryz.results179, go_sem, r0, r1, r2, r3]) rfl ⟨.inr ⟨_, F.out, _, rfl, OE.out⟩, BE.out⟩
theorem getD_mid (A F R : List Nat) (i : Nat) (h : i < F.length) : (A ++ (F ++ R)).getD (A.length + i) 0 = F.getD i 0 := by
  rw [List.getD_eq_getElem?_getD, List.getD_eq_getElem?_getD, List.getElem?_append_right (by omega), Nat.add_sub_cancel_left, List.getElem?_append_left h]
theorem fieldsB_split (L : List ByteArray) (k : Nat) (h : k < L.length) : fieldsB L = ltk L k ++ (fieldB (L.getD k e0) ++ (L.drop (k + 1)).flatMap fieldB) := by
  unfold fieldsB ltk
  rw [List.cons_append]
  congr 1
  have e1 : L = L.take k ++ (L.getD k e0 :: L.drop (k + 1)) := by
    rw [List.getD_eq_getElem?_getD, List.getElem?_eq_getElem h]
    show L = L.take k ++ (L[k] :: L.drop (k + 1))
    rw [← List.drop_eq_getElem_cons h, List.take_append_drop]
  conv => lhs; rw [e1]
  rw [List.flatMap_append, List.flatMap_cons]
theorem rd_back (L : List ByteArray) (hs : ∀ s ∈ L, s.size ≤ 300) : ∀ k, k ≤ L.length → rdSt (fieldsB L) k = some (L.take k, (ltk L k).length)
  | 0, _ => by simp [rdSt, ltk]
  | k + 1, hk => by
    have ih := rd_back L hs k (by omega)
    obtain ⟨s, hsk⟩ : ∃ s, L.getD k e0 = s := ⟨_, rfl⟩
    have h300 : s.size ≤ 300 := by
      rw [← hsk, List.getD_eq_getElem?_getD, List.getElem?_eq_getElem (by omega)]
      exact hs _ (List.getElem_mem _)
    have sp := fieldsB_split L k (by omega)
    rw [hsk] at sp
    have fl : (fieldB s).length = 2 + s.size := fieldB_length s
    have g0 := getD_mid (ltk L k) (fieldB s) ((L.drop (k + 1)).flatMap fieldB) 0 (by omega)
    have g1 := getD_mid (ltk L k) (fieldB s) ((L.drop (k + 1)).flatMap fieldB) 1 (by omega)
    rw [← sp] at g0 g1
    have f0 : (fieldB s).getD 0 0 = s.size / 256 % 256 := rfl
    have f1 : (fieldB s).getD 1 0 = s.size % 256 := rfl
    have hz : szAt (fieldsB L) (ltk L k).length = s.size := by
      unfold szAt
      rw [show (ltk L k).length = (ltk L k).length + 0 from rfl, g0, Nat.add_zero, g1, f0, f1]
      omega
    have hlen : (fieldsB L).length = (ltk L k).length + (2 + s.size) + ((L.drop (k + 1)).flatMap fieldB).length := by
      rw [sp, List.length_append, List.length_append, fl]; omega
    have hsub : sub (fieldsB L) ((ltk L k).length + 2) s.size = s := by
      unfold sub
      have e2 : (fieldsB L).drop ((ltk L k).length + 2) = bytesOf s ++ (L.drop (k + 1)).flatMap fieldB := by
        rw [sp, ← List.drop_drop, List.drop_left]
        rfl
      rw [e2, List.take_left' (by rw [bytesOf_length]), strB_bytes]
    rw [rd_more ih (by omega) (by rw [hz]; omega) (by rw [hz]; omega), hz, hsub]
    have e3 : L.take (k + 1) = L.take k ++ [s] := by
      rw [List.take_succ_eq_append_getElem (by omega), ← hsk, List.getD_eq_getElem?_getD, List.getElem?_eq_getElem (by omega)]; rfl
    have e4 : (ltk L (k + 1)).length = (ltk L k).length + 2 + s.size := by
      rw [ltk_snoc L k s (by omega) hsk, List.length_append, fl]; omega
    rw [e3, e4]
theorem rf_back (L : List ByteArray) (hn : L.length ≤ 200) (hs : ∀ s ∈ L, s.size ≤ 300) (hb : (fieldsB L).length ≤ 65536) : rfA (fieldsB L) = (L, 0) := by
  have h0 : (fieldsB L).getD 0 0 = L.length := by show L.length % 256 = L.length; omega
  have h1 := rd_back L hs L.length (Nat.le_refl _)
  rw [List.take_length, ltk_all] at h1
  unfold rfA cutA
  have hne : ¬ ((fieldsB L).length = 0 ∨ 200 < (fieldsB L).getD 0 0) := by
    rintro (h | h)
    · simp [fieldsB] at h
    · rw [h0] at h; omega
  rw [if_neg (by omega), if_neg hne, h0, h1]
  simp
theorem rd_take {B : List Nat} (h8 : ∀ x ∈ B, x < 256) (hB : 0 < B.length) : ∀ {k p : Nat} {l : List ByteArray}, rdSt B k = some (l, p) → p ≤ B.length ∧ B.take p = B.getD 0 0 :: l.flatMap fieldB ∧ ∀ s ∈ l, s.size ≤ 300
  | 0, p, l, h => by
    simp [rdSt] at h
    obtain ⟨rfl, rfl⟩ := h
    refine ⟨hB, ?_, fun s hs => by cases hs⟩
    match B, hB with
    | x :: B, _ => rfl
  | k + 1, p, l, h => by
    cases hk : rdSt B k with
    | none => simp [rdSt, hk] at h
    | some lp =>
      obtain ⟨l', p'⟩ := lp
      obtain ⟨i1, i2, i3⟩ := rd_take h8 hB hk
      simp only [rdSt, hk] at h
      split at h
      · cases h
      split at h
      · cases h
      split at h
      · cases h
      rename_i q1 q2 q3
      simp only [Option.some.injEq, Prod.mk.injEq] at h
      obtain ⟨rfl, rfl⟩ := h
      have b0 : B.getD p' 0 < 256 := by
        rw [List.getD_eq_getElem?_getD, List.getElem?_eq_getElem (by omega)]; exact h8 _ (List.getElem_mem _)
      have b1 : B.getD (p' + 1) 0 < 256 := by
        rw [List.getD_eq_getElem?_getD, List.getElem?_eq_getElem (by omega)]; exact h8 _ (List.getElem_mem _)
      obtain ⟨z, hz⟩ : ∃ z, szAt B p' = z := ⟨_, rfl⟩
      have hz2 : B.getD p' 0 * 256 + B.getD (p' + 1) 0 = z := hz
      rw [hz] at q2 q3 ⊢
      have hl8 : ∀ x ∈ (B.drop (p' + 2)).take z, x < 256 := fun x hx => h8 x (List.mem_of_mem_drop (List.mem_of_mem_take hx))
      have hf : fieldB (sub B (p' + 2) z) = (B.drop p').take (2 + z) := by
        unfold fieldB sub
        rw [bytes_strB _ hl8, strB_size, List.length_take, List.length_drop, Nat.min_eq_left (by omega)]
        have e1 : (B.drop p').take (2 + z) = (B.drop p').take 2 ++ ((B.drop p').drop 2).take z := by rw [List.take_add]
        rw [e1, take_two B p' (by omega), List.drop_drop]
        congr 1
        unfold numB
        rw [show z / 256 % 256 = B.getD p' 0 from by omega, show z % 256 = B.getD (p' + 1) 0 from by omega]
      refine ⟨by omega, ?_, fun s hs => ?_⟩
      · rw [List.flatMap_append, ← List.cons_append, ← i2]
        have e2 : [sub B (p' + 2) z].flatMap fieldB = (B.drop p').take (2 + z) := by rw [← hf]; simp
        rw [e2, Nat.add_assoc, List.take_add]
      · rw [List.mem_append] at hs
        rcases hs with hs | hs
        · exact i3 s hs
        · simp at hs
          subst hs
          unfold sub
          rw [strB_size, List.length_take]
          omega
theorem rf_same {B : List Nat} {L : List ByteArray} (h8 : ∀ x ∈ B, x < 256) (h : rfA B = (L, 0)) : L.length ≤ 200 ∧ (∀ s ∈ L, s.size ≤ 300) ∧ fieldsB L = B := by
  unfold rfA cutA at h
  by_cases h1 : 65536 < B.length
  · rw [if_pos h1] at h; simp at h
  rw [if_neg h1] at h
  by_cases h2 : B.length = 0 ∨ 200 < B.getD 0 0
  · rw [if_pos h2] at h; simp at h
  rw [if_neg h2] at h
  cases hk : rdSt B (B.getD 0 0) with
  | none => rw [hk] at h; simp at h
  | some lp =>
    obtain ⟨l, p⟩ := lp
    rw [hk] at h
    simp only at h
    by_cases hp : p = B.length
    · rw [if_pos hp] at h
      simp only [Prod.mk.injEq, and_true] at h
      subst h
      obtain ⟨i1, i2, i3⟩ := rd_take h8 (by omega) hk
      have hl := rd_len hk
      refine ⟨by omega, i3, ?_⟩
      rw [hp, List.take_length] at i2
      unfold fieldsB
      rw [hl, Nat.mod_eq_of_lt (by omega)]
      exact i2.symm
    · rw [if_neg hp] at h; simp at h
end Go.Proofs.YtnnimocaanofjaaGreatDoor
