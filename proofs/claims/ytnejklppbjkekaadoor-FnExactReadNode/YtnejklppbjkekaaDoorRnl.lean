
/-
  Nodes out of fields, by the program: leafOf, innerOf. By an AI agent.
-/
import Derived.Test.YtnejklppbjkekaaDoorRsu
import Derived.Test.YtnejklppbjkekaaDoorNodes
import Derived.Deep.RegionHeld3
namespace Go.Proofs.YtnejklppbjkekaaDoor
open Go.ChangeShapes Go.WideShapes Go.ChangeAt Go.RowKit Go.Deep
set_option linter.unusedVariables false
set_option maxRecDepth 100000

/-- Fields two by two. -/
def pairUp : List ByteArray → List PM
  | x :: y :: l => (x, y) :: pairUp l
  | _ => []
theorem pairUp_get : ∀ (j : Nat) (l : List ByteArray) (x y : ByteArray), l[2 * j]? = some x → l[2 * j + 1]? = some y → (pairUp l)[j]? = some (x, y)
  | 0, x' :: y' :: l, x, y, h1, h2 => by
    simp at h1 h2
    simp [pairUp, h1, h2]
  | 0, [x'], x, y, h1, h2 => by simp at h2
  | 0, [], x, y, h1, h2 => by simp at h1
  | j + 1, x' :: y' :: l, x, y, h1, h2 => by
    have e1 : 2 * (j + 1) = 2 * j + 1 + 1 := by omega
    rw [e1] at h1 h2
    simp only [List.getElem?_cons_succ] at h1 h2
    show (pairUp l)[j]? = _
    exact pairUp_get j l x y h1 h2
  | j + 1, [x'], x, y, h1, h2 => by simp at h2
  | j + 1, [], x, y, h1, h2 => by simp at h1
theorem pairUp_length : ∀ (l : List ByteArray), (pairUp l).length = l.length / 2
  | [] => rfl
  | [_] => by simp [pairUp]
  | x :: y :: l => by
    show (pairUp l).length + 1 = _
    rw [pairUp_length l]
    simp only [List.length_cons]
    omega
def leafN (l : List ByteArray) : Option NM := if l.length % 2 = 0 then some ⟨true, pairUp l, [], []⟩ else none
theorem src_onePm {w : World} {x y : ByteArray} {B : Nat} (hB : B = w.heap.size) : Src (w.alloc (.cells #[.string x, .string y] 130)) (some ⟨B, 0, none⟩) (cellsP [(x, y)]) := by
  have hb : Box (w.alloc (.cells #[.string x, .string y] 130)) B [.string x, .string y] := Box.new hB
  refine .inr ⟨B, 0, rfl, fun j hj => ?_⟩
  have hj2 : j < 2 := hj
  rw [Nat.zero_add]
  match j, hj2 with
  | 0, _ => exact (hb 0 _ rfl).1
  | 1, _ => exact (hb 1 _ rfl).1

set_option maxHeartbeats 2000000 in
theorem leafOf (la : Option Addr) (m lc : Nat) (l : List ByteArray) (w : World) (hL : l.length = m) (hm : m ≤ 1048576) (h : Src w la (cellsS l)) :
    Calls Tryd.prog 121 #[.slice la m lc] w fun e w' => ((leafN l = none ∧ e = .returned (.tuple #[.agg #[.bool false, .slice none 0 0, .slice none 0 0, .slice none 0 0], .bool false])) ∨ (∃ D u, leafN l = some D ∧ e = .returned (.tuple #[u, .bool true]) ∧ OwnsN w' w.heap.size w'.heap.size u D)) ∧ Below w.heap.size w w' := by
  have HM : Hid (l.length = m) := hL
  have S1 : Hid (Src w la (cellsS l)) := h
  obtain ⟨q, hq⟩ : ∃ q, m % 2 = q := ⟨_, rfl⟩
  have R : Int.tmod (m : Int) 2 = (q : Int) := by
    rw [← hq, Int.tmod_eq_emod_of_nonneg (by omega)]
    omega
  have hq2 : q < 2 := by omega
  have HQ : Hid (m % 2 = q) := hq
  clear hL h hq
  by_cases t1 : q = 0
  case neg =>
    have F : Hid (leafN l = none) := by show _ = _; unfold leafN; rw [if_neg]; rw [HM.out, HQ.out]; exact t1
    have t2 : ((q : Int) != 0) = true := by simp; omega
    go_enter Tryd.func121, Tryd.ntmps121
    go_wp2_with fail
    exact bodyPost_ret (v := .tuple #[.agg #[.bool false, .slice none 0 0, .slice none 0 0, .slice none 0 0], .bool false]) (by simp [results, Tryd.results121, go_sem]) rfl ⟨.inl ⟨F.out, rfl⟩, (Below.refl _ _).alloc (Nat.le_refl _) _⟩
  subst t1
  go_enter Tryd.func121, Tryd.ntmps121
  go_wp2_with fail
  go_loopw [5] (fun iv wr => ∃ (i j : Nat) (u : Value), i ≤ m ∧ iv = .int .i64 (i : Int) ∧ Hid (i = 2 * j) ∧ Hid (Below w.heap.size w wr) ∧ Hid (Box wr w.heap.size [.bool false, .slice none 0 0, .slice none 0 0, .slice none 0 0]) ∧ Hid (Box wr (w.heap.size + 1) [.bool true, u, .slice none 0 0, .slice none 0 0]) ∧ Hid (wr.ownsRow (w.heap.size + 2) 130 2 u j (cellsP ((pairUp l).take j)))) (fun i _ => m - (intOf i).toNat)
  case atStart => exact ⟨0, 0, _, by omega, rfl, rfl, ((Below.refl _ _).alloc (Nat.le_refl _) _).alloc (by simp) _, Box.old (Box.new rfl) _, Box.new (by simp), World.ownsRow_nil _ _ _ _⟩
  case round =>
    obtain ⟨i, j, u, hi, rfl, hj, hb, hz, hx, ho⟩ := hrel
    obtain ⟨ua, uc, rfl, _, _⟩ := own_src ho.out
    by_cases hlt : i < m
    · have hlt2 : i + 1 < m := by have h1 := hj.out; have h2 := HQ.out; omega
      have hki : (i : Int) < (m : Int) := by omega
      have hki1 : (i : Int) + 1 < (m : Int) := by omega
      have hk0 : (0 : Int) ≤ (i : Int) := by omega
      have hk01 : (0 : Int) ≤ (i : Int) + 1 := by omega
      have htn : ((i : Int) + 1).toNat = i + 1 := by omega
      have hwr1 : IntKind.i64.wrap ((i : Int) + 1) = (i : Int) + 1 := by rw [IntKind.wrap_i64]; omega
      obtain ⟨lb, lo, x, rfl, xc, hx0⟩ := srcS (S1.out.below hb.out) (i := i) (by rw [HM.out]; exact hlt)
      obtain ⟨lb', lo', y, e9, yc, hy0⟩ := srcS (S1.out.below hb.out) (i := i + 1) (by rw [HM.out]; exact hlt2)
      cases e9
      have NX : Hid ((pairUp l).take (j + 1) = (pairUp l).take j ++ [(x, y)]) := by
        show _ = _
        rw [List.take_add_one, pairUp_get j l x y ?_ ?_]
        · rfl
        · rw [← hj.out, List.getElem?_eq_getElem (by rw [HM.out]; exact hlt)]
          have h9 := hx0.out
          rw [List.getD_eq_getElem?_getD, List.getElem?_eq_getElem (by rw [HM.out]; exact hlt)] at h9
          exact congrArg some h9
        · rw [← hj.out, List.getElem?_eq_getElem (by rw [HM.out]; exact hlt2)]
          have h9 := hy0.out
          rw [List.getD_eq_getElem?_getD, List.getElem?_eq_getElem (by rw [HM.out]; exact hlt2)] at h9
          exact congrArg some h9
      have hj9 : j ≤ 1048576 := by have := hj.out; omega
      have ZB : Hid (w.heap.size + 2 ≤ wr.heap.size) := World.block_lt_of_cell? _ _ (hx.out 0 _ rfl).1
      obtain ⟨e2, _⟩ := hx.out 1 _ rfl
      have XA : Hid (Box (wr.alloc (.cells #[.string x, .string y] 130)) (w.heap.size + 1) [.bool true, .slice ua j uc, .slice none 0 0, .slice none 0 0]) := hx.out.old _
      have ZA : Hid (Box (wr.alloc (.cells #[.string x, .string y] 130)) w.heap.size [.bool false, .slice none 0 0, .slice none 0 0, .slice none 0 0]) := hz.out.old _
      obtain ⟨e2', _⟩ := XA.out 1 _ rfl
      have BA : Hid (Below w.heap.size w (wr.alloc (.cells #[.string x, .string y] 130)).drew) := (hb.out.alloc hb.out.size _).drew
      have RW : Hid ((wr.alloc (.cells #[.string x, .string y] 130)).drew.ownsRow (w.heap.size + 2) 130 2 (.slice ua j uc) j (cellsP ((pairUp l).take j))) := ho.out.alloc _
      have BS : Hid (w.heap.size + 2 ≤ (wr.alloc (.cells #[.string x, .string y] 130)).drew.heap.size) := le_alloc ZB.out _
      have RLT : Hid (∀ g, Value.ownBlock (.slice ua j uc) = some g → w.heap.size + 2 ≤ g ∧ g < wr.heap.size) := fun g e => ho.out.lt g e
      clear hx0 hy0 hx ho
      go_wp2_with fail
      go_region_law (refine step_append_src rfl (.tmp 19) (.tmp 30) 23 rfl (w.heap.size + 2) 130 (.agg #[.string ⟨#[]⟩, .string ⟨#[]⟩]) 2 32 Tryd.underlying23 infoP rfl (by decide) (by decide) (.slice ua j uc) j (cellsP ((pairUp l).take j)) (by simp [Act.eval]) RW.out ⟨wr.heap.size, 0, none⟩ 1 1 (cellsP [(x, y)]) (by simp [Act.eval]) rfl (show Src (wr.alloc (.cells #[.string x, .string y] 130)) _ _ from src_onePm rfl) (cellsP_one _) (by omega) (by decide) BS.out ?_; intro v' w' hown hgrow hnew; obtain ⟨b', d', rfl, _, _⟩ := own_src hown; have XG : Hid (Box w' (w.heap.size + 1) [.bool true, .slice ua j uc, .slice none 0 0, .slice none 0 0]) := (Box.grown (w := (wr.alloc (.cells #[.string x, .string y] 130)).drew) XA.out hgrow (fun e => by have := (RLT.out _ e).1; omega)); have ZG : Hid (Box w' w.heap.size [.bool false, .slice none 0 0, .slice none 0 0, .slice none 0 0]) := (Box.grown (w := (wr.alloc (.cells #[.string x, .string y] 130)).drew) ZA.out hgrow (fun e => by have := (RLT.out _ e).1; omega)); obtain ⟨pw, pf⟩ := XG.out 1 _ rfl; have OG : Hid (w'.ownsRow (w.heap.size + 2) 130 2 (.slice b' (j + 1) d') (j + 1) (cellsP ((pairUp l).take (j + 1)))) := (by rw [NX.out, cellsP_append]; exact hown); have BG : Hid (Below w.heap.size w w') := (BA.out.grown hgrow BA.out.size (fun g e => by have := (RLT.out g e).1; omega)); clear hown hgrow hnew)
      all_goals go_wp2_with fail
      all_goals exact ⟨⟨i + 2, j + 1, _, by omega, by go_num, (by have := hj.out; show _ = _; omega), BG.out.setCell (by dsimp only; omega) _, ZG.out.other _ (by dsimp only; omega) _, XG.out.set 1 _, own_setLow OG.out (by dsimp only; omega) _⟩, by simp [intOf]; omega⟩
    · have him : i = m := by omega
      have hki : ¬ (i : Int) < (m : Int) := by omega
      have EP : Hid ((pairUp l).length = j ∧ (pairUp l).take j = pairUp l) := by
        have h9 : (pairUp l).length = j := by rw [pairUp_length, HM.out]; have := hj.out; omega
        exact ⟨h9, List.take_of_length_le (by omega)⟩
      have F : Hid (leafN l = some ⟨true, pairUp l, [], []⟩) := by show _ = _; unfold leafN; rw [if_pos]; rw [HM.out, HQ.out]
      obtain ⟨s0, _⟩ := hx.out 0 _ rfl
      obtain ⟨s1, _⟩ := hx.out 1 _ rfl
      obtain ⟨s2, _⟩ := hx.out 2 _ rfl
      obtain ⟨s3, _⟩ := hx.out 3 _ rfl
      obtain ⟨p0, pf0⟩ := (hz.out) 0 _ rfl
      obtain ⟨p1, pf1⟩ := ((hz.out).set 0 (.bool true)) 1 _ rfl
      obtain ⟨p2, pf2⟩ := (((hz.out).set 0 (.bool true)).set 1 (.slice ua j uc)) 2 _ rfl
      obtain ⟨p3, pf3⟩ := ((((hz.out).set 0 (.bool true)).set 1 (.slice ua j uc)).set 2 (.slice none 0 0)) 3 _ rfl
      have X8 := ((((hz.out).set 0 (.bool true)).set 1 (.slice ua j uc)).set 2 (.slice none 0 0)).set 3 (.slice none 0 0)
      obtain ⟨r0, _⟩ := X8 0 _ rfl
      obtain ⟨r1, _⟩ := X8 1 _ rfl
      obtain ⟨r2, _⟩ := X8 2 _ rfl
      obtain ⟨r3, _⟩ := X8 3 _ rfl
      clear X8
      have BE : Hid (Below w.heap.size w ((((wr.setCell ⟨w.heap.size, 0, none⟩ (.bool true)).setCell ⟨w.heap.size, 1, none⟩ (.slice ua j uc)).setCell ⟨w.heap.size, 2, none⟩ (.slice none 0 0)).setCell ⟨w.heap.size, 3, none⟩ (.slice none 0 0))) := (((hb.out.setCell (Nat.le_refl _) _).setCell (Nat.le_refl _) _).setCell (Nat.le_refl _) _).setCell (Nat.le_refl _) _
      have OE : Hid (OwnsN ((((wr.setCell ⟨w.heap.size, 0, none⟩ (.bool true)).setCell ⟨w.heap.size, 1, none⟩ (.slice ua j uc)).setCell ⟨w.heap.size, 2, none⟩ (.slice none 0 0)).setCell ⟨w.heap.size, 3, none⟩ (.slice none 0 0)) w.heap.size ((((wr.setCell ⟨w.heap.size, 0, none⟩ (.bool true)).setCell ⟨w.heap.size, 1, none⟩ (.slice ua j uc)).setCell ⟨w.heap.size, 2, none⟩ (.slice none 0 0)).setCell ⟨w.heap.size, 3, none⟩ (.slice none 0 0)).heap.size (.agg #[.bool true, .slice ua j uc, .slice none 0 0, .slice none 0 0]) ⟨true, pairUp l, [], []⟩) := by
        refine OwnsN.mk rfl ?_ (World.ownsRow_nil _ _ _ _) (World.ownsRow_nil _ _ _ _) (Nat.le_refl _)
        show World.ownsRow _ _ _ _ _ (pairUp l).length _
        rw [EP.out.1]
        have h9 := ho.out
        rw [EP.out.2] at h9
        refine own_mono (own_setLow (own_setLow (own_setLow (own_setLow h9 ?_ _) ?_ _) ?_ _) ?_ _) (by omega) <;> (dsimp only; omega)
      clear him
      go_wp2_with fail
      exact bodyPost_ret (v := .tuple #[.agg #[.bool true, .slice ua j uc, .slice none 0 0, .slice none 0 0], .bool true]) (by simp [results, Tryd.results121, go_sem, r0, r1, r2, r3]) rfl ⟨.inr ⟨_, F.out, _, rfl, OE.out⟩, BE.out⟩
end Go.Proofs.YtnejklppbjkekaaDoor
