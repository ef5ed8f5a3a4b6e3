/-
  Texts of the store, brought together: Mem, Rw, Mtext, Lists1, Lists2. By an AI agent.
-/
import Derived.Test.YtnnimocaanofjaaGreatDoorRows
import Derived.WalkKit
import Derived.ProofKit
import Derived.OpenShut
import Derived.ShutString
import Derived.ChangeOld
import Derived.Below
import Derived.WalkSmall
import Derived.Deep.OwnRows
import Derived.RegionCalls
import Derived.Lib.OwnKind
import Derived.Deep.RegionWith
import Derived.Deep.QuietTactic
import Derived.BigQuiet
import Derived.WalkLawsBesides
namespace Go.Proofs.YtnnimocaanofjaaGreatDoor
open Go.ChangeShapes Go.WideShapes Go.ChangeAt Go.RowKit Go.Deep
set_option linter.unusedVariables false
set_option linter.unusedSimpArgs false
set_option maxRecDepth 100000
def Sl (w : World) (a : Option Addr) (n : Nat) (f : Nat → Value) : Prop :=
  n = 0 ∨ ∃ b off, a = some ⟨b, off, none⟩ ∧ ∀ i, i < n → w.cell? ⟨b, off + i, none⟩ = some (f i)
theorem Sl.below {w w' : World} {a : Option Addr} {n : Nat} {f : Nat → Value} (h : Sl w a n f) (hb : Below w.heap.size w w') : Sl w' a n f := by
  rcases h with h | ⟨b, off, rfl, hc⟩
  · exact .inl h
  · refine .inr ⟨b, off, rfl, fun i hi => ?_⟩
    have h1 := hc i hi
    rw [← h1]
    exact hb.cell (p := ⟨b, off + i, none⟩) (World.block_lt_of_cell? _ _ h1)
section
variable {P : Program} {md : Region.Mode} {ops : Array Oper} {Q : Exit → Act → World → Prop}
theorem reg_take (i : Nat) (d : Tmp) (v : Value) {oi : Oper} {fuel : Nat} {listed : Array Bool} {a : Act} {w : World} (hi : ops[i]? = some oi) (hd : oi.dst = some d)
    (hs : Region.noSelect ops = true) (hf : Region.free md ops listed i = true) (hr : (Region.ready md ops listed).contains i = true)
    (hQ : ∀ c a w (d : Tmp) v, Q (.panic c) (a.put (some d) v) w → Q (.panic c) a w) (hw : Region.wanted oi (yielded ops a.tmps) = true) (hy : ∀ w, (execOp a.eval oi).run P w = .ok (.value v) w)
    (h : wpAny P md ops Q fuel (listed.setIfInBounds i true) (a.put (some d) v) w) : wpAny P md ops Q (fuel + 1) listed a w := by
  exact wpAny_take hi hs hf hr (fun c a w => by rw [hd]; exact hQ c a w _ _) (Or.inl ⟨hw, hy⟩) (by rw [hd]; exact h)
theorem reg_skip (i : Nat) (d : Tmp) {oi : Oper} {fuel : Nat} {listed : Array Bool} {a : Act} {w : World} (hi : ops[i]? = some oi) (hd : oi.dst = some d)
    (hs : Region.noSelect ops = true) (hf : Region.free md ops listed i = true) (hr : (Region.ready md ops listed).contains i = true)
    (hQ : ∀ c a w (d : Tmp) v, Q (.panic c) (a.put (some d) v) w → Q (.panic c) a w) (hw : Region.wanted oi (yielded ops a.tmps) = false)
    (h : wpAny P md ops Q fuel (listed.setIfInBounds i true) (a.put (some d) undef) w) : wpAny P md ops Q (fuel + 1) listed a w := by
  exact wpAny_take hi hs hf hr (fun c a w => by rw [hd]; exact hQ c a w _ _) (Or.inr ⟨hw, rfl⟩) (by rw [hd]; exact h)
theorem reg_done (a' : Act) {fuel : Nat} {listed : Array Bool} {a : Act} {w : World} (ha : a = a') (hr : Region.ready md ops listed = []) (h : Q .normal a' w) : wpAny P md ops Q fuel listed a w := by
  subst ha
  exact wpAny_done hr h fuel
end
def Src (w : World) (a : Option Addr) (xs : List Value) : Prop :=
  xs = [] ∨ ∃ b o, a = some ⟨b, o, none⟩ ∧ ∀ j, j < xs.length → w.cell? ⟨b, o + j, none⟩ = some (xs.getD j undef)
theorem Src.below {w w' : World} {a : Option Addr} {xs : List Value} (h : Src w a xs) (hb : Below w.heap.size w w') : Src w' a xs := by
  rcases h with h | ⟨b, o, rfl, hc⟩
  · exact .inl h
  · refine .inr ⟨b, o, rfl, fun j hj => ?_⟩
    have h1 := hc j hj
    rw [← h1]
    exact hb.cell (p := ⟨b, o + j, none⟩) (World.block_lt_of_cell? _ _ h1)
theorem getD_some {xs : List Value} {j : Nat} {u : Value} (h : xs[j]? = some u) : xs.getD j undef = u := by rw [List.getD_eq_getElem?_getD, h]; rfl
def cellsS (L : List ByteArray) : List Value := L.map .string
def cellsI (L : List Int) : List Value := L.map (.int .i64)
def cellsQ (L : List (Int × ByteArray)) : List Value := L.flatMap fun p => [.int .i64 p.1, .string p.2]
abbrev e0 : ByteArray := ⟨#[]⟩
abbrev q0 : Int × ByteArray := (0, ⟨#[]⟩)
theorem cellsS_length (L : List ByteArray) : (cellsS L).length = L.length := by simp [cellsS]
theorem cellsI_length (L : List Int) : (cellsI L).length = L.length := by simp [cellsI]
theorem cellsQ_length (L : List (Int × ByteArray)) : (cellsQ L).length = L.length * 2 := by
  induction L with
  | nil => rfl
  | cons p L ih => simp [cellsQ] at ih ⊢; omega
theorem cellsS_append (L M : List ByteArray) : cellsS (L ++ M) = cellsS L ++ cellsS M := by simp [cellsS]
theorem cellsI_append (L M : List Int) : cellsI (L ++ M) = cellsI L ++ cellsI M := by simp [cellsI]
theorem cellsS_get (L : List ByteArray) (i : Nat) (h : i < L.length) : (cellsS L)[i]? = some (.string (L.getD i e0)) := by
  simp [cellsS, h]
theorem cellsI_get (L : List Int) (i : Nat) (h : i < L.length) : (cellsI L)[i]? = some (.int .i64 (L.getD i 0)) := by
  simp [cellsI, h]
theorem cellsQ_get : ∀ (L : List (Int × ByteArray)) (i : Nat), i < L.length → (cellsQ L)[i * 2]? = some (.int .i64 (L.getD i q0).1) ∧ (cellsQ L)[i * 2 + 1]? = some (.string (L.getD i q0).2)
  | [], i, h => absurd h (by simp)
  | p :: L, 0, _ => ⟨rfl, rfl⟩
  | p :: L, i + 1, h => by
    have ih := cellsQ_get L i (by simpa using h)
    have e1 : (i + 1) * 2 = i * 2 + 1 + 1 := by omega
    have e2 : cellsQ (p :: L) = .int .i64 p.1 :: .string p.2 :: cellsQ L := rfl
    rw [e2, e1]
    exact ih
theorem cellsS_one (L : List ByteArray) : ∀ u ∈ cellsS L, u.oneCell' = true := by
  intro u hu
  simp only [cellsS, List.mem_map] at hu
  obtain ⟨x, _, rfl⟩ := hu
  rfl
theorem cellsI_one (L : List Int) : ∀ u ∈ cellsI L, u.oneCell' = true := by
  intro u hu
  simp only [cellsI, List.mem_map] at hu
  obtain ⟨x, _, rfl⟩ := hu
  rfl
theorem srcS {w : World} {a : Option Addr} {L : List ByteArray} (h : Src w a (cellsS L)) {i : Nat} (hi : i < L.length) : ∃ b o x, a = some ⟨b, o, none⟩ ∧ w.cell? ⟨b, o + i, none⟩ = some (.string x) ∧ Hid (L.getD i e0 = x) := by
  rcases h with h | ⟨b, o, rfl, hc⟩
  · rw [← cellsS_length, h] at hi; exact absurd hi (by simp)
  · have := hc i (by rw [cellsS_length]; exact hi)
    rw [getD_some (cellsS_get L i hi)] at this
    exact ⟨b, o, _, rfl, this, rfl⟩
theorem srcI {w : World} {a : Option Addr} {L : List Int} (h : Src w a (cellsI L)) {i : Nat} (hi : i < L.length) : ∃ b o x, a = some ⟨b, o, none⟩ ∧ w.cell? ⟨b, o + i, none⟩ = some (.int .i64 x) ∧ Hid (L.getD i 0 = x) := by
  rcases h with h | ⟨b, o, rfl, hc⟩
  · rw [← cellsI_length, h] at hi; exact absurd hi (by simp)
  · have := hc i (by rw [cellsI_length]; exact hi)
    rw [getD_some (cellsI_get L i hi)] at this
    exact ⟨b, o, _, rfl, this, rfl⟩
theorem srcQ {w : World} {a : Option Addr} {L : List (Int × ByteArray)} (h : Src w a (cellsQ L)) {i : Nat} (hi : i < L.length) : ∃ b o x y, a = some ⟨b, o, none⟩ ∧ w.cell? ⟨b, o + i * 2, none⟩ = some (.int .i64 x) ∧ w.cell? ⟨b, o + i * 2 + 1, none⟩ = some (.string y) ∧ Hid (L.getD i q0 = (x, y)) := by
  rcases h with h | ⟨b, o, rfl, hc⟩
  · have h2 := cellsQ_length L
    rw [h] at h2
    simp only [List.length_nil] at h2
    omega
  · have h1 := hc (i * 2) (by rw [cellsQ_length]; omega)
    have h2 := hc (i * 2 + 1) (by rw [cellsQ_length]; omega)
    rw [getD_some (cellsQ_get L i hi).1] at h1
    rw [getD_some (cellsQ_get L i hi).2] at h2
    exact ⟨b, o, _, _, rfl, h1, h2, rfl⟩
theorem Src.news {w : World} {b o : Nat} {xs : List Value} (h : Src w (some ⟨b, o, none⟩) xs) : ∀ j u, xs[j]? = some u → w.cell? ((⟨b, o, none⟩ : Addr).add j) = some u := fun j u hu => by
  have hj : j < xs.length := (List.getElem?_eq_some_iff.1 hu).1
  rcases h with h | ⟨b', o', e, hc⟩
  · rw [h] at hj; exact absurd hj (by simp)
  · cases e
    have h1 := hc j hj
    rw [getD_some hu] at h1
    unfold Addr.add
    split
    · rename_i h0; subst h0; exact h1
    · exact h1
section
variable {w w' : World} {base : Nat} {e : TypeId} {s : Nat} {v : Value} {n : Nat} {xs : List Value}
theorem own_cell {g cap i : Nat} (h : w.ownsRow base e s (.slice (some ⟨g, 0, none⟩) n cap) n xs) (hi : i < xs.length) : w.cell? ⟨g, i, none⟩ = some (xs.getD i undef) ∧ w.frozen? ⟨g, i, none⟩ = false := by
  obtain ⟨hl, ⟨hv, _⟩ | ⟨g', cap', cur, hv, hb, hg, hc1, hc2, hs, ht⟩⟩ := h
  · cases hv
  · cases hv
    refine ⟨?_, frozen_of_row w g i cur _ hg⟩
    rw [cell_of_row w g i cur _ _ hg, ← Array.getElem?_toList]
    have h1 : (cur.toList.take (n * s))[i]? = some (xs.getD i undef) := by
      rw [ht, List.getD_eq_getElem?_getD, List.getElem?_eq_getElem hi]; rfl
    rw [List.getElem?_take, if_pos (by omega)] at h1
    exact h1
theorem own_cellX {g cap i : Nat} (h : w.ownsRow base e s (.slice (some ⟨g, 0, none⟩) n cap) n xs) (hi : i < xs.length) : ∃ x, w.cell? ⟨g, i, none⟩ = some x ∧ w.frozen? ⟨g, i, none⟩ = false :=
  ⟨_, own_cell h hi⟩
theorem own_src (h : w.ownsRow base e s v n xs) : ∃ a c, v = .slice a n c ∧ Src w a xs ∧ (∀ ad, a = some ad → base ≤ ad.block ∧ ad.block < w.heap.size) := by
  have hlt := h.lt
  rcases h with ⟨hl, ⟨rfl, h0⟩ | ⟨g, cap, cur, rfl, hb, hg, hc1, hc2, hs, ht⟩⟩
  · subst h0
    exact ⟨none, 0, rfl, .inl (by simpa using hl), fun ad e => by cases e⟩
  · refine ⟨some ⟨g, 0, none⟩, cap, rfl, .inr ⟨g, 0, rfl, fun j hj => ?_⟩, fun ad e => by cases e; exact hlt g rfl⟩
    rw [Nat.zero_add]
    exact (own_cell (cap := cap) ⟨hl, .inr ⟨g, cap, cur, rfl, hb, hg, hc1, hc2, hs, ht⟩⟩ hj).1
theorem own_below (h : w.ownsRow base e s v n xs) (hb : Below w.heap.size w w') : w'.ownsRow base e s v n xs := by
  obtain ⟨hl, h0 | ⟨g, cap, cur, rfl, hb0, hg, hc1, hc2, hs, ht⟩⟩ := h
  · exact ⟨hl, .inl h0⟩
  · have hlt : g < w.heap.size := (Array.getElem?_eq_some_iff.1 hg).1
    exact ⟨hl, .inr ⟨g, cap, cur, rfl, hb0, by rw [hb.block g hlt]; exact hg, hc1, hc2, hs, ht⟩⟩
theorem own_mono {base' : Nat} (h : w.ownsRow base e s v n xs) (hb : base' ≤ base) : w.ownsRow base' e s v n xs := by
  obtain ⟨hl, h0 | ⟨g, cap, cur, rfl, hb0, rest⟩⟩ := h
  · exact ⟨hl, .inl h0⟩
  · exact ⟨hl, .inr ⟨g, cap, cur, rfl, Nat.le_trans hb hb0, rest⟩⟩
theorem own_set {g cap : Nat} (h : w.ownsRow base e s (.slice (some ⟨g, 0, none⟩) n cap) n xs) (i : Nat) (hi : i < xs.length) (u : Value) :
    (w.setCell ⟨g, i, none⟩ u).ownsRow base e s (.slice (some ⟨g, 0, none⟩) n cap) n (xs.set i u) := by
  obtain ⟨hl, ⟨hv, _⟩ | ⟨g', cap', cur, hv, hb, hg, hc1, hc2, hs, ht⟩⟩ := h
  · cases hv
  · cases hv
    refine ⟨by rw [List.length_set]; exact hl, .inr ⟨g, cap, cur.setIfInBounds i u, rfl, hb, ?_, hc1, hc2, by simpa using hs, ?_⟩⟩
    · simp [World.setCell, Array.getElem?_modify, hg]
    · rw [Array.toList_setIfInBounds, List.take_set, ht]
theorem own_congr {ys : List Value} (h : w.ownsRow base e s v n xs) (hx : xs = ys) : w.ownsRow base e s v n ys := hx ▸ h
theorem own_setOther {a : Addr} (h : w.ownsRow base e s v n xs) (hne : v.ownBlock ≠ some a.block) (u : Value) : (w.setCell a u).ownsRow base e s v n xs := by
  obtain ⟨hl, h0 | ⟨g, cap, cur, rfl, hb0, hg, rest⟩⟩ := h
  · exact ⟨hl, .inl h0⟩
  · refine ⟨hl, .inr ⟨g, cap, cur, rfl, hb0, ?_, rest⟩⟩
    rw [Below.heap_setCell _ _ _ _ (by intro e2; exact hne (by rw [← e2]; rfl))]; exact hg
end
theorem own_ne {w : World} {b1 b2 : Nat} {e1 e2 : TypeId} {s1 s2 n1 n2 : Nat} {v1 v2 : Value} {x1 x2 : List Value} (h1 : w.ownsRow b1 e1 s1 v1 n1 x1) (h2 : w.ownsRow b2 e2 s2 v2 n2 x2) (hne : e1 ≠ e2) : ∀ g, v1.ownBlock = some g → v2.ownBlock ≠ some g := fun g hg hg2 => by
  obtain ⟨c1, f1, k1⟩ := Lib.ownsRow_kind h1 g hg
  obtain ⟨c2, f2, k2⟩ := Lib.ownsRow_kind h2 g hg2
  rw [k1] at k2
  simp at k2
  exact hne k2.2.1
theorem rows_made (w : World) (z : Array Value) (n s : Nat) (e : TypeId) (hz : z.size = s) (hs : 0 < s) (hn : n ≤ maxLen) :
    ∃ xs, xs.length = n * s ∧ (w.alloc (.cells (madeCells z (n * s)) e)).ownsRow w.heap.size e s (.slice (some ⟨w.heap.size, 0, none⟩) n n) n xs :=
  ⟨(madeCells z (n * s)).toList, by simp [size_madeCells], by simp [size_madeCells], .inr ⟨w.heap.size, n, _, rfl, Nat.le_refl _, heap_alloc_new _ _, Nat.le_refl _, hn, by simp [size_madeCells], by
    rw [List.take_of_length_le]; simp [size_madeCells]⟩⟩
theorem fill_set (xs zs : List Value) (k : Nat) (u : Value) (hk : k < zs.length) (hu : xs[k]? = some u) : (xs.take k ++ zs.drop k).set k u = xs.take (k + 1) ++ zs.drop (k + 1) := by
  have hx : k < xs.length := (List.getElem?_eq_some_iff.1 hu).1
  rw [List.set_append_right _ _ (by simp; omega)]
  have e1 : k - (xs.take k).length = 0 := by simp; omega
  rw [e1, List.drop_eq_getElem_cons hk, List.set_cons_zero, List.take_add_one, hu]
  simp
theorem fill_length (xs zs : List Value) (k : Nat) (h : zs.length = xs.length) : (xs.take k ++ zs.drop k).length = xs.length := by simp; omega
structure Turned (lo hi : Nat) (w w' : World) : Prop where
  os : w'.os = w.os
  tape : w'.tape = w.tape
  output : w'.output = w.output
  size : w.heap.size ≤ w'.heap.size
  block : ∀ k, k < w.heap.size → (k < lo ∨ hi ≤ k) → w'.heap[k]? = w.heap[k]?
theorem Turned.trans {lo hi : Nat} {a b c : World} (h : Turned lo hi a b) (k : Turned lo hi b c) : Turned lo hi a c :=
  ⟨k.os.trans h.os, k.tape.trans h.tape, k.output.trans h.output, Nat.le_trans h.size k.size, fun i hi hr => (k.block i (Nat.lt_of_lt_of_le hi h.size) hr).trans (h.block i hi hr)⟩
theorem Turned.of_below {lo hi : Nat} {w w' : World} (h : Below w.heap.size w w') : Turned lo hi w w' := ⟨h.os, h.tape, h.output, h.size, fun k hk _ => h.block k hk⟩
theorem Turned.of_grown {lo hi : Nat} {w w' : World} {row : Option Nat} (h : w.grownBy w' row) (hr : ∀ k, row = some k → lo ≤ k ∧ k < hi) : Turned lo hi w w' :=
  ⟨h.os, h.tape, h.output, h.size, fun k hk ho => h.block k hk (fun e => by have := hr k e.symm; omega)⟩
theorem Below.turned {B lo hi : Nat} {a w w' : World} (h : Below B a w) (ht : Turned lo hi w w') (hB : B ≤ a.heap.size) (hl : B ≤ lo) : Below B a w' :=
  h.trans ⟨ht.os, ht.tape, ht.output, ht.size, fun k hk => ht.block k (by have := h.size; omega) (.inl (by omega))⟩
theorem own_turned {w w' : World} {base e s n lo hi top : Nat} {v : Value} {xs : List Value} (h : w.ownsRow base e s v n xs) (ht : Turned lo hi w w') (htop : ∀ k, v.ownBlock = some k → k < top) (hd : top ≤ lo ∨ hi ≤ base) : w'.ownsRow base e s v n xs := by
  obtain ⟨hl, h0 | ⟨g, cap, cur, rfl, hb0, hg, rest⟩⟩ := h
  · exact ⟨hl, .inl h0⟩
  · have hlt : g < w.heap.size := (Array.getElem?_eq_some_iff.1 hg).1
    have h1 := htop g rfl
    exact ⟨hl, .inr ⟨g, cap, cur, rfl, hb0, by rw [ht.block g hlt (by omega)]; exact hg, rest⟩⟩
theorem own_grown {w w' : World} {base e s n : Nat} {v : Value} {xs : List Value} {row : Option Nat} (h : w.ownsRow base e s v n xs) (hg : w.grownBy w' row) (hne : ∀ k, v.ownBlock = some k → row ≠ some k) : w'.ownsRow base e s v n xs := by
  refine h.kept hg ?_
  cases hv : v.ownBlock with
  | none => exact .inl rfl
  | some k => exact .inr (fun e2 => hne k hv e2.symm)
theorem gb_refl (w : World) (row : Option Nat) : w.grownBy w row := ⟨rfl, rfl, rfl, Nat.le_refl _, fun _ _ _ => rfl⟩
theorem gb_below {w a b : World} {row : Option Nat} (h : w.grownBy a row) (hb : Below a.heap.size a b) : w.grownBy b row :=
  ⟨hb.os.trans h.os, hb.tape.trans h.tape, hb.output.trans h.output, Nat.le_trans h.size hb.size, fun k hk hr => (hb.block k (Nat.lt_of_lt_of_le hk h.size)).trans (h.block k hk hr)⟩
theorem gb_set {w a : World} {B : Nat} (h : w.grownBy a (some B)) (i : Nat) (v : Value) : w.grownBy (a.setCell ⟨B, i, none⟩ v) (some B) :=
  ⟨h.os, h.tape, h.output, by simp; exact h.size, fun k hk hr => (Below.heap_setCell _ _ _ _ (by intro e; exact hr (by rw [e]))).trans (h.block k hk hr)⟩
theorem Below.drewN' {B : Nat} {a w : World} (h : Below B a w) (n : Nat) : Below B a (w.drewN n) := ⟨h.os, h.tape, h.output, h.size, h.block⟩
theorem le_alloc {B : Nat} {w : World} (h : B ≤ w.heap.size) (o : Obj) : B ≤ (w.alloc o).heap.size := by
  rw [World.size_alloc]; omega
def d10 (j : Nat) : ByteArray := strOfNums [48 + (j : Int) % 10]
theorem d10_size (j : Nat) : (d10 j).size = 1 := rfl
def mtF : Nat → Nat → ByteArray → ByteArray
  | 0, _, out => out
  | fuel + 1, k, out => if k = 0 then out else mtF fuel (k / 10) (d10 k ++ out)
def markT (k : Nat) : ByteArray := (⟨#[109]⟩ : ByteArray) ++ mtF (k + 1) k ⟨#[]⟩
theorem mtF_step (fuel k : Nat) (out : ByteArray) (h : 0 < k) : mtF (fuel + 1) k out = mtF fuel (k / 10) (d10 k ++ out) := by
  show (if k = 0 then out else _) = _
  rw [if_neg (by omega)]
theorem mtF_zero (fuel : Nat) (out : ByteArray) : mtF fuel 0 out = out := by
  cases fuel <;> rfl
theorem conv_digit (wr : World) (j : Nat) : (convert 74 9 (.slice (some ⟨wr.heap.size, 0, none⟩) 1 1)).run Tryz.prog (wr.alloc (.cells #[.int .u8 (48 + (j : Int) % 10)] 5)) = .ok (.string (d10 j)) (wr.alloc (.cells #[.int .u8 (48 + (j : Int) % 10)] 5)) :=
  run_convert_bytes_arg (P := Tryz.prog) _ 74 5 Tryz.underlying74 Tryz.underlying5 wr.heap.size 0 1 1 [48 + (j : Int) % 10] rfl (fun i hi => by
    have hi0 : i = 0 := by omega
    subst hi0
    rw [World.cell?_alloc_at _ _ _ _ rfl]; rfl) 9 Tryz.underlying9
set_option maxHeartbeats 400000 in
theorem markText (k : Nat) (w : World) (h0 : 0 < k) (h1 : k ≤ 100000000) : Calls Tryz.prog 67 #[.int .i64 (k : Int)] w fun e w' => e = .returned (.string (markT k)) ∧ Below w.heap.size w w' := by
  go_enter Tryz.func67, Tryz.ntmps67
  go_wp2_with fail
  go_loopw [0, 3] (fun kk o wr => ∃ (j fu : Nat) (out : ByteArray), kk = .int .i64 (j : Int) ∧ o = .string out ∧ j ≤ k ∧ out.size + j ≤ k ∧ j < fu ∧ Hid (mtF fu j out = mtF (k + 1) k ⟨#[]⟩) ∧ Hid (Below w.heap.size w wr)) (fun kk _ _ => (intOf kk).toNat)
  case atStart => exact ⟨k, k + 1, ⟨#[]⟩, rfl, rfl, by omega, by show 0 + k ≤ k; omega, by omega, rfl, Below.refl _ _⟩
  case round =>
    obtain ⟨j, fu, out, rfl, rfl, hj, hsz, hfu, hm, hb⟩ := hrel
    by_cases hlt : 0 < j
    · have hj0 : (0 : Int) < (j : Int) := by omega
      have hcv := conv_digit wr j
      obtain ⟨fu', rfl⟩ : ∃ fu', fu = fu' + 1 := ⟨fu - 1, by omega⟩
      have hm' : Hid (mtF fu' (j / 10) (d10 j ++ out) = mtF (k + 1) k ⟨#[]⟩) := by
        have h2 := hm.out
        rw [mtF_step _ _ _ hlt] at h2
        exact h2
      have hs2 : (d10 j ++ out).size = 1 + out.size := by rw [ByteArray.size_append, d10_size]
      have HS2 : Hid ((d10 j ++ out).size = 1 + out.size) := hs2
      have hd := d10_size j
      clear hm hs2
      go_wp2_with fail
      refine ⟨⟨j / 10, fu', d10 j ++ out, by go_num, rfl, by omega, by rw [HS2.out]; omega, by omega, hm', (hb.out.alloc hb.out.size _)⟩, by simp [intOf]; omega⟩
    · have hj0 : j = 0 := by omega
      have hfin : Hid (out = mtF (k + 1) k ⟨#[]⟩) := by
        have h2 := hm.out
        rw [hj0, mtF_zero] at h2
        exact h2
      clear hj0 hm
      go_wp2_with fail
      go_ret
      exact ⟨by show Ending.returned (.string ((⟨#[109]⟩ : ByteArray) ++ out)) = _; rw [hfin.out]; rfl, hb.out⟩
theorem run_make_rows {P : Program} (t e : TypeId) (z : Value) (s bytes n : Nat) (ht : P.underlying t = some (.slice e)) (hinfo : (P.info? e).map (fun i => (i.zero, i.size, i.bytes)) = some (some z, s, bytes)) (hb : bytes ≤ 64) (hn : n ≤ 1048576) (w : World) :
    (Instr.makeSlice t (.int .i64 (n : Int)) (.int .i64 (n : Int))).run P w = .ok (.slice (some ⟨w.heap.size, 0, none⟩) n n) (w.alloc (.cells (madeCells z.cells (n * s)) e)) := by
  obtain ⟨i, hi, hzz⟩ := Option.map_eq_some_iff.1 hinfo
  simp only [Prod.mk.injEq] at hzz
  obtain ⟨hz, hs, hby⟩ := hzz
  have hm : bytes * n ≤ 64 * 1048576 := Nat.mul_le_mul hb hn
  have hm' : (i.bytes : Int) * (n : Int) ≤ 281474976710656 := by
    rw [hby]
    have h : ((bytes * n : Nat) : Int) ≤ 281474976710656 := by omega
    rwa [Int.natCast_mul] at h
  have hr := run_make (P := P) w t e i z ht hi hz .i64 .i64 n n (by omega) (Int.le_refl _) hm' (by omega)
  simp only [Int.toNat_natCast, hs] at hr
  exact hr
theorem fill_all {xs zs : List Value} {k : Nat} (hx : xs.length = k) (hz : zs.length = k) : xs.take k ++ zs.drop k = xs := by
  rw [List.take_of_length_le (by omega), List.drop_of_length_le (by omega), List.append_nil]
theorem infoS : (Tryz.prog.info? 9).map (fun i => (i.zero, i.size, i.bytes)) = some (some (.string ⟨#[]⟩), 1, 16) := by kernel_rfl
theorem infoI : (Tryz.prog.info? 3).map (fun i => (i.zero, i.size, i.bytes)) = some (some (.int .i64 0), 1, 8) := by kernel_rfl
theorem run_make_S (n : Nat) (hn : n ≤ 1048576) (w : World) : (Instr.makeSlice 22 (.int .i64 (n : Int)) (.int .i64 (n : Int))).run Tryz.prog w = .ok (.slice (some ⟨w.heap.size, 0, none⟩) n n) (w.alloc (.cells (madeCells #[.string ⟨#[]⟩] (n * 1)) 9)) :=
  run_make_rows 22 9 (.string ⟨#[]⟩) 1 16 n Tryz.underlying22 infoS (by omega) hn w
theorem run_make_I (n : Nat) (hn : n ≤ 1048576) (w : World) : (Instr.makeSlice 24 (.int .i64 (n : Int)) (.int .i64 (n : Int))).run Tryz.prog w = .ok (.slice (some ⟨w.heap.size, 0, none⟩) n n) (w.alloc (.cells (madeCells #[.int .i64 0] (n * 1)) 3)) :=
  run_make_rows 24 3 (.int .i64 0) 1 8 n Tryz.underlying24 infoI (by omega) hn w
set_option maxHeartbeats 400000 in
theorem toStringS (a : Option Addr) (n c : Nat) (L : List ByteArray) (w : World) (hL : L.length = n) (hn : n ≤ 1048576) (h : Src w a (cellsS L)) :
    Calls Tryz.prog 48 #[.slice a n c] w fun e w' => ∃ v, e = .returned v ∧ w'.ownsRow w.heap.size 9 1 v n (cellsS L) ∧ Below w.heap.size w w' := by
  have hmk := run_make_S n hn
  have HH : Hid (Src w a (cellsS L)) := h
  have HL : Hid ((cellsS L).length = n) := by show (cellsS L).length = n; rw [cellsS_length]; exact hL
  have HL2 : Hid (L.length = n) := hL
  clear h hL
  go_enter Tryz.func48, Tryz.ntmps48
  go_wp2_with fail
  clear hmk
  obtain ⟨zs, hz, ho⟩ := rows_made w #[.string ⟨#[]⟩] n 1 9 rfl (by omega) (by unfold maxLen; omega)
  have HZ : Hid (zs.length = n) := by show zs.length = n; omega
  have HO : Hid (World.ownsRow (w.alloc (.cells (madeCells #[.string ⟨#[]⟩] n) 9)) w.heap.size 9 1 (.slice (some ⟨w.heap.size, 0, none⟩) n n) n zs) := by
    rw [Nat.mul_one] at ho; exact ho
  clear hz ho
  go_loopw [4] (fun i wr => ∃ k : Nat, k ≤ n ∧ i = .int .i64 k ∧ Hid (Below w.heap.size w wr) ∧ Hid (wr.ownsRow w.heap.size 9 1 (.slice (some ⟨w.heap.size, 0, none⟩) n n) n ((cellsS L).take k ++ zs.drop k))) (fun i _ => n - (intOf i).toNat)
  case atStart => exact ⟨0, by omega, rfl, (Below.refl _ _).alloc (Nat.le_refl _) _, HO.out⟩
  case round =>
    obtain ⟨k, hk, rfl, hb, ho⟩ := hrel
    by_cases hlt : k < n
    · have hkL : k < L.length := by rw [HL2.out]; exact hlt
      obtain ⟨b, o, y, rfl, hc, hy⟩ := srcS (HH.out.below hb.out) hkL
      obtain ⟨z, o1, o2⟩ := own_cellX ho.out (i := k) (by rw [fill_length _ _ _ (HZ.out.trans HL.out.symm), HL.out]; exact hlt)
      have HK : Hid (k < L.length) := hkL
      clear hkL
      go_wp2_with fail
      exact ⟨⟨k + 1, by omega, by go_num, hb.out.setCell (Nat.le_refl _) _, own_congr (own_set ho.out k (by rw [fill_length _ _ _ (HZ.out.trans HL.out.symm), HL.out]; exact hlt) _) (fill_set _ _ k _ (by rw [HZ.out]; exact hlt) (by rw [cellsS_get L k HK.out, hy.out]))⟩, by simp [intOf]; omega⟩
    · have hkn : k = n := by omega
      have HF : Hid (wr.ownsRow w.heap.size 9 1 (.slice (some ⟨w.heap.size, 0, none⟩) n n) n (cellsS L)) := own_congr ho.out (by rw [hkn]; exact fill_all HL.out HZ.out)
      clear hkn
      go_wp2_with fail
      go_ret
      exact ⟨_, rfl, HF.out, hb.out⟩
set_option maxHeartbeats 400000 in
theorem toIntS (a : Option Addr) (n c : Nat) (L : List Int) (w : World) (hL : L.length = n) (hn : n ≤ 1048576) (h : Src w a (cellsI L)) :
    Calls Tryz.prog 50 #[.slice a n c] w fun e w' => ∃ v, e = .returned v ∧ w'.ownsRow w.heap.size 3 1 v n (cellsI L) ∧ Below w.heap.size w w' := by
  have hmk := run_make_I n hn
  have HH : Hid (Src w a (cellsI L)) := h
  have HL : Hid ((cellsI L).length = n) := by show (cellsI L).length = n; rw [cellsI_length]; exact hL
  have HL2 : Hid (L.length = n) := hL
  clear h hL
  go_enter Tryz.func50, Tryz.ntmps50
  go_wp2_with fail
  clear hmk
  obtain ⟨zs, hz, ho⟩ := rows_made w #[.int .i64 0] n 1 3 rfl (by omega) (by unfold maxLen; omega)
  have HZ : Hid (zs.length = n) := by show zs.length = n; omega
  have HO : Hid (World.ownsRow (w.alloc (.cells (madeCells #[.int .i64 0] n) 3)) w.heap.size 3 1 (.slice (some ⟨w.heap.size, 0, none⟩) n n) n zs) := by
    rw [Nat.mul_one] at ho; exact ho
  clear hz ho
  go_loopw [4] (fun i wr => ∃ k : Nat, k ≤ n ∧ i = .int .i64 k ∧ Hid (Below w.heap.size w wr) ∧ Hid (wr.ownsRow w.heap.size 3 1 (.slice (some ⟨w.heap.size, 0, none⟩) n n) n ((cellsI L).take k ++ zs.drop k))) (fun i _ => n - (intOf i).toNat)
  case atStart => exact ⟨0, by omega, rfl, (Below.refl _ _).alloc (Nat.le_refl _) _, HO.out⟩
  case round =>
    obtain ⟨k, hk, rfl, hb, ho⟩ := hrel
    by_cases hlt : k < n
    · have hkL : k < L.length := by rw [HL2.out]; exact hlt
      obtain ⟨b, o, y, rfl, hc, hy⟩ := srcI (HH.out.below hb.out) hkL
      obtain ⟨z, o1, o2⟩ := own_cellX ho.out (i := k) (by rw [fill_length _ _ _ (HZ.out.trans HL.out.symm), HL.out]; exact hlt)
      have HK : Hid (k < L.length) := hkL
      clear hkL
      go_wp2_with fail
      exact ⟨⟨k + 1, by omega, by go_num, hb.out.setCell (Nat.le_refl _) _, own_congr (own_set ho.out k (by rw [fill_length _ _ _ (HZ.out.trans HL.out.symm), HL.out]; exact hlt) _) (fill_set _ _ k _ (by rw [HZ.out]; exact hlt) (by rw [cellsI_get L k HK.out, hy.out]))⟩, by simp [intOf]; omega⟩
    · have hkn : k = n := by omega
      have HF : Hid (wr.ownsRow w.heap.size 3 1 (.slice (some ⟨w.heap.size, 0, none⟩) n n) n (cellsI L)) := own_congr ho.out (by rw [hkn]; exact fill_all HL.out HZ.out)
      clear hkn
      go_wp2_with fail
      go_ret
      exact ⟨_, rfl, HF.out, hb.out⟩
set_option maxHeartbeats 400000 in
theorem szStringS (a : Option Addr) (n c : Nat) (L : List ByteArray) (l : Int) (w : World) (hL : L.length = n) (hn : n ≤ maxLen) (hs : ∀ x ∈ L, x.size ≤ maxLen) (h0 : 0 ≤ l) (h1 : l ≤ 1048576) (h : Src w a (cellsS L)) :
    Calls Tryz.prog 43 #[.slice a n c, .int .i64 l] w fun e w' => ∃ r : Int, e = .returned (.int .i64 r) ∧ r ≤ l ∧ (0 ≤ r → r + n ≤ l ∧ n ≤ 1048576 ∧ ∀ x ∈ L, x.size ≤ 1048576) ∧ Below w.heap.size w w' := by
  unfold maxLen at hn
  by_cases hbig : l < n
  · clear h hs hL
    go_enter Tryz.func43, Tryz.ntmps43
    go_wp2_with fail
    go_ret
    exact ⟨-1, rfl, by omega, fun h => absurd h (by omega), Below.refl _ _⟩
  have HS : Hid (∀ i, i < n → (L.getD i e0).size ≤ maxLen) := fun i hi => hs _ (by
    rw [List.getD_eq_getElem?_getD, List.getElem?_eq_getElem (by omega)]; exact List.getElem_mem _)
  have HH : Hid (Src w a (cellsS L)) := h
  have HL : Hid (L.length = n) := hL
  clear hs h hL
  go_enter Tryz.func43, Tryz.ntmps43
  go_wp2_with fail
  go_loopw [1, 5] (fun v i wr => ∃ (k : Nat) (x : Int), k ≤ n ∧ i = .int .i64 k ∧ v = .int .i64 x ∧ 0 ≤ x ∧ x + n ≤ l ∧ Hid (∀ i, i < k → (L.getD i e0).size ≤ 1048576) ∧ Hid (Below w.heap.size w wr)) (fun _ i _ => n - (intOf i).toNat)
  case atStart => exact ⟨0, _, by omega, rfl, rfl, by omega, by omega, fun i hi => absurd hi (by omega), Below.refl _ _⟩
  case round =>
    obtain ⟨k, x, hk, rfl, rfl, hx0, hx1, hall, hb⟩ := hrel
    by_cases hlt : k < n
    · obtain ⟨b, o, y, rfl, hc, hy⟩ := srcS (HH.out.below hb.out) (i := k) (by rw [HL.out]; exact hlt)
      have hsz := HS.out k hlt
      rw [hy.out] at hsz
      unfold maxLen at hsz
      by_cases hneg : x < (y.size : Int)
      · go_wp2_with fail
        go_ret
        exact ⟨-1, rfl, by omega, fun h => absurd h (by omega), hb.out⟩
      · have hall2 : Hid (∀ i, i < k + 1 → (L.getD i e0).size ≤ 1048576) := fun i hi => by
          by_cases e : i = k
          · rw [e, hy.out]; omega
          · exact hall.out i (by omega)
        go_wp2_with fail
        exact ⟨⟨k + 1, _, by omega, by go_num, rfl, by omega, by omega, hall2, hb.out⟩, by simp [intOf]; omega⟩
    · have hkn : k = n := by omega
      have hall' : Hid (∀ x ∈ L, x.size ≤ 1048576) := fun y hy => by
        obtain ⟨i, hi, rfl⟩ := List.getElem_of_mem hy
        have := hall.out i (by rw [hkn, ← HL.out]; exact hi)
        rw [List.getD_eq_getElem?_getD, List.getElem?_eq_getElem hi] at this
        exact this
      clear hkn
      go_wp2_with fail
      go_ret
      exact ⟨x, rfl, by omega, fun _ => ⟨hx1, by omega, hall'.out⟩, hb.out⟩
set_option maxHeartbeats 400000 in
theorem szIntS (a : Option Addr) (n c : Nat) (l : Int) (w : World) (hn : n ≤ maxLen) (h0 : 0 ≤ l) (h1 : l ≤ 1048576) :
    Calls Tryz.prog 45 #[.slice a n c, .int .i64 l] w fun e w' => ∃ r : Int, e = .returned (.int .i64 r) ∧ r ≤ l ∧ (0 ≤ r → r + n ≤ l ∧ n ≤ 1048576) ∧ Below w.heap.size w w' := by
  unfold maxLen at hn
  by_cases hbig : l < n
  · go_enter Tryz.func45, Tryz.ntmps45
    go_wp2_with fail
    go_ret
    exact ⟨-1, rfl, by omega, fun h => absurd h (by omega), Below.refl _ _⟩
  · go_enter Tryz.func45, Tryz.ntmps45
    go_wp2_with fail
    go_ret
    exact ⟨_, rfl, by omega, fun h => ⟨by omega, by omega⟩, Below.refl _ _⟩
set_option maxHeartbeats 400000 in
theorem eqStringS (a b : Option Addr) (n c d : Nat) (L : List ByteArray) (w : World) (hL : L.length = n) (hn : n ≤ 9000000000000000000) (ha : Src w a (cellsS L)) (hb : Src w b (cellsS L)) :
    Calls Tryz.prog 53 #[.slice a n c, .slice b n d] w fun e w' => e = .returned (.bool true) ∧ Below w.heap.size w w' := by
  have hne : ((n : Int) != (n : Int)) = false := by simp
  have HA : Hid (Src w a (cellsS L)) := ha
  have HB : Hid (Src w b (cellsS L)) := hb
  have HL : Hid (L.length = n) := hL
  clear ha hb hL
  go_enter Tryz.func53, Tryz.ntmps53
  go_wp2_with fail
  go_loopw [5] (fun i wr => ∃ k : Nat, k ≤ n ∧ i = .int .i64 k ∧ Hid (Below w.heap.size w wr)) (fun i _ => n - (intOf i).toNat)
  case atStart => exact ⟨0, by omega, rfl, Below.refl _ _⟩
  case round =>
    obtain ⟨k, hk, rfl, hB⟩ := hrel
    by_cases hlt : k < n
    · obtain ⟨b1, o1, y, rfl, p1, hy1⟩ := srcS (HA.out.below hB.out) (i := k) (by rw [HL.out]; exact hlt)
      obtain ⟨b2, o2, y2, rfl, p2, hy2⟩ := srcS (HB.out.below hB.out) (i := k) (by rw [HL.out]; exact hlt)
      obtain rfl : y = y2 := hy1.out.symm.trans hy2.out
      have hk0 : (0 : Int) ≤ (k : Int) := by omega
      have hki : (k : Int) < (n : Int) := by omega
      go_wp2_with fail
      go_quiet (fail)
      go_wp2_with fail
      exact ⟨⟨k + 1, by omega, by go_num, Below.drewN' hB.out _⟩, by simp [intOf]; omega⟩
    · go_wp2_with fail
      go_ret
      exact ⟨rfl, hB.out⟩
set_option maxHeartbeats 400000 in
theorem eqIntS (a b : Option Addr) (n c d : Nat) (L : List Int) (w : World) (hL : L.length = n) (hn : n ≤ 9000000000000000000) (ha : Src w a (cellsI L)) (hb : Src w b (cellsI L)) :
    Calls Tryz.prog 55 #[.slice a n c, .slice b n d] w fun e w' => e = .returned (.bool true) ∧ Below w.heap.size w w' := by
  have hne : ((n : Int) != (n : Int)) = false := by simp
  have HA : Hid (Src w a (cellsI L)) := ha
  have HB : Hid (Src w b (cellsI L)) := hb
  have HL : Hid (L.length = n) := hL
  clear ha hb hL
  go_enter Tryz.func55, Tryz.ntmps55
  go_wp2_with fail
  go_loopw [5] (fun i wr => ∃ k : Nat, k ≤ n ∧ i = .int .i64 k ∧ Hid (Below w.heap.size w wr)) (fun i _ => n - (intOf i).toNat)
  case atStart => exact ⟨0, by omega, rfl, Below.refl _ _⟩
  case round =>
    obtain ⟨k, hk, rfl, hB⟩ := hrel
    by_cases hlt : k < n
    · obtain ⟨b1, o1, y, rfl, p1, hy1⟩ := srcI (HA.out.below hB.out) (i := k) (by rw [HL.out]; exact hlt)
      obtain ⟨b2, o2, y2, rfl, p2, hy2⟩ := srcI (HB.out.below hB.out) (i := k) (by rw [HL.out]; exact hlt)
      obtain rfl : y = y2 := hy1.out.symm.trans hy2.out
      have hk0 : (0 : Int) ≤ (k : Int) := by omega
      have hki : (k : Int) < (n : Int) := by omega
      have hne2 : (y != y) = false := by simp
      go_wp2_with fail
      go_quiet (fail)
      go_wp2_with fail
      exact ⟨⟨k + 1, by omega, by go_num, Below.drewN' hB.out _⟩, by simp [intOf]; omega⟩
    · go_wp2_with fail
      go_ret
      exact ⟨rfl, hB.out⟩
def mkS (k n : Nat) : List ByteArray := (List.range n).map fun i => markT (k + i)
def mkI (k n : Nat) : List Int := (List.range n).map fun i => ((k + i : Nat) : Int)
theorem mkS_length (k n : Nat) : (mkS k n).length = n := by simp [mkS]
theorem mkI_length (k n : Nat) : (mkI k n).length = n := by simp [mkI]
theorem mkS_get (k n i : Nat) (h : i < n) : (mkS k n).getD i e0 = markT (k + i) := by
  rw [List.getD_eq_getElem?_getD]; simp [mkS, h]
theorem mkI_get (k n i : Nat) (h : i < n) : (mkI k n).getD i 0 = ((k + i : Nat) : Int) := by
  rw [List.getD_eq_getElem?_getD]; simp [mkI, h]
set_option maxHeartbeats 600000 in
theorem markStringS (v : Value) (n k base : Nat) (xs : List Value) (w : World) (hn : n ≤ 1048576) (hk0 : 0 < k) (hk1 : k ≤ 8388608) (ho : w.ownsRow base 9 1 v n xs) :
    Calls Tryz.prog 56 #[v, .int .i64 (k : Int)] w fun e w' => e = .returned (.int .i64 ((k + n : Nat) : Int)) ∧ w.grownBy w' v.ownBlock ∧ w'.ownsRow base 9 1 v n (cellsS (mkS k n)) := by
  have hlen := ho.1
  have hcase := ho.2
  rcases hcase with ⟨rfl, h0⟩ | ⟨B, cap, cur, rfl, _⟩
  · subst h0
    clear ho hlen
    go_enter Tryz.func56, Tryz.ntmps56
    go_wp2_with fail
    go_loop [1, 5] (fun kk i => i = .int .i64 0 ∧ kk = .int .i64 (k : Int)) (fun _ _ => 0)
    case atStart => exact ⟨rfl, rfl⟩
    case round =>
      obtain ⟨rfl, rfl⟩ := hrel
      go_wp2_with fail
      go_ret
      exact ⟨rfl, gb_refl _ _, World.ownsRow_nil _ _ _ _⟩
  have HO : Hid (w.ownsRow base 9 1 (.slice (some ⟨B, 0, none⟩) n cap) n xs) := ho
  have HN : Hid (xs.length = n) := by show xs.length = n; omega
  have HM : Hid ((cellsS (mkS k n)).length = n) := by show (cellsS (mkS k n)).length = n; rw [cellsS_length, mkS_length]
  clear ho hlen
  go_enter Tryz.func56, Tryz.ntmps56
  go_wp2_with fail
  go_loopw [1, 5] (fun kk i wr => ∃ j x : Nat, j ≤ n ∧ i = .int .i64 (j : Int) ∧ kk = .int .i64 (x : Int) ∧ x ≤ 16777216 ∧ 0 < x ∧ Hid (x = k + j) ∧ Hid (w.grownBy wr (some B)) ∧ Hid (wr.ownsRow base 9 1 (.slice (some ⟨B, 0, none⟩) n cap) n ((cellsS (mkS k n)).take j ++ xs.drop j))) (fun _ i _ => n - (intOf i).toNat)
  case atStart => exact ⟨0, k, by omega, rfl, rfl, by omega, by omega, by show k = k + 0; omega, gb_refl _ _, HO.out⟩
  case round =>
    obtain ⟨j, x, hj, rfl, rfl, hx1, hx0, hx, hg, hO⟩ := hrel
    by_cases hlt : j < n
    · have hjn : (j : Int) < (n : Int) := by omega
      have hxb : Hid (x + 1 ≤ 16777216) := by show x + 1 ≤ 16777216; have := hx.out; omega
      go_wp2_with fail
      refine (markText x _ hx0 (by omega)).mono ?_
      rintro e w1 ⟨rfl, hb1⟩
      have O1 : Hid (w1.ownsRow base 9 1 (.slice (some ⟨B, 0, none⟩) n cap) n ((cellsS (mkS k n)).take j ++ xs.drop j)) := own_below hO.out hb1
      have G1 : Hid (w.grownBy w1 (some B)) := gb_below hg.out hb1
      clear hO hg hb1
      have hjl : Hid (j < ((cellsS (mkS k n)).take j ++ xs.drop j).length) := by
        show j < _; rw [fill_length _ _ _ (HN.out.trans HM.out.symm), HM.out]; exact hlt
      obtain ⟨z, o1, o2⟩ := own_cellX O1.out hjl.out
      go_wp2_with fail
      refine ⟨⟨j + 1, x + 1, by omega, by go_num, by go_num, hxb.out, by omega, by show x + 1 = k + (j + 1); have := hx.out; omega, gb_set G1.out _ _, ?_⟩, by simp [intOf]; omega⟩
      refine own_congr (own_set O1.out j hjl.out _) (fill_set _ _ j _ (by rw [HN.out]; exact hlt) ?_)
      rw [cellsS_get _ _ (by rw [mkS_length]; exact hlt), mkS_get _ _ _ hlt, hx.out]
    · have hjn : j = n := by omega
      have E : Hid ((x : Int) = ((k + n : Nat) : Int)) := by show (x : Int) = ((k + n : Nat) : Int); rw [hx.out, hjn]
      have O1 : Hid (wr.ownsRow base 9 1 (.slice (some ⟨B, 0, none⟩) n cap) n (cellsS (mkS k n))) := own_congr hO.out (by rw [hjn]; exact fill_all HM.out HN.out)
      clear hjn hO
      go_wp2_with fail
      go_ret
      exact ⟨by show Ending.returned (.int .i64 (x : Int)) = _; rw [E.out], hg.out, O1.out⟩
set_option maxHeartbeats 600000 in
theorem markIntS (v : Value) (n k base : Nat) (xs : List Value) (w : World) (hn : n ≤ 1048576) (hk0 : 0 < k) (hk1 : k ≤ 8388608) (ho : w.ownsRow base 3 1 v n xs) :
    Calls Tryz.prog 58 #[v, .int .i64 (k : Int)] w fun e w' => e = .returned (.int .i64 ((k + n : Nat) : Int)) ∧ w.grownBy w' v.ownBlock ∧ w'.ownsRow base 3 1 v n (cellsI (mkI k n)) := by
  have hlen := ho.1
  have hcase := ho.2
  rcases hcase with ⟨rfl, h0⟩ | ⟨B, cap, cur, rfl, _⟩
  · subst h0
    clear ho hlen
    go_enter Tryz.func58, Tryz.ntmps58
    go_wp2_with fail
    go_loop [1, 5] (fun kk i => i = .int .i64 0 ∧ kk = .int .i64 (k : Int)) (fun _ _ => 0)
    case atStart => exact ⟨rfl, rfl⟩
    case round =>
      obtain ⟨rfl, rfl⟩ := hrel
      go_wp2_with fail
      go_ret
      exact ⟨rfl, gb_refl _ _, World.ownsRow_nil _ _ _ _⟩
  have HO : Hid (w.ownsRow base 3 1 (.slice (some ⟨B, 0, none⟩) n cap) n xs) := ho
  have HN : Hid (xs.length = n) := by show xs.length = n; omega
  have HM : Hid ((cellsI (mkI k n)).length = n) := by show (cellsI (mkI k n)).length = n; rw [cellsI_length, mkI_length]
  clear ho hlen
  go_enter Tryz.func58, Tryz.ntmps58
  go_wp2_with fail
  go_loopw [1, 5] (fun kk i wr => ∃ j x : Nat, j ≤ n ∧ i = .int .i64 (j : Int) ∧ kk = .int .i64 (x : Int) ∧ x ≤ 16777216 ∧ 0 < x ∧ Hid (x = k + j) ∧ Hid (w.grownBy wr (some B)) ∧ Hid (wr.ownsRow base 3 1 (.slice (some ⟨B, 0, none⟩) n cap) n ((cellsI (mkI k n)).take j ++ xs.drop j))) (fun _ i _ => n - (intOf i).toNat)
  case atStart => exact ⟨0, k, by omega, rfl, rfl, by omega, by omega, by show k = k + 0; omega, gb_refl _ _, HO.out⟩
  case round =>
    obtain ⟨j, x, hj, rfl, rfl, hx1, hx0, hx, G1, O1⟩ := hrel
    by_cases hlt : j < n
    · have hjn : (j : Int) < (n : Int) := by omega
      have hxb : Hid (x + 1 ≤ 16777216) := by show x + 1 ≤ 16777216; have := hx.out; omega
      have hjl : Hid (j < ((cellsI (mkI k n)).take j ++ xs.drop j).length) := by
        show j < _; rw [fill_length _ _ _ (HN.out.trans HM.out.symm), HM.out]; exact hlt
      obtain ⟨z, o1, o2⟩ := own_cellX O1.out hjl.out
      go_wp2_with fail
      refine ⟨⟨j + 1, x + 1, by omega, by go_num, by go_num, hxb.out, by omega, by show x + 1 = k + (j + 1); have := hx.out; omega, gb_set G1.out _ _, ?_⟩, by simp [intOf]; omega⟩
      refine own_congr (own_set O1.out j hjl.out _) (fill_set _ _ j _ (by rw [HN.out]; exact hlt) ?_)
      rw [cellsI_get _ _ (by rw [mkI_length]; exact hlt), mkI_get _ _ _ hlt, hx.out]
    · have hjn : j = n := by omega
      have E : Hid ((x : Int) = ((k + n : Nat) : Int)) := by show (x : Int) = ((k + n : Nat) : Int); rw [hx.out, hjn]
      have O2 : Hid (wr.ownsRow base 3 1 (.slice (some ⟨B, 0, none⟩) n cap) n (cellsI (mkI k n))) := own_congr O1.out (by rw [hjn]; exact fill_all HM.out HN.out)
      clear hjn O1
      go_wp2_with fail
      go_ret
      exact ⟨by show Ending.returned (.int .i64 (x : Int)) = _; rw [E.out], G1.out, O2.out⟩
end Go.Proofs.YtnnimocaanofjaaGreatDoor
