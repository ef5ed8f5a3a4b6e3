
/-
  Contracts of both PairPut and of the helpers that copy lists of pairs. By an AI agent.
-/
import Derived.Test.YtkimjnjpfjeldaaDoorOwned
import Derived.Test.YtkimjnjpfjeldaaDoorPairGeti
namespace Go.Proofs.YtkimjnjpfjeldaaDoor
open Go.ChangeShapes Go.WideShapes Go.ChangeAt Go.RowKit Go.Deep
set_option linter.unusedVariables false
set_option maxRecDepth 100000

/-- The pairs L lie at a place. -/
def SrcP (w : World) (b o : Nat) (L : List (ByteArray × ByteArray)) : Prop :=
  ∀ i, i < L.length → w.cell? ⟨b, o + i * 2, none⟩ = some (.string (fstL L i)) ∧ w.cell? ⟨b, o + i * 2 + 1, none⟩ = some (.string (sndL L i))
theorem SrcP.below {w w' : World} {b o : Nat} {L : List (ByteArray × ByteArray)} (h : SrcP w b o L) (hb : Below w.heap.size w w') : SrcP w' b o L := fun i hi => by
  obtain ⟨h1, h2⟩ := h i hi
  exact ⟨cell_later hb h1, cell_later hb h2⟩
theorem SrcP.take {w : World} {b o : Nat} {L : List (ByteArray × ByteArray)} (h : SrcP w b o L) (l : Nat) : SrcP w b o (L.take l) := fun i hi => by
  rw [List.length_take] at hi
  have h1 := h i (by omega)
  have e : (L.take l).getD i pe = L.getD i pe := by rw [List.getD_eq_getElem?_getD, List.getElem?_take, if_pos (by omega), ← List.getD_eq_getElem?_getD]
  unfold fstL sndL at *
  rw [e]; exact h1
theorem SrcP.drop {w : World} {b o : Nat} {L : List (ByteArray × ByteArray)} (h : SrcP w b o L) (l : Nat) : SrcP w b (o + l * 2) (L.drop l) := fun i hi => by
  rw [List.length_drop] at hi
  have h1 := h (l + i) (by omega)
  have e : (L.drop l).getD i pe = L.getD (l + i) pe := by rw [List.getD_eq_getElem?_getD, List.getElem?_drop, ← List.getD_eq_getElem?_getD]
  unfold fstL sndL at *
  rw [e, show o + l * 2 + i * 2 = o + (l + i) * 2 from by omega]; exact h1
theorem SrcP.news {w : World} {b o : Nat} {L : List (ByteArray × ByteArray)} (h : SrcP w b o L) : ∀ j u, (cellsP L)[j]? = some u → w.cell? ((⟨b, o, none⟩ : Addr).add j) = some u := fun j u hu => by
  have hj : j < (cellsP L).length := (List.getElem?_eq_some_iff.1 hu).1
  rw [cellsP_length] at hj
  rw [add_plain]
  obtain ⟨c1, c2⟩ := cellsP_get L (j / 2) (by omega)
  obtain ⟨h1, h2⟩ := h (j / 2) (by omega)
  by_cases e : j % 2 = 0
  · rw [show j / 2 * 2 = j from by omega] at c1 h1
    rw [hu] at c1; rw [h1]; exact c1.symm
  · rw [show j / 2 * 2 + 1 = j from by omega] at c2
    rw [show o + j / 2 * 2 + 1 = o + j from by omega] at h2
    rw [hu] at c2; rw [h2]; exact c2.symm
def listP (f g : Nat → ByteArray) (n : Nat) : List (ByteArray × ByteArray) := (List.range n).map fun i => (f i, g i)
theorem listP_length (f g : Nat → ByteArray) (n : Nat) : (listP f g n).length = n := by simp [listP]
theorem listP_get (f g : Nat → ByteArray) (n i : Nat) (h : i < n) : (listP f g n).getD i pe = (f i, g i) := by
  rw [List.getD_eq_getElem?_getD]; simp [listP, h]
theorem src_of {w : World} {b o n : Nat} {f g : Nat → ByteArray} (h : Sp w (some ⟨b, o, none⟩) n f g) : SrcP w b o (listP f g n) := fun i hi => by
  rw [listP_length] at hi
  rcases h with h0 | ⟨b', o', e, hc⟩
  · omega
  · cases e
    have h1 := hc i hi
    unfold fstL sndL
    rw [listP_get f g n i hi]; exact h1
/-- A list that is given to append, written behind what is owned. -/
theorem OwnsP.more {w' : World} {base : Nat} {v' : Value} {L M : List (ByteArray × ByteArray)} {m : Nat} (hm : M.length = m) (h : w'.ownsRow base 43 2 v' (L.length + m) (cellsP L ++ cellsP M)) : OwnsP w' base v' (L ++ M) := by
  unfold OwnsP
  rw [List.length_append, cellsP_append, hm]; exact h

theorem OwnsP.one {w' : World} {base : Nat} {v' : Value} {L : List (ByteArray × ByteArray)} {x y : ByteArray} (h : w'.ownsRow base 43 2 v' (L.length + 1) (cellsP L ++ [.string x, .string y])) : OwnsP w' base v' (L ++ [(x, y)]) :=
  OwnsP.more (M := [(x, y)]) (m := 1) rfl h
theorem OwnsP.mk {w' : World} {base : Nat} {v' : Value} {L : List (ByteArray × ByteArray)} {m : Nat} (hm : (cellsP L).length = m * 2) (h : w'.ownsRow base 43 2 v' m (cellsP L)) : OwnsP w' base v' L := by
  unfold OwnsP
  rw [cellsP_length] at hm
  rw [show L.length = m from by omega]; exact h
theorem two_newP (wr : World) (x y : ByteArray) (j : Nat) (u : Value) (h : [Value.string x, .string y][j]? = some u) :
    (wr.alloc (.cells #[.string x, .string y] 43)).cell? ((⟨wr.heap.size, 0, none⟩ : Addr).add j) = some u := by
  match j, h with
  | 0, h => simp at h; subst h; simp [Addr.add]
  | 1, h => simp at h; subst h; simp [Addr.add]

/-- What put leaves: val at key. -/
def putL (f g : Nat → ByteArray) (n : Nat) (key val : ByteArray) (p : Nat) : List (ByteArray × ByteArray) :=
  (listP f g n).take p ++ [(key, val)] ++ (listP f g n).drop (if hitB f n key p = true then p + 1 else p)
/-- Where the rest of a list begins. -/
def restO (o n q : Nat) : Nat := if n = q then o else o + q * 2
theorem rest_src {w : World} {b o n : Nat} {L : List (ByteArray × ByteArray)} (h : SrcP w b o L) (hl : L.length = n) (q : Nat) (hq : q ≤ n) : SrcP w b (restO o n q) (L.drop q) := by
  unfold restO
  by_cases e : n = q
  · intro i hi
    rw [List.length_drop] at hi
    omega
  · rw [if_neg e]; exact h.drop q

end Go.Proofs.YtkimjnjpfjeldaaDoor
