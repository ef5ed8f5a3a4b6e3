
/-
  Small facts on memory that this seat's contracts lean on: a slice's cells, read again behind a call that turns nothing old; a row of the call's own. By an AI agent.
-/
import Derived.Test.YtmbndpgoihdpnaaGreatDoorRows
import Derived.WalkKit
import Derived.ProofKit
import Derived.OpenShut
import Derived.ShutString
import Derived.ChangeOld
import Derived.Below
import Derived.WalkSmall
import Derived.Deep.OwnRows
import Derived.RegionCalls
namespace Go.Proofs.YtmbndpgoihdpnaaGreatDoor
open Go.ChangeShapes Go.WideShapes Go.ChangeAt Go.RowKit
set_option linter.unusedVariables false

/-- The first n cells that a slice of one-cell elements leads to. -/
def Sl (w : World) (a : Option Addr) (n : Nat) (f : Nat → Value) : Prop :=
  n = 0 ∨ ∃ b off, a = some ⟨b, off, none⟩ ∧ ∀ i, i < n → w.cell? ⟨b, off + i, none⟩ = some (f i)

theorem Sl.below {w w' : World} {a : Option Addr} {n : Nat} {f : Nat → Value} (h : Sl w a n f) (hb : Below w.heap.size w w') : Sl w' a n f := by
  rcases h with h | ⟨b, off, rfl, hc⟩
  · exact .inl h
  · refine .inr ⟨b, off, rfl, fun i hi => ?_⟩
    have h1 := hc i hi
    rw [← h1]
    exact hb.cell (p := ⟨b, off + i, none⟩) (World.block_lt_of_cell? _ _ h1)

theorem Sl.congr {w : World} {a : Option Addr} {n : Nat} {f g : Nat → Value} (h : Sl w a n f) (hfg : ∀ i, i < n → f i = g i) : Sl w a n g := by
  rcases h with h | ⟨b, off, rfl, hc⟩
  · exact .inl h
  · exact .inr ⟨b, off, rfl, fun i hi => by rw [← hfg i hi]; exact hc i hi⟩

/-- A row of n cells at the head of block B, none of them frozen. -/
def Own (w : World) (B n : Nat) (g : Nat → Value) : Prop :=
  ∀ i, i < n → w.cell? ⟨B, i, none⟩ = some (g i) ∧ w.frozen? ⟨B, i, none⟩ = false

theorem Own.sl {w : World} {B n : Nat} {g : Nat → Value} (h : Own w B n g) : Sl w (some ⟨B, 0, none⟩) n g :=
  .inr ⟨B, 0, rfl, fun i hi => by rw [Nat.zero_add]; exact (h i hi).1⟩

theorem Own.below {w w' : World} {B n : Nat} {g : Nat → Value} (h : Own w B n g) (hb : Below w.heap.size w w') : Own w' B n g := fun i hi => by
  have h1 := h i hi
  have hlt := World.block_lt_of_cell? _ _ h1.1
  exact ⟨(hb.cell (p := ⟨B, i, none⟩) hlt).trans h1.1, (hb.frozen (p := ⟨B, i, none⟩) hlt).trans h1.2⟩

theorem Own.congr {w : World} {B n : Nat} {g f : Nat → Value} (h : Own w B n g) (hgf : ∀ i, i < n → g i = f i) : Own w B n f := fun i hi => by
  rw [← hgf i hi]; exact h i hi

theorem Own.set {w : World} {B n : Nat} {g : Nat → Value} (h : Own w B n g) (k : Nat) (hk : k < n) (v : Value) :
    Own (w.setCell ⟨B, k, none⟩ v) B n (fun i => if i = k then v else g i) := fun i hi => by
  refine ⟨?_, by rw [World.frozen?_setCell]; exact (h i hi).2⟩
  show _ = some (if i = k then v else g i)
  by_cases e : i = k
  · subst e
    rw [if_pos rfl]
    exact World.cell?_setCell_same _ _ _ (h i hi).1
  · rw [if_neg e]
    rw [World.cell?_setCell_other _ _ _ _ (by intro h2; exact e (by simpa using (congrArg Addr.off h2).symm))]
    exact (h i hi).1

theorem own_made (w : World) (z : Value) (n : Nat) (t : TypeId) : Own (w.alloc (.cells (madeCells #[z] n) t)) w.heap.size n (fun _ => z) := fun i hi => by
  refine ⟨?_, World.frozen?_alloc_at _ _ _ _ rfl⟩
  rw [World.cell?_alloc_at _ _ _ _ rfl]
  rw [← Array.getElem?_toList, toList_madeCells_one]
  simp [hi]

theorem fill_step (f : Nat → Value) (z : Value) (k i : Nat) : (if i = k then f k else if i < k then f i else z) = if i < k + 1 then f i else z := by
  by_cases e : i = k
  · subst e; simp
  · by_cases h : i < k
    · rw [if_neg e, if_pos h, if_pos (by omega)]
    · rw [if_neg e, if_neg h, if_neg (by omega)]

/-- What the form tells of a slice of integers that came in. -/
def IsRow (k : IntKind) (w : World) (a : Option Addr) (len cap : Nat) (zs : List Int) : Prop :=
  (a = none ∧ len = 0 ∧ cap = 0 ∧ zs = []) ∨
  ∃ x, a = some x ∧ len ≤ cap ∧ cap ≤ maxLen ∧ zs.length = cap ∧ (∀ i, i < zs.length → w.cell? (x.add i) = some (.int k (zs.getD i 0))) ∧ ∀ n ∈ zs, (Lit.int k n).wf = true

theorem bytes_of_row {w : World} {a : Option Addr} {len cap : Nat} {zs : List Int} (h : IsRow .u8 w a len cap zs) :
    ∃ z : Nat → Nat, (∀ i, z i < 256) ∧ Sl w a len (fun i => .int .u8 ((z i : Nat) : Int)) := by
  rcases h with ⟨rfl, rfl, rfl, rfl⟩ | ⟨x, rfl, hl, hm, hz, hcell, hwz⟩
  · exact ⟨fun _ => 0, fun _ => by show 0 < 256; omega, .inl rfl⟩
  · have hbd : ∀ i, 0 ≤ zs.getD i 0 ∧ zs.getD i 0 < 256 := by
      intro i
      rw [List.getD_eq_getElem?_getD]
      by_cases hi : i < zs.length
      · rw [List.getElem?_eq_getElem hi, Option.getD_some]
        have := bounds_u8 (hwz _ (List.getElem_mem hi))
        omega
      · rw [List.getElem?_eq_none (by omega)]; simp
    refine ⟨fun i => (zs.getD i 0).toNat, fun i => by have := hbd i; show (zs.getD i 0).toNat < 256; omega, ?_⟩
    by_cases h0 : len = 0
    · exact .inl h0
    obtain ⟨b, off, spot⟩ := x
    have hc := hcell 0 (by omega)
    have hspot : spot = none := by simpa [Addr.add] using World.cell?_spot hc
    subst hspot
    refine .inr ⟨b, off, rfl, fun i hi => ?_⟩
    have h1 := hcell i (by omega)
    have h2 : ((zs.getD i 0).toNat : Int) = zs.getD i 0 := Int.toNat_of_nonneg (hbd i).1
    show _ = some (Value.int .u8 (((zs.getD i 0).toNat : Nat) : Int))
    rw [h2, ← h1]
    congr 1
    unfold Addr.add
    split
    · rename_i h0; subst h0; rfl
    · rfl

section
variable {P : Program} {md : Region.Mode} {ops : Array Oper} {Q : Exit → Act → World → Prop}
/-- An operation of a region that draws its order, taken first: what it yields is written into slot d. -/
theorem reg_take (i : Nat) (d : Tmp) (v : Value) {oi : Oper} {fuel : Nat} {listed : Array Bool} {a : Act} {w : World} (hi : ops[i]? = some oi) (hd : oi.dst = some d)
    (hs : Region.noSelect ops = true) (hf : Region.free md ops listed i = true) (hr : (Region.ready md ops listed).contains i = true)
    (hQ : ∀ c a w (d : Tmp) v, Q (.panic c) (a.put (some d) v) w → Q (.panic c) a w) (hw : Region.wanted oi (yielded ops a.tmps) = true) (hy : ∀ w, (execOp a.eval oi).run P w = .ok (.value v) w)
    (h : wpAny P md ops Q fuel (listed.setIfInBounds i true) (a.put (some d) v) w) : wpAny P md ops Q (fuel + 1) listed a w := by
  exact wpAny_take hi hs hf hr (fun c a w => by rw [hd]; exact hQ c a w _ _) (Or.inl ⟨hw, hy⟩) (by rw [hd]; exact h)
/-- An operation of such a region whose guard says no is passed over. -/
theorem reg_skip (i : Nat) (d : Tmp) {oi : Oper} {fuel : Nat} {listed : Array Bool} {a : Act} {w : World} (hi : ops[i]? = some oi) (hd : oi.dst = some d)
    (hs : Region.noSelect ops = true) (hf : Region.free md ops listed i = true) (hr : (Region.ready md ops listed).contains i = true)
    (hQ : ∀ c a w (d : Tmp) v, Q (.panic c) (a.put (some d) v) w → Q (.panic c) a w) (hw : Region.wanted oi (yielded ops a.tmps) = false)
    (h : wpAny P md ops Q fuel (listed.setIfInBounds i true) (a.put (some d) undef) w) : wpAny P md ops Q (fuel + 1) listed a w := by
  exact wpAny_take hi hs hf hr (fun c a w => by rw [hd]; exact hQ c a w _ _) (Or.inr ⟨hw, rfl⟩) (by rw [hd]; exact h)
/-- All have come up; the frame is written out. -/
theorem reg_done (a' : Act) {fuel : Nat} {listed : Array Bool} {a : Act} {w : World} (ha : a = a') (hr : Region.ready md ops listed = []) (h : Q .normal a' w) : wpAny P md ops Q fuel listed a w := by
  subst ha
  exact wpAny_done hr h fuel
end
end Go.Proofs.YtmbndpgoihdpnaaGreatDoor
