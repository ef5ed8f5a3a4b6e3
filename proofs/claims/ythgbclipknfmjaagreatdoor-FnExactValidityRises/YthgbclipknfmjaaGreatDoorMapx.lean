
/-
  A map from keys to folders: its entries as a list; what is looked up, what is put. By an AI agent.
-/
import Derived.Test.YthgbclipknfmjaaGreatDoorGetp
import Derived.Test.YthgbclipknfmjaaGreatDoorListsm
import Derived.MapKept
import Derived.ChangeMaps4
import Derived.Maps.RangeRun
namespace Go.Proofs.YthgbclipknfmjaaGreatDoor
open Go.ChangeShapes Go.WideShapes Go.ChangeAt Go.RowKit Go.Deep Go.Lib
open Go.ChangeMaps (setBlock)
set_option linter.unusedVariables false
set_option maxRecDepth 100000

/-- A folder as it lies in a map: its key, its stamp, what it tells, its mails with their slice. -/
structure FX where
  (k : ByteArray) (born : Nat) (name : ByteArray) (val next : Int) (v : Value) (mails : List MMl)
abbrev valX (x : FX) : Value := .agg #[.string x.name, .int .i64 x.val, .int .i64 x.next, x.v]
def entX (x : FX) : MapEntry := ⟨.string x.k, valX x, x.born⟩
def lookX (k : ByteArray) : List FX → Option FX
  | [] => none
  | x :: X => if x.k = k then some x else lookX k X
theorem lookX_none {k : ByteArray} : ∀ {X : List FX}, lookX k X = none → ∀ x ∈ X, x.k ≠ k
  | [], _, x, hx => by cases hx
  | y :: X, h, x, hx => by
    unfold lookX at h
    by_cases e : y.k = k
    · rw [if_pos e] at h; cases h
    · rw [if_neg e] at h
      rcases List.mem_cons.1 hx with rfl | hx
      · exact e
      · exact lookX_none h x hx
theorem lookX_some {k : ByteArray} {x : FX} : ∀ {X : List FX}, lookX k X = some x → ∃ A B, X = A ++ x :: B ∧ (∀ y ∈ A, y.k ≠ k) ∧ x.k = k
  | [], h => by cases h
  | y :: X, h => by
    unfold lookX at h
    by_cases e : y.k = k
    · rw [if_pos e] at h
      cases h
      exact ⟨[], X, rfl, (fun y hy => by cases hy), e⟩
    · rw [if_neg e] at h
      obtain ⟨A, B, h1, h2, h3⟩ := lookX_some h
      refine ⟨y :: A, B, by rw [h1]; rfl, fun z hz => ?_, h3⟩
      rcases List.mem_cons.1 hz with rfl | hz
      · exact e
      · exact h2 z hz
theorem same_str (a b : ByteArray) : Instr.sameNow .string (.string a) (.string b) = some (decide (a = b)) := by
  simp only [Instr.sameNow]
  congr 1
  rw [Bool.eq_iff_iff, decide_eq_true_eq]
  exact MapKept.bytes_beq a b
theorem find_no (k : ByteArray) : ∀ (X : List FX) (i : Nat), (∀ x ∈ X, x.k ≠ k) → Instr.findNow .string (.string k) (X.map entX) i = some none
  | [], _, _ => rfl
  | x :: X, i, h => by
    have h1 : Instr.sameNow .string (.string k) (entX x).key = some false := by
      show Instr.sameNow .string (.string k) (.string x.k) = _
      rw [same_str, decide_eq_false (fun e => h x List.mem_cons_self e.symm)]
    rw [List.map_cons, Instr.findNow, h1]
    exact find_no k X (i + 1) (fun y hy => h y (List.mem_cons_of_mem _ hy))
theorem find_yes (k : ByteArray) (x : FX) (B : List FX) (hx : x.k = k) : ∀ (A : List FX) (i : Nat), (∀ y ∈ A, y.k ≠ k) → Instr.findNow .string (.string k) ((A ++ x :: B).map entX) i = some (some (i + A.length, valX x))
  | [], i, _ => by
    have h1 : Instr.sameNow .string (.string k) (entX x).key = some true := by
      show Instr.sameNow .string (.string k) (.string x.k) = _
      rw [same_str, decide_eq_true hx.symm]
    rw [List.nil_append, List.map_cons, Instr.findNow, h1]
    rfl
  | y :: A, i, h => by
    have h1 : Instr.sameNow .string (.string k) (entX y).key = some false := by
      show Instr.sameNow .string (.string k) (.string y.k) = _
      rw [same_str, decide_eq_false (fun e => h y List.mem_cons_self e.symm)]
    rw [List.cons_append, List.map_cons, Instr.findNow, h1]
    have := find_yes k x B hx A (i + 1) (fun z hz => h z (List.mem_cons_of_mem _ hz))
    rw [List.length_cons, show i + (A.length + 1) = i + 1 + A.length by omega]
    exact this
abbrev zeroF : Value := .agg #[.string ⟨#[]⟩, .int .i64 0, .int .i64 0, .slice none 0 0]
def atX (o : Option FX) : Value := match o with
  | some x => valX x
  | none => zeroF
theorem zeroFol (w : World) : (zeroValue 28).run Tryz.prog w = .ok zeroF w := by kernel_rfl
theorem isKeyS (k : ByteArray) : MapKept.IsKey .string (.string k) := trivial
theorem run_look {w : World} {M : Nat} {X : List FX} {clock : Nat} (hb : w.heap[M]? = some (.map (X.map entX).toArray clock)) (k : ByteArray) (c : Bool) :
    (Instr.lookup 86 (.map (some M)) (.string k) c).run Tryz.prog w = .ok (if c then .tuple #[atX (lookX k X), .bool (lookX k X).isSome] else atX (lookX k X)) w := by
  cases h : lookX k X with
  | none =>
    have h1 := MapKept.run_findKey (P := Tryz.prog) (w := w) Tryz.underlying9 (find_no k X 0 (lookX_none h))
    simp [Instr.lookup, run_underlying Tryz.underlying86, MapKept.run_getObj_map hb, MapKept.run_checkKey (P := Tryz.prog) Tryz.underlying9 (isKeyS k), h1, Result.andThen]
    cases c <;> rfl
  | some x =>
    obtain ⟨A, B, h2, h3, h4⟩ := lookX_some h
    subst h2
    have h1 := MapKept.run_findKey (P := Tryz.prog) (w := w) Tryz.underlying9 (find_yes k x B h4 A 0 h3)
    generalize (A ++ x :: B).map entX = E at hb h1
    simp [Instr.lookup, run_underlying Tryz.underlying86, MapKept.run_getObj_map hb, MapKept.run_checkKey (P := Tryz.prog) Tryz.underlying9 (isKeyS k), h1, Result.andThen]
    cases c <;> rfl
theorem run_put_new {w : World} {M : Nat} {X : List FX} {clock : Nat} (hb : w.heap[M]? = some (.map (X.map entX).toArray clock)) (y : FX) (hn : lookX y.k X = none) (hy : y.born = clock) :
    (Instr.mapUpdate 86 (.map (some M)) (.string y.k) (valX y)).run Tryz.prog w = .ok () (setBlock w M (.map ((X ++ [y]).map entX).toArray (clock + 1))) := by
  have h1 := MapKept.run_findKey (P := Tryz.prog) (w := w) Tryz.underlying9 (find_no y.k X 0 (lookX_none hn))
  have h2 : ((X ++ [y]).map entX).toArray = (X.map entX).toArray.push ⟨.string y.k, valX y, clock⟩ := by
    rw [← hy]
    simp [entX]
  rw [h2]
  simp [Instr.mapUpdate, run_underlying Tryz.underlying86, MapKept.run_getObj_map hb, MapKept.run_checkKey (P := Tryz.prog) Tryz.underlying9 (isKeyS y.k), h1, MapKept.run_setObj_map _ hb, Result.andThen, setBlock]
theorem run_put_old {w : World} {M : Nat} {A B : List FX} {x : FX} {clock : Nat} (hb : w.heap[M]? = some (.map ((A ++ x :: B).map entX).toArray clock)) (y : FX) (hA : ∀ z ∈ A, z.k ≠ y.k) (hx : x.k = y.k) (hy : y.born = x.born) :
    (Instr.mapUpdate 86 (.map (some M)) (.string y.k) (valX y)).run Tryz.prog w = .ok () (setBlock w M (.map ((A ++ y :: B).map entX).toArray clock)) := by
  have h1 := MapKept.run_findKey (P := Tryz.prog) (w := w) Tryz.underlying9 (find_yes y.k x B hx A 0 hA)
  have h3 : ((A ++ x :: B).map entX).toArray[0 + A.length]? = some (entX x) := by simp
  have h5 : (Instr.keyThatStays (((((A ++ x :: B).map entX).toArray[0 + A.length]?).map (·.key)).getD (.string y.k)) (.string y.k)).run Tryz.prog w = .ok (.string y.k) w := by
    rw [h3]
    show (Instr.keyThatStays (.string x.k) (.string y.k)).run Tryz.prog w = _
    rw [hx]
    have h9 : Instr.sameBits 10000 (.string y.k) (.string y.k) = true := (MapKept.bytes_beq _ _).2 rfl
    simp [Instr.keyThatStays, h9]
  have h4 : ((A ++ y :: B).map entX).toArray = ((A ++ x :: B).map entX).toArray.modify (0 + A.length) (fun e => { e with key := .string y.k, val := valX y }) := by
    apply Array.ext'
    rw [Array.toList_modify]
    simp only [Nat.zero_add, List.map_append, List.map_cons]
    rw [List.modify_eq_take_cons_drop (by simp)]
    have h8 : (A.map entX ++ entX x :: B.map entX).drop (A.length + 1) = B.map entX := by
      rw [List.drop_append, List.length_map, show A.length + 1 - A.length = 1 by omega, List.drop_of_length_le (by simp)]
      rfl
    rw [h8]
    simp [entX, hy]
  rw [h4]
  simp only [Instr.mapUpdate, Sem.run_bind, run_underlying Tryz.underlying86, Result.andThen_ok, MapKept.run_getObj_map hb, MapKept.run_checkKey (P := Tryz.prog) Tryz.underlying9 (isKeyS y.k), h1, h5, MapKept.run_setObj_map _ hb, setBlock]
theorem run_clear {w : World} {M : Nat} {es : Array MapEntry} {clock : Nat} (hb : w.heap[M]? = some (.map es clock)) (ty : TypeId) :
    (Builtin.clear_ #[86] ty #[.map (some M)]).run Tryz.prog w = .ok (.tuple #[]) (setBlock w M (.map #[] clock)) := by
  simp [Builtin.clear_, run_underlying Tryz.underlying86, MapKept.run_getObj_map hb, MapKept.run_setObj_map _ hb, Result.andThen, setBlock]
end Go.Proofs.YthgbclipknfmjaaGreatDoor
