
/-
  Fields read from bytes. By an AI agent.
-/
import Derived.Test.YtlkobhighhkmoaaDoorFlds2
namespace Go.Proofs.YtlkobhighhkmoaaDoor
open Go.ChangeShapes Go.WideShapes Go.ChangeAt Go.RowKit Go.Deep
set_option linter.unusedVariables false
set_option maxRecDepth 100000

/-- Bytes as a text. -/
def strB (L : List Nat) : ByteArray := strOfNums (L.map fun (x : Nat) => (x : Int))
theorem strB_size (L : List Nat) : (strB L).size = L.length := by unfold strB; rw [strOfNums_size, List.length_map]
def sub (B : List Nat) (i n : Nat) : ByteArray := strB ((B.drop i).take n)
def szAt (B : List Nat) (p : Nat) : Nat := B.getD p 0 * 256 + B.getD (p + 1) 0
/-- The first k fields of B, and where they end. -/
def rdSt (B : List Nat) : Nat → Option (List ByteArray × Nat)
  | 0 => some ([], 1)
  | k + 1 => match rdSt B k with
    | none => none
    | some (l, p) => if B.length < p + 2 then none else if 300 < szAt B p then none else if B.length < p + 2 + szAt B p then none else some (l ++ [sub B (p + 2) (szAt B p)], p + 2 + szAt B p)
theorem rdSt_none {B : List Nat} {k : Nat} (h : rdSt B k = none) : ∀ m, k ≤ m → rdSt B m = none
  | 0, hm => by rw [show k = 0 from by omega] at h; exact h
  | m + 1, hm => by
    by_cases e : k = m + 1
    · rw [← e]; exact h
    · have := rdSt_none h m (by omega)
      simp [rdSt, this]
theorem rd_cut {B l : List _} {k p : Nat} (h : rdSt B k = some (l, p)) (h1 : B.length < p + 2) : rdSt B (k + 1) = none := by simp [rdSt, h, h1]
theorem rd_big {B l : List _} {k p : Nat} (h : rdSt B k = some (l, p)) (h1 : ¬ B.length < p + 2) (h2 : 300 < szAt B p) : rdSt B (k + 1) = none := by simp [rdSt, h, h1, h2]
theorem rd_short {B l : List _} {k p : Nat} (h : rdSt B k = some (l, p)) (h1 : ¬ B.length < p + 2) (h2 : ¬ 300 < szAt B p) (h3 : B.length < p + 2 + szAt B p) : rdSt B (k + 1) = none := by simp [rdSt, h, h1, h2, h3]
theorem rd_more {B l : List _} {k p : Nat} (h : rdSt B k = some (l, p)) (h1 : ¬ B.length < p + 2) (h2 : ¬ 300 < szAt B p) (h3 : ¬ B.length < p + 2 + szAt B p) : rdSt B (k + 1) = some (l ++ [sub B (p + 2) (szAt B p)], p + 2 + szAt B p) := by simp [rdSt, h, h1, h2, h3]
theorem rd_len : ∀ {B : List Nat} {k p : Nat} {l : List ByteArray}, rdSt B k = some (l, p) → l.length = k
  | B, 0, p, l, h => by simp [rdSt] at h; rw [h.1]; rfl
  | B, k + 1, p, l, h => by
    cases hk : rdSt B k with
    | none => simp [rdSt, hk] at h
    | some lp =>
      obtain ⟨l', p'⟩ := lp
      have ih := rd_len hk
      simp [rdSt, hk] at h
      obtain ⟨_, _, _, h1, h2⟩ := h
      rw [← h1]; simp [ih]
def cutA (B : List Nat) : Option (List ByteArray × Nat) := if B.length = 0 ∨ 200 < B.getD 0 0 then none else rdSt B (B.getD 0 0)
def rfA (B : List Nat) : List ByteArray × Int := if 65536 < B.length then ([], 2) else match cutA B with
  | none => ([], 3)
  | some (l, p) => if p = B.length then (l, 0) else ([], 3)
theorem getD_drop (B : List Nat) (p i : Nat) : (B.drop p).getD i 0 = B.getD (p + i) 0 := by
  rw [List.getD_eq_getElem?_getD, List.getD_eq_getElem?_getD, List.getElem?_drop]
theorem Src.drop {w : World} {b o : Nat} {xs : List Value} (h : Src w (some ⟨b, o, none⟩) xs) (k : Nat) : Src w (some ⟨b, o + k, none⟩) (xs.drop k) := by
  rcases h with h | ⟨b', o', e, hc⟩
  · exact .inl (by rw [h]; simp)
  · cases e
    refine .inr ⟨b, o + k, rfl, fun j hj => ?_⟩
    have h1 := hc (k + j) (by simp at hj; omega)
    rw [Nat.add_assoc, h1]
    congr 1
    rw [List.getD_eq_getElem?_getD, List.getD_eq_getElem?_getD, List.getElem?_drop]
theorem cellsB_drop (B : List Nat) (k : Nat) : (cellsB B).drop k = cellsB (B.drop k) := by simp [cellsB, List.map_drop]
theorem own_drewN {w : World} {base e s n m : Nat} {v : Value} {xs : List Value} (h : w.ownsRow base e s v n xs) : (w.drewN m).ownsRow base e s v n xs := h
theorem src_oneS {w : World} {y : ByteArray} {B t : Nat} (hB : B = w.heap.size) : Src (w.alloc (.cells #[.string y] t)) (some ⟨B, 0, none⟩) (cellsS [y]) := by
  subst hB
  refine .inr ⟨_, 0, rfl, fun j hj => ?_⟩
  have hb := Box.new (w := w) (B := w.heap.size) (vs := #[.string y]) (t := t) rfl
  have hj' : j < 1 := hj
  rw [Nat.zero_add]
  match j, hj' with
  | 0, _ => exact (hb 0 _ rfl).1
theorem or_two (x y : Nat) (hx : x < 256) (hy : y < 256) : bits BinOp.or IntKind.i64 ((x : Int) * 256) (y : Int) = ((x * 256 + y : Nat) : Int) := by
  have e1 : ((x : Int) * 256) = ((x * 256 : Nat) : Int) := by omega
  have hor : x * 256 ||| y = x * 256 + y := by
    have := Nat.shiftLeft_add_eq_or_of_lt (i := 8) (b := y) (by omega) x
    rw [Nat.shiftLeft_eq] at this
    exact this.symm
  have h1 : (BitVec.ofInt 64 ((x * 256 : Nat) : Int)).toNat = x * 256 := by
    rw [BitVec.ofInt_natCast, BitVec.toNat_ofNat]; exact Nat.mod_eq_of_lt (by omega)
  have h2 : (BitVec.ofInt 64 (y : Int)).toNat = y := by
    rw [BitVec.ofInt_natCast, BitVec.toNat_ofNat]; exact Nat.mod_eq_of_lt (by omega)
  rw [e1]
  show IntKind.i64.wrap ((BitVec.ofInt 64 ((x * 256 : Nat) : Int) ||| BitVec.ofInt 64 (y : Int)).toNat : Int) = _
  rw [BitVec.toNat_or, h1, h2, hor, IntKind.wrap_i64]
  omega
theorem conv_sub {w : World} {b o s c : Nat} {B : List Nat} (h : Src w (some ⟨b, o, none⟩) (cellsB B)) (hs : s ≤ B.length) : (convert 43 9 (.slice (some ⟨b, o, none⟩) s c)).run Tryd.prog w = .ok (.string (strB (B.take s))) w := by
  have hlen : (B.take s).length = s := by simp; omega
  refine run_convert_bytes_arg (P := Tryd.prog) w 43 5 Tryd.underlying43 Tryd.underlying5 b o s c ((B.take s).map fun (x : Nat) => (x : Int)) (by rw [List.length_map, hlen]) (fun i hi => ?_) 9 Tryd.underlying9
  rcases h with h | ⟨b', o', e, hc⟩
  · rw [← cellsB_length, h] at hs
    simp at hs
    omega
  · cases e
    rw [hc i (by rw [cellsB_length]; omega), getD_some (cellsB_get B i (by omega))]
    congr 2
    rw [List.getD_eq_getElem?_getD, List.getD_eq_getElem?_getD, List.getElem?_map, List.getElem?_take, if_pos hi]
    rw [List.getElem?_eq_getElem (show i < B.length by omega)]
    rfl

end Go.Proofs.YtlkobhighhkmoaaDoor
