
/-
  Contracts of both PairsUnder: a list of its own, of those pairs whose keys begin so. By an AI agent.
-/
import Derived.Test.YtmbndpgoihdpnaaGreatDoorOwned
namespace Go.Proofs.YtmbndpgoihdpnaaGreatDoor
open Go.ChangeShapes Go.WideShapes Go.ChangeAt Go.RowKit Go.Deep
set_option linter.unusedVariables false
set_option maxRecDepth 100000

def beginsB (t h : ByteArray) : Bool := decide ((h.size : Int) ≤ (t.size : Int)) && ((t.extract 0 h.size).toList == h.toList)
/-- Of the first k pairs those whose keys begin so. -/
def under (f g : Nat → ByteArray) (pre : ByteArray) (k : Nat) : List (ByteArray × ByteArray) := ((List.range k).filter fun i => beginsB (f i) pre).map fun i => (f i, g i)
theorem under_hit (f g : Nat → ByteArray) (pre : ByteArray) (k : Nat) (h : beginsB (f k) pre = true) : under f g pre (k + 1) = under f g pre k ++ [(f k, g k)] := by
  simp [under, List.range_succ, List.filter_append, h]
theorem under_miss (f g : Nat → ByteArray) (pre : ByteArray) (k : Nat) (h : beginsB (f k) pre = false) : under f g pre (k + 1) = under f g pre k := by
  simp [under, List.range_succ, List.filter_append, h]
theorem under_le (f g : Nat → ByteArray) (pre : ByteArray) (k : Nat) : (under f g pre k).length ≤ k := by
  unfold under
  rw [List.length_map]
  have := List.length_filter_le (fun i => beginsB (f i) pre) (List.range k)
  rw [List.length_range] at this
  exact this

theorem two_new (wr : World) (x y : ByteArray) (j : Nat) (u : Value) (h : [Value.string x, .string y][j]? = some u) :
    (wr.alloc (.cells #[.string x, .string y] 70)).cell? ((⟨wr.heap.size, 0, none⟩ : Addr).add j) = some u := by
  match j, h with
  | 0, h => simp at h; subst h; simp [Addr.add]
  | 1, h => simp at h; subst h; simp [Addr.add]
theorem two_one (x y : ByteArray) : ∀ u ∈ [Value.string x, .string y], u.oneCell' = true := by
  intro u hu
  simp at hu
  rcases hu with rfl | rfl <;> rfl

def underC (f g : Nat → ByteArray) (n : Nat) (pre : ByteArray) : Int := if 4096 < n ∨ 65536 < pre.size then 2 else if pairsB f g n = false then 1 else 0
def underL (f g : Nat → ByteArray) (n : Nat) (pre : ByteArray) : List (ByteArray × ByteArray) := if underC f g n pre = 0 then under f g pre n else []
theorem ret_vi {v : Value} {k l : Int} (h2 : k = l) : Ending.returned (.tuple #[v, .int .i64 k]) = .returned (.tuple #[v, .int .i64 l]) := by rw [h2]

theorem two_new1 (wr : World) (x y : ByteArray) (o : Obj) (j : Nat) (u : Value) (h : [Value.string x, .string y][j]? = some u) :
    ((wr.alloc o).alloc (.cells #[.string x, .string y] 70)).cell? ((⟨wr.heap.size + 1, 0, none⟩ : Addr).add j) = some u := by
  have := two_new (wr.alloc o) x y j u h
  rw [World.size_alloc] at this
  exact this

end Go.Proofs.YtmbndpgoihdpnaaGreatDoor
