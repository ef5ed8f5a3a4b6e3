
/-
  What a right node is; free nodes. By an AI agent.
-/
import Derived.Test.YtlkobhighhkmoaaDoorNodes
import Derived.Test.YtlkobhighhkmoaaDoorPairsOKi
namespace Go.Proofs.YtlkobhighhkmoaaDoor
open Go.ChangeShapes Go.WideShapes Go.ChangeAt Go.RowKit Go.Deep
set_option linter.unusedVariables false
set_option maxRecDepth 100000

def freeB (D : NM) : Bool := decide (D.A = false ∧ D.P.length = 0 ∧ D.L.length = 0 ∧ D.K.length = 0)
def leafB (D : NM) : Bool := decide (D.A = true ∧ D.L.length = 0 ∧ D.K.length = 0 ∧ 1 ≤ D.P.length ∧ D.P.length ≤ 3) && pairsB (fK D.P) (fV D.P) D.P.length
def pageB (q : Int) : Bool := decide (0 ≤ q ∧ q < 50)
def upB (L : List ByteArray) (i : Nat) : Bool := decide (i = 0) || Op.bytesLess (L.getD (i - 1) e0).toList (L.getD i e0).toList
def kidB (K : List Int) (L : List ByteArray) (i : Nat) : Bool := pageB (K.getD i 0) && keyB (L.getD i e0) && upB L i
def kidsB (K : List Int) (L : List ByteArray) : Bool := (List.range K.length).all (kidB K L)
def innerB (D : NM) : Bool := decide (D.A = false ∧ D.P.length = 0 ∧ D.L.length = D.K.length ∧ 1 ≤ D.K.length ∧ D.K.length ≤ 4) && kidsB D.K D.L
def okB (D : NM) : Bool := freeB D || leafB D || innerB D
theorem kids_bad {K : List Int} {L : List ByteArray} {k : Nat} (hk : k < K.length) (h : kidB K L k = false) : kidsB K L = false := by
  unfold kidsB
  rw [List.all_eq_false]
  exact ⟨k, List.mem_range.2 hk, by rw [h]; decide⟩
theorem kids_good {K : List Int} {L : List ByteArray} (h : ∀ k, k < K.length → kidB K L k = true) : kidsB K L = true := by
  unfold kidsB
  rw [List.all_eq_true]
  exact fun k hk => h k (List.mem_range.1 hk)
theorem isPage (q : Int) (w : World) : Calls Tryd.prog 99 #[.int .i64 q] w fun e w' => e = .returned (.bool (pageB q)) ∧ w = w' := by
  go_enter Tryd.func99, Tryd.ntmps99
  go_wp2
  all_goals
    go_ret
    exact ⟨ret_bool (by rw [Bool.eq_iff_iff]; simp [pageB]; omega), rfl⟩
theorem isPageIs (b : Bool) (q : Int) (w : World) (h : pageB q = b) : Calls Tryd.prog 99 #[.int .i64 q] w fun e w' => e = .returned (.bool b) ∧ w = w' := by
  rw [← h]; exact isPage q w
theorem l01InIs (d : Bool) (a b c : Int) (w : World) (h : (decide (b ≤ a) && decide (a ≤ c)) = d) : Calls Tryd.prog 70 #[.int .i64 a, .int .i64 b, .int .i64 c] w fun e w' => e = .returned (.bool d) ∧ w' = w := by
  rw [← h]; exact (l01In a b c w).mono fun e w' ⟨h1, h2⟩ => ⟨h1, h2.symm⟩

end Go.Proofs.YtlkobhighhkmoaaDoor
