
/-
  What a right node is; free nodes. By an AI agent.
-/
import Derived.Test.YtnejklppbjkekaaDoorNodes
import Derived.Test.YtnejklppbjkekaaDoorPairsOKi
namespace Go.Proofs.YtnejklppbjkekaaDoor
open Go.ChangeShapes Go.WideShapes Go.ChangeAt Go.RowKit Go.Deep
set_option linter.unusedVariables false
set_option maxRecDepth 100000

def freeB (D : NM) : Bool := decide (D.A = false ∧ D.P.length = 0 ∧ D.L.length = 0 ∧ D.K.length = 0)
def leafB (D : NM) : Bool := decide (D.A = true ∧ D.L.length = 0 ∧ D.K.length = 0 ∧ 1 ≤ D.P.length ∧ D.P.length ≤ 3) && pairsB (fK D.P) (fV D.P) D.P.length
def pageB (q : Int) : Bool := decide (0 ≤ q ∧ q < 50)
def upB (L : List ByteArray) (i : Nat) : Bool := decide (i = 0) || Op.bytesLess (L.getD (i - 1) e0).toList (L.getD i e0).toList
def kidB (K : List Int) (L : List ByteArray) (i : Nat) : Bool := pageB (K.getD i 0) && keyB (L.getD i e0) && upB L i
def kidsB (K : List Int) (L : List ByteArray) : Bool := (List.range K.length).all (kidB K L)
def innerB (D : NM) : Bool := decide (D.A = false ∧ D.P.length = 0 ∧ D.L.length = D.K.length ∧ 1 ≤ D.K.length ∧ D.K.length ≤ 4) && kidsB D.K D.L
def okB (D : NM) : Bool := freeB D || leafB D || innerB D
theorem kids_bad {K : List Int} {L : List ByteArray} {k : Nat} (hk : k < K.length) (h : kidB K L k = false) : kidsB K L = false := by
  unfold kidsB
  rw [List.all_eq_false]
  exact ⟨k, List.mem_range.2 hk, by rw [h]; decide⟩
theorem kids_good {K : List Int} {L : List ByteArray} (h : ∀ k, k < K.length → kidB K L k = true) : kidsB K L = true := by
  unfold kidsB
  rw [List.all_eq_true]
  exact fun k hk => h k (List.mem_range.1 hk)
theorem isPage (q : Int) (w : World) : Calls Tryd.prog 123 #[.int .i64 q] w fun e w' => e = .returned (.bool (pageB q)) ∧ w = w' := by
  go_enter Tryd.func123, Tryd.ntmps123
  go_wp2
  all_goals
    go_ret
    exact ⟨ret_bool (by rw [Bool.eq_iff_iff]; simp [pageB]; omega), rfl⟩
theorem isPageIs (b : Bool) (q : Int) (w : World) (h : pageB q = b) : Calls Tryd.prog 123 #[.int .i64 q] w fun e w' => e = .returned (.bool b) ∧ w = w' := by
  rw [← h]; exact isPage q w
theorem l01InIs (d : Bool) (a b c : Int) (w : World) (h : (decide (b ≤ a) && decide (a ≤ c)) = d) : Calls Tryd.prog 116 #[.int .i64 a, .int .i64 b, .int .i64 c] w fun e w' => e = .returned (.bool d) ∧ w' = w := by
  rw [← h]; exact (l01In a b c w).mono fun e w' ⟨h1, h2⟩ => ⟨h1, h2.symm⟩

set_option maxHeartbeats 400000 in
theorem nodeFree (v : Value) (D : NM) (w : World) (h : ReadsN w v D) :
    Calls Tryd.prog 53 #[v] w fun e w' => e = .returned (.bool (freeB D)) ∧ Below w.heap.size w w' := by
  obtain ⟨a1, c1, a2, c2, a3, c3, rfl, s1, s2, s3⟩ := h
  obtain ⟨bb, hbb⟩ : ∃ bb, freeB D = bb := ⟨_, rfl⟩
  have HBB : Hid (freeB D = bb) := hbb
  rw [hbb]
  obtain ⟨n1, hn1⟩ : ∃ n, D.P.length = n := ⟨_, rfl⟩
  obtain ⟨n2, hn2⟩ : ∃ n, D.L.length = n := ⟨_, rfl⟩
  obtain ⟨n3, hn3⟩ : ∃ n, D.K.length = n := ⟨_, rfl⟩
  obtain ⟨A, hA⟩ : ∃ A, D.A = A := ⟨_, rfl⟩
  have HF : Hid (bb = decide (A = false ∧ n1 = 0 ∧ n2 = 0 ∧ n3 = 0)) := by show bb = _; rw [← hbb, ← hn1, ← hn2, ← hn3, ← hA]; rfl
  rw [hn1, hn2, hn3, hA]
  clear s1 s2 s3 hn1 hn2 hn3 hA hbb HBB
  cases A with
  | true =>
    have F : Hid (bb = false) := by show bb = false; rw [HF.out]; simp
    clear HF
    go_enter Tryd.func53, Tryd.ntmps53
    go_wp2_with fail
    go_ret
    exact ⟨ret_bool F.out.symm, (Below.refl _ _).alloc (Nat.le_refl _) _⟩
  | false =>
    by_cases t1 : n1 = 0
    case neg =>
      have F : Hid (bb = false) := by show bb = false; rw [HF.out]; simp [t1]
      have t1' : ((n1 : Int) == 0) = false := by simp; omega
      clear HF t1
      go_enter Tryd.func53, Tryd.ntmps53
      go_wp2_with fail
      go_ret
      exact ⟨ret_bool F.out.symm, (Below.refl _ _).alloc (Nat.le_refl _) _⟩
    by_cases t2 : n2 = 0
    case neg =>
      have F : Hid (bb = false) := by show bb = false; rw [HF.out]; simp [t2]
      have t2' : ((n2 : Int) == 0) = false := by simp; omega
      subst t1
      clear HF t2
      go_enter Tryd.func53, Tryd.ntmps53
      go_wp2_with fail
      go_ret
      exact ⟨ret_bool F.out.symm, (Below.refl _ _).alloc (Nat.le_refl _) _⟩
    by_cases t3 : n3 = 0
    case neg =>
      have F : Hid (bb = false) := by show bb = false; rw [HF.out]; simp [t3]
      have t3' : ((n3 : Int) == 0) = false := by simp; omega
      subst t1 t2
      clear HF t3
      go_enter Tryd.func53, Tryd.ntmps53
      go_wp2_with fail
      go_ret
      exact ⟨ret_bool F.out.symm, (Below.refl _ _).alloc (Nat.le_refl _) _⟩
    have F : Hid (bb = true) := by show bb = true; rw [HF.out]; simp [t1, t2, t3]
    subst t1 t2 t3
    clear HF
    go_enter Tryd.func53, Tryd.ntmps53
    go_wp2_with fail
    go_ret
    exact ⟨ret_bool F.out.symm, (Below.refl _ _).alloc (Nat.le_refl _) _⟩

set_option maxHeartbeats 400000 in
theorem l03Free (v : Value) (D : NM) (w : World) (h : ReadsN w v D) :
    Calls Tryd.prog 58 #[v] w fun e w' => e = .returned (.bool (freeB D)) ∧ Below w.heap.size w w' := by
  obtain ⟨a1, c1, a2, c2, a3, c3, rfl, s1, s2, s3⟩ := h
  obtain ⟨bb, hbb⟩ : ∃ bb, freeB D = bb := ⟨_, rfl⟩
  have HBB : Hid (freeB D = bb) := hbb
  rw [hbb]
  obtain ⟨n1, hn1⟩ : ∃ n, D.P.length = n := ⟨_, rfl⟩
  obtain ⟨n2, hn2⟩ : ∃ n, D.L.length = n := ⟨_, rfl⟩
  obtain ⟨n3, hn3⟩ : ∃ n, D.K.length = n := ⟨_, rfl⟩
  obtain ⟨A, hA⟩ : ∃ A, D.A = A := ⟨_, rfl⟩
  have HF : Hid (bb = decide (A = false ∧ n1 = 0 ∧ n2 = 0 ∧ n3 = 0)) := by show bb = _; rw [← hbb, ← hn1, ← hn2, ← hn3, ← hA]; rfl
  rw [hn1, hn2, hn3, hA]
  clear s1 s2 s3 hn1 hn2 hn3 hA hbb HBB
  cases A with
  | true =>
    have F : Hid (bb = false) := by show bb = false; rw [HF.out]; simp
    clear HF
    go_enter Tryd.func58, Tryd.ntmps58
    go_wp2_with fail
    go_ret
    exact ⟨ret_bool F.out.symm, (Below.refl _ _).alloc (Nat.le_refl _) _⟩
  | false =>
    by_cases t1 : n1 = 0
    case neg =>
      have F : Hid (bb = false) := by show bb = false; rw [HF.out]; simp [t1]
      have t1' : ((n1 : Int) == 0) = false := by simp; omega
      clear HF t1
      go_enter Tryd.func58, Tryd.ntmps58
      go_wp2_with fail
      go_ret
      exact ⟨ret_bool F.out.symm, (Below.refl _ _).alloc (Nat.le_refl _) _⟩
    by_cases t2 : n2 = 0
    case neg =>
      have F : Hid (bb = false) := by show bb = false; rw [HF.out]; simp [t2]
      have t2' : ((n2 : Int) == 0) = false := by simp; omega
      subst t1
      clear HF t2
      go_enter Tryd.func58, Tryd.ntmps58
      go_wp2_with fail
      go_ret
      exact ⟨ret_bool F.out.symm, (Below.refl _ _).alloc (Nat.le_refl _) _⟩
    by_cases t3 : n3 = 0
    case neg =>
      have F : Hid (bb = false) := by show bb = false; rw [HF.out]; simp [t3]
      have t3' : ((n3 : Int) == 0) = false := by simp; omega
      subst t1 t2
      clear HF t3
      go_enter Tryd.func58, Tryd.ntmps58
      go_wp2_with fail
      go_ret
      exact ⟨ret_bool F.out.symm, (Below.refl _ _).alloc (Nat.le_refl _) _⟩
    have F : Hid (bb = true) := by show bb = true; rw [HF.out]; simp [t1, t2, t3]
    subst t1 t2 t3
    clear HF
    go_enter Tryd.func58, Tryd.ntmps58
    go_wp2_with fail
    go_ret
    exact ⟨ret_bool F.out.symm, (Below.refl _ _).alloc (Nat.le_refl _) _⟩
end Go.Proofs.YtnejklppbjkekaaDoor
