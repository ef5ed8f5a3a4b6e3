
/-
  Contracts of both PairsUnder: a list of its own, of those pairs whose keys begin so. By an AI agent.
-/
import Derived.Test.YthgbclipknfmjaaGreatDoorOwned
namespace Go.Proofs.YthgbclipknfmjaaGreatDoor
open Go.ChangeShapes Go.WideShapes Go.ChangeAt Go.RowKit Go.Deep
set_option linter.unusedVariables false
set_option maxRecDepth 100000

def beginsB (t h : ByteArray) : Bool := decide ((h.size : Int) ≤ (t.size : Int)) && ((t.extract 0 h.size).toList == h.toList)
/-- Of the first k pairs those whose keys begin so. -/
def under (f g : Nat → ByteArray) (pre : ByteArray) (k : Nat) : List (ByteArray × ByteArray) := ((List.range k).filter fun i => beginsB (f i) pre).map fun i => (f i, g i)
theorem under_hit (f g : Nat → ByteArray) (pre : ByteArray) (k : Nat) (h : beginsB (f k) pre = true) : under f g pre (k + 1) = under f g pre k ++ [(f k, g k)] := by
  simp [under, List.range_succ, List.filter_append, h]
theorem under_miss (f g : Nat → ByteArray) (pre : ByteArray) (k : Nat) (h : beginsB (f k) pre = false) : under f g pre (k + 1) = under f g pre k := by
  simp [under, List.range_succ, List.filter_append, h]
theorem under_le (f g : Nat → ByteArray) (pre : ByteArray) (k : Nat) : (under f g pre k).length ≤ k := by
  unfold under
  rw [List.length_map]
  have := List.length_filter_le (fun i => beginsB (f i) pre) (List.range k)
  rw [List.length_range] at this
  exact this

theorem beginsFn118 (t h : ByteArray) (w : World) (ht : t.size ≤ 1048576) (hh : h.size ≤ 1048576) : Calls Tryz.prog 118 #[.string t, .string h] w fun e w' => e = .returned (.bool (beginsB t h)) ∧ w = w' := by
  by_cases hle : (h.size : Int) ≤ (t.size : Int)
  · have E : Hid (beginsB t h = ((t.extract 0 h.size).toList == h.toList)) := by show beginsB t h = _; unfold beginsB; rw [decide_eq_true hle]; rfl
    go_enter Tryz.func118, Tryz.ntmps118
    go_wp2
    all_goals
      go_ret
      exact ⟨ret_bool E.out.symm, rfl⟩
  · have E : Hid (beginsB t h = false) := by show beginsB t h = _; unfold beginsB; rw [decide_eq_false hle]; rfl
    go_enter Tryz.func118, Tryz.ntmps118
    go_wp2
    all_goals
      go_ret
      exact ⟨ret_bool E.out.symm, rfl⟩
theorem begins (b : Bool) (t h : ByteArray) (w : World) (hb : beginsB t h = b) (ht : t.size ≤ 1048576) (hh : h.size ≤ 1048576) : Calls Tryz.prog 118 #[.string t, .string h] w fun e w' => e = .returned (.bool b) ∧ w = w' := by
  rw [← hb]; exact beginsFn118 t h w ht hh

theorem two_new (wr : World) (x y : ByteArray) (j : Nat) (u : Value) (h : [Value.string x, .string y][j]? = some u) :
    (wr.alloc (.cells #[.string x, .string y] 68)).cell? ((⟨wr.heap.size, 0, none⟩ : Addr).add j) = some u := by
  match j, h with
  | 0, h => simp at h; subst h; simp [Addr.add]
  | 1, h => simp at h; subst h; simp [Addr.add]
theorem two_one (x y : ByteArray) : ∀ u ∈ [Value.string x, .string y], u.oneCell' = true := by
  intro u hu
  simp at hu
  rcases hu with rfl | rfl <;> rfl

set_option maxHeartbeats 1000000 in
theorem l01Under (a : Option Addr) (n c : Nat) (f g : Nat → ByteArray) (pre : ByteArray) (w : World) (hn : n ≤ 4096) (hp : pre.size ≤ 1048576) (hs : ∀ i, i < n → (f i).size ≤ 1048576 ∧ (g i).size ≤ 1048576) (h : Sp w a n f g) :
    Calls Tryz.prog 64 #[.slice a n c, .string pre] w fun e w' => ∃ v, e = .returned v ∧ OwnsP w' w.heap.size v (under f g pre n) ∧ Below w.heap.size w w' := by
  obtain ⟨i0, hi, hz0, hz1, hz2⟩ := infoPair'
  have HH : Hid (Sp w a n f g) := h
  have HS : Hid (∀ i, i < n → (f i).size ≤ 1048576 ∧ (g i).size ≤ 1048576) := hs
  have HI : Hid (Tryz.prog.info? 68 = some i0) := hi
  have HZ0 : Hid (i0.zero = some (.agg #[.string ⟨#[]⟩, .string ⟨#[]⟩])) := hz0
  have HZ1 : Hid (i0.size = 2) := hz1
  have HZ2 : Hid (i0.bytes = 32) := hz2
  clear h hs hi hz0 hz1 hz2
  go_enter Tryz.func64, Tryz.ntmps64
  go_wp2_with fail
  go_loopw [5, 6] (fun v i wr => ∃ k : Nat, k ≤ n ∧ i = .int .i64 k ∧ Hid (OwnsP wr w.heap.size v (under f g pre k)) ∧ Hid (Below w.heap.size w wr)) (fun _ i _ => n - (intOf i).toNat)
  case atStart => exact ⟨0, by omega, rfl, OwnsP.made w _ (Nat.le_refl _), (Below.refl _ _).alloc (Nat.le_refl _) _⟩
  case round =>
    obtain ⟨k, hk, rfl, ho, hb⟩ := hrel
    rename_i v _
    by_cases hlt : k < n
    · rcases HH.out.below hb.out with h1 | ⟨b, off, rfl, hc⟩
      · omega
      obtain ⟨hc1, hc2⟩ := hc k hlt
      have hsx := (HS.out k hlt).1
      clear hc
      cases hbg : beginsB (f k) pre with
      | false =>
        have HB : Hid (beginsB (f k) pre = false) := hbg
        have E : Hid (under f g pre (k + 1) = under f g pre k) := under_miss f g pre k hbg
        clear hbg
        go_wp2_with (go_at_call 118; refine (begins false _ _ _ HB.out hsx hp).mono ?_; rintro e w' ⟨rfl, rfl⟩)
        exact ⟨⟨k + 1, by omega, by go_num, by rw [E.out]; exact ho, hb⟩, by simp [intOf]; omega⟩
      | true =>
        have HB : Hid (beginsB (f k) pre = true) := hbg
        have E : Hid (under f g pre (k + 1) = under f g pre k ++ [(f k, g k)]) := under_hit f g pre k hbg
        have hle := under_le f g pre k
        clear hbg
        go_wp2_with (first | (go_at_call 118; refine (begins true _ _ _ HB.out hsx hp).mono ?_; rintro e w' ⟨rfl, rfl⟩) | (at_builtin; refine wpList_append_own _ rfl _ _ 23 rfl w.heap.size 68 i0 (.agg #[.string ⟨#[]⟩, .string ⟨#[]⟩]) 2 32 Tryz.underlying23 HI.out HZ0.out HZ1.out HZ2.out rfl (by decide) _ _ _ rfl (ho.out.alloc _) ⟨wr.heap.size, 0, none⟩ 1 1 [.string (f k), .string (g k)] rfl rfl ?c1 ?c2 ?c3 ?c4 ?c5 ?_))
        case c1 => exact two_new wr (f k) (g k)
        case c2 => exact two_one (f k) (g k)
        case c3 => unfold maxLen; omega
        case c4 => omega
        case c5 => have := hb.out.size; simp; omega
        intro v' w1 hown hgrow _
        have HO : Hid (OwnsP w1 w.heap.size v' (under f g pre (k + 1))) := by
          show OwnsP w1 w.heap.size v' (under f g pre (k + 1))
          rw [E.out]
          unfold OwnsP
          rw [List.length_append, cellsP_append]
          exact hown
        have HB1 : Hid (Below w.heap.size w w1) := (hb.out.alloc hb.out.size _).grown hgrow (by have := hb.out.size; simp; omega) ho.out.block
        clear hown hgrow
        go_wp2_with fail
        exact ⟨⟨k + 1, by omega, by go_num, HO, HB1⟩, by simp [intOf]; omega⟩
    · have hkn : k = n := by omega
      subst hkn
      go_wp2_with fail
      go_ret
      exact ⟨_, rfl, ho.out, hb.out⟩

def underC (f g : Nat → ByteArray) (n : Nat) (pre : ByteArray) : Int := if 4096 < n ∨ 65536 < pre.size then 2 else if pairsB f g n = false then 1 else 0
def underL (f g : Nat → ByteArray) (n : Nat) (pre : ByteArray) : List (ByteArray × ByteArray) := if underC f g n pre = 0 then under f g pre n else []
theorem ret_vi {v : Value} {k l : Int} (h2 : k = l) : Ending.returned (.tuple #[v, .int .i64 k]) = .returned (.tuple #[v, .int .i64 l]) := by rw [h2]

theorem two_new1 (wr : World) (x y : ByteArray) (o : Obj) (j : Nat) (u : Value) (h : [Value.string x, .string y][j]? = some u) :
    ((wr.alloc o).alloc (.cells #[.string x, .string y] 68)).cell? ((⟨wr.heap.size + 1, 0, none⟩ : Addr).add j) = some u := by
  have := two_new (wr.alloc o) x y j u h
  rw [World.size_alloc] at this
  exact this

end Go.Proofs.YthgbclipknfmjaaGreatDoor
