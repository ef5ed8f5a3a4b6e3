/-
  Contracts of the helpers on slices of pairs: their sizes, a copy in new memory, and the comparison of two slices. By an AI agent.
-/
import Derived.Test.YtnmeafhfchkemaaMem
import Derived.Deep.QuietTactic
import Derived.BigQuiet
import Derived.Deep.RegionWith
import Derived.Deep.SlicePairs
import Derived.WalkLawsBesides
namespace Go.Proofs.Ytnmeafhfchkemaa
open Go.ChangeShapes Go.WideShapes Go.ChangeAt Go.RowKit Go.Deep
set_option linter.unusedVariables false

/-- The pairs that a slice of two-cell elements leads to. -/
def Sp (w : World) (a : Option Addr) (n : Nat) (f g : Nat → ByteArray) : Prop :=
  n = 0 ∨ ∃ b off, a = some ⟨b, off, none⟩ ∧ ∀ i, i < n → w.cell? ⟨b, off + i * 2, none⟩ = some (.string (f i)) ∧ w.cell? ⟨b, off + i * 2 + 1, none⟩ = some (.string (g i))

theorem Sp.below {w w' : World} {a : Option Addr} {n : Nat} {f g : Nat → ByteArray} (h : Sp w a n f g) (hb : Below w.heap.size w w') : Sp w' a n f g := by
  rcases h with h | ⟨b, off, rfl, hc⟩
  · exact .inl h
  · refine .inr ⟨b, off, rfl, fun i hi => ?_⟩
    obtain ⟨h1, h2⟩ := hc i hi
    rw [← h1, ← h2]
    exact ⟨hb.cell (p := ⟨b, off + i * 2, none⟩) (World.block_lt_of_cell? _ _ h1), hb.cell (p := ⟨b, off + i * 2 + 1, none⟩) (World.block_lt_of_cell? _ _ h2)⟩

/-- A row of n pairs at the head of block B, none of its cells frozen. -/
def Own2 (w : World) (B n : Nat) (f g : Nat → ByteArray) : Prop :=
  ∀ i, i < n → (w.cell? ⟨B, i * 2, none⟩ = some (.string (f i)) ∧ w.frozen? ⟨B, i * 2, none⟩ = false) ∧ w.cell? ⟨B, i * 2 + 1, none⟩ = some (.string (g i)) ∧ w.frozen? ⟨B, i * 2 + 1, none⟩ = false

theorem Own2.sp {w : World} {B n : Nat} {f g : Nat → ByteArray} (h : Own2 w B n f g) : Sp w (some ⟨B, 0, none⟩) n f g :=
  .inr ⟨B, 0, rfl, fun i hi => by rw [Nat.zero_add]; exact ⟨(h i hi).1.1, (h i hi).2.1⟩⟩

theorem Own2.below {w w' : World} {B n : Nat} {f g : Nat → ByteArray} (h : Own2 w B n f g) (hb : Below w.heap.size w w') : Own2 w' B n f g := fun i hi => by
  obtain ⟨⟨h1, h2⟩, h3, h4⟩ := h i hi
  have hlt := World.block_lt_of_cell? _ _ h1
  exact ⟨⟨(hb.cell (p := ⟨B, i * 2, none⟩) hlt).trans h1, (hb.frozen (p := ⟨B, i * 2, none⟩) hlt).trans h2⟩, (hb.cell (p := ⟨B, i * 2 + 1, none⟩) hlt).trans h3, (hb.frozen (p := ⟨B, i * 2 + 1, none⟩) hlt).trans h4⟩

theorem Own2.congr {w : World} {B n : Nat} {f g f' g' : Nat → ByteArray} (h : Own2 w B n f g) (hf : ∀ i, i < n → f i = f' i) (hg : ∀ i, i < n → g i = g' i) : Own2 w B n f' g' := fun i hi => by
  rw [← hf i hi, ← hg i hi]; exact h i hi

theorem off_ne {B a b : Nat} (h : a ≠ b) : (⟨B, a, none⟩ : Addr) ≠ ⟨B, b, none⟩ := fun e => h (congrArg Addr.off e)

theorem Own2.set {w : World} {B n : Nat} {f g : Nat → ByteArray} (h : Own2 w B n f g) (k : Nat) (hk : k < n) (x y : ByteArray) :
    Own2 ((w.setCell ⟨B, k * 2, none⟩ (.string x)).setCell ⟨B, k * 2 + 1, none⟩ (.string y)) B n (fun i => if i = k then x else f i) (fun i => if i = k then y else g i) := fun i hi => by
  obtain ⟨⟨h1, h2⟩, h3, h4⟩ := h i hi
  refine ⟨⟨?_, by rw [World.frozen?_setCell, World.frozen?_setCell]; exact h2⟩, ?_, by rw [World.frozen?_setCell, World.frozen?_setCell]; exact h4⟩
  · show _ = some (Value.string (if i = k then x else f i))
    rw [World.cell?_setCell_other _ _ _ _ (off_ne (by omega))]
    by_cases e : i = k
    · subst e
      rw [if_pos rfl]
      exact World.cell?_setCell_same _ _ _ h1
    · rw [if_neg e, World.cell?_setCell_other _ _ _ _ (off_ne (by omega))]
      exact h1
  · show _ = some (Value.string (if i = k then y else g i))
    by_cases e : i = k
    · subst e
      rw [if_pos rfl]
      refine World.cell?_setCell_same _ _ _ (u := .string (g i)) ?_
      rw [World.cell?_setCell_other _ _ _ _ (off_ne (by omega))]
      exact h3
    · rw [if_neg e, World.cell?_setCell_other _ _ _ _ (off_ne (by omega)), World.cell?_setCell_other _ _ _ _ (off_ne (by omega))]
      exact h3

theorem fill_step' (f : Nat → ByteArray) (z : ByteArray) (k i : Nat) : (if i = k then f k else if i < k then f i else z) = if i < k + 1 then f i else z := by
  by_cases e : i = k
  · subst e; simp
  · by_cases h : i < k
    · rw [if_neg e, if_pos h, if_pos (by omega)]
    · rw [if_neg e, if_neg h, if_neg (by omega)]

theorem own2_made (w : World) (n : Nat) (t : TypeId) : Own2 (w.alloc (.cells (madeCells #[.string ⟨#[]⟩, .string ⟨#[]⟩] (n * 2)) t)) w.heap.size n (fun _ => ⟨#[]⟩) (fun _ => ⟨#[]⟩) := fun i hi => by
  have hm : ∀ j, j < n * 2 → (madeCells #[.string ⟨#[]⟩, .string ⟨#[]⟩] (n * 2))[j]? = some (Value.string ⟨#[]⟩) := fun j hj => by
    have h2 : j % 2 = 0 ∨ j % 2 = 1 := by omega
    rcases h2 with h2 | h2 <;> simp [madeCells, hj, h2]
  refine ⟨⟨?_, World.frozen?_alloc_at _ _ _ _ rfl⟩, ?_, World.frozen?_alloc_at _ _ _ _ rfl⟩
  · rw [World.cell?_alloc_at _ _ _ _ rfl]; exact hm _ (by omega)
  · rw [World.cell?_alloc_at _ _ _ _ rfl]; exact hm _ (by omega)

theorem infoPair : (Try.prog.info? 42).map (fun i => (i.zero, i.size, i.bytes)) = some (some (.agg #[.string ⟨#[]⟩, .string ⟨#[]⟩]), 2, 32) := by kernel_rfl

theorem run_make_pairs (n : Nat) (hn : n ≤ 1048576) (w : World) :
    (Instr.makeSlice 31 (.int .i64 (n : Int)) (.int .i64 (n : Int))).run Try.prog w = .ok (.slice (some ⟨w.heap.size, 0, none⟩) n n) (w.alloc (.cells (madeCells #[.string ⟨#[]⟩, .string ⟨#[]⟩] (n * 2)) 42)) := by
  obtain ⟨i, hi, hzz⟩ := Option.map_eq_some_iff.1 infoPair
  simp only [Prod.mk.injEq] at hzz
  obtain ⟨hz, hs, hb⟩ := hzz
  have hr := run_make (P := Try.prog) w 31 42 i _ Try.underlying31 hi hz .i64 .i64 n n (by omega) (Int.le_refl _) (by rw [hb]; omega) (by omega)
  simp only [Int.toNat_natCast, hs, Value.cells] at hr
  exact hr

set_option maxHeartbeats 400000 in
theorem toPair (x y : ByteArray) (w : World) : Calls Try.prog 109 #[.agg #[.string x, .string y]] w fun e w' => e = .returned (.agg #[.string x, .string y]) ∧ Below w.heap.size w w' := by
  go_enter Try.func109, Try.ntmps109
  go_wp2
  exact bodyPost_ret (v := .agg #[.string x, .string y]) (by simp [results, Try.results109, go_sem]) rfl ⟨rfl, (((Below.refl _ _).alloc (Nat.le_refl _) _).alloc (by simp) _).alloc (by simp; omega) _⟩

set_option maxHeartbeats 400000 in
theorem szPair (x y : ByteArray) (l : Int) (w : World) (hx : x.size ≤ maxLen) (hy : y.size ≤ maxLen) (h0 : 0 ≤ l) (h1 : l ≤ 1048576) : Calls Try.prog 108 #[.agg #[.string x, .string y], .int .i64 l] w fun e w' => ∃ r : Int, e = .returned (.int .i64 r) ∧ r ≤ l ∧ (0 ≤ r → r = l - x.size - y.size) ∧ Below w.heap.size w w' := by
  unfold maxLen at hx hy
  go_enter Try.func108, Try.ntmps108
  go_wp2
  all_goals
    go_ret
    refine ⟨_, rfl, ?_, ?_, (Below.refl _ _).alloc (Nat.le_refl _) _⟩
    all_goals omega

set_option maxHeartbeats 400000 in
theorem szPairS (a : Option Addr) (n c : Nat) (f g : Nat → ByteArray) (w : World) (hn : n ≤ maxLen) (hs : ∀ i, i < n → (f i).size ≤ maxLen ∧ (g i).size ≤ maxLen) (h : Sp w a n f g) :
    Calls Try.prog 55 #[.slice a n c, .int .i64 1048576] w fun e w' => ∃ r : Int, e = .returned (.int .i64 r) ∧ (0 ≤ r → n ≤ 1048576 ∧ ∀ i, i < n → (f i).size ≤ 1048576 ∧ (g i).size ≤ 1048576) ∧ Below w.heap.size w w' := by
  unfold maxLen at hn
  by_cases hbig : 1048576 < n
  · clear h hs
    go_enter Try.func55, Try.ntmps55
    go_wp2_with fail
    go_ret
    exact ⟨-1, rfl, fun h => absurd h (by omega), Below.refl _ _⟩
  have HS : Hid (∀ i, i < n → (f i).size ≤ maxLen ∧ (g i).size ≤ maxLen) := hs
  have HH : Hid (Sp w a n f g) := h
  clear hs h
  go_enter Try.func55, Try.ntmps55
  go_wp2_with fail
  go_loopw [1, 5] (fun l i wr => ∃ (k : Nat) (x : Int), k ≤ n ∧ i = .int .i64 k ∧ l = .int .i64 x ∧ 0 ≤ x ∧ x ≤ 1048576 ∧ Hid (∀ i, i < k → (f i).size ≤ 1048576 ∧ (g i).size ≤ 1048576) ∧ Hid (Below w.heap.size w wr)) (fun _ i _ => n - (intOf i).toNat)
  case atStart => exact ⟨0, _, by omega, rfl, rfl, by omega, by omega, fun i hi => absurd hi (by omega), Below.refl _ _⟩
  case round =>
    obtain ⟨k, x, hk, rfl, rfl, hx0, hx1, hall, hb⟩ := hrel
    by_cases hlt : k < n
    · rcases HH.out.below hb.out with h1 | ⟨b, off, rfl, hc⟩
      · omega
      obtain ⟨hc1, hc2⟩ := hc k hlt
      clear hc
      go_wp2_with fail
      refine (szPair _ _ x _ (HS.out k hlt).1 (HS.out k hlt).2 hx0 hx1).mono ?_
      rintro e w1 ⟨r, rfl, hr1, hr2, hb1⟩
      have HB := hb.out.trans (hb1.mono hb.out.size)
      clear hb hb1
      by_cases hr : r < 0
      · have HR2 : Hid (0 ≤ r → r = x - (f k).size - (g k).size) := hr2
        clear hr2
        go_wp2_with fail
        go_ret
        exact ⟨-1, rfl, fun h => absurd h (by omega), HB⟩
      · have he := hr2 (by omega)
        have hall' : Hid (∀ i, i < k + 1 → (f i).size ≤ 1048576 ∧ (g i).size ≤ 1048576) := fun i hi => by
          by_cases e : i = k
          · rw [e]; omega
          · exact hall.out i (by omega)
        clear he hr2
        go_wp2_with fail
        exact ⟨⟨k + 1, r, by omega, by go_num, rfl, by omega, by omega, hall', HB⟩, by simp [intOf]; omega⟩
    · have hkn : k = n := by omega
      have hall' : Hid (∀ i, i < n → (f i).size ≤ 1048576 ∧ (g i).size ≤ 1048576) := by rw [← hkn]; exact hall
      clear hkn
      go_wp2_with fail
      go_ret
      exact ⟨x, rfl, fun _ => ⟨by omega, hall'.out⟩, hb.out⟩

set_option maxHeartbeats 400000 in
theorem toPairS (a : Option Addr) (n c : Nat) (f g : Nat → ByteArray) (w : World) (hn : n ≤ 1048576) (h : Sp w a n f g) :
    Calls Try.prog 56 #[.slice a n c] w fun e w' => e = .returned (.slice (some ⟨w.heap.size, 0, none⟩) n n) ∧ Below w.heap.size w w' ∧ Own2 w' w.heap.size n f g := by
  have hmk := run_make_pairs n hn
  go_enter Try.func56, Try.ntmps56
  go_wp2_with fail
  clear hmk
  go_loopw [4] (fun i wr => ∃ k : Nat, k ≤ n ∧ i = .int .i64 k ∧ Hid (Below w.heap.size w wr) ∧ Hid (Own2 wr w.heap.size n (fun i => if i < k then f i else ⟨#[]⟩) (fun i => if i < k then g i else ⟨#[]⟩))) (fun i _ => n - (intOf i).toNat)
  case atStart => exact ⟨0, by omega, rfl, (Below.refl _ _).alloc (Nat.le_refl _) _, (own2_made w n 42).congr (fun i _ => by simp) (fun i _ => by simp)⟩
  case round =>
    obtain ⟨k, hk, rfl, hb, ho⟩ := hrel
    by_cases hlt : k < n
    · rcases h.below hb.out with h1 | ⟨b, off, rfl, hc⟩
      · omega
      obtain ⟨hc1, hc2⟩ := hc k hlt
      clear hc h
      go_wp2_with fail
      refine (toPair _ _ _).mono ?_
      rintro e w1 ⟨rfl, hb1⟩
      have HB : Hid (Below w.heap.size w w1) := hb.out.trans (hb1.mono hb.out.size)
      have HO : Hid (Own2 w1 w.heap.size n (fun i => if i < k then f i else ⟨#[]⟩) (fun i => if i < k then g i else ⟨#[]⟩)) := ho.out.below hb1
      clear hb hb1 ho hc1 hc2
      obtain ⟨⟨o1, o2⟩, o3, o4⟩ := HO.out k hlt
      simp only [Nat.lt_irrefl, if_false] at o1 o3
      have o3' : (w1.setCell ⟨w.heap.size, k * 2, none⟩ (.string (f k))).cell? ⟨w.heap.size, k * 2 + 1, none⟩ = some (.string ⟨#[]⟩) := by
        rw [World.cell?_setCell_other _ _ _ _ (off_ne (by omega))]; exact o3
      go_wp2_with fail
      exact ⟨⟨k + 1, by omega, by go_num, (HB.out.setCell (Nat.le_refl _) _).setCell (Nat.le_refl _) _, (HO.out.set k hlt _ _).congr (fun i _ => fill_step' f _ k i) (fun i _ => fill_step' g _ k i)⟩, by simp [intOf]; omega⟩
    · go_wp2_with fail
      go_ret
      exact ⟨rfl, hb.out, ho.out.congr (fun i hi => by rw [if_pos (by omega)]) (fun i hi => by rw [if_pos (by omega)])⟩

set_option maxHeartbeats 400000 in
theorem eqPair (x y : ByteArray) (w : World) : Calls Try.prog 110 #[.agg #[.string x, .string y], .agg #[.string x, .string y]] w fun e w' => e = .returned (.bool true) ∧ Below w.heap.size w w' := by
  go_enter Try.func110, Try.ntmps110
  go_wp2
  go_ret
  exact ⟨rfl, ((Below.refl _ _).alloc (Nat.le_refl _) _).alloc (by simp) _⟩

set_option maxHeartbeats 400000 in
theorem eqPairS (a b : Option Addr) (n c d : Nat) (f g : Nat → ByteArray) (w : World) (hn : n ≤ 9000000000000000000) (ha : Sp w a n f g) (hb : Sp w b n f g) :
    Calls Try.prog 57 #[.slice a n c, .slice b n d] w fun e w' => e = .returned (.bool true) ∧ Below w.heap.size w w' := by
  have hne : ((n : Int) != (n : Int)) = false := by simp
  go_enter Try.func57, Try.ntmps57
  go_wp2_with fail
  go_loopw [5] (fun i wr => ∃ k : Nat, k ≤ n ∧ i = .int .i64 k ∧ Hid (Below w.heap.size w wr)) (fun i _ => n - (intOf i).toNat)
  case atStart => exact ⟨0, by omega, rfl, Below.refl _ _⟩
  case round =>
    obtain ⟨k, hk, rfl, hB⟩ := hrel
    by_cases hlt : k < n
    · rcases ha.below hB.out with h1 | ⟨b1, off1, rfl, hc1⟩
      · omega
      rcases hb.below hB.out with h2 | ⟨b2, off2, rfl, hc2⟩
      · omega
      obtain ⟨p1, p2⟩ := hc1 k hlt
      obtain ⟨q1, q2⟩ := hc2 k hlt
      clear ha hb hc1 hc2
      have hk0 : (0 : Int) ≤ (k : Int) := by omega
      have hki : (k : Int) < (n : Int) := by omega
      go_wp2_with fail
      go_region_with (go_at_call 110; refine (eqPair _ _ _).mono ?_; rintro e w1 ⟨rfl, hb1⟩)
      all_goals go_wp2_with fail
      all_goals exact ⟨⟨k + 1, by omega, by go_num, hB.out.drew.trans (hb1.mono hB.out.size)⟩, by simp [intOf]; omega⟩
    · go_wp2_with fail
      go_ret
      exact ⟨rfl, hB.out⟩

def strOf : Value → ByteArray
  | .string s => s
  | _ => ⟨#[]⟩

/-- What the form tells of a slice of pairs that came in. -/
theorem sp_of_row {H : Type} {enc : TypeId × Value → H} {W : World} {a : Option Addr} {len cap fuel : Nat} {x : DataW H × List MemPlace}
    (h : DataW.trod enc Try.prog W 0 (fun _ => true) true fuel 66 [.slice a len cap] = some x) :
    ∃ f g : Nat → ByteArray, Sp W a len f g ∧ len ≤ maxLen ∧ ∀ i, i < len → (f i).size ≤ maxLen ∧ (g i).size ≤ maxLen := by
  rcases open_slice_pairs Try.underlying66 Try.underlying122 (by kernel_rfl) rfl rfl (by kernel_rfl) (by kernel_rfl) h with ⟨hcs, _⟩ | ⟨ad, l, c, m, n, V0, V1, D0, D1, P0, P1, hcs, _, hl, hm, hmm, _, hall⟩
  · simp only [List.cons.injEq, Value.slice.injEq, and_true] at hcs
    obtain ⟨rfl, rfl, rfl⟩ := hcs
    exact ⟨fun _ => ⟨#[]⟩, fun _ => ⟨#[]⟩, .inl rfl, by unfold maxLen; omega, fun i hi => absurd hi (by omega)⟩
  · simp only [List.cons.injEq, Value.slice.injEq, and_true] at hcs
    obtain ⟨rfl, rfl, rfl⟩ := hcs
    rw [if_pos rfl] at hmm
    subst hmm
    have hstr : ∀ i, i < len → (V0 i = .string (strOf (V0 i)) ∧ (strOf (V0 i)).size ≤ maxLen) ∧ V1 i = .string (strOf (V1 i)) ∧ (strOf (V1 i)).size ≤ maxLen := fun i hi => by
      obtain ⟨_, _, h3, h4⟩ := hall i (by omega)
      obtain ⟨s0, e0, _, z0⟩ := DataW.trod_string Try.underlying9 h3
      obtain ⟨s1, e1, _, z1⟩ := DataW.trod_string Try.underlying9 h4
      simp only [List.cons.injEq, and_true] at e0 e1
      rw [e0, e1]
      exact ⟨⟨rfl, z0⟩, rfl, z1⟩
    refine ⟨fun i => strOf (V0 i), fun i => strOf (V1 i), ?_, by omega, fun i hi => ⟨(hstr i hi).1.2, (hstr i hi).2.2⟩⟩
    by_cases h0 : len = 0
    · exact .inl h0
    obtain ⟨b, off, spot⟩ := ad
    have hc0 := (hall 0 (by omega)).1
    have hspot : spot = none := by simpa [Addr.add] using World.cell?_spot hc0
    subst hspot
    refine .inr ⟨b, off, rfl, fun i hi => ?_⟩
    obtain ⟨h1, h2, _⟩ := hall i (by omega)
    rw [add_plain] at h1 h2
    refine ⟨?_, ?_⟩
    · show _ = some (Value.string (strOf (V0 i)))
      rw [← (hstr i hi).1.1]; exact h1
    · show _ = some (Value.string (strOf (V1 i)))
      rw [← (hstr i hi).2.1]; exact h2
end Go.Proofs.Ytnmeafhfchkemaa
