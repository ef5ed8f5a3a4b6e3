/-
  PairsOK PairsOKi Names Nus in one. By an AI agent.
-/
import Derived.Test.YthgbclipknfmjaaGreatDoorFu01
import Derived.Deep.Cut
import Derived.Deep.CutRange
namespace Go.Proofs.YthgbclipknfmjaaGreatDoor
open Go.ChangeShapes Go.WideShapes Go.ChangeAt Go.RowKit Go.Deep
set_option linter.unusedVariables false

theorem cell_later {w wx : World} {a : Addr} {v : Value} (hb : Below w.heap.size w wx) (h : w.cell? a = some v) : wx.cell? a = some v := (hb.cell (World.block_lt_of_cell? _ _ h)).trans h
def keyB (x : ByteArray) : Bool := decide (1 ≤ (x.size : Int)) && decide ((x.size : Int) ≤ 30)
def fitB (x y : ByteArray) : Bool := keyB x && decide ((y.size : Int) ≤ 90)
def riseB (f : Nat → ByteArray) (i : Nat) : Bool := decide (i = 0) || Op.bytesLess (f (i - 1)).toList (f i).toList
def goodB (f g : Nat → ByteArray) (i : Nat) : Bool := fitB (f i) (g i) && riseB f i
def pairsB (f g : Nat → ByteArray) (n : Nat) : Bool := decide (n ≤ 60) && (List.range n).all (goodB f g)

theorem pairsB_many (f g : Nat → ByteArray) (n : Nat) (h : 60 < n) : pairsB f g n = false := by
  unfold pairsB; rw [decide_eq_false (by omega)]; rfl
theorem pairsB_bad (f g : Nat → ByteArray) (n k : Nat) (hk : k < n) (h : goodB f g k = false) : pairsB f g n = false := by
  unfold pairsB
  have : (List.range n).all (goodB f g) = false := by
    rw [List.all_eq_false]
    exact ⟨k, List.mem_range.2 hk, by rw [h]; decide⟩
  rw [this, Bool.and_false]
theorem pairsB_good (f g : Nat → ByteArray) (n : Nat) (hn : n ≤ 60) (h : ∀ k, k < n → goodB f g k = true) : pairsB f g n = true := by
  unfold pairsB
  rw [decide_eq_true hn, Bool.true_and, List.all_eq_true]
  exact fun k hk => h k (List.mem_range.1 hk)
theorem ret_bool {a b : Bool} (h : a = b) : Ending.returned (.bool a) = .returned (.bool b) := by rw [h]
theorem next_good {f g : Nat → ByteArray} {k : Nat} (h : ∀ j, j < k → goodB f g j = true) (hk : goodB f g k = true) : ∀ j, j < k + 1 → goodB f g j = true := fun j hj => by
  by_cases e : j = k
  · rw [e]; exact hk
  · exact h j (by omega)

theorem keyFits (x : ByteArray) (w : World) (hx : x.size ≤ maxLen) : Calls Tryz.prog 111 #[.string x] w fun e w' => e = .returned (.bool (keyB x)) ∧ w = w' := by
  unfold maxLen at hx
  go_enter Tryz.func111, Tryz.ntmps111
  go_wp2
  all_goals
    go_ret
    exact ⟨ret_bool (by rw [Bool.eq_iff_iff]; simp [keyB]; omega), rfl⟩

theorem l01In (a b c : Int) (w : World) : Calls Tryz.prog 49 #[.int .i64 a, .int .i64 b, .int .i64 c] w fun e w' => e = .returned (.bool (decide (b ≤ a) && decide (a ≤ c))) ∧ w = w' := by
  go_enter Tryz.func49, Tryz.ntmps49
  go_wp2
  all_goals
    go_ret
    exact ⟨ret_bool (by rw [Bool.eq_iff_iff]; simp; omega), rfl⟩

set_option maxHeartbeats 400000 in
theorem l01Pair (x y : ByteArray) (w : World) (hx : x.size ≤ maxLen) (hy : y.size ≤ maxLen) : Calls Tryz.prog 140 #[.agg #[.string x, .string y]] w fun e w' => e = .returned (.bool (fitB x y)) ∧ Below w.heap.size w w' := by
  unfold maxLen at hx hy
  by_cases hk : (decide (1 ≤ (x.size : Int)) && decide ((x.size : Int) ≤ 30)) = true
  · have hf : Hid (fitB x y = decide ((y.size : Int) ≤ 90)) := by show fitB x y = _; unfold fitB keyB; rw [hk]; rfl
    go_enter Tryz.func140, Tryz.ntmps140
    go_wp2_with (go_at_call 49; refine (l01In _ _ _ _).mono ?_; rintro e w' ⟨rfl, rfl⟩)
    all_goals
      go_ret
      exact ⟨ret_bool (by rw [hf.out]), (Below.refl _ _).alloc (Nat.le_refl _) _⟩
  · have hk' : (decide (1 ≤ (x.size : Int)) && decide ((x.size : Int) ≤ 30)) = false := by simpa using hk
    clear hk
    have hf : Hid (fitB x y = false) := by show fitB x y = _; unfold fitB keyB; rw [hk']; rfl
    go_enter Tryz.func140, Tryz.ntmps140
    go_wp2_with (go_at_call 49; refine (l01In _ _ _ _).mono ?_; rintro e w' ⟨rfl, rfl⟩)
    all_goals
      go_ret
      exact ⟨ret_bool (by rw [hf.out]), (Below.refl _ _).alloc (Nat.le_refl _) _⟩

theorem l01PairIs (b : Bool) (x y : ByteArray) (w : World) (h : fitB x y = b) (hx : x.size ≤ maxLen) (hy : y.size ≤ maxLen) : Calls Tryz.prog 140 #[.agg #[.string x, .string y]] w fun e w' => e = .returned (.bool b) ∧ Below w.heap.size w w' := by
  rw [← h]; exact l01Pair x y w hx hy
theorem keyFitsIs (b : Bool) (x : ByteArray) (w : World) (h : keyB x = b) (hx : x.size ≤ maxLen) : Calls Tryz.prog 111 #[.string x] w fun e w' => e = .returned (.bool b) ∧ w = w' := by
  rw [← h]; exact keyFits x w hx

set_option maxHeartbeats 1000000 in
theorem specPairsOK (a : Option Addr) (n c : Nat) (f g : Nat → ByteArray) (w : World) (hn : n ≤ 1048576) (hs : ∀ i, i < n → (f i).size ≤ 1048576 ∧ (g i).size ≤ 1048576) (h : Sp w a n f g) :
    Calls Tryz.prog 104 #[.slice a n c] w fun e w' => e = .returned (.bool (pairsB f g n)) ∧ Below w.heap.size w w' := by
  by_cases h1 : 4096 < n
  · have e : Hid (pairsB f g n = false) := pairsB_many f g n (by omega)
    clear h hs
    go_enter Tryz.func104, Tryz.ntmps104
    go_wp2_with fail
    go_ret
    exact ⟨ret_bool e.out.symm, Below.refl _ _⟩
  by_cases h2 : 60 < n
  · have e : Hid (pairsB f g n = false) := pairsB_many f g n (by omega)
    clear h hs
    go_enter Tryz.func104, Tryz.ntmps104
    go_wp2_with fail
    go_ret
    exact ⟨ret_bool e.out.symm, Below.refl _ _⟩
  have HS : Hid (∀ i, i < n → (f i).size ≤ 1048576 ∧ (g i).size ≤ 1048576) := hs
  have HH : Hid (Sp w a n f g) := h
  clear hs h
  go_enter Tryz.func104, Tryz.ntmps104
  go_wp2_with fail
  go_loopw [3] (fun i wr => ∃ k : Nat, k ≤ n ∧ i = .int .i64 k ∧ Hid (∀ j, j < k → goodB f g j = true) ∧ Hid (Below w.heap.size w wr)) (fun i _ => n - (intOf i).toNat)
  case atStart => exact ⟨0, by omega, rfl, fun j hj => absurd hj (by omega), Below.refl _ _⟩
  case round =>
    obtain ⟨k, hk, rfl, hg, hb⟩ := hrel
    by_cases hlt : k < n
    · rcases HH.out.below hb.out with h1 | ⟨b, off, rfl, hc⟩
      · omega
      obtain ⟨hc1, hc2⟩ := hc k hlt
      have hsx : (f k).size ≤ maxLen := by have := (HS.out k hlt).1; unfold maxLen; omega
      have hsy : (g k).size ≤ maxLen := by have := (HS.out k hlt).2; unfold maxLen; omega
      have SX : Hid ((f k).size ≤ maxLen) := hsx
      have SY : Hid ((g k).size ≤ maxLen) := hsy
      clear hsx hsy
      have hk0 : (0 : Int) ≤ (k : Int) := by omega
      have hki : (k : Int) < (n : Int) := by omega
      by_cases hfit : fitB (f k) (g k) = true
      · by_cases hz : k = 0
        · have hgood : Hid (goodB f g k = true) := by show goodB f g k = true; unfold goodB riseB; rw [hfit, decide_eq_true hz]; rfl
          have HF : Hid (fitB (f k) (g k) = true) := hfit
          have HZ : Hid (k = 0) := hz
          clear hc hz hfit
          go_wp2_with fail
          refine wp_region_any (by kernel_rfl) ?_
          change wpAny _ _ _ _ _ _ _ (World.drew _)
          refine reg_take 0 16 (.slice (some ⟨b, off, none⟩) n c) rfl rfl (by kernel_rfl) (by kernel_rfl) (by kernel_rfl) (fun _ _ _ _ _ h => h) (by kernel_rfl) (by intro w; go_simp) ?_
          refine reg_take 1 17 (.int .i64 (k : Int)) rfl rfl (by kernel_rfl) (by kernel_rfl) (by kernel_rfl) (fun _ _ _ _ _ h => h) (by kernel_rfl) (by intro w; go_simp) ?_
          refine reg_take 2 18 (.pointer (some ⟨b, off + k * 2, none⟩)) rfl rfl (by kernel_rfl) (by kernel_rfl) (by kernel_rfl) (fun _ _ _ _ _ h => h) (by kernel_rfl) (by intro w; go_simp) ?_
          refine wpAny_ready (rs := [3]) (by kernel_rfl) (by simp) ?_
          refine AllReady.cons rfl (fun K hK => ?_) AllReady.nil
          go_simp
          refine hK _ _ ?_
          clear hK K
          refine wpAny_ready (rs := [4]) (by kernel_rfl) (by simp) ?_
          refine AllReady.cons rfl (fun K hK => ?_) AllReady.nil
          go_simp
          go_wp2_with (go_at_call 140; refine (l01PairIs true _ _ _ HF.out SX.out SY.out).mono ?_; rintro e w1 ⟨rfl, hb1⟩)
          refine reg_take 5 21 (.bool false) rfl rfl (by kernel_rfl) (by kernel_rfl) (by kernel_rfl) (fun _ _ _ _ _ h => h) (by kernel_rfl) (by intro w; go_simp) ?_
          refine reg_take 6 22 (.bool false) rfl rfl (by kernel_rfl) (by kernel_rfl) (by kernel_rfl) (fun _ _ _ _ _ h => h) (by kernel_rfl) (by intro w; go_simp) ?_
          refine reg_take 7 23 (.int .i64 (k : Int)) rfl rfl (by kernel_rfl) (by kernel_rfl) (by kernel_rfl) (fun _ _ _ _ _ h => h) (by kernel_rfl) (by intro w; go_simp) ?_
          refine reg_take 8 24 (.bool false) rfl rfl (by kernel_rfl) (by kernel_rfl) (by kernel_rfl) (fun _ _ _ _ _ h => h) (by kernel_rfl) (by intro w; go_simp; exact HZ.out) ?_
          refine reg_take 9 25 (.bool false) rfl rfl (by kernel_rfl) (by kernel_rfl) (by kernel_rfl) (fun _ _ _ _ _ h => h) (by kernel_rfl) (by intro w; go_simp) ?_
          refine reg_skip 10 26 rfl rfl (by kernel_rfl) (by kernel_rfl) (by kernel_rfl) (fun _ _ _ _ _ h => h) (by kernel_rfl) ?_
          refine reg_skip 11 27 rfl rfl (by kernel_rfl) (by kernel_rfl) (by kernel_rfl) (fun _ _ _ _ _ h => h) (by kernel_rfl) ?_
          refine reg_skip 12 28 rfl rfl (by kernel_rfl) (by kernel_rfl) (by kernel_rfl) (fun _ _ _ _ _ h => h) (by kernel_rfl) ?_
          refine reg_skip 13 29 rfl rfl (by kernel_rfl) (by kernel_rfl) (by kernel_rfl) (fun _ _ _ _ _ h => h) (by kernel_rfl) ?_
          refine reg_skip 14 30 rfl rfl (by kernel_rfl) (by kernel_rfl) (by kernel_rfl) (fun _ _ _ _ _ h => h) (by kernel_rfl) ?_
          refine reg_skip 15 31 rfl rfl (by kernel_rfl) (by kernel_rfl) (by kernel_rfl) (fun _ _ _ _ _ h => h) (by kernel_rfl) ?_
          refine reg_skip 16 32 rfl rfl (by kernel_rfl) (by kernel_rfl) (by kernel_rfl) (fun _ _ _ _ _ h => h) (by kernel_rfl) ?_
          refine reg_skip 17 33 rfl rfl (by kernel_rfl) (by kernel_rfl) (by kernel_rfl) (fun _ _ _ _ _ h => h) (by kernel_rfl) ?_
          refine reg_skip 18 34 rfl rfl (by kernel_rfl) (by kernel_rfl) (by kernel_rfl) (fun _ _ _ _ _ h => h) (by kernel_rfl) ?_
          refine reg_skip 19 35 rfl rfl (by kernel_rfl) (by kernel_rfl) (by kernel_rfl) (fun _ _ _ _ _ h => h) (by kernel_rfl) ?_
          refine reg_skip 20 36 rfl rfl (by kernel_rfl) (by kernel_rfl) (by kernel_rfl) (fun _ _ _ _ _ h => h) (by kernel_rfl) ?_
          refine reg_skip 21 37 rfl rfl (by kernel_rfl) (by kernel_rfl) (by kernel_rfl) (fun _ _ _ _ _ h => h) (by kernel_rfl) ?_
          refine reg_take 22 38 (.bool false) rfl rfl (by kernel_rfl) (by kernel_rfl) (by kernel_rfl) (fun _ _ _ _ _ h => h) (by kernel_rfl) (by intro w; go_simp) ?_
          refine reg_take 23 39 (.bool false) rfl rfl (by kernel_rfl) (by kernel_rfl) (by kernel_rfl) (fun _ _ _ _ _ h => h) (by kernel_rfl) (by intro w; go_simp) ?_
          refine reg_done ⟨#[.slice (some ⟨b, off, none⟩) n c, undef, u2, .int .i64 (k : Int), .slice (some ⟨b, off, none⟩) n c, .int .i64 (n : Int), .bool (decide (4096 < (n : Int))), .slice (some ⟨b, off, none⟩) n c, .int .i64 (n : Int), .bool (decide (60 < (n : Int))), .int .i64 (k : Int), .slice (some ⟨b, off, none⟩) n c, .int .i64 (n : Int), .bool true, u14, u15, .slice (some ⟨b, off, none⟩) n c, .int .i64 (k : Int), .pointer (some ⟨b, off + k * 2, none⟩), .agg #[.string (f k), .string (g k)], .bool true, .bool false, .bool false, .int .i64 (k : Int), .bool false, .bool false, undef, undef, undef, undef, undef, undef, undef, undef, undef, undef, undef, undef, .bool false, .bool false], []⟩ (by kernel_rfl) (by kernel_rfl) ?_
          go_wp2_with fail
          exact ⟨⟨k + 1, by omega, by go_num, next_good hg.out hgood.out, hb.out.drew.trans (hb1.mono hb.out.size)⟩, by simp [intOf]; omega⟩
        · have hd1 := (hc (k - 1) (by omega)).1
          have HF : Hid (fitB (f k) (g k) = true) := hfit
          have HP : Hid (0 < k) := by show 0 < k; omega
          have hkm : (0 : Int) ≤ (k : Int) - 1 := by omega
          have hkm2 : (k : Int) - 1 < (n : Int) := by omega
          clear hc hz
          by_cases hless : Op.bytesLess (f (k - 1)).toList (f k).toList = true
          · have hgood : Hid (goodB f g k = true) := by
              show goodB f g k = true
              unfold goodB riseB; rw [hfit, hless]; simp
            clear hfit
            go_wp2_with fail
            refine wp_region_any (by kernel_rfl) ?_
            change wpAny _ _ _ _ _ _ _ (World.drew _)
            refine reg_take 0 16 (.slice (some ⟨b, off, none⟩) n c) rfl rfl (by kernel_rfl) (by kernel_rfl) (by kernel_rfl) (fun _ _ _ _ _ h => h) (by kernel_rfl) (by intro w; go_simp) ?_
            refine reg_take 1 17 (.int .i64 (k : Int)) rfl rfl (by kernel_rfl) (by kernel_rfl) (by kernel_rfl) (fun _ _ _ _ _ h => h) (by kernel_rfl) (by intro w; go_simp) ?_
            refine reg_take 2 18 (.pointer (some ⟨b, off + k * 2, none⟩)) rfl rfl (by kernel_rfl) (by kernel_rfl) (by kernel_rfl) (fun _ _ _ _ _ h => h) (by kernel_rfl) (by intro w; go_simp) ?_
            refine wpAny_ready (rs := [3]) (by kernel_rfl) (by simp) ?_
            refine AllReady.cons rfl (fun K hK => ?_) AllReady.nil
            go_simp
            refine hK _ _ ?_
            clear hK K
            refine wpAny_ready (rs := [4]) (by kernel_rfl) (by simp) ?_
            refine AllReady.cons rfl (fun K hK => ?_) AllReady.nil
            go_simp
            go_wp2_with (go_at_call 140; refine (l01PairIs true _ _ _ HF.out SX.out SY.out).mono ?_; rintro e w1 ⟨rfl, hb1⟩)
            have hc1' := cell_later (w := wr.drew) hb1 hc1
            have hd1' := cell_later (w := wr.drew) hb1 hd1
            refine reg_take 5 21 (.bool false) rfl rfl (by kernel_rfl) (by kernel_rfl) (by kernel_rfl) (fun _ _ _ _ _ h => h) (by kernel_rfl) (by intro w; go_simp) ?_
            refine reg_take 6 22 (.bool false) rfl rfl (by kernel_rfl) (by kernel_rfl) (by kernel_rfl) (fun _ _ _ _ _ h => h) (by kernel_rfl) (by intro w; go_simp) ?_
            refine reg_take 7 23 (.int .i64 (k : Int)) rfl rfl (by kernel_rfl) (by kernel_rfl) (by kernel_rfl) (fun _ _ _ _ _ h => h) (by kernel_rfl) (by intro w; go_simp) ?_
            refine reg_take 8 24 (.bool true) rfl rfl (by kernel_rfl) (by kernel_rfl) (by kernel_rfl) (fun _ _ _ _ _ h => h) (by kernel_rfl) (by intro w; go_simp; exact HP.out) ?_
            refine reg_take 9 25 (.bool true) rfl rfl (by kernel_rfl) (by kernel_rfl) (by kernel_rfl) (fun _ _ _ _ _ h => h) (by kernel_rfl) (by intro w; go_simp) ?_
            refine reg_take 10 26 (.slice (some ⟨b, off, none⟩) n c) rfl rfl (by kernel_rfl) (by kernel_rfl) (by kernel_rfl) (fun _ _ _ _ _ h => h) (by kernel_rfl) (by intro w; go_simp) ?_
            refine reg_take 11 27 (.int .i64 (k : Int)) rfl rfl (by kernel_rfl) (by kernel_rfl) (by kernel_rfl) (fun _ _ _ _ _ h => h) (by kernel_rfl) (by intro w; go_simp) ?_
            refine reg_take 12 28 (.int .i64 ((k : Int) - 1)) rfl rfl (by kernel_rfl) (by kernel_rfl) (by kernel_rfl) (fun _ _ _ _ _ h => h) (by kernel_rfl) (by intro w; go_simp; rw [IntKind.wrap_i64]; omega) ?_
            refine reg_take 13 29 (.pointer (some ⟨b, off + (k - 1) * 2, none⟩)) rfl rfl (by kernel_rfl) (by kernel_rfl) (by kernel_rfl) (fun _ _ _ _ _ h => h) (by kernel_rfl) (by intro w; go_simp; intro hneg; have := HP.out; omega) ?_
            refine reg_take 14 30 (.pointer (some ⟨b, off + (k - 1) * 2, none⟩)) rfl rfl (by kernel_rfl) (by kernel_rfl) (by kernel_rfl) (fun _ _ _ _ _ h => h) (by kernel_rfl) (by intro w; go_simp) ?_
            refine reg_take 16 32 (.slice (some ⟨b, off, none⟩) n c) rfl rfl (by kernel_rfl) (by kernel_rfl) (by kernel_rfl) (fun _ _ _ _ _ h => h) (by kernel_rfl) (by intro w; go_simp) ?_
            refine reg_take 17 33 (.int .i64 (k : Int)) rfl rfl (by kernel_rfl) (by kernel_rfl) (by kernel_rfl) (fun _ _ _ _ _ h => h) (by kernel_rfl) (by intro w; go_simp) ?_
            refine reg_take 18 34 (.pointer (some ⟨b, off + k * 2, none⟩)) rfl rfl (by kernel_rfl) (by kernel_rfl) (by kernel_rfl) (fun _ _ _ _ _ h => h) (by kernel_rfl) (by intro w; go_simp) ?_
            refine reg_take 19 35 (.pointer (some ⟨b, off + k * 2, none⟩)) rfl rfl (by kernel_rfl) (by kernel_rfl) (by kernel_rfl) (fun _ _ _ _ _ h => h) (by kernel_rfl) (by intro w; go_simp) ?_
            refine wpAny_ready (rs := [15, 20]) (by kernel_rfl) (by simp) ?_
            refine AllReady.cons rfl (fun K hK => ?_) (AllReady.cons rfl (fun K hK => ?_) AllReady.nil)
            · go_simp
              refine hK _ _ ?_
              clear hK K
              refine wpAny_ready (rs := [20]) (by kernel_rfl) (by simp) ?_
              refine AllReady.cons rfl (fun K hK => ?_) AllReady.nil
              go_simp
              refine hK _ _ ?_
              clear hK K
              refine reg_take 21 37 (.bool false) rfl rfl (by kernel_rfl) (by kernel_rfl) (by kernel_rfl) (fun _ _ _ _ _ h => h) (by kernel_rfl) (by intro w; go_simp) ?_
              refine reg_take 22 38 (.bool false) rfl rfl (by kernel_rfl) (by kernel_rfl) (by kernel_rfl) (fun _ _ _ _ _ h => h) (by kernel_rfl) (by intro w; go_simp) ?_
              refine reg_take 23 39 (.bool false) rfl rfl (by kernel_rfl) (by kernel_rfl) (by kernel_rfl) (fun _ _ _ _ _ h => h) (by kernel_rfl) (by intro w; go_simp) ?_
              refine reg_done ⟨#[.slice (some ⟨b, off, none⟩) n c, undef, u2, .int .i64 (k : Int), .slice (some ⟨b, off, none⟩) n c, .int .i64 (n : Int), .bool (decide (4096 < (n : Int))), .slice (some ⟨b, off, none⟩) n c, .int .i64 (n : Int), .bool (decide (60 < (n : Int))), .int .i64 (k : Int), .slice (some ⟨b, off, none⟩) n c, .int .i64 (n : Int), .bool true, u14, u15, .slice (some ⟨b, off, none⟩) n c, .int .i64 (k : Int), .pointer (some ⟨b, off + k * 2, none⟩), .agg #[.string (f k), .string (g k)], .bool true, .bool false, .bool false, .int .i64 (k : Int), .bool true, .bool true, .slice (some ⟨b, off, none⟩) n c, .int .i64 (k : Int), .int .i64 ((k : Int) - 1), .pointer (some ⟨b, off + (k - 1) * 2, none⟩), .pointer (some ⟨b, off + (k - 1) * 2, none⟩), .string (f (k - 1)), .slice (some ⟨b, off, none⟩) n c, .int .i64 (k : Int), .pointer (some ⟨b, off + k * 2, none⟩), .pointer (some ⟨b, off + k * 2, none⟩), .string (f k), .bool false, .bool false, .bool false], []⟩ (by kernel_rfl) (by kernel_rfl) ?_
              go_wp2_with fail
              exact ⟨⟨k + 1, by omega, by go_num, next_good hg.out hgood.out, hb.out.drew.trans (hb1.mono hb.out.size)⟩, by simp [intOf]; omega⟩
            · go_simp
              refine hK _ _ ?_
              clear hK K
              refine wpAny_ready (rs := [15]) (by kernel_rfl) (by simp) ?_
              refine AllReady.cons rfl (fun K hK => ?_) AllReady.nil
              go_simp
              refine hK _ _ ?_
              clear hK K
              refine reg_take 21 37 (.bool false) rfl rfl (by kernel_rfl) (by kernel_rfl) (by kernel_rfl) (fun _ _ _ _ _ h => h) (by kernel_rfl) (by intro w; go_simp) ?_
              refine reg_take 22 38 (.bool false) rfl rfl (by kernel_rfl) (by kernel_rfl) (by kernel_rfl) (fun _ _ _ _ _ h => h) (by kernel_rfl) (by intro w; go_simp) ?_
              refine reg_take 23 39 (.bool false) rfl rfl (by kernel_rfl) (by kernel_rfl) (by kernel_rfl) (fun _ _ _ _ _ h => h) (by kernel_rfl) (by intro w; go_simp) ?_
              refine reg_done ⟨#[.slice (some ⟨b, off, none⟩) n c, undef, u2, .int .i64 (k : Int), .slice (some ⟨b, off, none⟩) n c, .int .i64 (n : Int), .bool (decide (4096 < (n : Int))), .slice (some ⟨b, off, none⟩) n c, .int .i64 (n : Int), .bool (decide (60 < (n : Int))), .int .i64 (k : Int), .slice (some ⟨b, off, none⟩) n c, .int .i64 (n : Int), .bool true, u14, u15, .slice (some ⟨b, off, none⟩) n c, .int .i64 (k : Int), .pointer (some ⟨b, off + k * 2, none⟩), .agg #[.string (f k), .string (g k)], .bool true, .bool false, .bool false, .int .i64 (k : Int), .bool true, .bool true, .slice (some ⟨b, off, none⟩) n c, .int .i64 (k : Int), .int .i64 ((k : Int) - 1), .pointer (some ⟨b, off + (k - 1) * 2, none⟩), .pointer (some ⟨b, off + (k - 1) * 2, none⟩), .string (f (k - 1)), .slice (some ⟨b, off, none⟩) n c, .int .i64 (k : Int), .pointer (some ⟨b, off + k * 2, none⟩), .pointer (some ⟨b, off + k * 2, none⟩), .string (f k), .bool false, .bool false, .bool false], []⟩ (by kernel_rfl) (by kernel_rfl) ?_
              go_wp2_with fail
              exact ⟨⟨k + 1, by omega, by go_num, next_good hg.out hgood.out, hb.out.drew.trans (hb1.mono hb.out.size)⟩, by simp [intOf]; omega⟩
          · have hless' : Op.bytesLess (f (k - 1)).toList (f k).toList = false := by simpa using hless
            have hbad : Hid (pairsB f g n = false) := pairsB_bad f g n k hlt (by
              unfold goodB riseB; rw [hfit, hless', decide_eq_false (by omega)]; rfl)
            clear hfit hless
            go_wp2_with fail
            refine wp_region_any (by kernel_rfl) ?_
            change wpAny _ _ _ _ _ _ _ (World.drew _)
            refine reg_take 0 16 (.slice (some ⟨b, off, none⟩) n c) rfl rfl (by kernel_rfl) (by kernel_rfl) (by kernel_rfl) (fun _ _ _ _ _ h => h) (by kernel_rfl) (by intro w; go_simp) ?_
            refine reg_take 1 17 (.int .i64 (k : Int)) rfl rfl (by kernel_rfl) (by kernel_rfl) (by kernel_rfl) (fun _ _ _ _ _ h => h) (by kernel_rfl) (by intro w; go_simp) ?_
            refine reg_take 2 18 (.pointer (some ⟨b, off + k * 2, none⟩)) rfl rfl (by kernel_rfl) (by kernel_rfl) (by kernel_rfl) (fun _ _ _ _ _ h => h) (by kernel_rfl) (by intro w; go_simp) ?_
            refine wpAny_ready (rs := [3]) (by kernel_rfl) (by simp) ?_
            refine AllReady.cons rfl (fun K hK => ?_) AllReady.nil
            go_simp
            refine hK _ _ ?_
            clear hK K
            refine wpAny_ready (rs := [4]) (by kernel_rfl) (by simp) ?_
            refine AllReady.cons rfl (fun K hK => ?_) AllReady.nil
            go_simp
            go_wp2_with (go_at_call 140; refine (l01PairIs true _ _ _ HF.out SX.out SY.out).mono ?_; rintro e w1 ⟨rfl, hb1⟩)
            have hc1' := cell_later (w := wr.drew) hb1 hc1
            have hd1' := cell_later (w := wr.drew) hb1 hd1
            refine reg_take 5 21 (.bool false) rfl rfl (by kernel_rfl) (by kernel_rfl) (by kernel_rfl) (fun _ _ _ _ _ h => h) (by kernel_rfl) (by intro w; go_simp) ?_
            refine reg_take 6 22 (.bool false) rfl rfl (by kernel_rfl) (by kernel_rfl) (by kernel_rfl) (fun _ _ _ _ _ h => h) (by kernel_rfl) (by intro w; go_simp) ?_
            refine reg_take 7 23 (.int .i64 (k : Int)) rfl rfl (by kernel_rfl) (by kernel_rfl) (by kernel_rfl) (fun _ _ _ _ _ h => h) (by kernel_rfl) (by intro w; go_simp) ?_
            refine reg_take 8 24 (.bool true) rfl rfl (by kernel_rfl) (by kernel_rfl) (by kernel_rfl) (fun _ _ _ _ _ h => h) (by kernel_rfl) (by intro w; go_simp; exact HP.out) ?_
            refine reg_take 9 25 (.bool true) rfl rfl (by kernel_rfl) (by kernel_rfl) (by kernel_rfl) (fun _ _ _ _ _ h => h) (by kernel_rfl) (by intro w; go_simp) ?_
            refine reg_take 10 26 (.slice (some ⟨b, off, none⟩) n c) rfl rfl (by kernel_rfl) (by kernel_rfl) (by kernel_rfl) (fun _ _ _ _ _ h => h) (by kernel_rfl) (by intro w; go_simp) ?_
            refine reg_take 11 27 (.int .i64 (k : Int)) rfl rfl (by kernel_rfl) (by kernel_rfl) (by kernel_rfl) (fun _ _ _ _ _ h => h) (by kernel_rfl) (by intro w; go_simp) ?_
            refine reg_take 12 28 (.int .i64 ((k : Int) - 1)) rfl rfl (by kernel_rfl) (by kernel_rfl) (by kernel_rfl) (fun _ _ _ _ _ h => h) (by kernel_rfl) (by intro w; go_simp; rw [IntKind.wrap_i64]; omega) ?_
            refine reg_take 13 29 (.pointer (some ⟨b, off + (k - 1) * 2, none⟩)) rfl rfl (by kernel_rfl) (by kernel_rfl) (by kernel_rfl) (fun _ _ _ _ _ h => h) (by kernel_rfl) (by intro w; go_simp; intro hneg; have := HP.out; omega) ?_
            refine reg_take 14 30 (.pointer (some ⟨b, off + (k - 1) * 2, none⟩)) rfl rfl (by kernel_rfl) (by kernel_rfl) (by kernel_rfl) (fun _ _ _ _ _ h => h) (by kernel_rfl) (by intro w; go_simp) ?_
            refine reg_take 16 32 (.slice (some ⟨b, off, none⟩) n c) rfl rfl (by kernel_rfl) (by kernel_rfl) (by kernel_rfl) (fun _ _ _ _ _ h => h) (by kernel_rfl) (by intro w; go_simp) ?_
            refine reg_take 17 33 (.int .i64 (k : Int)) rfl rfl (by kernel_rfl) (by kernel_rfl) (by kernel_rfl) (fun _ _ _ _ _ h => h) (by kernel_rfl) (by intro w; go_simp) ?_
            refine reg_take 18 34 (.pointer (some ⟨b, off + k * 2, none⟩)) rfl rfl (by kernel_rfl) (by kernel_rfl) (by kernel_rfl) (fun _ _ _ _ _ h => h) (by kernel_rfl) (by intro w; go_simp) ?_
            refine reg_take 19 35 (.pointer (some ⟨b, off + k * 2, none⟩)) rfl rfl (by kernel_rfl) (by kernel_rfl) (by kernel_rfl) (fun _ _ _ _ _ h => h) (by kernel_rfl) (by intro w; go_simp) ?_
            refine wpAny_ready (rs := [15, 20]) (by kernel_rfl) (by simp) ?_
            refine AllReady.cons rfl (fun K hK => ?_) (AllReady.cons rfl (fun K hK => ?_) AllReady.nil)
            · go_simp
              refine hK _ _ ?_
              clear hK K
              refine wpAny_ready (rs := [20]) (by kernel_rfl) (by simp) ?_
              refine AllReady.cons rfl (fun K hK => ?_) AllReady.nil
              go_simp
              refine hK _ _ ?_
              clear hK K
              refine reg_take 21 37 (.bool true) rfl rfl (by kernel_rfl) (by kernel_rfl) (by kernel_rfl) (fun _ _ _ _ _ h => h) (by kernel_rfl) (by intro w; go_simp) ?_
              refine reg_take 22 38 (.bool true) rfl rfl (by kernel_rfl) (by kernel_rfl) (by kernel_rfl) (fun _ _ _ _ _ h => h) (by kernel_rfl) (by intro w; go_simp) ?_
              refine reg_take 23 39 (.bool true) rfl rfl (by kernel_rfl) (by kernel_rfl) (by kernel_rfl) (fun _ _ _ _ _ h => h) (by kernel_rfl) (by intro w; go_simp) ?_
              refine reg_done ⟨#[.slice (some ⟨b, off, none⟩) n c, undef, u2, .int .i64 (k : Int), .slice (some ⟨b, off, none⟩) n c, .int .i64 (n : Int), .bool (decide (4096 < (n : Int))), .slice (some ⟨b, off, none⟩) n c, .int .i64 (n : Int), .bool (decide (60 < (n : Int))), .int .i64 (k : Int), .slice (some ⟨b, off, none⟩) n c, .int .i64 (n : Int), .bool true, u14, u15, .slice (some ⟨b, off, none⟩) n c, .int .i64 (k : Int), .pointer (some ⟨b, off + k * 2, none⟩), .agg #[.string (f k), .string (g k)], .bool true, .bool false, .bool false, .int .i64 (k : Int), .bool true, .bool true, .slice (some ⟨b, off, none⟩) n c, .int .i64 (k : Int), .int .i64 ((k : Int) - 1), .pointer (some ⟨b, off + (k - 1) * 2, none⟩), .pointer (some ⟨b, off + (k - 1) * 2, none⟩), .string (f (k - 1)), .slice (some ⟨b, off, none⟩) n c, .int .i64 (k : Int), .pointer (some ⟨b, off + k * 2, none⟩), .pointer (some ⟨b, off + k * 2, none⟩), .string (f k), .bool true, .bool true, .bool true], []⟩ (by kernel_rfl) (by kernel_rfl) ?_
              go_wp2_with fail
              go_ret
              exact ⟨ret_bool hbad.out.symm, hb.out.drew.trans (hb1.mono hb.out.size)⟩
            · go_simp
              refine hK _ _ ?_
              clear hK K
              refine wpAny_ready (rs := [15]) (by kernel_rfl) (by simp) ?_
              refine AllReady.cons rfl (fun K hK => ?_) AllReady.nil
              go_simp
              refine hK _ _ ?_
              clear hK K
              refine reg_take 21 37 (.bool true) rfl rfl (by kernel_rfl) (by kernel_rfl) (by kernel_rfl) (fun _ _ _ _ _ h => h) (by kernel_rfl) (by intro w; go_simp) ?_
              refine reg_take 22 38 (.bool true) rfl rfl (by kernel_rfl) (by kernel_rfl) (by kernel_rfl) (fun _ _ _ _ _ h => h) (by kernel_rfl) (by intro w; go_simp) ?_
              refine reg_take 23 39 (.bool true) rfl rfl (by kernel_rfl) (by kernel_rfl) (by kernel_rfl) (fun _ _ _ _ _ h => h) (by kernel_rfl) (by intro w; go_simp) ?_
              refine reg_done ⟨#[.slice (some ⟨b, off, none⟩) n c, undef, u2, .int .i64 (k : Int), .slice (some ⟨b, off, none⟩) n c, .int .i64 (n : Int), .bool (decide (4096 < (n : Int))), .slice (some ⟨b, off, none⟩) n c, .int .i64 (n : Int), .bool (decide (60 < (n : Int))), .int .i64 (k : Int), .slice (some ⟨b, off, none⟩) n c, .int .i64 (n : Int), .bool true, u14, u15, .slice (some ⟨b, off, none⟩) n c, .int .i64 (k : Int), .pointer (some ⟨b, off + k * 2, none⟩), .agg #[.string (f k), .string (g k)], .bool true, .bool false, .bool false, .int .i64 (k : Int), .bool true, .bool true, .slice (some ⟨b, off, none⟩) n c, .int .i64 (k : Int), .int .i64 ((k : Int) - 1), .pointer (some ⟨b, off + (k - 1) * 2, none⟩), .pointer (some ⟨b, off + (k - 1) * 2, none⟩), .string (f (k - 1)), .slice (some ⟨b, off, none⟩) n c, .int .i64 (k : Int), .pointer (some ⟨b, off + k * 2, none⟩), .pointer (some ⟨b, off + k * 2, none⟩), .string (f k), .bool true, .bool true, .bool true], []⟩ (by kernel_rfl) (by kernel_rfl) ?_
              go_wp2_with fail
              go_ret
              exact ⟨ret_bool hbad.out.symm, hb.out.drew.trans (hb1.mono hb.out.size)⟩
      · have HF : Hid (fitB (f k) (g k) = false) := by show fitB (f k) (g k) = false; simpa using hfit
        have hbad : Hid (pairsB f g n = false) := pairsB_bad f g n k hlt (by unfold goodB; rw [HF.out]; rfl)
        clear hc hfit
        go_wp2_with fail
        refine wp_region_any (by kernel_rfl) ?_
        change wpAny _ _ _ _ _ _ _ (World.drew _)
        refine reg_take 0 16 (.slice (some ⟨b, off, none⟩) n c) rfl rfl (by kernel_rfl) (by kernel_rfl) (by kernel_rfl) (fun _ _ _ _ _ h => h) (by kernel_rfl) (by intro w; go_simp) ?_
        refine reg_take 1 17 (.int .i64 (k : Int)) rfl rfl (by kernel_rfl) (by kernel_rfl) (by kernel_rfl) (fun _ _ _ _ _ h => h) (by kernel_rfl) (by intro w; go_simp) ?_
        refine reg_take 2 18 (.pointer (some ⟨b, off + k * 2, none⟩)) rfl rfl (by kernel_rfl) (by kernel_rfl) (by kernel_rfl) (fun _ _ _ _ _ h => h) (by kernel_rfl) (by intro w; go_simp) ?_
        refine wpAny_ready (rs := [3]) (by kernel_rfl) (by simp) ?_
        refine AllReady.cons rfl (fun K hK => ?_) AllReady.nil
        go_simp
        refine hK _ _ ?_
        clear hK K
        refine wpAny_ready (rs := [4]) (by kernel_rfl) (by simp) ?_
        refine AllReady.cons rfl (fun K hK => ?_) AllReady.nil
        go_simp
        go_wp2_with (go_at_call 140; refine (l01PairIs false _ _ _ HF.out SX.out SY.out).mono ?_; rintro e w1 ⟨rfl, hb1⟩)
        refine reg_take 5 21 (.bool true) rfl rfl (by kernel_rfl) (by kernel_rfl) (by kernel_rfl) (fun _ _ _ _ _ h => h) (by kernel_rfl) (by intro w; go_simp) ?_
        refine reg_take 6 22 (.bool true) rfl rfl (by kernel_rfl) (by kernel_rfl) (by kernel_rfl) (fun _ _ _ _ _ h => h) (by kernel_rfl) (by intro w; go_simp) ?_
        refine reg_skip 7 23 rfl rfl (by kernel_rfl) (by kernel_rfl) (by kernel_rfl) (fun _ _ _ _ _ h => h) (by kernel_rfl) ?_
        refine reg_skip 8 24 rfl rfl (by kernel_rfl) (by kernel_rfl) (by kernel_rfl) (fun _ _ _ _ _ h => h) (by kernel_rfl) ?_
        refine reg_skip 9 25 rfl rfl (by kernel_rfl) (by kernel_rfl) (by kernel_rfl) (fun _ _ _ _ _ h => h) (by kernel_rfl) ?_
        refine reg_skip 10 26 rfl rfl (by kernel_rfl) (by kernel_rfl) (by kernel_rfl) (fun _ _ _ _ _ h => h) (by kernel_rfl) ?_
        refine reg_skip 11 27 rfl rfl (by kernel_rfl) (by kernel_rfl) (by kernel_rfl) (fun _ _ _ _ _ h => h) (by kernel_rfl) ?_
        refine reg_skip 12 28 rfl rfl (by kernel_rfl) (by kernel_rfl) (by kernel_rfl) (fun _ _ _ _ _ h => h) (by kernel_rfl) ?_
        refine reg_skip 13 29 rfl rfl (by kernel_rfl) (by kernel_rfl) (by kernel_rfl) (fun _ _ _ _ _ h => h) (by kernel_rfl) ?_
        refine reg_skip 14 30 rfl rfl (by kernel_rfl) (by kernel_rfl) (by kernel_rfl) (fun _ _ _ _ _ h => h) (by kernel_rfl) ?_
        refine reg_skip 15 31 rfl rfl (by kernel_rfl) (by kernel_rfl) (by kernel_rfl) (fun _ _ _ _ _ h => h) (by kernel_rfl) ?_
        refine reg_skip 16 32 rfl rfl (by kernel_rfl) (by kernel_rfl) (by kernel_rfl) (fun _ _ _ _ _ h => h) (by kernel_rfl) ?_
        refine reg_skip 17 33 rfl rfl (by kernel_rfl) (by kernel_rfl) (by kernel_rfl) (fun _ _ _ _ _ h => h) (by kernel_rfl) ?_
        refine reg_skip 18 34 rfl rfl (by kernel_rfl) (by kernel_rfl) (by kernel_rfl) (fun _ _ _ _ _ h => h) (by kernel_rfl) ?_
        refine reg_skip 19 35 rfl rfl (by kernel_rfl) (by kernel_rfl) (by kernel_rfl) (fun _ _ _ _ _ h => h) (by kernel_rfl) ?_
        refine reg_skip 20 36 rfl rfl (by kernel_rfl) (by kernel_rfl) (by kernel_rfl) (fun _ _ _ _ _ h => h) (by kernel_rfl) ?_
        refine reg_skip 21 37 rfl rfl (by kernel_rfl) (by kernel_rfl) (by kernel_rfl) (fun _ _ _ _ _ h => h) (by kernel_rfl) ?_
        refine reg_skip 22 38 rfl rfl (by kernel_rfl) (by kernel_rfl) (by kernel_rfl) (fun _ _ _ _ _ h => h) (by kernel_rfl) ?_
        refine reg_take 23 39 (.bool true) rfl rfl (by kernel_rfl) (by kernel_rfl) (by kernel_rfl) (fun _ _ _ _ _ h => h) (by kernel_rfl) (by intro w; go_simp) ?_
        refine reg_done ⟨#[.slice (some ⟨b, off, none⟩) n c, undef, u2, .int .i64 (k : Int), .slice (some ⟨b, off, none⟩) n c, .int .i64 (n : Int), .bool (decide (4096 < (n : Int))), .slice (some ⟨b, off, none⟩) n c, .int .i64 (n : Int), .bool (decide (60 < (n : Int))), .int .i64 (k : Int), .slice (some ⟨b, off, none⟩) n c, .int .i64 (n : Int), .bool true, u14, u15, .slice (some ⟨b, off, none⟩) n c, .int .i64 (k : Int), .pointer (some ⟨b, off + k * 2, none⟩), .agg #[.string (f k), .string (g k)], .bool false, .bool true, .bool true, undef, undef, undef, undef, undef, undef, undef, undef, undef, undef, undef, undef, undef, undef, undef, undef, .bool true], []⟩ (by kernel_rfl) (by kernel_rfl) ?_
        go_wp2_with fail
        go_ret
        exact ⟨ret_bool hbad.out.symm, hb.out.drew.trans (hb1.mono hb.out.size)⟩
    · have hkn : k = n := by omega
      have e : Hid (pairsB f g n = true) := pairsB_good f g n (by omega) (by rw [← hkn]; exact hg.out)
      clear hkn
      go_wp2_with fail
      go_ret
      exact ⟨ret_bool e.out.symm, hb.out⟩
theorem below_drewN {B : Nat} {a w : World} (h : Below B a w) (n : Nat) : Below B a (w.drewN n) := Below.drewN' h n
set_option maxHeartbeats 1000000 in
theorem implPairsOK (a : Option Addr) (n c : Nat) (f g : Nat → ByteArray) (w : World) (hn : n ≤ 1048576) (hs : ∀ i, i < n → (f i).size ≤ 1048576 ∧ (g i).size ≤ 1048576) (h : Sp w a n f g) :
    Calls Tryz.prog 58 #[.slice a n c] w fun e w' => e = .returned (.bool (pairsB f g n)) ∧ Below w.heap.size w w' := by
  by_cases h2 : 60 < n
  · have e : Hid (pairsB f g n = false) := pairsB_many f g n (by omega)
    clear h hs
    go_enter Tryz.func58, Tryz.ntmps58
    go_wp2_with fail
    go_ret
    exact ⟨ret_bool e.out.symm, Below.refl _ _⟩
  have HS : Hid (∀ i, i < n → (f i).size ≤ 1048576 ∧ (g i).size ≤ 1048576) := hs
  have HH : Hid (Sp w a n f g) := h
  clear hs h
  go_enter Tryz.func58, Tryz.ntmps58
  go_wp2_with fail
  go_loopw [10] (fun i wr => ∃ k : Nat, k ≤ n ∧ i = .int .i64 k ∧ Hid (∀ j, j < k → goodB f g j = true) ∧ Hid (Below w.heap.size w wr)) (fun i _ => n - (intOf i).toNat)
  case atStart => exact ⟨0, by omega, rfl, fun j hj => absurd hj (by omega), Below.refl _ _⟩
  case round =>
    obtain ⟨k, hk, rfl, hg, hb⟩ := hrel
    by_cases hlt : k < n
    · rcases HH.out.below hb.out with h1 | ⟨b, off, rfl, hc⟩
      · omega
      obtain ⟨hc1, hc2⟩ := hc k hlt
      have SX : Hid ((f k).size ≤ maxLen) := by have := (HS.out k hlt).1; show (f k).size ≤ maxLen; unfold maxLen; omega
      have hsy := (HS.out k hlt).2
      have HB1 : Hid (Below w.heap.size w (wr.alloc (.cells #[.string (f k), .string (g k)] 68))) := hb.out.alloc hb.out.size _
      by_cases hkey : keyB (f k) = true
      · by_cases hval : (90 : Int) < ((g k).size : Int)
        · have hbad : Hid (pairsB f g n = false) := pairsB_bad f g n k hlt (by unfold goodB fitB; rw [hkey, decide_eq_false (by omega)]; rfl)
          have HK : Hid (keyB (f k) = true) := hkey
          clear hc hkey
          go_wp2_with (go_at_call 111; refine (keyFitsIs true _ _ HK.out SX.out).mono ?_; rintro e w1 ⟨rfl, rfl⟩)
          go_ret
          exact ⟨ret_bool hbad.out.symm, HB1.out⟩
        · have hfit : fitB (f k) (g k) = true := by unfold fitB; rw [hkey, decide_eq_true (by omega)]; rfl
          have HK : Hid (keyB (f k) = true) := hkey
          clear hkey
          by_cases hz : k = 0
          · have hgood : Hid (goodB f g k = true) := by show goodB f g k = true; unfold goodB riseB; rw [hfit, decide_eq_true hz]; rfl
            have hkz : decide (0 < k) = false := by simp; omega
            clear hc hfit hz
            go_wp2_with (go_at_call 111; refine (keyFitsIs true _ _ HK.out SX.out).mono ?_; rintro e w1 ⟨rfl, rfl⟩)
            go_quiet (fail)
            go_wp2_with fail
            exact ⟨⟨k + 1, by omega, by go_num, next_good hg.out hgood.out, below_drewN HB1.out _⟩, by simp [intOf]; omega⟩
          · have hd1 := (hc (k - 1) (by omega)).1
            have hd1' : (wr.alloc (.cells #[.string (f k), .string (g k)] 68)).cell? ⟨b, off + (k - 1) * 2, none⟩ = some (.string (f (k - 1))) := by
              rw [World.cell?_alloc_past _ _ _ (World.block_lt_of_cell? _ _ hd1)]; exact hd1
            have hkp : 0 < k := by omega
            have hkm : (0 : Int) ≤ (k : Int) - 1 := by omega
            have hkm2 : (k : Int) - 1 < (n : Int) := by omega
            clear hc hz hd1
            by_cases hless : Op.bytesLess (f (k - 1)).toList (f k).toList = true
            · have hgood : Hid (goodB f g k = true) := by
                show goodB f g k = true
                unfold goodB riseB; rw [hfit, hless]; simp
              clear hfit
              go_wp2_with (go_at_call 111; refine (keyFitsIs true _ _ HK.out SX.out).mono ?_; rintro e w1 ⟨rfl, rfl⟩)
              go_quiet (fail)
              go_wp2_with fail
              exact ⟨⟨k + 1, by omega, by go_num, next_good hg.out hgood.out, below_drewN HB1.out _⟩, by simp [intOf]; omega⟩
            · have hless' : Op.bytesLess (f (k - 1)).toList (f k).toList = false := by simpa using hless
              have hbad : Hid (pairsB f g n = false) := pairsB_bad f g n k hlt (by
                unfold goodB riseB; rw [hfit, hless', decide_eq_false (by omega)]; rfl)
              clear hfit hless
              go_wp2_with (go_at_call 111; refine (keyFitsIs true _ _ HK.out SX.out).mono ?_; rintro e w1 ⟨rfl, rfl⟩)
              go_quiet (fail)
              go_wp2_with fail
              go_ret
              exact ⟨ret_bool hbad.out.symm, below_drewN HB1.out _⟩
      · have HK : Hid (keyB (f k) = false) := by show keyB (f k) = false; simpa using hkey
        have hbad : Hid (pairsB f g n = false) := pairsB_bad f g n k hlt (by unfold goodB fitB; rw [HK.out]; rfl)
        clear hc hkey
        go_wp2_with (go_at_call 111; refine (keyFitsIs false _ _ HK.out SX.out).mono ?_; rintro e w1 ⟨rfl, rfl⟩)
        go_ret
        exact ⟨ret_bool hbad.out.symm, HB1.out⟩
    · have hkn : k = n := by omega
      have e : Hid (pairsB f g n = true) := pairsB_good f g n (by omega) (by rw [← hkn]; exact hg.out)
      clear hkn
      go_wp2_with fail
      go_ret
      exact ⟨ret_bool e.out.symm, hb.out⟩
def letB (c : Int) : Bool := (decide (97 ≤ c) && decide (c ≤ 122)) || (decide (65 ≤ c) && decide (c ≤ 90)) || c == 95
def digB (c : Int) : Bool := decide (48 ≤ c) && decide (c ≤ 57)
def chB (c : UInt8) : Bool := letB c.toNat || digB c.toNat
def okFrom (s : ByteArray) (k : Nat) : Bool := (s.data.toList.drop k).all chB
def wordB (s : ByteArray) : Bool := decide (1 ≤ s.size) && decide (s.size ≤ 40) && letB (s.data.toList.headD 0).toNat && okFrom s 1

theorem okFrom_step (s : ByteArray) (k : Nat) (h : k < s.size) : okFrom s k = (chB s[k] && okFrom s (k + 1)) := by
  unfold okFrom
  rw [List.drop_eq_getElem_cons (by simpa using h)]
  rfl
theorem okFrom_end (s : ByteArray) (k : Nat) (h : s.size ≤ k) : okFrom s k = true := by
  unfold okFrom
  rw [List.drop_of_length_le (by simpa using h)]
  rfl

theorem letterI (c : Int) (w : World) : Calls Tryz.prog 180 #[.int .u8 c] w fun e w' => e = .returned (.bool (letB c)) ∧ w = w' := by
  go_enter Tryz.func180, Tryz.ntmps180
  go_wp2
  all_goals
    go_ret
    exact ⟨ret_bool (by rw [Bool.eq_iff_iff]; simp [letB]; omega), rfl⟩

theorem digitI (c : Int) (w : World) : Calls Tryz.prog 181 #[.int .u8 c] w fun e w' => e = .returned (.bool (digB c)) ∧ w = w' := by
  go_enter Tryz.func181, Tryz.ntmps181
  go_wp2
  all_goals
    go_ret
    exact ⟨ret_bool (by rw [Bool.eq_iff_iff]; simp [digB]; omega), rfl⟩
theorem letterS (c : Int) (w : World) : Calls Tryz.prog 192 #[.int .u8 c] w fun e w' => e = .returned (.bool (letB c)) ∧ w = w' := by
  go_enter Tryz.func192, Tryz.ntmps192
  go_wp2
  all_goals
    go_ret
    exact ⟨ret_bool (by rw [Bool.eq_iff_iff]; simp [letB]; omega), rfl⟩
theorem digitS (c : Int) (w : World) : Calls Tryz.prog 141 #[.int .u8 c] w fun e w' => e = .returned (.bool (digB c)) ∧ w = w' := by
  go_enter Tryz.func141, Tryz.ntmps141
  go_wp2
  all_goals
    go_ret
    exact ⟨ret_bool (by rw [Bool.eq_iff_iff]; simp [digB]; omega), rfl⟩


theorem head_at (s : ByteArray) (h : 0 < s.size) : s.data.toList.headD 0 = s[0] := by
  have : s.data.toList = s.data.toList[0]'(by simpa using h) :: s.data.toList.drop 1 := by
    rw [← List.drop_eq_getElem_cons (by simpa using h)]; rfl
  rw [this]; rfl

set_option maxHeartbeats 400000 in
theorem implNameOK (s : ByteArray) (w : World) (hs : s.size ≤ maxLen) : Calls Tryz.prog 152 #[.string s] w fun e w' => e = .returned (.bool (wordB s)) ∧ w = w' := by
  unfold maxLen at hs
  by_cases h0 : s.size = 0
  · have h0' : ((s.size : Int) == 0) = true := by simp [h0]
    go_enter Tryz.func152, Tryz.ntmps152
    go_wp2_with fail
    go_ret
    exact ⟨ret_bool (by simp [wordB, h0]), rfl⟩
  have h0' : ((s.size : Int) == 0) = false := by first | exact beq_eq_false_iff_ne.2 (by omega) | (simp; omega)
  by_cases h1 : 40 < s.size
  · go_enter Tryz.func152, Tryz.ntmps152
    go_wp2_with fail
    go_ret
    exact ⟨ret_bool (by simp [wordB]; omega), rfl⟩
  have hp : 0 < s.size := by omega
  have h1' : decide (40 < (s.size : Int)) = false := by simp; omega
  have hhead := head_at s hp
  by_cases hl : letB s[0].toNat = true
  · have hw : Hid (wordB s = okFrom s 1) := by show wordB s = okFrom s 1; unfold wordB; rw [hhead, hl]; simp [Nat.not_lt.mp h1]; intro _; omega
    clear hhead
    go_enter Tryz.func152, Tryz.ntmps152
    go_wp2_with (go_at_call 180; refine (letterI _ _).mono ?_; rintro e w' ⟨rfl, rfl⟩)
    go_loop [3] (fun i => ∃ k : Nat, 1 ≤ k ∧ k ≤ s.size ∧ i = .int .i64 k ∧ Hid (okFrom s 1 = okFrom s k)) (fun i => s.size - (intOf i).toNat)
    case atStart => exact ⟨1, by omega, by omega, rfl, rfl⟩
    case round =>
      obtain ⟨k, hk1, hk2, rfl, hr⟩ := hrel
      by_cases hlt : k < s.size
      · by_cases hL : letB s[k].toNat = true
        · go_wp2_with (first | (go_at_call 180; refine (letterI _ _).mono ?_; rintro e w' ⟨rfl, rfl⟩) | (go_at_call 181; refine (digitI _ _).mono ?_; rintro e w' ⟨rfl, rfl⟩))
          go_round
          case rel => exact ⟨k + 1, by omega, by omega, by go_num, by have := hr.out; rw [okFrom_step s k hlt, chB, hL] at this; show okFrom s 1 = okFrom s (k + 1); simpa using this⟩
          case measure => simp [intOf]; omega
        · have hL' : letB s[k].toNat = false := by simpa using hL
          clear hL
          by_cases hD : digB s[k].toNat = true
          · go_wp2_with (first | (go_at_call 180; refine (letterI _ _).mono ?_; rintro e w' ⟨rfl, rfl⟩) | (go_at_call 181; refine (digitI _ _).mono ?_; rintro e w' ⟨rfl, rfl⟩))
            go_round
            case rel => exact ⟨k + 1, by omega, by omega, by go_num, by have := hr.out; rw [okFrom_step s k hlt, chB, hL', hD] at this; show okFrom s 1 = okFrom s (k + 1); simpa using this⟩
            case measure => simp [intOf]; omega
          · have hD' : digB s[k].toNat = false := by simpa using hD
            clear hD
            have hf : Hid (wordB s = false) := by
              have := hr.out; rw [okFrom_step s k hlt, chB, hL', hD'] at this
              show wordB s = false
              rw [hw.out, this]; rfl
            go_wp2_with (first | (go_at_call 180; refine (letterI _ _).mono ?_; rintro e w' ⟨rfl, rfl⟩) | (go_at_call 181; refine (digitI _ _).mono ?_; rintro e w' ⟨rfl, rfl⟩))
            go_ret
            exact ⟨ret_bool hf.out.symm, rfl⟩
      · have hf : Hid (wordB s = true) := by
          show wordB s = true
          rw [hw.out, hr.out, okFrom_end s k (by omega)]
        go_wp2
        go_ret
        exact ⟨ret_bool hf.out.symm, rfl⟩
  · have hl' : letB s[0].toNat = false := by simpa using hl
    clear hl
    have hw : Hid (wordB s = false) := by show wordB s = false; unfold wordB; rw [hhead, hl']; simp
    clear hhead
    go_enter Tryz.func152, Tryz.ntmps152
    go_wp2_with (go_at_call 180; refine (letterI _ _).mono ?_; rintro e w' ⟨rfl, rfl⟩)
    go_ret
    exact ⟨ret_bool hw.out.symm, rfl⟩

set_option maxHeartbeats 400000 in
theorem l00Word (s : ByteArray) (w : World) (hs : s.size ≤ maxLen) : Calls Tryz.prog 167 #[.string s] w fun e w' => e = .returned (.bool (wordB s)) ∧ w = w' := by
  unfold maxLen at hs
  by_cases h0 : s.size = 0
  · have h0' : decide ((s.size : Int) < 1) = true := by simp [h0]
    go_enter Tryz.func167, Tryz.ntmps167
    go_wp2_with fail
    go_ret
    exact ⟨ret_bool (by simp [wordB, h0]), rfl⟩
  have h0' : decide ((s.size : Int) < 1) = false := by first | exact beq_eq_false_iff_ne.2 (by omega) | (simp; omega)
  by_cases h1 : 40 < s.size
  · go_enter Tryz.func167, Tryz.ntmps167
    go_wp2_with fail
    go_ret
    exact ⟨ret_bool (by simp [wordB]; omega), rfl⟩
  have hp : 0 < s.size := by omega
  have h1' : decide (40 < (s.size : Int)) = false := by simp; omega
  have hhead := head_at s hp
  by_cases hl : letB s[0].toNat = true
  · have hw : Hid (wordB s = okFrom s 1) := by show wordB s = okFrom s 1; unfold wordB; rw [hhead, hl]; simp [Nat.not_lt.mp h1]; intro _; omega
    clear hhead
    go_enter Tryz.func167, Tryz.ntmps167
    go_wp2_with (go_at_call 192; refine (letterS _ _).mono ?_; rintro e w' ⟨rfl, rfl⟩)
    go_loop [3] (fun i => ∃ k : Nat, 1 ≤ k ∧ k ≤ s.size ∧ i = .int .i64 k ∧ Hid (okFrom s 1 = okFrom s k)) (fun i => s.size - (intOf i).toNat)
    case atStart => exact ⟨1, by omega, by omega, rfl, rfl⟩
    case round =>
      obtain ⟨k, hk1, hk2, rfl, hr⟩ := hrel
      by_cases hlt : k < s.size
      · by_cases hL : letB s[k].toNat = true
        · go_wp2_with (first | (go_at_call 192; refine (letterS _ _).mono ?_; rintro e w' ⟨rfl, rfl⟩) | (go_at_call 141; refine (digitS _ _).mono ?_; rintro e w' ⟨rfl, rfl⟩))
          go_round
          case rel => exact ⟨k + 1, by omega, by omega, by go_num, by have := hr.out; rw [okFrom_step s k hlt, chB, hL] at this; show okFrom s 1 = okFrom s (k + 1); simpa using this⟩
          case measure => simp [intOf]; omega
        · have hL' : letB s[k].toNat = false := by simpa using hL
          clear hL
          by_cases hD : digB s[k].toNat = true
          · go_wp2_with (first | (go_at_call 192; refine (letterS _ _).mono ?_; rintro e w' ⟨rfl, rfl⟩) | (go_at_call 141; refine (digitS _ _).mono ?_; rintro e w' ⟨rfl, rfl⟩))
            go_round
            case rel => exact ⟨k + 1, by omega, by omega, by go_num, by have := hr.out; rw [okFrom_step s k hlt, chB, hL', hD] at this; show okFrom s 1 = okFrom s (k + 1); simpa using this⟩
            case measure => simp [intOf]; omega
          · have hD' : digB s[k].toNat = false := by simpa using hD
            clear hD
            have hf : Hid (wordB s = false) := by
              have := hr.out; rw [okFrom_step s k hlt, chB, hL', hD'] at this
              show wordB s = false
              rw [hw.out, this]; rfl
            go_wp2_with (first | (go_at_call 192; refine (letterS _ _).mono ?_; rintro e w' ⟨rfl, rfl⟩) | (go_at_call 141; refine (digitS _ _).mono ?_; rintro e w' ⟨rfl, rfl⟩))
            go_ret
            exact ⟨ret_bool hf.out.symm, rfl⟩
      · have hf : Hid (wordB s = true) := by
          show wordB s = true
          rw [hw.out, hr.out, okFrom_end s k (by omega)]
        go_wp2
        go_ret
        exact ⟨ret_bool hf.out.symm, rfl⟩
  · have hl' : letB s[0].toNat = false := by simpa using hl
    clear hl
    have hw : Hid (wordB s = false) := by show wordB s = false; unfold wordB; rw [hhead, hl']; simp
    clear hhead
    go_enter Tryz.func167, Tryz.ntmps167
    go_wp2_with (go_at_call 192; refine (letterS _ _).mono ?_; rintro e w' ⟨rfl, rfl⟩)
    go_ret
    exact ⟨ret_bool hw.out.symm, rfl⟩
theorem specNameOK (s : ByteArray) (w : World) (hs : s.size ≤ maxLen) : Calls Tryz.prog 134 #[.string s] w fun e w' => e = .returned (.bool (wordB s)) ∧ w = w' := by
  go_enter Tryz.func134, Tryz.ntmps134
  go_wp2_with (go_at_call 167; refine (l00Word _ _ hs).mono ?_; rintro e w' ⟨rfl, rfl⟩)
  go_ret
  exact ⟨rfl, rfl⟩
def shortB (s : ByteArray) : Bool := wordB s && decide (s.size ≤ 8)
theorem shortName (s : ByteArray) (w : World) (hs : s.size ≤ maxLen) : Calls Tryz.prog 127 #[.string s] w fun e w' => e = .returned (.bool (shortB s)) ∧ w = w' := by
  obtain ⟨b, hb⟩ : ∃ b, wordB s = b := ⟨_, rfl⟩
  have HB : Hid (shortB s = (b && decide (s.size ≤ 8))) := by show _ = _; unfold shortB; rw [hb]
  have HC : Calls Tryz.prog 152 #[.string s] w fun e w' => e = .returned (.bool b) ∧ w = w' := by rw [← hb]; exact implNameOK s w hs
  clear hb
  go_enter Tryz.func127, Tryz.ntmps127
  go_wp2_with (go_at_call 152; refine HC.mono ?_; rintro e w' ⟨rfl, rfl⟩; cases b)
  all_goals
    go_ret
    exact ⟨ret_bool (by rw [HB.out]; first | (simp; done) | (simp; omega)), rfl⟩
theorem l04Name (s : ByteArray) (w : World) (hs : s.size ≤ maxLen) : Calls Tryz.prog 89 #[.string s] w fun e w' => e = .returned (.bool (shortB s)) ∧ w = w' := by
  obtain ⟨b, hb⟩ : ∃ b, wordB s = b := ⟨_, rfl⟩
  have HB : Hid (shortB s = (b && decide (s.size ≤ 8))) := by show _ = _; unfold shortB; rw [hb]
  have HC : Calls Tryz.prog 134 #[.string s] w fun e w' => e = .returned (.bool b) ∧ w = w' := by rw [← hb]; exact specNameOK s w hs
  clear hb
  by_cases h8 : s.size ≤ 8
  · have h8' : decide ((s.size : Int) ≤ 8) = true := decide_eq_true (by omega)
    go_enter Tryz.func89, Tryz.ntmps89
    go_wp2_with (go_at_call 134; refine HC.mono ?_; rintro e w' ⟨rfl, rfl⟩)
    go_ret
    exact ⟨ret_bool (by rw [HB.out]; simp [h8]), rfl⟩
  · have h8' : decide ((s.size : Int) ≤ 8) = false := decide_eq_false (by omega)
    go_enter Tryz.func89, Tryz.ntmps89
    go_wp2_with fail
    go_ret
    exact ⟨ret_bool (by rw [HB.out]; simp [h8]), rfl⟩
end Go.Proofs.YthgbclipknfmjaaGreatDoor
namespace Go.Proofs.YthgbclipknfmjaaGreatDoor
open Go.ChangeShapes Go.WideShapes Go.ChangeAt Go.RowKit Go.Deep Go.Lib
set_option linter.unusedVariables false
set_option maxRecDepth 100000

theorem ret_num {a b : Int} {k l : Bool} (h1 : a = b) (h2 : k = l) : Ending.returned (.tuple #[.int .i64 a, .bool k]) = .returned (.tuple #[.int .i64 b, .bool l]) := by rw [h1, h2]
theorem w64b (c : UInt8) : wrap64 (c.toNat : Int) = (c.toNat : Int) := by
  have := c.toNat_lt
  unfold wrap64
  omega
theorem bytes_drop (q : ByteArray) (k : Nat) (h : k < q.size) : q.data.toList.drop k = q[k] :: q.data.toList.drop (k + 1) := by
  rw [List.drop_eq_getElem_cons (by simpa using h)]
  rfl
theorem bytes_head (q : ByteArray) (h : 0 < q.size) : q.data.toList = q[0] :: q.data.toList.drop 1 := bytes_drop q 0 h
theorem bytes_end (q : ByteArray) (k : Nat) (h : q.size ≤ k) : q.data.toList.drop k = [] := List.drop_of_length_le (by simpa using h)
theorem bytes_len (q : ByteArray) : q.data.toList.length = q.size := by simp
theorem dec_yes {u : Nat} {b : UInt8} {r : List UInt8} (h1 : 48 ≤ b.toNat) (h2 : b.toNat ≤ 57) : decFrom u (b :: r) = decFrom (u * 10 + (b.toNat - 48)) r := by
  simp only [decFrom, digitVal, if_pos (And.intro h1 h2)]
theorem dec_no {u : Nat} {b : UInt8} {r : List UInt8} (h : ¬ (48 ≤ b.toNat ∧ b.toNat ≤ 57)) : decFrom u (b :: r) = none := by
  simp only [decFrom, digitVal, if_neg h]
theorem num_extract (s : ByteArray) (h : 0 < s.size) : (s.extract 1 s.size).data.toList = s.data.toList.drop 1 := by
  simp only [ByteArray.data_extract, Array.toList_extract, List.extract_eq_drop_take']
  rw [← bytes_len s, List.take_of_length_le (Nat.le_refl _)]

set_option maxHeartbeats 4000000 in
theorem specNumNeg (s : ByteArray) (R : Option Int) (w : World) (hs : s.size ≤ 9223372036854775807) (h0p : 0 < s.size) (hc : s[0] = 45) (HR : Hid (numB s.data.toList = R)) : Calls Tryz.prog 117 #[.string s] w fun e w' => e = .returned (.tuple #[.int .i64 (R.getD 0), .bool R.isSome]) ∧ w' = w := by
  have h0s : (0 : Int) < (s.size : Int) := by omega
  obtain ⟨q, hqe⟩ : ∃ q, s.extract 1 s.size = q := ⟨_, rfl⟩
  have HQ : Hid (s.extract 1 s.size = q) := hqe
  have HM : Hid (R = magB true q.data.toList) := by
    show _ = _
    rw [← HR.out, ← hqe, num_extract s h0p, bytes_head s h0p]
    show (if s[0] = 45 then magB true (s.data.toList.drop 1) else magB false (s[0] :: s.data.toList.drop 1)) = _
    rw [if_pos hc]
    rfl
  have hq : q.size ≤ 9223372036854775807 := by rw [← hqe, ByteArray.size_extract]; omega
  have hc2 : (s[0].toNat : Int) = 45 := by rw [hc]; rfl
  have hc3 : ((s[0].toNat : Int) == 45) = true := by rw [hc2]; rfl
  clear hc HR hqe
  go_enter Tryz.func117, Tryz.ntmps117
  go_upto_region 5 with fail
  rw [HQ.out]
  clear HQ hc2 hc3 h0s h0p hs
  by_cases h0 : q.size = 0
  · have HN : Hid (R = none) := by
      show _ = _
      rw [HM.out]
      unfold magB
      rw [if_pos (.inl (by rw [← List.length_eq_zero_iff, bytes_len]; exact h0))]
    have h0i : ((q.size : Int) == 0) = true := by rw [h0]; rfl
    clear HM
    go_wp2_with fail
    go_ret2
    exact ⟨by rw [HN.out]; rfl, rfl⟩
  have h0p : 0 < q.size := by omega
  have h0i : ((q.size : Int) == 0) = false := beq_eq_false_iff_ne.2 (by omega)
  by_cases h18 : 18 < q.size
  · have HN : Hid (R = none) := by
      show _ = _
      rw [HM.out]
      unfold magB
      rw [if_pos (.inr (.inl (by rw [bytes_len]; exact h18)))]
    have h18i : (18 : Int) < (q.size : Int) := by omega
    clear HM
    go_wp2_with fail
    go_ret2
    exact ⟨by rw [HN.out]; rfl, rfl⟩
  have h18i : ¬ (18 : Int) < (q.size : Int) := by omega
  obtain ⟨bad, hbad⟩ : ∃ bad : Bool, bad = (q[0].toNat == 48 && (decide (1 < q.size) || true)) := ⟨_, rfl⟩
  cases bad with
  | true =>
    have hb := hbad.symm
    rw [Bool.and_eq_true, beq_iff_eq, Bool.or_eq_true, decide_eq_true_eq] at hb
    obtain ⟨hb1, hb2⟩ := hb
    have HN : Hid (R = none) := by
      show _ = _
      rw [HM.out]
      unfold magB
      rw [if_pos (.inr (.inr ⟨by rw [bytes_head q h0p]; show some q[0] = some 48; rw [show q[0] = (48 : UInt8) from UInt8.toNat_inj.1 hb1], by rw [bytes_len]; exact hb2⟩))]
    have c48 : ((q[0].toNat : Int) == 48) = true := by rw [hb1]; rfl
    clear HM hbad
    rcases hb2 with hb2 | hb2
    · have h1i : (1 : Int) < (q.size : Int) := by omega
      go_wp2_with fail
      go_ret2
      exact ⟨by rw [HN.out]; rfl, rfl⟩
    · by_cases h1i : (1 : Int) < (q.size : Int)
      · go_wp2_with fail
        go_ret2
        exact ⟨by rw [HN.out]; rfl, rfl⟩
      · go_wp2_with fail
        go_ret2
        exact ⟨by rw [HN.out]; rfl, rfl⟩
  | false =>
    have HG : Hid (R = (decFrom 0 q.data.toList).map (fun u : Nat => if true = true then -(u : Int) else (u : Int))) := by
      show _ = _
      rw [HM.out]
      unfold magB
      rw [if_neg ?_]
      rintro (h9 | h9 | ⟨h9, h8⟩)
      · rw [← List.length_eq_zero_iff, bytes_len] at h9; omega
      · rw [bytes_len] at h9; omega
      · rw [bytes_head q h0p] at h9
        have h7 : q[0] = (48 : UInt8) := by simpa using h9
        rw [bytes_len] at h8
        have : (q[0].toNat == 48 && (decide (1 < q.size) || true)) = true := by
          rw [Bool.and_eq_true, beq_iff_eq, Bool.or_eq_true, decide_eq_true_eq]
          exact ⟨by rw [h7]; rfl, h8⟩
        rw [this] at hbad
        cases hbad
    have HCASE : Hid (¬ q[0].toNat = 48 ∨ (q.size = 1 ∧ true = false)) := by
      show _ ∨ _
      by_cases h9 : q[0].toNat = 48
      · right
        have h8 := hbad.symm
        rw [h9] at h8
        simp only [beq_self_eq_true, Bool.true_and, Bool.or_eq_false_iff, decide_eq_false_iff_not] at h8
        exact ⟨by omega, h8.2⟩
      · exact .inl h9
    clear HM hbad
    have h9 : ¬ q[0].toNat = 48 := by
      rcases HCASE.out with h9 | ⟨_, h9⟩
      · exact h9
      · cases h9
    have c48 : ((q[0].toNat : Int) == 48) = false := beq_eq_false_iff_ne.2 (by omega)
    clear HCASE
    go_wp2_with fail
    go_loopw [5, 6] (fun nv iv wr => ∃ (k u : Nat), k ≤ q.size ∧ nv = .int .i64 (u : Int) ∧ iv = .int .i64 (k : Int) ∧ Hid (u < 10 ^ k) ∧ Hid (decFrom 0 q.data.toList = decFrom u (q.data.toList.drop k)) ∧ wr = w) (fun _ i _ => q.size - (RowKit.intOf i).toNat)
    case atStart => exact ⟨0, 0, by omega, rfl, rfl, by show 0 < 10 ^ 0; omega, rfl, rfl⟩
    case round =>
      obtain ⟨k, u, hk, rfl, rfl, hu, hd, rfl⟩ := hrel
      by_cases hlt : k < q.size
      · have hlti : (k : Int) < (q.size : Int) := by omega
        have hu2 : (u : Int) ≤ 99999999999999999 := by
          have h17 : 10 ^ k ≤ 10 ^ 17 := Nat.pow_le_pow_right (by omega) (by omega)
          have := hu.out
          omega
        have hu0 : (0 : Int) ≤ (u : Int) := by omega
        have HD2 : Hid (decFrom 0 q.data.toList = decFrom u (q[k] :: q.data.toList.drop (k + 1))) := by show _ = _; rw [hd.out, bytes_drop q k hlt]
        have hcl := (q[k]).toNat_lt
        by_cases l48 : (q[k].toNat : Int) < 48
        · have HN : Hid (R = none) := by show _ = _; rw [HG.out, HD2.out, dec_no (by omega)]; rfl
          clear HG HD2 hd
          go_wp2_with fail
          go_ret2
          exact ⟨by rw [HN.out]; rfl, rfl⟩
        by_cases g57 : (57 : Int) < (q[k].toNat : Int)
        · have HN : Hid (R = none) := by show _ = _; rw [HG.out, HD2.out, dec_no (by omega)]; rfl
          clear HG HD2 hd
          go_wp2_with fail
          go_ret2
          exact ⟨by rw [HN.out]; rfl, rfl⟩
        have HN2 : Hid (decFrom 0 q.data.toList = decFrom (u * 10 + (q[k].toNat - 48)) (q.data.toList.drop (k + 1))) := by show _ = _; rw [HD2.out, dec_yes (by omega) (by omega)]
        have HU : Hid (u * 10 + (q[k].toNat - 48) < 10 ^ (k + 1)) := by
          show _ < _
          have := hu.out
          rw [Nat.pow_succ]
          omega
        have hw := w64b q[k]
        clear HD2 hd hu
        go_wp2_with fail
        exact ⟨⟨k + 1, u * 10 + (q[k].toNat - 48), by omega, by congr 1; omega, by go_num, HU.out, HN2.out, trivial⟩, by simp [RowKit.intOf]; omega⟩
      · have hkn : k = q.size := by omega
        have HN : Hid (R = some (if true = true then -(u : Int) else (u : Int))) := by
          show _ = _
          rw [HG.out, hd.out, bytes_end q k (by omega)]
          rfl
        have hu2 : (u : Int) ≤ 1000000000000000000 := by
          have h18 : 10 ^ k ≤ 10 ^ 18 := Nat.pow_le_pow_right (by omega) (by omega)
          have := hu.out
          omega
        clear HG hd hu hkn
        go_wp2_with fail
        go_ret2
        exact ⟨by rw [HN.out]; exact ret_num (by show _ = -(u : Int); omega) rfl, rfl⟩

set_option maxHeartbeats 4000000 in
theorem specNumPos (s : ByteArray) (R : Option Int) (w : World) (hs : s.size ≤ 9223372036854775807) (h0p : 0 < s.size) (hc : s[0] ≠ 45) (HR : Hid (numB s.data.toList = R)) : Calls Tryz.prog 117 #[.string s] w fun e w' => e = .returned (.tuple #[.int .i64 (R.getD 0), .bool R.isSome]) ∧ w' = w := by
  have h0s : (0 : Int) < (s.size : Int) := by omega
  have HM0 : Hid (R = magB false s.data.toList) := by
    show _ = _
    rw [← HR.out, bytes_head s h0p]
    show (if s[0] = 45 then magB true (s.data.toList.drop 1) else magB false (s[0] :: s.data.toList.drop 1)) = _
    rw [if_neg hc]
  have hc2 : ¬ (s[0].toNat : Int) = 45 := fun h9 => hc (UInt8.toNat_inj.1 (by have : (45 : UInt8).toNat = 45 := rfl; omega))
  have hc3 : ((s[0].toNat : Int) == 45) = false := beq_eq_false_iff_ne.2 hc2
  clear hc HR
  go_enter Tryz.func117, Tryz.ntmps117
  go_upto_region 5 with fail
  have HM := HM0
  have hq := hs
  clear HM0 hc2 hc3 h0s hs
  by_cases h0 : s.size = 0
  · have HN : Hid (R = none) := by
      show _ = _
      rw [HM.out]
      unfold magB
      rw [if_pos (.inl (by rw [← List.length_eq_zero_iff, bytes_len]; exact h0))]
    have h0i : ((s.size : Int) == 0) = true := by rw [h0]; rfl
    clear HM
    go_wp2_with fail
    go_ret2
    exact ⟨by rw [HN.out]; rfl, rfl⟩
  have h0i : ((s.size : Int) == 0) = false := beq_eq_false_iff_ne.2 (by omega)
  by_cases h18 : 18 < s.size
  · have HN : Hid (R = none) := by
      show _ = _
      rw [HM.out]
      unfold magB
      rw [if_pos (.inr (.inl (by rw [bytes_len]; exact h18)))]
    have h18i : (18 : Int) < (s.size : Int) := by omega
    clear HM
    go_wp2_with fail
    go_ret2
    exact ⟨by rw [HN.out]; rfl, rfl⟩
  have h18i : ¬ (18 : Int) < (s.size : Int) := by omega
  obtain ⟨bad, hbad⟩ : ∃ bad : Bool, bad = (s[0].toNat == 48 && (decide (1 < s.size) || false)) := ⟨_, rfl⟩
  cases bad with
  | true =>
    have hb := hbad.symm
    rw [Bool.and_eq_true, beq_iff_eq, Bool.or_eq_true, decide_eq_true_eq] at hb
    obtain ⟨hb1, hb2⟩ := hb
    have HN : Hid (R = none) := by
      show _ = _
      rw [HM.out]
      unfold magB
      rw [if_pos (.inr (.inr ⟨by rw [bytes_head s h0p]; show some s[0] = some 48; rw [show s[0] = (48 : UInt8) from UInt8.toNat_inj.1 hb1], by rw [bytes_len]; exact hb2⟩))]
    have c48 : ((s[0].toNat : Int) == 48) = true := by rw [hb1]; rfl
    clear HM hbad
    rcases hb2 with hb2 | hb2
    · have h1i : (1 : Int) < (s.size : Int) := by omega
      go_wp2_with fail
      go_ret2
      exact ⟨by rw [HN.out]; rfl, rfl⟩
    · cases hb2
  | false =>
    have HG : Hid (R = (decFrom 0 s.data.toList).map (fun u : Nat => if false = true then -(u : Int) else (u : Int))) := by
      show _ = _
      rw [HM.out]
      unfold magB
      rw [if_neg ?_]
      rintro (h9 | h9 | ⟨h9, h8⟩)
      · rw [← List.length_eq_zero_iff, bytes_len] at h9; omega
      · rw [bytes_len] at h9; omega
      · rw [bytes_head s h0p] at h9
        have h7 : s[0] = (48 : UInt8) := by simpa using h9
        rw [bytes_len] at h8
        have : (s[0].toNat == 48 && (decide (1 < s.size) || false)) = true := by
          rw [Bool.and_eq_true, beq_iff_eq, Bool.or_eq_true, decide_eq_true_eq]
          exact ⟨by rw [h7]; rfl, h8⟩
        rw [this] at hbad
        cases hbad
    have HCASE : Hid (¬ s[0].toNat = 48 ∨ (s.size = 1 ∧ false = false)) := by
      show _ ∨ _
      by_cases h9 : s[0].toNat = 48
      · right
        have h8 := hbad.symm
        rw [h9] at h8
        simp only [beq_self_eq_true, Bool.true_and, Bool.or_eq_false_iff, decide_eq_false_iff_not] at h8
        exact ⟨by omega, rfl⟩
      · exact .inl h9
    clear HM hbad
    by_cases h48 : s[0].toNat = 48
    · have c48 : ((s[0].toNat : Int) == 48) = true := by rw [h48]; rfl
      have h1i : ¬ (1 : Int) < (s.size : Int) := by
        rcases HCASE.out with h9 | ⟨h9, _⟩
        · exact absurd h48 h9
        · omega
      clear HCASE
      go_wp2_with fail
      go_loopw [5, 6] (fun nv iv wr => ∃ (k u : Nat), k ≤ s.size ∧ nv = .int .i64 (u : Int) ∧ iv = .int .i64 (k : Int) ∧ Hid (u < 10 ^ k) ∧ Hid (decFrom 0 s.data.toList = decFrom u (s.data.toList.drop k)) ∧ wr = w) (fun _ i _ => s.size - (RowKit.intOf i).toNat)
      case atStart => exact ⟨0, 0, by omega, rfl, rfl, by show 0 < 10 ^ 0; omega, rfl, rfl⟩
      case round =>
        obtain ⟨k, u, hk, rfl, rfl, hu, hd, rfl⟩ := hrel
        by_cases hlt : k < s.size
        · have hlti : (k : Int) < (s.size : Int) := by omega
          have hu2 : (u : Int) ≤ 99999999999999999 := by
            have h17 : 10 ^ k ≤ 10 ^ 17 := Nat.pow_le_pow_right (by omega) (by omega)
            have := hu.out
            omega
          have hu0 : (0 : Int) ≤ (u : Int) := by omega
          have HD2 : Hid (decFrom 0 s.data.toList = decFrom u (s[k] :: s.data.toList.drop (k + 1))) := by show _ = _; rw [hd.out, bytes_drop s k hlt]
          have hcl := (s[k]).toNat_lt
          by_cases l48 : (s[k].toNat : Int) < 48
          · have HN : Hid (R = none) := by show _ = _; rw [HG.out, HD2.out, dec_no (by omega)]; rfl
            clear HG HD2 hd
            go_wp2_with fail
            go_ret2
            exact ⟨by rw [HN.out]; rfl, rfl⟩
          by_cases g57 : (57 : Int) < (s[k].toNat : Int)
          · have HN : Hid (R = none) := by show _ = _; rw [HG.out, HD2.out, dec_no (by omega)]; rfl
            clear HG HD2 hd
            go_wp2_with fail
            go_ret2
            exact ⟨by rw [HN.out]; rfl, rfl⟩
          have HN2 : Hid (decFrom 0 s.data.toList = decFrom (u * 10 + (s[k].toNat - 48)) (s.data.toList.drop (k + 1))) := by show _ = _; rw [HD2.out, dec_yes (by omega) (by omega)]
          have HU : Hid (u * 10 + (s[k].toNat - 48) < 10 ^ (k + 1)) := by
            show _ < _
            have := hu.out
            rw [Nat.pow_succ]
            omega
          have hw := w64b s[k]
          clear HD2 hd hu
          go_wp2_with fail
          exact ⟨⟨k + 1, u * 10 + (s[k].toNat - 48), by omega, by congr 1; omega, by go_num, HU.out, HN2.out, trivial⟩, by simp [RowKit.intOf]; omega⟩
        · have hkn : k = s.size := by omega
          have HN : Hid (R = some (if false = true then -(u : Int) else (u : Int))) := by
            show _ = _
            rw [HG.out, hd.out, bytes_end s k (by omega)]
            rfl
          have hu2 : (u : Int) ≤ 1000000000000000000 := by
            have h18 : 10 ^ k ≤ 10 ^ 18 := Nat.pow_le_pow_right (by omega) (by omega)
            have := hu.out
            omega
          clear HG hd hu hkn
          go_wp2_with fail
          go_ret2
          exact ⟨by rw [HN.out]; exact ret_num (by show _ = (u : Int); omega) rfl, rfl⟩
    · have c48 : ((s[0].toNat : Int) == 48) = false := beq_eq_false_iff_ne.2 (by omega)
      clear HCASE
      go_wp2_with fail
      go_loopw [5, 6] (fun nv iv wr => ∃ (k u : Nat), k ≤ s.size ∧ nv = .int .i64 (u : Int) ∧ iv = .int .i64 (k : Int) ∧ Hid (u < 10 ^ k) ∧ Hid (decFrom 0 s.data.toList = decFrom u (s.data.toList.drop k)) ∧ wr = w) (fun _ i _ => s.size - (RowKit.intOf i).toNat)
      case atStart => exact ⟨0, 0, by omega, rfl, rfl, by show 0 < 10 ^ 0; omega, rfl, rfl⟩
      case round =>
        obtain ⟨k, u, hk, rfl, rfl, hu, hd, rfl⟩ := hrel
        by_cases hlt : k < s.size
        · have hlti : (k : Int) < (s.size : Int) := by omega
          have hu2 : (u : Int) ≤ 99999999999999999 := by
            have h17 : 10 ^ k ≤ 10 ^ 17 := Nat.pow_le_pow_right (by omega) (by omega)
            have := hu.out
            omega
          have hu0 : (0 : Int) ≤ (u : Int) := by omega
          have HD2 : Hid (decFrom 0 s.data.toList = decFrom u (s[k] :: s.data.toList.drop (k + 1))) := by show _ = _; rw [hd.out, bytes_drop s k hlt]
          have hcl := (s[k]).toNat_lt
          by_cases l48 : (s[k].toNat : Int) < 48
          · have HN : Hid (R = none) := by show _ = _; rw [HG.out, HD2.out, dec_no (by omega)]; rfl
            clear HG HD2 hd
            go_wp2_with fail
            go_ret2
            exact ⟨by rw [HN.out]; rfl, rfl⟩
          by_cases g57 : (57 : Int) < (s[k].toNat : Int)
          · have HN : Hid (R = none) := by show _ = _; rw [HG.out, HD2.out, dec_no (by omega)]; rfl
            clear HG HD2 hd
            go_wp2_with fail
            go_ret2
            exact ⟨by rw [HN.out]; rfl, rfl⟩
          have HN2 : Hid (decFrom 0 s.data.toList = decFrom (u * 10 + (s[k].toNat - 48)) (s.data.toList.drop (k + 1))) := by show _ = _; rw [HD2.out, dec_yes (by omega) (by omega)]
          have HU : Hid (u * 10 + (s[k].toNat - 48) < 10 ^ (k + 1)) := by
            show _ < _
            have := hu.out
            rw [Nat.pow_succ]
            omega
          have hw := w64b s[k]
          clear HD2 hd hu
          go_wp2_with fail
          exact ⟨⟨k + 1, u * 10 + (s[k].toNat - 48), by omega, by congr 1; omega, by go_num, HU.out, HN2.out, trivial⟩, by simp [RowKit.intOf]; omega⟩
        · have hkn : k = s.size := by omega
          have HN : Hid (R = some (if false = true then -(u : Int) else (u : Int))) := by
            show _ = _
            rw [HG.out, hd.out, bytes_end s k (by omega)]
            rfl
          have hu2 : (u : Int) ≤ 1000000000000000000 := by
            have h18 : 10 ^ k ≤ 10 ^ 18 := Nat.pow_le_pow_right (by omega) (by omega)
            have := hu.out
            omega
          clear HG hd hu hkn
          go_wp2_with fail
          go_ret2
          exact ⟨by rw [HN.out]; exact ret_num (by show _ = (u : Int); omega) rfl, rfl⟩

theorem l00NumberS (s : ByteArray) (w : World) (hs : s.size ≤ maxLen) : Calls Tryz.prog 117 #[.string s] w fun e w' => e = .returned (.tuple #[.int .i64 ((numB s.data.toList).getD 0), .bool (numB s.data.toList).isSome]) ∧ w' = w := by
  unfold maxLen at hs
  by_cases h0 : s.size = 0
  · have he : s.data.toList = [] := by rw [← List.length_eq_zero_iff, bytes_len]; exact h0
    rw [he]
    have h0i : ¬ (0 : Int) < (s.size : Int) := by omega
    have h0j : ((s.size : Int) == 0) = true := by rw [h0]; rfl
    go_enter Tryz.func117, Tryz.ntmps117
    go_wp2_with fail
    go_ret2
    exact ⟨rfl, rfl⟩
  · by_cases hc : s[0] = 45
    · exact specNumNeg s _ w hs (by omega) hc rfl
    · exact specNumPos s _ w hs (by omega) hc rfl
end Go.Proofs.YthgbclipknfmjaaGreatDoor
