
/-
  Contracts of the two functions PairsOK: both give one Bool of the pairs. By an AI agent.
-/
import Derived.Test.YtmbndpgoihdpnaaGreatDoorPairs0
namespace Go.Proofs.YtmbndpgoihdpnaaGreatDoor
open Go.ChangeShapes Go.WideShapes Go.ChangeAt Go.RowKit Go.Deep
set_option linter.unusedVariables false

theorem cell_later {w wx : World} {a : Addr} {v : Value} (hb : Below w.heap.size w wx) (h : w.cell? a = some v) : wx.cell? a = some v := (hb.cell (World.block_lt_of_cell? _ _ h)).trans h
def keyB (x : ByteArray) : Bool := decide (1 ≤ (x.size : Int)) && decide ((x.size : Int) ≤ 30)
def fitB (x y : ByteArray) : Bool := keyB x && decide ((y.size : Int) ≤ 90)
def riseB (f : Nat → ByteArray) (i : Nat) : Bool := decide (i = 0) || Op.bytesLess (f (i - 1)).toList (f i).toList
def goodB (f g : Nat → ByteArray) (i : Nat) : Bool := fitB (f i) (g i) && riseB f i
def pairsB (f g : Nat → ByteArray) (n : Nat) : Bool := decide (n ≤ 60) && (List.range n).all (goodB f g)

theorem pairsB_many (f g : Nat → ByteArray) (n : Nat) (h : 60 < n) : pairsB f g n = false := by
  unfold pairsB; rw [decide_eq_false (by omega)]; rfl
theorem pairsB_bad (f g : Nat → ByteArray) (n k : Nat) (hk : k < n) (h : goodB f g k = false) : pairsB f g n = false := by
  unfold pairsB
  have : (List.range n).all (goodB f g) = false := by
    rw [List.all_eq_false]
    exact ⟨k, List.mem_range.2 hk, by rw [h]; decide⟩
  rw [this, Bool.and_false]
theorem pairsB_good (f g : Nat → ByteArray) (n : Nat) (hn : n ≤ 60) (h : ∀ k, k < n → goodB f g k = true) : pairsB f g n = true := by
  unfold pairsB
  rw [decide_eq_true hn, Bool.true_and, List.all_eq_true]
  exact fun k hk => h k (List.mem_range.1 hk)
theorem ret_bool {a b : Bool} (h : a = b) : Ending.returned (.bool a) = .returned (.bool b) := by rw [h]
theorem next_good {f g : Nat → ByteArray} {k : Nat} (h : ∀ j, j < k → goodB f g j = true) (hk : goodB f g k = true) : ∀ j, j < k + 1 → goodB f g j = true := fun j hj => by
  by_cases e : j = k
  · rw [e]; exact hk
  · exact h j (by omega)

theorem keyFits (x : ByteArray) (w : World) (hx : x.size ≤ maxLen) : Calls Tryz.prog 73 #[.string x] w fun e w' => e = .returned (.bool (keyB x)) ∧ w = w' := by
  unfold maxLen at hx
  go_enter Tryz.func73, Tryz.ntmps73
  go_wp2
  all_goals
    go_ret
    exact ⟨ret_bool (by rw [Bool.eq_iff_iff]; simp [keyB]; omega), rfl⟩

theorem l01In (a b c : Int) (w : World) : Calls Tryz.prog 69 #[.int .i64 a, .int .i64 b, .int .i64 c] w fun e w' => e = .returned (.bool (decide (b ≤ a) && decide (a ≤ c))) ∧ w = w' := by
  go_enter Tryz.func69, Tryz.ntmps69
  go_wp2
  all_goals
    go_ret
    exact ⟨ret_bool (by rw [Bool.eq_iff_iff]; simp; omega), rfl⟩

set_option maxHeartbeats 400000 in
theorem l01Pair (x y : ByteArray) (w : World) (hx : x.size ≤ maxLen) (hy : y.size ≤ maxLen) : Calls Tryz.prog 67 #[.agg #[.string x, .string y]] w fun e w' => e = .returned (.bool (fitB x y)) ∧ Below w.heap.size w w' := by
  unfold maxLen at hx hy
  by_cases hk : (decide (1 ≤ (x.size : Int)) && decide ((x.size : Int) ≤ 30)) = true
  · have hf : Hid (fitB x y = decide ((y.size : Int) ≤ 90)) := by show fitB x y = _; unfold fitB keyB; rw [hk]; rfl
    go_enter Tryz.func67, Tryz.ntmps67
    go_wp2_with (go_at_call 69; refine (l01In _ _ _ _).mono ?_; rintro e w' ⟨rfl, rfl⟩)
    all_goals
      go_ret
      exact ⟨ret_bool (by rw [hf.out]), (Below.refl _ _).alloc (Nat.le_refl _) _⟩
  · have hk' : (decide (1 ≤ (x.size : Int)) && decide ((x.size : Int) ≤ 30)) = false := by simpa using hk
    clear hk
    have hf : Hid (fitB x y = false) := by show fitB x y = _; unfold fitB keyB; rw [hk']; rfl
    go_enter Tryz.func67, Tryz.ntmps67
    go_wp2_with (go_at_call 69; refine (l01In _ _ _ _).mono ?_; rintro e w' ⟨rfl, rfl⟩)
    all_goals
      go_ret
      exact ⟨ret_bool (by rw [hf.out]), (Below.refl _ _).alloc (Nat.le_refl _) _⟩

theorem l01PairIs (b : Bool) (x y : ByteArray) (w : World) (h : fitB x y = b) (hx : x.size ≤ maxLen) (hy : y.size ≤ maxLen) : Calls Tryz.prog 67 #[.agg #[.string x, .string y]] w fun e w' => e = .returned (.bool b) ∧ Below w.heap.size w w' := by
  rw [← h]; exact l01Pair x y w hx hy
theorem keyFitsIs (b : Bool) (x : ByteArray) (w : World) (h : keyB x = b) (hx : x.size ≤ maxLen) : Calls Tryz.prog 73 #[.string x] w fun e w' => e = .returned (.bool b) ∧ w = w' := by
  rw [← h]; exact keyFits x w hx

set_option maxHeartbeats 1000000 in
theorem specPairsOK (a : Option Addr) (n c : Nat) (f g : Nat → ByteArray) (w : World) (hn : n ≤ 1048576) (hs : ∀ i, i < n → (f i).size ≤ 1048576 ∧ (g i).size ≤ 1048576) (h : Sp w a n f g) :
    Calls Tryz.prog 37 #[.slice a n c] w fun e w' => e = .returned (.bool (pairsB f g n)) ∧ Below w.heap.size w w' := by
  by_cases h1 : 4096 < n
  · have e : Hid (pairsB f g n = false) := pairsB_many f g n (by omega)
    clear h hs
    go_enter Tryz.func37, Tryz.ntmps37
    go_wp2_with fail
    go_ret
    exact ⟨ret_bool e.out.symm, Below.refl _ _⟩
  by_cases h2 : 60 < n
  · have e : Hid (pairsB f g n = false) := pairsB_many f g n (by omega)
    clear h hs
    go_enter Tryz.func37, Tryz.ntmps37
    go_wp2_with fail
    go_ret
    exact ⟨ret_bool e.out.symm, Below.refl _ _⟩
  have HS : Hid (∀ i, i < n → (f i).size ≤ 1048576 ∧ (g i).size ≤ 1048576) := hs
  have HH : Hid (Sp w a n f g) := h
  clear hs h
  go_enter Tryz.func37, Tryz.ntmps37
  go_wp2_with fail
  go_loopw [3] (fun i wr => ∃ k : Nat, k ≤ n ∧ i = .int .i64 k ∧ Hid (∀ j, j < k → goodB f g j = true) ∧ Hid (Below w.heap.size w wr)) (fun i _ => n - (intOf i).toNat)
  case atStart => exact ⟨0, by omega, rfl, fun j hj => absurd hj (by omega), Below.refl _ _⟩
  case round =>
    obtain ⟨k, hk, rfl, hg, hb⟩ := hrel
    by_cases hlt : k < n
    · rcases HH.out.below hb.out with h1 | ⟨b, off, rfl, hc⟩
      · omega
      obtain ⟨hc1, hc2⟩ := hc k hlt
      have hsx : (f k).size ≤ maxLen := by have := (HS.out k hlt).1; unfold maxLen; omega
      have hsy : (g k).size ≤ maxLen := by have := (HS.out k hlt).2; unfold maxLen; omega
      have SX : Hid ((f k).size ≤ maxLen) := hsx
      have SY : Hid ((g k).size ≤ maxLen) := hsy
      clear hsx hsy
      have hk0 : (0 : Int) ≤ (k : Int) := by omega
      have hki : (k : Int) < (n : Int) := by omega
      by_cases hfit : fitB (f k) (g k) = true
      · by_cases hz : k = 0
        · have hgood : Hid (goodB f g k = true) := by show goodB f g k = true; unfold goodB riseB; rw [hfit, decide_eq_true hz]; rfl
          have HF : Hid (fitB (f k) (g k) = true) := hfit
          have HZ : Hid (k = 0) := hz
          clear hc hz hfit
          go_wp2_with fail
          refine wp_region_any (by kernel_rfl) ?_
          change wpAny _ _ _ _ _ _ _ (World.drew _)
          refine reg_take 0 16 (.slice (some ⟨b, off, none⟩) n c) rfl rfl (by kernel_rfl) (by kernel_rfl) (by kernel_rfl) (fun _ _ _ _ _ h => h) (by kernel_rfl) (by intro w; go_simp) ?_
          refine reg_take 1 17 (.int .i64 (k : Int)) rfl rfl (by kernel_rfl) (by kernel_rfl) (by kernel_rfl) (fun _ _ _ _ _ h => h) (by kernel_rfl) (by intro w; go_simp) ?_
          refine reg_take 2 18 (.pointer (some ⟨b, off + k * 2, none⟩)) rfl rfl (by kernel_rfl) (by kernel_rfl) (by kernel_rfl) (fun _ _ _ _ _ h => h) (by kernel_rfl) (by intro w; go_simp) ?_
          refine wpAny_ready (rs := [3]) (by kernel_rfl) (by simp) ?_
          refine AllReady.cons rfl (fun K hK => ?_) AllReady.nil
          go_simp
          refine hK _ _ ?_
          clear hK K
          refine wpAny_ready (rs := [4]) (by kernel_rfl) (by simp) ?_
          refine AllReady.cons rfl (fun K hK => ?_) AllReady.nil
          go_simp
          go_wp2_with (go_at_call 67; refine (l01PairIs true _ _ _ HF.out SX.out SY.out).mono ?_; rintro e w1 ⟨rfl, hb1⟩)
          refine reg_take 5 21 (.bool false) rfl rfl (by kernel_rfl) (by kernel_rfl) (by kernel_rfl) (fun _ _ _ _ _ h => h) (by kernel_rfl) (by intro w; go_simp) ?_
          refine reg_take 6 22 (.bool false) rfl rfl (by kernel_rfl) (by kernel_rfl) (by kernel_rfl) (fun _ _ _ _ _ h => h) (by kernel_rfl) (by intro w; go_simp) ?_
          refine reg_take 7 23 (.int .i64 (k : Int)) rfl rfl (by kernel_rfl) (by kernel_rfl) (by kernel_rfl) (fun _ _ _ _ _ h => h) (by kernel_rfl) (by intro w; go_simp) ?_
          refine reg_take 8 24 (.bool false) rfl rfl (by kernel_rfl) (by kernel_rfl) (by kernel_rfl) (fun _ _ _ _ _ h => h) (by kernel_rfl) (by intro w; go_simp; exact HZ.out) ?_
          refine reg_take 9 25 (.bool false) rfl rfl (by kernel_rfl) (by kernel_rfl) (by kernel_rfl) (fun _ _ _ _ _ h => h) (by kernel_rfl) (by intro w; go_simp) ?_
          refine reg_skip 10 26 rfl rfl (by kernel_rfl) (by kernel_rfl) (by kernel_rfl) (fun _ _ _ _ _ h => h) (by kernel_rfl) ?_
          refine reg_skip 11 27 rfl rfl (by kernel_rfl) (by kernel_rfl) (by kernel_rfl) (fun _ _ _ _ _ h => h) (by kernel_rfl) ?_
          refine reg_skip 12 28 rfl rfl (by kernel_rfl) (by kernel_rfl) (by kernel_rfl) (fun _ _ _ _ _ h => h) (by kernel_rfl) ?_
          refine reg_skip 13 29 rfl rfl (by kernel_rfl) (by kernel_rfl) (by kernel_rfl) (fun _ _ _ _ _ h => h) (by kernel_rfl) ?_
          refine reg_skip 14 30 rfl rfl (by kernel_rfl) (by kernel_rfl) (by kernel_rfl) (fun _ _ _ _ _ h => h) (by kernel_rfl) ?_
          refine reg_skip 15 31 rfl rfl (by kernel_rfl) (by kernel_rfl) (by kernel_rfl) (fun _ _ _ _ _ h => h) (by kernel_rfl) ?_
          refine reg_skip 16 32 rfl rfl (by kernel_rfl) (by kernel_rfl) (by kernel_rfl) (fun _ _ _ _ _ h => h) (by kernel_rfl) ?_
          refine reg_skip 17 33 rfl rfl (by kernel_rfl) (by kernel_rfl) (by kernel_rfl) (fun _ _ _ _ _ h => h) (by kernel_rfl) ?_
          refine reg_skip 18 34 rfl rfl (by kernel_rfl) (by kernel_rfl) (by kernel_rfl) (fun _ _ _ _ _ h => h) (by kernel_rfl) ?_
          refine reg_skip 19 35 rfl rfl (by kernel_rfl) (by kernel_rfl) (by kernel_rfl) (fun _ _ _ _ _ h => h) (by kernel_rfl) ?_
          refine reg_skip 20 36 rfl rfl (by kernel_rfl) (by kernel_rfl) (by kernel_rfl) (fun _ _ _ _ _ h => h) (by kernel_rfl) ?_
          refine reg_skip 21 37 rfl rfl (by kernel_rfl) (by kernel_rfl) (by kernel_rfl) (fun _ _ _ _ _ h => h) (by kernel_rfl) ?_
          refine reg_take 22 38 (.bool false) rfl rfl (by kernel_rfl) (by kernel_rfl) (by kernel_rfl) (fun _ _ _ _ _ h => h) (by kernel_rfl) (by intro w; go_simp) ?_
          refine reg_take 23 39 (.bool false) rfl rfl (by kernel_rfl) (by kernel_rfl) (by kernel_rfl) (fun _ _ _ _ _ h => h) (by kernel_rfl) (by intro w; go_simp) ?_
          refine reg_done ⟨#[.slice (some ⟨b, off, none⟩) n c, undef, u2, .int .i64 (k : Int), .slice (some ⟨b, off, none⟩) n c, .int .i64 (n : Int), .bool (decide (4096 < (n : Int))), .slice (some ⟨b, off, none⟩) n c, .int .i64 (n : Int), .bool (decide (60 < (n : Int))), .int .i64 (k : Int), .slice (some ⟨b, off, none⟩) n c, .int .i64 (n : Int), .bool true, u14, u15, .slice (some ⟨b, off, none⟩) n c, .int .i64 (k : Int), .pointer (some ⟨b, off + k * 2, none⟩), .agg #[.string (f k), .string (g k)], .bool true, .bool false, .bool false, .int .i64 (k : Int), .bool false, .bool false, undef, undef, undef, undef, undef, undef, undef, undef, undef, undef, undef, undef, .bool false, .bool false], []⟩ (by kernel_rfl) (by kernel_rfl) ?_
          go_wp2_with fail
          exact ⟨⟨k + 1, by omega, by go_num, next_good hg.out hgood.out, hb.out.drew.trans (hb1.mono hb.out.size)⟩, by simp [intOf]; omega⟩
        · have hd1 := (hc (k - 1) (by omega)).1
          have HF : Hid (fitB (f k) (g k) = true) := hfit
          have HP : Hid (0 < k) := by show 0 < k; omega
          have hkm : (0 : Int) ≤ (k : Int) - 1 := by omega
          have hkm2 : (k : Int) - 1 < (n : Int) := by omega
          clear hc hz
          by_cases hless : Op.bytesLess (f (k - 1)).toList (f k).toList = true
          · have hgood : Hid (goodB f g k = true) := by
              show goodB f g k = true
              unfold goodB riseB; rw [hfit, hless]; simp
            clear hfit
            go_wp2_with fail
            refine wp_region_any (by kernel_rfl) ?_
            change wpAny _ _ _ _ _ _ _ (World.drew _)
            refine reg_take 0 16 (.slice (some ⟨b, off, none⟩) n c) rfl rfl (by kernel_rfl) (by kernel_rfl) (by kernel_rfl) (fun _ _ _ _ _ h => h) (by kernel_rfl) (by intro w; go_simp) ?_
            refine reg_take 1 17 (.int .i64 (k : Int)) rfl rfl (by kernel_rfl) (by kernel_rfl) (by kernel_rfl) (fun _ _ _ _ _ h => h) (by kernel_rfl) (by intro w; go_simp) ?_
            refine reg_take 2 18 (.pointer (some ⟨b, off + k * 2, none⟩)) rfl rfl (by kernel_rfl) (by kernel_rfl) (by kernel_rfl) (fun _ _ _ _ _ h => h) (by kernel_rfl) (by intro w; go_simp) ?_
            refine wpAny_ready (rs := [3]) (by kernel_rfl) (by simp) ?_
            refine AllReady.cons rfl (fun K hK => ?_) AllReady.nil
            go_simp
            refine hK _ _ ?_
            clear hK K
            refine wpAny_ready (rs := [4]) (by kernel_rfl) (by simp) ?_
            refine AllReady.cons rfl (fun K hK => ?_) AllReady.nil
            go_simp
            go_wp2_with (go_at_call 67; refine (l01PairIs true _ _ _ HF.out SX.out SY.out).mono ?_; rintro e w1 ⟨rfl, hb1⟩)
            have hc1' := cell_later (w := wr.drew) hb1 hc1
            have hd1' := cell_later (w := wr.drew) hb1 hd1
            refine reg_take 5 21 (.bool false) rfl rfl (by kernel_rfl) (by kernel_rfl) (by kernel_rfl) (fun _ _ _ _ _ h => h) (by kernel_rfl) (by intro w; go_simp) ?_
            refine reg_take 6 22 (.bool false) rfl rfl (by kernel_rfl) (by kernel_rfl) (by kernel_rfl) (fun _ _ _ _ _ h => h) (by kernel_rfl) (by intro w; go_simp) ?_
            refine reg_take 7 23 (.int .i64 (k : Int)) rfl rfl (by kernel_rfl) (by kernel_rfl) (by kernel_rfl) (fun _ _ _ _ _ h => h) (by kernel_rfl) (by intro w; go_simp) ?_
            refine reg_take 8 24 (.bool true) rfl rfl (by kernel_rfl) (by kernel_rfl) (by kernel_rfl) (fun _ _ _ _ _ h => h) (by kernel_rfl) (by intro w; go_simp; exact HP.out) ?_
            refine reg_take 9 25 (.bool true) rfl rfl (by kernel_rfl) (by kernel_rfl) (by kernel_rfl) (fun _ _ _ _ _ h => h) (by kernel_rfl) (by intro w; go_simp) ?_
            refine reg_take 10 26 (.slice (some ⟨b, off, none⟩) n c) rfl rfl (by kernel_rfl) (by kernel_rfl) (by kernel_rfl) (fun _ _ _ _ _ h => h) (by kernel_rfl) (by intro w; go_simp) ?_
            refine reg_take 11 27 (.int .i64 (k : Int)) rfl rfl (by kernel_rfl) (by kernel_rfl) (by kernel_rfl) (fun _ _ _ _ _ h => h) (by kernel_rfl) (by intro w; go_simp) ?_
            refine reg_take 12 28 (.int .i64 ((k : Int) - 1)) rfl rfl (by kernel_rfl) (by kernel_rfl) (by kernel_rfl) (fun _ _ _ _ _ h => h) (by kernel_rfl) (by intro w; go_simp; rw [IntKind.wrap_i64]; omega) ?_
            refine reg_take 13 29 (.pointer (some ⟨b, off + (k - 1) * 2, none⟩)) rfl rfl (by kernel_rfl) (by kernel_rfl) (by kernel_rfl) (fun _ _ _ _ _ h => h) (by kernel_rfl) (by intro w; go_simp; intro hneg; have := HP.out; omega) ?_
            refine reg_take 14 30 (.pointer (some ⟨b, off + (k - 1) * 2, none⟩)) rfl rfl (by kernel_rfl) (by kernel_rfl) (by kernel_rfl) (fun _ _ _ _ _ h => h) (by kernel_rfl) (by intro w; go_simp) ?_
            refine reg_take 16 32 (.slice (some ⟨b, off, none⟩) n c) rfl rfl (by kernel_rfl) (by kernel_rfl) (by kernel_rfl) (fun _ _ _ _ _ h => h) (by kernel_rfl) (by intro w; go_simp) ?_
            refine reg_take 17 33 (.int .i64 (k : Int)) rfl rfl (by kernel_rfl) (by kernel_rfl) (by kernel_rfl) (fun _ _ _ _ _ h => h) (by kernel_rfl) (by intro w; go_simp) ?_
            refine reg_take 18 34 (.pointer (some ⟨b, off + k * 2, none⟩)) rfl rfl (by kernel_rfl) (by kernel_rfl) (by kernel_rfl) (fun _ _ _ _ _ h => h) (by kernel_rfl) (by intro w; go_simp) ?_
            refine reg_take 19 35 (.pointer (some ⟨b, off + k * 2, none⟩)) rfl rfl (by kernel_rfl) (by kernel_rfl) (by kernel_rfl) (fun _ _ _ _ _ h => h) (by kernel_rfl) (by intro w; go_simp) ?_
            refine wpAny_ready (rs := [15, 20]) (by kernel_rfl) (by simp) ?_
            refine AllReady.cons rfl (fun K hK => ?_) (AllReady.cons rfl (fun K hK => ?_) AllReady.nil)
            · go_simp
              refine hK _ _ ?_
              clear hK K
              refine wpAny_ready (rs := [20]) (by kernel_rfl) (by simp) ?_
              refine AllReady.cons rfl (fun K hK => ?_) AllReady.nil
              go_simp
              refine hK _ _ ?_
              clear hK K
              refine reg_take 21 37 (.bool false) rfl rfl (by kernel_rfl) (by kernel_rfl) (by kernel_rfl) (fun _ _ _ _ _ h => h) (by kernel_rfl) (by intro w; go_simp) ?_
              refine reg_take 22 38 (.bool false) rfl rfl (by kernel_rfl) (by kernel_rfl) (by kernel_rfl) (fun _ _ _ _ _ h => h) (by kernel_rfl) (by intro w; go_simp) ?_
              refine reg_take 23 39 (.bool false) rfl rfl (by kernel_rfl) (by kernel_rfl) (by kernel_rfl) (fun _ _ _ _ _ h => h) (by kernel_rfl) (by intro w; go_simp) ?_
              refine reg_done ⟨#[.slice (some ⟨b, off, none⟩) n c, undef, u2, .int .i64 (k : Int), .slice (some ⟨b, off, none⟩) n c, .int .i64 (n : Int), .bool (decide (4096 < (n : Int))), .slice (some ⟨b, off, none⟩) n c, .int .i64 (n : Int), .bool (decide (60 < (n : Int))), .int .i64 (k : Int), .slice (some ⟨b, off, none⟩) n c, .int .i64 (n : Int), .bool true, u14, u15, .slice (some ⟨b, off, none⟩) n c, .int .i64 (k : Int), .pointer (some ⟨b, off + k * 2, none⟩), .agg #[.string (f k), .string (g k)], .bool true, .bool false, .bool false, .int .i64 (k : Int), .bool true, .bool true, .slice (some ⟨b, off, none⟩) n c, .int .i64 (k : Int), .int .i64 ((k : Int) - 1), .pointer (some ⟨b, off + (k - 1) * 2, none⟩), .pointer (some ⟨b, off + (k - 1) * 2, none⟩), .string (f (k - 1)), .slice (some ⟨b, off, none⟩) n c, .int .i64 (k : Int), .pointer (some ⟨b, off + k * 2, none⟩), .pointer (some ⟨b, off + k * 2, none⟩), .string (f k), .bool false, .bool false, .bool false], []⟩ (by kernel_rfl) (by kernel_rfl) ?_
              go_wp2_with fail
              exact ⟨⟨k + 1, by omega, by go_num, next_good hg.out hgood.out, hb.out.drew.trans (hb1.mono hb.out.size)⟩, by simp [intOf]; omega⟩
            · go_simp
              refine hK _ _ ?_
              clear hK K
              refine wpAny_ready (rs := [15]) (by kernel_rfl) (by simp) ?_
              refine AllReady.cons rfl (fun K hK => ?_) AllReady.nil
              go_simp
              refine hK _ _ ?_
              clear hK K
              refine reg_take 21 37 (.bool false) rfl rfl (by kernel_rfl) (by kernel_rfl) (by kernel_rfl) (fun _ _ _ _ _ h => h) (by kernel_rfl) (by intro w; go_simp) ?_
              refine reg_take 22 38 (.bool false) rfl rfl (by kernel_rfl) (by kernel_rfl) (by kernel_rfl) (fun _ _ _ _ _ h => h) (by kernel_rfl) (by intro w; go_simp) ?_
              refine reg_take 23 39 (.bool false) rfl rfl (by kernel_rfl) (by kernel_rfl) (by kernel_rfl) (fun _ _ _ _ _ h => h) (by kernel_rfl) (by intro w; go_simp) ?_
              refine reg_done ⟨#[.slice (some ⟨b, off, none⟩) n c, undef, u2, .int .i64 (k : Int), .slice (some ⟨b, off, none⟩) n c, .int .i64 (n : Int), .bool (decide (4096 < (n : Int))), .slice (some ⟨b, off, none⟩) n c, .int .i64 (n : Int), .bool (decide (60 < (n : Int))), .int .i64 (k : Int), .slice (some ⟨b, off, none⟩) n c, .int .i64 (n : Int), .bool true, u14, u15, .slice (some ⟨b, off, none⟩) n c, .int .i64 (k : Int), .pointer (some ⟨b, off + k * 2, none⟩), .agg #[.string (f k), .string (g k)], .bool true, .bool false, .bool false, .int .i64 (k : Int), .bool true, .bool true, .slice (some ⟨b, off, none⟩) n c, .int .i64 (k : Int), .int .i64 ((k : Int) - 1), .pointer (some ⟨b, off + (k - 1) * 2, none⟩), .pointer (some ⟨b, off + (k - 1) * 2, none⟩), .string (f (k - 1)), .slice (some ⟨b, off, none⟩) n c, .int .i64 (k : Int), .pointer (some ⟨b, off + k * 2, none⟩), .pointer (some ⟨b, off + k * 2, none⟩), .string (f k), .bool false, .bool false, .bool false], []⟩ (by kernel_rfl) (by kernel_rfl) ?_
              go_wp2_with fail
              exact ⟨⟨k + 1, by omega, by go_num, next_good hg.out hgood.out, hb.out.drew.trans (hb1.mono hb.out.size)⟩, by simp [intOf]; omega⟩
          · have hless' : Op.bytesLess (f (k - 1)).toList (f k).toList = false := by simpa using hless
            have hbad : Hid (pairsB f g n = false) := pairsB_bad f g n k hlt (by
              unfold goodB riseB; rw [hfit, hless', decide_eq_false (by omega)]; rfl)
            clear hfit hless
            go_wp2_with fail
            refine wp_region_any (by kernel_rfl) ?_
            change wpAny _ _ _ _ _ _ _ (World.drew _)
            refine reg_take 0 16 (.slice (some ⟨b, off, none⟩) n c) rfl rfl (by kernel_rfl) (by kernel_rfl) (by kernel_rfl) (fun _ _ _ _ _ h => h) (by kernel_rfl) (by intro w; go_simp) ?_
            refine reg_take 1 17 (.int .i64 (k : Int)) rfl rfl (by kernel_rfl) (by kernel_rfl) (by kernel_rfl) (fun _ _ _ _ _ h => h) (by kernel_rfl) (by intro w; go_simp) ?_
            refine reg_take 2 18 (.pointer (some ⟨b, off + k * 2, none⟩)) rfl rfl (by kernel_rfl) (by kernel_rfl) (by kernel_rfl) (fun _ _ _ _ _ h => h) (by kernel_rfl) (by intro w; go_simp) ?_
            refine wpAny_ready (rs := [3]) (by kernel_rfl) (by simp) ?_
            refine AllReady.cons rfl (fun K hK => ?_) AllReady.nil
            go_simp
            refine hK _ _ ?_
            clear hK K
            refine wpAny_ready (rs := [4]) (by kernel_rfl) (by simp) ?_
            refine AllReady.cons rfl (fun K hK => ?_) AllReady.nil
            go_simp
            go_wp2_with (go_at_call 67; refine (l01PairIs true _ _ _ HF.out SX.out SY.out).mono ?_; rintro e w1 ⟨rfl, hb1⟩)
            have hc1' := cell_later (w := wr.drew) hb1 hc1
            have hd1' := cell_later (w := wr.drew) hb1 hd1
            refine reg_take 5 21 (.bool false) rfl rfl (by kernel_rfl) (by kernel_rfl) (by kernel_rfl) (fun _ _ _ _ _ h => h) (by kernel_rfl) (by intro w; go_simp) ?_
            refine reg_take 6 22 (.bool false) rfl rfl (by kernel_rfl) (by kernel_rfl) (by kernel_rfl) (fun _ _ _ _ _ h => h) (by kernel_rfl) (by intro w; go_simp) ?_
            refine reg_take 7 23 (.int .i64 (k : Int)) rfl rfl (by kernel_rfl) (by kernel_rfl) (by kernel_rfl) (fun _ _ _ _ _ h => h) (by kernel_rfl) (by intro w; go_simp) ?_
            refine reg_take 8 24 (.bool true) rfl rfl (by kernel_rfl) (by kernel_rfl) (by kernel_rfl) (fun _ _ _ _ _ h => h) (by kernel_rfl) (by intro w; go_simp; exact HP.out) ?_
            refine reg_take 9 25 (.bool true) rfl rfl (by kernel_rfl) (by kernel_rfl) (by kernel_rfl) (fun _ _ _ _ _ h => h) (by kernel_rfl) (by intro w; go_simp) ?_
            refine reg_take 10 26 (.slice (some ⟨b, off, none⟩) n c) rfl rfl (by kernel_rfl) (by kernel_rfl) (by kernel_rfl) (fun _ _ _ _ _ h => h) (by kernel_rfl) (by intro w; go_simp) ?_
            refine reg_take 11 27 (.int .i64 (k : Int)) rfl rfl (by kernel_rfl) (by kernel_rfl) (by kernel_rfl) (fun _ _ _ _ _ h => h) (by kernel_rfl) (by intro w; go_simp) ?_
            refine reg_take 12 28 (.int .i64 ((k : Int) - 1)) rfl rfl (by kernel_rfl) (by kernel_rfl) (by kernel_rfl) (fun _ _ _ _ _ h => h) (by kernel_rfl) (by intro w; go_simp; rw [IntKind.wrap_i64]; omega) ?_
            refine reg_take 13 29 (.pointer (some ⟨b, off + (k - 1) * 2, none⟩)) rfl rfl (by kernel_rfl) (by kernel_rfl) (by kernel_rfl) (fun _ _ _ _ _ h => h) (by kernel_rfl) (by intro w; go_simp; intro hneg; have := HP.out; omega) ?_
            refine reg_take 14 30 (.pointer (some ⟨b, off + (k - 1) * 2, none⟩)) rfl rfl (by kernel_rfl) (by kernel_rfl) (by kernel_rfl) (fun _ _ _ _ _ h => h) (by kernel_rfl) (by intro w; go_simp) ?_
            refine reg_take 16 32 (.slice (some ⟨b, off, none⟩) n c) rfl rfl (by kernel_rfl) (by kernel_rfl) (by kernel_rfl) (fun _ _ _ _ _ h => h) (by kernel_rfl) (by intro w; go_simp) ?_
            refine reg_take 17 33 (.int .i64 (k : Int)) rfl rfl (by kernel_rfl) (by kernel_rfl) (by kernel_rfl) (fun _ _ _ _ _ h => h) (by kernel_rfl) (by intro w; go_simp) ?_
            refine reg_take 18 34 (.pointer (some ⟨b, off + k * 2, none⟩)) rfl rfl (by kernel_rfl) (by kernel_rfl) (by kernel_rfl) (fun _ _ _ _ _ h => h) (by kernel_rfl) (by intro w; go_simp) ?_
            refine reg_take 19 35 (.pointer (some ⟨b, off + k * 2, none⟩)) rfl rfl (by kernel_rfl) (by kernel_rfl) (by kernel_rfl) (fun _ _ _ _ _ h => h) (by kernel_rfl) (by intro w; go_simp) ?_
            refine wpAny_ready (rs := [15, 20]) (by kernel_rfl) (by simp) ?_
            refine AllReady.cons rfl (fun K hK => ?_) (AllReady.cons rfl (fun K hK => ?_) AllReady.nil)
            · go_simp
              refine hK _ _ ?_
              clear hK K
              refine wpAny_ready (rs := [20]) (by kernel_rfl) (by simp) ?_
              refine AllReady.cons rfl (fun K hK => ?_) AllReady.nil
              go_simp
              refine hK _ _ ?_
              clear hK K
              refine reg_take 21 37 (.bool true) rfl rfl (by kernel_rfl) (by kernel_rfl) (by kernel_rfl) (fun _ _ _ _ _ h => h) (by kernel_rfl) (by intro w; go_simp) ?_
              refine reg_take 22 38 (.bool true) rfl rfl (by kernel_rfl) (by kernel_rfl) (by kernel_rfl) (fun _ _ _ _ _ h => h) (by kernel_rfl) (by intro w; go_simp) ?_
              refine reg_take 23 39 (.bool true) rfl rfl (by kernel_rfl) (by kernel_rfl) (by kernel_rfl) (fun _ _ _ _ _ h => h) (by kernel_rfl) (by intro w; go_simp) ?_
              refine reg_done ⟨#[.slice (some ⟨b, off, none⟩) n c, undef, u2, .int .i64 (k : Int), .slice (some ⟨b, off, none⟩) n c, .int .i64 (n : Int), .bool (decide (4096 < (n : Int))), .slice (some ⟨b, off, none⟩) n c, .int .i64 (n : Int), .bool (decide (60 < (n : Int))), .int .i64 (k : Int), .slice (some ⟨b, off, none⟩) n c, .int .i64 (n : Int), .bool true, u14, u15, .slice (some ⟨b, off, none⟩) n c, .int .i64 (k : Int), .pointer (some ⟨b, off + k * 2, none⟩), .agg #[.string (f k), .string (g k)], .bool true, .bool false, .bool false, .int .i64 (k : Int), .bool true, .bool true, .slice (some ⟨b, off, none⟩) n c, .int .i64 (k : Int), .int .i64 ((k : Int) - 1), .pointer (some ⟨b, off + (k - 1) * 2, none⟩), .pointer (some ⟨b, off + (k - 1) * 2, none⟩), .string (f (k - 1)), .slice (some ⟨b, off, none⟩) n c, .int .i64 (k : Int), .pointer (some ⟨b, off + k * 2, none⟩), .pointer (some ⟨b, off + k * 2, none⟩), .string (f k), .bool true, .bool true, .bool true], []⟩ (by kernel_rfl) (by kernel_rfl) ?_
              go_wp2_with fail
              go_ret
              exact ⟨ret_bool hbad.out.symm, hb.out.drew.trans (hb1.mono hb.out.size)⟩
            · go_simp
              refine hK _ _ ?_
              clear hK K
              refine wpAny_ready (rs := [15]) (by kernel_rfl) (by simp) ?_
              refine AllReady.cons rfl (fun K hK => ?_) AllReady.nil
              go_simp
              refine hK _ _ ?_
              clear hK K
              refine reg_take 21 37 (.bool true) rfl rfl (by kernel_rfl) (by kernel_rfl) (by kernel_rfl) (fun _ _ _ _ _ h => h) (by kernel_rfl) (by intro w; go_simp) ?_
              refine reg_take 22 38 (.bool true) rfl rfl (by kernel_rfl) (by kernel_rfl) (by kernel_rfl) (fun _ _ _ _ _ h => h) (by kernel_rfl) (by intro w; go_simp) ?_
              refine reg_take 23 39 (.bool true) rfl rfl (by kernel_rfl) (by kernel_rfl) (by kernel_rfl) (fun _ _ _ _ _ h => h) (by kernel_rfl) (by intro w; go_simp) ?_
              refine reg_done ⟨#[.slice (some ⟨b, off, none⟩) n c, undef, u2, .int .i64 (k : Int), .slice (some ⟨b, off, none⟩) n c, .int .i64 (n : Int), .bool (decide (4096 < (n : Int))), .slice (some ⟨b, off, none⟩) n c, .int .i64 (n : Int), .bool (decide (60 < (n : Int))), .int .i64 (k : Int), .slice (some ⟨b, off, none⟩) n c, .int .i64 (n : Int), .bool true, u14, u15, .slice (some ⟨b, off, none⟩) n c, .int .i64 (k : Int), .pointer (some ⟨b, off + k * 2, none⟩), .agg #[.string (f k), .string (g k)], .bool true, .bool false, .bool false, .int .i64 (k : Int), .bool true, .bool true, .slice (some ⟨b, off, none⟩) n c, .int .i64 (k : Int), .int .i64 ((k : Int) - 1), .pointer (some ⟨b, off + (k - 1) * 2, none⟩), .pointer (some ⟨b, off + (k - 1) * 2, none⟩), .string (f (k - 1)), .slice (some ⟨b, off, none⟩) n c, .int .i64 (k : Int), .pointer (some ⟨b, off + k * 2, none⟩), .pointer (some ⟨b, off + k * 2, none⟩), .string (f k), .bool true, .bool true, .bool true], []⟩ (by kernel_rfl) (by kernel_rfl) ?_
              go_wp2_with fail
              go_ret
              exact ⟨ret_bool hbad.out.symm, hb.out.drew.trans (hb1.mono hb.out.size)⟩
      · have HF : Hid (fitB (f k) (g k) = false) := by show fitB (f k) (g k) = false; simpa using hfit
        have hbad : Hid (pairsB f g n = false) := pairsB_bad f g n k hlt (by unfold goodB; rw [HF.out]; rfl)
        clear hc hfit
        go_wp2_with fail
        refine wp_region_any (by kernel_rfl) ?_
        change wpAny _ _ _ _ _ _ _ (World.drew _)
        refine reg_take 0 16 (.slice (some ⟨b, off, none⟩) n c) rfl rfl (by kernel_rfl) (by kernel_rfl) (by kernel_rfl) (fun _ _ _ _ _ h => h) (by kernel_rfl) (by intro w; go_simp) ?_
        refine reg_take 1 17 (.int .i64 (k : Int)) rfl rfl (by kernel_rfl) (by kernel_rfl) (by kernel_rfl) (fun _ _ _ _ _ h => h) (by kernel_rfl) (by intro w; go_simp) ?_
        refine reg_take 2 18 (.pointer (some ⟨b, off + k * 2, none⟩)) rfl rfl (by kernel_rfl) (by kernel_rfl) (by kernel_rfl) (fun _ _ _ _ _ h => h) (by kernel_rfl) (by intro w; go_simp) ?_
        refine wpAny_ready (rs := [3]) (by kernel_rfl) (by simp) ?_
        refine AllReady.cons rfl (fun K hK => ?_) AllReady.nil
        go_simp
        refine hK _ _ ?_
        clear hK K
        refine wpAny_ready (rs := [4]) (by kernel_rfl) (by simp) ?_
        refine AllReady.cons rfl (fun K hK => ?_) AllReady.nil
        go_simp
        go_wp2_with (go_at_call 67; refine (l01PairIs false _ _ _ HF.out SX.out SY.out).mono ?_; rintro e w1 ⟨rfl, hb1⟩)
        refine reg_take 5 21 (.bool true) rfl rfl (by kernel_rfl) (by kernel_rfl) (by kernel_rfl) (fun _ _ _ _ _ h => h) (by kernel_rfl) (by intro w; go_simp) ?_
        refine reg_take 6 22 (.bool true) rfl rfl (by kernel_rfl) (by kernel_rfl) (by kernel_rfl) (fun _ _ _ _ _ h => h) (by kernel_rfl) (by intro w; go_simp) ?_
        refine reg_skip 7 23 rfl rfl (by kernel_rfl) (by kernel_rfl) (by kernel_rfl) (fun _ _ _ _ _ h => h) (by kernel_rfl) ?_
        refine reg_skip 8 24 rfl rfl (by kernel_rfl) (by kernel_rfl) (by kernel_rfl) (fun _ _ _ _ _ h => h) (by kernel_rfl) ?_
        refine reg_skip 9 25 rfl rfl (by kernel_rfl) (by kernel_rfl) (by kernel_rfl) (fun _ _ _ _ _ h => h) (by kernel_rfl) ?_
        refine reg_skip 10 26 rfl rfl (by kernel_rfl) (by kernel_rfl) (by kernel_rfl) (fun _ _ _ _ _ h => h) (by kernel_rfl) ?_
        refine reg_skip 11 27 rfl rfl (by kernel_rfl) (by kernel_rfl) (by kernel_rfl) (fun _ _ _ _ _ h => h) (by kernel_rfl) ?_
        refine reg_skip 12 28 rfl rfl (by kernel_rfl) (by kernel_rfl) (by kernel_rfl) (fun _ _ _ _ _ h => h) (by kernel_rfl) ?_
        refine reg_skip 13 29 rfl rfl (by kernel_rfl) (by kernel_rfl) (by kernel_rfl) (fun _ _ _ _ _ h => h) (by kernel_rfl) ?_
        refine reg_skip 14 30 rfl rfl (by kernel_rfl) (by kernel_rfl) (by kernel_rfl) (fun _ _ _ _ _ h => h) (by kernel_rfl) ?_
        refine reg_skip 15 31 rfl rfl (by kernel_rfl) (by kernel_rfl) (by kernel_rfl) (fun _ _ _ _ _ h => h) (by kernel_rfl) ?_
        refine reg_skip 16 32 rfl rfl (by kernel_rfl) (by kernel_rfl) (by kernel_rfl) (fun _ _ _ _ _ h => h) (by kernel_rfl) ?_
        refine reg_skip 17 33 rfl rfl (by kernel_rfl) (by kernel_rfl) (by kernel_rfl) (fun _ _ _ _ _ h => h) (by kernel_rfl) ?_
        refine reg_skip 18 34 rfl rfl (by kernel_rfl) (by kernel_rfl) (by kernel_rfl) (fun _ _ _ _ _ h => h) (by kernel_rfl) ?_
        refine reg_skip 19 35 rfl rfl (by kernel_rfl) (by kernel_rfl) (by kernel_rfl) (fun _ _ _ _ _ h => h) (by kernel_rfl) ?_
        refine reg_skip 20 36 rfl rfl (by kernel_rfl) (by kernel_rfl) (by kernel_rfl) (fun _ _ _ _ _ h => h) (by kernel_rfl) ?_
        refine reg_skip 21 37 rfl rfl (by kernel_rfl) (by kernel_rfl) (by kernel_rfl) (fun _ _ _ _ _ h => h) (by kernel_rfl) ?_
        refine reg_skip 22 38 rfl rfl (by kernel_rfl) (by kernel_rfl) (by kernel_rfl) (fun _ _ _ _ _ h => h) (by kernel_rfl) ?_
        refine reg_take 23 39 (.bool true) rfl rfl (by kernel_rfl) (by kernel_rfl) (by kernel_rfl) (fun _ _ _ _ _ h => h) (by kernel_rfl) (by intro w; go_simp) ?_
        refine reg_done ⟨#[.slice (some ⟨b, off, none⟩) n c, undef, u2, .int .i64 (k : Int), .slice (some ⟨b, off, none⟩) n c, .int .i64 (n : Int), .bool (decide (4096 < (n : Int))), .slice (some ⟨b, off, none⟩) n c, .int .i64 (n : Int), .bool (decide (60 < (n : Int))), .int .i64 (k : Int), .slice (some ⟨b, off, none⟩) n c, .int .i64 (n : Int), .bool true, u14, u15, .slice (some ⟨b, off, none⟩) n c, .int .i64 (k : Int), .pointer (some ⟨b, off + k * 2, none⟩), .agg #[.string (f k), .string (g k)], .bool false, .bool true, .bool true, undef, undef, undef, undef, undef, undef, undef, undef, undef, undef, undef, undef, undef, undef, undef, undef, .bool true], []⟩ (by kernel_rfl) (by kernel_rfl) ?_
        go_wp2_with fail
        go_ret
        exact ⟨ret_bool hbad.out.symm, hb.out.drew.trans (hb1.mono hb.out.size)⟩
    · have hkn : k = n := by omega
      have e : Hid (pairsB f g n = true) := pairsB_good f g n (by omega) (by rw [← hkn]; exact hg.out)
      clear hkn
      go_wp2_with fail
      go_ret
      exact ⟨ret_bool e.out.symm, hb.out⟩
end Go.Proofs.YtmbndpgoihdpnaaGreatDoor
