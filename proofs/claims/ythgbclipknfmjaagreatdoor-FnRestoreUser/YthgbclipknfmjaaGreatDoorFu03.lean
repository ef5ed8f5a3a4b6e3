/-
  Dig Splp in one. By an AI agent.
-/
import Derived.Test.YthgbclipknfmjaaGreatDoorFu02
import Derived.Lib.ConvBytes
import Derived.Laws.IdiomStrings
import Derived.Lib.Split
namespace Go.Proofs.YthgbclipknfmjaaGreatDoor
open Go.ChangeShapes Go.WideShapes Go.ChangeAt Go.RowKit Go.Deep Go.Lib
set_option linter.unusedVariables false
set_option linter.unusedSimpArgs false
set_option maxRecDepth 100000

theorem tkA {P : Program} {md : Region.Mode} {ops : Array Oper} {Q : Exit → Act → World → Prop} {S : World → Prop} {i : Nat} {oi : Oper} {v : Value} {fuel : Nat} {listed : Array Bool} {a : Act} {w : World} (hy : ∀ w, S w → (execOp a.eval oi).run P w = .ok (.value v) w) (hS : S w) (h : wpAnyH P md ops Q S fuel (listed.setIfInBounds i true) (a.put oi.dst v) w)
    (hi : ops[i]? = some oi := by rfl) (hs : Region.noSelect ops = true := by kernel_rfl) (hf : Region.free md ops listed i = true := by kernel_rfl) (hr : (Region.ready md ops listed).contains i = true := by kernel_rfl) (hw : Region.wanted oi (yielded ops a.tmps) = true := by kernel_rfl) (hQ : ∀ c a w, Q (.panic c) (a.put oi.dst v) w → Q (.panic c) a w := by exact fun _ _ _ h => h) : wpAnyH P md ops Q S (fuel + 1) listed a w :=
  wpAnyH_take hi hs hf hr hQ (Or.inl ⟨hw, hy⟩) hS h
theorem skA {P : Program} {md : Region.Mode} {ops : Array Oper} {Q : Exit → Act → World → Prop} {S : World → Prop} {i : Nat} {oi : Oper} {fuel : Nat} {listed : Array Bool} {a : Act} {w : World} (hS : S w) (h : wpAnyH P md ops Q S fuel (listed.setIfInBounds i true) (a.put oi.dst undef) w)
    (hi : ops[i]? = some oi := by rfl) (hs : Region.noSelect ops = true := by kernel_rfl) (hf : Region.free md ops listed i = true := by kernel_rfl) (hr : (Region.ready md ops listed).contains i = true := by kernel_rfl) (hw : Region.wanted oi (yielded ops a.tmps) = false := by kernel_rfl) (hQ : ∀ c a w, Q (.panic c) (a.put oi.dst undef) w → Q (.panic c) a w := by exact fun _ _ _ h => h) : wpAnyH P md ops Q S (fuel + 1) listed a w :=
  wpAnyH_take hi hs hf hr hQ (Or.inr ⟨hw, rfl⟩) hS h
def bs (l : List UInt8) : ByteArray := ⟨l.toArray⟩
theorem bs_append (l m : List UInt8) : bs l ++ bs m = bs (l ++ m) := by
  cases h : bs l ++ bs m
  simp only [bs] at h ⊢
  have : (ByteArray.mk l.toArray ++ ByteArray.mk m.toArray).data = _ := congrArg ByteArray.data h
  simp only [ByteArray.data_append] at this
  rw [← this]
  simp
/-- One byte as a text. -/
theorem conv_byte (W : World) (b : Nat) (z : Int) (d : Nat) (hd : d < 10) (hz : z = 48 + (d : Int)) (hc : W.cell? ⟨b, 0, none⟩ = some (.int .u8 z)) : (convert 22 9 (.slice (some ⟨b, 0, none⟩) 1 1)).run Tryz.prog W = .ok (.string (bs [UInt8.ofNat (48 + d)])) W := by
  refine run_convert_bytes_back (P := Tryz.prog) W 22 9 5 ⟨b, 0, none⟩ 1 [UInt8.ofNat (48 + d)] Tryz.underlying22 Tryz.underlying5 Tryz.underlying9 (fun j hj => ?_)
  have hj2 : j < 1 := hj
  obtain rfl : j = 0 := by omega
  have h1 : (UInt8.ofNat (48 + d)).toNat = 48 + d := by simp [UInt8.toNat_ofNat']; omega
  have h2 : W.cell? ((⟨b, 0, none⟩ : Addr).add 0) = W.cell? ⟨b, 0, none⟩ := rfl
  rw [h2, hc, hz]
  show some (Value.int .u8 (48 + (d : Int))) = some (Value.int .u8 ((UInt8.ofNat (48 + d)).toNat : Int))
  rw [h1]
  rfl
theorem conv_new (W : World) (z : Int) (d : Nat) (hd : d < 10) (hz : z = 48 + (d : Int)) : (convert 22 9 (.slice (some ⟨W.heap.size, 0, none⟩) 1 1)).run Tryz.prog (W.alloc (.cells #[.int .u8 z] 5)) = .ok (.string (bs [UInt8.ofNat (48 + d)])) (W.alloc (.cells #[.int .u8 z] 5)) :=
  conv_byte _ _ z d hd hz ((Box.new (w := W) (B := W.heap.size) (vs := #[.int .u8 z]) (t := 5) rfl) 0 _ rfl).1
theorem wrapI (z : Int) (h0 : -9223372036854775808 ≤ z) (h1 : z ≤ 9223372036854775807) : IntKind.i64.wrap z = z := by
  rw [IntKind.wrap_i64]; omega
theorem wrap8 (d : Nat) (hd : d < 10) : IntKind.u8.wrap (48 + (d : Int)) = 48 + (d : Int) := by
  have : ∀ d : Fin 10, IntKind.u8.wrap (48 + (d.val : Int)) = 48 + (d.val : Int) := by decide
  exact this ⟨d, hd⟩
set_option maxHeartbeats 2000000 in
theorem digitsOne (n : Nat) (hn : n < 10) (w : World) : Calls Tryz.prog 94 #[.int .i64 (n : Int)] w fun e w' => e = .returned (.string (bs (decDigits n))) ∧ Below w.heap.size w w' := by
  have h1 : ¬ ((n : Int) < 0) := by omega
  have h2 : (n : Int) < 10 := by omega
  have h3 : ((n : Int) == -9223372036854775808) = false := beq_eq_false_iff_ne.2 (by omega)
  have h4 := wrap8 n hn
  obtain ⟨T, hT⟩ : ∃ T, bs [UInt8.ofNat (48 + n)] = T := ⟨_, rfl⟩
  have hcv := conv_new w (48 + (n : Int)) n hn rfl
  rw [hT] at hcv
  have HD : Hid (bs (decDigits n) = T) := by show _ = _; rw [decDigits_one hn, hT]
  clear hT
  go_enter Tryz.func94, Tryz.ntmps94
  go_wp2_with fail
  go_ret
  exact ⟨by rw [HD.out]; rfl, (Below.refl _ _).alloc (Nat.le_refl _) _⟩
set_option maxHeartbeats 4000000 in
theorem l00DigitsS : ∀ (k n : Nat), n < 10 ^ (k + 1) → k ≤ 17 → ∀ w, Calls Tryz.prog 94 #[.int .i64 (n : Int)] w fun e w' => e = .returned (.string (bs (decDigits n))) ∧ Below w.heap.size w w' := by
  intro k
  induction k with
  | zero => intro n hn _ w; exact digitsOne n (by simpa using hn) w
  | succ k ih =>
    intro n hn hk w
    by_cases h10 : n < 10
    · exact digitsOne n h10 w
    have hb : n < 1000000000000000000 := by
      have : 10 ^ (k + 1 + 1) ≤ 10 ^ 18 := Nat.pow_le_pow_right (by omega) (by omega)
      omega
    have hq : n / 10 < 10 ^ (k + 1) := by
      rw [Nat.pow_succ] at hn; omega
    have IH : ∀ W, Calls Tryz.prog 94 #[.int .i64 ((n / 10 : Nat) : Int)] W fun e w' => e = .returned (.string (bs (decDigits (n / 10)))) ∧ Below W.heap.size W w' := ih (n / 10) hq (by omega)
    obtain ⟨T, hT⟩ : ∃ T, bs [UInt8.ofNat (48 + n % 10)] = T := ⟨_, rfl⟩
    obtain ⟨X, hX⟩ : ∃ X, bs (decDigits (n / 10)) = X := ⟨_, rfl⟩
    have HD : Hid (bs (decDigits n) = X ++ T) := by
      show _ = _
      rw [← hT, ← hX, bs_append]
      congr 1
      rw [decDigits, dif_neg h10]
    have hlen : X.size ≤ 18 := by
      have := (digits_len (n / 10) 17).2 (by omega)
      rw [← hX]
      simpa [bs, ByteArray.size] using this
    have hlt : T.size = 1 := by rw [← hT]; rfl
    have hcv := fun W => conv_new W (48 + ((n % 10 : Nat) : Int)) (n % 10) (by omega) rfl
    have hcb := fun W b => conv_byte W b (48 + ((n % 10 : Nat) : Int)) (n % 10) (by omega) rfl
    rw [hT] at hcb
    simp only [hT] at hcv
    rw [hX] at IH
    have h1 : ¬ ((n : Int) < 0) := by omega
    have h2 : ¬ (n : Int) < 10 := by omega
    have h3 : ((n : Int) == -9223372036854775808) = false := beq_eq_false_iff_ne.2 (by omega)
    have h4 := wrap8 (n % 10) (by omega)
    have e1 : ((n / 10 : Nat) : Int) = (n : Int) / 10 := by omega
    have e2 : ((n % 10 : Nat) : Int) = (n : Int) % 10 := by omega
    obtain ⟨m, hm⟩ : ∃ m : Int, (n : Int) / 10 = m := ⟨_, rfl⟩
    obtain ⟨r, hr⟩ : ∃ r : Int, (n : Int) % 10 = r := ⟨_, rfl⟩
    rw [e1, hm] at IH
    rw [e2, hr] at h4
    simp only [e2, hr] at hcv hcb
    have hr0 : 0 ≤ r ∧ r < 10 := by omega
    have hmm : (n : Int).tdiv 10 = m := by rw [← hm]; exact Int.tdiv_eq_ediv_of_nonneg (by omega)
    have hrr : (n : Int).tmod 10 = r := by rw [← hr]; exact Int.tmod_eq_emod_of_nonneg (by omega)
    have hwm : IntKind.i64.wrap m = m := wrapI m (by omega) (by omega)
    have hwr : IntKind.i64.wrap (48 + r) = 48 + r := wrapI _ (by omega) (by omega)
    have hnc : ¬ 9223372036854775807 < X.size + 1 := by omega
    clear hT hX ih
    go_enter Tryz.func94, Tryz.ntmps94
    go_wp2_with fail
    refine wp_region_noPanic ?_
    refine wp_region_held_drew (S := fun _ => True) (by kernel_rfl) trivial (fun hHeld => ?_)
    refine tkA (i := 0) (v := .int .i64 (n : Int)) ?_ hHeld ?_
    · intro w9 _
      go_simp
    simp only [Act.put, List.setIfInBounds_toArray, List.set_cons_zero, List.set_cons_succ]
    refine tkA (i := 1) (v := .int .i64 m) ?_ hHeld ?_
    · intro w9 _
      go_simp
    simp only [Act.put, List.setIfInBounds_toArray, List.set_cons_zero, List.set_cons_succ]
    refine tkA (i := 3) (v := .int .i64 (n : Int)) ?_ hHeld ?_
    · intro w9 _
      go_simp
    simp only [Act.put, List.setIfInBounds_toArray, List.set_cons_zero, List.set_cons_succ]
    refine tkA (i := 4) (v := .int .i64 r) ?_ hHeld ?_
    · intro w9 _
      go_simp
    simp only [Act.put, List.setIfInBounds_toArray, List.set_cons_zero, List.set_cons_succ]
    refine tkA (i := 5) (v := .int .i64 (48 + r)) ?_ hHeld ?_
    · intro w9 _
      go_simp
    simp only [Act.put, List.setIfInBounds_toArray, List.set_cons_zero, List.set_cons_succ]
    refine tkA (i := 6) (v := .int .u8 (48 + r)) ?_ hHeld ?_
    · intro w9 _
      go_simp
    simp only [Act.put, List.setIfInBounds_toArray, List.set_cons_zero, List.set_cons_succ]
    refine wpAnyH_ready (rs := [2, 7]) (by kernel_rfl) (by simp) ?_
    refine AllReadyH.cons rfl (fun K hK => ?_) (AllReadyH.cons rfl (fun K hK => ?_) AllReadyH.nil)
    · skip
      go_simp
      refine (IH _).mono ?_
      rintro e wa1 ⟨rfl, hb1⟩
      dsimp only
      have B1 : Hid (Below w.heap.size w wa1) := (Below.refl w.heap.size w).drew.trans (hb1.mono (Below.refl w.heap.size w).drew.size)
      clear hb1
      refine hK _ _ trivial (fun hHeld => ?_)
      clear hK K
      refine wpAnyH_ready (rs := [7]) (by kernel_rfl) (by simp) ?_
      refine AllReadyH.cons rfl (fun K hK => ?_) AllReadyH.nil
      go_simp
      have B2 : Hid (Below w.heap.size w ((wa1).alloc (.cells #[.int .u8 (48 + r)] 5))) := (B1.out).alloc (B1.out).size _
      have X2 : Hid (Box ((wa1).alloc (.cells #[.int .u8 (48 + r)] 5)) wa1.heap.size [.int .u8 (48 + r)]) := Box.new rfl
      refine hK _ _ trivial (fun hHeld => ?_)
      clear hK K
      refine wpAnyH_ready (rs := [8]) (by kernel_rfl) (by simp) ?_
      refine AllReadyH.cons rfl (fun K hK => ?_) AllReadyH.nil
      have hc3 := hcb ((wa1).alloc (.cells #[.int .u8 (48 + r)] 5)) (wa1.heap.size) (X2.out 0 _ rfl).1
      go_simp
      refine hK _ _ trivial (fun hHeld => ?_)
      clear hK K
      refine wpAnyH_ready (rs := [9]) (by kernel_rfl) (by simp) ?_
      refine AllReadyH.cons rfl (fun K hK => ?_) AllReadyH.nil
      go_simp
      refine hK _ _ trivial (fun hHeld => ?_)
      clear hK K
      refine wpAnyH_ready (rs := [10]) (by kernel_rfl) (by simp) ?_
      refine AllReadyH.cons rfl (fun K hK => ?_) AllReadyH.nil
      go_simp
      refine hK _ _ trivial (fun hHeld => ?_)
      clear hK K
      refine wpAnyH_done (by kernel_rfl) ?_ _
      refine NoPanic.normal ?_
      clear hHeld
      go_wp2_with fail
      go_ret
      exact ⟨by rw [HD.out]; rfl, B2.out⟩
    · skip
      go_simp
      have B4 : Hid (Below w.heap.size w ((w).alloc (.cells #[.int .u8 (48 + r)] 5))) := ((Below.refl w.heap.size w)).alloc ((Below.refl w.heap.size w)).size _
      have X4 : Hid (Box ((w).alloc (.cells #[.int .u8 (48 + r)] 5)) w.heap.size [.int .u8 (48 + r)]) := Box.new rfl
      refine hK _ _ trivial (fun hHeld => ?_)
      clear hK K
      refine wpAnyH_ready (rs := [2, 8]) (by kernel_rfl) (by simp) ?_
      refine AllReadyH.cons rfl (fun K hK => ?_) (AllReadyH.cons rfl (fun K hK => ?_) AllReadyH.nil)
      · skip
        go_simp
        refine (IH _).mono ?_
        rintro e wa5 ⟨rfl, hb5⟩
        dsimp only
        have B5 : Hid (Below w.heap.size w wa5) := B4.out.drew.trans (hb5.mono B4.out.drew.size)
        have X5 : Hid (Box wa5 w.heap.size [.int .u8 (48 + r)]) := Box.below (w := ((w).alloc (.cells #[.int .u8 (48 + r)] 5)).drew) X4.out.drew hb5
        clear hb5
        refine hK _ _ trivial (fun hHeld => ?_)
        clear hK K
        refine wpAnyH_ready (rs := [8]) (by kernel_rfl) (by simp) ?_
        refine AllReadyH.cons rfl (fun K hK => ?_) AllReadyH.nil
        have hc6 := hcb (wa5) (w.heap.size) (X5.out 0 _ rfl).1
        go_simp
        refine hK _ _ trivial (fun hHeld => ?_)
        clear hK K
        refine wpAnyH_ready (rs := [9]) (by kernel_rfl) (by simp) ?_
        refine AllReadyH.cons rfl (fun K hK => ?_) AllReadyH.nil
        go_simp
        refine hK _ _ trivial (fun hHeld => ?_)
        clear hK K
        refine wpAnyH_ready (rs := [10]) (by kernel_rfl) (by simp) ?_
        refine AllReadyH.cons rfl (fun K hK => ?_) AllReadyH.nil
        go_simp
        refine hK _ _ trivial (fun hHeld => ?_)
        clear hK K
        refine wpAnyH_done (by kernel_rfl) ?_ _
        refine NoPanic.normal ?_
        clear hHeld
        go_wp2_with fail
        go_ret
        exact ⟨by rw [HD.out]; rfl, B5.out⟩
      · skip
        have hc7 := hcb (((w).alloc (.cells #[.int .u8 (48 + r)] 5)).drew) (w.heap.size) (X4.out.drew 0 _ rfl).1
        go_simp
        refine hK _ _ trivial (fun hHeld => ?_)
        clear hK K
        refine wpAnyH_ready (rs := [2]) (by kernel_rfl) (by simp) ?_
        refine AllReadyH.cons rfl (fun K hK => ?_) AllReadyH.nil
        go_simp
        refine (IH _).mono ?_
        rintro e wa8 ⟨rfl, hb8⟩
        dsimp only
        have B8 : Hid (Below w.heap.size w wa8) := B4.out.drew.trans (hb8.mono B4.out.drew.size)
        have X8 : Hid (Box wa8 w.heap.size [.int .u8 (48 + r)]) := Box.below (w := ((w).alloc (.cells #[.int .u8 (48 + r)] 5)).drew) X4.out.drew hb8
        clear hb8
        refine hK _ _ trivial (fun hHeld => ?_)
        clear hK K
        refine wpAnyH_ready (rs := [9]) (by kernel_rfl) (by simp) ?_
        refine AllReadyH.cons rfl (fun K hK => ?_) AllReadyH.nil
        go_simp
        refine hK _ _ trivial (fun hHeld => ?_)
        clear hK K
        refine wpAnyH_ready (rs := [10]) (by kernel_rfl) (by simp) ?_
        refine AllReadyH.cons rfl (fun K hK => ?_) AllReadyH.nil
        go_simp
        refine hK _ _ trivial (fun hHeld => ?_)
        clear hK K
        refine wpAnyH_done (by kernel_rfl) ?_ _
        refine NoPanic.normal ?_
        clear hHeld
        go_wp2_with fail
        go_ret
        exact ⟨by rw [HD.out]; rfl, B8.out⟩
end Go.Proofs.YthgbclipknfmjaaGreatDoor
namespace Go.Proofs.YthgbclipknfmjaaGreatDoor
open Go.Lib
set_option linter.unusedVariables false
set_option linter.unusedSimpArgs false

/-- A text cut at each of some byte. -/
def splitL (c : UInt8) : List UInt8 → List (List UInt8)
  | [] => [[]]
  | b :: r => if b = c then [] :: splitL c r else
    match splitL c r with
    | [] => [[b]]
    | h :: t => (b :: h) :: t
theorem splitL_ne (c : UInt8) (l : List UInt8) : splitL c l ≠ [] := by
  cases l with
  | nil => simp [splitL]
  | cons b r =>
    unfold splitL
    split
    · simp
    · split <;> simp
theorem splitL_seg (c : UInt8) : ∀ (l r : List UInt8), c ∉ l → splitL c (l ++ c :: r) = l :: splitL c r
  | [], r, _ => by simp [splitL]
  | b :: l, r, h => by
    have hb : b ≠ c := fun e => h (by rw [e]; exact List.mem_cons_self)
    have ih := splitL_seg c l r (fun h9 => h (List.mem_cons_of_mem _ h9))
    rw [List.cons_append, splitL, if_neg hb, ih]
theorem splitL_whole (c : UInt8) : ∀ (l : List UInt8), c ∉ l → splitL c l = [l]
  | [], _ => rfl
  | b :: l, h => by
    have hb : b ≠ c := fun e => h (by rw [e]; exact List.mem_cons_self)
    rw [splitL, if_neg hb, splitL_whole c l (fun h9 => h (List.mem_cons_of_mem _ h9))]
theorem splitL_length (c : UInt8) : ∀ (l : List UInt8), (splitL c l).length = l.count c + 1
  | [] => rfl
  | b :: l => by
    have ih := splitL_length c l
    unfold splitL
    by_cases hb : b = c
    · rw [if_pos hb, List.length_cons, ih, hb, List.count_cons_self]
    · rw [if_neg hb, List.count_cons_of_ne (by simpa using hb)]
      cases hs : splitL c l with
      | nil => exact absurd hs (splitL_ne c l)
      | cons h t => rw [hs] at ih; simpa using ih
theorem splitL_no (c : UInt8) : ∀ (l : List UInt8), ∀ p ∈ splitL c l, c ∉ p
  | [], p, hp => by
    simp only [splitL, List.mem_singleton] at hp
    rw [hp]; simp
  | b :: l, p, hp => by
    have ih := splitL_no c l
    unfold splitL at hp
    by_cases hb : b = c
    · rw [if_pos hb] at hp
      rcases List.mem_cons.1 hp with rfl | hp
      · simp
      · exact ih p hp
    · rw [if_neg hb] at hp
      cases hs : splitL c l with
      | nil => exact absurd hs (splitL_ne c l)
      | cons h t =>
        rw [hs] at hp ih
        rcases List.mem_cons.1 hp with rfl | hp
        · intro h9
          rcases List.mem_cons.1 h9 with h9 | h9
          · exact hb h9.symm
          · exact ih h List.mem_cons_self h9
        · exact ih p (List.mem_cons_of_mem _ hp)
theorem idx (c : UInt8) : ∀ l : List UInt8, (index l [c] = -1 ∧ c ∉ l) ∨ ∃ i : Nat, index l [c] = i ∧ i < l.length ∧ l = l.take i ++ c :: l.drop (i + 1) ∧ c ∉ l.take i
  | [] => .inl ⟨by simp [index], by simp⟩
  | b :: l => by
    by_cases hb : b = c
    · right
      subst hb
      exact ⟨0, by simp [index], by simp, by simp, by simp⟩
    · have hp : ([c].isPrefixOf (b :: l)) = false := by
        simp [List.isPrefixOf]
        exact fun e => hb e.symm
      rcases idx c l with ⟨h1, h2⟩ | ⟨i, h1, h2, h3, h4⟩
      · left
        refine ⟨by simp [index, hp, h1], fun h9 => ?_⟩
        rcases List.mem_cons.1 h9 with h9 | h9
        · exact hb h9.symm
        · exact h2 h9
      · right
        refine ⟨i + 1, ?_, by simp; omega, ?_, fun h9 => ?_⟩
        · have : ¬ index l [c] = -1 := by omega
          simp only [index, hp, Bool.false_eq_true, if_false, beq_iff_eq, this, h1]
          omega
        · simp only [List.take_succ_cons, List.drop_succ_cons, List.cons_append]
          rw [← h3]
        · rw [List.take_succ_cons] at h9
          rcases List.mem_cons.1 h9 with h9 | h9
          · exact hb h9.symm
          · exact h4 h9
theorem splitK_eq (c : UInt8) : ∀ (k : Nat) (l : List UInt8), l.count c ≤ k → splitK [c] 0 k l = splitL c l
  | 0, l, h => by
    have : c ∉ l := by
      intro h9
      have := List.count_pos_iff.2 h9
      omega
    rw [splitL_whole c l this]
    rfl
  | k + 1, l, h => by
    unfold splitK
    rcases idx c l with ⟨h1, h2⟩ | ⟨i, h1, h2, h3, h4⟩
    · rw [if_pos (by rw [h1]; rfl), splitL_whole c l h2]
    · have hne : ¬ (index l [c] == -1) = true := fun e => by have := beq_iff_eq.1 e; omega
      rw [if_neg hne, h1]
      simp only [Int.toNat_natCast, Nat.add_zero, List.length_singleton]
      have hc : (l.drop (i + 1)).count c ≤ k := by
        have h5 : l.count c = (l.take i).count c + (1 + (l.drop (i + 1)).count c) := by
          have h6 := congrArg (List.count c) h3
          rw [List.count_append, List.count_cons_self] at h6
          omega
        omega
      rw [splitK_eq c k _ hc]
      have h7 := splitL_seg c (l.take i) (l.drop (i + 1)) h4
      rw [← h3] at h7
      rw [h7]
theorem countFrom_eq (c : UInt8) : ∀ (fuel : Nat) (l : List UInt8), l.length < fuel → countFrom [c] fuel l = l.count c
  | 0, l, h => by omega
  | fuel + 1, l, h => by
    unfold countFrom
    rcases idx c l with ⟨h1, h2⟩ | ⟨i, h1, h2, h3, h4⟩
    · rw [if_pos (by rw [h1]; rfl), List.count_eq_zero_of_not_mem h2]
    · have hne : ¬ (index l [c] == -1) = true := fun e => by have := beq_iff_eq.1 e; omega
      rw [if_neg hne, h1]
      simp only [Int.toNat_natCast, List.length_singleton]
      rw [countFrom_eq c fuel _ (by rw [List.length_drop]; omega)]
      have h6 := congrArg (List.count c) h3
      rw [List.count_append, List.count_cons_self, List.count_eq_zero_of_not_mem h4] at h6
      omega
theorem count_eq (c : UInt8) (l : List UInt8) : count l [c] = l.count c := countFrom_eq c _ l (by omega)
theorem data_bs (s : ByteArray) : bs s.data.toList = s := rfl
theorem bs_inj {a b : ByteArray} (h : a.data.toList = b.data.toList) : a = b := by rw [← data_bs a, ← data_bs b, h]
/-- What the library's Split gives at a lone byte. -/
theorem splitB_eq (c : UInt8) (s : ByteArray) : splitB (bs [c]) 0 (countB s (bs [c])) s = (splitL c s.data.toList).map bs := by
  have h1 := splitB_data (bs [c]) 0 (countB s (bs [c])) s
  have h2 : countB s (bs [c]) = s.data.toList.count c := count_eq c _
  rw [h2] at h1 ⊢
  rw [show (bs [c]).data.toList = [c] from rfl, splitK_eq c _ _ (Nat.le_refl _)] at h1
  rw [← h1, List.map_map]
  have : (bs ∘ fun x : ByteArray => x.data.toList) = id := by funext x; exact data_bs x
  rw [this, List.map_id]
theorem countB_eq (c : UInt8) (s : ByteArray) : countB s (bs [c]) + 1 = ((splitL c s.data.toList).map bs).length := by
  rw [List.length_map, splitL_length]
  congr 1
  exact count_eq c _
theorem cut_yes (c : UInt8) (a b : List UInt8) (h : c ∉ a) : cut (a ++ c :: b) [c] = (a, b, true) := by
  rcases idx c (a ++ c :: b) with ⟨h1, h2⟩ | ⟨i, h1, h2, h3, h4⟩
  · exact absurd (List.mem_append_right _ List.mem_cons_self) h2
  · have e1 := splitL_seg c a b h
    have e2 := splitL_seg c _ ((a ++ c :: b).drop (i + 1)) h4
    rw [← h3, e1] at e2
    have e3 : a = (a ++ c :: b).take i := (List.cons.inj e2).1
    have e4 : a.length = i := by
      have := congrArg List.length e3
      rw [List.length_take] at this
      omega
    unfold cut
    rw [if_pos (by omega), h1]
    simp only [Int.toNat_natCast, List.length_singleton]
    rw [← e3, ← e4]
    simp
theorem cut_no (c : UInt8) (a : List UInt8) (h : c ∉ a) : cut a [c] = (a, [], false) := by
  rcases idx c a with ⟨h1, h2⟩ | ⟨i, h1, h2, h3, h4⟩
  · unfold cut; rw [if_neg (by omega)]
  · exact absurd (by rw [h3]; exact List.mem_append_right _ List.mem_cons_self) h
theorem split_sizes (c : UInt8) : ∀ (l : List UInt8), ∀ p ∈ splitL c l, p.length ≤ l.length
  | [], p, hp => by
    simp only [splitL, List.mem_singleton] at hp
    rw [hp]; simp
  | b :: l, p, hp => by
    have ih := split_sizes c l
    unfold splitL at hp
    by_cases hb : b = c
    · rw [if_pos hb] at hp
      rcases List.mem_cons.1 hp with rfl | hp
      · simp
      · have := ih p hp; simp; omega
    · rw [if_neg hb] at hp
      cases hs : splitL c l with
      | nil => exact absurd hs (splitL_ne c l)
      | cons h t =>
        rw [hs] at hp ih
        rcases List.mem_cons.1 hp with rfl | hp
        · have := ih h List.mem_cons_self; simp; omega
        · have := ih p (List.mem_cons_of_mem _ hp); simp; omega
end Go.Proofs.YthgbclipknfmjaaGreatDoor
