
/-
  Numbers' texts: the specification's l00Digits. By an AI agent.
-/
import Derived.Test.YthgbclipknfmjaaGreatDoorNus
import Derived.Lib.ConvBytes
import Derived.Laws.IdiomStrings
namespace Go.Proofs.YthgbclipknfmjaaGreatDoor
open Go.ChangeShapes Go.WideShapes Go.ChangeAt Go.RowKit Go.Deep Go.Lib
set_option linter.unusedVariables false
set_option linter.unusedSimpArgs false
set_option maxRecDepth 100000

theorem tkA {P : Program} {md : Region.Mode} {ops : Array Oper} {Q : Exit → Act → World → Prop} {S : World → Prop} {i : Nat} {oi : Oper} {v : Value} {fuel : Nat} {listed : Array Bool} {a : Act} {w : World} (hy : ∀ w, S w → (execOp a.eval oi).run P w = .ok (.value v) w) (hS : S w) (h : wpAnyH P md ops Q S fuel (listed.setIfInBounds i true) (a.put oi.dst v) w)
    (hi : ops[i]? = some oi := by rfl) (hs : Region.noSelect ops = true := by kernel_rfl) (hf : Region.free md ops listed i = true := by kernel_rfl) (hr : (Region.ready md ops listed).contains i = true := by kernel_rfl) (hw : Region.wanted oi (yielded ops a.tmps) = true := by kernel_rfl) (hQ : ∀ c a w, Q (.panic c) (a.put oi.dst v) w → Q (.panic c) a w := by exact fun _ _ _ h => h) : wpAnyH P md ops Q S (fuel + 1) listed a w :=
  wpAnyH_take hi hs hf hr hQ (Or.inl ⟨hw, hy⟩) hS h
theorem skA {P : Program} {md : Region.Mode} {ops : Array Oper} {Q : Exit → Act → World → Prop} {S : World → Prop} {i : Nat} {oi : Oper} {fuel : Nat} {listed : Array Bool} {a : Act} {w : World} (hS : S w) (h : wpAnyH P md ops Q S fuel (listed.setIfInBounds i true) (a.put oi.dst undef) w)
    (hi : ops[i]? = some oi := by rfl) (hs : Region.noSelect ops = true := by kernel_rfl) (hf : Region.free md ops listed i = true := by kernel_rfl) (hr : (Region.ready md ops listed).contains i = true := by kernel_rfl) (hw : Region.wanted oi (yielded ops a.tmps) = false := by kernel_rfl) (hQ : ∀ c a w, Q (.panic c) (a.put oi.dst undef) w → Q (.panic c) a w := by exact fun _ _ _ h => h) : wpAnyH P md ops Q S (fuel + 1) listed a w :=
  wpAnyH_take hi hs hf hr hQ (Or.inr ⟨hw, rfl⟩) hS h
def bs (l : List UInt8) : ByteArray := ⟨l.toArray⟩
theorem bs_append (l m : List UInt8) : bs l ++ bs m = bs (l ++ m) := by
  cases h : bs l ++ bs m
  simp only [bs] at h ⊢
  have : (ByteArray.mk l.toArray ++ ByteArray.mk m.toArray).data = _ := congrArg ByteArray.data h
  simp only [ByteArray.data_append] at this
  rw [← this]
  simp
/-- One byte as a text. -/
theorem conv_byte (W : World) (b : Nat) (z : Int) (d : Nat) (hd : d < 10) (hz : z = 48 + (d : Int)) (hc : W.cell? ⟨b, 0, none⟩ = some (.int .u8 z)) : (convert 22 9 (.slice (some ⟨b, 0, none⟩) 1 1)).run Tryz.prog W = .ok (.string (bs [UInt8.ofNat (48 + d)])) W := by
  refine run_convert_bytes_back (P := Tryz.prog) W 22 9 5 ⟨b, 0, none⟩ 1 [UInt8.ofNat (48 + d)] Tryz.underlying22 Tryz.underlying5 Tryz.underlying9 (fun j hj => ?_)
  have hj2 : j < 1 := hj
  obtain rfl : j = 0 := by omega
  have h1 : (UInt8.ofNat (48 + d)).toNat = 48 + d := by simp [UInt8.toNat_ofNat']; omega
  have h2 : W.cell? ((⟨b, 0, none⟩ : Addr).add 0) = W.cell? ⟨b, 0, none⟩ := rfl
  rw [h2, hc, hz]
  show some (Value.int .u8 (48 + (d : Int))) = some (Value.int .u8 ((UInt8.ofNat (48 + d)).toNat : Int))
  rw [h1]
  rfl
theorem conv_new (W : World) (z : Int) (d : Nat) (hd : d < 10) (hz : z = 48 + (d : Int)) : (convert 22 9 (.slice (some ⟨W.heap.size, 0, none⟩) 1 1)).run Tryz.prog (W.alloc (.cells #[.int .u8 z] 5)) = .ok (.string (bs [UInt8.ofNat (48 + d)])) (W.alloc (.cells #[.int .u8 z] 5)) :=
  conv_byte _ _ z d hd hz ((Box.new (w := W) (B := W.heap.size) (vs := #[.int .u8 z]) (t := 5) rfl) 0 _ rfl).1
theorem wrapI (z : Int) (h0 : -9223372036854775808 ≤ z) (h1 : z ≤ 9223372036854775807) : IntKind.i64.wrap z = z := by
  rw [IntKind.wrap_i64]; omega
theorem wrap8 (d : Nat) (hd : d < 10) : IntKind.u8.wrap (48 + (d : Int)) = 48 + (d : Int) := by
  have : ∀ d : Fin 10, IntKind.u8.wrap (48 + (d.val : Int)) = 48 + (d.val : Int) := by decide
  exact this ⟨d, hd⟩
set_option maxHeartbeats 2000000 in
theorem digitsOne (n : Nat) (hn : n < 10) (w : World) : Calls Tryz.prog 94 #[.int .i64 (n : Int)] w fun e w' => e = .returned (.string (bs (decDigits n))) ∧ Below w.heap.size w w' := by
  have h1 : ¬ ((n : Int) < 0) := by omega
  have h2 : (n : Int) < 10 := by omega
  have h3 : ((n : Int) == -9223372036854775808) = false := beq_eq_false_iff_ne.2 (by omega)
  have h4 := wrap8 n hn
  obtain ⟨T, hT⟩ : ∃ T, bs [UInt8.ofNat (48 + n)] = T := ⟨_, rfl⟩
  have hcv := conv_new w (48 + (n : Int)) n hn rfl
  rw [hT] at hcv
  have HD : Hid (bs (decDigits n) = T) := by show _ = _; rw [decDigits_one hn, hT]
  clear hT
  go_enter Tryz.func94, Tryz.ntmps94
  go_wp2_with fail
  go_ret
  exact ⟨by rw [HD.out]; rfl, (Below.refl _ _).alloc (Nat.le_refl _) _⟩
set_option maxHeartbeats 4000000 in
theorem l00DigitsS : ∀ (k n : Nat), n < 10 ^ (k + 1) → k ≤ 17 → ∀ w, Calls Tryz.prog 94 #[.int .i64 (n : Int)] w fun e w' => e = .returned (.string (bs (decDigits n))) ∧ Below w.heap.size w w' := by
  intro k
  induction k with
  | zero => intro n hn _ w; exact digitsOne n (by simpa using hn) w
  | succ k ih =>
    intro n hn hk w
    by_cases h10 : n < 10
    · exact digitsOne n h10 w
    have hb : n < 1000000000000000000 := by
      have : 10 ^ (k + 1 + 1) ≤ 10 ^ 18 := Nat.pow_le_pow_right (by omega) (by omega)
      omega
    have hq : n / 10 < 10 ^ (k + 1) := by
      rw [Nat.pow_succ] at hn; omega
    have IH : ∀ W, Calls Tryz.prog 94 #[.int .i64 ((n / 10 : Nat) : Int)] W fun e w' => e = .returned (.string (bs (decDigits (n / 10)))) ∧ Below W.heap.size W w' := ih (n / 10) hq (by omega)
    obtain ⟨T, hT⟩ : ∃ T, bs [UInt8.ofNat (48 + n % 10)] = T := ⟨_, rfl⟩
    obtain ⟨X, hX⟩ : ∃ X, bs (decDigits (n / 10)) = X := ⟨_, rfl⟩
    have HD : Hid (bs (decDigits n) = X ++ T) := by
      show _ = _
      rw [← hT, ← hX, bs_append]
      congr 1
      rw [decDigits, dif_neg h10]
    have hlen : X.size ≤ 18 := by
      have := (digits_len (n / 10) 17).2 (by omega)
      rw [← hX]
      simpa [bs, ByteArray.size] using this
    have hlt : T.size = 1 := by rw [← hT]; rfl
    have hcv := fun W => conv_new W (48 + ((n % 10 : Nat) : Int)) (n % 10) (by omega) rfl
    have hcb := fun W b => conv_byte W b (48 + ((n % 10 : Nat) : Int)) (n % 10) (by omega) rfl
    rw [hT] at hcb
    simp only [hT] at hcv
    rw [hX] at IH
    have h1 : ¬ ((n : Int) < 0) := by omega
    have h2 : ¬ (n : Int) < 10 := by omega
    have h3 : ((n : Int) == -9223372036854775808) = false := beq_eq_false_iff_ne.2 (by omega)
    have h4 := wrap8 (n % 10) (by omega)
    have e1 : ((n / 10 : Nat) : Int) = (n : Int) / 10 := by omega
    have e2 : ((n % 10 : Nat) : Int) = (n : Int) % 10 := by omega
    obtain ⟨m, hm⟩ : ∃ m : Int, (n : Int) / 10 = m := ⟨_, rfl⟩
    obtain ⟨r, hr⟩ : ∃ r : Int, (n : Int) % 10 = r := ⟨_, rfl⟩
    rw [e1, hm] at IH
    rw [e2, hr] at h4
    simp only [e2, hr] at hcv hcb
    have hr0 : 0 ≤ r ∧ r < 10 := by omega
    have hmm : (n : Int).tdiv 10 = m := by rw [← hm]; exact Int.tdiv_eq_ediv_of_nonneg (by omega)
    have hrr : (n : Int).tmod 10 = r := by rw [← hr]; exact Int.tmod_eq_emod_of_nonneg (by omega)
    have hwm : IntKind.i64.wrap m = m := wrapI m (by omega) (by omega)
    have hwr : IntKind.i64.wrap (48 + r) = 48 + r := wrapI _ (by omega) (by omega)
    have hnc : ¬ 9223372036854775807 < X.size + 1 := by omega
    clear hT hX ih
    go_enter Tryz.func94, Tryz.ntmps94
    go_wp2_with fail
    refine wp_region_noPanic ?_
    refine wp_region_held_drew (S := fun _ => True) (by kernel_rfl) trivial (fun hHeld => ?_)
    refine tkA (i := 0) (v := .int .i64 (n : Int)) ?_ hHeld ?_
    · intro w9 _
      go_simp
    simp only [Act.put, List.setIfInBounds_toArray, List.set_cons_zero, List.set_cons_succ]
    refine tkA (i := 1) (v := .int .i64 m) ?_ hHeld ?_
    · intro w9 _
      go_simp
    simp only [Act.put, List.setIfInBounds_toArray, List.set_cons_zero, List.set_cons_succ]
    refine tkA (i := 3) (v := .int .i64 (n : Int)) ?_ hHeld ?_
    · intro w9 _
      go_simp
    simp only [Act.put, List.setIfInBounds_toArray, List.set_cons_zero, List.set_cons_succ]
    refine tkA (i := 4) (v := .int .i64 r) ?_ hHeld ?_
    · intro w9 _
      go_simp
    simp only [Act.put, List.setIfInBounds_toArray, List.set_cons_zero, List.set_cons_succ]
    refine tkA (i := 5) (v := .int .i64 (48 + r)) ?_ hHeld ?_
    · intro w9 _
      go_simp
    simp only [Act.put, List.setIfInBounds_toArray, List.set_cons_zero, List.set_cons_succ]
    refine tkA (i := 6) (v := .int .u8 (48 + r)) ?_ hHeld ?_
    · intro w9 _
      go_simp
    simp only [Act.put, List.setIfInBounds_toArray, List.set_cons_zero, List.set_cons_succ]
    refine wpAnyH_ready (rs := [2, 7]) (by kernel_rfl) (by simp) ?_
    refine AllReadyH.cons rfl (fun K hK => ?_) (AllReadyH.cons rfl (fun K hK => ?_) AllReadyH.nil)
    · skip
      go_simp
      refine (IH _).mono ?_
      rintro e wa1 ⟨rfl, hb1⟩
      dsimp only
      have B1 : Hid (Below w.heap.size w wa1) := (Below.refl w.heap.size w).drew.trans (hb1.mono (Below.refl w.heap.size w).drew.size)
      clear hb1
      refine hK _ _ trivial (fun hHeld => ?_)
      clear hK K
      refine wpAnyH_ready (rs := [7]) (by kernel_rfl) (by simp) ?_
      refine AllReadyH.cons rfl (fun K hK => ?_) AllReadyH.nil
      go_simp
      have B2 : Hid (Below w.heap.size w ((wa1).alloc (.cells #[.int .u8 (48 + r)] 5))) := (B1.out).alloc (B1.out).size _
      have X2 : Hid (Box ((wa1).alloc (.cells #[.int .u8 (48 + r)] 5)) wa1.heap.size [.int .u8 (48 + r)]) := Box.new rfl
      refine hK _ _ trivial (fun hHeld => ?_)
      clear hK K
      refine wpAnyH_ready (rs := [8]) (by kernel_rfl) (by simp) ?_
      refine AllReadyH.cons rfl (fun K hK => ?_) AllReadyH.nil
      have hc3 := hcb ((wa1).alloc (.cells #[.int .u8 (48 + r)] 5)) (wa1.heap.size) (X2.out 0 _ rfl).1
      go_simp
      refine hK _ _ trivial (fun hHeld => ?_)
      clear hK K
      refine wpAnyH_ready (rs := [9]) (by kernel_rfl) (by simp) ?_
      refine AllReadyH.cons rfl (fun K hK => ?_) AllReadyH.nil
      go_simp
      refine hK _ _ trivial (fun hHeld => ?_)
      clear hK K
      refine wpAnyH_ready (rs := [10]) (by kernel_rfl) (by simp) ?_
      refine AllReadyH.cons rfl (fun K hK => ?_) AllReadyH.nil
      go_simp
      refine hK _ _ trivial (fun hHeld => ?_)
      clear hK K
      refine wpAnyH_done (by kernel_rfl) ?_ _
      refine NoPanic.normal ?_
      clear hHeld
      go_wp2_with fail
      go_ret
      exact ⟨by rw [HD.out]; rfl, B2.out⟩
    · skip
      go_simp
      have B4 : Hid (Below w.heap.size w ((w).alloc (.cells #[.int .u8 (48 + r)] 5))) := ((Below.refl w.heap.size w)).alloc ((Below.refl w.heap.size w)).size _
      have X4 : Hid (Box ((w).alloc (.cells #[.int .u8 (48 + r)] 5)) w.heap.size [.int .u8 (48 + r)]) := Box.new rfl
      refine hK _ _ trivial (fun hHeld => ?_)
      clear hK K
      refine wpAnyH_ready (rs := [2, 8]) (by kernel_rfl) (by simp) ?_
      refine AllReadyH.cons rfl (fun K hK => ?_) (AllReadyH.cons rfl (fun K hK => ?_) AllReadyH.nil)
      · skip
        go_simp
        refine (IH _).mono ?_
        rintro e wa5 ⟨rfl, hb5⟩
        dsimp only
        have B5 : Hid (Below w.heap.size w wa5) := B4.out.drew.trans (hb5.mono B4.out.drew.size)
        have X5 : Hid (Box wa5 w.heap.size [.int .u8 (48 + r)]) := Box.below (w := ((w).alloc (.cells #[.int .u8 (48 + r)] 5)).drew) X4.out.drew hb5
        clear hb5
        refine hK _ _ trivial (fun hHeld => ?_)
        clear hK K
        refine wpAnyH_ready (rs := [8]) (by kernel_rfl) (by simp) ?_
        refine AllReadyH.cons rfl (fun K hK => ?_) AllReadyH.nil
        have hc6 := hcb (wa5) (w.heap.size) (X5.out 0 _ rfl).1
        go_simp
        refine hK _ _ trivial (fun hHeld => ?_)
        clear hK K
        refine wpAnyH_ready (rs := [9]) (by kernel_rfl) (by simp) ?_
        refine AllReadyH.cons rfl (fun K hK => ?_) AllReadyH.nil
        go_simp
        refine hK _ _ trivial (fun hHeld => ?_)
        clear hK K
        refine wpAnyH_ready (rs := [10]) (by kernel_rfl) (by simp) ?_
        refine AllReadyH.cons rfl (fun K hK => ?_) AllReadyH.nil
        go_simp
        refine hK _ _ trivial (fun hHeld => ?_)
        clear hK K
        refine wpAnyH_done (by kernel_rfl) ?_ _
        refine NoPanic.normal ?_
        clear hHeld
        go_wp2_with fail
        go_ret
        exact ⟨by rw [HD.out]; rfl, B5.out⟩
      · skip
        have hc7 := hcb (((w).alloc (.cells #[.int .u8 (48 + r)] 5)).drew) (w.heap.size) (X4.out.drew 0 _ rfl).1
        go_simp
        refine hK _ _ trivial (fun hHeld => ?_)
        clear hK K
        refine wpAnyH_ready (rs := [2]) (by kernel_rfl) (by simp) ?_
        refine AllReadyH.cons rfl (fun K hK => ?_) AllReadyH.nil
        go_simp
        refine (IH _).mono ?_
        rintro e wa8 ⟨rfl, hb8⟩
        dsimp only
        have B8 : Hid (Below w.heap.size w wa8) := B4.out.drew.trans (hb8.mono B4.out.drew.size)
        have X8 : Hid (Box wa8 w.heap.size [.int .u8 (48 + r)]) := Box.below (w := ((w).alloc (.cells #[.int .u8 (48 + r)] 5)).drew) X4.out.drew hb8
        clear hb8
        refine hK _ _ trivial (fun hHeld => ?_)
        clear hK K
        refine wpAnyH_ready (rs := [9]) (by kernel_rfl) (by simp) ?_
        refine AllReadyH.cons rfl (fun K hK => ?_) AllReadyH.nil
        go_simp
        refine hK _ _ trivial (fun hHeld => ?_)
        clear hK K
        refine wpAnyH_ready (rs := [10]) (by kernel_rfl) (by simp) ?_
        refine AllReadyH.cons rfl (fun K hK => ?_) AllReadyH.nil
        go_simp
        refine hK _ _ trivial (fun hHeld => ?_)
        clear hK K
        refine wpAnyH_done (by kernel_rfl) ?_ _
        refine NoPanic.normal ?_
        clear hHeld
        go_wp2_with fail
        go_ret
        exact ⟨by rw [HD.out]; rfl, B8.out⟩
end Go.Proofs.YthgbclipknfmjaaGreatDoor
