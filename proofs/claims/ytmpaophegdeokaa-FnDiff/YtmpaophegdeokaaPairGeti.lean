
/-
  Contracts of the program's pairsFault, pairPlace and PairGet. By an AI agent.
-/
import Derived.Test.YtmpaophegdeokaaPairGet
namespace Go.Proofs.Ytmpaophegdeokaa
open Go.ChangeShapes Go.WideShapes Go.ChangeAt Go.RowKit Go.Deep
set_option linter.unusedVariables false

def faultC (f g : Nat → ByteArray) (n : Nat) (key val : ByteArray) : Int := if 4096 < n ∨ 65536 < key.size ∨ 65536 < val.size then 2 else if pairsB f g n = false then 1 else if keyB key = false ∨ 90 < val.size then 4 else 0
theorem fault_ask (f g : Nat → ByteArray) (n : Nat) (key : ByteArray) : faultC f g n key ⟨#[]⟩ = askC f g n key := by
  have hz : (⟨#[]⟩ : ByteArray).size = 0 := rfl
  unfold faultC askC
  rw [hz]
  simp

set_option maxHeartbeats 1000000 in
theorem pairsFault (a : Option Addr) (n c : Nat) (f g : Nat → ByteArray) (key val : ByteArray) (w : World) (hn : n ≤ 1048576) (hk : key.size ≤ 1048576) (hv : val.size ≤ 1048576) (hs : ∀ i, i < n → (f i).size ≤ 1048576 ∧ (g i).size ≤ 1048576) (h : Sp w a n f g) :
    Calls Try.prog 62 #[.slice a n c, .string key, .string val] w fun e w' => e = .returned (.int .i64 (faultC f g n key val)) ∧ Below w.heap.size w w' := by
  have HH : Hid (Sp w a n f g) := h
  have HS : Hid (∀ i, i < n → (f i).size ≤ 1048576 ∧ (g i).size ≤ 1048576) := hs
  clear h hs
  by_cases h1 : 4096 < n
  · have E : Hid (faultC f g n key val = 2) := by show faultC f g n key val = 2; unfold faultC; rw [if_pos (.inl h1)]
    go_enter Try.func62, Try.ntmps62
    go_wp2_with fail
    go_ret
    exact ⟨ret_int E.out.symm, Below.refl _ _⟩
  by_cases h2 : 65536 < key.size
  · have E : Hid (faultC f g n key val = 2) := by show faultC f g n key val = 2; unfold faultC; rw [if_pos (.inr (.inl h2))]
    go_enter Try.func62, Try.ntmps62
    go_wp2_with fail
    go_ret
    exact ⟨ret_int E.out.symm, Below.refl _ _⟩
  by_cases h3 : 65536 < val.size
  · have E : Hid (faultC f g n key val = 2) := by show faultC f g n key val = 2; unfold faultC; rw [if_pos (.inr (.inr h3))]
    go_enter Try.func62, Try.ntmps62
    go_wp2_with fail
    go_ret
    exact ⟨ret_int E.out.symm, Below.refl _ _⟩
  have h123 : ¬ (4096 < n ∨ 65536 < key.size ∨ 65536 < val.size) := by omega
  have KX : Hid (key.size ≤ maxLen) := by show key.size ≤ maxLen; unfold maxLen; omega
  cases hp : pairsB f g n with
  | false =>
    have E : Hid (faultC f g n key val = 1) := by show faultC f g n key val = 1; unfold faultC; rw [if_neg h123, if_pos hp]
    clear h123
    go_enter Try.func62, Try.ntmps62
    go_wp2_with fail
    refine (implPairsOK a n c f g _ hn HS.out HH.out).mono ?_
    rintro e1 w1 ⟨rfl, hb⟩
    go_wp2_with fail
    go_ret
    exact ⟨ret_int E.out.symm, hb⟩
  | true =>
    cases hkb : keyB key with
    | false =>
      have E : Hid (faultC f g n key val = 4) := by show faultC f g n key val = 4; unfold faultC; rw [if_neg h123, if_neg (by rw [hp]; decide), if_pos (.inl hkb)]
      have HK : Hid (keyB key = false) := hkb
      clear h123 hkb
      go_enter Try.func62, Try.ntmps62
      go_wp2_with fail
      refine (implPairsOK a n c f g _ hn HS.out HH.out).mono ?_
      rintro e1 w1 ⟨rfl, hb⟩
      go_wp2_with (go_at_call 69; refine (keyFitsIs false _ _ HK.out KX.out).mono ?_; rintro e2 w2 ⟨rfl, rfl⟩)
      go_ret
      exact ⟨ret_int E.out.symm, hb⟩
    | true =>
      have HK : Hid (keyB key = true) := hkb
      by_cases h4 : 90 < val.size
      · have E : Hid (faultC f g n key val = 4) := by show faultC f g n key val = 4; unfold faultC; rw [if_neg h123, if_neg (by rw [hp]; decide), if_pos (.inr h4)]
        clear h123 hkb
        go_enter Try.func62, Try.ntmps62
        go_wp2_with fail
        refine (implPairsOK a n c f g _ hn HS.out HH.out).mono ?_
        rintro e1 w1 ⟨rfl, hb⟩
        go_wp2_with (go_at_call 69; refine (keyFitsIs true _ _ HK.out KX.out).mono ?_; rintro e2 w2 ⟨rfl, rfl⟩)
        go_ret
        exact ⟨ret_int E.out.symm, hb⟩
      · have E : Hid (faultC f g n key val = 0) := by show faultC f g n key val = 0; unfold faultC; rw [if_neg h123, if_neg (by rw [hp]; decide), if_neg (by rw [hkb]; simp; omega)]
        clear h123 hkb
        go_enter Try.func62, Try.ntmps62
        go_wp2_with fail
        refine (implPairsOK a n c f g _ hn HS.out HH.out).mono ?_
        rintro e1 w1 ⟨rfl, hb⟩
        go_wp2_with (go_at_call 69; refine (keyFitsIs true _ _ HK.out KX.out).mono ?_; rintro e2 w2 ⟨rfl, rfl⟩)
        go_ret
        exact ⟨ret_int E.out.symm, hb⟩

theorem ret_ib {a b : Int} {k l : Bool} (h1 : a = b) (h2 : k = l) : Ending.returned (.tuple #[.int .i64 a, .bool k]) = .returned (.tuple #[.int .i64 b, .bool l]) := by rw [h1, h2]

set_option maxHeartbeats 400000 in
theorem pairPlace (a : Option Addr) (n c : Nat) (f g : Nat → ByteArray) (key : ByteArray) (p : Nat) (w : World) (hn : n ≤ 1048576) (hp : IsPlace f n key p) (h : Sp w a n f g) :
    Calls Try.prog 63 #[.slice a n c, .string key] w fun e w' => e = .returned (.tuple #[.int .i64 p, .bool (hitB f n key p)]) ∧ Below w.heap.size w w' := by
  have HP : Hid (IsPlace f n key p) := hp
  have hpn := hp.1
  clear hp
  go_enter Try.func63, Try.ntmps63
  go_wp2_with fail
  go_loop [4] (fun i => ∃ k : Nat, k ≤ p ∧ i = .int .i64 k) (fun i => p - (intOf i).toNat)
  case atStart => exact ⟨0, by omega, rfl⟩
  case round =>
    obtain ⟨k, hk, rfl⟩ := hrel
    by_cases hlt : k < p
    · rcases h with h1 | ⟨b, off, rfl, hc⟩
      · omega
      obtain ⟨hc1, hc2⟩ := hc k (by omega)
      have hl := HP.out.2.1 k hlt
      clear hc hc2
      go_wp2_with fail
      go_round
      case rel => exact ⟨k + 1, by omega, by go_num⟩
      case measure => simp [intOf]; omega
    · have hkp : Hid (k = p) := by show k = p; omega
      by_cases hkn : k < n
      · rcases h with h1 | ⟨b, off, rfl, hc⟩
        · omega
        obtain ⟨hc1, hc2⟩ := hc k (by omega)
        have hl : Op.bytesLess (f k).toList key.toList = false := by rw [hkp.out]; exact HP.out.2.2 (by rw [← hkp.out]; exact hkn)
        have hki : (k : Int) < (n : Int) := by omega
        clear hc hc2
        by_cases hq : ((f k).toList == key.toList) = true
        · have E : Hid (hitB f n key k = true) := by show hitB f n key k = true; unfold hitB; rw [hq, decide_eq_true hkn]; rfl
          go_wp2_with fail
          go_quiet (fail)
          go_wp2_with fail
          go_ret2
          exact ⟨ret_ib (by rw [hkp.out]) (by rw [← hkp.out]; exact E.out.symm), below_drewN (Below.refl _ _) _⟩
        · have hq' : ((f k).toList == key.toList) = false := by simpa using hq
          have E : Hid (hitB f n key k = false) := by show hitB f n key k = false; unfold hitB; rw [hq', decide_eq_true hkn]; rfl
          clear hq
          go_wp2_with fail
          go_quiet (fail)
          go_wp2_with fail
          go_ret2
          exact ⟨ret_ib (by rw [hkp.out]) (by rw [← hkp.out]; exact E.out.symm), below_drewN (Below.refl _ _) _⟩
      · have E : Hid (hitB f n key k = false) := by show hitB f n key k = false; unfold hitB; rw [decide_eq_false hkn]; rfl
        have hkd : decide (k < n) = false := by simp; omega
        clear h
        go_wp2_with fail
        go_quiet (fail)
        go_wp2_with fail
        go_ret2
        exact ⟨ret_ib (by rw [hkp.out]) (by rw [← hkp.out]; exact E.out.symm), below_drewN (Below.refl _ _) _⟩

set_option maxHeartbeats 400000 in
theorem implPairGet (a : Option Addr) (n c : Nat) (f g : Nat → ByteArray) (key : ByteArray) (p : Nat) (w : World) (hn : n ≤ 1048576) (hk : key.size ≤ 1048576) (hs : ∀ i, i < n → (f i).size ≤ 1048576 ∧ (g i).size ≤ 1048576) (hp : IsPlace f n key p) (h : Sp w a n f g) :
    Calls Try.prog 15 #[.slice a n c, .string key] w fun e w' => e = .returned (.tuple #[.string (getV f g n key p), .int .i64 (getC f g n key p)]) ∧ Below w.heap.size w w' := by
  have HP : Hid (IsPlace f n key p) := hp
  have HH : Hid (Sp w a n f g) := h
  have HS : Hid (∀ i, i < n → (f i).size ≤ 1048576 ∧ (g i).size ≤ 1048576) := hs
  have hz : (⟨#[]⟩ : ByteArray).size ≤ 1048576 := by show 0 ≤ 1048576; omega
  have HZ : Hid ((⟨#[]⟩ : ByteArray).size ≤ 1048576) := hz
  clear hp h hs hz
  by_cases h0 : askC f g n key = 0
  · have H0 : Hid (faultC f g n key ⟨#[]⟩ = 0) := by show faultC f g n key ⟨#[]⟩ = 0; rw [fault_ask]; exact h0
    cases hh : hitB f n key p with
    | true =>
      have E : Hid (hitB f n key p = true) := hh
      have hlt : p < n := by
        unfold hitB at hh
        simp at hh
        exact hh.1
      have E1 : Hid (getV f g n key p = g p) := by show getV f g n key p = _; unfold getV gotV; rw [if_pos h0, if_pos hh]
      have E2 : Hid (getC f g n key p = 0) := by show getC f g n key p = 0; unfold getC; rw [if_pos h0, hh]; rfl
      clear hh h0
      go_enter Try.func15, Try.ntmps15
      go_wp2_with fail
      refine (pairsFault a n c f g key ⟨#[]⟩ _ hn hk HZ.out HS.out HH.out).mono ?_
      rintro e1 w1 ⟨rfl, hb⟩
      rw [H0.out]
      go_wp2_with fail
      refine (pairPlace a n c f g key p _ hn HP.out (HH.out.below hb)).mono ?_
      rintro e1 w2 ⟨rfl, hb2⟩
      rw [E.out]
      have HB := hb.trans (hb2.mono hb.size)
      rcases HH.out.below HB with h1 | ⟨b, off, rfl, hc⟩
      · omega
      obtain ⟨hc1, hc2⟩ := hc p hlt
      clear hc hb hb2 hc1
      go_wp2_with fail
      go_ret2
      exact ⟨ret_two' E1.out.symm E2.out.symm, HB⟩
    | false =>
      have E : Hid (hitB f n key p = false) := hh
      have E1 : Hid (getV f g n key p = ⟨#[]⟩) := by show getV f g n key p = _; unfold getV gotV; rw [if_pos h0, hh]; rfl
      have E2 : Hid (getC f g n key p = 5) := by show getC f g n key p = 5; unfold getC; rw [if_pos h0, hh]; rfl
      clear hh h0
      go_enter Try.func15, Try.ntmps15
      go_wp2_with fail
      refine (pairsFault a n c f g key ⟨#[]⟩ _ hn hk HZ.out HS.out HH.out).mono ?_
      rintro e1 w1 ⟨rfl, hb⟩
      rw [H0.out]
      go_wp2_with fail
      refine (pairPlace a n c f g key p _ hn HP.out (HH.out.below hb)).mono ?_
      rintro e1 w2 ⟨rfl, hb2⟩
      rw [E.out]
      have HB := hb.trans (hb2.mono hb.size)
      clear hb hb2
      go_wp2_with fail
      go_ret2
      exact ⟨ret_two' E1.out.symm E2.out.symm, HB⟩
  · have hne : (faultC f g n key ⟨#[]⟩ != 0) = true := by rw [fault_ask]; simpa using h0
    have E1 : Hid (getV f g n key p = ⟨#[]⟩) := by show getV f g n key p = _; unfold getV; rw [if_neg h0]
    have E2 : Hid (getC f g n key p = faultC f g n key ⟨#[]⟩) := by show getC f g n key p = _; unfold getC; rw [if_neg h0, fault_ask]
    clear h0
    go_enter Try.func15, Try.ntmps15
    go_wp2_with fail
    refine (pairsFault a n c f g key ⟨#[]⟩ _ hn hk HZ.out HS.out HH.out).mono ?_
    rintro e1 w1 ⟨rfl, hb⟩
    go_wp2_with fail
    go_ret2
    exact ⟨ret_two' E1.out.symm E2.out.symm, hb⟩
end Go.Proofs.Ytmpaophegdeokaa
