
/-
  Contracts of both PairPut. By an AI agent.
-/
import Derived.Test.YtfbomjcjemcgeaaPut
import Derived.Test.YtfbomjcjemcgeaaAsk
namespace Go.Proofs.Ytfbomjcjemcgeaa
open Go.ChangeShapes Go.WideShapes Go.ChangeAt Go.RowKit Go.Deep
set_option linter.unusedVariables false
set_option maxRecDepth 100000

theorem OwnsP.weaken {w : World} {base base' : Nat} {v : Value} {L : List (ByteArray × ByteArray)} (h : OwnsP w base' v L) (hb : base ≤ base') : OwnsP w base v L := by
  obtain ⟨hl, h0 | ⟨gg, cap, cur, rfl, hb0, hg, hc1, hc2, hs, ht⟩⟩ := h
  · exact ⟨hl, .inl h0⟩
  · exact ⟨hl, .inr ⟨gg, cap, cur, rfl, Nat.le_trans hb hb0, hg, hc1, hc2, hs, ht⟩⟩
theorem putL_length (f g : Nat → ByteArray) (n : Nat) (key val : ByteArray) (p : Nat) (hp : p ≤ n) : (putL f g n key val p).length = if hitB f n key p = true then n else n + 1 := by
  unfold putL
  simp only [List.length_append, List.length_take, List.length_drop, listP_length, List.length_cons, List.length_nil]
  by_cases h : hitB f n key p = true
  · have hlt : p < n := by
      unfold hitB at h
      simp at h
      exact h.1
    rw [if_pos h, if_pos h]; omega
  · rw [if_neg h, if_neg h]; omega
def putC (f g : Nat → ByteArray) (n : Nat) (key val : ByteArray) (p : Nat) : Int := if faultC f g n key val = 0 then (if hitB f n key p = false ∧ n = 60 then 7 else 0) else faultC f g n key val
def putR (f g : Nat → ByteArray) (n : Nat) (key val : ByteArray) (p : Nat) : List (ByteArray × ByteArray) := if faultC f g n key val = 0 then (if hitB f n key p = false ∧ n = 60 then listP f g n else putL f g n key val p) else []
theorem ret_vi' {v : Value} {k l : Int} (h2 : k = l) : Ending.returned (.tuple #[v, .int .i64 k]) = .returned (.tuple #[v, .int .i64 l]) := by rw [h2]
theorem fault_of_ask (f g : Nat → ByteArray) (n : Nat) (key val : ByteArray) (h : ¬ (4096 < n ∨ 65536 < key.size)) (hv : ¬ 65536 < val.size) :
    faultC f g n key val = if askC f g n key = 0 then (if 90 < val.size then 4 else 0) else askC f g n key := by
  unfold faultC askC
  rw [if_neg (by omega), if_neg h]
  by_cases h1 : pairsB f g n = false
  · simp [h1]
  · rw [if_neg h1, if_neg h1]
    by_cases h2 : keyB key = false
    · simp [h2]
    · by_cases h3 : 90 < val.size
      · simp [h2, h3]
      · simp [h2, h3]
theorem pairs_le (f g : Nat → ByteArray) (n : Nat) (key val : ByteArray) (h : faultC f g n key val = 0) : n ≤ 60 := by
  unfold faultC at h
  split at h
  · cases h
  · split at h
    · cases h
    · rename_i hp
      unfold pairsB at hp
      simp at hp
      exact hp.1

set_option maxHeartbeats 1000000 in
theorem specPairPut (b o n : Nat) (f g : Nat → ByteArray) (key val : ByteArray) (p : Nat) (w : World) (hn : n ≤ 1048576) (hk : key.size ≤ 1048576) (hv : val.size ≤ 1048576) (hs : ∀ i, i < n → (f i).size ≤ 1048576 ∧ (g i).size ≤ 1048576) (hp : IsPlace f n key p) (h : Sp w (some ⟨b, o, none⟩) n f g) :
    Calls Try.prog 18 #[.slice (some ⟨b, o, none⟩) n n, .string key, .string val] w fun e w' => ∃ v, e = .returned (.tuple #[v, .int .i64 (putC f g n key val p)]) ∧ OwnsP w' w.heap.size v (putR f g n key val p) ∧ Below w.heap.size w w' := by
  have HP : Hid (IsPlace f n key p) := hp
  have HH : Hid (Sp w (some ⟨b, o, none⟩) n f g) := h
  have HS : Hid (∀ i, i < n → (f i).size ≤ 1048576 ∧ (g i).size ≤ 1048576) := hs
  have hpn := hp.1
  clear h hs hp
  by_cases h123 : 4096 < n ∨ 65536 < key.size ∨ 65536 < val.size
  · have hf : faultC f g n key val = 2 := by unfold faultC; rw [if_pos h123]
    have E : Hid (putC f g n key val p = 2) := by show putC f g n key val p = 2; unfold putC; rw [hf]; rfl
    have EL : Hid (putR f g n key val p = []) := by show putR f g n key val p = []; unfold putR; rw [hf]; rfl
    clear hf
    by_cases h1 : 4096 < n
    · clear h123
      go_enter Try.func18, Try.ntmps18
      go_wp2_with fail
      go_ret2
      exact ⟨_, ret_vi' E.out.symm, by rw [EL.out]; exact OwnsP.made w _ (Nat.le_refl _), (Below.refl _ _).alloc (Nat.le_refl _) _⟩
    by_cases h2 : 65536 < key.size
    · clear h123
      go_enter Try.func18, Try.ntmps18
      go_wp2_with fail
      go_ret2
      exact ⟨_, ret_vi' E.out.symm, by rw [EL.out]; exact OwnsP.made w _ (Nat.le_refl _), (Below.refl _ _).alloc (Nat.le_refl _) _⟩
    · have h3 : 65536 < val.size := by omega
      clear h123
      go_enter Try.func18, Try.ntmps18
      go_wp2_with fail
      go_ret2
      exact ⟨_, ret_vi' E.out.symm, by rw [EL.out]; exact OwnsP.made w _ (Nat.le_refl _), (Below.refl _ _).alloc (Nat.le_refl _) _⟩
  have h1 : n ≤ 4096 := by omega
  have h2 : key.size ≤ 65536 := by omega
  have h3 : val.size ≤ 65536 := by omega
  have hfa := fault_of_ask f g n key val (by omega) (by omega)
  clear h123
  by_cases h0 : askC f g n key = 0
  · have H0 : Hid (askC f g n key = 0) := h0
    rw [if_pos h0] at hfa
    clear h0
    by_cases h90 : 90 < val.size
    · rw [if_pos h90] at hfa
      have E : Hid (putC f g n key val p = 4) := by show putC f g n key val p = 4; unfold putC; rw [hfa]; rfl
      have EL : Hid (putR f g n key val p = []) := by show putR f g n key val p = []; unfold putR; rw [hfa]; rfl
      clear hfa
      go_enter Try.func18, Try.ntmps18
      go_wp2_with fail
      refine (l01Ask _ n n f g key _ hn hk HS.out HH.out).mono ?_
      rintro e1 w1 ⟨rfl, hb⟩
      rw [H0.out]
      go_wp2_with fail
      go_ret2
      exact ⟨_, ret_vi' E.out.symm, by rw [EL.out]; exact OwnsP.made w1 _ hb.size, hb.alloc hb.size _⟩
    · rw [if_neg h90] at hfa
      have h60 := pairs_le f g n key val hfa
      have hll := putL_length f g n key val p hpn
      by_cases hfull : hitB f n key p = false ∧ n = 60
      · have E : Hid (putC f g n key val p = 7) := by show putC f g n key val p = 7; unfold putC; rw [if_pos hfa, if_pos hfull]
        have EL : Hid (putR f g n key val p = listP f g n) := by show putR f g n key val p = _; unfold putR; rw [if_pos hfa, if_pos hfull]
        have hlen : 60 < (putL f g n key val p).length := by rw [hll, hfull.1]; simp; omega
        obtain ⟨i0, hi, hz0, hz1, hz2⟩ := infoPair'
        have HI : Hid (Try.prog.info? 42 = some i0) := hi
        have HZ0 : Hid (i0.zero = some (.agg #[.string ⟨#[]⟩, .string ⟨#[]⟩])) := hz0
        have HZ1 : Hid (i0.size = 2) := hz1
        have HZ2 : Hid (i0.bytes = 32) := hz2
        have S0 : Hid (SrcP w b o (listP f g n)) := src_of HH.out
        have T1 : Hid ((cellsP (listP f g n)).length = n * 2) := by show (cellsP (listP f g n)).length = n * 2; rw [cellsP_length, listP_length]
        clear hfa hfull hll hi hz0 hz1 hz2
        go_enter Try.func18, Try.ntmps18
        go_wp2_with fail
        refine (l01Ask _ n n f g key _ hn hk HS.out HH.out).mono ?_
        rintro e1 w1 ⟨rfl, hb⟩
        rw [H0.out]
        have B1 : Hid (Below w.heap.size w w1) := hb
        clear hb
        go_wp2_with fail
        refine (l01Put b o n f g key val p _ h1 HP.out (HH.out.below B1.out)).mono ?_
        rintro e1 w2 ⟨v, rfl, ho, hb2⟩
        obtain ⟨av, cv, rfl, _, _⟩ := ho.open
        have B2 : Hid (Below w.heap.size w w2) := B1.out.trans (hb2.mono B1.out.size)
        clear ho hb2 B1
        go_wp2_with (at_builtin; refine wpList_append_own _ rfl (.tmp 41) (.tmp 42) 31 rfl w.heap.size 42 i0 (.agg #[.string ⟨#[]⟩, .string ⟨#[]⟩]) 2 32 Try.underlying31 HI.out HZ0.out HZ1.out HZ2.out rfl (by decide) _ 0 [] rfl (OwnsP.made w2 _ B2.out.size) ⟨b, o, none⟩ n n (cellsP (listP f g n)) rfl T1.out (S0.out.below (B2.out.alloc B2.out.size _)).news (cellsP_one _) (by unfold maxLen; omega) (by omega) (le_alloc B2.out.size _) ?_; intro v1 w3 hown3 hgrow3 _; have B3 : Hid (Below w.heap.size w w3) := (B2.out.alloc B2.out.size _).grown hgrow3 (le_alloc B2.out.size _) (fun k e => by cases e; exact B2.out.size); have O3 : Hid (OwnsP w3 w.heap.size v1 (listP f g n)) := OwnsP.mk T1.out (by simpa using hown3); clear hown3 hgrow3)
        go_ret2
        exact ⟨_, ret_vi' E.out.symm, by rw [EL.out]; exact O3.out, B3.out⟩
      · have E : Hid (putC f g n key val p = 0) := by show putC f g n key val p = 0; unfold putC; rw [if_pos hfa, if_neg hfull]
        have EL : Hid (putR f g n key val p = putL f g n key val p) := by show putR f g n key val p = _; unfold putR; rw [if_pos hfa, if_neg hfull]
        have hlen : (putL f g n key val p).length ≤ 60 := by
          rw [hll]
          cases hh : hitB f n key p with
          | true => simp; omega
          | false =>
            have : ¬ n = 60 := fun e => hfull ⟨hh, e⟩
            simp; omega
        clear hfa hfull hll
        go_enter Try.func18, Try.ntmps18
        go_wp2_with fail
        refine (l01Ask _ n n f g key _ hn hk HS.out HH.out).mono ?_
        rintro e1 w1 ⟨rfl, hb⟩
        rw [H0.out]
        have B1 : Hid (Below w.heap.size w w1) := hb
        clear hb
        go_wp2_with fail
        refine (l01Put b o n f g key val p _ h1 HP.out (HH.out.below B1.out)).mono ?_
        rintro e1 w2 ⟨v, rfl, ho, hb2⟩
        have HO : Hid (OwnsP w2 w.heap.size v (putL f g n key val p)) := ho.weaken B1.out.size
        obtain ⟨av, cv, rfl, _, _⟩ := ho.open
        have B2 : Hid (Below w.heap.size w w2) := B1.out.trans (hb2.mono B1.out.size)
        clear ho hb2 B1
        go_wp2_with fail
        go_ret2
        exact ⟨_, ret_vi' E.out.symm, by rw [EL.out]; exact HO.out, B2.out⟩
  · have hne : (askC f g n key != 0) = true := by simpa using h0
    rw [if_neg h0] at hfa
    have E : Hid (putC f g n key val p = askC f g n key) := by show putC f g n key val p = _; unfold putC; rw [hfa, if_neg h0]
    have EL : Hid (putR f g n key val p = []) := by show putR f g n key val p = []; unfold putR; rw [hfa, if_neg h0]
    clear hfa h0
    go_enter Try.func18, Try.ntmps18
    go_wp2_with fail
    refine (l01Ask _ n n f g key _ hn hk HS.out HH.out).mono ?_
    rintro e1 w1 ⟨rfl, hb⟩
    go_wp2_with fail
    go_ret2
    exact ⟨_, ret_vi' E.out.symm, by rw [EL.out]; exact OwnsP.made w1 _ hb.size, hb.alloc hb.size _⟩


set_option maxHeartbeats 2000000 in
theorem implPairPut (b o n : Nat) (f g : Nat → ByteArray) (key val : ByteArray) (p : Nat) (w : World) (hn : n ≤ 1048576) (hk : key.size ≤ 1048576) (hv : val.size ≤ 1048576) (hs : ∀ i, i < n → (f i).size ≤ 1048576 ∧ (g i).size ≤ 1048576) (hp : IsPlace f n key p) (h : Sp w (some ⟨b, o, none⟩) n f g) :
    Calls Try.prog 17 #[.slice (some ⟨b, o, none⟩) n n, .string key, .string val] w fun e w' => ∃ v, e = .returned (.tuple #[v, .int .i64 (putC f g n key val p)]) ∧ OwnsP w' w.heap.size v (putR f g n key val p) ∧ Below w.heap.size w w' := by
  have HP : Hid (IsPlace f n key p) := hp
  have HH : Hid (Sp w (some ⟨b, o, none⟩) n f g) := h
  have HS : Hid (∀ i, i < n → (f i).size ≤ 1048576 ∧ (g i).size ≤ 1048576) := hs
  have hpn := hp.1
  obtain ⟨i0, hi, hz0, hz1, hz2⟩ := infoPair'
  have HI : Hid (Try.prog.info? 42 = some i0) := hi
  have HZ0 : Hid (i0.zero = some (.agg #[.string ⟨#[]⟩, .string ⟨#[]⟩])) := hz0
  have HZ1 : Hid (i0.size = 2) := hz1
  have HZ2 : Hid (i0.bytes = 32) := hz2
  clear h hs hp hi hz0 hz1 hz2
  by_cases h0 : faultC f g n key val = 0
  · have H0 : Hid (faultC f g n key val = 0) := h0
    have h60 := pairs_le f g n key val h0
    by_cases hfull : hitB f n key p = false ∧ n = 60
    · have E : Hid (putC f g n key val p = 7) := by show putC f g n key val p = 7; unfold putC; rw [if_pos h0, if_pos hfull]
      have ER : Hid (putR f g n key val p = listP f g n) := by show putR f g n key val p = _; unfold putR; rw [if_pos h0, if_pos hfull]
      have HT : Hid (hitB f n key p = false) := hfull.1
      have hlen : ((n : Int) == 60) = true := by simp; omega
      have S0 : Hid (SrcP w b o (listP f g n)) := src_of HH.out
      clear h0 hfull
      go_enter Try.func17, Try.ntmps17
      go_wp2_with fail
      refine (pairsFault _ n n f g key val _ hn hk hv HS.out HH.out).mono ?_
      rintro e1 w1 ⟨rfl, hb⟩
      rw [H0.out]
      go_wp2_with fail
      refine (pairPlace _ n n f g key p _ hn HP.out (HH.out.below hb)).mono ?_
      rintro e1 w2 ⟨rfl, hb2⟩
      rw [HT.out]
      have B0 : Hid (Below w.heap.size w w2) := hb.trans (hb2.mono hb.size)
      clear hb hb2
      go_wp2_with fail
      refine (copyPairs b o n n (listP f g n) _ (listP_length f g n) hn (S0.out.below B0.out)).mono ?_
      rintro e1 w3 ⟨v1, rfl, ho3, hb3⟩
      have O1 : Hid (OwnsP w3 w.heap.size v1 (listP f g n)) := ho3.weaken B0.out.size
      have B1 : Hid (Below w.heap.size w w3) := B0.out.trans (hb3.mono B0.out.size)
      clear ho3 hb3
      go_wp2_with fail
      go_ret2
      exact ⟨_, ret_vi' E.out.symm, by rw [ER.out]; exact O1.out, B1.out⟩
    have E : Hid (putC f g n key val p = 0) := by show putC f g n key val p = 0; unfold putC; rw [if_pos h0, if_neg hfull]
    have ER : Hid (putR f g n key val p = putL f g n key val p) := by show putR f g n key val p = _; unfold putR; rw [if_pos h0, if_neg hfull]
    cases hh : hitB f n key p with
    | false =>
      have HT : Hid (hitB f n key p = false) := hh
      have hlen : ((n : Int) == 60) = false := by
        have : ¬ n = 60 := fun e => hfull ⟨hh, e⟩
        exact beq_eq_false_iff_ne.2 (by omega)
      clear h0 hfull hh
      by_cases hn0 : n = 0
      · subst hn0
        have hp0 : p = 0 := by omega
        subst hp0
        clear hlen
        have T0 : Hid (((listP f g 0).take 0).length = 0) := by show ((listP f g 0).take 0).length = 0; have := List.length_take (i := 0) (l := listP f g 0); rw [listP_length] at this; omega
        have T1 : Hid ((cellsP ((listP f g 0).take 0)).length = 0 * 2) := by show (cellsP ((listP f g 0).take 0)).length = 0 * 2; rw [cellsP_length, T0.out]
        have T2 : Hid (((listP f g 0).take 0).length = 0) := T0
        have T5 : Hid (((listP f g 0).drop 0).length = 0) := by show ((listP f g 0).drop 0).length = 0; have := List.length_drop (i := 0) (l := listP f g 0); rw [listP_length] at this; omega
        have T3 : Hid ((cellsP ((listP f g 0).drop 0)).length = 0 * 2) := by show (cellsP ((listP f g 0).drop 0)).length = 0 * 2; rw [cellsP_length, T5.out]
        have T4 : Hid (((listP f g 0).take 0 ++ [(key, val)]).length = 0 + 1) := by show ((listP f g 0).take 0 ++ [(key, val)]).length = 0 + 1; rw [List.length_append, T0.out]; rfl
        have Q1 : Hid (((listP f g 0).take 0).length + 1 ≤ maxLen) := by show ((listP f g 0).take 0).length + 1 ≤ maxLen; rw [T0.out]; unfold maxLen; omega
        have Q2 : Hid ((((listP f g 0).take 0).length + 1) * 32 ≤ 140737488355328) := by show (((listP f g 0).take 0).length + 1) * 32 ≤ 140737488355328; rw [T0.out]; omega
        have Q3 : Hid (((listP f g 0).take 0 ++ [(key, val)]).length + 0 ≤ maxLen) := by show ((listP f g 0).take 0 ++ [(key, val)]).length + 0 ≤ maxLen; rw [T4.out]; unfold maxLen; omega
        have Q4 : Hid ((((listP f g 0).take 0 ++ [(key, val)]).length + 0) * 32 ≤ 140737488355328) := by show (((listP f g 0).take 0 ++ [(key, val)]).length + 0) * 32 ≤ 140737488355328; rw [T4.out]; omega
        have S0 : Hid (SrcP w b o (listP f g 0)) := src_of HH.out
        have N3 : Hid (SrcP w b o ((listP f g 0).drop 0)) := by
          have h9 := rest_src S0.out (listP_length f g 0) 0 (by omega)
          unfold restO at h9
          first | (rw [if_pos (by omega)] at h9; exact h9) | (rw [if_neg (by omega)] at h9; exact h9)
        have EL : Hid (putL f g 0 key val 0 = (listP f g 0).take 0 ++ [(key, val)] ++ (listP f g 0).drop 0) := by show putL f g 0 key val 0 = _; unfold putL; rw [HT.out]; rfl
        go_enter Try.func17, Try.ntmps17
        go_wp2_with fail
        refine (pairsFault _ 0 0 f g key val _ hn hk hv HS.out HH.out).mono ?_
        rintro e1 w1 ⟨rfl, hb⟩
        rw [H0.out]
        go_wp2_with fail
        refine (pairPlace _ 0 0 f g key 0 _ hn HP.out (HH.out.below hb)).mono ?_
        rintro e1 w2 ⟨rfl, hb2⟩
        rw [HT.out]
        have B0 : Hid (Below w.heap.size w w2) := hb.trans (hb2.mono hb.size)
        clear hb hb2
        go_wp2_with (first | (go_at_call 64; refine (copyPairs b o 0 0 ((listP f g 0).take 0) _ T0.out (by omega) ((S0.out.take 0).below B0.out)).mono ?_; rintro e1 w3 ⟨v1, rfl, ho3, hb3⟩; have O1 : Hid (OwnsP w3 w.heap.size v1 ((listP f g 0).take 0)) := ho3.weaken B0.out.size; have B1 : Hid (Below w.heap.size w w3) := B0.out.trans (hb3.mono B0.out.size); clear ho3 hb3) | (at_builtin; refine wpList_append_own _ rfl (.tmp 44) (.tmp 47) 31 rfl w.heap.size 42 i0 (.agg #[.string ⟨#[]⟩, .string ⟨#[]⟩]) 2 32 Try.underlying31 HI.out HZ0.out HZ1.out HZ2.out rfl (by decide) _ _ _ rfl O2.out ⟨b, o, none⟩ 0 0 (cellsP ((listP f g 0).drop 0)) rfl T3.out (N3.out.below B2.out).news (cellsP_one _) Q3.out Q4.out B2.out.size ?_; intro v3 w5 hown3 hgrow3 _; have B3 : Hid (Below w.heap.size w w5) := B2.out.grown hgrow3 B2.out.size O2.out.block; have O3 : Hid (OwnsP w5 w.heap.size v3 ((listP f g 0).take 0 ++ [(key, val)] ++ (listP f g 0).drop 0)) := OwnsP.more T5.out hown3; clear hown3 hgrow3) | (at_builtin; refine wpList_append_own _ rfl (.tmp 38) (.tmp 42) 31 rfl w.heap.size 42 i0 (.agg #[.string ⟨#[]⟩, .string ⟨#[]⟩]) 2 32 Try.underlying31 HI.out HZ0.out HZ1.out HZ2.out rfl (by decide) _ _ _ rfl (O1.out.alloc _) ⟨w3.heap.size, 0, none⟩ 1 1 [.string key, .string val] rfl rfl (two_newP w3 key val) (two_oneP key val) Q1.out Q2.out (le_alloc B1.out.size _) ?_; intro v2 w4 hown2 hgrow2 _; have B2 : Hid (Below w.heap.size w w4) := (B1.out.alloc B1.out.size _).grown hgrow2 (le_alloc B1.out.size _) O1.out.block; have O2 : Hid (OwnsP w4 w.heap.size v2 ((listP f g 0).take 0 ++ [(key, val)])) := OwnsP.one hown2; clear hown2 hgrow2))
        go_ret2
        exact ⟨_, ret_vi' E.out.symm, by rw [ER.out, EL.out]; exact O3.out, B3.out⟩
      by_cases hlt : p < n
      · have hne : ¬ n = p := by omega
        have T0 : Hid (((listP f g n).take p).length = p) := by show ((listP f g n).take p).length = p; have := List.length_take (i := p) (l := listP f g n); rw [listP_length] at this; omega
        have T1 : Hid ((cellsP ((listP f g n).take p)).length = p * 2) := by show (cellsP ((listP f g n).take p)).length = p * 2; rw [cellsP_length, T0.out]
        have T2 : Hid (((listP f g n).take p).length = p) := T0
        have T5 : Hid (((listP f g n).drop p).length = (n - p)) := by show ((listP f g n).drop p).length = (n - p); have := List.length_drop (i := p) (l := listP f g n); rw [listP_length] at this; omega
        have T3 : Hid ((cellsP ((listP f g n).drop p)).length = (n - p) * 2) := by show (cellsP ((listP f g n).drop p)).length = (n - p) * 2; rw [cellsP_length, T5.out]
        have T4 : Hid (((listP f g n).take p ++ [(key, val)]).length = p + 1) := by show ((listP f g n).take p ++ [(key, val)]).length = p + 1; rw [List.length_append, T0.out]; rfl
        have Q1 : Hid (((listP f g n).take p).length + 1 ≤ maxLen) := by show ((listP f g n).take p).length + 1 ≤ maxLen; rw [T0.out]; unfold maxLen; omega
        have Q2 : Hid ((((listP f g n).take p).length + 1) * 32 ≤ 140737488355328) := by show (((listP f g n).take p).length + 1) * 32 ≤ 140737488355328; rw [T0.out]; omega
        have Q3 : Hid (((listP f g n).take p ++ [(key, val)]).length + (n - p) ≤ maxLen) := by show ((listP f g n).take p ++ [(key, val)]).length + (n - p) ≤ maxLen; rw [T4.out]; unfold maxLen; omega
        have Q4 : Hid ((((listP f g n).take p ++ [(key, val)]).length + (n - p)) * 32 ≤ 140737488355328) := by show (((listP f g n).take p ++ [(key, val)]).length + (n - p)) * 32 ≤ 140737488355328; rw [T4.out]; omega
        have S0 : Hid (SrcP w b o (listP f g n)) := src_of HH.out
        have N3 : Hid (SrcP w b (o + p * 2) ((listP f g n).drop p)) := by
          have h9 := rest_src S0.out (listP_length f g n) p (by omega)
          unfold restO at h9
          first | (rw [if_pos (by omega)] at h9; exact h9) | (rw [if_neg (by omega)] at h9; exact h9)
        have EL : Hid (putL f g n key val p = (listP f g n).take p ++ [(key, val)] ++ (listP f g n).drop p) := by show putL f g n key val p = _; unfold putL; rw [HT.out]; rfl
        go_enter Try.func17, Try.ntmps17
        go_wp2_with fail
        refine (pairsFault _ n n f g key val _ hn hk hv HS.out HH.out).mono ?_
        rintro e1 w1 ⟨rfl, hb⟩
        rw [H0.out]
        go_wp2_with fail
        refine (pairPlace _ n n f g key p _ hn HP.out (HH.out.below hb)).mono ?_
        rintro e1 w2 ⟨rfl, hb2⟩
        rw [HT.out]
        have B0 : Hid (Below w.heap.size w w2) := hb.trans (hb2.mono hb.size)
        clear hb hb2
        go_wp2_with (first | (go_at_call 64; refine (copyPairs b o p n ((listP f g n).take p) _ T0.out (by omega) ((S0.out.take p).below B0.out)).mono ?_; rintro e1 w3 ⟨v1, rfl, ho3, hb3⟩; have O1 : Hid (OwnsP w3 w.heap.size v1 ((listP f g n).take p)) := ho3.weaken B0.out.size; have B1 : Hid (Below w.heap.size w w3) := B0.out.trans (hb3.mono B0.out.size); clear ho3 hb3) | (at_builtin; refine wpList_append_own _ rfl (.tmp 44) (.tmp 47) 31 rfl w.heap.size 42 i0 (.agg #[.string ⟨#[]⟩, .string ⟨#[]⟩]) 2 32 Try.underlying31 HI.out HZ0.out HZ1.out HZ2.out rfl (by decide) _ _ _ rfl O2.out ⟨b, (o + p * 2), none⟩ (n - p) (n - p) (cellsP ((listP f g n).drop p)) rfl T3.out (N3.out.below B2.out).news (cellsP_one _) Q3.out Q4.out B2.out.size ?_; intro v3 w5 hown3 hgrow3 _; have B3 : Hid (Below w.heap.size w w5) := B2.out.grown hgrow3 B2.out.size O2.out.block; have O3 : Hid (OwnsP w5 w.heap.size v3 ((listP f g n).take p ++ [(key, val)] ++ (listP f g n).drop p)) := OwnsP.more T5.out hown3; clear hown3 hgrow3) | (at_builtin; refine wpList_append_own _ rfl (.tmp 38) (.tmp 42) 31 rfl w.heap.size 42 i0 (.agg #[.string ⟨#[]⟩, .string ⟨#[]⟩]) 2 32 Try.underlying31 HI.out HZ0.out HZ1.out HZ2.out rfl (by decide) _ _ _ rfl (O1.out.alloc _) ⟨w3.heap.size, 0, none⟩ 1 1 [.string key, .string val] rfl rfl (two_newP w3 key val) (two_oneP key val) Q1.out Q2.out (le_alloc B1.out.size _) ?_; intro v2 w4 hown2 hgrow2 _; have B2 : Hid (Below w.heap.size w w4) := (B1.out.alloc B1.out.size _).grown hgrow2 (le_alloc B1.out.size _) O1.out.block; have O2 : Hid (OwnsP w4 w.heap.size v2 ((listP f g n).take p ++ [(key, val)])) := OwnsP.one hown2; clear hown2 hgrow2))
        go_ret2
        exact ⟨_, ret_vi' E.out.symm, by rw [ER.out, EL.out]; exact O3.out, B3.out⟩
      · have hpe : p = n := by omega
        subst hpe
        clear hlt
        have T0 : Hid (((listP f g p).take p).length = p) := by show ((listP f g p).take p).length = p; have := List.length_take (i := p) (l := listP f g p); rw [listP_length] at this; omega
        have T1 : Hid ((cellsP ((listP f g p).take p)).length = p * 2) := by show (cellsP ((listP f g p).take p)).length = p * 2; rw [cellsP_length, T0.out]
        have T2 : Hid (((listP f g p).take p).length = p) := T0
        have T5 : Hid (((listP f g p).drop p).length = 0) := by show ((listP f g p).drop p).length = 0; have := List.length_drop (i := p) (l := listP f g p); rw [listP_length] at this; omega
        have T3 : Hid ((cellsP ((listP f g p).drop p)).length = 0 * 2) := by show (cellsP ((listP f g p).drop p)).length = 0 * 2; rw [cellsP_length, T5.out]
        have T4 : Hid (((listP f g p).take p ++ [(key, val)]).length = p + 1) := by show ((listP f g p).take p ++ [(key, val)]).length = p + 1; rw [List.length_append, T0.out]; rfl
        have Q1 : Hid (((listP f g p).take p).length + 1 ≤ maxLen) := by show ((listP f g p).take p).length + 1 ≤ maxLen; rw [T0.out]; unfold maxLen; omega
        have Q2 : Hid ((((listP f g p).take p).length + 1) * 32 ≤ 140737488355328) := by show (((listP f g p).take p).length + 1) * 32 ≤ 140737488355328; rw [T0.out]; omega
        have Q3 : Hid (((listP f g p).take p ++ [(key, val)]).length + 0 ≤ maxLen) := by show ((listP f g p).take p ++ [(key, val)]).length + 0 ≤ maxLen; rw [T4.out]; unfold maxLen; omega
        have Q4 : Hid ((((listP f g p).take p ++ [(key, val)]).length + 0) * 32 ≤ 140737488355328) := by show (((listP f g p).take p ++ [(key, val)]).length + 0) * 32 ≤ 140737488355328; rw [T4.out]; omega
        have S0 : Hid (SrcP w b o (listP f g p)) := src_of HH.out
        have N3 : Hid (SrcP w b o ((listP f g p).drop p)) := by
          have h9 := rest_src S0.out (listP_length f g p) p (by omega)
          unfold restO at h9
          first | (rw [if_pos (by omega)] at h9; exact h9) | (rw [if_neg (by omega)] at h9; exact h9)
        have EL : Hid (putL f g p key val p = (listP f g p).take p ++ [(key, val)] ++ (listP f g p).drop p) := by show putL f g p key val p = _; unfold putL; rw [HT.out]; rfl
        go_enter Try.func17, Try.ntmps17
        go_wp2_with fail
        refine (pairsFault _ p p f g key val _ hn hk hv HS.out HH.out).mono ?_
        rintro e1 w1 ⟨rfl, hb⟩
        rw [H0.out]
        go_wp2_with fail
        refine (pairPlace _ p p f g key p _ hn HP.out (HH.out.below hb)).mono ?_
        rintro e1 w2 ⟨rfl, hb2⟩
        rw [HT.out]
        have B0 : Hid (Below w.heap.size w w2) := hb.trans (hb2.mono hb.size)
        clear hb hb2
        go_wp2_with (first | (go_at_call 64; refine (copyPairs b o p p ((listP f g p).take p) _ T0.out (by omega) ((S0.out.take p).below B0.out)).mono ?_; rintro e1 w3 ⟨v1, rfl, ho3, hb3⟩; have O1 : Hid (OwnsP w3 w.heap.size v1 ((listP f g p).take p)) := ho3.weaken B0.out.size; have B1 : Hid (Below w.heap.size w w3) := B0.out.trans (hb3.mono B0.out.size); clear ho3 hb3) | (at_builtin; refine wpList_append_own _ rfl (.tmp 44) (.tmp 47) 31 rfl w.heap.size 42 i0 (.agg #[.string ⟨#[]⟩, .string ⟨#[]⟩]) 2 32 Try.underlying31 HI.out HZ0.out HZ1.out HZ2.out rfl (by decide) _ _ _ rfl O2.out ⟨b, o, none⟩ 0 0 (cellsP ((listP f g p).drop p)) rfl T3.out (N3.out.below B2.out).news (cellsP_one _) Q3.out Q4.out B2.out.size ?_; intro v3 w5 hown3 hgrow3 _; have B3 : Hid (Below w.heap.size w w5) := B2.out.grown hgrow3 B2.out.size O2.out.block; have O3 : Hid (OwnsP w5 w.heap.size v3 ((listP f g p).take p ++ [(key, val)] ++ (listP f g p).drop p)) := OwnsP.more T5.out hown3; clear hown3 hgrow3) | (at_builtin; refine wpList_append_own _ rfl (.tmp 38) (.tmp 42) 31 rfl w.heap.size 42 i0 (.agg #[.string ⟨#[]⟩, .string ⟨#[]⟩]) 2 32 Try.underlying31 HI.out HZ0.out HZ1.out HZ2.out rfl (by decide) _ _ _ rfl (O1.out.alloc _) ⟨w3.heap.size, 0, none⟩ 1 1 [.string key, .string val] rfl rfl (two_newP w3 key val) (two_oneP key val) Q1.out Q2.out (le_alloc B1.out.size _) ?_; intro v2 w4 hown2 hgrow2 _; have B2 : Hid (Below w.heap.size w w4) := (B1.out.alloc B1.out.size _).grown hgrow2 (le_alloc B1.out.size _) O1.out.block; have O2 : Hid (OwnsP w4 w.heap.size v2 ((listP f g p).take p ++ [(key, val)])) := OwnsP.one hown2; clear hown2 hgrow2))
        go_ret2
        exact ⟨_, ret_vi' E.out.symm, by rw [ER.out, EL.out]; exact O3.out, B3.out⟩
    | true =>
      have HT : Hid (hitB f n key p = true) := hh
      have hlt : p < n := by
        unfold hitB at hh
        simp at hh
        exact hh.1
      have hn0 : ¬ n = 0 := by omega
      clear h0 hfull hh
      by_cases hlast : n = p + 1
      · subst hlast
        have T0 : Hid (((listP f g (p + 1)).take p).length = p) := by show ((listP f g (p + 1)).take p).length = p; have := List.length_take (i := p) (l := listP f g (p + 1)); rw [listP_length] at this; omega
        have T1 : Hid ((cellsP ((listP f g (p + 1)).take p)).length = p * 2) := by show (cellsP ((listP f g (p + 1)).take p)).length = p * 2; rw [cellsP_length, T0.out]
        have T2 : Hid (((listP f g (p + 1)).take p).length = p) := T0
        have T5 : Hid (((listP f g (p + 1)).drop (p + 1)).length = 0) := by show ((listP f g (p + 1)).drop (p + 1)).length = 0; have := List.length_drop (i := (p + 1)) (l := listP f g (p + 1)); rw [listP_length] at this; omega
        have T3 : Hid ((cellsP ((listP f g (p + 1)).drop (p + 1))).length = 0 * 2) := by show (cellsP ((listP f g (p + 1)).drop (p + 1))).length = 0 * 2; rw [cellsP_length, T5.out]
        have T4 : Hid (((listP f g (p + 1)).take p ++ [(key, val)]).length = p + 1) := by show ((listP f g (p + 1)).take p ++ [(key, val)]).length = p + 1; rw [List.length_append, T0.out]; rfl
        have Q1 : Hid (((listP f g (p + 1)).take p).length + 1 ≤ maxLen) := by show ((listP f g (p + 1)).take p).length + 1 ≤ maxLen; rw [T0.out]; unfold maxLen; omega
        have Q2 : Hid ((((listP f g (p + 1)).take p).length + 1) * 32 ≤ 140737488355328) := by show (((listP f g (p + 1)).take p).length + 1) * 32 ≤ 140737488355328; rw [T0.out]; omega
        have Q3 : Hid (((listP f g (p + 1)).take p ++ [(key, val)]).length + 0 ≤ maxLen) := by show ((listP f g (p + 1)).take p ++ [(key, val)]).length + 0 ≤ maxLen; rw [T4.out]; unfold maxLen; omega
        have Q4 : Hid ((((listP f g (p + 1)).take p ++ [(key, val)]).length + 0) * 32 ≤ 140737488355328) := by show (((listP f g (p + 1)).take p ++ [(key, val)]).length + 0) * 32 ≤ 140737488355328; rw [T4.out]; omega
        have S0 : Hid (SrcP w b o (listP f g (p + 1))) := src_of HH.out
        have N3 : Hid (SrcP w b o ((listP f g (p + 1)).drop (p + 1))) := by
          have h9 := rest_src S0.out (listP_length f g (p + 1)) (p + 1) (by omega)
          unfold restO at h9
          first | (rw [if_pos (by omega)] at h9; exact h9) | (rw [if_neg (by omega)] at h9; exact h9)
        have EL : Hid (putL f g (p + 1) key val p = (listP f g (p + 1)).take p ++ [(key, val)] ++ (listP f g (p + 1)).drop (p + 1)) := by show putL f g (p + 1) key val p = _; unfold putL; rw [HT.out]; rfl
        go_enter Try.func17, Try.ntmps17
        go_wp2_with fail
        refine (pairsFault _ (p + 1) (p + 1) f g key val _ hn hk hv HS.out HH.out).mono ?_
        rintro e1 w1 ⟨rfl, hb⟩
        rw [H0.out]
        go_wp2_with fail
        refine (pairPlace _ (p + 1) (p + 1) f g key p _ hn HP.out (HH.out.below hb)).mono ?_
        rintro e1 w2 ⟨rfl, hb2⟩
        rw [HT.out]
        have B0 : Hid (Below w.heap.size w w2) := hb.trans (hb2.mono hb.size)
        clear hb hb2
        go_wp2_with (first | (go_at_call 64; refine (copyPairs b o p (p + 1) ((listP f g (p + 1)).take p) _ T0.out (by omega) ((S0.out.take p).below B0.out)).mono ?_; rintro e1 w3 ⟨v1, rfl, ho3, hb3⟩; have O1 : Hid (OwnsP w3 w.heap.size v1 ((listP f g (p + 1)).take p)) := ho3.weaken B0.out.size; have B1 : Hid (Below w.heap.size w w3) := B0.out.trans (hb3.mono B0.out.size); clear ho3 hb3) | (at_builtin; refine wpList_append_own _ rfl (.tmp 44) (.tmp 47) 31 rfl w.heap.size 42 i0 (.agg #[.string ⟨#[]⟩, .string ⟨#[]⟩]) 2 32 Try.underlying31 HI.out HZ0.out HZ1.out HZ2.out rfl (by decide) _ _ _ rfl O2.out ⟨b, o, none⟩ 0 0 (cellsP ((listP f g (p + 1)).drop (p + 1))) rfl T3.out (N3.out.below B2.out).news (cellsP_one _) Q3.out Q4.out B2.out.size ?_; intro v3 w5 hown3 hgrow3 _; have B3 : Hid (Below w.heap.size w w5) := B2.out.grown hgrow3 B2.out.size O2.out.block; have O3 : Hid (OwnsP w5 w.heap.size v3 ((listP f g (p + 1)).take p ++ [(key, val)] ++ (listP f g (p + 1)).drop (p + 1))) := OwnsP.more T5.out hown3; clear hown3 hgrow3) | (at_builtin; refine wpList_append_own _ rfl (.tmp 38) (.tmp 42) 31 rfl w.heap.size 42 i0 (.agg #[.string ⟨#[]⟩, .string ⟨#[]⟩]) 2 32 Try.underlying31 HI.out HZ0.out HZ1.out HZ2.out rfl (by decide) _ _ _ rfl (O1.out.alloc _) ⟨w3.heap.size, 0, none⟩ 1 1 [.string key, .string val] rfl rfl (two_newP w3 key val) (two_oneP key val) Q1.out Q2.out (le_alloc B1.out.size _) ?_; intro v2 w4 hown2 hgrow2 _; have B2 : Hid (Below w.heap.size w w4) := (B1.out.alloc B1.out.size _).grown hgrow2 (le_alloc B1.out.size _) O1.out.block; have O2 : Hid (OwnsP w4 w.heap.size v2 ((listP f g (p + 1)).take p ++ [(key, val)])) := OwnsP.one hown2; clear hown2 hgrow2))
        go_ret2
        exact ⟨_, ret_vi' E.out.symm, by rw [ER.out, EL.out]; exact O3.out, B3.out⟩
      · have hne2 : ¬ n = p + 1 := hlast
        have T0 : Hid (((listP f g n).take p).length = p) := by show ((listP f g n).take p).length = p; have := List.length_take (i := p) (l := listP f g n); rw [listP_length] at this; omega
        have T1 : Hid ((cellsP ((listP f g n).take p)).length = p * 2) := by show (cellsP ((listP f g n).take p)).length = p * 2; rw [cellsP_length, T0.out]
        have T2 : Hid (((listP f g n).take p).length = p) := T0
        have T5 : Hid (((listP f g n).drop (p + 1)).length = (n - (p + 1))) := by show ((listP f g n).drop (p + 1)).length = (n - (p + 1)); have := List.length_drop (i := (p + 1)) (l := listP f g n); rw [listP_length] at this; omega
        have T3 : Hid ((cellsP ((listP f g n).drop (p + 1))).length = (n - (p + 1)) * 2) := by show (cellsP ((listP f g n).drop (p + 1))).length = (n - (p + 1)) * 2; rw [cellsP_length, T5.out]
        have T4 : Hid (((listP f g n).take p ++ [(key, val)]).length = p + 1) := by show ((listP f g n).take p ++ [(key, val)]).length = p + 1; rw [List.length_append, T0.out]; rfl
        have Q1 : Hid (((listP f g n).take p).length + 1 ≤ maxLen) := by show ((listP f g n).take p).length + 1 ≤ maxLen; rw [T0.out]; unfold maxLen; omega
        have Q2 : Hid ((((listP f g n).take p).length + 1) * 32 ≤ 140737488355328) := by show (((listP f g n).take p).length + 1) * 32 ≤ 140737488355328; rw [T0.out]; omega
        have Q3 : Hid (((listP f g n).take p ++ [(key, val)]).length + (n - (p + 1)) ≤ maxLen) := by show ((listP f g n).take p ++ [(key, val)]).length + (n - (p + 1)) ≤ maxLen; rw [T4.out]; unfold maxLen; omega
        have Q4 : Hid ((((listP f g n).take p ++ [(key, val)]).length + (n - (p + 1))) * 32 ≤ 140737488355328) := by show (((listP f g n).take p ++ [(key, val)]).length + (n - (p + 1))) * 32 ≤ 140737488355328; rw [T4.out]; omega
        have S0 : Hid (SrcP w b o (listP f g n)) := src_of HH.out
        have N3 : Hid (SrcP w b (o + (p + 1) * 2) ((listP f g n).drop (p + 1))) := by
          have h9 := rest_src S0.out (listP_length f g n) (p + 1) (by omega)
          unfold restO at h9
          first | (rw [if_pos (by omega)] at h9; exact h9) | (rw [if_neg (by omega)] at h9; exact h9)
        have EL : Hid (putL f g n key val p = (listP f g n).take p ++ [(key, val)] ++ (listP f g n).drop (p + 1)) := by show putL f g n key val p = _; unfold putL; rw [HT.out]; rfl
        go_enter Try.func17, Try.ntmps17
        go_wp2_with fail
        refine (pairsFault _ n n f g key val _ hn hk hv HS.out HH.out).mono ?_
        rintro e1 w1 ⟨rfl, hb⟩
        rw [H0.out]
        go_wp2_with fail
        refine (pairPlace _ n n f g key p _ hn HP.out (HH.out.below hb)).mono ?_
        rintro e1 w2 ⟨rfl, hb2⟩
        rw [HT.out]
        have B0 : Hid (Below w.heap.size w w2) := hb.trans (hb2.mono hb.size)
        clear hb hb2
        go_wp2_with (first | (go_at_call 64; refine (copyPairs b o p n ((listP f g n).take p) _ T0.out (by omega) ((S0.out.take p).below B0.out)).mono ?_; rintro e1 w3 ⟨v1, rfl, ho3, hb3⟩; have O1 : Hid (OwnsP w3 w.heap.size v1 ((listP f g n).take p)) := ho3.weaken B0.out.size; have B1 : Hid (Below w.heap.size w w3) := B0.out.trans (hb3.mono B0.out.size); clear ho3 hb3) | (at_builtin; refine wpList_append_own _ rfl (.tmp 44) (.tmp 47) 31 rfl w.heap.size 42 i0 (.agg #[.string ⟨#[]⟩, .string ⟨#[]⟩]) 2 32 Try.underlying31 HI.out HZ0.out HZ1.out HZ2.out rfl (by decide) _ _ _ rfl O2.out ⟨b, (o + (p + 1) * 2), none⟩ (n - (p + 1)) (n - (p + 1)) (cellsP ((listP f g n).drop (p + 1))) rfl T3.out (N3.out.below B2.out).news (cellsP_one _) Q3.out Q4.out B2.out.size ?_; intro v3 w5 hown3 hgrow3 _; have B3 : Hid (Below w.heap.size w w5) := B2.out.grown hgrow3 B2.out.size O2.out.block; have O3 : Hid (OwnsP w5 w.heap.size v3 ((listP f g n).take p ++ [(key, val)] ++ (listP f g n).drop (p + 1))) := OwnsP.more T5.out hown3; clear hown3 hgrow3) | (at_builtin; refine wpList_append_own _ rfl (.tmp 38) (.tmp 42) 31 rfl w.heap.size 42 i0 (.agg #[.string ⟨#[]⟩, .string ⟨#[]⟩]) 2 32 Try.underlying31 HI.out HZ0.out HZ1.out HZ2.out rfl (by decide) _ _ _ rfl (O1.out.alloc _) ⟨w3.heap.size, 0, none⟩ 1 1 [.string key, .string val] rfl rfl (two_newP w3 key val) (two_oneP key val) Q1.out Q2.out (le_alloc B1.out.size _) ?_; intro v2 w4 hown2 hgrow2 _; have B2 : Hid (Below w.heap.size w w4) := (B1.out.alloc B1.out.size _).grown hgrow2 (le_alloc B1.out.size _) O1.out.block; have O2 : Hid (OwnsP w4 w.heap.size v2 ((listP f g n).take p ++ [(key, val)])) := OwnsP.one hown2; clear hown2 hgrow2))
        go_ret2
        exact ⟨_, ret_vi' E.out.symm, by rw [ER.out, EL.out]; exact O3.out, B3.out⟩
  · have hne : (faultC f g n key val != 0) = true := by simpa using h0
    have E : Hid (putC f g n key val p = faultC f g n key val) := by show putC f g n key val p = _; unfold putC; rw [if_neg h0]
    have ER : Hid (putR f g n key val p = []) := by show putR f g n key val p = []; unfold putR; rw [if_neg h0]
    clear h0
    go_enter Try.func17, Try.ntmps17
    go_wp2_with fail
    refine (pairsFault _ n n f g key val _ hn hk hv HS.out HH.out).mono ?_
    rintro e1 w1 ⟨rfl, hb⟩
    go_wp2_with fail
    go_ret2
    exact ⟨_, ret_vi' E.out.symm, by rw [ER.out]; exact OwnsP.nil _ _, hb⟩
end Go.Proofs.Ytfbomjcjemcgeaa
