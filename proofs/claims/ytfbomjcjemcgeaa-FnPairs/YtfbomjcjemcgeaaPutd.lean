
/-
  Both PairPut, and PairDrop, of a good list that may have room behind it. By an AI agent.
-/
import Derived.Test.YtfbomjcjemcgeaaPutc
import Derived.Test.YtfbomjcjemcgeaaPuts
import Derived.BigRegion
namespace Go.Proofs.Ytfbomjcjemcgeaa
open Go.ChangeShapes Go.WideShapes Go.ChangeAt Go.RowKit Go.Deep
set_option linter.unusedVariables false
set_option maxRecDepth 100000

theorem fault_none {f g : Nat → ByteArray} {n : Nat} {key val : ByteArray} (h : askC f g n key = 0) (hv : val.size ≤ 90) : faultC f g n key val = 0 := by
  unfold askC at h
  unfold faultC
  split at h
  · cases h
  · rw [if_neg (by omega)]
    split at h
    · cases h
    · rename_i h2
      rw [if_neg h2]
      split at h
      · cases h
      · rename_i h3
        rw [if_neg]
        rintro (h4 | h4)
        · exact h3 h4
        · omega
theorem OwnsP.someP {w : World} {base : Nat} {v : Value} {L : List (ByteArray × ByteArray)} (h : OwnsP w base v L) (hn : 0 < L.length) : ∃ b c, v = .slice (some ⟨b, 0, none⟩) L.length c ∧ L.length ≤ c ∧ c ≤ maxLen ∧ base ≤ b ∧ b < w.heap.size ∧ Sp w (some ⟨b, 0, none⟩) L.length (fstL L) (sndL L) := by
  obtain ⟨a, c, rfl, hs, hb⟩ := h.open
  obtain ⟨hl, ⟨hv, h0⟩ | ⟨g, cap, cur, hv, hb2, hg, hc1, hc2, hsz, ht⟩⟩ := h
  · omega
  · cases hv
    exact ⟨g, c, rfl, hc1, hc2, hb2, (hb _ rfl).2, hs⟩
set_option maxHeartbeats 1000000 in
theorem specPairPutC (b o n c : Nat) (f g : Nat → ByteArray) (key val : ByteArray) (p : Nat) (w : World) (h60 : n < 60) (hc : n ≤ c) (hc9 : c ≤ maxLen) (hk : key.size ≤ 1048576) (hv : val.size ≤ 90) (hs : ∀ i, i < n → (f i).size ≤ 1048576 ∧ (g i).size ≤ 1048576) (h0 : askC f g n key = 0) (hp : IsPlace f n key p) (h : Sp w (some ⟨b, o, none⟩) n f g) :
    Calls Try.prog 18 #[.slice (some ⟨b, o, none⟩) n c, .string key, .string val] w fun e w' => ∃ v, e = .returned (.tuple #[v, .int .i64 0]) ∧ OwnsP w' w.heap.size v (putL f g n key val p) ∧ Below w.heap.size w w' := by
  have hll := putL_length f g n key val p hp.1
  have hlen : (putL f g n key val p).length ≤ 60 := by rw [hll]; split <;> omega
  have HP : Hid (IsPlace f n key p) := hp
  have HH : Hid (Sp w (some ⟨b, o, none⟩) n f g) := h
  have HS : Hid (∀ i, i < n → (f i).size ≤ 1048576 ∧ (g i).size ≤ 1048576) := hs
  have H0 : Hid (askC f g n key = 0) := h0
  have HC : Hid (n ≤ c ∧ c ≤ maxLen) := ⟨hc, hc9⟩
  have hk2 : key.size ≤ 65536 := by
    unfold askC at h0
    split at h0
    · cases h0
    · omega
  have h1 : n ≤ 4096 := by omega
  have h90 : ¬ 90 < val.size := by omega
  clear h hs hp h0 hll hc hc9
  go_enter Try.func18, Try.ntmps18
  go_wp2_with fail
  refine (l01Ask _ n c f g key _ (by omega) hk HS.out HH.out).mono ?_
  rintro e1 w1 ⟨rfl, hb⟩
  rw [H0.out]
  have B1 : Hid (Below w.heap.size w w1) := hb
  clear hb
  go_wp2_with fail
  refine (l01PutC b o n c f g key val p _ h1 HC.out.1 HC.out.2 HP.out (HH.out.below B1.out)).mono ?_
  rintro e1 w2 ⟨v, rfl, ho, hb2⟩
  have HO : Hid (OwnsP w2 w.heap.size v (putL f g n key val p)) := ho.weaken B1.out.size
  obtain ⟨av, cv, rfl, _, _⟩ := ho.open
  have B2 : Hid (Below w.heap.size w w2) := B1.out.trans (hb2.mono B1.out.size)
  clear ho hb2 B1
  go_wp2_with fail
  go_ret2
  exact ⟨_, rfl, HO.out, B2.out⟩
set_option maxHeartbeats 2000000 in
theorem implPairPutC (b o n c : Nat) (f g : Nat → ByteArray) (key val : ByteArray) (p : Nat) (w : World) (h60 : n < 60) (hc : n ≤ c) (hc9 : c ≤ maxLen) (hk : key.size ≤ 1048576) (hv : val.size ≤ 90) (hs : ∀ i, i < n → (f i).size ≤ 1048576 ∧ (g i).size ≤ 1048576) (h0 : askC f g n key = 0) (hp : IsPlace f n key p) (h : Sp w (some ⟨b, o, none⟩) n f g) :
    Calls Try.prog 17 #[.slice (some ⟨b, o, none⟩) n c, .string key, .string val] w fun e w' => ∃ v, e = .returned (.tuple #[v, .int .i64 0]) ∧ OwnsP w' w.heap.size v (putL f g n key val p) ∧ Below w.heap.size w w' := by
  by_cases hcn : c = n
  · subst hcn
    refine (implPairPut b o c f g key val p w (by omega) hk (by omega) hs hp h).mono ?_
    rintro e w' ⟨v, rfl, ho, hb⟩
    have hf := fault_none h0 hv
    refine ⟨v, ret_vi' ?_, ?_, hb⟩
    · unfold putC; rw [if_pos hf, if_neg (fun h9 => by omega)]
    · have h8 : putR f g c key val p = putL f g c key val p := by unfold putR; rw [if_pos hf, if_neg (fun h9 => by omega)]
      rw [h8] at ho
      exact ho
  have HP : Hid (IsPlace f n key p) := hp
  have HH : Hid (Sp w (some ⟨b, o, none⟩) n f g) := h
  have HS : Hid (∀ i, i < n → (f i).size ≤ 1048576 ∧ (g i).size ≤ 1048576) := hs
  replace hc : n < c := by omega
  have H0 : Hid (faultC f g n key val = 0) := fault_none h0 hv
  have hpn := hp.1
  have hn : n ≤ 1048576 := by omega
  replace hv : val.size ≤ 1048576 := by omega
  unfold maxLen at hc9
  have hlen : ((n : Int) == 60) = false := beq_eq_false_iff_ne.2 (by omega)
  obtain ⟨i0, hi, hz0, hz1, hz2⟩ := infoPair'
  have HI : Hid (Try.prog.info? 42 = some i0) := hi
  have HZ0 : Hid (i0.zero = some (.agg #[.string ⟨#[]⟩, .string ⟨#[]⟩])) := hz0
  have HZ1 : Hid (i0.size = 2) := hz1
  have HZ2 : Hid (i0.bytes = 32) := hz2
  clear hi hz0 hz1 hz2
  clear h hs hp h0
  cases hh : hitB f n key p with
  | false =>
    have HT : Hid (hitB f n key p = false) := hh
    clear hh
    by_cases hlt : p < n
    · have hne : ¬ c = p := by omega
      have T0 : Hid (((listP f g n).take p).length = p) := by show ((listP f g n).take p).length = p; have := List.length_take (i := p) (l := listP f g n); rw [listP_length] at this; omega
      have T1 : Hid ((cellsP ((listP f g n).take p)).length = p * 2) := by show (cellsP ((listP f g n).take p)).length = p * 2; rw [cellsP_length, T0.out]
      have T5 : Hid (((listP f g n).drop p).length = (n - p)) := by show ((listP f g n).drop p).length = (n - p); have := List.length_drop (i := p) (l := listP f g n); rw [listP_length] at this; omega
      have T3 : Hid ((cellsP ((listP f g n).drop p)).length = (n - p) * 2) := by show (cellsP ((listP f g n).drop p)).length = (n - p) * 2; rw [cellsP_length, T5.out]
      have T4 : Hid (((listP f g n).take p ++ [(key, val)]).length = p + 1) := by show ((listP f g n).take p ++ [(key, val)]).length = p + 1; rw [List.length_append, T0.out]; rfl
      have Q1 : Hid (((listP f g n).take p).length + 1 ≤ maxLen) := by show ((listP f g n).take p).length + 1 ≤ maxLen; rw [T0.out]; unfold maxLen; omega
      have Q2 : Hid ((((listP f g n).take p).length + 1) * 32 ≤ 140737488355328) := by show (((listP f g n).take p).length + 1) * 32 ≤ 140737488355328; rw [T0.out]; omega
      have Q3 : Hid (((listP f g n).take p ++ [(key, val)]).length + (n - p) ≤ maxLen) := by show ((listP f g n).take p ++ [(key, val)]).length + (n - p) ≤ maxLen; rw [T4.out]; unfold maxLen; omega
      have Q4 : Hid ((((listP f g n).take p ++ [(key, val)]).length + (n - p)) * 32 ≤ 140737488355328) := by show (((listP f g n).take p ++ [(key, val)]).length + (n - p)) * 32 ≤ 140737488355328; rw [T4.out]; omega
      have S0 : Hid (SrcP w b o (listP f g n)) := src_of HH.out
      have N3 : Hid (SrcP w b (o + p * 2) ((listP f g n).drop p)) := S0.out.drop p
      have EL : Hid (putL f g n key val p = (listP f g n).take p ++ [(key, val)] ++ (listP f g n).drop p) := by show putL f g n key val p = _; unfold putL; rw [HT.out]; rfl
      go_enter Try.func17, Try.ntmps17
      go_wp2_with fail
      refine (pairsFault _ n c f g key val _ hn hk hv HS.out HH.out).mono ?_
      rintro e1 w1 ⟨rfl, hb⟩
      rw [H0.out]
      go_wp2_with fail
      refine (pairPlace _ n c f g key p _ hn HP.out (HH.out.below hb)).mono ?_
      rintro e1 w2 ⟨rfl, hb2⟩
      rw [HT.out]
      have B0 : Hid (Below w.heap.size w w2) := hb.trans (hb2.mono hb.size)
      clear hb hb2
      go_wp2_with (first | (go_at_call 64; refine (copyPairs b o p c ((listP f g n).take p) _ T0.out (by omega) ((S0.out.take p).below B0.out)).mono ?_; rintro e1 w3 ⟨v1, rfl, ho3, hb3⟩; have O1 : Hid (OwnsP w3 w.heap.size v1 ((listP f g n).take p)) := ho3.weaken B0.out.size; have B1 : Hid (Below w.heap.size w w3) := B0.out.trans (hb3.mono B0.out.size); clear ho3 hb3) | (at_builtin; refine wpList_append_own _ rfl (.tmp 44) (.tmp 47) 31 rfl w.heap.size 42 i0 (.agg #[.string ⟨#[]⟩, .string ⟨#[]⟩]) 2 32 Try.underlying31 HI.out HZ0.out HZ1.out HZ2.out rfl (by decide) _ _ _ rfl O2.out ⟨b, o + p * 2, none⟩ ((n - p)) (c - p) (cellsP ((listP f g n).drop p)) rfl T3.out (N3.out.below B2.out).news (cellsP_one _) Q3.out Q4.out B2.out.size ?_; intro v3 w5 hown3 hgrow3 _; have B3 : Hid (Below w.heap.size w w5) := B2.out.grown hgrow3 B2.out.size O2.out.block; have O3 : Hid (OwnsP w5 w.heap.size v3 ((listP f g n).take p ++ [(key, val)] ++ (listP f g n).drop p)) := OwnsP.more T5.out hown3; clear hown3 hgrow3) | (at_builtin; refine wpList_append_own _ rfl (.tmp 38) (.tmp 42) 31 rfl w.heap.size 42 i0 (.agg #[.string ⟨#[]⟩, .string ⟨#[]⟩]) 2 32 Try.underlying31 HI.out HZ0.out HZ1.out HZ2.out rfl (by decide) _ _ _ rfl (O1.out.alloc _) ⟨w3.heap.size, 0, none⟩ 1 1 [.string key, .string val] rfl rfl (two_newP w3 key val) (two_oneP key val) Q1.out Q2.out (le_alloc B1.out.size _) ?_; intro v2 w4 hown2 hgrow2 _; have B2 : Hid (Below w.heap.size w w4) := (B1.out.alloc B1.out.size _).grown hgrow2 (le_alloc B1.out.size _) O1.out.block; have O2 : Hid (OwnsP w4 w.heap.size v2 ((listP f g n).take p ++ [(key, val)])) := OwnsP.one hown2; clear hown2 hgrow2))
      go_ret2
      exact ⟨_, rfl, by rw [EL.out]; exact O3.out, B3.out⟩
    · have hpe : p = n := by omega
      subst hpe
      clear hlt
      have hne : ¬ c = p := by omega
      have T0 : Hid (((listP f g p).take p).length = p) := by show ((listP f g p).take p).length = p; have := List.length_take (i := p) (l := listP f g p); rw [listP_length] at this; omega
      have T1 : Hid ((cellsP ((listP f g p).take p)).length = p * 2) := by show (cellsP ((listP f g p).take p)).length = p * 2; rw [cellsP_length, T0.out]
      have T5 : Hid (((listP f g p).drop p).length = 0) := by show ((listP f g p).drop p).length = 0; have := List.length_drop (i := p) (l := listP f g p); rw [listP_length] at this; omega
      have T3 : Hid ((cellsP ((listP f g p).drop p)).length = 0 * 2) := by show (cellsP ((listP f g p).drop p)).length = 0 * 2; rw [cellsP_length, T5.out]
      have T4 : Hid (((listP f g p).take p ++ [(key, val)]).length = p + 1) := by show ((listP f g p).take p ++ [(key, val)]).length = p + 1; rw [List.length_append, T0.out]; rfl
      have Q1 : Hid (((listP f g p).take p).length + 1 ≤ maxLen) := by show ((listP f g p).take p).length + 1 ≤ maxLen; rw [T0.out]; unfold maxLen; omega
      have Q2 : Hid ((((listP f g p).take p).length + 1) * 32 ≤ 140737488355328) := by show (((listP f g p).take p).length + 1) * 32 ≤ 140737488355328; rw [T0.out]; omega
      have Q3 : Hid (((listP f g p).take p ++ [(key, val)]).length + 0 ≤ maxLen) := by show ((listP f g p).take p ++ [(key, val)]).length + 0 ≤ maxLen; rw [T4.out]; unfold maxLen; omega
      have Q4 : Hid ((((listP f g p).take p ++ [(key, val)]).length + 0) * 32 ≤ 140737488355328) := by show (((listP f g p).take p ++ [(key, val)]).length + 0) * 32 ≤ 140737488355328; rw [T4.out]; omega
      have S0 : Hid (SrcP w b o (listP f g p)) := src_of HH.out
      have N3 : Hid (SrcP w b (o + p * 2) ((listP f g p).drop p)) := S0.out.drop p
      have EL : Hid (putL f g p key val p = (listP f g p).take p ++ [(key, val)] ++ (listP f g p).drop p) := by show putL f g p key val p = _; unfold putL; rw [HT.out]; rfl
      go_enter Try.func17, Try.ntmps17
      go_wp2_with fail
      refine (pairsFault _ p c f g key val _ hn hk hv HS.out HH.out).mono ?_
      rintro e1 w1 ⟨rfl, hb⟩
      rw [H0.out]
      go_wp2_with fail
      refine (pairPlace _ p c f g key p _ hn HP.out (HH.out.below hb)).mono ?_
      rintro e1 w2 ⟨rfl, hb2⟩
      rw [HT.out]
      have B0 : Hid (Below w.heap.size w w2) := hb.trans (hb2.mono hb.size)
      clear hb hb2
      go_wp2_with (first | (go_at_call 64; refine (copyPairs b o p c ((listP f g p).take p) _ T0.out (by omega) ((S0.out.take p).below B0.out)).mono ?_; rintro e1 w3 ⟨v1, rfl, ho3, hb3⟩; have O1 : Hid (OwnsP w3 w.heap.size v1 ((listP f g p).take p)) := ho3.weaken B0.out.size; have B1 : Hid (Below w.heap.size w w3) := B0.out.trans (hb3.mono B0.out.size); clear ho3 hb3) | (at_builtin; refine wpList_append_own _ rfl (.tmp 44) (.tmp 47) 31 rfl w.heap.size 42 i0 (.agg #[.string ⟨#[]⟩, .string ⟨#[]⟩]) 2 32 Try.underlying31 HI.out HZ0.out HZ1.out HZ2.out rfl (by decide) _ _ _ rfl O2.out ⟨b, o + p * 2, none⟩ (0) (c - p) (cellsP ((listP f g p).drop p)) rfl T3.out (N3.out.below B2.out).news (cellsP_one _) Q3.out Q4.out B2.out.size ?_; intro v3 w5 hown3 hgrow3 _; have B3 : Hid (Below w.heap.size w w5) := B2.out.grown hgrow3 B2.out.size O2.out.block; have O3 : Hid (OwnsP w5 w.heap.size v3 ((listP f g p).take p ++ [(key, val)] ++ (listP f g p).drop p)) := OwnsP.more T5.out hown3; clear hown3 hgrow3) | (at_builtin; refine wpList_append_own _ rfl (.tmp 38) (.tmp 42) 31 rfl w.heap.size 42 i0 (.agg #[.string ⟨#[]⟩, .string ⟨#[]⟩]) 2 32 Try.underlying31 HI.out HZ0.out HZ1.out HZ2.out rfl (by decide) _ _ _ rfl (O1.out.alloc _) ⟨w3.heap.size, 0, none⟩ 1 1 [.string key, .string val] rfl rfl (two_newP w3 key val) (two_oneP key val) Q1.out Q2.out (le_alloc B1.out.size _) ?_; intro v2 w4 hown2 hgrow2 _; have B2 : Hid (Below w.heap.size w w4) := (B1.out.alloc B1.out.size _).grown hgrow2 (le_alloc B1.out.size _) O1.out.block; have O2 : Hid (OwnsP w4 w.heap.size v2 ((listP f g p).take p ++ [(key, val)])) := OwnsP.one hown2; clear hown2 hgrow2))
      go_ret2
      exact ⟨_, rfl, by rw [EL.out]; exact O3.out, B3.out⟩
  | true =>
    have HT : Hid (hitB f n key p = true) := hh
    have hlt : p < n := by
      unfold hitB at hh
      simp at hh
      exact hh.1
    have hne2 : ¬ c = p + 1 := by omega
    clear hh
    have T0 : Hid (((listP f g n).take p).length = p) := by show ((listP f g n).take p).length = p; have := List.length_take (i := p) (l := listP f g n); rw [listP_length] at this; omega
    have T1 : Hid ((cellsP ((listP f g n).take p)).length = p * 2) := by show (cellsP ((listP f g n).take p)).length = p * 2; rw [cellsP_length, T0.out]
    have T5 : Hid (((listP f g n).drop (p + 1)).length = (n - (p + 1))) := by show ((listP f g n).drop (p + 1)).length = (n - (p + 1)); have := List.length_drop (i := (p + 1)) (l := listP f g n); rw [listP_length] at this; omega
    have T3 : Hid ((cellsP ((listP f g n).drop (p + 1))).length = (n - (p + 1)) * 2) := by show (cellsP ((listP f g n).drop (p + 1))).length = (n - (p + 1)) * 2; rw [cellsP_length, T5.out]
    have T4 : Hid (((listP f g n).take p ++ [(key, val)]).length = p + 1) := by show ((listP f g n).take p ++ [(key, val)]).length = p + 1; rw [List.length_append, T0.out]; rfl
    have Q1 : Hid (((listP f g n).take p).length + 1 ≤ maxLen) := by show ((listP f g n).take p).length + 1 ≤ maxLen; rw [T0.out]; unfold maxLen; omega
    have Q2 : Hid ((((listP f g n).take p).length + 1) * 32 ≤ 140737488355328) := by show (((listP f g n).take p).length + 1) * 32 ≤ 140737488355328; rw [T0.out]; omega
    have Q3 : Hid (((listP f g n).take p ++ [(key, val)]).length + (n - (p + 1)) ≤ maxLen) := by show ((listP f g n).take p ++ [(key, val)]).length + (n - (p + 1)) ≤ maxLen; rw [T4.out]; unfold maxLen; omega
    have Q4 : Hid ((((listP f g n).take p ++ [(key, val)]).length + (n - (p + 1))) * 32 ≤ 140737488355328) := by show (((listP f g n).take p ++ [(key, val)]).length + (n - (p + 1))) * 32 ≤ 140737488355328; rw [T4.out]; omega
    have S0 : Hid (SrcP w b o (listP f g n)) := src_of HH.out
    have N3 : Hid (SrcP w b (o + (p + 1) * 2) ((listP f g n).drop (p + 1))) := S0.out.drop (p + 1)
    have EL : Hid (putL f g n key val p = (listP f g n).take p ++ [(key, val)] ++ (listP f g n).drop (p + 1)) := by show putL f g n key val p = _; unfold putL; rw [HT.out]; rfl
    go_enter Try.func17, Try.ntmps17
    go_wp2_with fail
    refine (pairsFault _ n c f g key val _ hn hk hv HS.out HH.out).mono ?_
    rintro e1 w1 ⟨rfl, hb⟩
    rw [H0.out]
    go_wp2_with fail
    refine (pairPlace _ n c f g key p _ hn HP.out (HH.out.below hb)).mono ?_
    rintro e1 w2 ⟨rfl, hb2⟩
    rw [HT.out]
    have B0 : Hid (Below w.heap.size w w2) := hb.trans (hb2.mono hb.size)
    clear hb hb2
    go_wp2_with (first | (go_at_call 64; refine (copyPairs b o p c ((listP f g n).take p) _ T0.out (by omega) ((S0.out.take p).below B0.out)).mono ?_; rintro e1 w3 ⟨v1, rfl, ho3, hb3⟩; have O1 : Hid (OwnsP w3 w.heap.size v1 ((listP f g n).take p)) := ho3.weaken B0.out.size; have B1 : Hid (Below w.heap.size w w3) := B0.out.trans (hb3.mono B0.out.size); clear ho3 hb3) | (at_builtin; refine wpList_append_own _ rfl (.tmp 44) (.tmp 47) 31 rfl w.heap.size 42 i0 (.agg #[.string ⟨#[]⟩, .string ⟨#[]⟩]) 2 32 Try.underlying31 HI.out HZ0.out HZ1.out HZ2.out rfl (by decide) _ _ _ rfl O2.out ⟨b, o + (p + 1) * 2, none⟩ ((n - (p + 1))) (c - (p + 1)) (cellsP ((listP f g n).drop (p + 1))) rfl T3.out (N3.out.below B2.out).news (cellsP_one _) Q3.out Q4.out B2.out.size ?_; intro v3 w5 hown3 hgrow3 _; have B3 : Hid (Below w.heap.size w w5) := B2.out.grown hgrow3 B2.out.size O2.out.block; have O3 : Hid (OwnsP w5 w.heap.size v3 ((listP f g n).take p ++ [(key, val)] ++ (listP f g n).drop (p + 1))) := OwnsP.more T5.out hown3; clear hown3 hgrow3) | (at_builtin; refine wpList_append_own _ rfl (.tmp 38) (.tmp 42) 31 rfl w.heap.size 42 i0 (.agg #[.string ⟨#[]⟩, .string ⟨#[]⟩]) 2 32 Try.underlying31 HI.out HZ0.out HZ1.out HZ2.out rfl (by decide) _ _ _ rfl (O1.out.alloc _) ⟨w3.heap.size, 0, none⟩ 1 1 [.string key, .string val] rfl rfl (two_newP w3 key val) (two_oneP key val) Q1.out Q2.out (le_alloc B1.out.size _) ?_; intro v2 w4 hown2 hgrow2 _; have B2 : Hid (Below w.heap.size w w4) := (B1.out.alloc B1.out.size _).grown hgrow2 (le_alloc B1.out.size _) O1.out.block; have O2 : Hid (OwnsP w4 w.heap.size v2 ((listP f g n).take p ++ [(key, val)])) := OwnsP.one hown2; clear hown2 hgrow2))
    go_ret2
    exact ⟨_, rfl, by rw [EL.out]; exact O3.out, B3.out⟩
set_option maxHeartbeats 2000000 in
theorem implPairDropC (b o n c : Nat) (f g : Nat → ByteArray) (key : ByteArray) (p : Nat) (w : World) (h60 : n ≤ 60) (hc : n ≤ c) (hc9 : c ≤ maxLen) (hk : key.size ≤ 1048576) (hs : ∀ i, i < n → (f i).size ≤ 1048576 ∧ (g i).size ≤ 1048576) (h0 : askC f g n key = 0) (hh : hitB f n key p = true) (hp : IsPlace f n key p) (h : Sp w (some ⟨b, o, none⟩) n f g) :
    Calls Try.prog 20 #[.slice (some ⟨b, o, none⟩) n c, .string key] w fun e w' => ∃ v, e = .returned (.tuple #[v, .int .i64 0]) ∧ OwnsP w' w.heap.size v ((listP f g n).take p ++ (listP f g n).drop (p + 1)) ∧ Below w.heap.size w w' := by
  have HP : Hid (IsPlace f n key p) := hp
  have HH : Hid (Sp w (some ⟨b, o, none⟩) n f g) := h
  have HS : Hid (∀ i, i < n → (f i).size ≤ 1048576 ∧ (g i).size ≤ 1048576) := hs
  have H0 : Hid (faultC f g n key ⟨#[]⟩ = 0) := by show faultC f g n key ⟨#[]⟩ = 0; rw [fault_ask]; exact h0
  have HZ : Hid ((⟨#[]⟩ : ByteArray).size ≤ 1048576) := by show 0 ≤ 1048576; omega
  have HT : Hid (hitB f n key p = true) := hh
  have hlt : p < n := by
    unfold hitB at hh
    simp at hh
    exact hh.1
  have hn : n ≤ 1048576 := by omega
  unfold maxLen at hc9
  obtain ⟨i0, hi, hz0, hz1, hz2⟩ := infoPair'
  have HI : Hid (Try.prog.info? 42 = some i0) := hi
  have HZ0 : Hid (i0.zero = some (.agg #[.string ⟨#[]⟩, .string ⟨#[]⟩])) := hz0
  have HZ1 : Hid (i0.size = 2) := hz1
  have HZ2 : Hid (i0.bytes = 32) := hz2
  clear hi hz0 hz1 hz2
  clear h hs hp h0 hh
  by_cases hlast : c = p + 1
  · obtain rfl : n = p + 1 := by omega
    subst hlast
    have T0 : Hid (((listP f g (p + 1)).take p).length = p) := by show ((listP f g (p + 1)).take p).length = p; have := List.length_take (i := p) (l := listP f g (p + 1)); rw [listP_length] at this; omega
    have T1 : Hid ((cellsP ((listP f g (p + 1)).take p)).length = p * 2) := by show (cellsP ((listP f g (p + 1)).take p)).length = p * 2; rw [cellsP_length, T0.out]
    have T5 : Hid (((listP f g (p + 1)).drop (p + 1)).length = 0) := by show ((listP f g (p + 1)).drop (p + 1)).length = 0; have := List.length_drop (i := (p + 1)) (l := listP f g (p + 1)); rw [listP_length] at this; omega
    have T3 : Hid ((cellsP ((listP f g (p + 1)).drop (p + 1))).length = 0 * 2) := by show (cellsP ((listP f g (p + 1)).drop (p + 1))).length = 0 * 2; rw [cellsP_length, T5.out]
    have Q3 : Hid (((listP f g (p + 1)).take p).length + 0 ≤ maxLen) := by show ((listP f g (p + 1)).take p).length + 0 ≤ maxLen; rw [T0.out]; unfold maxLen; omega
    have Q4 : Hid ((((listP f g (p + 1)).take p).length + 0) * 32 ≤ 140737488355328) := by show (((listP f g (p + 1)).take p).length + 0) * 32 ≤ 140737488355328; rw [T0.out]; omega
    have S0 : Hid (SrcP w b o (listP f g (p + 1))) := src_of HH.out
    have N3 : Hid (SrcP w b o ((listP f g (p + 1)).drop (p + 1))) := by
      have h9 := rest_src S0.out (listP_length f g (p + 1)) (p + 1) (by omega)
      unfold restO at h9
      rw [if_pos (by omega)] at h9
      exact h9
    go_enter Try.func20, Try.ntmps20
    go_wp2_with fail
    refine (pairsFault _ (p + 1) (p + 1) f g key ⟨#[]⟩ _ hn hk HZ.out HS.out HH.out).mono ?_
    rintro e1 w1 ⟨rfl, hb⟩
    rw [H0.out]
    go_wp2_with fail
    refine (pairPlace _ (p + 1) (p + 1) f g key p _ hn HP.out (HH.out.below hb)).mono ?_
    rintro e1 w2 ⟨rfl, hb2⟩
    rw [HT.out]
    have B0 : Hid (Below w.heap.size w w2) := hb.trans (hb2.mono hb.size)
    clear hb hb2
    go_wp2_with fail
    refine wp_region_any (by kernel_rfl) ?_
    change wpAny _ _ _ _ _ _ _ (World.drew _)
    refine reg_take 0 25 (.slice (some ⟨b, o, none⟩) (p + 1) (p + 1)) rfl rfl (by kernel_rfl) (by kernel_rfl) (by kernel_rfl) (fun _ _ _ _ _ h => h) (by kernel_rfl) (by intro w; go_simp) ?_
    refine reg_take 1 26 (.int .i64 (p : Int)) rfl rfl (by kernel_rfl) (by kernel_rfl) (by kernel_rfl) (fun _ _ _ _ _ h => h) (by kernel_rfl) (by intro w; go_simp) ?_
    refine reg_take 2 27 (.slice (some ⟨b, o, none⟩) p (p + 1)) rfl rfl (by kernel_rfl) (by kernel_rfl) (by kernel_rfl) (fun _ _ _ _ _ h => h) (by kernel_rfl) (by intro w; go_simp; try (intro hneg; exfalso; first | omega | (have := hneg (by omega); omega))) ?_
    refine reg_take 4 29 (.slice (some ⟨b, o, none⟩) (p + 1) (p + 1)) rfl rfl (by kernel_rfl) (by kernel_rfl) (by kernel_rfl) (fun _ _ _ _ _ h => h) (by kernel_rfl) (by intro w; go_simp) ?_
    refine reg_take 5 30 (.int .i64 (p : Int)) rfl rfl (by kernel_rfl) (by kernel_rfl) (by kernel_rfl) (fun _ _ _ _ _ h => h) (by kernel_rfl) (by intro w; go_simp) ?_
    refine reg_take 6 31 (.int .i64 ((p : Int) + 1)) rfl rfl (by kernel_rfl) (by kernel_rfl) (by kernel_rfl) (fun _ _ _ _ _ h => h) (by kernel_rfl) (by intro w; go_simp; rw [IntKind.wrap_i64]; omega) ?_
    refine reg_take 7 32 (.slice (some ⟨b, o, none⟩) (0) (0)) rfl rfl (by kernel_rfl) (by kernel_rfl) (by kernel_rfl) (fun _ _ _ _ _ h => h) (by kernel_rfl) (by intro w; go_simp; try (intro hneg; exfalso; first | omega | (have := hneg (by omega); omega))) ?_
    refine wpAny_ready (rs := [3]) (by kernel_rfl) (by simp) ?_
    refine AllReady.cons rfl (fun K hK => ?_) AllReady.nil
    go_simp
    go_wp2_with (go_at_call 64; refine (copyPairs b o p (p + 1) ((listP f g (p + 1)).take p) _ T0.out (by omega) ((S0.out.take p).below B0.out.drew)).mono ?_; rintro e1 w3 ⟨v1, rfl, ho3, hb3⟩; have O1 : Hid (OwnsP w3 w.heap.size v1 ((listP f g (p + 1)).take p)) := ho3.weaken B0.out.size; have B1 : Hid (Below w.heap.size w w3) := B0.out.drew.trans (hb3.mono B0.out.size); clear ho3 hb3)
    refine wpAny_ready (rs := [8]) (by kernel_rfl) (by simp) ?_
    refine BigFrame.allReady_want rfl (by kernel_rfl) (fun K hK => ?_) AllReady.nil
    refine wp_append_own _ (.tmp 28) (.tmp 32) 31 rfl w.heap.size 42 i0 (.agg #[.string ⟨#[]⟩, .string ⟨#[]⟩]) 2 32 Try.underlying31 HI.out HZ0.out HZ1.out HZ2.out rfl (by decide) v1 _ _ rfl O1.out ⟨b, o, none⟩ (0) (0) (cellsP ((listP f g (p + 1)).drop (p + 1))) rfl T3.out (N3.out.below B1.out).news (cellsP_one _) Q3.out Q4.out B1.out.size ?_
    intro v3 w5 hown3 hgrow3 _
    have B3 : Hid (Below w.heap.size w w5) := B1.out.grown hgrow3 B1.out.size O1.out.block
    have O3 : Hid (OwnsP w5 w.heap.size v3 ((listP f g (p + 1)).take p ++ (listP f g (p + 1)).drop (p + 1))) := OwnsP.more T5.out hown3
    clear hown3 hgrow3
    refine hK _ _ ?_
    clear hK K
    refine reg_take 9 4 v3 rfl rfl (by kernel_rfl) (by kernel_rfl) (by kernel_rfl) (fun _ _ _ _ _ h => h) (by kernel_rfl) (by intro w; go_simp) ?_
    refine reg_take 10 5 (.int .i64 0) rfl rfl (by kernel_rfl) (by kernel_rfl) (by kernel_rfl) (fun _ _ _ _ _ h => h) (by kernel_rfl) (by intro w; go_simp) ?_
    refine wpAny_done (by kernel_rfl) ?_ _
    go_wp2_with fail
    go_ret2
    exact ⟨_, rfl, O3.out, B3.out⟩
  · have hne2 : ¬ c = p + 1 := hlast
    have T0 : Hid (((listP f g n).take p).length = p) := by show ((listP f g n).take p).length = p; have := List.length_take (i := p) (l := listP f g n); rw [listP_length] at this; omega
    have T1 : Hid ((cellsP ((listP f g n).take p)).length = p * 2) := by show (cellsP ((listP f g n).take p)).length = p * 2; rw [cellsP_length, T0.out]
    have T5 : Hid (((listP f g n).drop (p + 1)).length = (n - (p + 1))) := by show ((listP f g n).drop (p + 1)).length = (n - (p + 1)); have := List.length_drop (i := (p + 1)) (l := listP f g n); rw [listP_length] at this; omega
    have T3 : Hid ((cellsP ((listP f g n).drop (p + 1))).length = (n - (p + 1)) * 2) := by show (cellsP ((listP f g n).drop (p + 1))).length = (n - (p + 1)) * 2; rw [cellsP_length, T5.out]
    have Q3 : Hid (((listP f g n).take p).length + (n - (p + 1)) ≤ maxLen) := by show ((listP f g n).take p).length + (n - (p + 1)) ≤ maxLen; rw [T0.out]; unfold maxLen; omega
    have Q4 : Hid ((((listP f g n).take p).length + (n - (p + 1))) * 32 ≤ 140737488355328) := by show (((listP f g n).take p).length + (n - (p + 1))) * 32 ≤ 140737488355328; rw [T0.out]; omega
    have S0 : Hid (SrcP w b o (listP f g n)) := src_of HH.out
    have N3 : Hid (SrcP w b (o + (p + 1) * 2) ((listP f g n).drop (p + 1))) := S0.out.drop (p + 1)
    go_enter Try.func20, Try.ntmps20
    go_wp2_with fail
    refine (pairsFault _ n c f g key ⟨#[]⟩ _ hn hk HZ.out HS.out HH.out).mono ?_
    rintro e1 w1 ⟨rfl, hb⟩
    rw [H0.out]
    go_wp2_with fail
    refine (pairPlace _ n c f g key p _ hn HP.out (HH.out.below hb)).mono ?_
    rintro e1 w2 ⟨rfl, hb2⟩
    rw [HT.out]
    have B0 : Hid (Below w.heap.size w w2) := hb.trans (hb2.mono hb.size)
    clear hb hb2
    go_wp2_with fail
    refine wp_region_any (by kernel_rfl) ?_
    change wpAny _ _ _ _ _ _ _ (World.drew _)
    refine reg_take 0 25 (.slice (some ⟨b, o, none⟩) n c) rfl rfl (by kernel_rfl) (by kernel_rfl) (by kernel_rfl) (fun _ _ _ _ _ h => h) (by kernel_rfl) (by intro w; go_simp) ?_
    refine reg_take 1 26 (.int .i64 (p : Int)) rfl rfl (by kernel_rfl) (by kernel_rfl) (by kernel_rfl) (fun _ _ _ _ _ h => h) (by kernel_rfl) (by intro w; go_simp) ?_
    refine reg_take 2 27 (.slice (some ⟨b, o, none⟩) p c) rfl rfl (by kernel_rfl) (by kernel_rfl) (by kernel_rfl) (fun _ _ _ _ _ h => h) (by kernel_rfl) (by intro w; go_simp; try (intro hneg; exfalso; first | omega | (have := hneg (by omega); omega))) ?_
    refine reg_take 4 29 (.slice (some ⟨b, o, none⟩) n c) rfl rfl (by kernel_rfl) (by kernel_rfl) (by kernel_rfl) (fun _ _ _ _ _ h => h) (by kernel_rfl) (by intro w; go_simp) ?_
    refine reg_take 5 30 (.int .i64 (p : Int)) rfl rfl (by kernel_rfl) (by kernel_rfl) (by kernel_rfl) (fun _ _ _ _ _ h => h) (by kernel_rfl) (by intro w; go_simp) ?_
    refine reg_take 6 31 (.int .i64 ((p : Int) + 1)) rfl rfl (by kernel_rfl) (by kernel_rfl) (by kernel_rfl) (fun _ _ _ _ _ h => h) (by kernel_rfl) (by intro w; go_simp; rw [IntKind.wrap_i64]; omega) ?_
    refine reg_take 7 32 (.slice (some ⟨b, o + (p + 1) * 2, none⟩) ((n - (p + 1))) (c - (p + 1))) rfl rfl (by kernel_rfl) (by kernel_rfl) (by kernel_rfl) (fun _ _ _ _ _ h => h) (by kernel_rfl) (by intro w; go_simp; try (intro hneg; exfalso; first | omega | (have := hneg (by omega); omega))) ?_
    refine wpAny_ready (rs := [3]) (by kernel_rfl) (by simp) ?_
    refine AllReady.cons rfl (fun K hK => ?_) AllReady.nil
    go_simp
    go_wp2_with (go_at_call 64; refine (copyPairs b o p c ((listP f g n).take p) _ T0.out (by omega) ((S0.out.take p).below B0.out.drew)).mono ?_; rintro e1 w3 ⟨v1, rfl, ho3, hb3⟩; have O1 : Hid (OwnsP w3 w.heap.size v1 ((listP f g n).take p)) := ho3.weaken B0.out.size; have B1 : Hid (Below w.heap.size w w3) := B0.out.drew.trans (hb3.mono B0.out.size); clear ho3 hb3)
    refine wpAny_ready (rs := [8]) (by kernel_rfl) (by simp) ?_
    refine BigFrame.allReady_want rfl (by kernel_rfl) (fun K hK => ?_) AllReady.nil
    refine wp_append_own _ (.tmp 28) (.tmp 32) 31 rfl w.heap.size 42 i0 (.agg #[.string ⟨#[]⟩, .string ⟨#[]⟩]) 2 32 Try.underlying31 HI.out HZ0.out HZ1.out HZ2.out rfl (by decide) v1 _ _ rfl O1.out ⟨b, o + (p + 1) * 2, none⟩ ((n - (p + 1))) (c - (p + 1)) (cellsP ((listP f g n).drop (p + 1))) rfl T3.out (N3.out.below B1.out).news (cellsP_one _) Q3.out Q4.out B1.out.size ?_
    intro v3 w5 hown3 hgrow3 _
    have B3 : Hid (Below w.heap.size w w5) := B1.out.grown hgrow3 B1.out.size O1.out.block
    have O3 : Hid (OwnsP w5 w.heap.size v3 ((listP f g n).take p ++ (listP f g n).drop (p + 1))) := OwnsP.more T5.out hown3
    clear hown3 hgrow3
    refine hK _ _ ?_
    clear hK K
    refine reg_take 9 4 v3 rfl rfl (by kernel_rfl) (by kernel_rfl) (by kernel_rfl) (fun _ _ _ _ _ h => h) (by kernel_rfl) (by intro w; go_simp) ?_
    refine reg_take 10 5 (.int .i64 0) rfl rfl (by kernel_rfl) (by kernel_rfl) (by kernel_rfl) (fun _ _ _ _ _ h => h) (by kernel_rfl) (by intro w; go_simp) ?_
    refine wpAny_done (by kernel_rfl) ?_ _
    go_wp2_with fail
    go_ret2
    exact ⟨_, rfl, O3.out, B3.out⟩
end Go.Proofs.Ytfbomjcjemcgeaa
