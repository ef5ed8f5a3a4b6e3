
/-
  Contracts of both PairDrop: that the specification's filter and the program's cut leave one list. By an AI agent.
-/
import Derived.Test.YtfbomjcjemcgeaaPuts
import Derived.BigRegion
namespace Go.Proofs.Ytfbomjcjemcgeaa
open Go.ChangeShapes Go.WideShapes Go.ChangeAt Go.RowKit Go.Deep
set_option linter.unusedVariables false
set_option maxRecDepth 100000

theorem bl_irrefl : ∀ x : List UInt8, Op.bytesLess x x = false
  | [] => rfl
  | a :: x => by simp [Op.bytesLess, bl_irrefl x]
theorem bl_trans : ∀ x y z : List UInt8, Op.bytesLess x y = true → Op.bytesLess y z = true → Op.bytesLess x z = true
  | x, y, [], _, h2 => by cases y <;> simp [Op.bytesLess] at h2
  | [], y, c :: z, _, _ => rfl
  | a :: x, [], c :: z, h1, _ => by simp [Op.bytesLess] at h1
  | a :: x, b :: y, c :: z, h1, h2 => by
    simp only [Op.bytesLess, Bool.or_eq_true, decide_eq_true_eq, Bool.and_eq_true, beq_iff_eq] at h1 h2 ⊢
    rcases h1 with h1 | ⟨rfl, h1⟩
    · rcases h2 with h2 | ⟨rfl, h2⟩
      · exact .inl (UInt8.lt_trans h1 h2)
      · exact .inl h1
    · rcases h2 with h2 | ⟨rfl, h2⟩
      · exact .inl h2
      · exact .inr ⟨rfl, bl_trans x y z h1 h2⟩
theorem rising {f g : Nat → ByteArray} {n : Nat} (h : pairsB f g n = true) (i : Nat) : ∀ j, i < j → j < n → Op.bytesLess (f i).toList (f j).toList = true
  | 0, h1, _ => absurd h1 (by omega)
  | j + 1, h1, h2 => by
    have hstep : Op.bytesLess (f j).toList (f (j + 1)).toList = true := by
      unfold pairsB at h
      simp only [Bool.and_eq_true, List.all_eq_true] at h
      have h3 := h.2 (j + 1) (List.mem_range.2 h2)
      unfold goodB riseB at h3
      simp at h3
      exact h3.2
    by_cases e : i = j
    · rw [e]; exact hstep
    · exact bl_trans _ _ _ (rising h i j (by omega) (by omega)) hstep
/-- Of the first k pairs those whose keys are others. -/
def dropTo (f g : Nat → ByteArray) (key : ByteArray) (k : Nat) : List (ByteArray × ByteArray) := ((List.range k).filter fun i => (f i).toList != key.toList).map fun i => (f i, g i)
theorem dropTo_hit (f g : Nat → ByteArray) (key : ByteArray) (k : Nat) (h : ((f k).toList != key.toList) = true) : dropTo f g key (k + 1) = dropTo f g key k ++ [(f k, g k)] := by
  simp [dropTo, List.range_succ, List.filter_append, h]
theorem dropTo_miss (f g : Nat → ByteArray) (key : ByteArray) (k : Nat) (h : ((f k).toList != key.toList) = false) : dropTo f g key (k + 1) = dropTo f g key k := by
  simp [dropTo, List.range_succ, List.filter_append, h]
theorem dropTo_le (f g : Nat → ByteArray) (key : ByteArray) (k : Nat) : (dropTo f g key k).length ≤ k := by
  unfold dropTo
  rw [List.length_map]
  have := List.length_filter_le (fun i => (f i).toList != key.toList) (List.range k)
  rw [List.length_range] at this
  exact this
theorem listP_take (f g : Nat → ByteArray) (n k : Nat) (h : k < n) : (listP f g n).take (k + 1) = (listP f g n).take k ++ [(f k, g k)] := by
  rw [List.take_succ_eq_append_getElem (by rw [listP_length]; exact h)]
  simp [listP]
theorem dropTo_eq {f g : Nat → ByteArray} {n : Nat} {key : ByteArray} {p : Nat} (hpr : pairsB f g n = true) (hp : IsPlace f n key p) (hh : hitB f n key p = true) :
    ∀ k, k ≤ n → (k ≤ p → dropTo f g key k = (listP f g n).take k) ∧ (p < k → dropTo f g key k = (listP f g n).take p ++ ((listP f g n).take k).drop (p + 1))
  | 0, _ => ⟨fun _ => rfl, fun h => absurd h (by omega)⟩
  | k + 1, hk => by
    obtain ⟨hlt, hq⟩ : p < n ∧ (f p).toList = key.toList := by
      unfold hitB at hh
      simp at hh
      exact hh
    obtain ⟨ih1, ih2⟩ := dropTo_eq hpr hp hh k (by omega)
    have hlen : ((listP f g n).take k).length = k := by
      have := List.length_take (i := k) (l := listP f g n)
      rw [listP_length] at this; omega
    refine ⟨fun h => ?_, fun h => ?_⟩
    · have hne : ((f k).toList != key.toList) = true := by
        rw [bne_iff_ne]
        intro e
        have h2 := hp.2.1 k (by omega)
        rw [e, bl_irrefl] at h2
        cases h2
      rw [dropTo_hit f g key k hne, ih1 (by omega), listP_take f g n k (by omega)]
    · by_cases e : k = p
      · subst e
        rw [dropTo_miss f g key k (by rw [hq]; simp), ih1 (Nat.le_refl _), List.drop_eq_nil_of_le (by rw [List.length_take, listP_length]; omega), List.append_nil]
      · have hne : ((f k).toList != key.toList) = true := by
          rw [bne_iff_ne]
          intro e2
          have h2 := rising hpr p k (by omega) (by omega)
          rw [hq, e2, bl_irrefl] at h2
          cases h2
        rw [dropTo_hit f g key k hne, ih2 (by omega), listP_take f g n k (by omega), List.drop_append_of_le_length (by omega), List.append_assoc]
theorem dropTo_all {f g : Nat → ByteArray} {n : Nat} {key : ByteArray} {p : Nat} (hpr : pairsB f g n = true) (hp : IsPlace f n key p) (hh : hitB f n key p = true) :
    dropTo f g key n = (listP f g n).take p ++ (listP f g n).drop (p + 1) := by
  have hlt : p < n := by
    unfold hitB at hh
    simp at hh
    exact hh.1
  rw [(dropTo_eq hpr hp hh n (Nat.le_refl _)).2 hlt, show (listP f g n).take n = listP f g n from List.take_of_length_le (by rw [listP_length]; exact Nat.le_refl _)]

set_option maxHeartbeats 1000000 in
theorem l01Drop (a : Option Addr) (n c : Nat) (f g : Nat → ByteArray) (key : ByteArray) (w : World) (hn : n ≤ 4096) (h : Sp w a n f g) :
    Calls Try.prog 157 #[.slice a n c, .string key] w fun e w' => ∃ v, e = .returned v ∧ OwnsP w' w.heap.size v (dropTo f g key n) ∧ Below w.heap.size w w' := by
  obtain ⟨i0, hi, hz0, hz1, hz2⟩ := infoPair'
  have HH : Hid (Sp w a n f g) := h
  have HI : Hid (Try.prog.info? 42 = some i0) := hi
  have HZ0 : Hid (i0.zero = some (.agg #[.string ⟨#[]⟩, .string ⟨#[]⟩])) := hz0
  have HZ1 : Hid (i0.size = 2) := hz1
  have HZ2 : Hid (i0.bytes = 32) := hz2
  clear h hi hz0 hz1 hz2
  go_enter Try.func157, Try.ntmps157
  go_wp2_with fail
  go_loopw [5, 6] (fun v i wr => ∃ k : Nat, k ≤ n ∧ i = .int .i64 k ∧ Hid (OwnsP wr w.heap.size v (dropTo f g key k)) ∧ Hid (Below w.heap.size w wr)) (fun _ i _ => n - (intOf i).toNat)
  case atStart => exact ⟨0, by omega, rfl, OwnsP.made w _ (Nat.le_refl _), (Below.refl _ _).alloc (Nat.le_refl _) _⟩
  case round =>
    obtain ⟨k, hk, rfl, ho, hb⟩ := hrel
    by_cases hlt : k < n
    · rcases HH.out.below hb.out with h1 | ⟨b, off, rfl, hc⟩
      · omega
      obtain ⟨hc1, hc2⟩ := hc k hlt
      clear hc
      cases hbg : ((f k).toList == key.toList) with
      | true =>
        have E : Hid (dropTo f g key (k + 1) = dropTo f g key k) := dropTo_miss f g key k (by rw [bne, hbg]; rfl)
        go_wp2_with fail
        exact ⟨⟨k + 1, by omega, by go_num, by rw [E.out]; exact ho, hb⟩, by simp [intOf]; omega⟩
      | false =>
        have E : Hid (dropTo f g key (k + 1) = dropTo f g key k ++ [(f k, g k)]) := dropTo_hit f g key k (by rw [bne, hbg]; rfl)
        have hle := dropTo_le f g key k
        go_wp2_with (at_builtin; refine wpList_append_own _ rfl _ _ 31 rfl w.heap.size 42 i0 (.agg #[.string ⟨#[]⟩, .string ⟨#[]⟩]) 2 32 Try.underlying31 HI.out HZ0.out HZ1.out HZ2.out rfl (by decide) _ _ _ rfl (ho.out.alloc _) ⟨wr.heap.size, 0, none⟩ 1 1 [.string (f k), .string (g k)] rfl rfl (two_newP wr (f k) (g k)) (two_oneP (f k) (g k)) ?c3 ?c4 (le_alloc hb.out.size _) ?_)
        case c3 => unfold maxLen; omega
        case c4 => omega
        intro v' w1 hown hgrow _
        have HO : Hid (OwnsP w1 w.heap.size v' (dropTo f g key (k + 1))) := by
          show OwnsP w1 w.heap.size v' (dropTo f g key (k + 1))
          rw [E.out]
          exact OwnsP.one hown
        have HB1 : Hid (Below w.heap.size w w1) := (hb.out.alloc hb.out.size _).grown hgrow (le_alloc hb.out.size _) ho.out.block
        clear hown hgrow
        go_wp2_with fail
        exact ⟨⟨k + 1, by omega, by go_num, HO, HB1⟩, by simp [intOf]; omega⟩
    · have hkn : k = n := by omega
      subst hkn
      go_wp2_with fail
      go_ret
      exact ⟨_, rfl, ho.out, hb.out⟩

def dropC (f g : Nat → ByteArray) (n : Nat) (key : ByteArray) (p : Nat) : Int := if askC f g n key = 0 then (if hitB f n key p = true then 0 else 5) else askC f g n key
def dropR (f g : Nat → ByteArray) (n : Nat) (key : ByteArray) (p : Nat) : List (ByteArray × ByteArray) := if askC f g n key = 0 then (if hitB f n key p = true then (listP f g n).take p ++ (listP f g n).drop (p + 1) else listP f g n) else []
theorem ask_pairs {f g : Nat → ByteArray} {n : Nat} {key : ByteArray} (h : askC f g n key = 0) : pairsB f g n = true := by
  unfold askC at h
  split at h
  · cases h
  · split at h
    · cases h
    · rename_i hp; simpa using hp

set_option maxHeartbeats 2000000 in
theorem implPairDrop (b o n : Nat) (f g : Nat → ByteArray) (key : ByteArray) (p : Nat) (w : World) (hn : n ≤ 1048576) (hk : key.size ≤ 1048576) (hs : ∀ i, i < n → (f i).size ≤ 1048576 ∧ (g i).size ≤ 1048576) (hp : IsPlace f n key p) (h : Sp w (some ⟨b, o, none⟩) n f g) :
    Calls Try.prog 20 #[.slice (some ⟨b, o, none⟩) n n, .string key] w fun e w' => ∃ v, e = .returned (.tuple #[v, .int .i64 (dropC f g n key p)]) ∧ OwnsP w' w.heap.size v (dropR f g n key p) ∧ Below w.heap.size w w' := by
  have HP : Hid (IsPlace f n key p) := hp
  have HH : Hid (Sp w (some ⟨b, o, none⟩) n f g) := h
  have HS : Hid (∀ i, i < n → (f i).size ≤ 1048576 ∧ (g i).size ≤ 1048576) := hs
  have hpn := hp.1
  have hz : (⟨#[]⟩ : ByteArray).size ≤ 1048576 := by show 0 ≤ 1048576; omega
  have HZ : Hid ((⟨#[]⟩ : ByteArray).size ≤ 1048576) := hz
  obtain ⟨i0, hi, hz0, hz1, hz2⟩ := infoPair'
  have HI : Hid (Try.prog.info? 42 = some i0) := hi
  have HZ0 : Hid (i0.zero = some (.agg #[.string ⟨#[]⟩, .string ⟨#[]⟩])) := hz0
  have HZ1 : Hid (i0.size = 2) := hz1
  have HZ2 : Hid (i0.bytes = 32) := hz2
  clear h hs hp hi hz0 hz1 hz2 hz
  by_cases h0 : askC f g n key = 0
  · have H0 : Hid (faultC f g n key ⟨#[]⟩ = 0) := by show faultC f g n key ⟨#[]⟩ = 0; rw [fault_ask]; exact h0
    cases hh : hitB f n key p with
    | true =>
      have HT : Hid (hitB f n key p = true) := hh
      have E : Hid (dropC f g n key p = 0) := by show dropC f g n key p = 0; unfold dropC; rw [if_pos h0, if_pos hh]
      have ER : Hid (dropR f g n key p = (listP f g n).take p ++ (listP f g n).drop (p + 1)) := by show dropR f g n key p = _; unfold dropR; rw [if_pos h0, if_pos hh]
      have hlt : p < n := by
        unfold hitB at hh
        simp at hh
        exact hh.1
      have hn0 : ¬ n = 0 := by omega
      clear h0 hh
      by_cases hlast : n = p + 1
      · subst hlast
        have T0 : Hid (((listP f g (p + 1)).take p).length = p) := by show ((listP f g (p + 1)).take p).length = p; have := List.length_take (i := p) (l := listP f g (p + 1)); rw [listP_length] at this; omega
        have T5 : Hid (((listP f g (p + 1)).drop (p + 1)).length = 0) := by show ((listP f g (p + 1)).drop (p + 1)).length = 0; have := List.length_drop (i := (p + 1)) (l := listP f g (p + 1)); rw [listP_length] at this; omega
        have T3 : Hid ((cellsP ((listP f g (p + 1)).drop (p + 1))).length = 0 * 2) := by show (cellsP ((listP f g (p + 1)).drop (p + 1))).length = 0 * 2; rw [cellsP_length, T5.out]
        have Q3 : Hid (((listP f g (p + 1)).take p).length + 0 ≤ maxLen) := by show ((listP f g (p + 1)).take p).length + 0 ≤ maxLen; rw [T0.out]; unfold maxLen; omega
        have Q4 : Hid ((((listP f g (p + 1)).take p).length + 0) * 32 ≤ 140737488355328) := by show (((listP f g (p + 1)).take p).length + 0) * 32 ≤ 140737488355328; rw [T0.out]; omega
        have S0 : Hid (SrcP w b o (listP f g (p + 1))) := src_of HH.out
        have N3 : Hid (SrcP w b o ((listP f g (p + 1)).drop (p + 1))) := by
          have h9 := rest_src S0.out (listP_length f g (p + 1)) (p + 1) (by omega)
          unfold restO at h9
          first | (rw [if_pos (by omega)] at h9; exact h9) | (rw [if_neg (by omega)] at h9; exact h9)
        go_enter Try.func20, Try.ntmps20
        go_wp2_with fail
        refine (pairsFault _ (p + 1) (p + 1) f g key ⟨#[]⟩ _ hn hk HZ.out HS.out HH.out).mono ?_
        rintro e1 w1 ⟨rfl, hb⟩
        rw [H0.out]
        go_wp2_with fail
        refine (pairPlace _ (p + 1) (p + 1) f g key p _ hn HP.out (HH.out.below hb)).mono ?_
        rintro e1 w2 ⟨rfl, hb2⟩
        rw [HT.out]
        have B0 : Hid (Below w.heap.size w w2) := hb.trans (hb2.mono hb.size)
        clear hb hb2
        go_wp2_with fail
        refine wp_region_any (by kernel_rfl) ?_
        change wpAny _ _ _ _ _ _ _ (World.drew _)
        refine reg_take 0 25 (.slice (some ⟨b, o, none⟩) (p + 1) (p + 1)) rfl rfl (by kernel_rfl) (by kernel_rfl) (by kernel_rfl) (fun _ _ _ _ _ h => h) (by kernel_rfl) (by intro w; go_simp) ?_
        refine reg_take 1 26 (.int .i64 (p : Int)) rfl rfl (by kernel_rfl) (by kernel_rfl) (by kernel_rfl) (fun _ _ _ _ _ h => h) (by kernel_rfl) (by intro w; go_simp) ?_
        refine reg_take 2 27 (.slice (some ⟨b, o, none⟩) p (p + 1)) rfl rfl (by kernel_rfl) (by kernel_rfl) (by kernel_rfl) (fun _ _ _ _ _ h => h) (by kernel_rfl) (by intro w; go_simp; try (intro hneg; exfalso; first | omega | (have := hneg (by omega); omega))) ?_
        refine reg_take 4 29 (.slice (some ⟨b, o, none⟩) (p + 1) (p + 1)) rfl rfl (by kernel_rfl) (by kernel_rfl) (by kernel_rfl) (fun _ _ _ _ _ h => h) (by kernel_rfl) (by intro w; go_simp) ?_
        refine reg_take 5 30 (.int .i64 (p : Int)) rfl rfl (by kernel_rfl) (by kernel_rfl) (by kernel_rfl) (fun _ _ _ _ _ h => h) (by kernel_rfl) (by intro w; go_simp) ?_
        refine reg_take 6 31 (.int .i64 ((p : Int) + 1)) rfl rfl (by kernel_rfl) (by kernel_rfl) (by kernel_rfl) (fun _ _ _ _ _ h => h) (by kernel_rfl) (by intro w; go_simp; rw [IntKind.wrap_i64]; omega) ?_
        refine reg_take 7 32 (.slice (some ⟨b, o, none⟩) 0 0) rfl rfl (by kernel_rfl) (by kernel_rfl) (by kernel_rfl) (fun _ _ _ _ _ h => h) (by kernel_rfl) (by intro w; go_simp; try (intro hneg; exfalso; first | omega | (have := hneg (by omega); omega))) ?_
        refine wpAny_ready (rs := [3]) (by kernel_rfl) (by simp) ?_
        refine AllReady.cons rfl (fun K hK => ?_) AllReady.nil
        go_simp
        go_wp2_with (go_at_call 64; refine (copyPairs b o p (p + 1) ((listP f g (p + 1)).take p) _ T0.out (by omega) ((S0.out.take p).below B0.out.drew)).mono ?_; rintro e1 w3 ⟨v1, rfl, ho3, hb3⟩; have O1 : Hid (OwnsP w3 w.heap.size v1 ((listP f g (p + 1)).take p)) := ho3.weaken B0.out.size; have B1 : Hid (Below w.heap.size w w3) := B0.out.drew.trans (hb3.mono B0.out.size); clear ho3 hb3)
        refine wpAny_ready (rs := [8]) (by kernel_rfl) (by simp) ?_
        refine BigFrame.allReady_want rfl (by kernel_rfl) (fun K hK => ?_) AllReady.nil
        refine wp_append_own _ (.tmp 28) (.tmp 32) 31 rfl w.heap.size 42 i0 (.agg #[.string ⟨#[]⟩, .string ⟨#[]⟩]) 2 32 Try.underlying31 HI.out HZ0.out HZ1.out HZ2.out rfl (by decide) v1 _ _ rfl O1.out ⟨b, o, none⟩ 0 0 (cellsP ((listP f g (p + 1)).drop (p + 1))) rfl T3.out (N3.out.below B1.out).news (cellsP_one _) Q3.out Q4.out B1.out.size ?_
        intro v3 w5 hown3 hgrow3 _
        have B3 : Hid (Below w.heap.size w w5) := B1.out.grown hgrow3 B1.out.size O1.out.block
        have O3 : Hid (OwnsP w5 w.heap.size v3 ((listP f g (p + 1)).take p ++ (listP f g (p + 1)).drop (p + 1))) := OwnsP.more T5.out hown3
        clear hown3 hgrow3
        refine hK _ _ ?_
        clear hK K
        refine reg_take 9 4 v3 rfl rfl (by kernel_rfl) (by kernel_rfl) (by kernel_rfl) (fun _ _ _ _ _ h => h) (by kernel_rfl) (by intro w; go_simp) ?_
        refine reg_take 10 5 (.int .i64 0) rfl rfl (by kernel_rfl) (by kernel_rfl) (by kernel_rfl) (fun _ _ _ _ _ h => h) (by kernel_rfl) (by intro w; go_simp) ?_
        refine wpAny_done (by kernel_rfl) ?_ _
        go_wp2_with fail
        go_ret2
        exact ⟨_, ret_vi' E.out.symm, by rw [ER.out]; exact O3.out, B3.out⟩
      · have hne2 : ¬ n = p + 1 := hlast
        have T0 : Hid (((listP f g n).take p).length = p) := by show ((listP f g n).take p).length = p; have := List.length_take (i := p) (l := listP f g n); rw [listP_length] at this; omega
        have T5 : Hid (((listP f g n).drop (p + 1)).length = (n - (p + 1))) := by show ((listP f g n).drop (p + 1)).length = (n - (p + 1)); have := List.length_drop (i := (p + 1)) (l := listP f g n); rw [listP_length] at this; omega
        have T3 : Hid ((cellsP ((listP f g n).drop (p + 1))).length = (n - (p + 1)) * 2) := by show (cellsP ((listP f g n).drop (p + 1))).length = (n - (p + 1)) * 2; rw [cellsP_length, T5.out]
        have Q3 : Hid (((listP f g n).take p).length + (n - (p + 1)) ≤ maxLen) := by show ((listP f g n).take p).length + (n - (p + 1)) ≤ maxLen; rw [T0.out]; unfold maxLen; omega
        have Q4 : Hid ((((listP f g n).take p).length + (n - (p + 1))) * 32 ≤ 140737488355328) := by show (((listP f g n).take p).length + (n - (p + 1))) * 32 ≤ 140737488355328; rw [T0.out]; omega
        have S0 : Hid (SrcP w b o (listP f g n)) := src_of HH.out
        have N3 : Hid (SrcP w b (o + (p + 1) * 2) ((listP f g n).drop (p + 1))) := by
          have h9 := rest_src S0.out (listP_length f g n) (p + 1) (by omega)
          unfold restO at h9
          first | (rw [if_pos (by omega)] at h9; exact h9) | (rw [if_neg (by omega)] at h9; exact h9)
        go_enter Try.func20, Try.ntmps20
        go_wp2_with fail
        refine (pairsFault _ n n f g key ⟨#[]⟩ _ hn hk HZ.out HS.out HH.out).mono ?_
        rintro e1 w1 ⟨rfl, hb⟩
        rw [H0.out]
        go_wp2_with fail
        refine (pairPlace _ n n f g key p _ hn HP.out (HH.out.below hb)).mono ?_
        rintro e1 w2 ⟨rfl, hb2⟩
        rw [HT.out]
        have B0 : Hid (Below w.heap.size w w2) := hb.trans (hb2.mono hb.size)
        clear hb hb2
        go_wp2_with fail
        refine wp_region_any (by kernel_rfl) ?_
        change wpAny _ _ _ _ _ _ _ (World.drew _)
        refine reg_take 0 25 (.slice (some ⟨b, o, none⟩) n n) rfl rfl (by kernel_rfl) (by kernel_rfl) (by kernel_rfl) (fun _ _ _ _ _ h => h) (by kernel_rfl) (by intro w; go_simp) ?_
        refine reg_take 1 26 (.int .i64 (p : Int)) rfl rfl (by kernel_rfl) (by kernel_rfl) (by kernel_rfl) (fun _ _ _ _ _ h => h) (by kernel_rfl) (by intro w; go_simp) ?_
        refine reg_take 2 27 (.slice (some ⟨b, o, none⟩) p n) rfl rfl (by kernel_rfl) (by kernel_rfl) (by kernel_rfl) (fun _ _ _ _ _ h => h) (by kernel_rfl) (by intro w; go_simp; try (intro hneg; exfalso; first | omega | (have := hneg (by omega); omega))) ?_
        refine reg_take 4 29 (.slice (some ⟨b, o, none⟩) n n) rfl rfl (by kernel_rfl) (by kernel_rfl) (by kernel_rfl) (fun _ _ _ _ _ h => h) (by kernel_rfl) (by intro w; go_simp) ?_
        refine reg_take 5 30 (.int .i64 (p : Int)) rfl rfl (by kernel_rfl) (by kernel_rfl) (by kernel_rfl) (fun _ _ _ _ _ h => h) (by kernel_rfl) (by intro w; go_simp) ?_
        refine reg_take 6 31 (.int .i64 ((p : Int) + 1)) rfl rfl (by kernel_rfl) (by kernel_rfl) (by kernel_rfl) (fun _ _ _ _ _ h => h) (by kernel_rfl) (by intro w; go_simp; rw [IntKind.wrap_i64]; omega) ?_
        refine reg_take 7 32 (.slice (some ⟨b, (o + (p + 1) * 2), none⟩) (n - (p + 1)) (n - (p + 1))) rfl rfl (by kernel_rfl) (by kernel_rfl) (by kernel_rfl) (fun _ _ _ _ _ h => h) (by kernel_rfl) (by intro w; go_simp; try (intro hneg; exfalso; first | omega | (have := hneg (by omega); omega))) ?_
        refine wpAny_ready (rs := [3]) (by kernel_rfl) (by simp) ?_
        refine AllReady.cons rfl (fun K hK => ?_) AllReady.nil
        go_simp
        go_wp2_with (go_at_call 64; refine (copyPairs b o p n ((listP f g n).take p) _ T0.out (by omega) ((S0.out.take p).below B0.out.drew)).mono ?_; rintro e1 w3 ⟨v1, rfl, ho3, hb3⟩; have O1 : Hid (OwnsP w3 w.heap.size v1 ((listP f g n).take p)) := ho3.weaken B0.out.size; have B1 : Hid (Below w.heap.size w w3) := B0.out.drew.trans (hb3.mono B0.out.size); clear ho3 hb3)
        refine wpAny_ready (rs := [8]) (by kernel_rfl) (by simp) ?_
        refine BigFrame.allReady_want rfl (by kernel_rfl) (fun K hK => ?_) AllReady.nil
        refine wp_append_own _ (.tmp 28) (.tmp 32) 31 rfl w.heap.size 42 i0 (.agg #[.string ⟨#[]⟩, .string ⟨#[]⟩]) 2 32 Try.underlying31 HI.out HZ0.out HZ1.out HZ2.out rfl (by decide) v1 _ _ rfl O1.out ⟨b, (o + (p + 1) * 2), none⟩ (n - (p + 1)) (n - (p + 1)) (cellsP ((listP f g n).drop (p + 1))) rfl T3.out (N3.out.below B1.out).news (cellsP_one _) Q3.out Q4.out B1.out.size ?_
        intro v3 w5 hown3 hgrow3 _
        have B3 : Hid (Below w.heap.size w w5) := B1.out.grown hgrow3 B1.out.size O1.out.block
        have O3 : Hid (OwnsP w5 w.heap.size v3 ((listP f g n).take p ++ (listP f g n).drop (p + 1))) := OwnsP.more T5.out hown3
        clear hown3 hgrow3
        refine hK _ _ ?_
        clear hK K
        refine reg_take 9 4 v3 rfl rfl (by kernel_rfl) (by kernel_rfl) (by kernel_rfl) (fun _ _ _ _ _ h => h) (by kernel_rfl) (by intro w; go_simp) ?_
        refine reg_take 10 5 (.int .i64 0) rfl rfl (by kernel_rfl) (by kernel_rfl) (by kernel_rfl) (fun _ _ _ _ _ h => h) (by kernel_rfl) (by intro w; go_simp) ?_
        refine wpAny_done (by kernel_rfl) ?_ _
        go_wp2_with fail
        go_ret2
        exact ⟨_, ret_vi' E.out.symm, by rw [ER.out]; exact O3.out, B3.out⟩
    | false =>
      have HT : Hid (hitB f n key p = false) := hh
      have E : Hid (dropC f g n key p = 5) := by show dropC f g n key p = 5; unfold dropC; rw [if_pos h0, hh]; rfl
      have ER : Hid (dropR f g n key p = listP f g n) := by show dropR f g n key p = _; unfold dropR; rw [if_pos h0, hh]; rfl
      have S0 : Hid (SrcP w b o (listP f g n)) := src_of HH.out
      clear h0 hh
      go_enter Try.func20, Try.ntmps20
      go_wp2_with fail
      refine (pairsFault _ n n f g key ⟨#[]⟩ _ hn hk HZ.out HS.out HH.out).mono ?_
      rintro e1 w1 ⟨rfl, hb⟩
      rw [H0.out]
      go_wp2_with fail
      refine (pairPlace _ n n f g key p _ hn HP.out (HH.out.below hb)).mono ?_
      rintro e1 w2 ⟨rfl, hb2⟩
      rw [HT.out]
      have B0 : Hid (Below w.heap.size w w2) := hb.trans (hb2.mono hb.size)
      clear hb hb2
      go_wp2_with fail
      refine (copyPairs b o n n (listP f g n) _ (listP_length f g n) hn (S0.out.below B0.out)).mono ?_
      rintro e1 w3 ⟨v1, rfl, ho3, hb3⟩
      have O1 : Hid (OwnsP w3 w.heap.size v1 (listP f g n)) := ho3.weaken B0.out.size
      have B1 : Hid (Below w.heap.size w w3) := B0.out.trans (hb3.mono B0.out.size)
      clear ho3 hb3
      go_wp2_with fail
      go_ret2
      exact ⟨_, ret_vi' E.out.symm, by rw [ER.out]; exact O1.out, B1.out⟩
  · have hne : (faultC f g n key ⟨#[]⟩ != 0) = true := by rw [fault_ask]; simpa using h0
    have E : Hid (dropC f g n key p = faultC f g n key ⟨#[]⟩) := by show dropC f g n key p = _; unfold dropC; rw [if_neg h0, fault_ask]
    have ER : Hid (dropR f g n key p = []) := by show dropR f g n key p = []; unfold dropR; rw [if_neg h0]
    clear h0
    go_enter Try.func20, Try.ntmps20
    go_wp2_with fail
    refine (pairsFault _ n n f g key ⟨#[]⟩ _ hn hk HZ.out HS.out HH.out).mono ?_
    rintro e1 w1 ⟨rfl, hb⟩
    go_wp2_with fail
    go_ret2
    exact ⟨_, ret_vi' E.out.symm, by rw [ER.out]; exact OwnsP.nil _ _, hb⟩
end Go.Proofs.Ytfbomjcjemcgeaa
