
/-
  What drop leaves of pairs, and with which code. By an AI agent.
-/
import Derived.Test.YtmbndpgoihdpnaaGreatDoorPuth
namespace Go.Proofs.YtmbndpgoihdpnaaGreatDoor
open Go.ChangeShapes Go.WideShapes Go.ChangeAt Go.RowKit Go.Deep
set_option linter.unusedVariables false
set_option maxRecDepth 100000

theorem bl_irrefl : ∀ x : List UInt8, Op.bytesLess x x = false
  | [] => rfl
  | a :: x => by simp [Op.bytesLess, bl_irrefl x]
theorem bl_trans : ∀ x y z : List UInt8, Op.bytesLess x y = true → Op.bytesLess y z = true → Op.bytesLess x z = true
  | x, y, [], _, h2 => by cases y <;> simp [Op.bytesLess] at h2
  | [], y, c :: z, _, _ => rfl
  | a :: x, [], c :: z, h1, _ => by simp [Op.bytesLess] at h1
  | a :: x, b :: y, c :: z, h1, h2 => by
    simp only [Op.bytesLess, Bool.or_eq_true, decide_eq_true_eq, Bool.and_eq_true, beq_iff_eq] at h1 h2 ⊢
    rcases h1 with h1 | ⟨rfl, h1⟩
    · rcases h2 with h2 | ⟨rfl, h2⟩
      · exact .inl (UInt8.lt_trans h1 h2)
      · exact .inl h1
    · rcases h2 with h2 | ⟨rfl, h2⟩
      · exact .inl h2
      · exact .inr ⟨rfl, bl_trans x y z h1 h2⟩
theorem rising {f g : Nat → ByteArray} {n : Nat} (h : pairsB f g n = true) (i : Nat) : ∀ j, i < j → j < n → Op.bytesLess (f i).toList (f j).toList = true
  | 0, h1, _ => absurd h1 (by omega)
  | j + 1, h1, h2 => by
    have hstep : Op.bytesLess (f j).toList (f (j + 1)).toList = true := by
      unfold pairsB at h
      simp only [Bool.and_eq_true, List.all_eq_true] at h
      have h3 := h.2 (j + 1) (List.mem_range.2 h2)
      unfold goodB riseB at h3
      simp at h3
      exact h3.2
    by_cases e : i = j
    · rw [e]; exact hstep
    · exact bl_trans _ _ _ (rising h i j (by omega) (by omega)) hstep
/-- Of the first k pairs those whose keys are others. -/
def dropTo (f g : Nat → ByteArray) (key : ByteArray) (k : Nat) : List (ByteArray × ByteArray) := ((List.range k).filter fun i => (f i).toList != key.toList).map fun i => (f i, g i)
theorem dropTo_hit (f g : Nat → ByteArray) (key : ByteArray) (k : Nat) (h : ((f k).toList != key.toList) = true) : dropTo f g key (k + 1) = dropTo f g key k ++ [(f k, g k)] := by
  simp [dropTo, List.range_succ, List.filter_append, h]
theorem dropTo_miss (f g : Nat → ByteArray) (key : ByteArray) (k : Nat) (h : ((f k).toList != key.toList) = false) : dropTo f g key (k + 1) = dropTo f g key k := by
  simp [dropTo, List.range_succ, List.filter_append, h]
theorem dropTo_le (f g : Nat → ByteArray) (key : ByteArray) (k : Nat) : (dropTo f g key k).length ≤ k := by
  unfold dropTo
  rw [List.length_map]
  have := List.length_filter_le (fun i => (f i).toList != key.toList) (List.range k)
  rw [List.length_range] at this
  exact this
theorem listP_take (f g : Nat → ByteArray) (n k : Nat) (h : k < n) : (listP f g n).take (k + 1) = (listP f g n).take k ++ [(f k, g k)] := by
  rw [List.take_succ_eq_append_getElem (by rw [listP_length]; exact h)]
  simp [listP]
theorem dropTo_eq {f g : Nat → ByteArray} {n : Nat} {key : ByteArray} {p : Nat} (hpr : pairsB f g n = true) (hp : IsPlace f n key p) (hh : hitB f n key p = true) :
    ∀ k, k ≤ n → (k ≤ p → dropTo f g key k = (listP f g n).take k) ∧ (p < k → dropTo f g key k = (listP f g n).take p ++ ((listP f g n).take k).drop (p + 1))
  | 0, _ => ⟨fun _ => rfl, fun h => absurd h (by omega)⟩
  | k + 1, hk => by
    obtain ⟨hlt, hq⟩ : p < n ∧ (f p).toList = key.toList := by
      unfold hitB at hh
      simp at hh
      exact hh
    obtain ⟨ih1, ih2⟩ := dropTo_eq hpr hp hh k (by omega)
    have hlen : ((listP f g n).take k).length = k := by
      have := List.length_take (i := k) (l := listP f g n)
      rw [listP_length] at this; omega
    refine ⟨fun h => ?_, fun h => ?_⟩
    · have hne : ((f k).toList != key.toList) = true := by
        rw [bne_iff_ne]
        intro e
        have h2 := hp.2.1 k (by omega)
        rw [e, bl_irrefl] at h2
        cases h2
      rw [dropTo_hit f g key k hne, ih1 (by omega), listP_take f g n k (by omega)]
    · by_cases e : k = p
      · subst e
        rw [dropTo_miss f g key k (by rw [hq]; simp), ih1 (Nat.le_refl _), List.drop_eq_nil_of_le (by rw [List.length_take, listP_length]; omega), List.append_nil]
      · have hne : ((f k).toList != key.toList) = true := by
          rw [bne_iff_ne]
          intro e2
          have h2 := rising hpr p k (by omega) (by omega)
          rw [hq, e2, bl_irrefl] at h2
          cases h2
        rw [dropTo_hit f g key k hne, ih2 (by omega), listP_take f g n k (by omega), List.drop_append_of_le_length (by omega), List.append_assoc]
theorem dropTo_all {f g : Nat → ByteArray} {n : Nat} {key : ByteArray} {p : Nat} (hpr : pairsB f g n = true) (hp : IsPlace f n key p) (hh : hitB f n key p = true) :
    dropTo f g key n = (listP f g n).take p ++ (listP f g n).drop (p + 1) := by
  have hlt : p < n := by
    unfold hitB at hh
    simp at hh
    exact hh.1
  rw [(dropTo_eq hpr hp hh n (Nat.le_refl _)).2 hlt, show (listP f g n).take n = listP f g n from List.take_of_length_le (by rw [listP_length]; exact Nat.le_refl _)]

set_option maxHeartbeats 1000000 in
theorem l01Drop (a : Option Addr) (n c : Nat) (f g : Nat → ByteArray) (key : ByteArray) (w : World) (hn : n ≤ 4096) (h : Sp w a n f g) :
    Calls Tryz.prog 100 #[.slice a n c, .string key] w fun e w' => ∃ v, e = .returned v ∧ OwnsP w' w.heap.size v (dropTo f g key n) ∧ Below w.heap.size w w' := by
  obtain ⟨i0, hi, hz0, hz1, hz2⟩ := infoPair'
  have HH : Hid (Sp w a n f g) := h
  have HI : Hid (Tryz.prog.info? 70 = some i0) := hi
  have HZ0 : Hid (i0.zero = some (.agg #[.string ⟨#[]⟩, .string ⟨#[]⟩])) := hz0
  have HZ1 : Hid (i0.size = 2) := hz1
  have HZ2 : Hid (i0.bytes = 32) := hz2
  clear h hi hz0 hz1 hz2
  go_enter Tryz.func100, Tryz.ntmps100
  go_wp2_with fail
  go_loopw [5, 6] (fun v i wr => ∃ k : Nat, k ≤ n ∧ i = .int .i64 k ∧ Hid (OwnsP wr w.heap.size v (dropTo f g key k)) ∧ Hid (Below w.heap.size w wr)) (fun _ i _ => n - (intOf i).toNat)
  case atStart => exact ⟨0, by omega, rfl, OwnsP.made w _ (Nat.le_refl _), (Below.refl _ _).alloc (Nat.le_refl _) _⟩
  case round =>
    obtain ⟨k, hk, rfl, ho, hb⟩ := hrel
    by_cases hlt : k < n
    · rcases HH.out.below hb.out with h1 | ⟨b, off, rfl, hc⟩
      · omega
      obtain ⟨hc1, hc2⟩ := hc k hlt
      clear hc
      cases hbg : ((f k).toList == key.toList) with
      | true =>
        have E : Hid (dropTo f g key (k + 1) = dropTo f g key k) := dropTo_miss f g key k (by rw [bne, hbg]; rfl)
        go_wp2_with fail
        exact ⟨⟨k + 1, by omega, by go_num, by rw [E.out]; exact ho, hb⟩, by simp [intOf]; omega⟩
      | false =>
        have E : Hid (dropTo f g key (k + 1) = dropTo f g key k ++ [(f k, g k)]) := dropTo_hit f g key k (by rw [bne, hbg]; rfl)
        have hle := dropTo_le f g key k
        go_wp2_with (at_builtin; refine wpList_append_own _ rfl _ _ 28 rfl w.heap.size 70 i0 (.agg #[.string ⟨#[]⟩, .string ⟨#[]⟩]) 2 32 Tryz.underlying28 HI.out HZ0.out HZ1.out HZ2.out rfl (by decide) _ _ _ rfl (ho.out.alloc _) ⟨wr.heap.size, 0, none⟩ 1 1 [.string (f k), .string (g k)] rfl rfl (two_newP wr (f k) (g k)) (two_oneP (f k) (g k)) ?c3 ?c4 (le_alloc hb.out.size _) ?_)
        case c3 => unfold maxLen; omega
        case c4 => omega
        intro v' w1 hown hgrow _
        have HO : Hid (OwnsP w1 w.heap.size v' (dropTo f g key (k + 1))) := by
          show OwnsP w1 w.heap.size v' (dropTo f g key (k + 1))
          rw [E.out]
          exact OwnsP.one hown
        have HB1 : Hid (Below w.heap.size w w1) := (hb.out.alloc hb.out.size _).grown hgrow (le_alloc hb.out.size _) ho.out.block
        clear hown hgrow
        go_wp2_with fail
        exact ⟨⟨k + 1, by omega, by go_num, HO, HB1⟩, by simp [intOf]; omega⟩
    · have hkn : k = n := by omega
      subst hkn
      go_wp2_with fail
      go_ret
      exact ⟨_, rfl, ho.out, hb.out⟩

def dropC (f g : Nat → ByteArray) (n : Nat) (key : ByteArray) (p : Nat) : Int := if askC f g n key = 0 then (if hitB f n key p = true then 0 else 5) else askC f g n key
def dropR (f g : Nat → ByteArray) (n : Nat) (key : ByteArray) (p : Nat) : List (ByteArray × ByteArray) := if askC f g n key = 0 then (if hitB f n key p = true then (listP f g n).take p ++ (listP f g n).drop (p + 1) else listP f g n) else []
theorem ask_pairs {f g : Nat → ByteArray} {n : Nat} {key : ByteArray} (h : askC f g n key = 0) : pairsB f g n = true := by
  unfold askC at h
  split at h
  · cases h
  · split at h
    · cases h
    · rename_i hp; simpa using hp

end Go.Proofs.YtmbndpgoihdpnaaGreatDoor
