/-
  Spl PairGet PairGeti Owned Under Getp Listsm Mapx Inum Msp Dsk in one. By an AI agent.
-/
import Derived.Test.YthgbclipknfmjaaGreatDoorFu03
import Derived.Test.YthgbclipknfmjaaGreatDoorShelf
import Derived.Test.YthgbclipknfmjaaGreatDoorFu02
import Derived.Test.YthgbclipknfmjaaGreatDoorFu01
import Derived.MapKept
import Derived.ChangeMaps4
import Derived.Maps.RangeRun
import Derived.Lib.SmallJoins
import Derived.Deep.RegionHeld3
import Derived.Deep.Cut
import Derived.Deep.CutRange
namespace Go.Proofs.YthgbclipknfmjaaGreatDoor
open Go.ChangeShapes Go.WideShapes Go.ChangeAt Go.RowKit Go.Deep Go.Lib
set_option linter.unusedVariables false
set_option maxRecDepth 100000

theorem src_oneC {w : World} {s : ByteArray} {B ty : Nat} (hB : B = w.heap.size) : Src (w.alloc (.cells #[.string s] ty)) (some ⟨B, 0, none⟩) (cellsS [s]) := by
  have hb : Box (w.alloc (.cells #[.string s] ty)) B [.string s] := Box.new hB
  refine .inr ⟨B, 0, rfl, fun j hj => ?_⟩
  have hj4 : j < 1 := hj
  rw [Nat.zero_add]
  match j, hj4 with
  | 0, _ => exact (hb 0 _ rfl).1
theorem ext_data (s : ByteArray) (f k : Nat) (h : k ≤ s.size) : (s.extract f k).data.toList = (s.data.toList.drop f).take (k - f) := by
  simp only [ByteArray.data_extract, Array.toList_extract, List.extract_eq_drop_take']
theorem ext_bs (s : ByteArray) (f k : Nat) (h : k ≤ s.size) : s.extract f k = bs ((s.data.toList.drop f).take (k - f)) := bs_inj (by rw [ext_data s f k h]; rfl)
theorem seg_hit (c : UInt8) (s : ByteArray) (f k : Nat) (hf : f ≤ k) (hk : k < s.size) (h : c ∉ (s.data.toList.drop f).take (k - f)) (hc : s[k] = c) :
    splitL c (s.data.toList.drop f) = (s.data.toList.drop f).take (k - f) :: splitL c (s.data.toList.drop (k + 1)) := by
  have h1 : s.data.toList.drop f = (s.data.toList.drop f).take (k - f) ++ c :: s.data.toList.drop (k + 1) := by
    have h2 := List.take_append_drop (k - f) (s.data.toList.drop f)
    rw [List.drop_drop, show f + (k - f) = k by omega, bytes_drop s k hk, hc] at h2
    exact h2.symm
  have h3 := splitL_seg c _ (s.data.toList.drop (k + 1)) h
  rw [← h1] at h3
  exact h3
theorem seg_miss (c : UInt8) (s : ByteArray) (f k : Nat) (hf : f ≤ k) (hk : k < s.size) (h : c ∉ (s.data.toList.drop f).take (k - f)) (hc : s[k] ≠ c) : c ∉ (s.data.toList.drop f).take (k + 1 - f) := by
  rw [show k + 1 - f = (k - f) + 1 by omega, List.take_add_one]
  intro h9
  rcases List.mem_append.1 h9 with h9 | h9
  · exact h h9
  · rw [List.getElem?_drop, show f + (k - f) = k by omega] at h9
    have h8 : s.data.toList[k]? = some s[k] := by
      have := bytes_drop s k hk
      have h7 : (s.data.toList.drop k)[0]? = some s[k] := by rw [this]; rfl
      rwa [List.getElem?_drop, Nat.add_zero] at h7
    rw [h8] at h9
    simp only [Option.toList_some, List.mem_singleton] at h9
    exact hc h9.symm
set_option maxHeartbeats 2000000 in
theorem l00CutS (s : ByteArray) (c : UInt8) (w : World) (hs : s.size ≤ 1048576) :
    Calls Tryz.prog 119 #[.string s, .int .u8 (c.toNat : Int)] w fun e w' => ∃ v, e = .returned v ∧ w'.ownsRow w.heap.size 9 1 v (splitL c s.data.toList).length (cellsS ((splitL c s.data.toList).map bs)) ∧ Below w.heap.size w w' := by
  obtain ⟨G, hG⟩ : ∃ G, splitL c s.data.toList = G := ⟨_, rfl⟩
  have HG : Hid (splitL c s.data.toList = G) := hG
  rw [hG]
  clear hG
  go_enter Tryz.func119, Tryz.ntmps119
  go_wp2_with fail
  go_loopw [5, 6, 7] (fun vv fv iv wr => ∃ (k f : Nat) (P : List (List UInt8)), f ≤ k ∧ k ≤ s.size ∧ fv = .int .i64 (f : Int) ∧ iv = .int .i64 (k : Int) ∧ P.length ≤ k ∧ Hid (G = P ++ splitL c (s.data.toList.drop f)) ∧ Hid (c ∉ (s.data.toList.drop f).take (k - f)) ∧ Hid (wr.ownsRow w.heap.size 9 1 vv P.length (cellsS (P.map bs))) ∧ Hid (Below w.heap.size w wr)) (fun _ _ i _ => s.size - (RowKit.intOf i).toNat)
  case atStart => exact ⟨0, 0, [], by omega, by omega, rfl, rfl, by simp, HG.out.symm, by show c ∉ ([] : List UInt8); simp, own_empty (by simp) (by simp), (Below.refl _ _).alloc (Nat.le_refl _) _⟩
  case round =>
    obtain ⟨k, f, P, hfk, hk, rfl, rfl, hP, hg, hno, hown, hbr⟩ := hrel
    have hfi : (0 : Int) ≤ (f : Int) := by omega
    have hfs : (f : Int) ≤ (s.size : Int) := by omega
    have hfki : (f : Int) ≤ (k : Int) := by omega
    by_cases hlt : k < s.size
    · have hlti : (k : Int) < (s.size : Int) := by omega
      have hki : (k : Int) ≤ (s.size : Int) := by omega
      by_cases hc : s[k] = c
      · have hci : ((s[k].toNat : Int) == (c.toNat : Int)) = true := by rw [hc]; simp
        have HS := seg_hit c s f k hfk hlt hno.out hc
        have HG2 : Hid (G = (P ++ [(s.data.toList.drop f).take (k - f)]) ++ splitL c (s.data.toList.drop (k + 1))) := by
          show _ = _
          rw [hg.out, HS, List.append_assoc]
          rfl
        have HE : Hid (s.extract f k = bs ((s.data.toList.drop f).take (k - f))) := ext_bs s f k hk
        have HN2 : Hid (c ∉ (s.data.toList.drop (k + 1)).take (k + 1 - (k + 1))) := by show _ ∉ _; rw [Nat.sub_self, List.take_zero]; simp
        clear HS hc hg hno
        go_wp2_with (at_builtin; refine wpList_append_src _ rfl _ _ 47 rfl w.heap.size 9 (.string ⟨#[]⟩) 1 16 Tryz.underlying47 infoS rfl (by decide) (by decide) _ P.length (cellsS (P.map bs)) rfl (hown.out.alloc _) (some ⟨wr.heap.size, 0, none⟩) 1 1 (cellsS [s.extract f k]) rfl rfl (src_oneC rfl) (cellsS_one _) (by omega) (le_alloc hbr.out.size _) ?_)
        intro v1 w1 hown1 hgrow1
        have HO1 : Hid (w1.ownsRow w.heap.size 9 1 v1 (P ++ [(s.data.toList.drop f).take (k - f)]).length (cellsS ((P ++ [(s.data.toList.drop f).take (k - f)]).map bs))) := by
          show w1.ownsRow _ _ _ _ _ _
          rw [List.length_append, List.map_append, List.map_cons, List.map_nil, ← HE.out, cellsS_append]
          exact hown1
        have HB1 : Hid (Below w.heap.size w w1) := (hbr.out.alloc hbr.out.size _).grown hgrow1 (le_alloc hbr.out.size _) (fun g e => (hown.out.lt g e).1)
        clear hown1 hgrow1
        go_wp2_with fail
        exact ⟨⟨k + 1, k + 1, P ++ [(s.data.toList.drop f).take (k - f)], by omega, by omega, by go_num, by go_num, by simp; omega, HG2.out, HN2.out, HO1.out, HB1.out⟩, by simp [RowKit.intOf]; omega⟩
      · have hci : ((s[k].toNat : Int) == (c.toNat : Int)) = false := beq_eq_false_iff_ne.2 (fun h9 => hc (UInt8.toNat_inj.1 (by omega)))
        have HN2 : Hid (c ∉ (s.data.toList.drop f).take (k + 1 - f)) := seg_miss c s f k hfk hlt hno.out hc
        clear hc hno
        go_wp2_with fail
        exact ⟨⟨k + 1, f, P, by omega, by omega, rfl, by go_num, by omega, hg.out, HN2.out, hown.out, hbr.out⟩, by simp [RowKit.intOf]; omega⟩
    · have hkn : k = s.size := by omega
      have HE : Hid (s.extract f s.size = bs (s.data.toList.drop f)) := by
        show _ = _
        rw [ext_bs s f s.size (Nat.le_refl _), List.take_of_length_le (by rw [List.length_drop, bytes_len]; exact Nat.le_refl _)]
      have HG2 : Hid (G = P ++ [s.data.toList.drop f]) := by
        show _ = _
        have h9 := hno.out
        rw [hkn, List.take_of_length_le (by rw [List.length_drop, bytes_len]; exact Nat.le_refl _)] at h9
        rw [hg.out, splitL_whole c _ h9]
      clear hg hno hkn
      go_wp2_with (at_builtin; refine wpList_append_src _ rfl _ _ 47 rfl w.heap.size 9 (.string ⟨#[]⟩) 1 16 Tryz.underlying47 infoS rfl (by decide) (by decide) _ P.length (cellsS (P.map bs)) rfl (hown.out.alloc _) (some ⟨wr.heap.size, 0, none⟩) 1 1 (cellsS [s.extract f s.size]) rfl rfl (src_oneC rfl) (cellsS_one _) (by omega) (le_alloc hbr.out.size _) ?_)
      intro v1 w1 hown1 hgrow1
      have HO1 : Hid (w1.ownsRow w.heap.size 9 1 v1 G.length (cellsS (G.map bs))) := by
        show w1.ownsRow _ _ _ _ _ _
        rw [HG2.out, List.length_append, List.map_append, List.map_cons, List.map_nil, ← HE.out, cellsS_append]
        exact hown1
      have HB1 : Hid (Below w.heap.size w w1) := (hbr.out.alloc hbr.out.size _).grown hgrow1 (le_alloc hbr.out.size _) (fun g e => (hown.out.lt g e).1)
      clear hown1 hgrow1
      go_wp2_with fail
      go_ret
      exact ⟨_, rfl, HO1.out, HB1.out⟩
end Go.Proofs.YthgbclipknfmjaaGreatDoor
namespace Go.Proofs.YthgbclipknfmjaaGreatDoor
open Go.ChangeShapes Go.WideShapes Go.ChangeAt Go.RowKit Go.Deep
set_option linter.unusedVariables false

/-- p is the first place whose key is not less than key. -/
def IsPlace (f : Nat → ByteArray) (n : Nat) (key : ByteArray) (p : Nat) : Prop :=
  p ≤ n ∧ (∀ j, j < p → Op.bytesLess (f j).toList key.toList = true) ∧ (p < n → Op.bytesLess (f p).toList key.toList = false)
theorem place_exists (f : Nat → ByteArray) (key : ByteArray) (n : Nat) : ∃ p, IsPlace f n key p := by
  induction n with
  | zero => exact ⟨0, Nat.le_refl _, fun j hj => absurd hj (by omega), fun h => absurd h (by omega)⟩
  | succ n ih =>
    obtain ⟨p, h1, h2, h3⟩ := ih
    by_cases e : p < n
    · exact ⟨p, by omega, h2, fun _ => h3 e⟩
    · have hp : p = n := by omega
      subst hp
      cases hl : Op.bytesLess (f p).toList key.toList with
      | false => exact ⟨p, by omega, h2, fun _ => hl⟩
      | true => exact ⟨p + 1, by omega, fun j hj => by
          by_cases e : j = p
          · rw [e]; exact hl
          · exact h2 j (by omega), fun h => absurd h (by omega)⟩
def hitB (f : Nat → ByteArray) (n : Nat) (key : ByteArray) (p : Nat) : Bool := decide (p < n) && ((f p).toList == key.toList)
def gotV (f g : Nat → ByteArray) (n : Nat) (key : ByteArray) (p : Nat) : ByteArray := if hitB f n key p = true then g p else ⟨#[]⟩
theorem ret_two {a b : ByteArray} {k l : Bool} (h1 : a = b) (h2 : k = l) : Ending.returned (.tuple #[.string a, .bool k]) = .returned (.tuple #[.string b, .bool l]) := by rw [h1, h2]
theorem ret_int {k : IntKind} {a b : Int} (h : a = b) : Ending.returned (.int k a) = .returned (.int k b) := by rw [h]

set_option maxHeartbeats 400000 in
theorem l01At (a : Option Addr) (n c : Nat) (f g : Nat → ByteArray) (key : ByteArray) (p : Nat) (w : World) (hn : n ≤ 1048576) (hp : IsPlace f n key p) (h : Sp w a n f g) :
    Calls Tryz.prog 136 #[.slice a n c, .string key] w fun e w' => e = .returned (.int .i64 p) ∧ w = w' := by
  have HP : Hid (IsPlace f n key p) := hp
  have hpn := hp.1
  clear hp
  go_enter Tryz.func136, Tryz.ntmps136
  go_wp2_with fail
  go_loop [5] (fun i => ∃ k : Nat, k ≤ p ∧ i = .int .i64 k) (fun i => p - (intOf i).toNat)
  case atStart => exact ⟨0, by omega, rfl⟩
  case round =>
    obtain ⟨k, hk, rfl⟩ := hrel
    by_cases hlt : k < p
    · rcases h with h1 | ⟨b, off, rfl, hc⟩
      · omega
      obtain ⟨hc1, hc2⟩ := hc k (by omega)
      have hl := HP.out.2.1 k hlt
      clear hc hc2
      go_wp2_with fail
      go_round
      case rel => exact ⟨k + 1, by omega, by go_num⟩
      case measure => simp [intOf]; omega
    · have hkp : Hid (k = p) := by show k = p; omega
      by_cases hkn : k < n
      · rcases h with h1 | ⟨b, off, rfl, hc⟩
        · omega
        obtain ⟨hc1, hc2⟩ := hc k (by omega)
        have hl : Op.bytesLess (f k).toList key.toList = false := by rw [hkp.out]; exact HP.out.2.2 (by rw [← hkp.out]; exact hkn)
        clear hc hc2
        go_wp2_with fail
        go_ret
        exact ⟨ret_int (by rw [hkp.out]), rfl⟩
      · clear h
        go_wp2_with fail
        go_ret
        exact ⟨ret_int (by rw [hkp.out]), rfl⟩

set_option maxHeartbeats 400000 in
theorem l01Get (a : Option Addr) (n c : Nat) (f g : Nat → ByteArray) (key : ByteArray) (p : Nat) (w : World) (hn : n ≤ 1048576) (hp : IsPlace f n key p) (h : Sp w a n f g) :
    Calls Tryz.prog 92 #[.slice a n c, .string key] w fun e w' => e = .returned (.tuple #[.string (gotV f g n key p), .bool (hitB f n key p)]) ∧ w = w' := by
  have HP : Hid (IsPlace f n key p) := hp
  have HH : Hid (Sp w a n f g) := h
  have hpn := hp.1
  clear hp
  by_cases hlt : p < n
  · rcases h with h1 | ⟨b, off, rfl, hc⟩
    · omega
    obtain ⟨hc1, hc2⟩ := hc p hlt
    clear hc
    have hi : (p : Int) < (n : Int) := by omega
    by_cases hq : ((f p).toList == key.toList) = true
    · have E : Hid (hitB f n key p = true) := by show hitB f n key p = true; unfold hitB; rw [hq, decide_eq_true hlt]; rfl
      go_enter Tryz.func92, Tryz.ntmps92
      go_wp2_with (go_at_call 136; refine (l01At _ n c f g key p _ hn HP.out HH.out).mono ?_; rintro e w' ⟨rfl, rfl⟩)
      go_ret2
      exact ⟨ret_two (by unfold gotV; rw [E.out]; rfl) E.out.symm, rfl⟩
    · have hq' : ((f p).toList == key.toList) = false := by simpa using hq
      have E : Hid (hitB f n key p = false) := by show hitB f n key p = false; unfold hitB; rw [hq', decide_eq_true hlt]; rfl
      clear hq
      go_enter Tryz.func92, Tryz.ntmps92
      go_wp2_with (go_at_call 136; refine (l01At _ n c f g key p _ hn HP.out HH.out).mono ?_; rintro e w' ⟨rfl, rfl⟩)
      go_ret2
      exact ⟨ret_two (by unfold gotV; rw [E.out]; rfl) E.out.symm, rfl⟩
  · have E : Hid (hitB f n key p = false) := by show hitB f n key p = false; unfold hitB; rw [decide_eq_false hlt]; rfl
    clear h
    go_enter Tryz.func92, Tryz.ntmps92
    go_wp2_with (go_at_call 136; refine (l01At _ n c f g key p _ hn HP.out HH.out).mono ?_; rintro e w' ⟨rfl, rfl⟩)
    go_ret2
    exact ⟨ret_two (by unfold gotV; rw [E.out]; rfl) E.out.symm, rfl⟩

theorem ret_ib {a b : Int} {k l : Bool} (h1 : a = b) (h2 : k = l) : Ending.returned (.tuple #[.int .i64 a, .bool k]) = .returned (.tuple #[.int .i64 b, .bool l]) := by rw [h1, h2]

set_option maxHeartbeats 400000 in
theorem pairPlace (a : Option Addr) (n c : Nat) (f g : Nat → ByteArray) (key : ByteArray) (p : Nat) (w : World) (hn : n ≤ 1048576) (hp : IsPlace f n key p) (h : Sp w a n f g) :
    Calls Tryz.prog 143 #[.slice a n c, .string key] w fun e w' => e = .returned (.tuple #[.int .i64 p, .bool (hitB f n key p)]) ∧ Below w.heap.size w w' := by
  have HP : Hid (IsPlace f n key p) := hp
  have hpn := hp.1
  clear hp
  go_enter Tryz.func143, Tryz.ntmps143
  go_wp2_with fail
  go_loop [4] (fun i => ∃ k : Nat, k ≤ p ∧ i = .int .i64 k) (fun i => p - (intOf i).toNat)
  case atStart => exact ⟨0, by omega, rfl⟩
  case round =>
    obtain ⟨k, hk, rfl⟩ := hrel
    by_cases hlt : k < p
    · rcases h with h1 | ⟨b, off, rfl, hc⟩
      · omega
      obtain ⟨hc1, hc2⟩ := hc k (by omega)
      have hl := HP.out.2.1 k hlt
      clear hc hc2
      go_wp2_with fail
      go_round
      case rel => exact ⟨k + 1, by omega, by go_num⟩
      case measure => simp [intOf]; omega
    · have hkp : Hid (k = p) := by show k = p; omega
      by_cases hkn : k < n
      · rcases h with h1 | ⟨b, off, rfl, hc⟩
        · omega
        obtain ⟨hc1, hc2⟩ := hc k (by omega)
        have hl : Op.bytesLess (f k).toList key.toList = false := by rw [hkp.out]; exact HP.out.2.2 (by rw [← hkp.out]; exact hkn)
        have hki : (k : Int) < (n : Int) := by omega
        clear hc hc2
        by_cases hq : ((f k).toList == key.toList) = true
        · have E : Hid (hitB f n key k = true) := by show hitB f n key k = true; unfold hitB; rw [hq, decide_eq_true hkn]; rfl
          go_wp2_with fail
          go_quiet (fail)
          go_wp2_with fail
          go_ret2
          exact ⟨ret_ib (by rw [hkp.out]) (by rw [← hkp.out]; exact E.out.symm), below_drewN (Below.refl _ _) _⟩
        · have hq' : ((f k).toList == key.toList) = false := by simpa using hq
          have E : Hid (hitB f n key k = false) := by show hitB f n key k = false; unfold hitB; rw [hq', decide_eq_true hkn]; rfl
          clear hq
          go_wp2_with fail
          go_quiet (fail)
          go_wp2_with fail
          go_ret2
          exact ⟨ret_ib (by rw [hkp.out]) (by rw [← hkp.out]; exact E.out.symm), below_drewN (Below.refl _ _) _⟩
      · have E : Hid (hitB f n key k = false) := by show hitB f n key k = false; unfold hitB; rw [decide_eq_false hkn]; rfl
        have hkd : decide (k < n) = false := by simp; omega
        clear h
        go_wp2_with fail
        go_quiet (fail)
        go_wp2_with fail
        go_ret2
        exact ⟨ret_ib (by rw [hkp.out]) (by rw [← hkp.out]; exact E.out.symm), below_drewN (Below.refl _ _) _⟩

abbrev pe : ByteArray × ByteArray := p0
def fstL (L : List (ByteArray × ByteArray)) (i : Nat) : ByteArray := (L.getD i pe).1
def sndL (L : List (ByteArray × ByteArray)) (i : Nat) : ByteArray := (L.getD i pe).2
/-- v owns the pairs L, in blocks from base on. -/
def OwnsP (w : World) (base : Nat) (v : Value) (L : List (ByteArray × ByteArray)) : Prop := w.ownsRow base 68 2 v L.length (cellsP L)

/-- What it is as a slice: its address, its pairs, its cells. -/
theorem OwnsP.open {w : World} {base : Nat} {v : Value} {L : List (ByteArray × ByteArray)} (h : OwnsP w base v L) :
    ∃ a c, v = .slice a L.length c ∧ Sp w a L.length (fstL L) (sndL L) ∧ (∀ ad, a = some ad → base ≤ ad.block ∧ ad.block < w.heap.size) := by
  obtain ⟨hl, ⟨rfl, h0⟩ | ⟨g, cap, cur, rfl, hb, hg, hc1, hc2, hs, ht⟩⟩ := h
  · refine ⟨none, 0, by rw [h0],   .inl h0, fun ad e => by cases e⟩
  · have hcell : ∀ i, i < L.length * 2 → w.cell? ⟨g, i, none⟩ = some ((cellsP L).getD i (.bool false)) := fun i hi => by
      rw [cell_of_row w g i cur _ _ hg, ← Array.getElem?_toList, List.getD_eq_getElem?_getD, ← ht, List.getElem?_take, if_pos hi, List.getElem?_eq_getElem (by simp; have := Nat.mul_le_mul_right 2 hc1; omega)]
      rfl
    have hlt : g < w.heap.size := by
      apply Decidable.byContradiction
      intro hn
      rw [Array.getElem?_eq_none (by omega)] at hg
      cases hg
    refine ⟨some ⟨g, 0, none⟩, cap, rfl, .inr ⟨g, 0, rfl, fun i hi => ?_⟩, fun ad e => by cases e; exact ⟨hb, hlt⟩⟩
    obtain ⟨c1, c2⟩ := cellsP_get L i hi
    refine ⟨?_, ?_⟩
    · rw [Nat.zero_add, hcell _ (by omega), List.getD_eq_getElem?_getD, c1]; rfl
    · rw [Nat.zero_add, hcell _ (by omega), List.getD_eq_getElem?_getD, c2]; rfl

theorem OwnsP.below {w w' : World} {base : Nat} {v : Value} {L : List (ByteArray × ByteArray)} (h : OwnsP w base v L) (hb : Below w.heap.size w w') : OwnsP w' base v L := by
  obtain ⟨hl, h0 | ⟨g, cap, cur, rfl, hb0, hg, hc1, hc2, hs, ht⟩⟩ := h
  · exact ⟨hl, .inl h0⟩
  · have hlt : g < w.heap.size := by
      apply Decidable.byContradiction
      intro hn
      rw [Array.getElem?_eq_none (by omega)] at hg
      cases hg
    exact ⟨hl, .inr ⟨g, cap, cur, rfl, hb0, by rw [hb.block g hlt]; exact hg, hc1, hc2, hs, ht⟩⟩
theorem OwnsP.nil (w : World) (base : Nat) : OwnsP w base (.slice none 0 0) [] := ⟨rfl, .inl ⟨rfl, rfl⟩⟩
theorem OwnsP.made (w : World) (base : Nat) (hb : base ≤ w.heap.size) : OwnsP (w.alloc (.cells #[] 68)) base (.slice (some ⟨w.heap.size, 0, none⟩) 0 0) [] :=
  ⟨rfl, .inr ⟨w.heap.size, 0, #[], rfl, hb, heap_alloc_new _ _, Nat.le_refl _, by unfold maxLen; omega, rfl, rfl⟩⟩
theorem OwnsP.block {w : World} {base : Nat} {v : Value} {L : List (ByteArray × ByteArray)} (h : OwnsP w base v L) : ∀ k, v.ownBlock = some k → base ≤ k := by
  obtain ⟨hl, ⟨rfl, h0⟩ | ⟨g, cap, cur, rfl, hb0, _⟩⟩ := h
  · intro k e; cases e
  · intro k e; cases e; exact hb0
theorem infoPair' : ∃ i, Tryz.prog.info? 68 = some i ∧ i.zero = some (.agg #[.string ⟨#[]⟩, .string ⟨#[]⟩]) ∧ i.size = 2 ∧ i.bytes = 32 := by
  obtain ⟨i, hi, hzz⟩ := Option.map_eq_some_iff.1 infoP
  simp only [Prod.mk.injEq] at hzz
  exact ⟨i, hi, hzz⟩

theorem Sp.grown {w w' : World} {a : Option Addr} {n : Nat} {f g : Nat → ByteArray} {row : Option Nat} (h : Sp w a n f g) (hg : w.grownBy w' row) (hne : ∀ ad, a = some ad → row ≠ some ad.block) : Sp w' a n f g := by
  rcases h with h | ⟨b, off, rfl, hc⟩
  · exact .inl h
  · refine .inr ⟨b, off, rfl, fun i hi => ?_⟩
    obtain ⟨h1, h2⟩ := hc i hi
    have hlt := World.block_lt_of_cell? _ _ h1
    have hbk := hg.block b hlt (fun e => hne _ rfl e.symm)
    exact ⟨(World.cell?_of_block (w := w) (a := ⟨b, off + i * 2, none⟩) hbk).trans h1, (World.cell?_of_block (w := w) (a := ⟨b, off + i * 2 + 1, none⟩) hbk).trans h2⟩
theorem two_oneP (x y : ByteArray) : ∀ u ∈ [Value.string x, .string y], u.oneCell' = true := by
  intro u hu
  simp at hu
  rcases hu with rfl | rfl <;> rfl
end Go.Proofs.YthgbclipknfmjaaGreatDoor
namespace Go.Proofs.YthgbclipknfmjaaGreatDoor
open Go.ChangeShapes Go.WideShapes Go.ChangeAt Go.RowKit Go.Deep
set_option linter.unusedVariables false
set_option maxRecDepth 100000

def beginsB (t h : ByteArray) : Bool := decide ((h.size : Int) ≤ (t.size : Int)) && ((t.extract 0 h.size).toList == h.toList)
/-- Of the first k pairs those whose keys begin so. -/
def under (f g : Nat → ByteArray) (pre : ByteArray) (k : Nat) : List (ByteArray × ByteArray) := ((List.range k).filter fun i => beginsB (f i) pre).map fun i => (f i, g i)
theorem under_hit (f g : Nat → ByteArray) (pre : ByteArray) (k : Nat) (h : beginsB (f k) pre = true) : under f g pre (k + 1) = under f g pre k ++ [(f k, g k)] := by
  simp [under, List.range_succ, List.filter_append, h]
theorem under_miss (f g : Nat → ByteArray) (pre : ByteArray) (k : Nat) (h : beginsB (f k) pre = false) : under f g pre (k + 1) = under f g pre k := by
  simp [under, List.range_succ, List.filter_append, h]
theorem under_le (f g : Nat → ByteArray) (pre : ByteArray) (k : Nat) : (under f g pre k).length ≤ k := by
  unfold under
  rw [List.length_map]
  have := List.length_filter_le (fun i => beginsB (f i) pre) (List.range k)
  rw [List.length_range] at this
  exact this

theorem beginsFn118 (t h : ByteArray) (w : World) (ht : t.size ≤ 1048576) (hh : h.size ≤ 1048576) : Calls Tryz.prog 118 #[.string t, .string h] w fun e w' => e = .returned (.bool (beginsB t h)) ∧ w = w' := by
  by_cases hle : (h.size : Int) ≤ (t.size : Int)
  · have E : Hid (beginsB t h = ((t.extract 0 h.size).toList == h.toList)) := by show beginsB t h = _; unfold beginsB; rw [decide_eq_true hle]; rfl
    go_enter Tryz.func118, Tryz.ntmps118
    go_wp2
    all_goals
      go_ret
      exact ⟨ret_bool E.out.symm, rfl⟩
  · have E : Hid (beginsB t h = false) := by show beginsB t h = _; unfold beginsB; rw [decide_eq_false hle]; rfl
    go_enter Tryz.func118, Tryz.ntmps118
    go_wp2
    all_goals
      go_ret
      exact ⟨ret_bool E.out.symm, rfl⟩
theorem begins (b : Bool) (t h : ByteArray) (w : World) (hb : beginsB t h = b) (ht : t.size ≤ 1048576) (hh : h.size ≤ 1048576) : Calls Tryz.prog 118 #[.string t, .string h] w fun e w' => e = .returned (.bool b) ∧ w = w' := by
  rw [← hb]; exact beginsFn118 t h w ht hh

theorem two_new (wr : World) (x y : ByteArray) (j : Nat) (u : Value) (h : [Value.string x, .string y][j]? = some u) :
    (wr.alloc (.cells #[.string x, .string y] 68)).cell? ((⟨wr.heap.size, 0, none⟩ : Addr).add j) = some u := by
  match j, h with
  | 0, h => simp at h; subst h; simp [Addr.add]
  | 1, h => simp at h; subst h; simp [Addr.add]
theorem two_one (x y : ByteArray) : ∀ u ∈ [Value.string x, .string y], u.oneCell' = true := by
  intro u hu
  simp at hu
  rcases hu with rfl | rfl <;> rfl

set_option maxHeartbeats 1000000 in
theorem l01Under (a : Option Addr) (n c : Nat) (f g : Nat → ByteArray) (pre : ByteArray) (w : World) (hn : n ≤ 4096) (hp : pre.size ≤ 1048576) (hs : ∀ i, i < n → (f i).size ≤ 1048576 ∧ (g i).size ≤ 1048576) (h : Sp w a n f g) :
    Calls Tryz.prog 64 #[.slice a n c, .string pre] w fun e w' => ∃ v, e = .returned v ∧ OwnsP w' w.heap.size v (under f g pre n) ∧ Below w.heap.size w w' := by
  obtain ⟨i0, hi, hz0, hz1, hz2⟩ := infoPair'
  have HH : Hid (Sp w a n f g) := h
  have HS : Hid (∀ i, i < n → (f i).size ≤ 1048576 ∧ (g i).size ≤ 1048576) := hs
  have HI : Hid (Tryz.prog.info? 68 = some i0) := hi
  have HZ0 : Hid (i0.zero = some (.agg #[.string ⟨#[]⟩, .string ⟨#[]⟩])) := hz0
  have HZ1 : Hid (i0.size = 2) := hz1
  have HZ2 : Hid (i0.bytes = 32) := hz2
  clear h hs hi hz0 hz1 hz2
  go_enter Tryz.func64, Tryz.ntmps64
  go_wp2_with fail
  go_loopw [5, 6] (fun v i wr => ∃ k : Nat, k ≤ n ∧ i = .int .i64 k ∧ Hid (OwnsP wr w.heap.size v (under f g pre k)) ∧ Hid (Below w.heap.size w wr)) (fun _ i _ => n - (intOf i).toNat)
  case atStart => exact ⟨0, by omega, rfl, OwnsP.made w _ (Nat.le_refl _), (Below.refl _ _).alloc (Nat.le_refl _) _⟩
  case round =>
    obtain ⟨k, hk, rfl, ho, hb⟩ := hrel
    rename_i v _
    by_cases hlt : k < n
    · rcases HH.out.below hb.out with h1 | ⟨b, off, rfl, hc⟩
      · omega
      obtain ⟨hc1, hc2⟩ := hc k hlt
      have hsx := (HS.out k hlt).1
      clear hc
      cases hbg : beginsB (f k) pre with
      | false =>
        have HB : Hid (beginsB (f k) pre = false) := hbg
        have E : Hid (under f g pre (k + 1) = under f g pre k) := under_miss f g pre k hbg
        clear hbg
        go_wp2_with (go_at_call 118; refine (begins false _ _ _ HB.out hsx hp).mono ?_; rintro e w' ⟨rfl, rfl⟩)
        exact ⟨⟨k + 1, by omega, by go_num, by rw [E.out]; exact ho, hb⟩, by simp [intOf]; omega⟩
      | true =>
        have HB : Hid (beginsB (f k) pre = true) := hbg
        have E : Hid (under f g pre (k + 1) = under f g pre k ++ [(f k, g k)]) := under_hit f g pre k hbg
        have hle := under_le f g pre k
        clear hbg
        go_wp2_with (first | (go_at_call 118; refine (begins true _ _ _ HB.out hsx hp).mono ?_; rintro e w' ⟨rfl, rfl⟩) | (at_builtin; refine wpList_append_own _ rfl _ _ 23 rfl w.heap.size 68 i0 (.agg #[.string ⟨#[]⟩, .string ⟨#[]⟩]) 2 32 Tryz.underlying23 HI.out HZ0.out HZ1.out HZ2.out rfl (by decide) _ _ _ rfl (ho.out.alloc _) ⟨wr.heap.size, 0, none⟩ 1 1 [.string (f k), .string (g k)] rfl rfl ?c1 ?c2 ?c3 ?c4 ?c5 ?_))
        case c1 => exact two_new wr (f k) (g k)
        case c2 => exact two_one (f k) (g k)
        case c3 => unfold maxLen; omega
        case c4 => omega
        case c5 => have := hb.out.size; simp; omega
        intro v' w1 hown hgrow _
        have HO : Hid (OwnsP w1 w.heap.size v' (under f g pre (k + 1))) := by
          show OwnsP w1 w.heap.size v' (under f g pre (k + 1))
          rw [E.out]
          unfold OwnsP
          rw [List.length_append, cellsP_append]
          exact hown
        have HB1 : Hid (Below w.heap.size w w1) := (hb.out.alloc hb.out.size _).grown hgrow (by have := hb.out.size; simp; omega) ho.out.block
        clear hown hgrow
        go_wp2_with fail
        exact ⟨⟨k + 1, by omega, by go_num, HO, HB1⟩, by simp [intOf]; omega⟩
    · have hkn : k = n := by omega
      subst hkn
      go_wp2_with fail
      go_ret
      exact ⟨_, rfl, ho.out, hb.out⟩

end Go.Proofs.YthgbclipknfmjaaGreatDoor
namespace Go.Proofs.YthgbclipknfmjaaGreatDoor
open Go.ChangeShapes Go.WideShapes Go.ChangeAt Go.RowKit Go.Deep Go.Lib
set_option linter.unusedVariables false
set_option maxRecDepth 100000

theorem bl_eq : ∀ (x y : List UInt8), Op.bytesLess x y = decide (x < y)
  | [], [] => by simp [Op.bytesLess]
  | _ :: _, [] => by simp [Op.bytesLess]
  | [], _ :: _ => by simp [Op.bytesLess]
  | a :: x, b :: y => by
    rw [Op.bytesLess, bl_eq x y]
    simp only [List.cons_lt_cons_iff]
    by_cases h1 : a < b <;> by_cases h2 : a = b <;> by_cases h3 : x < y <;> simp [h1, h2, h3]
theorem bl_irrefl : ∀ x : List UInt8, Op.bytesLess x x = false
  | [] => rfl
  | a :: x => by simp [Op.bytesLess, bl_irrefl x]
theorem bl_trans : ∀ x y z : List UInt8, Op.bytesLess x y = true → Op.bytesLess y z = true → Op.bytesLess x z = true
  | [], [], _, h, _ => by simp [Op.bytesLess] at h
  | [], b :: y, [], _, h => by simp [Op.bytesLess] at h
  | [], b :: y, c :: z, _, _ => by simp [Op.bytesLess]
  | a :: x, [], _, h, _ => by simp [Op.bytesLess] at h
  | a :: x, b :: y, [], _, h => by simp [Op.bytesLess] at h
  | a :: x, b :: y, c :: z, h, k => by
    have ih := bl_trans x y z
    simp only [Op.bytesLess, Bool.or_eq_true, Bool.and_eq_true, decide_eq_true_eq, beq_iff_eq] at h k ⊢
    simp only [UInt8.lt_iff_toNat_lt] at h k ⊢
    rcases h with h | ⟨rfl, h⟩
    · rcases k with k | ⟨rfl, k⟩
      · exact .inl (by omega)
      · exact .inl h
    · rcases k with k | ⟨rfl, k⟩
      · exact .inl k
      · exact .inr ⟨rfl, ih h k⟩
theorem toList_inj {x y : ByteArray} (h : x.toList = y.toList) : x = y := by
  rw [ByteArray.toList_eq, ByteArray.toList_eq] at h
  exact bs_inj h
def ltK (x y : ByteArray) : Prop := Op.bytesLess x.toList y.toList = true
theorem ltK_irrefl (x : ByteArray) : ¬ ltK x x := fun h => by unfold ltK at h; rw [bl_irrefl] at h; cases h
def UpL (L : List PM) : Prop := L.Pairwise fun x y => ltK x.1 y.1
/-- A list that PairsOK takes. -/
def GoodL (L : List PM) : Prop := L.length ≤ 60 ∧ (∀ x ∈ L, 1 ≤ x.1.size ∧ x.1.size ≤ 30 ∧ x.2.size ≤ 90) ∧ UpL L
theorem at_fst {L : List PM} {i : Nat} (hi : i < L.length) : fK L i = L[i].1 ∧ fV L i = L[i].2 := by
  unfold fK fV
  rw [List.getD_eq_getElem?_getD, List.getElem?_eq_getElem hi]
  exact ⟨rfl, rfl⟩
theorem good_of {L : List PM} (h : pairsB (fK L) (fV L) L.length = true) : GoodL L := by
  unfold pairsB at h
  rw [Bool.and_eq_true, decide_eq_true_eq, List.all_eq_true] at h
  obtain ⟨h1, h2⟩ := h
  have h3 : ∀ i (hi : i < L.length), fitB L[i].1 L[i].2 = true ∧ (∀ j, i = j + 1 → ∀ hj : j < L.length, ltK L[j].1 L[i].1) := by
    intro i hi
    have := h2 i (List.mem_range.2 hi)
    unfold goodB at this
    rw [Bool.and_eq_true, (at_fst hi).1, (at_fst hi).2] at this
    refine ⟨this.1, fun j hij hj => ?_⟩
    have h4 := this.2
    unfold riseB at h4
    rw [Bool.or_eq_true, decide_eq_true_eq] at h4
    rcases h4 with h4 | h4
    · omega
    · rw [hij, show j + 1 - 1 = j by omega] at h4
      subst hij
      rw [(at_fst hj).1, (at_fst hi).1] at h4
      exact h4
  refine ⟨h1, fun x hx => ?_, ?_⟩
  · obtain ⟨i, hi, rfl⟩ := List.mem_iff_getElem.1 hx
    have := (h3 i hi).1
    unfold fitB keyB at this
    simp only [Bool.and_eq_true, decide_eq_true_eq] at this
    omega
  · unfold UpL
    rw [List.pairwise_iff_getElem]
    intro i j hi hj hij
    induction j with
    | zero => omega
    | succ j ih =>
      have h5 := (h3 (j + 1) hj).2 j rfl (by omega)
      by_cases e : i = j
      · subst e; exact h5
      · exact bl_trans _ _ _ (ih (by omega) (by omega)) h5
def getM : List PM → ByteArray → Option ByteArray
  | [], _ => none
  | x :: L, k => if x.1 = k then some x.2 else getM L k
theorem getM_none {k : ByteArray} : ∀ {L : List PM}, getM L k = none ↔ ∀ x ∈ L, x.1 ≠ k
  | [] => by simp [getM]
  | x :: L => by
    have ih := getM_none (k := k) (L := L)
    unfold getM
    by_cases h : x.1 = k
    · rw [if_pos h]
      simp [h]
    · rw [if_neg h, ih]
      simp [h]
theorem getM_mem {k v : ByteArray} : ∀ {L : List PM}, UpL L → (getM L k = some v ↔ (k, v) ∈ L)
  | [], _ => by simp [getM]
  | x :: L, hu => by
    obtain ⟨h1, h2⟩ := List.pairwise_cons.1 hu
    have ih := getM_mem (k := k) (v := v) (L := L) h2
    unfold getM
    by_cases h : x.1 = k
    · rw [if_pos h]
      constructor
      · intro h9
        have : x = (k, v) := Prod.ext h (Option.some.inj h9)
        rw [this]; exact List.mem_cons_self
      · intro h9
        rcases List.mem_cons.1 h9 with h9 | h9
        · rw [← h9]
        · have h8 := h1 _ h9
          rw [h] at h8
          exact absurd h8 (ltK_irrefl k)
    · rw [if_neg h, ih]
      constructor
      · exact fun h9 => List.mem_cons_of_mem _ h9
      · intro h9
        rcases List.mem_cons.1 h9 with h9 | h9
        · exact absurd (by rw [← h9]) h
        · exact h9
theorem hit_get {L : List PM} (hu : UpL L) {k : ByteArray} {p : Nat} (hp : IsPlace (fK L) L.length k p) : hitB (fK L) L.length k p = (getM L k).isSome ∧ gotV (fK L) (fV L) L.length k p = (getM L k).getD e0 := by
  obtain ⟨h1, h2, h3⟩ := hp
  by_cases hh : hitB (fK L) L.length k p = true
  · have h9 := hh
    unfold hitB at h9
    rw [Bool.and_eq_true, decide_eq_true_eq, beq_iff_eq] at h9
    obtain ⟨hlt, he⟩ := h9
    rw [(at_fst hlt).1] at he
    have hk : L[p].1 = k := toList_inj he
    have hm : getM L k = some L[p].2 := (getM_mem hu).2 (by rw [← hk]; exact List.getElem_mem hlt)
    rw [hm]
    refine ⟨hh, ?_⟩
    unfold gotV
    rw [if_pos hh, (at_fst hlt).2]
    rfl
  · have hn : getM L k = none := by
      rw [getM_none]
      intro x hx he
      obtain ⟨i, hi, rfl⟩ := List.mem_iff_getElem.1 hx
      rcases Nat.lt_trichotomy i p with h4 | h4 | h4
      · have := h2 i h4
        rw [(at_fst hi).1, he, bl_irrefl] at this
        cases this
      · subst h4
        apply hh
        unfold hitB
        rw [decide_eq_true hi, (at_fst hi).1, he]
        simp
      · have h5 := h3 (by omega)
        rw [(at_fst (show p < L.length by omega)).1] at h5
        have h6 := (List.pairwise_iff_getElem.1 hu) p i (by omega) hi h4
        unfold ltK at h6
        rw [he, h5] at h6
        cases h6
    have hf : hitB (fK L) L.length k p = false := by simpa using hh
    rw [hn]
    refine ⟨hf, ?_⟩
    unfold gotV
    rw [if_neg hh]
    rfl
theorem ret_got {a b : ByteArray} {k l : Bool} (h1 : a = b) (h2 : k = l) : Ending.returned (.tuple #[.string a, .bool k]) = .returned (.tuple #[.string b, .bool l]) := by rw [h1, h2]
/-- The specification's look at a key. -/
theorem l01GetM (a : Option Addr) (n c : Nat) (L : List PM) (key : ByteArray) (w : World) (hL : L.length = n) (hg : GoodL L) (h : Src w a (cellsP L)) :
    Calls Tryz.prog 92 #[.slice a n c, .string key] w fun e w' => e = .returned (.tuple #[.string ((getM L key).getD e0), .bool (getM L key).isSome]) ∧ w' = w := by
  subst hL
  obtain ⟨p, hp⟩ := place_exists (fK L) key L.length
  obtain ⟨h1, h2⟩ := hit_get hg.2.2 hp
  refine (l01Get a L.length c (fK L) (fV L) key p w (by have := hg.1; omega) hp (sp_src h rfl)).mono ?_
  rintro e w' ⟨rfl, rfl⟩
  exact ⟨ret_got h2 h1, rfl⟩
theorem getM_size {L : List PM} (hg : GoodL L) (k : ByteArray) : ((getM L k).getD e0).size ≤ 90 := by
  cases h : getM L k with
  | none => show (0 : Nat) ≤ 90; omega
  | some v => exact (hg.2.1 _ ((getM_mem hg.2.2).1 h)).2.2
end Go.Proofs.YthgbclipknfmjaaGreatDoor
namespace Go.Proofs.YthgbclipknfmjaaGreatDoor
open Go.ChangeShapes Go.WideShapes Go.ChangeAt Go.RowKit Go.Deep
set_option linter.unusedVariables false

abbrev MMl := Int × Int × ByteArray
abbrev ml0 : MMl := (0, 0, ⟨#[]⟩)
def cellsMl (L : List MMl) : List Value := L.flatMap fun p => [.int .i64 p.1, .int .i64 p.2.1, .string p.2.2]
theorem cellsMl_length (L : List MMl) : (cellsMl L).length = L.length * 3 := by
  induction L with
  | nil => rfl
  | cons p L ih => simp [cellsMl] at ih ⊢; omega
theorem cellsMl_append (L M : List MMl) : cellsMl (L ++ M) = cellsMl L ++ cellsMl M := by simp [cellsMl]
theorem cellsMl_get : ∀ (L : List MMl) (i : Nat), i < L.length → (cellsMl L)[i * 3]? = some (.int .i64 (L.getD i ml0).1) ∧ (cellsMl L)[i * 3 + 1]? = some (.int .i64 (L.getD i ml0).2.1) ∧ (cellsMl L)[i * 3 + 2]? = some (.string (L.getD i ml0).2.2)
  | [], i, h => absurd h (by simp)
  | p :: L, 0, _ => ⟨rfl, rfl, rfl⟩
  | p :: L, i + 1, h => by
    have ih := cellsMl_get L i (by simpa using h)
    have e1 : (i + 1) * 3 = i * 3 + 1 + 1 + 1 := by omega
    have e2 : cellsMl (p :: L) = .int .i64 p.1 :: .int .i64 p.2.1 :: .string p.2.2 :: cellsMl L := rfl
    rw [e2, e1]
    exact ih
theorem cellsMl_one (L : List MMl) : ∀ u ∈ cellsMl L, u.oneCell' = true := by
  intro u hu
  simp only [cellsMl, List.mem_flatMap] at hu
  obtain ⟨p, _, hp⟩ := hu
  simp at hp
  rcases hp with rfl | rfl | rfl <;> rfl
theorem srcMl {w : World} {a : Option Addr} {L : List MMl} (h : Src w a (cellsMl L)) {i : Nat} (hi : i < L.length) : ∃ b o x0 x1 x2, a = some ⟨b, o, none⟩ ∧ w.cell? ⟨b, o + i * 3, none⟩ = some (.int .i64 x0) ∧ w.cell? ⟨b, o + i * 3 + 1, none⟩ = some (.int .i64 x1) ∧ w.cell? ⟨b, o + i * 3 + 2, none⟩ = some (.string x2) ∧ Hid (L.getD i ml0 = (x0, x1, x2)) := by
  rcases h with h | ⟨b, o, rfl, hc⟩
  · have h2 := cellsMl_length L
    rw [h] at h2
    simp only [List.length_nil] at h2
    omega
  · have h0 := hc (i * 3) (by rw [cellsMl_length]; omega)
    have h1 := hc (i * 3 + 1) (by rw [cellsMl_length]; omega)
    have h2 := hc (i * 3 + 2) (by rw [cellsMl_length]; omega)
    rw [getD_some (cellsMl_get L i hi).1] at h0
    rw [getD_some (cellsMl_get L i hi).2.1] at h1
    rw [getD_some (cellsMl_get L i hi).2.2] at h2
    exact ⟨b, o, _, _, _, rfl, h0, h1, h2, rfl⟩
theorem infoMl : (Tryz.prog.info? 37).map (fun i => (i.zero, i.size, i.bytes)) = some (some (.agg #[.int .i64 0, .int .i64 0, .string ⟨#[]⟩]), 3, 32) := by kernel_rfl
end Go.Proofs.YthgbclipknfmjaaGreatDoor
namespace Go.Proofs.YthgbclipknfmjaaGreatDoor
open Go.ChangeShapes Go.WideShapes Go.ChangeAt Go.RowKit Go.Deep Go.Lib
open Go.ChangeMaps (setBlock)
set_option linter.unusedVariables false
set_option maxRecDepth 100000

/-- A folder as it lies in a map: its key, its stamp, what it tells, its mails with their slice. -/
structure FX where
  (k : ByteArray) (born : Nat) (name : ByteArray) (val next : Int) (v : Value) (mails : List MMl)
abbrev valX (x : FX) : Value := .agg #[.string x.name, .int .i64 x.val, .int .i64 x.next, x.v]
def entX (x : FX) : MapEntry := ⟨.string x.k, valX x, x.born⟩
def lookX (k : ByteArray) : List FX → Option FX
  | [] => none
  | x :: X => if x.k = k then some x else lookX k X
theorem lookX_none {k : ByteArray} : ∀ {X : List FX}, lookX k X = none → ∀ x ∈ X, x.k ≠ k
  | [], _, x, hx => by cases hx
  | y :: X, h, x, hx => by
    unfold lookX at h
    by_cases e : y.k = k
    · rw [if_pos e] at h; cases h
    · rw [if_neg e] at h
      rcases List.mem_cons.1 hx with rfl | hx
      · exact e
      · exact lookX_none h x hx
theorem lookX_some {k : ByteArray} {x : FX} : ∀ {X : List FX}, lookX k X = some x → ∃ A B, X = A ++ x :: B ∧ (∀ y ∈ A, y.k ≠ k) ∧ x.k = k
  | [], h => by cases h
  | y :: X, h => by
    unfold lookX at h
    by_cases e : y.k = k
    · rw [if_pos e] at h
      cases h
      exact ⟨[], X, rfl, (fun y hy => by cases hy), e⟩
    · rw [if_neg e] at h
      obtain ⟨A, B, h1, h2, h3⟩ := lookX_some h
      refine ⟨y :: A, B, by rw [h1]; rfl, fun z hz => ?_, h3⟩
      rcases List.mem_cons.1 hz with rfl | hz
      · exact e
      · exact h2 z hz
theorem same_str (a b : ByteArray) : Instr.sameNow .string (.string a) (.string b) = some (decide (a = b)) := by
  simp only [Instr.sameNow]
  congr 1
  rw [Bool.eq_iff_iff, decide_eq_true_eq]
  exact MapKept.bytes_beq a b
theorem find_no (k : ByteArray) : ∀ (X : List FX) (i : Nat), (∀ x ∈ X, x.k ≠ k) → Instr.findNow .string (.string k) (X.map entX) i = some none
  | [], _, _ => rfl
  | x :: X, i, h => by
    have h1 : Instr.sameNow .string (.string k) (entX x).key = some false := by
      show Instr.sameNow .string (.string k) (.string x.k) = _
      rw [same_str, decide_eq_false (fun e => h x List.mem_cons_self e.symm)]
    rw [List.map_cons, Instr.findNow, h1]
    exact find_no k X (i + 1) (fun y hy => h y (List.mem_cons_of_mem _ hy))
theorem find_yes (k : ByteArray) (x : FX) (B : List FX) (hx : x.k = k) : ∀ (A : List FX) (i : Nat), (∀ y ∈ A, y.k ≠ k) → Instr.findNow .string (.string k) ((A ++ x :: B).map entX) i = some (some (i + A.length, valX x))
  | [], i, _ => by
    have h1 : Instr.sameNow .string (.string k) (entX x).key = some true := by
      show Instr.sameNow .string (.string k) (.string x.k) = _
      rw [same_str, decide_eq_true hx.symm]
    rw [List.nil_append, List.map_cons, Instr.findNow, h1]
    rfl
  | y :: A, i, h => by
    have h1 : Instr.sameNow .string (.string k) (entX y).key = some false := by
      show Instr.sameNow .string (.string k) (.string y.k) = _
      rw [same_str, decide_eq_false (fun e => h y List.mem_cons_self e.symm)]
    rw [List.cons_append, List.map_cons, Instr.findNow, h1]
    have := find_yes k x B hx A (i + 1) (fun z hz => h z (List.mem_cons_of_mem _ hz))
    rw [List.length_cons, show i + (A.length + 1) = i + 1 + A.length by omega]
    exact this
abbrev zeroF : Value := .agg #[.string ⟨#[]⟩, .int .i64 0, .int .i64 0, .slice none 0 0]
def atX (o : Option FX) : Value := match o with
  | some x => valX x
  | none => zeroF
theorem isKeyS (k : ByteArray) : MapKept.IsKey .string (.string k) := trivial
theorem run_look {w : World} {M : Nat} {X : List FX} {clock : Nat} (hb : w.heap[M]? = some (.map (X.map entX).toArray clock)) (k : ByteArray) (c : Bool) :
    (Instr.lookup 86 (.map (some M)) (.string k) c).run Tryz.prog w = .ok (if c then .tuple #[atX (lookX k X), .bool (lookX k X).isSome] else atX (lookX k X)) w := by
  cases h : lookX k X with
  | none =>
    have h1 := MapKept.run_findKey (P := Tryz.prog) (w := w) Tryz.underlying9 (find_no k X 0 (lookX_none h))
    simp [Instr.lookup, run_underlying Tryz.underlying86, MapKept.run_getObj_map hb, MapKept.run_checkKey (P := Tryz.prog) Tryz.underlying9 (isKeyS k), h1, Result.andThen]
    cases c <;> rfl
  | some x =>
    obtain ⟨A, B, h2, h3, h4⟩ := lookX_some h
    subst h2
    have h1 := MapKept.run_findKey (P := Tryz.prog) (w := w) Tryz.underlying9 (find_yes k x B h4 A 0 h3)
    generalize (A ++ x :: B).map entX = E at hb h1
    simp [Instr.lookup, run_underlying Tryz.underlying86, MapKept.run_getObj_map hb, MapKept.run_checkKey (P := Tryz.prog) Tryz.underlying9 (isKeyS k), h1, Result.andThen]
    cases c <;> rfl
theorem run_put_new {w : World} {M : Nat} {X : List FX} {clock : Nat} (hb : w.heap[M]? = some (.map (X.map entX).toArray clock)) (y : FX) (hn : lookX y.k X = none) (hy : y.born = clock) :
    (Instr.mapUpdate 86 (.map (some M)) (.string y.k) (valX y)).run Tryz.prog w = .ok () (setBlock w M (.map ((X ++ [y]).map entX).toArray (clock + 1))) := by
  have h1 := MapKept.run_findKey (P := Tryz.prog) (w := w) Tryz.underlying9 (find_no y.k X 0 (lookX_none hn))
  have h2 : ((X ++ [y]).map entX).toArray = (X.map entX).toArray.push ⟨.string y.k, valX y, clock⟩ := by
    rw [← hy]
    simp [entX]
  rw [h2]
  simp [Instr.mapUpdate, run_underlying Tryz.underlying86, MapKept.run_getObj_map hb, MapKept.run_checkKey (P := Tryz.prog) Tryz.underlying9 (isKeyS y.k), h1, MapKept.run_setObj_map _ hb, Result.andThen, setBlock]
theorem run_put_old {w : World} {M : Nat} {A B : List FX} {x : FX} {clock : Nat} (hb : w.heap[M]? = some (.map ((A ++ x :: B).map entX).toArray clock)) (y : FX) (hA : ∀ z ∈ A, z.k ≠ y.k) (hx : x.k = y.k) (hy : y.born = x.born) :
    (Instr.mapUpdate 86 (.map (some M)) (.string y.k) (valX y)).run Tryz.prog w = .ok () (setBlock w M (.map ((A ++ y :: B).map entX).toArray clock)) := by
  have h1 := MapKept.run_findKey (P := Tryz.prog) (w := w) Tryz.underlying9 (find_yes y.k x B hx A 0 hA)
  have h3 : ((A ++ x :: B).map entX).toArray[0 + A.length]? = some (entX x) := by simp
  have h5 : (Instr.keyThatStays (((((A ++ x :: B).map entX).toArray[0 + A.length]?).map (·.key)).getD (.string y.k)) (.string y.k)).run Tryz.prog w = .ok (.string y.k) w := by
    rw [h3]
    show (Instr.keyThatStays (.string x.k) (.string y.k)).run Tryz.prog w = _
    rw [hx]
    have h9 : Instr.sameBits 10000 (.string y.k) (.string y.k) = true := (MapKept.bytes_beq _ _).2 rfl
    simp [Instr.keyThatStays, h9]
  have h4 : ((A ++ y :: B).map entX).toArray = ((A ++ x :: B).map entX).toArray.modify (0 + A.length) (fun e => { e with key := .string y.k, val := valX y }) := by
    apply Array.ext'
    rw [Array.toList_modify]
    simp only [Nat.zero_add, List.map_append, List.map_cons]
    rw [List.modify_eq_take_cons_drop (by simp)]
    have h8 : (A.map entX ++ entX x :: B.map entX).drop (A.length + 1) = B.map entX := by
      rw [List.drop_append, List.length_map, show A.length + 1 - A.length = 1 by omega, List.drop_of_length_le (by simp)]
      rfl
    rw [h8]
    simp [entX, hy]
  rw [h4]
  simp only [Instr.mapUpdate, Sem.run_bind, run_underlying Tryz.underlying86, Result.andThen_ok, MapKept.run_getObj_map hb, MapKept.run_checkKey (P := Tryz.prog) Tryz.underlying9 (isKeyS y.k), h1, h5, MapKept.run_setObj_map _ hb, setBlock]
theorem run_clear {w : World} {M : Nat} {es : Array MapEntry} {clock : Nat} (hb : w.heap[M]? = some (.map es clock)) (ty : TypeId) :
    (Builtin.clear_ #[86] ty #[.map (some M)]).run Tryz.prog w = .ok (.tuple #[]) (setBlock w M (.map #[] clock)) := by
  simp [Builtin.clear_, run_underlying Tryz.underlying86, MapKept.run_getObj_map hb, MapKept.run_setObj_map _ hb, Result.andThen, setBlock]
end Go.Proofs.YthgbclipknfmjaaGreatDoor
namespace Go.Proofs.YthgbclipknfmjaaGreatDoor
open Go.ChangeShapes Go.WideShapes Go.ChangeAt Go.RowKit Go.Deep Go.Lib
set_option linter.unusedVariables false
set_option maxRecDepth 100000

/-- The variables of the library that are read: two errors, a number, a table of powers. -/
def Gl (w : World) : Prop :=
  (∃ ev, w.cell? ⟨2, 0, none⟩ = some ev ∧ (ev = .nilIface ∨ ∃ te pe, ev = .iface te pe)) ∧
  (∃ ev, w.cell? ⟨3, 0, none⟩ = some ev ∧ (ev = .nilIface ∨ ∃ te pe, ev = .iface te pe)) ∧
  (∃ m, w.cell? ⟨0, 0, none⟩ = some (.int .i64 m)) ∧
  TabIs Tryz.prog w "internal/strconv.uint64pow10" .u64 pow10Tab
theorem pow10_at : Tryz.prog.globalNamed "internal/strconv.uint64pow10" = some 1 := by kernel_rfl
theorem Gl.keep {w w' : World} (h : Gl w) (hb : ∀ k, k < 8 → w'.heap[k]? = w.heap[k]?) : Gl w' := by
  obtain ⟨⟨e1, h1, k1⟩, ⟨e2, h2, k2⟩, ⟨m, h3⟩, h4⟩ := h
  refine ⟨⟨e1, ?_, k1⟩, ⟨e2, ?_, k2⟩, ⟨m, ?_⟩, ?_⟩
  · rw [World.cell?_of_block (hb 2 (by omega))]; exact h1
  · rw [World.cell?_of_block (hb 3 (by omega))]; exact h2
  · rw [World.cell?_of_block (hb 0 (by omega))]; exact h3
  · unfold TabIs World.var? at h4 ⊢
    rw [pow10_at] at h4 ⊢
    simp only [Option.bind_some] at h4 ⊢
    rw [hb 1 (by omega)]
    exact h4
theorem Gl.below {w w' : World} {B : Nat} (h : Gl w) (hB : 8 ≤ B) (hb : Below B w w') : Gl w' := h.keep fun k hk => hb.block k (by omega)
theorem below_grow' (w : World) (k : Nat) (os : Array Obj) : Below w.heap.size w (Sort.grow (w.drewN k) os) :=
  ⟨by simp [Sort.grow, World.drewN], by simp [Sort.grow, World.drewN], by simp [Sort.grow, World.drewN], by simp [Sort.grow, World.drewN], fun j hj => by
    show (w.heap ++ os)[j]? = _
    rw [Array.getElem?_append_left hj]⟩
theorem atoi_range {t : List UInt8} {v : Int} (h : atoiAll t = .ok v) : -9223372036854775808 ≤ v ∧ v ≤ 9223372036854775807 := by
  unfold atoiAll at h
  split at h
  · cases h
  · dsimp only at h
    split at h
    · cases h
    · cases h
    · split at h
      · cases h
      · split at h
        · cases h
        · cases h
          split <;> omega
def NumPost (R : Option Int) (n : Int) : Prop := ∀ m, R = some m → n = m
theorem NumPost.none (n : Int) : NumPost none n := fun m h => by cases h
theorem below_bytes (w : World) (t : ByteArray) : Below w.heap.size w (Lib.bytesWorld w 5 t) := ⟨rfl, rfl, rfl, by rw [Lib.bytesWorld_size]; omega, fun j hj => Lib.bytesWorld_at_old w 5 _ j hj⟩
theorem trim_neg (t : ByteArray) (w : World) : ∃ q : ByteArray, q.data.toList = trimPrefix t.data.toList [45] ∧ Calls Tryz.prog 154 #[.string t, .string ⟨#[45]⟩] w fun e w' => e = .returned (.string q) ∧ w' = w :=
  ⟨_, rfl, Tryz.strings_TrimPrefix t ⟨#[45]⟩ w⟩
theorem trim_le (t : ByteArray) {q : ByteArray} (h : q.data.toList = trimPrefix t.data.toList [45]) : q.size ≤ t.size := by
  rw [← bytes_len q, ← bytes_len t, h]
  unfold trimPrefix
  split
  · rw [List.length_drop]; omega
  · exact Nat.le_refl _
theorem not_num_of {t : List UInt8} (h : ∀ n, ¬ NumIs t n) : numB t = none := by
  cases hn : numB t with
  | none => rfl
  | some n => exact absurd (is_of_num hn) (h n)
set_option maxHeartbeats 2000000 in
theorem readNumberI (t : ByteArray) (w : World) (ht : t.size ≤ 1048576) (hg : Gl w) (h8 : 8 ≤ w.heap.size) :
    Calls Tryz.prog 142 #[.string t] w fun e w' => ∃ n, e = .returned (.tuple #[.int .i64 n, .bool (numB t.data.toList).isSome]) ∧ NumPost (numB t.data.toList) n ∧ Below w.heap.size w w' := by
  obtain ⟨R, hR⟩ : ∃ R, numB t.data.toList = R := ⟨_, rfl⟩
  have HR : Hid (numB t.data.toList = R) := hR
  rw [hR]
  clear hR
  have HG : Hid (Gl w) := hg
  cases hat : atoiAll t.data.toList with
  | «syntax» =>
    obtain ⟨⟨ev, he1, he2⟩, _⟩ := hg
    have CA := Tryz.strconv_Atoi_syntax t (by omega) hat ev w he1 he2
    have HN : Hid (R = none) := by
      show _ = _
      rw [← HR.out]
      exact not_num_of fun n h9 => by rw [atoi_is h9] at hat; cases hat
    clear HR hat he1 he2
    go_enter Tryz.func142, Tryz.ntmps142
    go_wp2_with fail
    refine CA.mono ?_
    rintro e w1 ⟨N, rfl, _, _, hb1⟩
    have B1 : Hid (Below w.heap.size w w1) := hb1
    clear hb1 CA
    obtain ⟨q, hq, CT⟩ := trim_neg t w1
    have hqs := trim_le t hq
    clear hq
    go_wp2_with fail
    refine CT.mono ?_
    rintro e w2 ⟨rfl, hw2⟩
    obtain rfl := hw2
    go_wp2_with fail
    go_ret2
    exact ⟨_, by rw [HN.out]; rfl, by rw [HN.out]; exact NumPost.none _, B1.out⟩
  | range =>
    obtain ⟨_, ⟨ev, he1, he2⟩, _⟩ := hg
    have CA := Tryz.strconv_Atoi_range t (by omega) hat ev w he1 he2
    obtain ⟨z, hz⟩ : ∃ z, atoiSat t.data.toList = z := ⟨_, rfl⟩
    rw [hz] at CA
    have HN : Hid (R = none) := by
      show _ = _
      rw [← HR.out]
      exact not_num_of fun n h9 => by rw [atoi_is h9] at hat; cases hat
    clear HR hat he1 he2 hz
    go_enter Tryz.func142, Tryz.ntmps142
    go_wp2_with fail
    refine CA.mono ?_
    rintro e w1 ⟨N, rfl, _, _, hb1⟩
    have B1 : Hid (Below w.heap.size w w1) := hb1
    clear hb1 CA
    obtain ⟨q, hq, CT⟩ := trim_neg t w1
    have hqs := trim_le t hq
    clear hq
    go_wp2_with fail
    refine CT.mono ?_
    rintro e w2 ⟨rfl, hw2⟩
    obtain rfl := hw2
    go_wp2_with fail
    go_ret2
    exact ⟨_, by rw [HN.out]; rfl, by rw [HN.out]; exact NumPost.none _, B1.out⟩
  | ok v =>
    have CA := Tryz.strconv_Atoi_ok t (by omega) v hat w
    have hvr := atoi_range hat
    go_enter Tryz.func142, Tryz.ntmps142
    go_wp2_with fail
    refine CA.mono ?_
    rintro e w1 ⟨rfl, hw1⟩
    have B1 : Hid (Below w.heap.size w w1) := by
      rcases hw1 with rfl | ⟨t9, rfl⟩
      · exact Below.refl _ _
      · exact below_bytes w t9
    clear hw1 CA
    obtain ⟨q, hq, CT⟩ := trim_neg t w1
    have HQ : Hid (q.data.toList = trimPrefix t.data.toList [45]) := hq
    clear hq
    go_wp2_with fail
    refine CT.mono ?_
    rintro e w2 ⟨rfl, hw2⟩
    obtain rfl := hw2
    clear CT
    by_cases h18 : q.size ≤ 18
    · have h18i : (q.size : Int) ≤ 18 := by omega
      have G1 := HG.out.below h8 (B1.out.mono (Nat.le_refl _))
      have CI := Tryz.strconv_Itoa v hvr.1 hvr.2 w2 G1.2.2.2
      obtain ⟨I, hI⟩ : ∃ I : ByteArray, (⟨(itoa v).toArray⟩ : ByteArray) = I := ⟨_, rfl⟩
      rw [hI] at CI
      have HI : Hid ((⟨(itoa v).toArray⟩ : ByteArray) = I) := hI
      clear hI G1
      go_wp2_with fail
      refine CI.mono ?_
      rintro e w3 ⟨rfl, k, os, hw3⟩
      have B3 : Hid (Below w.heap.size w w3) := by
        rw [hw3]
        exact B1.out.trans ((below_grow' w2 k os).mono B1.out.size)
      clear hw3 CI
      by_cases heq : I = t
      · have HN : Hid (R = some v) := by
          show _ = _
          rw [← HR.out]
          have h1 : itoa v = t.data.toList := by rw [← heq, ← HI.out]
          refine num_of_is ⟨h1, (trim_is h1).1 ?_⟩
          rw [← HQ.out, bytes_len]
          exact h18
        have e1 : (I.toList == t.toList) = true := by rw [heq]; simp
        clear HR hat HI
        subst heq
        go_wp2_with fail
        go_ret2
        exact ⟨v, by rw [HN.out]; rfl, by rw [HN.out]; exact fun m h9 => by cases h9; rfl, B3.out⟩
      · have HN : Hid (R = none) := by
          show _ = _
          rw [← HR.out]
          refine not_num_of fun n h9 => ?_
          have h1 := atoi_is h9
          rw [hat] at h1
          cases h1
          apply heq
          rw [← HI.out]
          exact bs_inj h9.1
        have e1 : (I.toList == t.toList) = false := beq_eq_false_iff_ne.2 (fun h9 => heq (toList_inj h9))
        have e2 : ¬ I.toList = t.toList := fun h9 => heq (toList_inj h9)
        clear HR hat HI
        go_wp2_with fail
        go_ret2
        exact ⟨v, by rw [HN.out]; rfl, by rw [HN.out]; exact NumPost.none _, B3.out⟩
    · have h18i : ¬ (q.size : Int) ≤ 18 := by omega
      have HN : Hid (R = none) := by
        show _ = _
        rw [← HR.out]
        refine not_num_of fun n h9 => ?_
        have h1 := (trim_is h9.1).2 h9.2
        rw [← HQ.out, bytes_len] at h1
        exact h18 h1
      clear HR hat
      go_wp2_with fail
      go_ret2
      exact ⟨v, by rw [HN.out]; rfl, by rw [HN.out]; exact NumPost.none _, B1.out⟩
abbrev vK : ByteArray := ⟨#[118]⟩
abbrev inboxT : ByteArray := ⟨#[105, 110, 98, 111, 120]⟩
abbrev userK (u : ByteArray) : ByteArray := ⟨#[117, 47]⟩ ++ u
abbrev folderK (u f : ByteArray) : ByteArray := ((⟨#[102, 47]⟩ ++ u) ++ ⟨#[47]⟩) ++ f
def nextM (L : List PM) : Int := ((getM L vK).bind fun v => numB v.data.toList).getD 0
def metaN : Option Int → Option Int → Option (Int × Int)
  | some x, some y => if 1 ≤ x ∧ x ≤ 9999 ∧ 1 ≤ y ∧ y ≤ 999 then some (x, y) else none
  | _, _ => none
def metaL : List (List UInt8) → Option (Int × Int)
  | [a, b] => metaN (numB a) (numB b)
  | _ => none
def metaV (v : ByteArray) : Option (Int × Int) := metaL (splitL 32 v.data.toList)
def metaM (L : List PM) (u f : ByteArray) : Option (Int × Int) := (getM L (folderK u f)).bind metaV

theorem l07UserS (u : ByteArray) (w : World) (hu : u.size ≤ 1048576) : Calls Tryz.prog 106 #[.string u] w fun e w' => e = .returned (.string (userK u)) ∧ w' = w := by
  go_enter Tryz.func106, Tryz.ntmps106
  go_wp2_with fail
  go_ret
  exact ⟨rfl, rfl⟩
theorem l07FolderS (u f : ByteArray) (w : World) (hu : u.size ≤ 1048576) (hf : f.size ≤ 1048576) : Calls Tryz.prog 120 #[.string u, .string f] w fun e w' => e = .returned (.string (folderK u f)) ∧ w' = w := by
  go_enter Tryz.func120, Tryz.ntmps120
  go_wp2_with fail
  go_ret
  exact ⟨rfl, rfl⟩
set_option maxHeartbeats 1000000 in
theorem l07NextS (a : Option Addr) (n c : Nat) (L : List PM) (w : World) (hL : L.length = n) (hg : GoodL L) (h : Src w a (cellsP L)) :
    Calls Tryz.prog 63 #[.slice a n c] w fun e w' => e = .returned (.int .i64 (nextM L)) ∧ w' = w := by
  have CG := l01GetM a n c L vK w hL hg h
  have SZ := getM_size hg vK
  obtain ⟨R, hR⟩ : ∃ R, nextM L = R := ⟨_, rfl⟩
  have HR : Hid (nextM L = R) := hR
  rw [hR]
  clear hR h hg hL
  cases hm : getM L vK with
  | none =>
    rw [hm] at CG
    have H0 : Hid (R = 0) := by show _ = _; rw [← HR.out]; unfold nextM; rw [hm]; rfl
    have CN := l00NumberS e0 w (by unfold maxLen; decide)
    clear HR hm SZ
    go_enter Tryz.func63, Tryz.ntmps63
    go_wp2_with fail
    refine CG.mono ?_
    rintro e w1 ⟨rfl, rfl⟩
    go_wp2_with fail
    refine CN.mono ?_
    rintro e w2 ⟨rfl, rfl⟩
    go_wp2_with fail
    go_ret
    exact ⟨by rw [H0.out]; rfl, rfl⟩
  | some v =>
    rw [hm] at CG SZ
    have SZ2 : v.size ≤ 90 := SZ
    have CN := l00NumberS v w (by unfold maxLen; omega)
    have H0 : Hid (R = (numB v.data.toList).getD 0) := by show _ = _; rw [← HR.out]; unfold nextM; rw [hm]; rfl
    clear HR hm SZ
    cases hn : numB v.data.toList with
    | none =>
      rw [hn] at CN
      have H1 : Hid (R = 0) := by show _ = _; rw [H0.out, hn]; rfl
      clear hn H0
      go_enter Tryz.func63, Tryz.ntmps63
      go_wp2_with fail
      refine CG.mono ?_
      rintro e w1 ⟨rfl, rfl⟩
      go_wp2_with fail
      refine CN.mono ?_
      rintro e w2 ⟨rfl, rfl⟩
      go_wp2_with fail
      go_ret
      exact ⟨by rw [H1.out]; rfl, rfl⟩
    | some z =>
      rw [hn] at CN
      have H1 : Hid (R = z) := by show _ = _; rw [H0.out, hn]; rfl
      clear hn H0
      go_enter Tryz.func63, Tryz.ntmps63
      go_wp2_with fail
      refine CG.mono ?_
      rintro e w1 ⟨rfl, rfl⟩
      go_wp2_with fail
      refine CN.mono ?_
      rintro e w2 ⟨rfl, rfl⟩
      go_wp2_with fail
      go_ret
      exact ⟨by rw [H1.out]; rfl, rfl⟩
end Go.Proofs.YthgbclipknfmjaaGreatDoor
namespace Go.Proofs.YthgbclipknfmjaaGreatDoor
open Go.ChangeShapes Go.WideShapes Go.ChangeAt Go.RowKit Go.Deep Go.Lib
open Go.ChangeMaps (setBlock)
set_option linter.unusedVariables false
set_option linter.unusedSimpArgs false
set_option maxRecDepth 100000

/-- What lies on a desk. -/
structure DK where
  (a : Option Addr) (n c : Nat) (va : Value) (aside : List PM) (next : Int) (user word : ByteArray) (X : List FX)
abbrev cellsD (M : Nat) (D : DK) : List Value := [.slice D.a D.n D.c, D.va, .int .i64 D.next, .string D.user, .string D.word, .map (some M)]
def Rows (w : World) (M : Nat) (X : List FX) : Prop :=
  (∀ x ∈ X, w.ownsRow (M + 2) 37 3 x.v x.mails.length (cellsMl x.mails)) ∧ X.Pairwise (fun x y => ∀ g, x.v.ownBlock = some g → y.v.ownBlock ≠ some g)
def MapIs (w : World) (M clock : Nat) (X : List FX) : Prop :=
  w.heap[M]? = some (.map (X.map entX).toArray clock) ∧ (∀ x ∈ X, x.born < clock) ∧ (X.map (·.born)).Nodup
def DeskAt (w : World) (M : Nat) (D : DK) : Prop :=
  Box w (M + 1) (cellsD M D) ∧ (∃ clock, MapIs w M clock D.X) ∧ w.ownsRow (M + 2) 68 2 D.va D.aside.length (cellsP D.aside) ∧ Rows w M D.X
/-- A desk but for its folders' mails. -/
def DeskH (w : World) (M : Nat) (D : DK) : Prop :=
  Box w (M + 1) (cellsD M D) ∧ (∃ clock, MapIs w M clock D.X) ∧ w.ownsRow (M + 2) 68 2 D.va D.aside.length (cellsP D.aside)
theorem DeskAt.head {w : World} {M : Nat} {D : DK} (h : DeskAt w M D) : DeskH w M D := ⟨h.1, h.2.1, h.2.2.1⟩
theorem MapIs.later {w w' : World} {M clock : Nat} {X : List FX} (h : MapIs w M clock X) (hb : Below w.heap.size w w') : MapIs w' M clock X := by
  have hlt : M < w.heap.size := (Array.getElem?_eq_some_iff.1 h.1).1
  exact ⟨(hb.block M hlt).trans h.1, h.2⟩
theorem Rows.later {w w' : World} {M : Nat} {X : List FX} (h : Rows w M X) (hb : Below w.heap.size w w') : Rows w' M X := ⟨fun x hx => own_below (h.1 x hx) hb, h.2⟩
theorem DeskAt.later {w w' : World} {M : Nat} {D : DK} (h : DeskAt w M D) (hb : Below w.heap.size w w') : DeskAt w' M D := by
  obtain ⟨h1, ⟨c, h2⟩, h3, h4⟩ := h
  exact ⟨h1.below hb, ⟨c, h2.later hb⟩, own_below h3 hb, h4.later hb⟩
theorem DeskH.later {w w' : World} {M : Nat} {D : DK} (h : DeskH w M D) (hb : Below w.heap.size w w') : DeskH w' M D := by
  obtain ⟨h1, ⟨c, h2⟩, h3⟩ := h
  exact ⟨h1.below hb, ⟨c, h2.later hb⟩, own_below h3 hb⟩
theorem look_mem {k : ByteArray} {X : List FX} {x : FX} (h : lookX k X = some x) : x ∈ X := by
  obtain ⟨A, B, h1, _, _⟩ := lookX_some h
  rw [h1]; simp
theorem look_lit {w : World} {M : Nat} {X : List FX} (h : Rows w M X) (k : ByteArray) : ∃ s i j a n c, atX (lookX k X) = .agg #[.string s, .int .i64 i, .int .i64 j, .slice a n c] := by
  cases hl : lookX k X with
  | none => exact ⟨_, _, _, _, _, _, rfl⟩
  | some x =>
    obtain ⟨a, c, hv, _, _⟩ := own_src (h.1 x (look_mem hl))
    exact ⟨x.name, x.val, x.next, a, x.mails.length, c, by show valX x = _; unfold valX; rw [hv]⟩
theorem folderKeyI (u f : ByteArray) (w : World) (hu : u.size ≤ 1048576) (hf : f.size ≤ 1048576) : Calls Tryz.prog 79 #[.string u, .string f] w fun e w' => e = .returned (.string (folderK u f)) ∧ w' = w := by
  go_enter Tryz.func79, Tryz.ntmps79
  go_wp2_with fail
  go_ret
  exact ⟨rfl, rfl⟩
theorem userKeyI (u : ByteArray) (w : World) (hu : u.size ≤ 1048576) : Calls Tryz.prog 61 #[.string u] w fun e w' => e = .returned (.string (userK u)) ∧ w' = w := by
  go_enter Tryz.func61, Tryz.ntmps61
  go_wp2_with fail
  go_ret
  exact ⟨rfl, rfl⟩

set_option maxHeartbeats 2000000 in
theorem hasI (f : ByteArray) (w : World) (M : Nat) (D : DK) (hf : f.size ≤ 1048576) (hu : D.user.size ≤ 1048576) (hD : DeskAt w M D) (bb : Bool) (hbb : (lookX (folderK D.user f) D.X).isSome = bb) :
    Calls Tryz.prog 80 #[.pointer (some ⟨M + 1, 0, none⟩), .string f] w fun e w' => e = .returned (.bool bb) ∧ Below w.heap.size w w' := by
  have HD : Hid (DeskAt w M D) := hD
  obtain ⟨hbox, ⟨clock, hmap⟩, hasd, hrows⟩ := hD
  obtain ⟨p3, _⟩ := hbox 3 _ rfl
  obtain ⟨p5, _⟩ := hbox 5 _ rfl
  obtain ⟨s9, i9, j9, a9, n9, c9, hlit⟩ := look_lit hrows (folderK D.user f)
  have hm := hmap.1
  have HQ : Hid (∀ o : Obj, (w.alloc o).heap[M]? = some (.map (D.X.map entX).toArray clock) ∧ (w.alloc o).cell? ⟨M + 1, 3, none⟩ = some (.string D.user) ∧ (w.alloc o).cell? ⟨M + 1, 5, none⟩ = some (.map (some M))) := fun o => ⟨(Below.heap_alloc w _ M (Array.getElem?_eq_some_iff.1 hm).1).trans hm, cell_later ((Below.refl _ _).alloc (Nat.le_refl _) _) p3, cell_later ((Below.refl _ _).alloc (Nat.le_refl _) _) p5⟩
  have HA : Hid (∀ o : Obj, Below w.heap.size w (w.alloc o)) := fun o => (Below.refl _ _).alloc (Nat.le_refl _) _
  have HL : Hid (∀ W : World, W.heap[M]? = some (.map (D.X.map entX).toArray clock) → (Instr.lookup 86 (.map (some M)) (.string (folderK D.user f)) true).run Tryz.prog W = .ok (.tuple #[.agg #[.string s9, .int .i64 i9, .int .i64 j9, .slice a9 n9 c9], .bool bb]) W) := fun W h9 => by
    have := run_look h9 (folderK D.user f) true
    rw [hlit, hbb] at this
    exact this
  obtain ⟨K9, hK9⟩ : ∃ K, folderK D.user f = K := ⟨_, rfl⟩
  have CK := fun W => folderKeyI D.user f W hu hf
  rw [hK9] at HL
  simp only [hK9] at CK
  clear hbox hmap hasd hrows hlit hbb hK9
  go_enter Tryz.func80, Tryz.ntmps80
  go_wp2_with fail
  refine wp_region_noPanic ?_
  refine wp_region_held_drew (S := fun w' => w'.heap[M]? = some (.map (D.X.map entX).toArray clock) ∧ w'.cell? ⟨M + 1, 3, none⟩ = some (.string D.user) ∧ w'.cell? ⟨M + 1, 5, none⟩ = some (.map (some M))) (by kernel_rfl) ⟨hm, p3, p5⟩ (fun hHeld => ?_)
  refine tkA (i := 0) (v := .pointer (some ⟨M + 1, 0, none⟩)) ?_ hHeld ?_
  · intro w9 hSw
    obtain ⟨z0, z1, z2⟩ := hSw
    go_simp
  simp only [Act.put, List.setIfInBounds_toArray, List.set_cons_zero, List.set_cons_succ]
  refine tkA (i := 1) (v := .pointer (some ⟨M + 1, 0, none⟩)) ?_ hHeld ?_
  · intro w9 hSw
    obtain ⟨z0, z1, z2⟩ := hSw
    go_simp
  simp only [Act.put, List.setIfInBounds_toArray, List.set_cons_zero, List.set_cons_succ]
  refine tkA (i := 2) (v := .pointer (some ⟨M + 1, 5, none⟩)) ?_ hHeld ?_
  · intro w9 hSw
    obtain ⟨z0, z1, z2⟩ := hSw
    go_simp
  simp only [Act.put, List.setIfInBounds_toArray, List.set_cons_zero, List.set_cons_succ]
  refine tkA (i := 3) (v := .map (some M)) ?_ hHeld ?_
  · intro w9 hSw
    obtain ⟨z0, z1, z2⟩ := hSw
    go_simp
  simp only [Act.put, List.setIfInBounds_toArray, List.set_cons_zero, List.set_cons_succ]
  refine tkA (i := 4) (v := .pointer (some ⟨M + 1, 0, none⟩)) ?_ hHeld ?_
  · intro w9 hSw
    obtain ⟨z0, z1, z2⟩ := hSw
    go_simp
  simp only [Act.put, List.setIfInBounds_toArray, List.set_cons_zero, List.set_cons_succ]
  refine tkA (i := 5) (v := .pointer (some ⟨M + 1, 0, none⟩)) ?_ hHeld ?_
  · intro w9 hSw
    obtain ⟨z0, z1, z2⟩ := hSw
    go_simp
  simp only [Act.put, List.setIfInBounds_toArray, List.set_cons_zero, List.set_cons_succ]
  refine tkA (i := 6) (v := .pointer (some ⟨M + 1, 3, none⟩)) ?_ hHeld ?_
  · intro w9 hSw
    obtain ⟨z0, z1, z2⟩ := hSw
    go_simp
  simp only [Act.put, List.setIfInBounds_toArray, List.set_cons_zero, List.set_cons_succ]
  refine tkA (i := 7) (v := .string D.user) ?_ hHeld ?_
  · intro w9 hSw
    obtain ⟨z0, z1, z2⟩ := hSw
    go_simp
  simp only [Act.put, List.setIfInBounds_toArray, List.set_cons_zero, List.set_cons_succ]
  refine tkA (i := 8) (v := .string f) ?_ hHeld ?_
  · intro w9 hSw
    obtain ⟨z0, z1, z2⟩ := hSw
    go_simp
  simp only [Act.put, List.setIfInBounds_toArray, List.set_cons_zero, List.set_cons_succ]
  refine wpAnyH_ready (rs := [9, 14]) (by kernel_rfl) (by simp) ?_
  refine AllReadyH.cons rfl (fun K hK => ?_) (AllReadyH.cons rfl (fun K hK => ?_) AllReadyH.nil)
  · skip
    go_simp
    refine (CK _).mono ?_
    rintro e w1 ⟨rfl, hw1⟩
    obtain rfl := hw1
    dsimp only
    refine hK _ _ ⟨hm, p3, p5⟩ (fun hHeld => ?_)
    clear hK K
    refine tkA (i := 10) (v := .tuple #[.agg #[.string s9, .int .i64 i9, .int .i64 j9, .slice a9 n9 c9], .bool bb]) ?_ hHeld ?_
    · intro w9 hSw
      obtain ⟨z0, z1, z2⟩ := hSw
      have h9 := HL.out w9 z0
      go_simp
    simp only [Act.put, List.setIfInBounds_toArray, List.set_cons_zero, List.set_cons_succ]
    refine tkA (i := 11) (v := .tuple #[.agg #[.string s9, .int .i64 i9, .int .i64 j9, .slice a9 n9 c9], .bool bb]) ?_ hHeld ?_
    · intro w9 hSw
      obtain ⟨z0, z1, z2⟩ := hSw
      go_simp
    simp only [Act.put, List.setIfInBounds_toArray, List.set_cons_zero, List.set_cons_succ]
    refine tkA (i := 12) (v := .agg #[.string s9, .int .i64 i9, .int .i64 j9, .slice a9 n9 c9]) ?_ hHeld ?_
    · intro w9 hSw
      obtain ⟨z0, z1, z2⟩ := hSw
      go_simp
    simp only [Act.put, List.setIfInBounds_toArray, List.set_cons_zero, List.set_cons_succ]
    refine tkA (i := 13) (v := .bool bb) ?_ hHeld ?_
    · intro w9 hSw
      obtain ⟨z0, z1, z2⟩ := hSw
      go_simp
    simp only [Act.put, List.setIfInBounds_toArray, List.set_cons_zero, List.set_cons_succ]
    refine wpAnyH_ready (rs := [14]) (by kernel_rfl) (by simp) ?_
    refine AllReadyH.cons rfl (fun K hK => ?_) AllReadyH.nil
    go_simp
    refine hK _ _ (HQ.out _) (fun hHeld => ?_)
    clear hK K
    refine wpAnyH_ready (rs := [15]) (by kernel_rfl) (by simp) ?_
    refine AllReadyH.cons rfl (fun K hK => ?_) AllReadyH.nil
    go_simp
    refine hK _ _ (HQ.out _) (fun hHeld => ?_)
    clear hK K
    refine wpAnyH_ready (rs := [16]) (by kernel_rfl) (by simp) ?_
    refine AllReadyH.cons rfl (fun K hK => ?_) AllReadyH.nil
    go_simp
    refine hK _ _ (HQ.out _) (fun hHeld => ?_)
    clear hK K
    refine wpAnyH_done (by kernel_rfl) ?_ _
    refine NoPanic.normal ?_
    clear hHeld
    go_wp2_with fail
    go_ret
    exact ⟨rfl, (HA.out _).drew⟩
  · skip
    go_simp
    refine hK _ _ (HQ.out _) (fun hHeld => ?_)
    clear hK K
    refine wpAnyH_ready (rs := [9]) (by kernel_rfl) (by simp) ?_
    refine AllReadyH.cons rfl (fun K hK => ?_) AllReadyH.nil
    go_simp
    refine (CK _).mono ?_
    rintro e w1 ⟨rfl, hw1⟩
    obtain rfl := hw1
    dsimp only
    refine hK _ _ (HQ.out _) (fun hHeld => ?_)
    clear hK K
    refine tkA (i := 10) (v := .tuple #[.agg #[.string s9, .int .i64 i9, .int .i64 j9, .slice a9 n9 c9], .bool bb]) ?_ hHeld ?_
    · intro w9 hSw
      obtain ⟨z0, z1, z2⟩ := hSw
      have h9 := HL.out w9 z0
      go_simp
    simp only [Act.put, List.setIfInBounds_toArray, List.set_cons_zero, List.set_cons_succ]
    refine tkA (i := 11) (v := .tuple #[.agg #[.string s9, .int .i64 i9, .int .i64 j9, .slice a9 n9 c9], .bool bb]) ?_ hHeld ?_
    · intro w9 hSw
      obtain ⟨z0, z1, z2⟩ := hSw
      go_simp
    simp only [Act.put, List.setIfInBounds_toArray, List.set_cons_zero, List.set_cons_succ]
    refine tkA (i := 12) (v := .agg #[.string s9, .int .i64 i9, .int .i64 j9, .slice a9 n9 c9]) ?_ hHeld ?_
    · intro w9 hSw
      obtain ⟨z0, z1, z2⟩ := hSw
      go_simp
    simp only [Act.put, List.setIfInBounds_toArray, List.set_cons_zero, List.set_cons_succ]
    refine tkA (i := 13) (v := .bool bb) ?_ hHeld ?_
    · intro w9 hSw
      obtain ⟨z0, z1, z2⟩ := hSw
      go_simp
    simp only [Act.put, List.setIfInBounds_toArray, List.set_cons_zero, List.set_cons_succ]
    refine wpAnyH_ready (rs := [15]) (by kernel_rfl) (by simp) ?_
    refine AllReadyH.cons rfl (fun K hK => ?_) AllReadyH.nil
    go_simp
    refine hK _ _ (HQ.out _) (fun hHeld => ?_)
    clear hK K
    refine wpAnyH_ready (rs := [16]) (by kernel_rfl) (by simp) ?_
    refine AllReadyH.cons rfl (fun K hK => ?_) AllReadyH.nil
    go_simp
    refine hK _ _ (HQ.out _) (fun hHeld => ?_)
    clear hK K
    refine wpAnyH_done (by kernel_rfl) ?_ _
    refine NoPanic.normal ?_
    clear hHeld
    go_wp2_with fail
    go_ret
    exact ⟨rfl, (HA.out _).drew⟩
end Go.Proofs.YthgbclipknfmjaaGreatDoor
