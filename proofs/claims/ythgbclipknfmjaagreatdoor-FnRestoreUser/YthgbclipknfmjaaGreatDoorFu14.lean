/-
  Sdr Mlk Upi Dne Opi Drp Dfi in one. By an AI agent.
-/
import Derived.Test.YthgbclipknfmjaaGreatDoorFu13
import Derived.Test.YthgbclipknfmjaaGreatDoorFu04
import Derived.Test.YthgbclipknfmjaaGreatDoorFu11
import Derived.Test.YthgbclipknfmjaaGreatDoorFu12
namespace Go.Proofs.YthgbclipknfmjaaGreatDoor
open Go.ChangeShapes Go.WideShapes Go.ChangeAt Go.RowKit Go.Deep Go.Lib
set_option linter.unusedVariables false
set_option linter.unusedSimpArgs false
set_option maxRecDepth 100000

/-- Of the first k pairs those whose keys are others. -/
def dropTo (f g : Nat → ByteArray) (key : ByteArray) (k : Nat) : List (ByteArray × ByteArray) := ((List.range k).filter fun i => (f i).toList != key.toList).map fun i => (f i, g i)
theorem dropTo_hit (f g : Nat → ByteArray) (key : ByteArray) (k : Nat) (h : ((f k).toList != key.toList) = true) : dropTo f g key (k + 1) = dropTo f g key k ++ [(f k, g k)] := by
  simp [dropTo, List.range_succ, List.filter_append, h]
theorem dropTo_miss (f g : Nat → ByteArray) (key : ByteArray) (k : Nat) (h : ((f k).toList != key.toList) = false) : dropTo f g key (k + 1) = dropTo f g key k := by
  simp [dropTo, List.range_succ, List.filter_append, h]
theorem dropTo_le (f g : Nat → ByteArray) (key : ByteArray) (k : Nat) : (dropTo f g key k).length ≤ k := by
  unfold dropTo
  rw [List.length_map]
  have := List.length_filter_le (fun i => (f i).toList != key.toList) (List.range k)
  rw [List.length_range] at this
  exact this
set_option maxHeartbeats 1000000 in
theorem l01Drop (a : Option Addr) (n c : Nat) (f g : Nat → ByteArray) (key : ByteArray) (w : World) (hn : n ≤ 4096) (h : Sp w a n f g) :
    Calls Tryz.prog 96 #[.slice a n c, .string key] w fun e w' => ∃ v, e = .returned v ∧ OwnsP w' w.heap.size v (dropTo f g key n) ∧ Below w.heap.size w w' := by
  obtain ⟨i0, hi, hz0, hz1, hz2⟩ := infoPair'
  have HH : Hid (Sp w a n f g) := h
  have HI : Hid (Tryz.prog.info? 68 = some i0) := hi
  have HZ0 : Hid (i0.zero = some (.agg #[.string ⟨#[]⟩, .string ⟨#[]⟩])) := hz0
  have HZ1 : Hid (i0.size = 2) := hz1
  have HZ2 : Hid (i0.bytes = 32) := hz2
  clear h hi hz0 hz1 hz2
  go_enter Tryz.func96, Tryz.ntmps96
  go_wp2_with fail
  go_loopw [5, 6] (fun v i wr => ∃ k : Nat, k ≤ n ∧ i = .int .i64 k ∧ Hid (OwnsP wr w.heap.size v (dropTo f g key k)) ∧ Hid (Below w.heap.size w wr)) (fun _ i _ => n - (RowKit.intOf i).toNat)
  case atStart => exact ⟨0, by omega, rfl, OwnsP.made w _ (Nat.le_refl _), (Below.refl _ _).alloc (Nat.le_refl _) _⟩
  case round =>
    obtain ⟨k, hk, rfl, ho, hb⟩ := hrel
    by_cases hlt : k < n
    · rcases HH.out.below hb.out with h1 | ⟨b, off, rfl, hc⟩
      · omega
      obtain ⟨hc1, hc2⟩ := hc k hlt
      clear hc
      cases hbg : ((f k).toList == key.toList) with
      | true =>
        have E : Hid (dropTo f g key (k + 1) = dropTo f g key k) := dropTo_miss f g key k (by rw [bne, hbg]; rfl)
        go_wp2_with fail
        exact ⟨⟨k + 1, by omega, by go_num, by rw [E.out]; exact ho, hb⟩, by simp [RowKit.intOf]; omega⟩
      | false =>
        have E : Hid (dropTo f g key (k + 1) = dropTo f g key k ++ [(f k, g k)]) := dropTo_hit f g key k (by rw [bne, hbg]; rfl)
        have hle := dropTo_le f g key k
        go_wp2_with (at_builtin; refine wpList_append_own _ rfl _ _ 23 rfl w.heap.size 68 i0 (.agg #[.string ⟨#[]⟩, .string ⟨#[]⟩]) 2 32 Tryz.underlying23 HI.out HZ0.out HZ1.out HZ2.out rfl (by decide) _ _ _ rfl (ho.out.alloc _) ⟨wr.heap.size, 0, none⟩ 1 1 [.string (f k), .string (g k)] rfl rfl (two_newP wr (f k) (g k)) (two_oneP (f k) (g k)) ?c3 ?c4 (le_alloc hb.out.size _) ?_)
        case c3 => unfold maxLen; omega
        case c4 => omega
        intro v' w1 hown hgrow _
        have HO : Hid (OwnsP w1 w.heap.size v' (dropTo f g key (k + 1))) := by
          show OwnsP w1 w.heap.size v' (dropTo f g key (k + 1))
          rw [E.out]
          exact OwnsP.one hown
        have HB1 : Hid (Below w.heap.size w w1) := (hb.out.alloc hb.out.size _).grown hgrow (le_alloc hb.out.size _) ho.out.block
        clear hown hgrow
        go_wp2_with fail
        exact ⟨⟨k + 1, by omega, by go_num, HO, HB1⟩, by simp [RowKit.intOf]; omega⟩
    · have hkn : k = n := by omega
      subst hkn
      go_wp2_with fail
      go_ret
      exact ⟨_, rfl, ho.out, hb.out⟩

theorem dropTo_is (L : List PM) (k : ByteArray) : ∀ n, n ≤ L.length → dropTo (fK L) (fV L) k n = notK k (L.take n)
  | 0, _ => by simp [dropTo, notK]
  | n + 1, h => by
    have ih := dropTo_is L k n (by omega)
    have hn : n < L.length := by omega
    rw [notK_take k L n hn, ← ih]
    by_cases e : (L.getD n p0).1 = k
    · rw [if_pos e, List.append_nil]
      exact dropTo_miss _ _ _ _ (by show ((L.getD n p0).1.toList != k.toList) = false; rw [e]; simp)
    · rw [if_neg e]
      exact dropTo_hit _ _ _ _ (by show ((L.getD n p0).1.toList != k.toList) = true; simpa using fun h9 => e (toList_inj h9))
theorem l01DropM (a : Option Addr) (n c : Nat) (L : List PM) (key : ByteArray) (w : World) (hL : L.length = n) (hn : n ≤ 4096) (h : Src w a (cellsP L)) :
    Calls Tryz.prog 96 #[.slice a n c, .string key] w fun e w' => ∃ a2 n2 c2, e = .returned (.slice a2 n2 c2) ∧ (notK key L).length = n2 ∧ Src w' a2 (cellsP (notK key L)) ∧ Below w.heap.size w w' := by
  refine (l01Drop a n c (fK L) (fV L) key w hn (sp_src h hL)).mono ?_
  rintro e w' ⟨v, rfl, ho, hb⟩
  have e1 : dropTo (fK L) (fV L) key n = notK key L := by
    rw [dropTo_is L key n (by omega), List.take_of_length_le (by omega)]
  rw [e1] at ho
  have ho2 : w'.ownsRow w.heap.size 68 2 v (notK key L).length (cellsP (notK key L)) := ho
  obtain ⟨a2, c2, rfl, hs, _⟩ := own_src ho2
  exact ⟨a2, _, c2, rfl, rfl, hs, hb⟩
theorem l01DropN (a : Option Addr) (n c : Nat) (L : List PM) (key : ByteArray) (w : World) (hL : L.length = n) (hn : n ≤ 4096) (h : Src w a (cellsP L)) :
    Calls Tryz.prog 96 #[.slice a n c, .string key] w fun e w' => ∃ a2 n2 c2, e = .returned (.slice a2 n2 c2) ∧ LenC (notK key L) n2 c2 ∧ Src w' a2 (cellsP (notK key L)) ∧ Below w.heap.size w w' := by
  refine (l01Drop a n c (fK L) (fV L) key w hn (sp_src h hL)).mono ?_
  rintro e w' ⟨v, rfl, ho, hb⟩
  have e1 : dropTo (fK L) (fV L) key n = notK key L := by
    rw [dropTo_is L key n (by omega), List.take_of_length_le (by omega)]
  rw [e1] at ho
  have ho2 : w'.ownsRow w.heap.size 68 2 v (notK key L).length (cellsP (notK key L)) := ho
  obtain ⟨a2, c2, rfl, hs, _⟩ := own_src ho2
  exact ⟨a2, _, c2, rfl, ⟨rfl, own_capx ho2⟩, hs, hb⟩
theorem under_is (L : List PM) (k : ByteArray) : ∀ n, n ≤ L.length → under (fK L) (fV L) k n = (L.take n).filter fun x => beginsB x.1 k := by
  intro n
  induction n with
  | zero => intro _; rfl
  | succ n ih =>
    intro hn
    have h1 := ih (by omega)
    have hlt : n < L.length := by omega
    rw [List.take_add_one, List.getElem?_eq_getElem hlt, List.filter_append]
    cases hb : beginsB (fK L n) k with
    | true =>
      rw [under_hit _ _ _ _ hb, h1, (at_fst hlt).1, (at_fst hlt).2]
      rw [(at_fst hlt).1] at hb
      simp [hb]
    | false =>
      rw [under_miss _ _ _ _ hb, h1]
      rw [(at_fst hlt).1] at hb
      simp [hb]
abbrev preK (u f : ByteArray) : ByteArray := (((⟨#[109, 47]⟩ ++ u) ++ ⟨#[47]⟩) ++ f) ++ ⟨#[47]⟩
theorem preK_data (u f : ByteArray) : (preK u f).data.toList = 109 :: 47 :: (u.data.toList ++ 47 :: (f.data.toList ++ [47])) := by
  simp [ByteArray.data_append]
theorem preK_size (u f : ByteArray) : (preK u f).size = u.size + f.size + 4 := by
  rw [ByteArray.size_append, ByteArray.size_append, ByteArray.size_append, ByteArray.size_append]
  show 2 + u.size + 1 + f.size + 1 = _
  omega
set_option maxHeartbeats 1000000 in
theorem l07MailsS (u f : ByteArray) (w : World) (hu : u.size ≤ 1000) (hf : f.size ≤ 1000) : Calls Tryz.prog 135 #[.string u, .string f] w fun e w' => e = .returned (.string (preK u f)) ∧ w' = w := by
  go_enter Tryz.func135, Tryz.ntmps135
  go_wp2_with fail
  go_ret
  exact ⟨rfl, rfl⟩
/-- What is left where the first mails are gone. -/
def lessTo (L U : List PM) (j : Nat) : List PM := L.filter fun p => (U.take j).all fun x => decide (p.1 ≠ x.1)
theorem less_step (L U : List PM) (j : Nat) (hj : j < U.length) : notK (U.getD j p0).1 (lessTo L U j) = lessTo L U (j + 1) := by
  unfold lessTo notK
  rw [List.filter_filter, List.take_add_one, List.getD_eq_getElem?_getD, List.getElem?_eq_getElem hj]
  refine List.filter_congr fun p _ => ?_
  simp only [Option.toList_some, Option.getD_some, List.all_append, List.all_cons, List.all_nil, Bool.and_true]
  rw [Bool.and_comm]
def emptyR (L : List PM) (u f : ByteArray) : List PM := L.filter fun p => !beginsB p.1 (preK u f)
theorem less_end (L : List PM) (k : ByteArray) : lessTo L (L.filter fun x => beginsB x.1 k) (L.filter fun x => beginsB x.1 k).length = L.filter fun p => !beginsB p.1 k := by
  unfold lessTo
  rw [List.take_of_length_le (Nat.le_refl _)]
  refine List.filter_congr fun p hp => ?_
  rw [Bool.eq_iff_iff, List.all_eq_true]
  constructor
  · intro h
    cases hb : beginsB p.1 k with
    | false => rfl
    | true => exact absurd rfl (of_decide_eq_true (h p (List.mem_filter.2 ⟨hp, hb⟩)))
  · intro h x hx
    refine decide_eq_true fun e => ?_
    have hb := (List.mem_filter.1 hx).2
    rw [← e] at hb
    rw [hb] at h
    cases h
theorem less_len (L U : List PM) (j : Nat) : (lessTo L U j).length ≤ L.length := List.length_filter_le _ _
set_option maxHeartbeats 2000000 in
theorem l07EmptyS (a : Option Addr) (n c : Nat) (L : List PM) (hL : L.length = n) (hg : GoodL L) (u f : ByteArray) (hus : u.size ≤ 1000) (hfs : f.size ≤ 1000) (w : World) (h : Src w a (cellsP L)) :
    Calls Tryz.prog 108 #[.slice a n c, .string u, .string f] w fun e w' => ∃ a2 n2 c2, e = .returned (.slice a2 n2 c2) ∧ (emptyR L u f).length = n2 ∧ Src w' a2 (cellsP (emptyR L u f)) ∧ Below w.heap.size w w' := by
  have hn60 := hg.1
  rw [hL] at hn60
  have CM := fun W => l07MailsS u f W hus hfs
  have hpz := preK_size u f
  have CU := fun W (hW : Below w.heap.size w W) => l01Under a n c (fK L) (fV L) (preK u f) W (by omega) (by omega) (fun i hi => by
    have hi2 : i < L.length := by omega
    obtain ⟨e1, e2⟩ := at_fst hi2
    rw [e1, e2]
    have := hg.2.1 _ (List.getElem_mem hi2)
    omega) (sp_src (h.below hW) hL)
  have eU : under (fK L) (fV L) (preK u f) n = L.filter fun x => beginsB x.1 (preK u f) := by
    rw [under_is L (preK u f) n (by omega), List.take_of_length_le (by omega)]
  simp only [eU] at CU
  have HE : Hid (lessTo L (L.filter fun x => beginsB x.1 (preK u f)) (L.filter fun x => beginsB x.1 (preK u f)).length = emptyR L u f) := less_end L (preK u f)
  have hul : (L.filter fun x => beginsB x.1 (preK u f)).length ≤ L.length := List.length_filter_le _ _
  obtain ⟨U, hU⟩ : ∃ t, (L.filter fun x => beginsB x.1 (preK u f)) = t := ⟨_, rfl⟩
  simp only [hU] at CU
  rw [hU] at HE hul
  obtain ⟨m, hm⟩ : ∃ t, U.length = t := ⟨_, rfl⟩
  rw [hm] at HE hul
  have hmb : m ≤ 60 := by rw [hL] at hul; omega
  have HUM : Hid (U.length = m) := hm
  obtain ⟨KP, hKP⟩ : ∃ t, preK u f = t := ⟨_, rfl⟩
  simp only [hKP] at CM CU
  have HLN : Hid (L.length = n) := hL
  have HLL : Hid (∀ j, (lessTo L U j).length ≤ n) := fun j => by rw [← hL]; exact less_len L U j
  have H0 : Hid ((lessTo L U 0).length = n ∧ Src w a (cellsP (lessTo L U 0))) := by
    have e : lessTo L U 0 = L := by
      unfold lessTo
      rw [List.filter_eq_self]
      intro p _
      rfl
    rw [e]
    exact ⟨hL, h⟩
  obtain ⟨ER, hER⟩ : ∃ t, emptyR L u f = t := ⟨_, rfl⟩
  rw [hER] at HE ⊢
  clear hL hg h eU hU hm hKP hpz hER hul
  go_enter Tryz.func108, Tryz.ntmps108
  go_wp2_with fail
  refine (CM _).mono ?_
  rintro e w1 ⟨rfl, hw1⟩
  obtain rfl := hw1
  clear CM
  go_wp2_with fail
  refine (CU _ (Below.refl _ _)).mono ?_
  rintro e w2 ⟨v2, rfl, ho2, hb2⟩
  have ho3 : w2.ownsRow w1.heap.size 68 2 v2 U.length (cellsP U) := ho2
  rw [HUM.out] at ho3
  obtain ⟨au, cu, rfl, hsu, _⟩ := own_src ho3
  have B2 : Hid (Below w1.heap.size w1 w2) := hb2
  have HSU : Hid (Src w2 au (cellsP U)) := hsu
  clear CU ho2 ho3 hb2 hsu
  go_wp2_with fail
  go_loopw [8, 9] (fun v iv wr => ∃ (j n' : Nat) (a' : Option Addr) (c' : Nat), j ≤ m ∧ n' ≤ n ∧ v = .slice a' n' c' ∧ iv = .int .i64 (j : Int) ∧ Hid ((lessTo L U j).length = n') ∧ Hid (Src wr a' (cellsP (lessTo L U j))) ∧ Hid (Below w1.heap.size w1 wr) ∧ Hid (Below w2.heap.size w2 wr)) (fun _ i _ => m - (RowKit.intOf i).toNat)
  case atStart => exact ⟨0, n, a, c, Nat.zero_le _, Nat.le_refl _, rfl, rfl, H0.out.1, H0.out.2.below B2.out, B2.out, Below.refl _ _⟩
  case round =>
    obtain ⟨j, n', a', c', hj, hn', rfl, rfl, hl, hs, hbr, hb2r⟩ := hrel
    by_cases hlt : j < m
    · have hltj : (j : Int) < (m : Int) := by omega
      have hjl : j < U.length := by rw [HUM.out]; exact hlt
      obtain ⟨b, o, x, y, rfl, e0, e1, hx⟩ := srcP (HSU.out.below hb2r.out) hjl
      have CD := l01DropM a' n' c' (lessTo L U j) x wr hl.out (by omega) hs.out
      have hstep := less_step L U j hjl
      rw [hx.out] at hstep
      rw [hstep] at CD
      have hln := HLL.out (j + 1)
      clear hstep hx hl hs
      go_wp2_with fail
      refine CD.mono ?_
      rintro e w4 ⟨a4, n4, c4, rfl, k1, k2, hb4⟩
      have HF : Hid ((lessTo L U (j + 1)).length = n4 ∧ Src w4 a4 (cellsP (lessTo L U (j + 1))) ∧ Below w1.heap.size w1 w4 ∧ Below w2.heap.size w2 w4) := ⟨k1, k2, hbr.out.trans (hb4.mono hbr.out.size), hb2r.out.trans (hb4.mono hb2r.out.size)⟩
      have hn4 : n4 ≤ n := by omega
      have hm60 : m ≤ 60 := hmb
      clear CD k1 k2 hb4
      go_wp2_with fail
      exact ⟨⟨j + 1, n4, a4, c4, by omega, hn4, rfl, by go_num, HF.out⟩, by simp [RowKit.intOf]; omega⟩
    · obtain rfl : j = m := by omega
      have hltj : ¬ (j : Int) < (j : Int) := by omega
      have HF : Hid (ER.length = n' ∧ Src wr a' (cellsP ER) ∧ Below w1.heap.size w1 wr) := by
        have e9 := HE.out
        rw [← e9]
        exact ⟨hl.out, hs.out, hbr.out⟩
      clear hl hs
      go_wp2_with fail
      go_ret
      exact ⟨a', n', ⟨c', rfl⟩, HF.out⟩
def dropR (L : List PM) (u f : ByteArray) : List PM × Int := if knownR L u f ≠ 0 then (L, knownR L u f) else if f = inboxT then (L, 11) else (notK (folderK u f) (emptyR L u f), 0)
set_option maxHeartbeats 2000000 in
theorem l07DropFolderC (b o n c : Nat) (L : List PM) (hL : L.length = n) (hc : n ≤ c) (hc9 : c ≤ maxLen) (hg : GoodL L) (u f : ByteArray) (hus : u.size ≤ 8) (hfs : f.size ≤ 8) (n0 : 0 ≤ nextM L) (w : World) (h : Src w (some ⟨b, o, none⟩) (cellsP L)) (R : List PM) (q : Int) (HR : Hid (dropR L u f = (R, q))) :
    Calls Tryz.prog 98 #[.slice (some ⟨b, o, none⟩) n c, .string u, .string f] w fun e w' => ∃ a2 n2 c2, e = .returned (.tuple #[.slice a2 n2 c2, .int .i64 q]) ∧ LenC R n2 c2 ∧ Src w' a2 (cellsP R) ∧ Below w.heap.size w w' := by
  have hn60 := hg.1
  rw [hL] at hn60
  have HLN : Hid (LenC L n c ∧ Src w (some ⟨b, o, none⟩) (cellsP L)) := ⟨⟨hL, hc, hc9⟩, h⟩
  have CK := l07KnownS (some ⟨b, o, none⟩) n c L hL hg u f (by omega) (by omega) w h _ rfl
  have CE := fun W (hW : Below w.heap.size w W) => l07EmptyS (some ⟨b, o, none⟩) n c L hL hg u f (by omega) (by omega) W (h.below hW)
  have CF := fun W => l07FolderS u f W (by omega) (by omega)
  have hel : (emptyR L u f).length ≤ n := by rw [← hL]; exact List.length_filter_le _ _
  have CD := fun (a2 : Option Addr) (n2 c2 : Nat) (W : World) (k1 : (emptyR L u f).length = n2) (k2 : Src W a2 (cellsP (emptyR L u f))) => l01DropN a2 n2 c2 (emptyR L u f) (folderK u f) W k1 (by omega) k2
  have HR1 := HR.out
  unfold dropR at HR1
  obtain ⟨kk, hkk⟩ : ∃ t, knownR L u f = t := ⟨_, rfl⟩
  rw [hkk] at CK HR1
  obtain ⟨ER, hER⟩ : ∃ t, emptyR L u f = t := ⟨_, rfl⟩
  simp only [hER] at CE CD hel
  rw [hER] at HR1
  obtain ⟨KF, hKF⟩ : ∃ t, folderK u f = t := ⟨_, rfl⟩
  simp only [hKF] at CF CD
  rw [hKF] at HR1
  clear hL h hg HR hkk n0 hER hKF
  by_cases hk : kk = 0
  · subst hk
    rw [if_neg (by simp)] at HR1
    by_cases hi : f = inboxT
    · rw [if_pos hi] at HR1
      cases HR1
      have hib : (f.toList == [105, 110, 98, 111, 120]) = true := by rw [hi, ByteArray.toList_eq]; rfl
      clear CE CF CD hi
      go_enter Tryz.func98, Tryz.ntmps98
      go_wp2_with fail
      refine CK.mono ?_
      rintro e w1 ⟨rfl, hb1⟩
      have B1 : Hid (Below w.heap.size w w1) := hb1
      clear hb1 CK
      go_wp2_with fail
      exact bodyPost_ret (v := .tuple #[.slice (some ⟨b, o, none⟩) n c, .int .i64 11]) (by simp [results, Tryz.results98, go_sem]) rfl ⟨_, _, _, rfl, HLN.out.1, HLN.out.2.below B1.out, B1.out⟩
    · rw [if_neg hi] at HR1
      have HRQ : Hid (notK KF ER = R ∧ 0 = q) := by cases HR1; exact ⟨rfl, rfl⟩
      have hib : (f.toList == [105, 110, 98, 111, 120]) = false := by
        refine beq_eq_false_iff_ne.2 fun e => hi ?_
        refine bs_inj ?_
        rw [← ByteArray.toList_eq, e]
      clear HR1 hi
      go_enter Tryz.func98, Tryz.ntmps98
      go_wp2_with fail
      refine CK.mono ?_
      rintro e w1 ⟨rfl, hb1⟩
      have B1 : Hid (Below w.heap.size w w1) := hb1
      have CE1 := CE w1 hb1
      clear hb1 CK CE
      go_wp2_with fail
      refine CE1.mono ?_
      rintro e w2 ⟨a2, n2, c2, rfl, k1, k2, hb2⟩
      have B2 : Hid (Below w.heap.size w w2) := B1.out.trans (hb2.mono B1.out.size)
      have CD2 := CD a2 n2 c2 w2 k1 k2
      clear CE1 hb2 k1 k2 CD
      go_wp2_with fail
      refine (CF _).mono ?_
      rintro e w3 ⟨rfl, hw3⟩
      obtain rfl := hw3
      clear CF
      go_wp2_with fail
      refine CD2.mono ?_
      rintro e w4 ⟨a4, n4, c4, rfl, k1, k2, hb4⟩
      have HF : Hid (LenC R n4 c4 ∧ Src w4 a4 (cellsP R) ∧ Below w.heap.size w w4) := by
        rw [← HRQ.out.1]
        exact ⟨k1, k2, B2.out.trans (hb4.mono B2.out.size)⟩
      have HQ0 : Hid (0 = q) := HRQ.out.2
      clear CD2 k1 k2 hb4
      go_wp2_with fail
      exact bodyPost_ret (v := .tuple #[.slice a4 n4 c4, .int .i64 0]) (by simp [results, Tryz.results98, go_sem]) rfl ⟨_, _, _, by rw [HQ0.out], HF.out⟩
  · rw [if_pos hk] at HR1
    obtain ⟨rfl, rfl⟩ : L = R ∧ kk = q := by cases HR1; exact ⟨rfl, rfl⟩
    have hki : (kk != 0) = true := by simpa using hk
    clear CE CF CD
    go_enter Tryz.func98, Tryz.ntmps98
    go_wp2_with fail
    refine CK.mono ?_
    rintro e w1 ⟨rfl, hb1⟩
    have B1 : Hid (Below w.heap.size w w1) := hb1
    clear hb1 CK
    go_wp2_with fail
    exact bodyPost_ret (v := .tuple #[.slice (some ⟨b, o, none⟩) n c, .int .i64 kk]) (by simp [results, Tryz.results98, go_sem]) rfl ⟨_, _, _, rfl, HLN.out.1, HLN.out.2.below B1.out, B1.out⟩
theorem conv3 (W : World) (b : Nat) (x y z : Nat) (hx : x < 10) (hy : y < 10) (hz : z < 10) (h : Box W b [.int .u8 (48 + (x : Int)), .int .u8 (48 + (y : Int)), .int .u8 (48 + (z : Int))]) : (convert 22 9 (.slice (some ⟨b, 0, none⟩) 3 3)).run Tryz.prog W = .ok (.string (bs [UInt8.ofNat (48 + x), UInt8.ofNat (48 + y), UInt8.ofNat (48 + z)])) W := by
  refine run_convert_bytes_back (P := Tryz.prog) W 22 9 5 ⟨b, 0, none⟩ 3 [UInt8.ofNat (48 + x), UInt8.ofNat (48 + y), UInt8.ofNat (48 + z)] Tryz.underlying22 Tryz.underlying5 Tryz.underlying9 (fun j hj => ?_)
  have hj2 : j < 3 := hj
  have hd : ∀ d : Nat, d < 10 → ((UInt8.ofNat (48 + d)).toNat : Int) = 48 + (d : Int) := fun d h9 => by
    have h1 : (UInt8.ofNat (48 + d)).toNat = 48 + d := by simp [UInt8.toNat_ofNat']; omega
    rw [h1]
    omega
  match j, hj2 with
  | 0, _ =>
    have h2 : W.cell? ((⟨b, 0, none⟩ : Addr).add 0) = W.cell? ⟨b, 0, none⟩ := rfl
    rw [h2, (h 0 _ rfl).1]
    show some (Value.int .u8 (48 + (x : Int))) = some (Value.int .u8 ((UInt8.ofNat (48 + x)).toNat : Int))
    rw [hd x hx]
  | 1, _ =>
    have h2 : W.cell? ((⟨b, 0, none⟩ : Addr).add 1) = W.cell? ⟨b, 1, none⟩ := rfl
    rw [h2, (h 1 _ rfl).1]
    show some (Value.int .u8 (48 + (y : Int))) = some (Value.int .u8 ((UInt8.ofNat (48 + y)).toNat : Int))
    rw [hd y hy]
  | 2, _ =>
    have h2 : W.cell? ((⟨b, 0, none⟩ : Addr).add 2) = W.cell? ⟨b, 2, none⟩ := rfl
    rw [h2, (h 2 _ rfl).1]
    show some (Value.int .u8 (48 + (z : Int))) = some (Value.int .u8 ((UInt8.ofNat (48 + z)).toNat : Int))
    rw [hd z hz]
set_option maxHeartbeats 4000000 in
theorem l07MailS (u f : ByteArray) (n : Nat) (hn : n < 1000) (hu : u.size ≤ 1000) (hf : f.size ≤ 1000) (w : World) : Calls Tryz.prog 91 #[.string u, .string f, .int .i64 (n : Int)] w fun e w' => e = .returned (.string (mailK u f (n : Int))) ∧ Below w.heap.size w w' := by
  obtain ⟨x, y, z, hx, hy, hz, he⟩ := split3 n hn
  have hd3 : d3 n = [UInt8.ofNat (48 + x), UInt8.ofNat (48 + y), UInt8.ofNat (48 + z)] := by
    rw [he]
    unfold d3
    rw [dec4 x y z hx hy hz]
    rfl
  have CM := fun W => l07MailsS u f W hu hf
  have hps := preK_size u f
  have hcb := fun W b => conv3 W b x y z hx hy hz
  obtain ⟨T, hT⟩ : ∃ T, bs [UInt8.ofNat (48 + x), UInt8.ofNat (48 + y), UInt8.ofNat (48 + z)] = T := ⟨_, rfl⟩
  simp only [hT] at hcb
  have hTs : T.size = 3 := by rw [← hT]; rfl
  have HD : Hid (preK u f ++ T = mailK u f (n : Int)) := by
    show _ = _
    apply bs_inj
    rw [ByteArray.data_append, Array.toList_append, preK_data, ← hT]
    show _ = 109 :: 47 :: (u.data.toList ++ 47 :: (f.data.toList ++ 47 :: d3 n))
    rw [hd3]
    simp [bs]
  obtain ⟨PK, hPK⟩ : ∃ t, preK u f = t := ⟨_, rfl⟩
  rw [hPK] at HD hps
  simp only [hPK] at CM
  obtain ⟨X, hX⟩ : ∃ t : Int, (x : Int) = t := ⟨_, rfl⟩
  obtain ⟨Y, hY⟩ : ∃ t : Int, (y : Int) = t := ⟨_, rfl⟩
  obtain ⟨Z, hZ⟩ : ∃ t : Int, (z : Int) = t := ⟨_, rfl⟩
  obtain ⟨N10, hN10⟩ : ∃ t : Int, (n : Int) / 10 = t := ⟨_, rfl⟩
  have q1 : (n : Int).tdiv 100 = X := by rw [Int.tdiv_eq_ediv_of_nonneg (by omega)]; omega
  have q2 : (n : Int).tdiv 10 = N10 := by rw [Int.tdiv_eq_ediv_of_nonneg (by omega)]; omega
  have q3 : N10.tmod 10 = Y := by rw [Int.tmod_eq_emod_of_nonneg (by omega)]; omega
  have q4 : (n : Int).tmod 10 = Z := by rw [Int.tmod_eq_emod_of_nonneg (by omega)]; omega
  have u1 := wrap8 x hx
  have u2 := wrap8 y hy
  have u3 := wrap8 z hz
  rw [hX] at u1
  rw [hY] at u2
  rw [hZ] at u3
  simp only [hX, hY, hZ] at hcb
  have v1 : IntKind.i64.wrap X = X := wrapI _ (by omega) (by omega)
  have v2 : IntKind.i64.wrap N10 = N10 := wrapI _ (by omega) (by omega)
  have v3 : IntKind.i64.wrap (48 + X) = 48 + X := wrapI _ (by omega) (by omega)
  have v4 : IntKind.i64.wrap (48 + Y) = 48 + Y := wrapI _ (by omega) (by omega)
  have v5 : IntKind.i64.wrap (48 + Z) = 48 + Z := wrapI _ (by omega) (by omega)
  obtain ⟨G, hG⟩ : ∃ t, mailK u f (n : Int) = t := ⟨_, rfl⟩
  rw [hG] at HD ⊢
  have hnc : ¬ 9223372036854775807 < u.size + f.size + 4 + 3 := by omega
  clear hd3 hT hPK hG he
  clear hX hY hZ hN10
  go_enter Tryz.func91, Tryz.ntmps91
  go_wp2_with fail
  refine wp_region_noPanic ?_
  refine wp_region_held_drew (S := fun w' => True) (by kernel_rfl) trivial (fun hHeld => ?_)
  refine tkA (i := 0) (v := .string u) ?_ hHeld ?_
  · intro w9 hSw
    go_simp
  simp only [Act.put, List.setIfInBounds_toArray, List.set_cons_zero, List.set_cons_succ]
  refine tkA (i := 1) (v := .string f) ?_ hHeld ?_
  · intro w9 hSw
    go_simp
  simp only [Act.put, List.setIfInBounds_toArray, List.set_cons_zero, List.set_cons_succ]
  refine tkA (i := 3) (v := .int .i64 (n : Int)) ?_ hHeld ?_
  · intro w9 hSw
    go_simp
  simp only [Act.put, List.setIfInBounds_toArray, List.set_cons_zero, List.set_cons_succ]
  refine tkA (i := 4) (v := .int .i64 X) ?_ hHeld ?_
  · intro w9 hSw
    go_simp
  simp only [Act.put, List.setIfInBounds_toArray, List.set_cons_zero, List.set_cons_succ]
  refine tkA (i := 5) (v := .int .i64 (48 + X)) ?_ hHeld ?_
  · intro w9 hSw
    go_simp
  simp only [Act.put, List.setIfInBounds_toArray, List.set_cons_zero, List.set_cons_succ]
  refine tkA (i := 6) (v := .int .u8 (48 + X)) ?_ hHeld ?_
  · intro w9 hSw
    go_simp
  simp only [Act.put, List.setIfInBounds_toArray, List.set_cons_zero, List.set_cons_succ]
  refine tkA (i := 7) (v := .int .i64 (n : Int)) ?_ hHeld ?_
  · intro w9 hSw
    go_simp
  simp only [Act.put, List.setIfInBounds_toArray, List.set_cons_zero, List.set_cons_succ]
  refine tkA (i := 8) (v := .int .i64 N10) ?_ hHeld ?_
  · intro w9 hSw
    go_simp
  simp only [Act.put, List.setIfInBounds_toArray, List.set_cons_zero, List.set_cons_succ]
  refine tkA (i := 9) (v := .int .i64 Y) ?_ hHeld ?_
  · intro w9 hSw
    go_simp
  simp only [Act.put, List.setIfInBounds_toArray, List.set_cons_zero, List.set_cons_succ]
  refine tkA (i := 10) (v := .int .i64 (48 + Y)) ?_ hHeld ?_
  · intro w9 hSw
    go_simp
  simp only [Act.put, List.setIfInBounds_toArray, List.set_cons_zero, List.set_cons_succ]
  refine tkA (i := 11) (v := .int .u8 (48 + Y)) ?_ hHeld ?_
  · intro w9 hSw
    go_simp
  simp only [Act.put, List.setIfInBounds_toArray, List.set_cons_zero, List.set_cons_succ]
  refine tkA (i := 12) (v := .int .i64 (n : Int)) ?_ hHeld ?_
  · intro w9 hSw
    go_simp
  simp only [Act.put, List.setIfInBounds_toArray, List.set_cons_zero, List.set_cons_succ]
  refine tkA (i := 13) (v := .int .i64 Z) ?_ hHeld ?_
  · intro w9 hSw
    go_simp
  simp only [Act.put, List.setIfInBounds_toArray, List.set_cons_zero, List.set_cons_succ]
  refine tkA (i := 14) (v := .int .i64 (48 + Z)) ?_ hHeld ?_
  · intro w9 hSw
    go_simp
  simp only [Act.put, List.setIfInBounds_toArray, List.set_cons_zero, List.set_cons_succ]
  refine tkA (i := 15) (v := .int .u8 (48 + Z)) ?_ hHeld ?_
  · intro w9 hSw
    go_simp
  simp only [Act.put, List.setIfInBounds_toArray, List.set_cons_zero, List.set_cons_succ]
  refine wpAnyH_ready (rs := [2, 16]) (by kernel_rfl) (by simp) ?_
  refine AllReadyH.cons rfl (fun K hK => ?_) (AllReadyH.cons rfl (fun K hK => ?_) AllReadyH.nil)
  · skip
    go_simp
    refine (CM _).mono ?_
    rintro e wk ⟨rfl, hwk⟩
    obtain rfl := hwk.symm
    dsimp only
    refine hK _ _ trivial (fun hHeld => ?_)
    clear hK K
    refine wpAnyH_ready (rs := [16]) (by kernel_rfl) (by simp) ?_
    refine AllReadyH.cons rfl (fun K hK => ?_) AllReadyH.nil
    go_simp
    have B1 : Hid (Below w.heap.size w ((w).alloc (.cells #[.int .u8 (48 + X), .int .u8 (48 + Y), .int .u8 (48 + Z)] 5))) := (Below.refl w.heap.size w).alloc (Nat.le_refl _) _
    have X1 : Hid (Box ((w).alloc (.cells #[.int .u8 (48 + X), .int .u8 (48 + Y), .int .u8 (48 + Z)] 5)).drew w.heap.size [.int .u8 (48 + X), .int .u8 (48 + Y), .int .u8 (48 + Z)]) := (Box.new (w := w) rfl).drew
    refine hK _ _ trivial (fun hHeld => ?_)
    clear hK K
    refine wpAnyH_ready (rs := [17]) (by kernel_rfl) (by simp) ?_
    refine AllReadyH.cons rfl (fun K hK => ?_) AllReadyH.nil
    have hc2 := hcb (((w).alloc (.cells #[.int .u8 (48 + X), .int .u8 (48 + Y), .int .u8 (48 + Z)] 5)).drew) (w.heap.size) (X1.out)
    go_simp
    refine hK _ _ trivial (fun hHeld => ?_)
    clear hK K
    refine wpAnyH_ready (rs := [18]) (by kernel_rfl) (by simp) ?_
    refine AllReadyH.cons rfl (fun K hK => ?_) AllReadyH.nil
    go_simp
    refine hK _ _ trivial (fun hHeld => ?_)
    clear hK K
    refine wpAnyH_ready (rs := [19]) (by kernel_rfl) (by simp) ?_
    refine AllReadyH.cons rfl (fun K hK => ?_) AllReadyH.nil
    go_simp
    refine hK _ _ trivial (fun hHeld => ?_)
    clear hK K
    refine wpAnyH_done (by kernel_rfl) ?_ _
    refine NoPanic.normal ?_
    clear hHeld
    go_wp2_with fail
    go_ret
    exact ⟨by rw [← HD.out]; rfl, B1.out.drew⟩
  · skip
    go_simp
    have B3 : Hid (Below w.heap.size w ((w).alloc (.cells #[.int .u8 (48 + X), .int .u8 (48 + Y), .int .u8 (48 + Z)] 5))) := (Below.refl w.heap.size w).alloc (Nat.le_refl _) _
    have X3 : Hid (Box ((w).alloc (.cells #[.int .u8 (48 + X), .int .u8 (48 + Y), .int .u8 (48 + Z)] 5)).drew w.heap.size [.int .u8 (48 + X), .int .u8 (48 + Y), .int .u8 (48 + Z)]) := (Box.new (w := w) rfl).drew
    refine hK _ _ trivial (fun hHeld => ?_)
    clear hK K
    refine wpAnyH_ready (rs := [2, 17]) (by kernel_rfl) (by simp) ?_
    refine AllReadyH.cons rfl (fun K hK => ?_) (AllReadyH.cons rfl (fun K hK => ?_) AllReadyH.nil)
    · skip
      go_simp
      refine (CM _).mono ?_
      rintro e wk ⟨rfl, hwk⟩
      obtain rfl := hwk.symm
      dsimp only
      refine hK _ _ trivial (fun hHeld => ?_)
      clear hK K
      refine wpAnyH_ready (rs := [17]) (by kernel_rfl) (by simp) ?_
      refine AllReadyH.cons rfl (fun K hK => ?_) AllReadyH.nil
      have hc4 := hcb (((w).alloc (.cells #[.int .u8 (48 + X), .int .u8 (48 + Y), .int .u8 (48 + Z)] 5)).drew) (w.heap.size) (X3.out)
      go_simp
      refine hK _ _ trivial (fun hHeld => ?_)
      clear hK K
      refine wpAnyH_ready (rs := [18]) (by kernel_rfl) (by simp) ?_
      refine AllReadyH.cons rfl (fun K hK => ?_) AllReadyH.nil
      go_simp
      refine hK _ _ trivial (fun hHeld => ?_)
      clear hK K
      refine wpAnyH_ready (rs := [19]) (by kernel_rfl) (by simp) ?_
      refine AllReadyH.cons rfl (fun K hK => ?_) AllReadyH.nil
      go_simp
      refine hK _ _ trivial (fun hHeld => ?_)
      clear hK K
      refine wpAnyH_done (by kernel_rfl) ?_ _
      refine NoPanic.normal ?_
      clear hHeld
      go_wp2_with fail
      go_ret
      exact ⟨by rw [← HD.out]; rfl, B3.out.drew⟩
    · skip
      have hc5 := hcb (((w).alloc (.cells #[.int .u8 (48 + X), .int .u8 (48 + Y), .int .u8 (48 + Z)] 5)).drew) (w.heap.size) (X3.out)
      go_simp
      refine hK _ _ trivial (fun hHeld => ?_)
      clear hK K
      refine wpAnyH_ready (rs := [2]) (by kernel_rfl) (by simp) ?_
      refine AllReadyH.cons rfl (fun K hK => ?_) AllReadyH.nil
      go_simp
      refine (CM _).mono ?_
      rintro e wk ⟨rfl, hwk⟩
      obtain rfl := hwk.symm
      dsimp only
      refine hK _ _ trivial (fun hHeld => ?_)
      clear hK K
      refine wpAnyH_ready (rs := [18]) (by kernel_rfl) (by simp) ?_
      refine AllReadyH.cons rfl (fun K hK => ?_) AllReadyH.nil
      go_simp
      refine hK _ _ trivial (fun hHeld => ?_)
      clear hK K
      refine wpAnyH_ready (rs := [19]) (by kernel_rfl) (by simp) ?_
      refine AllReadyH.cons rfl (fun K hK => ?_) AllReadyH.nil
      go_simp
      refine hK _ _ trivial (fun hHeld => ?_)
      clear hK K
      refine wpAnyH_done (by kernel_rfl) ?_ _
      refine NoPanic.normal ?_
      clear hHeld
      go_wp2_with fail
      go_ret
      exact ⟨by rw [← HD.out]; rfl, B3.out.drew⟩
theorem src_1S {w : World} {s : ByteArray} {B ty : Nat} (hB : B = w.heap.size) : Src (w.alloc (.cells #[.string s] ty)) (some ⟨B, 0, none⟩) (cellsS [s]) := by
  have hb : Box (w.alloc (.cells #[.string s] ty)) B [.string s] := Box.new hB
  refine .inr ⟨B, 0, rfl, fun j hj => ?_⟩
  have hj4 : j < 1 := hj
  rw [Nat.zero_add]
  match j, hj4 with
  | 0, _ => exact (hb 0 _ rfl).1
def lackM (wd : ByteArray) (fs : List FM) (Ns : List ByteArray) : Int := if wd.toList = [] then 15 else if Ns.all (fun s => (lookF s fs).isSome) = false then 16 else 0
set_option maxHeartbeats 2000000 in
theorem lacksI (w : World) (M : Nat) (a : Option Addr) (n c : Nat) (nx : Int) (u : ByteArray) (S : SM) (k0 : Nat) (hS : StAt w M a n c nx u S k0) (hu : u.size ≤ 1000) (b : Option Addr) (m d : Nat) (Ns : List ByteArray) (hN : Ns.length = m) (hm : m ≤ 100) (hz : ∀ s ∈ Ns, s.size ≤ 1048576) (h2 : Src w b (cellsS Ns)) (Q : Int) (HQ : Hid (lackM S.word S.fs Ns = Q)) :
    Calls Tryz.prog 39 #[.pointer (some ⟨M + 1, 0, none⟩), .slice b m d] w fun e w' => e = .returned (.int .i64 Q) ∧ Below w.heap.size w w' := by
  obtain ⟨va, X, hD, hV, _⟩ := hS
  obtain ⟨e4a, _⟩ := hD.1 4 _ rfl
  obtain ⟨wd, hwd⟩ : ∃ t, S.word = t := ⟨_, rfl⟩
  have e4 : w.cell? ⟨M + 1, 4, none⟩ = some (.string wd) := by rw [← hwd]; exact e4a
  rw [hwd] at HQ
  clear e4a
  by_cases hw : wd.toList = []
  · have HZ : Hid (15 = Q) := by show _ = _; rw [← HQ.out]; unfold lackM; rw [if_pos hw]
    clear hD hV h2 hz
    go_enter Tryz.func39, Tryz.ntmps39
    go_wp2_with fail
    go_ret
    exact ⟨ret_int HZ.out, Below.refl _ _⟩
  have hwb : (wd.toList == []) = false := beq_eq_false_iff_ne.2 hw
  obtain ⟨nb, hnb⟩ : ∃ x, Ns.all (fun s => (lookF s S.fs).isSome) = x := ⟨_, rfl⟩
  have HQ1 : Hid ((if nb = false then 16 else 0) = Q) := by show _ = _; rw [← HQ.out]; unfold lackM; rw [if_neg hw, hnb]
  have HNB : Hid ((Ns.drop 0).all (fun s => (lookF s S.fs).isSome) = nb) := hnb
  have HD : Hid (DeskAt w M ⟨a, n, c, va, S.aside, nx, u, S.word, X⟩) := hD
  have HV : Hid (View u X S.fs) := hV
  have HN : Hid (Ns.length = m) := hN
  have HT : Hid (Src w b (cellsS Ns)) := h2
  have HY : Hid (∀ s ∈ Ns, s.size ≤ 1048576) := hz
  clear hnb hD hV hN h2 hz HQ hwd
  go_enter Tryz.func39, Tryz.ntmps39
  go_wp2_with fail
  go_loopw [14] (fun iv wr => ∃ j : Nat, j ≤ m ∧ iv = .int .i64 (j : Int) ∧ Hid ((Ns.drop j).all (fun s => (lookF s S.fs).isSome) = nb) ∧ Hid (Below w.heap.size w wr)) (fun i _ => m - (RowKit.intOf i).toNat)
  case atStart => exact ⟨0, by omega, rfl, HNB.out, Below.refl _ _⟩
  case round =>
    obtain ⟨j, hj, rfl, hall, hbr⟩ := hrel
    by_cases hlt : j < m
    · have hltj : (j : Int) < (m : Int) := by omega
      have hkN : j < Ns.length := by rw [HN.out]; exact hlt
      obtain ⟨b', o', t, rfl, c1, hy⟩ := srcS (HT.out.below hbr.out) hkN
      have hts : t.size ≤ 1048576 := HY.out t (by rw [← hy.out]; exact mem_getD Ns e0 j hkN)
      have HA := hall.out
      rw [all_dx e0 _ Ns j hkN, hy.out] at HA
      obtain ⟨st, hst⟩ : ∃ x, (lookF t S.fs).isSome = x := ⟨_, rfl⟩
      rw [hst] at HA
      have HA3 : Hid ((st && (Ns.drop (j + 1)).all (fun s => (lookF s S.fs).isSome)) = nb) := HA
      have CH := hasI t wr M _ hts (by show u.size ≤ 1048576; omega) (HD.out.later hbr.out) st (HV.out.some t st hst)
      clear HA hall hst
      go_wp2_with fail
      refine CH.mono ?_
      rintro e w5 ⟨rfl, hb5⟩
      have B5 : Hid (Below w.heap.size w w5) := hbr.out.trans (hb5.mono hbr.out.size)
      clear hb5 CH
      cases st with
      | false =>
        have HZ : Hid (16 = Q) := by show _ = _; rw [← HQ1.out, ← HA3.out]; rfl
        go_wp2_with fail
        go_ret
        exact ⟨ret_int HZ.out, B5.out⟩
      | true =>
        have HA4 : Hid ((Ns.drop (j + 1)).all (fun s => (lookF s S.fs).isSome) = nb) := HA3
        go_wp2_with fail
        exact ⟨⟨j + 1, by omega, by go_num, HA4.out, B5.out⟩, by simp [RowKit.intOf]; omega⟩
    · obtain rfl : j = m := by omega
      have hltj : ¬ (j : Int) < (j : Int) := by omega
      obtain rfl : true = nb := by rw [← hall.out, all_de _ _ _ (by rw [HN.out]; exact Nat.le_refl _)]
      have HZ : Hid (0 = Q) := by show _ = _; rw [← HQ1.out]; rfl
      clear hall
      go_wp2_with fail
      go_ret
      exact ⟨ret_int HZ.out, hbr.out⟩
theorem deskWithI (a : Option Addr) (n c : Nat) (L : List PM) (u : ByteArray) (w : World) (hL : L.length = n) (h : Src w a (cellsP L)) (hG : Gl w) (h8 : 8 ≤ w.heap.size) (hst : storeB L = true) (hus : (47 : UInt8) ∉ u.data.toList) (hu : u.size ≤ 1000) :
    Calls Tryz.prog 37 #[.slice a n c, .string u] w fun e w' => ∃ M S, e = .returned (.pointer (some ⟨M + 1, 0, none⟩)) ∧ takeAll (nextM L) u S0 L = some S ∧ StAt w' M a n c (nextM L) u S n ∧ w.heap.size ≤ M ∧ Below w.heap.size w w' := by
  obtain ⟨hg, nx0, hnm, n1, n2, hin, _, _⟩ := store_facts hst
  obtain ⟨S, hS, _⟩ := take_all hst hus
  have HS : Hid (takeAll (nextM L) u S0 L = some S) := hS
  have CD := deskI a n c L w hL hg h hG h8 true hin
  have HF : Hid (GoodL L ∧ L.length = n ∧ Src w a (cellsP L) ∧ Gl w ∧ inB (numB ((getM L vK).getD e0).data.toList) 1 10000 = true) := ⟨hg, hL, h, hG, hin⟩
  clear hg hL h hG hin hst hS hnm
  go_enter Tryz.func37, Tryz.ntmps37
  go_wp2_with fail
  refine CD.mono ?_
  rintro e w1 ⟨nx, M, rfl, hnp, hM, hdk, hb1⟩
  obtain ⟨hnx, hnx1⟩ := in_next HF.out.2.2.2.2 hnp
  subst hnx
  have CL := layI u w1 M a n c _ _ _ _ _ _ L hdk HF.out.2.1 HF.out.1 (fun W hW => HF.out.2.2.1.below (hb1.trans (hW.mono hM))) (HF.out.2.2.2.1.below h8 hb1) (by omega) hu hnx1 _ rfl
  have B1 : Hid (Below w.heap.size w w1) := hb1
  obtain ⟨lb, hlb⟩ : ∃ x, layF (nextM L) u S0 L = x := ⟨_, rfl⟩
  rw [hlb] at CL
  clear hb1 hdk hnp CD hlb
  go_wp2_with fail
  refine CL.mono ?_
  rintro e w2 ⟨rfl, hst2, hb2⟩
  have HST : Hid (StAt w2 M a n c (nextM L) u S n) := (hst2 S HS.out).1
  have B2 : Hid (Below w.heap.size w w2) := B1.out.trans (hb2.mono hM)
  clear hst2 hb2 CL
  go_wp2_with fail
  go_ret
  exact ⟨M, S, rfl, HS.out, HST.out, hM, B2.out⟩
theorem ask_zero {L : List PM} {u : ByteArray} (h : askM L [u] = 0) : storeB L = true ∧ shortB u = true := by
  unfold askM at h
  split at h
  · cases h
  · split at h
    · cases h
    · rename_i h1
      split at h
      · cases h
      · rename_i h2
        refine ⟨by simpa using h1, ?_⟩
        simpa using h2
theorem short_size {u : ByteArray} (h : shortB u = true) : u.size ≤ 8 := by
  unfold shortB at h
  rw [Bool.and_eq_true, decide_eq_true_eq] at h
  exact h.2
set_option maxHeartbeats 400000 in
theorem copyListI (a : Option Addr) (n c : Nat) (L : List PM) (w : World) (hL : L.length = n) (hn : n ≤ 1048576) (h : Src w a (cellsP L)) :
    Calls Tryz.prog 40 #[.slice a n c] w fun e w' => ∃ v, e = .returned v ∧ w'.ownsRow w.heap.size 68 2 v n (cellsP L) ∧ Below w.heap.size w w' := by
  have HH : Hid (Src w a (cellsP L)) := h
  have HL : Hid ((cellsP L).length = n * 2) := by show _ = _; rw [cellsP_length, hL]
  clear h hL
  go_enter Tryz.func40, Tryz.ntmps40
  go_wp2_with (at_builtin; refine wpList_append_src _ rfl _ _ 23 rfl w.heap.size 68 (.agg #[.string ⟨#[]⟩, .string ⟨#[]⟩]) 2 32 Tryz.underlying23 infoP rfl (by decide) (by decide) _ 0 [] rfl (World.ownsRow_nil _ _ _ _) a n c (cellsP L) rfl HL.out HH.out (cellsP_one L) (by omega) (Nat.le_refl _) ?_)
  intro v' w1 hown hgrow
  have HO : Hid (w1.ownsRow w.heap.size 68 2 v' n (cellsP L)) := by simpa [Hid] using hown
  have HB : Hid (Below w.heap.size w w1) := (Below.refl _ _).grown hgrow (Nat.le_refl _) (fun k e => by cases e)
  clear hown hgrow
  go_wp2_with fail
  go_ret
  exact ⟨_, rfl, HO.out, HB.out⟩
set_option maxHeartbeats 1000000 in
theorem doneBad (q : Int) (hq : q ≠ 0) (w : World) (M : Nat) (a : Option Addr) (n c : Nat) (L : List PM) (hL : L.length = n) (hn : n ≤ 60) (hc : w.cell? ⟨M + 1, 0, none⟩ = some (.slice a n c)) (h : Src w a (cellsP L)) :
    Calls Tryz.prog 46 #[.pointer (some ⟨M + 1, 0, none⟩), .int .i64 q] w fun e w' => ∃ v, e = .returned (.tuple #[v, .int .i64 q]) ∧ w'.ownsRow w.heap.size 68 2 v n (cellsP L) ∧ Below w.heap.size w w' := by
  have hqi : (q != 0) = true := by simpa using hq
  have CC := copyListI a n c L w hL (by omega) h
  clear h hL
  go_enter Tryz.func46, Tryz.ntmps46
  go_wp2_with fail
  refine CC.mono ?_
  rintro e w1 ⟨v, rfl, ho, hb⟩
  obtain ⟨av, cv, rfl, _, _⟩ := own_src ho
  have HO : Hid (w1.ownsRow w.heap.size 68 2 (.slice av n cv) n (cellsP L)) := ho
  have HB : Hid (Below w.heap.size w w1) := hb
  clear ho hb CC
  go_wp2_with fail
  exact bodyPost_ret (v := .tuple #[.slice av n cv, .int .i64 q]) (by simp [results, Tryz.results46, go_sem]) rfl ⟨_, rfl, HO.out, HB.out⟩
set_option maxHeartbeats 1000000 in
theorem doneOk (w : World) (M : Nat) (a : Option Addr) (n c : Nat) (nx : Int) (u : ByteArray) (S : SM) (k0 : Nat) (hS : StAt w M a n c nx u S k0) (hu : u.size ≤ 1000) (hn0 : 0 ≤ nx) (hn1 : nx ≤ 10000) (hF : ∀ f ∈ S.fs, FitF f) (hk : k0 ≤ 1000) (hg : Gl w) (h8 : 8 ≤ M) (Y : List PM) (hY : UpL Y) (hP : (deskP nx u S).Perm Y) (ny : Nat) (hny : Y.length = ny) (hl : ny ≤ 4000)
    (L : List PM) (hL : L.length = n) (hn : n ≤ 60) (h : Src w a (cellsP L)) (R : List PM) (q : Int) (HR : Hid ((if 60 < ny then (L, 7) else (Y, 0)) = (R, q))) :
    Calls Tryz.prog 46 #[.pointer (some ⟨M + 1, 0, none⟩), .int .i64 0] w fun e w' => ∃ v, e = .returned (.tuple #[v, .int .i64 q]) ∧ w'.ownsRow w.heap.size 68 2 v R.length (cellsP R) ∧ Below w.heap.size w w' := by
  have CP := fun W (hW : Below w.heap.size w W) => pairsI W M a n c nx u S k0 (hS.later hW) hu hn0 hn1 hF hk (hg.below (by
    obtain ⟨_, _, hD, _⟩ := hS
    have h9 : M + 1 < w.heap.size := World.block_lt_of_cell? _ _ (hD.1 0 _ rfl).1
    omega) hW) h8 Y hY hP ny hny hl
  have hc : w.cell? ⟨M + 1, 0, none⟩ = some (.slice a n c) := by
    obtain ⟨_, _, hD, _⟩ := hS
    exact (hD.1 0 _ rfl).1
  have CF : ∀ b, decide ((60 : Int) < (ny : Int)) = b → Calls Tryz.prog 87 #[.pointer (some ⟨M + 1, 0, none⟩)] w fun e w' => e = .returned (.bool b) ∧ Below w.heap.size w w' := by
    intro b hb
    have C1 := CP w (Below.refl _ _)
    have HB : Hid (decide ((60 : Int) < (ny : Int)) = b) := hb
    clear CP hS h hc hb
    go_enter Tryz.func87, Tryz.ntmps87
    go_wp2_with fail
    refine C1.mono ?_
    rintro e w1 ⟨g, cap, rfl, ho, hb1⟩
    have B1 : Hid (Below w.heap.size w w1) := hb1
    clear ho hb1 C1
    go_wp2_with fail
    go_ret
    exact ⟨by rw [← HB.out]; rfl, B1.out⟩
  have CC := fun W (hW : Below w.heap.size w W) => copyListI a n c L W hL (by omega) (h.below hW)
  have HLN : Hid (L.length = n) := hL
  have HYN : Hid (Y.length = ny) := hny
  clear h hL hS hF hY hP hny
  by_cases hb : 60 < ny
  · have C1 := CF true (decide_eq_true (by omega))
    have HQ : Hid (R = L ∧ q = 7) := by
      have h9 := HR.out
      rw [if_pos hb] at h9
      cases h9
      exact ⟨rfl, rfl⟩
    clear CF CP HR
    go_enter Tryz.func46, Tryz.ntmps46
    go_wp2_with fail
    refine C1.mono ?_
    rintro e w1 ⟨rfl, hb1⟩
    have d0 := cell_later hb1 hc
    have CC1 := CC w1 hb1
    have B1 : Hid (Below w.heap.size w w1) := hb1
    clear hb1 C1 CC
    go_wp2_with fail
    refine CC1.mono ?_
    rintro e w2 ⟨v, rfl, ho, hb2⟩
    obtain ⟨av, cv, rfl, _, _⟩ := own_src ho
    have HO : Hid (w2.ownsRow w.heap.size 68 2 (.slice av n cv) R.length (cellsP R)) := by
      show w2.ownsRow _ _ _ _ _ _
      rw [HQ.out.1, HLN.out]
      exact own_mono ho B1.out.size
    have B2 : Hid (Below w.heap.size w w2) := B1.out.trans (hb2.mono B1.out.size)
    have HQ2 : Hid (7 = q) := HQ.out.2.symm
    clear ho hb2 CC1
    go_wp2_with fail
    exact bodyPost_ret (v := .tuple #[.slice av n cv, .int .i64 7]) (by simp [results, Tryz.results46, go_sem]) rfl ⟨_, by rw [HQ2.out], HO.out, B2.out⟩
  · have C1 := CF false (decide_eq_false (by omega))
    have HQ : Hid (R = Y ∧ q = 0) := by
      have h9 := HR.out
      rw [if_neg hb] at h9
      cases h9
      exact ⟨rfl, rfl⟩
    clear CF CC HR
    go_enter Tryz.func46, Tryz.ntmps46
    go_wp2_with fail
    refine C1.mono ?_
    rintro e w1 ⟨rfl, hb1⟩
    have CC1 := CP w1 hb1
    have B1 : Hid (Below w.heap.size w w1) := hb1
    clear hb1 C1 CP
    go_wp2_with fail
    refine CC1.mono ?_
    rintro e w2 ⟨g, cap, rfl, ho, hb2⟩
    have HO : Hid (w2.ownsRow w.heap.size 68 2 (.slice (some ⟨g, 0, none⟩) ny cap) R.length (cellsP R)) := by
      show w2.ownsRow _ _ _ _ _ _
      rw [HQ.out.1, HYN.out]
      exact own_mono ho B1.out.size
    have B2 : Hid (Below w.heap.size w w2) := B1.out.trans (hb2.mono B1.out.size)
    have HQ2 : Hid (0 = q) := HQ.out.2.symm
    clear ho hb2 CC1
    go_wp2_with fail
    exact bodyPost_ret (v := .tuple #[.slice (some ⟨g, 0, none⟩) ny cap, .int .i64 0]) (by simp [results, Tryz.results46, go_sem]) rfl ⟨_, by rw [HQ2.out], HO.out, B2.out⟩
/-- A desk with a field of its own set. -/
theorem desk_set {w : World} {M : Nat} {D D' : DK} (h : DeskAt w M D) (i : Nat) (v : Value) (hc : cellsD M D' = (cellsD M D).set i v) (h1 : D'.va = D.va) (h2 : D'.aside = D.aside) (h3 : D'.X = D.X) : DeskAt (w.setCell ⟨M + 1, i, none⟩ v) M D' := by
  obtain ⟨k1, ⟨cl, k2⟩, k3, k4⟩ := h
  refine ⟨by rw [hc]; exact k1.set i v, ⟨cl, by rw [h3]; exact k2.setCell _ _ (by show M ≠ M + 1; omega)⟩, by rw [h1, h2]; exact own_setLow k3 (by show M + 1 < M + 2; omega) v, ?_⟩
  rw [h3]
  exact ⟨fun x hx => own_setLow (k4.1 x hx) (by show M + 1 < M + 2; omega) v, k4.2⟩
theorem nodup_keys {u : ByteArray} {fs : List FM} (h : (fs.map (·.name)).Nodup) : (fs.map fun f => folderK u f.name).Nodup := by
  rw [List.Nodup, List.pairwise_map] at h ⊢
  exact h.imp fun h9 e => h9 (folderK_inj e)
def mkM (nx : Int) (S : SM) (f : ByteArray) : Int × Int × SM := if S.word.toList = [] then (15, nx, S) else if (lookF f S.fs).isSome = true then (9, nx, S) else if 9999 < nx then (6, nx, S) else (0, nx + 1, ⟨S.aside, S.word, putF ⟨f, nx, 1, []⟩ S.fs⟩)
/-- What a change on the desk must be, held against the list that is asked for. -/
def OpFits (L : List PM) (u : ByteArray) (q nx' : Int) (S' : SM) (A : List PM × Int) : Prop :=
  (q ≠ 0 → A = (L, q)) ∧ (q = 0 → 0 ≤ nx' ∧ nx' ≤ 10000 ∧ (∀ f ∈ S'.fs, FitF f) ∧ ∃ Y, UpL Y ∧ (deskP nx' u S').Perm Y ∧ Y.length ≤ 4000 ∧ A = fitsR L Y)
theorem fit_new {nm : ByteArray} {nx : Int} {fs : List FM} (hn : nm.size ≤ 1000) (h0 : 0 ≤ nx) (h1 : nx ≤ 10000) (hF : ∀ f ∈ fs, FitF f) : ∀ f ∈ putF ⟨nm, nx, 1, []⟩ fs, FitF f := fun f hf => by
  rcases putF_mem hf with hf | rfl
  · exact hF f hf
  · exact ⟨h0, h1, by show (0 : Int) ≤ 1; omega, by show (1 : Int) ≤ 10000; omega, hn, fun m hm => by cases hm⟩
theorem word_iff {L : List PM} {u : ByteArray} {S : SM} (h : storeB L = true) (hus : (47 : UInt8) ∉ u.data.toList) (hS : takeAll (nextM L) u S0 L = some S) : (S.word.toList = [] ↔ getM L (userK u) = none) ∧ S.word = (getM L (userK u)).getD e0 := by
  obtain ⟨S', k1, k2, _⟩ := take_all h hus
  rw [hS] at k1
  cases k1
  refine ⟨?_, k2⟩
  rw [k2]
  cases hv : getM L (userK u) with
  | none => exact ⟨fun _ => rfl, fun _ => by show (e0 : ByteArray).toList = []; rw [ByteArray.toList_eq]⟩
  | some v => exact ⟨fun h9 => absurd h9 (word_some h hus hv), fun h9 => by cases h9⟩
theorem look_iff {L : List PM} {u f : ByteArray} {S : SM} (h : storeB L = true) (hus : (47 : UInt8) ∉ u.data.toList) (hS : takeAll (nextM L) u S0 L = some S) (hf : (47 : UInt8) ∉ f.data.toList) : (lookF f S.fs).isSome = (metaM L u f).isSome ∧ (lookF f S.fs = none → ∀ x ∈ L, x.1 ≠ folderK u f) := by
  have hg := (store_facts h).1
  constructor
  · rw [Bool.eq_iff_iff]
    constructor
    · intro h1
      obtain ⟨g, hg1⟩ := Option.isSome_iff_exists.1 h1
      obtain ⟨w, k1, k2, _⟩ := look_known h hus hS hg1
      unfold metaM
      rw [(getM_mem hg.2.2).2 k1]
      exact k2
    · intro h1
      obtain ⟨p, hp⟩ := Option.isSome_iff_exists.1 h1
      obtain ⟨w, k1, _⟩ := (meta_iff hg.2.2).1 hp
      exact look_there h hus hS hf k1
  · intro h1 x hx e
    have h2 := look_there (w := x.2) h hus hS hf (by rw [← e]; exact hx)
    rw [h1] at h2
    cases h2
theorem mk_fits {L : List PM} {u f : ByteArray} {S S' : SM} {q nx' : Int} (h : storeB L = true) (hsu : shortB u = true) (hsf : shortB f = true) (hS : takeAll (nextM L) u S0 L = some S) (hQ : mkM (nextM L) S f = (q, nx', S')) : OpFits L u q nx' S' (mkR L u f) := by
  have hus := word_slash hsu
  have hfs := word_slash hsf
  obtain ⟨hg, nx0, hnm, n1, n2, _, _, _⟩ := store_facts h
  rw [hnm] at n1 n2
  obtain ⟨hwi, hwd⟩ := word_iff h hus hS
  obtain ⟨hli, hln⟩ := look_iff h hus hS hfs
  have hfz := short_size' hsf
  unfold mkM at hQ
  by_cases hw : S.word.toList = []
  · rw [if_pos hw] at hQ
    cases hQ
    have hk : knownR L u f = 15 := by unfold knownR; rw [hwi.1 hw]; rfl
    unfold mkR
    rw [hk, if_pos rfl]
    exact ⟨fun _ => rfl, fun h9 => by cases h9⟩
  · rw [if_neg hw] at hQ
    have hs : (getM L (userK u)).isSome = true := by
      cases hv : getM L (userK u) with
      | none => exact absurd (hwi.2 hv) hw
      | some v => rfl
    by_cases hl : (lookF f S.fs).isSome = true
    · rw [if_pos hl] at hQ
      cases hQ
      have hk : knownR L u f = 0 := by unfold knownR; rw [hs, ← hli, hl]; rfl
      unfold mkR
      rw [hk, if_neg (by decide), if_pos rfl]
      exact ⟨fun _ => rfl, fun h9 => by cases h9⟩
    · rw [if_neg hl] at hQ
      have hl0 : lookF f S.fs = none := by
        cases hv : lookF f S.fs with
        | none => rfl
        | some g => rw [hv] at hl; exact absurd rfl hl
      have hk : knownR L u f = 16 := by unfold knownR; rw [hs, ← hli, hl0]; rfl
      unfold mkR
      rw [hk, if_neg (by decide), if_neg (by decide)]
      unfold freshR
      by_cases hx : 9999 < nextM L
      · rw [if_pos hx] at hQ
        cases hQ
        rw [if_pos hx]
        exact ⟨fun _ => rfl, fun h9 => by cases h9⟩
      · rw [if_neg hx] at hQ
        cases hQ
        rw [if_neg hx]
        refine ⟨fun h9 => absurd rfl h9, fun _ => ⟨by omega, by omega, fit_new (by omega) (by omega) n2 (store_fit h hS), ?_⟩⟩
        refine ⟨_, ins_up (ins_up hg.2.2), fresh_perm hg.2.2 ?_ hl0 (hln hl0), ?_, rfl⟩
        · have h1 := rest_perm h hus hS
          unfold wordL at h1
          rw [if_neg hw] at h1
          exact h1
        · have a2 := (ins_len (k := vK) (v := bs (itoa (nextM L + 1))) hg.2.2).1
          have a3 := (ins_len (k := folderK u f) (v := metaT (nextM L) 1) (ins_up (k := vK) (v := bs (itoa (nextM L + 1))) hg.2.2)).1
          have := hg.1
          omega
end Go.Proofs.YthgbclipknfmjaaGreatDoor
namespace Go.Proofs.YthgbclipknfmjaaGreatDoor
open Go.ChangeShapes Go.WideShapes Go.ChangeAt Go.RowKit Go.Deep Go.Lib
open Go.ChangeMaps (setBlock)
set_option linter.unusedVariables false
set_option linter.unusedSimpArgs false
set_option maxRecDepth 100000

def dropX (k : ByteArray) : List FX → List FX
  | [] => []
  | x :: X => if x.k = k then X else x :: dropX k X
theorem dropX_some (k : ByteArray) (x : FX) (B : List FX) (hx : x.k = k) : ∀ A : List FX, (∀ z ∈ A, z.k ≠ k) → dropX k (A ++ x :: B) = A ++ B
  | [], _ => by rw [List.nil_append, dropX, if_pos hx]; rfl
  | z :: A, h => by
    rw [List.cons_append, dropX, if_neg (h z List.mem_cons_self), dropX_some k x B hx A (fun u hu => h u (List.mem_cons_of_mem _ hu))]
    rfl
theorem dropX_sub (k : ByteArray) : ∀ X : List FX, (dropX k X).Sublist X
  | [] => List.Sublist.refl _
  | x :: X => by
    unfold dropX
    split
    · exact List.sublist_cons_self _ _
    · exact (dropX_sub k X).cons_cons x
theorem View.drop {u n : ByteArray} : ∀ {X : List FX} {fs : List FM}, View u X fs → View u (dropX (folderK u n) X) (dropF n fs)
  | [], [], _ => rfl
  | [], _ :: _, h => by cases h
  | _ :: _, [], h => by cases h
  | x :: X, f :: fs, h => by
    unfold View at h
    simp only [List.map_cons, List.cons.injEq, Prod.mk.injEq] at h
    obtain ⟨⟨h1, h2⟩, h3⟩ := h
    have ih := View.drop (u := u) (n := n) (X := X) (fs := fs) h3
    unfold dropX dropF
    by_cases e : f.name = n
    · rw [if_pos e, if_pos (by rw [h1, e])]
      exact h3
    · rw [if_neg e, if_neg (fun e2 => e (folderK_inj (h1.symm.trans e2)))]
      unfold View at ih ⊢
      simp only [List.map_cons]
      rw [ih, h1, h2]
theorem run_del {w : World} {M clock : Nat} {X : List FX} (h : MapIs w M clock X) (k : ByteArray) (hx : (lookX k X).isSome = true) (ty : TypeId) :
    (Builtin.delete_ #[86, 9] ty #[.map (some M), .string k]).run Tryz.prog w = .ok (.tuple #[]) (setBlock w M (.map ((dropX k X).map entX).toArray clock)) ∧ MapIs (setBlock w M (.map ((dropX k X).map entX).toArray clock)) M clock (dropX k X) := by
  obtain ⟨hb, h2, h3⟩ := h
  have hlt : M < w.heap.size := (Array.getElem?_eq_some_iff.1 hb).1
  constructor
  · obtain ⟨x, hl⟩ := Option.isSome_iff_exists.1 hx
    obtain ⟨A, B, rfl, k3, k4⟩ := lookX_some hl
    have h1 := MapKept.run_findKey (P := Tryz.prog) (w := w) Tryz.underlying9 (find_yes k x B k4 A 0 k3)
    have e : ((A ++ B).map entX).toArray = ((A ++ x :: B).map entX).toArray.eraseIdxIfInBounds (0 + A.length) := by
      unfold Array.eraseIdxIfInBounds
      rw [dif_pos (by simp)]
      apply Array.ext'
      rw [Array.toList_eraseIdx]
      simp [List.eraseIdx_append_of_length_le]
    rw [dropX_some k x B k4 A k3, e]
    generalize (A ++ x :: B).map entX = E at hb h1 ⊢
    simp [Builtin.delete_, run_underlying Tryz.underlying86, MapKept.run_getObj_map hb, MapKept.run_checkKey (P := Tryz.prog) Tryz.underlying9 (isKeyS k), h1, MapKept.run_setObj_map _ hb, Result.andThen, setBlock]
  · refine ⟨sb_same _ _ _ hlt, fun z hz => h2 z ((dropX_sub k X).subset hz), ?_⟩
    exact h3.sublist ((dropX_sub k X).map _)
theorem rows_drop {w : World} {M : Nat} {X : List FX} (h : Rows w M X) (k : ByteArray) : Rows w M (dropX k X) := ⟨fun x hx => h.1 x ((dropX_sub k X).subset hx), h.2.sublist (dropX_sub k X)⟩
def dropM (nx : Int) (S : SM) (f : ByteArray) : Int × Int × SM := if S.word.toList = [] then (15, nx, S) else if (lookF f S.fs).isSome = false then (16, nx, S) else if f = inboxT then (11, nx, S) else (0, nx, ⟨S.aside, S.word, dropF f S.fs⟩)
theorem dropF_sub (n : ByteArray) : ∀ fs : List FM, (dropF n fs).Sublist fs
  | [] => List.Sublist.refl _
  | x :: X => by
    unfold dropF
    split
    · exact List.sublist_cons_self _ _
    · exact (dropF_sub n X).cons_cons x
end Go.Proofs.YthgbclipknfmjaaGreatDoor
namespace Go.Proofs.YthgbclipknfmjaaGreatDoor
open Go.ChangeShapes Go.WideShapes Go.ChangeAt Go.RowKit Go.Deep Go.Lib
set_option linter.unusedVariables false
set_option linter.unusedSimpArgs false
set_option maxRecDepth 100000

theorem ins_same {k v : ByteArray} {L : List PM} (hu : UpL L) (h : (k, v) ∈ L) : insL k v L = L := by
  refine up_mem (ins_up hu) hu fun q => ⟨fun hq => ?_, fun hq => ?_⟩
  · rcases ins_mem hu hq with rfl | hq
    · exact h
    · exact hq.1
  · refine (ins_perm hu).mem_iff.2 ?_
    by_cases e : q.1 = k
    · have h2 : (k, q.2) ∈ L := by rw [← e]; exact hq
      have h3 := key_one hu h h2
      rw [h3]
      exact List.mem_cons.2 (.inl (Prod.ext e rfl))
    · exact List.mem_cons_of_mem _ (List.mem_filter.2 ⟨hq, decide_eq_true e⟩)
theorem split_k {k v : ByteArray} {L : List PM} (hu : UpL L) (h : (k, v) ∈ L) : L.Perm ((k, v) :: notK k L) := by
  have h1 := ins_perm (k := k) (v := v) hu
  rw [ins_same hu h] at h1
  exact h1
theorem v_mem {L : List PM} (h : storeB L = true) : (vK, bs (itoa (nextM L))) ∈ L := by
  obtain ⟨hg, nx0, hnm, n1, n2, _, _, _⟩ := store_facts h
  rw [hnm] at n1
  have h9 : nextM L = nextM L := rfl
  unfold nextM at n1 ⊢
  cases hv : getM L vK with
  | none => rw [hv] at n1; exact absurd n1 (by show ¬ (1 : Int) ≤ 0; omega)
  | some v =>
    rw [hv] at n1
    simp only [Option.bind_some] at n1 ⊢
    cases hn : numB v.data.toList with
    | none => rw [hn] at n1; exact absurd n1 (by show ¬ (1 : Int) ≤ 0; omega)
    | some x =>
      have h1 := (is_of_num hn).1
      have h2 : bs (itoa ((some x).getD 0)) = v := by
        refine bs_inj ?_
        show (bs (itoa x)).data.toList = _
        rw [h1]
        simp [bs]
      rw [h2]
      exact (getM_mem hg.2.2).1 hv
theorem seg_inj : ∀ {a b x y : List UInt8}, (47 : UInt8) ∉ a → (47 : UInt8) ∉ b → a ++ 47 :: x = b ++ 47 :: y → a = b ∧ x = y
  | [], [], x, y, _, _, h => by simpa using h
  | [], c :: b, x, y, _, hb, h => by
    simp only [List.nil_append, List.cons_append, List.cons.injEq] at h
    exact absurd (by rw [h.1]; exact List.mem_cons_self) hb
  | c :: a, [], x, y, ha, _, h => by
    simp only [List.nil_append, List.cons_append, List.cons.injEq] at h
    exact absurd (by rw [← h.1]; exact List.mem_cons_self) ha
  | c :: a, d :: b, x, y, ha, hb, h => by
    simp only [List.cons_append, List.cons.injEq] at h
    obtain ⟨h1, h2⟩ := seg_inj (fun h9 => ha (List.mem_cons_of_mem _ h9)) (fun h9 => hb (List.mem_cons_of_mem _ h9)) h.2
    exact ⟨by rw [h.1, h1], h2⟩
theorem names_take {nx : Int} {u : ByteArray} {S S' : SM} {q : PM} (hS : (S.fs.map (·.name)).Nodup) (h : takeM nx u S q = some S') : (S'.fs.map (·.name)).Nodup := by
  have hput : ∀ {o : Option FM}, putM S o = some S' → (S'.fs.map (·.name)).Nodup := fun {o} h9 => by
    unfold putM at h9
    obtain ⟨g, rfl, rfl⟩ := Option.map_eq_some_iff.1 h9
    exact putF_names hS
  have haside : asideM S q = some S' → (S'.fs.map (·.name)).Nodup := fun h9 => by cases h9; exact hS
  unfold takeM takeP at h
  split at h
  · split at h
    · unfold userM at h
      obtain ⟨_, rfl⟩ := ite_some h
      exact hS
    · exact haside h
  · split at h
    · exact hput h
    · exact haside h
  · split at h
    · exact hput h
    · exact haside h
  · exact haside h
theorem names_all {nx : Int} {u : ByteArray} : ∀ {L : List PM} {S S' : SM}, (S.fs.map (·.name)).Nodup → takeAll nx u S L = some S' → (S'.fs.map (·.name)).Nodup
  | [], S, S', hS, h => by cases h; exact hS
  | q :: L, S, S', hS, h => by
    unfold takeAll at h
    obtain ⟨S1, h1, h2⟩ := Option.bind_eq_some_iff.1 h
    exact names_all (names_take hS h1) h2
theorem look_mem' {f : FM} : ∀ {fs : List FM}, f ∈ fs → (lookF f.name fs).isSome = true
  | [], h => by cases h
  | g :: fs, h => by
    unfold lookF
    by_cases e : g.name = f.name
    · rw [if_pos e]; rfl
    · rw [if_neg e]
      rcases List.mem_cons.1 h with rfl | h
      · exact absurd rfl e
      · exact look_mem' h
theorem drop_names {n : ByteArray} : ∀ {fs : List FM}, (fs.map (·.name)).Nodup → ∀ g ∈ dropF n fs, g.name ≠ n
  | [], _, g, h => by cases h
  | f :: fs, hn, g, h => by
    rw [List.map_cons, List.nodup_cons] at hn
    unfold dropF at h
    by_cases e : f.name = n
    · rw [if_pos e] at h
      exact fun e2 => hn.1 (List.mem_map.2 ⟨g, h, by rw [e2, e]⟩)
    · rw [if_neg e] at h
      rcases List.mem_cons.1 h with rfl | h
      · exact e
      · exact drop_names hn.2 g h
theorem name_short {L : List PM} {u : ByteArray} {S : SM} (h : storeB L = true) (hus : (47 : UInt8) ∉ u.data.toList) (hS : takeAll (nextM L) u S0 L = some S) {g : FM} (hg : g ∈ S.fs) : shortB g.name = true := by
  obtain ⟨g2, h2⟩ := Option.isSome_iff_exists.1 (look_mem' hg)
  obtain ⟨w, _, _, k⟩ := look_known h hus hS h2
  exact k
/-- What a drop of a folder leaves. -/
def passB (u f : ByteArray) (p : PM) : Bool := decide (p.1 ≠ folderK u f) && !beginsB p.1 (preK u f)
theorem begins_pre {u f k : ByteArray} : beginsB k (preK u f) = true ↔ ∃ r, k.data.toList = 109 :: 47 :: (u.data.toList ++ 47 :: (f.data.toList ++ 47 :: r)) := by
  rw [begins_iff, preK_data]
  constructor
  · rintro ⟨r, h⟩
    exact ⟨r, by rw [h]; simp⟩
  · rintro ⟨r, h⟩
    exact ⟨r, by rw [h]; simp⟩
theorem drop_eq (L : List PM) (u f : ByteArray) : notK (folderK u f) (emptyR L u f) = L.filter (passB u f) := by
  unfold notK emptyR
  rw [List.filter_filter]
  rfl
theorem aside_pass {L : List PM} {u f : ByteArray} {S : SM} (h : storeB L = true) (hus : (47 : UInt8) ∉ u.data.toList) (hfs : (47 : UInt8) ∉ f.data.toList) (hS : takeAll (nextM L) u S0 L = some S) {p : PM} (hp : p ∈ notK vK S.aside) : passB u f p = true := by
  obtain ⟨h1, h2⟩ := notK_sub hp
  rw [all_aside hS] at h1
  have h3 : p ∈ L.filter fun p => !isOwn u p := by simpa using h1
  obtain ⟨h4, h5⟩ := List.mem_filter.1 h3
  have h6 : ownerM p ≠ some u := by simpa using h5
  obtain ⟨_, nx0, _, _, _, _, _, k⟩ := store_facts h
  rcases k _ h4 with k | ⟨u', k1, _⟩
  · exact absurd k h2
  · unfold passB
    rw [Bool.and_eq_true, decide_eq_true_eq]
    constructor
    · intro e
      have h7 : ownerM (folderK u f, p.2) = some u := owner_folder hus hfs
      exact h6 (by rw [← h7]; unfold ownerM; rw [e])
    · cases hb : beginsB p.1 (preK u f) with
      | false => rfl
      | true =>
        exfalso
        obtain ⟨r, hr⟩ := begins_pre.1 hb
        have hsp : splitL 47 p.1.data.toList = [109] :: u.data.toList :: f.data.toList :: splitL 47 r := by
          rw [hr]
          have e : (109 : UInt8) :: 47 :: (u.data.toList ++ 47 :: (f.data.toList ++ 47 :: r)) = [109] ++ 47 :: (u.data.toList ++ 47 :: (f.data.toList ++ 47 :: r)) := rfl
          rw [e, splitL_seg 47 [109] _ (by decide), splitL_seg 47 _ _ hus, splitL_seg 47 _ _ hfs]
        unfold ownerM at k1 h6
        rw [hsp] at k1 h6
        match hq : splitL 47 r, k1, h6 with
        | [], k1, h6 => exact absurd hq (splitL_ne 47 r)
        | [d], k1, h6 =>
          refine h6 ?_
          show (if ([109] : List UInt8) = [109] then some (bs u.data.toList) else none) = some u
          rw [if_pos rfl, data_bs]
        | _ :: _ :: _, k1, h6 => cases k1
theorem rest_pass {u f : ByteArray} {fs : List FM} (hus : (47 : UInt8) ∉ u.data.toList) (hfs : (47 : UInt8) ∉ f.data.toList) (hn : ∀ g ∈ fs, g.name ≠ f ∧ (47 : UInt8) ∉ g.name.data.toList) : (flatF u fs).filter (passB u f) = flatF u fs := by
  rw [List.filter_eq_self]
  intro p hp
  obtain ⟨g, hg, hpg⟩ := flat_mem hp
  obtain ⟨k1, k2⟩ := hn g hg
  unfold fPairs at hpg
  unfold passB
  rw [Bool.and_eq_true, decide_eq_true_eq]
  rcases List.mem_cons.1 hpg with rfl | hpg
  · refine ⟨fun e => k1 (folderK_inj e), ?_⟩
    cases hb : beginsB (folderK u g.name) (preK u f) with
    | false => rfl
    | true =>
      obtain ⟨r, hr⟩ := begins_pre.1 hb
      rw [folderK_data] at hr
      simp at hr
  · obtain ⟨m, _, rfl⟩ := List.mem_map.1 hpg
    refine ⟨fun e => ?_, ?_⟩
    · have h9 := congrArg (fun x : ByteArray => x.data.toList) e
      simp only [mailP, folderK_data] at h9
      simp [bs] at h9
    · cases hb : beginsB (mailP u g.name m).1 (preK u f) with
      | false => rfl
      | true =>
        exfalso
        obtain ⟨r, hr⟩ := begins_pre.1 hb
        have hr2 : 109 :: 47 :: (u.data.toList ++ 47 :: (g.name.data.toList ++ 47 :: d3 m.1.toNat)) = 109 :: 47 :: (u.data.toList ++ 47 :: (f.data.toList ++ 47 :: r)) := by
          rw [← hr]
          simp [mailP, bs]
        simp only [List.cons.injEq, true_and] at hr2
        obtain ⟨_, h2⟩ := seg_inj hus hus hr2
        obtain ⟨h3, _⟩ := seg_inj k2 hfs h2
        exact k1 (bs_inj h3)
theorem gone_pass {u f : ByteArray} {g : FM} (hg : g.name = f) : (fPairs u g).filter (passB u f) = [] := by
  rw [List.filter_eq_nil_iff]
  intro p hp
  unfold fPairs at hp
  unfold passB
  rcases List.mem_cons.1 hp with rfl | hp
  · rw [hg]; simp
  · obtain ⟨m, _, rfl⟩ := List.mem_map.1 hp
    have hb : beginsB (mailP u g.name m).1 (preK u f) = true := begins_pre.2 ⟨d3 m.1.toNat, by rw [hg]; simp [mailP, bs]⟩
    rw [hb]
    simp
theorem desk_list {L : List PM} {u : ByteArray} {S : SM} (h : storeB L = true) (hus : (47 : UInt8) ∉ u.data.toList) (hS : takeAll (nextM L) u S0 L = some S) (hw : S.word.toList ≠ []) : L.Perm ((vK, bs (itoa (nextM L))) :: (userK u, S.word) :: (notK vK S.aside ++ flatF u S.fs)) := by
  refine (split_k (store_facts h).1.2.2 (v_mem h)).trans (List.Perm.cons _ ?_)
  have h1 := rest_perm h hus hS
  unfold wordL at h1
  rw [if_neg hw] at h1
  exact h1
theorem drop_fits {L : List PM} {u f : ByteArray} {S S' : SM} {q nx' : Int} (h : storeB L = true) (hsu : shortB u = true) (hsf : shortB f = true) (hS : takeAll (nextM L) u S0 L = some S) (hQ : dropM (nextM L) S f = (q, nx', S')) : OpFits L u q nx' S' (dropR L u f) := by
  have hus := word_slash hsu
  have hfs := word_slash hsf
  obtain ⟨hg, nx0, hnm, n1, n2, _, _, _⟩ := store_facts h
  rw [hnm] at n1 n2
  obtain ⟨hwi, hwd⟩ := word_iff h hus hS
  obtain ⟨hli, hln⟩ := look_iff h hus hS hfs
  unfold dropM at hQ
  by_cases hw : S.word.toList = []
  · rw [if_pos hw] at hQ
    cases hQ
    have hk : knownR L u f = 15 := by unfold knownR; rw [hwi.1 hw]; rfl
    unfold dropR
    rw [hk, if_pos (by decide)]
    exact ⟨fun _ => rfl, fun h9 => by cases h9⟩
  · rw [if_neg hw] at hQ
    have hs : (getM L (userK u)).isSome = true := by
      cases hv : getM L (userK u) with
      | none => exact absurd (hwi.2 hv) hw
      | some v => rfl
    by_cases hl : (lookF f S.fs).isSome = false
    · rw [if_pos hl] at hQ
      cases hQ
      have hk : knownR L u f = 16 := by unfold knownR; rw [hs, ← hli, hl]; rfl
      unfold dropR
      rw [hk, if_pos (by decide)]
      exact ⟨fun _ => rfl, fun h9 => by cases h9⟩
    · rw [if_neg hl] at hQ
      have hl1 : (lookF f S.fs).isSome = true := by
        cases h9 : (lookF f S.fs).isSome with
        | true => rfl
        | false => exact absurd h9 hl
      have hk : knownR L u f = 0 := by unfold knownR; rw [hs, ← hli, hl1]; rfl
      unfold dropR
      rw [hk, if_neg (by decide)]
      by_cases hi : f = inboxT
      · rw [if_pos hi] at hQ
        cases hQ
        rw [if_pos hi]
        exact ⟨fun _ => rfl, fun h9 => by cases h9⟩
      · rw [if_neg hi] at hQ
        cases hQ
        rw [if_neg hi]
        obtain ⟨g, hgl⟩ := Option.isSome_iff_exists.1 hl1
        have hnd := names_all (S := S0) List.nodup_nil hS
        refine ⟨fun h9 => absurd rfl h9, fun _ => ⟨by omega, n2, fun x hx => store_fit h hS x ((dropF_sub f S.fs).subset hx), ?_⟩⟩
        have hlen : (notK (folderK u f) (emptyR L u f)).length ≤ 60 := by
          rw [drop_eq]
          exact Nat.le_trans (List.length_filter_le _ _) hg.1
        refine ⟨notK (folderK u f) (emptyR L u f), ?_, ?_, by omega, ?_⟩
        · rw [drop_eq]
          exact hg.2.2.sublist List.filter_sublist
        · rw [drop_eq]
          refine List.Perm.symm ?_
          refine ((desk_list h hus hS hw).filter _).trans ?_
          have e1 : passB u f (vK, bs (itoa (nextM L))) = true := by
            unfold passB
            rw [Bool.and_eq_true, decide_eq_true_eq]
            refine ⟨(folder_not u f).symm, ?_⟩
            cases hb : beginsB vK (preK u f) with
            | false => rfl
            | true =>
              obtain ⟨r, hr⟩ := begins_pre.1 hb
              simp at hr
          have e2 : passB u f (userK u, S.word) = true := by
            unfold passB
            rw [Bool.and_eq_true, decide_eq_true_eq]
            refine ⟨fun e => ?_, ?_⟩
            · have h9 := congrArg (fun x : ByteArray => x.data.toList) e
              simp [ByteArray.data_append] at h9
            · cases hb : beginsB (userK u) (preK u f) with
              | false => rfl
              | true =>
                obtain ⟨r, hr⟩ := begins_pre.1 hb
                simp [ByteArray.data_append] at hr
          rw [List.filter_cons_of_pos e1, List.filter_cons_of_pos e2, List.filter_append]
          have e3 : (notK vK S.aside).filter (passB u f) = notK vK S.aside := by
            rw [List.filter_eq_self]
            exact fun p hp => aside_pass h hus hfs hS hp
          rw [e3]
          unfold deskP
          refine List.Perm.cons _ (List.Perm.cons _ (List.Perm.append_left _ ?_))
          refine ((flat_perm (drop_perm hgl)).filter _).trans ?_
          rw [flat_cons, List.filter_append, gone_pass (lookF_mem hgl).2, List.nil_append, rest_pass hus hfs fun x hx => ⟨drop_names hnd x hx, word_slash (name_short h hus hS ((dropF_sub f S.fs).subset hx))⟩]
        · unfold fitsR
          rw [if_neg (by omega)]
end Go.Proofs.YthgbclipknfmjaaGreatDoor
