/-
  Sdr Mlk in one. By an AI agent.
-/
import Derived.Test.YtddnecljdecamaaGreatDoorQ21
import Derived.Test.YtddnecljdecamaaGreatDoorQ06
namespace Go.Proofs.YtddnecljdecamaaGreatDoor
open Go.ChangeShapes Go.WideShapes Go.ChangeAt Go.RowKit Go.Deep Go.Lib
set_option linter.unusedVariables false
set_option linter.unusedSimpArgs false
set_option maxRecDepth 100000

/-- Of the first k pairs those whose keys are others. -/
def dropTo (f g : Nat → ByteArray) (key : ByteArray) (k : Nat) : List (ByteArray × ByteArray) := ((List.range k).filter fun i => (f i).toList != key.toList).map fun i => (f i, g i)
theorem dropTo_hit (f g : Nat → ByteArray) (key : ByteArray) (k : Nat) (h : ((f k).toList != key.toList) = true) : dropTo f g key (k + 1) = dropTo f g key k ++ [(f k, g k)] := by
  simp [dropTo, List.range_succ, List.filter_append, h]
theorem dropTo_miss (f g : Nat → ByteArray) (key : ByteArray) (k : Nat) (h : ((f k).toList != key.toList) = false) : dropTo f g key (k + 1) = dropTo f g key k := by
  simp [dropTo, List.range_succ, List.filter_append, h]
theorem dropTo_le (f g : Nat → ByteArray) (key : ByteArray) (k : Nat) : (dropTo f g key k).length ≤ k := by
  unfold dropTo
  rw [List.length_map]
  have := List.length_filter_le (fun i => (f i).toList != key.toList) (List.range k)
  rw [List.length_range] at this
  exact this
set_option maxHeartbeats 1000000 in
theorem l01Drop (a : Option Addr) (n c : Nat) (f g : Nat → ByteArray) (key : ByteArray) (w : World) (hn : n ≤ 4096) (h : Sp w a n f g) :
    Calls Tryz.prog 118 #[.slice a n c, .string key] w fun e w' => ∃ v, e = .returned v ∧ OwnsP w' w.heap.size v (dropTo f g key n) ∧ Below w.heap.size w w' := by
  obtain ⟨i0, hi, hz0, hz1, hz2⟩ := infoPair'
  have HH : Hid (Sp w a n f g) := h
  have HI : Hid (Tryz.prog.info? 68 = some i0) := hi
  have HZ0 : Hid (i0.zero = some (.agg #[.string ⟨#[]⟩, .string ⟨#[]⟩])) := hz0
  have HZ1 : Hid (i0.size = 2) := hz1
  have HZ2 : Hid (i0.bytes = 32) := hz2
  clear h hi hz0 hz1 hz2
  go_enter Tryz.func118, Tryz.ntmps118
  go_wp2_with fail
  go_loopw [5, 6] (fun v i wr => ∃ k : Nat, k ≤ n ∧ i = .int .i64 k ∧ Hid (OwnsP wr w.heap.size v (dropTo f g key k)) ∧ Hid (Below w.heap.size w wr)) (fun _ i _ => n - (RowKit.intOf i).toNat)
  case atStart => exact ⟨0, by omega, rfl, OwnsP.made w _ (Nat.le_refl _), (Below.refl _ _).alloc (Nat.le_refl _) _⟩
  case round =>
    obtain ⟨k, hk, rfl, ho, hb⟩ := hrel
    by_cases hlt : k < n
    · rcases HH.out.below hb.out with h1 | ⟨b, off, rfl, hc⟩
      · omega
      obtain ⟨hc1, hc2⟩ := hc k hlt
      clear hc
      cases hbg : ((f k).toList == key.toList) with
      | true =>
        have E : Hid (dropTo f g key (k + 1) = dropTo f g key k) := dropTo_miss f g key k (by rw [bne, hbg]; rfl)
        go_wp2_with fail
        exact ⟨⟨k + 1, by omega, by go_num, by rw [E.out]; exact ho, hb⟩, by simp [RowKit.intOf]; omega⟩
      | false =>
        have E : Hid (dropTo f g key (k + 1) = dropTo f g key k ++ [(f k, g k)]) := dropTo_hit f g key k (by rw [bne, hbg]; rfl)
        have hle := dropTo_le f g key k
        go_wp2_with (at_builtin; refine wpList_append_own _ rfl _ _ 23 rfl w.heap.size 68 i0 (.agg #[.string ⟨#[]⟩, .string ⟨#[]⟩]) 2 32 Tryz.underlying23 HI.out HZ0.out HZ1.out HZ2.out rfl (by decide) _ _ _ rfl (ho.out.alloc _) ⟨wr.heap.size, 0, none⟩ 1 1 [.string (f k), .string (g k)] rfl rfl (two_newP wr (f k) (g k)) (two_oneP (f k) (g k)) ?c3 ?c4 (le_alloc hb.out.size _) ?_)
        case c3 => unfold maxLen; omega
        case c4 => omega
        intro v' w1 hown hgrow _
        have HO : Hid (OwnsP w1 w.heap.size v' (dropTo f g key (k + 1))) := by
          show OwnsP w1 w.heap.size v' (dropTo f g key (k + 1))
          rw [E.out]
          exact OwnsP.one hown
        have HB1 : Hid (Below w.heap.size w w1) := (hb.out.alloc hb.out.size _).grown hgrow (le_alloc hb.out.size _) ho.out.block
        clear hown hgrow
        go_wp2_with fail
        exact ⟨⟨k + 1, by omega, by go_num, HO, HB1⟩, by simp [RowKit.intOf]; omega⟩
    · have hkn : k = n := by omega
      subst hkn
      go_wp2_with fail
      go_ret
      exact ⟨_, rfl, ho.out, hb.out⟩

theorem dropTo_is (L : List PM) (k : ByteArray) : ∀ n, n ≤ L.length → dropTo (fK L) (fV L) k n = notK k (L.take n)
  | 0, _ => by simp [dropTo, notK]
  | n + 1, h => by
    have ih := dropTo_is L k n (by omega)
    have hn : n < L.length := by omega
    rw [notK_take k L n hn, ← ih]
    by_cases e : (L.getD n p0).1 = k
    · rw [if_pos e, List.append_nil]
      exact dropTo_miss _ _ _ _ (by show ((L.getD n p0).1.toList != k.toList) = false; rw [e]; simp)
    · rw [if_neg e]
      exact dropTo_hit _ _ _ _ (by show ((L.getD n p0).1.toList != k.toList) = true; simpa using fun h9 => e (toList_inj h9))
theorem l01DropM (a : Option Addr) (n c : Nat) (L : List PM) (key : ByteArray) (w : World) (hL : L.length = n) (hn : n ≤ 4096) (h : Src w a (cellsP L)) :
    Calls Tryz.prog 118 #[.slice a n c, .string key] w fun e w' => ∃ a2 n2 c2, e = .returned (.slice a2 n2 c2) ∧ (notK key L).length = n2 ∧ Src w' a2 (cellsP (notK key L)) ∧ Below w.heap.size w w' := by
  refine (l01Drop a n c (fK L) (fV L) key w hn (sp_src h hL)).mono ?_
  rintro e w' ⟨v, rfl, ho, hb⟩
  have e1 : dropTo (fK L) (fV L) key n = notK key L := by
    rw [dropTo_is L key n (by omega), List.take_of_length_le (by omega)]
  rw [e1] at ho
  have ho2 : w'.ownsRow w.heap.size 68 2 v (notK key L).length (cellsP (notK key L)) := ho
  obtain ⟨a2, c2, rfl, hs, _⟩ := own_src ho2
  exact ⟨a2, _, c2, rfl, rfl, hs, hb⟩
theorem l01DropN (a : Option Addr) (n c : Nat) (L : List PM) (key : ByteArray) (w : World) (hL : L.length = n) (hn : n ≤ 4096) (h : Src w a (cellsP L)) :
    Calls Tryz.prog 118 #[.slice a n c, .string key] w fun e w' => ∃ a2 n2 c2, e = .returned (.slice a2 n2 c2) ∧ LenC (notK key L) n2 c2 ∧ Src w' a2 (cellsP (notK key L)) ∧ Below w.heap.size w w' := by
  refine (l01Drop a n c (fK L) (fV L) key w hn (sp_src h hL)).mono ?_
  rintro e w' ⟨v, rfl, ho, hb⟩
  have e1 : dropTo (fK L) (fV L) key n = notK key L := by
    rw [dropTo_is L key n (by omega), List.take_of_length_le (by omega)]
  rw [e1] at ho
  have ho2 : w'.ownsRow w.heap.size 68 2 v (notK key L).length (cellsP (notK key L)) := ho
  obtain ⟨a2, c2, rfl, hs, _⟩ := own_src ho2
  exact ⟨a2, _, c2, rfl, ⟨rfl, own_capx ho2⟩, hs, hb⟩
theorem under_is (L : List PM) (k : ByteArray) : ∀ n, n ≤ L.length → under (fK L) (fV L) k n = (L.take n).filter fun x => beginsB x.1 k := by
  intro n
  induction n with
  | zero => intro _; rfl
  | succ n ih =>
    intro hn
    have h1 := ih (by omega)
    have hlt : n < L.length := by omega
    rw [List.take_add_one, List.getElem?_eq_getElem hlt, List.filter_append]
    cases hb : beginsB (fK L n) k with
    | true =>
      rw [under_hit _ _ _ _ hb, h1, (at_fst hlt).1, (at_fst hlt).2]
      rw [(at_fst hlt).1] at hb
      simp [hb]
    | false =>
      rw [under_miss _ _ _ _ hb, h1]
      rw [(at_fst hlt).1] at hb
      simp [hb]
abbrev preK (u f : ByteArray) : ByteArray := (((⟨#[109, 47]⟩ ++ u) ++ ⟨#[47]⟩) ++ f) ++ ⟨#[47]⟩
theorem preK_data (u f : ByteArray) : (preK u f).data.toList = 109 :: 47 :: (u.data.toList ++ 47 :: (f.data.toList ++ [47])) := by
  simp [ByteArray.data_append]
theorem preK_size (u f : ByteArray) : (preK u f).size = u.size + f.size + 4 := by
  rw [ByteArray.size_append, ByteArray.size_append, ByteArray.size_append, ByteArray.size_append]
  show 2 + u.size + 1 + f.size + 1 = _
  omega
set_option maxHeartbeats 1000000 in
theorem l07MailsS (u f : ByteArray) (w : World) (hu : u.size ≤ 1000) (hf : f.size ≤ 1000) : Calls Tryz.prog 132 #[.string u, .string f] w fun e w' => e = .returned (.string (preK u f)) ∧ w' = w := by
  go_enter Tryz.func132, Tryz.ntmps132
  go_wp2_with fail
  go_ret
  exact ⟨rfl, rfl⟩
/-- What is left where the first mails are gone. -/
def lessTo (L U : List PM) (j : Nat) : List PM := L.filter fun p => (U.take j).all fun x => decide (p.1 ≠ x.1)
theorem less_step (L U : List PM) (j : Nat) (hj : j < U.length) : notK (U.getD j p0).1 (lessTo L U j) = lessTo L U (j + 1) := by
  unfold lessTo notK
  rw [List.filter_filter, List.take_add_one, List.getD_eq_getElem?_getD, List.getElem?_eq_getElem hj]
  refine List.filter_congr fun p _ => ?_
  simp only [Option.toList_some, Option.getD_some, List.all_append, List.all_cons, List.all_nil, Bool.and_true]
  rw [Bool.and_comm]
def emptyR (L : List PM) (u f : ByteArray) : List PM := L.filter fun p => !beginsB p.1 (preK u f)
theorem less_end (L : List PM) (k : ByteArray) : lessTo L (L.filter fun x => beginsB x.1 k) (L.filter fun x => beginsB x.1 k).length = L.filter fun p => !beginsB p.1 k := by
  unfold lessTo
  rw [List.take_of_length_le (Nat.le_refl _)]
  refine List.filter_congr fun p hp => ?_
  rw [Bool.eq_iff_iff, List.all_eq_true]
  constructor
  · intro h
    cases hb : beginsB p.1 k with
    | false => rfl
    | true => exact absurd rfl (of_decide_eq_true (h p (List.mem_filter.2 ⟨hp, hb⟩)))
  · intro h x hx
    refine decide_eq_true fun e => ?_
    have hb := (List.mem_filter.1 hx).2
    rw [← e] at hb
    rw [hb] at h
    cases h
theorem less_len (L U : List PM) (j : Nat) : (lessTo L U j).length ≤ L.length := List.length_filter_le _ _
set_option maxHeartbeats 2000000 in
theorem l07EmptyS (a : Option Addr) (n c : Nat) (L : List PM) (hL : L.length = n) (hg : GoodL L) (u f : ByteArray) (hus : u.size ≤ 1000) (hfs : f.size ≤ 1000) (w : World) (h : Src w a (cellsP L)) :
    Calls Tryz.prog 121 #[.slice a n c, .string u, .string f] w fun e w' => ∃ a2 n2 c2, e = .returned (.slice a2 n2 c2) ∧ (emptyR L u f).length = n2 ∧ Src w' a2 (cellsP (emptyR L u f)) ∧ Below w.heap.size w w' := by
  have hn60 := hg.1
  rw [hL] at hn60
  have CM := fun W => l07MailsS u f W hus hfs
  have hpz := preK_size u f
  have CU := fun W (hW : Below w.heap.size w W) => l01Under a n c (fK L) (fV L) (preK u f) W (by omega) (by omega) (fun i hi => by
    have hi2 : i < L.length := by omega
    obtain ⟨e1, e2⟩ := at_fst hi2
    rw [e1, e2]
    have := hg.2.1 _ (List.getElem_mem hi2)
    omega) (sp_src (h.below hW) hL)
  have eU : under (fK L) (fV L) (preK u f) n = L.filter fun x => beginsB x.1 (preK u f) := by
    rw [under_is L (preK u f) n (by omega), List.take_of_length_le (by omega)]
  simp only [eU] at CU
  have HE : Hid (lessTo L (L.filter fun x => beginsB x.1 (preK u f)) (L.filter fun x => beginsB x.1 (preK u f)).length = emptyR L u f) := less_end L (preK u f)
  have hul : (L.filter fun x => beginsB x.1 (preK u f)).length ≤ L.length := List.length_filter_le _ _
  obtain ⟨U, hU⟩ : ∃ t, (L.filter fun x => beginsB x.1 (preK u f)) = t := ⟨_, rfl⟩
  simp only [hU] at CU
  rw [hU] at HE hul
  obtain ⟨m, hm⟩ : ∃ t, U.length = t := ⟨_, rfl⟩
  rw [hm] at HE hul
  have hmb : m ≤ 60 := by rw [hL] at hul; omega
  have HUM : Hid (U.length = m) := hm
  obtain ⟨KP, hKP⟩ : ∃ t, preK u f = t := ⟨_, rfl⟩
  simp only [hKP] at CM CU
  have HLN : Hid (L.length = n) := hL
  have HLL : Hid (∀ j, (lessTo L U j).length ≤ n) := fun j => by rw [← hL]; exact less_len L U j
  have H0 : Hid ((lessTo L U 0).length = n ∧ Src w a (cellsP (lessTo L U 0))) := by
    have e : lessTo L U 0 = L := by
      unfold lessTo
      rw [List.filter_eq_self]
      intro p _
      rfl
    rw [e]
    exact ⟨hL, h⟩
  obtain ⟨ER, hER⟩ : ∃ t, emptyR L u f = t := ⟨_, rfl⟩
  rw [hER] at HE ⊢
  clear hL hg h eU hU hm hKP hpz hER hul
  go_enter Tryz.func121, Tryz.ntmps121
  go_wp2_with fail
  refine (CM _).mono ?_
  rintro e w1 ⟨rfl, hw1⟩
  obtain rfl := hw1
  clear CM
  go_wp2_with fail
  refine (CU _ (Below.refl _ _)).mono ?_
  rintro e w2 ⟨v2, rfl, ho2, hb2⟩
  have ho3 : w2.ownsRow w1.heap.size 68 2 v2 U.length (cellsP U) := ho2
  rw [HUM.out] at ho3
  obtain ⟨au, cu, rfl, hsu, _⟩ := own_src ho3
  have B2 : Hid (Below w1.heap.size w1 w2) := hb2
  have HSU : Hid (Src w2 au (cellsP U)) := hsu
  clear CU ho2 ho3 hb2 hsu
  go_wp2_with fail
  go_loopw [8, 9] (fun v iv wr => ∃ (j n' : Nat) (a' : Option Addr) (c' : Nat), j ≤ m ∧ n' ≤ n ∧ v = .slice a' n' c' ∧ iv = .int .i64 (j : Int) ∧ Hid ((lessTo L U j).length = n') ∧ Hid (Src wr a' (cellsP (lessTo L U j))) ∧ Hid (Below w1.heap.size w1 wr) ∧ Hid (Below w2.heap.size w2 wr)) (fun _ i _ => m - (RowKit.intOf i).toNat)
  case atStart => exact ⟨0, n, a, c, Nat.zero_le _, Nat.le_refl _, rfl, rfl, H0.out.1, H0.out.2.below B2.out, B2.out, Below.refl _ _⟩
  case round =>
    obtain ⟨j, n', a', c', hj, hn', rfl, rfl, hl, hs, hbr, hb2r⟩ := hrel
    by_cases hlt : j < m
    · have hltj : (j : Int) < (m : Int) := by omega
      have hjl : j < U.length := by rw [HUM.out]; exact hlt
      obtain ⟨b, o, x, y, rfl, e0, e1, hx⟩ := srcP (HSU.out.below hb2r.out) hjl
      have CD := l01DropM a' n' c' (lessTo L U j) x wr hl.out (by omega) hs.out
      have hstep := less_step L U j hjl
      rw [hx.out] at hstep
      rw [hstep] at CD
      have hln := HLL.out (j + 1)
      clear hstep hx hl hs
      go_wp2_with fail
      refine CD.mono ?_
      rintro e w4 ⟨a4, n4, c4, rfl, k1, k2, hb4⟩
      have HF : Hid ((lessTo L U (j + 1)).length = n4 ∧ Src w4 a4 (cellsP (lessTo L U (j + 1))) ∧ Below w1.heap.size w1 w4 ∧ Below w2.heap.size w2 w4) := ⟨k1, k2, hbr.out.trans (hb4.mono hbr.out.size), hb2r.out.trans (hb4.mono hb2r.out.size)⟩
      have hn4 : n4 ≤ n := by omega
      have hm60 : m ≤ 60 := hmb
      clear CD k1 k2 hb4
      go_wp2_with fail
      exact ⟨⟨j + 1, n4, a4, c4, by omega, hn4, rfl, by go_num, HF.out⟩, by simp [RowKit.intOf]; omega⟩
    · obtain rfl : j = m := by omega
      have hltj : ¬ (j : Int) < (j : Int) := by omega
      have HF : Hid (ER.length = n' ∧ Src wr a' (cellsP ER) ∧ Below w1.heap.size w1 wr) := by
        have e9 := HE.out
        rw [← e9]
        exact ⟨hl.out, hs.out, hbr.out⟩
      clear hl hs
      go_wp2_with fail
      go_ret
      exact ⟨a', n', ⟨c', rfl⟩, HF.out⟩
def dropR (L : List PM) (u f : ByteArray) : List PM × Int := if knownR L u f ≠ 0 then (L, knownR L u f) else if f = inboxT then (L, 11) else (notK (folderK u f) (emptyR L u f), 0)
set_option maxHeartbeats 2000000 in
theorem l07DropFolderC (b o n c : Nat) (L : List PM) (hL : L.length = n) (hc : n ≤ c) (hc9 : c ≤ maxLen) (hg : GoodL L) (u f : ByteArray) (hus : u.size ≤ 8) (hfs : f.size ≤ 8) (n0 : 0 ≤ nextM L) (w : World) (h : Src w (some ⟨b, o, none⟩) (cellsP L)) (R : List PM) (q : Int) (HR : Hid (dropR L u f = (R, q))) :
    Calls Tryz.prog 129 #[.slice (some ⟨b, o, none⟩) n c, .string u, .string f] w fun e w' => ∃ a2 n2 c2, e = .returned (.tuple #[.slice a2 n2 c2, .int .i64 q]) ∧ LenC R n2 c2 ∧ Src w' a2 (cellsP R) ∧ Below w.heap.size w w' := by
  have hn60 := hg.1
  rw [hL] at hn60
  have HLN : Hid (LenC L n c ∧ Src w (some ⟨b, o, none⟩) (cellsP L)) := ⟨⟨hL, hc, hc9⟩, h⟩
  have CK := l07KnownS (some ⟨b, o, none⟩) n c L hL hg u f (by omega) (by omega) w h _ rfl
  have CE := fun W (hW : Below w.heap.size w W) => l07EmptyS (some ⟨b, o, none⟩) n c L hL hg u f (by omega) (by omega) W (h.below hW)
  have CF := fun W => l07FolderS u f W (by omega) (by omega)
  have hel : (emptyR L u f).length ≤ n := by rw [← hL]; exact List.length_filter_le _ _
  have CD := fun (a2 : Option Addr) (n2 c2 : Nat) (W : World) (k1 : (emptyR L u f).length = n2) (k2 : Src W a2 (cellsP (emptyR L u f))) => l01DropN a2 n2 c2 (emptyR L u f) (folderK u f) W k1 (by omega) k2
  have HR1 := HR.out
  unfold dropR at HR1
  obtain ⟨kk, hkk⟩ : ∃ t, knownR L u f = t := ⟨_, rfl⟩
  rw [hkk] at CK HR1
  obtain ⟨ER, hER⟩ : ∃ t, emptyR L u f = t := ⟨_, rfl⟩
  simp only [hER] at CE CD hel
  rw [hER] at HR1
  obtain ⟨KF, hKF⟩ : ∃ t, folderK u f = t := ⟨_, rfl⟩
  simp only [hKF] at CF CD
  rw [hKF] at HR1
  clear hL h hg HR hkk n0 hER hKF
  by_cases hk : kk = 0
  · subst hk
    rw [if_neg (by simp)] at HR1
    by_cases hi : f = inboxT
    · rw [if_pos hi] at HR1
      cases HR1
      have hib : (f.toList == [105, 110, 98, 111, 120]) = true := by rw [hi, ByteArray.toList_eq]; rfl
      clear CE CF CD hi
      go_enter Tryz.func129, Tryz.ntmps129
      go_wp2_with fail
      refine CK.mono ?_
      rintro e w1 ⟨rfl, hb1⟩
      have B1 : Hid (Below w.heap.size w w1) := hb1
      clear hb1 CK
      go_wp2_with fail
      exact bodyPost_ret (v := .tuple #[.slice (some ⟨b, o, none⟩) n c, .int .i64 11]) (by simp [results, Tryz.results129, go_sem]) rfl ⟨_, _, _, rfl, HLN.out.1, HLN.out.2.below B1.out, B1.out⟩
    · rw [if_neg hi] at HR1
      have HRQ : Hid (notK KF ER = R ∧ 0 = q) := by cases HR1; exact ⟨rfl, rfl⟩
      have hib : (f.toList == [105, 110, 98, 111, 120]) = false := by
        refine beq_eq_false_iff_ne.2 fun e => hi ?_
        refine bs_inj ?_
        rw [← ByteArray.toList_eq, e]
      clear HR1 hi
      go_enter Tryz.func129, Tryz.ntmps129
      go_wp2_with fail
      refine CK.mono ?_
      rintro e w1 ⟨rfl, hb1⟩
      have B1 : Hid (Below w.heap.size w w1) := hb1
      have CE1 := CE w1 hb1
      clear hb1 CK CE
      go_wp2_with fail
      refine CE1.mono ?_
      rintro e w2 ⟨a2, n2, c2, rfl, k1, k2, hb2⟩
      have B2 : Hid (Below w.heap.size w w2) := B1.out.trans (hb2.mono B1.out.size)
      have CD2 := CD a2 n2 c2 w2 k1 k2
      clear CE1 hb2 k1 k2 CD
      go_wp2_with fail
      refine (CF _).mono ?_
      rintro e w3 ⟨rfl, hw3⟩
      obtain rfl := hw3
      clear CF
      go_wp2_with fail
      refine CD2.mono ?_
      rintro e w4 ⟨a4, n4, c4, rfl, k1, k2, hb4⟩
      have HF : Hid (LenC R n4 c4 ∧ Src w4 a4 (cellsP R) ∧ Below w.heap.size w w4) := by
        rw [← HRQ.out.1]
        exact ⟨k1, k2, B2.out.trans (hb4.mono B2.out.size)⟩
      have HQ0 : Hid (0 = q) := HRQ.out.2
      clear CD2 k1 k2 hb4
      go_wp2_with fail
      exact bodyPost_ret (v := .tuple #[.slice a4 n4 c4, .int .i64 0]) (by simp [results, Tryz.results129, go_sem]) rfl ⟨_, _, _, by rw [HQ0.out], HF.out⟩
  · rw [if_pos hk] at HR1
    obtain ⟨rfl, rfl⟩ : L = R ∧ kk = q := by cases HR1; exact ⟨rfl, rfl⟩
    have hki : (kk != 0) = true := by simpa using hk
    clear CE CF CD
    go_enter Tryz.func129, Tryz.ntmps129
    go_wp2_with fail
    refine CK.mono ?_
    rintro e w1 ⟨rfl, hb1⟩
    have B1 : Hid (Below w.heap.size w w1) := hb1
    clear hb1 CK
    go_wp2_with fail
    exact bodyPost_ret (v := .tuple #[.slice (some ⟨b, o, none⟩) n c, .int .i64 kk]) (by simp [results, Tryz.results129, go_sem]) rfl ⟨_, _, _, rfl, HLN.out.1, HLN.out.2.below B1.out, B1.out⟩
theorem l07DropFolderS (b o n c : Nat) (L : List PM) (hL : L.length = n) (hc : n ≤ c) (hc9 : c ≤ maxLen) (hg : GoodL L) (u f : ByteArray) (hus : u.size ≤ 8) (hfs : f.size ≤ 8) (n0 : 0 ≤ nextM L) (w : World) (h : Src w (some ⟨b, o, none⟩) (cellsP L)) (R : List PM) (q : Int) (HR : Hid (dropR L u f = (R, q))) :
    Calls Tryz.prog 129 #[.slice (some ⟨b, o, none⟩) n c, .string u, .string f] w fun e w' => ∃ a2 n2 c2, e = .returned (.tuple #[.slice a2 n2 c2, .int .i64 q]) ∧ R.length = n2 ∧ Src w' a2 (cellsP R) ∧ Below w.heap.size w w' :=
  (l07DropFolderC b o n c L hL hc hc9 hg u f hus hfs n0 w h R q HR).mono fun e w' ⟨a2, n2, c2, h1, h2, h3, h4⟩ => ⟨a2, n2, c2, h1, h2.1, h3, h4⟩
end Go.Proofs.YtddnecljdecamaaGreatDoor
namespace Go.Proofs.YtddnecljdecamaaGreatDoor
open Go.ChangeShapes Go.WideShapes Go.ChangeAt Go.RowKit Go.Deep Go.Lib
set_option linter.unusedVariables false
set_option linter.unusedSimpArgs false
set_option maxRecDepth 100000

theorem conv3 (W : World) (b : Nat) (x y z : Nat) (hx : x < 10) (hy : y < 10) (hz : z < 10) (h : Box W b [.int .u8 (48 + (x : Int)), .int .u8 (48 + (y : Int)), .int .u8 (48 + (z : Int))]) : (convert 22 9 (.slice (some ⟨b, 0, none⟩) 3 3)).run Tryz.prog W = .ok (.string (bs [UInt8.ofNat (48 + x), UInt8.ofNat (48 + y), UInt8.ofNat (48 + z)])) W := by
  refine run_convert_bytes_back (P := Tryz.prog) W 22 9 5 ⟨b, 0, none⟩ 3 [UInt8.ofNat (48 + x), UInt8.ofNat (48 + y), UInt8.ofNat (48 + z)] Tryz.underlying22 Tryz.underlying5 Tryz.underlying9 (fun j hj => ?_)
  have hj2 : j < 3 := hj
  have hd : ∀ d : Nat, d < 10 → ((UInt8.ofNat (48 + d)).toNat : Int) = 48 + (d : Int) := fun d h9 => by
    have h1 : (UInt8.ofNat (48 + d)).toNat = 48 + d := by simp [UInt8.toNat_ofNat']; omega
    rw [h1]
    omega
  match j, hj2 with
  | 0, _ =>
    have h2 : W.cell? ((⟨b, 0, none⟩ : Addr).add 0) = W.cell? ⟨b, 0, none⟩ := rfl
    rw [h2, (h 0 _ rfl).1]
    show some (Value.int .u8 (48 + (x : Int))) = some (Value.int .u8 ((UInt8.ofNat (48 + x)).toNat : Int))
    rw [hd x hx]
  | 1, _ =>
    have h2 : W.cell? ((⟨b, 0, none⟩ : Addr).add 1) = W.cell? ⟨b, 1, none⟩ := rfl
    rw [h2, (h 1 _ rfl).1]
    show some (Value.int .u8 (48 + (y : Int))) = some (Value.int .u8 ((UInt8.ofNat (48 + y)).toNat : Int))
    rw [hd y hy]
  | 2, _ =>
    have h2 : W.cell? ((⟨b, 0, none⟩ : Addr).add 2) = W.cell? ⟨b, 2, none⟩ := rfl
    rw [h2, (h 2 _ rfl).1]
    show some (Value.int .u8 (48 + (z : Int))) = some (Value.int .u8 ((UInt8.ofNat (48 + z)).toNat : Int))
    rw [hd z hz]
set_option maxHeartbeats 4000000 in
theorem l07MailS (u f : ByteArray) (n : Nat) (hn : n < 1000) (hu : u.size ≤ 1000) (hf : f.size ≤ 1000) (w : World) : Calls Tryz.prog 97 #[.string u, .string f, .int .i64 (n : Int)] w fun e w' => e = .returned (.string (mailK u f (n : Int))) ∧ Below w.heap.size w w' := by
  obtain ⟨x, y, z, hx, hy, hz, he⟩ := split3 n hn
  have hd3 : d3 n = [UInt8.ofNat (48 + x), UInt8.ofNat (48 + y), UInt8.ofNat (48 + z)] := by
    rw [he]
    unfold d3
    rw [dec4 x y z hx hy hz]
    rfl
  have CM := fun W => l07MailsS u f W hu hf
  have hps := preK_size u f
  have hcb := fun W b => conv3 W b x y z hx hy hz
  obtain ⟨T, hT⟩ : ∃ T, bs [UInt8.ofNat (48 + x), UInt8.ofNat (48 + y), UInt8.ofNat (48 + z)] = T := ⟨_, rfl⟩
  simp only [hT] at hcb
  have hTs : T.size = 3 := by rw [← hT]; rfl
  have HD : Hid (preK u f ++ T = mailK u f (n : Int)) := by
    show _ = _
    apply bs_inj
    rw [ByteArray.data_append, Array.toList_append, preK_data, ← hT]
    show _ = 109 :: 47 :: (u.data.toList ++ 47 :: (f.data.toList ++ 47 :: d3 n))
    rw [hd3]
    simp [bs]
  obtain ⟨PK, hPK⟩ : ∃ t, preK u f = t := ⟨_, rfl⟩
  rw [hPK] at HD hps
  simp only [hPK] at CM
  obtain ⟨X, hX⟩ : ∃ t : Int, (x : Int) = t := ⟨_, rfl⟩
  obtain ⟨Y, hY⟩ : ∃ t : Int, (y : Int) = t := ⟨_, rfl⟩
  obtain ⟨Z, hZ⟩ : ∃ t : Int, (z : Int) = t := ⟨_, rfl⟩
  obtain ⟨N10, hN10⟩ : ∃ t : Int, (n : Int) / 10 = t := ⟨_, rfl⟩
  have q1 : (n : Int).tdiv 100 = X := by rw [Int.tdiv_eq_ediv_of_nonneg (by omega)]; omega
  have q2 : (n : Int).tdiv 10 = N10 := by rw [Int.tdiv_eq_ediv_of_nonneg (by omega)]; omega
  have q3 : N10.tmod 10 = Y := by rw [Int.tmod_eq_emod_of_nonneg (by omega)]; omega
  have q4 : (n : Int).tmod 10 = Z := by rw [Int.tmod_eq_emod_of_nonneg (by omega)]; omega
  have u1 := wrap8 x hx
  have u2 := wrap8 y hy
  have u3 := wrap8 z hz
  rw [hX] at u1
  rw [hY] at u2
  rw [hZ] at u3
  simp only [hX, hY, hZ] at hcb
  have v1 : IntKind.i64.wrap X = X := wrapI _ (by omega) (by omega)
  have v2 : IntKind.i64.wrap N10 = N10 := wrapI _ (by omega) (by omega)
  have v3 : IntKind.i64.wrap (48 + X) = 48 + X := wrapI _ (by omega) (by omega)
  have v4 : IntKind.i64.wrap (48 + Y) = 48 + Y := wrapI _ (by omega) (by omega)
  have v5 : IntKind.i64.wrap (48 + Z) = 48 + Z := wrapI _ (by omega) (by omega)
  obtain ⟨G, hG⟩ : ∃ t, mailK u f (n : Int) = t := ⟨_, rfl⟩
  rw [hG] at HD ⊢
  have hnc : ¬ 9223372036854775807 < u.size + f.size + 4 + 3 := by omega
  clear hd3 hT hPK hG he
  clear hX hY hZ hN10
  go_enter Tryz.func97, Tryz.ntmps97
  go_wp2_with fail
  refine wp_region_noPanic ?_
  refine wp_region_held_drew (S := fun w' => True) (by kernel_rfl) trivial (fun hHeld => ?_)
  refine tkA (i := 0) (v := .string u) ?_ hHeld ?_
  · intro w9 hSw
    go_simp
  simp only [Act.put, List.setIfInBounds_toArray, List.set_cons_zero, List.set_cons_succ]
  refine tkA (i := 1) (v := .string f) ?_ hHeld ?_
  · intro w9 hSw
    go_simp
  simp only [Act.put, List.setIfInBounds_toArray, List.set_cons_zero, List.set_cons_succ]
  refine tkA (i := 3) (v := .int .i64 (n : Int)) ?_ hHeld ?_
  · intro w9 hSw
    go_simp
  simp only [Act.put, List.setIfInBounds_toArray, List.set_cons_zero, List.set_cons_succ]
  refine tkA (i := 4) (v := .int .i64 X) ?_ hHeld ?_
  · intro w9 hSw
    go_simp
  simp only [Act.put, List.setIfInBounds_toArray, List.set_cons_zero, List.set_cons_succ]
  refine tkA (i := 5) (v := .int .i64 (48 + X)) ?_ hHeld ?_
  · intro w9 hSw
    go_simp
  simp only [Act.put, List.setIfInBounds_toArray, List.set_cons_zero, List.set_cons_succ]
  refine tkA (i := 6) (v := .int .u8 (48 + X)) ?_ hHeld ?_
  · intro w9 hSw
    go_simp
  simp only [Act.put, List.setIfInBounds_toArray, List.set_cons_zero, List.set_cons_succ]
  refine tkA (i := 7) (v := .int .i64 (n : Int)) ?_ hHeld ?_
  · intro w9 hSw
    go_simp
  simp only [Act.put, List.setIfInBounds_toArray, List.set_cons_zero, List.set_cons_succ]
  refine tkA (i := 8) (v := .int .i64 N10) ?_ hHeld ?_
  · intro w9 hSw
    go_simp
  simp only [Act.put, List.setIfInBounds_toArray, List.set_cons_zero, List.set_cons_succ]
  refine tkA (i := 9) (v := .int .i64 Y) ?_ hHeld ?_
  · intro w9 hSw
    go_simp
  simp only [Act.put, List.setIfInBounds_toArray, List.set_cons_zero, List.set_cons_succ]
  refine tkA (i := 10) (v := .int .i64 (48 + Y)) ?_ hHeld ?_
  · intro w9 hSw
    go_simp
  simp only [Act.put, List.setIfInBounds_toArray, List.set_cons_zero, List.set_cons_succ]
  refine tkA (i := 11) (v := .int .u8 (48 + Y)) ?_ hHeld ?_
  · intro w9 hSw
    go_simp
  simp only [Act.put, List.setIfInBounds_toArray, List.set_cons_zero, List.set_cons_succ]
  refine tkA (i := 12) (v := .int .i64 (n : Int)) ?_ hHeld ?_
  · intro w9 hSw
    go_simp
  simp only [Act.put, List.setIfInBounds_toArray, List.set_cons_zero, List.set_cons_succ]
  refine tkA (i := 13) (v := .int .i64 Z) ?_ hHeld ?_
  · intro w9 hSw
    go_simp
  simp only [Act.put, List.setIfInBounds_toArray, List.set_cons_zero, List.set_cons_succ]
  refine tkA (i := 14) (v := .int .i64 (48 + Z)) ?_ hHeld ?_
  · intro w9 hSw
    go_simp
  simp only [Act.put, List.setIfInBounds_toArray, List.set_cons_zero, List.set_cons_succ]
  refine tkA (i := 15) (v := .int .u8 (48 + Z)) ?_ hHeld ?_
  · intro w9 hSw
    go_simp
  simp only [Act.put, List.setIfInBounds_toArray, List.set_cons_zero, List.set_cons_succ]
  refine wpAnyH_ready (rs := [2, 16]) (by kernel_rfl) (by simp) ?_
  refine AllReadyH.cons rfl (fun K hK => ?_) (AllReadyH.cons rfl (fun K hK => ?_) AllReadyH.nil)
  · skip
    go_simp
    refine (CM _).mono ?_
    rintro e wk ⟨rfl, hwk⟩
    obtain rfl := hwk.symm
    dsimp only
    refine hK _ _ trivial (fun hHeld => ?_)
    clear hK K
    refine wpAnyH_ready (rs := [16]) (by kernel_rfl) (by simp) ?_
    refine AllReadyH.cons rfl (fun K hK => ?_) AllReadyH.nil
    go_simp
    have B1 : Hid (Below w.heap.size w ((w).alloc (.cells #[.int .u8 (48 + X), .int .u8 (48 + Y), .int .u8 (48 + Z)] 5))) := (Below.refl w.heap.size w).alloc (Nat.le_refl _) _
    have X1 : Hid (Box ((w).alloc (.cells #[.int .u8 (48 + X), .int .u8 (48 + Y), .int .u8 (48 + Z)] 5)).drew w.heap.size [.int .u8 (48 + X), .int .u8 (48 + Y), .int .u8 (48 + Z)]) := (Box.new (w := w) rfl).drew
    refine hK _ _ trivial (fun hHeld => ?_)
    clear hK K
    refine wpAnyH_ready (rs := [17]) (by kernel_rfl) (by simp) ?_
    refine AllReadyH.cons rfl (fun K hK => ?_) AllReadyH.nil
    have hc2 := hcb (((w).alloc (.cells #[.int .u8 (48 + X), .int .u8 (48 + Y), .int .u8 (48 + Z)] 5)).drew) (w.heap.size) (X1.out)
    go_simp
    refine hK _ _ trivial (fun hHeld => ?_)
    clear hK K
    refine wpAnyH_ready (rs := [18]) (by kernel_rfl) (by simp) ?_
    refine AllReadyH.cons rfl (fun K hK => ?_) AllReadyH.nil
    go_simp
    refine hK _ _ trivial (fun hHeld => ?_)
    clear hK K
    refine wpAnyH_ready (rs := [19]) (by kernel_rfl) (by simp) ?_
    refine AllReadyH.cons rfl (fun K hK => ?_) AllReadyH.nil
    go_simp
    refine hK _ _ trivial (fun hHeld => ?_)
    clear hK K
    refine wpAnyH_done (by kernel_rfl) ?_ _
    refine NoPanic.normal ?_
    clear hHeld
    go_wp2_with fail
    go_ret
    exact ⟨by rw [← HD.out]; rfl, B1.out.drew⟩
  · skip
    go_simp
    have B3 : Hid (Below w.heap.size w ((w).alloc (.cells #[.int .u8 (48 + X), .int .u8 (48 + Y), .int .u8 (48 + Z)] 5))) := (Below.refl w.heap.size w).alloc (Nat.le_refl _) _
    have X3 : Hid (Box ((w).alloc (.cells #[.int .u8 (48 + X), .int .u8 (48 + Y), .int .u8 (48 + Z)] 5)).drew w.heap.size [.int .u8 (48 + X), .int .u8 (48 + Y), .int .u8 (48 + Z)]) := (Box.new (w := w) rfl).drew
    refine hK _ _ trivial (fun hHeld => ?_)
    clear hK K
    refine wpAnyH_ready (rs := [2, 17]) (by kernel_rfl) (by simp) ?_
    refine AllReadyH.cons rfl (fun K hK => ?_) (AllReadyH.cons rfl (fun K hK => ?_) AllReadyH.nil)
    · skip
      go_simp
      refine (CM _).mono ?_
      rintro e wk ⟨rfl, hwk⟩
      obtain rfl := hwk.symm
      dsimp only
      refine hK _ _ trivial (fun hHeld => ?_)
      clear hK K
      refine wpAnyH_ready (rs := [17]) (by kernel_rfl) (by simp) ?_
      refine AllReadyH.cons rfl (fun K hK => ?_) AllReadyH.nil
      have hc4 := hcb (((w).alloc (.cells #[.int .u8 (48 + X), .int .u8 (48 + Y), .int .u8 (48 + Z)] 5)).drew) (w.heap.size) (X3.out)
      go_simp
      refine hK _ _ trivial (fun hHeld => ?_)
      clear hK K
      refine wpAnyH_ready (rs := [18]) (by kernel_rfl) (by simp) ?_
      refine AllReadyH.cons rfl (fun K hK => ?_) AllReadyH.nil
      go_simp
      refine hK _ _ trivial (fun hHeld => ?_)
      clear hK K
      refine wpAnyH_ready (rs := [19]) (by kernel_rfl) (by simp) ?_
      refine AllReadyH.cons rfl (fun K hK => ?_) AllReadyH.nil
      go_simp
      refine hK _ _ trivial (fun hHeld => ?_)
      clear hK K
      refine wpAnyH_done (by kernel_rfl) ?_ _
      refine NoPanic.normal ?_
      clear hHeld
      go_wp2_with fail
      go_ret
      exact ⟨by rw [← HD.out]; rfl, B3.out.drew⟩
    · skip
      have hc5 := hcb (((w).alloc (.cells #[.int .u8 (48 + X), .int .u8 (48 + Y), .int .u8 (48 + Z)] 5)).drew) (w.heap.size) (X3.out)
      go_simp
      refine hK _ _ trivial (fun hHeld => ?_)
      clear hK K
      refine wpAnyH_ready (rs := [2]) (by kernel_rfl) (by simp) ?_
      refine AllReadyH.cons rfl (fun K hK => ?_) AllReadyH.nil
      go_simp
      refine (CM _).mono ?_
      rintro e wk ⟨rfl, hwk⟩
      obtain rfl := hwk.symm
      dsimp only
      refine hK _ _ trivial (fun hHeld => ?_)
      clear hK K
      refine wpAnyH_ready (rs := [18]) (by kernel_rfl) (by simp) ?_
      refine AllReadyH.cons rfl (fun K hK => ?_) AllReadyH.nil
      go_simp
      refine hK _ _ trivial (fun hHeld => ?_)
      clear hK K
      refine wpAnyH_ready (rs := [19]) (by kernel_rfl) (by simp) ?_
      refine AllReadyH.cons rfl (fun K hK => ?_) AllReadyH.nil
      go_simp
      refine hK _ _ trivial (fun hHeld => ?_)
      clear hK K
      refine wpAnyH_done (by kernel_rfl) ?_ _
      refine NoPanic.normal ?_
      clear hHeld
      go_wp2_with fail
      go_ret
      exact ⟨by rw [← HD.out]; rfl, B3.out.drew⟩
end Go.Proofs.YtddnecljdecamaaGreatDoor
