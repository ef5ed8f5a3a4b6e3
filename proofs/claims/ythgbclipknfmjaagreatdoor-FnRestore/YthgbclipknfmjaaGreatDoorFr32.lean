/-
  Rse in one. By an AI agent.
-/
import Derived.Test.YthgbclipknfmjaaGreatDoorFr30
import Derived.Test.YthgbclipknfmjaaGreatDoorFr27
namespace Go.Proofs.YthgbclipknfmjaaGreatDoor
open Go.ChangeShapes Go.WideShapes Go.ChangeAt Go.RowKit Go.Deep Go.Lib
set_option linter.unusedVariables false
set_option linter.unusedSimpArgs false
set_option maxRecDepth 100000

set_option maxHeartbeats 2000000 in
theorem l07EmptyX (b o n c : Nat) (hc : n ≤ c) (hc9 : c ≤ maxLen) (L : List PM) (hL : L.length = n) (hg : GoodL L) (u f : ByteArray) (hus : u.size ≤ 1000) (hfs : f.size ≤ 1000) (w : World) (h : Src w (some ⟨b, o, none⟩) (cellsP L)) (hx0 : ∃ x ∈ L, beginsB x.1 (preK u f) = false) :
    Calls Tryz.prog 108 #[.slice (some ⟨b, o, none⟩) n c, .string u, .string f] w fun e w' => ∃ b2 o2 n2 c2, e = .returned (.slice (some ⟨b2, o2, none⟩) n2 c2) ∧ n2 ≤ c2 ∧ c2 ≤ maxLen ∧ (emptyR L u f).length = n2 ∧ Src w' (some ⟨b2, o2, none⟩) (cellsP (emptyR L u f)) ∧ Below w.heap.size w w' := by
  have hn60 := hg.1
  rw [hL] at hn60
  have CM := fun W => l07MailsS u f W hus hfs
  have hpz := preK_size u f
  have CU := fun W (hW : Below w.heap.size w W) => l01Under (some ⟨b, o, none⟩) n c (fK L) (fV L) (preK u f) W (by omega) (by omega) (fun i hi => by
    have hi2 : i < L.length := by omega
    obtain ⟨e1, e2⟩ := at_fst hi2
    rw [e1, e2]
    have := hg.2.1 _ (List.getElem_mem hi2)
    omega) (sp_src (h.below hW) hL)
  have eU : under (fK L) (fV L) (preK u f) n = L.filter fun x => beginsB x.1 (preK u f) := by
    rw [under_is L (preK u f) n (by omega), List.take_of_length_le (by omega)]
  simp only [eU] at CU
  have HE : Hid (lessTo L (L.filter fun x => beginsB x.1 (preK u f)) (L.filter fun x => beginsB x.1 (preK u f)).length = emptyR L u f) := less_end L (preK u f)
  have hul : (L.filter fun x => beginsB x.1 (preK u f)).length ≤ L.length := List.length_filter_le _ _
  have HLP : Hid (∀ j, 1 ≤ (lessTo L (L.filter fun x => beginsB x.1 (preK u f)) j).length) := fun j => by
    obtain ⟨x, x1, x2⟩ := hx0
    refine List.length_pos_of_mem (a := x) (List.mem_filter.2 ⟨x1, List.all_eq_true.2 fun y hy => decide_eq_true fun e => ?_⟩)
    have h9 := (List.mem_filter.1 ((List.take_subset j _) hy)).2
    rw [← e, x2] at h9
    cases h9
  obtain ⟨U, hU⟩ : ∃ t, (L.filter fun x => beginsB x.1 (preK u f)) = t := ⟨_, rfl⟩
  simp only [hU] at CU
  rw [hU] at HE hul HLP
  obtain ⟨m, hm⟩ : ∃ t, U.length = t := ⟨_, rfl⟩
  rw [hm] at HE hul
  have hmb : m ≤ 60 := by rw [hL] at hul; omega
  have HUM : Hid (U.length = m) := hm
  obtain ⟨KP, hKP⟩ : ∃ t, preK u f = t := ⟨_, rfl⟩
  simp only [hKP] at CM CU
  have HLN : Hid (L.length = n) := hL
  have HLL : Hid (∀ j, (lessTo L U j).length ≤ n) := fun j => by rw [← hL]; exact less_len L U j
  have H0 : Hid ((lessTo L U 0).length = n ∧ Src w (some ⟨b, o, none⟩) (cellsP (lessTo L U 0))) := by
    have e : lessTo L U 0 = L := by
      unfold lessTo
      rw [List.filter_eq_self]
      intro p _
      rfl
    rw [e]
    exact ⟨hL, h⟩
  obtain ⟨ER, hER⟩ : ∃ t, emptyR L u f = t := ⟨_, rfl⟩
  rw [hER] at HE ⊢
  clear hL hg h eU hU hm hKP hpz hER hul hx0
  go_enter Tryz.func108, Tryz.ntmps108
  go_wp2_with fail
  refine (CM _).mono ?_
  rintro e w1 ⟨rfl, hw1⟩
  obtain rfl := hw1
  clear CM
  go_wp2_with fail
  refine (CU _ (Below.refl _ _)).mono ?_
  rintro e w2 ⟨v2, rfl, ho2, hb2⟩
  have ho3 : w2.ownsRow w1.heap.size 68 2 v2 U.length (cellsP U) := ho2
  rw [HUM.out] at ho3
  obtain ⟨au, cu, rfl, hsu, _⟩ := own_src ho3
  have B2 : Hid (Below w1.heap.size w1 w2) := hb2
  have HSU : Hid (Src w2 au (cellsP U)) := hsu
  clear CU ho2 ho3 hb2 hsu
  go_wp2_with fail
  go_loopw [8, 9] (fun v iv wr => ∃ (j n' b' o' c' : Nat), j ≤ m ∧ n' ≤ n ∧ v = .slice (some ⟨b', o', none⟩) n' c' ∧ n' ≤ c' ∧ c' ≤ maxLen ∧ iv = .int .i64 (j : Int) ∧ Hid ((lessTo L U j).length = n') ∧ Hid (Src wr (some ⟨b', o', none⟩) (cellsP (lessTo L U j))) ∧ Hid (Below w1.heap.size w1 wr) ∧ Hid (Below w2.heap.size w2 wr)) (fun _ i _ => m - (RowKit.intOf i).toNat)
  case atStart => exact ⟨0, n, b, o, c, Nat.zero_le _, Nat.le_refl _, rfl, hc, hc9, rfl, H0.out.1, H0.out.2.below B2.out, B2.out, Below.refl _ _⟩
  case round =>
    obtain ⟨j, n', b', o', c', hj, hn', rfl, hnc', hc9', rfl, hl, hs, hbr, hb2r⟩ := hrel
    by_cases hlt : j < m
    · have hltj : (j : Int) < (m : Int) := by omega
      have hjl : j < U.length := by rw [HUM.out]; exact hlt
      obtain ⟨bu, ou, x, y, rfl, e0, e1, hx⟩ := srcP (HSU.out.below hb2r.out) hjl
      obtain ⟨mm, hmm⟩ : ∃ t, (lessTo L U (j + 1)).length = t := ⟨_, rfl⟩
      have hm1 : 1 ≤ mm := by rw [← hmm]; exact HLP.out (j + 1)
      have hstep0 := less_step L U j hjl
      rw [hx.out] at hstep0
      have CD := l01DropO (some ⟨b', o', none⟩) n' c' (lessTo L U j) x wr hl.out (by omega) hs.out mm (by rw [hstep0]; exact hmm) hm1
      have HMM : Hid ((lessTo L U (j + 1)).length = mm) := hmm
      clear hstep0
      have hstep := less_step L U j hjl
      rw [hx.out] at hstep
      rw [hstep] at CD
      have hln := HLL.out (j + 1)
      clear hstep hx hl hs
      go_wp2_with fail
      refine CD.mono ?_
      rintro e w4 ⟨b4, c4, rfl, j1, j2, k2, hb4⟩
      have HF : Hid ((lessTo L U (j + 1)).length = mm ∧ Src w4 (some ⟨b4, 0, none⟩) (cellsP (lessTo L U (j + 1))) ∧ Below w1.heap.size w1 w4 ∧ Below w2.heap.size w2 w4) := ⟨HMM.out, k2, hbr.out.trans (hb4.mono hbr.out.size), hb2r.out.trans (hb4.mono hb2r.out.size)⟩
      have hn4 : mm ≤ n := by rw [← HMM.out]; exact HLL.out (j + 1)
      have hm60 : m ≤ 60 := hmb
      clear CD k2 hb4 hmm
      go_wp2_with fail
      exact ⟨⟨j + 1, mm, b4, 0, c4, by omega, hn4, rfl, j1, j2, by go_num, HF.out⟩, by simp [RowKit.intOf]; omega⟩
    · obtain rfl : j = m := by omega
      have hltj : ¬ (j : Int) < (j : Int) := by omega
      have HF : Hid (n' ≤ c' ∧ c' ≤ maxLen ∧ ER.length = n' ∧ Src wr (some ⟨b', o', none⟩) (cellsP ER) ∧ Below w1.heap.size w1 wr) := by
        have e9 := HE.out
        rw [← e9]
        exact ⟨hnc', hc9', hl.out, hs.out, hbr.out⟩
      clear hl hs
      go_wp2_with fail
      go_ret
      exact ⟨b', o', n', c', rfl, HF.out⟩
set_option maxHeartbeats 1000000 in
theorem l07CountW (a : Option Addr) (n c : Nat) (L : List PM) (u : ByteArray) (w : World) (hL : L.length = n) (hn : n ≤ 4000) (hg : ∀ x ∈ L, x.1.size ≤ 1048576 ∧ x.2.size ≤ 1048576) (hu : u.size ≤ 1000) (h : Src w a (cellsP L)) :
    Calls Tryz.prog 109 #[.slice a n c, .string u] w fun e w' => e = .returned (.int .i64 (countM L u : Int)) ∧ Below w.heap.size w w' := by
  have hz : (mailsK u).size ≤ 1048576 := by unfold mailsK; rw [ByteArray.size_append, ByteArray.size_append]; show 2 + u.size + 1 ≤ _; omega
  have CU := l01Under a n c (fK L) (fV L) (mailsK u) w (by omega) hz (fun i hi => by
    have hi2 : i < L.length := by omega
    have := hg _ (List.getElem_mem hi2)
    rw [(at_fst hi2).1, (at_fst hi2).2]
    omega) (sp_src h hL)
  have HC : Hid ((under (fK L) (fV L) (mailsK u) n).length = countM L u) := by
    show _ = _
    rw [under_len L (mailsK u) n (by omega), ← hL, List.take_of_length_le (Nat.le_refl _)]
    rfl
  clear h hg hL hz
  go_enter Tryz.func109, Tryz.ntmps109
  go_wp2_with fail
  refine CU.mono ?_
  rintro e w1 ⟨v, rfl, own, hb⟩
  obtain ⟨aa, cc, rfl, _, _⟩ := own.open
  rw [HC.out]
  clear own
  go_wp2_with fail
  go_ret
  exact ⟨rfl, hb⟩
theorem insAll_mem (X : List PM) : ∀ {R : List PM} {x : PM}, UpL R → x ∈ insAll X R → x ∈ X ∨ x ∈ R := by
  induction X with
  | nil => exact fun _ h => .inr h
  | cons p X ih =>
    intro R x hu h
    rcases ih (ins_up hu) (show x ∈ insAll X (insL p.1 p.2 R) from h) with h | h
    · exact .inl (List.mem_cons_of_mem _ h)
    · rcases ins_mem hu h with h | h
      · exact .inl (by rw [h]; exact List.mem_cons_self)
      · exact .inr h.1
theorem fresh_small {N W R : List PM} {u f : ByteArray} {nx : Int} (hu : UpL N) (hN : ∀ x ∈ N, x.1.size ≤ 1000 ∧ x.2.size ≤ 1000) (h0 : 0 ≤ nextM N) (hus : u.size ≤ 100) (hfs : f.size ≤ 100) (n0 : 0 ≤ nx) (n1 : nx ≤ 10000) (h : freshR N W u f nx = (R, 0)) : ∀ x ∈ R, x.1.size ≤ 1000 ∧ x.2.size ≤ 1000 := by
  unfold freshR at h
  split at h
  · cases h
  · rename_i hx
    unfold fitsR at h
    split at h
    · cases h
    · cases h
      intro x hx9
      rcases ins_mem (ins_up hu) hx9 with rfl | hx9
      · have h1 := metaT_size h0 (by omega) n0 n1
        have h2 : (folderK u f).size = u.size + f.size + 3 := by
          rw [size_of, folderK_data, size_of, size_of]
          simp only [List.length_cons, List.length_append]
          omega
        exact ⟨by show (folderK u f).size ≤ 1000; omega, by show (metaT (nextM N) nx).size ≤ 1000; omega⟩
      · rcases ins_mem hu hx9.1 with rfl | hx8
        · have h3 := itoa_small (nextM N + 1) (by omega) (by omega)
          exact ⟨by show vK.size ≤ 1000; decide, by show (bs (itoa (nextM N + 1))).size ≤ 1000; omega⟩
        · exact hN x hx8.1
theorem mail_small {u f : ByteArray} {Ms : List MMl} (hus : u.size ≤ 100) (hfs : f.size ≤ 100) (hM : FitMs Ms) : ∀ x ∈ Ms.map (mailP u f), x.1.size ≤ 1048576 ∧ x.2.size ≤ 1048576 := fun x hx => by
  obtain ⟨m, hm, rfl⟩ := List.mem_map.1 hx
  obtain ⟨y0, y1, y2, y3, y4⟩ := hM m hm
  have h1 : (mailP u f m).1.size = u.size + f.size + 4 + (d3 m.1.toNat).length := by
    show (mailK u f m.1).size = _
    rw [size_of, size_of, size_of]
    simp [bs]
    omega
  have h2 : (mailP u f m).2.size = (bs (itoa m.2.1)).size + m.2.2.size := by
    show (mailV m).size = _
    unfold mailV
    rw [ByteArray.size_append]
  have h3 := itoa_small m.2.1 y2 (by omega)
  obtain ⟨x, y, z, hx, hy, hz, he⟩ := split3 m.1.toNat (by omega)
  have h4 : (d3 m.1.toNat).length = 3 := by
    rw [he]
    unfold d3
    rw [dec4 x y z hx hy hz]
    rfl
  exact ⟨by omega, by omega⟩
set_option maxHeartbeats 8000000 in
theorem l08RestoreS (b o n c : Nat) (N : List PM) (hN : N.length = n) (hc : n ≤ c) (hc9 : c ≤ maxLen) (hg : GoodL N) (b2 : Option Addr) (n2 c2 : Nat) (L : List PM) (hL : L.length = n2) (hst : storeB L = true) (u f : ByteArray) (hsu : shortB u = true) (hsf : shortB f = true) (n0 : 0 ≤ nextM N) (hx0 : ∃ x ∈ N, beginsB x.1 (preK u f) = false) (hne0 : nextM (emptyR N u f) = nextM N) (w : World) (h : Src w (some ⟨b, o, none⟩) (cellsP N)) (h2 : Src w b2 (cellsP L)) (R : List PM) (q : Int) (HR : Hid (rsR N L u f = (R, q))) :
    Calls Tryz.prog 57 #[.slice (some ⟨b, o, none⟩) n c, .slice b2 n2 c2, .string u, .string f] w fun e w' => ∃ a3 n3 c3, e = .returned (.tuple #[.slice a3 n3 c3, .int .i64 q]) ∧ R.length = n3 ∧ Src w' a3 (cellsP R) ∧ Below w.heap.size w w' ∧ (q = 0 → (∃ g, a3 = some ⟨g, 0, none⟩) ∧ n3 ≤ c3 ∧ c3 ≤ maxLen) := by
  have hn60 := hg.1
  rw [hN] at hn60
  have hus := word_slash hsu
  have hfs := word_slash hsf
  have zu := short_size' hsu
  have zf := short_size' hsf
  obtain ⟨hgl, _⟩ := store_facts hst
  have hl60 := hgl.1
  rw [hL] at hl60
  have HLN : Hid (N.length = n ∧ Src w (some ⟨b, o, none⟩) (cellsP N)) := ⟨hN, h⟩
  have HBAD : Hid (∀ (W : World) (z : Int), z ≠ 0 → Below w.heap.size w W → (N, z) = (R, q) → ∃ a3 n3 c3, Ending.returned (Value.tuple #[.slice (some ⟨b, o, none⟩) n c, .int .i64 z]) = Ending.returned (.tuple #[.slice a3 n3 c3, .int .i64 q]) ∧ R.length = n3 ∧ Src W a3 (cellsP R) ∧ Below w.heap.size w W ∧ (q = 0 → (∃ g, a3 = some ⟨g, 0, none⟩) ∧ n3 ≤ c3 ∧ c3 ≤ maxLen)) := fun W z hz hW he => by
    cases he
    exact ⟨_, _, _, rfl, HLN.out.1, HLN.out.2.below hW, hW, fun h9 => absurd h9 hz⟩
  have CU := fun W => l07UserS u W (by omega)
  have CG := fun W (hW : Below w.heap.size w W) => l01GetM (some ⟨b, o, none⟩) n c N (userK u) W hN hg (h.below hW)
  obtain ⟨tv, htv⟩ : ∃ t, (getM N (userK u)).getD e0 = t := ⟨_, rfl⟩
  obtain ⟨tb, htb⟩ : ∃ t, (getM N (userK u)).isSome = t := ⟨_, rfl⟩
  simp only [htv, htb] at CG
  obtain ⟨KU, hKU⟩ : ∃ t, userK u = t := ⟨_, rfl⟩
  simp only [hKU] at CU CG
  have HR1 := HR.out
  unfold rsR at HR1
  rw [htb] at HR1
  cases tb with
  | false =>
    rw [if_pos rfl] at HR1
    have HFH : Hid (∀ W, Below w.heap.size w W → ∃ a3 n3 c3, Ending.returned (Value.tuple #[.slice (some ⟨b, o, none⟩) n c, .int .i64 15]) = Ending.returned (.tuple #[.slice a3 n3 c3, .int .i64 q]) ∧ R.length = n3 ∧ Src W a3 (cellsP R) ∧ Below w.heap.size w W ∧ (q = 0 → (∃ g, a3 = some ⟨g, 0, none⟩) ∧ n3 ≤ c3 ∧ c3 ≤ maxLen)) := fun W hW => HBAD.out W 15 (by decide) hW HR1
    clear hN hL h h2 hg HR HR1 HBAD hst hsu hsf hus hfs n0 hx0 hne0 htv htb hKU hgl
    go_enter Tryz.func57, Tryz.ntmps57
    go_wp2_with fail
    refine (CU _).mono ?_
    rintro e w1 ⟨rfl, hw1⟩
    obtain rfl := hw1
    clear CU
    go_wp2_with fail
    refine (CG _ (Below.refl _ _)).mono ?_
    rintro e w2 ⟨rfl, hw2⟩
    obtain rfl := hw2
    have B2 : Hid (Below w2.heap.size w2 w2) := Below.refl _ _
    clear CG
    have HG : Hid (∃ a3 n3 c3, Ending.returned (Value.tuple #[.slice (some ⟨b, o, none⟩) n c, .int .i64 15]) = Ending.returned (.tuple #[.slice a3 n3 c3, .int .i64 q]) ∧ R.length = n3 ∧ Src w2 a3 (cellsP R) ∧ Below w2.heap.size w2 w2 ∧ (q = 0 → (∃ g, a3 = some ⟨g, 0, none⟩) ∧ n3 ≤ c3 ∧ c3 ≤ maxLen)) := HFH.out w2 B2.out
    clear HFH
    go_wp2_with fail
    exact bodyPost_ret (v := .tuple #[.slice (some ⟨b, o, none⟩) n c, .int .i64 15]) (by simp [results, Tryz.results57, go_sem]) rfl HG.out
  | true =>
  rw [if_neg (by decide)] at HR1
  have CM := fun W (hW : Below w.heap.size w W) => l07MetaS b2 n2 c2 L u f W hL hgl (by omega) (by omega) (h2.below hW)
  obtain ⟨tm, htm⟩ : ∃ t, (metaM L u f).isSome = t := ⟨_, rfl⟩
  rw [htm] at CM
  have hom := old_meta hst hus hfs
  rw [htm] at hom
  cases tm with
  | false =>
    have ho : oldF L u f = none := by
      cases hv : oldF L u f with
      | none => rfl
      | some z => rw [hv] at hom; cases hom
    rw [ho] at HR1
    have HFH : Hid (∀ W, Below w.heap.size w W → ∃ a3 n3 c3, Ending.returned (Value.tuple #[.slice (some ⟨b, o, none⟩) n c, .int .i64 16]) = Ending.returned (.tuple #[.slice a3 n3 c3, .int .i64 q]) ∧ R.length = n3 ∧ Src W a3 (cellsP R) ∧ Below w.heap.size w W ∧ (q = 0 → (∃ g, a3 = some ⟨g, 0, none⟩) ∧ n3 ≤ c3 ∧ c3 ≤ maxLen)) := fun W hW => HBAD.out W 16 (by decide) hW HR1
    clear hN hL h h2 hg HR HR1 HBAD hst hsu hsf hus hfs n0 hx0 hne0 htv htb hKU hgl hom ho htm
    go_enter Tryz.func57, Tryz.ntmps57
    go_wp2_with fail
    refine (CU _).mono ?_
    rintro e w1 ⟨rfl, hw1⟩
    obtain rfl := hw1
    clear CU
    go_wp2_with fail
    refine (CG _ (Below.refl _ _)).mono ?_
    rintro e w2 ⟨rfl, hw2⟩
    obtain rfl := hw2
    have B2 : Hid (Below w2.heap.size w2 w2) := Below.refl _ _
    have CM2 := CM w2 B2.out
    clear CG CM
    go_wp2_with fail
    refine CM2.mono ?_
    rintro e w3 ⟨x3, y3, rfl, _, hb3⟩
    have B3 : Hid (Below w2.heap.size w2 w3) := B2.out.trans (hb3.mono B2.out.size)
    clear hb3 CM2
    have HG : Hid (∃ a3 n3 c3, Ending.returned (Value.tuple #[.slice (some ⟨b, o, none⟩) n c, .int .i64 16]) = Ending.returned (.tuple #[.slice a3 n3 c3, .int .i64 q]) ∧ R.length = n3 ∧ Src w3 a3 (cellsP R) ∧ Below w2.heap.size w2 w3 ∧ (q = 0 → (∃ g, a3 = some ⟨g, 0, none⟩) ∧ n3 ≤ c3 ∧ c3 ≤ maxLen)) := HFH.out w3 B3.out
    clear HFH
    go_wp2_with fail
    exact bodyPost_ret (v := .tuple #[.slice (some ⟨b, o, none⟩) n c, .int .i64 16]) (by simp [results, Tryz.results57, go_sem]) rfl HG.out
  | true =>
  obtain ⟨g, hog⟩ := Option.isSome_iff_exists.1 hom
  rw [hog] at HR1
  obtain ⟨S, hS, _, _⟩ := take_all hst hus
  have hl : lookF f S.fs = some g := by rw [← old_look hS]; exact hog
  have hmt := look_meta hst hS hl
  have hfit := store_fit hst hS g (lookF_mem hl).1
  have hw : S.word.toList ≠ [] := by
    intro e
    have h9 := ((word_iff hst hus hS).1).1 e
    have h8 := no_folders hst hus hS h9
    rw [h8] at hl
    cases hl
  have CO := fun W (hW : Below w.heap.size w W) => l07OfS b2 n2 c2 L hL hgl u f (by omega) (by omega) g.mails (fit_ms hfit) (fol_mails hst hus hfs hS hw hl) W (h2.below hW)
  have hml60 : g.mails.length ≤ 60 := by
    have h9 := (store_sub hst hS g (lookF_mem hl).1).length_le
    rw [List.length_map] at h9
    omega
  have CE := fun W (hW : Below w.heap.size w W) => l07EmptyX b o n c hc hc9 N hN hg u f (by omega) (by omega) W (h.below hW) hx0
  have hel : (emptyR N u f).length ≤ n := by rw [← hN]; exact List.length_filter_le _ _
  have hgw : GoodW (emptyR N u f) := ⟨by omega, fun x hx => hg.2.1 x (List.mem_filter.1 hx).1, hg.2.2.sublist List.filter_sublist⟩
  have hn0 : 0 ≤ nextM (emptyR N u f) := by rw [hne0]; exact n0
  obtain ⟨R1, q1, hR1⟩ : ∃ R1 q1, freshR (emptyR N u f) N u f g.next = (R1, q1) := ⟨_, _, rfl⟩
  have HR2 : rsT N u (g.mails.map (mailP u f)) (R1, q1) = (R, q) := by rw [← hR1]; exact HR1
  have CR := fun (b3 o3 n3 c3 : Nat) (W : World) (hW : Below w.heap.size w W) (j0 : (emptyR N u f).length = n3) (j1 : n3 ≤ c3) (j2 : c3 ≤ maxLen) (j3 : Src W (some ⟨b3, o3, none⟩) (cellsP (emptyR N u f))) => l07FreshX b3 o3 n3 c3 (emptyR N u f) j0 (by omega) j1 j2 hgw (some ⟨b, o, none⟩) n c N hN u f g.next W j3 (h.below hW) (by omega) (by omega) hn0 hfit.2.2.1 hfit.2.2.2.1 R1 q1 hR1
  have HRU : Hid (q1 = 0 → R1.length ≤ 60 ∧ UpL R1 ∧ ∀ x ∈ R1, x.1.size ≤ 1000 ∧ x.2.size ≤ 1000) := fun e => by
    subst e
    obtain ⟨k1, k2⟩ := fresh_ok hgw.2.2 hR1
    exact ⟨k1, k2, fresh_small hgw.2.2 (fun x hx => by have := hgw.2.1 x hx; omega) hn0 (by omega) (by omega) hfit.2.2.1 hfit.2.2.2.1 hR1⟩
  obtain ⟨ER, hER⟩ : ∃ t, emptyR N u f = t := ⟨_, rfl⟩
  simp only [hER] at CE CR
  obtain ⟨gv, hgv⟩ : ∃ t, g.val = t := ⟨_, rfl⟩
  obtain ⟨gn, hgn⟩ : ∃ t, g.next = t := ⟨_, rfl⟩
  obtain ⟨Ms, hMs⟩ : ∃ t, g.mails = t := ⟨_, rfl⟩
  have HFM : Hid (FitMs Ms) := by rw [← hMs]; exact fit_ms hfit
  obtain ⟨ml, hml⟩ : ∃ t, Ms.length = t := ⟨_, rfl⟩
  simp only [hMs, hml] at CO
  simp only [hgn] at CR
  rw [hgv, hgn] at hmt
  rw [hMs] at HR2 hml60
  rw [hml] at hml60
  obtain ⟨X, hX⟩ : ∃ t, Ms.map (mailP u f) = t := ⟨_, rfl⟩
  rw [hX] at HR2
  have HX : Hid (Ms.map (mailP u f) = X) := hX
  have HML : Hid (Ms.length = ml) := hml
  have HRT : Hid (rsT N u X (R1, q1) = (R, q)) := HR2
  have HMT : Hid (metaM L u f = some (gv, gn)) := hmt
  have HXS : Hid (∀ x ∈ X, x.1.size ≤ 1048576 ∧ x.2.size ≤ 1048576) := by rw [← hX]; exact mail_small (by omega) (by omega) HFM.out
  clear hN hL h h2 hg HR HR1 HR2 hst hsu hsf hus hfs n0 hx0 hne0 htv htb hKU hgl hom hog hS hl hmt hfit hw hgw hn0 hR1 hER hgv hgn hMs hml hX hel htm
  go_enter Tryz.func57, Tryz.ntmps57
  go_wp2_with fail
  refine (CU _).mono ?_
  rintro e w1 ⟨rfl, hw1⟩
  obtain rfl := hw1
  clear CU
  go_wp2_with fail
  refine (CG _ (Below.refl _ _)).mono ?_
  rintro e w2 ⟨rfl, hw2⟩
  obtain rfl := hw2
  have B2 : Hid (Below w2.heap.size w2 w2) := Below.refl _ _
  have CM2 := CM w2 B2.out
  clear CG CM
  go_wp2_with fail
  refine CM2.mono ?_
  rintro e w3 ⟨x3, y3, rfl, hp3, hb3⟩
  obtain ⟨e31, e32⟩ := hp3 _ HMT.out
  have e31' : x3 = gv := e31
  have e32' : y3 = gn := e32
  subst e31' e32'
  have B3 : Hid (Below w2.heap.size w2 w3) := B2.out.trans (hb3.mono B2.out.size)
  have CO3 := CO w3 B3.out
  clear hb3 CM2 hp3 e31 e32 CO HMT
  go_wp2_with fail
  refine CO3.mono ?_
  rintro e w4 ⟨v4, rfl, ho4, hb4⟩
  obtain ⟨am, cm, rfl, hs4, _⟩ := own_src ho4
  have B4 : Hid (Below w2.heap.size w2 w4) := B3.out.trans (hb4.mono B3.out.size)
  have S4 : Hid (Src w4 am (cellsMl Ms)) := hs4
  have CE4 := CE w4 B4.out
  clear hb4 CO3 CE ho4 hs4
  go_wp2_with fail
  refine CE4.mono ?_
  rintro e w5 ⟨b5, o5, n5, c5, rfl, j1, j2, j0, j3, hb5⟩
  have B5 : Hid (Below w2.heap.size w2 w5) := B4.out.trans (hb5.mono B4.out.size)
  have S5 : Hid (Src w5 am (cellsMl Ms)) := S4.out.below hb5
  have CR5 := CR b5 o5 n5 c5 w5 B5.out j0 j1 j2 j3
  clear CE4 hb5 j0 j1 j2 j3 CR
  go_wp2_with fail
  refine CR5.mono ?_
  rintro e w8 ⟨a8, n8, c8, rfl, j1, j2, hb8, j3⟩
  have B8 : Hid (Below w2.heap.size w2 w8) := B5.out.trans (hb8.mono B5.out.size)
  have S8 : Hid (Src w8 am (cellsMl Ms)) := S5.out.below hb8
  have HJ : Hid (R1.length = n8 ∧ Src w8 a8 (cellsP R1) ∧ (q1 = 0 → (∃ g, a8 = some ⟨g, 0, none⟩) ∧ n8 ≤ c8 ∧ c8 ≤ maxLen)) := ⟨j1, j2, j3.1⟩
  clear CR5 hb8 j1 j2 j3
  by_cases eq1 : q1 = 0
  case neg =>
    have HRT9 := HRT.out
    unfold rsT at HRT9
    rw [if_pos eq1] at HRT9
    have HFH : Hid (∀ W, Below w2.heap.size w2 W → ∃ a3 n3 c3, Ending.returned (Value.tuple #[.slice (some ⟨b, o, none⟩) n c, .int .i64 q1]) = Ending.returned (.tuple #[.slice a3 n3 c3, .int .i64 q]) ∧ R.length = n3 ∧ Src W a3 (cellsP R) ∧ Below w2.heap.size w2 W ∧ (q = 0 → (∃ g, a3 = some ⟨g, 0, none⟩) ∧ n3 ≤ c3 ∧ c3 ≤ maxLen)) := fun W hW => HBAD.out W q1 eq1 hW HRT9
    have hqi : (q1 != 0) = true := by simpa using eq1
    clear HRT9 HRT HBAD
    have HG : Hid (∃ a3 n3 c3, Ending.returned (Value.tuple #[.slice (some ⟨b, o, none⟩) n c, .int .i64 q1]) = Ending.returned (.tuple #[.slice a3 n3 c3, .int .i64 q]) ∧ R.length = n3 ∧ Src w8 a3 (cellsP R) ∧ Below w2.heap.size w2 w8 ∧ (q = 0 → (∃ g, a3 = some ⟨g, 0, none⟩) ∧ n3 ≤ c3 ∧ c3 ≤ maxLen)) := HFH.out w8 B8.out
    clear HFH
    go_wp2_with fail
    exact bodyPost_ret (v := .tuple #[.slice (some ⟨b, o, none⟩) n c, .int .i64 q1]) (by simp [results, Tryz.results57, go_sem]) rfl HG.out
  subst eq1
  obtain ⟨⟨g8, rfl⟩, hnc, hc8⟩ := HJ.out.2.2 rfl
  obtain ⟨h60, hup, hsm⟩ := HRU.out rfl
  have HRS : Hid ((if 6 < countM (insAll X R1) u then (N, 12) else fitsR N (insAll X R1)) = (R, q)) := by
    have h9 := HRT.out
    unfold rsT at h9
    rw [if_neg (by simp)] at h9
    exact h9
  have HUP : Hid (UpL R1 ∧ ∀ x ∈ R1, x.1.size ≤ 1000 ∧ x.2.size ≤ 1000) := ⟨hup, hsm⟩
  have H8 : Hid (R1.length = n8 ∧ Src w8 (some ⟨g8, 0, none⟩) (cellsP R1)) := ⟨HJ.out.1, HJ.out.2.1⟩
  have hn8 : n8 ≤ 60 := by rw [← HJ.out.1]; exact h60
  clear HJ HRT HRU h60 hup hsm
  go_wp2_with fail
  go_loopw [16, 18] (fun v iv wr => ∃ (j n' g' c' : Nat), j ≤ ml ∧ v = .slice (some ⟨g', 0, none⟩) n' c' ∧ iv = .int .i64 (j : Int) ∧ n' ≤ c' ∧ c' ≤ maxLen ∧ Hid ((insAll (X.take j) R1).length = n') ∧ Hid (Src wr (some ⟨g', 0, none⟩) (cellsP (insAll (X.take j) R1))) ∧ Hid (Below w2.heap.size w2 wr) ∧ Hid (Below w8.heap.size w8 wr)) (fun _ i _ => ml - (RowKit.intOf i).toNat)
  case atStart => exact ⟨0, n8, g8, c8, by omega, rfl, rfl, hnc, hc8, H8.out.1, H8.out.2, B8.out, Below.refl _ _⟩
  case round =>
    obtain ⟨j, n', g', c', hj, rfl, rfl, hnc', hc', hlen, hsr, hbr, hb8r⟩ := hrel
    by_cases hlt : j < ml
    · have hlti : (j : Int) < (ml : Int) := by omega
      have hjM : j < Ms.length := by rw [HML.out]; exact hlt
      obtain ⟨bm, om, x0, x1, x2, rfl, m0, m1, m2, hx⟩ := srcMl (S8.out.below hb8r.out) hjM
      obtain ⟨y0, y1, y2, y3, y4⟩ := HFM.out (Ms.getD j ml0) (mem_getD' Ms ml0 j hjM)
      rw [hx.out] at y0 y1 y2 y3 y4
      dsimp only at y0 y1 y2 y3 y4
      obtain ⟨un, hun⟩ : ∃ un : Nat, (un : Int) = x0 := ⟨x0.toNat, by omega⟩
      subst hun
      have hu9 : un < 1000 := by omega
      have CMM := fun W => l07MailS u f un hu9 (by omega) (by omega) W
      have CGG := fun W => digitsI x1 y2 (by omega) W
      have hxj : X.getD j p0 = (mailK u f (un : Int), mailV ((un : Int), x1, x2)) := by
        rw [← HX.out, map_getD Ms j hjM, hx.out]
        rfl
      have hst9 := insAll_step X R1 j (by rw [← HX.out, List.length_map]; exact hjM)
      rw [hxj] at hst9
      have hil := insAll_len (X.take j) HUP.out.1
      have htl := List.length_take_le j X
      have hn9 : n' ≤ 200 := by
        rw [← hlen.out]
        have := H8.out.1
        omega
      have CP := fun W (hW : Below wr.heap.size wr W) => l01PutM g' 0 n' c' (insAll (X.take j) R1) (mailK u f (un : Int)) (mailV ((un : Int), x1, x2)) W hlen.out (by omega) hnc' hc' (insAll_up _ HUP.out.1) (hsr.out.below hW)
      rw [← hst9] at CP
      have HMV : Hid (bs (itoa x1) ++ x2 = mailV ((un : Int), x1, x2)) := rfl
      have hzi := itoa_small x1 y2 (by omega)
      obtain ⟨MK, hMK⟩ : ∃ t, mailK u f (un : Int) = t := ⟨_, rfl⟩
      obtain ⟨TI, hTI⟩ : ∃ t, bs (itoa x1) = t := ⟨_, rfl⟩
      obtain ⟨MV, hMV⟩ : ∃ t, mailV ((un : Int), x1, x2) = t := ⟨_, rfl⟩
      simp only [hMK] at CMM CP
      simp only [hTI] at CGG HMV hzi
      simp only [hMV] at CP HMV
      obtain ⟨I9, hI9⟩ : ∃ t, insAll (X.take (j + 1)) R1 = t := ⟨_, rfl⟩
      simp only [hI9] at CP
      have HI9 : Hid (insAll (X.take (j + 1)) R1 = I9) := hI9
      obtain ⟨n9, hn99⟩ : ∃ t, I9.length = t := ⟨_, rfl⟩
      simp only [hn99] at CP
      have HN9 : Hid (I9.length = n9) := hn99
      have hsz : TI.size + x2.size ≤ 2000 := by omega
      clear hst9 hxj hil htl hMK hTI hMV hI9 hn99 hx hlen hsr
      go_upto_region 14 with fail
      refine wp_region_noPanic ?_
      refine wp_region_held_drew (S := fun w' => w'.cell? ⟨bm, om + j * 3, none⟩ = some (.int .i64 (un : Int)) ∧ w'.cell? ⟨bm, om + j * 3 + 1, none⟩ = some (.int .i64 x1) ∧ w'.cell? ⟨bm, om + j * 3 + 2, none⟩ = some (.string x2)) (by kernel_rfl) ⟨m0, m1, m2⟩ (fun hHeld => ?_)
      refine tkA (i := 0) (v := .slice (some ⟨g', 0, none⟩) n' c') ?_ hHeld ?_
      · intro w9 hSw
        obtain ⟨z0, z1, z2⟩ := hSw
        go_simp
      simp only [Act.put, List.setIfInBounds_toArray, List.set_cons_zero, List.set_cons_succ]
      refine tkA (i := 1) (v := .string u) ?_ hHeld ?_
      · intro w9 hSw
        obtain ⟨z0, z1, z2⟩ := hSw
        go_simp
      simp only [Act.put, List.setIfInBounds_toArray, List.set_cons_zero, List.set_cons_succ]
      refine tkA (i := 2) (v := .string f) ?_ hHeld ?_
      · intro w9 hSw
        obtain ⟨z0, z1, z2⟩ := hSw
        go_simp
      simp only [Act.put, List.setIfInBounds_toArray, List.set_cons_zero, List.set_cons_succ]
      refine tkA (i := 3) (v := .slice (some ⟨bm, om, none⟩) ml cm) ?_ hHeld ?_
      · intro w9 hSw
        obtain ⟨z0, z1, z2⟩ := hSw
        go_simp
      simp only [Act.put, List.setIfInBounds_toArray, List.set_cons_zero, List.set_cons_succ]
      refine tkA (i := 4) (v := .int .i64 (j : Int)) ?_ hHeld ?_
      · intro w9 hSw
        obtain ⟨z0, z1, z2⟩ := hSw
        go_simp
      simp only [Act.put, List.setIfInBounds_toArray, List.set_cons_zero, List.set_cons_succ]
      refine tkA (i := 5) (v := .pointer (some ⟨bm, om + j * 3, none⟩)) ?_ hHeld ?_
      · intro w9 hSw
        obtain ⟨z0, z1, z2⟩ := hSw
        go_simp
      simp only [Act.put, List.setIfInBounds_toArray, List.set_cons_zero, List.set_cons_succ]
      refine tkA (i := 6) (v := .pointer (some ⟨bm, om + j * 3, none⟩)) ?_ hHeld ?_
      · intro w9 hSw
        obtain ⟨z0, z1, z2⟩ := hSw
        go_simp
      simp only [Act.put, List.setIfInBounds_toArray, List.set_cons_zero, List.set_cons_succ]
      refine tkA (i := 7) (v := .int .i64 (un : Int)) ?_ hHeld ?_
      · intro w9 hSw
        obtain ⟨z0, z1, z2⟩ := hSw
        go_simp
      simp only [Act.put, List.setIfInBounds_toArray, List.set_cons_zero, List.set_cons_succ]
      refine tkA (i := 9) (v := .slice (some ⟨bm, om, none⟩) ml cm) ?_ hHeld ?_
      · intro w9 hSw
        obtain ⟨z0, z1, z2⟩ := hSw
        go_simp
      simp only [Act.put, List.setIfInBounds_toArray, List.set_cons_zero, List.set_cons_succ]
      refine tkA (i := 10) (v := .int .i64 (j : Int)) ?_ hHeld ?_
      · intro w9 hSw
        obtain ⟨z0, z1, z2⟩ := hSw
        go_simp
      simp only [Act.put, List.setIfInBounds_toArray, List.set_cons_zero, List.set_cons_succ]
      refine tkA (i := 11) (v := .pointer (some ⟨bm, om + j * 3, none⟩)) ?_ hHeld ?_
      · intro w9 hSw
        obtain ⟨z0, z1, z2⟩ := hSw
        go_simp
      simp only [Act.put, List.setIfInBounds_toArray, List.set_cons_zero, List.set_cons_succ]
      refine tkA (i := 12) (v := .pointer (some ⟨bm, om + j * 3 + 1, none⟩)) ?_ hHeld ?_
      · intro w9 hSw
        obtain ⟨z0, z1, z2⟩ := hSw
        go_simp
      simp only [Act.put, List.setIfInBounds_toArray, List.set_cons_zero, List.set_cons_succ]
      refine tkA (i := 13) (v := .int .i64 x1) ?_ hHeld ?_
      · intro w9 hSw
        obtain ⟨z0, z1, z2⟩ := hSw
        go_simp
      simp only [Act.put, List.setIfInBounds_toArray, List.set_cons_zero, List.set_cons_succ]
      refine tkA (i := 15) (v := .slice (some ⟨bm, om, none⟩) ml cm) ?_ hHeld ?_
      · intro w9 hSw
        obtain ⟨z0, z1, z2⟩ := hSw
        go_simp
      simp only [Act.put, List.setIfInBounds_toArray, List.set_cons_zero, List.set_cons_succ]
      refine tkA (i := 16) (v := .int .i64 (j : Int)) ?_ hHeld ?_
      · intro w9 hSw
        obtain ⟨z0, z1, z2⟩ := hSw
        go_simp
      simp only [Act.put, List.setIfInBounds_toArray, List.set_cons_zero, List.set_cons_succ]
      refine tkA (i := 17) (v := .pointer (some ⟨bm, om + j * 3, none⟩)) ?_ hHeld ?_
      · intro w9 hSw
        obtain ⟨z0, z1, z2⟩ := hSw
        go_simp
      simp only [Act.put, List.setIfInBounds_toArray, List.set_cons_zero, List.set_cons_succ]
      refine tkA (i := 18) (v := .pointer (some ⟨bm, om + j * 3 + 2, none⟩)) ?_ hHeld ?_
      · intro w9 hSw
        obtain ⟨z0, z1, z2⟩ := hSw
        go_simp
      simp only [Act.put, List.setIfInBounds_toArray, List.set_cons_zero, List.set_cons_succ]
      refine tkA (i := 19) (v := .string x2) ?_ hHeld ?_
      · intro w9 hSw
        obtain ⟨z0, z1, z2⟩ := hSw
        go_simp
      simp only [Act.put, List.setIfInBounds_toArray, List.set_cons_zero, List.set_cons_succ]
      refine wpAnyH_ready (rs := [8]) (by kernel_rfl) (by simp) ?_
      refine AllReadyH.cons rfl (fun K hK => ?_) AllReadyH.nil
      go_simp
      refine (CMM _).mono ?_
      rintro e wm ⟨rfl, hbq⟩
      have BM : Hid (Below wr.heap.size wr wm) := (Below.refl _ _).drew.trans hbq
      clear hbq
      dsimp only
      refine hK _ _ ⟨cell_later BM.out m0, cell_later BM.out m1, cell_later BM.out m2⟩ (fun hHeld => ?_)
      clear hK K
      refine wpAnyH_ready (rs := [14]) (by kernel_rfl) (by simp) ?_
      refine AllReadyH.cons rfl (fun K hK => ?_) AllReadyH.nil
      go_simp
      refine (CGG _).mono ?_
      rintro e wd ⟨rfl, hbq⟩
      have BD : Hid (Below wr.heap.size wr wd) := BM.out.trans (hbq.mono BM.out.size)
      clear hbq
      dsimp only
      refine hK _ _ ⟨cell_later BD.out m0, cell_later BD.out m1, cell_later BD.out m2⟩ (fun hHeld => ?_)
      clear hK K
      refine tkA (i := 20) (v := .string MV) ?_ hHeld ?_
      · intro w9 hSw
        obtain ⟨z0, z1, z2⟩ := hSw
        have hmv := HMV.out
        go_simp
        omega
      simp only [Act.put, List.setIfInBounds_toArray, List.set_cons_zero, List.set_cons_succ]
      refine wpAnyH_ready (rs := [21]) (by kernel_rfl) (by simp) ?_
      refine AllReadyH.cons rfl (fun K hK => ?_) AllReadyH.nil
      go_simp
      have CPD := CP wd BD.out
      refine CPD.mono ?_
      rintro e wp ⟨gp, cp, rfl, j1, j2, j3, hbp⟩
      have BP : Hid (Below wr.heap.size wr wp) := BD.out.trans (hbp.mono BD.out.size)
      have HPF : Hid (n9 ≤ cp ∧ cp ≤ maxLen ∧ Src wp (some ⟨gp, 0, none⟩) (cellsP I9)) := ⟨j1, j2, j3⟩
      clear hbp j1 j2 j3 CPD
      dsimp only
      refine hK _ _ ⟨cell_later BP.out m0, cell_later BP.out m1, cell_later BP.out m2⟩ (fun hHeld => ?_)
      clear hK K
      refine wpAnyH_ready (rs := [22]) (by kernel_rfl) (by simp) ?_
      refine AllReadyH.cons rfl (fun K hK => ?_) AllReadyH.nil
      go_simp
      refine hK _ _ ⟨cell_later BP.out m0, cell_later BP.out m1, cell_later BP.out m2⟩ (fun hHeld => ?_)
      clear hK K
      refine wpAnyH_done (by kernel_rfl) ?_ _
      refine NoPanic.normal ?_
      clear hHeld
      have HF : Hid (Below w2.heap.size w2 wp ∧ Below w8.heap.size w8 wp) := ⟨hbr.out.trans (BP.out.mono hbr.out.size), hb8r.out.trans (BP.out.mono hb8r.out.size)⟩
      clear BP BD BM
      go_wp2_with fail
      exact ⟨⟨j + 1, n9, gp, cp, by omega, rfl, by go_num, HPF.out.1, HPF.out.2.1, by rw [HI9.out]; exact HN9.out, by rw [HI9.out]; exact HPF.out.2.2, HF.out.1, HF.out.2⟩, by simp [RowKit.intOf]; omega⟩
    · obtain rfl : j = ml := by omega
      have hlti : ¬ (j : Int) < (j : Int) := by omega
      have e9 : X.take j = X := List.take_of_length_le (by rw [← HX.out, List.length_map, HML.out]; exact Nat.le_refl _)
      rw [e9] at hlen hsr
      have hil := insAll_len X HUP.out.1
      have hxl : X.length = j := by rw [← HX.out, List.length_map, HML.out]
      have hn9 : n' ≤ 200 := by
        rw [← hlen.out]
        have := H8.out.1
        omega
      have CC := l07CountW (some ⟨g', 0, none⟩) n' c' (insAll X R1) u wr hlen.out (by omega) (fun x hx => by
        rcases insAll_mem X HUP.out.1 hx with hx | hx
        · exact HXS.out x hx
        · have := HUP.out.2 x hx
          omega) (by omega) hsr.out
      obtain ⟨cn, hcn⟩ : ∃ t, countM (insAll X R1) u = t := ⟨_, rfl⟩
      rw [hcn] at CC
      obtain ⟨I9, hI9⟩ : ∃ t, insAll X R1 = t := ⟨_, rfl⟩
      have HRQ : Hid ((if 6 < cn then (N, 12) else fitsR N I9) = (R, q)) := by
        have h9 := HRS.out
        rw [hcn, hI9] at h9
        exact h9
      have HI : Hid (I9.length = n' ∧ Src wr (some ⟨g', 0, none⟩) (cellsP I9)) := by
        rw [← hI9]
        exact ⟨hlen.out, hsr.out⟩
      clear hlen hsr hil hxl e9 hcn hI9 HRS
      go_wp2_with fail
      refine CC.mono ?_
      rintro e wc ⟨rfl, hbc⟩
      have BC : Hid (Below w2.heap.size w2 wc) := hbr.out.trans (hbc.mono hbr.out.size)
      have HIC : Hid (Src wc (some ⟨g', 0, none⟩) (cellsP I9)) := HI.out.2.below hbc
      clear CC hbc
      by_cases h6 : 6 < cn
      · have h6i : (6 : Int) < (cn : Int) := by omega
        have hq9 := HRQ.out
        rw [if_pos h6] at hq9
        have HFH : Hid (∀ W, Below w2.heap.size w2 W → ∃ a3 n3 c3, Ending.returned (Value.tuple #[.slice (some ⟨b, o, none⟩) n c, .int .i64 12]) = Ending.returned (.tuple #[.slice a3 n3 c3, .int .i64 q]) ∧ R.length = n3 ∧ Src W a3 (cellsP R) ∧ Below w2.heap.size w2 W ∧ (q = 0 → (∃ g, a3 = some ⟨g, 0, none⟩) ∧ n3 ≤ c3 ∧ c3 ≤ maxLen)) := fun W hW => HBAD.out W 12 (by decide) hW hq9
        clear hq9 HRQ HBAD
        have HG : Hid (∃ a3 n3 c3, Ending.returned (Value.tuple #[.slice (some ⟨b, o, none⟩) n c, .int .i64 12]) = Ending.returned (.tuple #[.slice a3 n3 c3, .int .i64 q]) ∧ R.length = n3 ∧ Src wc a3 (cellsP R) ∧ Below w2.heap.size w2 wc ∧ (q = 0 → (∃ g, a3 = some ⟨g, 0, none⟩) ∧ n3 ≤ c3 ∧ c3 ≤ maxLen)) := HFH.out wc BC.out
        clear HFH
        go_wp2_with fail
        exact bodyPost_ret (v := .tuple #[.slice (some ⟨b, o, none⟩) n c, .int .i64 12]) (by simp [results, Tryz.results57, go_sem]) rfl HG.out
      · have h6i : ¬ (6 : Int) < (cn : Int) := by omega
        have hq9 := HRQ.out
        rw [if_neg h6] at hq9
        unfold fitsR at hq9
        rw [HI.out.1] at hq9
        by_cases h7 : 60 < n'
        · have CF := l07FitsS (some ⟨b, o, none⟩) n c (some ⟨g', 0, none⟩) n' c' wc (some ⟨b, o, none⟩) n c 7 (by show ite _ _ _; rw [if_pos h7])
          rw [if_pos h7] at hq9
          have HFH : Hid (∀ W, Below w2.heap.size w2 W → ∃ a3 n3 c3, Ending.returned (Value.tuple #[.slice (some ⟨b, o, none⟩) n c, .int .i64 7]) = Ending.returned (.tuple #[.slice a3 n3 c3, .int .i64 q]) ∧ R.length = n3 ∧ Src W a3 (cellsP R) ∧ Below w2.heap.size w2 W ∧ (q = 0 → (∃ g, a3 = some ⟨g, 0, none⟩) ∧ n3 ≤ c3 ∧ c3 ≤ maxLen)) := fun W hW => HBAD.out W 7 (by decide) hW hq9
          clear hq9 HRQ HBAD
          go_wp2_with fail
          refine CF.mono ?_
          rintro e w5 ⟨rfl, hw5⟩
          obtain rfl := hw5
          clear CF
          have HG : Hid (∃ a3 n3 c3, Ending.returned (Value.tuple #[.slice (some ⟨b, o, none⟩) n c, .int .i64 7]) = Ending.returned (.tuple #[.slice a3 n3 c3, .int .i64 q]) ∧ R.length = n3 ∧ Src w5 a3 (cellsP R) ∧ Below w2.heap.size w2 w5 ∧ (q = 0 → (∃ g, a3 = some ⟨g, 0, none⟩) ∧ n3 ≤ c3 ∧ c3 ≤ maxLen)) := HFH.out w5 BC.out
          clear HFH
          go_wp2_with fail
          exact bodyPost_ret (v := .tuple #[.slice (some ⟨b, o, none⟩) n c, .int .i64 7]) (by simp [results, Tryz.results57, go_sem]) rfl HG.out
        · have CF := l07FitsS (some ⟨b, o, none⟩) n c (some ⟨g', 0, none⟩) n' c' wc (some ⟨g', 0, none⟩) n' c' 0 (by show ite _ _ _; rw [if_neg h7])
          rw [if_neg h7] at hq9
          have HRE : Hid (I9 = R ∧ 0 = q) := by cases hq9; exact ⟨rfl, rfl⟩
          have HF : Hid (R.length = n' ∧ Src wc (some ⟨g', 0, none⟩) (cellsP R) ∧ Below w2.heap.size w2 wc ∧ (q = 0 → (∃ g, (some ⟨g', 0, none⟩ : Option Addr) = some ⟨g, 0, none⟩) ∧ n' ≤ c' ∧ c' ≤ maxLen)) := by
            rw [← HRE.out.1]
            exact ⟨HI.out.1, HIC.out, BC.out, fun _ => ⟨⟨_, rfl⟩, hnc', hc'⟩⟩
          have HQ0 : Hid (0 = q) := HRE.out.2
          clear hq9 HRQ HBAD HRE
          go_wp2_with fail
          refine CF.mono ?_
          rintro e w5 ⟨rfl, hw5⟩
          obtain rfl := hw5
          clear CF
          go_wp2_with fail
          exact bodyPost_ret (v := .tuple #[.slice (some ⟨g', 0, none⟩) n' c', .int .i64 0]) (by simp [results, Tryz.results57, go_sem]) rfl ⟨_, _, _, by rw [HQ0.out], HF.out⟩
end Go.Proofs.YthgbclipknfmjaaGreatDoor
