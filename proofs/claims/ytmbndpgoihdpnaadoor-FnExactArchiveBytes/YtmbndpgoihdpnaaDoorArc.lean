
/-
  Archives: ArchiveBytes of the program and of the specification. By an AI agent.
-/
import Derived.Test.YtmbndpgoihdpnaaDoorBku
import Derived.Test.YtmbndpgoihdpnaaDoorBkc
import Derived.Test.YtmbndpgoihdpnaaDoorBkr
import Derived.Test.YtmbndpgoihdpnaaDoorRdf
namespace Go.Proofs.YtmbndpgoihdpnaaDoor
open Go.ChangeShapes Go.WideShapes Go.ChangeAt Go.RowKit Go.Deep
set_option linter.unusedVariables false
set_option linter.unusedSimpArgs false
set_option maxRecDepth 100000

def arcA (H : List BM) : List ByteArray × Int := if 4096 < H.length then ([], 2) else if 20 < H.length then ([], 6) else if H.all okK = true then (H.map fun D => strB (bytesK D), 0) else ([], 1)
theorem arc_small {H : List BM} {R : List ByteArray} {q : Int} (h : arcA H = (R, q)) : R.length ≤ 1048576 := by
  unfold arcA at h
  split at h
  · cases h; simp
  · split at h
    · cases h; simp
    · split at h
      · cases h; rw [List.length_map]; omega
      · cases h; simp
theorem take_snocB {H : List BM} {k : Nat} {D : BM} (hk : k < H.length) (h : H.getD k bk0 = D) : H.take (k + 1) = H.take k ++ [D] := by
  rw [List.take_succ_eq_append_getElem hk, ← h, List.getD_eq_getElem?_getD, List.getElem?_eq_getElem hk]; rfl
theorem all_bad {H : List BM} {k : Nat} {D : BM} (hk : k < H.length) (h : H.getD k bk0 = D) (hb : okK D = false) : H.all okK = false := by
  rw [List.all_eq_false]
  exact ⟨D, by rw [← h]; exact getD_memB H k hk, by rw [hb]; decide⟩
theorem bkA_yes {D : BM} (h : okK D = true) : bkA D = (bytesK D, 0) := by unfold bkA; rw [if_pos h]
theorem bkA_no {D : BM} (h : okK D = false) : bkA D = ([], 1) := by unfold bkA; rw [if_neg (by rw [h]; decide)]
theorem infoSS : (Tryd.prog.info? 9).map (fun i => (i.zero, i.size, i.bytes)) = some (some (.string ⟨#[]⟩), 1, 16) := by kernel_rfl
theorem conv_allB {w : World} {a : Option Addr} {n c : Nat} {B : List Nat} (h : Src w a (cellsB B)) (ha : ∃ b o, a = some ⟨b, o, none⟩) (hn : B.length = n) : (convert 34 9 (.slice a n c)).run Tryd.prog w = .ok (.string (strB B)) w := by
  obtain ⟨b, o, rfl⟩ := ha
  have := conv_sub (c := c) h (Nat.le_refl B.length)
  rw [List.take_length, hn] at this
  exact this
theorem own_one {w : World} {base e s n : Nat} {v : Value} {xs : List Value} (h : w.ownsRow base e s v n xs) (hx : xs ≠ []) : ∃ b c, v = .slice (some ⟨b, 0, none⟩) n c := by
  rcases h.2 with ⟨rfl, h0⟩ | ⟨B, cap, cur, rfl, _⟩
  · subst h0
    have := h.1
    rw [Nat.zero_mul] at this
    exact absurd (List.eq_nil_of_length_eq_zero this) hx
  · exact ⟨B, cap, rfl⟩
theorem bytesK_ne (D : BM) : bytesK D ≠ [] := by unfold bytesK; simp
theorem bytesK_len {D : BM} (h : okK D = true) : (bytesK D).length ≤ 1048576 := bkA_len (bkA_yes h)

theorem chainFault (n : Nat) (w : World) : Calls Tryd.prog 33 #[.int .i64 (n : Int)] w fun e w' => e = .returned (.int .i64 (if 4096 < n then 2 else if 20 < n then 6 else 0)) ∧ w' = w := by
  by_cases t1 : (4096 : Int) < (n : Int)
  · have E : Hid ((if 4096 < n then (2 : Int) else if 20 < n then 6 else 0) = 2) := by show _ = _; rw [if_pos (by omega)]
    rw [E.out]
    go_enter Tryd.func33, Tryd.ntmps33
    go_wp2_with fail
    go_ret
    exact ⟨rfl, rfl⟩
  by_cases t2 : (20 : Int) < (n : Int)
  · have E : Hid ((if 4096 < n then (2 : Int) else if 20 < n then 6 else 0) = 6) := by show _ = _; rw [if_neg (by omega), if_pos (by omega)]
    rw [E.out]
    go_enter Tryd.func33, Tryd.ntmps33
    go_wp2_with fail
    go_ret
    exact ⟨rfl, rfl⟩
  have E : Hid ((if 4096 < n then (2 : Int) else if 20 < n then 6 else 0) = 0) := by show _ = _; rw [if_neg (by omega), if_neg (by omega)]
  rw [E.out]
  go_enter Tryd.func33, Tryd.ntmps33
  go_wp2_with fail
  go_ret
  exact ⟨rfl, rfl⟩

theorem l06BytesV (v : Value) (D : BM) (w : World) (hok : okK D = true) (hv : ReadsK w v D) :
    Calls Tryd.prog 31 #[v] w fun e w' => ∃ u, e = .returned u ∧ w'.ownsRow w.heap.size 5 1 u (bytesK D).length (cellsB (bytesK D)) ∧ Below w.heap.size w w' := by
  obtain ⟨a, c, rfl, h⟩ := hv
  have F0 := okK_facts hok
  obtain ⟨cx, hcx⟩ : ∃ x : Nat, D.C = (x : Int) := ⟨D.C.toNat, by have := F0.1; omega⟩
  obtain ⟨sx, hsx⟩ : ∃ x : Nat, D.S = (x : Int) := ⟨D.S.toNat, by have := F0.2.1; omega⟩
  have E : bytesK D = [98, 97, 99, 107, 117, 112] ++ (numQ cx ++ fieldsB [D.F, D.T]) ++ [D.D.length] ++ partsB D.D ++ numQ sx ++ numQ (sumL (numQ cx ++ fieldsB [D.F, D.T] ++ partsB D.D ++ numQ sx)) := by
    unfold bytesK linkN headB
    rw [hcx, hsx, Int.toNat_natCast, Int.toNat_natCast, Nat.mod_eq_of_lt (by have := F0.2.2.2.2.1; omega)]
  rw [E, hcx, hsx]
  refine (specBytes D.F D.T cx sx a D.D.length c D.D w F0.2.2.1 F0.2.2.2.1 (by have := F0.1; omega) (by have := F0.2.1; omega) rfl F0.2.2.2.2.1 F0.2.2.2.2.2 h).mono ?_
  rintro e w2 ⟨v2, rfl, o2, hb2⟩
  exact ⟨v2, rfl, own_mono o2 (by omega), hb2⟩

set_option maxHeartbeats 4000000 in
theorem implArchiveBytes (a : Option Addr) (n c : Nat) (H : List BM) (w : World) (hL : H.length = n) (hn : n ≤ 1048576) (hs : ∀ D ∈ H, smallK D) (h : ReadsBL w a H) (hH : HasHalf w) :
    Calls Tryd.prog 9 #[.slice a n c] w fun e w' => ∃ v R q, e = .returned (.tuple #[v, .int .i64 q]) ∧ arcA H = (R, q) ∧ w'.ownsRow w.heap.size 9 1 v R.length (cellsS R) ∧ Below w.heap.size w w' := by
  have HH : Hid (ReadsBL w a H) := h
  have HL : Hid (H.length = n) := hL
  have HS : Hid (∀ i, i < n → smallK (H.getD i bk0)) := fun i hi => hs _ (getD_memB H i (by omega))
  have HF : Hid (HasHalf w) := hH
  clear h hs hL hH
  by_cases t1 : 4096 < n
  · have F : Hid (arcA H = ([], 2)) := by show _ = _; unfold arcA; rw [if_pos (by rw [HL.out]; exact t1)]
    go_enter Tryd.func9, Tryd.ntmps9
    go_wp2_with fail
    refine (chainFault n _).mono ?_
    rintro e w1 ⟨rfl, rfl⟩
    rw [if_pos t1]
    go_wp2_with fail
    go_ret2
    exact ⟨_, [], 2, rfl, F.out, World.ownsRow_nil _ _ _ _, Below.refl _ _⟩
  by_cases t2 : 20 < n
  · have F : Hid (arcA H = ([], 6)) := by show _ = _; unfold arcA; rw [if_neg (by rw [HL.out]; exact t1), if_pos (by rw [HL.out]; exact t2)]
    go_enter Tryd.func9, Tryd.ntmps9
    go_wp2_with fail
    refine (chainFault n _).mono ?_
    rintro e w1 ⟨rfl, rfl⟩
    rw [if_neg t1, if_pos t2]
    go_wp2_with fail
    go_ret2
    exact ⟨_, [], 6, rfl, F.out, World.ownsRow_nil _ _ _ _, Below.refl _ _⟩
  have HA : Hid (arcA H = if H.all okK = true then (H.map fun D => strB (bytesK D), 0) else ([], 1)) := by show _ = _; unfold arcA; rw [if_neg (by rw [HL.out]; exact t1), if_neg (by rw [HL.out]; exact t2)]
  go_enter Tryd.func9, Tryd.ntmps9
  go_wp2_with fail
  refine (chainFault n _).mono ?_
  rintro e w1 ⟨rfl, rfl⟩
  rw [if_neg t1, if_neg t2]
  go_wp2_with fail
  go_loopw [5, 18] (fun v i wr => ∃ (k : Nat) (u : Value), u = v ∧ k ≤ n ∧ i = .int .i64 (k : Int) ∧ Hid ((H.take k).all okK = true) ∧ Hid (wr.ownsRow w1.heap.size 9 1 u k (cellsS ((H.take k).map fun D => strB (bytesK D)))) ∧ Hid (Below w1.heap.size w1 wr)) (fun _ i _ => n - (RowKit.intOf i).toNat)
  case atStart => exact ⟨0, _, rfl, by omega, rfl, by simp [Hid], by simpa [Hid, cellsS] using World.ownsRow_nil _ _ _ _, Below.refl _ _⟩
  case round =>
    obtain ⟨k, u, hu, hk, rfl, hall, ho, hb⟩ := hrel
    subst hu
    by_cases hlt : k < n
    · have hki : (k : Int) < (n : Int) := by omega
      obtain ⟨b1, o1, D, a1, c1, rfl, r0, r1, r2, r3, r4, hD, hR⟩ := srcBk (HH.out.below hb.out) (i := k) (by rw [HL.out]; exact hlt)
      have SD : Hid (smallK D) := by show smallK D; rw [← hD.out]; exact HS.out k hlt
      have KH : Hid (k < H.length) := by show _ < _; rw [HL.out]; exact hlt
      have HB0 : Hid (Below w1.heap.size w1 wr) := hb.out
      have HO0 : Hid (wr.ownsRow w1.heap.size 9 1 u k (cellsS ((H.take k).map fun D => strB (bytesK D)))) := ho.out
      obtain ⟨F, hF⟩ : ∃ A, D.F = A := ⟨_, rfl⟩
      obtain ⟨T, hT⟩ : ∃ A, D.T = A := ⟨_, rfl⟩
      obtain ⟨C, hC⟩ : ∃ A, D.C = A := ⟨_, rfl⟩
      obtain ⟨S, hS⟩ : ∃ A, D.S = A := ⟨_, rfl⟩
      obtain ⟨n1, hn1⟩ : ∃ n, D.D.length = n := ⟨_, rfl⟩
      rw [hF, hT, hC, hS, hn1] at hR
      rw [hF] at r0
      rw [hT] at r1
      rw [hC] at r2
      rw [hn1] at r3
      rw [hS] at r4
      clear hb ho hF hT hC hS hn1
      go_wp2_with fail
      refine (implBackupBytes _ D _ SD.out (hR.out.below ((Below.refl _ _).alloc (Nat.le_refl _) _)) (HF.out.below (HB0.out.alloc HB0.out.size _))).mono ?_
      rintro e w2 ⟨u', R, q, rfl, heq, own2, hl2, hb2⟩
      have B2 : Hid (Below w1.heap.size w1 w2) := (HB0.out.alloc HB0.out.size _).trans (hb2.mono (Nat.le_trans HB0.out.size (by simp)))
      have O2 : Hid (w2.ownsRow w1.heap.size 9 1 u k (cellsS ((H.take k).map fun D => strB (bytesK D)))) := own_below (own_below HO0.out ((Below.refl _ _).alloc (Nat.le_refl _) _)) hb2
      have XR : Hid (w1.heap.size ≤ w2.heap.size) := B2.out.size
      clear HB0 HO0 r0 r1 r2 r3 r4
      cases hok : okK D with
      | false =>
        have F : Hid (arcA H = ([], 1)) := by show _ = _; rw [HA.out, if_neg (by rw [all_bad KH.out hD.out hok]; decide)]
        rw [bkA_no hok] at heq
        obtain ⟨rfl, rfl⟩ : [] = R ∧ (1 : Int) = q := by simpa using heq
        clear heq own2 hl2 hb2
        go_wp2_with fail
        go_ret2
        exact ⟨_, [], 1, rfl, F.out, World.ownsRow_nil _ _ _ _, B2.out⟩
      | true =>
        rw [bkA_yes hok] at heq
        obtain ⟨rfl, rfl⟩ : bytesK D = R ∧ (0 : Int) = q := by simpa using heq
        have TK : Hid (H.take (k + 1) = H.take k ++ [D]) := take_snocB KH.out hD.out
        have AK : Hid ((H.take (k + 1)).all okK = true) := by show _ = _; rw [TK.out, List.all_append, hall.out]; simp [hok]
        obtain ⟨b2, c2, rfl⟩ := own_one own2 (by intro e; exact bytesK_ne D (by have h9 := congrArg List.length e; rw [cellsB_length] at h9; exact List.eq_nil_of_length_eq_zero h9))
        have SB : Hid (Src w2 (some ⟨b2, 0, none⟩) (cellsB (bytesK D))) := (own_src own2).elim fun a9 h9 => by obtain ⟨c9, e9, s9, _⟩ := h9; cases e9; exact s9
        obtain ⟨m, hm⟩ : ∃ m, (bytesK D).length = m := ⟨_, rfl⟩
        have hcv := conv_allB (c := c2) SB.out ⟨_, _, rfl⟩ hm
        rw [hm]
        have hlt3 : Hid (∀ g, Value.ownBlock u = some g → w1.heap.size ≤ g ∧ g < w2.heap.size) := fun g e => O2.out.lt g e
        clear heq own2 hl2 hb2 hm hall
        go_wp2_with (at_builtin; refine wpList_append_src _ rfl _ _ 24 rfl w1.heap.size 9 (.string ⟨#[]⟩) 1 16 Tryd.underlying24 infoSS rfl (by decide) (by decide) u k (cellsS ((H.take k).map fun D => strB (bytesK D))) rfl (O2.out.alloc _) (some ⟨w2.heap.size, 0, none⟩) 1 1 (cellsS [strB (bytesK D)]) rfl rfl (src_oneS rfl) (cellsS_one _) (by omega) (le_alloc XR.out _) ?_)
        intro v3 w3 hown3 hgrow3
        have B3 : Hid (Below w1.heap.size w1 w3) := (B2.out.alloc B2.out.size _).grown hgrow3 (le_alloc B2.out.size _) (fun g e => (hlt3.out g e).1)
        have O3 : Hid (w3.ownsRow w1.heap.size 9 1 v3 (k + 1) (cellsS ((H.take (k + 1)).map fun D => strB (bytesK D)))) := own_congr hown3 (by rw [TK.out, List.map_append, cellsS_append]; first | rfl | (rw [List.map_take]; rfl))
        clear hown3 hgrow3 hcv
        go_wp2_with fail
        exact ⟨⟨k + 1, _, rfl, by omega, by go_num, AK.out, O3.out, B3.out⟩, by simp [RowKit.intOf]; omega⟩
    · have hkn : k = n := by omega
      have F : Hid (arcA H = (H.map (fun D => strB (bytesK D)), 0)) := by
        have h9 := hall.out
        rw [List.take_of_length_le (by rw [HL.out]; omega)] at h9
        show _ = _
        rw [HA.out, if_pos h9]
      have O : Hid (wr.ownsRow w1.heap.size 9 1 u (H.map fun D => strB (bytesK D)).length (cellsS (H.map fun D => strB (bytesK D)))) := by
        have h9 := ho.out
        rw [List.take_of_length_le (by rw [HL.out]; omega)] at h9
        rw [List.length_map, HL.out, ← hkn]
        exact h9
      have B : Hid (Below w1.heap.size w1 wr) := hb.out
      clear hkn hall ho hb
      go_wp2_with fail
      go_ret2
      exact ⟨_, _, 0, rfl, F.out, O.out, B.out⟩

set_option maxHeartbeats 4000000 in
theorem specArchiveBytes (a : Option Addr) (n c : Nat) (H : List BM) (w : World) (hL : H.length = n) (hn : n ≤ 1048576) (hs : ∀ D ∈ H, smallK D) (h : ReadsBL w a H) :
    Calls Tryd.prog 7 #[.slice a n c] w fun e w' => ∃ v R q, e = .returned (.tuple #[v, .int .i64 q]) ∧ arcA H = (R, q) ∧ w'.ownsRow w.heap.size 9 1 v R.length (cellsS R) ∧ Below w.heap.size w w' := by
  have HH : Hid (ReadsBL w a H) := h
  have HL : Hid (H.length = n) := hL
  have HS : Hid (∀ i, i < n → smallK (H.getD i bk0)) := fun i hi => hs _ (getD_memB H i (by omega))
  clear h hs hL
  by_cases t1 : (4096 : Int) < (n : Int)
  · have F : Hid (arcA H = ([], 2)) := by show _ = _; unfold arcA; rw [if_pos (by rw [HL.out]; omega)]
    go_enter Tryd.func7, Tryd.ntmps7
    go_wp2_with fail
    go_ret2
    exact ⟨_, [], 2, rfl, F.out, own_empty rfl (Nat.le_refl _), (Below.refl _ _).alloc (Nat.le_refl _) _⟩
  by_cases t2 : (20 : Int) < (n : Int)
  · have F : Hid (arcA H = ([], 6)) := by show _ = _; unfold arcA; rw [if_neg (by rw [HL.out]; omega), if_pos (by rw [HL.out]; omega)]
    go_enter Tryd.func7, Tryd.ntmps7
    go_wp2_with fail
    go_ret2
    exact ⟨_, [], 6, rfl, F.out, own_empty rfl (Nat.le_refl _), (Below.refl _ _).alloc (Nat.le_refl _) _⟩
  have HA : Hid (arcA H = if H.all okK = true then (H.map fun D => strB (bytesK D), 0) else ([], 1)) := by show _ = _; unfold arcA; rw [if_neg (by rw [HL.out]; omega), if_neg (by rw [HL.out]; omega)]
  go_enter Tryd.func7, Tryd.ntmps7
  go_wp2_with fail
  go_loopw [4, 5] (fun v i wr => ∃ (k : Nat) (u : Value), u = v ∧ k ≤ n ∧ i = .int .i64 (k : Int) ∧ Hid ((H.take k).all okK = true) ∧ Hid (wr.ownsRow w.heap.size 9 1 u k (cellsS ((H.take k).map fun D => strB (bytesK D)))) ∧ Hid (Below w.heap.size w wr)) (fun _ i _ => n - (RowKit.intOf i).toNat)
  case atStart => exact ⟨0, _, rfl, by omega, rfl, by simp [Hid], own_empty rfl (Nat.le_refl _), (Below.refl _ _).alloc (Nat.le_refl _) _⟩
  case round =>
    obtain ⟨k, u, hu, hk, rfl, hall, ho, hb⟩ := hrel
    subst hu
    by_cases hlt : k < n
    · have hki : (k : Int) < (n : Int) := by omega
      obtain ⟨b1, o1, D, a1, c1, rfl, r0, r1, r2, r3, r4, hD, hR⟩ := srcBk (HH.out.below hb.out) (i := k) (by rw [HL.out]; exact hlt)
      have SD : Hid (smallK D) := by show smallK D; rw [← hD.out]; exact HS.out k hlt
      have KH : Hid (k < H.length) := by show _ < _; rw [HL.out]; exact hlt
      have HB0 : Hid (Below w.heap.size w wr) := hb.out
      have HO0 : Hid (wr.ownsRow w.heap.size 9 1 u k (cellsS ((H.take k).map fun D => strB (bytesK D)))) := ho.out
      obtain ⟨F, hF⟩ : ∃ A, D.F = A := ⟨_, rfl⟩
      obtain ⟨T, hT⟩ : ∃ A, D.T = A := ⟨_, rfl⟩
      obtain ⟨C, hC⟩ : ∃ A, D.C = A := ⟨_, rfl⟩
      obtain ⟨S, hS⟩ : ∃ A, D.S = A := ⟨_, rfl⟩
      obtain ⟨n1, hn1⟩ : ∃ n, D.D.length = n := ⟨_, rfl⟩
      rw [hF, hT, hC, hS, hn1] at hR
      rw [hF] at r0
      rw [hT] at r1
      rw [hC] at r2
      rw [hn1] at r3
      rw [hS] at r4
      clear hb ho hF hT hC hS hn1
      go_wp2_with fail
      go_at_call 30
      refine (specBackupOK _ D _ SD.out hR.out).mono ?_
      rintro e w2 ⟨rfl, hb2⟩
      have B2 : Hid (Below w.heap.size w w2) := HB0.out.trans (hb2.mono HB0.out.size)
      have O2 : Hid (w2.ownsRow w.heap.size 9 1 u k (cellsS ((H.take k).map fun D => strB (bytesK D)))) := own_below HO0.out hb2
      have R2 : Hid (ReadsK w2 (.agg #[.string F, .string T, .int .i64 C, .slice a1 n1 c1, .int .i64 S]) D) := hR.out.below hb2
      have q0 := (hb2.cell (p := ⟨b1, o1 + k * 5, none⟩) (World.block_lt_of_cell? _ _ r0)).trans r0
      have q1 := (hb2.cell (p := ⟨b1, o1 + k * 5 + 1, none⟩) (World.block_lt_of_cell? _ _ r1)).trans r1
      have q2 := (hb2.cell (p := ⟨b1, o1 + k * 5 + 2, none⟩) (World.block_lt_of_cell? _ _ r2)).trans r2
      have q3 := (hb2.cell (p := ⟨b1, o1 + k * 5 + 3, none⟩) (World.block_lt_of_cell? _ _ r3)).trans r3
      have q4 := (hb2.cell (p := ⟨b1, o1 + k * 5 + 4, none⟩) (World.block_lt_of_cell? _ _ r4)).trans r4
      clear HB0 HO0 r0 r1 r2 r3 r4 hb2 hR
      cases hok : okK D with
      | false =>
        have F' : Hid (arcA H = ([], 1)) := by show _ = _; rw [HA.out, if_neg (by rw [all_bad KH.out hD.out hok]; decide)]
        clear q0 q1 q2 q3 q4
        go_wp2_with fail
        go_ret2
        exact ⟨_, [], 1, rfl, F'.out, own_empty rfl B2.out.size, B2.out.alloc B2.out.size _⟩
      | true =>
        have HOK : Hid (okK D = true) := hok
        have TK : Hid (H.take (k + 1) = H.take k ++ [D]) := take_snocB KH.out hD.out
        have AK : Hid ((H.take (k + 1)).all okK = true) := by show _ = _; rw [TK.out, List.all_append, hall.out]; simp [hok]
        clear hok hall
        go_wp2_with fail
        go_at_call 31
        refine (l06BytesV _ D _ HOK.out R2.out).mono ?_
        rintro e w3 ⟨u', rfl, own3, hb3⟩
        have B3 : Hid (Below w.heap.size w w3) := B2.out.trans (hb3.mono B2.out.size)
        have O3 : Hid (w3.ownsRow w.heap.size 9 1 u k (cellsS ((H.take k).map fun D => strB (bytesK D)))) := own_below O2.out hb3
        have XR : Hid (w.heap.size ≤ w3.heap.size) := B3.out.size
        have hlt3 : Hid (∀ g, Value.ownBlock u = some g → w.heap.size ≤ g ∧ g < w3.heap.size) := fun g e => O3.out.lt g e
        obtain ⟨b2, c2, rfl⟩ := own_one own3 (by intro e; exact bytesK_ne D (by have h9 := congrArg List.length e; rw [cellsB_length] at h9; exact List.eq_nil_of_length_eq_zero h9))
        have SB : Hid (Src w3 (some ⟨b2, 0, none⟩) (cellsB (bytesK D))) := (own_src own3).elim fun a9 h9 => by obtain ⟨c9, e9, s9, _⟩ := h9; cases e9; exact s9
        obtain ⟨m, hm⟩ : ∃ m, (bytesK D).length = m := ⟨_, rfl⟩
        have hcv := conv_allB (c := c2) SB.out ⟨_, _, rfl⟩ hm
        rw [hm]
        clear own3 hb3 hm q0 q1 q2 q3 q4 O2 B2 R2
        go_wp2_with (at_builtin; refine wpList_append_src _ rfl _ _ 24 rfl w.heap.size 9 (.string ⟨#[]⟩) 1 16 Tryd.underlying24 infoSS rfl (by decide) (by decide) u k (cellsS ((H.take k).map fun D => strB (bytesK D))) rfl (O3.out.alloc _) (some ⟨w3.heap.size, 0, none⟩) 1 1 (cellsS [strB (bytesK D)]) rfl rfl (src_oneS rfl) (cellsS_one _) (by omega) (le_alloc XR.out _) ?_)
        intro v4 w4 hown4 hgrow4
        have B4 : Hid (Below w.heap.size w w4) := (B3.out.alloc B3.out.size _).grown hgrow4 (le_alloc B3.out.size _) (fun g e => (hlt3.out g e).1)
        have O4 : Hid (w4.ownsRow w.heap.size 9 1 v4 (k + 1) (cellsS ((H.take (k + 1)).map fun D => strB (bytesK D)))) := own_congr hown4 (by rw [TK.out, List.map_append, cellsS_append]; first | rfl | (rw [List.map_take]; rfl))
        clear hown4 hgrow4 hcv
        go_wp2_with fail
        exact ⟨⟨k + 1, _, rfl, by omega, by go_num, AK.out, O4.out, B4.out⟩, by simp [RowKit.intOf]; omega⟩
    · have hkn : k = n := by omega
      have F : Hid (arcA H = (H.map (fun D => strB (bytesK D)), 0)) := by
        have h9 := hall.out
        rw [List.take_of_length_le (by rw [HL.out]; omega)] at h9
        show _ = _
        rw [HA.out, if_pos h9]
      have O : Hid (wr.ownsRow w.heap.size 9 1 u (H.map fun D => strB (bytesK D)).length (cellsS (H.map fun D => strB (bytesK D)))) := by
        have h9 := ho.out
        rw [List.take_of_length_le (by rw [HL.out]; omega)] at h9
        rw [List.length_map, HL.out, ← hkn]
        exact h9
      have B : Hid (Below w.heap.size w wr) := hb.out
      clear hkn hall ho hb
      go_wp2_with fail
      go_ret2
      exact ⟨_, _, 0, rfl, F.out, O.out, B.out⟩
end Go.Proofs.YtmbndpgoihdpnaaDoor
