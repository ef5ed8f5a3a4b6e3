/-
  Rpd Rpe in one. By an AI agent.
-/
import Derived.Test.YtmbndpgoihdpnaaGreatDoorRb2
import Derived.Test.YtmbndpgoihdpnaaGreatDoorRb3
import Derived.Test.YtmbndpgoihdpnaaGreatDoorRa3
namespace Go.Proofs.YtmbndpgoihdpnaaGreatDoor
open Go.ChangeShapes Go.WideShapes Go.ChangeAt Go.RowKit Go.Deep
set_option linter.unusedVariables false
set_option linter.unusedSimpArgs false
set_option maxRecDepth 100000

theorem linkVs (v : Value) (D : BM) (w : World) (hok : okK D = true) (hv : ReadsK w v D) :
    Calls Tryz.prog 51 #[v] w fun e w' => e = .returned (.int .i64 ((linkN D : Nat) : Int)) ∧ Below w.heap.size w w' := by
  obtain ⟨a, c, rfl, h⟩ := hv
  have F0 := okK_facts hok
  obtain ⟨cx, hcx⟩ : ∃ x : Nat, D.C = (x : Int) := ⟨D.C.toNat, by have := F0.1; omega⟩
  obtain ⟨sx, hsx⟩ : ∃ x : Nat, D.S = (x : Int) := ⟨D.S.toNat, by have := F0.2.1; omega⟩
  have E : linkN D = sumL (numQ cx ++ fieldsB [D.F, D.T] ++ partsB D.D ++ numQ sx) := by
    unfold linkN headB
    rw [hcx, hsx, Int.toNat_natCast, Int.toNat_natCast]
  rw [E, hcx, hsx]
  exact specLink D.F D.T cx sx a D.D.length c D.D w F0.2.2.1 F0.2.2.2.1 (by have := F0.1; omega) (by have := F0.2.1; omega) rfl F0.2.2.2.2.1 F0.2.2.2.2.2 h

set_option maxHeartbeats 8000000 in
theorem specReplayAll (a : Option Addr) (n c : Nat) (H : List BM) (w : World) (hL : H.length = n) (hn : n ≤ 1048576) (hs : ∀ D ∈ H, smallK D) (h : ReadsBL w a H) :
    Calls Tryz.prog 19 #[.slice a n c] w fun e w' => ∃ u R q, e = .returned (.tuple #[u, .int .i64 q]) ∧ rpaA H = (R, q) ∧ w'.ownsRow w.heap.size 70 2 u R.length (cellsP R) ∧ Below w.heap.size w w' := by
  have HH : Hid (ReadsBL w a H) := h
  have HL : Hid (H.length = n) := hL
  have HS : Hid (∀ i, i < n → smallK (H.getD i bk0)) := fun i hi => hs _ (getD_memB H i (by omega))
  have EM : Hid (∀ w9 : World, World.ownsRow (w9.alloc (.cells #[] 70)) w9.heap.size 70 2 (.slice (some ⟨w9.heap.size, 0, none⟩) 0 0) 0 []) := fun w9 => own_empty rfl (Nat.le_refl _)
  clear h hs hL
  by_cases t1 : (4096 : Int) < (n : Int)
  · have F9 : Hid (rpaA H = ([], 2)) := by show _ = _; unfold rpaA; rw [if_pos (by rw [HL.out]; omega)]
    go_enter Tryz.func19, Tryz.ntmps19
    go_wp2_with fail
    go_ret2
    exact ⟨_, [], 2, rfl, F9.out, EM.out w, (Below.refl _ _).alloc (Nat.le_refl _) _⟩
  by_cases t2 : (20 : Int) < (n : Int)
  · have F9 : Hid (rpaA H = ([], 6)) := by show _ = _; unfold rpaA; rw [if_neg (by rw [HL.out]; omega), if_pos (by rw [HL.out]; omega)]
    go_enter Tryz.func19, Tryz.ntmps19
    go_wp2_with fail
    go_ret2
    exact ⟨_, [], 6, rfl, F9.out, EM.out w, (Below.refl _ _).alloc (Nat.le_refl _) _⟩
  have RA : Hid (rpaA H = rbA H) := by show _ = _; unfold rpaA; rw [if_neg (by rw [HL.out]; omega), if_neg (by rw [HL.out]; omega)]
  go_enter Tryz.func19, Tryz.ntmps19
  go_wp2_with fail
  go_loopw [4] (fun i wr => ∃ (k : Nat), k ≤ n ∧ i = .int .i64 (k : Int) ∧ Hid ((H.take k).all okK = true) ∧ Hid (Below w.heap.size w wr)) (fun i _ => n - (RowKit.intOf i).toNat)
  case atStart => exact ⟨0, by omega, rfl, by simp [Hid], Below.refl _ _⟩
  case round =>
    obtain ⟨k, hk, rfl, hall, hb⟩ := hrel
    by_cases hlt : k < n
    · have hki : (k : Int) < (n : Int) := by omega
      obtain ⟨b1, o1, D, a1, c1, rfl, r0, r1, r2, r3, r4, hD, hR⟩ := srcBk (HH.out.below hb.out) (i := k) (by rw [HL.out]; exact hlt)
      have SD : Hid (smallK D) := by show smallK D; rw [← hD.out]; exact HS.out k hlt
      have KH : Hid (k < H.length ∧ H.getD k bk0 = D) := ⟨by rw [HL.out]; exact hlt, hD.out⟩
      obtain ⟨F, hF⟩ : ∃ A, D.F = A := ⟨_, rfl⟩
      obtain ⟨T, hT⟩ : ∃ A, D.T = A := ⟨_, rfl⟩
      obtain ⟨C, hC⟩ : ∃ A, D.C = A := ⟨_, rfl⟩
      obtain ⟨S, hS⟩ : ∃ A, D.S = A := ⟨_, rfl⟩
      obtain ⟨n1, hn1⟩ : ∃ n, D.D.length = n := ⟨_, rfl⟩
      have HTT : Hid (D.T = T) := hT
      rw [hF, hT, hC, hS, hn1] at hR
      rw [hF] at r0
      rw [hT] at r1
      rw [hC] at r2
      rw [hn1] at r3
      rw [hS] at r4
      have HB0 : Hid (Below w.heap.size w wr) := hb.out
      clear hb hF hT hC hS hn1
      go_wp2_with fail
      go_at_call 38
      refine (specBackupOK _ D _ SD.out hR.out).mono ?_
      rintro e w2 ⟨rfl, hb2⟩
      have B2 : Hid (Below w.heap.size w w2) := HB0.out.trans (hb2.mono HB0.out.size)
      clear HB0 r0 r1 r2 r3 r4 hb2 hR
      cases hok : okK D with
      | false =>
        have F9 : Hid (rpaA H = ([], 1)) := by show _ = _; rw [RA.out, all_badR KH.out.1 KH.out.2 hok]
        go_wp2_with fail
        go_ret2
        exact ⟨_, [], 1, rfl, F9.out, own_mono (EM.out w2) B2.out.size, B2.out.alloc B2.out.size _⟩
      | true =>
        have AK : Hid ((H.take (k + 1)).all okK = true) := by show _ = _; rw [take_snocR KH.out.1 KH.out.2, List.all_append, hall.out]; simp [hok]
        clear hall hok
        go_wp2_with fail
        exact ⟨⟨k + 1, by omega, by go_num, AK.out, B2.out⟩, by simp [RowKit.intOf]; omega⟩
    · have hkn : k = n := by omega
      have ALL : Hid (H.all okK = true) := by
        have h9 := hall.out
        rw [List.take_of_length_le (by rw [HL.out]; omega)] at h9
        exact h9
      have RG : Hid (rpaA H = rgoA H [] ⟨#[]⟩ 0) := by show _ = _; rw [RA.out]; unfold rbA; rw [if_pos ALL.out]
      have B0 : Hid (Below w.heap.size w wr) := hb.out
      obtain ⟨wq, rfl⟩ : ∃ W, W = wr := ⟨_, rfl⟩
      clear hkn hall hb
      go_wp2_with fail

      go_loopw [5, 6, 7, 8] (fun v5 v6 v7 i wr => ∃ (k m : Nat) (P : List PM) (l : ByteArray) (c : Int) (ua : Option Addr) (uc : Nat), k ≤ n ∧ i = .int .i64 (k : Int) ∧ v5 = .slice ua m uc ∧ v6 = .string l ∧ v7 = .int .i64 c ∧ m ≤ uc ∧ m ≤ 60 ∧ Hid (P.length = m ∧ okP P = true) ∧ Hid (rpaA H = rgoA (H.drop k) P l c) ∧ Hid (Src wr ua (cellsP P)) ∧ Hid (Below w.heap.size w wr)) (fun _ _ _ i _ => n - (RowKit.intOf i).toNat)
      case atStart =>
        exact ⟨0, 0, [], _, _, _, 0, by omega, rfl, rfl, rfl, rfl, Nat.le_refl _, by omega, ⟨rfl, okP_nil⟩, RG.out, .inl rfl, B0.out.alloc B0.out.size _⟩
      case round =>
        obtain ⟨k, m, P, l, c9, ua, uc, hk, rfl, rfl, rfl, rfl, hmc, hm60, HP, HG, SU, hb⟩ := hrel
        by_cases hlt : k < n
        · have hki : (k : Int) < (n : Int) := by omega
          obtain ⟨b1, o1, D, a1, c1, rfl, r0, r1, r2, r3, r4, hD, hR⟩ := srcBk (HH.out.below hb.out) (i := k) (by rw [HL.out]; exact hlt)
          have SD : Hid (smallK D) := by show smallK D; rw [← hD.out]; exact HS.out k hlt
          have KH : Hid (k < H.length ∧ H.getD k bk0 = D) := ⟨by rw [HL.out]; exact hlt, hD.out⟩
          obtain ⟨F, hF⟩ : ∃ A, D.F = A := ⟨_, rfl⟩
          obtain ⟨T, hT⟩ : ∃ A, D.T = A := ⟨_, rfl⟩
          obtain ⟨C, hC⟩ : ∃ A, D.C = A := ⟨_, rfl⟩
          obtain ⟨S, hS⟩ : ∃ A, D.S = A := ⟨_, rfl⟩
          obtain ⟨n1, hn1⟩ : ∃ n, D.D.length = n := ⟨_, rfl⟩
          have HTT : Hid (D.T = T) := hT
          rw [hF, hT, hC, hS, hn1] at hR
          rw [hF] at r0
          rw [hT] at r1
          rw [hC] at r2
          rw [hn1] at r3
          rw [hS] at r4
          have HB0 : Hid (Below w.heap.size w wr) := hb.out
          have HOK : Hid (okK D = true) := all_atR ALL.out KH.out.1 KH.out.2
          have HD9 : Hid (H.drop k = D :: H.drop (k + 1)) := drop_consR KH.out.1 KH.out.2
          clear hb hF hT hC hS hn1
          go_wp2_with fail
          go_at_call 39
          refine (l06ReplayC P l c9 D _ ua m uc _ HP.out.1 hmc HP.out.2 HOK.out SD.out SU.out hR.out).mono ?_
          rintro e w2 ⟨ub, R, ud, q, rfl, hF2, hcap, hs2, hb2⟩
          have B2 : Hid (Below w.heap.size w w2) := HB0.out.trans (hb2.mono HB0.out.size)
          have S2 : Hid (Src w2 ub (cellsP R)) := hs2
          have R2 : Hid (folA P l c9 D = (R, q)) := hF2
          have K2 : Hid (okP R = true) := fol_len HP.out.2 hF2
          have RK2 : Hid (ReadsK w2 (.agg #[.string F, .string T, .int .i64 C, .slice a1 n1 c1, .int .i64 S]) D) := hR.out.below hb2
          have q0 := (hb2.cell (p := ⟨b1, o1 + k * 5, none⟩) (World.block_lt_of_cell? _ _ r0)).trans r0
          have q1 := (hb2.cell (p := ⟨b1, o1 + k * 5 + 1, none⟩) (World.block_lt_of_cell? _ _ r1)).trans r1
          have q2 := (hb2.cell (p := ⟨b1, o1 + k * 5 + 2, none⟩) (World.block_lt_of_cell? _ _ r2)).trans r2
          have q3 := (hb2.cell (p := ⟨b1, o1 + k * 5 + 3, none⟩) (World.block_lt_of_cell? _ _ r3)).trans r3
          have q4 := (hb2.cell (p := ⟨b1, o1 + k * 5 + 4, none⟩) (World.block_lt_of_cell? _ _ r4)).trans r4
          obtain ⟨z, hz⟩ : ∃ z, R.length = z := ⟨_, rfl⟩
          have HZ : Hid (R.length = z) := hz
          have hz60 : z ≤ 60 := by rw [← hz]; exact (okP_fitR K2.out).1
          rw [hz] at hcap ⊢
          clear HB0 r0 r1 r2 r3 r4 hb2 hR hs2 hF2 hz
          by_cases e3 : q = 0
          case neg =>
            have F9 : Hid (rpaA H = ([], q)) := by show _ = _; rw [HG.out, HD9.out, rgo_bad R2.out e3]
            have hne3 : (q != 0) = true := by simpa using e3
            clear q0 q1 q2 q3 q4
            go_wp2_with fail
            go_ret2
            exact ⟨_, [], q, rfl, F9.out, own_mono (EM.out w2) B2.out.size, B2.out.alloc B2.out.size _⟩
          subst e3
          obtain ⟨y, hy⟩ : ∃ y, linkN D = y := ⟨_, rfl⟩
          have F9 : Hid (rpaA H = rgoA (H.drop (k + 1)) R T (y : Int)) := by show _ = _; rw [HG.out, HD9.out, rgo_good R2.out, HTT.out, hy]
          have HY : Hid (linkN D = y) := hy
          clear hy
          go_wp2_with fail
          go_at_call 51
          refine (linkVs _ D _ HOK.out RK2.out).mono ?_
          rw [HY.out]
          rintro e w3 ⟨rfl, hb3⟩
          have B3 : Hid (Below w.heap.size w w3) := B2.out.trans (hb3.mono B2.out.size)
          have S3 : Hid (Src w3 ub (cellsP R)) := S2.out.below hb3
          clear hb3 q0 q1 q2 q3 q4
          go_wp2_with fail
          exact ⟨⟨k + 1, z, R, T, _, ub, ud, by omega, by go_num, rfl, rfl, rfl, hcap, hz60, ⟨HZ.out, K2.out⟩, F9.out, S3.out, B3.out⟩, by simp [RowKit.intOf]; omega⟩
        · have hkn : k = n := by omega
          have RR : Hid (rpaA H = (P, 0)) := by
            show _ = _
            rw [HG.out, List.drop_of_length_le (by rw [HL.out]; omega), rgoA]
          have B3 : Hid (Below w.heap.size w wr) := hb.out
          have S3 : Hid (Src wr ua (cellsP P)) := SU.out
          have O3 : Hid (World.ownsRow (wr.alloc (.cells #[] 70)) wr.heap.size 70 2 (.slice (some ⟨wr.heap.size, 0, none⟩) 0 0) 0 []) := EM.out wr
          clear hkn hb SU HG
          go_wp2_with (at_builtin; refine wpList_append_src _ rfl _ _ 28 rfl wr.heap.size 70 (.agg #[.string ⟨#[]⟩, .string ⟨#[]⟩]) 2 32 Tryz.underlying28 infoP rfl (by decide) (by decide) _ 0 [] rfl O3.out ua m uc (cellsP P) rfl (by rw [cellsP_length, HP.out.1]) (S3.out.below ((Below.refl _ _).alloc (Nat.le_refl _) _)) (cellsP_one _) (by omega) (by simp) ?_)
          intro v4 w4 hown4 hgrow4
          have B4' : Below wr.heap.size wr w4 := below_append hgrow4 (fun g e => by cases e; exact Nat.le_refl _)
          have B4 : Hid (Below w.heap.size w w4) := B3.out.trans (B4'.mono B3.out.size)
          have O4 : Hid (w4.ownsRow w.heap.size 70 2 v4 P.length (cellsP P)) := by
            rw [HP.out.1]
            have h9 := own_mono hown4 B3.out.size
            exact h9
          clear hown4 hgrow4 B4' O3
          go_wp2_with fail
          go_ret2
          exact ⟨_, _, _, rfl, RR.out, O4.out, B4.out⟩
theorem chainFault (n : Nat) (w : World) : Calls Tryz.prog 52 #[.int .i64 (n : Int)] w fun e w' => e = .returned (.int .i64 (if 4096 < n then 2 else if 20 < n then 6 else 0)) ∧ w' = w := by
  by_cases t1 : (4096 : Int) < (n : Int)
  · have E : Hid ((if 4096 < n then (2 : Int) else if 20 < n then 6 else 0) = 2) := by show _ = _; rw [if_pos (by omega)]
    rw [E.out]
    go_enter Tryz.func52, Tryz.ntmps52
    go_wp2_with fail
    go_ret
    exact ⟨rfl, rfl⟩
  by_cases t2 : (20 : Int) < (n : Int)
  · have E : Hid ((if 4096 < n then (2 : Int) else if 20 < n then 6 else 0) = 6) := by show _ = _; rw [if_neg (by omega), if_pos (by omega)]
    rw [E.out]
    go_enter Tryz.func52, Tryz.ntmps52
    go_wp2_with fail
    go_ret
    exact ⟨rfl, rfl⟩
  have E : Hid ((if 4096 < n then (2 : Int) else if 20 < n then 6 else 0) = 0) := by show _ = _; rw [if_neg (by omega), if_neg (by omega)]
  rw [E.out]
  go_enter Tryz.func52, Tryz.ntmps52
  go_wp2_with fail
  go_ret
  exact ⟨rfl, rfl⟩

theorem box2 {w : World} {B : Nat} {v0 v1 : Value} (h : Box w B [v0, v1]) : w.cell? ⟨B, 0, none⟩ = some v0 ∧ w.cell? ⟨B, 1, none⟩ = some v1 := ⟨(h 0 _ rfl).1, (h 1 _ rfl).1⟩
set_option maxHeartbeats 8000000 in
theorem replayedI (a : Option Addr) (n c : Nat) (H : List BM) (w : World) (hL : H.length = n) (hn : n ≤ 1048576) (hs : ∀ D ∈ H, smallK D) (h : ReadsBL w a H) (hH : HasHalf w) :
    Calls Tryz.prog 53 #[.slice a n c] w fun e w' =>
      (∃ (eb ep : Nat) (k q : Int), e = .returned (.tuple #[.slice none 0 0, .iface 124 (.pointer (some ⟨ep, 0, none⟩))]) ∧ rbA H = ([], q) ∧ Box w' eb [.int .i64 q] ∧ Box w' ep [.int .i64 k, .iface 113 (.pointer (some ⟨eb, 0, none⟩))] ∧ Below w.heap.size w w') ∨
      (∃ (u : Value) (R : List PM), e = .returned (.tuple #[u, .nilIface]) ∧ rbA H = (R, 0) ∧ w'.ownsRow w.heap.size 70 2 u R.length (cellsP R) ∧ Below w.heap.size w w') := by
  have HH : Hid (ReadsBL w a H) := h
  have HL : Hid (H.length = n) := hL
  have HF9 : Hid (HasHalf w) := hH
  have HS : Hid (∀ i, i < n → smallK (H.getD i bk0)) := fun i hi => hs _ (getD_memB H i (by omega))
  clear h hs hL hH
  go_enter Tryz.func53, Tryz.ntmps53
  go_wp2_with fail
  go_loopw [12] (fun i wr => ∃ (k : Nat), k ≤ n ∧ i = .int .i64 (k : Int) ∧ Hid ((H.take k).all okK = true) ∧ Hid (Below w.heap.size w wr)) (fun i _ => n - (RowKit.intOf i).toNat)
  case atStart => exact ⟨0, by omega, rfl, by simp [Hid], Below.refl _ _⟩
  case round =>
    obtain ⟨k, hk, rfl, hall, hb⟩ := hrel
    by_cases hlt : k < n
    · have hki : (k : Int) < (n : Int) := by omega
      obtain ⟨b1, o1, D, a1, c1, rfl, r0, r1, r2, r3, r4, hD, hR⟩ := srcBk (HH.out.below hb.out) (i := k) (by rw [HL.out]; exact hlt)
      have SD : Hid (smallK D) := by show smallK D; rw [← hD.out]; exact HS.out k hlt
      have KH : Hid (k < H.length ∧ H.getD k bk0 = D) := ⟨by rw [HL.out]; exact hlt, hD.out⟩
      obtain ⟨F, hF⟩ : ∃ A, D.F = A := ⟨_, rfl⟩
      obtain ⟨T, hT⟩ : ∃ A, D.T = A := ⟨_, rfl⟩
      obtain ⟨C, hC⟩ : ∃ A, D.C = A := ⟨_, rfl⟩
      obtain ⟨S, hS⟩ : ∃ A, D.S = A := ⟨_, rfl⟩
      obtain ⟨n1, hn1⟩ : ∃ n, D.D.length = n := ⟨_, rfl⟩
      have HTT : Hid (D.T = T) := hT
      rw [hF, hT, hC, hS, hn1] at hR
      rw [hF] at r0
      rw [hT] at r1
      rw [hC] at r2
      rw [hn1] at r3
      rw [hS] at r4
      have HB0 : Hid (Below w.heap.size w wr) := hb.out
      clear hb hF hT hC hS hn1
      go_wp2_with fail
      refine (implBackupOK _ D _ SD.out (hR.out.below ((Below.refl _ _).alloc (Nat.le_refl _) _))).mono ?_
      rintro e w2 ⟨rfl, hb2⟩
      have B2 : Hid (Below w.heap.size w w2) := HB0.out.trans ((Below.new hb2).mono HB0.out.size)
      clear HB0 r0 r1 r2 r3 r4 hb2 hR
      cases hok : okK D with
      | false =>
        have F9 : Hid (rbA H = ([], 1)) := all_badR KH.out.1 KH.out.2 hok
        go_wp2_with fail
        go_ret2
        refine .inl ⟨w2.heap.size, w2.heap.size + 1, (k : Int), 1, rfl, F9.out, (Box.new rfl).old _, Box.new (by simp), ?_⟩
        exact Below.alloc (Below.alloc B2.out B2.out.size _) (by have h9 := B2.out.size; simp; omega) _
      | true =>
        have AK : Hid ((H.take (k + 1)).all okK = true) := by show _ = _; rw [take_snocR KH.out.1 KH.out.2, List.all_append, hall.out]; simp [hok]
        clear hall hok
        go_wp2_with fail
        exact ⟨⟨k + 1, by omega, by go_num, AK.out, B2.out⟩, by simp [RowKit.intOf]; omega⟩
    · have hkn : k = n := by omega
      have ALL : Hid (H.all okK = true) := by
        have h9 := hall.out
        rw [List.take_of_length_le (by rw [HL.out]; omega)] at h9
        exact h9
      have RG : Hid (rbA H = rgoA H [] ⟨#[]⟩ 0) := by show _ = _; unfold rbA; rw [if_pos ALL.out]
      have B0 : Hid (Below w.heap.size w wr) := hb.out
      obtain ⟨wq, rfl⟩ : ∃ W, W = wr := ⟨_, rfl⟩
      obtain ⟨tb, htb⟩ : ∃ t, wq.heap.size = t := ⟨_, rfl⟩
      have HTB : Hid (wq.heap.size = tb ∧ w.heap.size ≤ tb) := ⟨htb, by rw [← htb]; exact B0.out.size⟩
      clear hkn hall hb
      go_wp2_with fail
      try rw [htb]
      clear htb
      go_loopw [32] (fun i wr => ∃ (k m : Nat) (P : List PM) (l : ByteArray) (c : Int) (ua : Option Addr) (uc : Nat), k ≤ n ∧ i = .int .i64 (k : Int) ∧ Hid (P.length = m ∧ okP P = true) ∧ Hid (rbA H = rgoA (H.drop k) P l c) ∧ Hid (Box wr tb [.slice ua m uc, .string l, .int .i64 c]) ∧ Hid (wr.ownsRow (tb + 1) 70 2 (.slice ua m uc) m (cellsP P)) ∧ Hid (Below w.heap.size w wr)) (fun i _ => n - (RowKit.intOf i).toNat)
      case atStart =>
        exact ⟨0, 0, [], _, _, _, 0, by omega, rfl, ⟨rfl, okP_nil⟩, RG.out, Box.new HTB.out.1.symm, World.ownsRow_nil _ _ _ _, B0.out.alloc B0.out.size _⟩
      case round =>
        obtain ⟨k, m, P, l, c9, ua, uc, hk, rfl, HP, HG, HT, HO, hb⟩ := hrel
        by_cases hlt : k < n
        · have hki : (k : Int) < (n : Int) := by omega
          obtain ⟨b1, o1, D, a1, c1, rfl, r0, r1, r2, r3, r4, hD, hR⟩ := srcBk (HH.out.below hb.out) (i := k) (by rw [HL.out]; exact hlt)
          have SD : Hid (smallK D) := by show smallK D; rw [← hD.out]; exact HS.out k hlt
          have KH : Hid (k < H.length ∧ H.getD k bk0 = D) := ⟨by rw [HL.out]; exact hlt, hD.out⟩
          obtain ⟨F, hF⟩ : ∃ A, D.F = A := ⟨_, rfl⟩
          obtain ⟨T, hT⟩ : ∃ A, D.T = A := ⟨_, rfl⟩
          obtain ⟨C, hC⟩ : ∃ A, D.C = A := ⟨_, rfl⟩
          obtain ⟨S, hS⟩ : ∃ A, D.S = A := ⟨_, rfl⟩
          obtain ⟨n1, hn1⟩ : ∃ n, D.D.length = n := ⟨_, rfl⟩
          have HTT : Hid (D.T = T) := hT
          rw [hF, hT, hC, hS, hn1] at hR
          rw [hF] at r0
          rw [hT] at r1
          rw [hC] at r2
          rw [hn1] at r3
          rw [hS] at r4
          have HB0 : Hid (Below w.heap.size w wr) := hb.out
          have HOK : Hid (okK D = true) := all_atR ALL.out KH.out.1 KH.out.2
          have HD9 : Hid (H.drop k = D :: H.drop (k + 1)) := drop_consR KH.out.1 KH.out.2
          have SU : Hid (Src wr ua (cellsP P)) := (own_src HO.out).elim fun a9 h9 => by obtain ⟨c8, e9, s9, _⟩ := h9; cases e9; exact s9
          have ZT : Hid (tb < wr.heap.size) := World.block_lt_of_cell? _ _ (HT.out 0 _ rfl).1
          clear hb hF hT hC hS hn1
          go_wp2_with fail
          have A1 : Below wr.heap.size wr (wr.alloc (.cells #[.string F, .string T, .int .i64 C, .slice a1 n1 c1, .int .i64 S] 34)) := (Below.refl _ _).alloc (Nat.le_refl _) _
          refine (followI P l c9 D _ ua m uc tb _ HP.out.1 HP.out.2 HOK.out SD.out (SU.out.below A1) (hR.out.below A1) (HT.out.below A1) (HF9.out.below (HB0.out.trans (A1.mono HB0.out.size)))).mono ?_
          rintro e w2 (⟨eb, q, hq, rfl, hfo, hbx, hb2⟩ | ⟨w4, u, R, rfl, hfo, o4, hb4, hw3⟩)
          · have F9 : Hid (rbA H = ([], q)) := by show _ = _; rw [HG.out, HD9.out, rgo_bad hfo hq]
            have B2 : Hid (Below w.heap.size w w2) := (HB0.out.trans (A1.mono HB0.out.size)).trans (hb2.mono (by have h9 := HB0.out.size; simp; omega))
            have E2 : Hid (Box w2 eb [.int .i64 q]) := hbx
            clear A1 HB0 r0 r1 r2 r3 r4 hb2 hR hbx hfo SU
            go_wp2_with fail
            go_ret2
            exact .inl ⟨eb, w2.heap.size, (k : Int), q, rfl, F9.out, E2.out.old _, Box.new rfl, B2.out.alloc B2.out.size _⟩
          · have T4 : Hid (Box w4 tb [.slice ua m uc, .string l, .int .i64 c9]) := (HT.out.below A1).below hb4
            have B4 : Hid (Below w.heap.size w w4) := (HB0.out.trans (A1.mono HB0.out.size)).trans (hb4.mono (by have h9 := HB0.out.size; simp; omega))
            obtain ⟨va, vc, rfl, _, _⟩ := own_src o4
            have R2 : Hid (folA P l c9 D = (R, 0)) := hfo
            have K2 : Hid (okP R = true) := fol_len HP.out.2 hfo
            obtain ⟨y, hy⟩ : ∃ y, linkN D = y := ⟨_, rfl⟩
            have F9 : Hid (rbA H = rgoA (H.drop (k + 1)) R T (y : Int)) := by show _ = _; rw [HG.out, HD9.out, rgo_good R2.out, HTT.out, hy]
            rw [HTT.out, hy] at hw3
            obtain ⟨z, hz⟩ : ∃ z, R.length = z := ⟨_, rfl⟩
            have HZ : Hid (R.length = z) := hz
            rw [hz] at o4 hw3
            have B5 : Hid (Below w.heap.size w w2) := by
              rw [hw3]
              exact Below.setCell (Below.setCell (Below.setCell B4.out (by dsimp only; exact HTB.out.2) _) (by dsimp only; exact HTB.out.2) _) (by dsimp only; exact HTB.out.2) _
            have O5 : Hid (w2.ownsRow (tb + 1) 70 2 (.slice va z vc) z (cellsP R)) := by
              rw [hw3]
              have h8 : tb + 1 ≤ (wr.alloc (.cells #[.string F, .string T, .int .i64 C, .slice a1 n1 c1, .int .i64 S] 34)).heap.size := by have h9 := ZT.out; simp; omega
              have o5 := own_mono o4 h8
              exact own_setLow (own_setLow (own_setLow o5 (by dsimp only; omega) _) (by dsimp only; omega) _) (by dsimp only; omega) _
            have T5 : Hid (Box w2 tb [.slice va z vc, .string T, .int .i64 (y : Int)]) := by
              rw [hw3]
              exact (((T4.out.set 0 (.slice va z vc)).set 1 (.string T)).set 2 (.int .i64 (y : Int)))
            clear A1 HB0 r0 r1 r2 r3 r4 hb4 hR hfo SU T4 B4 o4 hw3 hz hy
            go_wp2_with fail
            exact ⟨⟨k + 1, z, R, T, _, va, vc, by omega, by go_num, ⟨HZ.out, K2.out⟩, F9.out, T5.out, O5.out, B5.out⟩, by simp [RowKit.intOf]; omega⟩
        · have hkn : k = n := by omega
          have RR : Hid (rbA H = (P, 0)) := by
            show _ = _
            rw [HG.out, List.drop_of_length_le (by rw [HL.out]; omega), rgoA]
          have B3 : Hid (Below w.heap.size w wr) := hb.out
          have O3 : Hid (wr.ownsRow w.heap.size 70 2 (.slice ua m uc) m (cellsP P)) := own_mono HO.out (by have h9 := HTB.out.2; omega)
          obtain ⟨t0, t1, t2⟩ := cells3 HT.out
          clear hkn hb HG
          go_wp2_with fail
          go_ret2
          exact .inr ⟨_, P, rfl, RR.out, by rw [HP.out.1]; exact O3.out, B3.out⟩

set_option maxHeartbeats 4000000 in
theorem implReplayAll (a : Option Addr) (n c : Nat) (H : List BM) (w : World) (hL : H.length = n) (hn : n ≤ 1048576) (hs : ∀ D ∈ H, smallK D) (h : ReadsBL w a H) (hH : HasHalf w) (hE : HasErr w) :
    Calls Tryz.prog 21 #[.slice a n c] w fun e w' => ∃ u R q, e = .returned (.tuple #[u, .int .i64 q]) ∧ rpaA H = (R, q) ∧ w'.ownsRow w.heap.size 70 2 u R.length (cellsP R) ∧ Below w.heap.size w w' := by
  have HL : Hid (H.length = n) := hL
  have HH : Hid (ReadsBL w a H ∧ (∀ D ∈ H, smallK D) ∧ HasHalf w ∧ HasErr w) := ⟨h, hs, hH, hE⟩
  clear h hs hL hH hE
  by_cases t1 : 4096 < n
  · have F : Hid (rpaA H = ([], 2)) := by show _ = _; unfold rpaA; rw [if_pos (by rw [HL.out]; exact t1)]
    go_enter Tryz.func21, Tryz.ntmps21
    go_wp2_with fail
    refine (chainFault n _).mono ?_
    rintro e w1 ⟨rfl, rfl⟩
    rw [if_pos t1]
    go_wp2_with fail
    go_ret2
    exact ⟨_, [], 2, rfl, F.out, World.ownsRow_nil _ _ _ _, Below.refl _ _⟩
  by_cases t2 : 20 < n
  · have F : Hid (rpaA H = ([], 6)) := by show _ = _; unfold rpaA; rw [if_neg (by rw [HL.out]; exact t1), if_pos (by rw [HL.out]; exact t2)]
    go_enter Tryz.func21, Tryz.ntmps21
    go_wp2_with fail
    refine (chainFault n _).mono ?_
    rintro e w1 ⟨rfl, rfl⟩
    rw [if_neg t1, if_pos t2]
    go_wp2_with fail
    go_ret2
    exact ⟨_, [], 6, rfl, F.out, World.ownsRow_nil _ _ _ _, Below.refl _ _⟩
  have RA : Hid (rpaA H = rbA H) := by show _ = _; unfold rpaA; rw [if_neg (by rw [HL.out]; exact t1), if_neg (by rw [HL.out]; exact t2)]
  go_enter Tryz.func21, Tryz.ntmps21
  go_wp2_with fail
  refine (chainFault n _).mono ?_
  rintro e w1 ⟨rfl, rfl⟩
  rw [if_neg t1, if_neg t2]
  go_wp2_with fail
  refine (replayedI a n c H _ HL.out hn HH.out.2.1 HH.out.1 HH.out.2.2.1).mono ?_
  rintro e w2 (⟨eb, ep, k, q, rfl, hr, hb1, hb2, hbl⟩ | ⟨u, R, rfl, hr, ho, hbl⟩)
  · have F : Hid (rpaA H = ([], q)) := RA.out.trans hr
    have B2 : Hid (Below w1.heap.size w1 w2) := hbl
    have E2 : Hid (Box w2 eb [.int .i64 q] ∧ Box w2 ep [.int .i64 k, .iface 113 (.pointer (some ⟨eb, 0, none⟩))]) := ⟨hb1, hb2⟩
    clear hr hb1 hb2 hbl
    go_wp2_with fail
    refine (codeInP eb ep k q _ E2.out.1 E2.out.2 (HH.out.2.2.2.below B2.out)).mono ?_
    rintro e w3 ⟨rfl, hb3⟩
    have B3 : Hid (Below w1.heap.size w1 w3) := B2.out.trans (hb3.mono B2.out.size)
    clear hb3
    go_wp2_with fail
    go_ret2
    exact ⟨_, [], q, rfl, F.out, World.ownsRow_nil _ _ _ _, B3.out⟩
  · have F : Hid (rpaA H = (R, 0)) := RA.out.trans hr
    have B2 : Hid (Below w1.heap.size w1 w2) := hbl
    have O2 : Hid (w2.ownsRow w1.heap.size 70 2 u R.length (cellsP R)) := ho
    clear hr ho hbl
    go_wp2_with fail
    refine (codeInN _).mono ?_
    rintro e w3 ⟨rfl, hw3⟩
    obtain rfl := hw3.symm
    go_wp2_with fail
    go_ret2
    exact ⟨_, R, 0, rfl, F.out, O2.out, B2.out⟩
end Go.Proofs.YtmbndpgoihdpnaaGreatDoor
