
/-
  What a right backup is: the program's BackupOK. By an AI agent.
-/
import Derived.Test.YtmbndpgoihdpnaaGreatDoorBkp
import Derived.Test.YtmbndpgoihdpnaaGreatDoorForm
import Derived.Test.YtmbndpgoihdpnaaGreatDoorNames
import Derived.Deep.RegionHeld3
namespace Go.Proofs.YtmbndpgoihdpnaaGreatDoor
open Go.ChangeShapes Go.WideShapes Go.ChangeAt Go.RowKit Go.Deep
set_option linter.unusedVariables false
set_option maxRecDepth 100000
set_option linter.unusedSimpArgs false

def u32B (n : Int) : Bool := decide (0 ≤ n ∧ n ≤ 4294967295)
def followsB (F T : ByteArray) (C : Int) : Bool := shortB T && (if F.size = 0 then decide (C = 0) else shortB F && u32B C)
def upD (L : List MDf) (i : Nat) : Bool := decide (i = 0) || Op.bytesLess (L.getD (i - 1) df0).1.toList (L.getD i df0).1.toList
def difB (L : List MDf) (i : Nat) : Bool := formB (L.getD i df0) && upD L i
def difsB (L : List MDf) : Bool := (List.range L.length).all (difB L)
def okK (D : BM) : Bool := followsB D.F D.T D.C && u32B D.S && decide (D.D.length ≤ 120) && difsB D.D
theorem difs_bad {L : List MDf} {k : Nat} (hk : k < L.length) (h : difB L k = false) : difsB L = false := by
  unfold difsB
  rw [List.all_eq_false]
  exact ⟨k, List.mem_range.2 hk, by rw [h]; decide⟩
theorem difs_good {L : List MDf} (h : ∀ k, k < L.length → difB L k = true) : difsB L = true := by
  unfold difsB
  rw [List.all_eq_true]
  exact fun k hk => h k (List.mem_range.1 hk)
theorem mem_getDK {α : Type} (L : List α) (d : α) (k : Nat) (h : k < L.length) : L.getD k d ∈ L := by
  rw [List.getD_eq_getElem?_getD, List.getElem?_eq_getElem h]; exact List.getElem_mem _
theorem shortNameK (b : Bool) (s : ByteArray) (w : World) (h : shortB s = b) (hs : s.size ≤ maxLen) : Calls Tryz.prog 95 #[.string s] w fun e w' => e = .returned (.bool b) ∧ w = w' := by
  rw [← h]; exact shortName s w hs
theorem l04NameK (b : Bool) (s : ByteArray) (w : World) (h : shortB s = b) (hs : s.size ≤ maxLen) : Calls Tryz.prog 68 #[.string s] w fun e w' => e = .returned (.bool b) ∧ w' = w := by
  rw [← h]; exact (l04Name s w hs).mono fun e w' ⟨h1, h2⟩ => ⟨h1, h2.symm⟩
theorem numberFits (b : Bool) (r : Int) (w : World) (h : u32B r = b) : Calls Tryz.prog 74 #[.int .i64 r] w fun e w' => e = .returned (.bool b) ∧ w = w' := by
  have HB : Hid (u32B r = b) := h
  clear h
  go_enter Tryz.func74, Tryz.ntmps74
  go_wp2
  all_goals
    go_ret
    exact ⟨ret_bool (by rw [← HB.out, Bool.eq_iff_iff]; simp [u32B]; omega), rfl⟩
set_option maxHeartbeats 2000000 in
theorem follows (F T : ByteArray) (C S : Int) (a : Option Addr) (n c : Nat) (w : World) (hF : F.size ≤ 1048576) (hT : T.size ≤ 1048576) :
    Calls Tryz.prog 60 #[.agg #[.string F, .string T, .int .i64 C, .slice a n c, .int .i64 S]] w fun e w' => e = .returned (.bool (followsB F T C)) ∧ Below w.heap.size w w' := by
  have A0 : Hid (Below w.heap.size w (w.alloc (.cells #[.string F, .string T, .int .i64 C, .slice a n c, .int .i64 S] 34))) := (Below.refl _ _).alloc (Nat.le_refl _) _
  have ST : Hid (T.size ≤ maxLen) := by show _ ≤ maxLen; unfold maxLen; omega
  have SF : Hid (F.size ≤ maxLen) := by show _ ≤ maxLen; unfold maxLen; omega
  cases hs : shortB T with
  | false =>
    have HS : Hid (shortB T = false) := hs
    have R : Hid (followsB F T C = false) := by show _ = false; unfold followsB; rw [hs]; rfl
    rw [R.out]
    clear hs
    go_enter Tryz.func60, Tryz.ntmps60
    go_wp2_with fail
    refine (shortNameK false T _ HS.out ST.out).mono ?_
    rintro e w1 ⟨rfl, rfl⟩
    go_wp2_with fail
    go_ret
    exact ⟨rfl, A0.out⟩
  | true =>
  have HS : Hid (shortB T = true) := hs
  by_cases hz : F.size = 0
  · have R : Hid (followsB F T C = decide (C = 0)) := by show _ = _; unfold followsB; rw [hs, if_pos hz]; rfl
    rw [R.out]
    obtain rfl := size0 hz
    clear hs hz
    go_enter Tryz.func60, Tryz.ntmps60
    go_wp2_with fail
    refine (shortNameK true T _ HS.out ST.out).mono ?_
    rintro e w1 ⟨rfl, rfl⟩
    go_wp2_with fail
    go_ret
    exact ⟨ret_bool (by rw [Bool.eq_iff_iff]; simp), A0.out⟩
  · have hne0 : ¬ F.toList = [] := fun e => hz (by have h9 : F = ⟨#[]⟩ := toList_injF (by rw [e, ByteArray.toList_eq]); rw [h9]; rfl)
    have hne : F.toList.isEmpty = false := by simpa using hne0
    clear hne0
    cases hf : shortB F with
    | false =>
      have HF : Hid (shortB F = false) := hf
      have R : Hid (followsB F T C = false) := by show _ = false; unfold followsB; rw [hs, if_neg hz, hf]; rfl
      rw [R.out]
      clear hs hz hf
      go_enter Tryz.func60, Tryz.ntmps60
      go_wp2_with fail
      refine (shortNameK true T _ HS.out ST.out).mono ?_
      rintro e w1 ⟨rfl, rfl⟩
      go_wp2_with fail
      refine (shortNameK false F _ HF.out SF.out).mono ?_
      rintro e w1 ⟨rfl, rfl⟩
      go_wp2_with fail
      go_ret
      exact ⟨rfl, A0.out⟩
    | true =>
      have HF : Hid (shortB F = true) := hf
      obtain ⟨b, hb⟩ : ∃ b, u32B C = b := ⟨_, rfl⟩
      have HN : Hid (u32B C = b) := hb
      have R : Hid (followsB F T C = b) := by show _ = _; unfold followsB; rw [hs, if_neg hz, hf, hb]; rfl
      rw [R.out]
      clear hs hz hf hb
      go_enter Tryz.func60, Tryz.ntmps60
      go_wp2_with fail
      refine (shortNameK true T _ HS.out ST.out).mono ?_
      rintro e w1 ⟨rfl, rfl⟩
      go_wp2_with fail
      refine (shortNameK true F _ HF.out SF.out).mono ?_
      rintro e w1 ⟨rfl, rfl⟩
      go_wp2_with fail
      refine (numberFits b C _ HN.out).mono ?_
      rintro e w1 ⟨rfl, rfl⟩
      go_wp2_with fail
      go_ret
      exact ⟨rfl, A0.out⟩

set_option maxHeartbeats 12000000 in
theorem implBackupOK (v : Value) (D : BM) (w : World) (hs : smallK D) (h : ReadsK w v D) :
    Calls Tryz.prog 43 #[v] w fun e w' => e = .returned (.bool (okK D)) ∧ Below w.heap.size w w' := by
  obtain ⟨a, c, rfl, s1⟩ := h
  obtain ⟨bb, hbb⟩ : ∃ bb, okK D = bb := ⟨_, rfl⟩
  rw [hbb]
  obtain ⟨pb, hpb⟩ : ∃ pb, difsB D.D = pb := ⟨_, rfl⟩
  obtain ⟨n, hn⟩ : ∃ n, D.D.length = n := ⟨_, rfl⟩
  obtain ⟨F, hF⟩ : ∃ F, D.F = F := ⟨_, rfl⟩
  obtain ⟨T, hT⟩ : ∃ T, D.T = T := ⟨_, rfl⟩
  obtain ⟨C, hC⟩ : ∃ C, D.C = C := ⟨_, rfl⟩
  obtain ⟨S, hS⟩ : ∃ S, D.S = S := ⟨_, rfl⟩
  have S1 : Hid (Src w a (cellsDf D.D)) := s1
  have N1 : Hid (D.D.length = n) := hn
  have HF : Hid (bb = (followsB F T C && u32B S && decide (n ≤ 120) && pb)) := by
    show bb = _
    rw [← hbb, ← hpb, ← hn, ← hF, ← hT, ← hC, ← hS]; rfl
  have HL : Hid (∀ x ∈ D.D, x.1.size ≤ 1048576 ∧ x.2.1.size ≤ 1048576 ∧ x.2.2.1.size ≤ 1048576) := hs.2.2.2
  have PB : Hid (difsB D.D = pb) := hpb
  have NB : Hid (n ≤ 1048576) := by rw [← hn]; exact hs.1
  have ZF : Hid (F.size ≤ 1048576 ∧ T.size ≤ 1048576) := by rw [← hF, ← hT]; exact ⟨hs.2.1, hs.2.2.1⟩
  rw [hn, hF, hT, hC, hS]
  clear s1 hn hF hT hC hS hbb hpb hs
  have A0 : Hid (Below w.heap.size w (w.alloc (.cells #[.string F, .string T, .int .i64 C, .slice a n c, .int .i64 S] 34))) := (Below.refl _ _).alloc (Nat.le_refl _) _
  obtain ⟨b1, h1⟩ : ∃ b, followsB F T C = b := ⟨_, rfl⟩
  obtain ⟨b2, h2⟩ : ∃ b, u32B S = b := ⟨_, rfl⟩
  have HB : Hid (followsB F T C = b1 ∧ u32B S = b2) := ⟨h1, h2⟩
  rw [h1, h2] at HF
  clear h1 h2
  go_enter Tryz.func43, Tryz.ntmps43
  go_wp2_with fail
  refine (follows F T C S a n c _ ZF.out.1 ZF.out.2).mono ?_
  rw [HB.out.1]
  rintro e w1 ⟨rfl, hb1⟩
  have B1 : Hid (Below w.heap.size w w1) := Below.new hb1
  have X1 : Hid (Box w1 w.heap.size [.string F, .string T, .int .i64 C, .slice a n c, .int .i64 S]) := Box.below (Box.new rfl) hb1
  clear hb1
  obtain ⟨p3, _⟩ := X1.out 3 _ rfl
  obtain ⟨p4, _⟩ := X1.out 4 _ rfl
  cases b1 with
  | false =>
    go_wp2_with fail
    go_ret
    exact ⟨ret_bool (by rw [HF.out]; rfl), B1.out⟩
  | true =>
  go_wp2_with fail
  refine (numberFits b2 S _ HB.out.2).mono ?_
  rintro e w2 ⟨rfl, hw2⟩
  obtain rfl := hw2.symm
  cases b2 with
  | false =>
    go_wp2_with fail
    go_ret
    exact ⟨ret_bool (by rw [HF.out]; rfl), B1.out⟩
  | true =>
  by_cases t3 : (120 : Int) < (n : Int)
  · have F9 : Hid (bb = false) := by show bb = false; rw [HF.out, decide_eq_false (p := n ≤ 120) (by omega)]; simp
    clear HF
    go_wp2_with fail
    go_ret
    exact ⟨ret_bool F9.out.symm, B1.out⟩
  have FP : Hid (bb = pb) := by show bb = pb; rw [HF.out, decide_eq_true (p := n ≤ 120) (by omega)]; simp
  clear HF
  go_wp2_with fail
  go_loopw [23] (fun i wr => ∃ k : Nat, k ≤ n ∧ i = .int .i64 k ∧ Hid (∀ j, j < k → difB D.D j = true) ∧ Hid (Below w.heap.size w wr) ∧ Hid (Box wr w.heap.size [.string F, .string T, .int .i64 C, .slice a n c, .int .i64 S])) (fun i _ => n - (intOf i).toNat)
  case atStart => exact ⟨0, by omega, rfl, fun j hj => absurd hj (by omega), B1.out, X1.out⟩
  case round =>
    obtain ⟨k, hk, rfl, hg, hb, hx⟩ := hrel
    by_cases hlt : k < n
    · obtain ⟨b, o, x0, x1, x2, x3, x4, rfl, q0, q1, q2, q3, q4, hy⟩ := srcDf (S1.out.below hb.out) (i := k) (by rw [N1.out]; exact hlt)
      have hki : (k : Int) < (n : Int) := by omega
      have hk0 : (0 : Int) ≤ (k : Int) := by omega
      have SX : Hid (x0.size ≤ 1048576 ∧ x1.size ≤ 1048576 ∧ x2.size ≤ 1048576) := by
        have h1 := HL.out _ (mem_getDK D.D df0 k (by rw [N1.out]; exact hlt))
        rw [hy.out] at h1
        exact h1
      have HB0 : Hid (Below w.heap.size w (wr.alloc (.cells #[.string x0, .string x1, .string x2, .bool x3, .bool x4] 108))) := hb.out.alloc hb.out.size _
      have HX0 : Hid (Box (wr.alloc (.cells #[.string x0, .string x1, .string x2, .bool x3, .bool x4] 108)) w.heap.size [.string F, .string T, .int .i64 C, .slice (some ⟨b, o, none⟩) n c, .int .i64 S]) := hx.out.old _
      have HY0 : Hid (Box (wr.alloc (.cells #[.string x0, .string x1, .string x2, .bool x3, .bool x4] 108)) wr.heap.size [.string x0, .string x1, .string x2, .bool x3, .bool x4]) := Box.new rfl
      obtain ⟨f9, hf9⟩ : ∃ b, formB (x0, x1, x2, x3, x4) = b := ⟨_, rfl⟩
      have HFB : Hid (formB (x0, x1, x2, x3, x4) = f9) := hf9
      have hgd : Hid (difB D.D k = (f9 && upD D.D k)) := by show _ = _; unfold difB; rw [hy.out, hf9]
      clear hf9
      by_cases hz : k = 0
      · have hkz : decide (0 < k) = false := by simp; omega
        have HZ : Hid (k = 0) := hz
        clear hz
        go_wp2_with fail
        obtain ⟨e0, _⟩ := HY0.out 0 _ rfl
        obtain ⟨e1, _⟩ := HY0.out 1 _ rfl
        obtain ⟨e2, _⟩ := HY0.out 2 _ rfl
        obtain ⟨e3, _⟩ := HY0.out 3 _ rfl
        obtain ⟨e4, _⟩ := HY0.out 4 _ rfl
        obtain ⟨e5, _⟩ := HX0.out 3 _ rfl
        refine wp_region_noPanic ?_
        refine wp_region_held_drew (S := (fun w' => w'.cell? ⟨wr.heap.size, 0, none⟩ = some (.string x0) ∧ w'.cell? ⟨wr.heap.size, 1, none⟩ = some (.string x1) ∧ w'.cell? ⟨wr.heap.size, 2, none⟩ = some (.string x2) ∧ w'.cell? ⟨wr.heap.size, 3, none⟩ = some (.bool x3) ∧ w'.cell? ⟨wr.heap.size, 4, none⟩ = some (.bool x4) ∧ w'.cell? ⟨w.heap.size, 3, none⟩ = some (.slice (some ⟨b, o, none⟩) n c))) (by kernel_rfl) ⟨e0, e1, e2, e3, e4, e5⟩ (fun hHeld => ?_)
        refine wpAnyH_take (i := 0) (v := .agg #[.string x0, .string x1, .string x2, .bool x3, .bool x4]) rfl (by kernel_rfl) (by kernel_rfl) (by kernel_rfl) (fun _ _ _ h => h) (Or.inl ⟨by kernel_rfl, ?_⟩) hHeld ?_
        · intro w9 hSw
          obtain ⟨s0, s1, s2, s3, s4, s5⟩ := hSw
          go_simp
        simp only [Act.put, List.setIfInBounds_toArray, List.set_cons_zero, List.set_cons_succ]
        refine wpAnyH_ready (rs := [1]) (by kernel_rfl) (by simp) ?_
        refine AllReadyH.cons rfl (fun K hK => ?_) AllReadyH.nil
        go_simp
        refine (diffOK x0 x1 x2 x3 x4 _ SX.out.1 SX.out.2.1 SX.out.2.2).mono ?_
        rw [HFB.out]
        rintro e w3 ⟨rfl, hb3⟩
        dsimp only
        have HB1 : Hid (Below w.heap.size w w3) := HB0.out.drew.trans (hb3.mono HB0.out.size)
        have HX1 : Hid (Box w3 w.heap.size [.string F, .string T, .int .i64 C, .slice (some ⟨b, o, none⟩) n c, .int .i64 S]) := Box.below (w := (wr.alloc (.cells #[.string x0, .string x1, .string x2, .bool x3, .bool x4] 108)).drew) HX0.out hb3
        have HY1 : Hid (Box w3 wr.heap.size [.string x0, .string x1, .string x2, .bool x3, .bool x4]) := Box.below (w := (wr.alloc (.cells #[.string x0, .string x1, .string x2, .bool x3, .bool x4] 108)).drew) HY0.out hb3
        clear hb3 HB0 HX0 HY0 e0 e1 e2 e3 e4 e5
        obtain ⟨e0, _⟩ := HY1.out 0 _ rfl
        obtain ⟨e1, _⟩ := HY1.out 1 _ rfl
        obtain ⟨e2, _⟩ := HY1.out 2 _ rfl
        obtain ⟨e3, _⟩ := HY1.out 3 _ rfl
        obtain ⟨e4, _⟩ := HY1.out 4 _ rfl
        obtain ⟨e5, _⟩ := HX1.out 3 _ rfl
        refine hK _ _ ⟨e0, e1, e2, e3, e4, e5⟩ (fun hHeld => ?_)
        clear hK K
        cases f9 with
        | false =>
          have F9 : Hid (bb = false) := by
            show bb = false
            rw [FP.out, ← PB.out]
            exact difs_bad (k := k) (by rw [N1.out]; exact hlt) (by rw [hgd.out]; rfl)
          refine wpAnyH_take (i := 2) (v := .bool true) rfl (by kernel_rfl) (by kernel_rfl) (by kernel_rfl) (fun _ _ _ h => h) (Or.inl ⟨by kernel_rfl, ?_⟩) hHeld ?_
          · intro w9 hSw
            obtain ⟨s0, s1, s2, s3, s4, s5⟩ := hSw
            go_simp
          simp only [Act.put, List.setIfInBounds_toArray, List.set_cons_zero, List.set_cons_succ]
          refine wpAnyH_take (i := 3) (v := .bool true) rfl (by kernel_rfl) (by kernel_rfl) (by kernel_rfl) (fun _ _ _ h => h) (Or.inl ⟨by kernel_rfl, ?_⟩) hHeld ?_
          · intro w9 hSw
            obtain ⟨s0, s1, s2, s3, s4, s5⟩ := hSw
            go_simp
          simp only [Act.put, List.setIfInBounds_toArray, List.set_cons_zero, List.set_cons_succ]
          refine wpAnyH_take (i := 4) (v := undef) rfl (by kernel_rfl) (by kernel_rfl) (by kernel_rfl) (fun _ _ _ h => h) (Or.inr ⟨by kernel_rfl, rfl⟩) hHeld ?_
          simp only [Act.put, List.setIfInBounds_toArray, List.set_cons_zero, List.set_cons_succ]
          refine wpAnyH_take (i := 5) (v := undef) rfl (by kernel_rfl) (by kernel_rfl) (by kernel_rfl) (fun _ _ _ h => h) (Or.inr ⟨by kernel_rfl, rfl⟩) hHeld ?_
          simp only [Act.put, List.setIfInBounds_toArray, List.set_cons_zero, List.set_cons_succ]
          refine wpAnyH_take (i := 6) (v := undef) rfl (by kernel_rfl) (by kernel_rfl) (by kernel_rfl) (fun _ _ _ h => h) (Or.inr ⟨by kernel_rfl, rfl⟩) hHeld ?_
          simp only [Act.put, List.setIfInBounds_toArray, List.set_cons_zero, List.set_cons_succ]
          refine wpAnyH_take (i := 7) (v := undef) rfl (by kernel_rfl) (by kernel_rfl) (by kernel_rfl) (fun _ _ _ h => h) (Or.inr ⟨by kernel_rfl, rfl⟩) hHeld ?_
          simp only [Act.put, List.setIfInBounds_toArray, List.set_cons_zero, List.set_cons_succ]
          refine wpAnyH_take (i := 8) (v := undef) rfl (by kernel_rfl) (by kernel_rfl) (by kernel_rfl) (fun _ _ _ h => h) (Or.inr ⟨by kernel_rfl, rfl⟩) hHeld ?_
          simp only [Act.put, List.setIfInBounds_toArray, List.set_cons_zero, List.set_cons_succ]
          refine wpAnyH_take (i := 9) (v := undef) rfl (by kernel_rfl) (by kernel_rfl) (by kernel_rfl) (fun _ _ _ h => h) (Or.inr ⟨by kernel_rfl, rfl⟩) hHeld ?_
          simp only [Act.put, List.setIfInBounds_toArray, List.set_cons_zero, List.set_cons_succ]
          refine wpAnyH_take (i := 10) (v := undef) rfl (by kernel_rfl) (by kernel_rfl) (by kernel_rfl) (fun _ _ _ h => h) (Or.inr ⟨by kernel_rfl, rfl⟩) hHeld ?_
          simp only [Act.put, List.setIfInBounds_toArray, List.set_cons_zero, List.set_cons_succ]
          refine wpAnyH_take (i := 11) (v := undef) rfl (by kernel_rfl) (by kernel_rfl) (by kernel_rfl) (fun _ _ _ h => h) (Or.inr ⟨by kernel_rfl, rfl⟩) hHeld ?_
          simp only [Act.put, List.setIfInBounds_toArray, List.set_cons_zero, List.set_cons_succ]
          refine wpAnyH_take (i := 12) (v := undef) rfl (by kernel_rfl) (by kernel_rfl) (by kernel_rfl) (fun _ _ _ h => h) (Or.inr ⟨by kernel_rfl, rfl⟩) hHeld ?_
          simp only [Act.put, List.setIfInBounds_toArray, List.set_cons_zero, List.set_cons_succ]
          refine wpAnyH_take (i := 13) (v := undef) rfl (by kernel_rfl) (by kernel_rfl) (by kernel_rfl) (fun _ _ _ h => h) (Or.inr ⟨by kernel_rfl, rfl⟩) hHeld ?_
          simp only [Act.put, List.setIfInBounds_toArray, List.set_cons_zero, List.set_cons_succ]
          refine wpAnyH_take (i := 14) (v := undef) rfl (by kernel_rfl) (by kernel_rfl) (by kernel_rfl) (fun _ _ _ h => h) (Or.inr ⟨by kernel_rfl, rfl⟩) hHeld ?_
          simp only [Act.put, List.setIfInBounds_toArray, List.set_cons_zero, List.set_cons_succ]
          refine wpAnyH_take (i := 15) (v := undef) rfl (by kernel_rfl) (by kernel_rfl) (by kernel_rfl) (fun _ _ _ h => h) (Or.inr ⟨by kernel_rfl, rfl⟩) hHeld ?_
          simp only [Act.put, List.setIfInBounds_toArray, List.set_cons_zero, List.set_cons_succ]
          refine wpAnyH_take (i := 16) (v := undef) rfl (by kernel_rfl) (by kernel_rfl) (by kernel_rfl) (fun _ _ _ h => h) (Or.inr ⟨by kernel_rfl, rfl⟩) hHeld ?_
          simp only [Act.put, List.setIfInBounds_toArray, List.set_cons_zero, List.set_cons_succ]
          refine wpAnyH_take (i := 17) (v := undef) rfl (by kernel_rfl) (by kernel_rfl) (by kernel_rfl) (fun _ _ _ h => h) (Or.inr ⟨by kernel_rfl, rfl⟩) hHeld ?_
          simp only [Act.put, List.setIfInBounds_toArray, List.set_cons_zero, List.set_cons_succ]
          refine wpAnyH_ready (rs := [18]) (by kernel_rfl) (by simp) ?_
          refine AllReadyH.cons rfl (fun K hK => ?_) AllReadyH.nil
          go_simp
          refine hK _ _ ⟨e0, e1, e2, e3, e4, e5⟩ (fun hHeld => ?_)
          clear hK K
          refine wpAnyH_done (by kernel_rfl) ?_ _
          refine NoPanic.normal ?_
          clear e0 e1 e2 e3 e4 e5 hHeld
          go_wp2_with fail
          go_ret
          exact ⟨ret_bool F9.out.symm, HB1.out⟩
        | true =>
          have hgd2 : Hid (difB D.D k = upD D.D k) := hgd.out
          refine wpAnyH_take (i := 2) (v := .bool false) rfl (by kernel_rfl) (by kernel_rfl) (by kernel_rfl) (fun _ _ _ h => h) (Or.inl ⟨by kernel_rfl, ?_⟩) hHeld ?_
          · intro w9 hSw
            obtain ⟨s0, s1, s2, s3, s4, s5⟩ := hSw
            go_simp
          simp only [Act.put, List.setIfInBounds_toArray, List.set_cons_zero, List.set_cons_succ]
          refine wpAnyH_take (i := 3) (v := .bool false) rfl (by kernel_rfl) (by kernel_rfl) (by kernel_rfl) (fun _ _ _ h => h) (Or.inl ⟨by kernel_rfl, ?_⟩) hHeld ?_
          · intro w9 hSw
            obtain ⟨s0, s1, s2, s3, s4, s5⟩ := hSw
            go_simp
          simp only [Act.put, List.setIfInBounds_toArray, List.set_cons_zero, List.set_cons_succ]
          refine wpAnyH_take (i := 4) (v := .int .i64 (k : Int)) rfl (by kernel_rfl) (by kernel_rfl) (by kernel_rfl) (fun _ _ _ h => h) (Or.inl ⟨by kernel_rfl, ?_⟩) hHeld ?_
          · intro w9 hSw
            obtain ⟨s0, s1, s2, s3, s4, s5⟩ := hSw
            go_simp
          simp only [Act.put, List.setIfInBounds_toArray, List.set_cons_zero, List.set_cons_succ]
          have hgood : Hid (difB D.D k = true) := by show difB D.D k = true; rw [hgd2.out]; unfold upD; rw [decide_eq_true HZ.out]; rfl
          refine wpAnyH_take (i := 5) (v := .bool false) rfl (by kernel_rfl) (by kernel_rfl) (by kernel_rfl) (fun _ _ _ h => h) (Or.inl ⟨by kernel_rfl, ?_⟩) hHeld ?_
          · intro w9 hSw
            obtain ⟨s0, s1, s2, s3, s4, s5⟩ := hSw
            go_simp
          simp only [Act.put, List.setIfInBounds_toArray, List.set_cons_zero, List.set_cons_succ]
          refine wpAnyH_take (i := 6) (v := .bool false) rfl (by kernel_rfl) (by kernel_rfl) (by kernel_rfl) (fun _ _ _ h => h) (Or.inl ⟨by kernel_rfl, ?_⟩) hHeld ?_
          · intro w9 hSw
            obtain ⟨s0, s1, s2, s3, s4, s5⟩ := hSw
            go_simp
          simp only [Act.put, List.setIfInBounds_toArray, List.set_cons_zero, List.set_cons_succ]
          refine wpAnyH_take (i := 7) (v := undef) rfl (by kernel_rfl) (by kernel_rfl) (by kernel_rfl) (fun _ _ _ h => h) (Or.inr ⟨by kernel_rfl, rfl⟩) hHeld ?_
          simp only [Act.put, List.setIfInBounds_toArray, List.set_cons_zero, List.set_cons_succ]
          refine wpAnyH_take (i := 8) (v := undef) rfl (by kernel_rfl) (by kernel_rfl) (by kernel_rfl) (fun _ _ _ h => h) (Or.inr ⟨by kernel_rfl, rfl⟩) hHeld ?_
          simp only [Act.put, List.setIfInBounds_toArray, List.set_cons_zero, List.set_cons_succ]
          refine wpAnyH_take (i := 9) (v := undef) rfl (by kernel_rfl) (by kernel_rfl) (by kernel_rfl) (fun _ _ _ h => h) (Or.inr ⟨by kernel_rfl, rfl⟩) hHeld ?_
          simp only [Act.put, List.setIfInBounds_toArray, List.set_cons_zero, List.set_cons_succ]
          refine wpAnyH_take (i := 10) (v := undef) rfl (by kernel_rfl) (by kernel_rfl) (by kernel_rfl) (fun _ _ _ h => h) (Or.inr ⟨by kernel_rfl, rfl⟩) hHeld ?_
          simp only [Act.put, List.setIfInBounds_toArray, List.set_cons_zero, List.set_cons_succ]
          refine wpAnyH_take (i := 11) (v := undef) rfl (by kernel_rfl) (by kernel_rfl) (by kernel_rfl) (fun _ _ _ h => h) (Or.inr ⟨by kernel_rfl, rfl⟩) hHeld ?_
          simp only [Act.put, List.setIfInBounds_toArray, List.set_cons_zero, List.set_cons_succ]
          refine wpAnyH_take (i := 12) (v := undef) rfl (by kernel_rfl) (by kernel_rfl) (by kernel_rfl) (fun _ _ _ h => h) (Or.inr ⟨by kernel_rfl, rfl⟩) hHeld ?_
          simp only [Act.put, List.setIfInBounds_toArray, List.set_cons_zero, List.set_cons_succ]
          refine wpAnyH_take (i := 13) (v := undef) rfl (by kernel_rfl) (by kernel_rfl) (by kernel_rfl) (fun _ _ _ h => h) (Or.inr ⟨by kernel_rfl, rfl⟩) hHeld ?_
          simp only [Act.put, List.setIfInBounds_toArray, List.set_cons_zero, List.set_cons_succ]
          refine wpAnyH_take (i := 14) (v := undef) rfl (by kernel_rfl) (by kernel_rfl) (by kernel_rfl) (fun _ _ _ h => h) (Or.inr ⟨by kernel_rfl, rfl⟩) hHeld ?_
          simp only [Act.put, List.setIfInBounds_toArray, List.set_cons_zero, List.set_cons_succ]
          refine wpAnyH_take (i := 15) (v := undef) rfl (by kernel_rfl) (by kernel_rfl) (by kernel_rfl) (fun _ _ _ h => h) (Or.inr ⟨by kernel_rfl, rfl⟩) hHeld ?_
          simp only [Act.put, List.setIfInBounds_toArray, List.set_cons_zero, List.set_cons_succ]
          refine wpAnyH_take (i := 16) (v := undef) rfl (by kernel_rfl) (by kernel_rfl) (by kernel_rfl) (fun _ _ _ h => h) (Or.inr ⟨by kernel_rfl, rfl⟩) hHeld ?_
          simp only [Act.put, List.setIfInBounds_toArray, List.set_cons_zero, List.set_cons_succ]
          refine wpAnyH_take (i := 17) (v := .bool false) rfl (by kernel_rfl) (by kernel_rfl) (by kernel_rfl) (fun _ _ _ h => h) (Or.inl ⟨by kernel_rfl, ?_⟩) hHeld ?_
          · intro w9 hSw
            obtain ⟨s0, s1, s2, s3, s4, s5⟩ := hSw
            go_simp
          simp only [Act.put, List.setIfInBounds_toArray, List.set_cons_zero, List.set_cons_succ]
          refine wpAnyH_ready (rs := [18]) (by kernel_rfl) (by simp) ?_
          refine AllReadyH.cons rfl (fun K hK => ?_) AllReadyH.nil
          go_simp
          refine hK _ _ ⟨e0, e1, e2, e3, e4, e5⟩ (fun hHeld => ?_)
          clear hK K
          refine wpAnyH_done (by kernel_rfl) ?_ _
          refine NoPanic.normal ?_
          clear e0 e1 e2 e3 e4 e5 hHeld
          go_wp2_with fail
          exact ⟨⟨k + 1, by omega, by go_num, fun j hj => by
            by_cases e : j = k
            · rw [e]; exact hgood.out
            · exact hg.out j (by omega), HB1.out, HX1.out⟩, by simp [intOf]; omega⟩
      · obtain ⟨b4, o4, z0, z1, z2, z3, z4, e4, d0, d1, d2, d3, d4, hy4⟩ := srcDf (S1.out.below HB0.out) (i := k - 1) (by rw [N1.out]; omega)
        cases e4
        have hkp : 0 < k := by omega
        have hkm : (0 : Int) ≤ (k : Int) - 1 := by omega
        have hkm2 : (k : Int) - 1 < (n : Int) := by omega
        have hsub : ((k : Int) - 1).toNat = k - 1 := by omega
        have hwk : IntKind.i64.wrap ((k : Int) - 1) = (k : Int) - 1 := by rw [IntKind.wrap_i64]; omega
        go_wp2_with fail
        obtain ⟨e0, _⟩ := HY0.out 0 _ rfl
        obtain ⟨e1, _⟩ := HY0.out 1 _ rfl
        obtain ⟨e2, _⟩ := HY0.out 2 _ rfl
        obtain ⟨e3, _⟩ := HY0.out 3 _ rfl
        obtain ⟨e4, _⟩ := HY0.out 4 _ rfl
        obtain ⟨e5, _⟩ := HX0.out 3 _ rfl
        have e6 := d0
        refine wp_region_noPanic ?_
        refine wp_region_held_drew (S := (fun w' => w'.cell? ⟨wr.heap.size, 0, none⟩ = some (.string x0) ∧ w'.cell? ⟨wr.heap.size, 1, none⟩ = some (.string x1) ∧ w'.cell? ⟨wr.heap.size, 2, none⟩ = some (.string x2) ∧ w'.cell? ⟨wr.heap.size, 3, none⟩ = some (.bool x3) ∧ w'.cell? ⟨wr.heap.size, 4, none⟩ = some (.bool x4) ∧ w'.cell? ⟨w.heap.size, 3, none⟩ = some (.slice (some ⟨b, o, none⟩) n c) ∧ w'.cell? ⟨b, o + (k - 1) * 5, none⟩ = some (.string z0))) (by kernel_rfl) ⟨e0, e1, e2, e3, e4, e5, e6⟩ (fun hHeld => ?_)
        refine wpAnyH_take (i := 0) (v := .agg #[.string x0, .string x1, .string x2, .bool x3, .bool x4]) rfl (by kernel_rfl) (by kernel_rfl) (by kernel_rfl) (fun _ _ _ h => h) (Or.inl ⟨by kernel_rfl, ?_⟩) hHeld ?_
        · intro w9 hSw
          obtain ⟨s0, s1, s2, s3, s4, s5, s6⟩ := hSw
          go_simp
        simp only [Act.put, List.setIfInBounds_toArray, List.set_cons_zero, List.set_cons_succ]
        refine wpAnyH_ready (rs := [1]) (by kernel_rfl) (by simp) ?_
        refine AllReadyH.cons rfl (fun K hK => ?_) AllReadyH.nil
        go_simp
        refine (diffOK x0 x1 x2 x3 x4 _ SX.out.1 SX.out.2.1 SX.out.2.2).mono ?_
        rw [HFB.out]
        rintro e w3 ⟨rfl, hb3⟩
        dsimp only
        have HB1 : Hid (Below w.heap.size w w3) := HB0.out.drew.trans (hb3.mono HB0.out.size)
        have HX1 : Hid (Box w3 w.heap.size [.string F, .string T, .int .i64 C, .slice (some ⟨b, o, none⟩) n c, .int .i64 S]) := Box.below (w := (wr.alloc (.cells #[.string x0, .string x1, .string x2, .bool x3, .bool x4] 108)).drew) HX0.out hb3
        have HY1 : Hid (Box w3 wr.heap.size [.string x0, .string x1, .string x2, .bool x3, .bool x4]) := Box.below (w := (wr.alloc (.cells #[.string x0, .string x1, .string x2, .bool x3, .bool x4] 108)).drew) HY0.out hb3
        have D1 : Hid (Src w3 (some ⟨b, o, none⟩) (cellsDf D.D)) := S1.out.below HB1.out
        clear hb3 HB0 HX0 HY0 e0 e1 e2 e3 e4 e5 e6
        obtain ⟨e0, _⟩ := HY1.out 0 _ rfl
        obtain ⟨e1, _⟩ := HY1.out 1 _ rfl
        obtain ⟨e2, _⟩ := HY1.out 2 _ rfl
        obtain ⟨e3, _⟩ := HY1.out 3 _ rfl
        obtain ⟨e4, _⟩ := HY1.out 4 _ rfl
        obtain ⟨e5, _⟩ := HX1.out 3 _ rfl
        obtain ⟨b5, o5, y0, y1, y2, y3, y4, e7, e6, _, _, _, _, hy5⟩ := srcDf D1.out (i := k - 1) (by rw [N1.out]; omega)
        cases e7
        obtain rfl : y0 = z0 := by have h9 := hy5.out.symm.trans hy4.out; simp at h9; exact h9.1
        clear hy5
        refine hK _ _ ⟨e0, e1, e2, e3, e4, e5, e6⟩ (fun hHeld => ?_)
        clear hK K
        cases f9 with
        | false =>
          have F9 : Hid (bb = false) := by
            show bb = false
            rw [FP.out, ← PB.out]
            exact difs_bad (k := k) (by rw [N1.out]; exact hlt) (by rw [hgd.out]; rfl)
          refine wpAnyH_take (i := 2) (v := .bool true) rfl (by kernel_rfl) (by kernel_rfl) (by kernel_rfl) (fun _ _ _ h => h) (Or.inl ⟨by kernel_rfl, ?_⟩) hHeld ?_
          · intro w9 hSw
            obtain ⟨s0, s1, s2, s3, s4, s5, s6⟩ := hSw
            go_simp
          simp only [Act.put, List.setIfInBounds_toArray, List.set_cons_zero, List.set_cons_succ]
          refine wpAnyH_take (i := 3) (v := .bool true) rfl (by kernel_rfl) (by kernel_rfl) (by kernel_rfl) (fun _ _ _ h => h) (Or.inl ⟨by kernel_rfl, ?_⟩) hHeld ?_
          · intro w9 hSw
            obtain ⟨s0, s1, s2, s3, s4, s5, s6⟩ := hSw
            go_simp
          simp only [Act.put, List.setIfInBounds_toArray, List.set_cons_zero, List.set_cons_succ]
          refine wpAnyH_take (i := 4) (v := undef) rfl (by kernel_rfl) (by kernel_rfl) (by kernel_rfl) (fun _ _ _ h => h) (Or.inr ⟨by kernel_rfl, rfl⟩) hHeld ?_
          simp only [Act.put, List.setIfInBounds_toArray, List.set_cons_zero, List.set_cons_succ]
          refine wpAnyH_take (i := 5) (v := undef) rfl (by kernel_rfl) (by kernel_rfl) (by kernel_rfl) (fun _ _ _ h => h) (Or.inr ⟨by kernel_rfl, rfl⟩) hHeld ?_
          simp only [Act.put, List.setIfInBounds_toArray, List.set_cons_zero, List.set_cons_succ]
          refine wpAnyH_take (i := 6) (v := undef) rfl (by kernel_rfl) (by kernel_rfl) (by kernel_rfl) (fun _ _ _ h => h) (Or.inr ⟨by kernel_rfl, rfl⟩) hHeld ?_
          simp only [Act.put, List.setIfInBounds_toArray, List.set_cons_zero, List.set_cons_succ]
          refine wpAnyH_take (i := 7) (v := undef) rfl (by kernel_rfl) (by kernel_rfl) (by kernel_rfl) (fun _ _ _ h => h) (Or.inr ⟨by kernel_rfl, rfl⟩) hHeld ?_
          simp only [Act.put, List.setIfInBounds_toArray, List.set_cons_zero, List.set_cons_succ]
          refine wpAnyH_take (i := 8) (v := undef) rfl (by kernel_rfl) (by kernel_rfl) (by kernel_rfl) (fun _ _ _ h => h) (Or.inr ⟨by kernel_rfl, rfl⟩) hHeld ?_
          simp only [Act.put, List.setIfInBounds_toArray, List.set_cons_zero, List.set_cons_succ]
          refine wpAnyH_take (i := 9) (v := undef) rfl (by kernel_rfl) (by kernel_rfl) (by kernel_rfl) (fun _ _ _ h => h) (Or.inr ⟨by kernel_rfl, rfl⟩) hHeld ?_
          simp only [Act.put, List.setIfInBounds_toArray, List.set_cons_zero, List.set_cons_succ]
          refine wpAnyH_take (i := 10) (v := undef) rfl (by kernel_rfl) (by kernel_rfl) (by kernel_rfl) (fun _ _ _ h => h) (Or.inr ⟨by kernel_rfl, rfl⟩) hHeld ?_
          simp only [Act.put, List.setIfInBounds_toArray, List.set_cons_zero, List.set_cons_succ]
          refine wpAnyH_take (i := 11) (v := undef) rfl (by kernel_rfl) (by kernel_rfl) (by kernel_rfl) (fun _ _ _ h => h) (Or.inr ⟨by kernel_rfl, rfl⟩) hHeld ?_
          simp only [Act.put, List.setIfInBounds_toArray, List.set_cons_zero, List.set_cons_succ]
          refine wpAnyH_take (i := 12) (v := undef) rfl (by kernel_rfl) (by kernel_rfl) (by kernel_rfl) (fun _ _ _ h => h) (Or.inr ⟨by kernel_rfl, rfl⟩) hHeld ?_
          simp only [Act.put, List.setIfInBounds_toArray, List.set_cons_zero, List.set_cons_succ]
          refine wpAnyH_take (i := 13) (v := undef) rfl (by kernel_rfl) (by kernel_rfl) (by kernel_rfl) (fun _ _ _ h => h) (Or.inr ⟨by kernel_rfl, rfl⟩) hHeld ?_
          simp only [Act.put, List.setIfInBounds_toArray, List.set_cons_zero, List.set_cons_succ]
          refine wpAnyH_take (i := 14) (v := undef) rfl (by kernel_rfl) (by kernel_rfl) (by kernel_rfl) (fun _ _ _ h => h) (Or.inr ⟨by kernel_rfl, rfl⟩) hHeld ?_
          simp only [Act.put, List.setIfInBounds_toArray, List.set_cons_zero, List.set_cons_succ]
          refine wpAnyH_take (i := 15) (v := undef) rfl (by kernel_rfl) (by kernel_rfl) (by kernel_rfl) (fun _ _ _ h => h) (Or.inr ⟨by kernel_rfl, rfl⟩) hHeld ?_
          simp only [Act.put, List.setIfInBounds_toArray, List.set_cons_zero, List.set_cons_succ]
          refine wpAnyH_take (i := 16) (v := undef) rfl (by kernel_rfl) (by kernel_rfl) (by kernel_rfl) (fun _ _ _ h => h) (Or.inr ⟨by kernel_rfl, rfl⟩) hHeld ?_
          simp only [Act.put, List.setIfInBounds_toArray, List.set_cons_zero, List.set_cons_succ]
          refine wpAnyH_take (i := 17) (v := undef) rfl (by kernel_rfl) (by kernel_rfl) (by kernel_rfl) (fun _ _ _ h => h) (Or.inr ⟨by kernel_rfl, rfl⟩) hHeld ?_
          simp only [Act.put, List.setIfInBounds_toArray, List.set_cons_zero, List.set_cons_succ]
          refine wpAnyH_ready (rs := [18]) (by kernel_rfl) (by simp) ?_
          refine AllReadyH.cons rfl (fun K hK => ?_) AllReadyH.nil
          go_simp
          refine hK _ _ ⟨e0, e1, e2, e3, e4, e5, e6⟩ (fun hHeld => ?_)
          clear hK K
          refine wpAnyH_done (by kernel_rfl) ?_ _
          refine NoPanic.normal ?_
          clear e0 e1 e2 e3 e4 e5 hHeld
          go_wp2_with fail
          go_ret
          exact ⟨ret_bool F9.out.symm, HB1.out⟩
        | true =>
          have hgd2 : Hid (difB D.D k = upD D.D k) := hgd.out
          refine wpAnyH_take (i := 2) (v := .bool false) rfl (by kernel_rfl) (by kernel_rfl) (by kernel_rfl) (fun _ _ _ h => h) (Or.inl ⟨by kernel_rfl, ?_⟩) hHeld ?_
          · intro w9 hSw
            obtain ⟨s0, s1, s2, s3, s4, s5, s6⟩ := hSw
            go_simp
          simp only [Act.put, List.setIfInBounds_toArray, List.set_cons_zero, List.set_cons_succ]
          refine wpAnyH_take (i := 3) (v := .bool false) rfl (by kernel_rfl) (by kernel_rfl) (by kernel_rfl) (fun _ _ _ h => h) (Or.inl ⟨by kernel_rfl, ?_⟩) hHeld ?_
          · intro w9 hSw
            obtain ⟨s0, s1, s2, s3, s4, s5, s6⟩ := hSw
            go_simp
          simp only [Act.put, List.setIfInBounds_toArray, List.set_cons_zero, List.set_cons_succ]
          refine wpAnyH_take (i := 4) (v := .int .i64 (k : Int)) rfl (by kernel_rfl) (by kernel_rfl) (by kernel_rfl) (fun _ _ _ h => h) (Or.inl ⟨by kernel_rfl, ?_⟩) hHeld ?_
          · intro w9 hSw
            obtain ⟨s0, s1, s2, s3, s4, s5, s6⟩ := hSw
            go_simp
          simp only [Act.put, List.setIfInBounds_toArray, List.set_cons_zero, List.set_cons_succ]
          refine wpAnyH_take (i := 5) (v := .bool true) rfl (by kernel_rfl) (by kernel_rfl) (by kernel_rfl) (fun _ _ _ h => h) (Or.inl ⟨by kernel_rfl, ?_⟩) hHeld ?_
          · intro w9 hSw
            obtain ⟨s0, s1, s2, s3, s4, s5, s6⟩ := hSw
            go_simp
          simp only [Act.put, List.setIfInBounds_toArray, List.set_cons_zero, List.set_cons_succ]
          refine wpAnyH_take (i := 6) (v := .bool true) rfl (by kernel_rfl) (by kernel_rfl) (by kernel_rfl) (fun _ _ _ h => h) (Or.inl ⟨by kernel_rfl, ?_⟩) hHeld ?_
          · intro w9 hSw
            obtain ⟨s0, s1, s2, s3, s4, s5, s6⟩ := hSw
            go_simp
          simp only [Act.put, List.setIfInBounds_toArray, List.set_cons_zero, List.set_cons_succ]
          refine wpAnyH_take (i := 7) (v := .pointer (some ⟨w.heap.size, 3, none⟩)) rfl (by kernel_rfl) (by kernel_rfl) (by kernel_rfl) (fun _ _ _ h => h) (Or.inl ⟨by kernel_rfl, ?_⟩) hHeld ?_
          · intro w9 hSw
            obtain ⟨s0, s1, s2, s3, s4, s5, s6⟩ := hSw
            go_simp
          simp only [Act.put, List.setIfInBounds_toArray, List.set_cons_zero, List.set_cons_succ]
          refine wpAnyH_take (i := 8) (v := .slice (some ⟨b, o, none⟩) n c) rfl (by kernel_rfl) (by kernel_rfl) (by kernel_rfl) (fun _ _ _ h => h) (Or.inl ⟨by kernel_rfl, ?_⟩) hHeld ?_
          · intro w9 hSw
            obtain ⟨s0, s1, s2, s3, s4, s5, s6⟩ := hSw
            go_simp
          simp only [Act.put, List.setIfInBounds_toArray, List.set_cons_zero, List.set_cons_succ]
          refine wpAnyH_take (i := 9) (v := .int .i64 (k : Int)) rfl (by kernel_rfl) (by kernel_rfl) (by kernel_rfl) (fun _ _ _ h => h) (Or.inl ⟨by kernel_rfl, ?_⟩) hHeld ?_
          · intro w9 hSw
            obtain ⟨s0, s1, s2, s3, s4, s5, s6⟩ := hSw
            go_simp
          simp only [Act.put, List.setIfInBounds_toArray, List.set_cons_zero, List.set_cons_succ]
          refine wpAnyH_take (i := 10) (v := .int .i64 ((k : Int) - 1)) rfl (by kernel_rfl) (by kernel_rfl) (by kernel_rfl) (fun _ _ _ h => h) (Or.inl ⟨by kernel_rfl, ?_⟩) hHeld ?_
          · intro w9 hSw
            obtain ⟨s0, s1, s2, s3, s4, s5, s6⟩ := hSw
            go_simp
          simp only [Act.put, List.setIfInBounds_toArray, List.set_cons_zero, List.set_cons_succ]
          refine wpAnyH_take (i := 11) (v := .pointer (some ⟨b, o + (k - 1) * 5, none⟩)) rfl (by kernel_rfl) (by kernel_rfl) (by kernel_rfl) (fun _ _ _ h => h) (Or.inl ⟨by kernel_rfl, ?_⟩) hHeld ?_
          · intro w9 hSw
            obtain ⟨s0, s1, s2, s3, s4, s5, s6⟩ := hSw
            go_simp
            intro hneg
            exfalso
            omega
          simp only [Act.put, List.setIfInBounds_toArray, List.set_cons_zero, List.set_cons_succ]
          refine wpAnyH_take (i := 12) (v := .pointer (some ⟨b, o + (k - 1) * 5, none⟩)) rfl (by kernel_rfl) (by kernel_rfl) (by kernel_rfl) (fun _ _ _ h => h) (Or.inl ⟨by kernel_rfl, ?_⟩) hHeld ?_
          · intro w9 hSw
            obtain ⟨s0, s1, s2, s3, s4, s5, s6⟩ := hSw
            go_simp
          simp only [Act.put, List.setIfInBounds_toArray, List.set_cons_zero, List.set_cons_succ]
          refine wpAnyH_take (i := 13) (v := .string y0) rfl (by kernel_rfl) (by kernel_rfl) (by kernel_rfl) (fun _ _ _ h => h) (Or.inl ⟨by kernel_rfl, ?_⟩) hHeld ?_
          · intro w9 hSw
            obtain ⟨s0, s1, s2, s3, s4, s5, s6⟩ := hSw
            go_simp
          simp only [Act.put, List.setIfInBounds_toArray, List.set_cons_zero, List.set_cons_succ]
          refine wpAnyH_take (i := 14) (v := .pointer (some ⟨wr.heap.size, 0, none⟩)) rfl (by kernel_rfl) (by kernel_rfl) (by kernel_rfl) (fun _ _ _ h => h) (Or.inl ⟨by kernel_rfl, ?_⟩) hHeld ?_
          · intro w9 hSw
            obtain ⟨s0, s1, s2, s3, s4, s5, s6⟩ := hSw
            go_simp
          simp only [Act.put, List.setIfInBounds_toArray, List.set_cons_zero, List.set_cons_succ]
          refine wpAnyH_take (i := 15) (v := .string x0) rfl (by kernel_rfl) (by kernel_rfl) (by kernel_rfl) (fun _ _ _ h => h) (Or.inl ⟨by kernel_rfl, ?_⟩) hHeld ?_
          · intro w9 hSw
            obtain ⟨s0, s1, s2, s3, s4, s5, s6⟩ := hSw
            go_simp
          simp only [Act.put, List.setIfInBounds_toArray, List.set_cons_zero, List.set_cons_succ]
          by_cases hl : Op.bytesLess y0.toList x0.toList = true
          · have hgood : Hid (difB D.D k = true) := by show difB D.D k = true; rw [hgd2.out]; unfold upD; rw [hy.out, hy4.out, hl]; simp
            refine wpAnyH_take (i := 16) (v := .bool false) rfl (by kernel_rfl) (by kernel_rfl) (by kernel_rfl) (fun _ _ _ h => h) (Or.inl ⟨by kernel_rfl, ?_⟩) hHeld ?_
            · intro w9 hSw
              obtain ⟨s0, s1, s2, s3, s4, s5, s6⟩ := hSw
              go_simp
            simp only [Act.put, List.setIfInBounds_toArray, List.set_cons_zero, List.set_cons_succ]
            refine wpAnyH_take (i := 17) (v := .bool false) rfl (by kernel_rfl) (by kernel_rfl) (by kernel_rfl) (fun _ _ _ h => h) (Or.inl ⟨by kernel_rfl, ?_⟩) hHeld ?_
            · intro w9 hSw
              obtain ⟨s0, s1, s2, s3, s4, s5, s6⟩ := hSw
              go_simp
            simp only [Act.put, List.setIfInBounds_toArray, List.set_cons_zero, List.set_cons_succ]
            refine wpAnyH_ready (rs := [18]) (by kernel_rfl) (by simp) ?_
            refine AllReadyH.cons rfl (fun K hK => ?_) AllReadyH.nil
            go_simp
            refine hK _ _ ⟨e0, e1, e2, e3, e4, e5, e6⟩ (fun hHeld => ?_)
            clear hK K
            refine wpAnyH_done (by kernel_rfl) ?_ _
            refine NoPanic.normal ?_
            clear e0 e1 e2 e3 e4 e5 hHeld
            go_wp2_with fail
            exact ⟨⟨k + 1, by omega, by go_num, fun j hj => by
              by_cases e : j = k
              · rw [e]; exact hgood.out
              · exact hg.out j (by omega), HB1.out, HX1.out⟩, by simp [intOf]; omega⟩
          · have hl' : Op.bytesLess y0.toList x0.toList = false := by simpa using hl
            have F9 : Hid (bb = false) := by
              show bb = false
              rw [FP.out, ← PB.out]
              exact difs_bad (k := k) (by rw [N1.out]; exact hlt) (by rw [hgd2.out]; unfold upD; rw [hy.out, hy4.out, hl', decide_eq_false hz]; rfl)
            refine wpAnyH_take (i := 16) (v := .bool true) rfl (by kernel_rfl) (by kernel_rfl) (by kernel_rfl) (fun _ _ _ h => h) (Or.inl ⟨by kernel_rfl, ?_⟩) hHeld ?_
            · intro w9 hSw
              obtain ⟨s0, s1, s2, s3, s4, s5, s6⟩ := hSw
              go_simp
            simp only [Act.put, List.setIfInBounds_toArray, List.set_cons_zero, List.set_cons_succ]
            refine wpAnyH_take (i := 17) (v := .bool true) rfl (by kernel_rfl) (by kernel_rfl) (by kernel_rfl) (fun _ _ _ h => h) (Or.inl ⟨by kernel_rfl, ?_⟩) hHeld ?_
            · intro w9 hSw
              obtain ⟨s0, s1, s2, s3, s4, s5, s6⟩ := hSw
              go_simp
            simp only [Act.put, List.setIfInBounds_toArray, List.set_cons_zero, List.set_cons_succ]
            refine wpAnyH_ready (rs := [18]) (by kernel_rfl) (by simp) ?_
            refine AllReadyH.cons rfl (fun K hK => ?_) AllReadyH.nil
            go_simp
            refine hK _ _ ⟨e0, e1, e2, e3, e4, e5, e6⟩ (fun hHeld => ?_)
            clear hK K
            refine wpAnyH_done (by kernel_rfl) ?_ _
            refine NoPanic.normal ?_
            clear e0 e1 e2 e3 e4 e5 hHeld
            go_wp2_with fail
            go_ret
            exact ⟨ret_bool F9.out.symm, HB1.out⟩
    · have hkn : k = n := by omega
      have F9 : Hid (bb = true) := by
        show bb = true
        rw [FP.out, ← PB.out]
        exact difs_good fun j hj => hg.out j (by rw [N1.out] at hj; omega)
      clear hkn
      go_wp2_with fail
      go_ret
      exact ⟨ret_bool F9.out.symm, hb.out⟩
end Go.Proofs.YtmbndpgoihdpnaaGreatDoor
