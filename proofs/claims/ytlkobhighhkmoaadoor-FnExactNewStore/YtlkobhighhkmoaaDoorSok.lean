
/-
  What a right superblock is: the program's SuperOK and the specification's. By an AI agent.
-/
import Derived.Test.YtlkobhighhkmoaaDoorSupers
import Derived.Test.YtlkobhighhkmoaaDoorNames
import Derived.Test.YtlkobhighhkmoaaDoorNok
namespace Go.Proofs.YtlkobhighhkmoaaDoor
open Go.ChangeShapes Go.WideShapes Go.ChangeAt Go.RowKit Go.Deep
set_option linter.unusedVariables false
set_option maxRecDepth 100000

def rootB (r : Int) : Bool := decide (-1 ≤ r ∧ r ≤ 49)
def tickB (t : Int) : Bool := decide (0 ≤ t ∧ t ≤ 60000)
def upN (S : List SN) (i : Nat) : Bool := decide (i = 0) || Op.bytesLess (S.getD (i - 1) sn0).1.toList (S.getD i sn0).1.toList
def snapB (S : List SN) (i : Nat) : Bool := shortB (S.getD i sn0).1 && rootB (S.getD i sn0).2.1 && tickB (S.getD i sn0).2.2 && upN S i
def snapsB (S : List SN) : Bool := (List.range S.length).all (snapB S)
def okU (D : UM) : Bool := decide (0 ≤ D.G ∧ D.G ≤ 200) && rootB D.R && decide (D.S.length ≤ 4) && snapsB D.S
theorem snaps_bad {S : List SN} {k : Nat} (hk : k < S.length) (h : snapB S k = false) : snapsB S = false := by
  unfold snapsB
  rw [List.all_eq_false]
  exact ⟨k, List.mem_range.2 hk, by rw [h]; decide⟩
theorem snaps_good {S : List SN} (h : ∀ k, k < S.length → snapB S k = true) : snapsB S = true := by
  unfold snapsB
  rw [List.all_eq_true]
  exact fun k hk => h k (List.mem_range.1 hk)
theorem rootFits (b : Bool) (r : Int) (w : World) (h : rootB r = b) : Calls Tryd.prog 84 #[.int .i64 r] w fun e w' => e = .returned (.bool b) ∧ w = w' := by
  have HB : Hid (rootB r = b) := h
  by_cases h1 : r = -1
  · subst h1
    clear h
    go_enter Tryd.func84, Tryd.ntmps84
    go_wp2_with fail
    go_ret
    exact ⟨ret_bool (by rw [← HB.out]; rfl), rfl⟩
  · have h1' : (r == -1) = false := by simpa using h1
    have HP : Hid (pageB r = b) := by show pageB r = b; rw [← h]; rw [Bool.eq_iff_iff]; simp [pageB, rootB]; omega
    clear h h1
    go_enter Tryd.func84, Tryd.ntmps84
    go_wp2_with (go_at_call 99; refine (isPage _ _).mono ?_; rw [HP.out]; rintro e w1 ⟨rfl, rfl⟩)
    go_ret
    exact ⟨rfl, rfl⟩
theorem tickFits (b : Bool) (r : Int) (w : World) (h : tickB r = b) : Calls Tryd.prog 86 #[.int .i64 r] w fun e w' => e = .returned (.bool b) ∧ w = w' := by
  have HB : Hid (tickB r = b) := h
  clear h
  go_enter Tryd.func86, Tryd.ntmps86
  go_wp2
  all_goals
    go_ret
    exact ⟨ret_bool (by rw [← HB.out, Bool.eq_iff_iff]; simp [tickB]; omega), rfl⟩
theorem shortNameIs (b : Bool) (s : ByteArray) (w : World) (h : shortB s = b) (hs : s.size ≤ maxLen) : Calls Tryd.prog 85 #[.string s] w fun e w' => e = .returned (.bool b) ∧ w = w' := by
  rw [← h]; exact shortName s w hs
theorem l04NameIs (b : Bool) (s : ByteArray) (w : World) (h : shortB s = b) (hs : s.size ≤ maxLen) : Calls Tryd.prog 69 #[.string s] w fun e w' => e = .returned (.bool b) ∧ w' = w := by
  rw [← h]; exact (l04Name s w hs).mono fun e w' ⟨h1, h2⟩ => ⟨h1, h2.symm⟩

set_option maxHeartbeats 4000000 in
theorem implSuperOK (v : Value) (D : UM) (w : World) (hs : smallU D) (h : ReadsU w v D) :
    Calls Tryd.prog 50 #[v] w fun e w' => e = .returned (.bool (okU D)) ∧ Below w.heap.size w w' := by
  obtain ⟨a, c, rfl, s1⟩ := h
  obtain ⟨bb, hbb⟩ : ∃ bb, okU D = bb := ⟨_, rfl⟩
  rw [hbb]
  obtain ⟨pb, hpb⟩ : ∃ pb, snapsB D.S = pb := ⟨_, rfl⟩
  obtain ⟨n, hn⟩ : ∃ n, D.S.length = n := ⟨_, rfl⟩
  obtain ⟨G, hG⟩ : ∃ G, D.G = G := ⟨_, rfl⟩
  obtain ⟨R, hR⟩ : ∃ R, D.R = R := ⟨_, rfl⟩
  have S1 : Hid (Src w a (cellsSn D.S)) := s1
  have N1 : Hid (D.S.length = n) := hn
  have HF : Hid (bb = (decide (0 ≤ G ∧ G ≤ 200) && rootB R && decide (n ≤ 4) && pb)) := by
    show bb = _
    rw [← hbb, ← hpb, ← hn, ← hG, ← hR]; rfl
  have HL : Hid (∀ x ∈ D.S, x.1.size ≤ 1048576) := hs.2
  have PB : Hid (snapsB D.S = pb) := hpb
  have NB : Hid (n ≤ 1048576) := by rw [← hn]; exact hs.1
  rw [hn, hG, hR]
  clear s1 hn hG hR hbb hpb hs
  by_cases t1 : G < 0
  · have F : Hid (bb = false) := by show bb = false; rw [HF.out, decide_eq_false (by omega)]; rfl
    clear HF
    go_enter Tryd.func50, Tryd.ntmps50
    go_wp2_with fail
    go_ret
    exact ⟨ret_bool F.out.symm, (Below.refl _ _).alloc (Nat.le_refl _) _⟩
  by_cases t2 : 200 < G
  · have F : Hid (bb = false) := by show bb = false; rw [HF.out, decide_eq_false (by omega)]; rfl
    clear HF
    go_enter Tryd.func50, Tryd.ntmps50
    go_wp2_with fail
    go_ret
    exact ⟨ret_bool F.out.symm, (Below.refl _ _).alloc (Nat.le_refl _) _⟩
  cases hr : rootB R with
  | false =>
    have F : Hid (bb = false) := by show bb = false; rw [HF.out, hr]; simp
    have HR : Hid (rootB R = false) := hr
    clear HF hr
    go_enter Tryd.func50, Tryd.ntmps50
    go_wp2_with (go_at_call 84; refine (rootFits false _ _ HR.out).mono ?_; rintro e w1 ⟨rfl, rfl⟩)
    go_ret
    exact ⟨ret_bool F.out.symm, (Below.refl _ _).alloc (Nat.le_refl _) _⟩
  | true =>
  have HR : Hid (rootB R = true) := hr
  by_cases t3 : (4 : Int) < (n : Int)
  · have F : Hid (bb = false) := by show bb = false; rw [HF.out, decide_eq_false (p := n ≤ 4) (by omega)]; simp
    clear HF hr
    go_enter Tryd.func50, Tryd.ntmps50
    go_wp2_with (go_at_call 84; refine (rootFits true _ _ HR.out).mono ?_; rintro e w1 ⟨rfl, rfl⟩)
    go_ret
    exact ⟨ret_bool F.out.symm, (Below.refl _ _).alloc (Nat.le_refl _) _⟩
  have FP : Hid (bb = pb) := by show bb = pb; rw [HF.out, hr, decide_eq_true (p := n ≤ 4) (by omega), decide_eq_true (p := 0 ≤ G ∧ G ≤ 200) (by omega)]; simp
  clear HF hr
  go_enter Tryd.func50, Tryd.ntmps50
  go_wp2_with (go_at_call 84; refine (rootFits true _ _ HR.out).mono ?_; rintro e w1 ⟨rfl, rfl⟩)
  go_loopw [28] (fun i wr => ∃ k : Nat, k ≤ n ∧ i = .int .i64 k ∧ Hid (∀ j, j < k → snapB D.S j = true) ∧ Hid (Below w.heap.size w wr) ∧ Hid (Box wr w.heap.size [.int .i64 G, .int .i64 R, .slice a n c])) (fun i _ => n - (intOf i).toNat)
  case atStart => exact ⟨0, by omega, rfl, fun j hj => absurd hj (by omega), (Below.refl _ _).alloc (Nat.le_refl _) _, Box.new rfl⟩
  case round =>
    obtain ⟨k, hk, rfl, hg, hb, hx⟩ := hrel
    by_cases hlt : k < n
    · obtain ⟨b, o, x, y, z, rfl, q1, q2, q3, hy⟩ := srcSn (S1.out.below hb.out) (i := k) (by rw [N1.out]; exact hlt)
      have hki : (k : Int) < (n : Int) := by omega
      have SX : Hid (x.size ≤ maxLen) := by
        have h1 := HL.out _ (mem_getD D.S sn0 k (by rw [N1.out]; exact hlt))
        rw [hy.out] at h1
        show x.size ≤ maxLen
        unfold maxLen; exact Nat.le_trans h1 (by omega)
      have HB1 : Hid (Below w.heap.size w (wr.alloc (.cells #[.string x, .int .i64 y, .int .i64 z] 78))) := hb.out.alloc hb.out.size _
      have HX1 : Hid (Box (wr.alloc (.cells #[.string x, .int .i64 y, .int .i64 z] 78)) w.heap.size [.int .i64 G, .int .i64 R, .slice (some ⟨b, o, none⟩) n c]) := hx.out.old _
      have hgd : Hid (snapB D.S k = (shortB x && rootB y && tickB z && upN D.S k)) := by show _ = _; unfold snapB; rw [hy.out]
      cases h1 : shortB x with
      | false =>
        have F : Hid (bb = false) := by
          show bb = false
          rw [FP.out, ← PB.out]
          exact snaps_bad (k := k) (by rw [N1.out]; exact hlt) (by rw [hgd.out, h1]; rfl)
        have H1 : Hid (shortB x = false) := h1
        clear h1
        go_wp2_with (go_at_call 85; refine (shortNameIs false _ _ H1.out SX.out).mono ?_; rintro e w1 ⟨rfl, rfl⟩)
        go_ret
        exact ⟨ret_bool F.out.symm, HB1.out⟩
      | true =>
      have H1 : Hid (shortB x = true) := h1
      cases h2 : rootB y with
      | false =>
        have F : Hid (bb = false) := by
          show bb = false
          rw [FP.out, ← PB.out]
          exact snaps_bad (k := k) (by rw [N1.out]; exact hlt) (by rw [hgd.out, h1, h2]; rfl)
        have H2 : Hid (rootB y = false) := h2
        clear h1 h2
        go_wp2_with (first | (go_at_call 84; refine (rootFits false _ _ H2.out).mono ?_; rintro e w1 ⟨rfl, rfl⟩) | (go_at_call 85; refine (shortNameIs true _ _ H1.out SX.out).mono ?_; rintro e w1 ⟨rfl, rfl⟩))
        go_ret
        exact ⟨ret_bool F.out.symm, HB1.out⟩
      | true =>
      have H2 : Hid (rootB y = true) := h2
      cases h3 : tickB z with
      | false =>
        have F : Hid (bb = false) := by
          show bb = false
          rw [FP.out, ← PB.out]
          exact snaps_bad (k := k) (by rw [N1.out]; exact hlt) (by rw [hgd.out, h1, h2, h3]; rfl)
        have H3 : Hid (tickB z = false) := h3
        clear h1 h2 h3
        go_wp2_with (first | (go_at_call 86; refine (tickFits false _ _ H3.out).mono ?_; rintro e w1 ⟨rfl, rfl⟩) | (go_at_call 84; refine (rootFits true _ _ H2.out).mono ?_; rintro e w1 ⟨rfl, rfl⟩) | (go_at_call 85; refine (shortNameIs true _ _ H1.out SX.out).mono ?_; rintro e w1 ⟨rfl, rfl⟩))
        go_ret
        exact ⟨ret_bool F.out.symm, HB1.out⟩
      | true =>
      have H3 : Hid (tickB z = true) := h3
      have hgd2 : Hid (snapB D.S k = upN D.S k) := by show _ = _; rw [hgd.out, h1, h2, h3]; rfl
      clear h1 h2 h3
      by_cases hz : k = 0
      · have hgood : Hid (snapB D.S k = true) := by show snapB D.S k = true; rw [hgd2.out]; unfold upN; rw [decide_eq_true hz]; rfl
        have hkz : decide (0 < k) = false := by simp; omega
        clear hz
        go_wp2_with (first | (go_at_call 86; refine (tickFits true _ _ H3.out).mono ?_; rintro e w1 ⟨rfl, rfl⟩) | (go_at_call 84; refine (rootFits true _ _ H2.out).mono ?_; rintro e w1 ⟨rfl, rfl⟩) | (go_at_call 85; refine (shortNameIs true _ _ H1.out SX.out).mono ?_; rintro e w1 ⟨rfl, rfl⟩))
        go_quiet (fail)
        go_wp2_with fail
        exact ⟨⟨k + 1, by omega, by go_num, fun j hj => by
          by_cases e : j = k
          · rw [e]; exact hgood.out
          · exact hg.out j (by omega), Below.drewN' HB1.out _, HX1.out⟩, by simp [intOf]; omega⟩
      · obtain ⟨b4, o4, x4, y4, z4, e4, d1, d2, d3, hy4⟩ := srcSn (S1.out.below HB1.out) (i := k - 1) (by rw [N1.out]; omega)
        cases e4
        obtain ⟨g2, _⟩ := HX1.out 2 _ rfl
        have hkp : 0 < k := by omega
        have hkm : (0 : Int) ≤ (k : Int) - 1 := by omega
        have hkm2 : (k : Int) - 1 < (n : Int) := by omega
        by_cases hl : Op.bytesLess x4.toList x.toList = true
        · have hgood : Hid (snapB D.S k = true) := by show snapB D.S k = true; rw [hgd2.out]; unfold upN; rw [hy.out, hy4.out, hl]; simp
          clear hz
          go_wp2_with (first | (go_at_call 86; refine (tickFits true _ _ H3.out).mono ?_; rintro e w1 ⟨rfl, rfl⟩) | (go_at_call 84; refine (rootFits true _ _ H2.out).mono ?_; rintro e w1 ⟨rfl, rfl⟩) | (go_at_call 85; refine (shortNameIs true _ _ H1.out SX.out).mono ?_; rintro e w1 ⟨rfl, rfl⟩))
          go_quiet (fail)
          go_wp2_with fail
          exact ⟨⟨k + 1, by omega, by go_num, fun j hj => by
            by_cases e : j = k
            · rw [e]; exact hgood.out
            · exact hg.out j (by omega), Below.drewN' HB1.out _, HX1.out⟩, by simp [intOf]; omega⟩
        · have hl' : Op.bytesLess x4.toList x.toList = false := by simpa using hl
          have F : Hid (bb = false) := by
            show bb = false
            rw [FP.out, ← PB.out]
            exact snaps_bad (k := k) (by rw [N1.out]; exact hlt) (by rw [hgd2.out]; unfold upN; rw [hy.out, hy4.out, hl', decide_eq_false hz]; rfl)
          clear hl hz
          go_wp2_with (first | (go_at_call 86; refine (tickFits true _ _ H3.out).mono ?_; rintro e w1 ⟨rfl, rfl⟩) | (go_at_call 84; refine (rootFits true _ _ H2.out).mono ?_; rintro e w1 ⟨rfl, rfl⟩) | (go_at_call 85; refine (shortNameIs true _ _ H1.out SX.out).mono ?_; rintro e w1 ⟨rfl, rfl⟩))
          go_quiet (fail)
          go_wp2_with fail
          go_ret
          exact ⟨ret_bool F.out.symm, Below.drewN' HB1.out _⟩
    · have hkn : k = n := by omega
      have F : Hid (bb = true) := by
        show bb = true
        rw [FP.out, ← PB.out]
        exact snaps_good fun j hj => hg.out j (by rw [N1.out] at hj; omega)
      clear hkn
      go_wp2_with fail
      go_ret
      exact ⟨ret_bool F.out.symm, hb.out⟩
end Go.Proofs.YtlkobhighhkmoaaDoor
