/-
  Texts of the store, brought together: Supers, Names. By an AI agent.
-/
import Derived.Test.YtnnimocaanofjaaGreatDoorSt16
import Derived.Test.YtnnimocaanofjaaGreatDoorSt06
/-
  Contracts of the helpers on superblocks: sizes, copies, comparisons, marks. By an AI agent.
-/
namespace Go.Proofs.YtnnimocaanofjaaGreatDoor
open Go.ChangeShapes Go.WideShapes Go.ChangeAt Go.RowKit Go.Deep
set_option linter.unusedVariables false

/-- A superblock: its generation, its root, its snapshots. -/
structure UM where
  G : Int
  R : Int
  S : List SN
/-- v reads as D. -/
def ReadsU (w : World) (v : Value) (D : UM) : Prop :=
  ∃ a c, v = .agg #[.int .i64 D.G, .int .i64 D.R, .slice a D.S.length c] ∧ Src w a (cellsSn D.S)
theorem ReadsU.below {w w' : World} {v : Value} {D : UM} (h : ReadsU w v D) (hb : Below w.heap.size w w') : ReadsU w' v D := by
  obtain ⟨a, c, rfl, h1⟩ := h
  exact ⟨a, c, rfl, h1.below hb⟩
theorem ReadsU.drew {w : World} {v : Value} {D : UM} (h : ReadsU w v D) : ReadsU w.drew v D := h
/-- v owns D, in blocks from lo up to hi. -/
def OwnsU (w : World) (lo hi : Nat) (v : Value) (D : UM) : Prop :=
  ∃ v1, v = .agg #[.int .i64 D.G, .int .i64 D.R, v1] ∧ OwnsR w 122 3 lo hi v1 D.S.length (cellsSn D.S)
theorem OwnsU.reads {w : World} {lo hi : Nat} {v : Value} {D : UM} (h : OwnsU w lo hi v D) : ReadsU w v D := by
  obtain ⟨v1, rfl, h1⟩ := h
  obtain ⟨a1, c1, rfl, s1, _⟩ := own_src h1.1
  exact ⟨a1, c1, rfl, s1⟩
theorem OwnsU.below {w w' : World} {lo hi : Nat} {v : Value} {D : UM} (h : OwnsU w lo hi v D) (hb : Below w.heap.size w w') : OwnsU w' lo hi v D := by
  obtain ⟨v1, rfl, h1⟩ := h
  exact ⟨v1, rfl, h1.below hb⟩
theorem OwnsU.turned {w w' : World} {lo hi lo' hi' : Nat} {v : Value} {D : UM} (h : OwnsU w lo hi v D) (ht : Turned lo' hi' w w') (hd : hi ≤ lo' ∨ hi' ≤ lo) : OwnsU w' lo hi v D := by
  obtain ⟨v1, rfl, h1⟩ := h
  exact ⟨v1, rfl, h1.turned ht hd⟩
theorem OwnsU.mono {w : World} {lo hi lo' hi' : Nat} {v : Value} {D : UM} (h : OwnsU w lo hi v D) (hl : lo' ≤ lo) (hh : hi ≤ hi') : OwnsU w lo' hi' v D := by
  obtain ⟨v1, rfl, h1⟩ := h
  exact ⟨v1, rfl, h1.mono hl hh⟩
theorem OwnsU.drew {w : World} {lo hi : Nat} {v : Value} {D : UM} (h : OwnsU w lo hi v D) : OwnsU w.drew lo hi v D := h
theorem OwnsU.lit {w : World} {lo hi : Nat} {v : Value} {D : UM} (h : OwnsU w lo hi v D) : ∃ a c, v = .agg #[.int .i64 D.G, .int .i64 D.R, .slice a D.S.length c] := by
  obtain ⟨a, c, e, _⟩ := h.reads
  exact ⟨a, c, e⟩
def smallU (D : UM) : Prop := D.S.length ≤ 1048576 ∧ ∀ x ∈ D.S, x.1.size ≤ 1048576
def maxU (D : UM) : Prop := D.S.length ≤ maxLen ∧ ∀ x ∈ D.S, x.1.size ≤ maxLen

set_option maxHeartbeats 1000000 in
theorem toSuper (v : Value) (D : UM) (w : World) (hs : smallU D) (h : ReadsU w v D) :
    Calls Tryz.prog 38 #[v] w fun e w' => ∃ v', e = .returned v' ∧ OwnsU w' w.heap.size w'.heap.size v' D ∧ Below w.heap.size w w' := by
  obtain ⟨a, c, rfl, s1⟩ := h
  obtain ⟨n, hn⟩ : ∃ n, D.S.length = n := ⟨_, rfl⟩
  obtain ⟨G, hG⟩ : ∃ G, D.G = G := ⟨_, rfl⟩
  obtain ⟨R, hR⟩ : ∃ R, D.R = R := ⟨_, rfl⟩
  have HS : Hid (n ≤ 1048576) := by rw [← hn]; exact hs.1
  have S1 : Hid (Src w a (cellsSn D.S)) := s1
  rw [hn, hG, hR]
  have N1 : Hid (D.S.length = n) := hn
  have NG : Hid (D.G = G ∧ D.R = R) := ⟨hG, hR⟩
  clear hs s1 hn hG hR
  go_enter Tryz.func38, Tryz.ntmps38
  go_wp2_with fail
  refine (toSnapS a n c D.S _ N1.out HS.out (S1.out.below ((((Below.refl _ _).alloc (Nat.le_refl _) _).alloc (by simp) _).alloc (by simp; omega) _))).mono ?_
  rintro e w1 ⟨v1, rfl, o1, hb1⟩
  obtain ⟨b1, d1, rfl, _, _⟩ := own_src o1
  have B1 : Hid (Below w.heap.size w w1) := ((((Below.refl _ _).alloc (Nat.le_refl _) _).alloc (by simp) _).alloc (by simp; omega) _).trans (hb1.mono (by simp; omega))
  have HRs : Hid (Box w1 (w.heap.size + 1) [.int .i64 0, .int .i64 0, .slice none 0 0]) := Box.below ((Box.new (by simp)).old _) hb1
  have HO : Hid (Box w1 (w.heap.size + 1 + 1) [.int .i64 G, .int .i64 R, .slice none 0 0]) := Box.below (Box.new (by simp)) hb1
  have O1 : Hid (w1.ownsRow (w.heap.size + 3) 122 3 (.slice b1 n d1) n (cellsSn D.S)) := own_mono o1 (by simp)
  clear o1 hb1
  obtain ⟨q2, q2f⟩ := HO.out 2 _ rfl
  have HO4 : Hid (Box (w1.setCell ⟨w.heap.size + 1 + 1, 2, none⟩ (.slice b1 n d1)) (w.heap.size + 1 + 1) [.int .i64 G, .int .i64 R, .slice b1 n d1]) := HO.out.set 2 _
  have HR4 : Hid (Box (w1.setCell ⟨w.heap.size + 1 + 1, 2, none⟩ (.slice b1 n d1)) (w.heap.size + 1) [.int .i64 0, .int .i64 0, .slice none 0 0]) := HRs.out.other _ (by dsimp only; omega) _
  obtain ⟨f0, _⟩ := HO4.out 0 _ rfl
  obtain ⟨f1, _⟩ := HO4.out 1 _ rfl
  obtain ⟨f2, _⟩ := HO4.out 2 _ rfl
  obtain ⟨g0, h0⟩ := HR4.out 0 _ rfl
  obtain ⟨g1, h1⟩ := (HR4.out.set 0 (.int .i64 G)) 1 _ rfl
  obtain ⟨g2, h2⟩ := ((HR4.out.set 0 (.int .i64 G)).set 1 (.int .i64 R)) 2 _ rfl
  have HR5 := ((HR4.out.set 0 (.int .i64 G)).set 1 (.int .i64 R)).set 2 (.slice b1 n d1)
  obtain ⟨r0, _⟩ := HR5 0 _ rfl
  obtain ⟨r1, _⟩ := HR5 1 _ rfl
  obtain ⟨r2, _⟩ := HR5 2 _ rfl
  clear HR5
  go_wp2_with fail
  refine bodyPost_ret (v := .agg #[.int .i64 G, .int .i64 R, .slice b1 n d1]) (by simp [results, Tryz.results38, go_sem, r0, r1, r2]) rfl ⟨_, rfl, ?_, ?_⟩
  · refine ⟨.slice b1 n d1, by rw [NG.out.1, NG.out.2], OwnsR.mk ?_ (Nat.le_refl _)⟩
    rw [N1.out]
    exact own_mono (own_setLow (own_setLow (own_setLow (own_setLow O1.out (by dsimp only; omega) _) (by dsimp only; omega) _) (by dsimp only; omega) _) (by dsimp only; omega) _) (by omega)
  · exact Below.setCell (Below.setCell (Below.setCell (Below.setCell B1.out (by dsimp only; omega) _) (by dsimp only; omega) _) (by dsimp only; omega) _) (by dsimp only; omega) _

set_option maxHeartbeats 1000000 in
theorem szSuper (v : Value) (D : UM) (l : Int) (w : World) (hl0 : 0 ≤ l) (hl1 : l ≤ 1048576) (hm : maxU D) (h : ReadsU w v D) :
    Calls Tryz.prog 30 #[v, .int .i64 l] w fun e w' => ∃ r : Int, e = .returned (.int .i64 r) ∧ r ≤ l ∧ (0 ≤ r → smallU D) ∧ Below w.heap.size w w' := by
  obtain ⟨a, c, rfl, s1⟩ := h
  obtain ⟨n, hn⟩ : ∃ n, D.S.length = n := ⟨_, rfl⟩
  have HM : Hid (n ≤ maxLen ∧ ∀ x ∈ D.S, x.1.size ≤ maxLen) := by rw [← hn]; exact hm
  have S1 : Hid (Src w a (cellsSn D.S)) := s1
  rw [hn]
  have N1 : Hid (D.S.length = n) := hn
  clear hm s1 hn
  go_enter Tryz.func30, Tryz.ntmps30
  go_wp2_with fail
  refine (szSnapS a n c D.S l _ N1.out HM.out.1 HM.out.2 hl0 hl1 (S1.out.below ((Below.refl _ _).alloc (Nat.le_refl _) _))).mono ?_
  rintro e w1 ⟨r, rfl, hr1, hr, hb1⟩
  have B1 : Hid (Below w.heap.size w w1) := Below.new hb1
  have HR : Hid (0 ≤ r → smallU D) := fun h => ⟨by rw [N1.out]; exact (hr h).2.1, (hr h).2.2⟩
  clear hb1 hr
  by_cases hneg : r < 0
  · go_wp2_with fail
    go_ret
    exact ⟨-1, rfl, by omega, fun h => absurd h (by omega), B1.out⟩
  · go_wp2_with fail
    go_ret
    exact ⟨r, rfl, hr1, HR.out, B1.out⟩

set_option maxHeartbeats 1000000 in
theorem eqSuper (v v' : Value) (D : UM) (w : World) (hs : D.S.length ≤ 9000000000000000000) (h : ReadsU w v D) (h' : ReadsU w v' D) :
    Calls Tryz.prog 41 #[v, v'] w fun e w' => e = .returned (.bool true) ∧ Below w.heap.size w w' := by
  obtain ⟨a, c, rfl, s1⟩ := h
  obtain ⟨b, d, rfl, s2⟩ := h'
  obtain ⟨n, hn⟩ : ∃ n, D.S.length = n := ⟨_, rfl⟩
  obtain ⟨G, hG⟩ : ∃ G, D.G = G := ⟨_, rfl⟩
  obtain ⟨R, hR⟩ : ∃ R, D.R = R := ⟨_, rfl⟩
  have HS : Hid (n ≤ 9000000000000000000) := by rw [← hn]; exact hs
  have S1 : Hid (Src w a (cellsSn D.S) ∧ Src w b (cellsSn D.S)) := ⟨s1, s2⟩
  rw [hn, hG, hR]
  have N1 : Hid (D.S.length = n) := hn
  have hGG : (G != G) = false := by simp
  have hRR : (R != R) = false := by simp
  clear hs s1 s2 hn hG hR
  go_enter Tryz.func41, Tryz.ntmps41
  go_wp2_with fail
  refine (eqSnapS a b n c d D.S _ N1.out HS.out (S1.out.1.below (((Below.refl _ _).alloc (Nat.le_refl _) _).alloc (by simp) _)) (S1.out.2.below (((Below.refl _ _).alloc (Nat.le_refl _) _).alloc (by simp) _))).mono ?_
  rintro e w1 ⟨rfl, hb1⟩
  have B1 : Hid (Below w.heap.size w w1) := (((Below.refl _ _).alloc (Nat.le_refl _) _).alloc (by simp) _).trans (hb1.mono (by simp; omega))
  clear hb1
  go_wp2_with fail
  go_ret
  exact ⟨rfl, B1.out⟩

end Go.Proofs.YtnnimocaanofjaaGreatDoor

/-
  Names: the program's NameOK and the specification's. By an AI agent.
-/
namespace Go.Proofs.YtnnimocaanofjaaGreatDoor
open Go.ChangeShapes Go.WideShapes Go.ChangeAt Go.RowKit Go.Deep
set_option linter.unusedVariables false

def letB (c : Int) : Bool := (decide (97 ≤ c) && decide (c ≤ 122)) || (decide (65 ≤ c) && decide (c ≤ 90)) || c == 95
def digB (c : Int) : Bool := decide (48 ≤ c) && decide (c ≤ 57)
def chB (c : UInt8) : Bool := letB c.toNat || digB c.toNat
def okFrom (s : ByteArray) (k : Nat) : Bool := (s.data.toList.drop k).all chB
def wordB (s : ByteArray) : Bool := decide (1 ≤ s.size) && decide (s.size ≤ 40) && letB (s.data.toList.headD 0).toNat && okFrom s 1

theorem okFrom_step (s : ByteArray) (k : Nat) (h : k < s.size) : okFrom s k = (chB s[k] && okFrom s (k + 1)) := by
  unfold okFrom
  rw [List.drop_eq_getElem_cons (by simpa using h)]
  rfl
theorem okFrom_end (s : ByteArray) (k : Nat) (h : s.size ≤ k) : okFrom s k = true := by
  unfold okFrom
  rw [List.drop_of_length_le (by simpa using h)]
  rfl

theorem letterI (c : Int) (w : World) : Calls Tryz.prog 186 #[.int .u8 c] w fun e w' => e = .returned (.bool (letB c)) ∧ w = w' := by
  go_enter Tryz.func186, Tryz.ntmps186
  go_wp2
  all_goals
    go_ret
    exact ⟨ret_bool (by rw [Bool.eq_iff_iff]; simp [letB]; omega), rfl⟩

theorem digitI (c : Int) (w : World) : Calls Tryz.prog 187 #[.int .u8 c] w fun e w' => e = .returned (.bool (digB c)) ∧ w = w' := by
  go_enter Tryz.func187, Tryz.ntmps187
  go_wp2
  all_goals
    go_ret
    exact ⟨ret_bool (by rw [Bool.eq_iff_iff]; simp [digB]; omega), rfl⟩
theorem letterS (c : Int) (w : World) : Calls Tryz.prog 167 #[.int .u8 c] w fun e w' => e = .returned (.bool (letB c)) ∧ w = w' := by
  go_enter Tryz.func167, Tryz.ntmps167
  go_wp2
  all_goals
    go_ret
    exact ⟨ret_bool (by rw [Bool.eq_iff_iff]; simp [letB]; omega), rfl⟩
theorem digitS (c : Int) (w : World) : Calls Tryz.prog 168 #[.int .u8 c] w fun e w' => e = .returned (.bool (digB c)) ∧ w = w' := by
  go_enter Tryz.func168, Tryz.ntmps168
  go_wp2
  all_goals
    go_ret
    exact ⟨ret_bool (by rw [Bool.eq_iff_iff]; simp [digB]; omega), rfl⟩


theorem head_at (s : ByteArray) (h : 0 < s.size) : s.data.toList.headD 0 = s[0] := by
  have : s.data.toList = s.data.toList[0]'(by simpa using h) :: s.data.toList.drop 1 := by
    rw [← List.drop_eq_getElem_cons (by simpa using h)]; rfl
  rw [this]; rfl

set_option maxHeartbeats 400000 in
theorem implNameOK (s : ByteArray) (w : World) (hs : s.size ≤ maxLen) : Calls Tryz.prog 185 #[.string s] w fun e w' => e = .returned (.bool (wordB s)) ∧ w = w' := by
  unfold maxLen at hs
  by_cases h0 : s.size = 0
  · have h0' : ((s.size : Int) == 0) = true := by simp [h0]
    go_enter Tryz.func185, Tryz.ntmps185
    go_wp2_with fail
    go_ret
    exact ⟨ret_bool (by simp [wordB, h0]), rfl⟩
  have h0' : ((s.size : Int) == 0) = false := by first | exact beq_eq_false_iff_ne.2 (by omega) | (simp; omega)
  by_cases h1 : 40 < s.size
  · go_enter Tryz.func185, Tryz.ntmps185
    go_wp2_with fail
    go_ret
    exact ⟨ret_bool (by simp [wordB]; omega), rfl⟩
  have hp : 0 < s.size := by omega
  have h1' : decide (40 < (s.size : Int)) = false := by simp; omega
  have hhead := head_at s hp
  by_cases hl : letB s[0].toNat = true
  · have hw : Hid (wordB s = okFrom s 1) := by show wordB s = okFrom s 1; unfold wordB; rw [hhead, hl]; simp [Nat.not_lt.mp h1]; intro _; omega
    clear hhead
    go_enter Tryz.func185, Tryz.ntmps185
    go_wp2_with (go_at_call 186; refine (letterI _ _).mono ?_; rintro e w' ⟨rfl, rfl⟩)
    go_loop [3] (fun i => ∃ k : Nat, 1 ≤ k ∧ k ≤ s.size ∧ i = .int .i64 k ∧ Hid (okFrom s 1 = okFrom s k)) (fun i => s.size - (intOf i).toNat)
    case atStart => exact ⟨1, by omega, by omega, rfl, rfl⟩
    case round =>
      obtain ⟨k, hk1, hk2, rfl, hr⟩ := hrel
      by_cases hlt : k < s.size
      · by_cases hL : letB s[k].toNat = true
        · go_wp2_with (first | (go_at_call 186; refine (letterI _ _).mono ?_; rintro e w' ⟨rfl, rfl⟩) | (go_at_call 187; refine (digitI _ _).mono ?_; rintro e w' ⟨rfl, rfl⟩))
          go_round
          case rel => exact ⟨k + 1, by omega, by omega, by go_num, by have := hr.out; rw [okFrom_step s k hlt, chB, hL] at this; show okFrom s 1 = okFrom s (k + 1); simpa using this⟩
          case measure => simp [intOf]; omega
        · have hL' : letB s[k].toNat = false := by simpa using hL
          clear hL
          by_cases hD : digB s[k].toNat = true
          · go_wp2_with (first | (go_at_call 186; refine (letterI _ _).mono ?_; rintro e w' ⟨rfl, rfl⟩) | (go_at_call 187; refine (digitI _ _).mono ?_; rintro e w' ⟨rfl, rfl⟩))
            go_round
            case rel => exact ⟨k + 1, by omega, by omega, by go_num, by have := hr.out; rw [okFrom_step s k hlt, chB, hL', hD] at this; show okFrom s 1 = okFrom s (k + 1); simpa using this⟩
            case measure => simp [intOf]; omega
          · have hD' : digB s[k].toNat = false := by simpa using hD
            clear hD
            have hf : Hid (wordB s = false) := by
              have := hr.out; rw [okFrom_step s k hlt, chB, hL', hD'] at this
              show wordB s = false
              rw [hw.out, this]; rfl
            go_wp2_with (first | (go_at_call 186; refine (letterI _ _).mono ?_; rintro e w' ⟨rfl, rfl⟩) | (go_at_call 187; refine (digitI _ _).mono ?_; rintro e w' ⟨rfl, rfl⟩))
            go_ret
            exact ⟨ret_bool hf.out.symm, rfl⟩
      · have hf : Hid (wordB s = true) := by
          show wordB s = true
          rw [hw.out, hr.out, okFrom_end s k (by omega)]
        go_wp2
        go_ret
        exact ⟨ret_bool hf.out.symm, rfl⟩
  · have hl' : letB s[0].toNat = false := by simpa using hl
    clear hl
    have hw : Hid (wordB s = false) := by show wordB s = false; unfold wordB; rw [hhead, hl']; simp
    clear hhead
    go_enter Tryz.func185, Tryz.ntmps185
    go_wp2_with (go_at_call 186; refine (letterI _ _).mono ?_; rintro e w' ⟨rfl, rfl⟩)
    go_ret
    exact ⟨ret_bool hw.out.symm, rfl⟩

set_option maxHeartbeats 400000 in
theorem l00Word (s : ByteArray) (w : World) (hs : s.size ≤ maxLen) : Calls Tryz.prog 150 #[.string s] w fun e w' => e = .returned (.bool (wordB s)) ∧ w = w' := by
  unfold maxLen at hs
  by_cases h0 : s.size = 0
  · have h0' : decide ((s.size : Int) < 1) = true := by simp [h0]
    go_enter Tryz.func150, Tryz.ntmps150
    go_wp2_with fail
    go_ret
    exact ⟨ret_bool (by simp [wordB, h0]), rfl⟩
  have h0' : decide ((s.size : Int) < 1) = false := by first | exact beq_eq_false_iff_ne.2 (by omega) | (simp; omega)
  by_cases h1 : 40 < s.size
  · go_enter Tryz.func150, Tryz.ntmps150
    go_wp2_with fail
    go_ret
    exact ⟨ret_bool (by simp [wordB]; omega), rfl⟩
  have hp : 0 < s.size := by omega
  have h1' : decide (40 < (s.size : Int)) = false := by simp; omega
  have hhead := head_at s hp
  by_cases hl : letB s[0].toNat = true
  · have hw : Hid (wordB s = okFrom s 1) := by show wordB s = okFrom s 1; unfold wordB; rw [hhead, hl]; simp [Nat.not_lt.mp h1]; intro _; omega
    clear hhead
    go_enter Tryz.func150, Tryz.ntmps150
    go_wp2_with (go_at_call 167; refine (letterS _ _).mono ?_; rintro e w' ⟨rfl, rfl⟩)
    go_loop [3] (fun i => ∃ k : Nat, 1 ≤ k ∧ k ≤ s.size ∧ i = .int .i64 k ∧ Hid (okFrom s 1 = okFrom s k)) (fun i => s.size - (intOf i).toNat)
    case atStart => exact ⟨1, by omega, by omega, rfl, rfl⟩
    case round =>
      obtain ⟨k, hk1, hk2, rfl, hr⟩ := hrel
      by_cases hlt : k < s.size
      · by_cases hL : letB s[k].toNat = true
        · go_wp2_with (first | (go_at_call 167; refine (letterS _ _).mono ?_; rintro e w' ⟨rfl, rfl⟩) | (go_at_call 168; refine (digitS _ _).mono ?_; rintro e w' ⟨rfl, rfl⟩))
          go_round
          case rel => exact ⟨k + 1, by omega, by omega, by go_num, by have := hr.out; rw [okFrom_step s k hlt, chB, hL] at this; show okFrom s 1 = okFrom s (k + 1); simpa using this⟩
          case measure => simp [intOf]; omega
        · have hL' : letB s[k].toNat = false := by simpa using hL
          clear hL
          by_cases hD : digB s[k].toNat = true
          · go_wp2_with (first | (go_at_call 167; refine (letterS _ _).mono ?_; rintro e w' ⟨rfl, rfl⟩) | (go_at_call 168; refine (digitS _ _).mono ?_; rintro e w' ⟨rfl, rfl⟩))
            go_round
            case rel => exact ⟨k + 1, by omega, by omega, by go_num, by have := hr.out; rw [okFrom_step s k hlt, chB, hL', hD] at this; show okFrom s 1 = okFrom s (k + 1); simpa using this⟩
            case measure => simp [intOf]; omega
          · have hD' : digB s[k].toNat = false := by simpa using hD
            clear hD
            have hf : Hid (wordB s = false) := by
              have := hr.out; rw [okFrom_step s k hlt, chB, hL', hD'] at this
              show wordB s = false
              rw [hw.out, this]; rfl
            go_wp2_with (first | (go_at_call 167; refine (letterS _ _).mono ?_; rintro e w' ⟨rfl, rfl⟩) | (go_at_call 168; refine (digitS _ _).mono ?_; rintro e w' ⟨rfl, rfl⟩))
            go_ret
            exact ⟨ret_bool hf.out.symm, rfl⟩
      · have hf : Hid (wordB s = true) := by
          show wordB s = true
          rw [hw.out, hr.out, okFrom_end s k (by omega)]
        go_wp2
        go_ret
        exact ⟨ret_bool hf.out.symm, rfl⟩
  · have hl' : letB s[0].toNat = false := by simpa using hl
    clear hl
    have hw : Hid (wordB s = false) := by show wordB s = false; unfold wordB; rw [hhead, hl']; simp
    clear hhead
    go_enter Tryz.func150, Tryz.ntmps150
    go_wp2_with (go_at_call 167; refine (letterS _ _).mono ?_; rintro e w' ⟨rfl, rfl⟩)
    go_ret
    exact ⟨ret_bool hw.out.symm, rfl⟩
theorem specNameOK (s : ByteArray) (w : World) (hs : s.size ≤ maxLen) : Calls Tryz.prog 119 #[.string s] w fun e w' => e = .returned (.bool (wordB s)) ∧ w = w' := by
  go_enter Tryz.func119, Tryz.ntmps119
  go_wp2_with (go_at_call 150; refine (l00Word _ _ hs).mono ?_; rintro e w' ⟨rfl, rfl⟩)
  go_ret
  exact ⟨rfl, rfl⟩
def shortB (s : ByteArray) : Bool := wordB s && decide (s.size ≤ 8)
theorem shortName (s : ByteArray) (w : World) (hs : s.size ≤ maxLen) : Calls Tryz.prog 175 #[.string s] w fun e w' => e = .returned (.bool (shortB s)) ∧ w = w' := by
  obtain ⟨b, hb⟩ : ∃ b, wordB s = b := ⟨_, rfl⟩
  have HB : Hid (shortB s = (b && decide (s.size ≤ 8))) := by show _ = _; unfold shortB; rw [hb]
  have HC : Calls Tryz.prog 185 #[.string s] w fun e w' => e = .returned (.bool b) ∧ w = w' := by rw [← hb]; exact implNameOK s w hs
  clear hb
  go_enter Tryz.func175, Tryz.ntmps175
  go_wp2_with (go_at_call 185; refine HC.mono ?_; rintro e w' ⟨rfl, rfl⟩; cases b)
  all_goals
    go_ret
    exact ⟨ret_bool (by rw [HB.out]; first | (simp; done) | (simp; omega)), rfl⟩
theorem l04Name (s : ByteArray) (w : World) (hs : s.size ≤ maxLen) : Calls Tryz.prog 78 #[.string s] w fun e w' => e = .returned (.bool (shortB s)) ∧ w = w' := by
  obtain ⟨b, hb⟩ : ∃ b, wordB s = b := ⟨_, rfl⟩
  have HB : Hid (shortB s = (b && decide (s.size ≤ 8))) := by show _ = _; unfold shortB; rw [hb]
  have HC : Calls Tryz.prog 119 #[.string s] w fun e w' => e = .returned (.bool b) ∧ w = w' := by rw [← hb]; exact specNameOK s w hs
  clear hb
  by_cases h8 : s.size ≤ 8
  · have h8' : decide ((s.size : Int) ≤ 8) = true := decide_eq_true (by omega)
    go_enter Tryz.func78, Tryz.ntmps78
    go_wp2_with (go_at_call 119; refine HC.mono ?_; rintro e w' ⟨rfl, rfl⟩)
    go_ret
    exact ⟨ret_bool (by rw [HB.out]; simp [h8]), rfl⟩
  · have h8' : decide ((s.size : Int) ≤ 8) = false := decide_eq_false (by omega)
    go_enter Tryz.func78, Tryz.ntmps78
    go_wp2_with fail
    go_ret
    exact ⟨ret_bool (by rw [HB.out]; simp [h8]), rfl⟩
end Go.Proofs.YtnnimocaanofjaaGreatDoor

