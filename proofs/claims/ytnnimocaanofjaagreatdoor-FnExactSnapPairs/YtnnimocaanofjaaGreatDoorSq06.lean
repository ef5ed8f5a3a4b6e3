/-
  Texts of the store, brought together: PairsOKi, Nok, Trp. By an AI agent.
-/
import Derived.Test.YtnnimocaanofjaaGreatDoorSq05
namespace Go.Proofs.YtnnimocaanofjaaGreatDoor
open Go.ChangeShapes Go.WideShapes Go.ChangeAt Go.RowKit Go.Deep
set_option linter.unusedVariables false
set_option linter.unusedSimpArgs false
set_option maxRecDepth 100000
theorem below_drewN {B : Nat} {a w : World} (h : Below B a w) (n : Nat) : Below B a (w.drewN n) := Below.drewN' h n
set_option maxHeartbeats 1000000 in
theorem implPairsOK (a : Option Addr) (n c : Nat) (f g : Nat → ByteArray) (w : World) (hn : n ≤ 1048576) (hs : ∀ i, i < n → (f i).size ≤ 1048576 ∧ (g i).size ≤ 1048576) (h : Sp w a n f g) :
    Calls Tryz.prog 147 #[.slice a n c] w fun e w' => e = .returned (.bool (pairsB f g n)) ∧ Below w.heap.size w w' := by
  by_cases h2 : 60 < n
  · have e : Hid (pairsB f g n = false) := pairsB_many f g n (by omega)
    clear h hs
    go_enter Tryz.func147, Tryz.ntmps147
    go_wp2_with fail
    go_ret
    exact ⟨ret_bool e.out.symm, Below.refl _ _⟩
  have HS : Hid (∀ i, i < n → (f i).size ≤ 1048576 ∧ (g i).size ≤ 1048576) := hs
  have HH : Hid (Sp w a n f g) := h
  clear hs h
  go_enter Tryz.func147, Tryz.ntmps147
  go_wp2_with fail
  go_loopw [10] (fun i wr => ∃ k : Nat, k ≤ n ∧ i = .int .i64 k ∧ Hid (∀ j, j < k → goodB f g j = true) ∧ Hid (Below w.heap.size w wr)) (fun i _ => n - (intOf i).toNat)
  case atStart => exact ⟨0, by omega, rfl, fun j hj => absurd hj (by omega), Below.refl _ _⟩
  case round =>
    obtain ⟨k, hk, rfl, hg, hb⟩ := hrel
    by_cases hlt : k < n
    · rcases HH.out.below hb.out with h1 | ⟨b, off, rfl, hc⟩
      · omega
      obtain ⟨hc1, hc2⟩ := hc k hlt
      have SX : Hid ((f k).size ≤ maxLen) := by have := (HS.out k hlt).1; show (f k).size ≤ maxLen; unfold maxLen; omega
      have hsy := (HS.out k hlt).2
      have HB1 : Hid (Below w.heap.size w (wr.alloc (.cells #[.string (f k), .string (g k)] 109))) := hb.out.alloc hb.out.size _
      by_cases hkey : keyB (f k) = true
      · by_cases hval : (90 : Int) < ((g k).size : Int)
        · have hbad : Hid (pairsB f g n = false) := pairsB_bad f g n k hlt (by unfold goodB fitB; rw [hkey, decide_eq_false (by omega)]; rfl)
          have HK : Hid (keyB (f k) = true) := hkey
          clear hc hkey
          go_wp2_with (go_at_call 164; refine (keyFitsIs true _ _ HK.out SX.out).mono ?_; rintro e w1 ⟨rfl, rfl⟩)
          go_ret
          exact ⟨ret_bool hbad.out.symm, HB1.out⟩
        · have hfit : fitB (f k) (g k) = true := by unfold fitB; rw [hkey, decide_eq_true (by omega)]; rfl
          have HK : Hid (keyB (f k) = true) := hkey
          clear hkey
          by_cases hz : k = 0
          · have hgood : Hid (goodB f g k = true) := by show goodB f g k = true; unfold goodB riseB; rw [hfit, decide_eq_true hz]; rfl
            have hkz : decide (0 < k) = false := by simp; omega
            clear hc hfit hz
            go_wp2_with (go_at_call 164; refine (keyFitsIs true _ _ HK.out SX.out).mono ?_; rintro e w1 ⟨rfl, rfl⟩)
            go_quiet (fail)
            go_wp2_with fail
            exact ⟨⟨k + 1, by omega, by go_num, next_good hg.out hgood.out, below_drewN HB1.out _⟩, by simp [intOf]; omega⟩
          · have hd1 := (hc (k - 1) (by omega)).1
            have hd1' : (wr.alloc (.cells #[.string (f k), .string (g k)] 109)).cell? ⟨b, off + (k - 1) * 2, none⟩ = some (.string (f (k - 1))) := by
              rw [World.cell?_alloc_past _ _ _ (World.block_lt_of_cell? _ _ hd1)]; exact hd1
            have hkp : 0 < k := by omega
            have hkm : (0 : Int) ≤ (k : Int) - 1 := by omega
            have hkm2 : (k : Int) - 1 < (n : Int) := by omega
            clear hc hz hd1
            by_cases hless : Op.bytesLess (f (k - 1)).toList (f k).toList = true
            · have hgood : Hid (goodB f g k = true) := by
                show goodB f g k = true
                unfold goodB riseB; rw [hfit, hless]; simp
              clear hfit
              go_wp2_with (go_at_call 164; refine (keyFitsIs true _ _ HK.out SX.out).mono ?_; rintro e w1 ⟨rfl, rfl⟩)
              go_quiet (fail)
              go_wp2_with fail
              exact ⟨⟨k + 1, by omega, by go_num, next_good hg.out hgood.out, below_drewN HB1.out _⟩, by simp [intOf]; omega⟩
            · have hless' : Op.bytesLess (f (k - 1)).toList (f k).toList = false := by simpa using hless
              have hbad : Hid (pairsB f g n = false) := pairsB_bad f g n k hlt (by
                unfold goodB riseB; rw [hfit, hless', decide_eq_false (by omega)]; rfl)
              clear hfit hless
              go_wp2_with (go_at_call 164; refine (keyFitsIs true _ _ HK.out SX.out).mono ?_; rintro e w1 ⟨rfl, rfl⟩)
              go_quiet (fail)
              go_wp2_with fail
              go_ret
              exact ⟨ret_bool hbad.out.symm, below_drewN HB1.out _⟩
      · have HK : Hid (keyB (f k) = false) := by show keyB (f k) = false; simpa using hkey
        have hbad : Hid (pairsB f g n = false) := pairsB_bad f g n k hlt (by unfold goodB fitB; rw [HK.out]; rfl)
        clear hc hkey
        go_wp2_with (go_at_call 164; refine (keyFitsIs false _ _ HK.out SX.out).mono ?_; rintro e w1 ⟨rfl, rfl⟩)
        go_ret
        exact ⟨ret_bool hbad.out.symm, HB1.out⟩
    · have hkn : k = n := by omega
      have e : Hid (pairsB f g n = true) := pairsB_good f g n (by omega) (by rw [← hkn]; exact hg.out)
      clear hkn
      go_wp2_with fail
      go_ret
      exact ⟨ret_bool e.out.symm, hb.out⟩
def freeB (D : NM) : Bool := decide (D.A = false ∧ D.P.length = 0 ∧ D.L.length = 0 ∧ D.K.length = 0)
def leafB (D : NM) : Bool := decide (D.A = true ∧ D.L.length = 0 ∧ D.K.length = 0 ∧ 1 ≤ D.P.length ∧ D.P.length ≤ 3) && pairsB (fK D.P) (fV D.P) D.P.length
def pageB (q : Int) : Bool := decide (0 ≤ q ∧ q < 50)
def upB (L : List ByteArray) (i : Nat) : Bool := decide (i = 0) || Op.bytesLess (L.getD (i - 1) e0).toList (L.getD i e0).toList
def kidB (K : List Int) (L : List ByteArray) (i : Nat) : Bool := pageB (K.getD i 0) && keyB (L.getD i e0) && upB L i
def kidsB (K : List Int) (L : List ByteArray) : Bool := (List.range K.length).all (kidB K L)
def innerB (D : NM) : Bool := decide (D.A = false ∧ D.P.length = 0 ∧ D.L.length = D.K.length ∧ 1 ≤ D.K.length ∧ D.K.length ≤ 4) && kidsB D.K D.L
def okB (D : NM) : Bool := freeB D || leafB D || innerB D
theorem kids_bad {K : List Int} {L : List ByteArray} {k : Nat} (hk : k < K.length) (h : kidB K L k = false) : kidsB K L = false := by
  unfold kidsB
  rw [List.all_eq_false]
  exact ⟨k, List.mem_range.2 hk, by rw [h]; decide⟩
theorem kids_good {K : List Int} {L : List ByteArray} (h : ∀ k, k < K.length → kidB K L k = true) : kidsB K L = true := by
  unfold kidsB
  rw [List.all_eq_true]
  exact fun k hk => h k (List.mem_range.1 hk)
theorem isPage (q : Int) (w : World) : Calls Tryz.prog 162 #[.int .i64 q] w fun e w' => e = .returned (.bool (pageB q)) ∧ w = w' := by
  go_enter Tryz.func162, Tryz.ntmps162
  go_wp2
  all_goals
    go_ret
    exact ⟨ret_bool (by rw [Bool.eq_iff_iff]; simp [pageB]; omega), rfl⟩
theorem isPageIs (b : Bool) (q : Int) (w : World) (h : pageB q = b) : Calls Tryz.prog 162 #[.int .i64 q] w fun e w' => e = .returned (.bool b) ∧ w = w' := by
  rw [← h]; exact isPage q w
theorem l01InIs (d : Bool) (a b c : Int) (w : World) (h : (decide (b ≤ a) && decide (a ≤ c)) = d) : Calls Tryz.prog 77 #[.int .i64 a, .int .i64 b, .int .i64 c] w fun e w' => e = .returned (.bool d) ∧ w' = w := by
  rw [← h]; exact (l01In a b c w).mono fun e w' ⟨h1, h2⟩ => ⟨h1, h2.symm⟩
set_option maxHeartbeats 400000 in
theorem nodeFree (v : Value) (D : NM) (w : World) (h : ReadsN w v D) :
    Calls Tryz.prog 160 #[v] w fun e w' => e = .returned (.bool (freeB D)) ∧ Below w.heap.size w w' := by
  obtain ⟨a1, c1, a2, c2, a3, c3, rfl, s1, s2, s3⟩ := h
  obtain ⟨bb, hbb⟩ : ∃ bb, freeB D = bb := ⟨_, rfl⟩
  have HBB : Hid (freeB D = bb) := hbb
  rw [hbb]
  obtain ⟨n1, hn1⟩ : ∃ n, D.P.length = n := ⟨_, rfl⟩
  obtain ⟨n2, hn2⟩ : ∃ n, D.L.length = n := ⟨_, rfl⟩
  obtain ⟨n3, hn3⟩ : ∃ n, D.K.length = n := ⟨_, rfl⟩
  obtain ⟨A, hA⟩ : ∃ A, D.A = A := ⟨_, rfl⟩
  have HF : Hid (bb = decide (A = false ∧ n1 = 0 ∧ n2 = 0 ∧ n3 = 0)) := by show bb = _; rw [← hbb, ← hn1, ← hn2, ← hn3, ← hA]; rfl
  rw [hn1, hn2, hn3, hA]
  clear s1 s2 s3 hn1 hn2 hn3 hA hbb HBB
  cases A with
  | true =>
    have F : Hid (bb = false) := by show bb = false; rw [HF.out]; simp
    clear HF
    go_enter Tryz.func160, Tryz.ntmps160
    go_wp2_with fail
    go_ret
    exact ⟨ret_bool F.out.symm, (Below.refl _ _).alloc (Nat.le_refl _) _⟩
  | false =>
    by_cases t1 : n1 = 0
    case neg =>
      have F : Hid (bb = false) := by show bb = false; rw [HF.out]; simp [t1]
      have t1' : ((n1 : Int) == 0) = false := by simp; omega
      clear HF t1
      go_enter Tryz.func160, Tryz.ntmps160
      go_wp2_with fail
      go_ret
      exact ⟨ret_bool F.out.symm, (Below.refl _ _).alloc (Nat.le_refl _) _⟩
    by_cases t2 : n2 = 0
    case neg =>
      have F : Hid (bb = false) := by show bb = false; rw [HF.out]; simp [t2]
      have t2' : ((n2 : Int) == 0) = false := by simp; omega
      subst t1
      clear HF t2
      go_enter Tryz.func160, Tryz.ntmps160
      go_wp2_with fail
      go_ret
      exact ⟨ret_bool F.out.symm, (Below.refl _ _).alloc (Nat.le_refl _) _⟩
    by_cases t3 : n3 = 0
    case neg =>
      have F : Hid (bb = false) := by show bb = false; rw [HF.out]; simp [t3]
      have t3' : ((n3 : Int) == 0) = false := by simp; omega
      subst t1 t2
      clear HF t3
      go_enter Tryz.func160, Tryz.ntmps160
      go_wp2_with fail
      go_ret
      exact ⟨ret_bool F.out.symm, (Below.refl _ _).alloc (Nat.le_refl _) _⟩
    have F : Hid (bb = true) := by show bb = true; rw [HF.out]; simp [t1, t2, t3]
    subst t1 t2 t3
    clear HF
    go_enter Tryz.func160, Tryz.ntmps160
    go_wp2_with fail
    go_ret
    exact ⟨ret_bool F.out.symm, (Below.refl _ _).alloc (Nat.le_refl _) _⟩
set_option maxHeartbeats 400000 in
theorem l03Free (v : Value) (D : NM) (w : World) (h : ReadsN w v D) :
    Calls Tryz.prog 85 #[v] w fun e w' => e = .returned (.bool (freeB D)) ∧ Below w.heap.size w w' := by
  obtain ⟨a1, c1, a2, c2, a3, c3, rfl, s1, s2, s3⟩ := h
  obtain ⟨bb, hbb⟩ : ∃ bb, freeB D = bb := ⟨_, rfl⟩
  have HBB : Hid (freeB D = bb) := hbb
  rw [hbb]
  obtain ⟨n1, hn1⟩ : ∃ n, D.P.length = n := ⟨_, rfl⟩
  obtain ⟨n2, hn2⟩ : ∃ n, D.L.length = n := ⟨_, rfl⟩
  obtain ⟨n3, hn3⟩ : ∃ n, D.K.length = n := ⟨_, rfl⟩
  obtain ⟨A, hA⟩ : ∃ A, D.A = A := ⟨_, rfl⟩
  have HF : Hid (bb = decide (A = false ∧ n1 = 0 ∧ n2 = 0 ∧ n3 = 0)) := by show bb = _; rw [← hbb, ← hn1, ← hn2, ← hn3, ← hA]; rfl
  rw [hn1, hn2, hn3, hA]
  clear s1 s2 s3 hn1 hn2 hn3 hA hbb HBB
  cases A with
  | true =>
    have F : Hid (bb = false) := by show bb = false; rw [HF.out]; simp
    clear HF
    go_enter Tryz.func85, Tryz.ntmps85
    go_wp2_with fail
    go_ret
    exact ⟨ret_bool F.out.symm, (Below.refl _ _).alloc (Nat.le_refl _) _⟩
  | false =>
    by_cases t1 : n1 = 0
    case neg =>
      have F : Hid (bb = false) := by show bb = false; rw [HF.out]; simp [t1]
      have t1' : ((n1 : Int) == 0) = false := by simp; omega
      clear HF t1
      go_enter Tryz.func85, Tryz.ntmps85
      go_wp2_with fail
      go_ret
      exact ⟨ret_bool F.out.symm, (Below.refl _ _).alloc (Nat.le_refl _) _⟩
    by_cases t2 : n2 = 0
    case neg =>
      have F : Hid (bb = false) := by show bb = false; rw [HF.out]; simp [t2]
      have t2' : ((n2 : Int) == 0) = false := by simp; omega
      subst t1
      clear HF t2
      go_enter Tryz.func85, Tryz.ntmps85
      go_wp2_with fail
      go_ret
      exact ⟨ret_bool F.out.symm, (Below.refl _ _).alloc (Nat.le_refl _) _⟩
    by_cases t3 : n3 = 0
    case neg =>
      have F : Hid (bb = false) := by show bb = false; rw [HF.out]; simp [t3]
      have t3' : ((n3 : Int) == 0) = false := by simp; omega
      subst t1 t2
      clear HF t3
      go_enter Tryz.func85, Tryz.ntmps85
      go_wp2_with fail
      go_ret
      exact ⟨ret_bool F.out.symm, (Below.refl _ _).alloc (Nat.le_refl _) _⟩
    have F : Hid (bb = true) := by show bb = true; rw [HF.out]; simp [t1, t2, t3]
    subst t1 t2 t3
    clear HF
    go_enter Tryz.func85, Tryz.ntmps85
    go_wp2_with fail
    go_ret
    exact ⟨ret_bool F.out.symm, (Below.refl _ _).alloc (Nat.le_refl _) _⟩
structure St where
  R : List Bool
  P : List PM
def nd (H : List NM) (q : Int) : NM := H.getD q.toNat nm0
def leastM (H : List NM) : Nat → Int → ByteArray
  | 0, _ => e0
  | d + 1, q => match (nd H q).K with
    | [] => ((nd H q).P.getD 0 p0).1
    | k :: _ => leastM H d k
def kidsF (g : Int → St → Option St) (l : Int → ByteArray) : List Int → List ByteArray → St → Option St
  | k :: K, y :: L, st => match g k st with
    | none => none
    | some st' => if l k = y then kidsF g l K L st' else none
  | _, _, st => some st
def badN (D : NM) : Bool := freeB D || !okB D
def growF (H : List NM) : Nat → Int → St → Option St
  | 0, _, _ => none
  | d + 1, q, st => if pageB q = false then none else if st.R.getD q.toNat false = true then none else if badN (nd H q) = true then none else
    kidsF (growF H d) (leastM H d) (nd H q).K (nd H q).L ⟨st.R.set q.toNat true, st.P ++ (nd H q).P⟩
theorem grow_page {H : List NM} {d : Nat} {q : Int} {st : St} (h : pageB q = false) : growF H d q st = none := by
  cases d with
  | zero => rfl
  | succ d => rw [growF, if_pos h]
theorem grow_seen {H : List NM} {d : Nat} {q : Int} {st : St} (h : st.R.getD q.toNat false = true) : growF H d q st = none := by
  cases d with
  | zero => rfl
  | succ d =>
    rw [growF]
    by_cases h1 : pageB q = false
    · rw [if_pos h1]
    · rw [if_neg h1, if_pos h]
theorem grow_bad {H : List NM} {d : Nat} {q : Int} {st : St} (h : badN (nd H q) = true) : growF H d q st = none := by
  cases d with
  | zero => rfl
  | succ d =>
    rw [growF]
    by_cases h1 : pageB q = false
    · rw [if_pos h1]
    · rw [if_neg h1]
      by_cases h2 : st.R.getD q.toNat false = true
      · rw [if_pos h2]
      · rw [if_neg h2, if_pos h]
theorem grow_in {H : List NM} {d : Nat} {q : Int} {st : St} (h1 : pageB q = true) (h2 : st.R.getD q.toNat false = false) (h3 : badN (nd H q) = false) :
    growF H (d + 1) q st = kidsF (growF H d) (leastM H d) (nd H q).K (nd H q).L ⟨st.R.set q.toNat true, st.P ++ (nd H q).P⟩ := by
  rw [growF, if_neg (by rw [h1]; decide), if_neg (by rw [h2]; decide), if_neg (by rw [h3]; decide)]
theorem grow_some {H : List NM} {d : Nat} {q : Int} {st st' : St} (h : growF H d q st = some st') : ∃ d', d = d' + 1 ∧ pageB q = true ∧ st.R.getD q.toNat false = false ∧ badN (nd H q) = false ∧
    kidsF (growF H d') (leastM H d') (nd H q).K (nd H q).L ⟨st.R.set q.toNat true, st.P ++ (nd H q).P⟩ = some st' := by
  cases d with
  | zero => cases h
  | succ d =>
    have h1 : pageB q = true := by
      cases e : pageB q with
      | true => rfl
      | false => rw [grow_page e] at h; cases h
    have h2 : st.R.getD q.toNat false = false := by
      cases e : st.R.getD q.toNat false with
      | false => rfl
      | true => rw [grow_seen e] at h; cases h
    have h3 : badN (nd H q) = false := by
      cases e : badN (nd H q) with
      | false => rfl
      | true => rw [grow_bad e] at h; cases h
    rw [grow_in h1 h2 h3] at h
    exact ⟨d, rfl, h1, h2, h3, h⟩
theorem kids_cons {g : Int → St → Option St} {l : Int → ByteArray} {k : Int} {y : ByteArray} {K : List Int} {L : List ByteArray} {st st' : St} (h : g k st = some st') (hl : l k = y) : kidsF g l (k :: K) (y :: L) st = kidsF g l K L st' := by
  rw [kidsF, h]; exact if_pos hl
theorem kids_none {g : Int → St → Option St} {l : Int → ByteArray} {k : Int} {y : ByteArray} {K : List Int} {L : List ByteArray} {st : St} (h : g k st = none) : kidsF g l (k :: K) (y :: L) st = none := by
  rw [kidsF, h]
theorem kids_less {g : Int → St → Option St} {l : Int → ByteArray} {k : Int} {y : ByteArray} {K : List Int} {L : List ByteArray} {st st' : St} (h : g k st = some st') (hl : ¬ l k = y) : kidsF g l (k :: K) (y :: L) st = none := by
  rw [kidsF, h]; exact if_neg hl
theorem kids_ind {g : Int → St → Option St} {l : Int → ByteArray} (Q : St → St → Prop) (h0 : ∀ s, Q s s) (h1 : ∀ a b c, Q a b → Q b c → Q a c) (hg : ∀ k s s', g k s = some s' → Q s s') : ∀ (K : List Int) (L : List ByteArray) (s s' : St), kidsF g l K L s = some s' → Q s s'
  | [], L, s, s', h => by rw [kidsF] at h <;> first | (cases h; exact h0 _) | simp
  | k :: K, [], s, s', h => by rw [kidsF] at h <;> first | (cases h; exact h0 _) | simp
  | k :: K, y :: L, s, s', h => by
    cases hk : g k s with
    | none => rw [kids_none hk] at h; cases h
    | some s1 =>
      by_cases hl : l k = y
      · rw [kids_cons hk hl] at h
        exact h1 _ _ _ (hg k s s1 hk) (kids_ind Q h0 h1 hg K L s1 s' h)
      · rw [kids_less hk hl] at h; cases h
def cnt (R : List Bool) : Nat := R.countP id
theorem cnt_set : ∀ (R : List Bool) (i : Nat), i < R.length → R.getD i false = false → cnt (R.set i true) = cnt R + 1
  | [], i, h, _ => absurd h (by simp)
  | b :: R, 0, _, h => by
    have hb : b = false := h
    subst hb
    simp [cnt]
  | b :: R, i + 1, h, hd => by
    have := cnt_set R i (by simpa using h) hd
    unfold cnt at this ⊢
    rw [List.set_cons_succ, List.countP_cons, List.countP_cons, this]
    omega
def goodS (s : St) : Prop := s.R.length = 50 ∧ s.P.length ≤ 3 * cnt s.R
theorem good_le {s : St} (h : goodS s) : s.P.length ≤ 150 := by
  have h1 : cnt s.R ≤ s.R.length := List.countP_le_length
  have := h.1
  have := h.2
  omega
theorem ok_small {D : NM} (h : badN D = false) : D.P.length ≤ 3 ∧ D.K.length ≤ 4 ∧ D.L.length = D.K.length ∧ (D.K = [] → 1 ≤ D.P.length) ∧ (D.K ≠ [] → D.P = []) := by
  unfold badN at h
  rw [Bool.or_eq_false_iff] at h
  obtain ⟨hf, ho⟩ := h
  have ho' : okB D = true := by simpa using ho
  unfold okB at ho'
  rw [hf, Bool.false_or, Bool.or_eq_true] at ho'
  rcases ho' with h | h
  · unfold leafB at h
    rw [Bool.and_eq_true, decide_eq_true_eq] at h
    obtain ⟨⟨h1, h2, h3, h4, h5⟩, _⟩ := h
    exact ⟨h5, by omega, by omega, fun _ => h4, fun hk => absurd (List.eq_nil_of_length_eq_zero h3) hk⟩
  · unfold innerB at h
    rw [Bool.and_eq_true, decide_eq_true_eq] at h
    obtain ⟨⟨h1, h2, h3, h4, h5⟩, _⟩ := h
    exact ⟨by omega, h5, h3, fun hk => by rw [hk] at h4; simp at h4, fun _ => List.eq_nil_of_length_eq_zero h2⟩
theorem page_nat {q : Int} (h : pageB q = true) : 0 ≤ q ∧ q.toNat < 50 := by
  unfold pageB at h
  rw [decide_eq_true_eq] at h
  omega
theorem good_step {H : List NM} {s : St} {q : Int} (h : goodS s) (h1 : pageB q = true) (h2 : s.R.getD q.toNat false = false) (h3 : badN (nd H q) = false) : goodS ⟨s.R.set q.toNat true, s.P ++ (nd H q).P⟩ := by
  have hq := page_nat h1
  have hc := cnt_set s.R q.toNat (by rw [h.1]; exact hq.2) h2
  have hs := ok_small h3
  have := h.2
  refine ⟨by show (s.R.set q.toNat true).length = 50; rw [List.length_set]; exact h.1, ?_⟩
  show (s.P ++ (nd H q).P).length ≤ 3 * cnt (s.R.set q.toNat true)
  rw [List.length_append, hc]
  omega
theorem grow_good {H : List NM} : ∀ (d : Nat) (q : Int) (s s' : St), growF H d q s = some s' → goodS s → goodS s'
  | 0, q, s, s', h, _ => by cases h
  | d + 1, q, s, s', h, hg => by
    obtain ⟨d', e, h1, h2, h3, h4⟩ := grow_some h
    cases e
    exact kids_ind (fun a b => goodS a → goodS b) (fun _ h => h) (fun _ _ _ h1 h2 h => h2 (h1 h)) (fun k a b hk ha => grow_good d k a b hk ha) _ _ _ _ h4 (good_step hg h1 h2 h3)
def extS (x : ByteArray) (a b : St) : Prop := ∃ E, b.P = a.P ++ E ∧ E ≠ [] ∧ (E.getD 0 p0).1 = x
theorem kids_ext {g : Int → St → Option St} {l : Int → ByteArray} (hg : ∀ k s s', g k s = some s' → extS (l k) s s') : ∀ (k : Int) (K : List Int) (y : ByteArray) (L : List ByteArray) (s s' : St), kidsF g l (k :: K) (y :: L) s = some s' → extS (l k) s s' := by
  intro k K y L s s' h
  cases hk : g k s with
  | none => rw [kids_none hk] at h; cases h
  | some s1 =>
    by_cases hl : l k = y
    · rw [kids_cons hk hl] at h
      obtain ⟨E, e1, e2, e3⟩ := hg k s s1 hk
      obtain ⟨F, f1⟩ := kids_ind (fun a b => ∃ F, b.P = a.P ++ F) (fun a => ⟨[], by simp⟩) (fun a b c ⟨F, h1⟩ ⟨G, h2⟩ => ⟨F ++ G, by rw [h2, h1, List.append_assoc]⟩) (fun k a b hk => by obtain ⟨E, e, _⟩ := hg k a b hk; exact ⟨E, e⟩) K L s1 s' h
      refine ⟨E ++ F, by rw [f1, e1, List.append_assoc], by simp [e2], ?_⟩
      rw [← e3]
      cases E with
      | nil => exact absurd rfl e2
      | cons x E => rfl
    · rw [kids_less hk hl] at h; cases h
theorem grow_ext {H : List NM} : ∀ (d : Nat) (q : Int) (s s' : St), growF H d q s = some s' → extS (leastM H d q) s s'
  | 0, q, s, s', h => by cases h
  | d + 1, q, s, s', h => by
    obtain ⟨d', e, h1, h2, h3, h4⟩ := grow_some h
    cases e
    have hs := ok_small h3
    cases hK : (nd H q).K with
    | nil =>
      rw [hK] at h4
      have : kidsF (growF H d) (leastM H d) [] (nd H q).L ⟨s.R.set q.toNat true, s.P ++ (nd H q).P⟩ = some ⟨s.R.set q.toNat true, s.P ++ (nd H q).P⟩ := by rw [kidsF]; simp
      rw [this] at h4
      cases h4
      refine ⟨(nd H q).P, rfl, fun e => ?_, ?_⟩
      · have := hs.2.2.2.1 hK; rw [e] at this; simp at this
      · rw [leastM, hK]
    | cons k K =>
      cases hL : (nd H q).L with
      | nil => have := hs.2.2.1; rw [hK, hL] at this; simp at this
      | cons y L =>
        rw [hK, hL] at h4
        have hP : (nd H q).P = [] := hs.2.2.2.2 (by rw [hK]; simp)
        obtain ⟨E, e1, e2, e3⟩ := kids_ext (grow_ext d) k K y L _ s' h4
        refine ⟨E, by rw [e1, hP]; simp, e2, ?_⟩
        rw [e3, leastM, hK]
def fitS (s : St) : Prop := ∀ x ∈ s.P, fitB x.1 x.2 = true
theorem ok_fit {D : NM} (h : badN D = false) : ∀ x ∈ D.P, fitB x.1 x.2 = true := by
  unfold badN at h
  rw [Bool.or_eq_false_iff] at h
  obtain ⟨hf, ho⟩ := h
  have ho' : okB D = true := by simpa using ho
  unfold okB at ho'
  rw [hf, Bool.false_or, Bool.or_eq_true] at ho'
  rcases ho' with h | h
  · unfold leafB pairsB at h
    rw [Bool.and_eq_true, Bool.and_eq_true, List.all_eq_true] at h
    intro x hx
    obtain ⟨i, hi, rfl⟩ := List.getElem_of_mem hx
    have := h.2.2 i (List.mem_range.2 hi)
    unfold goodB at this
    rw [Bool.and_eq_true] at this
    have e : D.P.getD i p0 = D.P[i] := by rw [List.getD_eq_getElem?_getD, List.getElem?_eq_getElem hi]; rfl
    have h2 := this.1
    unfold fK fV at h2
    rw [e] at h2
    exact h2
  · unfold innerB at h
    rw [Bool.and_eq_true, decide_eq_true_eq] at h
    have := List.eq_nil_of_length_eq_zero h.1.2.1
    rw [this]
    intro x hx; cases hx
theorem grow_fit {H : List NM} : ∀ (d : Nat) (q : Int) (s s' : St), growF H d q s = some s' → fitS s → fitS s'
  | 0, q, s, s', h, _ => by cases h
  | d + 1, q, s, s', h, hf => by
    obtain ⟨d', e, h1, h2, h3, h4⟩ := grow_some h
    cases e
    refine kids_ind (fun a b => fitS a → fitS b) (fun _ h => h) (fun _ _ _ h1 h2 h => h2 (h1 h)) (fun k a b hk ha => grow_fit d k a b hk ha) _ _ _ _ h4 (fun x hx => ?_)
    rcases List.mem_append.1 hx with hx | hx
    · exact hf x hx
    · exact ok_fit h3 x hx
def st0 : St := ⟨List.replicate 50 false, []⟩
theorem good0 : goodS st0 := ⟨by decide, by decide⟩
def pairsOf (P : List PM) : Bool := pairsB (fK P) (fV P) P.length
def treeF (H : List NM) (root : Int) : Option St :=
  if H.length = 50 then (if root = -1 then some st0 else match growF H 21 root st0 with
    | none => none
    | some s => if pairsOf s.P = true then some s else none) else none
end Go.Proofs.YtnnimocaanofjaaGreatDoor
