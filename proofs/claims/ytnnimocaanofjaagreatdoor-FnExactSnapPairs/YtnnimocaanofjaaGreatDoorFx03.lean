/-
  Texts of the store, brought together: what the others do not hold. By an AI agent.
-/
import Derived.Test.YtnnimocaanofjaaGreatDoorSr42
import Derived.Test.YtnnimocaanofjaaGreatDoorSr41
import Derived.Test.YtnnimocaanofjaaGreatDoorSr40
import Derived.Lib.Bytealg
import Derived.Laws.Externs
import Derived.Deep.CutRange
namespace Go.Proofs.YtnnimocaanofjaaGreatDoor
set_option linter.unusedSectionVars false
variable [DecidableEq NM]
open Go.ChangeShapes Go.WideShapes Go.ChangeAt Go.RowKit Go.Deep
set_option linter.unusedVariables false
set_option linter.unusedSimpArgs false
set_option maxRecDepth 100000
theorem cmp_less : ∀ x y : List UInt8, decide (Lib.compareBytes x y < 0) = Op.bytesLess x y
  | [], [] => by simp [Lib.compareBytes, Op.bytesLess]
  | [], _ :: _ => by simp [Lib.compareBytes, Op.bytesLess]
  | _ :: _, [] => by simp [Lib.compareBytes, Op.bytesLess]
  | a :: x, b :: y => by
    have ih := cmp_less x y
    rw [Lib.compareBytes, Op.bytesLess]
    by_cases h1 : a < b
    · simp [h1]
    · by_cases h2 : b < a
      · have h3 : ¬ a = b := fun e => by subst e; exact UInt8.lt_irrefl _ h2
        simp [h1, h2, h3]
      · have h3 : a = b := by
          apply UInt8.le_antisymm
          · exact UInt8.not_lt.1 h2
          · exact UInt8.not_lt.1 h1
        subst h3
        simp [h1, ih]
theorem cmp_same : ∀ x y : List UInt8, (Lib.compareBytes x y == 0) = (x == y)
  | [], [] => by simp [Lib.compareBytes]
  | [], _ :: _ => by simp [Lib.compareBytes]
  | _ :: _, [] => by simp [Lib.compareBytes]
  | a :: x, b :: y => by
    have ih := cmp_same x y
    rw [Lib.compareBytes]
    by_cases h1 : a < b
    · have h3 : ¬ a = b := fun e => by subst e; exact UInt8.lt_irrefl _ h1
      simp [h1, h3]
    · by_cases h2 : b < a
      · have h3 : ¬ a = b := fun e => by subst e; exact UInt8.lt_irrefl _ h2
        simp [h1, h2, h3]
      · have h3 : a = b := by
          apply UInt8.le_antisymm
          · exact UInt8.not_lt.1 h2
          · exact UInt8.not_lt.1 h1
        subst h3
        simp only [h1, if_false, ih]
        simp
def cmpT (x y : ByteArray) : Int := Lib.compareBytes x.data.toList y.data.toList
theorem cmpT_less (x y : ByteArray) : decide (cmpT x y < 0) = Op.bytesLess x.toList y.toList := by
  rw [ByteArray.toList_eq, ByteArray.toList_eq]; exact cmp_less _ _
theorem cmpT_same (x y : ByteArray) : (cmpT x y == 0) = (x.toList == y.toList) := by
  rw [ByteArray.toList_eq, ByteArray.toList_eq]; exact cmp_same _ _
set_option maxHeartbeats 1000000 in
theorem compareS (a b : ByteArray) (w : World) : Calls Tryz.prog 148 #[.string a, .string b] w fun e w' => e = .returned (.int .i64 (cmpT a b)) ∧ w' = w := by
  go_enter Tryz.func148, Tryz.ntmps148
  go_wp2
  rw [run_callFunc_extern Tryz.func165 (by kernel_rfl) (by kernel_rfl) (by kernel_rfl) (e := Extern.BytealgCompare.compare) (by kernel_rfl), Lib.run_compareString]
  simp only [Result.andThen]
  rw [Oper.upon_value]
  go_wp2
  go_ret
  exact ⟨rfl, rfl⟩
set_option maxHeartbeats 1000000 in
theorem compareT (a b : ByteArray) (w : World) : Calls Tryz.prog 116 #[.string a, .string b] w fun e w' => e = .returned (.int .i64 (cmpT a b)) ∧ w' = w := by
  go_enter Tryz.func116, Tryz.ntmps116
  go_wp2_with (go_at_call 148; refine (compareS _ _ _).mono ?_; rintro e w1 ⟨rfl, rfl⟩)
  go_ret
  exact ⟨rfl, rfl⟩
set_option maxHeartbeats 1000000 in
theorem placeFn (x : ByteArray) (y z : Int) (name : ByteArray) (w : World) : Calls Tryz.prog 115 #[.agg #[.string x, .int .i64 y, .int .i64 z], .string name] w fun e w' => e = .returned (.int .i64 (cmpT x name)) ∧ Below w.heap.size w w' := by
  go_enter Tryz.func115, Tryz.ntmps115
  go_wp2_with (go_at_call 116; refine (compareT _ _ _).mono ?_; rintro e w1 ⟨rfl, rfl⟩)
  go_ret
  exact ⟨rfl, (Below.refl _ _).alloc (Nat.le_refl _) _⟩
def nameAt (S : List SN) (i : Nat) : ByteArray := (S.getD i sn0).1
def rises (S : List SN) : Prop := ∀ i j, i < j → j < S.length → Op.bytesLess (nameAt S i).toList (nameAt S j).toList = true
theorem bl_irr : ∀ x : List UInt8, Op.bytesLess x x = false
  | [] => rfl
  | a :: x => by simp [Op.bytesLess, bl_irr x]
theorem bl_trn : ∀ x y z : List UInt8, Op.bytesLess x y = true → Op.bytesLess y z = true → Op.bytesLess x z = true
  | _, [], _, h, _ => by simp [Op.bytesLess] at h
  | [], _ :: _, [], _, h => by simp [Op.bytesLess] at h
  | [], _ :: _, _ :: _, _, _ => rfl
  | _ :: _, _ :: _, [], _, h => by simp [Op.bytesLess] at h
  | a :: x, b :: y, c :: z, h1, h2 => by
    simp only [Op.bytesLess, Bool.or_eq_true, decide_eq_true_eq, Bool.and_eq_true, beq_iff_eq] at h1 h2 ⊢
    rcases h1 with h1 | ⟨rfl, h1⟩
    · rcases h2 with h2 | ⟨rfl, h2⟩
      · exact .inl (UInt8.lt_trans h1 h2)
      · exact .inl h1
    · rcases h2 with h2 | ⟨rfl, h2⟩
      · exact .inl h2
      · exact .inr ⟨rfl, bl_trn x y z h1 h2⟩
theorem okU_rises {U : UM} (h : okU U = true) : rises U.S := by
  unfold okU at h
  simp only [Bool.and_eq_true] at h
  have h9 := h.2
  unfold snapsB at h9
  rw [List.all_eq_true] at h9
  have step : ∀ j, j + 1 < U.S.length → Op.bytesLess (nameAt U.S j).toList (nameAt U.S (j + 1)).toList = true := fun j hj => by
    have h8 := h9 (j + 1) (List.mem_range.2 hj)
    unfold snapB upN at h8
    simp only [Bool.and_eq_true, Bool.or_eq_true, decide_eq_true_eq] at h8
    rcases h8.2 with e | e
    · omega
    · exact e
  intro i j hij hj
  obtain ⟨d, rfl⟩ : ∃ d, j = i + 1 + d := ⟨j - i - 1, by omega⟩
  clear hij
  induction d with
  | zero => exact step i hj
  | succ d ih =>
    have h1 := ih (by omega)
    exact bl_trn _ _ _ h1 (step (i + 1 + d) (by omega))
def placed (S : List SN) (name : ByteArray) (p : Nat) (b : Bool) : Prop := p ≤ S.length ∧ (b = true → p < S.length ∧ nameAt S p = name) ∧ (b = false → ∀ j, j < S.length → nameAt S j ≠ name)
set_option maxHeartbeats 4000000 in
theorem bsSnap (a : Option Addr) (n c : Nat) (S : List SN) (name : ByteArray) (w : World) (hn : S.length = n) (h4 : n ≤ 4) (hr : rises S) (h : Src w a (cellsSn S)) :
    Calls Tryz.prog 114 #[.slice a n c, .string name, .func (.func 115) #[] #[]] w fun e w' => ∃ p b, e = .returned (.tuple #[.int .i64 ((p : Nat) : Int), .bool b]) ∧ placed S name p b ∧ Below w.heap.size w w' := by
  have HS : Hid (Src w a (cellsSn S)) := h
  have HN : Hid (S.length = n) := hn
  have HR : Hid (rises S) := hr
  clear h hn hr
  go_enter Tryz.func114, Tryz.ntmps114
  go_wp2_with fail
  go_loopw [9, 10] (fun vi vj wr => ∃ i j : Nat, i ≤ j ∧ j ≤ n ∧ vi = .int .i64 i ∧ vj = .int .i64 j ∧ Hid (∀ t, t < i → Op.bytesLess (nameAt S t).toList name.toList = true) ∧ Hid (∀ t, j ≤ t → t < n → Op.bytesLess (nameAt S t).toList name.toList = false) ∧ Hid (Below w.heap.size w wr)) (fun vi vj _ => (intOf vj).toNat - (intOf vi).toNat)
  case atStart => exact ⟨0, n, by omega, by omega, rfl, rfl, fun t ht => absurd ht (by omega), fun t h1 h2 => absurd h1 (by omega), Below.refl _ _⟩
  case round =>
    obtain ⟨i, j, hij, hjn, rfl, rfl, hlo, hhi, hb⟩ := hrel
    by_cases hlt : i < j
    · have hlti : (i : Int) < (j : Int) := by omega
      go_upto_region 5 with (fail)
      obtain ⟨q, hq⟩ : ∃ q : Nat, ((i : Int) + (j : Int)) / 2 = (q : Int) := ⟨(i + j) / 2, by omega⟩
      have hq1 : i ≤ q := by omega
      have hq2 : q < j := by omega
      rw [hq]
      clear hq
      obtain ⟨bk, o, x, y, z, rfl, c1, c2, c3, hy⟩ := srcSn (HS.out.below hb.out) (i := q) (by rw [HN.out]; omega)
      have hqi : (q : Int) < (n : Int) := by omega
      have hq0 : (0 : Int) ≤ (q : Int) := by omega
      have HX : Hid (nameAt S q = x) := by show (S.getD q sn0).1 = x; rw [hy.out]
      obtain ⟨bl, hbl⟩ : ∃ bl, Op.bytesLess x.toList name.toList = bl := ⟨_, rfl⟩
      have HL : Hid (Op.bytesLess (nameAt S q).toList name.toList = bl) := by show _ = _; rw [HX.out]; exact hbl
      obtain ⟨cv, hcv⟩ : ∃ cv, cmpT x name = cv := ⟨_, rfl⟩
      have hdc : decide (cv < 0) = bl := by rw [← hcv, cmpT_less]; exact hbl
      have HCV : Hid (cmpT x name = cv) := hcv
      clear hbl hcv
      cases bl with
      | true =>
        have hcl : cv < 0 := by simpa using hdc
        have LO : Hid (∀ t, t < q + 1 → Op.bytesLess (nameAt S t).toList name.toList = true) := fun t ht => by
          by_cases e : t = q
          · rw [e]; exact HL.out
          · exact bl_trn _ _ _ (HR.out t q (by omega) (by rw [HN.out]; omega)) HL.out
        clear hdc
        go_wp2_with (go_at_call 115; refine (placeFn x y z name _).mono ?_; rw [HCV.out]; rintro e w1 ⟨rfl, hb1⟩; have B1 : Hid (Below w.heap.size w w1) := hb.out.trans (hb1.mono hb.out.size); clear hb1)
        exact ⟨⟨q + 1, j, by omega, by omega, by go_num, rfl, LO, hhi, B1⟩, by simp [intOf]; omega⟩
      | false =>
        have hcl : ¬ cv < 0 := by simpa using hdc
        have HI : Hid (∀ t, q ≤ t → t < n → Op.bytesLess (nameAt S t).toList name.toList = false) := fun t h1 h2 => by
          by_cases e : t = q
          · rw [e]; exact HL.out
          · cases e9 : Op.bytesLess (nameAt S t).toList name.toList with
            | false => rfl
            | true =>
              have h8 := bl_trn _ _ _ (HR.out q t (by omega) (by rw [HN.out]; exact h2)) e9
              rw [HL.out] at h8; cases h8
        clear hdc
        go_wp2_with (go_at_call 115; refine (placeFn x y z name _).mono ?_; rw [HCV.out]; rintro e w1 ⟨rfl, hb1⟩; have B1 : Hid (Below w.heap.size w w1) := hb.out.trans (hb1.mono hb.out.size); clear hb1)
        exact ⟨⟨i, q, by omega, by omega, rfl, rfl, hlo, HI, B1⟩, by simp [intOf]; omega⟩
    · have hije : i = j := by omega
      subst hije
      have hlti : ¬ (i : Int) < (i : Int) := by omega
      by_cases hin : i < n
      · obtain ⟨bk, o, x, y, z, rfl, c1, c2, c3, hy⟩ := srcSn (HS.out.below hb.out) (i := i) (by rw [HN.out]; omega)
        have hqi : (i : Int) < (n : Int) := by omega
        have hq0 : (0 : Int) ≤ (i : Int) := by omega
        have HX : Hid (nameAt S i = x) := by show (S.getD i sn0).1 = x; rw [hy.out]
        obtain ⟨bl, hbl⟩ : ∃ bl, (x.toList == name.toList) = bl := ⟨_, rfl⟩
        have HL : Hid ((x.toList == name.toList) = bl) := hbl
        obtain ⟨cv, hcv⟩ : ∃ cv, cmpT x name = cv := ⟨_, rfl⟩
        have hdc : (cv == 0) = bl := by rw [← hcv, cmpT_same]; exact hbl
        have HCV : Hid (cmpT x name = cv) := hcv
        have PL : Hid (placed S name i bl) := by
          refine ⟨by rw [HN.out]; omega, fun e => ⟨by rw [HN.out]; exact hin, ?_⟩, fun e t ht hne => ?_⟩
          · rw [HX.out]
            exact toList_injE (by have h9 := HL.out; rw [e] at h9; simpa using h9)
          · rw [HN.out] at ht
            rcases Nat.lt_trichotomy t i with h1 | h1 | h1
            · have h9 := hlo.out t h1
              rw [hne, bl_irr] at h9
              cases h9
            · rw [h1, HX.out] at hne
              have h9 := HL.out
              rw [e, hne] at h9
              simp at h9
            · have h8 := HR.out i t h1 (by rw [HN.out]; exact ht)
              rw [hne] at h8
              have h9 := hhi.out i (Nat.le_refl _) hin
              rw [h9] at h8
              cases h8
        clear hbl hcv
        cases bl with
        | true =>
          have hc0 : cv = 0 := by simpa using hdc
          subst hc0
          clear hdc
          go_wp2_with (go_at_call 115; refine (placeFn x y z name _).mono ?_; rw [HCV.out]; rintro e w1 ⟨rfl, hb1⟩; have B1 : Hid (Below w.heap.size w w1) := hb.out.trans (hb1.mono hb.out.size); clear hb1)
          go_ret2
          exact ⟨i, _, rfl, PL.out, B1.out⟩
        | false =>
          go_wp2_with (go_at_call 115; refine (placeFn x y z name _).mono ?_; rw [HCV.out]; rintro e w1 ⟨rfl, hb1⟩; have B1 : Hid (Below w.heap.size w w1) := hb.out.trans (hb1.mono hb.out.size); clear hb1)
          go_ret2
          exact ⟨i, _, rfl, PL.out, B1.out⟩
      · obtain rfl : i = n := by omega
        have hqi : decide (i < i) = false := by simp
        have PL : Hid (placed S name i false) := by
          refine ⟨by rw [HN.out]; omega, fun e => (by cases e), fun _ t ht hne => ?_⟩
          rw [HN.out] at ht
          have h9 := hlo.out t (by omega)
          rw [hne, bl_irr] at h9
          cases h9
        go_wp2_with fail
        go_ret2
        exact ⟨i, .inl ⟨rfl, PL.out, hb.out⟩⟩
def findN (S : List SN) (name : ByteArray) : Option Nat := (List.range S.length).find? fun i => (nameAt S i).toList == name.toList
theorem find_some {S : List SN} {name : ByteArray} {p : Nat} (hp : p < S.length) (h : nameAt S p = name) (hn : ∀ j, j < p → nameAt S j ≠ name) : findN S name = some p := by
  unfold findN
  rw [List.find?_range_eq_some]
  refine ⟨by rw [h]; simp, List.mem_range.2 hp, fun j hj => ?_⟩
  cases e : (nameAt S j).toList == name.toList with
  | false => rfl
  | true => exact absurd (toList_injE (by simpa using e)) (hn j hj)
theorem find_none {S : List SN} {name : ByteArray} (hn : ∀ j, j < S.length → nameAt S j ≠ name) : findN S name = none := by
  unfold findN
  rw [List.find?_eq_none]
  intro j hj
  rw [List.mem_range] at hj
  intro e
  exact hn j hj (toList_injE (by simpa using e))
theorem placed_find {S : List SN} {name : ByteArray} {p : Nat} {b : Bool} (hr : rises S) (h : placed S name p b) : (b = true ∧ p < S.length ∧ findN S name = some p) ∨ (b = false ∧ findN S name = none) := by
  cases b with
  | true =>
    obtain ⟨h1, h2⟩ := h.2.1 rfl
    refine .inl ⟨rfl, h1, find_some h1 h2 (fun j hj e => ?_)⟩
    have h9 := hr j p hj h1
    rw [e, h2, bl_irr] at h9
    cases h9
  | false => exact .inr ⟨rfl, find_none (h.2.2 rfl)⟩
def snF (U : UM) (H : List NM) : Option Nat → List PM × Int
  | none => ([], 5)
  | some i => pairsA H (U.S.getD i sn0).2.1
def snA (D : DM) (U : UM) (H : List NM) (name : ByteArray) : List PM × Int := if 65536 < name.size then ([], 2) else if storeB D U H = true then snF U H (findN U.S name) else ([], 1)
theorem all_each {H : List NM} : ∀ (L : List Int) (A0 A : List Bool), allF H L A0 = some A → ∀ r ∈ L, ∃ s, treeF H r = some s
  | [], _, _, _, r, hr => by cases hr
  | q :: L, A0, A, h, r, hr => by
    obtain ⟨s, hs, h2⟩ := all_cons h
    rcases List.mem_cons.1 hr with rfl | hr
    · exact ⟨s, hs⟩
    · exact all_each L _ _ h2 r hr
theorem snap_tree {D : DM} {U : UM} {H : List NM} (h : storeB D U H = true) {i : Nat} (hi : i < U.S.length) : ∃ s, treeF H (U.S.getD i sn0).2.1 = some s := by
  obtain ⟨A, _, _, _, _, h9, _⟩ := store_true h
  refine all_each _ _ _ h9 _ ?_
  unfold rootsU
  refine List.mem_cons_of_mem _ (List.mem_map.2 ⟨U.S[i], List.getElem_mem hi, ?_⟩)
  rw [List.getD_eq_getElem?_getD, List.getElem?_eq_getElem hi]
  rfl
set_option maxHeartbeats 2000000 in
theorem snapPlaceI (g r : Int) (a : Option Addr) (n c : Nat) (U : UM) (name : ByteArray) (w : World) (hn : U.S.length = n) (h4 : n ≤ 4) (hr : rises U.S) (h : Src w a (cellsSn U.S)) :
    Calls Tryz.prog 74 #[.agg #[.int .i64 g, .int .i64 r, .slice a n c], .string name] w fun e w' => ∃ (p : Nat) (v : Value), e = .returned (.tuple #[.int .i64 (p : Int), v]) ∧ ((v = .bool true ∧ p < n ∧ findN U.S name = some p) ∨ (v = .bool false ∧ findN U.S name = none)) ∧ Below w.heap.size w w' := by
  have HI : Hid (U.S.length = n ∧ rises U.S ∧ Src w a (cellsSn U.S)) := ⟨hn, hr, h⟩
  clear hn hr h
  go_enter Tryz.func74, Tryz.ntmps74
  go_wp2_with fail
  refine (bsSnap a n c U.S name _ HI.out.1 h4 HI.out.2.1 (HI.out.2.2.below ((Below.refl _ _).alloc (Nat.le_refl _) _))).mono ?_
  rintro e w1 ⟨p, b, rfl, hp, hb1⟩
  have HP := placed_find HI.out.2.1 hp
  rw [HI.out.1] at HP
  have HQ : Hid ((b = true ∧ p < n ∧ findN U.S name = some p) ∨ (b = false ∧ findN U.S name = none)) := HP
  have B1 : Hid (Below w.heap.size w w1) := Below.new hb1
  clear hp hb1 HP
  go_wp2_with fail
  go_ret2
  refine ⟨p, .bool b, rfl, ?_, B1.out⟩
  rcases HQ.out with ⟨h1, h2, h3⟩ | ⟨h1, h2⟩
  · exact .inl ⟨by rw [h1], h2, h3⟩
  · exact .inr ⟨by rw [h1], h2⟩
set_option maxHeartbeats 2000000 in
theorem l05FindS (g r : Int) (a : Option Addr) (n c : Nat) (U : UM) (name : ByteArray) (w : World) (hn : U.S.length = n) (h4 : n ≤ 1048576) (h : Src w a (cellsSn U.S)) :
    Calls Tryz.prog 71 #[.agg #[.int .i64 g, .int .i64 r, .slice a n c], .string name] w fun e w' => ∃ q : Int, e = .returned (.int .i64 q) ∧ ((∃ p : Nat, q = (p : Int) ∧ p < n ∧ findN U.S name = some p) ∨ (q = -1 ∧ findN U.S name = none)) ∧ Below w.heap.size w w' := by
  have HI : Hid (U.S.length = n ∧ Src w a (cellsSn U.S)) := ⟨hn, h⟩
  clear hn h
  have A0 : Hid (Below w.heap.size w (w.alloc (.cells #[.int .i64 g, .int .i64 r, .slice a n c] 42))) := (Below.refl _ _).alloc (Nat.le_refl _) _
  go_enter Tryz.func71, Tryz.ntmps71
  go_wp2_with fail
  go_loopw [5] (fun i wr => ∃ k : Nat, k ≤ n ∧ i = .int .i64 k ∧ Hid (∀ j, j < k → nameAt U.S j ≠ name) ∧ Hid (Below w.heap.size w wr) ∧ Hid (Box wr w.heap.size [.int .i64 g, .int .i64 r, .slice a n c])) (fun i _ => n - (intOf i).toNat)
  case atStart => exact ⟨0, by omega, rfl, fun j hj => absurd hj (by omega), A0.out, Box.new rfl⟩
  case round =>
    obtain ⟨k, hk, rfl, hg, hb, hx⟩ := hrel
    obtain ⟨x2, _⟩ := hx.out 2 _ rfl
    by_cases hlt : k < n
    · obtain ⟨bk, o, x, y, z, rfl, c1, c2, c3, hy⟩ := srcSn (HI.out.2.below hb.out) (i := k) (by rw [HI.out.1]; exact hlt)
      have hki : (k : Int) < (n : Int) := by omega
      have hk0 : (0 : Int) ≤ (k : Int) := by omega
      have HX : Hid (nameAt U.S k = x) := by show (U.S.getD k sn0).1 = x; rw [hy.out]
      cases he : x.toList == name.toList with
      | true =>
        have F : Hid (findN U.S name = some k) := find_some (by rw [HI.out.1]; exact hlt) (by rw [HX.out]; exact toList_injE (by simpa using he)) hg.out
        have he2 : x.toList = name.toList := by simpa using he
        clear hg
        go_wp2_with fail
        go_ret
        exact ⟨(k : Int), rfl, .inl ⟨k, rfl, hlt, F.out⟩, hb.out⟩
      | false =>
        have G : Hid (nameAt U.S k ≠ name) := by
          show _ ≠ _
          rw [HX.out]
          intro e
          rw [e] at he
          simp at he
        go_wp2_with fail
        exact ⟨⟨k + 1, by omega, by go_num, fun j hj => by
          by_cases e : j = k
          · rw [e]; exact G.out
          · exact hg.out j (by omega), hb, hx⟩, by simp [intOf]; omega⟩
    · have F : Hid (findN U.S name = none) := find_none (fun j hj => hg.out j (by rw [HI.out.1] at hj; omega))
      have hki : ¬ (k : Int) < (n : Int) := by omega
      go_wp2_with fail
      go_ret
      exact ⟨-1, rfl, .inr ⟨rfl, F.out⟩, hb.out⟩
set_option maxHeartbeats 1200000 in
theorem volumeForI (a1 a2 a3 sa ha : Option Addr) (n1 c1 n2 c2 n3 c3 k sc m hc : Nat) (AA : Bool) (G' R' : Int) (D : DM) (U : UM) (H : List NM) (w : World) (name : ByteArray) (hnm : name.size ≤ 1048576) (hH : HasHalf w) (h : StoreIn w a1 a2 a3 sa ha n1 c1 n2 c2 n3 c3 k sc m hc AA G' R' D U H) :
    Calls Tryz.prog 73 #[.agg #[.slice a1 n1 c1, .slice a2 n2 c2, .bool AA, .slice a3 n3 c3, .int .i64 G', .int .i64 R', .slice sa k sc, .slice ha m hc], .string name] w fun e w' => Below w.heap.size w w' ∧ ((65536 < name.size ∧ e = .returned (.tuple #[.pointer none, .int .i64 2])) ∨ (¬ 65536 < name.size ∧ storeB D U H = false ∧ e = .returned (.tuple #[.pointer none, .int .i64 1])) ∨ (¬ 65536 < name.size ∧ storeB D U H = true ∧ ∃ B A, e = .returned (.tuple #[.pointer (some ⟨B, 0, none⟩), .int .i64 0]) ∧ openM D = (0, some (U, A)) ∧ OpenAt w' w.heap.size B (.slice a1 n1 c1) (.slice a2 n2 c2) (.bool AA) (.slice a3 n3 c3) D U A)) := by
  have HI : Hid (StoreIn w a1 a2 a3 sa ha n1 c1 n2 c2 n3 c3 k sc m hc AA G' R' D U H ∧ HasHalf w) := ⟨h, hH⟩
  clear h hH
  have A0 : Hid (∀ o, Below w.heap.size w (w.alloc o)) := fun o => (Below.refl _ _).alloc (Nat.le_refl _) _
  have h9 := HI.out.1.below (A0.out (.cells #[.slice a1 n1 c1, .slice a2 n2 c2, .bool AA, .slice a3 n3 c3, .int .i64 G', .int .i64 R', .slice sa k sc, .slice ha m hc] 47))
  have HJ : Hid (StoreIn (w.alloc (.cells #[.slice a1 n1 c1, .slice a2 n2 c2, .bool AA, .slice a3 n3 c3, .int .i64 G', .int .i64 R', .slice sa k sc, .slice ha m hc] 47)) a1 a2 a3 sa ha n1 c1 n2 c2 n3 c3 k sc m hc AA G' R' D U H) := h9
  clear h9
  by_cases hbig : (65536 : Int) < (name.size : Int)
  · have hb2 : Hid (65536 < name.size) := by show _ < _; omega
    go_enter Tryz.func73, Tryz.ntmps73
    go_wp2_with fail
    go_ret2
    exact ⟨A0.out _, .inl ⟨hb2.out, rfl⟩⟩
  have NB : Hid (¬ 65536 < name.size) := by show ¬ _; omega
  go_enter Tryz.func73, Tryz.ntmps73
  go_wp2_with fail
  refine (volumeOfI a1 a2 a3 sa ha n1 c1 n2 c2 n3 c3 k sc m hc AA G' R' D U H _ HJ.out.small HJ.out.lens HJ.out.cap HJ.out.disk HJ.out.secs (HI.out.2.below (A0.out _)) HJ.out.sup HJ.out.snaps HJ.out.nodes HJ.out.nlens HJ.out.heap).mono ?_
  rintro e w1 ⟨p, b, rfl, hb0, hb1, hopen⟩
  have B1 : Hid (Below w.heap.size w w1) := Below.new hb1
  clear hb1
  cases b with
  | false =>
    have F : Hid (storeB D U H = false) := hb0
    clear hopen hb0
    dsimp only
    go_wp2_with fail
    go_ret2
    exact ⟨B1.out, .inr (.inl ⟨NB.out, F.out, rfl⟩)⟩
  | true =>
    obtain ⟨B, X, A, rfl, ho, hat⟩ := hopen rfl
    obtain ⟨A', _, _, _, _, _, _, ho'⟩ := store_true hb0
    rw [ho] at ho'
    simp only [Prod.mk.injEq, Option.some.injEq, true_and] at ho'
    obtain ⟨rfl, rfl⟩ := ho'
    have F : Hid (storeB D X H = true ∧ openM D = (0, some (X, A))) := ⟨hb0, ho⟩
    have OA : Hid (OpenAt w1 w.heap.size B (.slice a1 n1 c1) (.slice a2 n2 c2) (.bool AA) (.slice a3 n3 c3) D X A) := by
      obtain ⟨g, r, na, nk, nc, u, t1, t2, t3, t4, t5⟩ := hat
      have h9 : (w.alloc (.cells #[.slice a1 n1 c1, .slice a2 n2 c2, .bool AA, .slice a3 n3 c3, .int .i64 G', .int .i64 R', .slice sa k sc, .slice ha m hc] 47)).heap.size = w.heap.size + 1 := by simp
      rw [h9] at t2 t5
      exact ⟨g, r, na, nk, nc, u, t1, t2.mono (by omega) (Nat.le_refl _), t3, t4, by omega⟩
    clear hat ho hopen hb0
    dsimp only
    go_wp2_with fail
    go_ret2
    exact ⟨B1.out, .inr (.inr ⟨NB.out, F.out.1, B, A, rfl, F.out.2, OA.out⟩)⟩
set_option maxHeartbeats 1200000 in
theorem implSnapPairs (a1 a2 a3 sa ha : Option Addr) (n1 c1 n2 c2 n3 c3 k sc m hc : Nat) (AA : Bool) (G' R' : Int) (D : DM) (U : UM) (H : List NM) (w : World) (name : ByteArray) (hnm : name.size ≤ 1048576) (hH : HasHalf w) (hsm : smallH H) (h : StoreIn w a1 a2 a3 sa ha n1 c1 n2 c2 n3 c3 k sc m hc AA G' R' D U H) :
    Calls Tryz.prog 29 #[.agg #[.slice a1 n1 c1, .slice a2 n2 c2, .bool AA, .slice a3 n3 c3, .int .i64 G', .int .i64 R', .slice sa k sc, .slice ha m hc], .string name] w fun e w' => ∃ u R q, e = .returned (.tuple #[u, .int .i64 q]) ∧ snA D U H name = (R, q) ∧ w'.ownsRow w.heap.size 109 2 u R.length (cellsP R) ∧ R.length ≤ 150 ∧ Below w.heap.size w w' := by
  have HI : Hid (StoreIn w a1 a2 a3 sa ha n1 c1 n2 c2 n3 c3 k sc m hc AA G' R' D U H ∧ HasHalf w ∧ smallH H) := ⟨h, hH, hsm⟩
  clear h hH hsm
  have A0 : Hid (∀ o, Below w.heap.size w (w.alloc o)) := fun o => (Below.refl _ _).alloc (Nat.le_refl _) _
  go_enter Tryz.func29, Tryz.ntmps29
  go_wp2_with fail
  refine (volumeForI a1 a2 a3 sa ha n1 c1 n2 c2 n3 c3 k sc m hc AA G' R' D U H _ name hnm (HI.out.2.1.below (A0.out _)) (HI.out.1.below (A0.out _))).mono ?_
  rintro e w1 ⟨hb1, hcase⟩
  have B1 : Hid (Below w.heap.size w w1) := Below.new hb1
  clear hb1
  rcases hcase with ⟨hbig, rfl⟩ | ⟨hbig, hst, rfl⟩ | ⟨hbig, hst, B, A, rfl, ho, hat⟩
  · have F : Hid (snA D U H name = ([], 2)) := by show _ = _; unfold snA; rw [if_pos hbig]
    clear hbig
    dsimp only
    go_wp2_with fail
    go_ret2
    exact ⟨_, _, _, rfl, F.out, World.ownsRow_nil _ _ _ _, by simp, B1.out⟩
  · have F : Hid (snA D U H name = ([], 1)) := by show _ = _; unfold snA; rw [if_neg hbig, if_neg (by rw [hst]; decide)]
    clear hbig hst
    dsimp only
    go_wp2_with fail
    go_ret2
    exact ⟨_, _, _, rfl, F.out, World.ownsRow_nil _ _ _ _, by simp, B1.out⟩
  · obtain ⟨A', _, hok, _, hk', _, _, ho'⟩ := store_true hst
    rw [ho] at ho'
    simp only [Prod.mk.injEq, Option.some.injEq, true_and] at ho'
    obtain ⟨_, rfl⟩ := ho'
    have F : Hid (snA D U H name = snF U H (findN U.S name)) := by show _ = _; unfold snA; rw [if_neg hbig, if_pos hst]
    obtain ⟨g, r, na, nk, nc, u, t1, t2, t3, t4, t5⟩ := hat
    obtain ⟨ua, ud, rfl, _⟩ := t3.lit
    rw [hk'] at t3
    obtain ⟨na', nc', e9, hss⟩ := t2.reads
    simp only [Value.agg.injEq, Array.mk.injEq, List.cons.injEq, Value.int.injEq, Value.slice.injEq, true_and, and_true] at e9
    obtain ⟨hg9, hr9, rfl, hnk, rfl⟩ := e9
    clear hg9 hr9
    have hl50 : H.length = 50 := by rw [← hk']; exact keep_len _ _
    have RH : Hid (ReadsH w1 (.agg #[.slice ua 50 ud]) H) := ⟨ua, ud, by rw [hl50], t3.reads⟩
    have SS : Hid (Src w1 na (cellsSn U.S) ∧ U.S.length = nk ∧ rises U.S) := ⟨hss, hnk.symm, okU_rises hok⟩
    have nk4 : nk ≤ 4 := by rw [hnk]; exact okU_len hok
    have TB : Hid (Box w1 B ([.int .i64 g, .int .i64 r, .slice na nk nc, .slice a1 n1 c1, .slice a2 n2 c2, .bool AA, .slice a3 n3 c3, .slice ua 50 ud] ++ A.map Value.bool)) := t1
    obtain ⟨y0, _⟩ := t1 0 _ rfl
    obtain ⟨y1, _⟩ := t1 1 _ rfl
    obtain ⟨y2, _⟩ := t1 2 _ rfl
    clear t1 t2 t3 t4 t5 hl50 hk' ho hst hok hss hnk hbig
    dsimp only
    go_wp2_with fail
    refine (snapPlaceI g r na nk nc U name _ SS.out.2.1 nk4 SS.out.2.2 SS.out.1).mono ?_
    rintro e w2 ⟨p, v, rfl, hpv, hb2⟩
    have B2 : Hid (Below w.heap.size w w2) := B1.out.trans (hb2.mono B1.out.size)
    have TB2 : Hid (Box w2 B ([.int .i64 g, .int .i64 r, .slice na nk nc, .slice a1 n1 c1, .slice a2 n2 c2, .bool AA, .slice a3 n3 c3, .slice ua 50 ud] ++ A.map Value.bool)) := TB.out.below hb2
    have RH2 : Hid (ReadsH w2 (.agg #[.slice ua 50 ud]) H) := RH.out.below hb2
    have SS2 : Hid (Src w2 na (cellsSn U.S) ∧ U.S.length = nk) := ⟨SS.out.1.below hb2, SS.out.2.1⟩
    clear hb2 y0 y1 y2 TB RH SS
    rcases hpv with ⟨rfl, hpn, hf⟩ | ⟨rfl, hf⟩
    · have F2 : Hid (snA D U H name = pairsA H (U.S.getD p sn0).2.1) := by show _ = _; rw [F.out, hf]; rfl
      obtain ⟨bk, o, x, y, z, rfl, k1, k2, k3, hy⟩ := srcSn SS2.out.1 (i := p) (by rw [SS2.out.2]; exact hpn)
      have F3 : Hid (snA D U H name = pairsA H y) := by show _ = _; rw [F2.out, hy.out]
      have hpi : (p : Int) < (nk : Int) := by omega
      have hp0 : (0 : Int) ≤ (p : Int) := by omega
      obtain ⟨y2, _⟩ := TB2.out 2 _ rfl
      obtain ⟨y7, _⟩ := TB2.out 7 _ rfl
      clear hf F F2 TB2
      dsimp only
      go_wp2_with fail
      go_region_with (go_at_call 65; refine (implTreePairs _ H y _ HI.out.2.2 (RH2.out.below (Below.refl _ _).drew)).mono ?_; rintro e w3 ⟨u3, R3, q3, rfl, hp3, o3, l3, hb3⟩; obtain ⟨g3, d3, rfl, _, _⟩ := own_src o3; have O3 : Hid (w3.ownsRow w.heap.size 109 2 (.slice g3 R3.length d3) R3.length (cellsP R3) ∧ R3.length ≤ 150 ∧ pairsA H y = (R3, q3)) := ⟨own_mono o3 (by have := B2.out.size; exact this), l3, hp3⟩; have B3 : Hid (Below w.heap.size w w3) := B2.out.drew.trans (hb3.mono B2.out.size); clear o3 l3 hp3 hb3)
      all_goals
        go_wp2_with fail
        go_ret2
        exact ⟨_, _, _, rfl, F3.out.trans O3.out.2.2, O3.out.1, O3.out.2.1, B3.out⟩
    · have F2 : Hid (snA D U H name = ([], 5)) := by show _ = _; rw [F.out, hf]; rfl
      clear hf F
      dsimp only
      go_wp2_with fail
      go_ret2
      exact ⟨_, _, _, rfl, F2.out, World.ownsRow_nil _ _ _ _, by simp, B2.out⟩
set_option maxHeartbeats 1200000 in
theorem l05PairsS (a1 a2 a3 sa ha : Option Addr) (n1 c1 n2 c2 n3 c3 k sc m hc : Nat) (AA : Bool) (G' R' : Int) (D : DM) (U : UM) (H : List NM) (w : World) (p : Nat) (hp : p < k) (hsm : smallH H) (s : St) (ht : treeF H (U.S.getD p sn0).2.1 = some s) (h : StoreIn w a1 a2 a3 sa ha n1 c1 n2 c2 n3 c3 k sc m hc AA G' R' D U H) :
    Calls Tryz.prog 72 #[.agg #[.slice a1 n1 c1, .slice a2 n2 c2, .bool AA, .slice a3 n3 c3, .int .i64 G', .int .i64 R', .slice sa k sc, .slice ha m hc], .int .i64 (p : Int)] w fun e w' => ∃ u, e = .returned u ∧ w'.ownsRow w.heap.size 109 2 u s.P.length (cellsP s.P) ∧ s.P.length ≤ 150 ∧ Below w.heap.size w w' := by
  have HI : Hid (StoreIn w a1 a2 a3 sa ha n1 c1 n2 c2 n3 c3 k sc m hc AA G' R' D U H ∧ smallH H ∧ treeF H (U.S.getD p sn0).2.1 = some s) := ⟨h, hsm, ht⟩
  clear h hsm ht
  have A0 : Hid (∀ o, Below w.heap.size w (w.alloc o)) := fun o => (Below.refl _ _).alloc (Nat.le_refl _) _
  have X0 : Hid (Box (w.alloc (.cells #[.slice a1 n1 c1, .slice a2 n2 c2, .bool AA, .slice a3 n3 c3, .int .i64 G', .int .i64 R', .slice sa k sc, .slice ha m hc] 47)) w.heap.size [.slice a1 n1 c1, .slice a2 n2 c2, .bool AA, .slice a3 n3 c3, .int .i64 G', .int .i64 R', .slice sa k sc, .slice ha m hc]) := Box.new rfl
  obtain ⟨bk, o, x, y, z, rfl, k1, k2, k3, hy⟩ := srcSn (HI.out.1.snaps.below (A0.out (.cells #[.slice a1 n1 c1, .slice a2 n2 c2, .bool AA, .slice a3 n3 c3, .int .i64 G', .int .i64 R', .slice sa k sc, .slice ha m hc] 47))) (i := p) (by rw [HI.out.1.sup.2.2.1]; exact hp)
  have HT : Hid (treeF H y = some s) := by have h9 := HI.out.2.2; rw [hy.out] at h9; exact h9
  have hpi : (p : Int) < (k : Int) := by omega
  have hp0 : (0 : Int) ≤ (p : Int) := by omega
  obtain ⟨y6, _⟩ := X0.out 6 _ rfl
  obtain ⟨y7, _⟩ := X0.out 7 _ rfl
  go_enter Tryz.func72, Tryz.ntmps72
  go_wp2_with fail
  go_region_with (go_at_call 112; refine (l03Walk _ H y _ HI.out.2.1 (HI.out.1.heapH.below ((A0.out _).drew))).mono ?_; rintro e w1 ⟨hb1, (⟨hn, v1, v2, rfl⟩ | ⟨s1, v1, v2, hs, rfl, row, _, good, _⟩)⟩; (rw [HT.out] at hn; cases hn); rw [HT.out] at hs; cases hs; have B1 : Hid (Below w.heap.size w w1) := Below.trans ((A0.out _).drew) (hb1.mono (by simp)); have O1 : Hid (w1.ownsRow w.heap.size 109 2 v1 s.P.length (cellsP s.P) ∧ s.P.length ≤ 150) := ⟨own_mono row (by simp), good_le good⟩; clear hb1 row good)
  all_goals
    go_wp2_with fail
    go_ret
    exact ⟨_, rfl, O1.out.1, O1.out.2, B1.out⟩
set_option maxHeartbeats 1200000 in
theorem specSnapPairs (a1 a2 a3 sa ha : Option Addr) (n1 c1 n2 c2 n3 c3 k sc m hc : Nat) (AA : Bool) (G' R' : Int) (D : DM) (U : UM) (H : List NM) (w : World) (name : ByteArray) (hnm : name.size ≤ 1048576) (hsm : smallH H) (h : StoreIn w a1 a2 a3 sa ha n1 c1 n2 c2 n3 c3 k sc m hc AA G' R' D U H) :
    Calls Tryz.prog 28 #[.agg #[.slice a1 n1 c1, .slice a2 n2 c2, .bool AA, .slice a3 n3 c3, .int .i64 G', .int .i64 R', .slice sa k sc, .slice ha m hc], .string name] w fun e w' => ∃ u R q, e = .returned (.tuple #[u, .int .i64 q]) ∧ snA D U H name = (R, q) ∧ w'.ownsRow w.heap.size 109 2 u R.length (cellsP R) ∧ R.length ≤ 150 ∧ Below w.heap.size w w' := by
  have HI : Hid (StoreIn w a1 a2 a3 sa ha n1 c1 n2 c2 n3 c3 k sc m hc AA G' R' D U H ∧ smallH H) := ⟨h, hsm⟩
  clear h hsm
  have A0 : Hid (∀ o, Below w.heap.size w (w.alloc o)) := fun o => (Below.refl _ _).alloc (Nat.le_refl _) _
  by_cases hbig : (65536 : Int) < (name.size : Int)
  · have F : Hid (snA D U H name = ([], 2)) := by show _ = _; unfold snA; rw [if_pos (by omega)]
    go_enter Tryz.func28, Tryz.ntmps28
    go_wp2_with fail
    go_ret2
    exact ⟨_, _, _, rfl, F.out, own_empty (by simp) (by simp), by simp, (A0.out _).alloc (by simp) _⟩
  have NB : Hid (¬ 65536 < name.size) := by show ¬ _; omega
  go_enter Tryz.func28, Tryz.ntmps28
  go_wp2_with fail
  refine (specStoreOK a1 a2 a3 sa ha n1 c1 n2 c2 n3 c3 k sc m hc AA G' R' D U H _ (HI.out.1.below (A0.out _))).mono ?_
  obtain ⟨b, hb⟩ : ∃ b, storeB D U H = b := ⟨_, rfl⟩
  rw [hb]
  rintro e w1 ⟨rfl, hb1⟩
  have B1 : Hid (Below w.heap.size w w1) := Below.new hb1
  have X1 : Hid (Box w1 w.heap.size [.slice a1 n1 c1, .slice a2 n2 c2, .bool AA, .slice a3 n3 c3, .int .i64 G', .int .i64 R', .slice sa k sc, .slice ha m hc]) := Box.below (Box.new rfl) hb1
  clear hb1
  cases b with
  | false =>
    have F : Hid (snA D U H name = ([], 1)) := by show _ = _; unfold snA; rw [if_neg NB.out, if_neg (by rw [hb]; decide)]
    clear hb
    go_wp2_with fail
    go_ret2
    exact ⟨_, _, _, rfl, F.out, own_empty rfl B1.out.size, by simp, B1.out.alloc B1.out.size _⟩
  | true =>
    have HB : Hid (storeB D U H = true) := hb
    have F : Hid (snA D U H name = snF U H (findN U.S name)) := by show _ = _; unfold snA; rw [if_neg NB.out, if_pos hb]
    clear hb
    obtain ⟨y0, _⟩ := X1.out 0 _ rfl
    obtain ⟨y1, _⟩ := X1.out 1 _ rfl
    obtain ⟨y2, _⟩ := X1.out 2 _ rfl
    obtain ⟨y3, _⟩ := X1.out 3 _ rfl
    obtain ⟨y4, _⟩ := X1.out 4 _ rfl
    obtain ⟨y5, _⟩ := X1.out 5 _ rfl
    obtain ⟨y6, _⟩ := X1.out 6 _ rfl
    obtain ⟨y7, _⟩ := X1.out 7 _ rfl
    go_wp2_with fail
    refine (l05FindS G' R' sa k sc U name _ HI.out.1.sup.2.2.1 HI.out.1.sup.2.2.2 (HI.out.1.snaps.below B1.out)).mono ?_
    rintro e w2 ⟨q, rfl, hq, hb2⟩
    have B2 : Hid (Below w.heap.size w w2) := B1.out.trans (hb2.mono B1.out.size)
    have X2 : Hid (Box w2 w.heap.size [.slice a1 n1 c1, .slice a2 n2 c2, .bool AA, .slice a3 n3 c3, .int .i64 G', .int .i64 R', .slice sa k sc, .slice ha m hc]) := X1.out.below hb2
    clear hb2 y0 y1 y2 y3 y4 y5 y6 y7 X1
    rcases hq with ⟨p, rfl, hpk, hf⟩ | ⟨rfl, hf⟩
    · obtain ⟨s, hs⟩ := snap_tree HB.out (i := p) (by rw [HI.out.1.sup.2.2.1]; exact hpk)
      have F2 : Hid (snA D U H name = (s.P, 0)) := by show _ = _; rw [F.out, hf]; show pairsA H _ = _; unfold pairsA; rw [hs]
      have HT : Hid (treeF H (U.S.getD p sn0).2.1 = some s) := hs
      have hp0 : ¬ (p : Int) < 0 := by omega
      clear hf hs F
      obtain ⟨y0, _⟩ := X2.out 0 _ rfl
      obtain ⟨y1, _⟩ := X2.out 1 _ rfl
      obtain ⟨y2, _⟩ := X2.out 2 _ rfl
      obtain ⟨y3, _⟩ := X2.out 3 _ rfl
      obtain ⟨y4, _⟩ := X2.out 4 _ rfl
      obtain ⟨y5, _⟩ := X2.out 5 _ rfl
      obtain ⟨y6, _⟩ := X2.out 6 _ rfl
      obtain ⟨y7, _⟩ := X2.out 7 _ rfl
      go_wp2_with fail
      refine (l05PairsS a1 a2 a3 sa ha n1 c1 n2 c2 n3 c3 k sc m hc AA G' R' D U H _ p hpk HI.out.2 s HT.out (HI.out.1.below B2.out)).mono ?_
      rintro e w3 ⟨u3, rfl, o3, l3, hb3⟩
      obtain ⟨g3, d3, rfl, _, _⟩ := own_src o3
      have O3 : Hid (w3.ownsRow w.heap.size 109 2 (.slice g3 s.P.length d3) s.P.length (cellsP s.P) ∧ s.P.length ≤ 150) := ⟨own_mono o3 B2.out.size, l3⟩
      have B3 : Hid (Below w.heap.size w w3) := B2.out.trans (hb3.mono B2.out.size)
      clear o3 l3 hb3 y0 y1 y2 y3 y4 y5 y6 y7
      go_wp2_with fail
      go_ret2
      exact ⟨_, _, _, rfl, F2.out, O3.out.1, O3.out.2, B3.out⟩
    · have F2 : Hid (snA D U H name = ([], 5)) := by show _ = _; rw [F.out, hf]; rfl
      clear hf F
      go_wp2_with fail
      go_ret2
      exact ⟨_, _, _, rfl, F2.out, own_empty rfl B2.out.size, by simp, B2.out.alloc B2.out.size _⟩
end Go.Proofs.YtnnimocaanofjaaGreatDoor
