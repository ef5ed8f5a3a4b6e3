
/-
  Fields read from bytes. By an AI agent.
-/
import Derived.Test.YtmbndpgoihdpnaaDoorFlds2
namespace Go.Proofs.YtmbndpgoihdpnaaDoor
open Go.ChangeShapes Go.WideShapes Go.ChangeAt Go.RowKit Go.Deep
set_option linter.unusedVariables false
set_option maxRecDepth 100000

/-- Bytes as a text. -/
def strB (L : List Nat) : ByteArray := strOfNums (L.map fun (x : Nat) => (x : Int))
theorem strB_size (L : List Nat) : (strB L).size = L.length := by unfold strB; rw [strOfNums_size, List.length_map]
def sub (B : List Nat) (i n : Nat) : ByteArray := strB ((B.drop i).take n)
def szAt (B : List Nat) (p : Nat) : Nat := B.getD p 0 * 256 + B.getD (p + 1) 0
/-- The first k fields of B, and where they end. -/
def rdSt (B : List Nat) : Nat → Option (List ByteArray × Nat)
  | 0 => some ([], 1)
  | k + 1 => match rdSt B k with
    | none => none
    | some (l, p) => if B.length < p + 2 then none else if 300 < szAt B p then none else if B.length < p + 2 + szAt B p then none else some (l ++ [sub B (p + 2) (szAt B p)], p + 2 + szAt B p)
theorem rdSt_none {B : List Nat} {k : Nat} (h : rdSt B k = none) : ∀ m, k ≤ m → rdSt B m = none
  | 0, hm => by rw [show k = 0 from by omega] at h; exact h
  | m + 1, hm => by
    by_cases e : k = m + 1
    · rw [← e]; exact h
    · have := rdSt_none h m (by omega)
      simp [rdSt, this]
theorem rd_cut {B l : List _} {k p : Nat} (h : rdSt B k = some (l, p)) (h1 : B.length < p + 2) : rdSt B (k + 1) = none := by simp [rdSt, h, h1]
theorem rd_big {B l : List _} {k p : Nat} (h : rdSt B k = some (l, p)) (h1 : ¬ B.length < p + 2) (h2 : 300 < szAt B p) : rdSt B (k + 1) = none := by simp [rdSt, h, h1, h2]
theorem rd_short {B l : List _} {k p : Nat} (h : rdSt B k = some (l, p)) (h1 : ¬ B.length < p + 2) (h2 : ¬ 300 < szAt B p) (h3 : B.length < p + 2 + szAt B p) : rdSt B (k + 1) = none := by simp [rdSt, h, h1, h2, h3]
theorem rd_more {B l : List _} {k p : Nat} (h : rdSt B k = some (l, p)) (h1 : ¬ B.length < p + 2) (h2 : ¬ 300 < szAt B p) (h3 : ¬ B.length < p + 2 + szAt B p) : rdSt B (k + 1) = some (l ++ [sub B (p + 2) (szAt B p)], p + 2 + szAt B p) := by simp [rdSt, h, h1, h2, h3]
theorem rd_len : ∀ {B : List Nat} {k p : Nat} {l : List ByteArray}, rdSt B k = some (l, p) → l.length = k
  | B, 0, p, l, h => by simp [rdSt] at h; rw [h.1]; rfl
  | B, k + 1, p, l, h => by
    cases hk : rdSt B k with
    | none => simp [rdSt, hk] at h
    | some lp =>
      obtain ⟨l', p'⟩ := lp
      have ih := rd_len hk
      simp [rdSt, hk] at h
      obtain ⟨_, _, _, h1, h2⟩ := h
      rw [← h1]; simp [ih]
def cutA (B : List Nat) : Option (List ByteArray × Nat) := if B.length = 0 ∨ 200 < B.getD 0 0 then none else rdSt B (B.getD 0 0)
def rfA (B : List Nat) : List ByteArray × Int := if 65536 < B.length then ([], 2) else match cutA B with
  | none => ([], 3)
  | some (l, p) => if p = B.length then (l, 0) else ([], 3)
theorem getD_drop (B : List Nat) (p i : Nat) : (B.drop p).getD i 0 = B.getD (p + i) 0 := by
  rw [List.getD_eq_getElem?_getD, List.getD_eq_getElem?_getD, List.getElem?_drop]
theorem Src.drop {w : World} {b o : Nat} {xs : List Value} (h : Src w (some ⟨b, o, none⟩) xs) (k : Nat) : Src w (some ⟨b, o + k, none⟩) (xs.drop k) := by
  rcases h with h | ⟨b', o', e, hc⟩
  · exact .inl (by rw [h]; simp)
  · cases e
    refine .inr ⟨b, o + k, rfl, fun j hj => ?_⟩
    have h1 := hc (k + j) (by simp at hj; omega)
    rw [Nat.add_assoc, h1]
    congr 1
    rw [List.getD_eq_getElem?_getD, List.getD_eq_getElem?_getD, List.getElem?_drop]
theorem cellsB_drop (B : List Nat) (k : Nat) : (cellsB B).drop k = cellsB (B.drop k) := by simp [cellsB, List.map_drop]
theorem own_drewN {w : World} {base e s n m : Nat} {v : Value} {xs : List Value} (h : w.ownsRow base e s v n xs) : (w.drewN m).ownsRow base e s v n xs := h
theorem src_oneS {w : World} {y : ByteArray} {B t : Nat} (hB : B = w.heap.size) : Src (w.alloc (.cells #[.string y] t)) (some ⟨B, 0, none⟩) (cellsS [y]) := by
  subst hB
  refine .inr ⟨_, 0, rfl, fun j hj => ?_⟩
  have hb := Box.new (w := w) (B := w.heap.size) (vs := #[.string y]) (t := t) rfl
  have hj' : j < 1 := hj
  rw [Nat.zero_add]
  match j, hj' with
  | 0, _ => exact (hb 0 _ rfl).1
theorem or_two (x y : Nat) (hx : x < 256) (hy : y < 256) : bits BinOp.or IntKind.i64 ((x : Int) * 256) (y : Int) = ((x * 256 + y : Nat) : Int) := by
  have e1 : ((x : Int) * 256) = ((x * 256 : Nat) : Int) := by omega
  have hor : x * 256 ||| y = x * 256 + y := by
    have := Nat.shiftLeft_add_eq_or_of_lt (i := 8) (b := y) (by omega) x
    rw [Nat.shiftLeft_eq] at this
    exact this.symm
  have h1 : (BitVec.ofInt 64 ((x * 256 : Nat) : Int)).toNat = x * 256 := by
    rw [BitVec.ofInt_natCast, BitVec.toNat_ofNat]; exact Nat.mod_eq_of_lt (by omega)
  have h2 : (BitVec.ofInt 64 (y : Int)).toNat = y := by
    rw [BitVec.ofInt_natCast, BitVec.toNat_ofNat]; exact Nat.mod_eq_of_lt (by omega)
  rw [e1]
  show IntKind.i64.wrap ((BitVec.ofInt 64 ((x * 256 : Nat) : Int) ||| BitVec.ofInt 64 (y : Int)).toNat : Int) = _
  rw [BitVec.toNat_or, h1, h2, hor, IntKind.wrap_i64]
  omega
theorem conv_sub {w : World} {b o s c : Nat} {B : List Nat} (h : Src w (some ⟨b, o, none⟩) (cellsB B)) (hs : s ≤ B.length) : (convert 34 9 (.slice (some ⟨b, o, none⟩) s c)).run Tryd.prog w = .ok (.string (strB (B.take s))) w := by
  have hlen : (B.take s).length = s := by simp; omega
  refine run_convert_bytes_arg (P := Tryd.prog) w 34 5 Tryd.underlying34 Tryd.underlying5 b o s c ((B.take s).map fun (x : Nat) => (x : Int)) (by rw [List.length_map, hlen]) (fun i hi => ?_) 9 Tryd.underlying9
  rcases h with h | ⟨b', o', e, hc⟩
  · rw [← cellsB_length, h] at hs
    simp at hs
    omega
  · cases e
    rw [hc i (by rw [cellsB_length]; omega), getD_some (cellsB_get B i (by omega))]
    congr 2
    rw [List.getD_eq_getElem?_getD, List.getD_eq_getElem?_getD, List.getElem?_map, List.getElem?_take, if_pos hi]
    rw [List.getElem?_eq_getElem (show i < B.length by omega)]
    rfl

set_option maxHeartbeats 2000000 in
theorem cutFields (a : Option Addr) (n c : Nat) (B : List Nat) (w : World) (hL : B.length = n) (hn : n ≤ 65536) (hcap : n ≤ c) (hc2 : c ≤ maxLen) (hb8 : ∀ x ∈ B, x < 256) (h : Src w a (cellsB B)) :
    Calls Tryd.prog 87 #[.slice a n c] w fun e w' => (cutA B = none ∧ e = .returned (.tuple #[.slice none 0 0, .slice none 0 0, .bool false]) ∧ Below w.heap.size w w') ∨
      (∃ l p v ad cc, cutA B = some (l, p) ∧ p ≤ n ∧ e = .returned (.tuple #[v, .slice ad (n - p) cc, .bool true]) ∧ w'.ownsRow w.heap.size 9 1 v l.length (cellsS l) ∧ Below w.heap.size w w') := by
  have HH : Hid (Src w a (cellsB B)) := h
  have HL : Hid (B.length = n) := hL
  have HB : Hid (∀ i, B.getD i 0 < 256) := fun i => by
    rw [List.getD_eq_getElem?_getD]
    by_cases hi : i < B.length
    · rw [List.getElem?_eq_getElem hi]; exact hb8 _ (List.getElem_mem _)
    · rw [List.getElem?_eq_none (by omega)]; decide
  unfold maxLen at hc2
  clear h hL hb8
  by_cases t0 : n = 0
  · subst t0
    have F : Hid (cutA B = none) := by show cutA B = none; unfold cutA; rw [if_pos (.inl HL.out)]
    go_enter Tryd.func87, Tryd.ntmps87
    go_wp2_with fail
    exact bodyPost_ret (v := .tuple #[.slice none 0 0, .slice none 0 0, .bool false]) (by simp [results, Tryd.results87, go_sem]) rfl (.inl ⟨F.out, rfl, Below.refl _ _⟩)
  obtain ⟨b, o, z, rfl, hc0, hz⟩ := srcB HH.out (i := 0) (by rw [HL.out]; omega)
  have hz8 : z < 256 := by rw [← hz.out]; exact HB.out 0
  have hne : ((n : Int) == 0) = false := by simp; omega
  simp only [Nat.add_zero] at hc0
  by_cases t1 : (200 : Int) < (z : Int)
  · have F : Hid (cutA B = none) := by show cutA B = none; unfold cutA; rw [if_pos (.inr (by rw [hz.out]; omega))]
    go_enter Tryd.func87, Tryd.ntmps87
    go_wp2_with fail
    exact bodyPost_ret (v := .tuple #[.slice none 0 0, .slice none 0 0, .bool false]) (by simp [results, Tryd.results87, go_sem]) rfl (.inl ⟨F.out, rfl, Below.refl _ _⟩)
  have CA : Hid (cutA B = rdSt B z) := by
    show cutA B = _
    unfold cutA
    rw [if_neg, hz.out]
    rw [HL.out, hz.out]
    omega
  have hpos : (0 : Int) < (n : Int) := by omega
  by_cases hc1 : c = 1
  · have hn1 : n = 1 := by omega
    subst hc1 hn1
    go_enter Tryd.func87, Tryd.ntmps87
    go_wp2_with fail
    go_loopw [2, 3, 21] (fun lv rv i wr => lv = .slice none 0 0 ∧ rv = .slice (some ⟨b, o, none⟩) 0 0 ∧ i = .int .i64 0 ∧ Hid (Below w.heap.size w wr)) (fun _ _ i _ => 0)
    case atStart => exact ⟨rfl, rfl, rfl, Below.refl _ _⟩
    case round =>
      obtain ⟨rfl, rfl, rfl, hB⟩ := hrel
      by_cases hz0 : z = 0
      · have F : Hid (cutA B = some ([], 1)) := by show cutA B = _; rw [CA.out, hz0]; rfl
        subst hz0
        go_wp2_with fail
        exact bodyPost_ret (v := .tuple #[.slice none 0 0, .slice (some ⟨b, o, none⟩) 0 0, .bool true]) (by simp [results, Tryd.results87, go_sem]) rfl (.inr ⟨[], 1, _, _, _, F.out, Nat.le_refl _, rfl, World.ownsRow_nil _ _ _ _, hB.out⟩)
      · have F : Hid (cutA B = none) := by
          show cutA B = none
          rw [CA.out]
          exact rdSt_none (k := 1) (rd_cut (k := 0) (l := []) (p := 1) rfl (by rw [HL.out]; omega)) z (by omega)
        have hz1 : (0 : Int) < (z : Int) := by omega
        clear hz0
        go_wp2_with fail
        exact bodyPost_ret (v := .tuple #[.slice none 0 0, .slice none 0 0, .bool false]) (by simp [results, Tryd.results87, go_sem]) rfl (.inl ⟨F.out, rfl, hB.out⟩)
  have SA : Hid (Src w (some ⟨b, o + 1, none⟩) (cellsB (B.drop 1))) := by
    have := HH.out.drop 1
    rw [cellsB_drop] at this
    exact this
  go_enter Tryd.func87, Tryd.ntmps87
  go_wp2_with fail
  go_loopw [2, 3, 21] (fun lv rv i wr => ∃ (k p m cc : Nat) (u : Value) (ad : Option Addr) (l : List ByteArray), u = lv ∧ rv = .slice ad m cc ∧ i = .int .i64 k ∧ k ≤ z ∧ m ≤ cc ∧ cc ≤ 9223372036854775807 ∧ p + m ≤ n ∧ n ≤ p + m ∧ Hid (rdSt B k = some (l, p)) ∧ Hid (l.length = k) ∧ Hid (Src w ad (cellsB (B.drop p))) ∧ Hid (Below w.heap.size w wr) ∧ Hid (wr.ownsRow w.heap.size 9 1 u k (cellsS l))) (fun _ _ i _ => z - (intOf i).toNat)
  case atStart => exact ⟨0, 1, n - 1, c - 1, _, _, [], rfl, rfl, rfl, by omega, by omega, by omega, by omega, by omega, rfl, rfl, SA, Below.refl _ _, World.ownsRow_nil _ _ _ _⟩
  case round =>
    obtain ⟨k, p, m, cc, u, ad, l, hu, rfl, rfl, hkz, hmc, hcc, hpm, hpm2, R, LK, S, hB, HW⟩ := hrel
    subst hu
    by_cases hlt : k < z
    · have hki : (k : Int) < (z : Int) := by omega
      by_cases t2 : (m : Int) < 2
      · have F : Hid (cutA B = none) := by
          show cutA B = none
          rw [CA.out]
          exact rdSt_none (rd_cut R.out (by rw [HL.out]; omega)) z (by omega)
        go_wp2_with fail
        exact bodyPost_ret (v := .tuple #[.slice none 0 0, .slice none 0 0, .bool false]) (by simp [results, Tryd.results87, go_sem]) rfl (.inl ⟨F.out, rfl, hB.out⟩)
      have T2 : Hid (¬ B.length < p + 2) := by show ¬ B.length < p + 2; rw [HL.out]; omega
      obtain ⟨b1, o1, x, rfl, q0, hx⟩ := srcB (S.out.below hB.out) (i := 0) (by rw [List.length_drop, HL.out]; omega)
      obtain ⟨b2, o2, y, e2, q1, hy⟩ := srcB (S.out.below hB.out) (i := 1) (by rw [List.length_drop, HL.out]; omega)
      cases e2
      simp only [Nat.add_zero] at q0
      have hx8 : x < 256 := by rw [← hx.out, getD_drop]; exact HB.out _
      have hy8 : y < 256 := by rw [← hy.out, getD_drop]; exact HB.out _
      obtain ⟨s, hs⟩ : ∃ s : Nat, x * 256 + y = s := ⟨_, rfl⟩
      have hor : bits BinOp.or IntKind.i64 ((x : Int) * 256) (y : Int) = (s : Int) := by rw [← hs]; exact or_two x y hx8 hy8
      have SZ : Hid (szAt B p = s) := by
        show szAt B p = s
        unfold szAt
        rw [← hs, ← hx.out, ← hy.out, getD_drop, getD_drop]
        rfl
      have hm0 : (0 : Int) < (m : Int) := by omega
      have hm1 : (1 : Int) < (m : Int) := by omega
      have hs9 : s < 65536 := by omega
      clear hs
      by_cases t3 : (300 : Int) < (s : Int)
      · have F : Hid (cutA B = none) := by
          show cutA B = none
          rw [CA.out]
          exact rdSt_none (rd_big R.out T2.out (by rw [SZ.out]; omega)) z (by omega)
        go_wp2_with fail
        go_quiet (fail)
        go_wp2_with fail
        exact bodyPost_ret (v := .tuple #[.slice none 0 0, .slice none 0 0, .bool false]) (by simp [results, Tryd.results87, go_sem]) rfl (.inl ⟨F.out, rfl, Below.drewN' hB.out _⟩)
      by_cases t4 : (m : Int) - 2 < (s : Int)
      · have F : Hid (cutA B = none) := by
          show cutA B = none
          rw [CA.out]
          exact rdSt_none (rd_short R.out T2.out (by rw [SZ.out]; omega) (by rw [SZ.out, HL.out]; omega)) z (by omega)
        go_wp2_with fail
        go_quiet (fail)
        go_wp2_with fail
        exact bodyPost_ret (v := .tuple #[.slice none 0 0, .slice none 0 0, .bool false]) (by simp [results, Tryd.results87, go_sem]) rfl (.inl ⟨F.out, rfl, Below.drewN' hB.out _⟩)
      have RM : Hid (rdSt B (k + 1) = some (l ++ [sub B (p + 2) s], p + 2 + s)) := by
        show rdSt B (k + 1) = _
        have := rd_more R.out T2.out (by rw [SZ.out]; omega) (by rw [SZ.out, HL.out]; omega)
        rw [SZ.out] at this
        exact this
      have XR : Hid (w.heap.size ≤ wr.heap.size) := hB.out.size
      have hlt3 : Hid (∀ g, Value.ownBlock u = some g → w.heap.size ≤ g ∧ g < wr.heap.size) := fun g e => HW.out.lt g e
      by_cases e1 : cc = 2
      · have hs0 : s = 0 := by omega
        have hm2 : m = 2 := by omega
        subst e1 hs0 hm2
        have hcv : ∀ nq cq, (convert 34 9 (.slice (some ⟨b1, o1, none⟩) 0 cq)).run Tryd.prog (wr.drewN nq) = .ok (.string (sub B (p + 2) 0)) (wr.drewN nq) := fun nq cq => conv_sub (w := wr.drewN nq) (B := []) (.inl rfl) (Nat.le_refl _)
        have S2 : Hid (Src w (some ⟨b1, o1, none⟩) (cellsB (B.drop (p + 2 + 0)))) := .inl (by
          have : B.drop (p + 2 + 0) = [] := List.drop_of_length_le (by rw [HL.out]; omega)
          rw [this]; rfl)
        go_wp2_with fail
        go_quiet (fail)
        go_wp2_with (at_builtin; refine wpList_append_src _ rfl _ _ 24 rfl w.heap.size 9 (.string ⟨#[]⟩) 1 16 Tryd.underlying24 infoS rfl (by decide) (by decide) u k (cellsS l) rfl ((own_drewN HW.out).alloc _) (some ⟨wr.heap.size, 0, none⟩) 1 1 (cellsS [sub B (p + 2) 0]) rfl rfl (src_oneS rfl) (cellsS_one _) (by omega) (le_alloc XR.out _) ?_)
        intro v2 w2 hown2 hgrow2
        have B2 : Hid (Below w.heap.size w w2) := ((Below.drewN' hB.out _).alloc hB.out.size _).grown hgrow2 (le_alloc hB.out.size _) (fun g e => (hlt3.out g e).1)
        have O2 : Hid (w2.ownsRow w.heap.size 9 1 v2 (k + 1) (cellsS (l ++ [sub B (p + 2) 0]))) := own_congr hown2 (by rw [cellsS_append])
        clear hown2 hgrow2 hcv
        go_wp2_with fail
        exact ⟨⟨k + 1, p + 2 + 0, 0, 0, _, _, _, rfl, rfl, by go_num, by omega, by omega, by omega, by omega, by omega, RM, by show _ = _; rw [List.length_append, LK.out]; rfl, S2, B2, O2⟩, by simp [intOf]; omega⟩
      · have SS : Hid (Src w (some ⟨b1, o1 + 2, none⟩) (cellsB (B.drop (p + 2)))) := by
          have := S.out.drop 2
          rw [cellsB_drop, List.drop_drop] at this
          exact this
        have hcv : ∀ nq cq, (convert 34 9 (.slice (some ⟨b1, o1 + 2, none⟩) s cq)).run Tryd.prog (wr.drewN nq) = .ok (.string (sub B (p + 2) s)) (wr.drewN nq) := fun nq cq => conv_sub (w := wr.drewN nq) (B := B.drop (p + 2)) (SS.out.below (Below.drewN' hB.out nq)) (by rw [List.length_drop, HL.out]; omega)
        by_cases e2 : cc = 2 + s
        · have S2 : Hid (Src w (some ⟨b1, o1, none⟩) (cellsB (B.drop (p + 2 + s)))) := .inl (by
            have : B.drop (p + 2 + s) = [] := List.drop_of_length_le (by rw [HL.out]; omega)
            rw [this]; rfl)
          subst e2
          go_wp2_with fail
          go_quiet (fail)
          go_wp2_with (at_builtin; refine wpList_append_src _ rfl _ _ 24 rfl w.heap.size 9 (.string ⟨#[]⟩) 1 16 Tryd.underlying24 infoS rfl (by decide) (by decide) u k (cellsS l) rfl ((own_drewN HW.out).alloc _) (some ⟨wr.heap.size, 0, none⟩) 1 1 (cellsS [sub B (p + 2) s]) rfl rfl (src_oneS rfl) (cellsS_one _) (by omega) (le_alloc XR.out _) ?_)
          intro v2 w2 hown2 hgrow2
          have B2 : Hid (Below w.heap.size w w2) := ((Below.drewN' hB.out _).alloc hB.out.size _).grown hgrow2 (le_alloc hB.out.size _) (fun g e => (hlt3.out g e).1)
          have O2 : Hid (w2.ownsRow w.heap.size 9 1 v2 (k + 1) (cellsS (l ++ [sub B (p + 2) s]))) := own_congr hown2 (by rw [cellsS_append])
          clear hown2 hgrow2 hcv
          go_wp2_with fail
          exact ⟨⟨k + 1, p + 2 + s, _, _, _, _, _, rfl, rfl, by go_num, by omega, by omega, by omega, by omega, by omega, RM, by show _ = _; rw [List.length_append, LK.out]; rfl, S2, B2, O2⟩, by simp [intOf]; omega⟩
        · have S2 : Hid (Src w (some ⟨b1, o1 + (2 + s), none⟩) (cellsB (B.drop (p + 2 + s)))) := by
            have := S.out.drop (2 + s)
            rw [cellsB_drop, List.drop_drop, ← Nat.add_assoc p 2 s] at this
            exact this
          go_wp2_with fail
          go_quiet (fail)
          go_wp2_with (at_builtin; refine wpList_append_src _ rfl _ _ 24 rfl w.heap.size 9 (.string ⟨#[]⟩) 1 16 Tryd.underlying24 infoS rfl (by decide) (by decide) u k (cellsS l) rfl ((own_drewN HW.out).alloc _) (some ⟨wr.heap.size, 0, none⟩) 1 1 (cellsS [sub B (p + 2) s]) rfl rfl (src_oneS rfl) (cellsS_one _) (by omega) (le_alloc XR.out _) ?_)
          intro v2 w2 hown2 hgrow2
          have B2 : Hid (Below w.heap.size w w2) := ((Below.drewN' hB.out _).alloc hB.out.size _).grown hgrow2 (le_alloc hB.out.size _) (fun g e => (hlt3.out g e).1)
          have O2 : Hid (w2.ownsRow w.heap.size 9 1 v2 (k + 1) (cellsS (l ++ [sub B (p + 2) s]))) := own_congr hown2 (by rw [cellsS_append])
          clear hown2 hgrow2 hcv
          go_wp2_with fail
          exact ⟨⟨k + 1, p + 2 + s, _, _, _, _, _, rfl, rfl, by go_num, by omega, by omega, by omega, by omega, by omega, RM, by show _ = _; rw [List.length_append, LK.out]; rfl, S2, B2, O2⟩, by simp [intOf]; omega⟩
    · have hkn : k = z := by omega
      have F : Hid (cutA B = some (l, p)) := by show cutA B = _; rw [CA.out, ← hkn]; exact R.out
      have hmm : Hid (m = n - p) := by show m = n - p; omega
      have HO : Hid (wr.ownsRow w.heap.size 9 1 u l.length (cellsS l)) := by have := HW.out; rw [← LK.out] at this; exact this
      clear hkn
      go_wp2_with fail
      refine bodyPost_ret (v := .tuple #[u, .slice ad m cc, .bool true]) (by simp [results, Tryd.results87, go_sem]) rfl (.inr ⟨l, p, u, ad, cc, F.out, by omega, ?_, HO.out, hB.out⟩)
      rw [hmm.out]
end Go.Proofs.YtmbndpgoihdpnaaDoor
