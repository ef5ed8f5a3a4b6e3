/-
  Texts of the store, brought together: Rdf, Sub, Rdg, Rdh, Rfl. By an AI agent.
-/
import Derived.Test.YtnnimocaanofjaaGreatDoorSq17
import Derived.Laws.Strings2
namespace Go.Proofs.YtnnimocaanofjaaGreatDoor
open Go.ChangeShapes Go.WideShapes Go.ChangeAt Go.RowKit Go.Deep
set_option linter.unusedVariables false
set_option linter.unusedSimpArgs false
set_option maxRecDepth 100000
def strB (L : List Nat) : ByteArray := strOfNums (L.map fun (x : Nat) => (x : Int))
theorem strB_size (L : List Nat) : (strB L).size = L.length := by unfold strB; rw [strOfNums_size, List.length_map]
def sub (B : List Nat) (i n : Nat) : ByteArray := strB ((B.drop i).take n)
def szAt (B : List Nat) (p : Nat) : Nat := B.getD p 0 * 256 + B.getD (p + 1) 0
def rdSt (B : List Nat) : Nat → Option (List ByteArray × Nat)
  | 0 => some ([], 1)
  | k + 1 => match rdSt B k with
    | none => none
    | some (l, p) => if B.length < p + 2 then none else if 300 < szAt B p then none else if B.length < p + 2 + szAt B p then none else some (l ++ [sub B (p + 2) (szAt B p)], p + 2 + szAt B p)
theorem rdSt_none {B : List Nat} {k : Nat} (h : rdSt B k = none) : ∀ m, k ≤ m → rdSt B m = none
  | 0, hm => by rw [show k = 0 from by omega] at h; exact h
  | m + 1, hm => by
    by_cases e : k = m + 1
    · rw [← e]; exact h
    · have := rdSt_none h m (by omega)
      simp [rdSt, this]
theorem rd_cut {B l : List _} {k p : Nat} (h : rdSt B k = some (l, p)) (h1 : B.length < p + 2) : rdSt B (k + 1) = none := by simp [rdSt, h, h1]
theorem rd_big {B l : List _} {k p : Nat} (h : rdSt B k = some (l, p)) (h1 : ¬ B.length < p + 2) (h2 : 300 < szAt B p) : rdSt B (k + 1) = none := by simp [rdSt, h, h1, h2]
theorem rd_short {B l : List _} {k p : Nat} (h : rdSt B k = some (l, p)) (h1 : ¬ B.length < p + 2) (h2 : ¬ 300 < szAt B p) (h3 : B.length < p + 2 + szAt B p) : rdSt B (k + 1) = none := by simp [rdSt, h, h1, h2, h3]
theorem rd_more {B l : List _} {k p : Nat} (h : rdSt B k = some (l, p)) (h1 : ¬ B.length < p + 2) (h2 : ¬ 300 < szAt B p) (h3 : ¬ B.length < p + 2 + szAt B p) : rdSt B (k + 1) = some (l ++ [sub B (p + 2) (szAt B p)], p + 2 + szAt B p) := by simp [rdSt, h, h1, h2, h3]
theorem rd_len : ∀ {B : List Nat} {k p : Nat} {l : List ByteArray}, rdSt B k = some (l, p) → l.length = k
  | B, 0, p, l, h => by simp [rdSt] at h; rw [h.1]; rfl
  | B, k + 1, p, l, h => by
    cases hk : rdSt B k with
    | none => simp [rdSt, hk] at h
    | some lp =>
      obtain ⟨l', p'⟩ := lp
      have ih := rd_len hk
      simp [rdSt, hk] at h
      obtain ⟨_, _, _, h1, h2⟩ := h
      rw [← h1]; simp [ih]
def cutA (B : List Nat) : Option (List ByteArray × Nat) := if B.length = 0 ∨ 200 < B.getD 0 0 then none else rdSt B (B.getD 0 0)
def rfA (B : List Nat) : List ByteArray × Int := if 65536 < B.length then ([], 2) else match cutA B with
  | none => ([], 3)
  | some (l, p) => if p = B.length then (l, 0) else ([], 3)
theorem getD_drop (B : List Nat) (p i : Nat) : (B.drop p).getD i 0 = B.getD (p + i) 0 := by
  rw [List.getD_eq_getElem?_getD, List.getD_eq_getElem?_getD, List.getElem?_drop]
theorem Src.drop {w : World} {b o : Nat} {xs : List Value} (h : Src w (some ⟨b, o, none⟩) xs) (k : Nat) : Src w (some ⟨b, o + k, none⟩) (xs.drop k) := by
  rcases h with h | ⟨b', o', e, hc⟩
  · exact .inl (by rw [h]; simp)
  · cases e
    refine .inr ⟨b, o + k, rfl, fun j hj => ?_⟩
    have h1 := hc (k + j) (by simp at hj; omega)
    rw [Nat.add_assoc, h1]
    congr 1
    rw [List.getD_eq_getElem?_getD, List.getD_eq_getElem?_getD, List.getElem?_drop]
theorem cellsB_drop (B : List Nat) (k : Nat) : (cellsB B).drop k = cellsB (B.drop k) := by simp [cellsB, List.map_drop]
theorem own_drewN {w : World} {base e s n m : Nat} {v : Value} {xs : List Value} (h : w.ownsRow base e s v n xs) : (w.drewN m).ownsRow base e s v n xs := h
theorem src_oneS {w : World} {y : ByteArray} {B t : Nat} (hB : B = w.heap.size) : Src (w.alloc (.cells #[.string y] t)) (some ⟨B, 0, none⟩) (cellsS [y]) := by
  subst hB
  refine .inr ⟨_, 0, rfl, fun j hj => ?_⟩
  have hb := Box.new (w := w) (B := w.heap.size) (vs := #[.string y]) (t := t) rfl
  have hj' : j < 1 := hj
  rw [Nat.zero_add]
  match j, hj' with
  | 0, _ => exact (hb 0 _ rfl).1
theorem or_two (x y : Nat) (hx : x < 256) (hy : y < 256) : bits BinOp.or IntKind.i64 ((x : Int) * 256) (y : Int) = ((x * 256 + y : Nat) : Int) := by
  have e1 : ((x : Int) * 256) = ((x * 256 : Nat) : Int) := by omega
  have hor : x * 256 ||| y = x * 256 + y := by
    have := Nat.shiftLeft_add_eq_or_of_lt (i := 8) (b := y) (by omega) x
    rw [Nat.shiftLeft_eq] at this
    exact this.symm
  have h1 : (BitVec.ofInt 64 ((x * 256 : Nat) : Int)).toNat = x * 256 := by
    rw [BitVec.ofInt_natCast, BitVec.toNat_ofNat]; exact Nat.mod_eq_of_lt (by omega)
  have h2 : (BitVec.ofInt 64 (y : Int)).toNat = y := by
    rw [BitVec.ofInt_natCast, BitVec.toNat_ofNat]; exact Nat.mod_eq_of_lt (by omega)
  rw [e1]
  show IntKind.i64.wrap ((BitVec.ofInt 64 ((x * 256 : Nat) : Int) ||| BitVec.ofInt 64 (y : Int)).toNat : Int) = _
  rw [BitVec.toNat_or, h1, h2, hor, IntKind.wrap_i64]
  omega
theorem conv_sub {w : World} {b o s c : Nat} {B : List Nat} (h : Src w (some ⟨b, o, none⟩) (cellsB B)) (hs : s ≤ B.length) : (convert 74 9 (.slice (some ⟨b, o, none⟩) s c)).run Tryz.prog w = .ok (.string (strB (B.take s))) w := by
  have hlen : (B.take s).length = s := by simp; omega
  refine run_convert_bytes_arg (P := Tryz.prog) w 74 5 Tryz.underlying74 Tryz.underlying5 b o s c ((B.take s).map fun (x : Nat) => (x : Int)) (by rw [List.length_map, hlen]) (fun i hi => ?_) 9 Tryz.underlying9
  rcases h with h | ⟨b', o', e, hc⟩
  · rw [← cellsB_length, h] at hs
    simp at hs
    omega
  · cases e
    rw [hc i (by rw [cellsB_length]; omega), getD_some (cellsB_get B i (by omega))]
    congr 2
    rw [List.getD_eq_getElem?_getD, List.getD_eq_getElem?_getD, List.getElem?_map, List.getElem?_take, if_pos hi]
    rw [List.getElem?_eq_getElem (show i < B.length by omega)]
    rfl
set_option maxHeartbeats 2000000 in
theorem cutFields (a : Option Addr) (n c : Nat) (B : List Nat) (w : World) (hL : B.length = n) (hn : n ≤ 65536) (hcap : n ≤ c) (hc2 : c ≤ maxLen) (hb8 : ∀ x ∈ B, x < 256) (h : Src w a (cellsB B)) :
    Calls Tryz.prog 184 #[.slice a n c] w fun e w' => (cutA B = none ∧ e = .returned (.tuple #[.slice none 0 0, .slice none 0 0, .bool false]) ∧ Below w.heap.size w w') ∨
      (∃ l p v ad cc, cutA B = some (l, p) ∧ p ≤ n ∧ e = .returned (.tuple #[v, .slice ad (n - p) cc, .bool true]) ∧ w'.ownsRow w.heap.size 9 1 v l.length (cellsS l) ∧ Below w.heap.size w w') := by
  have HH : Hid (Src w a (cellsB B)) := h
  have HL : Hid (B.length = n) := hL
  have HB : Hid (∀ i, B.getD i 0 < 256) := fun i => by
    rw [List.getD_eq_getElem?_getD]
    by_cases hi : i < B.length
    · rw [List.getElem?_eq_getElem hi]; exact hb8 _ (List.getElem_mem _)
    · rw [List.getElem?_eq_none (by omega)]; decide
  unfold maxLen at hc2
  clear h hL hb8
  by_cases t0 : n = 0
  · subst t0
    have F : Hid (cutA B = none) := by show cutA B = none; unfold cutA; rw [if_pos (.inl HL.out)]
    go_enter Tryz.func184, Tryz.ntmps184
    go_wp2_with fail
    exact bodyPost_ret (v := .tuple #[.slice none 0 0, .slice none 0 0, .bool false]) (by simp [results, Tryz.results184, go_sem]) rfl (.inl ⟨F.out, rfl, Below.refl _ _⟩)
  obtain ⟨b, o, z, rfl, hc0, hz⟩ := srcB HH.out (i := 0) (by rw [HL.out]; omega)
  have hz8 : z < 256 := by rw [← hz.out]; exact HB.out 0
  have hne : ((n : Int) == 0) = false := by simp; omega
  simp only [Nat.add_zero] at hc0
  by_cases t1 : (200 : Int) < (z : Int)
  · have F : Hid (cutA B = none) := by show cutA B = none; unfold cutA; rw [if_pos (.inr (by rw [hz.out]; omega))]
    go_enter Tryz.func184, Tryz.ntmps184
    go_wp2_with fail
    exact bodyPost_ret (v := .tuple #[.slice none 0 0, .slice none 0 0, .bool false]) (by simp [results, Tryz.results184, go_sem]) rfl (.inl ⟨F.out, rfl, Below.refl _ _⟩)
  have CA : Hid (cutA B = rdSt B z) := by
    show cutA B = _
    unfold cutA
    rw [if_neg, hz.out]
    rw [HL.out, hz.out]
    omega
  have hpos : (0 : Int) < (n : Int) := by omega
  by_cases hc1 : c = 1
  · have hn1 : n = 1 := by omega
    subst hc1 hn1
    go_enter Tryz.func184, Tryz.ntmps184
    go_wp2_with fail
    go_loopw [2, 3, 21] (fun lv rv i wr => lv = .slice none 0 0 ∧ rv = .slice (some ⟨b, o, none⟩) 0 0 ∧ i = .int .i64 0 ∧ Hid (Below w.heap.size w wr)) (fun _ _ i _ => 0)
    case atStart => exact ⟨rfl, rfl, rfl, Below.refl _ _⟩
    case round =>
      obtain ⟨rfl, rfl, rfl, hB⟩ := hrel
      by_cases hz0 : z = 0
      · have F : Hid (cutA B = some ([], 1)) := by show cutA B = _; rw [CA.out, hz0]; rfl
        subst hz0
        go_wp2_with fail
        exact bodyPost_ret (v := .tuple #[.slice none 0 0, .slice (some ⟨b, o, none⟩) 0 0, .bool true]) (by simp [results, Tryz.results184, go_sem]) rfl (.inr ⟨[], 1, _, _, _, F.out, Nat.le_refl _, rfl, World.ownsRow_nil _ _ _ _, hB.out⟩)
      · have F : Hid (cutA B = none) := by
          show cutA B = none
          rw [CA.out]
          exact rdSt_none (k := 1) (rd_cut (k := 0) (l := []) (p := 1) rfl (by rw [HL.out]; omega)) z (by omega)
        have hz1 : (0 : Int) < (z : Int) := by omega
        clear hz0
        go_wp2_with fail
        exact bodyPost_ret (v := .tuple #[.slice none 0 0, .slice none 0 0, .bool false]) (by simp [results, Tryz.results184, go_sem]) rfl (.inl ⟨F.out, rfl, hB.out⟩)
  have SA : Hid (Src w (some ⟨b, o + 1, none⟩) (cellsB (B.drop 1))) := by
    have := HH.out.drop 1
    rw [cellsB_drop] at this
    exact this
  go_enter Tryz.func184, Tryz.ntmps184
  go_wp2_with fail
  go_loopw [2, 3, 21] (fun lv rv i wr => ∃ (k p m cc : Nat) (u : Value) (ad : Option Addr) (l : List ByteArray), u = lv ∧ rv = .slice ad m cc ∧ i = .int .i64 k ∧ k ≤ z ∧ m ≤ cc ∧ cc ≤ 9223372036854775807 ∧ p + m ≤ n ∧ n ≤ p + m ∧ Hid (rdSt B k = some (l, p)) ∧ Hid (l.length = k) ∧ Hid (Src w ad (cellsB (B.drop p))) ∧ Hid (Below w.heap.size w wr) ∧ Hid (wr.ownsRow w.heap.size 9 1 u k (cellsS l))) (fun _ _ i _ => z - (intOf i).toNat)
  case atStart => exact ⟨0, 1, n - 1, c - 1, _, _, [], rfl, rfl, rfl, by omega, by omega, by omega, by omega, by omega, rfl, rfl, SA, Below.refl _ _, World.ownsRow_nil _ _ _ _⟩
  case round =>
    obtain ⟨k, p, m, cc, u, ad, l, hu, rfl, rfl, hkz, hmc, hcc, hpm, hpm2, R, LK, S, hB, HW⟩ := hrel
    subst hu
    by_cases hlt : k < z
    · have hki : (k : Int) < (z : Int) := by omega
      by_cases t2 : (m : Int) < 2
      · have F : Hid (cutA B = none) := by
          show cutA B = none
          rw [CA.out]
          exact rdSt_none (rd_cut R.out (by rw [HL.out]; omega)) z (by omega)
        go_wp2_with fail
        exact bodyPost_ret (v := .tuple #[.slice none 0 0, .slice none 0 0, .bool false]) (by simp [results, Tryz.results184, go_sem]) rfl (.inl ⟨F.out, rfl, hB.out⟩)
      have T2 : Hid (¬ B.length < p + 2) := by show ¬ B.length < p + 2; rw [HL.out]; omega
      obtain ⟨b1, o1, x, rfl, q0, hx⟩ := srcB (S.out.below hB.out) (i := 0) (by rw [List.length_drop, HL.out]; omega)
      obtain ⟨b2, o2, y, e2, q1, hy⟩ := srcB (S.out.below hB.out) (i := 1) (by rw [List.length_drop, HL.out]; omega)
      cases e2
      simp only [Nat.add_zero] at q0
      have hx8 : x < 256 := by rw [← hx.out, getD_drop]; exact HB.out _
      have hy8 : y < 256 := by rw [← hy.out, getD_drop]; exact HB.out _
      obtain ⟨s, hs⟩ : ∃ s : Nat, x * 256 + y = s := ⟨_, rfl⟩
      have hor : bits BinOp.or IntKind.i64 ((x : Int) * 256) (y : Int) = (s : Int) := by rw [← hs]; exact or_two x y hx8 hy8
      have SZ : Hid (szAt B p = s) := by
        show szAt B p = s
        unfold szAt
        rw [← hs, ← hx.out, ← hy.out, getD_drop, getD_drop]
        rfl
      have hm0 : (0 : Int) < (m : Int) := by omega
      have hm1 : (1 : Int) < (m : Int) := by omega
      have hs9 : s < 65536 := by omega
      clear hs
      by_cases t3 : (300 : Int) < (s : Int)
      · have F : Hid (cutA B = none) := by
          show cutA B = none
          rw [CA.out]
          exact rdSt_none (rd_big R.out T2.out (by rw [SZ.out]; omega)) z (by omega)
        go_wp2_with fail
        go_quiet (fail)
        go_wp2_with fail
        exact bodyPost_ret (v := .tuple #[.slice none 0 0, .slice none 0 0, .bool false]) (by simp [results, Tryz.results184, go_sem]) rfl (.inl ⟨F.out, rfl, Below.drewN' hB.out _⟩)
      by_cases t4 : (m : Int) - 2 < (s : Int)
      · have F : Hid (cutA B = none) := by
          show cutA B = none
          rw [CA.out]
          exact rdSt_none (rd_short R.out T2.out (by rw [SZ.out]; omega) (by rw [SZ.out, HL.out]; omega)) z (by omega)
        go_wp2_with fail
        go_quiet (fail)
        go_wp2_with fail
        exact bodyPost_ret (v := .tuple #[.slice none 0 0, .slice none 0 0, .bool false]) (by simp [results, Tryz.results184, go_sem]) rfl (.inl ⟨F.out, rfl, Below.drewN' hB.out _⟩)
      have RM : Hid (rdSt B (k + 1) = some (l ++ [sub B (p + 2) s], p + 2 + s)) := by
        show rdSt B (k + 1) = _
        have := rd_more R.out T2.out (by rw [SZ.out]; omega) (by rw [SZ.out, HL.out]; omega)
        rw [SZ.out] at this
        exact this
      have XR : Hid (w.heap.size ≤ wr.heap.size) := hB.out.size
      have hlt3 : Hid (∀ g, Value.ownBlock u = some g → w.heap.size ≤ g ∧ g < wr.heap.size) := fun g e => HW.out.lt g e
      by_cases e1 : cc = 2
      · have hs0 : s = 0 := by omega
        have hm2 : m = 2 := by omega
        subst e1 hs0 hm2
        have hcv : ∀ nq cq, (convert 74 9 (.slice (some ⟨b1, o1, none⟩) 0 cq)).run Tryz.prog (wr.drewN nq) = .ok (.string (sub B (p + 2) 0)) (wr.drewN nq) := fun nq cq => conv_sub (w := wr.drewN nq) (B := []) (.inl rfl) (Nat.le_refl _)
        have S2 : Hid (Src w (some ⟨b1, o1, none⟩) (cellsB (B.drop (p + 2 + 0)))) := .inl (by
          have : B.drop (p + 2 + 0) = [] := List.drop_of_length_le (by rw [HL.out]; omega)
          rw [this]; rfl)
        go_wp2_with fail
        go_quiet (fail)
        go_wp2_with (at_builtin; refine wpList_append_src _ rfl _ _ 22 rfl w.heap.size 9 (.string ⟨#[]⟩) 1 16 Tryz.underlying22 infoS rfl (by decide) (by decide) u k (cellsS l) rfl ((own_drewN HW.out).alloc _) (some ⟨wr.heap.size, 0, none⟩) 1 1 (cellsS [sub B (p + 2) 0]) rfl rfl (src_oneS rfl) (cellsS_one _) (by omega) (le_alloc XR.out _) ?_)
        intro v2 w2 hown2 hgrow2
        have B2 : Hid (Below w.heap.size w w2) := ((Below.drewN' hB.out _).alloc hB.out.size _).grown hgrow2 (le_alloc hB.out.size _) (fun g e => (hlt3.out g e).1)
        have O2 : Hid (w2.ownsRow w.heap.size 9 1 v2 (k + 1) (cellsS (l ++ [sub B (p + 2) 0]))) := own_congr hown2 (by rw [cellsS_append])
        clear hown2 hgrow2 hcv
        go_wp2_with fail
        exact ⟨⟨k + 1, p + 2 + 0, 0, 0, _, _, _, rfl, rfl, by go_num, by omega, by omega, by omega, by omega, by omega, RM, by show _ = _; rw [List.length_append, LK.out]; rfl, S2, B2, O2⟩, by simp [intOf]; omega⟩
      · have SS : Hid (Src w (some ⟨b1, o1 + 2, none⟩) (cellsB (B.drop (p + 2)))) := by
          have := S.out.drop 2
          rw [cellsB_drop, List.drop_drop] at this
          exact this
        have hcv : ∀ nq cq, (convert 74 9 (.slice (some ⟨b1, o1 + 2, none⟩) s cq)).run Tryz.prog (wr.drewN nq) = .ok (.string (sub B (p + 2) s)) (wr.drewN nq) := fun nq cq => conv_sub (w := wr.drewN nq) (B := B.drop (p + 2)) (SS.out.below (Below.drewN' hB.out nq)) (by rw [List.length_drop, HL.out]; omega)
        by_cases e2 : cc = 2 + s
        · have S2 : Hid (Src w (some ⟨b1, o1, none⟩) (cellsB (B.drop (p + 2 + s)))) := .inl (by
            have : B.drop (p + 2 + s) = [] := List.drop_of_length_le (by rw [HL.out]; omega)
            rw [this]; rfl)
          subst e2
          go_wp2_with fail
          go_quiet (fail)
          go_wp2_with (at_builtin; refine wpList_append_src _ rfl _ _ 22 rfl w.heap.size 9 (.string ⟨#[]⟩) 1 16 Tryz.underlying22 infoS rfl (by decide) (by decide) u k (cellsS l) rfl ((own_drewN HW.out).alloc _) (some ⟨wr.heap.size, 0, none⟩) 1 1 (cellsS [sub B (p + 2) s]) rfl rfl (src_oneS rfl) (cellsS_one _) (by omega) (le_alloc XR.out _) ?_)
          intro v2 w2 hown2 hgrow2
          have B2 : Hid (Below w.heap.size w w2) := ((Below.drewN' hB.out _).alloc hB.out.size _).grown hgrow2 (le_alloc hB.out.size _) (fun g e => (hlt3.out g e).1)
          have O2 : Hid (w2.ownsRow w.heap.size 9 1 v2 (k + 1) (cellsS (l ++ [sub B (p + 2) s]))) := own_congr hown2 (by rw [cellsS_append])
          clear hown2 hgrow2 hcv
          go_wp2_with fail
          exact ⟨⟨k + 1, p + 2 + s, _, _, _, _, _, rfl, rfl, by go_num, by omega, by omega, by omega, by omega, by omega, RM, by show _ = _; rw [List.length_append, LK.out]; rfl, S2, B2, O2⟩, by simp [intOf]; omega⟩
        · have S2 : Hid (Src w (some ⟨b1, o1 + (2 + s), none⟩) (cellsB (B.drop (p + 2 + s)))) := by
            have := S.out.drop (2 + s)
            rw [cellsB_drop, List.drop_drop, ← Nat.add_assoc p 2 s] at this
            exact this
          go_wp2_with fail
          go_quiet (fail)
          go_wp2_with (at_builtin; refine wpList_append_src _ rfl _ _ 22 rfl w.heap.size 9 (.string ⟨#[]⟩) 1 16 Tryz.underlying22 infoS rfl (by decide) (by decide) u k (cellsS l) rfl ((own_drewN HW.out).alloc _) (some ⟨wr.heap.size, 0, none⟩) 1 1 (cellsS [sub B (p + 2) s]) rfl rfl (src_oneS rfl) (cellsS_one _) (by omega) (le_alloc XR.out _) ?_)
          intro v2 w2 hown2 hgrow2
          have B2 : Hid (Below w.heap.size w w2) := ((Below.drewN' hB.out _).alloc hB.out.size _).grown hgrow2 (le_alloc hB.out.size _) (fun g e => (hlt3.out g e).1)
          have O2 : Hid (w2.ownsRow w.heap.size 9 1 v2 (k + 1) (cellsS (l ++ [sub B (p + 2) s]))) := own_congr hown2 (by rw [cellsS_append])
          clear hown2 hgrow2 hcv
          go_wp2_with fail
          exact ⟨⟨k + 1, p + 2 + s, _, _, _, _, _, rfl, rfl, by go_num, by omega, by omega, by omega, by omega, by omega, RM, by show _ = _; rw [List.length_append, LK.out]; rfl, S2, B2, O2⟩, by simp [intOf]; omega⟩
    · have hkn : k = z := by omega
      have F : Hid (cutA B = some (l, p)) := by show cutA B = _; rw [CA.out, ← hkn]; exact R.out
      have hmm : Hid (m = n - p) := by show m = n - p; omega
      have HO : Hid (wr.ownsRow w.heap.size 9 1 u l.length (cellsS l)) := by have := HW.out; rw [← LK.out] at this; exact this
      clear hkn
      go_wp2_with fail
      refine bodyPost_ret (v := .tuple #[u, .slice ad m cc, .bool true]) (by simp [results, Tryz.results184, go_sem]) rfl (.inr ⟨l, p, u, ad, cc, F.out, by omega, ?_, HO.out, hB.out⟩)
      rw [hmm.out]
def snapH (x : SN) : List Nat := [(x.2.1 + 1).toNat % 256, x.2.2.toNat / 256 % 256, x.2.2.toNat % 256]
def snapF (x : SN) : ByteArray := strB (snapH x) ++ x.1
def superL (D : UM) : List Nat := 115 :: D.G.toNat % 256 :: (D.R + 1).toNat % 256 :: fieldsB (D.S.map snapF)
theorem snapF_size (x : SN) : (snapF x).size = 3 + x.1.size := by
  unfold snapF; rw [ByteArray.size_append, strB_size]; rfl
theorem okU_facts {D : UM} (h : okU D = true) : 0 ≤ D.G ∧ D.G ≤ 200 ∧ -1 ≤ D.R ∧ D.R ≤ 49 ∧ D.S.length ≤ 4 ∧ ∀ i, i < D.S.length → (D.S.getD i sn0).1.size ≤ 8 ∧ -1 ≤ (D.S.getD i sn0).2.1 ∧ (D.S.getD i sn0).2.1 ≤ 49 ∧ 0 ≤ (D.S.getD i sn0).2.2 ∧ (D.S.getD i sn0).2.2 ≤ 60000 := by
  unfold okU at h
  simp only [Bool.and_eq_true, decide_eq_true_eq] at h
  obtain ⟨⟨⟨h1, h2⟩, h3⟩, h4⟩ := h
  unfold rootB at h2
  simp only [decide_eq_true_eq] at h2
  refine ⟨h1.1, h1.2, h2.1, h2.2, h3, fun i hi => ?_⟩
  unfold snapsB at h4
  rw [List.all_eq_true] at h4
  have h5 := h4 i (List.mem_range.2 hi)
  unfold snapB shortB rootB tickB at h5
  simp only [Bool.and_eq_true, decide_eq_true_eq] at h5
  exact ⟨h5.1.1.1.2, h5.1.1.2.1, h5.1.1.2.2, h5.1.2.1, h5.1.2.2⟩
theorem snapF_all {D : UM} (h : okU D = true) : ∀ y ∈ D.S.map snapF, y.size ≤ 300 := by
  intro y hy
  rw [List.mem_map] at hy
  obtain ⟨x, hx, rfl⟩ := hy
  obtain ⟨i, hi, rfl⟩ := List.getElem_of_mem hx
  have h1 := ((okU_facts h).2.2.2.2.2 i hi).1
  rw [List.getD_eq_getElem?_getD, List.getElem?_eq_getElem hi] at h1
  rw [snapF_size]
  simp at h1
  omega
theorem fieldsB_le (L : List ByteArray) (h : ∀ y ∈ L, y.size ≤ 300) : (fieldsB L).length ≤ 1 + L.length * 302 := by
  unfold fieldsB
  rw [List.length_cons]
  have : ∀ (M : List ByteArray), (∀ y ∈ M, y.size ≤ 300) → (M.flatMap fieldB).length ≤ M.length * 302 := by
    intro M
    induction M with
    | nil => intro _; simp
    | cons x M ih =>
      intro hM
      have h1 := ih fun y hy => hM y (List.mem_cons_of_mem _ hy)
      have h2 := hM x (List.mem_cons_self ..)
      rw [List.flatMap_cons, List.length_append, List.length_cons]
      have h3 : (fieldB x).length = 2 + x.size := by unfold fieldB numB; rw [List.length_append, bytesOf_length]; rfl
      omega
  have := this L h
  omega
theorem fieldsB_lt (L : List ByteArray) : ∀ x ∈ fieldsB L, x < 256 := by
  intro x hx
  unfold fieldsB at hx
  rw [List.mem_cons] at hx
  rcases hx with rfl | hx
  · omega
  · rw [List.mem_flatMap] at hx
    obtain ⟨s, _, hs⟩ := hx
    unfold fieldB numB bytesOf at hs
    simp at hs
    rcases hs with rfl | rfl | ⟨b, _, rfl⟩
    · omega
    · omega
    · exact b.toNat_lt
set_option maxHeartbeats 1000000 in
theorem implReadFields (a : Option Addr) (n c : Nat) (B : List Nat) (w : World) (hL : B.length = n) (hn : n ≤ 1048576) (hcap : n ≤ c) (hc2 : c ≤ maxLen) (hb8 : ∀ x ∈ B, x < 256) (h : Src w a (cellsB B)) :
    Calls Tryz.prog 173 #[.slice a n c] w fun e w' => ∃ v R q, e = .returned (.tuple #[v, .int .i64 q]) ∧ rfA B = (R, q) ∧ w'.ownsRow w.heap.size 9 1 v R.length (cellsS R) ∧ Below w.heap.size w w' := by
  have HH : Hid (Src w a (cellsB B)) := h
  have HL : Hid (B.length = n) := hL
  have HB : Hid (∀ x ∈ B, x < 256) := hb8
  have HC : Hid (n ≤ c ∧ c ≤ maxLen) := ⟨hcap, hc2⟩
  clear h hL hb8 hcap hc2
  by_cases t1 : (65536 : Int) < (n : Int)
  · have F : Hid (rfA B = ([], 2)) := by show rfA B = _; unfold rfA; rw [if_pos (by rw [HL.out]; omega)]
    go_enter Tryz.func173, Tryz.ntmps173
    go_wp2_with fail
    go_ret2
    exact ⟨_, _, _, rfl, F.out, World.ownsRow_nil _ _ _ _, Below.refl _ _⟩
  have T1 : Hid (¬ 65536 < B.length) := by show ¬ 65536 < B.length; rw [HL.out]; omega
  go_enter Tryz.func173, Tryz.ntmps173
  go_wp2_with fail
  refine (cutFields a n c B _ HL.out (by omega) HC.out.1 HC.out.2 HB.out HH.out).mono ?_
  rintro e w1 (⟨hcut, rfl, hb1⟩ | ⟨l, p, v, ad, cc, hcut, hp, rfl, o1, hb1⟩)
  · have F : Hid (rfA B = ([], 3)) := by show rfA B = _; unfold rfA; rw [if_neg T1.out, hcut]
    have B1 : Hid (Below w.heap.size w w1) := hb1
    clear hcut hb1
    go_wp2_with fail
    go_ret2
    exact ⟨_, _, _, rfl, F.out, World.ownsRow_nil _ _ _ _, B1.out⟩
  · have B1 : Hid (Below w.heap.size w w1) := hb1
    have O1 : Hid (w1.ownsRow w.heap.size 9 1 v l.length (cellsS l)) := o1
    by_cases hpn : p = n
    · have F : Hid (rfA B = (l, 0)) := by
        show rfA B = _
        unfold rfA
        rw [if_neg T1.out, hcut]
        show (if p = B.length then (l, (0 : Int)) else ([], 3)) = _
        rw [if_pos (by rw [HL.out]; exact hpn)]
      obtain ⟨m, hm⟩ : ∃ m, n - p = m := ⟨_, rfl⟩
      have hm0 : m = 0 := by omega
      rw [hm]
      subst hm0
      clear hcut hb1 o1 hpn hm
      go_wp2_with fail
      go_ret2
      exact ⟨_, _, _, rfl, F.out, O1.out, B1.out⟩
    · have F : Hid (rfA B = ([], 3)) := by
        show rfA B = _
        unfold rfA
        rw [if_neg T1.out, hcut]
        show (if p = B.length then (l, (0 : Int)) else ([], 3)) = _
        rw [if_neg (by rw [HL.out]; exact hpn)]
      obtain ⟨m, hm⟩ : ∃ m, n - p = m := ⟨_, rfl⟩
      have hm0 : (0 : Int) < (m : Int) := by omega
      rw [hm]
      clear hcut hb1 o1 hpn hm
      go_wp2_with fail
      go_ret2
      exact ⟨_, _, _, rfl, F.out, World.ownsRow_nil _ _ _ _, B1.out⟩
def numOf (L : List Nat) : Nat := L.foldl (fun a b => a * 256 + b) 0
theorem numOf_snoc (L : List Nat) (x : Nat) : numOf (L ++ [x]) = numOf L * 256 + x := by simp [numOf]
theorem fold_lt : ∀ (L : List Nat) (a : Nat), (∀ x ∈ L, x < 256) → L.foldl (fun a b => a * 256 + b) a < (a + 1) * 256 ^ L.length
  | [], a, _ => by simp
  | x :: L, a, h => by
    have h1 := fold_lt L (a * 256 + x) (fun y hy => h y (by simp [hy]))
    have h2 := h x (by simp)
    have h3 : (a * 256 + x + 1) * 256 ^ L.length ≤ (a + 1) * 256 * 256 ^ L.length := Nat.mul_le_mul_right _ (by omega)
    rw [List.foldl_cons, List.length_cons, Nat.pow_succ, Nat.mul_comm (256 ^ L.length) 256, ← Nat.mul_assoc]
    omega
theorem numOf_lt (L : List Nat) (h : ∀ x ∈ L, x < 256) : numOf L < 256 ^ L.length := by
  have := fold_lt L 0 h
  simpa [numOf] using this
theorem bytes_lt (s : ByteArray) : ∀ x ∈ bytesOf s, x < 256 := by
  intro x hx
  unfold bytesOf at hx
  rw [List.mem_map] at hx
  obtain ⟨b, _, rfl⟩ := hx
  exact b.toNat_lt
theorem bytesOf_get (s : ByteArray) (k : Nat) (h : k < s.size) : (bytesOf s).getD k 0 = s[k].toNat := by
  rw [List.getD_eq_getElem?_getD]
  unfold bytesOf
  rw [List.getElem?_map, Array.getElem?_toList, Array.getElem?_eq_getElem (by exact h)]
  rfl
theorem bytes_take (s : ByteArray) (k : Nat) (h : k < s.size) : (bytesOf s).take (k + 1) = (bytesOf s).take k ++ [s[k].toNat] := by
  rw [List.take_succ_eq_append_getElem (by rw [bytesOf_length]; exact h)]
  congr 2
  have := bytesOf_get s k h
  rw [List.getD_eq_getElem?_getD, List.getElem?_eq_getElem (by rw [bytesOf_length]; exact h)] at this
  exact this
set_option maxHeartbeats 400000 in
theorem l01Of (s : ByteArray) (w : World) (hs : s.size ≤ 4) :
    Calls Tryz.prog 122 #[.string s] w fun e w' => e = .returned (.int .i64 ((numOf (bytesOf s) : Nat) : Int)) ∧ w' = w := by
  go_enter Tryz.func122, Tryz.ntmps122
  go_wp2_with fail
  go_loop [3, 4] (fun n i => ∃ k x : Nat, k ≤ s.size ∧ i = .int .i64 k ∧ n = .int .i64 (x : Int) ∧ x < 4294967296 ∧ Hid (x = numOf ((bytesOf s).take k))) (fun _ i => s.size - (intOf i).toNat)
  case atStart => exact ⟨0, 0, Nat.zero_le _, rfl, rfl, by omega, rfl⟩
  case round =>
    obtain ⟨k, x, hk, rfl, rfl, hx, hn⟩ := hrel
    by_cases hlt : k < s.size
    · have HN : Hid (x * 256 + s[k].toNat = numOf ((bytesOf s).take (k + 1))) := by
        show _ = _
        rw [bytes_take s k hlt, numOf_snoc, hn.out]
      have hB : Hid (x * 256 + s[k].toNat < 4294967296) := by
        show _ < _
        rw [HN.out]
        have h1 := numOf_lt ((bytesOf s).take (k + 1)) (fun y hy => bytes_lt s y (List.mem_of_mem_take hy))
        have h2 : ((bytesOf s).take (k + 1)).length ≤ 4 := by have := List.length_take_le (k + 1) (bytesOf s); omega
        have h3 : 256 ^ ((bytesOf s).take (k + 1)).length ≤ 256 ^ 4 := Nat.pow_le_pow_right (by omega) h2
        omega
      have hb8 : s[k].toNat < 256 := s[k].toNat_lt
      go_wp2_with fail
      go_round
      case rel => exact ⟨k + 1, x * 256 + s[k].toNat, by omega, by go_num, by go_num, hB.out, HN⟩
      case measure => simp [intOf]; omega
    · have hE : Hid (x = numOf (bytesOf s)) := by
        have := hn.out
        rw [List.take_of_length_le (by rw [bytesOf_length]; omega)] at this
        exact this
      go_wp2_with fail
      go_ret
      exact ⟨by show Ending.returned (.int .i64 (x : Int)) = _; rw [hE.out], rfl⟩
theorem ba_ext {s t : ByteArray} (h : s.data.toList = t.data.toList) : s = t := by
  cases s; cases t
  congr 1
  exact Array.ext' h
theorem strB_bytes (s : ByteArray) : strB (bytesOf s) = s := by
  apply ba_ext
  unfold strB bytesOf
  rw [strOfNums_data, List.map_map, List.map_map]
  conv => rhs; rw [← List.map_id s.data.toList]
  refine List.map_congr_left fun b _ => ?_
  show UInt8.ofNat (((b.toNat : Nat) : Int).toNat) = b
  simp
theorem bytes_strB (L : List Nat) (h : ∀ x ∈ L, x < 256) : bytesOf (strB L) = L := by
  unfold strB bytesOf
  rw [strOfNums_data, List.map_map, List.map_map]
  conv => rhs; rw [← List.map_id L]
  refine List.map_congr_left fun b hb => ?_
  show (UInt8.ofNat (((b : Nat) : Int).toNat)).toNat = b
  have := h b hb
  simp
  omega
theorem extract_sub (s : ByteArray) (i j : Nat) : s.extract i j = strB (((bytesOf s).drop i).take (j - i)) := by
  apply ba_ext
  rw [Lib.extract_data]
  unfold strB bytesOf
  rw [strOfNums_data, ← List.map_drop, ← List.map_take, List.map_map, List.map_map]
  conv => lhs; rw [← List.map_id ((s.data.toList.drop i).take (j - i))]
  refine List.map_congr_left fun b _ => ?_
  show b = UInt8.ofNat (((b.toNat : Nat) : Int).toNat)
  simp
theorem bytes_extract (s : ByteArray) (i j : Nat) : bytesOf (s.extract i j) = ((bytesOf s).drop i).take (j - i) := by
  rw [extract_sub, bytes_strB _ (fun x hx => bytes_lt s x (List.mem_of_mem_drop (List.mem_of_mem_take hx)))]
theorem take_two (B : List Nat) (p : Nat) (h : p + 2 ≤ B.length) : (B.drop p).take 2 = [B.getD p 0, B.getD (p + 1) 0] := by
  have h1 : p < B.length := by omega
  have h2 : p + 1 < B.length := by omega
  have e1 : B.getD p 0 = B[p] := by simp [h1]
  have e2 : B.getD (p + 1) 0 = B[p + 1] := by simp [h2]
  rw [e1, e2, List.drop_eq_getElem_cons h1, List.drop_eq_getElem_cons h2, List.take_succ_cons, List.take_succ_cons, List.take_zero]
def rdA (B : List Nat) : Option (List ByteArray) := match cutA B with
  | none => none
  | some (l, p) => if p = B.length then some l else none
theorem rfA_rdA (B : List Nat) (h : ¬ 65536 < B.length) : rfA B = match rdA B with | none => ([], 3) | some l => (l, 0) := by
  unfold rfA rdA
  rw [if_neg h]
  cases cutA B with
  | none => rfl
  | some lp =>
    obtain ⟨l, p⟩ := lp
    show (if p = B.length then (l, (0 : Int)) else ([], 3)) = match (if p = B.length then some l else none) with | none => ([], 3) | some l => (l, 0)
    by_cases e : p = B.length
    · rw [if_pos e, if_pos e]
    · rw [if_neg e, if_neg e]
theorem cut_text (W : World) (s : ByteArray) (i j : Nat) (x y : Int) (h1 : i ≤ j) (h2 : j ≤ s.size) (hx : x = (i : Int)) (hy : y = (j : Int)) : (Instr.slice 9 (.string s) (some (.int .i64 x)) (some (.int .i64 y)) none).run Tryz.prog W = .ok (.string (s.extract i j)) W := by
  subst hx hy
  have := run_slice_string (P := Tryz.prog) W 9 s .i64 .i64 (i : Int) (j : Int) Tryz.underlying9 (by omega) (by omega) (by omega)
  simpa using this
set_option maxHeartbeats 2000000 in
theorem l01Read (s : ByteArray) (w : World) (hs : s.size ≤ 1048576) :
    Calls Tryz.prog 121 #[.string s] w fun e w' => (rdA (bytesOf s) = none ∧ ∃ v, e = .returned (.tuple #[v, .bool false]) ∧ w'.ownsRow w.heap.size 9 1 v 0 [] ∧ Below w.heap.size w w') ∨
      (∃ l v, rdA (bytesOf s) = some l ∧ e = .returned (.tuple #[v, .bool true]) ∧ w'.ownsRow w.heap.size 9 1 v l.length (cellsS l) ∧ Below w.heap.size w w') := by
  obtain ⟨B, hB0⟩ : ∃ B, bytesOf s = B := ⟨_, rfl⟩
  have HB : Hid (bytesOf s = B) := hB0
  have HL : Hid (B.length = s.size) := by show B.length = _; rw [← hB0, bytesOf_length]
  rw [hB0]
  clear hB0
  by_cases t0 : s.size = 0
  · have F : Hid (rdA B = none) := by show rdA B = none; unfold rdA cutA; rw [if_pos (.inl (by rw [HL.out]; exact t0))]
    have hs0 : s = ⟨#[]⟩ := by apply ba_ext; exact List.eq_nil_of_length_eq_zero (by simpa using t0)
    subst hs0
    go_enter Tryz.func121, Tryz.ntmps121
    go_wp2_with fail
    go_ret2
    exact .inl ⟨F.out, _, rfl, own_empty rfl (Nat.le_refl _), (Below.refl _ _).alloc (Nat.le_refl _) _⟩
  have h0 : 0 < s.size := by omega
  have hne : (s.toList == ([] : List UInt8)) = false := by
    rw [Lib.toList_data]
    cases hd : s.data.toList with
    | nil => exact absurd (by simpa using congrArg List.length hd) t0
    | cons x l => rfl
  obtain ⟨z, hz⟩ : ∃ z, s[0].toNat = z := ⟨_, rfl⟩
  have hz8 : z < 256 := by rw [← hz]; exact s[0].toNat_lt
  have HZ : Hid (B.getD 0 0 = z) := by show B.getD 0 0 = z; rw [← HB.out, bytesOf_get s 0 h0, hz]
  by_cases t1 : (200 : Int) < (z : Int)
  · have F : Hid (rdA B = none) := by show rdA B = none; unfold rdA cutA; rw [if_pos (.inr (by rw [HZ.out]; omega))]
    go_enter Tryz.func121, Tryz.ntmps121
    go_wp2_with fail
    go_ret2
    exact .inl ⟨F.out, _, rfl, own_empty rfl (Nat.le_refl _), (Below.refl _ _).alloc (Nat.le_refl _) _⟩
  have CA : Hid (cutA B = rdSt B z) := by
    show cutA B = _
    unfold cutA
    rw [if_neg, HZ.out]
    rw [HL.out, HZ.out]
    omega
  have NO : Hid (∀ k, k ≤ z → rdSt B k = none → rdA B = none) := fun k hk h => by
    unfold rdA
    rw [CA.out, rdSt_none h z hk]
  go_enter Tryz.func121, Tryz.ntmps121
  go_wp2_with fail
  go_loopw [4, 5, 6] (fun lv av i wr => ∃ (k p r : Nat) (u : Value) (l : List ByteArray), u = lv ∧ av = .int .i64 (p : Int) ∧ i = .int .i64 (r : Int) ∧ k + r ≤ z ∧ z ≤ k + r ∧ p ≤ s.size ∧ Hid (rdSt B k = some (l, p)) ∧ Hid (l.length = k) ∧ Hid (Below w.heap.size w wr) ∧ Hid (wr.ownsRow w.heap.size 9 1 u k (cellsS l))) (fun _ _ i _ => (intOf i).toNat)
  case atStart => exact ⟨0, 1, z, _, [], rfl, rfl, rfl, by omega, by omega, by omega, rfl, rfl, (Below.refl _ _).alloc (Nat.le_refl _) _, own_empty rfl (Nat.le_refl _)⟩
  case round =>
    obtain ⟨k, p, r, u, l, hu, rfl, rfl, hkz, hkz2, hps, R, LK, hB, HW⟩ := hrel
    subst hu
    by_cases hlt : 0 < r
    · have hri : (0 : Int) < (r : Int) := by omega
      by_cases t2 : (s.size : Int) < (p : Int) + 2
      · have F : Hid (rdA B = none) := NO.out (k + 1) (by omega) (rd_cut R.out (by rw [HL.out]; omega))
        go_wp2_with fail
        go_ret2
        exact .inl ⟨F.out, _, rfl, own_empty rfl hB.out.size, hB.out.alloc hB.out.size _⟩
      have T2 : Hid (¬ B.length < p + 2) := by show ¬ B.length < p + 2; rw [HL.out]; omega
      obtain ⟨q, hq⟩ : ∃ q, szAt B p = q := ⟨_, rfl⟩
      have HQ : Hid (numOf (bytesOf (s.extract p (p + 2))) = q) := by
        show _ = q
        rw [bytes_extract, HB.out, show p + 2 - p = 2 from by omega, take_two B p (by rw [HL.out]; omega), ← hq]
        simp [numOf, szAt]
      have SZ : Hid (szAt B p = q) := hq
      have hx2 : (s.extract p (p + 2)).size = 2 := by rw [ByteArray.size_extract]; omega
      have hq9 : q < 65536 := by
        rw [← HQ.out]
        have := numOf_lt (bytesOf (s.extract p (p + 2))) (bytes_lt _)
        rw [bytesOf_length, hx2] at this
        exact this
      have XL : Hid ((s.extract p (p + 2)).size ≤ 4) := by show (s.extract p (p + 2)).size ≤ 4; omega
      clear hq hx2
      have hsl : ∀ W : World, (Instr.slice 9 (.string s) (some (.int .i64 (p : Int))) (some (.int .i64 ((p : Int) + 2))) none).run Tryz.prog W = .ok (.string (s.extract p (p + 2))) W := fun W => cut_text W s p (p + 2) _ _ (by omega) (by omega) rfl (by omega)
      go_wp2_with fail
      clear hsl
      refine (l01Of (s.extract p (p + 2)) _ XL.out).mono ?_
      rintro e w1 ⟨rfl, rfl⟩
      rw [HQ.out]
      by_cases t3 : (300 : Int) < (q : Int)
      · have F : Hid (rdA B = none) := NO.out (k + 1) (by omega) (rd_big R.out T2.out (by rw [SZ.out]; omega))
        go_wp2_with fail
        go_ret2
        exact .inl ⟨F.out, _, rfl, own_empty rfl hB.out.size, hB.out.alloc hB.out.size _⟩
      by_cases t4 : (s.size : Int) < (p : Int) + 2 + (q : Int)
      · have F : Hid (rdA B = none) := NO.out (k + 1) (by omega) (rd_short R.out T2.out (by rw [SZ.out]; omega) (by rw [SZ.out, HL.out]; omega))
        go_wp2_with fail
        go_ret2
        exact .inl ⟨F.out, _, rfl, own_empty rfl hB.out.size, hB.out.alloc hB.out.size _⟩
      have RM : Hid (rdSt B (k + 1) = some (l ++ [s.extract (p + 2) (p + 2 + q)], p + 2 + q)) := by
        show rdSt B (k + 1) = _
        have := rd_more R.out T2.out (by rw [SZ.out]; omega) (by rw [SZ.out, HL.out]; omega)
        rw [SZ.out] at this
        rw [this, extract_sub, HB.out, show p + 2 + q - (p + 2) = q from by omega]
        rfl
      have XR : Hid (w.heap.size ≤ w1.heap.size) := hB.out.size
      have hlt3 : Hid (∀ g, Value.ownBlock u = some g → w.heap.size ≤ g ∧ g < w1.heap.size) := fun g e => HW.out.lt g e
      have hsl : ∀ W : World, (Instr.slice 9 (.string s) (some (.int .i64 ((p : Int) + 2))) (some (.int .i64 ((p : Int) + 2 + (q : Int)))) none).run Tryz.prog W = .ok (.string (s.extract (p + 2) (p + 2 + q))) W := fun W => cut_text W s (p + 2) (p + 2 + q) _ _ (by omega) (by omega) (by omega) (by omega)
      go_wp2_with (at_builtin; refine wpList_append_src _ rfl _ _ 22 rfl w.heap.size 9 (.string ⟨#[]⟩) 1 16 Tryz.underlying22 infoS rfl (by decide) (by decide) u k (cellsS l) rfl (HW.out.alloc _) (some ⟨w1.heap.size, 0, none⟩) 1 1 (cellsS [s.extract (p + 2) (p + 2 + q)]) rfl rfl (src_oneS rfl) (cellsS_one _) (by omega) (le_alloc XR.out _) ?_)
      clear hsl
      intro v2 w2 hown2 hgrow2
      have B2 : Hid (Below w.heap.size w w2) := (hB.out.alloc hB.out.size _).grown hgrow2 (le_alloc hB.out.size _) (fun g e => (hlt3.out g e).1)
      have O2 : Hid (w2.ownsRow w.heap.size 9 1 v2 (k + 1) (cellsS (l ++ [s.extract (p + 2) (p + 2 + q)]))) := own_congr hown2 (by rw [cellsS_append])
      clear hown2 hgrow2
      go_wp2_with fail
      exact ⟨⟨k + 1, p + 2 + q, r - 1, _, _, rfl, by go_num, by go_num, by omega, by omega, by omega, RM, by show _ = _; rw [List.length_append, LK.out]; rfl, B2, O2⟩, by simp [intOf]; omega⟩
    · have hkn : k = z := by omega
      have hr0 : r = 0 := by omega
      have C : Hid (cutA B = some (l, p)) := by show cutA B = _; rw [CA.out, ← hkn]; exact R.out
      have HO : Hid (wr.ownsRow w.heap.size 9 1 u l.length (cellsS l)) := by have := HW.out; rw [← LK.out] at this; exact this
      subst hr0
      clear hkn
      by_cases t5 : p = s.size
      · have F : Hid (rdA B = some l) := by
          show rdA B = _
          unfold rdA
          rw [C.out]
          show (if p = B.length then some l else none) = _
          rw [if_pos (by rw [HL.out]; exact t5)]
        have t6 : ((p : Int) != (s.size : Int)) = false := by simp; omega
        clear t5
        go_wp2_with fail
        go_ret2
        exact .inr ⟨l, _, F.out, rfl, HO.out, hB.out⟩
      · have F : Hid (rdA B = none) := by
          show rdA B = _
          unfold rdA
          rw [C.out]
          show (if p = B.length then some l else none) = _
          rw [if_neg (by rw [HL.out]; exact t5)]
        have t6 : ((p : Int) != (s.size : Int)) = true := by simp; omega
        clear t5
        go_wp2_with fail
        go_ret2
        exact .inl ⟨F.out, _, rfl, own_empty rfl hB.out.size, hB.out.alloc hB.out.size _⟩
theorem cut_small {B : List Nat} {l : List ByteArray} {p : Nat} (h : cutA B = some (l, p)) : l.length ≤ 200 := by
  unfold cutA at h
  by_cases h1 : B.length = 0 ∨ 200 < B.getD 0 0
  · rw [if_pos h1] at h; cases h
  · rw [if_neg h1] at h
    have := rd_len h
    omega
theorem rf_small {B : List Nat} {R : List ByteArray} {q : Int} (h : rfA B = (R, q)) : R.length ≤ 1048576 := by
  unfold rfA at h
  by_cases h1 : 65536 < B.length
  · rw [if_pos h1] at h; cases h; decide
  rw [if_neg h1] at h
  cases hc : cutA B with
  | none => rw [hc] at h; cases h; decide
  | some lp =>
    obtain ⟨l, p⟩ := lp
    have hl := cut_small hc
    rw [hc] at h
    change (if p = B.length then (l, (0 : Int)) else ([], 3)) = (R, q) at h
    by_cases h2 : p = B.length
    · rw [if_pos h2] at h; cases h; omega
    · rw [if_neg h2] at h; cases h; decide
end Go.Proofs.YtnnimocaanofjaaGreatDoor
