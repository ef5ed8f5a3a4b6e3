/-
  Texts of the store, brought together: Son, Rnl. By an AI agent.
-/
import Derived.Test.YtnnimocaanofjaaGreatDoorSq24
namespace Go.Proofs.YtnnimocaanofjaaGreatDoor
open Go.ChangeShapes Go.WideShapes Go.ChangeAt Go.RowKit Go.Deep
set_option linter.unusedVariables false
set_option linter.unusedSimpArgs false
set_option maxRecDepth 100000
def newTo (S : List ByteArray) : Nat → Option UM
  | 0 => none
  | k + 1 => newestM (newTo S k) (superR (bytesOf (S.getD k e0)))
theorem readU_code {B : List Nat} {D : UM} {q : Int} (h : readU B = (D, q)) (hB : B.length ≤ 65536) : (q = 0 ∧ superR B = some D) ∨ (q ≠ 0 ∧ superR B = none) := by
  unfold readU at h
  rw [if_neg (by omega)] at h
  by_cases h1 : sealedB B = false
  · rw [if_pos h1] at h
    cases h
    exact .inr ⟨by decide, superR_open h1⟩
  · rw [if_neg h1] at h
    cases h2 : superR B with
    | none => rw [h2] at h; cases h; exact .inr ⟨by decide, rfl⟩
    | some U => rw [h2] at h; cases h; exact .inl ⟨rfl, rfl⟩
def NewAt (w : World) (B lo : Nat) (m : Option UM) (b : Bool) : Prop := ∃ g r a k c, Box w B [.int .i64 g, .int .i64 r, .slice a k c] ∧ ((b = false ∧ m = none) ∨ (b = true ∧ ∃ U, m = some U ∧ U.G = g ∧ OwnsU w lo w.heap.size (.agg #[.int .i64 g, .int .i64 r, .slice a k c]) U))
theorem NewAt.below {w w' : World} {B lo : Nat} {m : Option UM} {b : Bool} (h : NewAt w B lo m b) (hb : Below w.heap.size w w') : NewAt w' B lo m b := by
  obtain ⟨g, r, a, k, c, h1, h2⟩ := h
  refine ⟨g, r, a, k, c, h1.below hb, ?_⟩
  rcases h2 with h | ⟨e, U, h3, h4, h5⟩
  · exact .inl h
  · exact .inr ⟨e, U, h3, h4, (h5.below hb).mono (Nat.le_refl _) hb.size⟩
def ReadLV (w : World) (lo : Nat) (m : Option UM) (g r : Int) (a : Option Addr) (k c : Nat) (x : Value) : Prop := ∃ b, x = .bool b ∧ ReadL w lo m g r a k c b
theorem conv_textC (t : ByteArray) (w : World) (ht : t.size ≤ 65536) : ∃ cap W, (convert 9 74 (.string t)).run Tryz.prog w = .ok (.slice (some ⟨w.heap.size, 0, none⟩) t.size cap) W ∧ Below w.heap.size w W ∧ Src W (some ⟨w.heap.size, 0, none⟩) (cellsB (bytesOf t)) ∧ t.size ≤ cap ∧ cap ≤ maxLen := by
  refine ⟨_, _, Lib.run_convert_string_bytes w 9 74 5 t Tryz.underlying9 Tryz.underlying74 Tryz.underlying5, ⟨rfl, rfl, rfl, by rw [Lib.bytesWorld_size]; omega, fun j hj => Lib.bytesWorld_at_old w 5 t j hj⟩, .inr ⟨w.heap.size, 0, rfl, fun j hj => ?_⟩, grownCap_ge _ _ _ _, grownCap_le_maxLen _ _ _ _ (by unfold maxLen; omega)⟩
  rw [cellsB_length, bytesOf_length] at hj
  rw [Nat.zero_add, Lib.bytesWorld_cell w 5 t j hj, getD_some (cellsB_get (bytesOf t) j (by rw [bytesOf_length]; exact hj))]
  unfold bytesOf
  rw [List.getD_eq_getElem?_getD, List.getD_eq_getElem?_getD, List.getElem?_map]
  rw [List.getElem?_eq_getElem (by simpa using hj)]
  rfl
theorem bytesOf_lt (s : ByteArray) : ∀ x ∈ bytesOf s, x < 256 := fun x hx => by
  unfold bytesOf at hx
  obtain ⟨b, _, rfl⟩ := List.mem_map.1 hx
  exact b.toNat_lt
theorem newest_none {m n : Option UM} (h2 : n = none) : newestM m n = m := by subst h2; cases m <;> rfl
set_option maxHeartbeats 4000000 in
theorem implNewest (a : Option Addr) (n c : Nat) (S : List ByteArray) (w : World) (hS : S.length = n) (hn : n ≤ 80) (hz : ∀ x ∈ S, x.size ≤ 420) (h : Src w a (cellsS S)) (hH : HasHalf w) :
    Calls Tryz.prog 100 #[.slice a n c] w fun e w' => ∃ g r a k c x, e = .returned (.tuple #[.agg #[.int .i64 g, .int .i64 r, .slice a k c], x]) ∧ ReadLV w' (w.heap.size + 1) (newTo S n) g r a k c x ∧ Below w.heap.size w w' := by
  have SS : Hid (Src w a (cellsS S)) := h
  have HN : Hid (S.length = n ∧ (∀ x ∈ S, x.size ≤ 420)) := ⟨hS, hz⟩
  have HT : Hid (HasHalf w) := hH
  clear hS hz h hH
  go_enter Tryz.func100, Tryz.ntmps100
  go_wp2_with fail
  have B0 : Hid (Below w.heap.size w (w.alloc (.cells #[.int .i64 0, .int .i64 0, .slice none 0 0] 42))) := (Below.refl _ _).alloc (Nat.le_refl _) _
  have N0 : Hid (NewAt (w.alloc (.cells #[.int .i64 0, .int .i64 0, .slice none 0 0] 42)) w.heap.size (w.heap.size + 1) (newTo S 0) false) := ⟨0, 0, none, 0, 0, Box.new rfl, .inl ⟨rfl, rfl⟩⟩
  go_loopw [3, 10] (fun bv iv wr => ∃ (k : Nat) (b : Bool), bv = .bool b ∧ iv = .int .i64 (k : Int) ∧ k ≤ n ∧ Hid (Below w.heap.size w wr) ∧ Hid (NewAt wr w.heap.size (w.heap.size + 1) (newTo S k) b)) (fun _ i _ => n - (intOf i).toNat)
  case atStart => exact ⟨0, false, rfl, rfl, by omega, B0.out, N0.out⟩
  case round =>
    clear B0 N0
    obtain ⟨k, b, rfl, rfl, hk, hb, hN⟩ := hrel
    by_cases hlt : k < n
    · obtain ⟨b1, o1, x, rfl, q0, hx⟩ := srcS (SS.out.below hb.out) (i := k) (by rw [HN.out.1]; exact hlt)
      have hk0 : (0 : Int) ≤ (k : Int) := by omega
      have hki : (k : Int) < (n : Int) := by omega
      have XZ : Hid (x.size ≤ 420 ∧ newTo S (k + 1) = newestM (newTo S k) (superR (bytesOf x))) := by
        refine ⟨?_, by show newestM _ _ = _; rw [hx.out]⟩
        rw [← hx.out]
        exact HN.out.2 _ (getD_mem _ _ _ (by rw [HN.out.1]; exact hlt))
      obtain ⟨xl, hxl⟩ : ∃ l, x.size = l := ⟨_, rfl⟩
      have XL : Hid (x.size = xl) := hxl
      have xl420 : xl ≤ 420 := by rw [← hxl]; exact XZ.out.1
      obtain ⟨cap, w2, hcv, hb2, hs2, hc1, hc2⟩ := conv_textC x wr (by have h9 := XZ.out.1; omega)
      rw [hxl] at hcv hc1
      have S2 : Hid (Src w2 (some ⟨wr.heap.size, 0, none⟩) (cellsB (bytesOf x)) ∧ xl ≤ cap ∧ cap ≤ maxLen) := ⟨hs2, hc1, hc2⟩
      have H2 : Hid (Below wr.heap.size wr w2) := hb2
      clear hb2 hs2 hc1 hc2 hxl
      go_wp2_with fail
      refine (implReadSuper wr.heap.size 0 xl cap (bytesOf x) _ (by rw [bytesOf_length, XL.out]) (by omega) S2.out.2.1 S2.out.2.2 (bytesOf_lt x) S2.out.1 (HT.out.below (hb.out.trans (H2.out.mono hb.out.size)))).mono ?_
      rintro e w3 ⟨u3, U3, q3, rfl, hq, o3, hb3⟩
      have H3 : Hid (Below wr.heap.size wr w3) := H2.out.trans (hb3.mono H2.out.size)
      have B3 : Hid (Below w.heap.size w w3) := hb.out.trans (H3.out.mono hb.out.size)
      have N3 : Hid (NewAt w3 w.heap.size (w.heap.size + 1) (newTo S k) b) := hN.out.below H3.out
      obtain ⟨a3, c3, rfl⟩ := o3.lit
      obtain ⟨g3, hg3⟩ : ∃ g, U3.G = g := ⟨_, rfl⟩
      obtain ⟨r3, hr3⟩ : ∃ r, U3.R = r := ⟨_, rfl⟩
      obtain ⟨k3, hk3⟩ : ∃ k, U3.S.length = k := ⟨_, rfl⟩
      rw [hg3, hr3, hk3] at o3
      have LZ : Hid (w.heap.size + 1 ≤ w2.heap.size) := by
        obtain ⟨g, r, a', k', c', hx9, _⟩ := hN.out
        have h8 := World.block_lt_of_cell? _ _ (hx9 0 _ rfl).1
        have h7 := H2.out.size
        show _ ≤ _
        dsimp only at h8
        omega
      have O3 : Hid (OwnsU w3 (w.heap.size + 1) w3.heap.size (.agg #[.int .i64 g3, .int .i64 r3, .slice a3 k3 c3]) U3 ∧ U3.G = g3) := ⟨o3.mono LZ.out (Nat.le_refl _), hg3⟩
      have Q3 : Hid ((q3 = 0 ∧ superR (bytesOf x) = some U3) ∨ (q3 ≠ 0 ∧ superR (bytesOf x) = none)) := readU_code hq (by rw [bytesOf_length]; have h9 := XZ.out.1; omega)
      rw [hg3, hr3, hk3]
      clear hq o3 hb3 hg3 hr3 hk3 hcv hb hN H2 S2 q0
      have A3 : Hid (Below w3.heap.size w3 (w3.alloc (.cells #[.int .i64 g3, .int .i64 r3, .slice a3 k3 c3] 42))) := (Below.refl _ _).alloc (Nat.le_refl _) _
      by_cases hq0 : q3 = 0
      · have EQ : Hid (superR (bytesOf x) = some U3) := by
          rcases Q3.out with ⟨_, h⟩ | ⟨h, _⟩
          · exact h
          · exact absurd hq0 h
        subst hq0
        obtain ⟨g, r, a', k', c', hx9, hm⟩ := N3.out
        have X3 : Hid (Box w3 w.heap.size [.int .i64 g, .int .i64 r, .slice a' k' c']) := hx9
        have TK : Hid (∀ (e9 : newTo S (k + 1) = some U3), NewAt (W3 (w3.alloc (.cells #[.int .i64 g3, .int .i64 r3, .slice a3 k3 c3] 42)) w.heap.size (.int .i64 g3) (.int .i64 r3) (.slice a3 k3 c3)) w.heap.size (w.heap.size + 1) (newTo S (k + 1)) true) := fun e9 => by
          refine ⟨g3, r3, a3, k3, c3, (((X3.out.below A3.out).set 0 _).set 1 _).set 2 _, .inr ⟨rfl, U3, e9, O3.out.2, ?_⟩⟩
          exact ((O3.out.1.below A3.out).w3 (by omega) _ _ _).mono (Nat.le_refl _) (by rw [size_w3]; exact A3.out.size)
        have BK : Hid (Below w.heap.size w (W3 (w3.alloc (.cells #[.int .i64 g3, .int .i64 r3, .slice a3 k3 c3] 42)) w.heap.size (.int .i64 g3) (.int .i64 r3) (.slice a3 k3 c3))) := Below.w3 (B3.out.alloc B3.out.size _) (Nat.le_refl _) _ _ _
        obtain ⟨⟨f0, h0⟩, ⟨f1, h1⟩, ⟨f2, h2⟩, s0, s1, s2⟩ := (X3.out.below A3.out).w3in (.int .i64 g3) (.int .i64 r3) (.slice a3 k3 c3)
        cases b with
        | false =>
          have E9 : Hid (newTo S (k + 1) = some U3) := by
            show _ = _
            rcases hm with ⟨_, h⟩ | ⟨h, _⟩
            · rw [XZ.out.2, newest_b h, EQ.out]
            · cases h
          clear hm hx9
          go_wp2_with fail
          exact ⟨⟨k + 1, true, rfl, by go_num, by omega, BK.out, TK.out E9.out⟩, by simp [intOf]; omega⟩
        | true =>
          obtain ⟨Um, em, gm, om⟩ : ∃ U, newTo S k = some U ∧ U.G = g ∧ OwnsU w3 (w.heap.size + 1) w3.heap.size (.agg #[.int .i64 g, .int .i64 r, .slice a' k' c']) U := by
            rcases hm with ⟨h, _⟩ | ⟨_, U, h, h3, h4⟩
            · cases h
            · exact ⟨U, h, h3, h4⟩
          have EM : Hid (newTo S k = some Um ∧ Um.G = g ∧ OwnsU w3 (w.heap.size + 1) w3.heap.size (.agg #[.int .i64 g, .int .i64 r, .slice a' k' c']) Um) := ⟨em, gm, om⟩
          clear hm hx9 em gm om
          by_cases hge : g ≤ g3
          · have E9 : Hid (newTo S (k + 1) = some U3) := by
              show _ = _
              rw [XZ.out.2, newest_two EM.out.1 EQ.out, if_neg (by rw [O3.out.2, EM.out.2.1]; omega), EQ.out]
            have hge2 : decide (g ≤ g3) = true := decide_eq_true hge
            go_wp2_with fail
            exact ⟨⟨k + 1, true, rfl, by go_num, by omega, BK.out, TK.out E9.out⟩, by simp [intOf]; omega⟩
          · have hge2 : decide (g ≤ g3) = false := decide_eq_false hge
            have KP : Hid (NewAt (w3.alloc (.cells #[.int .i64 g3, .int .i64 r3, .slice a3 k3 c3] 42)) w.heap.size (w.heap.size + 1) (newTo S (k + 1)) true) := by
              have e9 : newTo S (k + 1) = newTo S k := by rw [XZ.out.2, newest_two EM.out.1 EQ.out, if_pos (by rw [O3.out.2, EM.out.2.1]; omega)]
              rw [e9]
              exact N3.out.below A3.out
            go_wp2_with fail
            exact ⟨⟨k + 1, true, rfl, by go_num, by omega, B3.out.alloc B3.out.size _, KP.out⟩, by simp [intOf]; omega⟩
      · have KP : Hid (NewAt (w3.alloc (.cells #[.int .i64 g3, .int .i64 r3, .slice a3 k3 c3] 42)) w.heap.size (w.heap.size + 1) (newTo S (k + 1)) b) := by
          have e9 : newTo S (k + 1) = newTo S k := by
            rw [XZ.out.2]
            rcases Q3.out with ⟨h, _⟩ | ⟨_, h⟩
            · exact absurd h hq0
            · exact newest_none h
          rw [e9]
          exact N3.out.below A3.out
        have hq1 : (q3 == 0) = false := by simpa using hq0
        go_wp2_with fail
        exact ⟨⟨k + 1, b, rfl, by go_num, by omega, B3.out.alloc B3.out.size _, KP.out⟩, by simp [intOf]; omega⟩
    · have hkn : ¬ (k : Int) < (n : Int) := by omega
      obtain rfl : k = n := by omega
      obtain ⟨g, r, a', k', c', hx9, hm⟩ := hN.out
      have X3 : Hid (Box wr w.heap.size [.int .i64 g, .int .i64 r, .slice a' k' c']) := hx9
      have M3 : Hid ((b = false ∧ newTo S k = none) ∨ (b = true ∧ ∃ U, newTo S k = some U ∧ U.G = g ∧ OwnsU wr (w.heap.size + 1) wr.heap.size (.agg #[.int .i64 g, .int .i64 r, .slice a' k' c']) U)) := hm
      clear hm hx9
      obtain ⟨p0, _⟩ := X3.out 0 _ rfl
      obtain ⟨p1, _⟩ := X3.out 1 _ rfl
      obtain ⟨p2, _⟩ := X3.out 2 _ rfl
      obtain ⟨⟨f0, h0⟩, ⟨f1, h1⟩, ⟨f2, h2⟩, s0, s1, s2⟩ := X3.out.w3in (.int .i64 g) (.int .i64 r) (.slice a' k' c')
      go_wp2_with fail
      refine bodyPost_ret (v := .tuple #[.agg #[.int .i64 g, .int .i64 r, .slice a' k' c'], .bool b]) (by simp [results, Tryz.results100, go_sem, s0, s1, s2]) rfl ⟨g, r, a', k', c', .bool b, rfl, ⟨b, rfl, ?_⟩, Below.w3 hb.out (Nat.le_refl _) _ _ _⟩
      rcases M3.out with h | ⟨h1, U, h2, h3, h4⟩
      · exact .inl h
      · exact .inr ⟨h1, U, h2, h3, (h4.w3 (by omega) _ _ _).mono (Nat.le_refl _) (by rw [size_w3]; exact Nat.le_refl _)⟩
def pairUp : List ByteArray → List PM
  | x :: y :: l => (x, y) :: pairUp l
  | _ => []
theorem pairUp_get : ∀ (j : Nat) (l : List ByteArray) (x y : ByteArray), l[2 * j]? = some x → l[2 * j + 1]? = some y → (pairUp l)[j]? = some (x, y)
  | 0, x' :: y' :: l, x, y, h1, h2 => by
    simp at h1 h2
    simp [pairUp, h1, h2]
  | 0, [x'], x, y, h1, h2 => by simp at h2
  | 0, [], x, y, h1, h2 => by simp at h1
  | j + 1, x' :: y' :: l, x, y, h1, h2 => by
    have e1 : 2 * (j + 1) = 2 * j + 1 + 1 := by omega
    rw [e1] at h1 h2
    simp only [List.getElem?_cons_succ] at h1 h2
    show (pairUp l)[j]? = _
    exact pairUp_get j l x y h1 h2
  | j + 1, [x'], x, y, h1, h2 => by simp at h2
  | j + 1, [], x, y, h1, h2 => by simp at h1
theorem pairUp_length : ∀ (l : List ByteArray), (pairUp l).length = l.length / 2
  | [] => rfl
  | [_] => by simp [pairUp]
  | x :: y :: l => by
    show (pairUp l).length + 1 = _
    rw [pairUp_length l]
    simp only [List.length_cons]
    omega
def leafN (l : List ByteArray) : Option NM := if l.length % 2 = 0 then some ⟨true, pairUp l, [], []⟩ else none
theorem src_onePm {w : World} {x y : ByteArray} {B : Nat} (hB : B = w.heap.size) : Src (w.alloc (.cells #[.string x, .string y] 109)) (some ⟨B, 0, none⟩) (cellsP [(x, y)]) := by
  have hb : Box (w.alloc (.cells #[.string x, .string y] 109)) B [.string x, .string y] := Box.new hB
  refine .inr ⟨B, 0, rfl, fun j hj => ?_⟩
  have hj2 : j < 2 := hj
  rw [Nat.zero_add]
  match j, hj2 with
  | 0, _ => exact (hb 0 _ rfl).1
  | 1, _ => exact (hb 1 _ rfl).1
set_option maxHeartbeats 2000000 in
theorem leafOf (la : Option Addr) (m lc : Nat) (l : List ByteArray) (w : World) (hL : l.length = m) (hm : m ≤ 1048576) (h : Src w la (cellsS l)) :
    Calls Tryz.prog 178 #[.slice la m lc] w fun e w' => ((leafN l = none ∧ e = .returned (.tuple #[.agg #[.bool false, .slice none 0 0, .slice none 0 0, .slice none 0 0], .bool false])) ∨ (∃ D u, leafN l = some D ∧ e = .returned (.tuple #[u, .bool true]) ∧ OwnsN w' w.heap.size w'.heap.size u D)) ∧ Below w.heap.size w w' := by
  have HM : Hid (l.length = m) := hL
  have S1 : Hid (Src w la (cellsS l)) := h
  obtain ⟨q, hq⟩ : ∃ q, m % 2 = q := ⟨_, rfl⟩
  have R : Int.tmod (m : Int) 2 = (q : Int) := by
    rw [← hq, Int.tmod_eq_emod_of_nonneg (by omega)]
    omega
  have hq2 : q < 2 := by omega
  have HQ : Hid (m % 2 = q) := hq
  clear hL h hq
  by_cases t1 : q = 0
  case neg =>
    have F : Hid (leafN l = none) := by show _ = _; unfold leafN; rw [if_neg]; rw [HM.out, HQ.out]; exact t1
    have t2 : ((q : Int) != 0) = true := by simp; omega
    go_enter Tryz.func178, Tryz.ntmps178
    go_wp2_with fail
    exact bodyPost_ret (v := .tuple #[.agg #[.bool false, .slice none 0 0, .slice none 0 0, .slice none 0 0], .bool false]) (by simp [results, Tryz.results178, go_sem]) rfl ⟨.inl ⟨F.out, rfl⟩, (Below.refl _ _).alloc (Nat.le_refl _) _⟩
  subst t1
  go_enter Tryz.func178, Tryz.ntmps178
  go_wp2_with fail
  go_loopw [5] (fun iv wr => ∃ (i j : Nat) (u : Value), i ≤ m ∧ iv = .int .i64 (i : Int) ∧ Hid (i = 2 * j) ∧ Hid (Below w.heap.size w wr) ∧ Hid (Box wr w.heap.size [.bool false, .slice none 0 0, .slice none 0 0, .slice none 0 0]) ∧ Hid (Box wr (w.heap.size + 1) [.bool true, u, .slice none 0 0, .slice none 0 0]) ∧ Hid (wr.ownsRow (w.heap.size + 2) 109 2 u j (cellsP ((pairUp l).take j)))) (fun i _ => m - (intOf i).toNat)
  case atStart => exact ⟨0, 0, _, by omega, rfl, rfl, ((Below.refl _ _).alloc (Nat.le_refl _) _).alloc (by simp) _, Box.old (Box.new rfl) _, Box.new (by simp), World.ownsRow_nil _ _ _ _⟩
  case round =>
    obtain ⟨i, j, u, hi, rfl, hj, hb, hz, hx, ho⟩ := hrel
    obtain ⟨ua, uc, rfl, _, _⟩ := own_src ho.out
    by_cases hlt : i < m
    · have hlt2 : i + 1 < m := by have h1 := hj.out; have h2 := HQ.out; omega
      have hki : (i : Int) < (m : Int) := by omega
      have hki1 : (i : Int) + 1 < (m : Int) := by omega
      have hk0 : (0 : Int) ≤ (i : Int) := by omega
      have hk01 : (0 : Int) ≤ (i : Int) + 1 := by omega
      have htn : ((i : Int) + 1).toNat = i + 1 := by omega
      have hwr1 : IntKind.i64.wrap ((i : Int) + 1) = (i : Int) + 1 := by rw [IntKind.wrap_i64]; omega
      obtain ⟨lb, lo, x, rfl, xc, hx0⟩ := srcS (S1.out.below hb.out) (i := i) (by rw [HM.out]; exact hlt)
      obtain ⟨lb', lo', y, e9, yc, hy0⟩ := srcS (S1.out.below hb.out) (i := i + 1) (by rw [HM.out]; exact hlt2)
      cases e9
      have NX : Hid ((pairUp l).take (j + 1) = (pairUp l).take j ++ [(x, y)]) := by
        show _ = _
        rw [List.take_add_one, pairUp_get j l x y ?_ ?_]
        · rfl
        · rw [← hj.out, List.getElem?_eq_getElem (by rw [HM.out]; exact hlt)]
          have h9 := hx0.out
          rw [List.getD_eq_getElem?_getD, List.getElem?_eq_getElem (by rw [HM.out]; exact hlt)] at h9
          exact congrArg some h9
        · rw [← hj.out, List.getElem?_eq_getElem (by rw [HM.out]; exact hlt2)]
          have h9 := hy0.out
          rw [List.getD_eq_getElem?_getD, List.getElem?_eq_getElem (by rw [HM.out]; exact hlt2)] at h9
          exact congrArg some h9
      have hj9 : j ≤ 1048576 := by have := hj.out; omega
      have ZB : Hid (w.heap.size + 2 ≤ wr.heap.size) := World.block_lt_of_cell? _ _ (hx.out 0 _ rfl).1
      obtain ⟨e2, _⟩ := hx.out 1 _ rfl
      have XA : Hid (Box (wr.alloc (.cells #[.string x, .string y] 109)) (w.heap.size + 1) [.bool true, .slice ua j uc, .slice none 0 0, .slice none 0 0]) := hx.out.old _
      have ZA : Hid (Box (wr.alloc (.cells #[.string x, .string y] 109)) w.heap.size [.bool false, .slice none 0 0, .slice none 0 0, .slice none 0 0]) := hz.out.old _
      obtain ⟨e2', _⟩ := XA.out 1 _ rfl
      have BA : Hid (Below w.heap.size w (wr.alloc (.cells #[.string x, .string y] 109)).drew) := (hb.out.alloc hb.out.size _).drew
      have RW : Hid ((wr.alloc (.cells #[.string x, .string y] 109)).drew.ownsRow (w.heap.size + 2) 109 2 (.slice ua j uc) j (cellsP ((pairUp l).take j))) := ho.out.alloc _
      have BS : Hid (w.heap.size + 2 ≤ (wr.alloc (.cells #[.string x, .string y] 109)).drew.heap.size) := le_alloc ZB.out _
      have RLT : Hid (∀ g, Value.ownBlock (.slice ua j uc) = some g → w.heap.size + 2 ≤ g ∧ g < wr.heap.size) := fun g e => ho.out.lt g e
      clear hx0 hy0 hx ho
      go_wp2_with fail
      go_region_law (refine step_append_src rfl (.tmp 19) (.tmp 30) 59 rfl (w.heap.size + 2) 109 (.agg #[.string ⟨#[]⟩, .string ⟨#[]⟩]) 2 32 Tryz.underlying59 infoP rfl (by decide) (by decide) (.slice ua j uc) j (cellsP ((pairUp l).take j)) (by simp [Act.eval]) RW.out ⟨wr.heap.size, 0, none⟩ 1 1 (cellsP [(x, y)]) (by simp [Act.eval]) rfl (show Src (wr.alloc (.cells #[.string x, .string y] 109)) _ _ from src_onePm rfl) (cellsP_one _) (by omega) (by decide) BS.out ?_; intro v' w' hown hgrow hnew; obtain ⟨b', d', rfl, _, _⟩ := own_src hown; have XG : Hid (Box w' (w.heap.size + 1) [.bool true, .slice ua j uc, .slice none 0 0, .slice none 0 0]) := (Box.grown (w := (wr.alloc (.cells #[.string x, .string y] 109)).drew) XA.out hgrow (fun e => by have := (RLT.out _ e).1; omega)); have ZG : Hid (Box w' w.heap.size [.bool false, .slice none 0 0, .slice none 0 0, .slice none 0 0]) := (Box.grown (w := (wr.alloc (.cells #[.string x, .string y] 109)).drew) ZA.out hgrow (fun e => by have := (RLT.out _ e).1; omega)); obtain ⟨pw, pf⟩ := XG.out 1 _ rfl; have OG : Hid (w'.ownsRow (w.heap.size + 2) 109 2 (.slice b' (j + 1) d') (j + 1) (cellsP ((pairUp l).take (j + 1)))) := (by rw [NX.out, cellsP_append]; exact hown); have BG : Hid (Below w.heap.size w w') := (BA.out.grown hgrow BA.out.size (fun g e => by have := (RLT.out g e).1; omega)); clear hown hgrow hnew)
      all_goals go_wp2_with fail
      all_goals exact ⟨⟨i + 2, j + 1, _, by omega, by go_num, (by have := hj.out; show _ = _; omega), BG.out.setCell (by dsimp only; omega) _, ZG.out.other _ (by dsimp only; omega) _, XG.out.set 1 _, own_setLow OG.out (by dsimp only; omega) _⟩, by simp [intOf]; omega⟩
    · have him : i = m := by omega
      have hki : ¬ (i : Int) < (m : Int) := by omega
      have EP : Hid ((pairUp l).length = j ∧ (pairUp l).take j = pairUp l) := by
        have h9 : (pairUp l).length = j := by rw [pairUp_length, HM.out]; have := hj.out; omega
        exact ⟨h9, List.take_of_length_le (by omega)⟩
      have F : Hid (leafN l = some ⟨true, pairUp l, [], []⟩) := by show _ = _; unfold leafN; rw [if_pos]; rw [HM.out, HQ.out]
      obtain ⟨s0, _⟩ := hx.out 0 _ rfl
      obtain ⟨s1, _⟩ := hx.out 1 _ rfl
      obtain ⟨s2, _⟩ := hx.out 2 _ rfl
      obtain ⟨s3, _⟩ := hx.out 3 _ rfl
      obtain ⟨p0, pf0⟩ := (hz.out) 0 _ rfl
      obtain ⟨p1, pf1⟩ := ((hz.out).set 0 (.bool true)) 1 _ rfl
      obtain ⟨p2, pf2⟩ := (((hz.out).set 0 (.bool true)).set 1 (.slice ua j uc)) 2 _ rfl
      obtain ⟨p3, pf3⟩ := ((((hz.out).set 0 (.bool true)).set 1 (.slice ua j uc)).set 2 (.slice none 0 0)) 3 _ rfl
      have X8 := ((((hz.out).set 0 (.bool true)).set 1 (.slice ua j uc)).set 2 (.slice none 0 0)).set 3 (.slice none 0 0)
      obtain ⟨r0, _⟩ := X8 0 _ rfl
      obtain ⟨r1, _⟩ := X8 1 _ rfl
      obtain ⟨r2, _⟩ := X8 2 _ rfl
      obtain ⟨r3, _⟩ := X8 3 _ rfl
      clear X8
      have BE : Hid (Below w.heap.size w ((((wr.setCell ⟨w.heap.size, 0, none⟩ (.bool true)).setCell ⟨w.heap.size, 1, none⟩ (.slice ua j uc)).setCell ⟨w.heap.size, 2, none⟩ (.slice none 0 0)).setCell ⟨w.heap.size, 3, none⟩ (.slice none 0 0))) := (((hb.out.setCell (Nat.le_refl _) _).setCell (Nat.le_refl _) _).setCell (Nat.le_refl _) _).setCell (Nat.le_refl _) _
      have OE : Hid (OwnsN ((((wr.setCell ⟨w.heap.size, 0, none⟩ (.bool true)).setCell ⟨w.heap.size, 1, none⟩ (.slice ua j uc)).setCell ⟨w.heap.size, 2, none⟩ (.slice none 0 0)).setCell ⟨w.heap.size, 3, none⟩ (.slice none 0 0)) w.heap.size ((((wr.setCell ⟨w.heap.size, 0, none⟩ (.bool true)).setCell ⟨w.heap.size, 1, none⟩ (.slice ua j uc)).setCell ⟨w.heap.size, 2, none⟩ (.slice none 0 0)).setCell ⟨w.heap.size, 3, none⟩ (.slice none 0 0)).heap.size (.agg #[.bool true, .slice ua j uc, .slice none 0 0, .slice none 0 0]) ⟨true, pairUp l, [], []⟩) := by
        refine OwnsN.mk rfl ?_ (World.ownsRow_nil _ _ _ _) (World.ownsRow_nil _ _ _ _) (Nat.le_refl _)
        show World.ownsRow _ _ _ _ _ (pairUp l).length _
        rw [EP.out.1]
        have h9 := ho.out
        rw [EP.out.2] at h9
        refine own_mono (own_setLow (own_setLow (own_setLow (own_setLow h9 ?_ _) ?_ _) ?_ _) ?_ _) (by omega) <;> (dsimp only; omega)
      clear him
      go_wp2_with fail
      exact bodyPost_ret (v := .tuple #[.agg #[.bool true, .slice ua j uc, .slice none 0 0, .slice none 0 0], .bool true]) (by simp [results, Tryz.results178, go_sem, r0, r1, r2, r3]) rfl ⟨.inr ⟨_, F.out, _, rfl, OE.out⟩, BE.out⟩
end Go.Proofs.YtnnimocaanofjaaGreatDoor
