/-
  Texts of the store, brought together: Sow. By an AI agent.
-/
import Derived.Test.YtnnimocaanofjaaGreatDoorSt23
import Derived.Test.YtnnimocaanofjaaGreatDoorSt27
/-
  The newest superblock of a disk, by the specification. By an AI agent.
-/
namespace Go.Proofs.YtnnimocaanofjaaGreatDoor
open Go.ChangeShapes Go.WideShapes Go.ChangeAt Go.RowKit Go.Deep
set_option linter.unusedVariables false
set_option maxRecDepth 100000

abbrev W3 (w : World) (B : Nat) (v0 v1 v2 : Value) : World := ((w.setCell ⟨B, 0, none⟩ v0).setCell ⟨B, 1, none⟩ v1).setCell ⟨B, 2, none⟩ v2
theorem Box.w3in {w : World} {B : Nat} {z0 z1 z2 : Value} (h : Box w B [z0, z1, z2]) (v0 v1 v2 : Value) :
    (w.cell? ⟨B, 0, none⟩ = some z0 ∧ w.frozen? ⟨B, 0, none⟩ = false) ∧
    ((w.setCell ⟨B, 0, none⟩ v0).cell? ⟨B, 1, none⟩ = some z1 ∧ (w.setCell ⟨B, 0, none⟩ v0).frozen? ⟨B, 1, none⟩ = false) ∧
    (((w.setCell ⟨B, 0, none⟩ v0).setCell ⟨B, 1, none⟩ v1).cell? ⟨B, 2, none⟩ = some z2 ∧ ((w.setCell ⟨B, 0, none⟩ v0).setCell ⟨B, 1, none⟩ v1).frozen? ⟨B, 2, none⟩ = false) ∧
    ((W3 w B v0 v1 v2).cell? ⟨B, 0, none⟩ = some v0 ∧ (W3 w B v0 v1 v2).cell? ⟨B, 1, none⟩ = some v1 ∧ (W3 w B v0 v1 v2).cell? ⟨B, 2, none⟩ = some v2) :=
  ⟨h 0 _ rfl, (h.set 0 v0) 1 _ rfl, ((h.set 0 v0).set 1 v1) 2 _ rfl, ((((h.set 0 v0).set 1 v1).set 2 v2) 0 _ rfl).1, ((((h.set 0 v0).set 1 v1).set 2 v2) 1 _ rfl).1, ((((h.set 0 v0).set 1 v1).set 2 v2) 2 _ rfl).1⟩
theorem Below.w3 {b B : Nat} {a w : World} (h : Below b a w) (hB : b ≤ B) (v0 v1 v2 : Value) : Below b a (W3 w B v0 v1 v2) :=
  Below.setCell (p := ⟨B, 2, none⟩) (Below.setCell (p := ⟨B, 1, none⟩) (Below.setCell (p := ⟨B, 0, none⟩) h hB v0) hB v1) hB v2
theorem size_w3 (w : World) (B : Nat) (v0 v1 v2 : Value) : (W3 w B v0 v1 v2).heap.size = w.heap.size := by simp [W3]
theorem OwnsU.w3 {w : World} {lo hi B : Nat} {v : Value} {U : UM} (h : OwnsU w lo hi v U) (hB : B < lo) (v0 v1 v2 : Value) : OwnsU (W3 w B v0 v1 v2) lo hi v U := by
  obtain ⟨v1', rfl, h1, h2⟩ := h
  exact ⟨v1', rfl, own_setLow (own_setLow (own_setLow h1 hB _) hB _) hB _, h2⟩
/-- The right superblock that lies at a sector, as it is read. -/
def supAt (D : DM) (j : Nat) : Option UM := superR (bytesOf (lastOr (byS D.C j) (D.S.getD j e0)))
def newestM : Option UM → Option UM → Option UM
  | some x, some y => if y.G < x.G then some x else some y
  | some x, none => some x
  | none, b => b
/-- What l04Read gives, with its parts told. -/
def ReadL (w : World) (lo : Nat) (m : Option UM) (g r : Int) (a : Option Addr) (k c : Nat) (b : Bool) : Prop := (b = false ∧ m = none) ∨ (b = true ∧ ∃ U, m = some U ∧ U.G = g ∧ OwnsU w lo w.heap.size (.agg #[.int .i64 g, .int .i64 r, .slice a k c]) U)
theorem ReadL.below {w w' : World} {lo : Nat} {m : Option UM} {g r : Int} {a : Option Addr} {k c : Nat} {b : Bool} (h : ReadL w lo m g r a k c b) (hb : Below w.heap.size w w') : ReadL w' lo m g r a k c b := by
  rcases h with h | ⟨h1, U, h2, h3, h4⟩
  · exact .inl h
  · exact .inr ⟨h1, U, h2, h3, (h4.below hb).mono (Nat.le_refl _) hb.size⟩
theorem l04ReadL (s : ByteArray) (w : World) (hs : s.size ≤ 65536) :
    Calls Tryz.prog 79 #[.string s] w fun e w' => ∃ g r a k c b, e = .returned (.tuple #[.agg #[.int .i64 g, .int .i64 r, .slice a k c], .bool b]) ∧ ReadL w' w.heap.size (superR (bytesOf s)) g r a k c b ∧ Below w.heap.size w w' := by
  refine (l04Read s w hs).mono ?_
  rintro e w' ⟨⟨h1, g, r, a, k, c, rfl⟩ | ⟨U, u, h1, rfl, h2⟩, hb⟩
  · exact ⟨g, r, a, k, c, false, rfl, .inl ⟨rfl, h1⟩, hb⟩
  · obtain ⟨a, c, rfl⟩ := h2.lit
    exact ⟨U.G, U.R, a, _, c, true, rfl, .inr ⟨rfl, U, h1, rfl, h2⟩, hb⟩
theorem last_size {D : DM} {j : Nat} (h : okD D) (hj : j < D.S.length) : (lastOr (byS D.C j) (D.S.getD j e0)).size ≤ 420 := by
  have h1 := applyW_small D.S D.C 420 h.1.2.2 (fun p hp => (h.2.1.2 p hp).2.2)
  rw [← applyW_get D.S D.C j hj]
  exact h1 _ (getD_mem _ _ _ (by rw [applyW_length]; exact hj))
theorem ReadL.fin {w : World} {lo lo' B : Nat} {m : Option UM} {g r : Int} {a : Option Addr} {k c : Nat} {b : Bool} (h : ReadL w lo m g r a k c b) (o : Obj) (hB : B < lo) (hl : lo' ≤ lo) (v0 v1 v2 : Value) : ReadL (W3 (w.alloc o) B v0 v1 v2) lo' m g r a k c b := by
  rcases h.below ((Below.refl _ _).alloc (Nat.le_refl _) o) with h | ⟨h1, U, h2, h3, h4⟩
  · exact .inl h
  · exact .inr ⟨h1, U, h2, h3, (h4.w3 hB v0 v1 v2).mono hl (by rw [size_w3]; exact Nat.le_refl _)⟩
theorem newest_b {m n : Option UM} (h : m = none) : newestM m n = n := by subst h; rfl
theorem newest_a {m n : Option UM} {U : UM} (h : m = some U) (h2 : n = none) : newestM m n = m := by subst h; subst h2; rfl
theorem newest_two {m n : Option UM} {U V : UM} (h : m = some U) (h2 : n = some V) : newestM m n = if V.G < U.G then m else n := by subst h; subst h2; rfl
set_option maxHeartbeats 2000000 in
theorem specNewest (v : Value) (D : DM) (w : World) (hs : smallD D) (hok : okD D) (h2 : 2 ≤ D.S.length) (h : ReadsD w v D) :
    Calls Tryz.prog 34 #[v] w fun e w' => ∃ g r a k c b, e = .returned (.tuple #[.agg #[.int .i64 g, .int .i64 r, .slice a k c], .bool b]) ∧ ReadL w' w.heap.size (newestM (supAt D 0) (supAt D 1)) g r a k c b ∧ Below w.heap.size w w' := by
  have HR : Hid (ReadsD w v D ∧ smallD D ∧ okD D ∧ 2 ≤ D.S.length) := ⟨h, hs, hok, h2⟩
  have PP : Hid (∀ p ∈ D.C, 0 ≤ p.1) := fun p hp => (hok.2.1.2 p hp).1
  obtain ⟨a1, c1, a2, c2, a3, c3, rfl, _⟩ := h
  clear hs hok h2
  have B0 : Hid (Below w.heap.size w ((w.alloc (.cells #[.slice a1 D.S.length c1, .slice a2 D.C.length c2, .bool D.A, .slice a3 D.K.length c3] 39)).alloc (.cells #[.int .i64 0, .int .i64 0, .slice none 0 0] 42))) := ((Below.refl _ _).alloc (Nat.le_refl _) _).alloc (by simp) _
  go_enter Tryz.func34, Tryz.ntmps34
  go_wp2_with fail
  refine (l02Read _ D 0 _ HR.out.2.1 (by have h9 := HR.out.2.2.2; omega) PP.out (HR.out.1.below B0.out)).mono ?_
  rintro e w1 ⟨rfl, hb⟩
  have B1 : Hid (Below w.heap.size w w1) := B0.out.trans (hb.mono B0.out.size)
  have X1 : Hid (Box w1 w.heap.size [.slice a1 D.S.length c1, .slice a2 D.C.length c2, .bool D.A, .slice a3 D.K.length c3]) := Box.below ((Box.new rfl).old _) hb
  have Y1 : Hid (Box w1 (w.heap.size + 1) [.int .i64 0, .int .i64 0, .slice none 0 0]) := Box.below (Box.new (by simp)) hb
  clear hb B0
  go_wp2_with fail
  refine (l04ReadL _ _ (Nat.le_trans (last_size HR.out.2.2.1 (by have h9 := HR.out.2.2.2; omega)) (by omega))).mono ?_
  rintro e w2 ⟨g2, r2, b2, k2, d2, o2, rfl, hr, hb⟩
  have Z1 : Hid (w.heap.size + 2 ≤ w1.heap.size ∧ w1.heap.size ≤ w2.heap.size) := ⟨World.block_lt_of_cell? _ _ (Y1.out 0 _ rfl).1, hb.size⟩
  have B2 : Hid (Below w.heap.size w w2) := B1.out.trans (hb.mono B1.out.size)
  have X2 : Hid (Box w2 w.heap.size [.slice a1 D.S.length c1, .slice a2 D.C.length c2, .bool D.A, .slice a3 D.K.length c3]) := X1.out.below hb
  have Y2 : Hid (Box w2 (w.heap.size + 1) [.int .i64 0, .int .i64 0, .slice none 0 0]) := Y1.out.below hb
  have R2 : Hid (ReadL w2 w1.heap.size (supAt D 0) g2 r2 b2 k2 d2 o2) := hr
  have A2 : Hid (Below w2.heap.size w2 (w2.alloc (.cells #[.int .i64 g2, .int .i64 r2, .slice b2 k2 d2] 42))) := (Below.refl _ _).alloc (Nat.le_refl _) _
  clear hb hr X1 Y1 B1
  obtain ⟨p0, _⟩ := (X2.out.below A2.out) 0 _ rfl
  obtain ⟨p1, _⟩ := (X2.out.below A2.out) 1 _ rfl
  obtain ⟨p2, _⟩ := (X2.out.below A2.out) 2 _ rfl
  obtain ⟨p3, _⟩ := (X2.out.below A2.out) 3 _ rfl
  go_wp2_with fail
  refine (l02Read _ D 1 _ HR.out.2.1 (by have h9 := HR.out.2.2.2; omega) PP.out (HR.out.1.below (B2.out.trans (A2.out.mono B2.out.size)))).mono ?_
  rintro e w3 ⟨rfl, hb⟩
  have H3 : Hid (Below w2.heap.size w2 w3) := Below.new hb
  have V3 : Hid (Box w3 w2.heap.size [.int .i64 g2, .int .i64 r2, .slice b2 k2 d2]) := Box.below (Box.new rfl) hb
  clear hb p0 p1 p2 p3
  go_wp2_with fail
  refine (l04ReadL _ _ (Nat.le_trans (last_size HR.out.2.2.1 (by have h9 := HR.out.2.2.2; omega)) (by omega))).mono ?_
  rintro e w4 ⟨g4, r4, b4, k4, d4, o4, rfl, hr, hb⟩
  have H4 : Hid (Below w2.heap.size w2 w4) := H3.out.trans (hb.mono H3.out.size)
  have B4 : Hid (Below w.heap.size w w4) := B2.out.trans (H4.out.mono B2.out.size)
  have Y4 : Hid (Box w4 (w.heap.size + 1) [.int .i64 0, .int .i64 0, .slice none 0 0]) := Y2.out.below H4.out
  have V4 : Hid (Box w4 w2.heap.size [.int .i64 g2, .int .i64 r2, .slice b2 k2 d2]) := V3.out.below hb
  have R4 : Hid (ReadL w4 w3.heap.size (supAt D 1) g4 r4 b4 k4 d4 o4) := hr
  have S4 : Hid (ReadL w4 w1.heap.size (supAt D 0) g2 r2 b2 k2 d2 o2) := R2.out.below H4.out
  have Z3 : Hid (w.heap.size + 2 ≤ w3.heap.size) := by show _ ≤ _; have h8 := Z1.out; have h7 := H3.out.size; omega
  clear hb hr R2 X2 Y2 V3 H3 H4 B2 A2
  cases o2 with
  | false =>
    have NM : Hid (newestM (supAt D 0) (supAt D 1) = supAt D 1) := by
      rcases S4.out with ⟨_, h⟩ | ⟨h, _⟩
      · exact newest_b h
      · cases h
    cases o4 with
    | false =>
      obtain ⟨⟨f0, h0⟩, ⟨f1, h1⟩, ⟨f2, h2⟩, s0, s1, s2⟩ := (Y4.out.old (.cells #[.int .i64 g4, .int .i64 r4, .slice b4 k4 d4] 42)).w3in (.int .i64 g4) (.int .i64 r4) (.slice b4 k4 d4)
      obtain ⟨p0, _⟩ := (V4.out.old (.cells #[.int .i64 g4, .int .i64 r4, .slice b4 k4 d4] 42)) 0 _ rfl
      obtain ⟨p1, _⟩ := (V4.out.old (.cells #[.int .i64 g4, .int .i64 r4, .slice b4 k4 d4] 42)) 1 _ rfl
      obtain ⟨p2, _⟩ := (V4.out.old (.cells #[.int .i64 g4, .int .i64 r4, .slice b4 k4 d4] 42)) 2 _ rfl
      go_wp2_with fail
      exact bodyPost_ret (v := .tuple #[.agg #[.int .i64 g4, .int .i64 r4, .slice b4 k4 d4], .bool false]) (by simp [results, Tryz.results34, go_sem, s0, s1, s2]) rfl ⟨g4, r4, b4, k4, d4, _, rfl, (by rw [NM.out]; exact R4.out.fin (B := w.heap.size + 1) (lo' := w.heap.size) (.cells #[.int .i64 g4, .int .i64 r4, .slice b4 k4 d4] 42) (by have h9 := Z3.out; omega) (by have h9 := Z3.out; omega) _ _ _), Below.w3 (B4.out.alloc B4.out.size _) (by omega) _ _ _⟩
    | true =>
      obtain ⟨⟨f0, h0⟩, ⟨f1, h1⟩, ⟨f2, h2⟩, s0, s1, s2⟩ := (Y4.out.old (.cells #[.int .i64 g4, .int .i64 r4, .slice b4 k4 d4] 42)).w3in (.int .i64 g4) (.int .i64 r4) (.slice b4 k4 d4)
      obtain ⟨p0, _⟩ := (V4.out.old (.cells #[.int .i64 g4, .int .i64 r4, .slice b4 k4 d4] 42)) 0 _ rfl
      obtain ⟨p1, _⟩ := (V4.out.old (.cells #[.int .i64 g4, .int .i64 r4, .slice b4 k4 d4] 42)) 1 _ rfl
      obtain ⟨p2, _⟩ := (V4.out.old (.cells #[.int .i64 g4, .int .i64 r4, .slice b4 k4 d4] 42)) 2 _ rfl
      go_wp2_with fail
      exact bodyPost_ret (v := .tuple #[.agg #[.int .i64 g4, .int .i64 r4, .slice b4 k4 d4], .bool true]) (by simp [results, Tryz.results34, go_sem, s0, s1, s2]) rfl ⟨g4, r4, b4, k4, d4, _, rfl, (by rw [NM.out]; exact R4.out.fin (B := w.heap.size + 1) (lo' := w.heap.size) (.cells #[.int .i64 g4, .int .i64 r4, .slice b4 k4 d4] 42) (by have h9 := Z3.out; omega) (by have h9 := Z3.out; omega) _ _ _), Below.w3 (B4.out.alloc B4.out.size _) (by omega) _ _ _⟩
  | true =>
    obtain ⟨U2, e2, gU⟩ : ∃ U, supAt D 0 = some U ∧ U.G = g2 := by
      rcases S4.out with ⟨h, _⟩ | ⟨_, U, h, h3, _⟩
      · cases h
      · exact ⟨U, h, h3⟩
    cases o4 with
    | false =>
      have NM : Hid (newestM (supAt D 0) (supAt D 1) = supAt D 0) := by
        rcases R4.out with ⟨_, h⟩ | ⟨h, _⟩
        · exact newest_a e2 h
        · cases h
      clear e2 gU
      obtain ⟨⟨f0, h0⟩, ⟨f1, h1⟩, ⟨f2, h2⟩, s0, s1, s2⟩ := (Y4.out.old (.cells #[.int .i64 g4, .int .i64 r4, .slice b4 k4 d4] 42)).w3in (.int .i64 g2) (.int .i64 r2) (.slice b2 k2 d2)
      obtain ⟨p0, _⟩ := (V4.out.old (.cells #[.int .i64 g4, .int .i64 r4, .slice b4 k4 d4] 42)) 0 _ rfl
      obtain ⟨p1, _⟩ := (V4.out.old (.cells #[.int .i64 g4, .int .i64 r4, .slice b4 k4 d4] 42)) 1 _ rfl
      obtain ⟨p2, _⟩ := (V4.out.old (.cells #[.int .i64 g4, .int .i64 r4, .slice b4 k4 d4] 42)) 2 _ rfl
      go_wp2_with fail
      exact bodyPost_ret (v := .tuple #[.agg #[.int .i64 g2, .int .i64 r2, .slice b2 k2 d2], .bool true]) (by simp [results, Tryz.results34, go_sem, s0, s1, s2]) rfl ⟨g2, r2, b2, k2, d2, _, rfl, (by rw [NM.out]; exact S4.out.fin (B := w.heap.size + 1) (lo' := w.heap.size) (.cells #[.int .i64 g4, .int .i64 r4, .slice b4 k4 d4] 42) (by have h9 := Z1.out; omega) (by have h9 := Z1.out; omega) _ _ _), Below.w3 (B4.out.alloc B4.out.size _) (by omega) _ _ _⟩
    | true =>
      obtain ⟨U4, e4, gV⟩ : ∃ U, supAt D 1 = some U ∧ U.G = g4 := by
        rcases R4.out with ⟨h, _⟩ | ⟨_, U, h, h3, _⟩
        · cases h
        · exact ⟨U, h, h3⟩
      by_cases hg : g4 < g2
      · have NM : Hid (newestM (supAt D 0) (supAt D 1) = supAt D 0) := by
          show _ = _
          rw [newest_two e2 e4, if_pos (by rw [gU, gV]; exact hg)]
        clear e2 gU e4 gV
        obtain ⟨⟨f0, h0⟩, ⟨f1, h1⟩, ⟨f2, h2⟩, s0, s1, s2⟩ := (Y4.out.old (.cells #[.int .i64 g4, .int .i64 r4, .slice b4 k4 d4] 42)).w3in (.int .i64 g2) (.int .i64 r2) (.slice b2 k2 d2)
        obtain ⟨p0, _⟩ := (V4.out.old (.cells #[.int .i64 g4, .int .i64 r4, .slice b4 k4 d4] 42)) 0 _ rfl
        obtain ⟨p1, _⟩ := (V4.out.old (.cells #[.int .i64 g4, .int .i64 r4, .slice b4 k4 d4] 42)) 1 _ rfl
        obtain ⟨p2, _⟩ := (V4.out.old (.cells #[.int .i64 g4, .int .i64 r4, .slice b4 k4 d4] 42)) 2 _ rfl
        go_wp2_with fail
        exact bodyPost_ret (v := .tuple #[.agg #[.int .i64 g2, .int .i64 r2, .slice b2 k2 d2], .bool true]) (by simp [results, Tryz.results34, go_sem, s0, s1, s2]) rfl ⟨g2, r2, b2, k2, d2, _, rfl, (by rw [NM.out]; exact S4.out.fin (B := w.heap.size + 1) (lo' := w.heap.size) (.cells #[.int .i64 g4, .int .i64 r4, .slice b4 k4 d4] 42) (by have h9 := Z1.out; omega) (by have h9 := Z1.out; omega) _ _ _), Below.w3 (B4.out.alloc B4.out.size _) (by omega) _ _ _⟩
      · have NM : Hid (newestM (supAt D 0) (supAt D 1) = supAt D 1) := by
          show _ = _
          rw [newest_two e2 e4, if_neg (by rw [gU, gV]; exact hg)]
        clear e2 gU e4 gV
        obtain ⟨⟨f0, h0⟩, ⟨f1, h1⟩, ⟨f2, h2⟩, s0, s1, s2⟩ := (Y4.out.old (.cells #[.int .i64 g4, .int .i64 r4, .slice b4 k4 d4] 42)).w3in (.int .i64 g4) (.int .i64 r4) (.slice b4 k4 d4)
        obtain ⟨p0, _⟩ := (V4.out.old (.cells #[.int .i64 g4, .int .i64 r4, .slice b4 k4 d4] 42)) 0 _ rfl
        obtain ⟨p1, _⟩ := (V4.out.old (.cells #[.int .i64 g4, .int .i64 r4, .slice b4 k4 d4] 42)) 1 _ rfl
        obtain ⟨p2, _⟩ := (V4.out.old (.cells #[.int .i64 g4, .int .i64 r4, .slice b4 k4 d4] 42)) 2 _ rfl
        go_wp2_with fail
        exact bodyPost_ret (v := .tuple #[.agg #[.int .i64 g4, .int .i64 r4, .slice b4 k4 d4], .bool true]) (by simp [results, Tryz.results34, go_sem, s0, s1, s2]) rfl ⟨g4, r4, b4, k4, d4, _, rfl, (by rw [NM.out]; exact R4.out.fin (B := w.heap.size + 1) (lo' := w.heap.size) (.cells #[.int .i64 g4, .int .i64 r4, .slice b4 k4 d4] 42) (by have h9 := Z3.out; omega) (by have h9 := Z3.out; omega) _ _ _), Below.w3 (B4.out.alloc B4.out.size _) (by omega) _ _ _⟩
end Go.Proofs.YtnnimocaanofjaaGreatDoor

