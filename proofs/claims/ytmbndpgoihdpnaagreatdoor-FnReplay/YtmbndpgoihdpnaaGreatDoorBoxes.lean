
/-
  Structs in memory, and appends of what a slice, nil or not, leads to. By an AI agent.
-/
import Derived.Test.YtmbndpgoihdpnaaGreatDoorLists2
import Derived.Deep.RegionLaw
import Derived.ArgAppend
namespace Go.Proofs.YtmbndpgoihdpnaaGreatDoor
open Go.ChangeShapes Go.WideShapes Go.ChangeAt Go.RowKit Go.Deep
set_option linter.unusedVariables false

theorem offs_ne {B a b : Nat} (h : a ≠ b) : (⟨B, a, none⟩ : Addr) ≠ ⟨B, b, none⟩ := fun e => h (congrArg Addr.off e)
/-- The values vs lie at the head of block B, and may be written. -/
def Box (w : World) (B : Nat) (vs : List Value) : Prop := ∀ i v, vs[i]? = some v → w.cell? ⟨B, i, none⟩ = some v ∧ w.frozen? ⟨B, i, none⟩ = false
theorem Box.new {w : World} {B : Nat} {vs : Array Value} {t : TypeId} (hB : B = w.heap.size) : Box (w.alloc (.cells vs t)) B vs.toList := fun i v h => by
  subst hB
  refine ⟨?_, World.frozen?_alloc_at _ _ _ _ rfl⟩
  rw [World.cell?_alloc_at _ _ _ _ rfl, ← Array.getElem?_toList]
  exact h
theorem Box.below {w w' : World} {B : Nat} {vs : List Value} (h : Box w B vs) (hb : Below w.heap.size w w') : Box w' B vs := fun i v hv => by
  obtain ⟨h1, h2⟩ := h i v hv
  have hlt := World.block_lt_of_cell? _ _ h1
  exact ⟨(hb.cell (p := ⟨B, i, none⟩) hlt).trans h1, (hb.frozen (p := ⟨B, i, none⟩) hlt).trans h2⟩
theorem Box.old {w : World} {B : Nat} {vs : List Value} (h : Box w B vs) (o : Obj) : Box (w.alloc o) B vs := h.below ((Below.refl _ _).alloc (Nat.le_refl _) o)
theorem Box.set {w : World} {B : Nat} {vs : List Value} (h : Box w B vs) (i : Nat) (v : Value) : Box (w.setCell ⟨B, i, none⟩ v) B (vs.set i v) := fun j u hu => by
  rw [List.getElem?_set] at hu
  by_cases e : i = j
  · subst e
    rw [if_pos rfl] at hu
    by_cases hl : i < vs.length
    · rw [if_pos hl] at hu
      cases hu
      obtain ⟨h1, h2⟩ := h i _ (List.getElem?_eq_getElem hl)
      exact ⟨World.cell?_setCell_same _ _ _ h1, by rw [World.frozen?_setCell]; exact h2⟩
    · rw [if_neg hl] at hu; cases hu
  · rw [if_neg e] at hu
    obtain ⟨h1, h2⟩ := h j u hu
    exact ⟨by rw [World.cell?_setCell_other _ _ _ _ (offs_ne (by omega))]; exact h1, by rw [World.frozen?_setCell]; exact h2⟩
theorem Box.other {w : World} {B : Nat} {vs : List Value} (h : Box w B vs) (a : Addr) (hne : B ≠ a.block) (v : Value) : Box (w.setCell a v) B vs := fun j u hu => by
  obtain ⟨h1, h2⟩ := h j u hu
  refine ⟨?_, by rw [World.frozen?_setCell]; exact h2⟩
  rw [World.cell?_of_block (w := w) (a := ⟨B, j, none⟩) (Below.heap_setCell _ _ _ _ hne)]; exact h1

theorem own_setLow {w : World} {base e s n : Nat} {v : Value} {xs : List Value} {a : Addr} (h : w.ownsRow base e s v n xs) (ha : a.block < base) (u : Value) : (w.setCell a u).ownsRow base e s v n xs :=
  own_setOther h (fun e => by have := (h.lt _ e).1; omega) u
theorem Box.grown {w w' : World} {B : Nat} {vs : List Value} {row : Option Nat} (h : Box w B vs) (hg : w.grownBy w' row) (hne : row ≠ some B) : Box w' B vs := fun j u hu => by
  obtain ⟨h1, h2⟩ := h j u hu
  have hbk := hg.block B (World.block_lt_of_cell? _ _ h1) (fun e => hne e.symm)
  exact ⟨(World.cell?_of_block (w := w) (a := ⟨B, j, none⟩) hbk).trans h1, (World.frozen?_of_block (w := w) (a := ⟨B, j, none⟩) hbk).trans h2⟩
/-- Four values stored at the head of block B. -/
abbrev W4 (w : World) (B : Nat) (v0 v1 v2 v3 : Value) : World := (((w.setCell ⟨B, 0, none⟩ v0).setCell ⟨B, 1, none⟩ v1).setCell ⟨B, 2, none⟩ v2).setCell ⟨B, 3, none⟩ v3
theorem Box.w4 {w : World} {B : Nat} {z0 z1 z2 z3 : Value} (h : Box w B [z0, z1, z2, z3]) (v0 v1 v2 v3 : Value) : Box (W4 w B v0 v1 v2 v3) B [v0, v1, v2, v3] := (((h.set 0 v0).set 1 v1).set 2 v2).set 3 v3
theorem Box.w4in {w : World} {B : Nat} {z0 z1 z2 z3 : Value} (h : Box w B [z0, z1, z2, z3]) (v0 v1 v2 v3 : Value) :
    (w.cell? ⟨B, 0, none⟩ = some z0 ∧ w.frozen? ⟨B, 0, none⟩ = false) ∧
    ((w.setCell ⟨B, 0, none⟩ v0).cell? ⟨B, 1, none⟩ = some z1 ∧ (w.setCell ⟨B, 0, none⟩ v0).frozen? ⟨B, 1, none⟩ = false) ∧
    (((w.setCell ⟨B, 0, none⟩ v0).setCell ⟨B, 1, none⟩ v1).cell? ⟨B, 2, none⟩ = some z2 ∧ ((w.setCell ⟨B, 0, none⟩ v0).setCell ⟨B, 1, none⟩ v1).frozen? ⟨B, 2, none⟩ = false) ∧
    ((((w.setCell ⟨B, 0, none⟩ v0).setCell ⟨B, 1, none⟩ v1).setCell ⟨B, 2, none⟩ v2).cell? ⟨B, 3, none⟩ = some z3 ∧ (((w.setCell ⟨B, 0, none⟩ v0).setCell ⟨B, 1, none⟩ v1).setCell ⟨B, 2, none⟩ v2).frozen? ⟨B, 3, none⟩ = false) ∧
    ((W4 w B v0 v1 v2 v3).cell? ⟨B, 0, none⟩ = some v0 ∧ (W4 w B v0 v1 v2 v3).cell? ⟨B, 1, none⟩ = some v1 ∧ (W4 w B v0 v1 v2 v3).cell? ⟨B, 2, none⟩ = some v2 ∧ (W4 w B v0 v1 v2 v3).cell? ⟨B, 3, none⟩ = some v3) :=
  ⟨h 0 _ rfl, (h.set 0 v0) 1 _ rfl, ((h.set 0 v0).set 1 v1) 2 _ rfl, (((h.set 0 v0).set 1 v1).set 2 v2) 3 _ rfl, ((h.w4 v0 v1 v2 v3) 0 _ rfl).1, ((h.w4 v0 v1 v2 v3) 1 _ rfl).1, ((h.w4 v0 v1 v2 v3) 2 _ rfl).1, ((h.w4 v0 v1 v2 v3) 3 _ rfl).1⟩
theorem Below.w4 {b B : Nat} {a w : World} (h : Below b a w) (hB : b ≤ B) (v0 v1 v2 v3 : Value) : Below b a (W4 w B v0 v1 v2 v3) :=
  Below.setCell (Below.setCell (Below.setCell (Below.setCell h hB _) hB _) hB _) hB _
theorem own_w4 {w : World} {base e s n B : Nat} {v : Value} {xs : List Value} (h : w.ownsRow base e s v n xs) (hB : B < base) (v0 v1 v2 v3 : Value) : (W4 w B v0 v1 v2 v3).ownsRow base e s v n xs :=
  own_setLow (own_setLow (own_setLow (own_setLow h hB _) hB _) hB _) hB _
theorem size_w4 (w : World) (B : Nat) (v0 v1 v2 v3 : Value) : (W4 w B v0 v1 v2 v3).heap.size = w.heap.size := by simp [W4]
theorem own_notkind {w : World} {base e e' s n g : Nat} {v : Value} {xs : List Value} (h : w.ownsRow base e s v n xs) (hk : ∃ c f, w.heap[g]? = some (.cells c e' f)) (hne : e ≠ e') : v.ownBlock ≠ some g := fun h2 => by
  obtain ⟨c1, f1, k1⟩ := Lib.ownsRow_kind h g h2
  obtain ⟨c, f, hk⟩ := hk
  rw [k1] at hk
  simp at hk
  exact hne hk.2.1
theorem run_append_src {P : Program} (w : World) (base : Nat) (t ty e : TypeId) (z : Value) (size bytes : Nat) (ht : P.underlying t = some (.slice e)) (hinfo : (P.info? e).map (fun i => (i.zero, i.size, i.bytes)) = some (some z, size, bytes))
    (hzs : z.cells.size = size) (hsz : 0 < size) (hby : bytes ≤ 64) (v : Value) (n : Nat) (xs : List Value) (hown : w.ownsRow base e size v n xs)
    (ad : Option Addr) (m c : Nat) (news : List Value) (hl : news.length = m * size) (hsrc : Src w ad news) (h1 : ∀ u ∈ news, u.oneCell' = true) (hn : n + m ≤ 4194304) (hbase : base ≤ w.heap.size) :
    ∃ v' w', (Builtin.append_ #[t, t] ty #[v, .slice ad m c]).run P w = .ok v' w' ∧ w'.ownsRow base e size v' (n + m) (xs ++ news) ∧ w.grownBy w' v.ownBlock := by
  obtain ⟨i, hi, hzz⟩ := Option.map_eq_some_iff.1 hinfo
  simp only [Prod.mk.injEq] at hzz
  obtain ⟨hz, hsize, hbyt⟩ := hzz
  have hbb : (n + m) * bytes ≤ 4194304 * 64 := Nat.mul_le_mul hn hby
  cases ad with
  | some ad =>
    have hnews : ∀ j u, news[j]? = some u → w.cell? (ad.add j) = some u := by
      rcases hsrc with h0 | ⟨b, o, e2, hc⟩
      · intro j u hu; rw [h0] at hu; cases hu
      · cases e2
        exact Src.news (.inr ⟨b, o, rfl, hc⟩)
    obtain ⟨v', w', hr, ho, hg, _⟩ := run_append_own (P := P) w base t ty e i z size bytes ht hi hz hsize hbyt hzs hsz v n xs hown ad m c news hl hnews h1 (by unfold maxLen; omega) (by omega) hbase
    exact ⟨v', w', hr, ho, hg⟩
  | none =>
    have h0 : news = [] := by
      rcases hsrc with h0 | ⟨b, o, e2, hc⟩
      · exact h0
      · cases e2
    subst h0
    have hm : m = 0 := by
      rcases Nat.eq_zero_or_pos m with h | h
      · exact h
      · have := Nat.mul_pos h hsz
        simp at hl
        omega
    subst hm
    refine ⟨v, w, ?_, by simpa using hown, gb_refl _ _⟩
    obtain ⟨hl2, ⟨rfl, hn0⟩ | ⟨g, cap, cur, rfl, hb, hg, hc1, hc2, hs, htk⟩⟩ := hown
    · simp [Builtin.append_, run_underlying ht, sizeOf, typeInfo, hi, Builtin.lenOf, Builtin.firstCells]
    · simp [Builtin.append_, run_underlying ht, sizeOf, typeInfo, hi, Builtin.lenOf, Builtin.firstCells, hc1, storeCells]

theorem wpList_append_src {P : Program} (w : World) {ops : Array Oper} {rest : List Oper} {o : Oper} {a : Act} {Q : Exit → Act → World → Prop} (hgd : o.guard = none) (s x : Operand) (t : TypeId)
    (ho : o.op = .call { callee := .builtin .append, args := #[s, x], argTypes := #[t, t] })
    (base : Nat) (e : TypeId) (z : Value) (size bytes : Nat) (ht : P.underlying t = some (.slice e)) (hinfo : (P.info? e).map (fun i => (i.zero, i.size, i.bytes)) = some (some z, size, bytes))
    (hzs : z.cells.size = size) (hsz : 0 < size) (hby : bytes ≤ 64) (v : Value) (n : Nat) (xs : List Value) (hs : a.eval s = v) (hown : w.ownsRow base e size v n xs)
    (ad : Option Addr) (m c : Nat) (news : List Value) (hx : a.eval x = .slice ad m c) (hl : news.length = m * size) (hsrc : Src w ad news) (h1 : ∀ u ∈ news, u.oneCell' = true) (hn : n + m ≤ 4194304) (hbase : base ≤ w.heap.size)
    (h : ∀ v' w', w'.ownsRow base e size v' (n + m) (xs ++ news) → w.grownBy w' v.ownBlock → wpList P ops Q rest (a.put o.dst v') w') : wpList P ops Q (o :: rest) a w :=
  wpList_plain hgd fun _ hK => by
    obtain ⟨v', w', hr, h2, h3⟩ := run_append_src (P := P) w base t o.type e z size bytes ht hinfo hzs hsz hby v n xs hown ad m c news hl hsrc h1 hn hbase
    unfold Oper.wp execOp
    simp only [ho, resolve, invoke, builtin, Sem.run_bind, Sem.run_pure, Result.andThen_ok, List.map_toArray, List.map_cons, List.map_nil, hs, hx, hr]
    exact hK _ _ (h v' w' h2 h3)

theorem own_empty {w : World} {B base e s : Nat} (hB : B = w.heap.size) (hb : base ≤ w.heap.size) : (w.alloc (.cells #[] e)).ownsRow base e s (.slice (some ⟨B, 0, none⟩) 0 0) 0 [] := by
  subst hB
  exact World.ownsRow_made w #[] 0 hb (by unfold maxLen; omega) (by simp)
theorem below_append {w w' : World} {o : Obj} {row : Option Nat} (hg : (w.alloc o).grownBy w' row) (hr : ∀ k, row = some k → w.heap.size ≤ k) : Below w.heap.size w w' :=
  ((Below.refl _ _).alloc (Nat.le_refl _) _).grown hg (by simp) hr

theorem Box.drew {w : World} {B : Nat} {vs : List Value} (h : Box w B vs) : Box w.drew B vs := h
theorem Box.turned {w w' : World} {lo hi B : Nat} {vs : List Value} (h : Box w B vs) (ht : Turned lo hi w w') (hd : B < lo ∨ hi ≤ B) : Box w' B vs := fun j u hu => by
  obtain ⟨h1, h2⟩ := h j u hu
  have hbk := ht.block B (World.block_lt_of_cell? _ _ h1) hd
  exact ⟨(World.cell?_of_block (w := w) (a := ⟨B, j, none⟩) hbk).trans h1, (World.frozen?_of_block (w := w) (a := ⟨B, j, none⟩) hbk).trans h2⟩
theorem Below.new {w w' : World} {o : Obj} (hb : Below (w.alloc o).heap.size (w.alloc o) w') : Below w.heap.size w w' :=
  ((Below.refl _ _).alloc (Nat.le_refl _) _).trans (hb.mono (by simp))
theorem size_new {w w' : World} {o : Obj} (hb : Below (w.alloc o).heap.size (w.alloc o) w') : w.heap.size + 1 ≤ w'.heap.size := by
  have := hb.size
  simpa using this
/-- v owns the numbers K, in a block from lo up to hi. -/
def OwnsI (w : World) (lo hi : Nat) (v : Value) (K : List Int) : Prop := w.ownsRow lo 3 1 v K.length (cellsI K) ∧ ∀ k, v.ownBlock = some k → k < hi
theorem OwnsI.below {w w' : World} {lo hi : Nat} {v : Value} {K : List Int} (h : OwnsI w lo hi v K) (hb : Below w.heap.size w w') : OwnsI w' lo hi v K := ⟨own_below h.1 hb, h.2⟩
theorem OwnsI.turned {w w' : World} {lo hi lo' hi' : Nat} {v : Value} {K : List Int} (h : OwnsI w lo hi v K) (ht : Turned lo' hi' w w') (hd : hi ≤ lo' ∨ hi' ≤ lo) : OwnsI w' lo hi v K := ⟨own_turned h.1 ht h.2 hd, h.2⟩
theorem OwnsI.drew {w : World} {lo hi : Nat} {v : Value} {K : List Int} (h : OwnsI w lo hi v K) : OwnsI w.drew lo hi v K := h
theorem OwnsI.mk {w : World} {lo hi : Nat} {v : Value} {K : List Int} (h : w.ownsRow lo 3 1 v K.length (cellsI K)) (hh : w.heap.size ≤ hi) : OwnsI w lo hi v K := ⟨h, fun k e => by have := (h.lt k e).2; omega⟩
theorem OwnsI.lit {w : World} {lo hi : Nat} {v : Value} {K : List Int} (h : OwnsI w lo hi v K) : ∃ a c, v = .slice a K.length c := by
  obtain ⟨a, c, e, _⟩ := own_src h.1
  exact ⟨a, c, e⟩
theorem OwnsI.src {w : World} {lo hi : Nat} {a : Option Addr} {c : Nat} {K : List Int} (h : OwnsI w lo hi (.slice a K.length c) K) : Src w a (cellsI K) := by
  obtain ⟨a', c', e, s, _⟩ := own_src h.1
  cases e
  exact s
theorem OwnsI.mono {w : World} {lo hi lo' hi' : Nat} {v : Value} {K : List Int} (h : OwnsI w lo hi v K) (hl : lo' ≤ lo) (hh : hi ≤ hi') : OwnsI w lo' hi' v K := ⟨own_mono h.1 hl, fun k e => Nat.lt_of_lt_of_le (h.2 k e) hh⟩
/-- v owns a row of n elements of type e with cells xs, in a block from lo up to hi. -/
def OwnsR (w : World) (e s lo hi : Nat) (v : Value) (n : Nat) (xs : List Value) : Prop := w.ownsRow lo e s v n xs ∧ ∀ k, v.ownBlock = some k → k < hi
theorem OwnsR.below {w w' : World} {e s lo hi n : Nat} {v : Value} {xs : List Value} (h : OwnsR w e s lo hi v n xs) (hb : Below w.heap.size w w') : OwnsR w' e s lo hi v n xs := ⟨own_below h.1 hb, h.2⟩
theorem OwnsR.turned {w w' : World} {e s lo hi lo' hi' n : Nat} {v : Value} {xs : List Value} (h : OwnsR w e s lo hi v n xs) (ht : Turned lo' hi' w w') (hd : hi ≤ lo' ∨ hi' ≤ lo) : OwnsR w' e s lo hi v n xs := ⟨own_turned h.1 ht h.2 hd, h.2⟩
theorem OwnsR.drew {w : World} {e s lo hi n : Nat} {v : Value} {xs : List Value} (h : OwnsR w e s lo hi v n xs) : OwnsR w.drew e s lo hi v n xs := h
theorem OwnsR.mk {w : World} {e s lo hi n : Nat} {v : Value} {xs : List Value} (h : w.ownsRow lo e s v n xs) (hh : w.heap.size ≤ hi) : OwnsR w e s lo hi v n xs := ⟨h, fun k e => by have := (h.lt k e).2; omega⟩
theorem OwnsR.lit {w : World} {e s lo hi n : Nat} {v : Value} {xs : List Value} (h : OwnsR w e s lo hi v n xs) : ∃ a c, v = .slice a n c := by
  obtain ⟨a, c, e, _⟩ := own_src h.1
  exact ⟨a, c, e⟩
theorem OwnsR.src {w : World} {e s lo hi n : Nat} {a : Option Addr} {c : Nat} {xs : List Value} (h : OwnsR w e s lo hi (.slice a n c) n xs) : Src w a xs := by
  obtain ⟨a', c', e, s, _⟩ := own_src h.1
  cases e
  exact s
theorem OwnsR.mono {w : World} {e s lo hi lo' hi' n : Nat} {v : Value} {xs : List Value} (h : OwnsR w e s lo hi v n xs) (hl : lo' ≤ lo) (hh : hi ≤ hi') : OwnsR w e s lo' hi' v n xs := ⟨own_mono h.1 hl, fun k e => Nat.lt_of_lt_of_le (h.2 k e) hh⟩
theorem OwnsR.congr {w : World} {e s lo hi n : Nat} {v : Value} {xs ys : List Value} (h : OwnsR w e s lo hi v n xs) (hx : xs = ys) : OwnsR w e s lo hi v n ys := hx ▸ h
/-- An append to an owned row stays in its block or goes into a new one. -/
theorem run_append_src' {P : Program} (w : World) (base : Nat) (t ty e : TypeId) (z : Value) (size bytes : Nat) (ht : P.underlying t = some (.slice e)) (hinfo : (P.info? e).map (fun i => (i.zero, i.size, i.bytes)) = some (some z, size, bytes))
    (hzs : z.cells.size = size) (hsz : 0 < size) (hby : bytes ≤ 64) (v : Value) (n : Nat) (xs : List Value) (hown : w.ownsRow base e size v n xs)
    (ad : Addr) (m c : Nat) (news : List Value) (hl : news.length = m * size) (hsrc : Src w (some ad) news) (h1 : ∀ u ∈ news, u.oneCell' = true) (hn : n + m ≤ 4194304) (hm : 0 < m) (hbase : base ≤ w.heap.size) :
    ∃ v' w', (Builtin.append_ #[t, t] ty #[v, .slice (some ad) m c]).run P w = .ok v' w' ∧ w'.ownsRow base e size v' (n + m) (xs ++ news) ∧ w.grownBy w' v.ownBlock ∧ (v'.ownBlock = v.ownBlock ∨ ∀ g, v'.ownBlock = some g → w.heap.size ≤ g) := by
  obtain ⟨v', w', hr, ho, hg⟩ := run_append_src (P := P) w base t ty e z size bytes ht hinfo hzs hsz hby v n xs hown (some ad) m c news hl hsrc h1 hn hbase
  refine ⟨v', w', hr, ho, hg, ?_⟩
  obtain ⟨i, hi, hzz⟩ := Option.map_eq_some_iff.1 hinfo
  simp only [Prod.mk.injEq] at hzz
  obtain ⟨hz, hsize, hbyt⟩ := hzz
  have hbb : (n + m) * bytes ≤ 4194304 * 64 := Nat.mul_le_mul hn hby
  have hnews : ∀ j u, news[j]? = some u → w.cell? (ad.add j) = some u := by
    rcases hsrc with h0 | ⟨b, o, e2, hc⟩
    · intro j u hu; rw [h0] at hu; cases hu
    · cases e2
      exact Src.news (.inr ⟨b, o, rfl, hc⟩)
  have hcase := hown
  obtain ⟨hl2, ⟨rfl, hn0⟩ | ⟨g, cap, cur, rfl, hb, hgg, hc1, hc2, hs, htk⟩⟩ := hcase
  · subst hn0
    right
    have hx0 : xs = [] := List.eq_nil_of_length_eq_zero (by simpa using hl2)
    subst hx0
    obtain ⟨v2, w2, hr2, ho2, _, _⟩ := run_append_own (P := P) w w.heap.size t ty e i z size bytes ht hi hz hsize hbyt hzs hsz (.slice none 0 0) 0 [] (World.ownsRow_nil w _ e size) ad m c news hl hnews h1 (by unfold maxLen; omega) (by omega) (Nat.le_refl _)
    rw [hr] at hr2
    cases hr2
    intro g hg2
    exact (ho2.lt g hg2).1
  · by_cases hroom : n + m ≤ cap
    · left
      have hsub := hsize
      subst hsub
      have hfit : n * i.size + news.length ≤ cur.size := by
        rw [hl, hs, ← Nat.add_mul]
        exact Nat.mul_le_mul_right _ hroom
      have hr2 := run_append_room (P := P) w t ty e i ht hi g n cap cur hgg ad m c news hl hnews h1 hroom hfit
      rw [hr] at hr2
      cases hr2
      rfl
    · right
      obtain ⟨v2, w2, hr2, ho2, _⟩ := run_append_arg_grows (P := P) w t ty e i z size bytes ht hi hz hsize hbyt hzs hsz ⟨g, 0, none⟩ n cap xs hl2 (hown.cells rfl) ad m c news hl hnews (by omega) (by unfold maxLen; omega) (by omega)
      rw [hr] at hr2
      cases hr2
      intro g2 hg2
      exact (ho2.lt g2 hg2).1

theorem step_append_src {P : Program} {ops : Array Oper} {o : Oper} {a : Act} {w : World} {K : Act → World → Prop} {Q : Exit → Act → World → Prop} {E : Prop}
    (hg : o.guard = none) (s x : Operand) (t : TypeId) (ho : o.op = .call { callee := .builtin .append, args := #[s, x], argTypes := #[t, t] })
    (base : Nat) (e : TypeId) (z : Value) (size bytes : Nat) (ht : P.underlying t = some (.slice e)) (hinfo : (P.info? e).map (fun i => (i.zero, i.size, i.bytes)) = some (some z, size, bytes))
    (hzs : z.cells.size = size) (hsz : 0 < size) (hby : bytes ≤ 64) (v : Value) (n : Nat) (xs : List Value) (hs : a.eval s = v) (hown : w.ownsRow base e size v n xs)
    (ad : Addr) (m c : Nat) (news : List Value) (hx : a.eval x = .slice (some ad) m c) (hl : news.length = m * size) (hsrc : Src w (some ad) news) (h1 : ∀ u ∈ news, u.oneCell' = true) (hn : n + m ≤ 4194304) (hm : 0 < m) (hbase : base ≤ w.heap.size)
    (h : ∀ v' w', w'.ownsRow base e size v' (n + m) (xs ++ news) → w.grownBy w' v.ownBlock → (v'.ownBlock = v.ownBlock ∨ ∀ g, v'.ownBlock = some g → w.heap.size ≤ g) → K (a.put o.dst v') w') :
    if Region.wanted o (yielded ops a.tmps) = true then Oper.wp P o a w K Q else E := by
  have hw : Region.wanted o (yielded ops a.tmps) = true := by simp [Region.wanted, hg]
  rw [if_pos hw]
  obtain ⟨v', w', hr, h2, h3, h4⟩ := run_append_src' (P := P) w base t o.type e z size bytes ht hinfo hzs hsz hby v n xs hown ad m c news hl hsrc h1 hn hm hbase
  unfold Oper.wp execOp
  simp only [ho, resolve, invoke, builtin, Sem.run_bind, Sem.run_pure, Result.andThen_ok, List.map_toArray, List.map_cons, List.map_nil, hs, hx, hr]
  exact h v' w' h2 h3 h4

end Go.Proofs.YtmbndpgoihdpnaaGreatDoor
