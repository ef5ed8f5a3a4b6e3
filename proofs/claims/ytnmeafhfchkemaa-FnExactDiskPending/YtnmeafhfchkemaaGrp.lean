/-
  Lists of lists: each sector's writes, in blocks of their own. By an AI agent.
-/
import Derived.Test.YtnmeafhfchkemaaDwr
import Derived.Deep.RegionLaw
import Derived.ArgAppend
namespace Go.Proofs.Ytnmeafhfchkemaa
open Go.ChangeShapes Go.WideShapes Go.ChangeAt Go.RowKit Go.Deep
set_option linter.unusedVariables false

/-- An append to an owned row stays in its block or goes into a new one. -/
theorem run_append_src' {P : Program} (w : World) (base : Nat) (t ty e : TypeId) (z : Value) (size bytes : Nat) (ht : P.underlying t = some (.slice e)) (hinfo : (P.info? e).map (fun i => (i.zero, i.size, i.bytes)) = some (some z, size, bytes))
    (hzs : z.cells.size = size) (hsz : 0 < size) (hby : bytes ≤ 64) (v : Value) (n : Nat) (xs : List Value) (hown : w.ownsRow base e size v n xs)
    (ad : Addr) (m c : Nat) (news : List Value) (hl : news.length = m * size) (hsrc : Src w (some ad) news) (h1 : ∀ u ∈ news, u.oneCell' = true) (hn : n + m ≤ 4194304) (hm : 0 < m) (hbase : base ≤ w.heap.size) :
    ∃ v' w', (Builtin.append_ #[t, t] ty #[v, .slice (some ad) m c]).run P w = .ok v' w' ∧ w'.ownsRow base e size v' (n + m) (xs ++ news) ∧ w.grownBy w' v.ownBlock ∧ (v'.ownBlock = v.ownBlock ∨ ∀ g, v'.ownBlock = some g → w.heap.size ≤ g) := by
  obtain ⟨v', w', hr, ho, hg⟩ := run_append_src (P := P) w base t ty e z size bytes ht hinfo hzs hsz hby v n xs hown (some ad) m c news hl hsrc h1 hn hbase
  refine ⟨v', w', hr, ho, hg, ?_⟩
  obtain ⟨i, hi, hzz⟩ := Option.map_eq_some_iff.1 hinfo
  simp only [Prod.mk.injEq] at hzz
  obtain ⟨hz, hsize, hbyt⟩ := hzz
  have hbb : (n + m) * bytes ≤ 4194304 * 64 := Nat.mul_le_mul hn hby
  have hnews : ∀ j u, news[j]? = some u → w.cell? (ad.add j) = some u := by
    rcases hsrc with h0 | ⟨b, o, e2, hc⟩
    · intro j u hu; rw [h0] at hu; cases hu
    · cases e2
      exact Src.news (.inr ⟨b, o, rfl, hc⟩)
  have hcase := hown
  obtain ⟨hl2, ⟨rfl, hn0⟩ | ⟨g, cap, cur, rfl, hb, hgg, hc1, hc2, hs, htk⟩⟩ := hcase
  · subst hn0
    right
    have hx0 : xs = [] := List.eq_nil_of_length_eq_zero (by simpa using hl2)
    subst hx0
    obtain ⟨v2, w2, hr2, ho2, _, _⟩ := run_append_own (P := P) w w.heap.size t ty e i z size bytes ht hi hz hsize hbyt hzs hsz (.slice none 0 0) 0 [] (World.ownsRow_nil w _ e size) ad m c news hl hnews h1 (by unfold maxLen; omega) (by omega) (Nat.le_refl _)
    rw [hr] at hr2
    cases hr2
    intro g hg2
    exact (ho2.lt g hg2).1
  · by_cases hroom : n + m ≤ cap
    · left
      have hsub := hsize
      subst hsub
      have hfit : n * i.size + news.length ≤ cur.size := by
        rw [hl, hs, ← Nat.add_mul]
        exact Nat.mul_le_mul_right _ hroom
      have hr2 := run_append_room (P := P) w t ty e i ht hi g n cap cur hgg ad m c news hl hnews h1 hroom hfit
      rw [hr] at hr2
      cases hr2
      rfl
    · right
      obtain ⟨v2, w2, hr2, ho2, _⟩ := run_append_arg_grows (P := P) w t ty e i z size bytes ht hi hz hsize hbyt hzs hsz ⟨g, 0, none⟩ n cap xs hl2 (hown.cells rfl) ad m c news hl hnews (by omega) (by unfold maxLen; omega) (by omega)
      rw [hr] at hr2
      cases hr2
      intro g2 hg2
      exact (ho2.lt g2 hg2).1

theorem step_append_src {P : Program} {ops : Array Oper} {o : Oper} {a : Act} {w : World} {K : Act → World → Prop} {Q : Exit → Act → World → Prop} {E : Prop}
    (hg : o.guard = none) (s x : Operand) (t : TypeId) (ho : o.op = .call { callee := .builtin .append, args := #[s, x], argTypes := #[t, t] })
    (base : Nat) (e : TypeId) (z : Value) (size bytes : Nat) (ht : P.underlying t = some (.slice e)) (hinfo : (P.info? e).map (fun i => (i.zero, i.size, i.bytes)) = some (some z, size, bytes))
    (hzs : z.cells.size = size) (hsz : 0 < size) (hby : bytes ≤ 64) (v : Value) (n : Nat) (xs : List Value) (hs : a.eval s = v) (hown : w.ownsRow base e size v n xs)
    (ad : Addr) (m c : Nat) (news : List Value) (hx : a.eval x = .slice (some ad) m c) (hl : news.length = m * size) (hsrc : Src w (some ad) news) (h1 : ∀ u ∈ news, u.oneCell' = true) (hn : n + m ≤ 4194304) (hm : 0 < m) (hbase : base ≤ w.heap.size)
    (h : ∀ v' w', w'.ownsRow base e size v' (n + m) (xs ++ news) → w.grownBy w' v.ownBlock → (v'.ownBlock = v.ownBlock ∨ ∀ g, v'.ownBlock = some g → w.heap.size ≤ g) → K (a.put o.dst v') w') :
    if Region.wanted o (yielded ops a.tmps) = true then Oper.wp P o a w K Q else E := by
  have hw : Region.wanted o (yielded ops a.tmps) = true := by simp [Region.wanted, hg]
  rw [if_pos hw]
  obtain ⟨v', w', hr, h2, h3, h4⟩ := run_append_src' (P := P) w base t o.type e z size bytes ht hinfo hzs hsz hby v n xs hown ad m c news hl hsrc h1 hn hm hbase
  unfold Oper.wp execOp
  simp only [ho, resolve, invoke, builtin, Sem.run_bind, Sem.run_pure, Result.andThen_ok, List.map_toArray, List.map_cons, List.map_nil, hs, hx, hr]
  exact h v' w' h2 h3 h4

/-- Block LB holds n lists; list j holds what of the writes C goes to sector j; their blocks are others, from base on. -/
structure Grp (w : World) (base LB n : Nat) (vs : List Value) (C : List (Int × ByteArray)) : Prop where
  len : vs.length = n
  lists : w.ownsRow base 23 1 (.slice (some ⟨LB, 0, none⟩) n n) n vs
  row : ∀ j, j < n → w.ownsRow base 9 1 (vs.getD j undef) (byS C j).length (cellsS (byS C j))
  apart : ∀ i j, i < n → j < n → i ≠ j → ∀ g, (vs.getD i undef).ownBlock = some g → (vs.getD j undef).ownBlock ≠ some g
theorem Grp.below {w w' : World} {base LB n : Nat} {vs : List Value} {C : List (Int × ByteArray)} (h : Grp w base LB n vs C) (hb : Below w.heap.size w w') : Grp w' base LB n vs C :=
  ⟨h.len, own_below h.lists hb, fun j hj => own_below (h.row j hj) hb, h.apart⟩
theorem Grp.drew {w : World} {base LB n : Nat} {vs : List Value} {C : List (Int × ByteArray)} (h : Grp w base LB n vs C) : Grp w.drew base LB n vs C := ⟨h.len, h.lists, h.row, h.apart⟩
theorem getD_set (vs : List Value) (k j : Nat) (v : Value) (hk : k < vs.length) : (vs.set k v).getD j undef = if k = j then v else vs.getD j undef := by
  rw [List.getD_eq_getElem?_getD, List.getElem?_set]
  by_cases e : k = j
  · subst e; rw [if_pos rfl, if_pos rfl, if_pos hk]; rfl
  · rw [if_neg e, if_neg e, ← List.getD_eq_getElem?_getD]
/-- One write more. -/
theorem Grp.more {w w' : World} {base LB n k : Nat} {vs : List Value} {C : List (Int × ByteArray)} {y : ByteArray} {v' : Value} (h : Grp w base LB n vs C) (hk : k < n)
    (ho : w'.ownsRow base 9 1 v' ((byS C k).length + 1) (cellsS (byS C k) ++ cellsS [y])) (hg : w.grownBy w' (vs.getD k undef).ownBlock) (hb : v'.ownBlock = (vs.getD k undef).ownBlock ∨ ∀ g, v'.ownBlock = some g → w.heap.size ≤ g) :
    Grp (w'.setCell ⟨LB, k, none⟩ v') base LB n (vs.set k v') (C ++ [((k : Int), y)]) := by
  have hkl : k < vs.length := by rw [h.len]; exact hk
  have hLn : ∀ j, j < n → ∀ g, (vs.getD j undef).ownBlock = some g → g ≠ LB := fun j hj g e e2 => by
    subst e2
    exact own_ne h.lists (h.row j hj) (by decide) g rfl e
  have hL : w'.ownsRow base 23 1 (.slice (some ⟨LB, 0, none⟩) n n) n vs := own_grown h.lists hg (fun g e e2 => by cases e; exact hLn k hk _ e2 rfl)
  have hv' : v'.ownBlock ≠ some LB := fun e => own_ne hL ho (by decide) LB rfl e
  have hrow : ∀ j, j < n → j ≠ k → w'.ownsRow base 9 1 (vs.getD j undef) (byS C j).length (cellsS (byS C j)) := fun j hj hne =>
    own_grown (h.row j hj) hg (fun g e e2 => h.apart j k hj hk hne g e e2)
  have hnew : ∀ j, j < n → j ≠ k → ∀ g, v'.ownBlock = some g → (vs.getD j undef).ownBlock ≠ some g := fun j hj hne g e e2 => by
    rcases hb with hb | hb
    · rw [hb] at e; exact h.apart k j hk hj (fun e3 => hne e3.symm) g e e2
    · have h1 := hb g e
      have h2 := ((h.row j hj).lt g e2).2
      omega
  refine ⟨by rw [List.length_set]; exact h.len, own_set hL k hkl v', fun j hj => ?_, fun i j hi hj hne g e => ?_⟩
  · rw [getD_set _ _ _ _ hkl, byS_snoc, Int.toNat_natCast]
    by_cases e : k = j
    · subst e
      rw [if_pos rfl, if_pos rfl, List.length_append, cellsS_append]
      exact own_setOther ho hv' _
    · rw [if_neg e, if_neg e]
      exact own_setOther (hrow j hj (fun e2 => e e2.symm)) (fun e2 => hLn j hj _ e2 rfl) _
  · rw [getD_set _ _ _ _ hkl] at e ⊢
    by_cases e1 : k = i
    · subst e1
      rw [if_pos rfl] at e
      rw [if_neg hne]
      exact hnew j hj (fun e2 => hne e2.symm) g e
    · rw [if_neg e1] at e
      by_cases e2 : k = j
      · subst e2
        rw [if_pos rfl]
        exact fun e3 => hnew i hi (fun e4 => e1 e4.symm) g e3 e
      · rw [if_neg e2]; exact h.apart i j hi hj hne g e
theorem Grp.made {w : World} {n : Nat} (hn : n ≤ 1048576) : Grp (w.alloc (.cells (madeCells #[.slice none 0 0] n) 23)) w.heap.size w.heap.size n (List.replicate n (.slice none 0 0)) [] := by
  have hd : ∀ j, j < n → (List.replicate n (Value.slice none 0 0)).getD j undef = .slice none 0 0 := fun j hj => by rw [List.getD_eq_getElem?_getD]; simp [hj]
  refine ⟨by simp, ⟨by simp, .inr ⟨w.heap.size, n, _, rfl, Nat.le_refl _, heap_alloc_new _ _, Nat.le_refl _, by unfold maxLen; omega, by simp [size_madeCells], ?_⟩⟩, fun j hj => ?_, fun i j hi hj hne g e => ?_⟩
  · rw [toList_madeCells_one, List.take_of_length_le (by simp)]
  · rw [hd j hj]; exact World.ownsRow_nil _ _ _ _
  · rw [hd i hi] at e; cases e
theorem infoL : (Try.prog.info? 23).map (fun i => (i.zero, i.size, i.bytes)) = some (some (.slice none 0 0), 1, 24) := by kernel_rfl
theorem run_make_L (n : Nat) (hn : n ≤ 1048576) (w : World) : (Instr.makeSlice 116 (.int .i64 (n : Int)) (.int .i64 (n : Int))).run Try.prog w = .ok (.slice (some ⟨w.heap.size, 0, none⟩) n n) (w.alloc (.cells (madeCells #[.slice none 0 0] (n * 1)) 23)) :=
  run_make_rows 116 23 (.slice none 0 0) 1 24 n Try.underlying116 infoL (by omega) hn w
end Go.Proofs.Ytnmeafhfchkemaa
