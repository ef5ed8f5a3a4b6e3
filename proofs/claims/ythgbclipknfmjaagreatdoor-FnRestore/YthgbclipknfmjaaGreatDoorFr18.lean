/-
  Srt Rnx Dps Cuts in one. By an AI agent.
-/
import Derived.Test.YthgbclipknfmjaaGreatDoorShelp
import Derived.Test.YthgbclipknfmjaaGreatDoorShelc
import Derived.Test.YthgbclipknfmjaaGreatDoorFr16
import Derived.Test.YthgbclipknfmjaaGreatDoorFr10
import Derived.Test.YthgbclipknfmjaaGreatDoorFr01
namespace Go.Proofs.YthgbclipknfmjaaGreatDoor
open Go.ChangeShapes Go.WideShapes Go.ChangeAt Go.RowKit Go.Deep
open Go.Sort (SWO HoldsK flatK putRowK putRow Holds grow PermIn SortedIn size_flatK get_flatK ext_get! putCells)
set_option linter.unusedVariables false
set_option linter.unusedSimpArgs false
set_option maxRecDepth 100000

def encP (x : PM) : List Value := [.string x.1, .string x.2]
def cfP (x y : PM) : Int := Lib.compareBytes x.1.data.toList y.1.data.toList
theorem cmp_less : ∀ a b : List UInt8, decide (Lib.compareBytes a b < 0) = Op.bytesLess a b
  | [], [] => by simp [Lib.compareBytes, Op.bytesLess]
  | [], b :: y => by simp [Lib.compareBytes, Op.bytesLess]
  | a :: x, [] => by simp [Lib.compareBytes, Op.bytesLess]
  | a :: x, b :: y => by
    have ih := cmp_less x y
    unfold Lib.compareBytes Op.bytesLess
    by_cases h1 : a < b
    · simp [h1]
    · rw [if_neg h1]
      by_cases h2 : b < a
      · rw [if_pos h2]
        have hne : a ≠ b := fun e => by rw [e] at h2; exact absurd h2 (by simp)
        simp [h1, hne]
      · rw [if_neg h2]
        have he : a = b := by
          have h3 : ¬ a.toNat < b.toNat := fun h => h1 (UInt8.lt_iff_toNat_lt.2 h)
          have h4 : ¬ b.toNat < a.toNat := fun h => h2 (UInt8.lt_iff_toNat_lt.2 h)
          exact UInt8.toNat_inj.1 (by omega)
        subst he
        rw [ih]
        simp [h1]
theorem lt_cf (x y : PM) : ltOf cfP x y = Op.bytesLess x.1.data.toList y.1.data.toList := cmp_less _ _
theorem bl_tot : ∀ x y : List UInt8, Op.bytesLess x y = false → x ≠ y → Op.bytesLess y x = true
  | [], [], _, h => absurd rfl h
  | [], b :: y, h, _ => by simp [Op.bytesLess] at h
  | a :: x, [], _, _ => by simp [Op.bytesLess]
  | a :: x, b :: y, h, hn => by
    have ih := bl_tot x y
    unfold Op.bytesLess at h ⊢
    by_cases e : a = b
    · subst e
      simp at h ⊢
      exact ih h (fun e => hn (by rw [e]))
    · simp at h ⊢
      have hne : a.toNat ≠ b.toNat := fun e2 => e (UInt8.toNat_inj.1 e2)
      have h1 := UInt8.le_iff_toNat_le.1 h.1
      exact .inl (UInt8.lt_iff_toNat_lt.2 (by omega))
theorem swoP : SWO (ltOf cfP) where
  irrefl x := by rw [lt_cf]; exact bl_irrefl _
  trans x y z h1 h2 := by rw [lt_cf] at *; exact bl_trans _ _ _ h1 h2
  ntrans x y z h1 h2 := by
    rw [lt_cf] at *
    cases h : Op.bytesLess x.1.data.toList z.1.data.toList with
    | false => rfl
    | true =>
      by_cases e : y.1.data.toList = z.1.data.toList
      · rw [← e, h1] at h; cases h
      · have h3 := bl_trans _ _ _ h (bl_tot _ _ h2 e)
        rw [h1] at h3; cases h3
set_option maxHeartbeats 1000000 in
theorem cmpP (x y : PM) (W : World) : Calls Tryz.prog 85 #[.agg #[.string x.1, .string x.2], .agg #[.string y.1, .string y.2]] W fun e w' => e = .returned (.int .i64 (cfP x y)) ∧ ∃ q os', w' = grow (W.drewN q) os' := by
  have hcon := fun W' => Tryz.strings_Compare x.1 y.1 W'
  change ∀ W', Calls Tryz.prog 86 _ W' fun e w' => e = .returned (.int .i64 (cfP x y)) ∧ w' = W' at hcon
  generalize cfP x y = r at hcon ⊢
  obtain ⟨x1, x2⟩ := x
  obtain ⟨y1, y2⟩ := y
  go_enter Tryz.func85, Tryz.ntmps85
  go_wp2_with fail
  refine (hcon _).mono ?_
  rintro e w' ⟨rfl, rfl⟩
  go_wp2_with fail
  go_ret
  exact ⟨rfl, 0, _, by rw [Go.Sort.alloc_eq_grow, Go.Sort.alloc_eq_grow, Go.Sort.grow_grow]; rfl⟩
theorem flat_cells (L : List PM) : flatK encP 2 L.toArray = (cellsP L).toArray := by
  have hl := cellsP_length L
  refine ext_get! (by rw [size_flatK]; simp [hl]) fun t ht => ?_
  rw [size_flatK] at ht
  have ht2 : t < L.length * 2 := by simpa using ht
  rw [get_flatK _ _ _ _ ht]
  have hi : t / 2 < L.length := by omega
  obtain ⟨c1, c2⟩ := cellsP_get L (t / 2) hi
  have hL : L.toArray[t / 2]! = L.getD (t / 2) p0 := by
    rw [List.getD_eq_getElem?_getD, List.getElem?_eq_getElem hi]
    simp [hi]
  have hr : (cellsP L).toArray[t]! = (cellsP L)[t]?.getD default := by
    rw [List.getElem!_toArray, List.getElem!_eq_getElem?_getD]
  rw [hL, hr]
  by_cases e : t % 2 = 0
  · rw [e]
    have e2 : t / 2 * 2 = t := by omega
    rw [e2] at c1
    rw [c1]
    rfl
  · have e1 : t % 2 = 1 := by omega
    rw [e1]
    have e2 : t / 2 * 2 + 1 = t := by omega
    rw [e2] at c2
    rw [c2]
    rfl
theorem holds_own {w : World} {base g cap n : Nat} {L : List PM} (ho : w.ownsRow base 68 2 (.slice (some ⟨g, 0, none⟩) n cap) n (cellsP L)) : HoldsK encP 2 w g 0 L.toArray := by
  unfold HoldsK
  rw [flat_cells]
  intro j hj
  have hj2 : j < (cellsP L).length := by simpa using hj
  obtain ⟨h1, h2⟩ := own_cell ho hj2
  rw [Nat.zero_add]
  refine ⟨?_, h2⟩
  rw [h1, List.getElem!_toArray, List.getElem!_eq_getElem?_getD, List.getD_eq_getElem?_getD, List.getElem?_eq_getElem hj2]
  rfl
theorem own_sortK {w : World} {base g cap n nn : Nat} {os : Array Obj} {L R : List PM} (ho : w.ownsRow base 68 2 (.slice (some ⟨g, 0, none⟩) n cap) n (cellsP L)) (hl : R.length = L.length) :
    (sortWorldK encP 2 w g 0 nn R.toArray os).ownsRow base 68 2 (.slice (some ⟨g, 0, none⟩) n cap) n (cellsP R) ∧ w.grownBy (sortWorldK encP 2 w g 0 nn R.toArray os) (some g) := by
  obtain ⟨hlen, ⟨hv, _⟩ | ⟨g', cap', cur, hv, hbase, hb, hc1, hc2, hsz, ht⟩⟩ := ho
  · cases hv
  cases hv
  have hlR : (cellsP R).length = n * 2 := by rw [cellsP_length, hl, ← cellsP_length, hlen]
  have hg : g < w.heap.size := (Array.getElem?_eq_some_iff.1 hb).1
  have hheap : (sortWorldK encP 2 w g 0 nn R.toArray os).heap[g]? = some (.cells (putCells id 0 (cellsP R).toArray cur) 68 (0, 0)) := by
    unfold sortWorldK putRowK
    rw [flat_cells, Go.Sort.heap_grow_old _ _ (by simpa using hg)]
    simp [putRow, Go.Sort.mapBlock, Go.Sort.ahead, Array.getElem?_modify, hb, Go.Sort.onCells]
  refine ⟨⟨hlR, .inr ⟨g, cap, _, rfl, hbase, hheap, hc1, hc2, by simp [putCells, hsz], ?_⟩⟩, ?_⟩
  · apply List.ext_getElem?
    intro j
    by_cases hj : j < n * 2
    · rw [List.getElem?_take_of_lt hj, Array.getElem?_toList]
      have hjc : j < cur.size := by rw [hsz]; omega
      have hj3 : j < (cellsP R).length := by omega
      simp [putCells, hj3, hjc]
    · rw [List.getElem?_take_eq_none (by omega), List.getElem?_eq_none (by omega)]
  · refine ⟨rfl, rfl, rfl, by simp [sortWorldK, putRowK, grow, putRow, Go.Sort.mapBlock, Go.Sort.ahead], fun k hk hne => ?_⟩
    unfold sortWorldK putRowK
    rw [Go.Sort.heap_grow_old _ _ (by simpa using hk)]
    have : g ≠ k := fun e => hne (by rw [e])
    simp [putRow, Go.Sort.mapBlock, Go.Sort.ahead, Array.getElem?_modify, this]
theorem sorted_list {lt : PM → PM → Bool} : ∀ {R : List PM}, SortedIn lt 0 R.length R.toArray → R.Pairwise fun x y => lt y x = false := by
  intro R h
  rw [List.pairwise_iff_getElem]
  intro i j hi hj hij
  have h1 := h i j (Nat.zero_le _) hij hj
  simpa [hi, hj] using h1
theorem sortP (blk cap n : Nat) (L : List PM) (w : World) (hn : L.length = n) (hl : n < 4611686018427387904) (hH : HoldsK encP 2 w blk 0 L.toArray) (hblk : blk < w.heap.size) :
    Calls Tryz.prog 84 #[.slice (some ⟨blk, 0, none⟩) n cap, .func (.func 85) #[] #[]] w fun e w' => e = .returned (.tuple #[]) ∧ ∃ (R : List PM) (m : Nat) (os : Array Obj), R.Perm L ∧ (R.Pairwise fun x y => Op.bytesLess y.1.data.toList x.1.data.toList = false) ∧ w' = sortWorldK encP 2 w blk 0 m R.toArray os := by
  subst hn
  have eg : ∀ args w, (callFunc 85 args).run Tryz.prog w = .ok (.enter 85 args) w := enters_of Tryz.func85 (by kernel_rfl) rfl
  have hcon := AnyQ.slices_SortFunc Tryz.sortPairs 2 Tryz.isAgg68 Tryz.sizeOf68 encP (fun _ => rfl) (fun x v hv => by simp [encP] at hv; rcases hv with rfl | rfl <;> rfl) cfP swoP 85 #[] blk 0 cap L.toArray w eg (fun _ _ _ _ x y => cmpP x y _) hH hblk (by simpa using hl)
  change Calls Tryz.prog 84 _ _ _ at hcon
  rw [show L.toArray.size = L.length from by simp] at hcon
  refine hcon.mono ?_
  rintro e w' ⟨rfl, d', m, os, hp, hs, hw⟩
  have hz : d'.size = L.length := by have := hp.1; simpa using this
  refine ⟨rfl, d'.toList, m, os, ?_, ?_, by rw [hw]⟩
  · have h1 := hp.2.2
    rw [Array.extract_eq_self_of_le (by omega), Array.extract_eq_self_of_le (by simp)] at h1
    simpa using h1
  · have h2 := sorted_list (R := d'.toList) (lt := ltOf cfP) (by simpa [hz] using hs)
    exact h2.imp fun h => by rw [lt_cf] at h; exact h
/-- Whatever is a permutation of a rising list, and sorted, is that list. -/
theorem sorted_eq {R Y : List PM} (hY : UpL Y) (hp : R.Perm Y) (hs : R.Pairwise fun x y => Op.bytesLess y.1.data.toList x.1.data.toList = false) : R = Y := by
  have hnd : (Y.map (·.1)).Nodup := by
    have h1 : Y.Pairwise fun x y => x.1 ≠ y.1 := hY.imp fun h e => by rw [e] at h; exact ltK_irrefl _ h
    rw [List.Nodup, List.pairwise_map]
    exact h1
  have hnr : R.Pairwise fun x y => x.1 ≠ y.1 := by
    have h1 : (R.map (·.1)).Nodup := (hp.map _).nodup_iff.2 hnd
    rw [List.Nodup, List.pairwise_map] at h1
    exact h1
  refine up_perm ?_ hY hp
  refine (hs.and hnr).imp fun {x y} h => ?_
  show Op.bytesLess x.1.toList y.1.toList = true
  rw [ByteArray.toList_eq, ByteArray.toList_eq]
  exact bl_tot _ _ h.1 fun e => h.2 (bs_inj e.symm)
end Go.Proofs.YthgbclipknfmjaaGreatDoor
namespace Go.Proofs.YthgbclipknfmjaaGreatDoor
open Go.ChangeShapes Go.WideShapes Go.ChangeAt Go.RowKit Go.Deep Go.Lib
open Go.ChangeMaps (setBlock)
set_option linter.unusedVariables false
set_option linter.unusedSimpArgs false
set_option maxRecDepth 100000

section
variable {P : Program} (w : World) {ops : Array Oper} {rest : List Oper} {o : Oper} {a : Act} {Q : Exit → Act → World → Prop}
theorem wpList_nextY (hg : o.guard = none) (it : Operand) (hop : o.op = Op.next it false) (M r : Nat) (X : List FX) (seen : Array Nat) (hMr : M < r) (hit : a.eval it = .pointer (some ⟨r, 0, none⟩)) (h : RangeX w M r X seen)
    (hsl : ∀ x ∈ X, ∃ (ax : Option Addr) (cx : Nat), x.v = .slice ax x.mails.length cx)
    (hDone : Hid (∀ x ∈ X, seen.contains x.born = true) → wpList P ops Q rest (a.put o.dst (.tuple #[.bool false])) w)
    (hMore : ∀ x ∈ X, Hid (seen.contains x.born = false) → ∀ (ax : Option Addr) (cx : Nat), x.v = .slice ax x.mails.length cx → ∀ w', RangeX w' M r X (seen.push x.born) → w'.rangeLeft M r < w.rangeLeft M r → Below r w w' → w.grownBy w' (some r) → w'.heap.size = w.heap.size →
      (Instr.entry (.pointer (some ⟨r, 0, none⟩))).run P w' = .ok (.tuple #[.string x.k, .agg #[.string x.name, .int .i64 x.val, .int .i64 x.next, .slice ax x.mails.length cx]]) w' → wpList P ops Q rest (a.put o.dst (.tuple #[.bool true, .string x.k, .agg #[.string x.name, .int .i64 x.val, .int .i64 x.next, .slice ax x.mails.length cx]])) w') :
    wpList P ops Q (o :: rest) a w := by
  refine wpList_plain hg fun K' hK' => ?_
  have hleft := h.left
  obtain ⟨clock, h1, h2⟩ := h
  have hold : ∀ x ∈ (X.map entX).toArray.toList, x.born < clock := fun e he => by
    obtain ⟨x, hx, rfl⟩ := List.mem_map.1 (by simpa using he)
    exact h1.2.1 x hx
  unfold Oper.wp
  rcases run_next_at (P := P) w o.type r M clock clock seen (X.map entX).toArray clock h2 h1.1 hold (Nat.le_refl _) with ⟨h0, hrun⟩ | ⟨e, he, w1, hal, hrun⟩
  · simp [execOp, hop, hit, hrun, Result.andThen]
    exact hK' _ _ (hDone fun x hx => all_seen _ seen h0 (entX x) (by simpa using ⟨x, hx, rfl⟩))
  · have hsh := left_shrinks _ seen e he
    obtain ⟨hem, hes⟩ := mem_left he
    obtain ⟨x, hx, rfl⟩ := List.mem_map.1 (by simpa using hem : e ∈ X.map entX)
    obtain ⟨ax, cx, hv⟩ := hsl x hx
    have hval : (entX x).val = .agg #[.string x.name, .int .i64 x.val, .int .i64 x.next, .slice ax x.mails.length cx] := by
      show valX x = _
      unfold valX
      rw [hv]
    have hr1 : r < w1.heap.size := by
      have h9 := (Array.getElem?_eq_some_iff.1 h2).1
      rcases hal with rfl | rfl <;> exact h9
    have hbw : Below r w w1 := by
      rcases hal with rfl | rfl
      · exact Below.refl _ _
      · exact (Below.refl _ _).drew
    have hb1 : w1.heap[M]? = some (.map (X.map entX).toArray clock) := (hbw.block M hMr).trans h1.1
    have hb' : (setBlock w1 r (.mapIter (some M) clock (seen.push (entX x).born) clock)).heap[M]? = some (.map (X.map entX).toArray clock) := (sb_block _ _ _ _ (by omega)).trans hb1
    have hr' : (setBlock w1 r (.mapIter (some M) clock (seen.push (entX x).born) clock)).heap[r]? = some (.mapIter (some M) clock (seen.push (entX x).born) clock) := sb_same _ _ _ hr1
    have hen := run_entry_at (P := P) _ r M clock seen (X.map entX).toArray clock (entX x) hr' hb' hem (by
      have h9 := h1.2.2
      have h7 : ((X.map entX).toArray.toList.map (·.born)) = X.map (·.born) := by simp [entX, Function.comp_def]
      rw [h7]
      exact h9)
    have hR : RangeX (setBlock w1 r (.mapIter (some M) clock (seen.push (entX x).born) clock)) M r X (seen.push x.born) := ⟨clock, ⟨hb', h1.2⟩, hr'⟩
    have hgr : w.grownBy (setBlock w1 r (.mapIter (some M) clock (seen.push (entX x).born) clock)) (some r) := by
      rcases hal with rfl | rfl
      · exact sb_grown _ _ _
      · have h9 := sb_grown w.drew r (.mapIter (some M) clock (seen.push (entX x).born) clock)
        exact ⟨h9.os, h9.tape, h9.output, h9.size, h9.block⟩
    rw [hval] at hrun hen
    simp [execOp, hop, hit, hrun, Result.andThen]
    exact hK' _ _ (hMore x hx hes ax cx hv _ hR (by rw [hR.left, hleft]; exact hsh) (hbw.trans (sb_below _ r _)) hgr (by
      have h9 : (setBlock w1 r (.mapIter (some M) clock (seen.push (entX x).born) clock)).heap.size = w1.heap.size := by simp [setBlock]
      rw [h9]
      rcases hal with rfl | rfl <;> rfl) hen)
end
theorem RangeX.grown {w w' : World} {M r : Nat} {X : List FX} {seen : Array Nat} {row : Option Nat} (h : RangeX w M r X seen) (hg : w.grownBy w' row) (h1 : row ≠ some M) (h2 : row ≠ some r) : RangeX w' M r X seen := by
  obtain ⟨c, k1, k2⟩ := h
  exact ⟨c, ⟨(hg.block M (Array.getElem?_eq_some_iff.1 k1.1).1 (fun e => h1 e.symm)).trans k1.1, k1.2⟩, (hg.block r (Array.getElem?_eq_some_iff.1 k2).1 (fun e => h2 e.symm)).trans k2⟩
theorem row_range {w : World} {base e s n M r : Nat} {v : Value} {xs : List Value} {X : List FX} {seen : Array Nat} (h : w.ownsRow base e s v n xs) (hr : RangeX w M r X seen) : v.ownBlock ≠ some r := fun h2 => by
  obtain ⟨_, _, h3⟩ := hr
  obtain ⟨_, ⟨rfl, _⟩ | ⟨g, cap, cur, rfl, _, hb, _⟩⟩ := h
  · cases h2
  · have : g = r := by simpa [Value.ownBlock] using h2
    subst this
    rw [h3] at hb
    cases hb
end Go.Proofs.YthgbclipknfmjaaGreatDoor
namespace Go.Proofs.YthgbclipknfmjaaGreatDoor
open Go.ChangeShapes Go.WideShapes Go.ChangeAt Go.RowKit Go.Deep Go.Lib
set_option linter.unusedVariables false
set_option linter.unusedSimpArgs false
set_option maxRecDepth 100000

/-- The pairs of those folders that are still to come. -/
def leftP (u : ByteArray) (seen : Array Nat) : List FX → List PM
  | [] => []
  | x :: X => if seen.contains x.born = true then leftP u seen X else fPairs u (fmX x) ++ leftP u seen X
theorem leftP_other {u : ByteArray} {seen : Array Nat} {b : Nat} : ∀ {X : List FX}, (∀ x ∈ X, x.born ≠ b) → leftP u (seen.push b) X = leftP u seen X
  | [], _ => rfl
  | x :: X, h => by
    unfold leftP
    have h1 : (x.born == b) = false := beq_eq_false_iff_ne.2 (h x List.mem_cons_self)
    rw [contains_push, h1, Bool.or_false, leftP_other fun y hy => h y (List.mem_cons_of_mem _ hy)]
theorem leftP_push {u : ByteArray} {seen : Array Nat} {x : FX} : ∀ {X : List FX}, (X.map (·.born)).Nodup → x ∈ X → seen.contains x.born = false → (leftP u seen X).Perm (fPairs u (fmX x) ++ leftP u (seen.push x.born) X)
  | [], _, h, _ => by cases h
  | y :: X, hn, hx, hs => by
    rw [List.map_cons, List.nodup_cons] at hn
    unfold leftP
    by_cases hb : y.born = x.born
    · have hno : ∀ z ∈ X, z.born ≠ x.born := fun z hz e => hn.1 (List.mem_map.2 ⟨z, hz, by rw [e, hb]⟩)
      rcases List.mem_cons.1 hx with rfl | hx
      · rw [leftP_other hno, contains_push, hs]
        simp
      · exact absurd rfl (hno x hx)
    · have h1 : (y.born == x.born) = false := beq_eq_false_iff_ne.2 hb
      rcases List.mem_cons.1 hx with rfl | hx
      · exact absurd rfl hb
      · have ih := leftP_push (u := u) hn.2 hx hs
        rw [contains_push, h1, Bool.or_false]
        split
        · exact ih
        · refine (List.Perm.append_left _ ih).trans ?_
          rw [← List.append_assoc, ← List.append_assoc]
          exact List.Perm.append_right _ List.perm_append_comm
theorem leftP_end {u : ByteArray} {seen : Array Nat} : ∀ {X : List FX}, (∀ x ∈ X, seen.contains x.born = true) → leftP u seen X = []
  | [], _ => rfl
  | x :: X, h => by
    unfold leftP
    rw [if_pos (h x List.mem_cons_self), leftP_end fun y hy => h y (List.mem_cons_of_mem _ hy)]
theorem leftP_view {u : ByteArray} : ∀ {X : List FX} {fs : List FM}, View u X fs → leftP u #[] X = flatF u fs
  | [], [], _ => rfl
  | [], _ :: _, h => by cases h
  | _ :: _, [], h => by cases h
  | x :: X, f :: fs, h => by
    unfold View at h
    simp only [List.map_cons, List.cons.injEq, Prod.mk.injEq] at h
    obtain ⟨⟨_, h2⟩, h3⟩ := h
    have ih := leftP_view (u := u) (X := X) (fs := fs) h3
    unfold leftP
    rw [ih, ← h2, flat_cons]
    simp
theorem view_mem {u : ByteArray} {X : List FX} {fs : List FM} (h : View u X fs) {x : FX} (hx : x ∈ X) : x.k = folderK u x.name ∧ fmX x ∈ fs := by
  unfold View at h
  have h1 : (x.k, fmX x) ∈ X.map (fun x => (x.k, fmX x)) := List.mem_map.2 ⟨x, hx, rfl⟩
  rw [h] at h1
  obtain ⟨f, hf, e⟩ := List.mem_map.1 h1
  injection e with e1 e2
  subst e2
  exact ⟨e1.symm, hf⟩
theorem notK_take (k : ByteArray) (L : List PM) (j : Nat) (hj : j < L.length) : notK k (L.take (j + 1)) = notK k (L.take j) ++ (if (L.getD j p0).1 = k then [] else [L.getD j p0]) := by
  rw [List.take_add_one, List.getD_eq_getElem?_getD, List.getElem?_eq_getElem hj]
  unfold notK
  rw [List.filter_append]
  congr 1
  simp only [Option.toList_some, Option.getD_some]
  by_cases e : (L[j]).1 = k
  · rw [if_pos e]
    simp [e]
  · rw [if_neg e]
    simp [e]
theorem own_someP {w : World} {base e s n : Nat} {v : Value} {xs : List Value} (h : w.ownsRow base e s v n xs) (hn : 0 < n) : ∃ g cap, v = .slice (some ⟨g, 0, none⟩) n cap ∧ n ≤ cap ∧ Src w (some ⟨g, 0, none⟩) xs := by
  obtain ⟨a, c, rfl, hs, _⟩ := own_src h
  obtain ⟨hl, ⟨hv, h0⟩ | ⟨g, cap, cur, hv, hb, hg, hc1, hc2, hsz, ht⟩⟩ := h
  · omega
  · cases hv
    exact ⟨g, c, rfl, hc1, hs⟩
set_option maxHeartbeats 4000000 in
theorem pairsI (w : World) (M : Nat) (a : Option Addr) (n c : Nat) (nx : Int) (u : ByteArray) (S : SM) (k0 : Nat) (hS : StAt w M a n c nx u S k0) (hu : u.size ≤ 1000) (hn0 : 0 ≤ nx) (hn1 : nx ≤ 10000) (hF : ∀ f ∈ S.fs, FitF f) (hk : k0 ≤ 1000) (hg : Gl w) (h8 : 8 ≤ M) (Y : List PM) (hY : UpL Y) (hP : (deskP nx u S).Perm Y) (ny : Nat) (hny : Y.length = ny) (hl : ny ≤ 4000) :
    Calls Tryz.prog 44 #[.pointer (some ⟨M + 1, 0, none⟩)] w fun e w' => ∃ g cap, e = .returned (.slice (some ⟨g, 0, none⟩) ny cap) ∧ w'.ownsRow w.heap.size 68 2 (.slice (some ⟨g, 0, none⟩) ny cap) ny (cellsP Y) ∧ Below w.heap.size w w' := by
  obtain ⟨va, X, hD, hV, _, hfs, hak⟩ := hS
  obtain ⟨av, cv, hva, hsa, _⟩ := own_src hD.2.2.1
  have hva2 : va = .slice av S.aside.length cv := hva
  clear hva
  subst hva2
  obtain ⟨sd, hsd⟩ : ∃ x, S.aside = x := ⟨_, rfl⟩
  obtain ⟨wd, hwd⟩ : ∃ x, S.word = x := ⟨_, rfl⟩
  have HDP : Hid ((deskP nx u S).Perm Y ∧ deskP nx u S = ([(vK, bs (itoa nx)), (userK u, wd)] ++ notK vK sd) ++ leftP u #[] X) := by
    refine ⟨hP, ?_⟩
    unfold deskP
    rw [leftP_view hV, hsd, hwd]
    simp
  rw [hsd, hwd] at hD
  rw [hsd] at hsa hak
  obtain ⟨c1, _⟩ := hD.1 1 _ rfl
  obtain ⟨c2, _⟩ := hD.1 2 _ rfl
  obtain ⟨c3, _⟩ := hD.1 3 _ rfl
  obtain ⟨c4, _⟩ := hD.1 4 _ rfl
  obtain ⟨c5, _⟩ := hD.1 5 _ rfl
  have hMw : M + 1 < w.heap.size := World.block_lt_of_cell? _ _ c5
  have zv := itoa_small nx hn0 hn1
  have CV := fun W (hW : Gl W) => itoaI nx hn0 hn1 W hW
  have CU := fun W => userKeyI u W (by omega)
  obtain ⟨TV, hTV⟩ : ∃ x, bs (itoa nx) = x := ⟨_, rfl⟩
  obtain ⟨KU, hKU⟩ : ∃ x, userK u = x := ⟨_, rfl⟩
  simp only [hTV] at CV zv HDP
  simp only [hKU] at CU HDP
  obtain ⟨la, hla⟩ : ∃ x, sd.length = x := ⟨_, rfl⟩
  simp only [hsd, hla] at c1
  simp only [hwd] at c4
  have HLA : Hid (sd.length = la) := hla
  have HSA : Hid (Src w av (cellsP sd)) := hsa
  have HMI : Hid (∃ clock, MapIs w M clock X) := hD.2.1
  have HRW : Hid (Rows w M X) := hD.2.2.2
  have HSL : Hid (∀ x ∈ X, ∃ (ax : Option Addr) (cx : Nat), x.v = .slice ax x.mails.length cx) := fun x hx => by
    obtain ⟨ax, cx, h1, _, _⟩ := own_src (hD.2.2.2.1 x hx)
    exact ⟨ax, cx, h1⟩
  have HN : Hid ((X.map (·.born)).Nodup) := by obtain ⟨_, h9⟩ := hD.2.1; exact h9.2.2
  have HXF : Hid (∀ x ∈ X, x.k = folderK u x.name ∧ FitF (fmX x) ∧ x.mails.length ≤ 1000) := fun x hx => by
    obtain ⟨h1, h2⟩ := view_mem hV hx
    have h3 := (hfs _ h2).2.2
    have h4 : (fmX x).mails.length = x.mails.length := rfl
    exact ⟨h1, hF _ h2, by omega⟩
  have HG : Hid (Gl w) := hg
  have HYU : Hid (UpL Y) := hY
  have HNY : Hid (Y.length = ny) := hny
  rw [hla] at hak
  clear hD hV hfs hF hg hY hP hsa hla hsd hwd hTV hKU hny hn0 hn1
  go_enter Tryz.func44, Tryz.ntmps44
  go_upto_region 1 with fail
  go_cut [3] from 8 to 24 (fun ps wx => ∃ p : Nat, ps = .slice (some ⟨p, 0, none⟩) 2 2 ∧ Hid (wx.ownsRow w.heap.size 68 2 (.slice (some ⟨p, 0, none⟩) 2 2) 2 (cellsP [(vK, TV), (KU, wd)])) ∧ Hid (Below w.heap.size w wx))
  case first =>
    refine wp_region_noPanic ?_
    refine wp_region_held_drew (S := fun w' => w'.cell? ⟨M + 1, 2, none⟩ = some (.int .i64 nx) ∧ w'.cell? ⟨M + 1, 3, none⟩ = some (.string u) ∧ w'.cell? ⟨M + 1, 4, none⟩ = some (.string wd)) (by kernel_rfl) ⟨c2, c3, c4⟩ (fun hHeld => ?_)
    refine tkA (i := 0) (v := .pointer (some ⟨M + 1, 0, none⟩)) ?_ hHeld ?_
    · intro w9 hSw
      obtain ⟨z0, z1, z2⟩ := hSw
      go_simp
    simp only [Act.put, List.setIfInBounds_toArray, List.set_cons_zero, List.set_cons_succ]
    refine tkA (i := 1) (v := .pointer (some ⟨M + 1, 0, none⟩)) ?_ hHeld ?_
    · intro w9 hSw
      obtain ⟨z0, z1, z2⟩ := hSw
      go_simp
    simp only [Act.put, List.setIfInBounds_toArray, List.set_cons_zero, List.set_cons_succ]
    refine tkA (i := 2) (v := .pointer (some ⟨M + 1, 2, none⟩)) ?_ hHeld ?_
    · intro w9 hSw
      obtain ⟨z0, z1, z2⟩ := hSw
      go_simp
    simp only [Act.put, List.setIfInBounds_toArray, List.set_cons_zero, List.set_cons_succ]
    refine tkA (i := 3) (v := .int .i64 nx) ?_ hHeld ?_
    · intro w9 hSw
      obtain ⟨z0, z1, z2⟩ := hSw
      go_simp
    simp only [Act.put, List.setIfInBounds_toArray, List.set_cons_zero, List.set_cons_succ]
    refine tkA (i := 6) (v := .pointer (some ⟨M + 1, 0, none⟩)) ?_ hHeld ?_
    · intro w9 hSw
      obtain ⟨z0, z1, z2⟩ := hSw
      go_simp
    simp only [Act.put, List.setIfInBounds_toArray, List.set_cons_zero, List.set_cons_succ]
    refine tkA (i := 7) (v := .pointer (some ⟨M + 1, 0, none⟩)) ?_ hHeld ?_
    · intro w9 hSw
      obtain ⟨z0, z1, z2⟩ := hSw
      go_simp
    simp only [Act.put, List.setIfInBounds_toArray, List.set_cons_zero, List.set_cons_succ]
    refine tkA (i := 8) (v := .pointer (some ⟨M + 1, 3, none⟩)) ?_ hHeld ?_
    · intro w9 hSw
      obtain ⟨z0, z1, z2⟩ := hSw
      go_simp
    simp only [Act.put, List.setIfInBounds_toArray, List.set_cons_zero, List.set_cons_succ]
    refine tkA (i := 9) (v := .string u) ?_ hHeld ?_
    · intro w9 hSw
      obtain ⟨z0, z1, z2⟩ := hSw
      go_simp
    simp only [Act.put, List.setIfInBounds_toArray, List.set_cons_zero, List.set_cons_succ]
    refine tkA (i := 11) (v := .pointer (some ⟨M + 1, 0, none⟩)) ?_ hHeld ?_
    · intro w9 hSw
      obtain ⟨z0, z1, z2⟩ := hSw
      go_simp
    simp only [Act.put, List.setIfInBounds_toArray, List.set_cons_zero, List.set_cons_succ]
    refine tkA (i := 12) (v := .pointer (some ⟨M + 1, 0, none⟩)) ?_ hHeld ?_
    · intro w9 hSw
      obtain ⟨z0, z1, z2⟩ := hSw
      go_simp
    simp only [Act.put, List.setIfInBounds_toArray, List.set_cons_zero, List.set_cons_succ]
    refine tkA (i := 13) (v := .pointer (some ⟨M + 1, 4, none⟩)) ?_ hHeld ?_
    · intro w9 hSw
      obtain ⟨z0, z1, z2⟩ := hSw
      go_simp
    simp only [Act.put, List.setIfInBounds_toArray, List.set_cons_zero, List.set_cons_succ]
    refine tkA (i := 14) (v := .string wd) ?_ hHeld ?_
    · intro w9 hSw
      obtain ⟨z0, z1, z2⟩ := hSw
      go_simp
    simp only [Act.put, List.setIfInBounds_toArray, List.set_cons_zero, List.set_cons_succ]
    refine wpAnyH_ready (rs := [4]) (by kernel_rfl) (by simp) ?_
    refine AllReadyH.cons rfl (fun K hK => ?_) AllReadyH.nil
    go_simp
    refine (CV _ (HG.out.below (by omega) ((Below.refl w.heap.size w).drew))).mono ?_
    rintro e wa1 ⟨rfl, hb1⟩
    dsimp only
    have B1 : Hid (Below w.heap.size w wa1) := Below.trans ((Below.refl w.heap.size w).drew) (hb1.mono ((Below.refl w.heap.size w).drew).size)
    clear hb1
    refine hK _ _ ⟨cell_later (B1.out) c2, cell_later (B1.out) c3, cell_later (B1.out) c4⟩ (fun hHeld => ?_)
    clear hK K
    refine tkA (i := 5) (v := .agg #[.string ⟨#[118]⟩, .string TV]) ?_ hHeld ?_
    · intro w9 hSw
      obtain ⟨z0, z1, z2⟩ := hSw
      go_simp
    simp only [Act.put, List.setIfInBounds_toArray, List.set_cons_zero, List.set_cons_succ]
    refine wpAnyH_ready (rs := [10]) (by kernel_rfl) (by simp) ?_
    refine AllReadyH.cons rfl (fun K hK => ?_) AllReadyH.nil
    go_simp
    refine (CU _).mono ?_
    rintro e wa2 ⟨rfl, hw2⟩
    dsimp only
    have B2 : Hid (Below w.heap.size w wa2) := by rw [hw2]; exact B1.out
    clear hw2
    refine hK _ _ ⟨cell_later (B2.out) c2, cell_later (B2.out) c3, cell_later (B2.out) c4⟩ (fun hHeld => ?_)
    clear hK K
    refine tkA (i := 15) (v := .agg #[.string KU, .string wd]) ?_ hHeld ?_
    · intro w9 hSw
      obtain ⟨z0, z1, z2⟩ := hSw
      go_simp
    simp only [Act.put, List.setIfInBounds_toArray, List.set_cons_zero, List.set_cons_succ]
    refine wpAnyH_ready (rs := [16]) (by kernel_rfl) (by simp) ?_
    refine AllReadyH.cons rfl (fun K hK => ?_) AllReadyH.nil
    go_simp
    have A3 : Hid (Below w.heap.size w (wa2.alloc (.cells #[.string ⟨#[118]⟩, .string TV, .string KU, .string wd] 68))) := Below.alloc (B2.out) (B2.out).size _
    have O3 : Hid ((wa2.alloc (.cells #[.string ⟨#[118]⟩, .string TV, .string KU, .string wd] 68)).ownsRow w.heap.size 68 2 (.slice (some ⟨wa2.heap.size, 0, none⟩) 2 2) 2 (cellsP [(vK, TV), (KU, wd)])) := own_lit rfl (B2.out).size rfl rfl (by omega)
    refine hK _ _ ⟨cell_later (A3.out) c2, cell_later (A3.out) c3, cell_later (A3.out) c4⟩ (fun hHeld => ?_)
    clear hK K
    refine wpAnyH_ready (rs := [17]) (by kernel_rfl) (by simp) ?_
    refine AllReadyH.cons rfl (fun K hK => ?_) AllReadyH.nil
    go_simp
    refine hK _ _ ⟨cell_later (A3.out) c2, cell_later (A3.out) c3, cell_later (A3.out) c4⟩ (fun hHeld => ?_)
    clear hK K
    refine wpAnyH_done (by kernel_rfl) ?_ _
    refine NoPanic.normal ?_
    clear hHeld
    go_wp2_with fail
    go_meet
    exact ⟨_, rfl, O3.out, A3.out⟩
  case rest =>
    obtain ⟨p, rfl, ho, hbc⟩ := hcut
    have d1 := cell_later hbc.out c1
    have HO : Hid (wc.ownsRow w.heap.size 68 2 (.slice (some ⟨p, 0, none⟩) 2 2) 2 (cellsP ([(vK, TV), (KU, wd)] ++ notK vK (sd.take 0)))) := ho.out
    have BC : Hid (Below w.heap.size w wc) := hbc.out
    have HM0 : Hid (([(vK, TV), (KU, wd)] ++ notK vK (sd.take 0)).length = 2) := rfl
    clear ho hbc CV CU c1 c2 c3 c4 zv
    go_wp2_with fail
    go_loopw [3, 30] (fun v iv wr => ∃ (j m : Nat) (a' : Option Addr) (c' : Nat), j ≤ la ∧ m ≤ j + 2 ∧ v = .slice a' m c' ∧ iv = .int .i64 (j : Int) ∧ Hid (([(vK, TV), (KU, wd)] ++ notK vK (sd.take j)).length = m) ∧ Hid (wr.ownsRow w.heap.size 68 2 (.slice a' m c') m (cellsP ([(vK, TV), (KU, wd)] ++ notK vK (sd.take j)))) ∧ Hid (Below w.heap.size w wr)) (fun _ i _ => la - (RowKit.intOf i).toNat)
    case atStart => exact ⟨0, 2, _, _, Nat.zero_le _, by omega, rfl, rfl, HM0.out, HO.out, BC.out⟩
    case round =>
      obtain ⟨j, m, a', c', hj, hmj, rfl, rfl, hm, ho, hbr⟩ := hrel
      by_cases hlt : j < la
      · have hltj : (j : Int) < (la : Int) := by omega
        have hjl : j < sd.length := by rw [HLA.out]; exact hlt
        obtain ⟨b, o, x, y, rfl, e0, e1, hx⟩ := srcP (HSA.out.below hbr.out) hjl
        have HTK := notK_take vK sd j hjl
        rw [hx.out] at HTK
        by_cases hxv : x.toList = [118]
        · have hb : (x.toList == [118]) = true := by rw [hxv]; rfl
          have hxk : x = vK := by
            refine bs_inj ?_
            rw [← ByteArray.toList_eq, hxv]
          rw [if_pos hxk, List.append_nil] at HTK
          have HT2 : Hid (notK vK (sd.take (j + 1)) = notK vK (sd.take j)) := HTK
          clear HTK hxk hx hxv
          go_wp2_with fail
          exact ⟨⟨j + 1, m, _, _, by omega, by omega, rfl, by go_num, by rw [HT2.out]; exact hm.out, by rw [HT2.out]; exact own_below ho.out ((Below.refl _ _).alloc (Nat.le_refl _) _), hbr.out.alloc hbr.out.size _⟩, by simp [RowKit.intOf]; omega⟩
        · have hb : (x.toList == [118]) = false := beq_eq_false_iff_ne.2 hxv
          have hxk : x ≠ vK := fun e => hxv (by rw [e, ByteArray.toList_eq])
          rw [if_neg hxk] at HTK
          have HT2 : Hid (notK vK (sd.take (j + 1)) = notK vK (sd.take j) ++ [(x, y)]) := HTK
          clear HTK hxk hx hxv
          go_wp2_with (at_builtin; refine wpList_append_src _ rfl _ _ 23 rfl w.heap.size 68 (.agg #[.string ⟨#[]⟩, .string ⟨#[]⟩]) 2 32 Tryz.underlying23 infoP rfl (by decide) (by decide) (.slice a' m c') m (cellsP ([(vK, TV), (KU, wd)] ++ notK vK (sd.take j))) rfl ((ho.out.alloc _).alloc _) (some ⟨wr.heap.size + 1, 0, none⟩) 1 1 (cellsP [(x, y)]) rfl rfl (src_oneP (by simp)) (cellsP_one _) (by omega) (by have h9 := hbr.out.size; simp; omega) ?_)
          intro v2 w2 hown2 hgrow2
          obtain ⟨a2, c2', rfl, _, _⟩ := own_src hown2
          have HO2 : Hid (w2.ownsRow w.heap.size 68 2 (.slice a2 (m + 1) c2') (m + 1) (cellsP ([(vK, TV), (KU, wd)] ++ notK vK (sd.take (j + 1))))) := by
            show w2.ownsRow _ _ _ _ _ _
            rw [HT2.out, ← List.append_assoc, cellsP_append]
            exact hown2
          have HM2 : Hid (([(vK, TV), (KU, wd)] ++ notK vK (sd.take (j + 1))).length = m + 1) := by
            show _ = _
            rw [HT2.out, ← List.append_assoc, List.length_append, hm.out]
            rfl
          have HB2 : Hid (Below w.heap.size w w2) := ((hbr.out.alloc hbr.out.size _).alloc (by have := hbr.out.size; simp; omega) _).grown hgrow2 (by have := hbr.out.size; simp; omega) (fun g e => (ho.out.lt g e).1)
          clear hown2 hgrow2 ho hm
          go_wp2_with fail
          exact ⟨⟨j + 1, m + 1, _, _, by omega, by omega, rfl, by go_num, HM2.out, HO2.out, HB2.out⟩, by simp [RowKit.intOf]; omega⟩
      · obtain rfl : j = la := by omega
        have hltj : ¬ (j : Int) < (j : Int) := by omega
        have HA : Hid (wr.ownsRow w.heap.size 68 2 (.slice a' m c') m (cellsP ([(vK, TV), (KU, wd)] ++ notK vK sd)) ∧ ([(vK, TV), (KU, wd)] ++ notK vK sd).length = m) := by
          have h9 := ho.out
          have h7 := hm.out
          rw [List.take_of_length_le (by rw [HLA.out]; exact Nat.le_refl _)] at h9 h7
          exact ⟨h9, h7⟩
        have f5 := cell_later hbr.out c5
        have HMR : Hid (∃ clock, MapIs wr M clock X) := by obtain ⟨cl, h9⟩ := HMI.out; exact ⟨cl, h9.later hbr.out⟩
        have BR : Hid (Below w.heap.size w wr) := hbr.out
        clear ho hm hbr HO HM0 BC d1
        go_wp2_with (first
          | (at_range; refine wpList_rangeX _ rfl _ 86 rfl Tryz.underlying86 M X rfl HMR.out ?_; intro w0 hrg0 hb0 hs0)
          | go_in)
        have HO0 : Hid (w0.ownsRow w.heap.size 68 2 (.slice a' m c') m (cellsP ([(vK, TV), (KU, wd)] ++ notK vK sd))) := own_below HA.out.1 hb0
        have HB0 : Hid (Below w.heap.size w w0) := BR.out.trans (hb0.mono BR.out.size)
        have HZ0 : Hid (wr.heap.size < w0.heap.size ∧ w.heap.size ≤ wr.heap.size) := ⟨by omega, BR.out.size⟩
        obtain ⟨rr, hrr⟩ : ∃ x, wr.heap.size = x := ⟨_, rfl⟩
        rw [hrr] at hrg0 HZ0 ⊢
        have HLEN : Hid ((([(vK, TV), (KU, wd)] ++ notK vK sd) ++ leftP u #[] X).length = ny) := by
          show _ = _
          rw [← HDP.out.2, HDP.out.1.length_eq, HNY.out]
        have HML : Hid (([(vK, TV), (KU, wd)] ++ notK vK sd).length = m) := HA.out.2
        clear hb0 hs0 HA BR HMR hrr
        try go_frame
        go_loopw [3] (fun v wr => ∃ (seen : Array Nat) (m : Nat) (a' : Option Addr) (c' : Nat) (R : List PM), v = .slice a' m c' ∧ m ≤ ny ∧ Hid (R.length = m) ∧ Hid (RangeX wr M rr X seen) ∧ Hid ((R ++ leftP u seen X).Perm (([(vK, TV), (KU, wd)] ++ notK vK sd) ++ leftP u #[] X)) ∧ Hid (wr.ownsRow w.heap.size 68 2 (.slice a' m c') m (cellsP R)) ∧ Hid (Below w.heap.size w wr)) (fun _ wr => wr.rangeLeft M rr)
        case atStart => exact ⟨#[], m, a', c', _, rfl, by have h9 := HLEN.out; rw [List.length_append, HML.out] at h9; omega, HML.out, hrg0, List.Perm.refl _, HO0.out, HB0.out⟩
        case round =>
          obtain ⟨seen, m2, a2, c2, R, rfl, hm2, hR, hrg, hperm, hown, hbw⟩ := hrel
          go_wp2_with (first
            | (at_next; refine wpList_nextY _ rfl _ rfl M rr X seen (by have h9 := HZ0.out; omega) rfl hrg.out HSL.out ?_ ?_)
            | go_in)
          · intro hall
            have hz := leftP_end (u := u) (fun x hx => by simpa using hall.out x hx)
            have hpy : R.Perm Y := by
              have h9 := hperm.out
              rw [hz, List.append_nil, ← HDP.out.2] at h9
              exact h9.trans HDP.out.1
            obtain rfl : m2 = ny := by rw [← hR.out, hpy.length_eq, HNY.out]
            have HPY : Hid (R.Perm Y) := hpy
            have hm0 : 0 < m2 := by
              have h9 := HLEN.out
              rw [List.length_append, List.length_append] at h9
              simp at h9
              omega
            obtain ⟨g, cap, hv, _, _⟩ := own_someP hown.out hm0
            cases hv
            have hgb := hown.out.lt g rfl
            have C1 := sortP g c2 m2 R wr hR.out (by omega) (holds_own hown.out) hgb.2
            have HGB : Hid (w.heap.size ≤ g) := hgb.1
            clear hz hall hperm hpy hm0 hgb
            go_wp2_with fail
            refine C1.mono ?_
            rintro e w2 ⟨rfl, R2, mm, os, hp2, hs2, hw2⟩
            obtain ⟨oo, gg⟩ := own_sortK (nn := mm) (os := os) hown.out (hp2.length_eq)
            rw [← hw2] at oo gg
            have hRY : R2 = Y := sorted_eq HYU.out (hp2.trans HPY.out) hs2
            rw [hRY] at oo
            have OO : Hid (w2.ownsRow w.heap.size 68 2 (.slice (some ⟨g, 0, none⟩) m2 c2) m2 (cellsP Y)) := oo
            have BB : Hid (Below w.heap.size w w2) := hbw.out.grown gg hbw.out.size (fun j hj => by cases hj; exact HGB.out)
            clear oo gg hw2 C1 hp2 hs2 hRY
            go_wp2_with fail
            go_ret
            exact ⟨g, c2, rfl, OO.out, BB.out⟩
          · intro x hx hsx ax cx hv w1 hrg1 hlt1 hb1 hgr1 hs1 hen
            have hpush := leftP_push (u := u) HN.out hx (by simpa using hsx.out)
            obtain ⟨hxk, hxf, hxm⟩ := HXF.out x hx
            have hrow := HRW.out.1 x hx
            rw [hv] at hrow
            obtain ⟨ax', cx', hv', hsm, _⟩ := own_src hrow
            cases hv'
            have O1 : Hid (w1.ownsRow w.heap.size 68 2 (.slice a2 m2 c2) m2 (cellsP R)) := own_grown hown.out hgr1 (fun g h9 h7 => row_range hown.out hrg.out (by rw [h9, h7]))
            have HB1 : Hid (Below w.heap.size w w1) := hbw.out.trans (hb1.mono (by have h9 := HZ0.out; omega))
            have HLP : Hid ((R ++ fPairs u (fmX x)).length = m2 + (x.mails.length + 1) ∧ m2 + (x.mails.length + 1) ≤ ny) := by
              have h9 := hperm.out.length_eq
              rw [HLEN.out, List.length_append, hpush.length_eq, List.length_append] at h9
              have h7 : (fPairs u (fmX x)).length = x.mails.length + 1 := by unfold fPairs; simp
              refine ⟨by rw [List.length_append, h7, hR.out], ?_⟩
              have h6 := hR.out
              omega
            have HS2 : Hid (((R ++ fPairs u (fmX x)) ++ leftP u (seen.push x.born) X).Perm (([(vK, TV), (KU, wd)] ++ notK vK sd) ++ leftP u #[] X)) := by
              show List.Perm _ _
              rw [List.append_assoc]
              exact (List.Perm.append_left R hpush.symm).trans hperm.out
            obtain ⟨w1b, hw1b⟩ : ∃ W, w1.alloc (.cells #[.string x.name, .int .i64 x.val, .int .i64 x.next, .slice ax x.mails.length cx] 28) = W := ⟨_, rfl⟩
            have A1 : Below w1.heap.size w1 w1b := by rw [← hw1b]; exact (Below.refl _ _).alloc (Nat.le_refl _) _
            have X1b : Hid (Box w1b w1.heap.size [.string x.name, .int .i64 x.val, .int .i64 x.next, .slice ax x.mails.length cx]) := by show Box _ _ _; rw [← hw1b]; exact Box.new rfl
            have CF := folPairsI u (fmX x) ax x.mails.length cx rfl hxm hxf hu w1b (hsm.below (HB1.out.trans (A1.mono HB1.out.size))) (HG.out.below (by omega) (HB1.out.trans (A1.mono HB1.out.size))) (by have h9 := A1.size; have h7 := HB1.out.size; omega)
            rw [← hxk] at CF
            have O1b : Hid (w1b.ownsRow w.heap.size 68 2 (.slice a2 m2 c2) m2 (cellsP R)) := own_below O1.out A1
            have HB1b : Hid (Below w.heap.size w w1b) := HB1.out.trans (A1.mono HB1.out.size)
            have HR1 : Hid (RangeX w1b M rr X (seen.push x.born)) := hrg1.later A1
            have HLT : Hid (w1b.rangeLeft M rr < wr.rangeLeft M rr) := by show _ < _; rw [(hrg1.later A1).left, ← hrg1.left]; exact hlt1
            obtain ⟨FP, hFP⟩ : ∃ x', fPairs u (fmX x) = x' := ⟨_, rfl⟩
            rw [hFP] at CF HS2 HLP
            obtain ⟨ml, hml⟩ : ∃ k, x.mails.length = k := ⟨_, rfl⟩
            obtain ⟨xn, hxn⟩ : ∃ k, x.name = k := ⟨_, rfl⟩
            obtain ⟨xv, hxv⟩ : ∃ k, x.val = k := ⟨_, rfl⟩
            obtain ⟨xx, hxx⟩ : ∃ k, x.next = k := ⟨_, rfl⟩
            obtain ⟨xk, hxk2⟩ : ∃ k, x.k = k := ⟨_, rfl⟩
            rw [hml] at hen hw1b HLP hxm ⊢
            rw [hxn] at hen hw1b ⊢
            rw [hxv] at hen hw1b ⊢
            rw [hxx] at hen hw1b ⊢
            rw [hxk2] at hen ⊢
            rw [hml, hxn, hxv, hxx] at X1b
            have CF2 : Calls Tryz.prog 83 #[.agg #[.string xn, .int .i64 xv, .int .i64 xx, .slice ax ml cx], .string xk] w1b fun e w' => ∃ v, e = .returned v ∧ w'.ownsRow w1b.heap.size 68 2 v (ml + 1) (cellsP FP) ∧ Below w1b.heap.size w1b w' := by
              rw [← hml, ← hxn, ← hxv, ← hxx, ← hxk2]
              exact CF
            obtain ⟨f0, _⟩ := X1b.out 0 _ rfl
            obtain ⟨f1, _⟩ := X1b.out 1 _ rfl
            obtain ⟨f2, _⟩ := X1b.out 2 _ rfl
            obtain ⟨f3, _⟩ := X1b.out 3 _ rfl
            have hmb : m2 + (ml + 1) ≤ ny := HLP.out.2
            have HLR : Hid ((R ++ FP).length = m2 + (ml + 1)) := HLP.out.1
            clear hpush hperm hrg1 hb1 hbw hlt1 hs1 hown hgr1 hxk hxf hrow hsm CF A1 O1 HB1 hml hxn hxv hxx hxk2 hFP hrg HLP hsx hx hv
            go_wp2_with fail
            refine CF2.mono ?_
            rintro e w5 ⟨v5, rfl, hown5, hb5⟩
            obtain ⟨a5, c5', rfl, hsrc5, _⟩ := own_src hown5
            have O5 : Hid (w5.ownsRow w.heap.size 68 2 (.slice a2 m2 c2) m2 (cellsP R)) := own_below O1b.out hb5
            have HB5 : Hid (Below w.heap.size w w5) := HB1b.out.trans (hb5.mono HB1b.out.size)
            have HR5 : Hid (RangeX w5 M rr X (seen.push x.born)) := HR1.out.later hb5
            have HLT5 : Hid (w5.rangeLeft M rr < wr.rangeLeft M rr) := by show _ < _; rw [(HR1.out.later hb5).left, ← HR1.out.left]; exact HLT.out
            have HS5 : Hid (Src w5 a5 (cellsP FP)) := hsrc5
            have HLF : Hid ((cellsP FP).length = (ml + 1) * 2) := hown5.1
            clear hown5 hb5 hsrc5 CF2 HR1 HLT O1b HB1b f0 f1 f2 f3
            go_wp2_with (at_builtin; refine wpList_append_src _ rfl _ _ 23 rfl w.heap.size 68 (.agg #[.string ⟨#[]⟩, .string ⟨#[]⟩]) 2 32 Tryz.underlying23 infoP rfl (by decide) (by decide) (.slice a2 m2 c2) m2 (cellsP R) rfl O5.out a5 (ml + 1) c5' (cellsP FP) rfl HLF.out HS5.out (cellsP_one _) (by omega) HB5.out.size ?_)
            intro v6 w6 hown6 hgrow6
            obtain ⟨a6, c6, rfl, _, _⟩ := own_src hown6
            have O6 : Hid (w6.ownsRow w.heap.size 68 2 (.slice a6 (m2 + (ml + 1)) c6) (m2 + (ml + 1)) (cellsP (R ++ FP))) := by
              show w6.ownsRow _ _ _ _ _ _
              rw [cellsP_append]
              exact hown6
            have HB6 : Hid (Below w.heap.size w w6) := HB5.out.grown hgrow6 HB5.out.size (fun g e => (O5.out.lt g e).1)
            have HR6 : Hid (RangeX w6 M rr X (seen.push x.born)) := HR5.out.grown hgrow6 (fun e => by have := (O5.out.lt _ e).1; omega) (fun e => row_range O5.out HR5.out e)
            have HLT6 : Hid (w6.rangeLeft M rr < wr.rangeLeft M rr) := by show _ < _; rw [HR6.out.left, ← HR5.out.left]; exact HLT5.out
            clear hown6 hgrow6 HR5 HLT5 O5 HB5
            go_wp2_with fail
            go_roundw
            case rel => exact ⟨_, _, a6, c6, R ++ FP, rfl, hmb, HLR.out, HR6.out, HS2.out, O6.out, HB6.out⟩
            case measure => exact HLT6.out
end Go.Proofs.YthgbclipknfmjaaGreatDoor
namespace Go.Proofs.YthgbclipknfmjaaGreatDoor
open Go.ChangeShapes Go.WideShapes Go.ChangeAt Go.RowKit Go.Deep
set_option linter.unusedVariables false

theorem Src.head {w : World} {a : Option Addr} {xs : List Value} (h : Src w a xs) (k : Nat) : Src w a (xs.take k) := by
  rcases h with h | ⟨b, o, rfl, hc⟩
  · subst h
    exact .inl (by simp)
  · refine .inr ⟨b, o, rfl, fun j hj => ?_⟩
    rw [List.length_take] at hj
    rw [hc j (by omega), List.getD_eq_getElem?_getD, List.getD_eq_getElem?_getD, List.getElem?_take, if_pos (by omega)]
theorem own_capx {w : World} {base e s n c : Nat} {a : Option Addr} {xs : List Value} (h : w.ownsRow base e s (.slice a n c) n xs) : n ≤ c ∧ c ≤ maxLen := by
  obtain ⟨hl, ⟨hv, h0⟩ | ⟨g, cap, cur, hv, hb, hg, hc1, hc2, hsz, ht⟩⟩ := h
  · cases hv
    exact ⟨Nat.le_refl _, by unfold maxLen; omega⟩
  · cases hv
    exact ⟨hc1, hc2⟩
end Go.Proofs.YthgbclipknfmjaaGreatDoor
