/-
  Srt Rnx Dps Dne Nxw Sfr Sad Opi Ltw Drp Sdr Dfi Ltx in one. By an AI agent.
-/
import Derived.Test.YtbpgncgmolpkiaaGreatDoorShelp
import Derived.Test.YtbpgncgmolpkiaaGreatDoorShelc
import Derived.Test.YtbpgncgmolpkiaaGreatDoorMza
import Derived.Test.YtbpgncgmolpkiaaGreatDoorRng
import Derived.Test.YtbpgncgmolpkiaaGreatDoorCuts
import Derived.Test.YtbpgncgmolpkiaaGreatDoorUnder
namespace Go.Proofs.YtbpgncgmolpkiaaGreatDoor
open Go.ChangeShapes Go.WideShapes Go.ChangeAt Go.RowKit Go.Deep
open Go.Sort (SWO HoldsK flatK putRowK putRow Holds grow PermIn SortedIn size_flatK get_flatK ext_get! putCells)
set_option linter.unusedVariables false
set_option linter.unusedSimpArgs false
set_option maxRecDepth 100000

def encP (x : PM) : List Value := [.string x.1, .string x.2]
def cfP (x y : PM) : Int := Lib.compareBytes x.1.data.toList y.1.data.toList
theorem cmp_less : ∀ a b : List UInt8, decide (Lib.compareBytes a b < 0) = Op.bytesLess a b
  | [], [] => by simp [Lib.compareBytes, Op.bytesLess]
  | [], b :: y => by simp [Lib.compareBytes, Op.bytesLess]
  | a :: x, [] => by simp [Lib.compareBytes, Op.bytesLess]
  | a :: x, b :: y => by
    have ih := cmp_less x y
    unfold Lib.compareBytes Op.bytesLess
    by_cases h1 : a < b
    · simp [h1]
    · rw [if_neg h1]
      by_cases h2 : b < a
      · rw [if_pos h2]
        have hne : a ≠ b := fun e => by rw [e] at h2; exact absurd h2 (by simp)
        simp [h1, hne]
      · rw [if_neg h2]
        have he : a = b := by
          have h3 : ¬ a.toNat < b.toNat := fun h => h1 (UInt8.lt_iff_toNat_lt.2 h)
          have h4 : ¬ b.toNat < a.toNat := fun h => h2 (UInt8.lt_iff_toNat_lt.2 h)
          exact UInt8.toNat_inj.1 (by omega)
        subst he
        rw [ih]
        simp [h1]
theorem lt_cf (x y : PM) : ltOf cfP x y = Op.bytesLess x.1.data.toList y.1.data.toList := cmp_less _ _
theorem bl_tot : ∀ x y : List UInt8, Op.bytesLess x y = false → x ≠ y → Op.bytesLess y x = true
  | [], [], _, h => absurd rfl h
  | [], b :: y, h, _ => by simp [Op.bytesLess] at h
  | a :: x, [], _, _ => by simp [Op.bytesLess]
  | a :: x, b :: y, h, hn => by
    have ih := bl_tot x y
    unfold Op.bytesLess at h ⊢
    by_cases e : a = b
    · subst e
      simp at h ⊢
      exact ih h (fun e => hn (by rw [e]))
    · simp at h ⊢
      have hne : a.toNat ≠ b.toNat := fun e2 => e (UInt8.toNat_inj.1 e2)
      have h1 := UInt8.le_iff_toNat_le.1 h.1
      exact .inl (UInt8.lt_iff_toNat_lt.2 (by omega))
theorem swoP : SWO (ltOf cfP) where
  irrefl x := by rw [lt_cf]; exact bl_irrefl _
  trans x y z h1 h2 := by rw [lt_cf] at *; exact bl_trans _ _ _ h1 h2
  ntrans x y z h1 h2 := by
    rw [lt_cf] at *
    cases h : Op.bytesLess x.1.data.toList z.1.data.toList with
    | false => rfl
    | true =>
      by_cases e : y.1.data.toList = z.1.data.toList
      · rw [← e, h1] at h; cases h
      · have h3 := bl_trans _ _ _ h (bl_tot _ _ h2 e)
        rw [h1] at h3; cases h3
set_option maxHeartbeats 1000000 in
theorem cmpP (x y : PM) (W : World) : Calls Tryz.prog 73 #[.agg #[.string x.1, .string x.2], .agg #[.string y.1, .string y.2]] W fun e w' => e = .returned (.int .i64 (cfP x y)) ∧ ∃ q os', w' = grow (W.drewN q) os' := by
  have hcon := fun W' => Tryz.strings_Compare x.1 y.1 W'
  change ∀ W', Calls Tryz.prog 74 _ W' fun e w' => e = .returned (.int .i64 (cfP x y)) ∧ w' = W' at hcon
  generalize cfP x y = r at hcon ⊢
  obtain ⟨x1, x2⟩ := x
  obtain ⟨y1, y2⟩ := y
  go_enter Tryz.func73, Tryz.ntmps73
  go_wp2_with fail
  refine (hcon _).mono ?_
  rintro e w' ⟨rfl, rfl⟩
  go_wp2_with fail
  go_ret
  exact ⟨rfl, 0, _, by rw [Go.Sort.alloc_eq_grow, Go.Sort.alloc_eq_grow, Go.Sort.grow_grow]; rfl⟩
theorem flat_cells (L : List PM) : flatK encP 2 L.toArray = (cellsP L).toArray := by
  have hl := cellsP_length L
  refine ext_get! (by rw [size_flatK]; simp [hl]) fun t ht => ?_
  rw [size_flatK] at ht
  have ht2 : t < L.length * 2 := by simpa using ht
  rw [get_flatK _ _ _ _ ht]
  have hi : t / 2 < L.length := by omega
  obtain ⟨c1, c2⟩ := cellsP_get L (t / 2) hi
  have hL : L.toArray[t / 2]! = L.getD (t / 2) p0 := by
    rw [List.getD_eq_getElem?_getD, List.getElem?_eq_getElem hi]
    simp [hi]
  have hr : (cellsP L).toArray[t]! = (cellsP L)[t]?.getD default := by
    rw [List.getElem!_toArray, List.getElem!_eq_getElem?_getD]
  rw [hL, hr]
  by_cases e : t % 2 = 0
  · rw [e]
    have e2 : t / 2 * 2 = t := by omega
    rw [e2] at c1
    rw [c1]
    rfl
  · have e1 : t % 2 = 1 := by omega
    rw [e1]
    have e2 : t / 2 * 2 + 1 = t := by omega
    rw [e2] at c2
    rw [c2]
    rfl
theorem holds_own {w : World} {base g cap n : Nat} {L : List PM} (ho : w.ownsRow base 47 2 (.slice (some ⟨g, 0, none⟩) n cap) n (cellsP L)) : HoldsK encP 2 w g 0 L.toArray := by
  unfold HoldsK
  rw [flat_cells]
  intro j hj
  have hj2 : j < (cellsP L).length := by simpa using hj
  obtain ⟨h1, h2⟩ := own_cell ho hj2
  rw [Nat.zero_add]
  refine ⟨?_, h2⟩
  rw [h1, List.getElem!_toArray, List.getElem!_eq_getElem?_getD, List.getD_eq_getElem?_getD, List.getElem?_eq_getElem hj2]
  rfl
theorem own_sortK {w : World} {base g cap n nn : Nat} {os : Array Obj} {L R : List PM} (ho : w.ownsRow base 47 2 (.slice (some ⟨g, 0, none⟩) n cap) n (cellsP L)) (hl : R.length = L.length) :
    (sortWorldK encP 2 w g 0 nn R.toArray os).ownsRow base 47 2 (.slice (some ⟨g, 0, none⟩) n cap) n (cellsP R) ∧ w.grownBy (sortWorldK encP 2 w g 0 nn R.toArray os) (some g) := by
  obtain ⟨hlen, ⟨hv, _⟩ | ⟨g', cap', cur, hv, hbase, hb, hc1, hc2, hsz, ht⟩⟩ := ho
  · cases hv
  cases hv
  have hlR : (cellsP R).length = n * 2 := by rw [cellsP_length, hl, ← cellsP_length, hlen]
  have hg : g < w.heap.size := (Array.getElem?_eq_some_iff.1 hb).1
  have hheap : (sortWorldK encP 2 w g 0 nn R.toArray os).heap[g]? = some (.cells (putCells id 0 (cellsP R).toArray cur) 47 (0, 0)) := by
    unfold sortWorldK putRowK
    rw [flat_cells, Go.Sort.heap_grow_old _ _ (by simpa using hg)]
    simp [putRow, Go.Sort.mapBlock, Go.Sort.ahead, Array.getElem?_modify, hb, Go.Sort.onCells]
  refine ⟨⟨hlR, .inr ⟨g, cap, _, rfl, hbase, hheap, hc1, hc2, by simp [putCells, hsz], ?_⟩⟩, ?_⟩
  · apply List.ext_getElem?
    intro j
    by_cases hj : j < n * 2
    · rw [List.getElem?_take_of_lt hj, Array.getElem?_toList]
      have hjc : j < cur.size := by rw [hsz]; omega
      have hj3 : j < (cellsP R).length := by omega
      simp [putCells, hj3, hjc]
    · rw [List.getElem?_take_eq_none (by omega), List.getElem?_eq_none (by omega)]
  · refine ⟨rfl, rfl, rfl, by simp [sortWorldK, putRowK, grow, putRow, Go.Sort.mapBlock, Go.Sort.ahead], fun k hk hne => ?_⟩
    unfold sortWorldK putRowK
    rw [Go.Sort.heap_grow_old _ _ (by simpa using hk)]
    have : g ≠ k := fun e => hne (by rw [e])
    simp [putRow, Go.Sort.mapBlock, Go.Sort.ahead, Array.getElem?_modify, this]
theorem sorted_list {lt : PM → PM → Bool} : ∀ {R : List PM}, SortedIn lt 0 R.length R.toArray → R.Pairwise fun x y => lt y x = false := by
  intro R h
  rw [List.pairwise_iff_getElem]
  intro i j hi hj hij
  have h1 := h i j (Nat.zero_le _) hij hj
  simpa [hi, hj] using h1
theorem sortP (blk cap n : Nat) (L : List PM) (w : World) (hn : L.length = n) (hl : n < 4611686018427387904) (hH : HoldsK encP 2 w blk 0 L.toArray) (hblk : blk < w.heap.size) :
    Calls Tryz.prog 72 #[.slice (some ⟨blk, 0, none⟩) n cap, .func (.func 73) #[] #[]] w fun e w' => e = .returned (.tuple #[]) ∧ ∃ (R : List PM) (m : Nat) (os : Array Obj), R.Perm L ∧ (R.Pairwise fun x y => Op.bytesLess y.1.data.toList x.1.data.toList = false) ∧ w' = sortWorldK encP 2 w blk 0 m R.toArray os := by
  subst hn
  have eg : ∀ args w, (callFunc 73 args).run Tryz.prog w = .ok (.enter 73 args) w := enters_of Tryz.func73 (by kernel_rfl) rfl
  have hcon := AnyQ.slices_SortFunc Tryz.sortPairs 2 Tryz.isAgg47 Tryz.sizeOf47 encP (fun _ => rfl) (fun x v hv => by simp [encP] at hv; rcases hv with rfl | rfl <;> rfl) cfP swoP 73 #[] blk 0 cap L.toArray w eg (fun _ _ _ _ x y => cmpP x y _) hH hblk (by simpa using hl)
  change Calls Tryz.prog 72 _ _ _ at hcon
  rw [show L.toArray.size = L.length from by simp] at hcon
  refine hcon.mono ?_
  rintro e w' ⟨rfl, d', m, os, hp, hs, hw⟩
  have hz : d'.size = L.length := by have := hp.1; simpa using this
  refine ⟨rfl, d'.toList, m, os, ?_, ?_, by rw [hw]⟩
  · have h1 := hp.2.2
    rw [Array.extract_eq_self_of_le (by omega), Array.extract_eq_self_of_le (by simp)] at h1
    simpa using h1
  · have h2 := sorted_list (R := d'.toList) (lt := ltOf cfP) (by simpa [hz] using hs)
    exact h2.imp fun h => by rw [lt_cf] at h; exact h
/-- Whatever is a permutation of a rising list, and sorted, is that list. -/
theorem sorted_eq {R Y : List PM} (hY : UpL Y) (hp : R.Perm Y) (hs : R.Pairwise fun x y => Op.bytesLess y.1.data.toList x.1.data.toList = false) : R = Y := by
  have hnd : (Y.map (·.1)).Nodup := by
    have h1 : Y.Pairwise fun x y => x.1 ≠ y.1 := hY.imp fun h e => by rw [e] at h; exact ltK_irrefl _ h
    rw [List.Nodup, List.pairwise_map]
    exact h1
  have hnr : R.Pairwise fun x y => x.1 ≠ y.1 := by
    have h1 : (R.map (·.1)).Nodup := (hp.map _).nodup_iff.2 hnd
    rw [List.Nodup, List.pairwise_map] at h1
    exact h1
  refine up_perm ?_ hY hp
  refine (hs.and hnr).imp fun {x y} h => ?_
  show Op.bytesLess x.1.toList y.1.toList = true
  rw [ByteArray.toList_eq, ByteArray.toList_eq]
  exact bl_tot _ _ h.1 fun e => h.2 (bs_inj e.symm)
end Go.Proofs.YtbpgncgmolpkiaaGreatDoor
namespace Go.Proofs.YtbpgncgmolpkiaaGreatDoor
open Go.ChangeShapes Go.WideShapes Go.ChangeAt Go.RowKit Go.Deep Go.Lib
open Go.ChangeMaps (setBlock)
set_option linter.unusedVariables false
set_option linter.unusedSimpArgs false
set_option maxRecDepth 100000

section
variable {P : Program} (w : World) {ops : Array Oper} {rest : List Oper} {o : Oper} {a : Act} {Q : Exit → Act → World → Prop}
theorem wpList_nextY (hg : o.guard = none) (it : Operand) (hop : o.op = Op.next it false) (M r : Nat) (X : List FX) (seen : Array Nat) (hMr : M < r) (hit : a.eval it = .pointer (some ⟨r, 0, none⟩)) (h : RangeX w M r X seen)
    (hsl : ∀ x ∈ X, ∃ (ax : Option Addr) (cx : Nat), x.v = .slice ax x.mails.length cx)
    (hDone : Hid (∀ x ∈ X, seen.contains x.born = true) → wpList P ops Q rest (a.put o.dst (.tuple #[.bool false])) w)
    (hMore : ∀ x ∈ X, Hid (seen.contains x.born = false) → ∀ (ax : Option Addr) (cx : Nat), x.v = .slice ax x.mails.length cx → ∀ w', RangeX w' M r X (seen.push x.born) → w'.rangeLeft M r < w.rangeLeft M r → Below r w w' → w.grownBy w' (some r) → w'.heap.size = w.heap.size →
      (Instr.entry (.pointer (some ⟨r, 0, none⟩))).run P w' = .ok (.tuple #[.string x.k, .agg #[.string x.name, .int .i64 x.val, .int .i64 x.next, .slice ax x.mails.length cx]]) w' → wpList P ops Q rest (a.put o.dst (.tuple #[.bool true, .string x.k, .agg #[.string x.name, .int .i64 x.val, .int .i64 x.next, .slice ax x.mails.length cx]])) w') :
    wpList P ops Q (o :: rest) a w := by
  refine wpList_plain hg fun K' hK' => ?_
  have hleft := h.left
  obtain ⟨clock, h1, h2⟩ := h
  have hold : ∀ x ∈ (X.map entX).toArray.toList, x.born < clock := fun e he => by
    obtain ⟨x, hx, rfl⟩ := List.mem_map.1 (by simpa using he)
    exact h1.2.1 x hx
  unfold Oper.wp
  rcases run_next_at (P := P) w o.type r M clock clock seen (X.map entX).toArray clock h2 h1.1 hold (Nat.le_refl _) with ⟨h0, hrun⟩ | ⟨e, he, w1, hal, hrun⟩
  · simp [execOp, hop, hit, hrun, Result.andThen]
    exact hK' _ _ (hDone fun x hx => all_seen _ seen h0 (entX x) (by simpa using ⟨x, hx, rfl⟩))
  · have hsh := left_shrinks _ seen e he
    obtain ⟨hem, hes⟩ := mem_left he
    obtain ⟨x, hx, rfl⟩ := List.mem_map.1 (by simpa using hem : e ∈ X.map entX)
    obtain ⟨ax, cx, hv⟩ := hsl x hx
    have hval : (entX x).val = .agg #[.string x.name, .int .i64 x.val, .int .i64 x.next, .slice ax x.mails.length cx] := by
      show valX x = _
      unfold valX
      rw [hv]
    have hr1 : r < w1.heap.size := by
      have h9 := (Array.getElem?_eq_some_iff.1 h2).1
      rcases hal with rfl | rfl <;> exact h9
    have hbw : Below r w w1 := by
      rcases hal with rfl | rfl
      · exact Below.refl _ _
      · exact (Below.refl _ _).drew
    have hb1 : w1.heap[M]? = some (.map (X.map entX).toArray clock) := (hbw.block M hMr).trans h1.1
    have hb' : (setBlock w1 r (.mapIter (some M) clock (seen.push (entX x).born) clock)).heap[M]? = some (.map (X.map entX).toArray clock) := (sb_block _ _ _ _ (by omega)).trans hb1
    have hr' : (setBlock w1 r (.mapIter (some M) clock (seen.push (entX x).born) clock)).heap[r]? = some (.mapIter (some M) clock (seen.push (entX x).born) clock) := sb_same _ _ _ hr1
    have hen := run_entry_at (P := P) _ r M clock seen (X.map entX).toArray clock (entX x) hr' hb' hem (by
      have h9 := h1.2.2
      have h7 : ((X.map entX).toArray.toList.map (·.born)) = X.map (·.born) := by simp [entX, Function.comp_def]
      rw [h7]
      exact h9)
    have hR : RangeX (setBlock w1 r (.mapIter (some M) clock (seen.push (entX x).born) clock)) M r X (seen.push x.born) := ⟨clock, ⟨hb', h1.2⟩, hr'⟩
    have hgr : w.grownBy (setBlock w1 r (.mapIter (some M) clock (seen.push (entX x).born) clock)) (some r) := by
      rcases hal with rfl | rfl
      · exact sb_grown _ _ _
      · have h9 := sb_grown w.drew r (.mapIter (some M) clock (seen.push (entX x).born) clock)
        exact ⟨h9.os, h9.tape, h9.output, h9.size, h9.block⟩
    rw [hval] at hrun hen
    simp [execOp, hop, hit, hrun, Result.andThen]
    exact hK' _ _ (hMore x hx hes ax cx hv _ hR (by rw [hR.left, hleft]; exact hsh) (hbw.trans (sb_below _ r _)) hgr (by
      have h9 : (setBlock w1 r (.mapIter (some M) clock (seen.push (entX x).born) clock)).heap.size = w1.heap.size := by simp [setBlock]
      rw [h9]
      rcases hal with rfl | rfl <;> rfl) hen)
end
theorem RangeX.grown {w w' : World} {M r : Nat} {X : List FX} {seen : Array Nat} {row : Option Nat} (h : RangeX w M r X seen) (hg : w.grownBy w' row) (h1 : row ≠ some M) (h2 : row ≠ some r) : RangeX w' M r X seen := by
  obtain ⟨c, k1, k2⟩ := h
  exact ⟨c, ⟨(hg.block M (Array.getElem?_eq_some_iff.1 k1.1).1 (fun e => h1 e.symm)).trans k1.1, k1.2⟩, (hg.block r (Array.getElem?_eq_some_iff.1 k2).1 (fun e => h2 e.symm)).trans k2⟩
theorem row_range {w : World} {base e s n M r : Nat} {v : Value} {xs : List Value} {X : List FX} {seen : Array Nat} (h : w.ownsRow base e s v n xs) (hr : RangeX w M r X seen) : v.ownBlock ≠ some r := fun h2 => by
  obtain ⟨_, _, h3⟩ := hr
  obtain ⟨_, ⟨rfl, _⟩ | ⟨g, cap, cur, rfl, _, hb, _⟩⟩ := h
  · cases h2
  · have : g = r := by simpa [Value.ownBlock] using h2
    subst this
    rw [h3] at hb
    cases hb
end Go.Proofs.YtbpgncgmolpkiaaGreatDoor
namespace Go.Proofs.YtbpgncgmolpkiaaGreatDoor
open Go.ChangeShapes Go.WideShapes Go.ChangeAt Go.RowKit Go.Deep Go.Lib
set_option linter.unusedVariables false
set_option linter.unusedSimpArgs false
set_option maxRecDepth 100000

/-- The pairs of those folders that are still to come. -/
def leftP (u : ByteArray) (seen : Array Nat) : List FX → List PM
  | [] => []
  | x :: X => if seen.contains x.born = true then leftP u seen X else fPairs u (fmX x) ++ leftP u seen X
theorem leftP_other {u : ByteArray} {seen : Array Nat} {b : Nat} : ∀ {X : List FX}, (∀ x ∈ X, x.born ≠ b) → leftP u (seen.push b) X = leftP u seen X
  | [], _ => rfl
  | x :: X, h => by
    unfold leftP
    have h1 : (x.born == b) = false := beq_eq_false_iff_ne.2 (h x List.mem_cons_self)
    rw [contains_push, h1, Bool.or_false, leftP_other fun y hy => h y (List.mem_cons_of_mem _ hy)]
theorem leftP_push {u : ByteArray} {seen : Array Nat} {x : FX} : ∀ {X : List FX}, (X.map (·.born)).Nodup → x ∈ X → seen.contains x.born = false → (leftP u seen X).Perm (fPairs u (fmX x) ++ leftP u (seen.push x.born) X)
  | [], _, h, _ => by cases h
  | y :: X, hn, hx, hs => by
    rw [List.map_cons, List.nodup_cons] at hn
    unfold leftP
    by_cases hb : y.born = x.born
    · have hno : ∀ z ∈ X, z.born ≠ x.born := fun z hz e => hn.1 (List.mem_map.2 ⟨z, hz, by rw [e, hb]⟩)
      rcases List.mem_cons.1 hx with rfl | hx
      · rw [leftP_other hno, contains_push, hs]
        simp
      · exact absurd rfl (hno x hx)
    · have h1 : (y.born == x.born) = false := beq_eq_false_iff_ne.2 hb
      rcases List.mem_cons.1 hx with rfl | hx
      · exact absurd rfl hb
      · have ih := leftP_push (u := u) hn.2 hx hs
        rw [contains_push, h1, Bool.or_false]
        split
        · exact ih
        · refine (List.Perm.append_left _ ih).trans ?_
          rw [← List.append_assoc, ← List.append_assoc]
          exact List.Perm.append_right _ List.perm_append_comm
theorem leftP_end {u : ByteArray} {seen : Array Nat} : ∀ {X : List FX}, (∀ x ∈ X, seen.contains x.born = true) → leftP u seen X = []
  | [], _ => rfl
  | x :: X, h => by
    unfold leftP
    rw [if_pos (h x List.mem_cons_self), leftP_end fun y hy => h y (List.mem_cons_of_mem _ hy)]
theorem leftP_view {u : ByteArray} : ∀ {X : List FX} {fs : List FM}, View u X fs → leftP u #[] X = flatF u fs
  | [], [], _ => rfl
  | [], _ :: _, h => by cases h
  | _ :: _, [], h => by cases h
  | x :: X, f :: fs, h => by
    unfold View at h
    simp only [List.map_cons, List.cons.injEq, Prod.mk.injEq] at h
    obtain ⟨⟨_, h2⟩, h3⟩ := h
    have ih := leftP_view (u := u) (X := X) (fs := fs) h3
    unfold leftP
    rw [ih, ← h2, flat_cons]
    simp
theorem view_mem {u : ByteArray} {X : List FX} {fs : List FM} (h : View u X fs) {x : FX} (hx : x ∈ X) : x.k = folderK u x.name ∧ fmX x ∈ fs := by
  unfold View at h
  have h1 : (x.k, fmX x) ∈ X.map (fun x => (x.k, fmX x)) := List.mem_map.2 ⟨x, hx, rfl⟩
  rw [h] at h1
  obtain ⟨f, hf, e⟩ := List.mem_map.1 h1
  injection e with e1 e2
  subst e2
  exact ⟨e1.symm, hf⟩
theorem notK_take (k : ByteArray) (L : List PM) (j : Nat) (hj : j < L.length) : notK k (L.take (j + 1)) = notK k (L.take j) ++ (if (L.getD j p0).1 = k then [] else [L.getD j p0]) := by
  rw [List.take_add_one, List.getD_eq_getElem?_getD, List.getElem?_eq_getElem hj]
  unfold notK
  rw [List.filter_append]
  congr 1
  simp only [Option.toList_some, Option.getD_some]
  by_cases e : (L[j]).1 = k
  · rw [if_pos e]
    simp [e]
  · rw [if_neg e]
    simp [e]
theorem src_pairs1 {w : World} {x y : ByteArray} {B ty : Nat} (hB : B = w.heap.size) : Src (w.alloc (.cells #[.string x, .string y] ty)) (some ⟨B, 0, none⟩) (cellsP [(x, y)]) := src_oneP hB
theorem own_someP {w : World} {base e s n : Nat} {v : Value} {xs : List Value} (h : w.ownsRow base e s v n xs) (hn : 0 < n) : ∃ g cap, v = .slice (some ⟨g, 0, none⟩) n cap ∧ n ≤ cap ∧ Src w (some ⟨g, 0, none⟩) xs := by
  obtain ⟨a, c, rfl, hs, _⟩ := own_src h
  obtain ⟨hl, ⟨hv, h0⟩ | ⟨g, cap, cur, hv, hb, hg, hc1, hc2, hsz, ht⟩⟩ := h
  · omega
  · cases hv
    exact ⟨g, c, rfl, hc1, hs⟩
set_option maxHeartbeats 4000000 in
theorem pairsI (w : World) (M : Nat) (a : Option Addr) (n c : Nat) (nx : Int) (u : ByteArray) (S : SM) (k0 : Nat) (hS : StAt w M a n c nx u S k0) (hu : u.size ≤ 1000) (hn0 : 0 ≤ nx) (hn1 : nx ≤ 10000) (hF : ∀ f ∈ S.fs, FitF f) (hk : k0 ≤ 1000) (hg : Gl w) (h8 : 8 ≤ M) (Y : List PM) (hY : UpL Y) (hP : (deskP nx u S).Perm Y) (ny : Nat) (hny : Y.length = ny) (hl : ny ≤ 4000) :
    Calls Tryz.prog 41 #[.pointer (some ⟨M + 1, 0, none⟩)] w fun e w' => ∃ g cap, e = .returned (.slice (some ⟨g, 0, none⟩) ny cap) ∧ w'.ownsRow w.heap.size 47 2 (.slice (some ⟨g, 0, none⟩) ny cap) ny (cellsP Y) ∧ Below w.heap.size w w' := by
  obtain ⟨va, X, hD, hV, _, hfs, hak⟩ := hS
  obtain ⟨av, cv, hva, hsa, _⟩ := own_src hD.2.2.1
  have hva2 : va = .slice av S.aside.length cv := hva
  clear hva
  subst hva2
  obtain ⟨sd, hsd⟩ : ∃ x, S.aside = x := ⟨_, rfl⟩
  obtain ⟨wd, hwd⟩ : ∃ x, S.word = x := ⟨_, rfl⟩
  have HDP : Hid ((deskP nx u S).Perm Y ∧ deskP nx u S = ([(vK, bs (itoa nx)), (userK u, wd)] ++ notK vK sd) ++ leftP u #[] X) := by
    refine ⟨hP, ?_⟩
    unfold deskP
    rw [leftP_view hV, hsd, hwd]
    simp
  rw [hsd, hwd] at hD
  rw [hsd] at hsa hak
  obtain ⟨c1, _⟩ := hD.1 1 _ rfl
  obtain ⟨c2, _⟩ := hD.1 2 _ rfl
  obtain ⟨c3, _⟩ := hD.1 3 _ rfl
  obtain ⟨c4, _⟩ := hD.1 4 _ rfl
  obtain ⟨c5, _⟩ := hD.1 5 _ rfl
  have hMw : M + 1 < w.heap.size := World.block_lt_of_cell? _ _ c5
  have zv := itoa_small nx hn0 hn1
  have CV := fun W (hW : Gl W) => itoaI nx hn0 hn1 W hW
  have CU := fun W => userKeyI u W (by omega)
  obtain ⟨TV, hTV⟩ : ∃ x, bs (itoa nx) = x := ⟨_, rfl⟩
  obtain ⟨KU, hKU⟩ : ∃ x, userK u = x := ⟨_, rfl⟩
  simp only [hTV] at CV zv HDP
  simp only [hKU] at CU HDP
  obtain ⟨la, hla⟩ : ∃ x, sd.length = x := ⟨_, rfl⟩
  simp only [hsd, hla] at c1
  simp only [hwd] at c4
  have HLA : Hid (sd.length = la) := hla
  have HSA : Hid (Src w av (cellsP sd)) := hsa
  have HMI : Hid (∃ clock, MapIs w M clock X) := hD.2.1
  have HRW : Hid (Rows w M X) := hD.2.2.2
  have HSL : Hid (∀ x ∈ X, ∃ (ax : Option Addr) (cx : Nat), x.v = .slice ax x.mails.length cx) := fun x hx => by
    obtain ⟨ax, cx, h1, _, _⟩ := own_src (hD.2.2.2.1 x hx)
    exact ⟨ax, cx, h1⟩
  have HN : Hid ((X.map (·.born)).Nodup) := by obtain ⟨_, h9⟩ := hD.2.1; exact h9.2.2
  have HXF : Hid (∀ x ∈ X, x.k = folderK u x.name ∧ FitF (fmX x) ∧ x.mails.length ≤ 1000) := fun x hx => by
    obtain ⟨h1, h2⟩ := view_mem hV hx
    have h3 := (hfs _ h2).2.2
    have h4 : (fmX x).mails.length = x.mails.length := rfl
    exact ⟨h1, hF _ h2, by omega⟩
  have HG : Hid (Gl w) := hg
  have HYU : Hid (UpL Y) := hY
  have HNY : Hid (Y.length = ny) := hny
  rw [hla] at hak
  clear hD hV hfs hF hg hY hP hsa hla hsd hwd hTV hKU hny hn0 hn1
  go_enter Tryz.func41, Tryz.ntmps41
  go_upto_region 1 with fail
  go_cut [3] from 8 to 24 (fun ps wx => ∃ p : Nat, ps = .slice (some ⟨p, 0, none⟩) 2 2 ∧ Hid (wx.ownsRow w.heap.size 47 2 (.slice (some ⟨p, 0, none⟩) 2 2) 2 (cellsP [(vK, TV), (KU, wd)])) ∧ Hid (Below w.heap.size w wx))
  case first =>
    refine wp_region_noPanic ?_
    refine wp_region_held_drew (S := fun w' => w'.cell? ⟨M + 1, 2, none⟩ = some (.int .i64 nx) ∧ w'.cell? ⟨M + 1, 3, none⟩ = some (.string u) ∧ w'.cell? ⟨M + 1, 4, none⟩ = some (.string wd)) (by kernel_rfl) ⟨c2, c3, c4⟩ (fun hHeld => ?_)
    refine tkA (i := 0) (v := .pointer (some ⟨M + 1, 0, none⟩)) ?_ hHeld ?_
    · intro w9 hSw
      obtain ⟨z0, z1, z2⟩ := hSw
      go_simp
    simp only [Act.put, List.setIfInBounds_toArray, List.set_cons_zero, List.set_cons_succ]
    refine tkA (i := 1) (v := .pointer (some ⟨M + 1, 0, none⟩)) ?_ hHeld ?_
    · intro w9 hSw
      obtain ⟨z0, z1, z2⟩ := hSw
      go_simp
    simp only [Act.put, List.setIfInBounds_toArray, List.set_cons_zero, List.set_cons_succ]
    refine tkA (i := 2) (v := .pointer (some ⟨M + 1, 2, none⟩)) ?_ hHeld ?_
    · intro w9 hSw
      obtain ⟨z0, z1, z2⟩ := hSw
      go_simp
    simp only [Act.put, List.setIfInBounds_toArray, List.set_cons_zero, List.set_cons_succ]
    refine tkA (i := 3) (v := .int .i64 nx) ?_ hHeld ?_
    · intro w9 hSw
      obtain ⟨z0, z1, z2⟩ := hSw
      go_simp
    simp only [Act.put, List.setIfInBounds_toArray, List.set_cons_zero, List.set_cons_succ]
    refine tkA (i := 6) (v := .pointer (some ⟨M + 1, 0, none⟩)) ?_ hHeld ?_
    · intro w9 hSw
      obtain ⟨z0, z1, z2⟩ := hSw
      go_simp
    simp only [Act.put, List.setIfInBounds_toArray, List.set_cons_zero, List.set_cons_succ]
    refine tkA (i := 7) (v := .pointer (some ⟨M + 1, 0, none⟩)) ?_ hHeld ?_
    · intro w9 hSw
      obtain ⟨z0, z1, z2⟩ := hSw
      go_simp
    simp only [Act.put, List.setIfInBounds_toArray, List.set_cons_zero, List.set_cons_succ]
    refine tkA (i := 8) (v := .pointer (some ⟨M + 1, 3, none⟩)) ?_ hHeld ?_
    · intro w9 hSw
      obtain ⟨z0, z1, z2⟩ := hSw
      go_simp
    simp only [Act.put, List.setIfInBounds_toArray, List.set_cons_zero, List.set_cons_succ]
    refine tkA (i := 9) (v := .string u) ?_ hHeld ?_
    · intro w9 hSw
      obtain ⟨z0, z1, z2⟩ := hSw
      go_simp
    simp only [Act.put, List.setIfInBounds_toArray, List.set_cons_zero, List.set_cons_succ]
    refine tkA (i := 11) (v := .pointer (some ⟨M + 1, 0, none⟩)) ?_ hHeld ?_
    · intro w9 hSw
      obtain ⟨z0, z1, z2⟩ := hSw
      go_simp
    simp only [Act.put, List.setIfInBounds_toArray, List.set_cons_zero, List.set_cons_succ]
    refine tkA (i := 12) (v := .pointer (some ⟨M + 1, 0, none⟩)) ?_ hHeld ?_
    · intro w9 hSw
      obtain ⟨z0, z1, z2⟩ := hSw
      go_simp
    simp only [Act.put, List.setIfInBounds_toArray, List.set_cons_zero, List.set_cons_succ]
    refine tkA (i := 13) (v := .pointer (some ⟨M + 1, 4, none⟩)) ?_ hHeld ?_
    · intro w9 hSw
      obtain ⟨z0, z1, z2⟩ := hSw
      go_simp
    simp only [Act.put, List.setIfInBounds_toArray, List.set_cons_zero, List.set_cons_succ]
    refine tkA (i := 14) (v := .string wd) ?_ hHeld ?_
    · intro w9 hSw
      obtain ⟨z0, z1, z2⟩ := hSw
      go_simp
    simp only [Act.put, List.setIfInBounds_toArray, List.set_cons_zero, List.set_cons_succ]
    refine wpAnyH_ready (rs := [4]) (by kernel_rfl) (by simp) ?_
    refine AllReadyH.cons rfl (fun K hK => ?_) AllReadyH.nil
    go_simp
    refine (CV _ (HG.out.below (by omega) ((Below.refl w.heap.size w).drew))).mono ?_
    rintro e wa1 ⟨rfl, hb1⟩
    dsimp only
    have B1 : Hid (Below w.heap.size w wa1) := Below.trans ((Below.refl w.heap.size w).drew) (hb1.mono ((Below.refl w.heap.size w).drew).size)
    clear hb1
    refine hK _ _ ⟨cell_later (B1.out) c2, cell_later (B1.out) c3, cell_later (B1.out) c4⟩ (fun hHeld => ?_)
    clear hK K
    refine tkA (i := 5) (v := .agg #[.string ⟨#[118]⟩, .string TV]) ?_ hHeld ?_
    · intro w9 hSw
      obtain ⟨z0, z1, z2⟩ := hSw
      go_simp
    simp only [Act.put, List.setIfInBounds_toArray, List.set_cons_zero, List.set_cons_succ]
    refine wpAnyH_ready (rs := [10]) (by kernel_rfl) (by simp) ?_
    refine AllReadyH.cons rfl (fun K hK => ?_) AllReadyH.nil
    go_simp
    refine (CU _).mono ?_
    rintro e wa2 ⟨rfl, hw2⟩
    dsimp only
    have B2 : Hid (Below w.heap.size w wa2) := by rw [hw2]; exact B1.out
    clear hw2
    refine hK _ _ ⟨cell_later (B2.out) c2, cell_later (B2.out) c3, cell_later (B2.out) c4⟩ (fun hHeld => ?_)
    clear hK K
    refine tkA (i := 15) (v := .agg #[.string KU, .string wd]) ?_ hHeld ?_
    · intro w9 hSw
      obtain ⟨z0, z1, z2⟩ := hSw
      go_simp
    simp only [Act.put, List.setIfInBounds_toArray, List.set_cons_zero, List.set_cons_succ]
    refine wpAnyH_ready (rs := [16]) (by kernel_rfl) (by simp) ?_
    refine AllReadyH.cons rfl (fun K hK => ?_) AllReadyH.nil
    go_simp
    have A3 : Hid (Below w.heap.size w (wa2.alloc (.cells #[.string ⟨#[118]⟩, .string TV, .string KU, .string wd] 47))) := Below.alloc (B2.out) (B2.out).size _
    have O3 : Hid ((wa2.alloc (.cells #[.string ⟨#[118]⟩, .string TV, .string KU, .string wd] 47)).ownsRow w.heap.size 47 2 (.slice (some ⟨wa2.heap.size, 0, none⟩) 2 2) 2 (cellsP [(vK, TV), (KU, wd)])) := own_lit rfl (B2.out).size rfl rfl (by omega)
    refine hK _ _ ⟨cell_later (A3.out) c2, cell_later (A3.out) c3, cell_later (A3.out) c4⟩ (fun hHeld => ?_)
    clear hK K
    refine wpAnyH_ready (rs := [17]) (by kernel_rfl) (by simp) ?_
    refine AllReadyH.cons rfl (fun K hK => ?_) AllReadyH.nil
    go_simp
    refine hK _ _ ⟨cell_later (A3.out) c2, cell_later (A3.out) c3, cell_later (A3.out) c4⟩ (fun hHeld => ?_)
    clear hK K
    refine wpAnyH_done (by kernel_rfl) ?_ _
    refine NoPanic.normal ?_
    clear hHeld
    go_wp2_with fail
    go_meet
    exact ⟨_, rfl, O3.out, A3.out⟩
  case rest =>
    obtain ⟨p, rfl, ho, hbc⟩ := hcut
    have d1 := cell_later hbc.out c1
    have HO : Hid (wc.ownsRow w.heap.size 47 2 (.slice (some ⟨p, 0, none⟩) 2 2) 2 (cellsP ([(vK, TV), (KU, wd)] ++ notK vK (sd.take 0)))) := ho.out
    have BC : Hid (Below w.heap.size w wc) := hbc.out
    have HM0 : Hid (([(vK, TV), (KU, wd)] ++ notK vK (sd.take 0)).length = 2) := rfl
    clear ho hbc CV CU c1 c2 c3 c4 zv
    go_wp2_with fail
    go_loopw [3, 30] (fun v iv wr => ∃ (j m : Nat) (a' : Option Addr) (c' : Nat), j ≤ la ∧ m ≤ j + 2 ∧ v = .slice a' m c' ∧ iv = .int .i64 (j : Int) ∧ Hid (([(vK, TV), (KU, wd)] ++ notK vK (sd.take j)).length = m) ∧ Hid (wr.ownsRow w.heap.size 47 2 (.slice a' m c') m (cellsP ([(vK, TV), (KU, wd)] ++ notK vK (sd.take j)))) ∧ Hid (Below w.heap.size w wr)) (fun _ i _ => la - (RowKit.intOf i).toNat)
    case atStart => exact ⟨0, 2, _, _, Nat.zero_le _, by omega, rfl, rfl, HM0.out, HO.out, BC.out⟩
    case round =>
      obtain ⟨j, m, a', c', hj, hmj, rfl, rfl, hm, ho, hbr⟩ := hrel
      by_cases hlt : j < la
      · have hltj : (j : Int) < (la : Int) := by omega
        have hjl : j < sd.length := by rw [HLA.out]; exact hlt
        obtain ⟨b, o, x, y, rfl, e0, e1, hx⟩ := srcP (HSA.out.below hbr.out) hjl
        have HTK := notK_take vK sd j hjl
        rw [hx.out] at HTK
        by_cases hxv : x.toList = [118]
        · have hb : (x.toList == [118]) = true := by rw [hxv]; rfl
          have hxk : x = vK := by
            refine bs_inj ?_
            rw [← ByteArray.toList_eq, hxv]
          rw [if_pos hxk, List.append_nil] at HTK
          have HT2 : Hid (notK vK (sd.take (j + 1)) = notK vK (sd.take j)) := HTK
          clear HTK hxk hx hxv
          go_wp2_with fail
          exact ⟨⟨j + 1, m, _, _, by omega, by omega, rfl, by go_num, by rw [HT2.out]; exact hm.out, by rw [HT2.out]; exact own_below ho.out ((Below.refl _ _).alloc (Nat.le_refl _) _), hbr.out.alloc hbr.out.size _⟩, by simp [RowKit.intOf]; omega⟩
        · have hb : (x.toList == [118]) = false := beq_eq_false_iff_ne.2 hxv
          have hxk : x ≠ vK := fun e => hxv (by rw [e, ByteArray.toList_eq])
          rw [if_neg hxk] at HTK
          have HT2 : Hid (notK vK (sd.take (j + 1)) = notK vK (sd.take j) ++ [(x, y)]) := HTK
          clear HTK hxk hx hxv
          go_wp2_with (at_builtin; refine wpList_append_src _ rfl _ _ 24 rfl w.heap.size 47 (.agg #[.string ⟨#[]⟩, .string ⟨#[]⟩]) 2 32 Tryz.underlying24 infoP rfl (by decide) (by decide) (.slice a' m c') m (cellsP ([(vK, TV), (KU, wd)] ++ notK vK (sd.take j))) rfl ((ho.out.alloc _).alloc _) (some ⟨wr.heap.size + 1, 0, none⟩) 1 1 (cellsP [(x, y)]) rfl rfl (src_oneP (by simp)) (cellsP_one _) (by omega) (by have h9 := hbr.out.size; simp; omega) ?_)
          intro v2 w2 hown2 hgrow2
          obtain ⟨a2, c2', rfl, _, _⟩ := own_src hown2
          have HO2 : Hid (w2.ownsRow w.heap.size 47 2 (.slice a2 (m + 1) c2') (m + 1) (cellsP ([(vK, TV), (KU, wd)] ++ notK vK (sd.take (j + 1))))) := by
            show w2.ownsRow _ _ _ _ _ _
            rw [HT2.out, ← List.append_assoc, cellsP_append]
            exact hown2
          have HM2 : Hid (([(vK, TV), (KU, wd)] ++ notK vK (sd.take (j + 1))).length = m + 1) := by
            show _ = _
            rw [HT2.out, ← List.append_assoc, List.length_append, hm.out]
            rfl
          have HB2 : Hid (Below w.heap.size w w2) := ((hbr.out.alloc hbr.out.size _).alloc (by have := hbr.out.size; simp; omega) _).grown hgrow2 (by have := hbr.out.size; simp; omega) (fun g e => (ho.out.lt g e).1)
          clear hown2 hgrow2 ho hm
          go_wp2_with fail
          exact ⟨⟨j + 1, m + 1, _, _, by omega, by omega, rfl, by go_num, HM2.out, HO2.out, HB2.out⟩, by simp [RowKit.intOf]; omega⟩
      · obtain rfl : j = la := by omega
        have hltj : ¬ (j : Int) < (j : Int) := by omega
        have HA : Hid (wr.ownsRow w.heap.size 47 2 (.slice a' m c') m (cellsP ([(vK, TV), (KU, wd)] ++ notK vK sd)) ∧ ([(vK, TV), (KU, wd)] ++ notK vK sd).length = m) := by
          have h9 := ho.out
          have h7 := hm.out
          rw [List.take_of_length_le (by rw [HLA.out]; exact Nat.le_refl _)] at h9 h7
          exact ⟨h9, h7⟩
        have f5 := cell_later hbr.out c5
        have HMR : Hid (∃ clock, MapIs wr M clock X) := by obtain ⟨cl, h9⟩ := HMI.out; exact ⟨cl, h9.later hbr.out⟩
        have BR : Hid (Below w.heap.size w wr) := hbr.out
        clear ho hm hbr HO HM0 BC d1
        go_wp2_with (first
          | (at_range; refine wpList_rangeX _ rfl _ 83 rfl Tryz.underlying83 M X rfl HMR.out ?_; intro w0 hrg0 hb0 hs0)
          | go_in)
        have HO0 : Hid (w0.ownsRow w.heap.size 47 2 (.slice a' m c') m (cellsP ([(vK, TV), (KU, wd)] ++ notK vK sd))) := own_below HA.out.1 hb0
        have HB0 : Hid (Below w.heap.size w w0) := BR.out.trans (hb0.mono BR.out.size)
        have HZ0 : Hid (wr.heap.size < w0.heap.size ∧ w.heap.size ≤ wr.heap.size) := ⟨by omega, BR.out.size⟩
        obtain ⟨rr, hrr⟩ : ∃ x, wr.heap.size = x := ⟨_, rfl⟩
        rw [hrr] at hrg0 HZ0 ⊢
        have HLEN : Hid ((([(vK, TV), (KU, wd)] ++ notK vK sd) ++ leftP u #[] X).length = ny) := by
          show _ = _
          rw [← HDP.out.2, HDP.out.1.length_eq, HNY.out]
        have HML : Hid (([(vK, TV), (KU, wd)] ++ notK vK sd).length = m) := HA.out.2
        clear hb0 hs0 HA BR HMR hrr
        try go_frame
        go_loopw [3] (fun v wr => ∃ (seen : Array Nat) (m : Nat) (a' : Option Addr) (c' : Nat) (R : List PM), v = .slice a' m c' ∧ m ≤ ny ∧ Hid (R.length = m) ∧ Hid (RangeX wr M rr X seen) ∧ Hid ((R ++ leftP u seen X).Perm (([(vK, TV), (KU, wd)] ++ notK vK sd) ++ leftP u #[] X)) ∧ Hid (wr.ownsRow w.heap.size 47 2 (.slice a' m c') m (cellsP R)) ∧ Hid (Below w.heap.size w wr)) (fun _ wr => wr.rangeLeft M rr)
        case atStart => exact ⟨#[], m, a', c', _, rfl, by have h9 := HLEN.out; rw [List.length_append, HML.out] at h9; omega, HML.out, hrg0, List.Perm.refl _, HO0.out, HB0.out⟩
        case round =>
          obtain ⟨seen, m2, a2, c2, R, rfl, hm2, hR, hrg, hperm, hown, hbw⟩ := hrel
          go_wp2_with (first
            | (at_next; refine wpList_nextY _ rfl _ rfl M rr X seen (by have h9 := HZ0.out; omega) rfl hrg.out HSL.out ?_ ?_)
            | go_in)
          · intro hall
            have hz := leftP_end (u := u) (fun x hx => by simpa using hall.out x hx)
            have hpy : R.Perm Y := by
              have h9 := hperm.out
              rw [hz, List.append_nil, ← HDP.out.2] at h9
              exact h9.trans HDP.out.1
            obtain rfl : m2 = ny := by rw [← hR.out, hpy.length_eq, HNY.out]
            have HPY : Hid (R.Perm Y) := hpy
            have hm0 : 0 < m2 := by
              have h9 := HLEN.out
              rw [List.length_append, List.length_append] at h9
              simp at h9
              omega
            obtain ⟨g, cap, hv, _, _⟩ := own_someP hown.out hm0
            cases hv
            have hgb := hown.out.lt g rfl
            have C1 := sortP g c2 m2 R wr hR.out (by omega) (holds_own hown.out) hgb.2
            have HGB : Hid (w.heap.size ≤ g) := hgb.1
            clear hz hall hperm hpy hm0 hgb
            go_wp2_with fail
            refine C1.mono ?_
            rintro e w2 ⟨rfl, R2, mm, os, hp2, hs2, hw2⟩
            obtain ⟨oo, gg⟩ := own_sortK (nn := mm) (os := os) hown.out (hp2.length_eq)
            rw [← hw2] at oo gg
            have hRY : R2 = Y := sorted_eq HYU.out (hp2.trans HPY.out) hs2
            rw [hRY] at oo
            have OO : Hid (w2.ownsRow w.heap.size 47 2 (.slice (some ⟨g, 0, none⟩) m2 c2) m2 (cellsP Y)) := oo
            have BB : Hid (Below w.heap.size w w2) := hbw.out.grown gg hbw.out.size (fun j hj => by cases hj; exact HGB.out)
            clear oo gg hw2 C1 hp2 hs2 hRY
            go_wp2_with fail
            go_ret
            exact ⟨g, c2, rfl, OO.out, BB.out⟩
          · intro x hx hsx ax cx hv w1 hrg1 hlt1 hb1 hgr1 hs1 hen
            have hpush := leftP_push (u := u) HN.out hx (by simpa using hsx.out)
            obtain ⟨hxk, hxf, hxm⟩ := HXF.out x hx
            have hrow := HRW.out.1 x hx
            rw [hv] at hrow
            obtain ⟨ax', cx', hv', hsm, _⟩ := own_src hrow
            cases hv'
            have O1 : Hid (w1.ownsRow w.heap.size 47 2 (.slice a2 m2 c2) m2 (cellsP R)) := own_grown hown.out hgr1 (fun g h9 h7 => row_range hown.out hrg.out (by rw [h9, h7]))
            have HB1 : Hid (Below w.heap.size w w1) := hbw.out.trans (hb1.mono (by have h9 := HZ0.out; omega))
            have HLP : Hid ((R ++ fPairs u (fmX x)).length = m2 + (x.mails.length + 1) ∧ m2 + (x.mails.length + 1) ≤ ny) := by
              have h9 := hperm.out.length_eq
              rw [HLEN.out, List.length_append, hpush.length_eq, List.length_append] at h9
              have h7 : (fPairs u (fmX x)).length = x.mails.length + 1 := by unfold fPairs; simp
              refine ⟨by rw [List.length_append, h7, hR.out], ?_⟩
              have h6 := hR.out
              omega
            have HS2 : Hid (((R ++ fPairs u (fmX x)) ++ leftP u (seen.push x.born) X).Perm (([(vK, TV), (KU, wd)] ++ notK vK sd) ++ leftP u #[] X)) := by
              show List.Perm _ _
              rw [List.append_assoc]
              exact (List.Perm.append_left R hpush.symm).trans hperm.out
            obtain ⟨w1b, hw1b⟩ : ∃ W, w1.alloc (.cells #[.string x.name, .int .i64 x.val, .int .i64 x.next, .slice ax x.mails.length cx] 59) = W := ⟨_, rfl⟩
            have A1 : Below w1.heap.size w1 w1b := by rw [← hw1b]; exact (Below.refl _ _).alloc (Nat.le_refl _) _
            have X1b : Hid (Box w1b w1.heap.size [.string x.name, .int .i64 x.val, .int .i64 x.next, .slice ax x.mails.length cx]) := by show Box _ _ _; rw [← hw1b]; exact Box.new rfl
            have CF := folPairsI u (fmX x) ax x.mails.length cx rfl hxm hxf hu w1b (hsm.below (HB1.out.trans (A1.mono HB1.out.size))) (HG.out.below (by omega) (HB1.out.trans (A1.mono HB1.out.size))) (by have h9 := A1.size; have h7 := HB1.out.size; omega)
            rw [← hxk] at CF
            have O1b : Hid (w1b.ownsRow w.heap.size 47 2 (.slice a2 m2 c2) m2 (cellsP R)) := own_below O1.out A1
            have HB1b : Hid (Below w.heap.size w w1b) := HB1.out.trans (A1.mono HB1.out.size)
            have HR1 : Hid (RangeX w1b M rr X (seen.push x.born)) := hrg1.later A1
            have HLT : Hid (w1b.rangeLeft M rr < wr.rangeLeft M rr) := by show _ < _; rw [(hrg1.later A1).left, ← hrg1.left]; exact hlt1
            obtain ⟨FP, hFP⟩ : ∃ x', fPairs u (fmX x) = x' := ⟨_, rfl⟩
            rw [hFP] at CF HS2 HLP
            obtain ⟨ml, hml⟩ : ∃ k, x.mails.length = k := ⟨_, rfl⟩
            obtain ⟨xn, hxn⟩ : ∃ k, x.name = k := ⟨_, rfl⟩
            obtain ⟨xv, hxv⟩ : ∃ k, x.val = k := ⟨_, rfl⟩
            obtain ⟨xx, hxx⟩ : ∃ k, x.next = k := ⟨_, rfl⟩
            obtain ⟨xk, hxk2⟩ : ∃ k, x.k = k := ⟨_, rfl⟩
            rw [hml] at hen hw1b HLP hxm ⊢
            rw [hxn] at hen hw1b ⊢
            rw [hxv] at hen hw1b ⊢
            rw [hxx] at hen hw1b ⊢
            rw [hxk2] at hen ⊢
            rw [hml, hxn, hxv, hxx] at X1b
            have CF2 : Calls Tryz.prog 71 #[.agg #[.string xn, .int .i64 xv, .int .i64 xx, .slice ax ml cx], .string xk] w1b fun e w' => ∃ v, e = .returned v ∧ w'.ownsRow w1b.heap.size 47 2 v (ml + 1) (cellsP FP) ∧ Below w1b.heap.size w1b w' := by
              rw [← hml, ← hxn, ← hxv, ← hxx, ← hxk2]
              exact CF
            obtain ⟨f0, _⟩ := X1b.out 0 _ rfl
            obtain ⟨f1, _⟩ := X1b.out 1 _ rfl
            obtain ⟨f2, _⟩ := X1b.out 2 _ rfl
            obtain ⟨f3, _⟩ := X1b.out 3 _ rfl
            have hmb : m2 + (ml + 1) ≤ ny := HLP.out.2
            have HLR : Hid ((R ++ FP).length = m2 + (ml + 1)) := HLP.out.1
            clear hpush hperm hrg1 hb1 hbw hlt1 hs1 hown hgr1 hxk hxf hrow hsm CF A1 O1 HB1 hml hxn hxv hxx hxk2 hFP hrg HLP hsx hx hv
            go_wp2_with fail
            refine CF2.mono ?_
            rintro e w5 ⟨v5, rfl, hown5, hb5⟩
            obtain ⟨a5, c5', rfl, hsrc5, _⟩ := own_src hown5
            have O5 : Hid (w5.ownsRow w.heap.size 47 2 (.slice a2 m2 c2) m2 (cellsP R)) := own_below O1b.out hb5
            have HB5 : Hid (Below w.heap.size w w5) := HB1b.out.trans (hb5.mono HB1b.out.size)
            have HR5 : Hid (RangeX w5 M rr X (seen.push x.born)) := HR1.out.later hb5
            have HLT5 : Hid (w5.rangeLeft M rr < wr.rangeLeft M rr) := by show _ < _; rw [(HR1.out.later hb5).left, ← HR1.out.left]; exact HLT.out
            have HS5 : Hid (Src w5 a5 (cellsP FP)) := hsrc5
            have HLF : Hid ((cellsP FP).length = (ml + 1) * 2) := hown5.1
            clear hown5 hb5 hsrc5 CF2 HR1 HLT O1b HB1b f0 f1 f2 f3
            go_wp2_with (at_builtin; refine wpList_append_src _ rfl _ _ 24 rfl w.heap.size 47 (.agg #[.string ⟨#[]⟩, .string ⟨#[]⟩]) 2 32 Tryz.underlying24 infoP rfl (by decide) (by decide) (.slice a2 m2 c2) m2 (cellsP R) rfl O5.out a5 (ml + 1) c5' (cellsP FP) rfl HLF.out HS5.out (cellsP_one _) (by omega) HB5.out.size ?_)
            intro v6 w6 hown6 hgrow6
            obtain ⟨a6, c6, rfl, _, _⟩ := own_src hown6
            have O6 : Hid (w6.ownsRow w.heap.size 47 2 (.slice a6 (m2 + (ml + 1)) c6) (m2 + (ml + 1)) (cellsP (R ++ FP))) := by
              show w6.ownsRow _ _ _ _ _ _
              rw [cellsP_append]
              exact hown6
            have HB6 : Hid (Below w.heap.size w w6) := HB5.out.grown hgrow6 HB5.out.size (fun g e => (O5.out.lt g e).1)
            have HR6 : Hid (RangeX w6 M rr X (seen.push x.born)) := HR5.out.grown hgrow6 (fun e => by have := (O5.out.lt _ e).1; omega) (fun e => row_range O5.out HR5.out e)
            have HLT6 : Hid (w6.rangeLeft M rr < wr.rangeLeft M rr) := by show _ < _; rw [HR6.out.left, ← HR5.out.left]; exact HLT5.out
            clear hown6 hgrow6 HR5 HLT5 O5 HB5
            go_wp2_with fail
            go_roundw
            case rel => exact ⟨_, _, a6, c6, R ++ FP, rfl, hmb, HLR.out, HR6.out, HS2.out, O6.out, HB6.out⟩
            case measure => exact HLT6.out
end Go.Proofs.YtbpgncgmolpkiaaGreatDoor
namespace Go.Proofs.YtbpgncgmolpkiaaGreatDoor
open Go.ChangeShapes Go.WideShapes Go.ChangeAt Go.RowKit Go.Deep Go.Lib
set_option linter.unusedVariables false
set_option linter.unusedSimpArgs false
set_option maxRecDepth 100000

set_option maxHeartbeats 400000 in
theorem copyListI (a : Option Addr) (n c : Nat) (L : List PM) (w : World) (hL : L.length = n) (hn : n ≤ 1048576) (h : Src w a (cellsP L)) :
    Calls Tryz.prog 36 #[.slice a n c] w fun e w' => ∃ v, e = .returned v ∧ w'.ownsRow w.heap.size 47 2 v n (cellsP L) ∧ Below w.heap.size w w' := by
  have HH : Hid (Src w a (cellsP L)) := h
  have HL : Hid ((cellsP L).length = n * 2) := by show _ = _; rw [cellsP_length, hL]
  clear h hL
  go_enter Tryz.func36, Tryz.ntmps36
  go_wp2_with (at_builtin; refine wpList_append_src _ rfl _ _ 24 rfl w.heap.size 47 (.agg #[.string ⟨#[]⟩, .string ⟨#[]⟩]) 2 32 Tryz.underlying24 infoP rfl (by decide) (by decide) _ 0 [] rfl (World.ownsRow_nil _ _ _ _) a n c (cellsP L) rfl HL.out HH.out (cellsP_one L) (by omega) (Nat.le_refl _) ?_)
  intro v' w1 hown hgrow
  have HO : Hid (w1.ownsRow w.heap.size 47 2 v' n (cellsP L)) := by simpa [Hid] using hown
  have HB : Hid (Below w.heap.size w w1) := (Below.refl _ _).grown hgrow (Nat.le_refl _) (fun k e => by cases e)
  clear hown hgrow
  go_wp2_with fail
  go_ret
  exact ⟨_, rfl, HO.out, HB.out⟩
set_option maxHeartbeats 1000000 in
theorem doneBad (q : Int) (hq : q ≠ 0) (w : World) (M : Nat) (a : Option Addr) (n c : Nat) (L : List PM) (hL : L.length = n) (hn : n ≤ 60) (hc : w.cell? ⟨M + 1, 0, none⟩ = some (.slice a n c)) (h : Src w a (cellsP L)) :
    Calls Tryz.prog 30 #[.pointer (some ⟨M + 1, 0, none⟩), .int .i64 q] w fun e w' => ∃ v, e = .returned (.tuple #[v, .int .i64 q]) ∧ w'.ownsRow w.heap.size 47 2 v n (cellsP L) ∧ Below w.heap.size w w' := by
  have hqi : (q != 0) = true := by simpa using hq
  have CC := copyListI a n c L w hL (by omega) h
  clear h hL
  go_enter Tryz.func30, Tryz.ntmps30
  go_wp2_with fail
  refine CC.mono ?_
  rintro e w1 ⟨v, rfl, ho, hb⟩
  obtain ⟨av, cv, rfl, _, _⟩ := own_src ho
  have HO : Hid (w1.ownsRow w.heap.size 47 2 (.slice av n cv) n (cellsP L)) := ho
  have HB : Hid (Below w.heap.size w w1) := hb
  clear ho hb CC
  go_wp2_with fail
  exact bodyPost_ret (v := .tuple #[.slice av n cv, .int .i64 q]) (by simp [results, Tryz.results30, go_sem]) rfl ⟨_, rfl, HO.out, HB.out⟩
set_option maxHeartbeats 1000000 in
theorem doneOk (w : World) (M : Nat) (a : Option Addr) (n c : Nat) (nx : Int) (u : ByteArray) (S : SM) (k0 : Nat) (hS : StAt w M a n c nx u S k0) (hu : u.size ≤ 1000) (hn0 : 0 ≤ nx) (hn1 : nx ≤ 10000) (hF : ∀ f ∈ S.fs, FitF f) (hk : k0 ≤ 1000) (hg : Gl w) (h8 : 8 ≤ M) (Y : List PM) (hY : UpL Y) (hP : (deskP nx u S).Perm Y) (ny : Nat) (hny : Y.length = ny) (hl : ny ≤ 4000)
    (L : List PM) (hL : L.length = n) (hn : n ≤ 60) (h : Src w a (cellsP L)) (R : List PM) (q : Int) (HR : Hid ((if 60 < ny then (L, 7) else (Y, 0)) = (R, q))) :
    Calls Tryz.prog 30 #[.pointer (some ⟨M + 1, 0, none⟩), .int .i64 0] w fun e w' => ∃ v, e = .returned (.tuple #[v, .int .i64 q]) ∧ w'.ownsRow w.heap.size 47 2 v R.length (cellsP R) ∧ Below w.heap.size w w' := by
  have CP := fun W (hW : Below w.heap.size w W) => pairsI W M a n c nx u S k0 (hS.later hW) hu hn0 hn1 hF hk (hg.below (by
    obtain ⟨_, _, hD, _⟩ := hS
    have h9 : M + 1 < w.heap.size := World.block_lt_of_cell? _ _ (hD.1 0 _ rfl).1
    omega) hW) h8 Y hY hP ny hny hl
  have hc : w.cell? ⟨M + 1, 0, none⟩ = some (.slice a n c) := by
    obtain ⟨_, _, hD, _⟩ := hS
    exact (hD.1 0 _ rfl).1
  have CF : ∀ b, decide ((60 : Int) < (ny : Int)) = b → Calls Tryz.prog 62 #[.pointer (some ⟨M + 1, 0, none⟩)] w fun e w' => e = .returned (.bool b) ∧ Below w.heap.size w w' := by
    intro b hb
    have C1 := CP w (Below.refl _ _)
    have HB : Hid (decide ((60 : Int) < (ny : Int)) = b) := hb
    clear CP hS h hc hb
    go_enter Tryz.func62, Tryz.ntmps62
    go_wp2_with fail
    refine C1.mono ?_
    rintro e w1 ⟨g, cap, rfl, ho, hb1⟩
    have B1 : Hid (Below w.heap.size w w1) := hb1
    clear ho hb1 C1
    go_wp2_with fail
    go_ret
    exact ⟨by rw [← HB.out]; rfl, B1.out⟩
  have CC := fun W (hW : Below w.heap.size w W) => copyListI a n c L W hL (by omega) (h.below hW)
  have HLN : Hid (L.length = n) := hL
  have HYN : Hid (Y.length = ny) := hny
  clear h hL hS hF hY hP hny
  by_cases hb : 60 < ny
  · have C1 := CF true (decide_eq_true (by omega))
    have HQ : Hid (R = L ∧ q = 7) := by
      have h9 := HR.out
      rw [if_pos hb] at h9
      cases h9
      exact ⟨rfl, rfl⟩
    clear CF CP HR
    go_enter Tryz.func30, Tryz.ntmps30
    go_wp2_with fail
    refine C1.mono ?_
    rintro e w1 ⟨rfl, hb1⟩
    have d0 := cell_later hb1 hc
    have CC1 := CC w1 hb1
    have B1 : Hid (Below w.heap.size w w1) := hb1
    clear hb1 C1 CC
    go_wp2_with fail
    refine CC1.mono ?_
    rintro e w2 ⟨v, rfl, ho, hb2⟩
    obtain ⟨av, cv, rfl, _, _⟩ := own_src ho
    have HO : Hid (w2.ownsRow w.heap.size 47 2 (.slice av n cv) R.length (cellsP R)) := by
      show w2.ownsRow _ _ _ _ _ _
      rw [HQ.out.1, HLN.out]
      exact own_mono ho B1.out.size
    have B2 : Hid (Below w.heap.size w w2) := B1.out.trans (hb2.mono B1.out.size)
    have HQ2 : Hid (7 = q) := HQ.out.2.symm
    clear ho hb2 CC1
    go_wp2_with fail
    exact bodyPost_ret (v := .tuple #[.slice av n cv, .int .i64 7]) (by simp [results, Tryz.results30, go_sem]) rfl ⟨_, by rw [HQ2.out], HO.out, B2.out⟩
  · have C1 := CF false (decide_eq_false (by omega))
    have HQ : Hid (R = Y ∧ q = 0) := by
      have h9 := HR.out
      rw [if_neg hb] at h9
      cases h9
      exact ⟨rfl, rfl⟩
    clear CF CC HR
    go_enter Tryz.func30, Tryz.ntmps30
    go_wp2_with fail
    refine C1.mono ?_
    rintro e w1 ⟨rfl, hb1⟩
    have CC1 := CP w1 hb1
    have B1 : Hid (Below w.heap.size w w1) := hb1
    clear hb1 C1 CP
    go_wp2_with fail
    refine CC1.mono ?_
    rintro e w2 ⟨g, cap, rfl, ho, hb2⟩
    have HO : Hid (w2.ownsRow w.heap.size 47 2 (.slice (some ⟨g, 0, none⟩) ny cap) R.length (cellsP R)) := by
      show w2.ownsRow _ _ _ _ _ _
      rw [HQ.out.1, HYN.out]
      exact own_mono ho B1.out.size
    have B2 : Hid (Below w.heap.size w w2) := B1.out.trans (hb2.mono B1.out.size)
    have HQ2 : Hid (0 = q) := HQ.out.2.symm
    clear ho hb2 CC1
    go_wp2_with fail
    exact bodyPost_ret (v := .tuple #[.slice (some ⟨g, 0, none⟩) ny cap, .int .i64 0]) (by simp [results, Tryz.results30, go_sem]) rfl ⟨_, by rw [HQ2.out], HO.out, B2.out⟩
/-- A desk with a field of its own set. -/
theorem desk_set {w : World} {M : Nat} {D D' : DK} (h : DeskAt w M D) (i : Nat) (v : Value) (hc : cellsD M D' = (cellsD M D).set i v) (h1 : D'.va = D.va) (h2 : D'.aside = D.aside) (h3 : D'.X = D.X) : DeskAt (w.setCell ⟨M + 1, i, none⟩ v) M D' := by
  obtain ⟨k1, ⟨cl, k2⟩, k3, k4⟩ := h
  refine ⟨by rw [hc]; exact k1.set i v, ⟨cl, by rw [h3]; exact k2.setCell _ _ (by show M ≠ M + 1; omega)⟩, by rw [h1, h2]; exact own_setLow k3 (by show M + 1 < M + 2; omega) v, ?_⟩
  rw [h3]
  exact ⟨fun x hx => own_setLow (k4.1 x hx) (by show M + 1 < M + 2; omega) v, k4.2⟩
theorem nodup_keys {u : ByteArray} {fs : List FM} (h : (fs.map (·.name)).Nodup) : (fs.map fun f => folderK u f.name).Nodup := by
  rw [List.Nodup, List.pairwise_map] at h ⊢
  exact h.imp fun h9 e => h9 (folderK_inj e)
set_option maxHeartbeats 2000000 in
theorem freshI (nm : ByteArray) (v0 nx0 : Int) (ax : Option Addr) (ml cx : Nat) (Ms : List MMl) (hMs : Ms.length = ml) (w : World) (M : Nat) (a : Option Addr) (n c : Nat) (va : Value) (sd : List PM) (nx : Int) (u wd : ByteArray) (X : List FX) (fs : List FM) (hD : DeskAt w M ⟨a, n, c, va, sd, nx, u, wd, X⟩) (hV : View u X fs) (hN : (fs.map (·.name)).Nodup) (hu : u.size ≤ 1000) (hnm : nm.size ≤ 1000) (hnx : 0 ≤ nx) (hnx1 : nx ≤ 10000)
    (hrow : w.ownsRow (M + 2) 62 3 (.slice ax ml cx) ml (cellsMl Ms)) (hap : ∀ z ∈ X, z.k ≠ folderK u nm → ∀ g, z.v.ownBlock = some g → Value.ownBlock (.slice ax ml cx) ≠ some g) :
    Calls Tryz.prog 65 #[.pointer (some ⟨M + 1, 0, none⟩), .agg #[.string nm, .int .i64 v0, .int .i64 nx0, .slice ax ml cx]] w fun e w' => Below M w w' ∧ ((9999 < nx ∧ e = .returned (.int .i64 6) ∧ DeskAt w' M ⟨a, n, c, va, sd, nx, u, wd, X⟩) ∨ (¬ 9999 < nx ∧ e = .returned (.int .i64 0) ∧ ∃ X', DeskAt w' M ⟨a, n, c, va, sd, nx + 1, u, wd, X'⟩ ∧ View u X' (putF ⟨nm, nx, nx0, Ms⟩ fs))) := by
  have hM1 : M + 1 < w.heap.size := World.block_lt_of_cell? _ _ (hD.1 0 _ rfl).1
  obtain ⟨c2, f2⟩ := hD.1 2 _ rfl
  have hKN : (X.map (·.k)).Nodup := by
    rw [hV.keys]
    exact nodup_keys hN
  by_cases hb : 9999 < nx
  · have HD : Hid (DeskAt (w.alloc (.cells #[.string nm, .int .i64 v0, .int .i64 nx0, .slice ax ml cx] 59)) M ⟨a, n, c, va, sd, nx, u, wd, X⟩) := hD.later ((Below.refl _ _).alloc (Nat.le_refl _) _)
    have HB : Hid (Below M w (w.alloc (.cells #[.string nm, .int .i64 v0, .int .i64 nx0, .slice ax ml cx] 59))) := (Below.refl _ _).alloc (by omega) _
    clear hD hV hN hrow hap hKN
    go_enter Tryz.func65, Tryz.ntmps65
    go_wp2_with fail
    go_ret
    exact ⟨HB.out, .inl ⟨rfl, HD.out⟩⟩
  · obtain ⟨w1, hw1⟩ : ∃ W, w.alloc (.cells #[.string nm, .int .i64 nx, .int .i64 nx0, .slice ax ml cx] 59) = W := ⟨_, rfl⟩
    have B1 : Below w.heap.size w w1 := by rw [← hw1]; exact (Below.refl _ _).alloc (Nat.le_refl _) _
    have D2 : DeskAt (w1.setCell ⟨M + 1, 2, none⟩ (.int .i64 (nx + 1))) M ⟨a, n, c, va, sd, nx + 1, u, wd, X⟩ := desk_set (hD.later B1) 2 (.int .i64 (nx + 1)) rfl rfl rfl rfl
    have X1 : Box w1 w.heap.size [.string nm, .int .i64 nx, .int .i64 nx0, .slice ax ml cx] := by rw [← hw1]; exact Box.new rfl
    have R2 : (w1.setCell ⟨M + 1, 2, none⟩ (.int .i64 (nx + 1))).ownsRow (M + 2) 62 3 (.slice ax ml cx) ml (cellsMl Ms) := own_setLow (own_below hrow B1) (by show M + 1 < M + 2; omega) _
    have HB2 : Hid (Below M w (w1.setCell ⟨M + 1, 2, none⟩ (.int .i64 (nx + 1)))) := (B1.mono (by omega)).setCell (by show M ≤ M + 1; omega) _
    have CP := putI ⟨folderK u nm, 0, nm, nx, nx0, .slice ax ml cx, Ms⟩ nm nx nx0 ax ml cx (w1.setCell ⟨M + 1, 2, none⟩ (.int .i64 (nx + 1))) M ⟨a, n, c, va, sd, nx + 1, u, wd, X⟩ rfl (by omega) (by show u.size ≤ 1048576; omega) D2.head (fun clock => rows_set D2.2.2.2 (by show World.ownsRow _ _ _ _ _ Ms.length _; rw [hMs]; exact R2) hKN (fun x hx hk => hap x hx hk) clock)
    obtain ⟨g2, fz2⟩ := (hD.later B1).1 2 _ rfl
    have HX : Hid (Box (w1.setCell ⟨M + 1, 2, none⟩ (.int .i64 (nx + 1))) w.heap.size [.string nm, .int .i64 nx, .int .i64 nx0, .slice ax ml cx]) := X1.other _ (by show w.heap.size ≠ M + 1; omega) _
    obtain ⟨e0', _⟩ := HX.out 0 _ rfl
    obtain ⟨e1', _⟩ := HX.out 1 _ rfl
    obtain ⟨e2', _⟩ := HX.out 2 _ rfl
    obtain ⟨e3', _⟩ := HX.out 3 _ rfl
    have HV : Hid (View u X fs) := hV
    clear hD hV hN hrow hap D2 R2 B1 X1 hKN
    go_enter Tryz.func65, Tryz.ntmps65
    go_wp2_with fail
    refine CP.mono ?_
    rintro e w4 ⟨rfl, ⟨clock, hd4⟩, hb4⟩
    have HB4 : Hid (Below M w w4) := HB2.out.trans hb4
    have HD4 : Hid (∃ X', DeskAt w4 M ⟨a, n, c, va, sd, nx + 1, u, wd, X'⟩ ∧ View u X' (putF ⟨nm, nx, nx0, Ms⟩ fs)) := ⟨_, hd4, HV.out.put (y := ⟨folderK u nm, 0, nm, nx, nx0, .slice ax ml cx, Ms⟩) rfl clock⟩
    clear hd4 hb4 CP
    go_wp2_with fail
    go_ret
    exact ⟨HB4.out, .inr ⟨rfl, HD4.out⟩⟩
end Go.Proofs.YtbpgncgmolpkiaaGreatDoor
namespace Go.Proofs.YtbpgncgmolpkiaaGreatDoor
open Go.ChangeShapes Go.WideShapes Go.ChangeAt Go.RowKit Go.Deep Go.Lib
set_option linter.unusedVariables false
set_option linter.unusedSimpArgs false
set_option maxRecDepth 100000

/-- The specification's look at a key. -/
theorem l01GetW (a : Option Addr) (n c : Nat) (L : List PM) (key : ByteArray) (w : World) (hL : L.length = n) (hg : GoodW L) (h : Src w a (cellsP L)) :
    Calls Tryz.prog 80 #[.slice a n c, .string key] w fun e w' => e = .returned (.tuple #[.string ((getM L key).getD e0), .bool (getM L key).isSome]) ∧ w' = w := by
  subst hL
  obtain ⟨p, hp⟩ := place_exists (fK L) key L.length
  obtain ⟨h1, h2⟩ := hit_get hg.2.2 hp
  refine (l01Get a L.length c (fK L) (fV L) key p w (by have := hg.1; omega) hp (sp_src h rfl)).mono ?_
  rintro e w' ⟨rfl, rfl⟩
  exact ⟨ret_got h2 h1, rfl⟩
theorem getW_size {L : List PM} (hg : GoodW L) (k : ByteArray) : ((getM L k).getD e0).size ≤ 90 := by
  cases h : getM L k with
  | none => show (0 : Nat) ≤ 90; omega
  | some v => exact (hg.2.1 _ ((getM_mem hg.2.2).1 h)).2.2
set_option maxHeartbeats 1000000 in
theorem l07NextW (a : Option Addr) (n c : Nat) (L : List PM) (w : World) (hL : L.length = n) (hg : GoodW L) (h : Src w a (cellsP L)) :
    Calls Tryz.prog 76 #[.slice a n c] w fun e w' => e = .returned (.int .i64 (nextM L)) ∧ w' = w := by
  have CG := l01GetW a n c L vK w hL hg h
  have SZ := getW_size hg vK
  obtain ⟨R, hR⟩ : ∃ R, nextM L = R := ⟨_, rfl⟩
  have HR : Hid (nextM L = R) := hR
  rw [hR]
  clear hR h hg hL
  cases hm : getM L vK with
  | none =>
    rw [hm] at CG
    have H0 : Hid (R = 0) := by show _ = _; rw [← HR.out]; unfold nextM; rw [hm]; rfl
    have CN := l00NumberS e0 w (by unfold maxLen; decide)
    clear HR hm SZ
    go_enter Tryz.func76, Tryz.ntmps76
    go_wp2_with fail
    refine CG.mono ?_
    rintro e w1 ⟨rfl, rfl⟩
    go_wp2_with fail
    refine CN.mono ?_
    rintro e w2 ⟨rfl, rfl⟩
    go_wp2_with fail
    go_ret
    exact ⟨by rw [H0.out]; rfl, rfl⟩
  | some v =>
    rw [hm] at CG SZ
    have SZ2 : v.size ≤ 90 := SZ
    have CN := l00NumberS v w (by unfold maxLen; omega)
    have H0 : Hid (R = (numB v.data.toList).getD 0) := by show _ = _; rw [← HR.out]; unfold nextM; rw [hm]; rfl
    clear HR hm SZ
    cases hn : numB v.data.toList with
    | none =>
      rw [hn] at CN
      have H1 : Hid (R = 0) := by show _ = _; rw [H0.out, hn]; rfl
      clear hn H0
      go_enter Tryz.func76, Tryz.ntmps76
      go_wp2_with fail
      refine CG.mono ?_
      rintro e w1 ⟨rfl, rfl⟩
      go_wp2_with fail
      refine CN.mono ?_
      rintro e w2 ⟨rfl, rfl⟩
      go_wp2_with fail
      go_ret
      exact ⟨by rw [H1.out]; rfl, rfl⟩
    | some z =>
      rw [hn] at CN
      have H1 : Hid (R = z) := by show _ = _; rw [H0.out, hn]; rfl
      clear hn H0
      go_enter Tryz.func76, Tryz.ntmps76
      go_wp2_with fail
      refine CG.mono ?_
      rintro e w1 ⟨rfl, rfl⟩
      go_wp2_with fail
      refine CN.mono ?_
      rintro e w2 ⟨rfl, rfl⟩
      go_wp2_with fail
      go_ret
      exact ⟨by rw [H1.out]; rfl, rfl⟩
end Go.Proofs.YtbpgncgmolpkiaaGreatDoor
namespace Go.Proofs.YtbpgncgmolpkiaaGreatDoor
open Go.ChangeShapes Go.WideShapes Go.ChangeAt Go.RowKit Go.Deep Go.Lib
set_option linter.unusedVariables false
set_option linter.unusedSimpArgs false
set_option maxRecDepth 100000

theorem put_is (L : List PM) (n : Nat) (hn : L.length = n) (k v : ByteArray) (p : Nat) (hu : UpL L) (hp : IsPlace (fK L) n k p) : putL (fK L) (fV L) n k v p = insL k v L := by
  subst hn
  rw [← put_ins hu hp]
  unfold putL
  have h1 : listP (fK L) (fV L) L.length = L := by
    apply List.ext_getElem (by rw [listP_length])
    intro i h1 h2
    simp only [listP, List.getElem_map, List.getElem_range]
    rw [(at_fst h2).1, (at_fst h2).2]
  rw [h1]
theorem l01PutM (b o n c : Nat) (L : List PM) (key val : ByteArray) (w : World) (hL : L.length = n) (hn : n ≤ 4000) (hc : n ≤ c) (hc9 : c ≤ maxLen) (hu : UpL L) (h : Src w (some ⟨b, o, none⟩) (cellsP L)) :
    Calls Tryz.prog 55 #[.slice (some ⟨b, o, none⟩) n c, .string key, .string val] w fun e w' => ∃ g cap, e = .returned (.slice (some ⟨g, 0, none⟩) (insL key val L).length cap) ∧ (insL key val L).length ≤ cap ∧ cap ≤ maxLen ∧ Src w' (some ⟨g, 0, none⟩) (cellsP (insL key val L)) ∧ Below w.heap.size w w' := by
  obtain ⟨p, hp⟩ := place_exists (fK L) key n
  refine (l01PutC b o n c (fK L) (fV L) key val p w (by omega) hc hc9 hp (sp_src h hL)).mono ?_
  rintro e w' ⟨v, rfl, ho, hb⟩
  rw [put_is L n hL key val p hu hp] at ho
  have ho2 : w'.ownsRow w.heap.size 47 2 v (insL key val L).length (cellsP (insL key val L)) := ho
  obtain ⟨g, cap, rfl, h1, h2⟩ := own_someP ho2 (ins_len hu).2
  exact ⟨g, cap, rfl, h1, (own_capx ho2).2, h2, hb⟩
def fitsR (W Y : List PM) : List PM × Int := if 60 < Y.length then (W, 7) else (Y, 0)
def freshR (N W : List PM) (u f : ByteArray) (next : Int) : List PM × Int := if 9999 < nextM N then (W, 6) else fitsR W (insL (folderK u f) (metaT (nextM N) next) (insL vK (bs (itoa (nextM N + 1))) N))
def addR (L : List PM) (u p : ByteArray) : List PM × Int := if (getM L (userK u)).isSome = true then (L, 9) else freshR (insL (userK u) p L) L u inboxT 1
def knownR (L : List PM) (u f : ByteArray) : Int := if (getM L (userK u)).isSome = false then 15 else if (metaM L u f).isSome = false then 16 else 0
def mkR (L : List PM) (u f : ByteArray) : List PM × Int := if knownR L u f = 15 then (L, 15) else if knownR L u f = 0 then (L, 9) else freshR L L u f 1
theorem get_ins {k k' v : ByteArray} {L : List PM} (hu : UpL L) (hk : k' ≠ k) : getM (insL k v L) k' = getM L k' := by
  have h1 : ∀ x, getM (insL k v L) k' = some x ↔ getM L k' = some x := fun x => by
    rw [getM_mem (ins_up hu), getM_mem hu]
    constructor
    · intro h
      rcases ins_mem hu h with h | h
      · cases h; exact absurd rfl hk
      · exact h.1
    · intro h
      refine (ins_perm hu).mem_iff.2 (List.mem_cons_of_mem _ ?_)
      exact List.mem_filter.2 ⟨h, decide_eq_true hk⟩
  cases hx : getM L k' with
  | some x => exact (h1 x).2 hx
  | none =>
    cases hy : getM (insL k v L) k' with
    | none => rfl
    | some y => rw [(h1 y).1 hy] at hx; cases hx
theorem next_ins {k v : ByteArray} {L : List PM} (hu : UpL L) (hk : vK ≠ k) : nextM (insL k v L) = nextM L := by
  unfold nextM
  rw [get_ins hu hk]
theorem ret_pc {a b : Value} {k l : Int} (h1 : a = b) (h2 : k = l) : Ending.returned (.tuple #[a, .int .i64 k]) = .returned (.tuple #[b, .int .i64 l]) := by rw [h1, h2]
theorem metaT_size {x y : Int} (h0 : 0 ≤ x) (h1 : x ≤ 10000) (h2 : 0 ≤ y) (h3 : y ≤ 10000) : (metaT x y).size ≤ 201 := by
  have a := itoa_small x h0 h1
  have b := itoa_small y h2 h3
  have e : (metaT x y).size = (bs (itoa x)).size + 1 + (bs (itoa y)).size := by
    unfold metaT
    rw [ByteArray.size_append, ByteArray.size_append]
    rfl
  omega
set_option maxHeartbeats 1000000 in
theorem l07PutS (b o n c : Nat) (L : List PM) (u f : ByteArray) (x y : Int) (w : World) (hL : L.length = n) (hn : n ≤ 4000) (hc : n ≤ c) (hc9 : c ≤ maxLen) (hu : UpL L) (h : Src w (some ⟨b, o, none⟩) (cellsP L)) (hus : u.size ≤ 1000) (hfs : f.size ≤ 1000) (x0 : 0 ≤ x) (x1 : x ≤ 10000) (y0 : 0 ≤ y) (y1 : y ≤ 10000) (K T : ByteArray) (HK : Hid (folderK u f = K)) (HT : Hid (metaT x y = T)) :
    Calls Tryz.prog 92 #[.slice (some ⟨b, o, none⟩) n c, .string u, .string f, .int .i64 x, .int .i64 y] w fun e w' => ∃ g cap, e = .returned (.slice (some ⟨g, 0, none⟩) (insL K T L).length cap) ∧ (insL K T L).length ≤ cap ∧ cap ≤ maxLen ∧ Src w' (some ⟨g, 0, none⟩) (cellsP (insL K T L)) ∧ Below w.heap.size w w' := by
  have CF := fun W => l07FolderS u f W (by omega) (by omega)
  have CX := fun W => digitsI x x0 x1 W
  have CY := fun W => digitsI y y0 y1 W
  have zx := itoa_small x x0 x1
  have zy := itoa_small y y0 y1
  have HM : Hid ((bs (itoa x) ++ ⟨#[32]⟩) ++ bs (itoa y) = T) := HT.out
  obtain ⟨TX, hTX⟩ : ∃ t, bs (itoa x) = t := ⟨_, rfl⟩
  obtain ⟨TY, hTY⟩ : ∃ t, bs (itoa y) = t := ⟨_, rfl⟩
  simp only [hTX] at CX zx HM
  simp only [hTY] at CY zy HM
  simp only [HK.out] at CF
  have CP := fun W (hW : Below w.heap.size w W) => l01PutM b o n c L K T W hL hn hc hc9 hu (h.below hW)
  obtain ⟨R, hR⟩ : ∃ r, insL K T L = r := ⟨_, rfl⟩
  simp only [hR] at CP ⊢
  clear hL hu h hTX hTY hR HT HK
  go_enter Tryz.func92, Tryz.ntmps92
  go_wp2_with fail
  refine (CF _).mono ?_
  rintro e w1 ⟨rfl, hw1⟩
  obtain rfl := hw1
  go_wp2_with fail
  refine (CX _).mono ?_
  rintro e w2 ⟨rfl, hb2⟩
  have B2 : Hid (Below w1.heap.size w1 w2) := hb2
  clear hb2
  go_wp2_with fail
  refine (CY _).mono ?_
  rintro e w3 ⟨rfl, hb3⟩
  have B3 : Hid (Below w1.heap.size w1 w3) := B2.out.trans (hb3.mono B2.out.size)
  clear hb3
  have hm := HM.out
  go_wp2_with fail
  try rw [hm]
  refine (CP _ B3.out).mono ?_
  rintro e w4 ⟨g, cap, rfl, k1, k2, k3, hb4⟩
  have HF : Hid (R.length ≤ cap ∧ cap ≤ maxLen ∧ Src w4 (some ⟨g, 0, none⟩) (cellsP R) ∧ Below w1.heap.size w1 w4) := ⟨k1, k2, k3, B3.out.trans (hb4.mono B3.out.size)⟩
  clear k1 k2 k3 hb4 CP CX CY CF
  go_wp2_with fail
  go_ret
  exact ⟨g, cap, rfl, HF.out⟩
set_option maxHeartbeats 1000000 in
theorem l07FitsS (a1 : Option Addr) (n1 c1 : Nat) (a2 : Option Addr) (n2 c2 : Nat) (w : World) (a3 : Option Addr) (n3 c3 : Nat) (q : Int) (HQ : Hid (if 60 < n2 then (a3, n3, c3, q) = (a1, n1, c1, 7) else (a3, n3, c3, q) = (a2, n2, c2, 0))) :
    Calls Tryz.prog 84 #[.slice a1 n1 c1, .slice a2 n2 c2] w fun e w' => e = .returned (.tuple #[.slice a3 n3 c3, .int .i64 q]) ∧ w' = w := by
  by_cases h : 60 < n2
  · have hi : (60 : Int) < (n2 : Int) := by omega
    have h9 := HQ.out
    rw [if_pos h] at h9
    cases h9
    clear HQ
    go_enter Tryz.func84, Tryz.ntmps84
    go_wp2_with fail
    exact bodyPost_ret (v := .tuple #[.slice a1 n1 c1, .int .i64 7]) (by simp [results, Tryz.results84, go_sem]) rfl ⟨rfl, rfl⟩
  · have hi : ¬ (60 : Int) < (n2 : Int) := by omega
    have h9 := HQ.out
    rw [if_neg h] at h9
    cases h9
    clear HQ
    go_enter Tryz.func84, Tryz.ntmps84
    go_wp2_with fail
    exact bodyPost_ret (v := .tuple #[.slice a2 n2 c2, .int .i64 0]) (by simp [results, Tryz.results84, go_sem]) rfl ⟨rfl, rfl⟩
set_option maxHeartbeats 2000000 in
theorem l07FreshX (b o n c : Nat) (N : List PM) (hN : N.length = n) (hn : n ≤ 64) (hc : n ≤ c) (hc9 : c ≤ maxLen) (hg : GoodW N) (a1 : Option Addr) (n1 c1 : Nat) (W : List PM) (hW : W.length = n1) (u f : ByteArray) (next : Int) (w : World) (h : Src w (some ⟨b, o, none⟩) (cellsP N)) (hw : Src w a1 (cellsP W)) (hus : u.size ≤ 1000) (hfs : f.size ≤ 1000) (n0 : 0 ≤ nextM N) (m0 : 0 ≤ next) (m1 : next ≤ 10000) (R : List PM) (q : Int) (HR : Hid (freshR N W u f next = (R, q))) :
    Calls Tryz.prog 54 #[.slice (some ⟨b, o, none⟩) n c, .slice a1 n1 c1, .string u, .string f, .int .i64 next] w fun e w' => ∃ a2 n2 c2, e = .returned (.tuple #[.slice a2 n2 c2, .int .i64 q]) ∧ R.length = n2 ∧ Src w' a2 (cellsP R) ∧ Below w.heap.size w w' ∧ (q = 0 → (∃ g, a2 = some ⟨g, 0, none⟩) ∧ n2 ≤ c2 ∧ c2 ≤ maxLen) := by
  have CN := l07NextW (some ⟨b, o, none⟩) n c N w hN hg h
  have HW : Hid (W.length = n1 ∧ Src w a1 (cellsP W)) := ⟨hW, hw⟩
  by_cases hx : 9999 < nextM N
  · obtain ⟨rfl, rfl⟩ : W = R ∧ 6 = q := by
      have h9 := HR.out
      unfold freshR at h9
      rw [if_pos hx] at h9
      cases h9
      exact ⟨rfl, rfl⟩
    obtain ⟨x, hxx⟩ : ∃ x, nextM N = x := ⟨_, rfl⟩
    rw [hxx] at CN hx
    clear hN hg h hW hw HR hxx n0
    go_enter Tryz.func54, Tryz.ntmps54
    go_wp2_with fail
    refine CN.mono ?_
    rintro e w1 ⟨rfl, hw1⟩
    obtain rfl := hw1
    go_wp2_with fail
    exact bodyPost_ret (v := .tuple #[.slice a1 n1 c1, .int .i64 6]) (by simp [results, Tryz.results54, go_sem]) rfl ⟨a1, n1, c1, rfl, HW.out.1, HW.out.2, Below.refl _ _, fun h9 => by cases h9⟩
  · have HR2 : Hid (fitsR W (insL (folderK u f) (metaT (nextM N) next) (insL vK (bs (itoa (nextM N + 1))) N)) = (R, q)) := by
      have h9 := HR.out
      unfold freshR at h9
      rw [if_neg hx] at h9
      exact h9
    obtain ⟨x, hxx⟩ : ∃ x, nextM N = x := ⟨_, rfl⟩
    rw [hxx] at CN hx HR2 n0
    have CD := fun W => digitsI (x + 1) (by omega) (by omega) W
    obtain ⟨T1, hT1⟩ : ∃ t, bs (itoa (x + 1)) = t := ⟨_, rfl⟩
    simp only [hT1] at CD HR2
    have CP := fun Wd (hWd : Below w.heap.size w Wd) => l01PutM b o n c N vK T1 Wd hN (by omega) hc hc9 hg.2.2 (h.below hWd)
    have hl1 := (ins_len (k := vK) (v := T1) hg.2.2).1
    have hu1 := ins_up (k := vK) (v := T1) hg.2.2
    rw [hN] at hl1
    obtain ⟨N1, hN1⟩ : ∃ t, insL vK T1 N = t := ⟨_, rfl⟩
    simp only [hN1] at CP HR2 hl1 hu1
    obtain ⟨n2, hn2⟩ : ∃ t, N1.length = t := ⟨_, rfl⟩
    simp only [hn2] at CP hl1
    have CQ := fun (g cap : Nat) (Wd : World) (k1 : n2 ≤ cap) (k2 : cap ≤ maxLen) (k3 : Src Wd (some ⟨g, 0, none⟩) (cellsP N1)) => l07PutS g 0 n2 cap N1 u f x next Wd hn2 (by omega) k1 k2 hu1 k3 hus hfs n0 (by omega) m0 m1 _ _ rfl rfl
    obtain ⟨N2, hN2⟩ : ∃ t, insL (folderK u f) (metaT x next) N1 = t := ⟨_, rfl⟩
    simp only [hN2] at CQ HR2
    obtain ⟨n3, hn3⟩ : ∃ t, N2.length = t := ⟨_, rfl⟩
    simp only [hn3] at CQ
    have HN3 : Hid (N2.length = n3) := hn3
    clear hN hg h hW hw HR hxx hT1 hN1 hn2 hN2 hn3 hu1
    go_enter Tryz.func54, Tryz.ntmps54
    go_wp2_with fail
    refine CN.mono ?_
    rintro e w1 ⟨rfl, hw1⟩
    obtain rfl := hw1
    clear CN
    go_wp2_with fail
    refine (CD _).mono ?_
    rintro e w2 ⟨rfl, hb2⟩
    have B2 : Hid (Below w1.heap.size w1 w2) := hb2
    clear hb2 CD
    go_wp2_with fail
    refine (CP _ B2.out).mono ?_
    rintro e w3 ⟨g, cap, rfl, k1, k2, k3, hb3⟩
    have B3 : Hid (Below w1.heap.size w1 w3) := B2.out.trans (hb3.mono B2.out.size)
    have CQ1 := CQ g cap w3 k1 k2 k3
    clear hb3 CP k1 k2 k3 CQ
    go_wp2_with fail
    refine CQ1.mono ?_
    rintro e w4 ⟨g4, cap4, rfl, k1, k2, k3, hb4⟩
    have B4 : Hid (Below w1.heap.size w1 w4) := B3.out.trans (hb4.mono B3.out.size)
    have H4 : Hid (Src w4 (some ⟨g4, 0, none⟩) (cellsP N2)) := k3
    have HC4 : Hid (n3 ≤ cap4 ∧ cap4 ≤ maxLen) := ⟨k1, k2⟩
    clear hb4 CQ1 k1 k2 k3
    by_cases h6 : 60 < n3
    · have CF := l07FitsS a1 n1 c1 (some ⟨g4, 0, none⟩) n3 cap4 w4 a1 n1 c1 7 (by show ite _ _ _; rw [if_pos h6])
      obtain ⟨rfl, rfl⟩ : W = R ∧ 7 = q := by
        have h9 := HR2.out
        unfold fitsR at h9
        rw [HN3.out, if_pos h6] at h9
        cases h9
        exact ⟨rfl, rfl⟩
      go_wp2_with fail
      refine CF.mono ?_
      rintro e w5 ⟨rfl, hw5⟩
      obtain rfl := hw5
      clear CF
      go_wp2_with fail
      exact bodyPost_ret (v := .tuple #[.slice a1 n1 c1, .int .i64 7]) (by simp [results, Tryz.results54, go_sem]) rfl ⟨a1, n1, c1, rfl, HW.out.1, HW.out.2.below B4.out, B4.out, fun h9 => by cases h9⟩
    · have CF := l07FitsS a1 n1 c1 (some ⟨g4, 0, none⟩) n3 cap4 w4 (some ⟨g4, 0, none⟩) n3 cap4 0 (by show ite _ _ _; rw [if_neg h6])
      obtain ⟨rfl, rfl⟩ : N2 = R ∧ 0 = q := by
        have h9 := HR2.out
        unfold fitsR at h9
        rw [HN3.out, if_neg h6] at h9
        cases h9
        exact ⟨rfl, rfl⟩
      go_wp2_with fail
      refine CF.mono ?_
      rintro e w5 ⟨rfl, hw5⟩
      obtain rfl := hw5
      clear CF
      go_wp2_with fail
      exact bodyPost_ret (v := .tuple #[.slice (some ⟨g4, 0, none⟩) n3 cap4, .int .i64 0]) (by simp [results, Tryz.results54, go_sem]) rfl ⟨_, n3, cap4, rfl, HN3.out, H4.out, B4.out, ⟨_, rfl⟩, HC4.out⟩
theorem l07FreshS (b o n c : Nat) (N : List PM) (hN : N.length = n) (hn : n ≤ 64) (hc : n ≤ c) (hc9 : c ≤ maxLen) (hg : GoodW N) (a1 : Option Addr) (n1 c1 : Nat) (W : List PM) (hW : W.length = n1) (u f : ByteArray) (next : Int) (w : World) (h : Src w (some ⟨b, o, none⟩) (cellsP N)) (hw : Src w a1 (cellsP W)) (hus : u.size ≤ 1000) (hfs : f.size ≤ 1000) (n0 : 0 ≤ nextM N) (m0 : 0 ≤ next) (m1 : next ≤ 10000) (R : List PM) (q : Int) (HR : Hid (freshR N W u f next = (R, q))) :
    Calls Tryz.prog 54 #[.slice (some ⟨b, o, none⟩) n c, .slice a1 n1 c1, .string u, .string f, .int .i64 next] w fun e w' => ∃ a2 n2 c2, e = .returned (.tuple #[.slice a2 n2 c2, .int .i64 q]) ∧ R.length = n2 ∧ Src w' a2 (cellsP R) ∧ Below w.heap.size w w' :=
  (l07FreshX b o n c N hN hn hc hc9 hg a1 n1 c1 W hW u f next w h hw hus hfs n0 m0 m1 R q HR).mono fun e w' ⟨a2, n2, c2, h1, h2, h3, h4, _⟩ => ⟨a2, n2, c2, h1, h2, h3, h4⟩
end Go.Proofs.YtbpgncgmolpkiaaGreatDoor
namespace Go.Proofs.YtbpgncgmolpkiaaGreatDoor
open Go.ChangeShapes Go.WideShapes Go.ChangeAt Go.RowKit Go.Deep Go.Lib
set_option linter.unusedVariables false
set_option linter.unusedSimpArgs false
set_option maxRecDepth 100000

set_option maxHeartbeats 1000000 in
theorem l07OwnS (a : Option Addr) (n c : Nat) (L : List PM) (w : World) (hL : L.length = n) (hn : n ≤ 1048576) (h : Src w a (cellsP L)) :
    Calls Tryz.prog 26 #[.slice a n c] w fun e w' => ∃ v, e = .returned v ∧ w'.ownsRow w.heap.size 47 2 v n (cellsP L) ∧ Below w.heap.size w w' := by
  have HH : Hid (Src w a (cellsP L)) := h
  have HL : Hid ((cellsP L).length = n * 2) := by show _ = _; rw [cellsP_length, hL]
  clear h hL
  go_enter Tryz.func26, Tryz.ntmps26
  go_wp2_with (at_builtin; refine wpList_append_src _ rfl _ _ 24 rfl w.heap.size 47 (.agg #[.string ⟨#[]⟩, .string ⟨#[]⟩]) 2 32 Tryz.underlying24 infoP rfl (by decide) (by decide) _ 0 [] rfl (own_empty rfl (Nat.le_refl _)) a n c (cellsP L) rfl HL.out (HH.out.below ((Below.refl _ _).alloc (Nat.le_refl _) _)) (cellsP_one L) (by omega) (by simp) ?_)
  intro v' w1 hown hgrow
  have HO : Hid (w1.ownsRow w.heap.size 47 2 v' n (cellsP L)) := by simpa [Hid] using hown
  have HB : Hid (Below w.heap.size w w1) := ((Below.refl _ _).alloc (Nat.le_refl _) _).grown hgrow (by simp) (fun k e => by cases e; exact Nat.le_refl _)
  clear hown hgrow
  go_wp2_with fail
  go_ret
  exact ⟨_, rfl, HO.out, HB.out⟩
theorem userK_size (u : ByteArray) : (userK u).size = u.size + 2 := by
  rw [ByteArray.size_append]
  show 2 + u.size = _
  omega
set_option maxHeartbeats 2000000 in
theorem l07KnownS (a : Option Addr) (n c : Nat) (L : List PM) (hL : L.length = n) (hg : GoodL L) (u f : ByteArray) (hus : u.size ≤ 1000) (hfs : f.size ≤ 1000) (w : World) (h : Src w a (cellsP L)) (q : Int) (HQ : Hid (knownR L u f = q)) :
    Calls Tryz.prog 49 #[.slice a n c, .string u, .string f] w fun e w' => e = .returned (.int .i64 q) ∧ Below w.heap.size w w' := by
  have CU := fun W => l07UserS u W (by omega)
  have CG := fun W (hW : Below w.heap.size w W) => l01GetM a n c L (userK u) W hL hg (h.below hW)
  have CM := fun W (hW : Below w.heap.size w W) => l07MetaS a n c L u f W hL hg (by omega) (by omega) (h.below hW)
  obtain ⟨tv, htv⟩ : ∃ t, (getM L (userK u)).getD e0 = t := ⟨_, rfl⟩
  obtain ⟨tb, htb⟩ : ∃ t, (getM L (userK u)).isSome = t := ⟨_, rfl⟩
  obtain ⟨mb, hmb⟩ : ∃ t, (metaM L u f).isSome = t := ⟨_, rfl⟩
  simp only [htv, htb] at CG
  simp only [hmb] at CM
  have HR1 : Hid ((if tb = false then 15 else if mb = false then 16 else 0) = q) := by
    have h9 := HQ.out
    unfold knownR at h9
    rw [htb, hmb] at h9
    exact h9
  obtain ⟨KU, hKU⟩ : ∃ t, userK u = t := ⟨_, rfl⟩
  simp only [hKU] at CU CG
  clear hL h hg htv htb HQ hmb hKU
  cases tb with
  | false =>
    obtain rfl : 15 = q := HR1.out
    clear HR1 CM
    go_enter Tryz.func49, Tryz.ntmps49
    go_wp2_with fail
    refine (CU _).mono ?_
    rintro e w1 ⟨rfl, hw1⟩
    obtain rfl := hw1
    go_wp2_with fail
    refine (CG _ (Below.refl _ _)).mono ?_
    rintro e w2 ⟨rfl, hw2⟩
    obtain rfl := hw2
    clear CG CU
    go_wp2_with fail
    go_ret
    exact ⟨rfl, Below.refl _ _⟩
  | true =>
    cases mb with
    | false =>
      obtain rfl : 16 = q := HR1.out
      clear HR1
      go_enter Tryz.func49, Tryz.ntmps49
      go_wp2_with fail
      refine (CU _).mono ?_
      rintro e w1 ⟨rfl, hw1⟩
      obtain rfl := hw1
      go_wp2_with fail
      refine (CG _ (Below.refl _ _)).mono ?_
      rintro e w2 ⟨rfl, hw2⟩
      obtain rfl := hw2
      clear CG CU
      go_wp2_with fail
      refine (CM _ (Below.refl _ _)).mono ?_
      rintro e w3 ⟨x, y, rfl, _, hb3⟩
      have B3 : Hid (Below w2.heap.size w2 w3) := hb3
      clear CM hb3
      go_wp2_with fail
      go_ret
      exact ⟨rfl, B3.out⟩
    | true =>
      obtain rfl : 0 = q := HR1.out
      clear HR1
      go_enter Tryz.func49, Tryz.ntmps49
      go_wp2_with fail
      refine (CU _).mono ?_
      rintro e w1 ⟨rfl, hw1⟩
      obtain rfl := hw1
      go_wp2_with fail
      refine (CG _ (Below.refl _ _)).mono ?_
      rintro e w2 ⟨rfl, hw2⟩
      obtain rfl := hw2
      clear CG CU
      go_wp2_with fail
      refine (CM _ (Below.refl _ _)).mono ?_
      rintro e w3 ⟨x, y, rfl, _, hb3⟩
      have B3 : Hid (Below w2.heap.size w2 w3) := hb3
      clear CM hb3
      go_wp2_with fail
      go_ret
      exact ⟨rfl, B3.out⟩
theorem GoodL.wide {L : List PM} (h : GoodL L) : GoodW L := ⟨by have := h.1; omega, h.2⟩
theorem known_cases (L : List PM) (u f : ByteArray) : knownR L u f = 15 ∨ knownR L u f = 16 ∨ knownR L u f = 0 := by
  unfold knownR
  split
  · exact .inl rfl
  · split
    · exact .inr (.inl rfl)
    · exact .inr (.inr rfl)
end Go.Proofs.YtbpgncgmolpkiaaGreatDoor
namespace Go.Proofs.YtbpgncgmolpkiaaGreatDoor
open Go.ChangeShapes Go.WideShapes Go.ChangeAt Go.RowKit Go.Deep Go.Lib
set_option linter.unusedVariables false
set_option linter.unusedSimpArgs false
set_option maxRecDepth 100000

def addM (nx : Int) (S : SM) (p : ByteArray) : Int × Int × SM := if S.word.toList ≠ [] then (9, nx, S) else if 9999 < nx then (6, nx, ⟨S.aside, p, S.fs⟩) else (0, nx + 1, ⟨S.aside, p, putF ⟨inboxT, nx, 1, []⟩ S.fs⟩)
def mkM (nx : Int) (S : SM) (f : ByteArray) : Int × Int × SM := if S.word.toList = [] then (15, nx, S) else if (lookF f S.fs).isSome = true then (9, nx, S) else if 9999 < nx then (6, nx, S) else (0, nx + 1, ⟨S.aside, S.word, putF ⟨f, nx, 1, []⟩ S.fs⟩)
theorem st_fresh {w : World} {M : Nat} {a : Option Addr} {n c : Nat} {va : Value} {sd : List PM} {nx nx' : Int} {u wd : ByteArray} {X : List FX} {fs : List FM} {k : Nat} {nm : ByteArray} (hD : DeskAt w M ⟨a, n, c, va, sd, nx', u, wd, X⟩) (hV : View u X (putF ⟨nm, nx, 1, []⟩ fs)) (hN : (fs.map (·.name)).Nodup) (hf : ∀ f ∈ fs, 1 ≤ f.next ∧ f.next ≤ 999 ∧ f.mails.length ≤ k) (hk : sd.length ≤ k) : StAt w M a n c nx' u ⟨sd, wd, putF ⟨nm, nx, 1, []⟩ fs⟩ k :=
  ⟨va, X, hD, hV, putF_names hN, fun g hg => by
    rcases putF_mem hg with hg | rfl
    · exact hf g hg
    · exact ⟨by show (1 : Int) ≤ 1; omega, by show (1 : Int) ≤ 999; omega, by show 0 ≤ k; omega⟩, hk⟩
/-- What a change on the desk must be, held against the list that is asked for. -/
def OpFits (L : List PM) (u : ByteArray) (q nx' : Int) (S' : SM) (A : List PM × Int) : Prop :=
  (q ≠ 0 → A = (L, q)) ∧ (q = 0 → 0 ≤ nx' ∧ nx' ≤ 10000 ∧ (∀ f ∈ S'.fs, FitF f) ∧ ∃ Y, UpL Y ∧ (deskP nx' u S').Perm Y ∧ Y.length ≤ 4000 ∧ A = fitsR L Y)
theorem fit_new {nm : ByteArray} {nx : Int} {fs : List FM} (hn : nm.size ≤ 1000) (h0 : 0 ≤ nx) (h1 : nx ≤ 10000) (hF : ∀ f ∈ fs, FitF f) : ∀ f ∈ putF ⟨nm, nx, 1, []⟩ fs, FitF f := fun f hf => by
  rcases putF_mem hf with hf | rfl
  · exact hF f hf
  · exact ⟨h0, h1, by show (0 : Int) ≤ 1; omega, by show (1 : Int) ≤ 10000; omega, hn, fun m hm => by cases hm⟩
theorem word_iff {L : List PM} {u : ByteArray} {S : SM} (h : storeB L = true) (hus : (47 : UInt8) ∉ u.data.toList) (hS : takeAll (nextM L) u S0 L = some S) : (S.word.toList = [] ↔ getM L (userK u) = none) ∧ S.word = (getM L (userK u)).getD e0 := by
  obtain ⟨S', k1, k2, _⟩ := take_all h hus
  rw [hS] at k1
  cases k1
  refine ⟨?_, k2⟩
  rw [k2]
  cases hv : getM L (userK u) with
  | none => exact ⟨fun _ => rfl, fun _ => by show (e0 : ByteArray).toList = []; rw [ByteArray.toList_eq]⟩
  | some v => exact ⟨fun h9 => absurd h9 (word_some h hus hv), fun h9 => by cases h9⟩
theorem look_iff {L : List PM} {u f : ByteArray} {S : SM} (h : storeB L = true) (hus : (47 : UInt8) ∉ u.data.toList) (hS : takeAll (nextM L) u S0 L = some S) (hf : (47 : UInt8) ∉ f.data.toList) : (lookF f S.fs).isSome = (metaM L u f).isSome ∧ (lookF f S.fs = none → ∀ x ∈ L, x.1 ≠ folderK u f) := by
  have hg := (store_facts h).1
  constructor
  · rw [Bool.eq_iff_iff]
    constructor
    · intro h1
      obtain ⟨g, hg1⟩ := Option.isSome_iff_exists.1 h1
      obtain ⟨w, k1, k2, _⟩ := look_known h hus hS hg1
      unfold metaM
      rw [(getM_mem hg.2.2).2 k1]
      exact k2
    · intro h1
      obtain ⟨p, hp⟩ := Option.isSome_iff_exists.1 h1
      obtain ⟨w, k1, _⟩ := (meta_iff hg.2.2).1 hp
      exact look_there h hus hS hf k1
  · intro h1 x hx e
    have h2 := look_there (w := x.2) h hus hS hf (by rw [← e]; exact hx)
    rw [h1] at h2
    cases h2
theorem add_fits {L : List PM} {u p : ByteArray} {S S' : SM} {q nx' : Int} (h : storeB L = true) (hsu : shortB u = true) (hS : takeAll (nextM L) u S0 L = some S) (hQ : addM (nextM L) S p = (q, nx', S')) : OpFits L u q nx' S' (addR L u p) := by
  have hus := word_slash hsu
  obtain ⟨hg, nx0, hnm, n1, n2, _, _, _⟩ := store_facts h
  rw [hnm] at n1 n2
  obtain ⟨hwi, _⟩ := word_iff h hus hS
  unfold addM at hQ
  unfold addR
  by_cases hw : S.word.toList = []
  · have hno := hwi.1 hw
    rw [if_neg (by simp [hw])] at hQ
    rw [hno, if_neg (by simp)]
    unfold freshR
    rw [next_ins hg.2.2 (user_not u).symm]
    by_cases hx : 9999 < nextM L
    · rw [if_pos hx] at hQ
      cases hQ
      rw [if_pos hx]
      exact ⟨fun _ => rfl, fun h9 => by cases h9⟩
    · rw [if_neg hx] at hQ
      cases hQ
      rw [if_neg hx]
      refine ⟨fun h9 => absurd rfl h9, fun _ => ⟨by omega, by omega, fit_new (by decide) (by omega) n2 (store_fit h hS), ?_⟩⟩
      have hfs := no_folders h hus hS hno
      have hno2 := getM_none.1 hno
      have hu1 := ins_up (k := userK u) (v := p) hg.2.2
      refine ⟨_, ins_up (ins_up hu1), fresh_perm hu1 ?_ ?_ ?_, ?_, rfl⟩
      · refine (notK_perm (ins_perm hg.2.2)).trans ?_
        rw [notK_cons vK _ _ (user_not u), notK_self hno2]
        refine List.Perm.cons _ ?_
        have h1 := rest_perm h hus hS
        unfold wordL at h1
        rw [if_pos hw, List.nil_append] at h1
        exact h1
      · rw [hfs]; rfl
      · intro x hx2
        rcases ins_mem hg.2.2 hx2 with rfl | hx2
        · exact fun e => by
            have h9 := congrArg (fun x : ByteArray => x.data.toList) e
            simp [ByteArray.data_append] at h9
        · intro e
          obtain ⟨z, z1, z2⟩ := user_of_folder (name := inboxT) (w := x.2) h hus (by decide) (by rw [← e]; exact hx2.1)
          exact hno2 z z1 z2
      · have a1 := (ins_len (k := userK u) (v := p) hg.2.2).1
        have a2 := (ins_len (k := vK) (v := bs (itoa (nextM L + 1))) hu1).1
        have a3 := (ins_len (k := folderK u inboxT) (v := metaT (nextM L) 1) (ins_up (k := vK) (v := bs (itoa (nextM L + 1))) hu1)).1
        have := hg.1
        omega
  · rw [if_pos (by simpa using hw)] at hQ
    cases hQ
    have hs : (getM L (userK u)).isSome = true := by
      cases hv : getM L (userK u) with
      | none => exact absurd (hwi.2 hv) hw
      | some v => rfl
    rw [if_pos hs]
    exact ⟨fun _ => rfl, fun h9 => by cases h9⟩
theorem mk_fits {L : List PM} {u f : ByteArray} {S S' : SM} {q nx' : Int} (h : storeB L = true) (hsu : shortB u = true) (hsf : shortB f = true) (hS : takeAll (nextM L) u S0 L = some S) (hQ : mkM (nextM L) S f = (q, nx', S')) : OpFits L u q nx' S' (mkR L u f) := by
  have hus := word_slash hsu
  have hfs := word_slash hsf
  obtain ⟨hg, nx0, hnm, n1, n2, _, _, _⟩ := store_facts h
  rw [hnm] at n1 n2
  obtain ⟨hwi, hwd⟩ := word_iff h hus hS
  obtain ⟨hli, hln⟩ := look_iff h hus hS hfs
  have hfz := short_size' hsf
  unfold mkM at hQ
  by_cases hw : S.word.toList = []
  · rw [if_pos hw] at hQ
    cases hQ
    have hk : knownR L u f = 15 := by unfold knownR; rw [hwi.1 hw]; rfl
    unfold mkR
    rw [hk, if_pos rfl]
    exact ⟨fun _ => rfl, fun h9 => by cases h9⟩
  · rw [if_neg hw] at hQ
    have hs : (getM L (userK u)).isSome = true := by
      cases hv : getM L (userK u) with
      | none => exact absurd (hwi.2 hv) hw
      | some v => rfl
    by_cases hl : (lookF f S.fs).isSome = true
    · rw [if_pos hl] at hQ
      cases hQ
      have hk : knownR L u f = 0 := by unfold knownR; rw [hs, ← hli, hl]; rfl
      unfold mkR
      rw [hk, if_neg (by decide), if_pos rfl]
      exact ⟨fun _ => rfl, fun h9 => by cases h9⟩
    · rw [if_neg hl] at hQ
      have hl0 : lookF f S.fs = none := by
        cases hv : lookF f S.fs with
        | none => rfl
        | some g => rw [hv] at hl; exact absurd rfl hl
      have hk : knownR L u f = 16 := by unfold knownR; rw [hs, ← hli, hl0]; rfl
      unfold mkR
      rw [hk, if_neg (by decide), if_neg (by decide)]
      unfold freshR
      by_cases hx : 9999 < nextM L
      · rw [if_pos hx] at hQ
        cases hQ
        rw [if_pos hx]
        exact ⟨fun _ => rfl, fun h9 => by cases h9⟩
      · rw [if_neg hx] at hQ
        cases hQ
        rw [if_neg hx]
        refine ⟨fun h9 => absurd rfl h9, fun _ => ⟨by omega, by omega, fit_new (by omega) (by omega) n2 (store_fit h hS), ?_⟩⟩
        refine ⟨_, ins_up (ins_up hg.2.2), fresh_perm hg.2.2 ?_ hl0 (hln hl0), ?_, rfl⟩
        · have h1 := rest_perm h hus hS
          unfold wordL at h1
          rw [if_neg hw] at h1
          exact h1
        · have a2 := (ins_len (k := vK) (v := bs (itoa (nextM L + 1))) hg.2.2).1
          have a3 := (ins_len (k := folderK u f) (v := metaT (nextM L) 1) (ins_up (k := vK) (v := bs (itoa (nextM L + 1))) hg.2.2)).1
          have := hg.1
          omega
end Go.Proofs.YtbpgncgmolpkiaaGreatDoor
namespace Go.Proofs.YtbpgncgmolpkiaaGreatDoor
open Go.ChangeShapes Go.WideShapes Go.ChangeAt Go.RowKit Go.Deep Go.Lib
set_option linter.unusedVariables false
set_option linter.unusedSimpArgs false
set_option maxRecDepth 100000

theorem src_2S {w : World} {s t : ByteArray} {B ty : Nat} (hB : B = w.heap.size) : Src (w.alloc (.cells #[.string s, .string t] ty)) (some ⟨B, 0, none⟩) (cellsS [s, t]) := by
  have hb : Box (w.alloc (.cells #[.string s, .string t] ty)) B [.string s, .string t] := Box.new hB
  refine .inr ⟨B, 0, rfl, fun j hj => ?_⟩
  have hj4 : j < 2 := hj
  rw [Nat.zero_add]
  match j, hj4 with
  | 0, _ => exact (hb 0 _ rfl).1
  | 1, _ => exact (hb 1 _ rfl).1
theorem ask_zero2 {L : List PM} {x y : ByteArray} (h : askM L [x, y] = 0) : storeB L = true ∧ shortB x = true ∧ shortB y = true := by
  unfold askM at h
  split at h
  · cases h
  · split at h
    · cases h
    · rename_i h1
      split at h
      · cases h
      · rename_i h2
        refine ⟨by simpa using h1, ?_⟩
        simpa using h2
def lawM2 (A : List PM × Int) (k : Int) : List PM × Int := if k = 0 then A else ([], k)
theorem store_src {L : List PM} {w : World} {a : Option Addr} (h : storeB L = true) (hs : Src w a (cellsP L)) : ∃ b o, a = some ⟨b, o, none⟩ := by
  obtain ⟨hg, nx0, hnm, n1, n2, _, _, _⟩ := store_facts h
  have hne : L ≠ [] := fun e => by
    rw [hnm, e] at n1
    have h9 : nextM [] = 0 := rfl
    omega
  rcases hs with hs | ⟨b, o, rfl, _⟩
  · have h9 := cellsP_length L
    rw [hs] at h9
    have : L.length = 0 := by simp at h9; omega
    exact absurd (List.eq_nil_of_length_eq_zero this) hne
  · exact ⟨b, o, rfl⟩
theorem fits_len {W Y : List PM} (h1 : W.length ≤ 4000) (h2 : Y.length ≤ 4000) : (fitsR W Y).1.length ≤ 4000 := by
  unfold fitsR
  split
  · exact h1
  · exact h2
theorem fresh_len {N W : List PM} {u f : ByteArray} {next : Int} (hN : UpL N) (hn : N.length ≤ 64) (hW : W.length ≤ 4000) : (freshR N W u f next).1.length ≤ 4000 := by
  unfold freshR
  split
  · exact hW
  · have a1 := (ins_len (k := vK) (v := bs (itoa (nextM N + 1))) hN).1
    have a2 := (ins_len (k := folderK u f) (v := metaT (nextM N) next) (ins_up (k := vK) (v := bs (itoa (nextM N + 1))) hN)).1
    exact fits_len hW (by omega)
theorem addR_len {L : List PM} (hg : GoodL L) (u p : ByteArray) : (addR L u p).1.length ≤ 4000 := by
  have := hg.1
  unfold addR
  split
  · show L.length ≤ 4000; omega
  · have a1 := (ins_len (k := userK u) (v := p) hg.2.2).1
    exact fresh_len (ins_up hg.2.2) (by omega) (by omega)
theorem mkR_len {L : List PM} (hg : GoodL L) (u p : ByteArray) : (mkR L u p).1.length ≤ 4000 := by
  have := hg.1
  unfold mkR
  split
  · show L.length ≤ 4000; omega
  · split
    · show L.length ≤ 4000; omega
    · exact fresh_len hg.2.2 (by omega) (by omega)
end Go.Proofs.YtbpgncgmolpkiaaGreatDoor
namespace Go.Proofs.YtbpgncgmolpkiaaGreatDoor
open Go.ChangeShapes Go.WideShapes Go.ChangeAt Go.RowKit Go.Deep Go.Lib
open Go.ChangeMaps (setBlock)
set_option linter.unusedVariables false
set_option linter.unusedSimpArgs false
set_option maxRecDepth 100000

def dropX (k : ByteArray) : List FX → List FX
  | [] => []
  | x :: X => if x.k = k then X else x :: dropX k X
theorem dropX_some (k : ByteArray) (x : FX) (B : List FX) (hx : x.k = k) : ∀ A : List FX, (∀ z ∈ A, z.k ≠ k) → dropX k (A ++ x :: B) = A ++ B
  | [], _ => by rw [List.nil_append, dropX, if_pos hx]; rfl
  | z :: A, h => by
    rw [List.cons_append, dropX, if_neg (h z List.mem_cons_self), dropX_some k x B hx A (fun u hu => h u (List.mem_cons_of_mem _ hu))]
    rfl
theorem dropX_sub (k : ByteArray) : ∀ X : List FX, (dropX k X).Sublist X
  | [] => List.Sublist.refl _
  | x :: X => by
    unfold dropX
    split
    · exact List.sublist_cons_self _ _
    · exact (dropX_sub k X).cons_cons x
theorem View.drop {u n : ByteArray} : ∀ {X : List FX} {fs : List FM}, View u X fs → View u (dropX (folderK u n) X) (dropF n fs)
  | [], [], _ => rfl
  | [], _ :: _, h => by cases h
  | _ :: _, [], h => by cases h
  | x :: X, f :: fs, h => by
    unfold View at h
    simp only [List.map_cons, List.cons.injEq, Prod.mk.injEq] at h
    obtain ⟨⟨h1, h2⟩, h3⟩ := h
    have ih := View.drop (u := u) (n := n) (X := X) (fs := fs) h3
    unfold dropX dropF
    by_cases e : f.name = n
    · rw [if_pos e, if_pos (by rw [h1, e])]
      exact h3
    · rw [if_neg e, if_neg (fun e2 => e (folderK_inj (h1.symm.trans e2)))]
      unfold View at ih ⊢
      simp only [List.map_cons]
      rw [ih, h1, h2]
theorem run_del {w : World} {M clock : Nat} {X : List FX} (h : MapIs w M clock X) (k : ByteArray) (hx : (lookX k X).isSome = true) (ty : TypeId) :
    (Builtin.delete_ #[83, 9] ty #[.map (some M), .string k]).run Tryz.prog w = .ok (.tuple #[]) (setBlock w M (.map ((dropX k X).map entX).toArray clock)) ∧ MapIs (setBlock w M (.map ((dropX k X).map entX).toArray clock)) M clock (dropX k X) := by
  obtain ⟨hb, h2, h3⟩ := h
  have hlt : M < w.heap.size := (Array.getElem?_eq_some_iff.1 hb).1
  constructor
  · obtain ⟨x, hl⟩ := Option.isSome_iff_exists.1 hx
    obtain ⟨A, B, rfl, k3, k4⟩ := lookX_some hl
    have h1 := MapKept.run_findKey (P := Tryz.prog) (w := w) Tryz.underlying9 (find_yes k x B k4 A 0 k3)
    have e : ((A ++ B).map entX).toArray = ((A ++ x :: B).map entX).toArray.eraseIdxIfInBounds (0 + A.length) := by
      unfold Array.eraseIdxIfInBounds
      rw [dif_pos (by simp)]
      apply Array.ext'
      rw [Array.toList_eraseIdx]
      simp [List.eraseIdx_append_of_length_le]
    rw [dropX_some k x B k4 A k3, e]
    generalize (A ++ x :: B).map entX = E at hb h1 ⊢
    simp [Builtin.delete_, run_underlying Tryz.underlying83, MapKept.run_getObj_map hb, MapKept.run_checkKey (P := Tryz.prog) Tryz.underlying9 (isKeyS k), h1, MapKept.run_setObj_map _ hb, Result.andThen, setBlock]
  · refine ⟨sb_same _ _ _ hlt, fun z hz => h2 z ((dropX_sub k X).subset hz), ?_⟩
    exact h3.sublist ((dropX_sub k X).map _)
theorem rows_drop {w : World} {M : Nat} {X : List FX} (h : Rows w M X) (k : ByteArray) : Rows w M (dropX k X) := ⟨fun x hx => h.1 x ((dropX_sub k X).subset hx), h.2.sublist (dropX_sub k X)⟩
set_option maxHeartbeats 2000000 in
theorem dropI (f : ByteArray) (w : World) (M : Nat) (D : DK) (hf : f.size ≤ 1048576) (hu : D.user.size ≤ 1048576) (hD : DeskAt w M D) (hx : (lookX (folderK D.user f) D.X).isSome = true) :
    Calls Tryz.prog 64 #[.pointer (some ⟨M + 1, 0, none⟩), .string f] w fun e w' => e = .returned (.tuple #[]) ∧ DeskAt w' M { D with X := dropX (folderK D.user f) D.X } ∧ Below M w w' ∧ (∀ t s v n xs, w.ownsRow (M + 2) t s v n xs → w'.ownsRow (M + 2) t s v n xs) ∧ ∀ B vs, B ≠ M → Box w B vs → Box w' B vs := by
  obtain ⟨hbox, ⟨clock, hmap⟩, hasd, hrows⟩ := hD
  obtain ⟨p3, _⟩ := hbox 3 _ rfl
  obtain ⟨p5, _⟩ := hbox 5 _ rfl
  have hlt : M < w.heap.size := (Array.getElem?_eq_some_iff.1 hmap.1).1
  have m1 : MapIs w.drew M clock D.X := hmap
  obtain ⟨hdel, hmi⟩ := run_del m1 (folderK D.user f) hx 0
  obtain ⟨O, hO⟩ : ∃ O, (.map ((dropX (folderK D.user f) D.X).map entX).toArray clock : Obj) = O := ⟨_, rfl⟩
  rw [hO] at hdel hmi
  have CK := fun W => folderKeyI D.user f W hu hf
  obtain ⟨K9, hK9⟩ : ∃ K, folderK D.user f = K := ⟨_, rfl⟩
  have HF : Hid (DeskAt (setBlock w.drew M O) M { D with X := dropX (folderK D.user f) D.X }) :=
    ⟨box_sb (w := w.drew) hbox O (by omega), ⟨clock, hmi⟩, own_sb (w := w.drew) hasd O (by omega), fun x hx => own_sb (w := w.drew) ((rows_drop hrows _).1 x hx) O (by omega), (rows_drop hrows _).2⟩
  have HB : Hid (Below M w (setBlock w.drew M O)) := (Below.refl _ _).drew.trans (sb_below _ M O)
  have HOW : Hid ((∀ t s v n xs, w.ownsRow (M + 2) t s v n xs → (setBlock w.drew M O).ownsRow (M + 2) t s v n xs) ∧ ∀ B vs, B ≠ M → Box w B vs → Box (setBlock w.drew M O) B vs) := ⟨fun t s v n xs h9 => own_sb (w := w.drew) h9 O (by omega), fun B vs h9 h8 => box_sb (w := w.drew) h8 O h9⟩
  have HS : Hid ((setBlock w.drew M O).cell? ⟨M + 1, 3, none⟩ = some (.string D.user) ∧ (setBlock w.drew M O).cell? ⟨M + 1, 5, none⟩ = some (.map (some M))) := by
    have hx := box_sb (w := w.drew) (M := M) hbox O (by omega)
    exact ⟨(hx 3 _ rfl).1, (hx 5 _ rfl).1⟩
  rw [hK9] at hdel
  simp only [hK9] at CK
  obtain ⟨us, hus⟩ : ∃ x, D.user = x := ⟨_, rfl⟩
  have p3' : w.cell? ⟨M + 1, 3, none⟩ = some (.string us) := by rw [← hus]; exact p3
  rw [hus] at HS
  simp only [hus] at CK
  clear hbox hmap hasd hrows m1 hmi hO hK9 hx hus p3
  go_enter Tryz.func64, Tryz.ntmps64
  go_wp2_with fail
  refine wp_region_noPanic ?_
  refine wp_region_held_drew (S := fun w' => w'.cell? ⟨M + 1, 3, none⟩ = some (.string us) ∧ w'.cell? ⟨M + 1, 5, none⟩ = some (.map (some M))) (by kernel_rfl) ⟨p3', p5⟩ (fun hHeld => ?_)
  refine tkA (i := 0) (v := .pointer (some ⟨M + 1, 0, none⟩)) ?_ hHeld ?_
  · intro w9 hSw
    obtain ⟨z0, z1⟩ := hSw
    go_simp
  simp only [Act.put, List.setIfInBounds_toArray, List.set_cons_zero, List.set_cons_succ]
  refine tkA (i := 1) (v := .pointer (some ⟨M + 1, 0, none⟩)) ?_ hHeld ?_
  · intro w9 hSw
    obtain ⟨z0, z1⟩ := hSw
    go_simp
  simp only [Act.put, List.setIfInBounds_toArray, List.set_cons_zero, List.set_cons_succ]
  refine tkA (i := 2) (v := .pointer (some ⟨M + 1, 5, none⟩)) ?_ hHeld ?_
  · intro w9 hSw
    obtain ⟨z0, z1⟩ := hSw
    go_simp
  simp only [Act.put, List.setIfInBounds_toArray, List.set_cons_zero, List.set_cons_succ]
  refine tkA (i := 3) (v := .map (some M)) ?_ hHeld ?_
  · intro w9 hSw
    obtain ⟨z0, z1⟩ := hSw
    go_simp
  simp only [Act.put, List.setIfInBounds_toArray, List.set_cons_zero, List.set_cons_succ]
  refine tkA (i := 4) (v := .pointer (some ⟨M + 1, 0, none⟩)) ?_ hHeld ?_
  · intro w9 hSw
    obtain ⟨z0, z1⟩ := hSw
    go_simp
  simp only [Act.put, List.setIfInBounds_toArray, List.set_cons_zero, List.set_cons_succ]
  refine tkA (i := 5) (v := .pointer (some ⟨M + 1, 0, none⟩)) ?_ hHeld ?_
  · intro w9 hSw
    obtain ⟨z0, z1⟩ := hSw
    go_simp
  simp only [Act.put, List.setIfInBounds_toArray, List.set_cons_zero, List.set_cons_succ]
  refine tkA (i := 6) (v := .pointer (some ⟨M + 1, 3, none⟩)) ?_ hHeld ?_
  · intro w9 hSw
    obtain ⟨z0, z1⟩ := hSw
    go_simp
  simp only [Act.put, List.setIfInBounds_toArray, List.set_cons_zero, List.set_cons_succ]
  refine tkA (i := 7) (v := .string us) ?_ hHeld ?_
  · intro w9 hSw
    obtain ⟨z0, z1⟩ := hSw
    go_simp
  simp only [Act.put, List.setIfInBounds_toArray, List.set_cons_zero, List.set_cons_succ]
  refine tkA (i := 8) (v := .string f) ?_ hHeld ?_
  · intro w9 hSw
    obtain ⟨z0, z1⟩ := hSw
    go_simp
  simp only [Act.put, List.setIfInBounds_toArray, List.set_cons_zero, List.set_cons_succ]
  refine wpAnyH_ready (rs := [9]) (by kernel_rfl) (by simp) ?_
  refine AllReadyH.cons rfl (fun K hK => ?_) AllReadyH.nil
  go_simp
  refine (CK _).mono ?_
  rintro e wk ⟨rfl, hwk⟩
  obtain rfl := hwk.symm
  dsimp only
  refine hK _ _ ⟨p3', p5⟩ (fun hHeld => ?_)
  clear hK K
  refine wpAnyH_ready (rs := [10]) (by kernel_rfl) (by simp) ?_
  refine AllReadyH.cons rfl (fun K hK => ?_) AllReadyH.nil
  go_simp
  refine hK _ _ HS.out (fun hHeld => ?_)
  clear hK K
  refine wpAnyH_done (by kernel_rfl) ?_ _
  refine NoPanic.normal ?_
  clear hHeld
  go_wp2_with fail
  go_end0
  exact ⟨rfl, HF.out, HB.out, HOW.out⟩
def dropM (nx : Int) (S : SM) (f : ByteArray) : Int × Int × SM := if S.word.toList = [] then (15, nx, S) else if (lookF f S.fs).isSome = false then (16, nx, S) else if f = inboxT then (11, nx, S) else (0, nx, ⟨S.aside, S.word, dropF f S.fs⟩)
theorem dropF_sub (n : ByteArray) : ∀ fs : List FM, (dropF n fs).Sublist fs
  | [] => List.Sublist.refl _
  | x :: X => by
    unfold dropF
    split
    · exact List.sublist_cons_self _ _
    · exact (dropF_sub n X).cons_cons x
end Go.Proofs.YtbpgncgmolpkiaaGreatDoor
namespace Go.Proofs.YtbpgncgmolpkiaaGreatDoor
open Go.ChangeShapes Go.WideShapes Go.ChangeAt Go.RowKit Go.Deep Go.Lib
set_option linter.unusedVariables false
set_option linter.unusedSimpArgs false
set_option maxRecDepth 100000

/-- Of the first k pairs those whose keys are others. -/
def dropTo (f g : Nat → ByteArray) (key : ByteArray) (k : Nat) : List (ByteArray × ByteArray) := ((List.range k).filter fun i => (f i).toList != key.toList).map fun i => (f i, g i)
theorem dropTo_hit (f g : Nat → ByteArray) (key : ByteArray) (k : Nat) (h : ((f k).toList != key.toList) = true) : dropTo f g key (k + 1) = dropTo f g key k ++ [(f k, g k)] := by
  simp [dropTo, List.range_succ, List.filter_append, h]
theorem dropTo_miss (f g : Nat → ByteArray) (key : ByteArray) (k : Nat) (h : ((f k).toList != key.toList) = false) : dropTo f g key (k + 1) = dropTo f g key k := by
  simp [dropTo, List.range_succ, List.filter_append, h]
theorem dropTo_le (f g : Nat → ByteArray) (key : ByteArray) (k : Nat) : (dropTo f g key k).length ≤ k := by
  unfold dropTo
  rw [List.length_map]
  have := List.length_filter_le (fun i => (f i).toList != key.toList) (List.range k)
  rw [List.length_range] at this
  exact this
set_option maxHeartbeats 1000000 in
theorem l01Drop (a : Option Addr) (n c : Nat) (f g : Nat → ByteArray) (key : ByteArray) (w : World) (hn : n ≤ 4096) (h : Sp w a n f g) :
    Calls Tryz.prog 51 #[.slice a n c, .string key] w fun e w' => ∃ v, e = .returned v ∧ OwnsP w' w.heap.size v (dropTo f g key n) ∧ Below w.heap.size w w' := by
  obtain ⟨i0, hi, hz0, hz1, hz2⟩ := infoPair'
  have HH : Hid (Sp w a n f g) := h
  have HI : Hid (Tryz.prog.info? 47 = some i0) := hi
  have HZ0 : Hid (i0.zero = some (.agg #[.string ⟨#[]⟩, .string ⟨#[]⟩])) := hz0
  have HZ1 : Hid (i0.size = 2) := hz1
  have HZ2 : Hid (i0.bytes = 32) := hz2
  clear h hi hz0 hz1 hz2
  go_enter Tryz.func51, Tryz.ntmps51
  go_wp2_with fail
  go_loopw [5, 6] (fun v i wr => ∃ k : Nat, k ≤ n ∧ i = .int .i64 k ∧ Hid (OwnsP wr w.heap.size v (dropTo f g key k)) ∧ Hid (Below w.heap.size w wr)) (fun _ i _ => n - (RowKit.intOf i).toNat)
  case atStart => exact ⟨0, by omega, rfl, OwnsP.made w _ (Nat.le_refl _), (Below.refl _ _).alloc (Nat.le_refl _) _⟩
  case round =>
    obtain ⟨k, hk, rfl, ho, hb⟩ := hrel
    by_cases hlt : k < n
    · rcases HH.out.below hb.out with h1 | ⟨b, off, rfl, hc⟩
      · omega
      obtain ⟨hc1, hc2⟩ := hc k hlt
      clear hc
      cases hbg : ((f k).toList == key.toList) with
      | true =>
        have E : Hid (dropTo f g key (k + 1) = dropTo f g key k) := dropTo_miss f g key k (by rw [bne, hbg]; rfl)
        go_wp2_with fail
        exact ⟨⟨k + 1, by omega, by go_num, by rw [E.out]; exact ho, hb⟩, by simp [RowKit.intOf]; omega⟩
      | false =>
        have E : Hid (dropTo f g key (k + 1) = dropTo f g key k ++ [(f k, g k)]) := dropTo_hit f g key k (by rw [bne, hbg]; rfl)
        have hle := dropTo_le f g key k
        go_wp2_with (at_builtin; refine wpList_append_own _ rfl _ _ 24 rfl w.heap.size 47 i0 (.agg #[.string ⟨#[]⟩, .string ⟨#[]⟩]) 2 32 Tryz.underlying24 HI.out HZ0.out HZ1.out HZ2.out rfl (by decide) _ _ _ rfl (ho.out.alloc _) ⟨wr.heap.size, 0, none⟩ 1 1 [.string (f k), .string (g k)] rfl rfl (two_newP wr (f k) (g k)) (two_oneP (f k) (g k)) ?c3 ?c4 (le_alloc hb.out.size _) ?_)
        case c3 => unfold maxLen; omega
        case c4 => omega
        intro v' w1 hown hgrow _
        have HO : Hid (OwnsP w1 w.heap.size v' (dropTo f g key (k + 1))) := by
          show OwnsP w1 w.heap.size v' (dropTo f g key (k + 1))
          rw [E.out]
          exact OwnsP.one hown
        have HB1 : Hid (Below w.heap.size w w1) := (hb.out.alloc hb.out.size _).grown hgrow (le_alloc hb.out.size _) ho.out.block
        clear hown hgrow
        go_wp2_with fail
        exact ⟨⟨k + 1, by omega, by go_num, HO, HB1⟩, by simp [RowKit.intOf]; omega⟩
    · have hkn : k = n := by omega
      subst hkn
      go_wp2_with fail
      go_ret
      exact ⟨_, rfl, ho.out, hb.out⟩

theorem dropTo_is (L : List PM) (k : ByteArray) : ∀ n, n ≤ L.length → dropTo (fK L) (fV L) k n = notK k (L.take n)
  | 0, _ => by simp [dropTo, notK]
  | n + 1, h => by
    have ih := dropTo_is L k n (by omega)
    have hn : n < L.length := by omega
    rw [notK_take k L n hn, ← ih]
    by_cases e : (L.getD n p0).1 = k
    · rw [if_pos e, List.append_nil]
      exact dropTo_miss _ _ _ _ (by show ((L.getD n p0).1.toList != k.toList) = false; rw [e]; simp)
    · rw [if_neg e]
      exact dropTo_hit _ _ _ _ (by show ((L.getD n p0).1.toList != k.toList) = true; simpa using fun h9 => e (toList_inj h9))
theorem l01DropM (a : Option Addr) (n c : Nat) (L : List PM) (key : ByteArray) (w : World) (hL : L.length = n) (hn : n ≤ 4096) (h : Src w a (cellsP L)) :
    Calls Tryz.prog 51 #[.slice a n c, .string key] w fun e w' => ∃ a2 n2 c2, e = .returned (.slice a2 n2 c2) ∧ (notK key L).length = n2 ∧ Src w' a2 (cellsP (notK key L)) ∧ Below w.heap.size w w' := by
  refine (l01Drop a n c (fK L) (fV L) key w hn (sp_src h hL)).mono ?_
  rintro e w' ⟨v, rfl, ho, hb⟩
  have e1 : dropTo (fK L) (fV L) key n = notK key L := by
    rw [dropTo_is L key n (by omega), List.take_of_length_le (by omega)]
  rw [e1] at ho
  have ho2 : w'.ownsRow w.heap.size 47 2 v (notK key L).length (cellsP (notK key L)) := ho
  obtain ⟨a2, c2, rfl, hs, _⟩ := own_src ho2
  exact ⟨a2, _, c2, rfl, rfl, hs, hb⟩
theorem under_is (L : List PM) (k : ByteArray) : ∀ n, n ≤ L.length → under (fK L) (fV L) k n = (L.take n).filter fun x => beginsB x.1 k := by
  intro n
  induction n with
  | zero => intro _; rfl
  | succ n ih =>
    intro hn
    have h1 := ih (by omega)
    have hlt : n < L.length := by omega
    rw [List.take_add_one, List.getElem?_eq_getElem hlt, List.filter_append]
    cases hb : beginsB (fK L n) k with
    | true =>
      rw [under_hit _ _ _ _ hb, h1, (at_fst hlt).1, (at_fst hlt).2]
      rw [(at_fst hlt).1] at hb
      simp [hb]
    | false =>
      rw [under_miss _ _ _ _ hb, h1]
      rw [(at_fst hlt).1] at hb
      simp [hb]
abbrev preK (u f : ByteArray) : ByteArray := (((⟨#[109, 47]⟩ ++ u) ++ ⟨#[47]⟩) ++ f) ++ ⟨#[47]⟩
theorem preK_data (u f : ByteArray) : (preK u f).data.toList = 109 :: 47 :: (u.data.toList ++ 47 :: (f.data.toList ++ [47])) := by
  simp [ByteArray.data_append]
theorem preK_size (u f : ByteArray) : (preK u f).size = u.size + f.size + 4 := by
  rw [ByteArray.size_append, ByteArray.size_append, ByteArray.size_append, ByteArray.size_append]
  show 2 + u.size + 1 + f.size + 1 = _
  omega
set_option maxHeartbeats 1000000 in
theorem l07MailsS (u f : ByteArray) (w : World) (hu : u.size ≤ 1000) (hf : f.size ≤ 1000) : Calls Tryz.prog 91 #[.string u, .string f] w fun e w' => e = .returned (.string (preK u f)) ∧ w' = w := by
  go_enter Tryz.func91, Tryz.ntmps91
  go_wp2_with fail
  go_ret
  exact ⟨rfl, rfl⟩
/-- What is left where the first mails are gone. -/
def lessTo (L U : List PM) (j : Nat) : List PM := L.filter fun p => (U.take j).all fun x => decide (p.1 ≠ x.1)
theorem less_step (L U : List PM) (j : Nat) (hj : j < U.length) : notK (U.getD j p0).1 (lessTo L U j) = lessTo L U (j + 1) := by
  unfold lessTo notK
  rw [List.filter_filter, List.take_add_one, List.getD_eq_getElem?_getD, List.getElem?_eq_getElem hj]
  refine List.filter_congr fun p _ => ?_
  simp only [Option.toList_some, Option.getD_some, List.all_append, List.all_cons, List.all_nil, Bool.and_true]
  rw [Bool.and_comm]
def emptyR (L : List PM) (u f : ByteArray) : List PM := L.filter fun p => !beginsB p.1 (preK u f)
theorem less_end (L : List PM) (k : ByteArray) : lessTo L (L.filter fun x => beginsB x.1 k) (L.filter fun x => beginsB x.1 k).length = L.filter fun p => !beginsB p.1 k := by
  unfold lessTo
  rw [List.take_of_length_le (Nat.le_refl _)]
  refine List.filter_congr fun p hp => ?_
  rw [Bool.eq_iff_iff, List.all_eq_true]
  constructor
  · intro h
    cases hb : beginsB p.1 k with
    | false => rfl
    | true => exact absurd rfl (of_decide_eq_true (h p (List.mem_filter.2 ⟨hp, hb⟩)))
  · intro h x hx
    refine decide_eq_true fun e => ?_
    have hb := (List.mem_filter.1 hx).2
    rw [← e] at hb
    rw [hb] at h
    cases h
theorem less_len (L U : List PM) (j : Nat) : (lessTo L U j).length ≤ L.length := List.length_filter_le _ _
set_option maxHeartbeats 2000000 in
theorem l07EmptyS (a : Option Addr) (n c : Nat) (L : List PM) (hL : L.length = n) (hg : GoodL L) (u f : ByteArray) (hus : u.size ≤ 1000) (hfs : f.size ≤ 1000) (w : World) (h : Src w a (cellsP L)) :
    Calls Tryz.prog 52 #[.slice a n c, .string u, .string f] w fun e w' => ∃ a2 n2 c2, e = .returned (.slice a2 n2 c2) ∧ (emptyR L u f).length = n2 ∧ Src w' a2 (cellsP (emptyR L u f)) ∧ Below w.heap.size w w' := by
  have hn60 := hg.1
  rw [hL] at hn60
  have CM := fun W => l07MailsS u f W hus hfs
  have hpz := preK_size u f
  have CU := fun W (hW : Below w.heap.size w W) => l01Under a n c (fK L) (fV L) (preK u f) W (by omega) (by omega) (fun i hi => by
    have hi2 : i < L.length := by omega
    obtain ⟨e1, e2⟩ := at_fst hi2
    rw [e1, e2]
    have := hg.2.1 _ (List.getElem_mem hi2)
    omega) (sp_src (h.below hW) hL)
  have eU : under (fK L) (fV L) (preK u f) n = L.filter fun x => beginsB x.1 (preK u f) := by
    rw [under_is L (preK u f) n (by omega), List.take_of_length_le (by omega)]
  simp only [eU] at CU
  have HE : Hid (lessTo L (L.filter fun x => beginsB x.1 (preK u f)) (L.filter fun x => beginsB x.1 (preK u f)).length = emptyR L u f) := less_end L (preK u f)
  have hul : (L.filter fun x => beginsB x.1 (preK u f)).length ≤ L.length := List.length_filter_le _ _
  obtain ⟨U, hU⟩ : ∃ t, (L.filter fun x => beginsB x.1 (preK u f)) = t := ⟨_, rfl⟩
  simp only [hU] at CU
  rw [hU] at HE hul
  obtain ⟨m, hm⟩ : ∃ t, U.length = t := ⟨_, rfl⟩
  rw [hm] at HE hul
  have hmb : m ≤ 60 := by rw [hL] at hul; omega
  have HUM : Hid (U.length = m) := hm
  obtain ⟨KP, hKP⟩ : ∃ t, preK u f = t := ⟨_, rfl⟩
  simp only [hKP] at CM CU
  have HLN : Hid (L.length = n) := hL
  have HLL : Hid (∀ j, (lessTo L U j).length ≤ n) := fun j => by rw [← hL]; exact less_len L U j
  have H0 : Hid ((lessTo L U 0).length = n ∧ Src w a (cellsP (lessTo L U 0))) := by
    have e : lessTo L U 0 = L := by
      unfold lessTo
      rw [List.filter_eq_self]
      intro p _
      rfl
    rw [e]
    exact ⟨hL, h⟩
  obtain ⟨ER, hER⟩ : ∃ t, emptyR L u f = t := ⟨_, rfl⟩
  rw [hER] at HE ⊢
  clear hL hg h eU hU hm hKP hpz hER hul
  go_enter Tryz.func52, Tryz.ntmps52
  go_wp2_with fail
  refine (CM _).mono ?_
  rintro e w1 ⟨rfl, hw1⟩
  obtain rfl := hw1
  clear CM
  go_wp2_with fail
  refine (CU _ (Below.refl _ _)).mono ?_
  rintro e w2 ⟨v2, rfl, ho2, hb2⟩
  have ho3 : w2.ownsRow w1.heap.size 47 2 v2 U.length (cellsP U) := ho2
  rw [HUM.out] at ho3
  obtain ⟨au, cu, rfl, hsu, _⟩ := own_src ho3
  have B2 : Hid (Below w1.heap.size w1 w2) := hb2
  have HSU : Hid (Src w2 au (cellsP U)) := hsu
  clear CU ho2 ho3 hb2 hsu
  go_wp2_with fail
  go_loopw [8, 9] (fun v iv wr => ∃ (j n' : Nat) (a' : Option Addr) (c' : Nat), j ≤ m ∧ n' ≤ n ∧ v = .slice a' n' c' ∧ iv = .int .i64 (j : Int) ∧ Hid ((lessTo L U j).length = n') ∧ Hid (Src wr a' (cellsP (lessTo L U j))) ∧ Hid (Below w1.heap.size w1 wr) ∧ Hid (Below w2.heap.size w2 wr)) (fun _ i _ => m - (RowKit.intOf i).toNat)
  case atStart => exact ⟨0, n, a, c, Nat.zero_le _, Nat.le_refl _, rfl, rfl, H0.out.1, H0.out.2.below B2.out, B2.out, Below.refl _ _⟩
  case round =>
    obtain ⟨j, n', a', c', hj, hn', rfl, rfl, hl, hs, hbr, hb2r⟩ := hrel
    by_cases hlt : j < m
    · have hltj : (j : Int) < (m : Int) := by omega
      have hjl : j < U.length := by rw [HUM.out]; exact hlt
      obtain ⟨b, o, x, y, rfl, e0, e1, hx⟩ := srcP (HSU.out.below hb2r.out) hjl
      have CD := l01DropM a' n' c' (lessTo L U j) x wr hl.out (by omega) hs.out
      have hstep := less_step L U j hjl
      rw [hx.out] at hstep
      rw [hstep] at CD
      have hln := HLL.out (j + 1)
      clear hstep hx hl hs
      go_wp2_with fail
      refine CD.mono ?_
      rintro e w4 ⟨a4, n4, c4, rfl, k1, k2, hb4⟩
      have HF : Hid ((lessTo L U (j + 1)).length = n4 ∧ Src w4 a4 (cellsP (lessTo L U (j + 1))) ∧ Below w1.heap.size w1 w4 ∧ Below w2.heap.size w2 w4) := ⟨k1, k2, hbr.out.trans (hb4.mono hbr.out.size), hb2r.out.trans (hb4.mono hb2r.out.size)⟩
      have hn4 : n4 ≤ n := by omega
      have hm60 : m ≤ 60 := hmb
      clear CD k1 k2 hb4
      go_wp2_with fail
      exact ⟨⟨j + 1, n4, a4, c4, by omega, hn4, rfl, by go_num, HF.out⟩, by simp [RowKit.intOf]; omega⟩
    · obtain rfl : j = m := by omega
      have hltj : ¬ (j : Int) < (j : Int) := by omega
      have HF : Hid (ER.length = n' ∧ Src wr a' (cellsP ER) ∧ Below w1.heap.size w1 wr) := by
        have e9 := HE.out
        rw [← e9]
        exact ⟨hl.out, hs.out, hbr.out⟩
      clear hl hs
      go_wp2_with fail
      go_ret
      exact ⟨a', n', ⟨c', rfl⟩, HF.out⟩
def dropR (L : List PM) (u f : ByteArray) : List PM × Int := if knownR L u f ≠ 0 then (L, knownR L u f) else if f = inboxT then (L, 11) else (notK (folderK u f) (emptyR L u f), 0)
end Go.Proofs.YtbpgncgmolpkiaaGreatDoor
namespace Go.Proofs.YtbpgncgmolpkiaaGreatDoor
open Go.ChangeShapes Go.WideShapes Go.ChangeAt Go.RowKit Go.Deep Go.Lib
set_option linter.unusedVariables false
set_option linter.unusedSimpArgs false
set_option maxRecDepth 100000

theorem ins_same {k v : ByteArray} {L : List PM} (hu : UpL L) (h : (k, v) ∈ L) : insL k v L = L := by
  refine up_mem (ins_up hu) hu fun q => ⟨fun hq => ?_, fun hq => ?_⟩
  · rcases ins_mem hu hq with rfl | hq
    · exact h
    · exact hq.1
  · refine (ins_perm hu).mem_iff.2 ?_
    by_cases e : q.1 = k
    · have h2 : (k, q.2) ∈ L := by rw [← e]; exact hq
      have h3 := key_one hu h h2
      rw [h3]
      exact List.mem_cons.2 (.inl (Prod.ext e rfl))
    · exact List.mem_cons_of_mem _ (List.mem_filter.2 ⟨hq, decide_eq_true e⟩)
theorem split_k {k v : ByteArray} {L : List PM} (hu : UpL L) (h : (k, v) ∈ L) : L.Perm ((k, v) :: notK k L) := by
  have h1 := ins_perm (k := k) (v := v) hu
  rw [ins_same hu h] at h1
  exact h1
theorem v_mem {L : List PM} (h : storeB L = true) : (vK, bs (itoa (nextM L))) ∈ L := by
  obtain ⟨hg, nx0, hnm, n1, n2, _, _, _⟩ := store_facts h
  rw [hnm] at n1
  have h9 : nextM L = nextM L := rfl
  unfold nextM at n1 ⊢
  cases hv : getM L vK with
  | none => rw [hv] at n1; exact absurd n1 (by show ¬ (1 : Int) ≤ 0; omega)
  | some v =>
    rw [hv] at n1
    simp only [Option.bind_some] at n1 ⊢
    cases hn : numB v.data.toList with
    | none => rw [hn] at n1; exact absurd n1 (by show ¬ (1 : Int) ≤ 0; omega)
    | some x =>
      have h1 := (is_of_num hn).1
      have h2 : bs (itoa ((some x).getD 0)) = v := by
        refine bs_inj ?_
        show (bs (itoa x)).data.toList = _
        rw [h1]
        simp [bs]
      rw [h2]
      exact (getM_mem hg.2.2).1 hv
theorem seg_inj : ∀ {a b x y : List UInt8}, (47 : UInt8) ∉ a → (47 : UInt8) ∉ b → a ++ 47 :: x = b ++ 47 :: y → a = b ∧ x = y
  | [], [], x, y, _, _, h => by simpa using h
  | [], c :: b, x, y, _, hb, h => by
    simp only [List.nil_append, List.cons_append, List.cons.injEq] at h
    exact absurd (by rw [h.1]; exact List.mem_cons_self) hb
  | c :: a, [], x, y, ha, _, h => by
    simp only [List.nil_append, List.cons_append, List.cons.injEq] at h
    exact absurd (by rw [← h.1]; exact List.mem_cons_self) ha
  | c :: a, d :: b, x, y, ha, hb, h => by
    simp only [List.cons_append, List.cons.injEq] at h
    obtain ⟨h1, h2⟩ := seg_inj (fun h9 => ha (List.mem_cons_of_mem _ h9)) (fun h9 => hb (List.mem_cons_of_mem _ h9)) h.2
    exact ⟨by rw [h.1, h1], h2⟩
theorem names_take {nx : Int} {u : ByteArray} {S S' : SM} {q : PM} (hS : (S.fs.map (·.name)).Nodup) (h : takeM nx u S q = some S') : (S'.fs.map (·.name)).Nodup := by
  have hput : ∀ {o : Option FM}, putM S o = some S' → (S'.fs.map (·.name)).Nodup := fun {o} h9 => by
    unfold putM at h9
    obtain ⟨g, rfl, rfl⟩ := Option.map_eq_some_iff.1 h9
    exact putF_names hS
  have haside : asideM S q = some S' → (S'.fs.map (·.name)).Nodup := fun h9 => by cases h9; exact hS
  unfold takeM takeP at h
  split at h
  · split at h
    · unfold userM at h
      obtain ⟨_, rfl⟩ := ite_some h
      exact hS
    · exact haside h
  · split at h
    · exact hput h
    · exact haside h
  · split at h
    · exact hput h
    · exact haside h
  · exact haside h
theorem names_all {nx : Int} {u : ByteArray} : ∀ {L : List PM} {S S' : SM}, (S.fs.map (·.name)).Nodup → takeAll nx u S L = some S' → (S'.fs.map (·.name)).Nodup
  | [], S, S', hS, h => by cases h; exact hS
  | q :: L, S, S', hS, h => by
    unfold takeAll at h
    obtain ⟨S1, h1, h2⟩ := Option.bind_eq_some_iff.1 h
    exact names_all (names_take hS h1) h2
theorem look_mem' {f : FM} : ∀ {fs : List FM}, f ∈ fs → (lookF f.name fs).isSome = true
  | [], h => by cases h
  | g :: fs, h => by
    unfold lookF
    by_cases e : g.name = f.name
    · rw [if_pos e]; rfl
    · rw [if_neg e]
      rcases List.mem_cons.1 h with rfl | h
      · exact absurd rfl e
      · exact look_mem' h
theorem drop_names {n : ByteArray} : ∀ {fs : List FM}, (fs.map (·.name)).Nodup → ∀ g ∈ dropF n fs, g.name ≠ n
  | [], _, g, h => by cases h
  | f :: fs, hn, g, h => by
    rw [List.map_cons, List.nodup_cons] at hn
    unfold dropF at h
    by_cases e : f.name = n
    · rw [if_pos e] at h
      exact fun e2 => hn.1 (List.mem_map.2 ⟨g, h, by rw [e2, e]⟩)
    · rw [if_neg e] at h
      rcases List.mem_cons.1 h with rfl | h
      · exact e
      · exact drop_names hn.2 g h
theorem name_short {L : List PM} {u : ByteArray} {S : SM} (h : storeB L = true) (hus : (47 : UInt8) ∉ u.data.toList) (hS : takeAll (nextM L) u S0 L = some S) {g : FM} (hg : g ∈ S.fs) : shortB g.name = true := by
  obtain ⟨g2, h2⟩ := Option.isSome_iff_exists.1 (look_mem' hg)
  obtain ⟨w, _, _, k⟩ := look_known h hus hS h2
  exact k
/-- What a drop of a folder leaves. -/
def passB (u f : ByteArray) (p : PM) : Bool := decide (p.1 ≠ folderK u f) && !beginsB p.1 (preK u f)
theorem begins_pre {u f k : ByteArray} : beginsB k (preK u f) = true ↔ ∃ r, k.data.toList = 109 :: 47 :: (u.data.toList ++ 47 :: (f.data.toList ++ 47 :: r)) := by
  rw [begins_iff, preK_data]
  constructor
  · rintro ⟨r, h⟩
    exact ⟨r, by rw [h]; simp⟩
  · rintro ⟨r, h⟩
    exact ⟨r, by rw [h]; simp⟩
theorem drop_eq (L : List PM) (u f : ByteArray) : notK (folderK u f) (emptyR L u f) = L.filter (passB u f) := by
  unfold notK emptyR
  rw [List.filter_filter]
  rfl
theorem aside_pass {L : List PM} {u f : ByteArray} {S : SM} (h : storeB L = true) (hus : (47 : UInt8) ∉ u.data.toList) (hfs : (47 : UInt8) ∉ f.data.toList) (hS : takeAll (nextM L) u S0 L = some S) {p : PM} (hp : p ∈ notK vK S.aside) : passB u f p = true := by
  obtain ⟨h1, h2⟩ := notK_sub hp
  rw [all_aside hS] at h1
  have h3 : p ∈ L.filter fun p => !isOwn u p := by simpa using h1
  obtain ⟨h4, h5⟩ := List.mem_filter.1 h3
  have h6 : ownerM p ≠ some u := by simpa using h5
  obtain ⟨_, nx0, _, _, _, _, _, k⟩ := store_facts h
  rcases k _ h4 with k | ⟨u', k1, _⟩
  · exact absurd k h2
  · unfold passB
    rw [Bool.and_eq_true, decide_eq_true_eq]
    constructor
    · intro e
      have h7 : ownerM (folderK u f, p.2) = some u := owner_folder hus hfs
      exact h6 (by rw [← h7]; unfold ownerM; rw [e])
    · cases hb : beginsB p.1 (preK u f) with
      | false => rfl
      | true =>
        exfalso
        obtain ⟨r, hr⟩ := begins_pre.1 hb
        have hsp : splitL 47 p.1.data.toList = [109] :: u.data.toList :: f.data.toList :: splitL 47 r := by
          rw [hr]
          have e : (109 : UInt8) :: 47 :: (u.data.toList ++ 47 :: (f.data.toList ++ 47 :: r)) = [109] ++ 47 :: (u.data.toList ++ 47 :: (f.data.toList ++ 47 :: r)) := rfl
          rw [e, splitL_seg 47 [109] _ (by decide), splitL_seg 47 _ _ hus, splitL_seg 47 _ _ hfs]
        unfold ownerM at k1 h6
        rw [hsp] at k1 h6
        match hq : splitL 47 r, k1, h6 with
        | [], k1, h6 => exact absurd hq (splitL_ne 47 r)
        | [d], k1, h6 =>
          refine h6 ?_
          show (if ([109] : List UInt8) = [109] then some (bs u.data.toList) else none) = some u
          rw [if_pos rfl, data_bs]
        | _ :: _ :: _, k1, h6 => cases k1
theorem rest_pass {u f : ByteArray} {fs : List FM} (hus : (47 : UInt8) ∉ u.data.toList) (hfs : (47 : UInt8) ∉ f.data.toList) (hn : ∀ g ∈ fs, g.name ≠ f ∧ (47 : UInt8) ∉ g.name.data.toList) : (flatF u fs).filter (passB u f) = flatF u fs := by
  rw [List.filter_eq_self]
  intro p hp
  obtain ⟨g, hg, hpg⟩ := flat_mem hp
  obtain ⟨k1, k2⟩ := hn g hg
  unfold fPairs at hpg
  unfold passB
  rw [Bool.and_eq_true, decide_eq_true_eq]
  rcases List.mem_cons.1 hpg with rfl | hpg
  · refine ⟨fun e => k1 (folderK_inj e), ?_⟩
    cases hb : beginsB (folderK u g.name) (preK u f) with
    | false => rfl
    | true =>
      obtain ⟨r, hr⟩ := begins_pre.1 hb
      rw [folderK_data] at hr
      simp at hr
  · obtain ⟨m, _, rfl⟩ := List.mem_map.1 hpg
    refine ⟨fun e => ?_, ?_⟩
    · have h9 := congrArg (fun x : ByteArray => x.data.toList) e
      simp only [mailP, folderK_data] at h9
      simp [bs] at h9
    · cases hb : beginsB (mailP u g.name m).1 (preK u f) with
      | false => rfl
      | true =>
        exfalso
        obtain ⟨r, hr⟩ := begins_pre.1 hb
        have hr2 : 109 :: 47 :: (u.data.toList ++ 47 :: (g.name.data.toList ++ 47 :: d3 m.1.toNat)) = 109 :: 47 :: (u.data.toList ++ 47 :: (f.data.toList ++ 47 :: r)) := by
          rw [← hr]
          simp [mailP, bs]
        simp only [List.cons.injEq, true_and] at hr2
        obtain ⟨_, h2⟩ := seg_inj hus hus hr2
        obtain ⟨h3, _⟩ := seg_inj k2 hfs h2
        exact k1 (bs_inj h3)
theorem gone_pass {u f : ByteArray} {g : FM} (hg : g.name = f) : (fPairs u g).filter (passB u f) = [] := by
  rw [List.filter_eq_nil_iff]
  intro p hp
  unfold fPairs at hp
  unfold passB
  rcases List.mem_cons.1 hp with rfl | hp
  · rw [hg]; simp
  · obtain ⟨m, _, rfl⟩ := List.mem_map.1 hp
    have hb : beginsB (mailP u g.name m).1 (preK u f) = true := begins_pre.2 ⟨d3 m.1.toNat, by rw [hg]; simp [mailP, bs]⟩
    rw [hb]
    simp
theorem desk_list {L : List PM} {u : ByteArray} {S : SM} (h : storeB L = true) (hus : (47 : UInt8) ∉ u.data.toList) (hS : takeAll (nextM L) u S0 L = some S) (hw : S.word.toList ≠ []) : L.Perm ((vK, bs (itoa (nextM L))) :: (userK u, S.word) :: (notK vK S.aside ++ flatF u S.fs)) := by
  refine (split_k (store_facts h).1.2.2 (v_mem h)).trans (List.Perm.cons _ ?_)
  have h1 := rest_perm h hus hS
  unfold wordL at h1
  rw [if_neg hw] at h1
  exact h1
theorem drop_fits {L : List PM} {u f : ByteArray} {S S' : SM} {q nx' : Int} (h : storeB L = true) (hsu : shortB u = true) (hsf : shortB f = true) (hS : takeAll (nextM L) u S0 L = some S) (hQ : dropM (nextM L) S f = (q, nx', S')) : OpFits L u q nx' S' (dropR L u f) := by
  have hus := word_slash hsu
  have hfs := word_slash hsf
  obtain ⟨hg, nx0, hnm, n1, n2, _, _, _⟩ := store_facts h
  rw [hnm] at n1 n2
  obtain ⟨hwi, hwd⟩ := word_iff h hus hS
  obtain ⟨hli, hln⟩ := look_iff h hus hS hfs
  unfold dropM at hQ
  by_cases hw : S.word.toList = []
  · rw [if_pos hw] at hQ
    cases hQ
    have hk : knownR L u f = 15 := by unfold knownR; rw [hwi.1 hw]; rfl
    unfold dropR
    rw [hk, if_pos (by decide)]
    exact ⟨fun _ => rfl, fun h9 => by cases h9⟩
  · rw [if_neg hw] at hQ
    have hs : (getM L (userK u)).isSome = true := by
      cases hv : getM L (userK u) with
      | none => exact absurd (hwi.2 hv) hw
      | some v => rfl
    by_cases hl : (lookF f S.fs).isSome = false
    · rw [if_pos hl] at hQ
      cases hQ
      have hk : knownR L u f = 16 := by unfold knownR; rw [hs, ← hli, hl]; rfl
      unfold dropR
      rw [hk, if_pos (by decide)]
      exact ⟨fun _ => rfl, fun h9 => by cases h9⟩
    · rw [if_neg hl] at hQ
      have hl1 : (lookF f S.fs).isSome = true := by
        cases h9 : (lookF f S.fs).isSome with
        | true => rfl
        | false => exact absurd h9 hl
      have hk : knownR L u f = 0 := by unfold knownR; rw [hs, ← hli, hl1]; rfl
      unfold dropR
      rw [hk, if_neg (by decide)]
      by_cases hi : f = inboxT
      · rw [if_pos hi] at hQ
        cases hQ
        rw [if_pos hi]
        exact ⟨fun _ => rfl, fun h9 => by cases h9⟩
      · rw [if_neg hi] at hQ
        cases hQ
        rw [if_neg hi]
        obtain ⟨g, hgl⟩ := Option.isSome_iff_exists.1 hl1
        have hnd := names_all (S := S0) List.nodup_nil hS
        refine ⟨fun h9 => absurd rfl h9, fun _ => ⟨by omega, n2, fun x hx => store_fit h hS x ((dropF_sub f S.fs).subset hx), ?_⟩⟩
        have hlen : (notK (folderK u f) (emptyR L u f)).length ≤ 60 := by
          rw [drop_eq]
          exact Nat.le_trans (List.length_filter_le _ _) hg.1
        refine ⟨notK (folderK u f) (emptyR L u f), ?_, ?_, by omega, ?_⟩
        · rw [drop_eq]
          exact hg.2.2.sublist List.filter_sublist
        · rw [drop_eq]
          refine List.Perm.symm ?_
          refine ((desk_list h hus hS hw).filter _).trans ?_
          have e1 : passB u f (vK, bs (itoa (nextM L))) = true := by
            unfold passB
            rw [Bool.and_eq_true, decide_eq_true_eq]
            refine ⟨(folder_not u f).symm, ?_⟩
            cases hb : beginsB vK (preK u f) with
            | false => rfl
            | true =>
              obtain ⟨r, hr⟩ := begins_pre.1 hb
              simp at hr
          have e2 : passB u f (userK u, S.word) = true := by
            unfold passB
            rw [Bool.and_eq_true, decide_eq_true_eq]
            refine ⟨fun e => ?_, ?_⟩
            · have h9 := congrArg (fun x : ByteArray => x.data.toList) e
              simp [ByteArray.data_append] at h9
            · cases hb : beginsB (userK u) (preK u f) with
              | false => rfl
              | true =>
                obtain ⟨r, hr⟩ := begins_pre.1 hb
                simp [ByteArray.data_append] at hr
          rw [List.filter_cons_of_pos e1, List.filter_cons_of_pos e2, List.filter_append]
          have e3 : (notK vK S.aside).filter (passB u f) = notK vK S.aside := by
            rw [List.filter_eq_self]
            exact fun p hp => aside_pass h hus hfs hS hp
          rw [e3]
          unfold deskP
          refine List.Perm.cons _ (List.Perm.cons _ (List.Perm.append_left _ ?_))
          refine ((flat_perm (drop_perm hgl)).filter _).trans ?_
          rw [flat_cons, List.filter_append, gone_pass (lookF_mem hgl).2, List.nil_append, rest_pass hus hfs fun x hx => ⟨drop_names hnd x hx, word_slash (name_short h hus hS ((dropF_sub f S.fs).subset hx))⟩]
        · unfold fitsR
          rw [if_neg (by omega)]
end Go.Proofs.YtbpgncgmolpkiaaGreatDoor
namespace Go.Proofs.YtbpgncgmolpkiaaGreatDoor
open Go.ChangeShapes Go.WideShapes Go.ChangeAt Go.RowKit Go.Deep Go.Lib
set_option linter.unusedVariables false
set_option linter.unusedSimpArgs false
set_option maxRecDepth 100000

theorem dropR_len {L : List PM} (hg : GoodL L) (u p : ByteArray) : (dropR L u p).1.length ≤ 4000 := by
  have := hg.1
  unfold dropR
  split
  · show L.length ≤ 4000; omega
  · split
    · show L.length ≤ 4000; omega
    · show (notK (folderK u p) (emptyR L u p)).length ≤ 4000
      rw [drop_eq]
      have := List.length_filter_le (passB u p) L
      omega
end Go.Proofs.YtbpgncgmolpkiaaGreatDoor
