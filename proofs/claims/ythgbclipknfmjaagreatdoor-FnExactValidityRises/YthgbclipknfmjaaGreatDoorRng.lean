
/-
  The desk of a mail store: a range over its folders; how many mails there are. By an AI agent.
-/
import Derived.Test.YthgbclipknfmjaaGreatDoorTkt
import Derived.Maps.RangeWalk
namespace Go.Proofs.YthgbclipknfmjaaGreatDoor
open Go.ChangeShapes Go.WideShapes Go.ChangeAt Go.RowKit Go.Deep Go.Lib
open Go.ChangeMaps (setBlock)
set_option linter.unusedVariables false
set_option linter.unusedSimpArgs false
set_option maxRecDepth 100000

/-- A range over folders under way. -/
def RangeX (w : World) (M r : Nat) (X : List FX) (seen : Array Nat) : Prop :=
  ∃ clock, MapIs w M clock X ∧ w.heap[r]? = some (.mapIter (some M) clock seen clock)
theorem RangeX.later {w w' : World} {M r : Nat} {X : List FX} {seen : Array Nat} (h : RangeX w M r X seen) (hb : Below w.heap.size w w') : RangeX w' M r X seen := by
  obtain ⟨c, h1, h2⟩ := h
  exact ⟨c, h1.later hb, (hb.block r (Array.getElem?_eq_some_iff.1 h2).1).trans h2⟩
theorem RangeX.left {w : World} {M r : Nat} {X : List FX} {seen : Array Nat} (h : RangeX w M r X seen) : w.rangeLeft M r = (leftOf (X.map entX).toArray seen).size := by
  obtain ⟨c, h1, h2⟩ := h
  simp only [World.rangeLeft, h1.1, h2]
section
variable {P : Program} (w : World) {ops : Array Oper} {rest : List Oper} {o : Oper} {a : Act} {Q : Exit → Act → World → Prop}
theorem wpList_rangeX (hg : o.guard = none) (m : Operand) (t : TypeId) (hop : o.op = Op.range t m) {k e : TypeId} (ht : P.underlying t = some (.map k e)) (M : Nat) (X : List FX) (hm : a.eval m = .map (some M)) (h : ∃ clock, MapIs w M clock X)
    (hK : ∀ w', RangeX w' M w.heap.size X #[] → Below w.heap.size w w' → w'.heap.size = w.heap.size + 1 → wpList P ops Q rest (a.put o.dst (.pointer (some ⟨w.heap.size, 0, none⟩))) w') :
    wpList P ops Q (o :: rest) a w := by
  refine wpList_plain hg fun K' hK' => ?_
  obtain ⟨clock, h1⟩ := h
  have hrun := run_range_map w t k e M (X.map entX).toArray clock ht h1.1
  have hb : Below w.heap.size w (w.alloc (.mapIter (some M) clock #[] clock)) := (Below.refl _ _).alloc (Nat.le_refl _) _
  unfold Oper.wp
  simp [execOp, hop, hm, hrun, Result.andThen]
  exact hK' _ _ (hK _ ⟨clock, h1.later hb, heap_alloc_new w _⟩ hb (by simp))
theorem wpList_nextX (hg : o.guard = none) (it : Operand) (hop : o.op = Op.next it false) (M r : Nat) (X : List FX) (seen : Array Nat) (hMr : M < r) (hit : a.eval it = .pointer (some ⟨r, 0, none⟩)) (h : RangeX w M r X seen)
    (hsl : ∀ x ∈ X, ∃ (ax : Option Addr) (cx : Nat), x.v = .slice ax x.mails.length cx)
    (hDone : Hid (∀ x ∈ X, seen.contains x.born = true) → wpList P ops Q rest (a.put o.dst (.tuple #[.bool false])) w)
    (hMore : ∀ x ∈ X, Hid (seen.contains x.born = false) → ∀ (ax : Option Addr) (cx : Nat), x.v = .slice ax x.mails.length cx → ∀ w', RangeX w' M r X (seen.push x.born) → w'.rangeLeft M r < w.rangeLeft M r → Below r w w' → w'.heap.size = w.heap.size →
      (Instr.entry (.pointer (some ⟨r, 0, none⟩))).run P w' = .ok (.tuple #[.string x.k, .agg #[.string x.name, .int .i64 x.val, .int .i64 x.next, .slice ax x.mails.length cx]]) w' → wpList P ops Q rest (a.put o.dst (.tuple #[.bool true, .string x.k, .agg #[.string x.name, .int .i64 x.val, .int .i64 x.next, .slice ax x.mails.length cx]])) w') :
    wpList P ops Q (o :: rest) a w := by
  refine wpList_plain hg fun K' hK' => ?_
  have hleft := h.left
  obtain ⟨clock, h1, h2⟩ := h
  have hold : ∀ x ∈ (X.map entX).toArray.toList, x.born < clock := fun e he => by
    obtain ⟨x, hx, rfl⟩ := List.mem_map.1 (by simpa using he)
    exact h1.2.1 x hx
  unfold Oper.wp
  rcases run_next_at (P := P) w o.type r M clock clock seen (X.map entX).toArray clock h2 h1.1 hold (Nat.le_refl _) with ⟨h0, hrun⟩ | ⟨e, he, w1, hal, hrun⟩
  · simp [execOp, hop, hit, hrun, Result.andThen]
    exact hK' _ _ (hDone fun x hx => all_seen _ seen h0 (entX x) (by simpa using ⟨x, hx, rfl⟩))
  · have hsh := left_shrinks _ seen e he
    obtain ⟨hem, hes⟩ := mem_left he
    obtain ⟨x, hx, rfl⟩ := List.mem_map.1 (by simpa using hem : e ∈ X.map entX)
    obtain ⟨ax, cx, hv⟩ := hsl x hx
    have hval : (entX x).val = .agg #[.string x.name, .int .i64 x.val, .int .i64 x.next, .slice ax x.mails.length cx] := by
      show valX x = _
      unfold valX
      rw [hv]
    have hr1 : r < w1.heap.size := by
      have h9 := (Array.getElem?_eq_some_iff.1 h2).1
      rcases hal with rfl | rfl <;> exact h9
    have hbw : Below r w w1 := by
      rcases hal with rfl | rfl
      · exact Below.refl _ _
      · exact (Below.refl _ _).drew
    have hb1 : w1.heap[M]? = some (.map (X.map entX).toArray clock) := (hbw.block M hMr).trans h1.1
    have hb' : (setBlock w1 r (.mapIter (some M) clock (seen.push (entX x).born) clock)).heap[M]? = some (.map (X.map entX).toArray clock) := (sb_block _ _ _ _ (by omega)).trans hb1
    have hr' : (setBlock w1 r (.mapIter (some M) clock (seen.push (entX x).born) clock)).heap[r]? = some (.mapIter (some M) clock (seen.push (entX x).born) clock) := sb_same _ _ _ hr1
    have hen := run_entry_at (P := P) _ r M clock seen (X.map entX).toArray clock (entX x) hr' hb' hem (by
      have h9 := h1.2.2
      have h7 : ((X.map entX).toArray.toList.map (·.born)) = X.map (·.born) := by simp [entX, Function.comp_def]
      rw [h7]
      exact h9)
    have hR : RangeX (setBlock w1 r (.mapIter (some M) clock (seen.push (entX x).born) clock)) M r X (seen.push x.born) := ⟨clock, ⟨hb', h1.2⟩, hr'⟩
    rw [hval] at hrun hen
    simp [execOp, hop, hit, hrun, Result.andThen]
    exact hK' _ _ (hMore x hx hes ax cx hv _ hR (by rw [hR.left, hleft]; exact hsh) (hbw.trans (sb_below _ r _)) (by
      have h9 : (setBlock w1 r (.mapIter (some M) clock (seen.push (entX x).born) clock)).heap.size = w1.heap.size := by simp [setBlock]
      rw [h9]
      rcases hal with rfl | rfl <;> rfl) hen)
end
/-- The mails of those folders that are still to come. -/
def leftSum (seen : Array Nat) : List FX → Nat
  | [] => 0
  | x :: X => (if seen.contains x.born = true then 0 else x.mails.length) + leftSum seen X
theorem leftSum_other {seen : Array Nat} {b : Nat} : ∀ {X : List FX}, (∀ x ∈ X, x.born ≠ b) → leftSum (seen.push b) X = leftSum seen X
  | [], _ => rfl
  | x :: X, h => by
    unfold leftSum
    have h1 : (x.born == b) = false := beq_eq_false_iff_ne.2 (h x List.mem_cons_self)
    rw [contains_push, h1, Bool.or_false, leftSum_other fun y hy => h y (List.mem_cons_of_mem _ hy)]
theorem leftSum_push {seen : Array Nat} {x : FX} : ∀ {X : List FX}, (X.map (·.born)).Nodup → x ∈ X → seen.contains x.born = false → leftSum seen X = x.mails.length + leftSum (seen.push x.born) X
  | [], _, h, _ => by cases h
  | y :: X, hn, hx, hs => by
    rw [List.map_cons, List.nodup_cons] at hn
    unfold leftSum
    by_cases hb : y.born = x.born
    · have hno : ∀ z ∈ X, z.born ≠ x.born := fun z hz e => hn.1 (List.mem_map.2 ⟨z, hz, by rw [e, hb]⟩)
      rcases List.mem_cons.1 hx with rfl | hx
      · rw [leftSum_other hno, contains_push, hs]
        simp
      · exact absurd rfl (hno x hx)
    · have h1 : (y.born == x.born) = false := beq_eq_false_iff_ne.2 hb
      rcases List.mem_cons.1 hx with rfl | hx
      · exact absurd rfl hb
      · rw [contains_push, h1, Bool.or_false, leftSum_push hn.2 hx hs]
        omega
theorem leftSum_end {seen : Array Nat} : ∀ {X : List FX}, (∀ x ∈ X, seen.contains x.born = true) → leftSum seen X = 0
  | [], _ => rfl
  | x :: X, h => by
    unfold leftSum
    rw [if_pos (h x List.mem_cons_self), leftSum_end fun y hy => h y (List.mem_cons_of_mem _ hy)]
/-- How many mails lie in folders. -/
def sumF : List FM → Nat
  | [] => 0
  | f :: fs => f.mails.length + sumF fs
theorem sum_view {u : ByteArray} : ∀ {X : List FX} {fs : List FM}, View u X fs → leftSum #[] X = sumF fs
  | [], [], _ => rfl
  | [], _ :: _, h => by cases h
  | _ :: _, [], h => by cases h
  | x :: X, f :: fs, h => by
    unfold View at h
    simp only [List.map_cons, List.cons.injEq, Prod.mk.injEq] at h
    obtain ⟨⟨_, h2⟩, h3⟩ := h
    have ih := sum_view (u := u) (X := X) (fs := fs) h3
    unfold leftSum sumF
    rw [ih, ← h2]
    simp
set_option maxHeartbeats 1000000 in
theorem mailsI (w : World) (M : Nat) (D : DK) (hD : DeskAt w M D) (t : Nat) (ht : leftSum #[] D.X = t) (ht2 : t ≤ 1048576) : Calls Tryz.prog 116 #[.pointer (some ⟨M + 1, 0, none⟩)] w fun e w' => e = .returned (.int .i64 (t : Int)) ∧ Below w.heap.size w w' := by
  obtain ⟨e5, _⟩ := hD.1 5 _ rfl
  have hM : M < w.heap.size := by have h9 : M + 1 < w.heap.size := World.block_lt_of_cell? _ _ e5; omega
  have HM : Hid (∃ clock, MapIs w M clock D.X) := hD.2.1
  have HSL : Hid (∀ x ∈ D.X, ∃ (ax : Option Addr) (cx : Nat), x.v = .slice ax x.mails.length cx) := fun x hx => by
    obtain ⟨ax, cx, h1, _, _⟩ := own_src (hD.2.2.2.1 x hx)
    exact ⟨ax, cx, h1⟩
  have HN : Hid ((D.X.map (·.born)).Nodup) := by obtain ⟨_, h9⟩ := hD.2.1; exact h9.2.2
  have HT : Hid (leftSum #[] D.X = t) := ht
  clear hD ht
  go_enter Tryz.func116, Tryz.ntmps116
  go_wp2_with (first
    | (at_range; refine wpList_rangeX _ rfl _ 86 rfl Tryz.underlying86 M D.X rfl HM.out ?_; intro w0 hrg0 hb0 hs0)
    | go_in)
  go_frame
  go_loopw [3] (fun v wr => ∃ (seen : Array Nat) (n : Nat), v = .int .i64 (n : Int) ∧ n ≤ t ∧ Hid (RangeX wr M w.heap.size D.X seen) ∧ Hid (n + leftSum seen D.X = t) ∧ Hid (Below w.heap.size w wr) ∧ Hid (w.heap.size < wr.heap.size)) (fun _ wr => wr.rangeLeft M w.heap.size)
  case atStart => exact ⟨#[], 0, rfl, Nat.zero_le _, hrg0, by show 0 + _ = t; rw [Nat.zero_add]; exact HT.out, hb0, by show _ < _; omega⟩
  case round =>
    obtain ⟨seen, n, rfl, hn, hrg, hsum, hbw, hlt⟩ := hrel
    go_wp2_with (first
      | (at_next; refine wpList_nextX _ rfl _ rfl M w.heap.size D.X seen hM rfl hrg.out HSL.out ?_ ?_)
      | go_in)
    · intro hall
      have hz := leftSum_end (fun x hx => by simpa using hall.out x hx)
      obtain rfl : n = t := by have h9 := hsum.out; omega
      go_wp2
      go_ret
      exact ⟨rfl, hbw.out⟩
    · intro x hx hsx ax cx hv w1 hrg1 hlt1 hb1 hs1 hen
      have hpush := leftSum_push HN.out hx (by simpa using hsx.out)
      obtain ⟨ml, hml⟩ : ∃ k, x.mails.length = k := ⟨_, rfl⟩
      rw [hml] at hpush hen ⊢
      have hbd : n + ml ≤ t := by have h9 := hsum.out; omega
      have HS2 : Hid ((n + ml) + leftSum (seen.push x.born) D.X = t) := by have h9 := hsum.out; show _ = _; omega
      have HR1 : Hid (RangeX w1 M w.heap.size D.X (seen.push x.born)) := hrg1
      have HB1 : Hid (Below w.heap.size w w1) := hbw.out.trans hb1
      have HL1 : Hid (w.heap.size < w1.heap.size) := by have h9 := hlt.out; show _ < _; omega
      have HLT : Hid (w1.rangeLeft M w.heap.size < wr.rangeLeft M w.heap.size) := hlt1
      clear hpush hsum hrg1 hb1 hbw hlt hml hlt1 hs1
      go_wp2_with fail
      go_roundw
      case rel => exact ⟨_, n + ml, by simp, hbd, HR1.out.later ((Below.refl _ _).alloc (Nat.le_refl _) _), HS2.out, HB1.out.alloc HB1.out.size _, by have h9 := HL1.out; show _ < (w1.alloc _).heap.size; simp; omega⟩
      case measure => rw [(HR1.out.later ((Below.refl _ _).alloc (Nat.le_refl _) _)).left, ← HR1.out.left]; exact HLT.out
end Go.Proofs.YthgbclipknfmjaaGreatDoor
