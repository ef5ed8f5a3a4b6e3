/-
  Rng Lay Hlz Mok in one. By an AI agent.
-/
import Derived.Test.YthgbclipknfmjaaGreatDoorFr09
import Derived.Maps.RangeWalk
import Derived.Carry
namespace Go.Proofs.YthgbclipknfmjaaGreatDoor
open Go.ChangeShapes Go.WideShapes Go.ChangeAt Go.RowKit Go.Deep Go.Lib
open Go.ChangeMaps (setBlock)
set_option linter.unusedVariables false
set_option linter.unusedSimpArgs false
set_option maxRecDepth 100000

/-- A range over folders under way. -/
def RangeX (w : World) (M r : Nat) (X : List FX) (seen : Array Nat) : Prop :=
  ∃ clock, MapIs w M clock X ∧ w.heap[r]? = some (.mapIter (some M) clock seen clock)
theorem RangeX.later {w w' : World} {M r : Nat} {X : List FX} {seen : Array Nat} (h : RangeX w M r X seen) (hb : Below w.heap.size w w') : RangeX w' M r X seen := by
  obtain ⟨c, h1, h2⟩ := h
  exact ⟨c, h1.later hb, (hb.block r (Array.getElem?_eq_some_iff.1 h2).1).trans h2⟩
theorem RangeX.left {w : World} {M r : Nat} {X : List FX} {seen : Array Nat} (h : RangeX w M r X seen) : w.rangeLeft M r = (leftOf (X.map entX).toArray seen).size := by
  obtain ⟨c, h1, h2⟩ := h
  simp only [World.rangeLeft, h1.1, h2]
section
variable {P : Program} (w : World) {ops : Array Oper} {rest : List Oper} {o : Oper} {a : Act} {Q : Exit → Act → World → Prop}
theorem wpList_rangeX (hg : o.guard = none) (m : Operand) (t : TypeId) (hop : o.op = Op.range t m) {k e : TypeId} (ht : P.underlying t = some (.map k e)) (M : Nat) (X : List FX) (hm : a.eval m = .map (some M)) (h : ∃ clock, MapIs w M clock X)
    (hK : ∀ w', RangeX w' M w.heap.size X #[] → Below w.heap.size w w' → w'.heap.size = w.heap.size + 1 → wpList P ops Q rest (a.put o.dst (.pointer (some ⟨w.heap.size, 0, none⟩))) w') :
    wpList P ops Q (o :: rest) a w := by
  refine wpList_plain hg fun K' hK' => ?_
  obtain ⟨clock, h1⟩ := h
  have hrun := run_range_map w t k e M (X.map entX).toArray clock ht h1.1
  have hb : Below w.heap.size w (w.alloc (.mapIter (some M) clock #[] clock)) := (Below.refl _ _).alloc (Nat.le_refl _) _
  unfold Oper.wp
  simp [execOp, hop, hm, hrun, Result.andThen]
  exact hK' _ _ (hK _ ⟨clock, h1.later hb, heap_alloc_new w _⟩ hb (by simp))
theorem wpList_nextX (hg : o.guard = none) (it : Operand) (hop : o.op = Op.next it false) (M r : Nat) (X : List FX) (seen : Array Nat) (hMr : M < r) (hit : a.eval it = .pointer (some ⟨r, 0, none⟩)) (h : RangeX w M r X seen)
    (hsl : ∀ x ∈ X, ∃ (ax : Option Addr) (cx : Nat), x.v = .slice ax x.mails.length cx)
    (hDone : Hid (∀ x ∈ X, seen.contains x.born = true) → wpList P ops Q rest (a.put o.dst (.tuple #[.bool false])) w)
    (hMore : ∀ x ∈ X, Hid (seen.contains x.born = false) → ∀ (ax : Option Addr) (cx : Nat), x.v = .slice ax x.mails.length cx → ∀ w', RangeX w' M r X (seen.push x.born) → w'.rangeLeft M r < w.rangeLeft M r → Below r w w' → w'.heap.size = w.heap.size →
      (Instr.entry (.pointer (some ⟨r, 0, none⟩))).run P w' = .ok (.tuple #[.string x.k, .agg #[.string x.name, .int .i64 x.val, .int .i64 x.next, .slice ax x.mails.length cx]]) w' → wpList P ops Q rest (a.put o.dst (.tuple #[.bool true, .string x.k, .agg #[.string x.name, .int .i64 x.val, .int .i64 x.next, .slice ax x.mails.length cx]])) w') :
    wpList P ops Q (o :: rest) a w := by
  refine wpList_plain hg fun K' hK' => ?_
  have hleft := h.left
  obtain ⟨clock, h1, h2⟩ := h
  have hold : ∀ x ∈ (X.map entX).toArray.toList, x.born < clock := fun e he => by
    obtain ⟨x, hx, rfl⟩ := List.mem_map.1 (by simpa using he)
    exact h1.2.1 x hx
  unfold Oper.wp
  rcases run_next_at (P := P) w o.type r M clock clock seen (X.map entX).toArray clock h2 h1.1 hold (Nat.le_refl _) with ⟨h0, hrun⟩ | ⟨e, he, w1, hal, hrun⟩
  · simp [execOp, hop, hit, hrun, Result.andThen]
    exact hK' _ _ (hDone fun x hx => all_seen _ seen h0 (entX x) (by simpa using ⟨x, hx, rfl⟩))
  · have hsh := left_shrinks _ seen e he
    obtain ⟨hem, hes⟩ := mem_left he
    obtain ⟨x, hx, rfl⟩ := List.mem_map.1 (by simpa using hem : e ∈ X.map entX)
    obtain ⟨ax, cx, hv⟩ := hsl x hx
    have hval : (entX x).val = .agg #[.string x.name, .int .i64 x.val, .int .i64 x.next, .slice ax x.mails.length cx] := by
      show valX x = _
      unfold valX
      rw [hv]
    have hr1 : r < w1.heap.size := by
      have h9 := (Array.getElem?_eq_some_iff.1 h2).1
      rcases hal with rfl | rfl <;> exact h9
    have hbw : Below r w w1 := by
      rcases hal with rfl | rfl
      · exact Below.refl _ _
      · exact (Below.refl _ _).drew
    have hb1 : w1.heap[M]? = some (.map (X.map entX).toArray clock) := (hbw.block M hMr).trans h1.1
    have hb' : (setBlock w1 r (.mapIter (some M) clock (seen.push (entX x).born) clock)).heap[M]? = some (.map (X.map entX).toArray clock) := (sb_block _ _ _ _ (by omega)).trans hb1
    have hr' : (setBlock w1 r (.mapIter (some M) clock (seen.push (entX x).born) clock)).heap[r]? = some (.mapIter (some M) clock (seen.push (entX x).born) clock) := sb_same _ _ _ hr1
    have hen := run_entry_at (P := P) _ r M clock seen (X.map entX).toArray clock (entX x) hr' hb' hem (by
      have h9 := h1.2.2
      have h7 : ((X.map entX).toArray.toList.map (·.born)) = X.map (·.born) := by simp [entX, Function.comp_def]
      rw [h7]
      exact h9)
    have hR : RangeX (setBlock w1 r (.mapIter (some M) clock (seen.push (entX x).born) clock)) M r X (seen.push x.born) := ⟨clock, ⟨hb', h1.2⟩, hr'⟩
    rw [hval] at hrun hen
    simp [execOp, hop, hit, hrun, Result.andThen]
    exact hK' _ _ (hMore x hx hes ax cx hv _ hR (by rw [hR.left, hleft]; exact hsh) (hbw.trans (sb_below _ r _)) (by
      have h9 : (setBlock w1 r (.mapIter (some M) clock (seen.push (entX x).born) clock)).heap.size = w1.heap.size := by simp [setBlock]
      rw [h9]
      rcases hal with rfl | rfl <;> rfl) hen)
end
/-- The mails of those folders that are still to come. -/
def leftSum (seen : Array Nat) : List FX → Nat
  | [] => 0
  | x :: X => (if seen.contains x.born = true then 0 else x.mails.length) + leftSum seen X
theorem leftSum_other {seen : Array Nat} {b : Nat} : ∀ {X : List FX}, (∀ x ∈ X, x.born ≠ b) → leftSum (seen.push b) X = leftSum seen X
  | [], _ => rfl
  | x :: X, h => by
    unfold leftSum
    have h1 : (x.born == b) = false := beq_eq_false_iff_ne.2 (h x List.mem_cons_self)
    rw [contains_push, h1, Bool.or_false, leftSum_other fun y hy => h y (List.mem_cons_of_mem _ hy)]
theorem leftSum_push {seen : Array Nat} {x : FX} : ∀ {X : List FX}, (X.map (·.born)).Nodup → x ∈ X → seen.contains x.born = false → leftSum seen X = x.mails.length + leftSum (seen.push x.born) X
  | [], _, h, _ => by cases h
  | y :: X, hn, hx, hs => by
    rw [List.map_cons, List.nodup_cons] at hn
    unfold leftSum
    by_cases hb : y.born = x.born
    · have hno : ∀ z ∈ X, z.born ≠ x.born := fun z hz e => hn.1 (List.mem_map.2 ⟨z, hz, by rw [e, hb]⟩)
      rcases List.mem_cons.1 hx with rfl | hx
      · rw [leftSum_other hno, contains_push, hs]
        simp
      · exact absurd rfl (hno x hx)
    · have h1 : (y.born == x.born) = false := beq_eq_false_iff_ne.2 hb
      rcases List.mem_cons.1 hx with rfl | hx
      · exact absurd rfl hb
      · rw [contains_push, h1, Bool.or_false, leftSum_push hn.2 hx hs]
        omega
theorem leftSum_end {seen : Array Nat} : ∀ {X : List FX}, (∀ x ∈ X, seen.contains x.born = true) → leftSum seen X = 0
  | [], _ => rfl
  | x :: X, h => by
    unfold leftSum
    rw [if_pos (h x List.mem_cons_self), leftSum_end fun y hy => h y (List.mem_cons_of_mem _ hy)]
/-- How many mails lie in folders. -/
def sumF : List FM → Nat
  | [] => 0
  | f :: fs => f.mails.length + sumF fs
theorem sum_view {u : ByteArray} : ∀ {X : List FX} {fs : List FM}, View u X fs → leftSum #[] X = sumF fs
  | [], [], _ => rfl
  | [], _ :: _, h => by cases h
  | _ :: _, [], h => by cases h
  | x :: X, f :: fs, h => by
    unfold View at h
    simp only [List.map_cons, List.cons.injEq, Prod.mk.injEq] at h
    obtain ⟨⟨_, h2⟩, h3⟩ := h
    have ih := sum_view (u := u) (X := X) (fs := fs) h3
    unfold leftSum sumF
    rw [ih, ← h2]
    simp
set_option maxHeartbeats 1000000 in
theorem mailsI (w : World) (M : Nat) (D : DK) (hD : DeskAt w M D) (t : Nat) (ht : leftSum #[] D.X = t) (ht2 : t ≤ 1048576) : Calls Tryz.prog 116 #[.pointer (some ⟨M + 1, 0, none⟩)] w fun e w' => e = .returned (.int .i64 (t : Int)) ∧ Below w.heap.size w w' := by
  obtain ⟨e5, _⟩ := hD.1 5 _ rfl
  have hM : M < w.heap.size := by have h9 : M + 1 < w.heap.size := World.block_lt_of_cell? _ _ e5; omega
  have HM : Hid (∃ clock, MapIs w M clock D.X) := hD.2.1
  have HSL : Hid (∀ x ∈ D.X, ∃ (ax : Option Addr) (cx : Nat), x.v = .slice ax x.mails.length cx) := fun x hx => by
    obtain ⟨ax, cx, h1, _, _⟩ := own_src (hD.2.2.2.1 x hx)
    exact ⟨ax, cx, h1⟩
  have HN : Hid ((D.X.map (·.born)).Nodup) := by obtain ⟨_, h9⟩ := hD.2.1; exact h9.2.2
  have HT : Hid (leftSum #[] D.X = t) := ht
  clear hD ht
  go_enter Tryz.func116, Tryz.ntmps116
  go_wp2_with (first
    | (at_range; refine wpList_rangeX _ rfl _ 86 rfl Tryz.underlying86 M D.X rfl HM.out ?_; intro w0 hrg0 hb0 hs0)
    | go_in)
  go_frame
  go_loopw [3] (fun v wr => ∃ (seen : Array Nat) (n : Nat), v = .int .i64 (n : Int) ∧ n ≤ t ∧ Hid (RangeX wr M w.heap.size D.X seen) ∧ Hid (n + leftSum seen D.X = t) ∧ Hid (Below w.heap.size w wr) ∧ Hid (w.heap.size < wr.heap.size)) (fun _ wr => wr.rangeLeft M w.heap.size)
  case atStart => exact ⟨#[], 0, rfl, Nat.zero_le _, hrg0, by show 0 + _ = t; rw [Nat.zero_add]; exact HT.out, hb0, by show _ < _; omega⟩
  case round =>
    obtain ⟨seen, n, rfl, hn, hrg, hsum, hbw, hlt⟩ := hrel
    go_wp2_with (first
      | (at_next; refine wpList_nextX _ rfl _ rfl M w.heap.size D.X seen hM rfl hrg.out HSL.out ?_ ?_)
      | go_in)
    · intro hall
      have hz := leftSum_end (fun x hx => by simpa using hall.out x hx)
      obtain rfl : n = t := by have h9 := hsum.out; omega
      go_wp2
      go_ret
      exact ⟨rfl, hbw.out⟩
    · intro x hx hsx ax cx hv w1 hrg1 hlt1 hb1 hs1 hen
      have hpush := leftSum_push HN.out hx (by simpa using hsx.out)
      obtain ⟨ml, hml⟩ : ∃ k, x.mails.length = k := ⟨_, rfl⟩
      rw [hml] at hpush hen ⊢
      have hbd : n + ml ≤ t := by have h9 := hsum.out; omega
      have HS2 : Hid ((n + ml) + leftSum (seen.push x.born) D.X = t) := by have h9 := hsum.out; show _ = _; omega
      have HR1 : Hid (RangeX w1 M w.heap.size D.X (seen.push x.born)) := hrg1
      have HB1 : Hid (Below w.heap.size w w1) := hbw.out.trans hb1
      have HL1 : Hid (w.heap.size < w1.heap.size) := by have h9 := hlt.out; show _ < _; omega
      have HLT : Hid (w1.rangeLeft M w.heap.size < wr.rangeLeft M w.heap.size) := hlt1
      clear hpush hsum hrg1 hb1 hbw hlt hml hlt1 hs1
      go_wp2_with fail
      go_roundw
      case rel => exact ⟨_, n + ml, by simp, hbd, HR1.out.later ((Below.refl _ _).alloc (Nat.le_refl _) _), HS2.out, HB1.out.alloc HB1.out.size _, by have h9 := HL1.out; show _ < (w1.alloc _).heap.size; simp; omega⟩
      case measure => rw [(HR1.out.later ((Below.refl _ _).alloc (Nat.le_refl _) _)).left, ← HR1.out.left]; exact HLT.out
def takeAll (nx : Int) (u : ByteArray) : SM → List PM → Option SM
  | S, [] => some S
  | S, p :: L => (takeM nx u S p).bind fun S' => takeAll nx u S' L
abbrev S0 : SM := ⟨[], ⟨#[]⟩, []⟩
def layF (nx : Int) (u : ByteArray) (S : SM) (L : List PM) : Bool := match takeAll nx u S L with
  | some S' => (lookF inboxT S'.fs).isSome && decide (sumF S'.fs ≤ 6)
  | none => false
theorem sum_new {g : FM} : ∀ {fs : List FM}, sumF (putF g fs) ≤ sumF fs + g.mails.length
  | [] => by simp [putF, sumF]
  | f :: fs => by
    have ih := sum_new (g := g) (fs := fs)
    unfold putF
    split
    · unfold sumF; omega
    · unfold sumF; omega
theorem sum_old {f g : FM} : ∀ {fs : List FM}, lookF g.name fs = some f → sumF (putF g fs) + f.mails.length = sumF fs + g.mails.length
  | [], h => by cases h
  | x :: fs, h => by
    unfold lookF at h
    unfold putF
    by_cases e : x.name = g.name
    · rw [if_pos e] at h
      cases h
      rw [if_pos e]
      unfold sumF; omega
    · rw [if_neg e] at h
      rw [if_neg e]
      have ih := sum_old h
      unfold sumF; omega
theorem put_sum {S S' : SM} {o : Option FM} (h : putM S o = some S') (ho : ∀ g, o = some g → sumF (putF g S.fs) ≤ sumF S.fs + 1) : sumF S'.fs ≤ sumF S.fs + 1 := by
  unfold putM at h
  obtain ⟨g, rfl, rfl⟩ := Option.map_eq_some_iff.1 h
  exact ho g rfl
theorem aside_sum {S S' : SM} {p : PM} (h : asideM S p = some S') : sumF S'.fs ≤ sumF S.fs + 1 := by
  cases h
  show sumF S.fs ≤ _
  omega
theorem takeM_sum {nx : Int} {u : ByteArray} {S S' : SM} {p : PM} (h : takeM nx u S p = some S') : sumF S'.fs ≤ sumF S.fs + 1 := by
  unfold takeM takeP at h
  split at h
  · split at h
    · unfold userM at h
      split at h
      · cases h
        show sumF S.fs ≤ _
        omega
      · cases h
    · exact aside_sum h
  · split at h
    · refine put_sum h fun g hg => ?_
      have h1 := folderM_facts hg
      have h2 := sum_new (g := g) (fs := S.fs)
      omega
    · exact aside_sum h
  · split at h
    · refine put_sum h fun g hg => ?_
      unfold mailM at hg
      obtain ⟨f, h1, h2⟩ := Option.bind_eq_some_iff.1 hg
      obtain ⟨un, _, _, _, _, _, _, _, _, rfl⟩ := mailO_some h2
      have h3 := (lookF_mem h1).2
      rw [← h3] at h1
      have h4 := sum_old (g := mailU f un p.2) h1
      have h5 : (mailU f un p.2).mails.length = f.mails.length + 1 := List.length_append
      rw [h5] at h4
      omega
    · exact aside_sum h
  · exact aside_sum h
theorem lay_next {nx : Int} {u : ByteArray} {S : SM} {L : List PM} {k : Nat} (hk : k < L.length) : takeAll nx u S (L.drop k) = (takeM nx u S (L.getD k p0)).bind fun S' => takeAll nx u S' (L.drop (k + 1)) := by
  rw [List.drop_eq_getElem_cons hk, List.getD_eq_getElem?_getD, List.getElem?_eq_getElem hk]
  rfl
set_option maxHeartbeats 2000000 in
theorem layI (u : ByteArray) (w : World) (M : Nat) (a : Option Addr) (n c : Nat) (va : Value) (asd : List PM) (nx : Int) (u0 wd0 : ByteArray) (X : List FX) (L : List PM) (hD : DeskAt w M ⟨a, n, c, va, asd, nx, u0, wd0, X⟩) (hL : L.length = n) (hGL : GoodL L) (hsrc : ∀ w', Below M w w' → Src w' a (cellsP L)) (hg : Gl w) (h8 : 8 ≤ M) (hu : u.size ≤ 1000) (hnx : 1 ≤ nx ∧ nx ≤ 10000) (bb : Bool) (HB : Hid (layF nx u S0 L = bb)) :
    Calls Tryz.prog 62 #[.pointer (some ⟨M + 1, 0, none⟩), .string u] w fun e w' => e = .returned (.bool bb) ∧ (∀ S, takeAll nx u S0 L = some S → StAt w' M a n c nx u S n ∧ sumF S.fs ≤ n) ∧ Below M w w' := by
  obtain ⟨hbox, ⟨clock, hmap⟩, _, _⟩ := hD
  obtain ⟨e5, _⟩ := hbox 5 _ rfl
  have hM1 : M + 1 < w.heap.size := World.block_lt_of_cell? _ _ e5
  have hcl := run_clear (w := w) (M := M) hmap.1
  have HW1 : Below M w (setBlock w M (.map #[] clock)) := sb_below _ _ _
  have hb1 := box_sb hbox (.map #[] clock) (B := M + 1) (M := M) (by omega)
  have hm1 : MapIs (setBlock w M (.map #[] clock)) M clock [] := ⟨sb_same _ _ _ (by omega), fun x hx => (by cases hx), List.nodup_nil⟩
  have hn60 : n ≤ 60 := by rw [← hL]; exact hGL.1
  obtain ⟨W1, hW1⟩ : ∃ W, setBlock w M (.map #[] clock) = W := ⟨_, rfl⟩
  rw [hW1] at HW1 hb1 hm1
  simp only [hW1] at hcl
  have bx3 := hb1.set 3 (.string u)
  have bx4 := bx3.set 4 (.string ⟨#[]⟩)
  have bx1 := bx4.set 1 (.slice none 0 0)
  obtain ⟨W2, hW2⟩ : ∃ W, ((W1.setCell ⟨M + 1, 3, none⟩ (.string u)).setCell ⟨M + 1, 4, none⟩ (.string ⟨#[]⟩)).setCell ⟨M + 1, 1, none⟩ (.slice none 0 0) = W := ⟨_, rfl⟩
  have HB2 : Hid (Below M w W2) := by
    rw [← hW2]
    exact ((HW1.setCell (by show M ≤ M + 1; omega) _).setCell (by show M ≤ M + 1; omega) _).setCell (by show M ≤ M + 1; omega) _
  have HS2 : Hid (StAt W2 M a n c nx u S0 0) := by
    refine ⟨.slice none 0 0, [], ⟨?_, ⟨clock, ?_⟩, World.ownsRow_nil _ _ _ _, fun x hx => (by cases hx), List.Pairwise.nil⟩, rfl, List.nodup_nil, fun f hf => (by cases hf), Nat.le_refl _⟩
    · rw [← hW2]; exact bx1
    · rw [← hW2]
      exact ((hm1.setCell _ _ (by show M ≠ M + 1; omega)).setCell _ _ (by show M ≠ M + 1; omega)).setCell _ _ (by show M ≠ M + 1; omega)
  obtain ⟨d3, f3⟩ := hb1 3 _ rfl
  obtain ⟨d4, f4⟩ := bx3 4 _ rfl
  obtain ⟨d1, f1⟩ := bx4 1 _ rfl
  obtain ⟨d0, _⟩ := bx1 0 _ rfl
  rw [hW2] at d0
  have HSRC : Hid (∀ w', Below M w w' → Src w' a (cellsP L)) := hsrc
  have HG : Hid (Gl w) := hg
  have HL : Hid (L.length = n) := hL
  have HGL : Hid (GoodL L) := hGL
  have HTA : Hid (takeAll nx u S0 (L.drop 0) = takeAll nx u S0 L) := rfl
  clear hsrc hg hL hGL hbox hmap HW1 hm1 bx3 bx4 bx1 hb1 hW1
  go_enter Tryz.func62, Tryz.ntmps62
  go_upto_region 3 with fail
  try rw [hW2]
  clear hcl hW2 d3 f3 d4 f4 d1 f1 e5
  go_wp2_with fail
  go_loopw [26] (fun iv wr => ∃ (k : Nat) (S : SM), k ≤ n ∧ iv = .int .i64 (k : Int) ∧ Hid (takeAll nx u S (L.drop k) = takeAll nx u S0 L) ∧ Hid (StAt wr M a n c nx u S k) ∧ Hid (sumF S.fs ≤ k) ∧ Hid (Below M w wr)) (fun i _ => n - (RowKit.intOf i).toNat)
  case atStart => exact ⟨0, S0, by omega, rfl, HTA.out, HS2.out, Nat.le_refl _, HB2.out⟩
  case round =>
    obtain ⟨k, S, hk, rfl, hta, hst, hsm, hbr⟩ := hrel
    by_cases hlt : k < n
    · have hlti : (k : Int) < (n : Int) := by omega
      have hkL : k < L.length := by rw [HL.out]; exact hlt
      obtain ⟨b, o, pk, pv, rfl, hc0, hc1, hy⟩ := srcP (HSRC.out _ hbr.out) hkL
      have hmem : (pk, pv) ∈ L := by rw [← hy.out]; exact mem_getD L p0 k hkL
      have hsz := HGL.out.2.1 _ hmem
      have hs1 : pk.size ≤ 30 := hsz.2.1
      have hs2 : pv.size ≤ 90 := hsz.2.2
      have HTN : Hid (((takeM nx u S (pk, pv)).bind fun S' => takeAll nx u S' (L.drop (k + 1))) = takeAll nx u S0 L) := by
        show _ = _
        rw [← hta.out, lay_next hkL, hy.out]
      clear hta hmem hsz hkL
      have hMr : M + 1 < wr.heap.size := by obtain ⟨_, _, h9, _⟩ := hst.out; exact World.block_lt_of_cell? _ _ (h9.1 0 _ rfl).1
      have X0 : Hid (Box (wr.alloc (.cells #[.string pk, .string pv] 68)) wr.heap.size [.string pk, .string pv]) := Box.new rfl
      have B2 : Hid (Below M w (wr.alloc (.cells #[.string pk, .string pv] 68))) := hbr.out.alloc (by omega) _
      have ST2 : Hid (StAt (wr.alloc (.cells #[.string pk, .string pv] 68)) M (some ⟨b, o, none⟩) n c nx u S k) := hst.out.later ((Below.refl _ _).alloc (Nat.le_refl _) _)
      obtain ⟨p0', _⟩ := X0.out 0 _ rfl
      obtain ⟨p1', _⟩ := X0.out 1 _ rfl
      obtain ⟨tb, htb⟩ : ∃ x, (takeM nx u S (pk, pv)).isSome = x := ⟨_, rfl⟩
      have CT := takeI pk pv (wr.alloc (.cells #[.string pk, .string pv] 68)) M _ n c nx u S k ST2.out (by omega) (HG.out.below h8 B2.out) h8 hs1 hs2 hu hnx tb htb
      clear hst
      go_wp2_with fail
      refine CT.mono ?_
      rintro e w5 ⟨rfl, hS5, hb5⟩
      have B5 : Hid (Below M w w5) := B2.out.trans hb5
      have S5 : Hid (∀ S', takeM nx u S (pk, pv) = some S' → StAt w5 M (some ⟨b, o, none⟩) n c nx u S' (k + 1)) := hS5
      clear hS5 hb5 X0 p0' p1' CT
      cases tb with
      | false =>
        have hno : takeM nx u S (pk, pv) = none := Option.isSome_eq_false_iff.1 htb |> Option.isNone_iff_eq_none.1
        have HN : Hid (takeAll nx u S0 L = none) := by show _ = _; rw [← HTN.out, hno]; rfl
        have HZ : Hid (false = bb) := by show _ = _; rw [← HB.out]; unfold layF; rw [HN.out]
        clear hno htb
        go_wp2_with fail
        go_ret
        exact ⟨ret_bool HZ.out, (fun S h9 => by rw [HN.out] at h9; cases h9), B5.out⟩
      | true =>
        obtain ⟨S', hS'⟩ := Option.isSome_iff_exists.1 htb
        have HN : Hid (takeAll nx u S' (L.drop (k + 1)) = takeAll nx u S0 L) := by show _ = _; rw [← HTN.out, hS']; rfl
        have HS' : Hid (StAt w5 M (some ⟨b, o, none⟩) n c nx u S' (k + 1)) := S5.out S' hS'
        have HSM : Hid (sumF S'.fs ≤ k + 1) := by have h9 := takeM_sum hS'; have h7 := hsm.out; show _ ≤ _; omega
        clear hS' htb S5
        go_wp2_with fail
        exact ⟨⟨k + 1, S', by omega, by go_num, HN.out, HS'.out, HSM.out, B5.out⟩, by simp [RowKit.intOf]; omega⟩
    · obtain rfl : k = n := by omega
      have hlti : ¬ (k : Int) < (k : Int) := by omega
      have HN : Hid (takeAll nx u S0 L = some S) := by
        show _ = _
        rw [← hta.out, List.drop_of_length_le (by rw [HL.out]; exact Nat.le_refl _)]
        rfl
      clear hta
      have HB9 : Hid (((lookF inboxT S.fs).isSome && decide (sumF S.fs ≤ 6)) = bb) := by show _ = _; rw [← HB.out]; unfold layF; rw [HN.out]
      have HEND : Hid (∀ W, Below wr.heap.size wr W → (∀ S9, takeAll nx u S0 L = some S9 → StAt W M a k c nx u S9 k ∧ sumF S9.fs ≤ k) ∧ Below M w W) := fun W hW => by
        refine ⟨fun S9 h9 => ?_, hbr.out.trans (hW.mono (by have := hbr.out.size; omega))⟩
        rw [HN.out] at h9
        cases h9
        exact ⟨hst.out.later hW, hsm.out⟩
      obtain ⟨va', X', hD', hV', hN', hF', hA'⟩ := hst.out
      obtain ⟨ib, hib⟩ : ∃ x, (lookF inboxT S.fs).isSome = x := ⟨_, rfl⟩
      have CH := hasI inboxT wr M _ (by decide) (by show u.size ≤ 1048576; omega) hD' ib (hV'.some inboxT ib hib)
      have HD' : Hid (DeskAt wr M ⟨a, k, c, va', S.aside, nx, u, S.word, X'⟩) := hD'
      obtain ⟨t, ht⟩ : ∃ t, sumF S.fs = t := ⟨_, rfl⟩
      have HT : Hid (leftSum #[] X' = t) := by show _ = _; rw [sum_view hV', ht]
      have htk : t ≤ 60 := by have h9 := hsm.out; omega
      rw [hib, ht] at HB9
      clear hD' hV' hN' hF' hA' hst hsm hib ht
      cases ib with
      | false =>
        have HZ : Hid (false = bb) := HB9
        go_wp2_with fail
        refine CH.mono ?_
        rintro e w5 ⟨rfl, hb5⟩
        have HE := HEND.out _ hb5
        have HE2 : Hid (_ ∧ _) := HE
        clear HE hb5
        go_wp2_with fail
        go_ret
        exact ⟨ret_bool HZ.out, HE2.out.1, HE2.out.2⟩
      | true =>
        have HZ : Hid (decide (t ≤ 6) = bb) := HB9
        go_wp2_with fail
        refine CH.mono ?_
        rintro e w5 ⟨rfl, hb5⟩
        have H5 : Hid (Below wr.heap.size wr w5) := hb5
        have CM := mailsI w5 M _ (HD'.out.later hb5) t HT.out (by omega)
        clear hb5
        go_wp2_with fail
        refine CM.mono ?_
        rintro e w6 ⟨rfl, hb6⟩
        have HE := HEND.out _ (H5.out.trans (hb6.mono H5.out.size))
        have HE2 : Hid (_ ∧ _) := HE
        clear HE hb6
        by_cases h6 : t ≤ 6
        · have h6i : (t : Int) ≤ 6 := by omega
          rw [decide_eq_true h6] at HZ
          go_wp2_with fail
          go_ret
          exact ⟨ret_bool HZ.out, HE2.out.1, HE2.out.2⟩
        · have h6i : ¬ (t : Int) ≤ 6 := by omega
          rw [decide_eq_false h6] at HZ
          go_wp2_with fail
          go_ret
          exact ⟨ret_bool (by rw [decide_eq_false (by omega)]; exact HZ.out), HE2.out.1, HE2.out.2⟩
set_option maxHeartbeats 1000000 in
theorem heldI (a : Option Addr) (n c : Nat) (L : List PM) (key : ByteArray) (w : World) (hL : L.length = n) (hn : n ≤ 1048576) (hu : UpL L) (h : Src w a (cellsP L)) :
    Calls Tryz.prog 113 #[.slice a n c, .string key] w fun e w' => e = .returned (.agg #[.string ((getM L key).getD e0), .bool (getM L key).isSome]) ∧ Below w.heap.size w w' := by
  subst hL
  obtain ⟨p, hp⟩ := place_exists (fK L) key L.length
  obtain ⟨hm1, hm2⟩ := hit_get hu hp
  have HP : Hid (IsPlace (fK L) L.length key p) := hp
  have HS : Hid (Sp w a L.length (fK L) (fV L)) := sp_src h rfl
  have A0 : Hid (Below w.heap.size w (w.alloc (.cells #[.string ⟨#[]⟩, .bool false] 131))) := (Below.refl _ _).alloc (Nat.le_refl _) _
  obtain ⟨n, hn9⟩ : ∃ n, L.length = n := ⟨_, rfl⟩
  rw [hn9] at hn hm1 hm2 HP HS ⊢
  rw [← hm1, ← hm2]
  cases hh : hitB (fK L) n key p with
  | false =>
    have hm3 : gotV (fK L) (fV L) n key p = ⟨#[]⟩ := by unfold gotV; rw [hh]; rfl
    rw [hm3]
    have HT : Hid (hitB (fK L) n key p = false) := hh
    clear hm1 hm2 hm3 hh hp h hn9
    go_enter Tryz.func113, Tryz.ntmps113
    go_wp2_with fail
    refine (pairPlace a n c (fK L) (fV L) key p _ hn HP.out (HS.out.below A0.out)).mono ?_
    rintro e w1 ⟨rfl, hb1⟩
    rw [HT.out]
    have B1 : Hid (Below w.heap.size w w1) := A0.out.trans (hb1.mono A0.out.size)
    have X1 : Box w1 w.heap.size [.string ⟨#[]⟩, .bool false] := Box.below (Box.new rfl) hb1
    obtain ⟨p0, f0⟩ := X1 0 _ rfl
    obtain ⟨p1, f1⟩ := (X1.set 0 (.string ⟨#[]⟩)) 1 _ rfl
    have X3 := (X1.set 0 (.string ⟨#[]⟩)).set 1 (.bool false)
    obtain ⟨r0, _⟩ := X3 0 _ rfl
    obtain ⟨r1, _⟩ := X3 1 _ rfl
    clear X3 X1 hb1
    have B3 : Hid (Below w.heap.size w ((w1.setCell ⟨w.heap.size, 0, none⟩ (.string ⟨#[]⟩)).setCell ⟨w.heap.size, 1, none⟩ (.bool false))) := (B1.out.setCell (Nat.le_refl _) _).setCell (Nat.le_refl _) _
    go_wp2_with fail
    exact bodyPost_ret (v := .agg #[.string ⟨#[]⟩, .bool false]) (by simp [results, Tryz.results113, go_sem, r0, r1]) rfl ⟨rfl, B3.out⟩
  | true =>
    have hm3 : gotV (fK L) (fV L) n key p = fV L p := by unfold gotV; rw [hh]; rfl
    rw [hm3]
    have HT : Hid (hitB (fK L) n key p = true) := hh
    have hlt : p < n := by unfold hitB at hh; simp at hh; exact hh.1
    have hpi : (p : Int) < (n : Int) := by omega
    have hp0 : (0 : Int) ≤ (p : Int) := by omega
    obtain ⟨x, hx⟩ : ∃ x, fV L p = x := ⟨_, rfl⟩
    have HX : Hid (fV L p = x) := hx
    obtain ⟨b, o, rfl⟩ : ∃ b o, a = some ⟨b, o, none⟩ := by
      rcases HS.out with h0 | ⟨b, o, e, _⟩
      · omega
      · exact ⟨b, o, e⟩
    rw [hx]
    clear hm1 hm2 hm3 hh hp h hn9 hx
    go_enter Tryz.func113, Tryz.ntmps113
    go_wp2_with fail
    refine (pairPlace _ n c (fK L) (fV L) key p _ hn HP.out (HS.out.below A0.out)).mono ?_
    rintro e w1 ⟨rfl, hb1⟩
    rw [HT.out]
    have B1 : Hid (Below w.heap.size w w1) := A0.out.trans (hb1.mono A0.out.size)
    have hc : w1.cell? ⟨b, o + p * 2 + 1, none⟩ = some (.string x) := by
      rcases HS.out.below B1.out with h0 | ⟨b', o', e, hcc⟩
      · omega
      · cases e
        rw [← HX.out]
        exact (hcc p hlt).2
    have X1 : Box w1 w.heap.size [.string ⟨#[]⟩, .bool false] := Box.below (Box.new rfl) hb1
    obtain ⟨p0, f0⟩ := X1 0 _ rfl
    obtain ⟨p1, f1⟩ := (X1.set 0 (.string x)) 1 _ rfl
    have X3 := (X1.set 0 (.string x)).set 1 (.bool true)
    obtain ⟨r0, _⟩ := X3 0 _ rfl
    obtain ⟨r1, _⟩ := X3 1 _ rfl
    clear X3 X1 hb1
    have B3 : Hid (Below w.heap.size w ((w1.setCell ⟨w.heap.size, 0, none⟩ (.string x)).setCell ⟨w.heap.size, 1, none⟩ (.bool true))) := (B1.out.setCell (Nat.le_refl _) _).setCell (Nat.le_refl _) _
    go_wp2_with fail
    exact bodyPost_ret (v := .agg #[.string x, .bool true]) (by simp [results, Tryz.results113, go_sem, r0, r1]) rfl ⟨rfl, B3.out⟩
set_option maxHeartbeats 1000000 in
theorem deskI (a : Option Addr) (n c : Nat) (L : List PM) (w : World) (hL : L.length = n) (hg : GoodL L) (h : Src w a (cellsP L)) (hG : Gl w) (h8 : 8 ≤ w.heap.size) (bb : Bool) (HB : Hid (inB (numB ((getM L vK).getD e0).data.toList) 1 10000 = bb)) :
    Calls Tryz.prog 59 #[.slice a n c] w fun e w' => ∃ (nx : Int) (M : Nat), e = .returned (.tuple #[.pointer (some ⟨M + 1, 0, none⟩), .bool bb]) ∧ NumPost (numB ((getM L vK).getD e0).data.toList) nx ∧ w.heap.size ≤ M ∧ DeskAt w' M ⟨a, n, c, .slice none 0 0, [], nx, ⟨#[]⟩, ⟨#[]⟩, []⟩ ∧ Below w.heap.size w w' := by
  have CH := heldI a n c L vK w hL (by have := hg.1; omega) hg.2.2 h
  have hz := getM_size hg vK
  obtain ⟨v, hv⟩ : ∃ v, (getM L vK).getD e0 = v := ⟨_, rfl⟩
  obtain ⟨v2, hv2⟩ : ∃ v, (getM L vK).isSome = v := ⟨_, rfl⟩
  rw [hv] at CH HB hz ⊢
  rw [hv2] at CH
  have hmm := @run_makeMap Tryz.prog
  have hfl : ∀ W, (Instr.field 131 (.agg #[.string v, .bool v2]) 0).run Tryz.prog W = .ok (.string v) W := fun W => by
    kernel_rfl
  have HG : Hid (Gl w) := hG
  clear hL hg h hv hv2 hG
  go_enter Tryz.func59, Tryz.ntmps59
  go_wp2_with fail
  refine CH.mono ?_
  rintro e w1 ⟨rfl, hb1⟩
  have B1 : Hid (Below w.heap.size w w1) := hb1
  have CN := numberWithinI v 1 10000 w1 (by omega) (HG.out.below h8 hb1) (by have := hb1.size; omega) bb HB
  clear hb1 CH
  go_wp2_with fail
  refine CN.mono ?_
  rintro e w2 ⟨nx, rfl, hnp, hb2⟩
  have B2 : Hid (Below w.heap.size w w2) := B1.out.trans (hb2.mono B1.out.size)
  have HN : Hid (NumPost (numB v.data.toList) nx) := hnp
  clear hb2 CN hnp
  go_wp2_with fail
  have A2 : Below (w2.alloc (.map #[] 0)).heap.size (w2.alloc (.map #[] 0)) ((w2.alloc (.map #[] 0)).alloc (.cells #[.slice a n c, .slice none 0 0, .int .i64 nx, .string ⟨#[]⟩, .string ⟨#[]⟩, .map (some w2.heap.size)] 88)) := (Below.refl _ _).alloc (Nat.le_refl _) _
  have hm : MapIs (w2.alloc (.map #[] 0)) w2.heap.size 0 [] := ⟨heap_alloc_new w2 _, fun x hx => (by cases hx), List.nodup_nil⟩
  refine bodyPost_ret (v := .tuple #[.pointer (some ⟨w2.heap.size + 1, 0, none⟩), .bool bb]) (by simp [results, Tryz.results59, go_sem]) rfl ?_
  exact ⟨nx, w2.heap.size, rfl, HN.out, B2.out.size, ⟨Box.new (by simp), ⟨0, hm.later A2⟩, World.ownsRow_nil _ _ _ _, fun x hx => (by cases hx), List.Pairwise.nil⟩, (B2.out.alloc B2.out.size _).alloc (by have := B2.out.size; simp; omega) _⟩
abbrev usersT : ByteArray := ⟨#[117, 47]⟩
def userN (pk : ByteArray) : ByteArray := ⟨(Lib.trimPrefix pk.data.toList [117, 47]).toArray⟩
def userI (pk : ByteArray) : Bool := Lib.hasPrefix pk.data.toList [117, 47]
def asideN (nx : Int) (u : ByteArray) (L : List PM) : Nat := ((takeAll nx u S0 L).map fun S => S.aside.length).getD 0
def knownM (nx : Int) (L0 : List PM) : Nat → List PM → Option Nat
  | t, [] => some t
  | t, p :: L => if userI p.1 = true then (if layF nx (userN p.1) S0 L0 = true then knownM nx L0 (t + (L0.length - asideN nx (userN p.1) L0)) L else none) else knownM nx L0 t L
def knownB (L : List PM) : Bool := match knownM (nextM L) L 1 L with
  | some t => decide (t = L.length)
  | none => false
def implB (L : List PM) : Bool := pairsB (fK L) (fV L) L.length && (inB (numB ((getM L vK).getD e0).data.toList) 1 10000 && knownB L)
theorem userN_size (pk : ByteArray) : (userN pk).size ≤ pk.size := by
  unfold userN
  show (Lib.trimPrefix pk.data.toList [117, 47]).toArray.size ≤ _
  rw [List.size_toArray]
  unfold Lib.trimPrefix
  split
  · rw [List.length_drop, bytes_len]; omega
  · rw [bytes_len]; exact Nat.le_refl _
theorem known_next {nx : Int} {L0 L : List PM} {t k : Nat} {pk pv : ByteArray} (hk : k < L.length) (h : L.getD k p0 = (pk, pv)) : knownM nx L0 t (L.drop k) = if userI pk = true then (if layF nx (userN pk) S0 L0 = true then knownM nx L0 (t + (L0.length - asideN nx (userN pk) L0)) (L.drop (k + 1)) else none) else knownM nx L0 t (L.drop (k + 1)) := by
  have h9 : L[k] = (pk, pv) := by
    rw [← h, List.getD_eq_getElem?_getD, List.getElem?_eq_getElem hk]
    rfl
  rw [List.drop_eq_getElem_cons hk, h9]
  rfl
theorem in_next {L : List PM} (h : inB (numB ((getM L vK).getD e0).data.toList) 1 10000 = true) {nx : Int} (hn : NumPost (numB ((getM L vK).getD e0).data.toList) nx) : nx = nextM L ∧ 1 ≤ nx ∧ nx ≤ 10000 := by
  unfold nextM
  cases hv : getM L vK with
  | none =>
    rw [hv] at h
    exact absurd h (by decide)
  | some v =>
    rw [hv] at h hn
    simp only [Option.getD_some, Option.bind_some] at h hn ⊢
    cases hm : numB v.data.toList with
    | none => rw [hm] at h; cases h
    | some m =>
      rw [hm] at h
      have h1 := hn m hm
      unfold inB at h
      simp only [Bool.and_eq_true, decide_eq_true_eq] at h
      exact ⟨h1, by omega, by omega⟩
set_option maxHeartbeats 4000000 in
theorem implMailStoreOK (a : Option Addr) (n c : Nat) (L : List PM) (w : World) (hL : L.length = n) (hn : n ≤ 1048576) (hs : ∀ x ∈ L, x.1.size ≤ 1048576 ∧ x.2.size ≤ 1048576) (h : Src w a (cellsP L)) (hG : Gl w) (h8 : 8 ≤ w.heap.size) (bb : Bool) (HB : Hid (implB L = bb)) :
    Calls Tryz.prog 21 #[.slice a n c] w fun e w' => e = .returned (.bool bb) ∧ Below w.heap.size w w' := by
  have CP := implPairsOK a n c (fK L) (fV L) w hn (fun i hi => by
    rw [(at_fst (show i < L.length by omega)).1, (at_fst (show i < L.length by omega)).2]
    exact hs _ (List.getElem_mem _)) (sp_src h hL)
  obtain ⟨pb, hpb⟩ : ∃ x, pairsB (fK L) (fV L) n = x := ⟨_, rfl⟩
  rw [hpb] at CP
  have HL : Hid (L.length = n) := hL
  have HS : Hid (Src w a (cellsP L)) := h
  have HG : Hid (Gl w) := hG
  have HB1 : Hid ((pb && (inB (numB ((getM L vK).getD e0).data.toList) 1 10000 && knownB L)) = bb) := by show _ = _; rw [← HB.out, ← hpb, ← hL]; rfl
  have HP : Hid (pairsB (fK L) (fV L) L.length = pb) := by show _ = _; rw [hL, hpb]
  clear hL hs h hG HB hpb
  cases pb with
  | false =>
    have HZ : Hid (false = bb) := HB1
    go_enter Tryz.func21, Tryz.ntmps21
    go_wp2_with fail
    refine CP.mono ?_
    rintro e w1 ⟨rfl, hb1⟩
    have B1 : Hid (Below w.heap.size w w1) := hb1
    clear hb1
    go_wp2_with fail
    go_ret
    exact ⟨ret_bool HZ.out, B1.out⟩
  | true =>
    have HGL : Hid (GoodL L) := good_of HP.out
    have hn60 : n ≤ 60 := by rw [← HL.out]; exact HGL.out.1
    obtain ⟨ib, hib⟩ : ∃ x, inB (numB ((getM L vK).getD e0).data.toList) 1 10000 = x := ⟨_, rfl⟩
    have HIB : Hid (inB (numB ((getM L vK).getD e0).data.toList) 1 10000 = ib) := hib
    have HB2 : Hid ((ib && knownB L) = bb) := by show _ = _; rw [← hib]; exact HB1.out
    clear hib HB1
    go_enter Tryz.func21, Tryz.ntmps21
    go_wp2_with fail
    refine CP.mono ?_
    rintro e w1 ⟨rfl, hb1⟩
    have B1 : Hid (Below w.heap.size w w1) := hb1
    have CD := deskI a n c L w1 HL.out HGL.out (HS.out.below hb1) (HG.out.below h8 hb1) (by have := hb1.size; omega) ib HIB
    clear hb1 CP
    go_wp2_with fail
    refine CD.mono ?_
    rintro e w2 ⟨nx, M, rfl, hnp, hM, hdk, hb2⟩
    have B2 : Hid (Below w.heap.size w w2) := B1.out.trans (hb2.mono B1.out.size)
    have hMw : w.heap.size ≤ M := by have := B1.out.size; omega
    have HDK : Hid (DeskAt w2 M ⟨a, n, c, .slice none 0 0, [], nx, ⟨#[]⟩, ⟨#[]⟩, []⟩) := hdk
    have HNP : Hid (NumPost (numB ((getM L vK).getD e0).data.toList) nx) := hnp
    clear hb2 CD hnp hM hdk
    cases ib with
    | false =>
      have HZ : Hid (false = bb) := HB2
      go_wp2_with fail
      go_ret
      exact ⟨ret_bool HZ.out, B2.out⟩
    | true =>
      obtain ⟨hnx, hnx1⟩ := in_next HIB.out HNP.out
      have HZ : Hid (knownB L = bb) := HB2
      have HK0 : Hid (knownM nx L 1 (L.drop 0) = knownM nx L 1 L) := rfl
      have HNX : Hid (nx = nextM L) := hnx
      clear hnx HIB HNP HB2
      go_wp2_with fail
      go_loopw [5, 22] (fun kv iv wr => ∃ (k t : Nat) (va : Value) (asd : List PM) (u0 wd0 : ByteArray) (X : List FX), k ≤ n ∧ iv = .int .i64 (k : Int) ∧ kv = .int .i64 (t : Int) ∧ t ≤ 1 + 60 * k ∧ Hid (knownM nx L t (L.drop k) = knownM nx L 1 L) ∧ Hid (DeskAt wr M ⟨a, n, c, va, asd, nx, u0, wd0, X⟩) ∧ Hid (Below w.heap.size w wr)) (fun _ i _ => n - (RowKit.intOf i).toNat)
      case atStart => exact ⟨0, 1, _, _, _, _, _, by omega, rfl, rfl, by omega, HK0.out, HDK.out, B2.out⟩
      case round =>
        obtain ⟨k, t, va, asd, u0, wd0, X, hk, rfl, rfl, ht, hkn, hdk, hbr⟩ := hrel
        by_cases hlt : k < n
        · have hlti : (k : Int) < (n : Int) := by omega
          have hkL : k < L.length := by rw [HL.out]; exact hlt
          obtain ⟨b, o, pk, pv, rfl, hc0, hc1, hy⟩ := srcP (HS.out.below hbr.out) hkL
          have hmem : (pk, pv) ∈ L := by rw [← hy.out]; exact mem_getD L p0 k hkL
          have hsz := HGL.out.2.1 _ hmem
          have hs1 : pk.size ≤ 30 := hsz.2.1
          have hKN := hkn.out
          rw [known_next hkL hy.out] at hKN
          have hus := userN_size pk
          obtain ⟨U, hU⟩ : ∃ U, userN pk = U := ⟨_, rfl⟩
          obtain ⟨ub, hub⟩ : ∃ x, userI pk = x := ⟨_, rfl⟩
          have CC : ∀ W, Calls Tryz.prog 60 #[.string pk, .string usersT] W fun e w' => e = .returned (.tuple #[.string U, .bool ub]) ∧ w' = W := fun W => by
            rw [← hU, ← hub]
            exact Tryz.strings_CutPrefix pk usersT W
          rw [hU] at hKN hus
          rw [hub] at hKN
          have HKN : Hid ((if ub = true then (if layF nx U S0 L = true then knownM nx L (t + (L.length - asideN nx U L)) (L.drop (k + 1)) else none) else knownM nx L t (L.drop (k + 1))) = knownM nx L 1 L) := hKN
          have HUS : Hid (U.size ≤ 30) := by show _ ≤ _; omega
          clear hkn hmem hsz hkL hKN hU hub hus
          have hMr : M + 1 < wr.heap.size := World.block_lt_of_cell? _ _ (hdk.out.1 0 _ rfl).1
          have X0 : Hid (Box (wr.alloc (.cells #[.string pk, .string pv] 68)) wr.heap.size [.string pk, .string pv]) := Box.new rfl
          have AL : Hid (Below wr.heap.size wr (wr.alloc (.cells #[.string pk, .string pv] 68))) := (Below.refl _ _).alloc (Nat.le_refl _) _
          have P1 : Hid ((wr.alloc (.cells #[.string pk, .string pv] 68)).cell? ⟨wr.heap.size, 0, none⟩ = some (.string pk)) := (X0.out 0 _ rfl).1
          go_upto_region 10 with fail
          refine wp_region_noPanic ?_
          refine wp_region_held_drew (S := fun w' => w'.cell? ⟨wr.heap.size, 0, none⟩ = some (.string pk)) (by kernel_rfl) P1.out (fun hHeld => ?_)
          refine tkA (i := 0) (v := .pointer (some ⟨wr.heap.size, 0, none⟩)) ?_ hHeld ?_
          · intro w9 hSw
            go_simp
          simp only [Act.put, List.setIfInBounds_toArray, List.set_cons_zero, List.set_cons_succ]
          refine tkA (i := 1) (v := .string pk) ?_ hHeld ?_
          · intro w9 hSw
            go_simp
          simp only [Act.put, List.setIfInBounds_toArray, List.set_cons_zero, List.set_cons_succ]
          refine wpAnyH_ready (rs := [2]) (by kernel_rfl) (by simp) ?_
          refine AllReadyH.cons rfl (fun K hK => ?_) AllReadyH.nil
          go_simp
          refine (userKeyI ⟨#[]⟩ _ (by decide)).mono ?_
          rintro e w3 ⟨rfl, hw3⟩
          obtain rfl := hw3
          dsimp only
          refine hK _ _ P1.out (fun hHeld => ?_)
          clear hK K
          refine wpAnyH_ready (rs := [3]) (by kernel_rfl) (by simp) ?_
          refine AllReadyH.cons rfl (fun K hK => ?_) AllReadyH.nil
          go_simp
          refine (CC _).mono ?_
          rintro e w4 ⟨rfl, hw4⟩
          obtain rfl := hw4
          dsimp only
          refine hK _ _ P1.out (fun hHeld => ?_)
          clear hK K
          refine tkA (i := 4) (v := .tuple #[.string U, .bool ub]) ?_ hHeld ?_
          · intro w9 hSw
            go_simp
          simp only [Act.put, List.setIfInBounds_toArray, List.set_cons_zero, List.set_cons_succ]
          refine tkA (i := 5) (v := .string U) ?_ hHeld ?_
          · intro w9 hSw
            go_simp
          simp only [Act.put, List.setIfInBounds_toArray, List.set_cons_zero, List.set_cons_succ]
          refine tkA (i := 6) (v := .bool ub) ?_ hHeld ?_
          · intro w9 hSw
            go_simp
          simp only [Act.put, List.setIfInBounds_toArray, List.set_cons_zero, List.set_cons_succ]
          refine wpAnyH_ready (rs := [7]) (by kernel_rfl) (by simp) ?_
          refine AllReadyH.cons rfl (fun K hK => ?_) AllReadyH.nil
          go_simp
          refine hK _ _ P1.out (fun hHeld => ?_)
          clear hK K
          refine wpAnyH_ready (rs := [8]) (by kernel_rfl) (by simp) ?_
          refine AllReadyH.cons rfl (fun K hK => ?_) AllReadyH.nil
          go_simp
          refine hK _ _ P1.out (fun hHeld => ?_)
          clear hK K
          refine wpAnyH_done (by kernel_rfl) ?_ _
          refine NoPanic.normal ?_
          clear hHeld
          have AL2 : Hid (Below wr.heap.size wr (wr.alloc (.cells #[.string pk, .string pv] 68)).drew) := AL.out.drew
          have D4 : Hid (DeskAt (wr.alloc (.cells #[.string pk, .string pv] 68)).drew M ⟨_, n, c, va, asd, nx, u0, wd0, X⟩) := hdk.out.later AL2.out
          have B4 : Hid (Below w.heap.size w (wr.alloc (.cells #[.string pk, .string pv] 68)).drew) := hbr.out.trans (AL2.out.mono hbr.out.size)
          clear X0 P1 AL hdk CC
          cases ub with
          | false =>
            have HK2 : Hid (knownM nx L t (L.drop (k + 1)) = knownM nx L 1 L) := HKN
            clear HKN
            go_wp2_with fail
            exact ⟨⟨k + 1, t, va, asd, u0, wd0, X, by omega, by go_num, rfl, by omega, HK2.out, D4.out, B4.out⟩, by simp [RowKit.intOf]; omega⟩
          | true =>
            obtain ⟨lb, hlb⟩ : ∃ x, layF nx U S0 L = x := ⟨_, rfl⟩
            have HK2 : Hid ((if lb = true then knownM nx L (t + (L.length - asideN nx U L)) (L.drop (k + 1)) else none) = knownM nx L 1 L) := by show _ = _; rw [← hlb]; exact HKN.out
            have HLB : Hid (layF nx U S0 L = lb) := hlb
            have CL := layI U _ M _ n c va asd nx u0 wd0 X L D4.out HL.out HGL.out (fun W hW => HS.out.below (B4.out.trans (hW.mono hMw))) (HG.out.below h8 B4.out) (by omega) (by have := HUS.out; omega) hnx1 lb HLB
            clear HKN hlb
            go_wp2_with fail
            refine CL.mono ?_
            rintro e w5 ⟨rfl, hst, hb5⟩
            have B5 : Hid (Below w.heap.size w w5) := B4.out.trans (hb5.mono hMw)
            clear hb5 CL D4 B4
            cases lb with
            | false =>
              have HN : Hid (knownM nx L 1 L = none) := HK2.out.symm
              have HZ2 : Hid (false = bb) := by show _ = _; rw [← HZ.out]; unfold knownB; rw [← HNX.out, HN.out]
              clear hst HK2
              go_wp2_with fail
              go_ret
              exact ⟨ret_bool HZ2.out, B5.out⟩
            | true =>
              obtain ⟨S, hS⟩ : ∃ S, takeAll nx U S0 L = some S := by
                have h9 := HLB.out
                unfold layF at h9
                split at h9
                · rename_i S h7
                  exact ⟨S, h7⟩
                · cases h9
              obtain ⟨⟨va', X', hD', hV', hN', hF', hA'⟩, _⟩ := hst S hS
              have HAS : Hid (asideN nx U L = S.aside.length) := by show _ = _; unfold asideN; rw [hS]; rfl
              obtain ⟨av, cv, hva, _, _⟩ := own_src hD'.2.2.1
              simp only at hva
              obtain ⟨m, hm⟩ : ∃ m, S.aside.length = m := ⟨_, rfl⟩
              rw [hm] at hva hA' HAS
              subst hva
              have HD5 : Hid (DeskAt w5 M ⟨_, n, c, .slice av m cv, S.aside, nx, U, S.word, X'⟩) := hD'
              obtain ⟨e1, _⟩ := hD'.1 1 _ rfl
              have HK3 : Hid (knownM nx L (t + (n - m)) (L.drop (k + 1)) = knownM nx L 1 L) := by
                show _ = _
                rw [← HK2.out, HAS.out, HL.out]
                rfl
              have e9 : (t : Int) + ((n : Int) - (m : Int)) = ((t + (n - m) : Nat) : Int) := by omega
              clear hst hS hD' hV' hN' hF' HK2 HAS hm
              go_wp2_with fail
              exact ⟨⟨k + 1, t + (n - m), _, _, _, _, _, by omega, by go_num, by go_num, by omega, HK3.out, HD5.out, B5.out⟩, by simp [RowKit.intOf]; omega⟩
        · obtain rfl : k = n := by omega
          have hlti : ¬ (k : Int) < (k : Int) := by omega
          have HN : Hid (knownM nx L 1 L = some t) := by
            show _ = _
            rw [← hkn.out, List.drop_of_length_le (by rw [HL.out]; exact Nat.le_refl _)]
            rfl
          have HZ2 : Hid (decide (t = k) = bb) := by show _ = _; rw [← HZ.out]; unfold knownB; rw [← HNX.out, HN.out, HL.out]
          clear hkn
          by_cases htk : t = k
          · subst htk
            rw [decide_eq_true rfl] at HZ2
            go_wp2_with fail
            go_ret
            exact ⟨ret_bool HZ2.out, hbr.out⟩
          · rw [decide_eq_false htk] at HZ2
            have htki : ¬ (t : Int) = (k : Int) := by omega
            have htkb : ((t : Int) == (k : Int)) = false := beq_eq_false_iff_ne.2 htki
            go_wp2_with fail
            go_ret
            exact ⟨ret_bool HZ2.out, hbr.out⟩
end Go.Proofs.YthgbclipknfmjaaGreatDoor
