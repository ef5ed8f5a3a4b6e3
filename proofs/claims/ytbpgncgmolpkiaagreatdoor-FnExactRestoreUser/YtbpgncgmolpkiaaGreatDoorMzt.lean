/-
  Pux Lie Rsp Rse Rsi Rsf in one. By an AI agent.
-/
import Derived.Test.YtbpgncgmolpkiaaGreatDoorMzb
import Derived.Test.YtbpgncgmolpkiaaGreatDoorMzr
namespace Go.Proofs.YtbpgncgmolpkiaaGreatDoor
open Go.ChangeShapes Go.WideShapes Go.ChangeAt Go.RowKit Go.Deep Go.Lib
open Go.ChangeMaps (setBlock)
set_option linter.unusedVariables false
set_option linter.unusedSimpArgs false
set_option maxRecDepth 100000

/-- A block's kind. -/
def KindAt (w : World) (B t : Nat) : Prop := ∃ c f, w.heap[B]? = some (.cells c t f)
theorem kind_set {w : World} {B t : Nat} (h : KindAt w B t) (a : Addr) (v : Value) : KindAt (w.setCell a v) B t := by
  obtain ⟨c, f, h⟩ := h
  by_cases e : B = a.block
  · subst e
    refine ⟨if a.spot.isSome then c else c.setIfInBounds a.off v, f, ?_⟩
    show (w.heap.modify a.block _)[a.block]? = _
    rw [Array.getElem?_modify, if_pos rfl, h]
    rfl
  · exact ⟨c, f, (Below.heap_setCell _ _ _ _ e).trans h⟩
theorem kind_below {w w' : World} {B t : Nat} (h : KindAt w B t) (hb : Below w.heap.size w w') : KindAt w' B t := by
  obtain ⟨c, f, h⟩ := h
  have h1 : B < w.heap.size := by
    rcases Nat.lt_or_ge B w.heap.size with h1 | h1
    · exact h1
    · rw [Array.getElem?_eq_none h1] at h
      cases h
  exact ⟨c, f, (hb.block B h1).trans h⟩
/-- All but a desk's own two blocks stays. -/
def Keep (M : Nat) (w w' : World) : Prop := ∀ B, B < w.heap.size → B ≠ M → B ≠ M + 1 → w'.heap[B]? = w.heap[B]?
theorem Keep.of_below {M : Nat} {w w' : World} (h : Below w.heap.size w w') : Keep M w w' := fun B hB _ _ => h.block B hB
theorem Keep.trans {M : Nat} {a b c : World} (h : Keep M a b) (hs : a.heap.size ≤ b.heap.size) (k : Keep M b c) : Keep M a c := fun B hB h1 h2 => (k B (by omega) h1 h2).trans (h B hB h1 h2)
theorem Keep.next {M : Nat} {a b c : World} (h : Keep M a b) (hs : a.heap.size ≤ b.heap.size) (hb : Below b.heap.size b c) : Keep M a c := h.trans hs (Keep.of_below hb)
theorem Keep.setCell {M : Nat} {a b : World} (h : Keep M a b) (p : Addr) (hp : a.heap.size ≤ p.block) (v : Value) : Keep M a (b.setCell p v) := fun B hB h1 h2 => (Below.heap_setCell _ _ _ _ (by omega)).trans (h B hB h1 h2)
set_option maxHeartbeats 2000000 in
theorem putX (y : FX) (nm : ByteArray) (vl nx : Int) (ay : Option Addr) (ny cy : Nat) (w : World) (M : Nat) (D : DK) (hy : y = ⟨folderK D.user nm, 0, nm, vl, nx, .slice ay ny cy, y.mails⟩) (hf : nm.size ≤ 1048576) (hu : D.user.size ≤ 1048576) (hD : DeskH w M D) (hR : ∀ clock, Rows w M (setX y clock D.X)) :
    Calls Tryz.prog 40 #[.pointer (some ⟨M + 1, 0, none⟩), .agg #[.string nm, .int .i64 vl, .int .i64 nx, .slice ay ny cy]] w fun e w' => e = .returned (.tuple #[]) ∧ (∃ clock, DeskAt w' M { D with X := setX y clock D.X }) ∧ Below M w w' ∧ (∀ t s v n xs, w.ownsRow (M + 2) t s v n xs → w'.ownsRow (M + 2) t s v n xs) ∧ (∀ B vs, B ≠ M → Box w B vs → Box w' B vs) ∧ (∀ B t, B ≠ M → KindAt w B t → KindAt w' B t) ∧ Keep M w w' := by
  have HD : Hid (DeskH w M D) := hD
  obtain ⟨hbox, ⟨clock, hmap⟩, hasd⟩ := hD
  have AL : Below w.heap.size w (w.alloc (.cells #[.string nm, .int .i64 vl, .int .i64 nx, .slice ay ny cy] 59)) := (Below.refl _ _).alloc (Nat.le_refl _) _
  have HAL : Hid (Below w.heap.size w (w.alloc (.cells #[.string nm, .int .i64 vl, .int .i64 nx, .slice ay ny cy] 59))) := AL
  have D1 := HD.out.later AL
  have hlt : M < w.heap.size := (Array.getElem?_eq_some_iff.1 hmap.1).1
  have hlt1 : M + 1 < w.heap.size := World.block_lt_of_cell? _ _ (hbox 0 _ rfl).1
  have HLT : Hid (M < w.heap.size ∧ M + 1 < w.heap.size) := ⟨hlt, hlt1⟩
  obtain ⟨b1, _, a1⟩ := D1
  have m1 := (hmap.later AL)
  have Y0 : Box (w.alloc (.cells #[.string nm, .int .i64 vl, .int .i64 nx, .slice ay ny cy] 59)) w.heap.size [.string nm, .int .i64 vl, .int .i64 nx, .slice ay ny cy] := Box.new rfl
  obtain ⟨p3, _⟩ := b1 3 _ rfl
  obtain ⟨p5, _⟩ := b1 5 _ rfl
  obtain ⟨q0, _⟩ := Y0 0 _ rfl
  obtain ⟨q1, _⟩ := Y0 1 _ rfl
  obtain ⟨q2, _⟩ := Y0 2 _ rfl
  obtain ⟨q3, _⟩ := Y0 3 _ rfl
  obtain ⟨cl, hup, hmi⟩ := run_put (w := (w.alloc (.cells #[.string nm, .int .i64 vl, .int .i64 nx, .slice ay ny cy] 59)).drew) (M := M) (clock := clock) (X := D.X) m1 y
  have hyk : y.k = folderK D.user nm := by rw [hy]
  have hyv : valX y = .agg #[.string nm, .int .i64 vl, .int .i64 nx, .slice ay ny cy] := by rw [hy]
  rw [hyk, hyv] at hup
  obtain ⟨O, hO⟩ : ∃ O, (.map ((setX y clock D.X).map entX).toArray cl : Obj) = O := ⟨_, rfl⟩
  rw [hO] at hup hmi
  obtain ⟨K9, hK9⟩ : ∃ K, folderK D.user nm = K := ⟨_, rfl⟩
  have CK := fun W => folderKeyI D.user nm W hu hf
  rw [hK9] at hup
  simp only [hK9] at CK
  have HF : Hid (DeskAt (setBlock (w.alloc (.cells #[.string nm, .int .i64 vl, .int .i64 nx, .slice ay ny cy] 59)).drew M O) M { D with X := setX y clock D.X }) :=
    ⟨box_sb b1 O (by omega), ⟨cl, hmi⟩, own_sb a1 O (by omega), fun x hx => own_sb (own_below ((hR clock).1 x hx) AL) O (by omega), (hR clock).2⟩
  have HB : Hid (Below M w (setBlock (w.alloc (.cells #[.string nm, .int .i64 vl, .int .i64 nx, .slice ay ny cy] 59)).drew M O)) := (AL.mono (Nat.le_of_lt hlt)).drew.trans (sb_below _ M O)
  have HOW : Hid ((∀ t s v n xs, w.ownsRow (M + 2) t s v n xs → (setBlock (w.alloc (.cells #[.string nm, .int .i64 vl, .int .i64 nx, .slice ay ny cy] 59)).drew M O).ownsRow (M + 2) t s v n xs) ∧ (∀ B vs, B ≠ M → Box w B vs → Box (setBlock (w.alloc (.cells #[.string nm, .int .i64 vl, .int .i64 nx, .slice ay ny cy] 59)).drew M O) B vs) ∧ (∀ B t, B ≠ M → KindAt w B t → KindAt (setBlock (w.alloc (.cells #[.string nm, .int .i64 vl, .int .i64 nx, .slice ay ny cy] 59)).drew M O) B t) ∧ Keep M w (setBlock (w.alloc (.cells #[.string nm, .int .i64 vl, .int .i64 nx, .slice ay ny cy] 59)).drew M O)) := ⟨fun t s v n xs h9 => own_sb (own_below h9 AL) O (by omega), fun B vs h9 h8 => box_sb (M := M) (h8.below AL) O h9, fun B t h9 h8 => by
    obtain ⟨c1, f1, k1⟩ := kind_below h8 AL
    exact ⟨c1, f1, (sb_block _ M B O h9).trans k1⟩, fun B hB h9 _ => (sb_block _ M B O h9).trans (AL.block B hB)⟩
  have HS : Hid ((setBlock (w.alloc (.cells #[.string nm, .int .i64 vl, .int .i64 nx, .slice ay ny cy] 59)).drew M O).cell? ⟨M + 1, 3, none⟩ = some (.string D.user) ∧ (setBlock (w.alloc (.cells #[.string nm, .int .i64 vl, .int .i64 nx, .slice ay ny cy] 59)).drew M O).cell? ⟨M + 1, 5, none⟩ = some (.map (some M)) ∧ (setBlock (w.alloc (.cells #[.string nm, .int .i64 vl, .int .i64 nx, .slice ay ny cy] 59)).drew M O).cell? ⟨w.heap.size, 0, none⟩ = some (.string nm) ∧ (setBlock (w.alloc (.cells #[.string nm, .int .i64 vl, .int .i64 nx, .slice ay ny cy] 59)).drew M O).cell? ⟨w.heap.size, 1, none⟩ = some (.int .i64 vl) ∧ (setBlock (w.alloc (.cells #[.string nm, .int .i64 vl, .int .i64 nx, .slice ay ny cy] 59)).drew M O).cell? ⟨w.heap.size, 2, none⟩ = some (.int .i64 nx) ∧ (setBlock (w.alloc (.cells #[.string nm, .int .i64 vl, .int .i64 nx, .slice ay ny cy] 59)).drew M O).cell? ⟨w.heap.size, 3, none⟩ = some (.slice ay ny cy)) := by
    have hx := box_sb (M := M) b1 O (by omega)
    have hz := box_sb (M := M) Y0 O (by omega)
    exact ⟨(hx 3 _ rfl).1, (hx 5 _ rfl).1, (hz 0 _ rfl).1, (hz 1 _ rfl).1, (hz 2 _ rfl).1, (hz 3 _ rfl).1⟩
  clear hbox hmap hasd AL b1 a1 m1 Y0 hmi hyk hyv hy hR hO hK9 HD
  go_enter Tryz.func40, Tryz.ntmps40
  go_wp2_with fail
  refine wp_region_noPanic ?_
  refine wp_region_held_drew (S := fun w' => w'.cell? ⟨M + 1, 3, none⟩ = some (.string D.user) ∧ w'.cell? ⟨M + 1, 5, none⟩ = some (.map (some M)) ∧ w'.cell? ⟨w.heap.size, 0, none⟩ = some (.string nm) ∧ w'.cell? ⟨w.heap.size, 1, none⟩ = some (.int .i64 vl) ∧ w'.cell? ⟨w.heap.size, 2, none⟩ = some (.int .i64 nx) ∧ w'.cell? ⟨w.heap.size, 3, none⟩ = some (.slice ay ny cy)) (by kernel_rfl) ⟨p3, p5, q0, q1, q2, q3⟩ (fun hHeld => ?_)
  refine tkA (i := 0) (v := .pointer (some ⟨M + 1, 0, none⟩)) ?_ hHeld ?_
  · intro w9 hSw
    obtain ⟨z0, z1, z2, z3, z4, z5⟩ := hSw
    go_simp
  simp only [Act.put, List.setIfInBounds_toArray, List.set_cons_zero, List.set_cons_succ]
  refine tkA (i := 1) (v := .pointer (some ⟨M + 1, 0, none⟩)) ?_ hHeld ?_
  · intro w9 hSw
    obtain ⟨z0, z1, z2, z3, z4, z5⟩ := hSw
    go_simp
  simp only [Act.put, List.setIfInBounds_toArray, List.set_cons_zero, List.set_cons_succ]
  refine tkA (i := 2) (v := .pointer (some ⟨M + 1, 5, none⟩)) ?_ hHeld ?_
  · intro w9 hSw
    obtain ⟨z0, z1, z2, z3, z4, z5⟩ := hSw
    go_simp
  simp only [Act.put, List.setIfInBounds_toArray, List.set_cons_zero, List.set_cons_succ]
  refine tkA (i := 3) (v := .map (some M)) ?_ hHeld ?_
  · intro w9 hSw
    obtain ⟨z0, z1, z2, z3, z4, z5⟩ := hSw
    go_simp
  simp only [Act.put, List.setIfInBounds_toArray, List.set_cons_zero, List.set_cons_succ]
  refine tkA (i := 4) (v := .pointer (some ⟨M + 1, 0, none⟩)) ?_ hHeld ?_
  · intro w9 hSw
    obtain ⟨z0, z1, z2, z3, z4, z5⟩ := hSw
    go_simp
  simp only [Act.put, List.setIfInBounds_toArray, List.set_cons_zero, List.set_cons_succ]
  refine tkA (i := 5) (v := .pointer (some ⟨M + 1, 0, none⟩)) ?_ hHeld ?_
  · intro w9 hSw
    obtain ⟨z0, z1, z2, z3, z4, z5⟩ := hSw
    go_simp
  simp only [Act.put, List.setIfInBounds_toArray, List.set_cons_zero, List.set_cons_succ]
  refine tkA (i := 6) (v := .pointer (some ⟨M + 1, 3, none⟩)) ?_ hHeld ?_
  · intro w9 hSw
    obtain ⟨z0, z1, z2, z3, z4, z5⟩ := hSw
    go_simp
  simp only [Act.put, List.setIfInBounds_toArray, List.set_cons_zero, List.set_cons_succ]
  refine tkA (i := 7) (v := .string D.user) ?_ hHeld ?_
  · intro w9 hSw
    obtain ⟨z0, z1, z2, z3, z4, z5⟩ := hSw
    go_simp
  simp only [Act.put, List.setIfInBounds_toArray, List.set_cons_zero, List.set_cons_succ]
  refine tkA (i := 8) (v := .pointer (some ⟨w.heap.size, 0, none⟩)) ?_ hHeld ?_
  · intro w9 hSw
    obtain ⟨z0, z1, z2, z3, z4, z5⟩ := hSw
    go_simp
  simp only [Act.put, List.setIfInBounds_toArray, List.set_cons_zero, List.set_cons_succ]
  refine tkA (i := 9) (v := .string nm) ?_ hHeld ?_
  · intro w9 hSw
    obtain ⟨z0, z1, z2, z3, z4, z5⟩ := hSw
    go_simp
  simp only [Act.put, List.setIfInBounds_toArray, List.set_cons_zero, List.set_cons_succ]
  refine tkA (i := 11) (v := .agg #[.string nm, .int .i64 vl, .int .i64 nx, .slice ay ny cy]) ?_ hHeld ?_
  · intro w9 hSw
    obtain ⟨z0, z1, z2, z3, z4, z5⟩ := hSw
    go_simp
  simp only [Act.put, List.setIfInBounds_toArray, List.set_cons_zero, List.set_cons_succ]
  refine wpAnyH_ready (rs := [10]) (by kernel_rfl) (by simp) ?_
  refine AllReadyH.cons rfl (fun K hK => ?_) AllReadyH.nil
  go_simp
  refine (CK _).mono ?_
  rintro e w1 ⟨rfl, hw1⟩
  obtain rfl := hw1
  dsimp only
  refine hK _ _ ⟨p3, p5, q0, q1, q2, q3⟩ (fun hHeld => ?_)
  clear hK K
  refine wpAnyH_ready (rs := [12]) (by kernel_rfl) (by simp) ?_
  refine AllReadyH.cons rfl (fun K hK => ?_) AllReadyH.nil
  go_simp
  refine hK _ _ HS.out (fun hHeld => ?_)
  clear hK K
  refine wpAnyH_done (by kernel_rfl) ?_ _
  refine NoPanic.normal ?_
  clear hHeld
  go_wp2_with fail
  go_end0
  exact ⟨rfl, ⟨clock, HF.out⟩, HB.out, HOW.out⟩
set_option maxHeartbeats 2000000 in
theorem freshY (nm : ByteArray) (v0 nx0 : Int) (ax : Option Addr) (ml cx : Nat) (Ms : List MMl) (hMs : Ms.length = ml) (w : World) (M : Nat) (a : Option Addr) (n c : Nat) (va : Value) (sd : List PM) (nx : Int) (u wd : ByteArray) (X : List FX) (fs : List FM) (hD : DeskAt w M ⟨a, n, c, va, sd, nx, u, wd, X⟩) (hV : View u X fs) (hN : (fs.map (·.name)).Nodup) (hu : u.size ≤ 1000) (hnm : nm.size ≤ 1000) (hnx : 0 ≤ nx) (hnx1 : nx ≤ 10000)
    (hrow : w.ownsRow (M + 2) 62 3 (.slice ax ml cx) ml (cellsMl Ms)) (hap : ∀ z ∈ X, z.k ≠ folderK u nm → ∀ g, z.v.ownBlock = some g → Value.ownBlock (.slice ax ml cx) ≠ some g) :
    Calls Tryz.prog 65 #[.pointer (some ⟨M + 1, 0, none⟩), .agg #[.string nm, .int .i64 v0, .int .i64 nx0, .slice ax ml cx]] w fun e w' => Below M w w' ∧ (∀ t s v n xs, w.ownsRow (M + 2) t s v n xs → w'.ownsRow (M + 2) t s v n xs) ∧ (∀ B vs, B ≠ M → B ≠ M + 1 → Box w B vs → Box w' B vs) ∧ ((∀ B t, B ≠ M → KindAt w B t → KindAt w' B t) ∧ Keep M w w') ∧ ((9999 < nx ∧ e = .returned (.int .i64 6) ∧ DeskAt w' M ⟨a, n, c, va, sd, nx, u, wd, X⟩) ∨ (¬ 9999 < nx ∧ e = .returned (.int .i64 0) ∧ ∃ clock, DeskAt w' M ⟨a, n, c, va, sd, nx + 1, u, wd, setX ⟨folderK u nm, 0, nm, nx, nx0, .slice ax ml cx, Ms⟩ clock X⟩)) := by
  have hM1 : M + 1 < w.heap.size := World.block_lt_of_cell? _ _ (hD.1 0 _ rfl).1
  obtain ⟨c2, f2⟩ := hD.1 2 _ rfl
  have hKN : (X.map (·.k)).Nodup := by
    rw [hV.keys]
    exact nodup_keys hN
  by_cases hb : 9999 < nx
  · have HD : Hid (DeskAt (w.alloc (.cells #[.string nm, .int .i64 v0, .int .i64 nx0, .slice ax ml cx] 59)) M ⟨a, n, c, va, sd, nx, u, wd, X⟩) := hD.later ((Below.refl _ _).alloc (Nat.le_refl _) _)
    have HB : Hid (Below M w (w.alloc (.cells #[.string nm, .int .i64 v0, .int .i64 nx0, .slice ax ml cx] 59))) := (Below.refl _ _).alloc (by omega) _
    have HOW : Hid ((∀ t s v n xs, w.ownsRow (M + 2) t s v n xs → (w.alloc (.cells #[.string nm, .int .i64 v0, .int .i64 nx0, .slice ax ml cx] 59)).ownsRow (M + 2) t s v n xs) ∧ (∀ B vs, B ≠ M → B ≠ M + 1 → Box w B vs → Box (w.alloc (.cells #[.string nm, .int .i64 v0, .int .i64 nx0, .slice ax ml cx] 59)) B vs) ∧ (∀ B t, B ≠ M → KindAt w B t → KindAt (w.alloc (.cells #[.string nm, .int .i64 v0, .int .i64 nx0, .slice ax ml cx] 59)) B t) ∧ Keep M w (w.alloc (.cells #[.string nm, .int .i64 v0, .int .i64 nx0, .slice ax ml cx] 59))) := ⟨fun t s v n xs h9 => own_below h9 ((Below.refl _ _).alloc (Nat.le_refl _) _), fun B vs _ _ h8 => h8.below ((Below.refl _ _).alloc (Nat.le_refl _) _), fun B t _ h8 => kind_below h8 ((Below.refl _ _).alloc (Nat.le_refl _) _), Keep.of_below ((Below.refl _ _).alloc (Nat.le_refl _) _)⟩
    clear hD hV hN hrow hap hKN
    go_enter Tryz.func65, Tryz.ntmps65
    go_wp2_with fail
    go_ret
    exact ⟨HB.out, HOW.out.1, HOW.out.2.1, HOW.out.2.2, .inl ⟨rfl, HD.out⟩⟩
  · obtain ⟨w1, hw1⟩ : ∃ W, w.alloc (.cells #[.string nm, .int .i64 nx, .int .i64 nx0, .slice ax ml cx] 59) = W := ⟨_, rfl⟩
    have B1 : Below w.heap.size w w1 := by rw [← hw1]; exact (Below.refl _ _).alloc (Nat.le_refl _) _
    have D2 : DeskAt (w1.setCell ⟨M + 1, 2, none⟩ (.int .i64 (nx + 1))) M ⟨a, n, c, va, sd, nx + 1, u, wd, X⟩ := desk_set (hD.later B1) 2 (.int .i64 (nx + 1)) rfl rfl rfl rfl
    have X1 : Box w1 w.heap.size [.string nm, .int .i64 nx, .int .i64 nx0, .slice ax ml cx] := by rw [← hw1]; exact Box.new rfl
    have R2 : (w1.setCell ⟨M + 1, 2, none⟩ (.int .i64 (nx + 1))).ownsRow (M + 2) 62 3 (.slice ax ml cx) ml (cellsMl Ms) := own_setLow (own_below hrow B1) (by show M + 1 < M + 2; omega) _
    have HB2 : Hid (Below M w (w1.setCell ⟨M + 1, 2, none⟩ (.int .i64 (nx + 1)))) := (B1.mono (by omega)).setCell (by show M ≤ M + 1; omega) _
    have HOW2 : Hid ((∀ t s v n xs, w.ownsRow (M + 2) t s v n xs → (w1.setCell ⟨M + 1, 2, none⟩ (.int .i64 (nx + 1))).ownsRow (M + 2) t s v n xs) ∧ (∀ B vs, B ≠ M + 1 → Box w B vs → Box (w1.setCell ⟨M + 1, 2, none⟩ (.int .i64 (nx + 1))) B vs) ∧ (∀ B t, KindAt w B t → KindAt (w1.setCell ⟨M + 1, 2, none⟩ (.int .i64 (nx + 1))) B t) ∧ Keep M w (w1.setCell ⟨M + 1, 2, none⟩ (.int .i64 (nx + 1))) ∧ w.heap.size ≤ (w1.setCell ⟨M + 1, 2, none⟩ (.int .i64 (nx + 1))).heap.size) := ⟨fun t s v n xs h9 => own_setLow (own_below h9 B1) (by show M + 1 < M + 2; omega) _, fun B vs h9 h8 => (h8.below B1).other _ (by show B ≠ M + 1; exact h9) _, fun B t h8 => kind_set (kind_below h8 B1) _ _, fun B hB _ h2 => (Below.heap_setCell _ _ _ _ (by show B ≠ M + 1; exact h2)).trans (B1.block B hB), by simp; exact B1.size⟩
    have CP := putX ⟨folderK u nm, 0, nm, nx, nx0, .slice ax ml cx, Ms⟩ nm nx nx0 ax ml cx (w1.setCell ⟨M + 1, 2, none⟩ (.int .i64 (nx + 1))) M ⟨a, n, c, va, sd, nx + 1, u, wd, X⟩ rfl (by omega) (by show u.size ≤ 1048576; omega) D2.head (fun clock => rows_set D2.2.2.2 (by show World.ownsRow _ _ _ _ _ Ms.length _; rw [hMs]; exact R2) hKN (fun x hx hk => hap x hx hk) clock)
    obtain ⟨g2, fz2⟩ := (hD.later B1).1 2 _ rfl
    have HX : Hid (Box (w1.setCell ⟨M + 1, 2, none⟩ (.int .i64 (nx + 1))) w.heap.size [.string nm, .int .i64 nx, .int .i64 nx0, .slice ax ml cx]) := X1.other _ (by show w.heap.size ≠ M + 1; omega) _
    obtain ⟨e0', _⟩ := HX.out 0 _ rfl
    obtain ⟨e1', _⟩ := HX.out 1 _ rfl
    obtain ⟨e2', _⟩ := HX.out 2 _ rfl
    obtain ⟨e3', _⟩ := HX.out 3 _ rfl
    have HV : Hid (View u X fs) := hV
    clear hD hV hN hrow hap D2 R2 B1 X1 hKN
    go_enter Tryz.func65, Tryz.ntmps65
    go_wp2_with fail
    refine CP.mono ?_
    rintro e w4 ⟨rfl, ⟨clock, hd4⟩, hb4, ho4, hx4, hy4, hz4⟩
    have HOW4 : Hid ((∀ t s v n xs, w.ownsRow (M + 2) t s v n xs → w4.ownsRow (M + 2) t s v n xs) ∧ (∀ B vs, B ≠ M → B ≠ M + 1 → Box w B vs → Box w4 B vs) ∧ (∀ B t, B ≠ M → KindAt w B t → KindAt w4 B t) ∧ Keep M w w4) := ⟨fun t s v n xs h9 => ho4 _ _ _ _ _ (HOW2.out.1 _ _ _ _ _ h9), fun B vs h9 h8 h7 => hx4 B vs h9 (HOW2.out.2.1 B vs h8 h7), fun B t h9 h8 => hy4 B t h9 (HOW2.out.2.2.1 B t h8), HOW2.out.2.2.2.1.trans HOW2.out.2.2.2.2 hz4⟩
    have HB4 : Hid (Below M w w4) := HB2.out.trans hb4
    have HD4 : Hid (∃ clock, DeskAt w4 M ⟨a, n, c, va, sd, nx + 1, u, wd, setX ⟨folderK u nm, 0, nm, nx, nx0, .slice ax ml cx, Ms⟩ clock X⟩) := ⟨clock, hd4⟩
    clear hd4 hb4 CP ho4 hx4 hy4 hz4
    go_wp2_with fail
    go_ret
    exact ⟨HB4.out, HOW4.out.1, HOW4.out.2.1, HOW4.out.2.2, .inr ⟨rfl, HD4.out⟩⟩
end Go.Proofs.YtbpgncgmolpkiaaGreatDoor
namespace Go.Proofs.YtbpgncgmolpkiaaGreatDoor
open Go.ChangeShapes Go.WideShapes Go.ChangeAt Go.RowKit Go.Deep Go.Lib
set_option linter.unusedVariables false
set_option linter.unusedSimpArgs false
set_option maxRecDepth 100000

/-- A list is what a desk tells, in its order; what lies aside is nothing of the user's. -/
structure Lies (N : List PM) (nx : Int) (u : ByteArray) (S : SM) : Prop where
  up : UpL N
  pm : N.Perm (deskP nx u S)
  nd : (S.fs.map (·.name)).Nodup
  sl : ∀ g ∈ S.fs, (47 : UInt8) ∉ g.name.data.toList
  pass : ∀ f : ByteArray, (47 : UInt8) ∉ f.data.toList → ∀ p ∈ notK vK S.aside, passB u f p = true
  away : ∀ p ∈ notK vK S.aside, beginsB p.1 (mailsK u) = false
theorem away_owner {u : ByteArray} {p : PM} (h : ownerM p ≠ some u) : isMail u p = false := by
  unfold ownerM at h
  unfold isMail
  match hG : splitL 47 p.1.data.toList, h with
  | [], _ => rfl
  | [a], _ => rfl
  | [a, b], _ => rfl
  | [a, b, c], _ => rfl
  | [a, b, c, d], h =>
    refine decide_eq_false fun h9 => h ?_
    show (if a = [109] then some (bs b) else none) = some u
    rw [if_pos h9.1, h9.2]
  | a :: b :: c :: d :: e :: r, _ => rfl
theorem lies_of {L : List PM} {u : ByteArray} {S : SM} (h : storeB L = true) (hus : (47 : UInt8) ∉ u.data.toList) (hS : takeAll (nextM L) u S0 L = some S) (hw : S.word.toList ≠ []) : Lies L (nextM L) u S where
  up := (store_facts h).1.2.2
  pm := desk_list h hus hS hw
  nd := names_all (S := S0) List.nodup_nil hS
  sl := fun g hg => word_slash (name_short h hus hS hg)
  pass := fun f hf p hp => aside_pass h hus hf hS hp
  away := fun p hp => by
    obtain ⟨h1, h2⟩ := notK_sub hp
    rw [all_aside hS] at h1
    have h3 : p ∈ L.filter fun p => !isOwn u p := by simpa using h1
    obtain ⟨h4, h5⟩ := List.mem_filter.1 h3
    have h6 : ownerM p ≠ some u := by simpa using h5
    rw [← mail_is h hus h4]
    exact away_owner h6
theorem drop_none {n : ByteArray} : ∀ {fs : List FM}, lookF n fs = none → dropF n fs = fs
  | [], _ => rfl
  | f :: fs, h => by
    unfold lookF at h
    by_cases e : f.name = n
    · rw [if_pos e] at h; cases h
    · rw [if_neg e] at h
      unfold dropF
      rw [if_neg e, drop_none h]
theorem put_any (g : FM) (fs : List FM) : (putF g fs).Perm (g :: dropF g.name fs) := by
  cases hl : lookF g.name fs with
  | none =>
    rw [put_none hl, drop_none hl]
    exact List.perm_append_comm
  | some f => exact put_perm hl
/-- What is left of a folder whose mails are gone. -/
def headL (u f : ByteArray) : Option FM → List PM
  | some g => [(folderK u f, metaT g.val g.next)]
  | none => []
theorem head_len (u f : ByteArray) (o : Option FM) : (headL u f o).length ≤ 1 := by
  cases o with
  | none => exact Nat.zero_le _
  | some g => exact Nat.le_refl _
theorem empty_perm {N : List PM} {nx : Int} {u f : ByteArray} {S : SM} (h : Lies N nx u S) (hus : (47 : UInt8) ∉ u.data.toList) (hfs : (47 : UInt8) ∉ f.data.toList) :
    (emptyR N u f).Perm ((vK, bs (itoa nx)) :: (userK u, S.word) :: (notK vK S.aside ++ (headL u f (lookF f S.fs) ++ flatF u (dropF f S.fs)))) := by
  unfold emptyR
  refine (h.pm.filter _).trans ?_
  unfold deskP
  rw [List.filter_cons_of_pos (by rw [pass_not (pass_v u f _)]; rfl), List.filter_cons_of_pos (by rw [pass_not (pass_u u f _)]; rfl), List.filter_append]
  have e3 : ((notK vK S.aside).filter fun p => !beginsB p.1 (preK u f)) = notK vK S.aside := by
    rw [List.filter_eq_self]
    intro p hp
    rw [pass_not (h.pass f hfs p hp)]
    rfl
  rw [e3]
  refine List.Perm.cons _ (List.Perm.cons _ (List.Perm.append_left _ ?_))
  have hrest : ∀ fs : List FM, (∀ g ∈ fs, g.name ≠ f ∧ (47 : UInt8) ∉ g.name.data.toList) → ((flatF u fs).filter fun p => !beginsB p.1 (preK u f)) = flatF u fs := fun fs hf => by
    have h9 := rest_pass (u := u) (f := f) (fs := fs) hus hfs hf
    rw [List.filter_eq_self] at h9 ⊢
    intro p hp
    rw [pass_not (h9 p hp)]
    rfl
  cases hl : lookF f S.fs with
  | none =>
    rw [drop_none hl, hrest S.fs fun g hg => ⟨(fun e => by
      have h9 := look_mem' hg
      rw [e, hl] at h9
      cases h9), h.sl g hg⟩]
    exact List.Perm.refl _
  | some g =>
    refine ((flat_perm (drop_perm hl)).filter _).trans ?_
    obtain ⟨hgm, hgn⟩ := lookF_mem hl
    rw [flat_cons, List.filter_append, hrest (dropF f S.fs) fun x hx => ⟨drop_names h.nd x hx, h.sl x ((dropF_sub f S.fs).subset hx)⟩]
    refine List.Perm.append_right _ ?_
    unfold fPairs
    rw [hgn]
    have e5 : beginsB (folderK u f) (preK u f) = false := by
      cases hb : beginsB (folderK u f) (preK u f) with
      | false => rfl
      | true =>
        obtain ⟨r, hr⟩ := begins_pre.1 hb
        rw [folderK_data] at hr
        simp at hr
    rw [List.filter_cons_of_pos (by rw [e5]; rfl)]
    have e6 : ((g.mails.map (mailP u f)).filter fun p => !beginsB p.1 (preK u f)) = [] := by
      rw [List.filter_eq_nil_iff]
      intro p hp
      obtain ⟨m, _, rfl⟩ := List.mem_map.1 hp
      rw [begins_mail]
      simp
    rw [e6]
    exact List.Perm.refl _
theorem folder_key {u f g : ByteArray} (e : folderK u f = folderK u g) : f = g := folderK_inj e
theorem flat_key {u f : ByteArray} {fs : List FM} (hn : ∀ g ∈ fs, g.name ≠ f) : ∀ p ∈ flatF u fs, p.1 ≠ folderK u f := fun p hp e => by
  obtain ⟨g, hg, hpg⟩ := flat_mem hp
  unfold fPairs at hpg
  rcases List.mem_cons.1 hpg with rfl | hpg
  · exact hn g hg (folderK_inj e)
  · exact mails_not p hpg e
/-- A folder laid afresh, empty, in the place of the one of that name. -/
theorem lies_fresh {N : List PM} {nx next : Int} {u f : ByteArray} {S : SM} (h : Lies N nx u S) (hus : (47 : UInt8) ∉ u.data.toList) (hfs : (47 : UInt8) ∉ f.data.toList) :
    Lies (insL (folderK u f) (metaT nx next) (insL vK (bs (itoa (nx + 1))) (emptyR N u f))) (nx + 1) u ⟨S.aside, S.word, putF ⟨f, nx, next, []⟩ S.fs⟩ := by
  have u1 : UpL (emptyR N u f) := h.up.sublist List.filter_sublist
  have p1 := swap_ins (v' := bs (itoa (nx + 1))) u1 (empty_perm h hus hfs)
  have u2 := ins_up (k := vK) (v := bs (itoa (nx + 1))) u1
  obtain ⟨A, hA⟩ : ∃ A, notK vK S.aside = A := ⟨_, rfl⟩
  have p2 : (insL (folderK u f) (metaT nx next) (insL vK (bs (itoa (nx + 1))) (emptyR N u f))).Perm ((folderK u f, metaT nx next) :: ((vK, bs (itoa (nx + 1))) :: (userK u, S.word) :: (A ++ flatF u (dropF f S.fs)))) := by
    rw [hA] at p1
    cases hl : lookF f S.fs with
    | none =>
      rw [hl] at p1
      have h9 := ins_perm (k := folderK u f) (v := metaT nx next) u2
      rw [notK_self fun x hx => ?_] at h9
      · exact h9.trans (List.Perm.cons _ p1)
      · have hx2 := p1.mem_iff.1 hx
        rcases List.mem_cons.1 hx2 with rfl | hx2
        · exact (folder_not u f).symm
        rcases List.mem_cons.1 hx2 with rfl | hx2
        · have h8 := pass_u u f S.word
          unfold passB at h8
          rw [Bool.and_eq_true, decide_eq_true_eq] at h8
          exact h8.1
        rcases List.mem_append.1 hx2 with hx2 | hx2
        · have h8 := h.pass f hfs x (by rw [hA]; exact hx2)
          unfold passB at h8
          rw [Bool.and_eq_true, decide_eq_true_eq] at h8
          exact h8.1
        · exact flat_key (fun g hg => by
            rw [drop_none hl] at hg
            intro e
            have h8 := look_mem' hg
            rw [e, hl] at h8
            cases h8) x hx2
    | some g =>
      rw [hl] at p1
      refine swap_ins (v := metaT g.val g.next) u2 (p1.trans ?_)
      show ((vK, bs (itoa (nx + 1))) :: (userK u, S.word) :: (A ++ ((folderK u f, metaT g.val g.next) :: flatF u (dropF f S.fs)))).Perm _
      refine (List.Perm.cons _ (List.Perm.cons _ List.perm_middle)).trans ?_
      exact (List.Perm.cons _ (List.Perm.swap _ _ _)).trans (List.Perm.swap _ _ _)
  refine ⟨ins_up u2, p2.trans ?_, putF_names h.nd, fun g hg => ?_, h.pass, h.away⟩
  · unfold deskP
    show List.Perm _ ((vK, bs (itoa (nx + 1))) :: (userK u, S.word) :: (notK vK S.aside ++ flatF u (putF ⟨f, nx, next, []⟩ S.fs)))
    rw [hA]
    have h9 : (flatF u (putF ⟨f, nx, next, []⟩ S.fs)).Perm ((folderK u f, metaT nx next) :: flatF u (dropF f S.fs)) := flat_perm (put_any ⟨f, nx, next, []⟩ S.fs)
    refine List.Perm.trans ?_ (List.Perm.cons _ (List.Perm.cons _ (List.Perm.append_left A h9.symm)))
    refine List.Perm.trans ?_ (List.Perm.cons _ (List.Perm.cons _ List.perm_middle.symm))
    exact (List.Perm.swap _ _ _).trans (List.Perm.cons _ (List.Perm.swap _ _ _))
  · rcases putF_mem hg with hg | rfl
    · exact h.sl g hg
    · exact hfs
theorem put_put {f : ByteArray} {a b c d : Int} {Ms Ns : List MMl} : ∀ fs : List FM, putF ⟨f, a, b, Ms⟩ (putF ⟨f, c, d, Ns⟩ fs) = putF ⟨f, a, b, Ms⟩ fs
  | [] => by
    show putF ⟨f, a, b, Ms⟩ [⟨f, c, d, Ns⟩] = [⟨f, a, b, Ms⟩]
    rw [putF, if_pos rfl]
  | x :: fs => by
    have ih := put_put (f := f) (a := a) (b := b) (c := c) (d := d) (Ms := Ms) (Ns := Ns) fs
    by_cases e : x.name = f
    · have e1 : putF ⟨f, c, d, Ns⟩ (x :: fs) = ⟨f, c, d, Ns⟩ :: fs := by unfold putF; rw [if_pos e]
      have e2 : putF ⟨f, a, b, Ms⟩ (x :: fs) = ⟨f, a, b, Ms⟩ :: fs := by unfold putF; rw [if_pos e]
      rw [e1, e2]
      unfold putF
      rw [if_pos rfl]
    · have e1 : putF ⟨f, c, d, Ns⟩ (x :: fs) = x :: putF ⟨f, c, d, Ns⟩ fs := by rw [putF, if_neg e]
      have e2 : putF ⟨f, a, b, Ms⟩ (x :: fs) = x :: putF ⟨f, a, b, Ms⟩ fs := by rw [putF, if_neg e]
      have e3 : ∀ R, putF ⟨f, a, b, Ms⟩ (x :: R) = x :: putF ⟨f, a, b, Ms⟩ R := fun R => by rw [putF, if_neg e]
      rw [e1, e2, e3, ih]
theorem drop_put {g : FM} : ∀ fs : List FM, dropF g.name (putF g fs) = dropF g.name fs
  | [] => by
    unfold putF
    unfold dropF
    rw [if_pos rfl]
  | x :: fs => by
    have ih := drop_put (g := g) fs
    by_cases e : x.name = g.name
    · have e1 : putF g (x :: fs) = g :: fs := by rw [putF, if_pos e]
      rw [e1]
      unfold dropF
      rw [if_pos rfl, if_pos e]
    · have e1 : putF g (x :: fs) = x :: putF g fs := by rw [putF, if_neg e]
      rw [e1]
      unfold dropF
      rw [if_neg e, if_neg e, ih]
/-- Mails laid into a folder that has none. -/
theorem lies_mails {N : List PM} {nx v next : Int} {u f : ByteArray} {sd : List PM} {wd : ByteArray} {fs : List FM} {Ms : List MMl} (h : Lies N nx u ⟨sd, wd, putF ⟨f, v, next, []⟩ fs⟩) (hus : (47 : UInt8) ∉ u.data.toList) (hfs : (47 : UInt8) ∉ f.data.toList) (hM : (Ms.map (mailP u f)).Pairwise (fun a b => a.1 ≠ b.1)) :
    Lies (insAll (Ms.map (mailP u f)) N) nx u ⟨sd, wd, putF ⟨f, v, next, Ms⟩ fs⟩ := by
  have hno : ∀ p ∈ Ms.map (mailP u f), ∀ x ∈ N, x.1 ≠ p.1 := fun p hp x hx e => by
    obtain ⟨m, _, rfl⟩ := List.mem_map.1 hp
    have hx2 : beginsB x.1 (preK u f) = false := by
      have hx3 := h.pm.mem_iff.1 hx
      unfold deskP at hx3
      rcases List.mem_cons.1 hx3 with rfl | hx3
      · exact pass_not (pass_v u f _)
      rcases List.mem_cons.1 hx3 with rfl | hx3
      · exact pass_not (pass_u u f _)
      rcases List.mem_append.1 hx3 with hx3 | hx3
      · exact pass_not (h.pass f hfs x hx3)
      · have h9 := (flat_perm (u := u) (put_any ⟨f, v, next, []⟩ fs)).mem_iff.1 hx3
        rw [flat_cons] at h9
        rcases List.mem_append.1 h9 with h9 | h9
        · have h8 : x = (folderK u f, metaT v next) := by
            unfold fPairs at h9
            simpa using h9
          rw [h8]
          cases hb : beginsB (folderK u f) (preK u f) with
          | false => rfl
          | true =>
            obtain ⟨r, hr⟩ := begins_pre.1 hb
            rw [folderK_data] at hr
            simp at hr
        · have hd : dropF f (putF ⟨f, v, next, []⟩ fs) = dropF f fs := drop_put (g := ⟨f, v, next, []⟩) fs
          have h7 := rest_pass (u := u) (f := f) (fs := dropF f (putF ⟨f, v, next, []⟩ fs)) hus hfs fun g hg => ⟨drop_names h.nd g hg, h.sl g ((dropF_sub f _).subset hg)⟩
          rw [hd, List.filter_eq_self] at h7
          exact pass_not (h7 x h9)
    rw [e, begins_mail] at hx2
    cases hx2
  obtain ⟨k1, k2⟩ := ins_all h.up hM hno
  refine ⟨k1, ?_, ?_, fun g hg => ?_, h.pass, h.away⟩
  · refine k2.trans ((List.Perm.append_left _ h.pm).trans ?_)
    unfold deskP
    show (Ms.map (mailP u f) ++ ((vK, bs (itoa nx)) :: (userK u, wd) :: (notK vK sd ++ flatF u (putF ⟨f, v, next, []⟩ fs)))).Perm ((vK, bs (itoa nx)) :: (userK u, wd) :: (notK vK sd ++ flatF u (putF ⟨f, v, next, Ms⟩ fs)))
    have h1 : (flatF u (putF ⟨f, v, next, []⟩ fs)).Perm ((folderK u f, metaT v next) :: flatF u (dropF f fs)) := flat_perm (put_any ⟨f, v, next, []⟩ fs)
    have h2 : (flatF u (putF ⟨f, v, next, Ms⟩ fs)).Perm (((folderK u f, metaT v next) :: Ms.map (mailP u f)) ++ flatF u (dropF f fs)) := flat_perm (put_any ⟨f, v, next, Ms⟩ fs)
    refine List.Perm.trans (List.Perm.append_left _ (List.Perm.cons _ (List.Perm.cons _ (List.Perm.append_left _ h1)))) ?_
    refine List.Perm.trans ?_ (List.Perm.cons _ (List.Perm.cons _ (List.Perm.append_left _ h2.symm)))
    refine (List.perm_middle).trans (List.Perm.cons _ ((List.perm_middle).trans (List.Perm.cons _ ?_)))
    obtain ⟨X, hX⟩ : ∃ X, Ms.map (mailP u f) = X := ⟨_, rfl⟩
    obtain ⟨A, hA⟩ : ∃ A, notK vK sd = A := ⟨_, rfl⟩
    obtain ⟨Fl, hF⟩ : ∃ A, flatF u (dropF f fs) = A := ⟨_, rfl⟩
    rw [hX, hA, hF]
    rw [← List.append_assoc]
    refine (List.Perm.append_right _ List.perm_append_comm).trans ?_
    rw [List.append_assoc]
    refine List.Perm.append_left _ ?_
    rw [List.cons_append]
    exact List.perm_middle
  · have e : (putF ⟨f, v, next, Ms⟩ (putF ⟨f, v, next, []⟩ fs)) = putF ⟨f, v, next, Ms⟩ fs := put_put fs
    show ((putF ⟨f, v, next, Ms⟩ fs).map (·.name)).Nodup
    rw [← e]
    exact putF_names h.nd
  · have e : (putF ⟨f, v, next, Ms⟩ (putF ⟨f, v, next, []⟩ fs)) = putF ⟨f, v, next, Ms⟩ fs := put_put fs
    have hg2 : g ∈ putF ⟨f, v, next, Ms⟩ fs := hg
    rw [← e] at hg2
    rcases putF_mem hg2 with hg2 | rfl
    · exact h.sl g hg2
    · exact hfs
theorem begins_flat {u : ByteArray} (hus : (47 : UInt8) ∉ u.data.toList) : ∀ fs : List FM, ((flatF u fs).filter fun p => beginsB p.1 (mailsK u)).length = sumF fs
  | [] => rfl
  | g :: fs => by
    rw [flat_cons, List.filter_append, List.length_append, begins_flat hus fs]
    unfold fPairs
    have e1 : beginsB (folderK u g.name) (mailsK u) = false := by
      cases hb : beginsB (folderK u g.name) (mailsK u) with
      | false => rfl
      | true =>
        obtain ⟨r, hr⟩ := begins_iff.1 hb
        rw [folderK_data, mailsK_data] at hr
        simp at hr
    have e2 : ((g.mails.map (mailP u g.name)).filter fun p => beginsB p.1 (mailsK u)) = g.mails.map (mailP u g.name) := by
      rw [List.filter_eq_self]
      intro p hp
      obtain ⟨m, _, rfl⟩ := List.mem_map.1 hp
      refine begins_iff.2 ⟨g.name.data.toList ++ 47 :: d3 m.1.toNat, ?_⟩
      rw [mailsK_data]
      simp [mailP, bs]
    rw [List.filter_cons_of_neg (by rw [e1]; simp), e2, List.length_map]
    rfl
theorem lies_count {N : List PM} {nx : Int} {u : ByteArray} {S : SM} (h : Lies N nx u S) (hus : (47 : UInt8) ∉ u.data.toList) : countM N u = sumF S.fs := by
  unfold countM
  rw [(h.pm.filter _).length_eq]
  unfold deskP
  have e1 : beginsB vK (mailsK u) = false := by
    cases hb : beginsB vK (mailsK u) with
    | false => rfl
    | true =>
      obtain ⟨r, hr⟩ := begins_iff.1 hb
      rw [mailsK_data] at hr
      simp at hr
  have e2 : beginsB (userK u) (mailsK u) = false := by
    cases hb : beginsB (userK u) (mailsK u) with
    | false => rfl
    | true =>
      obtain ⟨r, hr⟩ := begins_iff.1 hb
      rw [mailsK_data] at hr
      simp [ByteArray.data_append] at hr
  rw [List.filter_cons_of_neg (by rw [e1]; simp), List.filter_cons_of_neg (by rw [e2]; simp), List.filter_append]
  have e3 : ((notK vK S.aside).filter fun p => beginsB p.1 (mailsK u)) = [] := by
    rw [List.filter_eq_nil_iff]
    intro p hp
    rw [h.away p hp]
    simp
  rw [e3, List.nil_append, begins_flat hus]
theorem lies_next {N : List PM} {nx : Int} {u : ByteArray} {S : SM} (h : Lies N nx u S) (n0 : 0 ≤ nx) (n1 : nx ≤ 10000) : nextM N = nx := by
  have h1 : (vK, bs (itoa nx)) ∈ N := h.pm.mem_iff.2 List.mem_cons_self
  unfold nextM
  rw [(getM_mem h.up).2 h1]
  show (numB (bs (itoa nx)).data.toList).getD 0 = nx
  rw [show (bs (itoa nx)).data.toList = itoa nx from by simp [bs], num_of_is ⟨rfl, by omega⟩]
  rfl
end Go.Proofs.YtbpgncgmolpkiaaGreatDoor
namespace Go.Proofs.YtbpgncgmolpkiaaGreatDoor
open Go.ChangeShapes Go.WideShapes Go.ChangeAt Go.RowKit Go.Deep Go.Lib
set_option linter.unusedVariables false
set_option linter.unusedSimpArgs false
set_option maxRecDepth 100000

def rsT (N : List PM) (u : ByteArray) (Ms : List PM) (r : List PM × Int) : List PM × Int := if r.2 ≠ 0 then (N, r.2) else if 6 < countM (insAll Ms r.1) u then (N, 12) else fitsR N (insAll Ms r.1)
def rsG (N : List PM) (u f : ByteArray) (g : FM) : List PM × Int := rsT N u (g.mails.map (mailP u f)) (freshR (emptyR N u f) N u f g.next)
def rsO (N : List PM) (u f : ByteArray) : Option FM → List PM × Int
  | some g => rsG N u f g
  | none => (N, 16)
/-- A folder of the list, if it is there. -/
def oldF (L : List PM) (u f : ByteArray) : Option FM := (takeAll (nextM L) u S0 L).bind fun S => lookF f S.fs
def rsR (N L : List PM) (u f : ByteArray) : List PM × Int := if (getM N (userK u)).isSome = false then (N, 15) else rsO N u f (oldF L u f)
abbrev S1F (nx : Int) (S : SM) (g : FM) : SM := ⟨S.aside, S.word, putF ⟨g.name, nx, g.next, []⟩ S.fs⟩
abbrev S2F (nx : Int) (S : SM) (g : FM) : SM := ⟨S.aside, S.word, putF ⟨g.name, nx, g.next, g.mails⟩ S.fs⟩
/-- What a restored folder makes of a desk. -/
def rsM (nx : Int) (u : ByteArray) (S : SM) (g : FM) : Int × Int × SM :=
  if 9999 < nx then (6, nx, S) else if 60 < (deskP (nx + 1) u (S1F nx S g)).length then (7, nx + 1, S1F nx S g) else if 6 < sumF (S2F nx S g).fs then (12, nx + 1, S2F nx S g) else if 60 < (deskP (nx + 1) u (S2F nx S g)).length then (7, nx + 1, S2F nx S g) else (0, nx + 1, S2F nx S g)
def FitG (g : FM) : Prop := 0 ≤ g.next ∧ g.next ≤ 10000 ∧ g.name.size ≤ 1000 ∧ (∀ m ∈ g.mails, 0 ≤ m.1 ∧ m.1 < 1000 ∧ 0 ≤ m.2.1 ∧ m.2.1 ≤ 3 ∧ m.2.2.size ≤ 1000)
/-- What both say of a restored folder. -/
def RsFits (N : List PM) (nx : Int) (u : ByteArray) (g : FM) (q nx' : Int) (S' : SM) (A : List PM × Int) : Prop :=
  (q ≠ 0 → A = (N, q)) ∧ (q = 0 → A.2 = 0 ∧ nx' = nx + 1 ∧ A.1.length ≤ 60 ∧ Lies A.1 nx' u S')
theorem empty_next {N : List PM} {nx : Int} {u f : ByteArray} {S : SM} (h : Lies N nx u S) (n0 : 0 ≤ nx) (n1 : nx ≤ 10000) (hus : (47 : UInt8) ∉ u.data.toList) (hfs : (47 : UInt8) ∉ f.data.toList) : nextM (emptyR N u f) = nx := by
  have h1 : (vK, bs (itoa nx)) ∈ emptyR N u f := (empty_perm h hus hfs).mem_iff.2 List.mem_cons_self
  unfold nextM
  rw [(getM_mem (show UpL (emptyR N u f) from h.up.sublist List.filter_sublist)).2 h1]
  show (numB (bs (itoa nx)).data.toList).getD 0 = nx
  rw [show (bs (itoa nx)).data.toList = itoa nx from by simp [bs], num_of_is ⟨rfl, by omega⟩]
  rfl
theorem rs_fits {N : List PM} {nx : Int} {u f : ByteArray} {S S' : SM} {g : FM} {q nx' : Int} (h : Lies N nx u S) (n0 : 0 ≤ nx) (n1 : nx ≤ 10000) (hus : (47 : UInt8) ∉ u.data.toList) (hfs : (47 : UInt8) ∉ f.data.toList) (hgn : g.name = f) (hM : (g.mails.map (mailP u f)).Pairwise (fun a b => a.1 ≠ b.1)) (hQ : rsM nx u S g = (q, nx', S')) : RsFits N nx u g q nx' S' (rsG N u f g) := by
  unfold rsM at hQ
  unfold rsG freshR
  rw [empty_next h n0 n1 hus hfs]
  by_cases hx : 9999 < nx
  · rw [if_pos hx] at hQ
    cases hQ
    rw [if_pos hx]
    exact ⟨fun _ => rfl, fun h9 => by cases h9⟩
  rw [if_neg hx] at hQ
  rw [if_neg hx]
  have h1 := lies_fresh (next := g.next) h hus hfs
  obtain ⟨Y1, hY1⟩ : ∃ Y, insL (folderK u f) (metaT nx g.next) (insL vK (bs (itoa (nx + 1))) (emptyR N u f)) = Y := ⟨_, rfl⟩
  rw [hY1] at h1 ⊢
  have e1 : (⟨S.aside, S.word, putF ⟨f, nx, g.next, []⟩ S.fs⟩ : SM) = S1F nx S g := by rw [← hgn]
  have l1 : Y1.length = (deskP (nx + 1) u (S1F nx S g)).length := by rw [← e1]; exact h1.pm.length_eq
  by_cases hl1 : 60 < (deskP (nx + 1) u (S1F nx S g)).length
  · rw [if_pos hl1] at hQ
    cases hQ
    have e2 : fitsR N Y1 = (N, 7) := by unfold fitsR; rw [if_pos (by omega)]
    rw [e2]
    exact ⟨fun _ => rfl, fun h9 => by cases h9⟩
  rw [if_neg hl1] at hQ
  have e2 : fitsR N Y1 = (Y1, 0) := by unfold fitsR; rw [if_neg (by omega)]
  rw [e2]
  have h2 := lies_mails h1 hus hfs hM
  have e3 : (⟨S.aside, S.word, putF ⟨f, nx, g.next, g.mails⟩ S.fs⟩ : SM) = S2F nx S g := by rw [← hgn]
  rw [e3] at h2
  unfold rsT
  rw [if_neg (by simp)]
  show RsFits N nx u g q nx' S' (if 6 < countM (insAll (g.mails.map (mailP u f)) Y1) u then (N, 12) else fitsR N (insAll (g.mails.map (mailP u f)) Y1))
  rw [lies_count h2 hus]
  have l2 := h2.pm.length_eq
  obtain ⟨Y2, hY2⟩ : ∃ Y, insAll (g.mails.map (mailP u f)) Y1 = Y := ⟨_, rfl⟩
  rw [hY2] at h2 l2 ⊢
  by_cases hs : 6 < sumF (S2F nx S g).fs
  · rw [if_pos hs] at hQ
    cases hQ
    rw [if_pos hs]
    exact ⟨fun _ => rfl, fun h9 => by cases h9⟩
  rw [if_neg hs] at hQ
  rw [if_neg hs]
  by_cases hl2 : 60 < (deskP (nx + 1) u (S2F nx S g)).length
  · rw [if_pos hl2] at hQ
    cases hQ
    have e4 : fitsR N Y2 = (N, 7) := by unfold fitsR; rw [if_pos (by omega)]
    rw [e4]
    exact ⟨fun _ => rfl, fun h9 => by cases h9⟩
  rw [if_neg hl2] at hQ
  cases hQ
  have e4 : fitsR N Y2 = (Y2, 0) := by unfold fitsR; rw [if_neg (by omega)]
  rw [e4]
  exact ⟨fun h9 => absurd rfl h9, fun _ => ⟨rfl, rfl, by show Y2.length ≤ 60; omega, h2⟩⟩
theorem old_look {L : List PM} {u f : ByteArray} {S : SM} (hS : takeAll (nextM L) u S0 L = some S) : oldF L u f = lookF f S.fs := by
  unfold oldF
  rw [hS]
  rfl
theorem old_meta {L : List PM} {u f : ByteArray} (h : storeB L = true) (hus : (47 : UInt8) ∉ u.data.toList) (hfs : (47 : UInt8) ∉ f.data.toList) : (oldF L u f).isSome = (metaM L u f).isSome := by
  obtain ⟨S, hS, _, _⟩ := take_all h hus
  rw [old_look hS]
  exact (look_iff h hus hS hfs).1
end Go.Proofs.YtbpgncgmolpkiaaGreatDoor
namespace Go.Proofs.YtbpgncgmolpkiaaGreatDoor
open Go.ChangeShapes Go.WideShapes Go.ChangeAt Go.RowKit Go.Deep Go.Lib
set_option linter.unusedVariables false
set_option linter.unusedSimpArgs false
set_option maxRecDepth 100000

set_option maxHeartbeats 2000000 in
theorem l07EmptyX (b o n c : Nat) (hc : n ≤ c) (hc9 : c ≤ maxLen) (L : List PM) (hL : L.length = n) (hg : GoodL L) (u f : ByteArray) (hus : u.size ≤ 1000) (hfs : f.size ≤ 1000) (w : World) (h : Src w (some ⟨b, o, none⟩) (cellsP L)) (hx0 : ∃ x ∈ L, beginsB x.1 (preK u f) = false) :
    Calls Tryz.prog 52 #[.slice (some ⟨b, o, none⟩) n c, .string u, .string f] w fun e w' => ∃ b2 o2 n2 c2, e = .returned (.slice (some ⟨b2, o2, none⟩) n2 c2) ∧ n2 ≤ c2 ∧ c2 ≤ maxLen ∧ (emptyR L u f).length = n2 ∧ Src w' (some ⟨b2, o2, none⟩) (cellsP (emptyR L u f)) ∧ Below w.heap.size w w' := by
  have hn60 := hg.1
  rw [hL] at hn60
  have CM := fun W => l07MailsS u f W hus hfs
  have hpz := preK_size u f
  have CU := fun W (hW : Below w.heap.size w W) => l01Under (some ⟨b, o, none⟩) n c (fK L) (fV L) (preK u f) W (by omega) (by omega) (fun i hi => by
    have hi2 : i < L.length := by omega
    obtain ⟨e1, e2⟩ := at_fst hi2
    rw [e1, e2]
    have := hg.2.1 _ (List.getElem_mem hi2)
    omega) (sp_src (h.below hW) hL)
  have eU : under (fK L) (fV L) (preK u f) n = L.filter fun x => beginsB x.1 (preK u f) := by
    rw [under_is L (preK u f) n (by omega), List.take_of_length_le (by omega)]
  simp only [eU] at CU
  have HE : Hid (lessTo L (L.filter fun x => beginsB x.1 (preK u f)) (L.filter fun x => beginsB x.1 (preK u f)).length = emptyR L u f) := less_end L (preK u f)
  have hul : (L.filter fun x => beginsB x.1 (preK u f)).length ≤ L.length := List.length_filter_le _ _
  have HLP : Hid (∀ j, 1 ≤ (lessTo L (L.filter fun x => beginsB x.1 (preK u f)) j).length) := fun j => by
    obtain ⟨x, x1, x2⟩ := hx0
    refine List.length_pos_of_mem (a := x) (List.mem_filter.2 ⟨x1, List.all_eq_true.2 fun y hy => decide_eq_true fun e => ?_⟩)
    have h9 := (List.mem_filter.1 ((List.take_subset j _) hy)).2
    rw [← e, x2] at h9
    cases h9
  obtain ⟨U, hU⟩ : ∃ t, (L.filter fun x => beginsB x.1 (preK u f)) = t := ⟨_, rfl⟩
  simp only [hU] at CU
  rw [hU] at HE hul HLP
  obtain ⟨m, hm⟩ : ∃ t, U.length = t := ⟨_, rfl⟩
  rw [hm] at HE hul
  have hmb : m ≤ 60 := by rw [hL] at hul; omega
  have HUM : Hid (U.length = m) := hm
  obtain ⟨KP, hKP⟩ : ∃ t, preK u f = t := ⟨_, rfl⟩
  simp only [hKP] at CM CU
  have HLN : Hid (L.length = n) := hL
  have HLL : Hid (∀ j, (lessTo L U j).length ≤ n) := fun j => by rw [← hL]; exact less_len L U j
  have H0 : Hid ((lessTo L U 0).length = n ∧ Src w (some ⟨b, o, none⟩) (cellsP (lessTo L U 0))) := by
    have e : lessTo L U 0 = L := by
      unfold lessTo
      rw [List.filter_eq_self]
      intro p _
      rfl
    rw [e]
    exact ⟨hL, h⟩
  obtain ⟨ER, hER⟩ : ∃ t, emptyR L u f = t := ⟨_, rfl⟩
  rw [hER] at HE ⊢
  clear hL hg h eU hU hm hKP hpz hER hul hx0
  go_enter Tryz.func52, Tryz.ntmps52
  go_wp2_with fail
  refine (CM _).mono ?_
  rintro e w1 ⟨rfl, hw1⟩
  obtain rfl := hw1
  clear CM
  go_wp2_with fail
  refine (CU _ (Below.refl _ _)).mono ?_
  rintro e w2 ⟨v2, rfl, ho2, hb2⟩
  have ho3 : w2.ownsRow w1.heap.size 47 2 v2 U.length (cellsP U) := ho2
  rw [HUM.out] at ho3
  obtain ⟨au, cu, rfl, hsu, _⟩ := own_src ho3
  have B2 : Hid (Below w1.heap.size w1 w2) := hb2
  have HSU : Hid (Src w2 au (cellsP U)) := hsu
  clear CU ho2 ho3 hb2 hsu
  go_wp2_with fail
  go_loopw [8, 9] (fun v iv wr => ∃ (j n' b' o' c' : Nat), j ≤ m ∧ n' ≤ n ∧ v = .slice (some ⟨b', o', none⟩) n' c' ∧ n' ≤ c' ∧ c' ≤ maxLen ∧ iv = .int .i64 (j : Int) ∧ Hid ((lessTo L U j).length = n') ∧ Hid (Src wr (some ⟨b', o', none⟩) (cellsP (lessTo L U j))) ∧ Hid (Below w1.heap.size w1 wr) ∧ Hid (Below w2.heap.size w2 wr)) (fun _ i _ => m - (RowKit.intOf i).toNat)
  case atStart => exact ⟨0, n, b, o, c, Nat.zero_le _, Nat.le_refl _, rfl, hc, hc9, rfl, H0.out.1, H0.out.2.below B2.out, B2.out, Below.refl _ _⟩
  case round =>
    obtain ⟨j, n', b', o', c', hj, hn', rfl, hnc', hc9', rfl, hl, hs, hbr, hb2r⟩ := hrel
    by_cases hlt : j < m
    · have hltj : (j : Int) < (m : Int) := by omega
      have hjl : j < U.length := by rw [HUM.out]; exact hlt
      obtain ⟨bu, ou, x, y, rfl, e0, e1, hx⟩ := srcP (HSU.out.below hb2r.out) hjl
      obtain ⟨mm, hmm⟩ : ∃ t, (lessTo L U (j + 1)).length = t := ⟨_, rfl⟩
      have hm1 : 1 ≤ mm := by rw [← hmm]; exact HLP.out (j + 1)
      have hstep0 := less_step L U j hjl
      rw [hx.out] at hstep0
      have CD := l01DropO (some ⟨b', o', none⟩) n' c' (lessTo L U j) x wr hl.out (by omega) hs.out mm (by rw [hstep0]; exact hmm) hm1
      have HMM : Hid ((lessTo L U (j + 1)).length = mm) := hmm
      clear hstep0
      have hstep := less_step L U j hjl
      rw [hx.out] at hstep
      rw [hstep] at CD
      have hln := HLL.out (j + 1)
      clear hstep hx hl hs
      go_wp2_with fail
      refine CD.mono ?_
      rintro e w4 ⟨b4, c4, rfl, j1, j2, k2, hb4⟩
      have HF : Hid ((lessTo L U (j + 1)).length = mm ∧ Src w4 (some ⟨b4, 0, none⟩) (cellsP (lessTo L U (j + 1))) ∧ Below w1.heap.size w1 w4 ∧ Below w2.heap.size w2 w4) := ⟨HMM.out, k2, hbr.out.trans (hb4.mono hbr.out.size), hb2r.out.trans (hb4.mono hb2r.out.size)⟩
      have hn4 : mm ≤ n := by rw [← HMM.out]; exact HLL.out (j + 1)
      have hm60 : m ≤ 60 := hmb
      clear CD k2 hb4 hmm
      go_wp2_with fail
      exact ⟨⟨j + 1, mm, b4, 0, c4, by omega, hn4, rfl, j1, j2, by go_num, HF.out⟩, by simp [RowKit.intOf]; omega⟩
    · obtain rfl : j = m := by omega
      have hltj : ¬ (j : Int) < (j : Int) := by omega
      have HF : Hid (n' ≤ c' ∧ c' ≤ maxLen ∧ ER.length = n' ∧ Src wr (some ⟨b', o', none⟩) (cellsP ER) ∧ Below w1.heap.size w1 wr) := by
        have e9 := HE.out
        rw [← e9]
        exact ⟨hnc', hc9', hl.out, hs.out, hbr.out⟩
      clear hl hs
      go_wp2_with fail
      go_ret
      exact ⟨b', o', n', c', rfl, HF.out⟩
set_option maxHeartbeats 1000000 in
theorem l07CountW (a : Option Addr) (n c : Nat) (L : List PM) (u : ByteArray) (w : World) (hL : L.length = n) (hn : n ≤ 4000) (hg : ∀ x ∈ L, x.1.size ≤ 1048576 ∧ x.2.size ≤ 1048576) (hu : u.size ≤ 1000) (h : Src w a (cellsP L)) :
    Calls Tryz.prog 83 #[.slice a n c, .string u] w fun e w' => e = .returned (.int .i64 (countM L u : Int)) ∧ Below w.heap.size w w' := by
  have hz : (mailsK u).size ≤ 1048576 := by unfold mailsK; rw [ByteArray.size_append, ByteArray.size_append]; show 2 + u.size + 1 ≤ _; omega
  have CU := l01Under a n c (fK L) (fV L) (mailsK u) w (by omega) hz (fun i hi => by
    have hi2 : i < L.length := by omega
    have := hg _ (List.getElem_mem hi2)
    rw [(at_fst hi2).1, (at_fst hi2).2]
    omega) (sp_src h hL)
  have HC : Hid ((under (fK L) (fV L) (mailsK u) n).length = countM L u) := by
    show _ = _
    rw [under_len L (mailsK u) n (by omega), ← hL, List.take_of_length_le (Nat.le_refl _)]
    rfl
  clear h hg hL hz
  go_enter Tryz.func83, Tryz.ntmps83
  go_wp2_with fail
  refine CU.mono ?_
  rintro e w1 ⟨v, rfl, own, hb⟩
  obtain ⟨aa, cc, rfl, _, _⟩ := own.open
  rw [HC.out]
  clear own
  go_wp2_with fail
  go_ret
  exact ⟨rfl, hb⟩
theorem insAll_mem (X : List PM) : ∀ {R : List PM} {x : PM}, UpL R → x ∈ insAll X R → x ∈ X ∨ x ∈ R := by
  induction X with
  | nil => exact fun _ h => .inr h
  | cons p X ih =>
    intro R x hu h
    rcases ih (ins_up hu) (show x ∈ insAll X (insL p.1 p.2 R) from h) with h | h
    · exact .inl (List.mem_cons_of_mem _ h)
    · rcases ins_mem hu h with h | h
      · exact .inl (by rw [h]; exact List.mem_cons_self)
      · exact .inr h.1
theorem fresh_small {N W R : List PM} {u f : ByteArray} {nx : Int} (hu : UpL N) (hN : ∀ x ∈ N, x.1.size ≤ 1000 ∧ x.2.size ≤ 1000) (h0 : 0 ≤ nextM N) (hus : u.size ≤ 100) (hfs : f.size ≤ 100) (n0 : 0 ≤ nx) (n1 : nx ≤ 10000) (h : freshR N W u f nx = (R, 0)) : ∀ x ∈ R, x.1.size ≤ 1000 ∧ x.2.size ≤ 1000 := by
  unfold freshR at h
  split at h
  · cases h
  · rename_i hx
    unfold fitsR at h
    split at h
    · cases h
    · cases h
      intro x hx9
      rcases ins_mem (ins_up hu) hx9 with rfl | hx9
      · have h1 := metaT_size h0 (by omega) n0 n1
        have h2 : (folderK u f).size = u.size + f.size + 3 := by
          rw [size_of, folderK_data, size_of, size_of]
          simp only [List.length_cons, List.length_append]
          omega
        exact ⟨by show (folderK u f).size ≤ 1000; omega, by show (metaT (nextM N) nx).size ≤ 1000; omega⟩
      · rcases ins_mem hu hx9.1 with rfl | hx8
        · have h3 := itoa_small (nextM N + 1) (by omega) (by omega)
          exact ⟨by show vK.size ≤ 1000; decide, by show (bs (itoa (nextM N + 1))).size ≤ 1000; omega⟩
        · exact hN x hx8.1
theorem mail_small {u f : ByteArray} {Ms : List MMl} (hus : u.size ≤ 100) (hfs : f.size ≤ 100) (hM : FitMs Ms) : ∀ x ∈ Ms.map (mailP u f), x.1.size ≤ 1048576 ∧ x.2.size ≤ 1048576 := fun x hx => by
  obtain ⟨m, hm, rfl⟩ := List.mem_map.1 hx
  obtain ⟨y0, y1, y2, y3, y4⟩ := hM m hm
  have h1 : (mailP u f m).1.size = u.size + f.size + 4 + (d3 m.1.toNat).length := by
    show (mailK u f m.1).size = _
    rw [size_of, size_of, size_of]
    simp [bs]
    omega
  have h2 : (mailP u f m).2.size = (bs (itoa m.2.1)).size + m.2.2.size := by
    show (mailV m).size = _
    unfold mailV
    rw [ByteArray.size_append]
  have h3 := itoa_small m.2.1 y2 (by omega)
  obtain ⟨x, y, z, hx, hy, hz, he⟩ := split3 m.1.toNat (by omega)
  have h4 : (d3 m.1.toNat).length = 3 := by
    rw [he]
    unfold d3
    rw [dec4 x y z hx hy hz]
    rfl
  exact ⟨by omega, by omega⟩
set_option maxHeartbeats 8000000 in
theorem l08RestoreS (b o n c : Nat) (N : List PM) (hN : N.length = n) (hc : n ≤ c) (hc9 : c ≤ maxLen) (hg : GoodL N) (b2 : Option Addr) (n2 c2 : Nat) (L : List PM) (hL : L.length = n2) (hst : storeB L = true) (u f : ByteArray) (hsu : shortB u = true) (hsf : shortB f = true) (n0 : 0 ≤ nextM N) (hx0 : ∃ x ∈ N, beginsB x.1 (preK u f) = false) (hne0 : nextM (emptyR N u f) = nextM N) (w : World) (h : Src w (some ⟨b, o, none⟩) (cellsP N)) (h2 : Src w b2 (cellsP L)) (R : List PM) (q : Int) (HR : Hid (rsR N L u f = (R, q))) :
    Calls Tryz.prog 43 #[.slice (some ⟨b, o, none⟩) n c, .slice b2 n2 c2, .string u, .string f] w fun e w' => ∃ a3 n3 c3, e = .returned (.tuple #[.slice a3 n3 c3, .int .i64 q]) ∧ R.length = n3 ∧ Src w' a3 (cellsP R) ∧ Below w.heap.size w w' ∧ (q = 0 → (∃ g, a3 = some ⟨g, 0, none⟩) ∧ n3 ≤ c3 ∧ c3 ≤ maxLen) := by
  have hn60 := hg.1
  rw [hN] at hn60
  have hus := word_slash hsu
  have hfs := word_slash hsf
  have zu := short_size' hsu
  have zf := short_size' hsf
  obtain ⟨hgl, _⟩ := store_facts hst
  have hl60 := hgl.1
  rw [hL] at hl60
  have HLN : Hid (N.length = n ∧ Src w (some ⟨b, o, none⟩) (cellsP N)) := ⟨hN, h⟩
  have HBAD : Hid (∀ (W : World) (z : Int), z ≠ 0 → Below w.heap.size w W → (N, z) = (R, q) → ∃ a3 n3 c3, Ending.returned (Value.tuple #[.slice (some ⟨b, o, none⟩) n c, .int .i64 z]) = Ending.returned (.tuple #[.slice a3 n3 c3, .int .i64 q]) ∧ R.length = n3 ∧ Src W a3 (cellsP R) ∧ Below w.heap.size w W ∧ (q = 0 → (∃ g, a3 = some ⟨g, 0, none⟩) ∧ n3 ≤ c3 ∧ c3 ≤ maxLen)) := fun W z hz hW he => by
    cases he
    exact ⟨_, _, _, rfl, HLN.out.1, HLN.out.2.below hW, hW, fun h9 => absurd h9 hz⟩
  have CU := fun W => l07UserS u W (by omega)
  have CG := fun W (hW : Below w.heap.size w W) => l01GetM (some ⟨b, o, none⟩) n c N (userK u) W hN hg (h.below hW)
  obtain ⟨tv, htv⟩ : ∃ t, (getM N (userK u)).getD e0 = t := ⟨_, rfl⟩
  obtain ⟨tb, htb⟩ : ∃ t, (getM N (userK u)).isSome = t := ⟨_, rfl⟩
  simp only [htv, htb] at CG
  obtain ⟨KU, hKU⟩ : ∃ t, userK u = t := ⟨_, rfl⟩
  simp only [hKU] at CU CG
  have HR1 := HR.out
  unfold rsR at HR1
  rw [htb] at HR1
  cases tb with
  | false =>
    rw [if_pos rfl] at HR1
    have HFH : Hid (∀ W, Below w.heap.size w W → ∃ a3 n3 c3, Ending.returned (Value.tuple #[.slice (some ⟨b, o, none⟩) n c, .int .i64 15]) = Ending.returned (.tuple #[.slice a3 n3 c3, .int .i64 q]) ∧ R.length = n3 ∧ Src W a3 (cellsP R) ∧ Below w.heap.size w W ∧ (q = 0 → (∃ g, a3 = some ⟨g, 0, none⟩) ∧ n3 ≤ c3 ∧ c3 ≤ maxLen)) := fun W hW => HBAD.out W 15 (by decide) hW HR1
    clear hN hL h h2 hg HR HR1 HBAD hst hsu hsf hus hfs n0 hx0 hne0 htv htb hKU hgl
    go_enter Tryz.func43, Tryz.ntmps43
    go_wp2_with fail
    refine (CU _).mono ?_
    rintro e w1 ⟨rfl, hw1⟩
    obtain rfl := hw1
    clear CU
    go_wp2_with fail
    refine (CG _ (Below.refl _ _)).mono ?_
    rintro e w2 ⟨rfl, hw2⟩
    obtain rfl := hw2
    have B2 : Hid (Below w2.heap.size w2 w2) := Below.refl _ _
    clear CG
    have HG : Hid (∃ a3 n3 c3, Ending.returned (Value.tuple #[.slice (some ⟨b, o, none⟩) n c, .int .i64 15]) = Ending.returned (.tuple #[.slice a3 n3 c3, .int .i64 q]) ∧ R.length = n3 ∧ Src w2 a3 (cellsP R) ∧ Below w2.heap.size w2 w2 ∧ (q = 0 → (∃ g, a3 = some ⟨g, 0, none⟩) ∧ n3 ≤ c3 ∧ c3 ≤ maxLen)) := HFH.out w2 B2.out
    clear HFH
    go_wp2_with fail
    exact bodyPost_ret (v := .tuple #[.slice (some ⟨b, o, none⟩) n c, .int .i64 15]) (by simp [results, Tryz.results43, go_sem]) rfl HG.out
  | true =>
  rw [if_neg (by decide)] at HR1
  have CM := fun W (hW : Below w.heap.size w W) => l07MetaS b2 n2 c2 L u f W hL hgl (by omega) (by omega) (h2.below hW)
  obtain ⟨tm, htm⟩ : ∃ t, (metaM L u f).isSome = t := ⟨_, rfl⟩
  rw [htm] at CM
  have hom := old_meta hst hus hfs
  rw [htm] at hom
  cases tm with
  | false =>
    have ho : oldF L u f = none := by
      cases hv : oldF L u f with
      | none => rfl
      | some z => rw [hv] at hom; cases hom
    rw [ho] at HR1
    have HFH : Hid (∀ W, Below w.heap.size w W → ∃ a3 n3 c3, Ending.returned (Value.tuple #[.slice (some ⟨b, o, none⟩) n c, .int .i64 16]) = Ending.returned (.tuple #[.slice a3 n3 c3, .int .i64 q]) ∧ R.length = n3 ∧ Src W a3 (cellsP R) ∧ Below w.heap.size w W ∧ (q = 0 → (∃ g, a3 = some ⟨g, 0, none⟩) ∧ n3 ≤ c3 ∧ c3 ≤ maxLen)) := fun W hW => HBAD.out W 16 (by decide) hW HR1
    clear hN hL h h2 hg HR HR1 HBAD hst hsu hsf hus hfs n0 hx0 hne0 htv htb hKU hgl hom ho htm
    go_enter Tryz.func43, Tryz.ntmps43
    go_wp2_with fail
    refine (CU _).mono ?_
    rintro e w1 ⟨rfl, hw1⟩
    obtain rfl := hw1
    clear CU
    go_wp2_with fail
    refine (CG _ (Below.refl _ _)).mono ?_
    rintro e w2 ⟨rfl, hw2⟩
    obtain rfl := hw2
    have B2 : Hid (Below w2.heap.size w2 w2) := Below.refl _ _
    have CM2 := CM w2 B2.out
    clear CG CM
    go_wp2_with fail
    refine CM2.mono ?_
    rintro e w3 ⟨x3, y3, rfl, _, hb3⟩
    have B3 : Hid (Below w2.heap.size w2 w3) := B2.out.trans (hb3.mono B2.out.size)
    clear hb3 CM2
    have HG : Hid (∃ a3 n3 c3, Ending.returned (Value.tuple #[.slice (some ⟨b, o, none⟩) n c, .int .i64 16]) = Ending.returned (.tuple #[.slice a3 n3 c3, .int .i64 q]) ∧ R.length = n3 ∧ Src w3 a3 (cellsP R) ∧ Below w2.heap.size w2 w3 ∧ (q = 0 → (∃ g, a3 = some ⟨g, 0, none⟩) ∧ n3 ≤ c3 ∧ c3 ≤ maxLen)) := HFH.out w3 B3.out
    clear HFH
    go_wp2_with fail
    exact bodyPost_ret (v := .tuple #[.slice (some ⟨b, o, none⟩) n c, .int .i64 16]) (by simp [results, Tryz.results43, go_sem]) rfl HG.out
  | true =>
  obtain ⟨g, hog⟩ := Option.isSome_iff_exists.1 hom
  rw [hog] at HR1
  obtain ⟨S, hS, _, _⟩ := take_all hst hus
  have hl : lookF f S.fs = some g := by rw [← old_look hS]; exact hog
  have hmt := look_meta hst hS hl
  have hfit := store_fit hst hS g (lookF_mem hl).1
  have hw : S.word.toList ≠ [] := by
    intro e
    have h9 := ((word_iff hst hus hS).1).1 e
    have h8 := no_folders hst hus hS h9
    rw [h8] at hl
    cases hl
  have CO := fun W (hW : Below w.heap.size w W) => l07OfS b2 n2 c2 L hL hgl u f (by omega) (by omega) g.mails (fit_ms hfit) (fol_mails hst hus hfs hS hw hl) W (h2.below hW)
  have hml60 : g.mails.length ≤ 60 := by
    have h9 := (store_sub hst hS g (lookF_mem hl).1).length_le
    rw [List.length_map] at h9
    omega
  have CE := fun W (hW : Below w.heap.size w W) => l07EmptyX b o n c hc hc9 N hN hg u f (by omega) (by omega) W (h.below hW) hx0
  have hel : (emptyR N u f).length ≤ n := by rw [← hN]; exact List.length_filter_le _ _
  have hgw : GoodW (emptyR N u f) := ⟨by omega, fun x hx => hg.2.1 x (List.mem_filter.1 hx).1, hg.2.2.sublist List.filter_sublist⟩
  have hn0 : 0 ≤ nextM (emptyR N u f) := by rw [hne0]; exact n0
  obtain ⟨R1, q1, hR1⟩ : ∃ R1 q1, freshR (emptyR N u f) N u f g.next = (R1, q1) := ⟨_, _, rfl⟩
  have HR2 : rsT N u (g.mails.map (mailP u f)) (R1, q1) = (R, q) := by rw [← hR1]; exact HR1
  have CR := fun (b3 o3 n3 c3 : Nat) (W : World) (hW : Below w.heap.size w W) (j0 : (emptyR N u f).length = n3) (j1 : n3 ≤ c3) (j2 : c3 ≤ maxLen) (j3 : Src W (some ⟨b3, o3, none⟩) (cellsP (emptyR N u f))) => l07FreshX b3 o3 n3 c3 (emptyR N u f) j0 (by omega) j1 j2 hgw (some ⟨b, o, none⟩) n c N hN u f g.next W j3 (h.below hW) (by omega) (by omega) hn0 hfit.2.2.1 hfit.2.2.2.1 R1 q1 hR1
  have HRU : Hid (q1 = 0 → R1.length ≤ 60 ∧ UpL R1 ∧ ∀ x ∈ R1, x.1.size ≤ 1000 ∧ x.2.size ≤ 1000) := fun e => by
    subst e
    obtain ⟨k1, k2⟩ := fresh_ok hgw.2.2 hR1
    exact ⟨k1, k2, fresh_small hgw.2.2 (fun x hx => by have := hgw.2.1 x hx; omega) hn0 (by omega) (by omega) hfit.2.2.1 hfit.2.2.2.1 hR1⟩
  obtain ⟨ER, hER⟩ : ∃ t, emptyR N u f = t := ⟨_, rfl⟩
  simp only [hER] at CE CR
  obtain ⟨gv, hgv⟩ : ∃ t, g.val = t := ⟨_, rfl⟩
  obtain ⟨gn, hgn⟩ : ∃ t, g.next = t := ⟨_, rfl⟩
  obtain ⟨Ms, hMs⟩ : ∃ t, g.mails = t := ⟨_, rfl⟩
  have HFM : Hid (FitMs Ms) := by rw [← hMs]; exact fit_ms hfit
  obtain ⟨ml, hml⟩ : ∃ t, Ms.length = t := ⟨_, rfl⟩
  simp only [hMs, hml] at CO
  simp only [hgn] at CR
  rw [hgv, hgn] at hmt
  rw [hMs] at HR2 hml60
  rw [hml] at hml60
  obtain ⟨X, hX⟩ : ∃ t, Ms.map (mailP u f) = t := ⟨_, rfl⟩
  rw [hX] at HR2
  have HX : Hid (Ms.map (mailP u f) = X) := hX
  have HML : Hid (Ms.length = ml) := hml
  have HRT : Hid (rsT N u X (R1, q1) = (R, q)) := HR2
  have HMT : Hid (metaM L u f = some (gv, gn)) := hmt
  have HXS : Hid (∀ x ∈ X, x.1.size ≤ 1048576 ∧ x.2.size ≤ 1048576) := by rw [← hX]; exact mail_small (by omega) (by omega) HFM.out
  clear hN hL h h2 hg HR HR1 HR2 hst hsu hsf hus hfs n0 hx0 hne0 htv htb hKU hgl hom hog hS hl hmt hfit hw hgw hn0 hR1 hER hgv hgn hMs hml hX hel htm
  go_enter Tryz.func43, Tryz.ntmps43
  go_wp2_with fail
  refine (CU _).mono ?_
  rintro e w1 ⟨rfl, hw1⟩
  obtain rfl := hw1
  clear CU
  go_wp2_with fail
  refine (CG _ (Below.refl _ _)).mono ?_
  rintro e w2 ⟨rfl, hw2⟩
  obtain rfl := hw2
  have B2 : Hid (Below w2.heap.size w2 w2) := Below.refl _ _
  have CM2 := CM w2 B2.out
  clear CG CM
  go_wp2_with fail
  refine CM2.mono ?_
  rintro e w3 ⟨x3, y3, rfl, hp3, hb3⟩
  obtain ⟨e31, e32⟩ := hp3 _ HMT.out
  have e31' : x3 = gv := e31
  have e32' : y3 = gn := e32
  subst e31' e32'
  have B3 : Hid (Below w2.heap.size w2 w3) := B2.out.trans (hb3.mono B2.out.size)
  have CO3 := CO w3 B3.out
  clear hb3 CM2 hp3 e31 e32 CO HMT
  go_wp2_with fail
  refine CO3.mono ?_
  rintro e w4 ⟨v4, rfl, ho4, hb4⟩
  obtain ⟨am, cm, rfl, hs4, _⟩ := own_src ho4
  have B4 : Hid (Below w2.heap.size w2 w4) := B3.out.trans (hb4.mono B3.out.size)
  have S4 : Hid (Src w4 am (cellsMl Ms)) := hs4
  have CE4 := CE w4 B4.out
  clear hb4 CO3 CE ho4 hs4
  go_wp2_with fail
  refine CE4.mono ?_
  rintro e w5 ⟨b5, o5, n5, c5, rfl, j1, j2, j0, j3, hb5⟩
  have B5 : Hid (Below w2.heap.size w2 w5) := B4.out.trans (hb5.mono B4.out.size)
  have S5 : Hid (Src w5 am (cellsMl Ms)) := S4.out.below hb5
  have CR5 := CR b5 o5 n5 c5 w5 B5.out j0 j1 j2 j3
  clear CE4 hb5 j0 j1 j2 j3 CR
  go_wp2_with fail
  refine CR5.mono ?_
  rintro e w8 ⟨a8, n8, c8, rfl, j1, j2, hb8, j3⟩
  have B8 : Hid (Below w2.heap.size w2 w8) := B5.out.trans (hb8.mono B5.out.size)
  have S8 : Hid (Src w8 am (cellsMl Ms)) := S5.out.below hb8
  have HJ : Hid (R1.length = n8 ∧ Src w8 a8 (cellsP R1) ∧ (q1 = 0 → (∃ g, a8 = some ⟨g, 0, none⟩) ∧ n8 ≤ c8 ∧ c8 ≤ maxLen)) := ⟨j1, j2, j3⟩
  clear CR5 hb8 j1 j2 j3
  by_cases eq1 : q1 = 0
  case neg =>
    have HRT9 := HRT.out
    unfold rsT at HRT9
    rw [if_pos eq1] at HRT9
    have HFH : Hid (∀ W, Below w2.heap.size w2 W → ∃ a3 n3 c3, Ending.returned (Value.tuple #[.slice (some ⟨b, o, none⟩) n c, .int .i64 q1]) = Ending.returned (.tuple #[.slice a3 n3 c3, .int .i64 q]) ∧ R.length = n3 ∧ Src W a3 (cellsP R) ∧ Below w2.heap.size w2 W ∧ (q = 0 → (∃ g, a3 = some ⟨g, 0, none⟩) ∧ n3 ≤ c3 ∧ c3 ≤ maxLen)) := fun W hW => HBAD.out W q1 eq1 hW HRT9
    have hqi : (q1 != 0) = true := by simpa using eq1
    clear HRT9 HRT HBAD
    have HG : Hid (∃ a3 n3 c3, Ending.returned (Value.tuple #[.slice (some ⟨b, o, none⟩) n c, .int .i64 q1]) = Ending.returned (.tuple #[.slice a3 n3 c3, .int .i64 q]) ∧ R.length = n3 ∧ Src w8 a3 (cellsP R) ∧ Below w2.heap.size w2 w8 ∧ (q = 0 → (∃ g, a3 = some ⟨g, 0, none⟩) ∧ n3 ≤ c3 ∧ c3 ≤ maxLen)) := HFH.out w8 B8.out
    clear HFH
    go_wp2_with fail
    exact bodyPost_ret (v := .tuple #[.slice (some ⟨b, o, none⟩) n c, .int .i64 q1]) (by simp [results, Tryz.results43, go_sem]) rfl HG.out
  subst eq1
  obtain ⟨⟨g8, rfl⟩, hnc, hc8⟩ := HJ.out.2.2 rfl
  obtain ⟨h60, hup, hsm⟩ := HRU.out rfl
  have HRS : Hid ((if 6 < countM (insAll X R1) u then (N, 12) else fitsR N (insAll X R1)) = (R, q)) := by
    have h9 := HRT.out
    unfold rsT at h9
    rw [if_neg (by simp)] at h9
    exact h9
  have HUP : Hid (UpL R1 ∧ ∀ x ∈ R1, x.1.size ≤ 1000 ∧ x.2.size ≤ 1000) := ⟨hup, hsm⟩
  have H8 : Hid (R1.length = n8 ∧ Src w8 (some ⟨g8, 0, none⟩) (cellsP R1)) := ⟨HJ.out.1, HJ.out.2.1⟩
  have hn8 : n8 ≤ 60 := by rw [← HJ.out.1]; exact h60
  clear HJ HRT HRU h60 hup hsm
  go_wp2_with fail
  go_loopw [16, 18] (fun v iv wr => ∃ (j n' g' c' : Nat), j ≤ ml ∧ v = .slice (some ⟨g', 0, none⟩) n' c' ∧ iv = .int .i64 (j : Int) ∧ n' ≤ c' ∧ c' ≤ maxLen ∧ Hid ((insAll (X.take j) R1).length = n') ∧ Hid (Src wr (some ⟨g', 0, none⟩) (cellsP (insAll (X.take j) R1))) ∧ Hid (Below w2.heap.size w2 wr) ∧ Hid (Below w8.heap.size w8 wr)) (fun _ i _ => ml - (RowKit.intOf i).toNat)
  case atStart => exact ⟨0, n8, g8, c8, by omega, rfl, rfl, hnc, hc8, H8.out.1, H8.out.2, B8.out, Below.refl _ _⟩
  case round =>
    obtain ⟨j, n', g', c', hj, rfl, rfl, hnc', hc', hlen, hsr, hbr, hb8r⟩ := hrel
    by_cases hlt : j < ml
    · have hlti : (j : Int) < (ml : Int) := by omega
      have hjM : j < Ms.length := by rw [HML.out]; exact hlt
      obtain ⟨bm, om, x0, x1, x2, rfl, m0, m1, m2, hx⟩ := srcMl (S8.out.below hb8r.out) hjM
      obtain ⟨y0, y1, y2, y3, y4⟩ := HFM.out (Ms.getD j ml0) (mem_getD' Ms ml0 j hjM)
      rw [hx.out] at y0 y1 y2 y3 y4
      dsimp only at y0 y1 y2 y3 y4
      obtain ⟨un, hun⟩ : ∃ un : Nat, (un : Int) = x0 := ⟨x0.toNat, by omega⟩
      subst hun
      have hu9 : un < 1000 := by omega
      have CMM := fun W => l07MailS u f un hu9 (by omega) (by omega) W
      have CGG := fun W => digitsI x1 y2 (by omega) W
      have hxj : X.getD j p0 = (mailK u f (un : Int), mailV ((un : Int), x1, x2)) := by
        rw [← HX.out, map_getD Ms j hjM, hx.out]
        rfl
      have hst9 := insAll_step X R1 j (by rw [← HX.out, List.length_map]; exact hjM)
      rw [hxj] at hst9
      have hil := insAll_len (X.take j) HUP.out.1
      have htl := List.length_take_le j X
      have hn9 : n' ≤ 200 := by
        rw [← hlen.out]
        have := H8.out.1
        omega
      have CP := fun W (hW : Below wr.heap.size wr W) => l01PutM g' 0 n' c' (insAll (X.take j) R1) (mailK u f (un : Int)) (mailV ((un : Int), x1, x2)) W hlen.out (by omega) hnc' hc' (insAll_up _ HUP.out.1) (hsr.out.below hW)
      rw [← hst9] at CP
      have HMV : Hid (bs (itoa x1) ++ x2 = mailV ((un : Int), x1, x2)) := rfl
      have hzi := itoa_small x1 y2 (by omega)
      obtain ⟨MK, hMK⟩ : ∃ t, mailK u f (un : Int) = t := ⟨_, rfl⟩
      obtain ⟨TI, hTI⟩ : ∃ t, bs (itoa x1) = t := ⟨_, rfl⟩
      obtain ⟨MV, hMV⟩ : ∃ t, mailV ((un : Int), x1, x2) = t := ⟨_, rfl⟩
      simp only [hMK] at CMM CP
      simp only [hTI] at CGG HMV hzi
      simp only [hMV] at CP HMV
      obtain ⟨I9, hI9⟩ : ∃ t, insAll (X.take (j + 1)) R1 = t := ⟨_, rfl⟩
      simp only [hI9] at CP
      have HI9 : Hid (insAll (X.take (j + 1)) R1 = I9) := hI9
      obtain ⟨n9, hn99⟩ : ∃ t, I9.length = t := ⟨_, rfl⟩
      simp only [hn99] at CP
      have HN9 : Hid (I9.length = n9) := hn99
      have hsz : TI.size + x2.size ≤ 2000 := by omega
      clear hst9 hxj hil htl hMK hTI hMV hI9 hn99 hx hlen hsr
      go_upto_region 14 with fail
      refine wp_region_noPanic ?_
      refine wp_region_held_drew (S := fun w' => w'.cell? ⟨bm, om + j * 3, none⟩ = some (.int .i64 (un : Int)) ∧ w'.cell? ⟨bm, om + j * 3 + 1, none⟩ = some (.int .i64 x1) ∧ w'.cell? ⟨bm, om + j * 3 + 2, none⟩ = some (.string x2)) (by kernel_rfl) ⟨m0, m1, m2⟩ (fun hHeld => ?_)
      refine tkA (i := 0) (v := .slice (some ⟨g', 0, none⟩) n' c') ?_ hHeld ?_
      · intro w9 hSw
        obtain ⟨z0, z1, z2⟩ := hSw
        go_simp
      simp only [Act.put, List.setIfInBounds_toArray, List.set_cons_zero, List.set_cons_succ]
      refine tkA (i := 1) (v := .string u) ?_ hHeld ?_
      · intro w9 hSw
        obtain ⟨z0, z1, z2⟩ := hSw
        go_simp
      simp only [Act.put, List.setIfInBounds_toArray, List.set_cons_zero, List.set_cons_succ]
      refine tkA (i := 2) (v := .string f) ?_ hHeld ?_
      · intro w9 hSw
        obtain ⟨z0, z1, z2⟩ := hSw
        go_simp
      simp only [Act.put, List.setIfInBounds_toArray, List.set_cons_zero, List.set_cons_succ]
      refine tkA (i := 3) (v := .slice (some ⟨bm, om, none⟩) ml cm) ?_ hHeld ?_
      · intro w9 hSw
        obtain ⟨z0, z1, z2⟩ := hSw
        go_simp
      simp only [Act.put, List.setIfInBounds_toArray, List.set_cons_zero, List.set_cons_succ]
      refine tkA (i := 4) (v := .int .i64 (j : Int)) ?_ hHeld ?_
      · intro w9 hSw
        obtain ⟨z0, z1, z2⟩ := hSw
        go_simp
      simp only [Act.put, List.setIfInBounds_toArray, List.set_cons_zero, List.set_cons_succ]
      refine tkA (i := 5) (v := .pointer (some ⟨bm, om + j * 3, none⟩)) ?_ hHeld ?_
      · intro w9 hSw
        obtain ⟨z0, z1, z2⟩ := hSw
        go_simp
      simp only [Act.put, List.setIfInBounds_toArray, List.set_cons_zero, List.set_cons_succ]
      refine tkA (i := 6) (v := .pointer (some ⟨bm, om + j * 3, none⟩)) ?_ hHeld ?_
      · intro w9 hSw
        obtain ⟨z0, z1, z2⟩ := hSw
        go_simp
      simp only [Act.put, List.setIfInBounds_toArray, List.set_cons_zero, List.set_cons_succ]
      refine tkA (i := 7) (v := .int .i64 (un : Int)) ?_ hHeld ?_
      · intro w9 hSw
        obtain ⟨z0, z1, z2⟩ := hSw
        go_simp
      simp only [Act.put, List.setIfInBounds_toArray, List.set_cons_zero, List.set_cons_succ]
      refine tkA (i := 9) (v := .slice (some ⟨bm, om, none⟩) ml cm) ?_ hHeld ?_
      · intro w9 hSw
        obtain ⟨z0, z1, z2⟩ := hSw
        go_simp
      simp only [Act.put, List.setIfInBounds_toArray, List.set_cons_zero, List.set_cons_succ]
      refine tkA (i := 10) (v := .int .i64 (j : Int)) ?_ hHeld ?_
      · intro w9 hSw
        obtain ⟨z0, z1, z2⟩ := hSw
        go_simp
      simp only [Act.put, List.setIfInBounds_toArray, List.set_cons_zero, List.set_cons_succ]
      refine tkA (i := 11) (v := .pointer (some ⟨bm, om + j * 3, none⟩)) ?_ hHeld ?_
      · intro w9 hSw
        obtain ⟨z0, z1, z2⟩ := hSw
        go_simp
      simp only [Act.put, List.setIfInBounds_toArray, List.set_cons_zero, List.set_cons_succ]
      refine tkA (i := 12) (v := .pointer (some ⟨bm, om + j * 3 + 1, none⟩)) ?_ hHeld ?_
      · intro w9 hSw
        obtain ⟨z0, z1, z2⟩ := hSw
        go_simp
      simp only [Act.put, List.setIfInBounds_toArray, List.set_cons_zero, List.set_cons_succ]
      refine tkA (i := 13) (v := .int .i64 x1) ?_ hHeld ?_
      · intro w9 hSw
        obtain ⟨z0, z1, z2⟩ := hSw
        go_simp
      simp only [Act.put, List.setIfInBounds_toArray, List.set_cons_zero, List.set_cons_succ]
      refine tkA (i := 15) (v := .slice (some ⟨bm, om, none⟩) ml cm) ?_ hHeld ?_
      · intro w9 hSw
        obtain ⟨z0, z1, z2⟩ := hSw
        go_simp
      simp only [Act.put, List.setIfInBounds_toArray, List.set_cons_zero, List.set_cons_succ]
      refine tkA (i := 16) (v := .int .i64 (j : Int)) ?_ hHeld ?_
      · intro w9 hSw
        obtain ⟨z0, z1, z2⟩ := hSw
        go_simp
      simp only [Act.put, List.setIfInBounds_toArray, List.set_cons_zero, List.set_cons_succ]
      refine tkA (i := 17) (v := .pointer (some ⟨bm, om + j * 3, none⟩)) ?_ hHeld ?_
      · intro w9 hSw
        obtain ⟨z0, z1, z2⟩ := hSw
        go_simp
      simp only [Act.put, List.setIfInBounds_toArray, List.set_cons_zero, List.set_cons_succ]
      refine tkA (i := 18) (v := .pointer (some ⟨bm, om + j * 3 + 2, none⟩)) ?_ hHeld ?_
      · intro w9 hSw
        obtain ⟨z0, z1, z2⟩ := hSw
        go_simp
      simp only [Act.put, List.setIfInBounds_toArray, List.set_cons_zero, List.set_cons_succ]
      refine tkA (i := 19) (v := .string x2) ?_ hHeld ?_
      · intro w9 hSw
        obtain ⟨z0, z1, z2⟩ := hSw
        go_simp
      simp only [Act.put, List.setIfInBounds_toArray, List.set_cons_zero, List.set_cons_succ]
      refine wpAnyH_ready (rs := [8]) (by kernel_rfl) (by simp) ?_
      refine AllReadyH.cons rfl (fun K hK => ?_) AllReadyH.nil
      go_simp
      refine (CMM _).mono ?_
      rintro e wm ⟨rfl, hbq⟩
      have BM : Hid (Below wr.heap.size wr wm) := (Below.refl _ _).drew.trans hbq
      clear hbq
      dsimp only
      refine hK _ _ ⟨cell_later BM.out m0, cell_later BM.out m1, cell_later BM.out m2⟩ (fun hHeld => ?_)
      clear hK K
      refine wpAnyH_ready (rs := [14]) (by kernel_rfl) (by simp) ?_
      refine AllReadyH.cons rfl (fun K hK => ?_) AllReadyH.nil
      go_simp
      refine (CGG _).mono ?_
      rintro e wd ⟨rfl, hbq⟩
      have BD : Hid (Below wr.heap.size wr wd) := BM.out.trans (hbq.mono BM.out.size)
      clear hbq
      dsimp only
      refine hK _ _ ⟨cell_later BD.out m0, cell_later BD.out m1, cell_later BD.out m2⟩ (fun hHeld => ?_)
      clear hK K
      refine tkA (i := 20) (v := .string MV) ?_ hHeld ?_
      · intro w9 hSw
        obtain ⟨z0, z1, z2⟩ := hSw
        have hmv := HMV.out
        go_simp
        omega
      simp only [Act.put, List.setIfInBounds_toArray, List.set_cons_zero, List.set_cons_succ]
      refine wpAnyH_ready (rs := [21]) (by kernel_rfl) (by simp) ?_
      refine AllReadyH.cons rfl (fun K hK => ?_) AllReadyH.nil
      go_simp
      have CPD := CP wd BD.out
      refine CPD.mono ?_
      rintro e wp ⟨gp, cp, rfl, j1, j2, j3, hbp⟩
      have BP : Hid (Below wr.heap.size wr wp) := BD.out.trans (hbp.mono BD.out.size)
      have HPF : Hid (n9 ≤ cp ∧ cp ≤ maxLen ∧ Src wp (some ⟨gp, 0, none⟩) (cellsP I9)) := ⟨j1, j2, j3⟩
      clear hbp j1 j2 j3 CPD
      dsimp only
      refine hK _ _ ⟨cell_later BP.out m0, cell_later BP.out m1, cell_later BP.out m2⟩ (fun hHeld => ?_)
      clear hK K
      refine wpAnyH_ready (rs := [22]) (by kernel_rfl) (by simp) ?_
      refine AllReadyH.cons rfl (fun K hK => ?_) AllReadyH.nil
      go_simp
      refine hK _ _ ⟨cell_later BP.out m0, cell_later BP.out m1, cell_later BP.out m2⟩ (fun hHeld => ?_)
      clear hK K
      refine wpAnyH_done (by kernel_rfl) ?_ _
      refine NoPanic.normal ?_
      clear hHeld
      have HF : Hid (Below w2.heap.size w2 wp ∧ Below w8.heap.size w8 wp) := ⟨hbr.out.trans (BP.out.mono hbr.out.size), hb8r.out.trans (BP.out.mono hb8r.out.size)⟩
      clear BP BD BM
      go_wp2_with fail
      exact ⟨⟨j + 1, n9, gp, cp, by omega, rfl, by go_num, HPF.out.1, HPF.out.2.1, by rw [HI9.out]; exact HN9.out, by rw [HI9.out]; exact HPF.out.2.2, HF.out.1, HF.out.2⟩, by simp [RowKit.intOf]; omega⟩
    · obtain rfl : j = ml := by omega
      have hlti : ¬ (j : Int) < (j : Int) := by omega
      have e9 : X.take j = X := List.take_of_length_le (by rw [← HX.out, List.length_map, HML.out]; exact Nat.le_refl _)
      rw [e9] at hlen hsr
      have hil := insAll_len X HUP.out.1
      have hxl : X.length = j := by rw [← HX.out, List.length_map, HML.out]
      have hn9 : n' ≤ 200 := by
        rw [← hlen.out]
        have := H8.out.1
        omega
      have CC := l07CountW (some ⟨g', 0, none⟩) n' c' (insAll X R1) u wr hlen.out (by omega) (fun x hx => by
        rcases insAll_mem X HUP.out.1 hx with hx | hx
        · exact HXS.out x hx
        · have := HUP.out.2 x hx
          omega) (by omega) hsr.out
      obtain ⟨cn, hcn⟩ : ∃ t, countM (insAll X R1) u = t := ⟨_, rfl⟩
      rw [hcn] at CC
      obtain ⟨I9, hI9⟩ : ∃ t, insAll X R1 = t := ⟨_, rfl⟩
      have HRQ : Hid ((if 6 < cn then (N, 12) else fitsR N I9) = (R, q)) := by
        have h9 := HRS.out
        rw [hcn, hI9] at h9
        exact h9
      have HI : Hid (I9.length = n' ∧ Src wr (some ⟨g', 0, none⟩) (cellsP I9)) := by
        rw [← hI9]
        exact ⟨hlen.out, hsr.out⟩
      clear hlen hsr hil hxl e9 hcn hI9 HRS
      go_wp2_with fail
      refine CC.mono ?_
      rintro e wc ⟨rfl, hbc⟩
      have BC : Hid (Below w2.heap.size w2 wc) := hbr.out.trans (hbc.mono hbr.out.size)
      have HIC : Hid (Src wc (some ⟨g', 0, none⟩) (cellsP I9)) := HI.out.2.below hbc
      clear CC hbc
      by_cases h6 : 6 < cn
      · have h6i : (6 : Int) < (cn : Int) := by omega
        have hq9 := HRQ.out
        rw [if_pos h6] at hq9
        have HFH : Hid (∀ W, Below w2.heap.size w2 W → ∃ a3 n3 c3, Ending.returned (Value.tuple #[.slice (some ⟨b, o, none⟩) n c, .int .i64 12]) = Ending.returned (.tuple #[.slice a3 n3 c3, .int .i64 q]) ∧ R.length = n3 ∧ Src W a3 (cellsP R) ∧ Below w2.heap.size w2 W ∧ (q = 0 → (∃ g, a3 = some ⟨g, 0, none⟩) ∧ n3 ≤ c3 ∧ c3 ≤ maxLen)) := fun W hW => HBAD.out W 12 (by decide) hW hq9
        clear hq9 HRQ HBAD
        have HG : Hid (∃ a3 n3 c3, Ending.returned (Value.tuple #[.slice (some ⟨b, o, none⟩) n c, .int .i64 12]) = Ending.returned (.tuple #[.slice a3 n3 c3, .int .i64 q]) ∧ R.length = n3 ∧ Src wc a3 (cellsP R) ∧ Below w2.heap.size w2 wc ∧ (q = 0 → (∃ g, a3 = some ⟨g, 0, none⟩) ∧ n3 ≤ c3 ∧ c3 ≤ maxLen)) := HFH.out wc BC.out
        clear HFH
        go_wp2_with fail
        exact bodyPost_ret (v := .tuple #[.slice (some ⟨b, o, none⟩) n c, .int .i64 12]) (by simp [results, Tryz.results43, go_sem]) rfl HG.out
      · have h6i : ¬ (6 : Int) < (cn : Int) := by omega
        have hq9 := HRQ.out
        rw [if_neg h6] at hq9
        unfold fitsR at hq9
        rw [HI.out.1] at hq9
        by_cases h7 : 60 < n'
        · have CF := l07FitsS (some ⟨b, o, none⟩) n c (some ⟨g', 0, none⟩) n' c' wc (some ⟨b, o, none⟩) n c 7 (by show ite _ _ _; rw [if_pos h7])
          rw [if_pos h7] at hq9
          have HFH : Hid (∀ W, Below w2.heap.size w2 W → ∃ a3 n3 c3, Ending.returned (Value.tuple #[.slice (some ⟨b, o, none⟩) n c, .int .i64 7]) = Ending.returned (.tuple #[.slice a3 n3 c3, .int .i64 q]) ∧ R.length = n3 ∧ Src W a3 (cellsP R) ∧ Below w2.heap.size w2 W ∧ (q = 0 → (∃ g, a3 = some ⟨g, 0, none⟩) ∧ n3 ≤ c3 ∧ c3 ≤ maxLen)) := fun W hW => HBAD.out W 7 (by decide) hW hq9
          clear hq9 HRQ HBAD
          go_wp2_with fail
          refine CF.mono ?_
          rintro e w5 ⟨rfl, hw5⟩
          obtain rfl := hw5
          clear CF
          have HG : Hid (∃ a3 n3 c3, Ending.returned (Value.tuple #[.slice (some ⟨b, o, none⟩) n c, .int .i64 7]) = Ending.returned (.tuple #[.slice a3 n3 c3, .int .i64 q]) ∧ R.length = n3 ∧ Src w5 a3 (cellsP R) ∧ Below w2.heap.size w2 w5 ∧ (q = 0 → (∃ g, a3 = some ⟨g, 0, none⟩) ∧ n3 ≤ c3 ∧ c3 ≤ maxLen)) := HFH.out w5 BC.out
          clear HFH
          go_wp2_with fail
          exact bodyPost_ret (v := .tuple #[.slice (some ⟨b, o, none⟩) n c, .int .i64 7]) (by simp [results, Tryz.results43, go_sem]) rfl HG.out
        · have CF := l07FitsS (some ⟨b, o, none⟩) n c (some ⟨g', 0, none⟩) n' c' wc (some ⟨g', 0, none⟩) n' c' 0 (by show ite _ _ _; rw [if_neg h7])
          rw [if_neg h7] at hq9
          have HRE : Hid (I9 = R ∧ 0 = q) := by cases hq9; exact ⟨rfl, rfl⟩
          have HF : Hid (R.length = n' ∧ Src wc (some ⟨g', 0, none⟩) (cellsP R) ∧ Below w2.heap.size w2 wc ∧ (q = 0 → (∃ g, (some ⟨g', 0, none⟩ : Option Addr) = some ⟨g, 0, none⟩) ∧ n' ≤ c' ∧ c' ≤ maxLen)) := by
            rw [← HRE.out.1]
            exact ⟨HI.out.1, HIC.out, BC.out, fun _ => ⟨⟨_, rfl⟩, hnc', hc'⟩⟩
          have HQ0 : Hid (0 = q) := HRE.out.2
          clear hq9 HRQ HBAD HRE
          go_wp2_with fail
          refine CF.mono ?_
          rintro e w5 ⟨rfl, hw5⟩
          obtain rfl := hw5
          clear CF
          go_wp2_with fail
          exact bodyPost_ret (v := .tuple #[.slice (some ⟨g', 0, none⟩) n' c', .int .i64 0]) (by simp [results, Tryz.results43, go_sem]) rfl ⟨_, _, _, by rw [HQ0.out], HF.out⟩
end Go.Proofs.YtbpgncgmolpkiaaGreatDoor
namespace Go.Proofs.YtbpgncgmolpkiaaGreatDoor
open Go.ChangeShapes Go.WideShapes Go.ChangeAt Go.RowKit Go.Deep Go.Lib
set_option linter.unusedVariables false
set_option linter.unusedSimpArgs false
set_option maxRecDepth 100000

theorem desk_box {w : World} {M B : Nat} {D : DK} (h : DeskAt w M D) (hk : KindAt w B 59) (hB : B ≠ M) (hB1 : B ≠ M + 1) (i : Nat) (v : Value) : DeskAt (w.setCell ⟨B, i, none⟩ v) M D := by
  obtain ⟨k1, ⟨cl, k2⟩, k3, k4⟩ := h
  have hk' : ∃ c f, w.heap[B]? = some (.cells c 59 f) := hk
  exact ⟨k1.other _ (by show M + 1 ≠ B; omega) _, ⟨cl, k2.setCell _ _ (by show M ≠ B; omega)⟩, own_setOther k3 (own_notkind (g := B) (e' := 59) k3 hk' (by decide)) _, fun x hx => own_setOther (k4.1 x hx) (own_notkind (g := B) (e' := 59) (k4.1 x hx) hk' (by decide)) _, k4.2⟩
theorem own_box {w : World} {base s n B : Nat} {v : Value} {xs : List Value} (h : w.ownsRow base 62 s v n xs) (hk : KindAt w B 59) (i : Nat) (u : Value) : (w.setCell ⟨B, i, none⟩ u).ownsRow base 62 s v n xs := by
  have hk' : ∃ c f, w.heap[B]? = some (.cells c 59 f) := hk
  exact own_setOther h (own_notkind (g := B) (e' := 59) h hk' (by decide)) _
set_option maxHeartbeats 1000000 in
theorem fullI (w : World) (M : Nat) (a : Option Addr) (n c : Nat) (nx : Int) (u : ByteArray) (S : SM) (k0 : Nat) (hS : StAt w M a n c nx u S k0) (hu : u.size ≤ 1000) (hn0 : 0 ≤ nx) (hn1 : nx ≤ 10000) (hF : ∀ f ∈ S.fs, FitF f) (hk : k0 ≤ 1000) (hg : Gl w) (h8 : 8 ≤ M) (Y : List PM) (hY : UpL Y) (hP : (deskP nx u S).Perm Y) (ny : Nat) (hny : Y.length = ny) (hl : ny ≤ 4000) (b : Bool) (hb : decide ((60 : Int) < (ny : Int)) = b) :
    Calls Tryz.prog 62 #[.pointer (some ⟨M + 1, 0, none⟩)] w fun e w' => e = .returned (.bool b) ∧ Below w.heap.size w w' := by
  have C1 := pairsI w M a n c nx u S k0 hS hu hn0 hn1 hF hk hg h8 Y hY hP ny hny hl
  have HB : Hid (decide ((60 : Int) < (ny : Int)) = b) := hb
  clear hS hF hY hP hny hb hg
  go_enter Tryz.func62, Tryz.ntmps62
  go_wp2_with fail
  refine C1.mono ?_
  rintro e w1 ⟨g, cap, rfl, ho, hb1⟩
  have B1 : Hid (Below w.heap.size w w1) := hb1
  clear ho hb1 C1
  go_wp2_with fail
  go_ret
  exact ⟨by rw [← HB.out]; rfl, B1.out⟩
theorem StAt.more {w : World} {M : Nat} {a : Option Addr} {n c : Nat} {nx : Int} {u : ByteArray} {S : SM} {k l : Nat} (h : StAt w M a n c nx u S k) (hk : k ≤ l) : StAt w M a n c nx u S l := by
  obtain ⟨va, X, h1, h2, h3, h4, h5⟩ := h
  exact ⟨va, X, h1, h2, h3, fun f hf => by have := h4 f hf; omega, by omega⟩
/-- What a restored folder leaves on the desk, told row by row. -/
def RestPost (q : Int) (w' : World) (M : Nat) (a : Option Addr) (n c : Nat) (nx' : Int) (u : ByteArray) (S' : SM) (k : Nat) (X : List FX) (v : Value) : Prop :=
  q = 0 → ∃ va X', DeskAt w' M ⟨a, n, c, va, S'.aside, nx', u, S'.word, X'⟩ ∧ View u X' S'.fs ∧ (S'.fs.map (·.name)).Nodup ∧ (∀ f ∈ S'.fs, 1 ≤ f.next ∧ f.next ≤ 999 ∧ f.mails.length ≤ k) ∧ S'.aside.length ≤ k ∧ ∀ z ∈ X', ∀ y, z.v.ownBlock = some y → (∃ z0 ∈ X, z0.v.ownBlock = some y) ∨ v.ownBlock = some y
theorem RestPost.bad {q : Int} {w' : World} {M : Nat} {a : Option Addr} {n c : Nat} {nx' : Int} {u : ByteArray} {S' : SM} {k : Nat} {X : List FX} {v : Value} (h : q ≠ 0) : RestPost q w' M a n c nx' u S' k X v := fun h9 => absurd h9 h
set_option maxHeartbeats 8000000 in
theorem restoreI (w : World) (M : Nat) (a : Option Addr) (n c : Nat) (nx : Int) (u : ByteArray) (S : SM) (k : Nat) (va : Value) (X : List FX) (hD : DeskAt w M ⟨a, n, c, va, S.aside, nx, u, S.word, X⟩) (hV : View u X S.fs) (hN : (S.fs.map (·.name)).Nodup) (hf : ∀ f ∈ S.fs, 1 ≤ f.next ∧ f.next ≤ 999 ∧ f.mails.length ≤ k) (hk : S.aside.length ≤ k) (hkk : k ≤ 1000)
    (g : FM) (nm : ByteArray) (gn gv : Int) (ax : Option Addr) (ml cx : Nat) (Ms : List MMl) (hgm : g = ⟨nm, g.val, gn, Ms⟩) (hml : Ms.length = ml) (hgb : 1 ≤ gn ∧ gn ≤ 999 ∧ ml ≤ k) (hrow : w.ownsRow (M + 2) 62 3 (.slice ax ml cx) ml (cellsMl Ms)) (hap : ∀ z ∈ X, ∀ y, z.v.ownBlock = some y → Value.ownBlock (.slice ax ml cx) ≠ some y)
    (N : List PM) (hl : Lies N nx u S) (hN6 : N.length ≤ 60) (hus : (47 : UInt8) ∉ u.data.toList) (hu : u.size ≤ 1000) (hgs : (47 : UInt8) ∉ nm.data.toList) (hgz : nm.size ≤ 1000) (hM : (Ms.map (mailP u nm)).Pairwise (fun a b => a.1 ≠ b.1)) (hfit : ∀ f ∈ S.fs, FitF f) (hgf : ∀ m ∈ Ms, 0 ≤ m.1 ∧ m.1 < 1000 ∧ 0 ≤ m.2.1 ∧ m.2.1 ≤ 3 ∧ m.2.2.size ≤ 1000) (n0 : 0 ≤ nx) (n1 : nx ≤ 10000) (hG : Gl w) (h8 : 8 ≤ M) (q nx' : Int) (S' : SM) (HQ : Hid (rsM nx u S g = (q, nx', S'))) :
    Calls Tryz.prog 85 #[.pointer (some ⟨M + 1, 0, none⟩), .agg #[.string nm, .int .i64 gv, .int .i64 gn, .slice ax ml cx]] w fun e w' => e = .returned (.int .i64 q) ∧ StAt w' M a n c nx' u S' k ∧ Below M w w' ∧ Keep M w w' ∧ RestPost q w' M a n c nx' u S' k X (.slice ax ml cx) := by
  have hM1 : M + 1 < w.heap.size := World.block_lt_of_cell? _ _ (hD.1 0 _ rfl).1
  have h1 := lies_fresh (next := gn) (f := nm) hl hus hgs
  have h2 := lies_mails h1 hus hgs hM
  obtain ⟨Y1, hY1⟩ : ∃ Y, insL (folderK u nm) (metaT nx gn) (insL vK (bs (itoa (nx + 1))) (emptyR N u nm)) = Y := ⟨_, rfl⟩
  have l1 : Y1.length ≤ 62 := by
    have u1 : UpL (emptyR N u nm) := hl.up.sublist List.filter_sublist
    have a1 := (ins_len (k := vK) (v := bs (itoa (nx + 1))) u1).1
    have a2 := (ins_len (k := folderK u nm) (v := metaT nx gn) (ins_up (k := vK) (v := bs (itoa (nx + 1))) u1)).1
    have a3 : (emptyR N u nm).length ≤ N.length := List.length_filter_le _ _
    rw [← hY1]
    omega
  rw [hY1] at h1 h2
  have l2 := insAll_len (Ms.map (mailP u nm)) h1.up
  rw [List.length_map, hml] at l2
  obtain ⟨Y2, hY2⟩ : ∃ Y, insAll (Ms.map (mailP u nm)) Y1 = Y := ⟨_, rfl⟩
  rw [hY2] at h2 l2
  obtain ⟨S1, hS1⟩ : ∃ T : SM, ⟨S.aside, S.word, putF ⟨nm, nx, gn, []⟩ S.fs⟩ = T := ⟨_, rfl⟩
  obtain ⟨S2, hS2⟩ : ∃ T : SM, ⟨S.aside, S.word, putF ⟨nm, nx, gn, Ms⟩ S.fs⟩ = T := ⟨_, rfl⟩
  rw [hS1] at h1
  rw [hS2] at h2
  obtain ⟨y1, hy1⟩ : ∃ t, Y1.length = t := ⟨_, rfl⟩
  obtain ⟨y2, hy2⟩ : ∃ t, Y2.length = t := ⟨_, rfl⟩
  obtain ⟨t2, ht2⟩ : ∃ t, sumF S2.fs = t := ⟨_, rfl⟩
  have ht9 : t2 ≤ 2000 := by
    have h9 := lies_count h2 hus
    rw [ht2] at h9
    have h8 : countM Y2 u ≤ Y2.length := List.length_filter_le _ _
    omega
  have HQ1 : Hid ((if 9999 < nx then (6, nx, S) else if 60 < y1 then (7, nx + 1, S1) else if 6 < t2 then (12, nx + 1, S2) else if 60 < y2 then (7, nx + 1, S2) else (0, nx + 1, S2)) = (q, nx', S')) := by
    have h9 := HQ.out
    unfold rsM at h9
    have e1 : S1F nx S g = S1 := by rw [← hS1, hgm]
    have e2 : S2F nx S g = S2 := by rw [← hS2, hgm]
    rw [e1, e2, ← h1.pm.length_eq, ← h2.pm.length_eq, hy1, hy2, ht2] at h9
    exact h9
  rw [hy1] at l1
  rw [hy1, hy2] at l2
  have hfs1 : ∀ f ∈ S1.fs, FitF f := fun f hf9 => by
    rw [← hS1] at hf9
    rcases putF_mem hf9 with hf9 | rfl
    · exact hfit f hf9
    · exact ⟨n0, n1, by show 0 ≤ gn; omega, by show gn ≤ 10000; omega, hgz, fun m hm => by cases hm⟩
  have hfs2 : ∀ f ∈ S2.fs, FitF f := fun f hf9 => by
    rw [← hS2] at hf9
    rcases putF_mem hf9 with hf9 | rfl
    · exact hfit f hf9
    · exact ⟨n0, n1, by show 0 ≤ gn; omega, by show gn ≤ 10000; omega, hgz, hgf⟩
  obtain ⟨w1, hw1⟩ : ∃ W, w.alloc (.cells #[.string nm, .int .i64 gv, .int .i64 gn, .slice none 0 0] 59) = W := ⟨_, rfl⟩
  have A1 : Below w.heap.size w w1 := by rw [← hw1]; exact (Below.refl _ _).alloc (Nat.le_refl _) _
  have X1 : Box w1 w.heap.size [.string nm, .int .i64 gv, .int .i64 gn, .slice none 0 0] := by rw [← hw1]; exact Box.new rfl
  have K1 : KindAt w1 w.heap.size 59 := by
    rw [← hw1]
    exact ⟨_, _, Array.getElem?_push_size⟩
  have D1 := hD.later A1
  have CF := freshY nm gv gn none 0 0 [] rfl w1 M a n c va S.aside nx u S.word X S.fs D1 hV hN hu hgz n0 n1 (World.ownsRow_nil _ _ _ _) (fun z _ _ y _ h9 => by cases h9)
  have HX1 : Hid (Box w1 w.heap.size [.string nm, .int .i64 gv, .int .i64 gn, .slice none 0 0] ∧ KindAt w1 w.heap.size 59 ∧ w1.ownsRow (M + 2) 62 3 (.slice ax ml cx) ml (cellsMl Ms) ∧ Below M w w1 ∧ Keep M w w1) := ⟨X1, K1, own_below hrow A1, A1.mono (by omega), Keep.of_below A1⟩
  have HST : Hid (View u X S.fs ∧ (S.fs.map (·.name)).Nodup ∧ (∀ f ∈ S.fs, 1 ≤ f.next ∧ f.next ≤ 999 ∧ f.mails.length ≤ k) ∧ S.aside.length ≤ k) := ⟨hV, hN, hf, hk⟩
  have HAP : Hid (∀ z ∈ X, ∀ y, z.v.ownBlock = some y → Value.ownBlock (.slice ax ml cx) ≠ some y) := hap
  have HG : Hid (Gl w) := hG
  have CFU1 : Hid (∀ W, ¬ 9999 < nx → Below M w W → StAt W M a n c (nx + 1) u S1 k → Calls Tryz.prog 62 #[.pointer (some ⟨M + 1, 0, none⟩)] W fun e w' => e = .returned (.bool (decide ((60 : Int) < (y1 : Int)))) ∧ Below W.heap.size W w') := fun W hx hW hst => by
    exact fullI W M a n c (nx + 1) u S1 k hst hu (by omega) (by omega) hfs1 hkk (HG.out.below h8 hW) h8 Y1 h1.up h1.pm.symm y1 hy1 (by omega) _ rfl
  have CFU2 : Hid (∀ W, ¬ 9999 < nx → Below M w W → StAt W M a n c (nx + 1) u S2 k → Calls Tryz.prog 62 #[.pointer (some ⟨M + 1, 0, none⟩)] W fun e w' => e = .returned (.bool (decide ((60 : Int) < (y2 : Int)))) ∧ Below W.heap.size W w') := fun W hx hW hst => by
    exact fullI W M a n c (nx + 1) u S2 k hst hu (by omega) (by omega) hfs2 hkk (HG.out.below h8 hW) h8 Y2 h2.up h2.pm.symm y2 hy2 (by omega) _ rfl
  have HS12 : Hid ((⟨S.aside, S.word, putF ⟨nm, nx, gn, []⟩ S.fs⟩ : SM) = S1 ∧ (⟨S.aside, S.word, putF ⟨nm, nx, gn, Ms⟩ S.fs⟩ : SM) = S2 ∧ sumF S2.fs = t2 ∧ Ms.length = ml) := ⟨hS1, hS2, ht2, hml⟩
  obtain ⟨x10, _⟩ := X1 0 _ rfl
  obtain ⟨x11, _⟩ := X1 1 _ rfl
  obtain ⟨x12, _⟩ := X1 2 _ rfl
  obtain ⟨x13, _⟩ := X1 3 _ rfl
  clear hD hV hN hf hk hrow hap hl hus hgs hM hfit hgf hG HQ h1 h2 hY1 hY2 hS1 hS2 hy1 hy2 ht2 hfs1 hfs2 A1 X1 K1 D1 hgm hml HG
  go_enter Tryz.func85, Tryz.ntmps85
  go_wp2_with fail
  refine CF.mono ?_
  rintro e w2 ⟨hb2, ho2, hx2, hk2, ⟨h9, rfl, hd2⟩ | ⟨h9, rfl, clock, hd2⟩⟩
  · have HF : Hid (StAt w2 M a n c nx u S k ∧ Below M w w2 ∧ Keep M w w2) := ⟨⟨va, X, hd2, HST.out⟩, HX1.out.2.2.2.1.trans hb2, HX1.out.2.2.2.2.trans HX1.out.2.2.2.1.size hk2.2⟩
    have hq := HQ1.out
    rw [if_pos h9] at hq
    cases hq
    clear CF hd2 hb2 ho2 hx2 hk2 HQ1 CFU1 CFU2
    go_wp2_with fail
    go_ret
    exact ⟨rfl, HF.out.1, HF.out.2.1, HF.out.2.2, RestPost.bad (by decide)⟩
  have hv2 : View u (setX ⟨folderK u nm, 0, nm, nx, gn, .slice none 0 0, []⟩ clock X) (putF ⟨nm, nx, gn, []⟩ S.fs) := HST.out.1.put (y := ⟨folderK u nm, 0, nm, nx, gn, .slice none 0 0, []⟩) rfl clock
  have hap2 : ∀ z ∈ setX ⟨folderK u nm, 0, nm, nx, gn, .slice none 0 0, []⟩ clock X, ∀ y, z.v.ownBlock = some y → Value.ownBlock (.slice ax ml cx) ≠ some y := fun z hz y hy => by
    rcases setX_mem hz with hz | ⟨hz, _, _⟩
    · exact HAP.out z hz y hy
    · rw [hz] at hy
      cases hy
  have HXM : Hid (∀ z ∈ setX ⟨folderK u nm, 0, nm, nx, gn, .slice none 0 0, []⟩ clock X, ∀ y, z.v.ownBlock = some y → ∃ z0 ∈ X, z0.v.ownBlock = some y) := fun z hz y hy => by
    rcases setX_mem hz with hz | ⟨hz, _, _⟩
    · exact ⟨z, hz, hy⟩
    · rw [hz] at hy
      cases hy
  obtain ⟨X2, hX2⟩ : ∃ T, setX ⟨folderK u nm, 0, nm, nx, gn, .slice none 0 0, []⟩ clock X = T := ⟨_, rfl⟩
  rw [hX2] at HXM
  rw [hX2] at hd2 hv2 hap2
  have HQ2 : Hid ((if 60 < y1 then (7, nx + 1, S1) else if 6 < t2 then (12, nx + 1, S2) else if 60 < y2 then (7, nx + 1, S2) else (0, nx + 1, S2)) = (q, nx', S')) := by
    have hq := HQ1.out
    rw [if_neg (by omega)] at hq
    exact hq
  have hne : w.heap.size ≠ M ∧ w.heap.size ≠ M + 1 := by omega
  have B2 : Hid (Below M w w2) := HX1.out.2.2.2.1.trans hb2
  have KP2 : Hid (Keep M w w2) := HX1.out.2.2.2.2.trans HX1.out.2.2.2.1.size hk2.2
  have hst2 : StAt w2 M a n c (nx + 1) u S1 k := by
    rw [← HS12.out.1]
    exact st_putG hd2 hv2 HST.out.2.1 HST.out.2.2.1 ⟨hgb.1, hgb.2.1, Nat.zero_le _⟩ HST.out.2.2.2
  have HST2 : Hid (StAt w2 M a n c (nx + 1) u S1 k) := hst2
  have CFU := CFU1.out w2 (by omega) B2.out hst2
  have HX2 : Hid (Box w2 w.heap.size [.string nm, .int .i64 gv, .int .i64 gn, .slice none 0 0] ∧ KindAt w2 w.heap.size 59 ∧ w2.ownsRow (M + 2) 62 3 (.slice ax ml cx) ml (cellsMl Ms)) := ⟨hx2 _ _ hne.1 hne.2 HX1.out.1, hk2.1 _ _ hne.1 HX1.out.2.1, ho2 _ _ _ _ _ HX1.out.2.2.1⟩
  have HD2 : Hid (DeskAt w2 M ⟨a, n, c, va, S.aside, nx + 1, u, S.word, X2⟩ ∧ View u X2 (putF ⟨nm, nx, gn, []⟩ S.fs) ∧ ∀ z ∈ X2, ∀ y, z.v.ownBlock = some y → Value.ownBlock (.slice ax ml cx) ≠ some y) := ⟨hd2, hv2, hap2⟩
  have hM2 : M + 2 ≤ w2.heap.size := by
    have h9 : M + 1 < w2.heap.size := World.block_lt_of_cell? _ _ (hd2.1 0 _ rfl).1
    omega
  clear CF hd2 hb2 ho2 hx2 hk2 HQ1 CFU1 hv2 hap2 hX2 hst2 hw1 HAP
  go_wp2_with fail
  refine CFU.mono ?_
  rintro e w3 ⟨rfl, hb3⟩
  have B3 : Hid (Below M w w3) := B2.out.trans (hb3.mono (by omega))
  have KP3 : Hid (Keep M w w3) := KP2.out.next B2.out.size hb3
  have HST3 : Hid (StAt w3 M a n c (nx + 1) u S1 k) := HST2.out.later hb3
  have HX3 : Hid (Box w3 w.heap.size [.string nm, .int .i64 gv, .int .i64 gn, .slice none 0 0] ∧ KindAt w3 w.heap.size 59 ∧ w3.ownsRow (M + 2) 62 3 (.slice ax ml cx) ml (cellsMl Ms)) := ⟨HX2.out.1.below hb3, kind_below HX2.out.2.1 hb3, own_below HX2.out.2.2 hb3⟩
  have HD3 : Hid (DeskAt w3 M ⟨a, n, c, va, S.aside, nx + 1, u, S.word, X2⟩) := HD2.out.1.later hb3
  have hM3 : M + 2 ≤ w3.heap.size := by have := hb3.size; omega
  clear CFU hb3 HST2 HX2
  by_cases hb1 : 60 < y1
  · have hb1i : (60 : Int) < (y1 : Int) := by omega
    have hq := HQ2.out
    rw [if_pos hb1] at hq
    cases hq
    go_wp2_with fail
    go_ret
    exact ⟨rfl, HST3.out, B3.out, KP3.out, RestPost.bad (by decide)⟩
  have hb1i : ¬ (60 : Int) < (y1 : Int) := by omega
  have HQ3 : Hid ((if 6 < t2 then (12, nx + 1, S2) else if 60 < y2 then (7, nx + 1, S2) else (0, nx + 1, S2)) = (q, nx', S')) := by
    have hq := HQ2.out
    rw [if_neg hb1] at hq
    exact hq
  clear HQ2 HST3
  have hlk : lookF nm (putF ⟨nm, nx, gn, []⟩ S.fs) = some ⟨nm, nx, gn, []⟩ := by rw [lookF_put, if_pos rfl]
  obtain ⟨ay, cy, hat, _, _⟩ := at_some HD3.out HD2.out.2.1 hlk
  have CT := atI nm w3 M ⟨a, n, c, va, S.aside, nx + 1, u, S.word, X2⟩ (by omega) (by show u.size ≤ 1048576; omega) HD3.out
  have CT2 : Calls Tryz.prog 37 #[.pointer (some ⟨M + 1, 0, none⟩), .string nm] w3 fun e w' => e = .returned (.agg #[.string nm, .int .i64 nx, .int .i64 gn, .slice ay 0 cy]) ∧ Below w3.heap.size w3 w' := by
    have h9 : atX (lookX (folderK u nm) X2) = .agg #[.string nm, .int .i64 nx, .int .i64 gn, .slice ay 0 cy] := hat
    rw [← h9]
    exact CT
  obtain ⟨x30, _⟩ := HX3.out.1 0 _ rfl
  clear CT hat hlk
  go_wp2_with fail
  refine CT2.mono ?_
  rintro e w4 ⟨rfl, hb4⟩
  have B4 : Hid (Below M w w4) := B3.out.trans (hb4.mono (by omega))
  have KP4 : Keep M w w4 := KP3.out.next B3.out.size hb4
  have X4 : Box w4 w.heap.size [.string nm, .int .i64 gv, .int .i64 gn, .slice none 0 0] := HX3.out.1.below hb4
  have K4 := kind_below HX3.out.2.1 hb4
  have O4 := own_below HX3.out.2.2 hb4
  have D4 := HD3.out.later hb4
  obtain ⟨p0, pf0⟩ := (X4) 0 _ rfl
  obtain ⟨p1, pf1⟩ := ((X4).set 0 (.string nm)) 1 _ rfl
  obtain ⟨p2, pf2⟩ := (((X4).set 0 (.string nm)).set 1 (.int .i64 nx)) 2 _ rfl
  obtain ⟨p3, pf3⟩ := ((((X4).set 0 (.string nm)).set 1 (.int .i64 nx)).set 2 (.int .i64 gn)) 3 _ rfl
  have X5 := ((((X4).set 0 (.string nm)).set 1 (.int .i64 nx)).set 2 (.int .i64 gn)).set 3 (.slice ay 0 cy)
  obtain ⟨p9, pf9⟩ := X5 3 _ rfl
  obtain ⟨r0, _⟩ := X5 0 _ rfl
  obtain ⟨r1, _⟩ := X5 1 _ rfl
  obtain ⟨r2, _⟩ := X5 2 _ rfl
  obtain ⟨r3, _⟩ := X5 3 _ rfl
  have X6 := X5.set 3 (.slice ax ml cx)
  obtain ⟨q0, _⟩ := X6 0 _ rfl
  obtain ⟨q1, _⟩ := X6 1 _ rfl
  obtain ⟨q2, _⟩ := X6 2 _ rfl
  obtain ⟨q3, _⟩ := X6 3 _ rfl
  have D5 : DeskAt (((((w4.setCell ⟨w.heap.size, 0, none⟩ (.string nm)).setCell ⟨w.heap.size, 1, none⟩ (.int .i64 nx)).setCell ⟨w.heap.size, 2, none⟩ (.int .i64 gn)).setCell ⟨w.heap.size, 3, none⟩ (.slice ay 0 cy)).setCell ⟨w.heap.size, 3, none⟩ (.slice ax ml cx)) M ⟨a, n, c, va, S.aside, nx + 1, u, S.word, X2⟩ := desk_box (desk_box (desk_box (desk_box (desk_box (D4) (K4) hne.1 hne.2 0 (.string nm)) (kind_set (K4) _ _) hne.1 hne.2 1 (.int .i64 nx)) (kind_set (kind_set (K4) _ _) _ _) hne.1 hne.2 2 (.int .i64 gn)) (kind_set (kind_set (kind_set (K4) _ _) _ _) _ _) hne.1 hne.2 3 (.slice ay 0 cy)) (kind_set (kind_set (kind_set (kind_set (K4) _ _) _ _) _ _) _ _) hne.1 hne.2 3 (.slice ax ml cx)
  have O5 : (((((w4.setCell ⟨w.heap.size, 0, none⟩ (.string nm)).setCell ⟨w.heap.size, 1, none⟩ (.int .i64 nx)).setCell ⟨w.heap.size, 2, none⟩ (.int .i64 gn)).setCell ⟨w.heap.size, 3, none⟩ (.slice ay 0 cy)).setCell ⟨w.heap.size, 3, none⟩ (.slice ax ml cx)).ownsRow (M + 2) 62 3 (.slice ax ml cx) ml (cellsMl Ms) := own_box (own_box (own_box (own_box (own_box (O4) (K4) 0 (.string nm)) (kind_set (K4) _ _) 1 (.int .i64 nx)) (kind_set (kind_set (K4) _ _) _ _) 2 (.int .i64 gn)) (kind_set (kind_set (kind_set (K4) _ _) _ _) _ _) 3 (.slice ay 0 cy)) (kind_set (kind_set (kind_set (kind_set (K4) _ _) _ _) _ _) _ _) 3 (.slice ax ml cx)
  have B5 : Hid (Below M w (((((w4.setCell ⟨w.heap.size, 0, none⟩ (.string nm)).setCell ⟨w.heap.size, 1, none⟩ (.int .i64 nx)).setCell ⟨w.heap.size, 2, none⟩ (.int .i64 gn)).setCell ⟨w.heap.size, 3, none⟩ (.slice ay 0 cy)).setCell ⟨w.heap.size, 3, none⟩ (.slice ax ml cx))) := B4.out.trans (((((((Below.refl M w4)).setCell (by show M ≤ w.heap.size; omega) _).setCell (by show M ≤ w.heap.size; omega) _).setCell (by show M ≤ w.heap.size; omega) _).setCell (by show M ≤ w.heap.size; omega) _).setCell (by show M ≤ w.heap.size; omega) _)
  have KP5 : Hid (Keep M w (((((w4.setCell ⟨w.heap.size, 0, none⟩ (.string nm)).setCell ⟨w.heap.size, 1, none⟩ (.int .i64 nx)).setCell ⟨w.heap.size, 2, none⟩ (.int .i64 gn)).setCell ⟨w.heap.size, 3, none⟩ (.slice ay 0 cy)).setCell ⟨w.heap.size, 3, none⟩ (.slice ax ml cx))) := (((((KP4).setCell _ (by show w.heap.size ≤ w.heap.size; omega) _).setCell _ (by show w.heap.size ≤ w.heap.size; omega) _).setCell _ (by show w.heap.size ≤ w.heap.size; omega) _).setCell _ (by show w.heap.size ≤ w.heap.size; omega) _).setCell _ (by show w.heap.size ≤ w.heap.size; omega) _
  have hKN : (X2.map (·.k)).Nodup := by
    rw [HD2.out.2.1.keys]
    exact nodup_keys (putF_names HST.out.2.1)
  have CP := putX ⟨folderK u nm, 0, nm, nx, gn, .slice ax ml cx, Ms⟩ nm nx gn ax ml cx (((((w4.setCell ⟨w.heap.size, 0, none⟩ (.string nm)).setCell ⟨w.heap.size, 1, none⟩ (.int .i64 nx)).setCell ⟨w.heap.size, 2, none⟩ (.int .i64 gn)).setCell ⟨w.heap.size, 3, none⟩ (.slice ay 0 cy)).setCell ⟨w.heap.size, 3, none⟩ (.slice ax ml cx)) M ⟨a, n, c, va, S.aside, nx + 1, u, S.word, X2⟩ rfl (by omega) (by show u.size ≤ 1048576; omega) D5.head (fun clock => rows_set D5.2.2.2 (by show World.ownsRow _ _ _ _ _ Ms.length _; rw [HS12.out.2.2.2]; exact O5) hKN (fun x hx _ y hy => HD2.out.2.2 x hx y hy) clock)
  clear X5 X6 CT2 D5 O5 D4 K4 O4 X4 hb4 hKN HX3 KP4
  go_wp2_with fail
  refine CP.mono ?_
  rintro e w6 ⟨rfl, ⟨clock2, hd6⟩, hb6, _, _, _, hkp6⟩
  have hv6 : View u (setX ⟨folderK u nm, 0, nm, nx, gn, .slice ax ml cx, Ms⟩ clock2 X2) S2.fs := by
    have h9 := HD2.out.2.1.put (y := ⟨folderK u nm, 0, nm, nx, gn, .slice ax ml cx, Ms⟩) rfl clock2
    have e9 : (putF ⟨nm, nx, gn, Ms⟩ (putF ⟨nm, nx, gn, []⟩ S.fs)) = S2.fs := by rw [put_put, ← HS12.out.2.1]
    rw [← e9]
    exact h9
  have B6 : Hid (Below M w w6) := B5.out.trans hb6
  have KP6 : Hid (Keep M w w6) := KP5.out.trans B5.out.size hkp6
  have hst6 : StAt w6 M a n c (nx + 1) u S2 k := by
    have e9 := HS12.out.2.1
    have e8 : S2.fs = putF ⟨nm, nx, gn, Ms⟩ S.fs := by rw [← e9]
    rw [← e9]
    rw [e8] at hv6
    exact st_putG hd6 hv6 HST.out.2.1 HST.out.2.2.1 ⟨hgb.1, hgb.2.1, by show Ms.length ≤ k; rw [HS12.out.2.2.2]; exact hgb.2.2⟩ HST.out.2.2.2
  have HST6 : Hid (StAt w6 M a n c (nx + 1) u S2 k) := hst6
  have HRP6 : Hid (RestPost 0 w6 M a n c (nx + 1) u S2 k X (.slice ax ml cx)) := fun _ => by
    have e9 := HS12.out.2.1
    refine ⟨va, _, by rw [← e9]; exact hd6, hv6, ?_, ?_, by rw [← e9]; exact HST.out.2.2.2, fun z hz y hy => ?_⟩
    · rw [← e9]
      exact putF_names HST.out.2.1
    · rw [← e9]
      intro f9 hf9
      rcases putF_mem hf9 with hf9 | rfl
      · exact HST.out.2.2.1 f9 hf9
      · exact ⟨hgb.1, hgb.2.1, by show Ms.length ≤ k; rw [HS12.out.2.2.2]; exact hgb.2.2⟩
    · rcases setX_mem hz with hz | ⟨hz, _, _⟩
      · exact .inl (HXM.out z hz y hy)
      · rw [hz] at hy
        exact .inr hy
  have CM := mailsI w6 M _ hd6 t2 ((sum_view hv6).trans HS12.out.2.2.1) (by omega)
  have hM6 : M + 2 ≤ w6.heap.size := by
    have h8 : M + 1 < w6.heap.size := World.block_lt_of_cell? _ _ (hd6.1 0 _ rfl).1
    omega
  clear CP hd6 hb6 hkp6 hv6 hst6 p0 p1 p2 p3 p9 r0 r1 r2 r3 q0 q1 q2 q3 pf0 pf1 pf2 pf3 pf9 x30
  go_wp2_with fail
  refine CM.mono ?_
  rintro e w7 ⟨rfl, hb7⟩
  have B7 : Hid (Below M w w7) := B6.out.trans (hb7.mono (by omega))
  have KP7 : Hid (Keep M w w7) := KP6.out.next B6.out.size hb7
  have HST7 : Hid (StAt w7 M a n c (nx + 1) u S2 k) := HST6.out.later hb7
  have HRP7 : Hid (RestPost 0 w7 M a n c (nx + 1) u S2 k X (.slice ax ml cx)) := fun _ => by
    obtain ⟨va9, X9, t1, t2⟩ := HRP6.out rfl
    exact ⟨va9, X9, t1.later hb7, t2⟩
  have hM7 : M + 2 ≤ w7.heap.size := by have := hb7.size; omega
  clear CM hb7 HST6
  by_cases ht6 : 6 < t2
  · have ht6i : (6 : Int) < (t2 : Int) := by omega
    have hq := HQ3.out
    rw [if_pos ht6] at hq
    cases hq
    go_wp2_with fail
    go_ret
    exact ⟨rfl, HST7.out, B7.out, KP7.out, RestPost.bad (by decide)⟩
  have ht6i : ¬ (6 : Int) < (t2 : Int) := by omega
  have HQ4 : Hid ((if 60 < y2 then (7, nx + 1, S2) else (0, nx + 1, S2)) = (q, nx', S')) := by
    have hq := HQ3.out
    rw [if_neg ht6] at hq
    exact hq
  have CFV := CFU2.out w7 (by omega) B7.out HST7.out
  clear HQ3 CFU2
  go_wp2_with fail
  refine CFV.mono ?_
  rintro e w8 ⟨rfl, hb8⟩
  have HF : Hid (StAt w8 M a n c (nx + 1) u S2 k ∧ Below M w w8 ∧ Keep M w w8) := ⟨HST7.out.later hb8, B7.out.trans (hb8.mono (by omega)), KP7.out.next B7.out.size hb8⟩
  have HRP8 : Hid (RestPost 0 w8 M a n c (nx + 1) u S2 k X (.slice ax ml cx)) := fun _ => by
    obtain ⟨va9, X9, t1, t2⟩ := HRP7.out rfl
    exact ⟨va9, X9, t1.later hb8, t2⟩
  clear CFV hb8
  by_cases hb2 : 60 < y2
  · have hb2i : (60 : Int) < (y2 : Int) := by omega
    have hq := HQ4.out
    rw [if_pos hb2] at hq
    cases hq
    go_wp2_with fail
    go_ret
    exact ⟨rfl, HF.out.1, HF.out.2.1, HF.out.2.2, RestPost.bad (by decide)⟩
  have hb2i : ¬ (60 : Int) < (y2 : Int) := by omega
  have hq := HQ4.out
  rw [if_neg hb2] at hq
  cases hq
  go_wp2_with fail
  go_ret
  exact ⟨rfl, HF.out.1, HF.out.2.1, HF.out.2.2, HRP8.out⟩
end Go.Proofs.YtbpgncgmolpkiaaGreatDoor
namespace Go.Proofs.YtbpgncgmolpkiaaGreatDoor
open Go.ChangeShapes Go.WideShapes Go.ChangeAt Go.RowKit Go.Deep Go.Lib
set_option linter.unusedVariables false
set_option linter.unusedSimpArgs false
set_option maxRecDepth 100000

def raskM (N L : List PM) (Ns : List ByteArray) : Int := if 4096 < L.length then 2 else if askM N Ns ≠ 0 then askM N Ns else if storeB L = false then 1 else 0
theorem rask_zero {N L : List PM} {Ns : List ByteArray} (h : raskM N L Ns = 0) : askM N Ns = 0 ∧ storeB L = true := by
  unfold raskM at h
  split at h
  · cases h
  · split at h
    · rename_i h1
      exact absurd h h1
    · rename_i h1
      split at h
      · cases h
      · rename_i h2
        exact ⟨by simpa using h1, by simpa using h2⟩
theorem own_lt {w : World} {base e s n y : Nat} {v : Value} {xs : List Value} (h : w.ownsRow base e s v n xs) (hy : v.ownBlock = some y) : y < w.heap.size := by
  obtain ⟨c1, f1, k1⟩ := Lib.ownsRow_kind h y hy
  exact (Array.getElem?_eq_some_iff.1 k1).1
theorem own_base {w : World} {base e s n y : Nat} {v : Value} {xs : List Value} (h : w.ownsRow base e s v n xs) (hy : v.ownBlock = some y) : base ≤ y := by
  obtain ⟨_, ⟨rfl, _⟩ | ⟨g, cap, cur, rfl, hb, _⟩⟩ := h
  · cases hy
  · cases hy; exact hb
set_option maxHeartbeats 2000000 in
theorem restoreFaultI (a : Option Addr) (n c : Nat) (N : List PM) (a2 : Option Addr) (n2 c2 : Nat) (L : List PM) (b : Option Addr) (m d : Nat) (Ns : List ByteArray) (w : World) (hN : N.length = n) (hn : n ≤ 1048576) (hs : ∀ x ∈ N, x.1.size ≤ 1048576 ∧ x.2.size ≤ 1048576) (h : Src w a (cellsP N)) (hL : L.length = n2) (hn2 : n2 ≤ 1048576) (hs2 : ∀ x ∈ L, x.1.size ≤ 1048576 ∧ x.2.size ≤ 1048576) (h2 : Src w a2 (cellsP L)) (hNs : Ns.length = m) (hm : m ≤ 100) (hz : ∀ s ∈ Ns, s.size ≤ 1048576) (hb : Src w b (cellsS Ns)) (hG : Gl w) (h8 : 8 ≤ w.heap.size) (Q : Int) (HQ : Hid (raskM N L Ns = Q)) :
    Calls Tryz.prog 44 #[.slice a n c, .slice a2 n2 c2, .slice b m d] w fun e w' => e = .returned (.int .i64 Q) ∧ Below w.heap.size w w' := by
  obtain ⟨k, hk⟩ : ∃ t, askM N Ns = t := ⟨_, rfl⟩
  have CA := mailFaultI a n c N b m d Ns w hN hn hs h hNs hm hz hb hG h8 k hk
  obtain ⟨sb, hsb⟩ : ∃ t, storeB L = t := ⟨_, rfl⟩
  have CM := fun W (hW : Below w.heap.size w W) => implMailStoreOK a2 n2 c2 L W hL hn2 hs2 (h2.below hW) (hG.below h8 hW) (by have := hW.size; omega) sb ((impl_store L).trans hsb)
  have HQ1 : Hid ((if 4096 < n2 then 2 else if k ≠ 0 then k else if sb = false then 1 else 0) = Q) := by
    have h9 := HQ.out
    unfold raskM at h9
    rw [hL, hk, hsb] at h9
    exact h9
  clear hN hs h hL hs2 h2 hNs hz hb hG HQ hk hsb
  by_cases h4 : 4096 < n2
  · have h4i : (4096 : Int) < (n2 : Int) := by omega
    have HZ : Hid (2 = Q) := by have h9 := HQ1.out; rw [if_pos h4] at h9; exact h9
    clear HQ1 CM CA
    go_enter Tryz.func44, Tryz.ntmps44
    go_wp2_with fail
    go_ret
    exact ⟨ret_int HZ.out, Below.refl _ _⟩
  have h4i : ¬ (4096 : Int) < (n2 : Int) := by omega
  have HQ2 : Hid ((if k ≠ 0 then k else if sb = false then 1 else 0) = Q) := by have h9 := HQ1.out; rw [if_neg h4] at h9; exact h9
  clear HQ1
  by_cases hk0 : k = 0
  · subst hk0
    have HQ3 : Hid ((if sb = false then 1 else 0) = Q) := by have h9 := HQ2.out; rw [if_neg (by simp)] at h9; exact h9
    clear HQ2
    go_enter Tryz.func44, Tryz.ntmps44
    go_wp2_with fail
    refine CA.mono ?_
    rintro e w1 ⟨rfl, hb1⟩
    have B1 : Hid (Below w.heap.size w w1) := hb1
    have CM1 := CM w1 hb1
    clear hb1 CA CM
    go_wp2_with fail
    refine CM1.mono ?_
    rintro e w2 ⟨rfl, hb2⟩
    have B2 : Hid (Below w.heap.size w w2) := B1.out.trans (hb2.mono B1.out.size)
    clear hb2 CM1
    cases sb with
    | false =>
      have HZ : Hid (1 = Q) := HQ3.out
      go_wp2_with fail
      go_ret
      exact ⟨ret_int HZ.out, B2.out⟩
    | true =>
      have HZ : Hid (0 = Q) := HQ3.out
      go_wp2_with fail
      go_ret
      exact ⟨ret_int HZ.out, B2.out⟩
  · have hki : (k != 0) = true := by simpa using hk0
    have HZ : Hid (k = Q) := by have h9 := HQ2.out; rw [if_pos hk0] at h9; exact h9
    clear HQ2 CM
    go_enter Tryz.func44, Tryz.ntmps44
    go_wp2_with fail
    refine CA.mono ?_
    rintro e w1 ⟨rfl, hb1⟩
    have B1 : Hid (Below w.heap.size w w1) := hb1
    clear hb1 CA
    go_wp2_with fail
    go_ret
    exact ⟨ret_int HZ.out, B1.out⟩
def rfO (nx : Int) (u : ByteArray) (S : SM) : Option FM → Int × Int × SM
  | some g => rsM nx u S g
  | none => (16, nx, S)
theorem rfO_some (nx : Int) (u : ByteArray) (S : SM) (g : FM) : rfO nx u S (some g) = rsM nx u S g := rfl
theorem rfO_none (nx : Int) (u : ByteArray) (S : SM) : rfO nx u S none = (16, nx, S) := rfl
def rfM (nx : Int) (u : ByteArray) (S : SM) (f : ByteArray) (T : SM) : Int × Int × SM := if S.word.toList = [] then (15, nx, S) else rfO nx u S (lookF f T.fs)
theorem rf_fits {N L : List PM} {u f : ByteArray} {S T S' : SM} {q nx' : Int} (h : storeB N = true) (h2 : storeB L = true) (hsu : shortB u = true) (hsf : shortB f = true) (hS : takeAll (nextM N) u S0 N = some S) (hT : takeAll (nextM L) u S0 L = some T) (hQ : rfM (nextM N) u S f T = (q, nx', S')) : OpFits N u q nx' S' (rsR N L u f) := by
  have hus := word_slash hsu
  have hfs := word_slash hsf
  obtain ⟨hg, nx0, hnm, n1, n2, _, _, _⟩ := store_facts h
  rw [hnm] at n1 n2
  obtain ⟨hwi, hwd⟩ := word_iff h hus hS
  unfold rfM at hQ
  unfold rsR
  by_cases hw : S.word.toList = []
  · rw [if_pos hw] at hQ
    cases hQ
    rw [hwi.1 hw, if_pos (show (none : Option ByteArray).isSome = false from rfl)]
    exact ⟨fun _ => rfl, fun h9 => by cases h9⟩
  rw [if_neg hw] at hQ
  have hs : (getM N (userK u)).isSome = true := by
    cases hv : getM N (userK u) with
    | none => exact absurd (hwi.2 hv) hw
    | some v => rfl
  rw [hs, if_neg (by decide), old_look hT]
  cases hl : lookF f T.fs with
  | none =>
    rw [hl, rfO_none] at hQ
    cases hQ
    exact ⟨fun _ => rfl, fun h9 => by cases h9⟩
  | some g =>
    rw [hl, rfO_some] at hQ
    obtain ⟨hgm, hgn⟩ := lookF_mem hl
    have hr := rs_fits (lies_of h hus hS hw) (by omega) n2 hus hfs hgn (mails_apart (tf := f) h2 hT hl) hQ
    show OpFits N u q nx' S' (rsG N u f g)
    refine ⟨hr.1, fun e => ?_⟩
    obtain ⟨r1, r2, r3, r4⟩ := hr.2 e
    obtain ⟨e1, e2, e3, e4, e5, e6⟩ := store_fit h2 hT g hgm
    have hnx : ¬ 9999 < nextM N := fun h9 => by
      unfold rsM at hQ
      rw [if_pos h9] at hQ
      cases hQ
      exact absurd e (by decide)
    have hS' : S' = S2F (nextM N) S g := by
      unfold rsM at hQ
      rw [if_neg hnx] at hQ
      split at hQ
      · cases hQ; exact absurd e (by decide)
      · split at hQ
        · cases hQ; exact absurd e (by decide)
        · split at hQ
          · cases hQ; exact absurd e (by decide)
          · cases hQ; rfl
    refine ⟨by omega, by omega, fun x hx => ?_, (rsG N u f g).1, r4.up, r4.pm.symm, by omega, ?_⟩
    · rw [hS'] at hx
      rcases putF_mem hx with hx | rfl
      · exact store_fit h hS x hx
      · exact ⟨by show 0 ≤ nextM N; omega, n2, e3, e4, e5, e6⟩
    · unfold fitsR
      rw [if_neg (by omega)]
      exact Prod.ext rfl r1
set_option maxHeartbeats 4000000 in
theorem restoreFolderI (w : World) (M : Nat) (a : Option Addr) (n c : Nat) (nx : Int) (u : ByteArray) (S : SM) (k : Nat) (va : Value) (X : List FX) (hD : DeskAt w M ⟨a, n, c, va, S.aside, nx, u, S.word, X⟩) (hV : View u X S.fs) (hN : (S.fs.map (·.name)).Nodup) (hf : ∀ f ∈ S.fs, 1 ≤ f.next ∧ f.next ≤ 999 ∧ f.mails.length ≤ k) (hk : S.aside.length ≤ k) (hkk : k ≤ 1000)
    (O : Nat) (a2 : Option Addr) (n2 c2 : Nat) (nx2 : Int) (T : SM) (vb : Value) (Z : List FX) (hE : DeskAt w O ⟨a2, n2, c2, vb, T.aside, nx2, u, T.word, Z⟩) (hW : View u Z T.fs) (hft : ∀ f ∈ T.fs, 1 ≤ f.next ∧ f.next ≤ 999 ∧ f.mails.length ≤ k) (hMO : M ≤ O) (hlt : ∀ z ∈ X, ∀ y, z.v.ownBlock = some y → y < O)
    (f : ByteArray) (hfz : f.size ≤ 1000) (N : List PM) (hl : S.word.toList ≠ [] → Lies N nx u S) (hN6 : N.length ≤ 60) (hus : (47 : UInt8) ∉ u.data.toList) (hu : u.size ≤ 1000) (hfs : (47 : UInt8) ∉ f.data.toList) (hM : ∀ g, lookF f T.fs = some g → (g.mails.map (mailP u f)).Pairwise (fun a b => a.1 ≠ b.1)) (hfit : ∀ f ∈ S.fs, FitF f) (hgit : ∀ f ∈ T.fs, FitF f) (n0 : 0 ≤ nx) (n1 : nx ≤ 10000) (hG : Gl w) (h8 : 8 ≤ M) (q nx' : Int) (S' : SM) (HQ : Hid (rfM nx u S f T = (q, nx', S'))) :
    Calls Tryz.prog 45 #[.pointer (some ⟨M + 1, 0, none⟩), .pointer (some ⟨O + 1, 0, none⟩), .string f] w fun e w' => e = .returned (.int .i64 q) ∧ StAt w' M a n c nx' u S' k ∧ Below M w w' := by
  have hM1 : M + 1 < w.heap.size := World.block_lt_of_cell? _ _ (hD.1 0 _ rfl).1
  have hST : StAt w M a n c nx u S k := ⟨va, X, hD, hV, hN, hf, hk⟩
  have HST : Hid (StAt w M a n c nx u S k) := hST
  have hq9 := HQ.out
  unfold rfM at hq9
  obtain ⟨lq, hlq⟩ : ∃ x, lackM S.word S.fs [] = x := ⟨_, rfl⟩
  have CL := lacksI w M a n c nx u S k hST hu none 0 0 [] rfl (by omega) (fun s hs => by cases hs) (.inl rfl) lq hlq
  by_cases hw : S.word.toList = []
  · rw [if_pos hw] at hq9
    cases hq9
    obtain rfl : 15 = lq := by rw [← hlq]; unfold lackM; rw [if_pos hw]
    clear hD hV hN hf hk hE hW hft hlt hl hus hfs hM hfit hgit hG HQ hST hlq
    go_enter Tryz.func45, Tryz.ntmps45
    go_wp2_with fail
    refine CL.mono ?_
    rintro e w1 ⟨rfl, hb1⟩
    have HF : Hid (StAt w1 M a n c nx u S k ∧ Below M w w1) := ⟨HST.out.later hb1, hb1.mono (by omega)⟩
    clear CL hb1
    go_wp2_with fail
    go_ret
    exact ⟨rfl, HF.out.1, HF.out.2⟩
  rw [if_neg hw] at hq9
  obtain rfl : 0 = lq := by rw [← hlq]; unfold lackM; rw [if_neg hw]; rfl
  obtain ⟨tb, htb⟩ : ∃ t, (lookF f T.fs).isSome = t := ⟨_, rfl⟩
  have CH := fun W (hb : Below w.heap.size w W) => hasI f W O ⟨a2, n2, c2, vb, T.aside, nx2, u, T.word, Z⟩ (by omega) (by show u.size ≤ 1048576; omega) (hE.later hb) tb (hW.some f tb htb)
  cases tb with
  | false =>
    have hln : lookF f T.fs = none := by
      cases hv : lookF f T.fs with
      | none => rfl
      | some z => rw [hv] at htb; cases htb
    rw [hln, rfO_none] at hq9
    cases hq9
    clear hD hV hN hf hk hE hW hft hlt hl hus hfs hM hfit hgit hG HQ hST hlq htb hln hw
    go_enter Tryz.func45, Tryz.ntmps45
    go_wp2_with fail
    refine CL.mono ?_
    rintro e w1 ⟨rfl, hb1⟩
    have B1 : Hid (Below w.heap.size w w1) := hb1
    have CH1 := CH w1 hb1
    clear CL hb1 CH
    go_wp2_with fail
    refine CH1.mono ?_
    rintro e w2 ⟨rfl, hb2⟩
    have B2 : Below w.heap.size w w2 := B1.out.trans (hb2.mono B1.out.size)
    have HF : Hid (StAt w2 M a n c nx u S k ∧ Below M w w2) := ⟨HST.out.later B2, B2.mono (by omega)⟩
    clear CH1 hb2 B2
    go_wp2_with fail
    go_ret
    exact ⟨rfl, HF.out.1, HF.out.2⟩
  | true =>
  obtain ⟨g, hlg⟩ := Option.isSome_iff_exists.1 htb
  rw [hlg, rfO_some] at hq9
  obtain ⟨hgm, hgn⟩ := lookF_mem hlg
  obtain ⟨ax, cx, hat, hrow, _⟩ := at_some hE hW hlg
  have CT := fun W (hb : Below w.heap.size w W) => atI f W O ⟨a2, n2, c2, vb, T.aside, nx2, u, T.word, Z⟩ (by omega) (by show u.size ≤ 1048576; omega) (hE.later hb)
  have hat2 : atX (lookX (folderK u f) Z) = .agg #[.string g.name, .int .i64 g.val, .int .i64 g.next, .slice ax g.mails.length cx] := hat
  have CT2 : Hid (∀ W, Below w.heap.size w W → Calls Tryz.prog 37 #[.pointer (some ⟨O + 1, 0, none⟩), .string f] W fun e w' => e = .returned (.agg #[.string g.name, .int .i64 g.val, .int .i64 g.next, .slice ax g.mails.length cx]) ∧ Below W.heap.size W w') := fun W hb => by
    rw [← hat2]
    exact CT W hb
  obtain ⟨e1, e2, e3, e4, e5, e6⟩ := hgit g hgm
  have hgb := hft g hgm
  have CR : Hid (∀ W, Below w.heap.size w W → Calls Tryz.prog 85 #[.pointer (some ⟨M + 1, 0, none⟩), .agg #[.string g.name, .int .i64 g.val, .int .i64 g.next, .slice ax g.mails.length cx]] W fun e w' => e = .returned (.int .i64 q) ∧ StAt w' M a n c nx' u S' k ∧ Below M W w') := fun W hb => by
    refine (restoreI W M a n c nx u S k va X (hD.later hb) hV hN hf hk hkk g g.name g.next g.val ax g.mails.length cx g.mails rfl rfl hgb (own_mono (own_below hrow hb) (by omega)) (fun z hz y hy h9 => ?_) N (hl hw) hN6 hus hu (by rw [hgn]; exact hfs) e5 (by rw [hgn]; exact hM g hlg) hfit e6 n0 n1 (hG.below (by omega) hb) h8 q nx' S' hq9).mono ?_
    · have k1 := hlt z hz y hy
      have k2 := own_base hrow h9
      omega
    · rintro e w' ⟨z1, z2, z3, _⟩
      exact ⟨z1, z2, z3⟩
  obtain ⟨nm, hnm⟩ : ∃ t, g.name = t := ⟨_, rfl⟩
  obtain ⟨gv, hgv⟩ : ∃ t, g.val = t := ⟨_, rfl⟩
  obtain ⟨gx, hgx⟩ : ∃ t, g.next = t := ⟨_, rfl⟩
  obtain ⟨ml, hml⟩ : ∃ t, g.mails.length = t := ⟨_, rfl⟩
  rw [hnm, hgv, hgx, hml] at CT2 CR
  clear hD hV hN hf hk hE hW hft hlt hl hus hfs hM hfit hgit hG HQ hST hlq htb hw hlg hgm hgn hat hrow CT hat2 e1 e2 e3 e4 e5 e6 hgb hq9 hnm hgv hgx hml
  go_enter Tryz.func45, Tryz.ntmps45
  go_wp2_with fail
  refine CL.mono ?_
  rintro e w1 ⟨rfl, hb1⟩
  have B1 : Hid (Below w.heap.size w w1) := hb1
  have CH1 := CH w1 hb1
  clear CL hb1 CH
  go_wp2_with fail
  refine CH1.mono ?_
  rintro e w2 ⟨rfl, hb2⟩
  have B2 : Hid (Below w.heap.size w w2) := B1.out.trans (hb2.mono B1.out.size)
  have CT3 := CT2.out w2 B2.out
  clear CH1 hb2 CT2
  go_wp2_with fail
  refine CT3.mono ?_
  rintro e w3 ⟨rfl, hb3⟩
  have B3 : Hid (Below w.heap.size w w3) := B2.out.trans (hb3.mono B2.out.size)
  have CR3 := CR.out w3 B3.out
  clear CT3 hb3 CR
  go_wp2_with fail
  refine CR3.mono ?_
  rintro e w4 ⟨rfl, hst4, hb4⟩
  have HF : Hid (StAt w4 M a n c nx' u S' k ∧ Below M w w4) := ⟨hst4, (B3.out.mono (by omega)).trans hb4⟩
  clear CR3 hst4 hb4
  go_wp2_with fail
  go_ret
  exact ⟨rfl, HF.out.1, HF.out.2⟩
end Go.Proofs.YtbpgncgmolpkiaaGreatDoor
