/-
  Pux Exp Exs Dlf Exi Exl in one. By an AI agent.
-/
import Derived.Test.YtbpgncgmolpkiaaGreatDoorMzb
import Derived.Test.YtbpgncgmolpkiaaGreatDoorMzr
import Derived.Test.YtbpgncgmolpkiaaGreatDoorCuts
import Derived.Lib.SliceRun
namespace Go.Proofs.YtbpgncgmolpkiaaGreatDoor
open Go.ChangeShapes Go.WideShapes Go.ChangeAt Go.RowKit Go.Deep Go.Lib
open Go.ChangeMaps (setBlock)
set_option linter.unusedVariables false
set_option linter.unusedSimpArgs false
set_option maxRecDepth 100000

/-- A block's kind. -/
def KindAt (w : World) (B t : Nat) : Prop := ∃ c f, w.heap[B]? = some (.cells c t f)
theorem kind_set {w : World} {B t : Nat} (h : KindAt w B t) (a : Addr) (v : Value) : KindAt (w.setCell a v) B t := by
  obtain ⟨c, f, h⟩ := h
  by_cases e : B = a.block
  · subst e
    refine ⟨if a.spot.isSome then c else c.setIfInBounds a.off v, f, ?_⟩
    show (w.heap.modify a.block _)[a.block]? = _
    rw [Array.getElem?_modify, if_pos rfl, h]
    rfl
  · exact ⟨c, f, (Below.heap_setCell _ _ _ _ e).trans h⟩
theorem kind_below {w w' : World} {B t : Nat} (h : KindAt w B t) (hb : Below w.heap.size w w') : KindAt w' B t := by
  obtain ⟨c, f, h⟩ := h
  have h1 : B < w.heap.size := by
    rcases Nat.lt_or_ge B w.heap.size with h1 | h1
    · exact h1
    · rw [Array.getElem?_eq_none h1] at h
      cases h
  exact ⟨c, f, (hb.block B h1).trans h⟩
set_option maxHeartbeats 2000000 in
theorem putX (y : FX) (nm : ByteArray) (vl nx : Int) (ay : Option Addr) (ny cy : Nat) (w : World) (M : Nat) (D : DK) (hy : y = ⟨folderK D.user nm, 0, nm, vl, nx, .slice ay ny cy, y.mails⟩) (hf : nm.size ≤ 1048576) (hu : D.user.size ≤ 1048576) (hD : DeskH w M D) (hR : ∀ clock, Rows w M (setX y clock D.X)) :
    Calls Tryz.prog 40 #[.pointer (some ⟨M + 1, 0, none⟩), .agg #[.string nm, .int .i64 vl, .int .i64 nx, .slice ay ny cy]] w fun e w' => e = .returned (.tuple #[]) ∧ (∃ clock, DeskAt w' M { D with X := setX y clock D.X }) ∧ Below M w w' ∧ (∀ t s v n xs, w.ownsRow (M + 2) t s v n xs → w'.ownsRow (M + 2) t s v n xs) ∧ (∀ B vs, B ≠ M → Box w B vs → Box w' B vs) ∧ ∀ B t, B ≠ M → KindAt w B t → KindAt w' B t := by
  have HD : Hid (DeskH w M D) := hD
  obtain ⟨hbox, ⟨clock, hmap⟩, hasd⟩ := hD
  have AL : Below w.heap.size w (w.alloc (.cells #[.string nm, .int .i64 vl, .int .i64 nx, .slice ay ny cy] 59)) := (Below.refl _ _).alloc (Nat.le_refl _) _
  have HAL : Hid (Below w.heap.size w (w.alloc (.cells #[.string nm, .int .i64 vl, .int .i64 nx, .slice ay ny cy] 59))) := AL
  have D1 := HD.out.later AL
  have hlt : M < w.heap.size := (Array.getElem?_eq_some_iff.1 hmap.1).1
  have hlt1 : M + 1 < w.heap.size := World.block_lt_of_cell? _ _ (hbox 0 _ rfl).1
  have HLT : Hid (M < w.heap.size ∧ M + 1 < w.heap.size) := ⟨hlt, hlt1⟩
  obtain ⟨b1, _, a1⟩ := D1
  have m1 := (hmap.later AL)
  have Y0 : Box (w.alloc (.cells #[.string nm, .int .i64 vl, .int .i64 nx, .slice ay ny cy] 59)) w.heap.size [.string nm, .int .i64 vl, .int .i64 nx, .slice ay ny cy] := Box.new rfl
  obtain ⟨p3, _⟩ := b1 3 _ rfl
  obtain ⟨p5, _⟩ := b1 5 _ rfl
  obtain ⟨q0, _⟩ := Y0 0 _ rfl
  obtain ⟨q1, _⟩ := Y0 1 _ rfl
  obtain ⟨q2, _⟩ := Y0 2 _ rfl
  obtain ⟨q3, _⟩ := Y0 3 _ rfl
  obtain ⟨cl, hup, hmi⟩ := run_put (w := (w.alloc (.cells #[.string nm, .int .i64 vl, .int .i64 nx, .slice ay ny cy] 59)).drew) (M := M) (clock := clock) (X := D.X) m1 y
  have hyk : y.k = folderK D.user nm := by rw [hy]
  have hyv : valX y = .agg #[.string nm, .int .i64 vl, .int .i64 nx, .slice ay ny cy] := by rw [hy]
  rw [hyk, hyv] at hup
  obtain ⟨O, hO⟩ : ∃ O, (.map ((setX y clock D.X).map entX).toArray cl : Obj) = O := ⟨_, rfl⟩
  rw [hO] at hup hmi
  obtain ⟨K9, hK9⟩ : ∃ K, folderK D.user nm = K := ⟨_, rfl⟩
  have CK := fun W => folderKeyI D.user nm W hu hf
  rw [hK9] at hup
  simp only [hK9] at CK
  have HF : Hid (DeskAt (setBlock (w.alloc (.cells #[.string nm, .int .i64 vl, .int .i64 nx, .slice ay ny cy] 59)).drew M O) M { D with X := setX y clock D.X }) :=
    ⟨box_sb b1 O (by omega), ⟨cl, hmi⟩, own_sb a1 O (by omega), fun x hx => own_sb (own_below ((hR clock).1 x hx) AL) O (by omega), (hR clock).2⟩
  have HB : Hid (Below M w (setBlock (w.alloc (.cells #[.string nm, .int .i64 vl, .int .i64 nx, .slice ay ny cy] 59)).drew M O)) := (AL.mono (Nat.le_of_lt hlt)).drew.trans (sb_below _ M O)
  have HOW : Hid ((∀ t s v n xs, w.ownsRow (M + 2) t s v n xs → (setBlock (w.alloc (.cells #[.string nm, .int .i64 vl, .int .i64 nx, .slice ay ny cy] 59)).drew M O).ownsRow (M + 2) t s v n xs) ∧ (∀ B vs, B ≠ M → Box w B vs → Box (setBlock (w.alloc (.cells #[.string nm, .int .i64 vl, .int .i64 nx, .slice ay ny cy] 59)).drew M O) B vs) ∧ ∀ B t, B ≠ M → KindAt w B t → KindAt (setBlock (w.alloc (.cells #[.string nm, .int .i64 vl, .int .i64 nx, .slice ay ny cy] 59)).drew M O) B t) := ⟨fun t s v n xs h9 => own_sb (own_below h9 AL) O (by omega), fun B vs h9 h8 => box_sb (M := M) (h8.below AL) O h9, fun B t h9 h8 => by
    obtain ⟨c1, f1, k1⟩ := kind_below h8 AL
    exact ⟨c1, f1, (sb_block _ M B O h9).trans k1⟩⟩
  have HS : Hid ((setBlock (w.alloc (.cells #[.string nm, .int .i64 vl, .int .i64 nx, .slice ay ny cy] 59)).drew M O).cell? ⟨M + 1, 3, none⟩ = some (.string D.user) ∧ (setBlock (w.alloc (.cells #[.string nm, .int .i64 vl, .int .i64 nx, .slice ay ny cy] 59)).drew M O).cell? ⟨M + 1, 5, none⟩ = some (.map (some M)) ∧ (setBlock (w.alloc (.cells #[.string nm, .int .i64 vl, .int .i64 nx, .slice ay ny cy] 59)).drew M O).cell? ⟨w.heap.size, 0, none⟩ = some (.string nm) ∧ (setBlock (w.alloc (.cells #[.string nm, .int .i64 vl, .int .i64 nx, .slice ay ny cy] 59)).drew M O).cell? ⟨w.heap.size, 1, none⟩ = some (.int .i64 vl) ∧ (setBlock (w.alloc (.cells #[.string nm, .int .i64 vl, .int .i64 nx, .slice ay ny cy] 59)).drew M O).cell? ⟨w.heap.size, 2, none⟩ = some (.int .i64 nx) ∧ (setBlock (w.alloc (.cells #[.string nm, .int .i64 vl, .int .i64 nx, .slice ay ny cy] 59)).drew M O).cell? ⟨w.heap.size, 3, none⟩ = some (.slice ay ny cy)) := by
    have hx := box_sb (M := M) b1 O (by omega)
    have hz := box_sb (M := M) Y0 O (by omega)
    exact ⟨(hx 3 _ rfl).1, (hx 5 _ rfl).1, (hz 0 _ rfl).1, (hz 1 _ rfl).1, (hz 2 _ rfl).1, (hz 3 _ rfl).1⟩
  clear hbox hmap hasd AL b1 a1 m1 Y0 hmi hyk hyv hy hR hO hK9 HD
  go_enter Tryz.func40, Tryz.ntmps40
  go_wp2_with fail
  refine wp_region_noPanic ?_
  refine wp_region_held_drew (S := fun w' => w'.cell? ⟨M + 1, 3, none⟩ = some (.string D.user) ∧ w'.cell? ⟨M + 1, 5, none⟩ = some (.map (some M)) ∧ w'.cell? ⟨w.heap.size, 0, none⟩ = some (.string nm) ∧ w'.cell? ⟨w.heap.size, 1, none⟩ = some (.int .i64 vl) ∧ w'.cell? ⟨w.heap.size, 2, none⟩ = some (.int .i64 nx) ∧ w'.cell? ⟨w.heap.size, 3, none⟩ = some (.slice ay ny cy)) (by kernel_rfl) ⟨p3, p5, q0, q1, q2, q3⟩ (fun hHeld => ?_)
  refine tkA (i := 0) (v := .pointer (some ⟨M + 1, 0, none⟩)) ?_ hHeld ?_
  · intro w9 hSw
    obtain ⟨z0, z1, z2, z3, z4, z5⟩ := hSw
    go_simp
  simp only [Act.put, List.setIfInBounds_toArray, List.set_cons_zero, List.set_cons_succ]
  refine tkA (i := 1) (v := .pointer (some ⟨M + 1, 0, none⟩)) ?_ hHeld ?_
  · intro w9 hSw
    obtain ⟨z0, z1, z2, z3, z4, z5⟩ := hSw
    go_simp
  simp only [Act.put, List.setIfInBounds_toArray, List.set_cons_zero, List.set_cons_succ]
  refine tkA (i := 2) (v := .pointer (some ⟨M + 1, 5, none⟩)) ?_ hHeld ?_
  · intro w9 hSw
    obtain ⟨z0, z1, z2, z3, z4, z5⟩ := hSw
    go_simp
  simp only [Act.put, List.setIfInBounds_toArray, List.set_cons_zero, List.set_cons_succ]
  refine tkA (i := 3) (v := .map (some M)) ?_ hHeld ?_
  · intro w9 hSw
    obtain ⟨z0, z1, z2, z3, z4, z5⟩ := hSw
    go_simp
  simp only [Act.put, List.setIfInBounds_toArray, List.set_cons_zero, List.set_cons_succ]
  refine tkA (i := 4) (v := .pointer (some ⟨M + 1, 0, none⟩)) ?_ hHeld ?_
  · intro w9 hSw
    obtain ⟨z0, z1, z2, z3, z4, z5⟩ := hSw
    go_simp
  simp only [Act.put, List.setIfInBounds_toArray, List.set_cons_zero, List.set_cons_succ]
  refine tkA (i := 5) (v := .pointer (some ⟨M + 1, 0, none⟩)) ?_ hHeld ?_
  · intro w9 hSw
    obtain ⟨z0, z1, z2, z3, z4, z5⟩ := hSw
    go_simp
  simp only [Act.put, List.setIfInBounds_toArray, List.set_cons_zero, List.set_cons_succ]
  refine tkA (i := 6) (v := .pointer (some ⟨M + 1, 3, none⟩)) ?_ hHeld ?_
  · intro w9 hSw
    obtain ⟨z0, z1, z2, z3, z4, z5⟩ := hSw
    go_simp
  simp only [Act.put, List.setIfInBounds_toArray, List.set_cons_zero, List.set_cons_succ]
  refine tkA (i := 7) (v := .string D.user) ?_ hHeld ?_
  · intro w9 hSw
    obtain ⟨z0, z1, z2, z3, z4, z5⟩ := hSw
    go_simp
  simp only [Act.put, List.setIfInBounds_toArray, List.set_cons_zero, List.set_cons_succ]
  refine tkA (i := 8) (v := .pointer (some ⟨w.heap.size, 0, none⟩)) ?_ hHeld ?_
  · intro w9 hSw
    obtain ⟨z0, z1, z2, z3, z4, z5⟩ := hSw
    go_simp
  simp only [Act.put, List.setIfInBounds_toArray, List.set_cons_zero, List.set_cons_succ]
  refine tkA (i := 9) (v := .string nm) ?_ hHeld ?_
  · intro w9 hSw
    obtain ⟨z0, z1, z2, z3, z4, z5⟩ := hSw
    go_simp
  simp only [Act.put, List.setIfInBounds_toArray, List.set_cons_zero, List.set_cons_succ]
  refine tkA (i := 11) (v := .agg #[.string nm, .int .i64 vl, .int .i64 nx, .slice ay ny cy]) ?_ hHeld ?_
  · intro w9 hSw
    obtain ⟨z0, z1, z2, z3, z4, z5⟩ := hSw
    go_simp
  simp only [Act.put, List.setIfInBounds_toArray, List.set_cons_zero, List.set_cons_succ]
  refine wpAnyH_ready (rs := [10]) (by kernel_rfl) (by simp) ?_
  refine AllReadyH.cons rfl (fun K hK => ?_) AllReadyH.nil
  go_simp
  refine (CK _).mono ?_
  rintro e w1 ⟨rfl, hw1⟩
  obtain rfl := hw1
  dsimp only
  refine hK _ _ ⟨p3, p5, q0, q1, q2, q3⟩ (fun hHeld => ?_)
  clear hK K
  refine wpAnyH_ready (rs := [12]) (by kernel_rfl) (by simp) ?_
  refine AllReadyH.cons rfl (fun K hK => ?_) AllReadyH.nil
  go_simp
  refine hK _ _ HS.out (fun hHeld => ?_)
  clear hK K
  refine wpAnyH_done (by kernel_rfl) ?_ _
  refine NoPanic.normal ?_
  clear hHeld
  go_wp2_with fail
  go_end0
  exact ⟨rfl, ⟨clock, HF.out⟩, HB.out, HOW.out⟩
set_option maxHeartbeats 2000000 in
theorem freshY (nm : ByteArray) (v0 nx0 : Int) (ax : Option Addr) (ml cx : Nat) (Ms : List MMl) (hMs : Ms.length = ml) (w : World) (M : Nat) (a : Option Addr) (n c : Nat) (va : Value) (sd : List PM) (nx : Int) (u wd : ByteArray) (X : List FX) (fs : List FM) (hD : DeskAt w M ⟨a, n, c, va, sd, nx, u, wd, X⟩) (hV : View u X fs) (hN : (fs.map (·.name)).Nodup) (hu : u.size ≤ 1000) (hnm : nm.size ≤ 1000) (hnx : 0 ≤ nx) (hnx1 : nx ≤ 10000)
    (hrow : w.ownsRow (M + 2) 62 3 (.slice ax ml cx) ml (cellsMl Ms)) (hap : ∀ z ∈ X, z.k ≠ folderK u nm → ∀ g, z.v.ownBlock = some g → Value.ownBlock (.slice ax ml cx) ≠ some g) :
    Calls Tryz.prog 65 #[.pointer (some ⟨M + 1, 0, none⟩), .agg #[.string nm, .int .i64 v0, .int .i64 nx0, .slice ax ml cx]] w fun e w' => Below M w w' ∧ (∀ t s v n xs, w.ownsRow (M + 2) t s v n xs → w'.ownsRow (M + 2) t s v n xs) ∧ (∀ B vs, B ≠ M → B ≠ M + 1 → Box w B vs → Box w' B vs) ∧ (∀ B t, B ≠ M → KindAt w B t → KindAt w' B t) ∧ ((9999 < nx ∧ e = .returned (.int .i64 6) ∧ DeskAt w' M ⟨a, n, c, va, sd, nx, u, wd, X⟩) ∨ (¬ 9999 < nx ∧ e = .returned (.int .i64 0) ∧ ∃ clock, DeskAt w' M ⟨a, n, c, va, sd, nx + 1, u, wd, setX ⟨folderK u nm, 0, nm, nx, nx0, .slice ax ml cx, Ms⟩ clock X⟩)) := by
  have hM1 : M + 1 < w.heap.size := World.block_lt_of_cell? _ _ (hD.1 0 _ rfl).1
  obtain ⟨c2, f2⟩ := hD.1 2 _ rfl
  have hKN : (X.map (·.k)).Nodup := by
    rw [hV.keys]
    exact nodup_keys hN
  by_cases hb : 9999 < nx
  · have HD : Hid (DeskAt (w.alloc (.cells #[.string nm, .int .i64 v0, .int .i64 nx0, .slice ax ml cx] 59)) M ⟨a, n, c, va, sd, nx, u, wd, X⟩) := hD.later ((Below.refl _ _).alloc (Nat.le_refl _) _)
    have HB : Hid (Below M w (w.alloc (.cells #[.string nm, .int .i64 v0, .int .i64 nx0, .slice ax ml cx] 59))) := (Below.refl _ _).alloc (by omega) _
    have HOW : Hid ((∀ t s v n xs, w.ownsRow (M + 2) t s v n xs → (w.alloc (.cells #[.string nm, .int .i64 v0, .int .i64 nx0, .slice ax ml cx] 59)).ownsRow (M + 2) t s v n xs) ∧ (∀ B vs, B ≠ M → B ≠ M + 1 → Box w B vs → Box (w.alloc (.cells #[.string nm, .int .i64 v0, .int .i64 nx0, .slice ax ml cx] 59)) B vs) ∧ ∀ B t, B ≠ M → KindAt w B t → KindAt (w.alloc (.cells #[.string nm, .int .i64 v0, .int .i64 nx0, .slice ax ml cx] 59)) B t) := ⟨fun t s v n xs h9 => own_below h9 ((Below.refl _ _).alloc (Nat.le_refl _) _), fun B vs _ _ h8 => h8.below ((Below.refl _ _).alloc (Nat.le_refl _) _), fun B t _ h8 => kind_below h8 ((Below.refl _ _).alloc (Nat.le_refl _) _)⟩
    clear hD hV hN hrow hap hKN
    go_enter Tryz.func65, Tryz.ntmps65
    go_wp2_with fail
    go_ret
    exact ⟨HB.out, HOW.out.1, HOW.out.2.1, HOW.out.2.2, .inl ⟨rfl, HD.out⟩⟩
  · obtain ⟨w1, hw1⟩ : ∃ W, w.alloc (.cells #[.string nm, .int .i64 nx, .int .i64 nx0, .slice ax ml cx] 59) = W := ⟨_, rfl⟩
    have B1 : Below w.heap.size w w1 := by rw [← hw1]; exact (Below.refl _ _).alloc (Nat.le_refl _) _
    have D2 : DeskAt (w1.setCell ⟨M + 1, 2, none⟩ (.int .i64 (nx + 1))) M ⟨a, n, c, va, sd, nx + 1, u, wd, X⟩ := desk_set (hD.later B1) 2 (.int .i64 (nx + 1)) rfl rfl rfl rfl
    have X1 : Box w1 w.heap.size [.string nm, .int .i64 nx, .int .i64 nx0, .slice ax ml cx] := by rw [← hw1]; exact Box.new rfl
    have R2 : (w1.setCell ⟨M + 1, 2, none⟩ (.int .i64 (nx + 1))).ownsRow (M + 2) 62 3 (.slice ax ml cx) ml (cellsMl Ms) := own_setLow (own_below hrow B1) (by show M + 1 < M + 2; omega) _
    have HB2 : Hid (Below M w (w1.setCell ⟨M + 1, 2, none⟩ (.int .i64 (nx + 1)))) := (B1.mono (by omega)).setCell (by show M ≤ M + 1; omega) _
    have HOW2 : Hid ((∀ t s v n xs, w.ownsRow (M + 2) t s v n xs → (w1.setCell ⟨M + 1, 2, none⟩ (.int .i64 (nx + 1))).ownsRow (M + 2) t s v n xs) ∧ (∀ B vs, B ≠ M + 1 → Box w B vs → Box (w1.setCell ⟨M + 1, 2, none⟩ (.int .i64 (nx + 1))) B vs) ∧ ∀ B t, KindAt w B t → KindAt (w1.setCell ⟨M + 1, 2, none⟩ (.int .i64 (nx + 1))) B t) := ⟨fun t s v n xs h9 => own_setLow (own_below h9 B1) (by show M + 1 < M + 2; omega) _, fun B vs h9 h8 => (h8.below B1).other _ (by show B ≠ M + 1; exact h9) _, fun B t h8 => kind_set (kind_below h8 B1) _ _⟩
    have CP := putX ⟨folderK u nm, 0, nm, nx, nx0, .slice ax ml cx, Ms⟩ nm nx nx0 ax ml cx (w1.setCell ⟨M + 1, 2, none⟩ (.int .i64 (nx + 1))) M ⟨a, n, c, va, sd, nx + 1, u, wd, X⟩ rfl (by omega) (by show u.size ≤ 1048576; omega) D2.head (fun clock => rows_set D2.2.2.2 (by show World.ownsRow _ _ _ _ _ Ms.length _; rw [hMs]; exact R2) hKN (fun x hx hk => hap x hx hk) clock)
    obtain ⟨g2, fz2⟩ := (hD.later B1).1 2 _ rfl
    have HX : Hid (Box (w1.setCell ⟨M + 1, 2, none⟩ (.int .i64 (nx + 1))) w.heap.size [.string nm, .int .i64 nx, .int .i64 nx0, .slice ax ml cx]) := X1.other _ (by show w.heap.size ≠ M + 1; omega) _
    obtain ⟨e0', _⟩ := HX.out 0 _ rfl
    obtain ⟨e1', _⟩ := HX.out 1 _ rfl
    obtain ⟨e2', _⟩ := HX.out 2 _ rfl
    obtain ⟨e3', _⟩ := HX.out 3 _ rfl
    have HV : Hid (View u X fs) := hV
    clear hD hV hN hrow hap D2 R2 B1 X1 hKN
    go_enter Tryz.func65, Tryz.ntmps65
    go_wp2_with fail
    refine CP.mono ?_
    rintro e w4 ⟨rfl, ⟨clock, hd4⟩, hb4, ho4, hx4, hy4⟩
    have HOW4 : Hid ((∀ t s v n xs, w.ownsRow (M + 2) t s v n xs → w4.ownsRow (M + 2) t s v n xs) ∧ (∀ B vs, B ≠ M → B ≠ M + 1 → Box w B vs → Box w4 B vs) ∧ ∀ B t, B ≠ M → KindAt w B t → KindAt w4 B t) := ⟨fun t s v n xs h9 => ho4 _ _ _ _ _ (HOW2.out.1 _ _ _ _ _ h9), fun B vs h9 h8 h7 => hx4 B vs h9 (HOW2.out.2.1 B vs h8 h7), fun B t h9 h8 => hy4 B t h9 (HOW2.out.2.2 B t h8)⟩
    have HB4 : Hid (Below M w w4) := HB2.out.trans hb4
    have HD4 : Hid (∃ clock, DeskAt w4 M ⟨a, n, c, va, sd, nx + 1, u, wd, setX ⟨folderK u nm, 0, nm, nx, nx0, .slice ax ml cx, Ms⟩ clock X⟩) := ⟨clock, hd4⟩
    clear hd4 hb4 CP ho4 hx4 hy4
    go_wp2_with fail
    go_ret
    exact ⟨HB4.out, HOW4.out.1, HOW4.out.2.1, HOW4.out.2.2, .inr ⟨rfl, HD4.out⟩⟩
end Go.Proofs.YtbpgncgmolpkiaaGreatDoor
namespace Go.Proofs.YtbpgncgmolpkiaaGreatDoor
open Go.ChangeShapes Go.WideShapes Go.ChangeAt Go.RowKit Go.Deep Go.Lib
set_option linter.unusedVariables false
set_option linter.unusedSimpArgs false
set_option maxRecDepth 100000

/-- A mail that is marked as deleted. -/
def delB (m : MMl) : Bool := decide (2 ≤ m.2.1)
def goI (Ms : List MMl) : List Int := (Ms.filter delB).map (·.1)
abbrev keepM (Ms : List MMl) : List MMl := Ms.filter fun m => !delB m
def exP (u f : ByteArray) (Ms : List MMl) (p : PM) : Bool := (Ms.filter delB).all fun m => decide (p.1 ≠ mailK u f m.1)
def exTo (L : List PM) (u f : ByteArray) (Ms : List MMl) (j : Nat) : List PM := L.filter (exP u f (Ms.take j))
theorem take_next {Ms : List MMl} {j : Nat} (hj : j < Ms.length) : Ms.take (j + 1) = Ms.take j ++ [Ms.getD j ml0] := by
  rw [List.take_add_one, List.getD_eq_getElem?_getD, List.getElem?_eq_getElem hj]
  rfl
theorem ex_hit {L : List PM} {u f : ByteArray} {Ms : List MMl} {j : Nat} (hj : j < Ms.length) (h : delB (Ms.getD j ml0) = true) : notK (mailK u f (Ms.getD j ml0).1) (exTo L u f Ms j) = exTo L u f Ms (j + 1) ∧ goI (Ms.take (j + 1)) = goI (Ms.take j) ++ [(Ms.getD j ml0).1] := by
  constructor
  · unfold exTo notK
    rw [List.filter_filter]
    refine List.filter_congr fun p _ => ?_
    unfold exP
    rw [take_next hj, List.filter_append, List.filter_cons_of_pos h, List.filter_nil, List.all_append]
    simp only [List.all_cons, List.all_nil, Bool.and_true]
    rw [Bool.and_comm]
  · unfold goI
    rw [take_next hj, List.filter_append, List.filter_cons_of_pos h, List.filter_nil, List.map_append]
    rfl
theorem ex_miss {L : List PM} {u f : ByteArray} {Ms : List MMl} {j : Nat} (hj : j < Ms.length) (h : delB (Ms.getD j ml0) = false) : exTo L u f Ms j = exTo L u f Ms (j + 1) ∧ goI (Ms.take (j + 1)) = goI (Ms.take j) := by
  have e : (Ms.take (j + 1)).filter delB = (Ms.take j).filter delB := by
    rw [take_next hj, List.filter_append, List.filter_cons_of_neg (by rw [h]; simp), List.filter_nil, List.append_nil]
  constructor
  · unfold exTo exP
    rw [e]
  · unfold goI
    rw [e]
theorem ex_zero (L : List PM) (u f : ByteArray) (Ms : List MMl) : exTo L u f Ms 0 = L := by
  unfold exTo
  rw [List.filter_eq_self]
  intro p _
  rfl
theorem ex_len (L : List PM) (u f : ByteArray) (Ms : List MMl) (j : Nat) : (exTo L u f Ms j).length ≤ L.length := List.length_filter_le _ _
theorem go_len (Ms : List MMl) (j : Nat) : (goI (Ms.take j)).length ≤ Ms.length := by
  unfold goI
  rw [List.length_map]
  have h1 := List.length_filter_le delB (Ms.take j)
  have h2 : (Ms.take j).length ≤ Ms.length := by rw [List.length_take]; omega
  omega
def exY (L : List PM) (u f : ByteArray) : List PM := exTo L u f (rnF L u f).mails (rnF L u f).mails.length
def exR (L : List PM) (u f : ByteArray) : List PM × List Int × Int := if knownR L u f ≠ 0 then (L, [], knownR L u f) else (exY L u f, goI (rnF L u f).mails, 0)
def eR (L : List PM) (u f : ByteArray) : List PM × List Int × Int := if askM L [u, f] ≠ 0 then ([], [], askM L [u, f]) else exR L u f
abbrev exS (S : SM) (g : FM) : SM := ⟨S.aside, S.word, putF ⟨g.name, g.val, g.next, keepM g.mails⟩ S.fs⟩
theorem ex_pass {u f : ByteArray} {Ms : List MMl} {p : PM} (h : beginsB p.1 (preK u f) = false) : exP u f Ms p = true := by
  unfold exP
  rw [List.all_eq_true]
  intro m _
  refine decide_eq_true fun e => ?_
  have h9 := begins_mail u f m
  rw [show (mailP u f m).1 = p.1 from e.symm, h] at h9
  cases h9
theorem ex_mails {L : List PM} {u f : ByteArray} {S : SM} {g : FM} (h : storeB L = true) (hus : (47 : UInt8) ∉ u.data.toList) (hS : takeAll (nextM L) u S0 L = some S) (hl : lookF f S.fs = some g) : (g.mails.map (mailP u f)).filter (exP u f g.mails) = (keepM g.mails).map (mailP u f) := by
  rw [List.filter_map]
  congr 1
  refine List.filter_congr fun m hm => ?_
  show exP u f g.mails (mailP u f m) = !delB m
  have hfit := (store_fit h hS g (lookF_mem hl).1).2.2.2.2.2
  cases hd : delB m with
  | true =>
    unfold exP
    rw [Bool.eq_iff_iff]
    constructor
    · intro h9
      rw [List.all_eq_true] at h9
      exact absurd rfl (of_decide_eq_true (h9 m (List.mem_filter.2 ⟨hm, hd⟩)))
    · intro h9; cases h9
  | false =>
    unfold exP
    show _ = true
    rw [List.all_eq_true]
    intro m' hm'
    obtain ⟨k1, k2⟩ := List.mem_filter.1 hm'
    refine decide_eq_true fun e => ?_
    have p1 := mail_pair h hus hS hl hm
    have p2 := mail_pair h hus hS hl k1
    have e2 : mailK u f m.1 = mailK u f m'.1 := e
    rw [e2] at p1
    have e3 := key_one (store_facts h).1.2.2 p1 p2
    have q1 := (mailV_parts (hfit m hm).2.2.1 (hfit m hm).2.2.2.1).2
    have q2 := (mailV_parts (hfit m' k1).2.2.1 (hfit m' k1).2.2.2.1).2
    rw [e3, q2] at q1
    unfold delB at hd k2
    rw [q1] at k2
    rw [k2] at hd
    cases hd
theorem ex_fits {L : List PM} {u f : ByteArray} {S : SM} {g : FM} (h : storeB L = true) (hus : (47 : UInt8) ∉ u.data.toList) (hfs : (47 : UInt8) ∉ f.data.toList) (hS : takeAll (nextM L) u S0 L = some S) (hw : S.word.toList ≠ []) (hl : lookF f S.fs = some g) :
    UpL (exY L u f) ∧ (deskP (nextM L) u (exS S g)).Perm (exY L u f) ∧ (exY L u f).length ≤ 60 ∧ (∀ x ∈ (exS S g).fs, FitF x) ∧ rnF L u f = g := by
  have hg := (store_facts h).1
  have hr := rnF_is hS hl
  obtain ⟨hgm, hgn⟩ := lookF_mem hl
  have hnd := names_all (S := S0) List.nodup_nil hS
  have hy : exY L u f = L.filter (exP u f g.mails) := by
    unfold exY exTo
    rw [hr, List.take_of_length_le (Nat.le_refl _)]
  rw [hy]
  refine ⟨hg.2.2.sublist List.filter_sublist, ?_, Nat.le_trans (List.length_filter_le _ _) hg.1, fun x hx => ?_, hr⟩
  · refine List.Perm.symm ?_
    refine ((desk_list h hus hS hw).filter _).trans ?_
    rw [List.filter_cons_of_pos (ex_pass (pass_not (pass_v u f _))), List.filter_cons_of_pos (ex_pass (pass_not (pass_u u f _))), List.filter_append]
    have e3 : (notK vK S.aside).filter (exP u f g.mails) = notK vK S.aside := by
      rw [List.filter_eq_self]
      exact fun p hp => ex_pass (pass_not (aside_pass h hus hfs hS hp))
    rw [e3]
    unfold deskP
    refine List.Perm.cons _ (List.Perm.cons _ (List.Perm.append_left _ ?_))
    refine ((flat_perm (drop_perm hl)).filter _).trans ?_
    have hl2 : lookF (⟨g.name, g.val, g.next, keepM g.mails⟩ : FM).name S.fs = some g := by rw [show (⟨g.name, g.val, g.next, keepM g.mails⟩ : FM).name = f from hgn]; exact hl
    refine List.Perm.trans ?_ (flat_perm (put_perm hl2)).symm
    rw [flat_cons, flat_cons, List.filter_append]
    have e4 : (flatF u (dropF f S.fs)).filter (exP u f g.mails) = flatF u (dropF f S.fs) := by
      have h7 := rest_pass (u := u) (f := f) (fs := dropF f S.fs) hus hfs fun x hx => ⟨drop_names hnd x hx, word_slash (name_short h hus hS ((dropF_sub f S.fs).subset hx))⟩
      rw [List.filter_eq_self] at h7 ⊢
      exact fun p hp => ex_pass (pass_not (h7 p hp))
    have e5 : (fPairs u g).filter (exP u f g.mails) = fPairs u ⟨g.name, g.val, g.next, keepM g.mails⟩ := by
      unfold fPairs
      rw [hgn]
      have e6 : beginsB (folderK u f) (preK u f) = false := by
        cases hb : beginsB (folderK u f) (preK u f) with
        | false => rfl
        | true =>
          obtain ⟨r, hr⟩ := begins_pre.1 hb
          rw [folderK_data] at hr
          simp at hr
      rw [List.filter_cons_of_pos (ex_pass e6), ex_mails h hus hS hl]
    rw [e4, e5, show (⟨g.name, g.val, g.next, keepM g.mails⟩ : FM).name = f from hgn]
  · rcases putF_mem hx with hx | rfl
    · exact store_fit h hS x hx
    · obtain ⟨e1, e2, e3, e4, e5, e6⟩ := store_fit h hS g hgm
      exact ⟨e1, e2, e3, e4, e5, fun m hm => e6 m (List.mem_filter.1 hm).1⟩
end Go.Proofs.YtbpgncgmolpkiaaGreatDoor
namespace Go.Proofs.YtbpgncgmolpkiaaGreatDoor
open Go.ChangeShapes Go.WideShapes Go.ChangeAt Go.RowKit Go.Deep Go.Lib
set_option linter.unusedVariables false
set_option linter.unusedSimpArgs false
set_option maxRecDepth 100000

theorem l01DropR (a : Option Addr) (n c : Nat) (L : List PM) (key : ByteArray) (w : World) (hL : L.length = n) (hn : n ≤ 4096) (h : Src w a (cellsP L)) (R : List PM) (m : Nat) (hR : notK key L = R) (hm : R.length = m) :
    Calls Tryz.prog 51 #[.slice a n c, .string key] w fun e w' => ∃ a2 c2, e = .returned (.slice a2 m c2) ∧ w'.ownsRow w.heap.size 47 2 (.slice a2 m c2) m (cellsP R) ∧ Below w.heap.size w w' := by
  refine (l01Drop a n c (fK L) (fV L) key w hn (sp_src h hL)).mono ?_
  rintro e w' ⟨v, rfl, ho, hb⟩
  have e1 : dropTo (fK L) (fV L) key n = R := by
    rw [dropTo_is L key n (by omega), List.take_of_length_le (by omega), hR]
  rw [e1] at ho
  have ho2 : w'.ownsRow w.heap.size 47 2 v m (cellsP R) := by rw [← hm]; exact ho
  obtain ⟨a2, c2, rfl, _, _⟩ := own_src ho2
  exact ⟨a2, c2, rfl, ho2, hb⟩
theorem src_oneI {w : World} {x : Int} {B ty : Nat} (hB : B = w.heap.size) : Src (w.alloc (.cells #[.int .i64 x] ty)) (some ⟨B, 0, none⟩) (cellsI [x]) := by
  have hb : Box (w.alloc (.cells #[.int .i64 x] ty)) B [.int .i64 x] := Box.new hB
  refine .inr ⟨B, 0, rfl, fun j hj => ?_⟩
  have hj4 : j < 1 := hj
  rw [Nat.zero_add]
  match j, hj4 with
  | 0, _ => exact (hb 0 _ rfl).1
set_option maxHeartbeats 8000000 in
theorem l07ExpungeS (b o n c : Nat) (L : List PM) (hL : L.length = n) (hg : GoodL L) (hst : storeB L = true) (u f : ByteArray) (hsu : shortB u = true) (hsf : shortB f = true) (w : World) (h : Src w (some ⟨b, o, none⟩) (cellsP L)) (R : List PM) (G : List Int) (q : Int) (HR : Hid (exR L u f = (R, G, q))) :
    Calls Tryz.prog 34 #[.slice (some ⟨b, o, none⟩) n c, .string u, .string f] w fun e w' => ∃ a2 n2 c2 v, e = .returned (.tuple #[.slice a2 n2 c2, v, .int .i64 q]) ∧ R.length = n2 ∧ Src w' a2 (cellsP R) ∧ w'.ownsRow w.heap.size 3 1 v G.length (cellsI G) ∧ Below w.heap.size w w' := by
  have hn60 := hg.1
  rw [hL] at hn60
  have hus := word_slash hsu
  have hfs := word_slash hsf
  have zu := short_size' hsu
  have zf := short_size' hsf
  have HLN : Hid (L.length = n ∧ Src w (some ⟨b, o, none⟩) (cellsP L)) := ⟨hL, h⟩
  have CK := l07KnownS (some ⟨b, o, none⟩) n c L hL hg u f (by omega) (by omega) w h _ rfl
  have HR1 := HR.out
  unfold exR at HR1
  obtain ⟨k1, hk1⟩ : ∃ z, knownR L u f = z := ⟨_, rfl⟩
  rw [hk1] at CK HR1
  by_cases e1 : k1 = 0
  case neg =>
    rw [if_pos e1] at HR1
    have hki : (k1 != 0) = true := by simpa using e1
    have HF : Hid (∀ W, Below w.heap.size w W → ∃ a2 n2 c2 v, Ending.returned (Value.tuple #[.slice (some ⟨b, o, none⟩) n c, .slice (some ⟨W.heap.size, 0, none⟩) 0 0, .int .i64 k1]) = Ending.returned (.tuple #[.slice a2 n2 c2, v, .int .i64 q]) ∧ R.length = n2 ∧ Src (W.alloc (.cells #[] 3)) a2 (cellsP R) ∧ (W.alloc (.cells #[] 3)).ownsRow w.heap.size 3 1 v G.length (cellsI G) ∧ Below w.heap.size w (W.alloc (.cells #[] 3))) := fun W hW => by
      cases HR1
      exact ⟨_, _, _, _, rfl, HLN.out.1, HLN.out.2.below (hW.alloc hW.size _), own_empty rfl hW.size, hW.alloc hW.size _⟩
    clear hL h hg HR HR1 hk1 hst hsu hsf hus hfs
    go_enter Tryz.func34, Tryz.ntmps34
    go_wp2_with fail
    refine CK.mono ?_
    rintro e w1 ⟨rfl, hb1⟩
    have HF1 := HF.out w1 hb1
    have HG : Hid (∃ a2 n2 c2 v, Ending.returned (Value.tuple #[.slice (some ⟨b, o, none⟩) n c, .slice (some ⟨w1.heap.size, 0, none⟩) 0 0, .int .i64 k1]) = Ending.returned (.tuple #[.slice a2 n2 c2, v, .int .i64 q]) ∧ R.length = n2 ∧ Src (w1.alloc (.cells #[] 3)) a2 (cellsP R) ∧ (w1.alloc (.cells #[] 3)).ownsRow w.heap.size 3 1 v G.length (cellsI G) ∧ Below w.heap.size w (w1.alloc (.cells #[] 3))) := HF1
    clear hb1 CK HF HF1
    go_wp2_with fail
    exact bodyPost_ret (v := .tuple #[.slice (some ⟨b, o, none⟩) n c, .slice (some ⟨w1.heap.size, 0, none⟩) 0 0, .int .i64 k1]) (by simp [results, Tryz.results34, go_sem]) rfl HG.out
  subst e1
  rw [if_neg (by decide)] at HR1
  obtain ⟨S, hS, _, _⟩ := take_all hst hus
  obtain ⟨hw, g, hl⟩ := known_zero hst hus hfs hS hk1
  have hrn := rnF_is hS hl
  unfold exY at HR1
  rw [hrn] at HR1
  have hfit := store_fit hst hS g (lookF_mem hl).1
  have CO := fun W (hW : Below w.heap.size w W) => l07OfS (some ⟨b, o, none⟩) n c L hL hg u f (by omega) (by omega) g.mails (fit_ms hfit) (fol_mails hst hus hfs hS hw hl) W (h.below hW)
  have hml60 : g.mails.length ≤ 60 := by
    have h9 := (store_sub hst hS g (lookF_mem hl).1).length_le
    rw [List.length_map] at h9
    omega
  have hbw : b < w.heap.size := by
    rcases h with h9 | ⟨b9, o9, e9, h9⟩
    · have h8 := cellsP_length L
      rw [h9] at h8
      have h7 := List.length_pos_of_mem (v_mem hst)
      simp at h8
      omega
    · cases e9
      have h7 := List.length_pos_of_mem (v_mem hst)
      have h6 := h9 0 (by rw [cellsP_length]; omega)
      exact World.block_lt_of_cell? _ _ h6
  obtain ⟨Ms, hMs⟩ : ∃ t, g.mails = t := ⟨_, rfl⟩
  have HFM : Hid (FitMs Ms) := by rw [← hMs]; exact fit_ms hfit
  obtain ⟨ml, hml⟩ : ∃ t, Ms.length = t := ⟨_, rfl⟩
  simp only [hMs, hml] at CO
  rw [hMs] at HR1 hml60
  rw [hml] at hml60 HR1
  have HML : Hid (Ms.length = ml) := hml
  have HRQ : Hid (exTo L u f Ms ml = R ∧ goI Ms = G ∧ 0 = q) := by cases HR1; exact ⟨rfl, rfl, rfl⟩
  clear hL h hg HR HR1 hk1 hst hsu hsf hus hfs hS hw hl hrn hfit hMs hml
  go_enter Tryz.func34, Tryz.ntmps34
  go_wp2_with fail
  refine CK.mono ?_
  rintro e w1 ⟨rfl, hb1⟩
  obtain ⟨w2, hw2⟩ : ∃ W, w1.alloc (.cells #[] 3) = W := ⟨_, rfl⟩
  have A2 : Below w1.heap.size w1 w2 := by rw [← hw2]; exact (Below.refl _ _).alloc (Nat.le_refl _) _
  have B2 : Hid (Below w.heap.size w w2) := hb1.trans (A2.mono hb1.size)
  have O2 : Hid (w2.ownsRow w.heap.size 3 1 (.slice (some ⟨w1.heap.size, 0, none⟩) 0 0) 0 (cellsI [])) := by
    show World.ownsRow _ _ _ _ _ _ _
    rw [← hw2]
    exact own_empty rfl hb1.size
  have CO2 := CO w2 B2.out
  clear hb1 CK CO A2
  go_wp2_with fail
  refine CO2.mono ?_
  rintro e w3 ⟨v3, rfl, ho3, hb3⟩
  obtain ⟨am, cm, rfl, _, _⟩ := own_src ho3
  have B3 : Hid (Below w.heap.size w w3) := B2.out.trans (hb3.mono B2.out.size)
  have O3 : Hid (w3.ownsRow w.heap.size 3 1 (.slice (some ⟨w1.heap.size, 0, none⟩) 0 0) 0 (cellsI []) ∧ w3.ownsRow w.heap.size 62 3 (.slice am ml cm) ml (cellsMl Ms)) := ⟨own_below O2.out hb3, own_mono ho3 B2.out.size⟩
  clear hb3 ho3 CO2 O2 hw2
  go_wp2_with fail
  go_loopw [10, 11, 13] (fun gv v iv wr => ∃ (j n' g' : Nat) (av : Option Addr) (vc : Nat) (a' : Option Addr) (c' : Nat), j ≤ ml ∧ n' ≤ n ∧ g' ≤ ml ∧ gv = .slice av g' vc ∧ v = .slice a' n' c' ∧ iv = .int .i64 (j : Int) ∧ Hid ((goI (Ms.take j)).length = g' ∧ (exTo L u f Ms j).length = n') ∧ Hid (wr.ownsRow w.heap.size 3 1 (.slice av g' vc) g' (cellsI (goI (Ms.take j)))) ∧ Hid (wr.ownsRow w.heap.size 62 3 (.slice am ml cm) ml (cellsMl Ms)) ∧ Hid (((a' = some ⟨b, o, none⟩ ∧ n' = n ∧ exTo L u f Ms j = L) ∨ wr.ownsRow w.heap.size 47 2 (.slice a' n' c') n' (cellsP (exTo L u f Ms j)))) ∧ Hid (Below w.heap.size w wr)) (fun _ _ i _ => ml - (RowKit.intOf i).toNat)
  case atStart => exact ⟨0, n, 0, _, _, _, _, by omega, Nat.le_refl _, by omega, rfl, rfl, rfl, ⟨rfl, by rw [ex_zero]; exact HLN.out.1⟩, O3.out.1, O3.out.2, .inl ⟨rfl, rfl, ex_zero _ _ _ _⟩, B3.out⟩
  case round =>
    obtain ⟨j, n', g', av, vc, a', c', hj, hn', hg', rfl, rfl, rfl, hlen, hog, hom, hout, hbr⟩ := hrel
    by_cases hlt : j < ml
    · have hlti : (j : Int) < (ml : Int) := by omega
      have hjM : j < Ms.length := by rw [HML.out]; exact hlt
      have hsm : Src wr am (cellsMl Ms) := by
        obtain ⟨a9, c9, e9, s9, _⟩ := own_src hom.out
        cases e9
        exact s9
      obtain ⟨bm, om, x0, x1, x2, rfl, m0, m1, m2, hx⟩ := srcMl hsm hjM
      obtain ⟨y0, y1, y2, y3, y4⟩ := HFM.out (Ms.getD j ml0) (mem_getD' Ms ml0 j hjM)
      rw [hx.out] at y0 y1 y2 y3 y4
      dsimp only at y0 y1 y2 y3 y4
      obtain ⟨un, hun⟩ : ∃ un : Nat, (un : Int) = x0 := ⟨x0.toNat, by omega⟩
      subst hun
      have hu9 : un < 1000 := by omega
      have hx9 := hx.out
      clear hx hsm
      have hfl : x1 = 0 ∨ x1 = 1 ∨ x1 = 2 ∨ x1 = 3 := by omega
      clear y2 y3
      rcases hfl with rfl | rfl | rfl | rfl
      · have hd : delB (Ms.getD j ml0) = false := by rw [hx9]; rfl
        obtain ⟨k1, k2⟩ := ex_miss (L := L) (u := u) (f := f) hjM hd
        have HF : Hid (((goI (Ms.take (j + 1))).length = g' ∧ (exTo L u f Ms (j + 1)).length = n') ∧ wr.ownsRow w.heap.size 3 1 (.slice av g' vc) g' (cellsI (goI (Ms.take (j + 1)))) ∧ (((a' = some ⟨b, o, none⟩ ∧ n' = n ∧ exTo L u f Ms (j + 1) = L) ∨ wr.ownsRow w.heap.size 47 2 (.slice a' n' c') n' (cellsP (exTo L u f Ms (j + 1)))))) := by
          show _ ∧ _ ∧ _
          rw [← k1, k2]
          exact ⟨hlen.out, hog.out, hout.out⟩
        clear hd k1 k2 hx9 hlen hog hout
        go_wp2_with fail
        exact ⟨⟨j + 1, n', g', _, _, _, _, by omega, hn', hg', rfl, rfl, by go_num, HF.out.1, HF.out.2.1, hom.out, HF.out.2.2, hbr.out⟩, by simp [RowKit.intOf]; omega⟩
      · have hd : delB (Ms.getD j ml0) = false := by rw [hx9]; rfl
        obtain ⟨k1, k2⟩ := ex_miss (L := L) (u := u) (f := f) hjM hd
        have HF : Hid (((goI (Ms.take (j + 1))).length = g' ∧ (exTo L u f Ms (j + 1)).length = n') ∧ wr.ownsRow w.heap.size 3 1 (.slice av g' vc) g' (cellsI (goI (Ms.take (j + 1)))) ∧ (((a' = some ⟨b, o, none⟩ ∧ n' = n ∧ exTo L u f Ms (j + 1) = L) ∨ wr.ownsRow w.heap.size 47 2 (.slice a' n' c') n' (cellsP (exTo L u f Ms (j + 1)))))) := by
          show _ ∧ _ ∧ _
          rw [← k1, k2]
          exact ⟨hlen.out, hog.out, hout.out⟩
        clear hd k1 k2 hx9 hlen hog hout
        go_wp2_with fail
        exact ⟨⟨j + 1, n', g', _, _, _, _, by omega, hn', hg', rfl, rfl, by go_num, HF.out.1, HF.out.2.1, hom.out, HF.out.2.2, hbr.out⟩, by simp [RowKit.intOf]; omega⟩
      · have hd : delB (Ms.getD j ml0) = true := by rw [hx9]; rfl
        obtain ⟨k1, k2⟩ := ex_hit (L := L) (u := u) (f := f) hjM hd
        rw [hx9] at k1 k2
        dsimp only at k1 k2
        have hel := ex_len L u f Ms (j + 1)
        rw [HLN.out.1] at hel
        have hgl := go_len Ms (j + 1)
        rw [HML.out] at hgl
        obtain ⟨R9, hR9⟩ : ∃ t, exTo L u f Ms (j + 1) = t := ⟨_, rfl⟩
        obtain ⟨n9, hn9⟩ : ∃ t, R9.length = t := ⟨_, rfl⟩
        have HN9 : Hid ((exTo L u f Ms (j + 1)).length = n9 ∧ exTo L u f Ms (j + 1) = R9) := ⟨by rw [hR9]; exact hn9, hR9⟩
        rw [hR9, hn9] at hel
        have CM := fun W => l07MailS u f un hu9 (by omega) (by omega) W
        have CD : Hid (∀ W, Below w.heap.size w W → (((a' = some ⟨b, o, none⟩ ∧ n' = n ∧ exTo L u f Ms j = L) ∨ W.ownsRow w.heap.size 47 2 (.slice a' n' c') n' (cellsP (exTo L u f Ms j)))) → Calls Tryz.prog 51 #[.slice a' n' c', .string (mailK u f (un : Int))] W fun e w' => ∃ a2 c2, e = .returned (.slice a2 n9 c2) ∧ w'.ownsRow W.heap.size 47 2 (.slice a2 n9 c2) n9 (cellsP R9) ∧ Below W.heap.size W w') := fun W hW ho => by
          refine l01DropR a' n' c' (exTo L u f Ms j) (mailK u f (un : Int)) W hlen.out.2 (by omega) ?_ R9 n9 (by rw [k1, hR9]) hn9
          rcases ho with ⟨e1, e2, e3⟩ | ho
          · rw [e3, e1]
            exact HLN.out.2.below hW
          · obtain ⟨a9, c9, e9, s9, _⟩ := own_src ho
            cases e9
            exact s9
        have HU : Hid (cellsI (goI (Ms.take j)) ++ cellsI [(un : Int)] = cellsI (goI (Ms.take (j + 1)))) := by
          show _ = _
          rw [k2, cellsI_append]
        have HG9 : Hid ((goI (Ms.take (j + 1))).length = g' + 1) := by
          show _ = _
          rw [k2, List.length_append, hlen.out.1]
          rfl
        have hg9 : g' + 1 ≤ ml := by have h9 := HG9.out; omega
        obtain ⟨MK, hMK⟩ : ∃ t, mailK u f (un : Int) = t := ⟨_, rfl⟩
        simp only [hMK] at CM
        rw [hMK] at CD
        have HX9 : Hid (Ms.getD j ml0 = ((un : Int), 2, x2)) := hx9
        clear hd k1 k2 hx9 hlen hR9 hn9 hMK hgl
        go_wp2_with (at_builtin; refine wpList_append_src _ rfl _ _ 31 rfl w.heap.size 3 (.int .i64 0) 1 8 Tryz.underlying31 infoI rfl (by decide) (by decide) (.slice av g' vc) g' (cellsI (goI (Ms.take j))) rfl (hog.out.alloc _) (some ⟨wr.heap.size, 0, none⟩) 1 1 (cellsI [(un : Int)]) rfl rfl (src_oneI rfl) (cellsI_one _) (by omega) (by have := hbr.out.size; simp; omega) ?_)
        intro v' w4 hown hgrow
        obtain ⟨a4, d4, rfl, _, _⟩ := own_src hown
        have B4 : Hid (Below w.heap.size w w4) := (hbr.out.alloc hbr.out.size _).grown hgrow (le_alloc hbr.out.size _) (fun g e => (hog.out.lt g e).1)
        have O4 : Hid (w4.ownsRow w.heap.size 3 1 (.slice a4 (g' + 1) d4) (g' + 1) (cellsI (goI (Ms.take (j + 1))))) := own_congr hown HU.out
        have hgo := hog.out.alloc (.cells #[.int .i64 (un : Int)] 3)
        have M4 : Hid (w4.ownsRow w.heap.size 62 3 (.slice (some ⟨bm, om, none⟩) ml cm) ml (cellsMl Ms)) := own_grown (hom.out.alloc _) hgrow (fun k e e2 => own_ne (hom.out.alloc (.cells #[.int .i64 (un : Int)] 3)) hgo (by decide) k e e2)
        have T4 : Hid (((a' = some ⟨b, o, none⟩ ∧ n' = n ∧ exTo L u f Ms j = L) ∨ w4.ownsRow w.heap.size 47 2 (.slice a' n' c') n' (cellsP (exTo L u f Ms j)))) := by
          rcases hout.out with h9 | h9
          · exact .inl h9
          · exact .inr (own_grown (h9.alloc _) hgrow (fun k e e2 => own_ne (h9.alloc (.cells #[.int .i64 (un : Int)] 3)) hgo (by decide) k e e2))
        have m04 : w4.cell? ⟨bm, om + j * 3, none⟩ = some (.int .i64 (un : Int)) := by
          obtain ⟨a9, c9, e9, s9, _⟩ := own_src M4.out
          cases e9
          rcases s9 with s9 | ⟨b8, o8, e8, s8⟩
          · have h7 := cellsMl_length Ms
            rw [s9] at h7
            simp at h7
            omega
          · cases e8
            have h6 := s8 (j * 3) (by rw [cellsMl_length]; omega)
            rw [h6]
            have h5 := (cellsMl_get Ms j hjM).1
            rw [HX9.out] at h5
            rw [List.getD_eq_getElem?_getD, h5]
            rfl
        clear hown hgrow hgo hog hom hout m0 m1 m2
        go_wp2_with fail
        refine (CM _).mono ?_
        rintro e w5 ⟨rfl, hb5⟩
        have B5 : Hid (Below w.heap.size w w5) := B4.out.trans (hb5.mono B4.out.size)
        have T5 : Hid (((a' = some ⟨b, o, none⟩ ∧ n' = n ∧ exTo L u f Ms j = L) ∨ w5.ownsRow w.heap.size 47 2 (.slice a' n' c') n' (cellsP (exTo L u f Ms j)))) := by
          rcases T4.out with h9 | h9
          · exact .inl h9
          · exact .inr (own_below h9 hb5)
        have O5 : Hid (w5.ownsRow w.heap.size 3 1 (.slice a4 (g' + 1) d4) (g' + 1) (cellsI (goI (Ms.take (j + 1)))) ∧ w5.ownsRow w.heap.size 62 3 (.slice (some ⟨bm, om, none⟩) ml cm) ml (cellsMl Ms)) := ⟨own_below O4.out hb5, own_below M4.out hb5⟩
        have CD5 := CD.out w5 B5.out T5.out
        clear hb5 CM CD O4 M4 T4 T5
        go_wp2_with fail
        refine CD5.mono ?_
        rintro e w6 ⟨a6, c6, rfl, ho6, hb6⟩
        have B6 : Hid (Below w.heap.size w w6) := B5.out.trans (hb6.mono B5.out.size)
        have O6 : Hid (w6.ownsRow w.heap.size 3 1 (.slice a4 (g' + 1) d4) (g' + 1) (cellsI (goI (Ms.take (j + 1)))) ∧ w6.ownsRow w.heap.size 62 3 (.slice (some ⟨bm, om, none⟩) ml cm) ml (cellsMl Ms) ∧ w6.ownsRow w.heap.size 47 2 (.slice a6 n9 c6) n9 (cellsP (exTo L u f Ms (j + 1)))) := ⟨own_below O5.out.1 hb6, own_below O5.out.2 hb6, by rw [HN9.out.2]; exact own_mono ho6 B5.out.size⟩
        clear hb6 ho6 CD5 O5
        go_wp2_with fail
        exact ⟨⟨j + 1, n9, g' + 1, _, _, _, _, by omega, hel, hg9, rfl, rfl, by go_num, ⟨HG9.out, HN9.out.1⟩, O6.out.1, O6.out.2.1, .inr O6.out.2.2, B6.out⟩, by simp [RowKit.intOf]; omega⟩
      · have hd : delB (Ms.getD j ml0) = true := by rw [hx9]; rfl
        obtain ⟨k1, k2⟩ := ex_hit (L := L) (u := u) (f := f) hjM hd
        rw [hx9] at k1 k2
        dsimp only at k1 k2
        have hel := ex_len L u f Ms (j + 1)
        rw [HLN.out.1] at hel
        have hgl := go_len Ms (j + 1)
        rw [HML.out] at hgl
        obtain ⟨R9, hR9⟩ : ∃ t, exTo L u f Ms (j + 1) = t := ⟨_, rfl⟩
        obtain ⟨n9, hn9⟩ : ∃ t, R9.length = t := ⟨_, rfl⟩
        have HN9 : Hid ((exTo L u f Ms (j + 1)).length = n9 ∧ exTo L u f Ms (j + 1) = R9) := ⟨by rw [hR9]; exact hn9, hR9⟩
        rw [hR9, hn9] at hel
        have CM := fun W => l07MailS u f un hu9 (by omega) (by omega) W
        have CD : Hid (∀ W, Below w.heap.size w W → (((a' = some ⟨b, o, none⟩ ∧ n' = n ∧ exTo L u f Ms j = L) ∨ W.ownsRow w.heap.size 47 2 (.slice a' n' c') n' (cellsP (exTo L u f Ms j)))) → Calls Tryz.prog 51 #[.slice a' n' c', .string (mailK u f (un : Int))] W fun e w' => ∃ a2 c2, e = .returned (.slice a2 n9 c2) ∧ w'.ownsRow W.heap.size 47 2 (.slice a2 n9 c2) n9 (cellsP R9) ∧ Below W.heap.size W w') := fun W hW ho => by
          refine l01DropR a' n' c' (exTo L u f Ms j) (mailK u f (un : Int)) W hlen.out.2 (by omega) ?_ R9 n9 (by rw [k1, hR9]) hn9
          rcases ho with ⟨e1, e2, e3⟩ | ho
          · rw [e3, e1]
            exact HLN.out.2.below hW
          · obtain ⟨a9, c9, e9, s9, _⟩ := own_src ho
            cases e9
            exact s9
        have HU : Hid (cellsI (goI (Ms.take j)) ++ cellsI [(un : Int)] = cellsI (goI (Ms.take (j + 1)))) := by
          show _ = _
          rw [k2, cellsI_append]
        have HG9 : Hid ((goI (Ms.take (j + 1))).length = g' + 1) := by
          show _ = _
          rw [k2, List.length_append, hlen.out.1]
          rfl
        have hg9 : g' + 1 ≤ ml := by have h9 := HG9.out; omega
        obtain ⟨MK, hMK⟩ : ∃ t, mailK u f (un : Int) = t := ⟨_, rfl⟩
        simp only [hMK] at CM
        rw [hMK] at CD
        have HX9 : Hid (Ms.getD j ml0 = ((un : Int), 3, x2)) := hx9
        clear hd k1 k2 hx9 hlen hR9 hn9 hMK hgl
        go_wp2_with (at_builtin; refine wpList_append_src _ rfl _ _ 31 rfl w.heap.size 3 (.int .i64 0) 1 8 Tryz.underlying31 infoI rfl (by decide) (by decide) (.slice av g' vc) g' (cellsI (goI (Ms.take j))) rfl (hog.out.alloc _) (some ⟨wr.heap.size, 0, none⟩) 1 1 (cellsI [(un : Int)]) rfl rfl (src_oneI rfl) (cellsI_one _) (by omega) (by have := hbr.out.size; simp; omega) ?_)
        intro v' w4 hown hgrow
        obtain ⟨a4, d4, rfl, _, _⟩ := own_src hown
        have B4 : Hid (Below w.heap.size w w4) := (hbr.out.alloc hbr.out.size _).grown hgrow (le_alloc hbr.out.size _) (fun g e => (hog.out.lt g e).1)
        have O4 : Hid (w4.ownsRow w.heap.size 3 1 (.slice a4 (g' + 1) d4) (g' + 1) (cellsI (goI (Ms.take (j + 1))))) := own_congr hown HU.out
        have hgo := hog.out.alloc (.cells #[.int .i64 (un : Int)] 3)
        have M4 : Hid (w4.ownsRow w.heap.size 62 3 (.slice (some ⟨bm, om, none⟩) ml cm) ml (cellsMl Ms)) := own_grown (hom.out.alloc _) hgrow (fun k e e2 => own_ne (hom.out.alloc (.cells #[.int .i64 (un : Int)] 3)) hgo (by decide) k e e2)
        have T4 : Hid (((a' = some ⟨b, o, none⟩ ∧ n' = n ∧ exTo L u f Ms j = L) ∨ w4.ownsRow w.heap.size 47 2 (.slice a' n' c') n' (cellsP (exTo L u f Ms j)))) := by
          rcases hout.out with h9 | h9
          · exact .inl h9
          · exact .inr (own_grown (h9.alloc _) hgrow (fun k e e2 => own_ne (h9.alloc (.cells #[.int .i64 (un : Int)] 3)) hgo (by decide) k e e2))
        have m04 : w4.cell? ⟨bm, om + j * 3, none⟩ = some (.int .i64 (un : Int)) := by
          obtain ⟨a9, c9, e9, s9, _⟩ := own_src M4.out
          cases e9
          rcases s9 with s9 | ⟨b8, o8, e8, s8⟩
          · have h7 := cellsMl_length Ms
            rw [s9] at h7
            simp at h7
            omega
          · cases e8
            have h6 := s8 (j * 3) (by rw [cellsMl_length]; omega)
            rw [h6]
            have h5 := (cellsMl_get Ms j hjM).1
            rw [HX9.out] at h5
            rw [List.getD_eq_getElem?_getD, h5]
            rfl
        clear hown hgrow hgo hog hom hout m0 m1 m2
        go_wp2_with fail
        refine (CM _).mono ?_
        rintro e w5 ⟨rfl, hb5⟩
        have B5 : Hid (Below w.heap.size w w5) := B4.out.trans (hb5.mono B4.out.size)
        have T5 : Hid (((a' = some ⟨b, o, none⟩ ∧ n' = n ∧ exTo L u f Ms j = L) ∨ w5.ownsRow w.heap.size 47 2 (.slice a' n' c') n' (cellsP (exTo L u f Ms j)))) := by
          rcases T4.out with h9 | h9
          · exact .inl h9
          · exact .inr (own_below h9 hb5)
        have O5 : Hid (w5.ownsRow w.heap.size 3 1 (.slice a4 (g' + 1) d4) (g' + 1) (cellsI (goI (Ms.take (j + 1)))) ∧ w5.ownsRow w.heap.size 62 3 (.slice (some ⟨bm, om, none⟩) ml cm) ml (cellsMl Ms)) := ⟨own_below O4.out hb5, own_below M4.out hb5⟩
        have CD5 := CD.out w5 B5.out T5.out
        clear hb5 CM CD O4 M4 T4 T5
        go_wp2_with fail
        refine CD5.mono ?_
        rintro e w6 ⟨a6, c6, rfl, ho6, hb6⟩
        have B6 : Hid (Below w.heap.size w w6) := B5.out.trans (hb6.mono B5.out.size)
        have O6 : Hid (w6.ownsRow w.heap.size 3 1 (.slice a4 (g' + 1) d4) (g' + 1) (cellsI (goI (Ms.take (j + 1)))) ∧ w6.ownsRow w.heap.size 62 3 (.slice (some ⟨bm, om, none⟩) ml cm) ml (cellsMl Ms) ∧ w6.ownsRow w.heap.size 47 2 (.slice a6 n9 c6) n9 (cellsP (exTo L u f Ms (j + 1)))) := ⟨own_below O5.out.1 hb6, own_below O5.out.2 hb6, by rw [HN9.out.2]; exact own_mono ho6 B5.out.size⟩
        clear hb6 ho6 CD5 O5
        go_wp2_with fail
        exact ⟨⟨j + 1, n9, g' + 1, _, _, _, _, by omega, hel, hg9, rfl, rfl, by go_num, ⟨HG9.out, HN9.out.1⟩, O6.out.1, O6.out.2.1, .inr O6.out.2.2, B6.out⟩, by simp [RowKit.intOf]; omega⟩
    · obtain rfl : j = ml := by omega
      have hlti : ¬ (j : Int) < (j : Int) := by omega
      have HF : Hid (R.length = n' ∧ Src wr a' (cellsP R) ∧ wr.ownsRow w.heap.size 3 1 (.slice av g' vc) G.length (cellsI G) ∧ Below w.heap.size w wr) := by
        have e8 : Ms.take j = Ms := List.take_of_length_le (by rw [HML.out]; exact Nat.le_refl _)
        have h8 := hlen.out
        have h7 := hog.out
        rw [e8, HRQ.out.2.1] at h7
        rw [e8, HRQ.out.2.1] at h8
        rw [HRQ.out.1] at h8
        refine ⟨h8.2, ?_, by rw [h8.1]; exact h7, hbr.out⟩
        rcases hout.out with ⟨f1, f2, f3⟩ | ho
        · rw [HRQ.out.1] at f3
          rw [f3, f1]
          exact HLN.out.2.below hbr.out
        · rw [HRQ.out.1] at ho
          obtain ⟨a9, c9, e9, s9, _⟩ := own_src ho
          cases e9
          exact s9
      have HQ0 : Hid (0 = q) := HRQ.out.2.2
      clear hlen hog hom hout
      go_wp2_with fail
      exact bodyPost_ret (v := .tuple #[.slice a' n' c', .slice av g' vc, .int .i64 0]) (by simp [results, Tryz.results34, go_sem]) rfl ⟨_, _, _, _, by rw [HQ0.out], HF.out⟩
end Go.Proofs.YtbpgncgmolpkiaaGreatDoor
namespace Go.Proofs.YtbpgncgmolpkiaaGreatDoor
open Go.ChangeShapes Go.WideShapes Go.ChangeAt Go.RowKit Go.Deep Go.Lib
set_option linter.unusedVariables false
set_option linter.unusedSimpArgs false
set_option maxRecDepth 100000

theorem own_past {w : World} {base e s n g cap : Nat} {xs : List Value} (h : w.ownsRow base e s (.slice (some ⟨g, 0, none⟩) n cap) n xs) (p : Nat) (hp : n * s ≤ p) (u : Value) : (w.setCell ⟨g, p, none⟩ u).ownsRow base e s (.slice (some ⟨g, 0, none⟩) n cap) n xs := by
  obtain ⟨hl, ⟨hv, _⟩ | ⟨g', cap', cur, hv, hb, hg, hc1, hc2, hs, ht⟩⟩ := h
  · cases hv
  · cases hv
    refine ⟨hl, .inr ⟨g, cap, cur.setIfInBounds p u, rfl, hb, ?_, hc1, hc2, by simpa using hs, ?_⟩⟩
    · simp [World.setCell, Array.getElem?_modify, hg]
    · rw [Array.toList_setIfInBounds, List.take_set, ht, List.set_eq_of_length_le (by omega)]
theorem own_pasts {base e s n g cap : Nat} {xs : List Value} : ∀ (zs : List Value) (o : Nat) (w : World), w.ownsRow base e s (.slice (some ⟨g, 0, none⟩) n cap) n xs → n * s ≤ o → (w.setCells g o zs).ownsRow base e s (.slice (some ⟨g, 0, none⟩) n cap) n xs
  | [], _, _, h, _ => h
  | z :: zs, o, w, h, ho => own_pasts zs (o + 1) _ (own_past h o ho z) (by omega)
theorem own_short {w : World} {base e s n g cap k : Nat} {xs : List Value} (h : w.ownsRow base e s (.slice (some ⟨g, 0, none⟩) n cap) n xs) (hk : k ≤ n) : w.ownsRow base e s (.slice (some ⟨g, 0, none⟩) k cap) k (xs.take (k * s)) := by
  obtain ⟨hl, ⟨hv, _⟩ | ⟨g', cap', cur, hv, hb, hg, hc1, hc2, hs, ht⟩⟩ := h
  · cases hv
  · cases hv
    have hks : k * s ≤ n * s := Nat.mul_le_mul_right s hk
    refine ⟨by rw [List.length_take]; omega, .inr ⟨g, cap, cur, rfl, hb, hg, by omega, hc2, hs, ?_⟩⟩
    rw [← ht, List.take_take, Nat.min_eq_left hks]
theorem gb_sets {w : World} {B : Nat} : ∀ (zs : List Value) (o : Nat) (a : World), w.grownBy a (some B) → w.grownBy (a.setCells B o zs) (some B)
  | [], _, _, h => h
  | z :: zs, o, a, h => gb_sets zs (o + 1) _ (gb_set h o z)
theorem box_grown {w w' : World} {B P : Nat} {vs : List Value} (h : Box w P vs) (hg : w.grownBy w' (some B)) (hne : P ≠ B) : Box w' P vs := fun i v hv => by
  obtain ⟨h1, h2⟩ := h i v hv
  have hlt : P < w.heap.size := World.block_lt_of_cell? _ _ h1
  have hb := hg.block P hlt (by intro e; cases e; exact hne rfl)
  exact ⟨(World.cell?_of_block (a := ⟨P, i, none⟩) hb).trans h1, (World.frozen?_of_block (a := ⟨P, i, none⟩) hb).trans h2⟩
theorem cells_take (L : List MMl) (k : Nat) : (cellsMl L).take (k * 3) = cellsMl (L.take k) := by
  induction L generalizing k with
  | nil => simp [cellsMl]
  | cons m L ih =>
    cases k with
    | zero => simp [cellsMl]
    | succ k =>
      have e : (k + 1) * 3 = k * 3 + 1 + 1 + 1 := by omega
      rw [e]
      show ((Value.int .i64 m.1 :: Value.int .i64 m.2.1 :: Value.string m.2.2 :: cellsMl L).take (k * 3 + 1 + 1 + 1)) = cellsMl (m :: L.take k)
      simp only [List.take_succ_cons]
      rw [ih k]
      rfl
theorem cells_put (L : List MMl) (p : Nat) (m : MMl) (hp : p < L.length) : (((cellsMl L).set (p * 3) (.int .i64 m.1)).set (p * 3 + 1) (.int .i64 m.2.1)).set (p * 3 + 2) (.string m.2.2) = cellsMl (L.set p m) := by
  induction L generalizing p with
  | nil => simp at hp
  | cons x L ih =>
    cases p with
    | zero => rfl
    | succ p =>
      have e : (p + 1) * 3 = p * 3 + 1 + 1 + 1 := by omega
      have e1 : (p + 1) * 3 + 1 = p * 3 + 1 + 1 + 1 + 1 := by omega
      have e2 : (p + 1) * 3 + 2 = p * 3 + 2 + 1 + 1 + 1 := by omega
      have h9 := ih p (by simpa using hp)
      show ((((Value.int .i64 x.1 :: Value.int .i64 x.2.1 :: Value.string x.2.2 :: cellsMl L).set ((p + 1) * 3) (.int .i64 m.1)).set ((p + 1) * 3 + 1) (.int .i64 m.2.1)).set ((p + 1) * 3 + 2) (.string m.2.2)) = Value.int .i64 x.1 :: Value.int .i64 x.2.1 :: Value.string x.2.2 :: cellsMl (L.set p m)
      rw [e, show p * 3 + 1 + 1 + 1 + 2 = p * 3 + 2 + 1 + 1 + 1 from by omega, ← h9]
      rfl
theorem run_clear_rows {P : Program} (w : World) (t e ty : TypeId) (z : Value) (ht : P.underlying t = some (.slice e)) (hv : ∀ w, (zeroValue e).run P w = .ok z w) (b o n c : Nat) (hn : 0 < n) (L : List Value) (hz : (Builtin.zeroCells z.cells n).toList = L) (h1 : ∀ v ∈ L, v.oneCell' = true)
    (hc : ∀ j, j < L.length → (w.cell? ⟨b, o + j, none⟩).isSome = true) (hf : ∀ j, j < L.length → w.frozen? ⟨b, o + j, none⟩ = false) :
    (Builtin.clear_ #[t] ty #[.slice (some ⟨b, o, none⟩) n c]).run P w = .ok (.tuple #[]) (w.setCells b o L) := by
  have hst := run_storeCells_cells (P := P) b o L 0 w (by simpa using hc) (by simpa using hf) h1
  simp only [Nat.add_zero] at hst
  obtain ⟨m, rfl⟩ : ∃ m, n = m + 1 := ⟨n - 1, by omega⟩
  simp [Builtin.clear_, run_underlying ht, hv, hz, hst]
abbrev zM : Value := .agg #[.int .i64 0, .int .i64 0, .string ⟨#[]⟩]
theorem zero_mails (n : Nat) : (Builtin.zeroCells zM.cells n).toList.length = n * 3 ∧ ∀ v ∈ (Builtin.zeroCells zM.cells n).toList, v.oneCell' = true := by
  have hc : zM.cells = #[.int .i64 0, .int .i64 0, .string ⟨#[]⟩] := rfl
  rw [hc]
  unfold Builtin.zeroCells
  constructor
  · simp
  · intro v hv
    simp only [Array.toList_map, List.mem_map] at hv
    obtain ⟨i, _, rfl⟩ := hv
    have h3 : i % 3 = 0 ∨ i % 3 = 1 ∨ i % 3 = 2 := by omega
    show (#[Value.int .i64 0, .int .i64 0, .string ⟨#[]⟩][i % 3]!).oneCell' = true
    rcases h3 with h | h | h <;> rw [h] <;> rfl
set_option maxHeartbeats 1000000 in
theorem deletedI (x y : Int) (t : ByteArray) (h0 : 0 ≤ y) (h3 : y ≤ 3) (w : World) (bb : Bool) (hb : delB (x, y, t) = bb) :
    Calls Tryz.prog 38 #[.agg #[.int .i64 x, .int .i64 y, .string t]] w fun e w' => e = .returned (.bool bb) ∧ Below w.heap.size w w' := by
  have hy : y = 0 ∨ y = 1 ∨ y = 2 ∨ y = 3 := by omega
  have AL : Hid (Below w.heap.size w (w.alloc (.cells #[.int .i64 x, .int .i64 y, .string t] 62))) := (Below.refl _ _).alloc (Nat.le_refl _) _
  rcases hy with rfl | rfl | rfl | rfl
  · obtain rfl : false = bb := hb
    go_enter Tryz.func38, Tryz.ntmps38
    go_wp2_with fail
    go_ret
    exact ⟨rfl, AL.out⟩
  · obtain rfl : false = bb := hb
    go_enter Tryz.func38, Tryz.ntmps38
    go_wp2_with fail
    go_ret
    exact ⟨rfl, AL.out⟩
  · obtain rfl : true = bb := hb
    go_enter Tryz.func38, Tryz.ntmps38
    go_wp2_with fail
    go_ret
    exact ⟨rfl, AL.out⟩
  · obtain rfl : true = bb := hb
    go_enter Tryz.func38, Tryz.ntmps38
    go_wp2_with fail
    go_ret
    exact ⟨rfl, AL.out⟩
/-- Where the first mail is that goes. -/
def FirstIs (Ms : List MMl) (i : Int) : Prop := (∃ k : Nat, k < Ms.length ∧ i = (k : Int) ∧ delB (Ms.getD k ml0) = true ∧ ∀ j, j < k → delB (Ms.getD j ml0) = false) ∨ (i = -1 ∧ ∀ m ∈ Ms, delB m = false)
set_option maxHeartbeats 2000000 in
theorem indexDelI (a : Option Addr) (n c : Nat) (Ms : List MMl) (w : World) (hL : Ms.length = n) (hn : n ≤ 1000) (hM : ∀ m ∈ Ms, 0 ≤ m.2.1 ∧ m.2.1 ≤ 3) (h : Src w a (cellsMl Ms)) :
    Calls Tryz.prog 68 #[.slice a n c, .func (.func 38) #[] #[]] w fun e w' => ∃ i, e = .returned (.int .i64 i) ∧ FirstIs Ms i ∧ Below w.heap.size w w' := by
  have HH : Hid (Src w a (cellsMl Ms)) := h
  have HL : Hid (Ms.length = n) := hL
  have HM : Hid (∀ m ∈ Ms, 0 ≤ m.2.1 ∧ m.2.1 ≤ 3) := hM
  clear h hL hM
  go_enter Tryz.func68, Tryz.ntmps68
  go_wp2_with fail
  go_loopw [8] (fun i wr => ∃ k : Nat, k ≤ n ∧ i = .int .i64 (k : Int) ∧ Hid (∀ j, j < k → delB (Ms.getD j ml0) = false) ∧ Hid (Below w.heap.size w wr)) (fun i _ => n - (RowKit.intOf i).toNat)
  case atStart => exact ⟨0, by omega, rfl, fun j hj => absurd hj (by omega), Below.refl _ _⟩
  case round =>
    obtain ⟨k, hk, rfl, hno, hb⟩ := hrel
    by_cases hlt : k < n
    · have hlti : (k : Int) < (n : Int) := by omega
      have hkL : k < Ms.length := by rw [HL.out]; exact hlt
      obtain ⟨b, q, x, y, t, rfl, hc0, hc1, hc2, hy⟩ := srcMl (HH.out.below hb.out) hkL
      have hr := HM.out (Ms.getD k ml0) (mem_getD' Ms ml0 k hkL)
      rw [hy.out] at hr
      dsimp only at hr
      cases hbb : delB (x, y, t) with
      | true =>
        have HP : Hid (FirstIs Ms (k : Int)) := .inl ⟨k, hkL, rfl, by rw [hy.out]; exact hbb, hno.out⟩
        have C1 := fun W => deletedI x y t hr.1 hr.2 W true hbb
        clear hy hbb hr
        go_wp2_with fail
        refine (C1 _).mono ?_
        rintro e w5 ⟨rfl, hb5⟩
        have B5 : Hid (Below w.heap.size w w5) := hb.out.trans (hb5.mono hb.out.size)
        clear hb5 C1
        go_wp2_with fail
        go_ret
        exact ⟨_, rfl, HP.out, B5.out⟩
      | false =>
        have HN : Hid (∀ j, j < k + 1 → delB (Ms.getD j ml0) = false) := fun j hj => by
          by_cases e : j = k
          · rw [e, hy.out]
            exact hbb
          · exact hno.out j (by omega)
        have C1 := fun W => deletedI x y t hr.1 hr.2 W false hbb
        clear hy hbb hr
        go_wp2_with fail
        refine (C1 _).mono ?_
        rintro e w5 ⟨rfl, hb5⟩
        have B5 : Hid (Below w.heap.size w w5) := hb.out.trans (hb5.mono hb.out.size)
        clear hb5 C1
        go_wp2_with fail
        exact ⟨⟨k + 1, by omega, by go_num, HN.out, B5.out⟩, by simp [RowKit.intOf]; omega⟩
    · obtain rfl : k = n := by omega
      have hlti : ¬ (k : Int) < (k : Int) := by omega
      have HP : Hid (FirstIs Ms (-1)) := .inr ⟨rfl, fun m hm => by
        obtain ⟨j, hj, rfl⟩ := List.mem_iff_getElem.1 hm
        have h9 := hno.out j (by rw [HL.out] at hj; exact hj)
        rw [List.getD_eq_getElem?_getD, List.getElem?_eq_getElem hj] at h9
        exact h9⟩
      go_wp2_with fail
      go_ret
      exact ⟨_, rfl, HP.out, hb.out⟩
theorem keep_next {Ms : List MMl} {j : Nat} (hj : j < Ms.length) : keepM (Ms.take (j + 1)) = keepM (Ms.take j) ++ (if delB (Ms.getD j ml0) = true then [] else [Ms.getD j ml0]) := by
  unfold keepM
  rw [take_next hj, List.filter_append]
  congr 1
  cases h : delB (Ms.getD j ml0) with
  | true => rw [List.filter_cons_of_neg (by rw [h]; simp), if_pos rfl]; rfl
  | false => rw [List.filter_cons_of_pos (by rw [h]; rfl), if_neg (by simp)]; rfl
theorem keep_first {Ms : List MMl} : ∀ (k : Nat), k ≤ Ms.length → (∀ j, j < k → delB (Ms.getD j ml0) = false) → keepM (Ms.take k) = Ms.take k
  | 0, _, _ => rfl
  | k + 1, hk, h => by
    rw [keep_next (by omega), keep_first k (by omega) (fun j hj => h j (by omega)), h k (by omega), if_neg (by simp), take_next (by omega)]
/-- What a row of mails is while some of them go. -/
def RowIs (Ms A : List MMl) (p j : Nat) : Prop := A.length = Ms.length ∧ A.take p = keepM (Ms.take j) ∧ A.drop j = Ms.drop j ∧ p ≤ A.length
theorem row_get {Ms A : List MMl} {p j : Nat} (h : RowIs Ms A p j) (hj : j < Ms.length) : A.getD j ml0 = Ms.getD j ml0 := by
  have h1 : (A.drop j)[0]? = (Ms.drop j)[0]? := by rw [h.2.2.1]
  rw [List.getElem?_drop, List.getElem?_drop] at h1
  rw [List.getD_eq_getElem?_getD, List.getD_eq_getElem?_getD]
  rw [Nat.add_zero] at h1
  rw [h1]
theorem drop_next {A B : List MMl} {j : Nat} (h : A.drop j = B.drop j) : A.drop (j + 1) = B.drop (j + 1) := by
  rw [← List.drop_drop, ← List.drop_drop, h]
theorem row_del {Ms A : List MMl} {p j : Nat} (h : RowIs Ms A p j) (hj : j < Ms.length) (hd : delB (Ms.getD j ml0) = true) : RowIs Ms A p (j + 1) := by
  refine ⟨h.1, ?_, drop_next h.2.2.1, h.2.2.2⟩
  rw [keep_next hj, hd, if_pos rfl, List.append_nil]
  exact h.2.1
theorem row_keep {Ms A : List MMl} {p j : Nat} (h : RowIs Ms A p j) (hj : j < Ms.length) (hp : p < j) (hd : delB (Ms.getD j ml0) = false) : RowIs Ms (A.set p (Ms.getD j ml0)) (p + 1) (j + 1) := by
  have hl := h.1
  refine ⟨by rw [List.length_set]; exact h.1, ?_, ?_, by rw [List.length_set]; omega⟩
  · rw [keep_next hj, hd, if_neg (by simp), ← h.2.1]
    rw [List.take_add_one, List.take_set_of_le (Nat.le_refl _), List.getElem?_set_self (by omega)]
    rfl
  · rw [List.drop_set_of_lt (by omega)]
    exact drop_next h.2.2.1
theorem cut_row {B c p : Nat} (hp : p < c) : cutP (some ⟨B, 0, none⟩) c p 3 = some ⟨B, p * 3, none⟩ := by
  unfold cutP
  rw [if_neg (by omega)]
  simp only [Option.map_some, Addr.add]
  split
  · rename_i h0; rw [h0]
  · rw [Nat.zero_add]
set_option maxHeartbeats 8000000 in
theorem deleteI (B ml cx base : Nat) (Ms : List MMl) (hml : Ms.length = ml) (hm : ml ≤ 60) (hM : ∀ m ∈ Ms, 0 ≤ m.2.1 ∧ m.2.1 ≤ 3) (w : World) (ho : w.ownsRow base 62 3 (.slice (some ⟨B, 0, none⟩) ml cx) ml (cellsMl Ms)) (k : Nat) (hk : (keepM Ms).length = k) :
    Calls Tryz.prog 39 #[.slice (some ⟨B, 0, none⟩) ml cx, .func (.func 38) #[] #[]] w fun e w' => e = .returned (.slice (some ⟨B, 0, none⟩) k cx) ∧ w'.ownsRow base 62 3 (.slice (some ⟨B, 0, none⟩) k cx) k (cellsMl (keepM Ms)) ∧ w.grownBy w' (some B) := by
  have hsr : Src w (some ⟨B, 0, none⟩) (cellsMl Ms) := by
    obtain ⟨a9, c9, e9, s9, _⟩ := own_src ho
    cases e9
    exact s9
  have CI := indexDelI (some ⟨B, 0, none⟩) ml cx Ms w hml (by omega) hM hsr
  have hcx := (own_capx ho).1
  have HO : Hid (w.ownsRow base 62 3 (.slice (some ⟨B, 0, none⟩) ml cx) ml (cellsMl Ms)) := ho
  have HML : Hid (Ms.length = ml) := hml
  have HM : Hid (∀ m ∈ Ms, 0 ≤ m.2.1 ∧ m.2.1 ≤ 3) := hM
  have HK : Hid ((keepM Ms).length = k) := hk
  clear ho hml hM hk hsr
  go_enter Tryz.func39, Tryz.ntmps39
  go_wp2_with fail
  refine CI.mono ?_
  rintro e w1 ⟨i, rfl, hfi, hb1⟩
  have O1 : Hid (w1.ownsRow base 62 3 (.slice (some ⟨B, 0, none⟩) ml cx) ml (cellsMl Ms)) := own_below HO.out hb1
  have G1 : Hid (w.grownBy w1 (some B)) := gb_below (gb_refl w (some B)) hb1
  clear hb1 CI HO
  rcases hfi with ⟨k0, hk0, rfl, hd0, hf0⟩ | ⟨rfl, hall⟩
  case inr =>
    have hkm : keepM Ms = Ms := by
      unfold keepM
      rw [List.filter_eq_self]
      intro m hm9
      rw [hall m hm9]
      rfl
    have HF : Hid (ml = k ∧ w1.ownsRow base 62 3 (.slice (some ⟨B, 0, none⟩) k cx) k (cellsMl (keepM Ms))) := by
      have h9 := HK.out
      rw [hkm, HML.out] at h9
      subst h9
      rw [hkm]
      exact ⟨rfl, O1.out⟩
    have HKE : Hid (Ending.returned (Value.slice (some ⟨B, 0, none⟩) ml cx) = Ending.returned (Value.slice (some ⟨B, 0, none⟩) k cx)) := by
      show _ = _
      rw [HF.out.1]
    clear hall hkm O1
    go_wp2_with fail
    go_ret
    exact ⟨HKE.out, HF.out.2, G1.out⟩
  have hk0m : k0 < ml := by rw [← HML.out]; exact hk0
  have hne : ((k0 : Int) == -1) = false := by
    rw [beq_eq_false_iff_ne]
    omega
  have HR0 : Hid (RowIs Ms Ms k0 (k0 + 1)) := ⟨rfl, by rw [keep_next hk0, hd0, if_pos rfl, List.append_nil, keep_first k0 (by omega) hf0], rfl, by omega⟩
  clear hd0 hf0 hk0
  go_wp2_with fail
  go_loopw [5, 6] (fun iv jv wr => ∃ (p j : Nat) (A : List MMl), p < j ∧ j ≤ ml ∧ iv = .int .i64 (p : Int) ∧ jv = .int .i64 (j : Int) ∧ Hid (RowIs Ms A p j) ∧ Hid (wr.ownsRow base 62 3 (.slice (some ⟨B, 0, none⟩) ml cx) ml (cellsMl A)) ∧ Hid (w.grownBy wr (some B))) (fun _ j _ => ml - (RowKit.intOf j).toNat)
  case atStart => exact ⟨k0, k0 + 1, Ms, by omega, by omega, rfl, by go_num, HR0.out, O1.out, G1.out⟩
  case round =>
    obtain ⟨p, j, A, hpj, hj, rfl, rfl, hrow, hoA, hgr⟩ := hrel
    by_cases hlt : j < ml
    · have hlti : (j : Int) < (ml : Int) := by omega
      have hjM : j < Ms.length := by rw [HML.out]; exact hlt
      have hAl : A.length = ml := by rw [hrow.out.1]; exact HML.out
      have hsA : Src wr (some ⟨B, 0, none⟩) (cellsMl A) := by
        obtain ⟨a9, c9, e9, s9, _⟩ := own_src hoA.out
        cases e9
        exact s9
      obtain ⟨b9, o9, x0, x1, x2, e9, m0, m1, m2, hx⟩ := srcMl hsA (show j < A.length by omega)
      cases e9
      rw [Nat.zero_add] at m0 m1 m2
      have hxM : Ms.getD j ml0 = (x0, x1, x2) := by rw [← row_get hrow.out hjM]; exact hx.out
      have hr := HM.out (Ms.getD j ml0) (mem_getD' Ms ml0 j hjM)
      rw [hxM] at hr
      dsimp only at hr
      obtain ⟨wa, hwa⟩ : ∃ W, wr.alloc (.cells #[.int .i64 x0, .int .i64 x1, .string x2] 62) = W := ⟨_, rfl⟩
      have AA : Below wr.heap.size wr wa := by rw [← hwa]; exact (Below.refl _ _).alloc (Nat.le_refl _) _
      have XA : Box wa wr.heap.size [.int .i64 x0, .int .i64 x1, .string x2] := by rw [← hwa]; exact Box.new rfl
      obtain ⟨z0, _⟩ := XA 0 _ rfl
      obtain ⟨z1, _⟩ := XA 1 _ rfl
      obtain ⟨z2, _⟩ := XA 2 _ rfl
      have HXA : Hid (Box wa wr.heap.size [.int .i64 x0, .int .i64 x1, .string x2]) := XA
      have OA : Hid (wa.ownsRow base 62 3 (.slice (some ⟨B, 0, none⟩) ml cx) ml (cellsMl A)) := own_below hoA.out AA
      have GA : Hid (w.grownBy wa (some B)) := gb_below hgr.out AA
      obtain ⟨bb, hbb⟩ : ∃ t, delB (x0, x1, x2) = t := ⟨_, rfl⟩
      have CD := deletedI x0 x1 x2 hr.1 hr.2 wa bb hbb
      have HBM : Hid (Ms.getD j ml0 = (x0, x1, x2) ∧ delB (x0, x1, x2) = bb ∧ j < Ms.length ∧ A.length = ml) := ⟨hxM, hbb, hjM, hAl⟩
      clear hsA hx hxM hr hbb AA XA hjM hAl hoA hgr
      go_wp2_with fail
      refine CD.mono ?_
      rintro e w5 ⟨rfl, hb5⟩
      have O5 : Hid (w5.ownsRow base 62 3 (.slice (some ⟨B, 0, none⟩) ml cx) ml (cellsMl A)) := own_below OA.out hb5
      have G5 : Hid (w.grownBy w5 (some B)) := gb_below GA.out hb5
      have X5 : Hid (Box w5 wr.heap.size [.int .i64 x0, .int .i64 x1, .string x2]) := HXA.out.below hb5
      clear CD hb5 OA GA HXA z0 z1 z2 m0 m1 m2 hwa
      cases bb with
      | true =>
        have HR1 : Hid (RowIs Ms A p (j + 1)) := row_del hrow.out HBM.out.2.2.1 (by rw [HBM.out.1]; exact HBM.out.2.1)
        go_wp2_with fail
        exact ⟨⟨p, j + 1, A, by omega, by omega, rfl, by go_num, HR1.out, O5.out, G5.out⟩, by simp [RowKit.intOf]; omega⟩
      | false =>
        have hpm : (p : Int) < (ml : Int) := by omega
        have hpA : p < A.length := by rw [HBM.out.2.2.2]; omega
        have HR1 : Hid (RowIs Ms (A.set p (x0, x1, x2)) (p + 1) (j + 1)) := by
          have h9 := row_keep hrow.out HBM.out.2.2.1 hpj (by rw [HBM.out.1]; exact HBM.out.2.1)
          rw [HBM.out.1] at h9
          exact h9
        have hcl : (cellsMl A).length = ml * 3 := by rw [cellsMl_length, HBM.out.2.2.2]
        obtain ⟨y0, f0, f0'⟩ := own_cellX O5.out (i := p * 3) (by omega)
        have O6 := own_set O5.out (p * 3) (by omega) (.int .i64 x0)
        obtain ⟨y1, f1, f1'⟩ := own_cellX O6 (i := p * 3 + 1) (by rw [List.length_set]; omega)
        have O7 := own_set O6 (p * 3 + 1) (by rw [List.length_set]; omega) (.int .i64 x1)
        obtain ⟨y2, f2, f2'⟩ := own_cellX O7 (i := p * 3 + 2) (by rw [List.length_set, List.length_set]; omega)
        have O8 := own_set O7 (p * 3 + 2) (by rw [List.length_set, List.length_set]; omega) (.string x2)
        have HO8 : Hid ((((w5.setCell ⟨B, p * 3, none⟩ (.int .i64 x0)).setCell ⟨B, p * 3 + 1, none⟩ (.int .i64 x1)).setCell ⟨B, p * 3 + 2, none⟩ (.string x2)).ownsRow base 62 3 (.slice (some ⟨B, 0, none⟩) ml cx) ml (cellsMl (A.set p (x0, x1, x2)))) := own_congr O8 (cells_put A p (x0, x1, x2) hpA)
        have HG8 : Hid (w.grownBy (((w5.setCell ⟨B, p * 3, none⟩ (.int .i64 x0)).setCell ⟨B, p * 3 + 1, none⟩ (.int .i64 x1)).setCell ⟨B, p * 3 + 2, none⟩ (.string x2)) (some B)) := gb_set (gb_set (gb_set G5.out _ _) _ _) _ _
        obtain ⟨z0, _⟩ := X5.out 0 _ rfl
        obtain ⟨z1, _⟩ := X5.out 1 _ rfl
        obtain ⟨z2, _⟩ := X5.out 2 _ rfl
        clear O6 O7 O8 hcl
        go_wp2_with fail
        exact ⟨⟨p + 1, j + 1, A.set p (x0, x1, x2), by omega, by omega, by go_num, by go_num, HR1.out, HO8.out, HG8.out⟩, by simp [RowKit.intOf]; omega⟩
    · obtain rfl : j = ml := by omega
      have hlti : ¬ (j : Int) < (j : Int) := by omega
      have hAl : A.length = j := by rw [hrow.out.1]; exact HML.out
      have hkA : A.take p = keepM Ms := by
        rw [hrow.out.2.1, List.take_of_length_le (by rw [HML.out]; exact Nat.le_refl _)]
      have hpk : p = k := by
        rw [← HK.out, ← hkA, List.length_take]
        omega
      have hcut : ∀ W, (Instr.slice 57 (.slice (some ⟨B, 0, none⟩) j cx) (some (.int .i64 (p : Int))) none none).run Tryz.prog W = .ok (.slice (some ⟨B, p * 3, none⟩) (j - p) (cx - p)) W := fun W => by
        rw [cut_l Tryz.underlying57 Tryz.sizeOf62 (some ⟨B, 0, none⟩) j cx p (by omega) W, cut_row (by omega)]
      have hcut2 : ∀ W, (Instr.slice 57 (.slice (some ⟨B, 0, none⟩) j cx) none (some (.int .i64 (p : Int))) none).run Tryz.prog W = .ok (.slice (some ⟨B, 0, none⟩) p cx) W := fun W => cut_h Tryz.underlying57 Tryz.sizeOf62 (some ⟨B, 0, none⟩) j cx p (by omega) W
      obtain ⟨zl, zo⟩ := zero_mails (j - p)
      obtain ⟨Z, hZ⟩ : ∃ t, (Builtin.zeroCells zM.cells (j - p)).toList = t := ⟨_, rfl⟩
      rw [hZ] at zl zo
      have hclr : ∀ ty, (Builtin.clear_ #[57] ty #[.slice (some ⟨B, p * 3, none⟩) (j - p) (cx - p)]).run Tryz.prog wr = .ok (.tuple #[]) (wr.setCells B (p * 3) Z) := fun ty => run_clear_rows wr 57 62 ty zM Tryz.underlying57 Tryz.zeroValue62 B (p * 3) (j - p) (cx - p) (by omega) Z hZ zo (fun q hq => by
        rw [(own_cell hoA.out (i := p * 3 + q) (by rw [cellsMl_length, hAl]; omega)).1]
        rfl) (fun q hq => (own_cell hoA.out (i := p * 3 + q) (by rw [cellsMl_length, hAl]; omega)).2)
      have HF : Hid ((wr.setCells B (p * 3) Z).ownsRow base 62 3 (.slice (some ⟨B, 0, none⟩) k cx) k (cellsMl (keepM Ms)) ∧ w.grownBy (wr.setCells B (p * 3) Z) (some B)) := by
        have h9 := own_short hoA.out (k := p) (by omega)
        rw [cells_take, hkA] at h9
        rw [← hpk]
        exact ⟨own_pasts Z (p * 3) wr h9 (Nat.le_refl _), gb_sets Z (p * 3) wr hgr.out⟩
      have HKE : Hid (Ending.returned (Value.slice (some ⟨B, 0, none⟩) p cx) = Ending.returned (Value.slice (some ⟨B, 0, none⟩) k cx)) := by
        show _ = _
        rw [hpk]
      clear hAl hkA hpk hZ zl zo hrow hoA hgr
      go_wp2_with fail
      go_ret
      exact ⟨HKE.out, HF.out.1, HF.out.2⟩
end Go.Proofs.YtbpgncgmolpkiaaGreatDoor
namespace Go.Proofs.YtbpgncgmolpkiaaGreatDoor
open Go.ChangeShapes Go.WideShapes Go.ChangeAt Go.RowKit Go.Deep Go.Lib
set_option linter.unusedVariables false
set_option linter.unusedSimpArgs false
set_option maxRecDepth 100000

theorem eR_bad {L R : List PM} {u f : ByteArray} {G : List Int} {q Q : Int} (h : eR L u f = (R, G, Q)) (hq : askM L [u, f] = q) (h0 : q ≠ 0) : [] = R ∧ [] = G ∧ q = Q := by
  unfold eR at h
  rw [hq, if_pos h0] at h
  cases h
  exact ⟨rfl, rfl, rfl⟩
theorem eR_good {L R : List PM} {u f : ByteArray} {G : List Int} {Q : Int} (h : eR L u f = (R, G, Q)) (hq : askM L [u, f] = 0) : exR L u f = (R, G, Q) := by
  unfold eR at h
  rw [hq, if_neg (by simp)] at h
  exact h
theorem exR_len {L R : List PM} {u f : ByteArray} {G : List Int} {Q : Int} (h : exR L u f = (R, G, Q)) (hl : L.length ≤ 60) : R.length ≤ 60 := by
  unfold exR at h
  split at h
  · cases h; exact hl
  · cases h
    exact Nat.le_trans (ex_len _ _ _ _ _) hl
set_option maxHeartbeats 4000000 in
theorem specExpungeFolder (a : Option Addr) (n c : Nat) (L : List PM) (x y : ByteArray) (w : World) (hL : L.length = n) (hn : n ≤ 1048576) (hs : ∀ x ∈ L, x.1.size ≤ 1048576 ∧ x.2.size ≤ 1048576) (h : Src w a (cellsP L)) (hx : x.size ≤ 1048576) (hy : y.size ≤ 1048576) (R : List PM) (G : List Int) (Q : Int) (HQ : Hid (eR L x y = (R, G, Q))) :
    Calls Tryz.prog 14 #[.slice a n c, .string x, .string y] w fun e w' => ∃ v1 v2, e = .returned (.tuple #[v1, v2, .int .i64 Q]) ∧ w'.ownsRow w.heap.size 47 2 v1 R.length (cellsP R) ∧ w'.ownsRow w.heap.size 3 1 v2 G.length (cellsI G) ∧ Below w.heap.size w w' := by
  have HLN : Hid (L.length = n) := hL
  have HS : Hid (Src w a (cellsP L)) := h
  have AL : Hid (Below w.heap.size w (w.alloc (.cells #[.string x, .string y] 9))) := (Below.refl _ _).alloc (Nat.le_refl _) _
  obtain ⟨q, hq⟩ : ∃ q, askM L [x, y] = q := ⟨_, rfl⟩
  have HQQ : Hid (askM L [x, y] = q) := hq
  have CA := l07AskS a n c L (some ⟨w.heap.size, 0, none⟩) 2 2 [x, y] (w.alloc (.cells #[.string x, .string y] 9)) hL hn hs (HS.out.below AL.out) rfl (by omega) (fun s hs => by
    rcases List.mem_cons.1 hs with rfl | hs
    · exact hx
    · rw [List.mem_singleton.1 hs]; exact hy) (src_2S rfl) q hq
  have B0 : Hid (Below w.heap.size w w) := Below.refl _ _
  have EM : Hid (((w.alloc (.cells #[] 47)).alloc (.cells #[] 3)).ownsRow w.heap.size 47 2 (.slice (some ⟨w.heap.size, 0, none⟩) 0 0) ([] : List PM).length (cellsP []) ∧ ((w.alloc (.cells #[] 47)).alloc (.cells #[] 3)).ownsRow w.heap.size 3 1 (.slice (some ⟨w.heap.size + 1, 0, none⟩) 0 0) ([] : List Int).length (cellsI []) ∧ Below w.heap.size w ((w.alloc (.cells #[] 47)).alloc (.cells #[] 3))) := ⟨own_below (own_empty rfl (B0.out).size) ((Below.refl _ _).alloc (Nat.le_refl _) _), own_empty (by simp) (le_alloc (B0.out).size _), ((B0.out).alloc (B0.out).size _).alloc (le_alloc (B0.out).size _) _⟩
  have HBAD : Hid (q ≠ 0 → [] = R ∧ [] = G ∧ q = Q) := fun h9 => eR_bad HQ.out HQQ.out h9
  have HTWO : Hid (askM L [x, y] = 2 → [] = R ∧ [] = G ∧ 2 = Q) := fun h9 => eR_bad HQ.out h9 (by decide)
  clear hL h hs hq
  by_cases h1 : 4096 < n
  · have h1i : (4096 : Int) < (n : Int) := by omega
    obtain ⟨rfl, rfl, rfl⟩ := HTWO.out (by unfold askM; rw [if_pos (.inl (by rw [HLN.out]; exact h1))])
    go_enter Tryz.func14, Tryz.ntmps14
    go_wp2_with fail
    exact bodyPost_ret (v := .tuple #[.slice (some ⟨w.heap.size, 0, none⟩) 0 0, .slice (some ⟨w.heap.size + 1, 0, none⟩) 0 0, .int .i64 2]) (by simp [results, Tryz.results14, go_sem]) rfl ⟨_, _, rfl, EM.out⟩
  have h1i : ¬ (4096 : Int) < (n : Int) := by omega
  by_cases h2 : 65536 < x.size
  · have h2i : (65536 : Int) < (x.size : Int) := by omega
    obtain ⟨rfl, rfl, rfl⟩ := HTWO.out (by
      unfold askM
      rw [if_pos (.inr (by show (smallT x && _) = false; rw [show smallT x = false from decide_eq_false (by omega)]; rfl))])
    go_enter Tryz.func14, Tryz.ntmps14
    go_wp2_with fail
    exact bodyPost_ret (v := .tuple #[.slice (some ⟨w.heap.size, 0, none⟩) 0 0, .slice (some ⟨w.heap.size + 1, 0, none⟩) 0 0, .int .i64 2]) (by simp [results, Tryz.results14, go_sem]) rfl ⟨_, _, rfl, EM.out⟩
  have h2i : ¬ (65536 : Int) < (x.size : Int) := by omega
  by_cases h3 : 65536 < y.size
  · have h3i : (65536 : Int) < (y.size : Int) := by omega
    obtain ⟨rfl, rfl, rfl⟩ := HTWO.out (by
      unfold askM
      rw [if_pos (.inr (by show (smallT x && (smallT y && true)) = false; rw [show smallT y = false from decide_eq_false (by omega)]; simp))])
    go_enter Tryz.func14, Tryz.ntmps14
    go_wp2_with fail
    exact bodyPost_ret (v := .tuple #[.slice (some ⟨w.heap.size, 0, none⟩) 0 0, .slice (some ⟨w.heap.size + 1, 0, none⟩) 0 0, .int .i64 2]) (by simp [results, Tryz.results14, go_sem]) rfl ⟨_, _, rfl, EM.out⟩
  have h3i : ¬ (65536 : Int) < (y.size : Int) := by omega
  by_cases hq0 : q = 0
  case neg =>
    obtain ⟨rfl, rfl, rfl⟩ := HBAD.out hq0
    have hqi : (q != 0) = true := by simpa using hq0
    go_enter Tryz.func14, Tryz.ntmps14
    go_wp2_with fail
    refine CA.mono ?_
    rintro e w3 ⟨rfl, hb3⟩
    have B3 : Hid (Below w.heap.size w w3) := AL.out.trans (hb3.mono AL.out.size)
    have EM3 : Hid (((w3.alloc (.cells #[] 47)).alloc (.cells #[] 3)).ownsRow w.heap.size 47 2 (.slice (some ⟨w3.heap.size, 0, none⟩) 0 0) ([] : List PM).length (cellsP []) ∧ ((w3.alloc (.cells #[] 47)).alloc (.cells #[] 3)).ownsRow w.heap.size 3 1 (.slice (some ⟨w3.heap.size + 1, 0, none⟩) 0 0) ([] : List Int).length (cellsI []) ∧ Below w.heap.size w ((w3.alloc (.cells #[] 47)).alloc (.cells #[] 3))) := ⟨own_below (own_empty rfl (B3.out).size) ((Below.refl _ _).alloc (Nat.le_refl _) _), own_empty (by simp) (le_alloc (B3.out).size _), ((B3.out).alloc (B3.out).size _).alloc (le_alloc (B3.out).size _) _⟩
    clear hb3 CA
    go_wp2_with fail
    exact bodyPost_ret (v := .tuple #[.slice (some ⟨w3.heap.size, 0, none⟩) 0 0, .slice (some ⟨w3.heap.size + 1, 0, none⟩) 0 0, .int .i64 q]) (by simp [results, Tryz.results14, go_sem]) rfl ⟨_, _, rfl, EM3.out⟩
  subst hq0
  obtain ⟨hst, hsx, hsy⟩ := ask_zero2 HQQ.out
  obtain ⟨hgl, nx0, hnm, n1, _⟩ := store_facts hst
  obtain ⟨b, o, rfl⟩ := store_src hst HS.out
  have HQ2 : Hid (exR L x y = (R, G, Q)) := eR_good HQ.out HQQ.out
  have hln : R.length ≤ 60 := exR_len HQ2.out hgl.1
  have CI := fun W (hW : Below w.heap.size w W) => l07ExpungeS b o n c L HLN.out hgl hst x y hsx hsy W (HS.out.below hW) R G Q HQ2.out
  clear hst hsx hsy hgl HBAD hnm n1 HTWO HQ EM
  go_enter Tryz.func14, Tryz.ntmps14
  go_wp2_with fail
  refine CA.mono ?_
  rintro e w3 ⟨rfl, hb3⟩
  have B3 : Hid (Below w.heap.size w w3) := AL.out.trans (hb3.mono AL.out.size)
  have CI3 := CI w3 B3.out
  clear hb3 CA CI
  go_wp2_with fail
  refine CI3.mono ?_
  rintro e w5 ⟨a5, n5, c5, v5, rfl, k1, k2, hog, hb5⟩
  obtain ⟨ag, cg, rfl, _, _⟩ := own_src hog
  have B5 : Hid (Below w.heap.size w w5) := B3.out.trans (hb5.mono B3.out.size)
  have CO := l07OwnS a5 n5 c5 R w5 k1 (by omega) k2
  have HN5 : Hid (R.length = n5) := k1
  have OG5 : Hid (w5.ownsRow w.heap.size 3 1 (.slice ag G.length cg) G.length (cellsI G)) := own_mono hog B3.out.size
  clear hb5 CI3 k1 k2 hog
  go_wp2_with fail
  refine CO.mono ?_
  rintro e w6 ⟨v6, rfl, ho6, hb6⟩
  obtain ⟨a6, c6, rfl, _, _⟩ := own_src ho6
  have HF : Hid (w6.ownsRow w.heap.size 47 2 (.slice a6 n5 c6) R.length (cellsP R) ∧ w6.ownsRow w.heap.size 3 1 (.slice ag G.length cg) G.length (cellsI G) ∧ Below w.heap.size w w6) := ⟨by rw [HN5.out]; exact own_mono ho6 B5.out.size, own_below OG5.out hb6, B5.out.trans (hb6.mono B5.out.size)⟩
  clear ho6 hb6 CO OG5
  go_wp2_with fail
  exact bodyPost_ret (v := .tuple #[.slice a6 n5 c6, .slice ag G.length cg, .int .i64 Q]) (by simp [results, Tryz.results14, go_sem]) rfl ⟨_, _, rfl, HF.out⟩
set_option maxHeartbeats 2000000 in
theorem deleteNil (w : World) : Calls Tryz.prog 39 #[.slice none 0 0, .func (.func 38) #[] #[]] w fun e w' => e = .returned (.slice none 0 0) ∧ Below w.heap.size w w' := by
  have CI := indexDelI none 0 0 [] w rfl (by omega) (fun m hm => by cases hm) (.inl rfl)
  go_enter Tryz.func39, Tryz.ntmps39
  go_wp2_with fail
  refine CI.mono ?_
  rintro e w1 ⟨i, rfl, hfi, hb1⟩
  have B1 : Hid (Below w.heap.size w w1) := hb1
  rcases hfi with ⟨k0, hk0, _⟩ | ⟨rfl, _⟩
  · exact absurd hk0 (by simp)
  · clear hb1 CI
    go_wp2_with fail
    go_ret
    exact ⟨rfl, B1.out⟩
theorem deleteG (ax : Option Addr) (ml cx base : Nat) (Ms : List MMl) (hml : Ms.length = ml) (hm : ml ≤ 60) (hM : ∀ m ∈ Ms, 0 ≤ m.2.1 ∧ m.2.1 ≤ 3) (w : World) (ho : w.ownsRow base 62 3 (.slice ax ml cx) ml (cellsMl Ms)) (k : Nat) (hk : (keepM Ms).length = k) :
    Calls Tryz.prog 39 #[.slice ax ml cx, .func (.func 38) #[] #[]] w fun e w' => e = .returned (.slice ax k cx) ∧ w'.ownsRow base 62 3 (.slice ax k cx) k (cellsMl (keepM Ms)) ∧ w.grownBy w' (Value.ownBlock (.slice ax ml cx)) := by
  have ho2 := ho
  obtain ⟨hl, ⟨hv, h0⟩ | ⟨g, cap, cur, hv, hb, _⟩⟩ := ho2
  · cases hv
    have hM0 : Ms = [] := List.eq_nil_of_length_eq_zero (by omega)
    subst hM0
    obtain rfl : 0 = k := hk
    refine (deleteNil w).mono ?_
    rintro e w' ⟨rfl, hb⟩
    exact ⟨rfl, World.ownsRow_nil _ _ _ _, gb_below (gb_refl w _) hb⟩
  · cases hv
    exact deleteI g ml cx base Ms hml hm hM w ho k hk
set_option maxHeartbeats 8000000 in
theorem implExpungeFolder (a : Option Addr) (n c : Nat) (L : List PM) (x y : ByteArray) (w : World) (hL : L.length = n) (hn : n ≤ 1048576) (hs : ∀ x ∈ L, x.1.size ≤ 1048576 ∧ x.2.size ≤ 1048576) (h : Src w a (cellsP L)) (hx : x.size ≤ 1048576) (hy : y.size ≤ 1048576) (hG : Gl w) (h8 : 8 ≤ w.heap.size) (R : List PM) (G : List Int) (Q : Int) (HQ : Hid (eR L x y = (R, G, Q))) :
    Calls Tryz.prog 15 #[.slice a n c, .string x, .string y] w fun e w' => ∃ v1 v2, e = .returned (.tuple #[v1, v2, .int .i64 Q]) ∧ w'.ownsRow w.heap.size 47 2 v1 R.length (cellsP R) ∧ w'.ownsRow w.heap.size 3 1 v2 G.length (cellsI G) ∧ Below w.heap.size w w' := by
  have HLN : Hid (L.length = n) := hL
  have HS : Hid (Src w a (cellsP L)) := h
  have HG : Hid (Gl w) := hG
  have AL : Hid (Below w.heap.size w (w.alloc (.cells #[.string x, .string y] 9))) := (Below.refl _ _).alloc (Nat.le_refl _) _
  obtain ⟨q, hq⟩ : ∃ q, askM L [x, y] = q := ⟨_, rfl⟩
  have HQQ : Hid (askM L [x, y] = q) := hq
  have CA := mailFaultI a n c L (some ⟨w.heap.size, 0, none⟩) 2 2 [x, y] (w.alloc (.cells #[.string x, .string y] 9)) hL hn hs (HS.out.below AL.out) rfl (by omega) (fun s hs => by
    rcases List.mem_cons.1 hs with rfl | hs
    · exact hx
    · rw [List.mem_singleton.1 hs]; exact hy) (src_2S rfl) (hG.below h8 AL.out) (by have := AL.out.size; omega) q hq
  clear hL h hs hq hG
  by_cases hq0 : q = 0
  case neg =>
    obtain ⟨rfl, rfl, rfl⟩ := eR_bad HQ.out HQQ.out hq0
    have hqi : (q != 0) = true := by simpa using hq0
    go_enter Tryz.func15, Tryz.ntmps15
    go_wp2_with fail
    refine CA.mono ?_
    rintro e w3 ⟨rfl, hb3⟩
    have B3 : Hid (Below w.heap.size w w3) := AL.out.trans (hb3.mono AL.out.size)
    clear hb3 CA
    go_wp2_with fail
    exact bodyPost_ret (v := .tuple #[.slice none 0 0, .slice none 0 0, .int .i64 q]) (by simp [results, Tryz.results15, go_sem]) rfl ⟨_, _, rfl, World.ownsRow_nil _ _ _ _, World.ownsRow_nil _ _ _ _, B3.out⟩
  subst hq0
  obtain ⟨hst, hsx, hsy⟩ := ask_zero2 HQQ.out
  have hus := word_slash hsx
  have hfs := word_slash hsy
  have hu8 := short_size hsx
  have hy8 := short_size hsy
  obtain ⟨hgl, nx0, hnm, n1, n2, _⟩ := store_facts hst
  have hn60 := hgl.1
  rw [HLN.out] at hn60
  rw [hnm] at n1 n2
  have HQ2 : Hid (exR L x y = (R, G, Q)) := eR_good HQ.out HQQ.out
  have CD := fun W (hW : Below w.heap.size w W) => deskWithI a n c L x W HLN.out (HS.out.below hW) (HG.out.below h8 hW) (by have := hW.size; omega) hst hus (by omega)
  obtain ⟨kk, hkk⟩ : ∃ z, knownR L x y = z := ⟨_, rfl⟩
  have HFI : Hid (∀ S, takeAll (nextM L) x S0 L = some S → lackM S.word S.fs [y] = kk ∧ (kk = 0 → ∃ g, lookF y S.fs = some g ∧ UpL (exY L x y) ∧ (deskP (nextM L) x (exS S g)).Perm (exY L x y) ∧ (exY L x y).length ≤ 60 ∧ (∀ z ∈ (exS S g).fs, FitF z) ∧ rnF L x y = g ∧ (∀ m ∈ g.mails, 0 ≤ m.2.1 ∧ m.2.1 ≤ 3) ∧ g.mails.length ≤ 60)) := fun S hS => by
    refine ⟨by rw [lack_known hst hus hfs hS, hkk], fun e => ?_⟩
    rw [e] at hkk
    obtain ⟨hw, g, hl⟩ := known_zero hst hus hfs hS hkk
    obtain ⟨k1, k2, k3, k4, k5⟩ := ex_fits hst hus hfs hS hw hl
    have hfit := (store_fit hst hS g (lookF_mem hl).1).2.2.2.2.2
    have h9 := (store_sub hst hS g (lookF_mem hl).1).length_le
    rw [List.length_map, HLN.out] at h9
    exact ⟨g, hl, k1, k2, k3, k4, k5, fun m hm => ⟨(hfit m hm).2.2.1, (hfit m hm).2.2.2.1⟩, by omega⟩
  have HRK : Hid ((kk ≠ 0 → L = R ∧ [] = G ∧ kk = Q) ∧ (kk = 0 → exY L x y = R ∧ goI (rnF L x y).mails = G ∧ 0 = Q)) := by
    have h9 := HQ2.out
    unfold exR at h9
    rw [hkk] at h9
    constructor
    · intro e
      rw [if_pos e] at h9
      cases h9
      exact ⟨rfl, rfl, rfl⟩
    · intro e
      rw [if_neg (by simp [e])] at h9
      cases h9
      exact ⟨rfl, rfl, rfl⟩
  obtain ⟨nx, hnx⟩ : ∃ t, nextM L = t := ⟨_, rfl⟩
  simp only [hnx] at CD n1 n2
  rw [hnx] at HFI
  clear hst hsx hsy hgl hnm hnx hus hfs hkk HQ HQ2 HQQ
  go_enter Tryz.func15, Tryz.ntmps15
  go_wp2_with fail
  refine CA.mono ?_
  rintro e w3 ⟨rfl, hb3⟩
  have B3 : Hid (Below w.heap.size w w3) := AL.out.trans (hb3.mono AL.out.size)
  clear hb3 CA
  go_wp2_with fail
  refine (CD _ B3.out).mono ?_
  rintro e w4 ⟨M, S, rfl, hS, hSt, hM, hb4⟩
  have B4 : Hid (Below w.heap.size w w4) := B3.out.trans (hb4.mono B3.out.size)
  have hM2 : w.heap.size ≤ M := by have h9 := B3.out.size; omega
  obtain ⟨hlk, hgo⟩ := HFI.out S hS
  have HGO : Hid (kk = 0 → ∃ g, lookF y S.fs = some g ∧ UpL (exY L x y) ∧ (deskP nx x (exS S g)).Perm (exY L x y) ∧ (exY L x y).length ≤ 60 ∧ (∀ z ∈ (exS S g).fs, FitF z) ∧ rnF L x y = g ∧ (∀ m ∈ g.mails, 0 ≤ m.2.1 ∧ m.2.1 ≤ 3) ∧ g.mails.length ≤ 60) := hgo
  have CL := lacksI (w4.alloc (.cells #[.string y] 9)) M a n c nx x S n (hSt.later ((Below.refl _ _).alloc (Nat.le_refl _) _)) (by omega) (some ⟨w4.heap.size, 0, none⟩) 1 1 [y] rfl (by omega) (fun s hs => by rw [List.mem_singleton.1 hs]; omega) (src_1S rfl) kk hlk
  have HST4 : Hid (StAt w4 M a n c nx x S n) := hSt
  have A4 : Hid (Below w4.heap.size w4 (w4.alloc (.cells #[.string y] 9))) := (Below.refl _ _).alloc (Nat.le_refl _) _
  clear hb4 hS hSt CD hM hlk hgo HFI
  go_wp2_with fail
  refine CL.mono ?_
  rintro e w5 ⟨rfl, hb5⟩
  have B45 : Hid (Below w4.heap.size w4 w5) := A4.out.trans (hb5.mono A4.out.size)
  have B5 : Hid (Below w.heap.size w w5) := B4.out.trans (B45.out.mono B4.out.size)
  have HST5 : Hid (StAt w5 M a n c nx x S n) := HST4.out.later B45.out
  clear hb5 CL A4 HST4
  by_cases hk0 : kk = 0
  case neg =>
    obtain ⟨hR, hGe, hQe⟩ := HRK.out.1 hk0
    have hki : (kk != 0) = true := by simpa using hk0
    have CC := copyListI a n c L w5 HLN.out (by omega) (HS.out.below B5.out)
    have HRE : Hid (L = R ∧ [] = G ∧ kk = Q) := ⟨hR, hGe, hQe⟩
    clear hR hGe hQe HRK HGO
    go_wp2_with fail
    refine CC.mono ?_
    rintro e w6 ⟨v6, rfl, ho6, hb6⟩
    obtain ⟨a6, c6, rfl, _, _⟩ := own_src ho6
    have HF : Hid (w6.ownsRow w.heap.size 47 2 (.slice a6 n c6) R.length (cellsP R) ∧ w6.ownsRow w.heap.size 3 1 (.slice none 0 0) G.length (cellsI G) ∧ Below w.heap.size w w6) := by
      rw [← HRE.out.1, ← HRE.out.2.1, HLN.out]
      exact ⟨own_mono ho6 B5.out.size, World.ownsRow_nil _ _ _ _, B5.out.trans (hb6.mono B5.out.size)⟩
    have HQE : Hid (kk = Q) := HRE.out.2.2
    clear ho6 hb6 CC HRE
    go_wp2_with fail
    exact bodyPost_ret (v := .tuple #[.slice a6 n c6, .slice none 0 0, .int .i64 kk]) (by simp [results, Tryz.results15, go_sem]) rfl ⟨_, _, by rw [HQE.out], HF.out⟩
  subst hk0
  obtain ⟨g, hlg, y1, y2, y3, y4, y5, y6, y7⟩ := HGO.out rfl
  obtain ⟨hR, hGe, hQe⟩ := HRK.out.2 rfl
  rw [hR] at y1 y2 y3
  rw [y5] at hGe
  obtain ⟨va, X, hD, hV, hN, hf, hk⟩ := HST5.out
  obtain ⟨ax, cx, hat, hrow, hap⟩ := at_some hD hV hlg
  obtain ⟨hgm, hgn⟩ := lookF_mem hlg
  have hgb := hf g hgm
  have CT := atI y w5 M ⟨a, n, c, va, S.aside, nx, x, S.word, X⟩ (by omega) (by show x.size ≤ 1048576; omega) hD
  have hat2 : atX (lookX (folderK x y) X) = .agg #[.string g.name, .int .i64 g.val, .int .i64 g.next, .slice ax g.mails.length cx] := hat
  have CT2 : Calls Tryz.prog 37 #[.pointer (some ⟨M + 1, 0, none⟩), .string y] w5 fun e w' => e = .returned (.agg #[.string g.name, .int .i64 g.val, .int .i64 g.next, .slice ax g.mails.length cx]) ∧ Below w5.heap.size w5 w' := by
    rw [← hat2]
    exact CT
  obtain ⟨gv, hgv⟩ : ∃ t, g.val = t := ⟨_, rfl⟩
  obtain ⟨gx, hgx⟩ : ∃ t, g.next = t := ⟨_, rfl⟩
  obtain ⟨Ms, hMs⟩ : ∃ t, g.mails = t := ⟨_, rfl⟩
  obtain ⟨ml, hml⟩ : ∃ t, Ms.length = t := ⟨_, rfl⟩
  rw [hgn, hgv, hgx, hMs, hml] at CT2
  rw [hMs, hml] at hrow hap
  rw [hMs] at y6 y7 hGe
  rw [hml] at y7
  have HML : Hid (Ms.length = ml) := hml
  have HM6 : Hid (∀ m ∈ Ms, 0 ≤ m.2.1 ∧ m.2.1 ≤ 3) := y6
  have HD5 : Hid (DeskAt w5 M ⟨a, n, c, va, S.aside, nx, x, S.word, X⟩) := hD
  have HVN : Hid (View x X S.fs ∧ (S.fs.map (·.name)).Nodup ∧ (∀ f ∈ S.fs, 1 ≤ f.next ∧ f.next ≤ 999 ∧ f.mails.length ≤ n) ∧ S.aside.length ≤ n) := ⟨hV, hN, hf, hk⟩
  have HRW : Hid (w5.ownsRow (M + 2) 62 3 (.slice ax ml cx) ml (cellsMl Ms) ∧ ∀ z ∈ X, z.k ≠ folderK x y → ∀ b, z.v.ownBlock = some b → Value.ownBlock (.slice ax ml cx) ≠ some b) := ⟨hrow, hap⟩
  have HGB : Hid (1 ≤ gx ∧ gx ≤ 999 ∧ ml ≤ n) := by
    rw [hgx, hMs, hml] at hgb
    exact hgb
  have HYY : Hid (UpL R ∧ (deskP nx x (exS S g)).Perm R ∧ R.length ≤ 60 ∧ (∀ z ∈ (exS S g).fs, FitF z) ∧ goI Ms = G ∧ 0 = Q ∧ g = ⟨y, gv, gx, Ms⟩) := ⟨y1, y2, y3, y4, hGe, hQe, by rw [← hgn, ← hgv, ← hgx, ← hMs]⟩
  have hM5 : M + 2 ≤ w5.heap.size := by
    have h9 : M + 1 < w5.heap.size := World.block_lt_of_cell? _ _ (hD.1 0 _ rfl).1
    omega
  clear hlg y1 y2 y3 y4 y5 y6 hR hGe hQe hD hV hN hf hk hat hrow hap hgm hgb CT hat2 hgv hgx hMs hml HST5 HGO HRK hgn
  go_wp2_with fail
  refine CT2.mono ?_
  rintro e w6 ⟨rfl, hb6⟩
  obtain ⟨w7, hw7⟩ : ∃ W, w6.alloc (.cells #[.string y, .int .i64 gv, .int .i64 gx, .slice ax ml cx] 59) = W := ⟨_, rfl⟩
  have A7 : Below w6.heap.size w6 w7 := by rw [← hw7]; exact (Below.refl _ _).alloc (Nat.le_refl _) _
  have B57 : Hid (Below w5.heap.size w5 w7) := hb6.trans (A7.mono hb6.size)
  have X7 : Hid (Box w7 w6.heap.size [.string y, .int .i64 gv, .int .i64 gx, .slice ax ml cx]) := by show Box _ _ _; rw [← hw7]; exact Box.new rfl
  have B7 : Hid (Below w.heap.size w w7) := B5.out.trans (B57.out.mono B5.out.size)
  have Z7 : Hid (w5.heap.size ≤ w6.heap.size ∧ w6.heap.size < w7.heap.size) := by
    refine ⟨hb6.size, ?_⟩
    rw [← hw7]
    simp
  have hsm : Src w7 ax (cellsMl Ms) := by
    obtain ⟨a9, c9, e9, s9, _⟩ := own_src (own_below HRW.out.1 B57.out)
    cases e9
    exact s9
  have HSM : Hid (Src w7 ax (cellsMl Ms)) := hsm
  obtain ⟨x73, _⟩ := X7.out 3 _ rfl
  clear CT2 hb6 A7 hsm
  go_wp2_with fail
  clear hw7 x73
  go_loopw [13, 42] (fun gv' iv wr => ∃ (j g' : Nat) (av : Option Addr) (vc : Nat), j ≤ ml ∧ g' ≤ ml ∧ gv' = .slice av g' vc ∧ iv = .int .i64 (j : Int) ∧ Hid ((goI (Ms.take j)).length = g') ∧ Hid (wr.ownsRow w7.heap.size 3 1 (.slice av g' vc) g' (cellsI (goI (Ms.take j)))) ∧ Hid (Below w7.heap.size w7 wr)) (fun _ i _ => ml - (RowKit.intOf i).toNat)
  case atStart => exact ⟨0, 0, none, 0, by omega, by omega, rfl, rfl, rfl, World.ownsRow_nil _ _ _ _, Below.refl _ _⟩
  case round =>
    obtain ⟨j, g', av, vc, hj, hg', rfl, rfl, hlen, hog, hbr⟩ := hrel
    by_cases hlt : j < ml
    · have hlti : (j : Int) < (ml : Int) := by omega
      have hjM : j < Ms.length := by rw [HML.out]; exact hlt
      obtain ⟨bm, om, x0, x1, x2, rfl, m0, m1, m2, hx⟩ := srcMl (HSM.out.below hbr.out) hjM
      have hr := HM6.out (Ms.getD j ml0) (mem_getD' Ms ml0 j hjM)
      rw [hx.out] at hr
      dsimp only at hr
      obtain ⟨wa, hwa⟩ : ∃ W, wr.alloc (.cells #[.int .i64 x0, .int .i64 x1, .string x2] 62) = W := ⟨_, rfl⟩
      have AA : Below wr.heap.size wr wa := by rw [← hwa]; exact (Below.refl _ _).alloc (Nat.le_refl _) _
      have XA : Box wa wr.heap.size [.int .i64 x0, .int .i64 x1, .string x2] := by rw [← hwa]; exact Box.new rfl
      obtain ⟨z0, _⟩ := XA 0 _ rfl
      obtain ⟨z1, _⟩ := XA 1 _ rfl
      obtain ⟨z2, _⟩ := XA 2 _ rfl
      have HXA : Hid (Box wa wr.heap.size [.int .i64 x0, .int .i64 x1, .string x2]) := XA
      have BA : Hid (Below w7.heap.size w7 wa) := hbr.out.trans (AA.mono hbr.out.size)
      have OA : Hid (wa.ownsRow w7.heap.size 3 1 (.slice av g' vc) g' (cellsI (goI (Ms.take j)))) := own_below hog.out AA
      cases hbb : delB (x0, x1, x2) with
      | false =>
        obtain ⟨_, k2⟩ := ex_miss (L := L) (u := x) (f := y) hjM (by rw [hx.out]; exact hbb)
        have CDD := deletedI x0 x1 x2 hr.1 hr.2 wa false hbb
        have HLE : Hid ((goI (Ms.take (j + 1))).length = g' ∧ goI (Ms.take (j + 1)) = goI (Ms.take j)) := ⟨by rw [k2]; exact hlen.out, k2⟩
        clear hx hr AA XA hbb k2 hog hlen
        go_wp2_with fail
        refine CDD.mono ?_
        rintro e w8 ⟨rfl, hb8⟩
        have B8 : Hid (Below w7.heap.size w7 w8) := BA.out.trans (hb8.mono BA.out.size)
        have O8 : Hid (w8.ownsRow w7.heap.size 3 1 (.slice av g' vc) g' (cellsI (goI (Ms.take (j + 1))))) := by
          show World.ownsRow _ _ _ _ _ _ _
          rw [HLE.out.2]
          exact own_below OA.out hb8
        clear CDD hb8 OA BA HXA z0 z1 z2 m0 m1 m2 hwa
        go_wp2_with fail
        exact ⟨⟨j + 1, g', _, _, by omega, hg', rfl, by go_num, HLE.out.1, O8.out, B8.out⟩, by simp [RowKit.intOf]; omega⟩
      | true =>
        obtain ⟨_, k2⟩ := ex_hit (L := L) (u := x) (f := y) hjM (by rw [hx.out]; exact hbb)
        rw [hx.out] at k2
        dsimp only at k2
        have CDD := deletedI x0 x1 x2 hr.1 hr.2 wa true hbb
        have HU : Hid (cellsI (goI (Ms.take j)) ++ cellsI [x0] = cellsI (goI (Ms.take (j + 1)))) := by
          show _ = _
          rw [k2, cellsI_append]
        have HLE : Hid ((goI (Ms.take (j + 1))).length = g' + 1) := by
          show _ = _
          rw [k2, List.length_append, hlen.out]
          rfl
        have hg9 : g' + 1 ≤ ml := by
          have h9 := go_len Ms (j + 1)
          rw [HLE.out, HML.out] at h9
          exact h9
        clear hx hr AA XA hbb k2 hog hlen
        go_wp2_with fail
        refine CDD.mono ?_
        rintro e w8 ⟨rfl, hb8⟩
        have B8 : Hid (Below w7.heap.size w7 w8) := BA.out.trans (hb8.mono BA.out.size)
        have O8 : Hid (w8.ownsRow w7.heap.size 3 1 (.slice av g' vc) g' (cellsI (goI (Ms.take j)))) := own_below OA.out hb8
        have X8 : Hid (Box w8 wr.heap.size [.int .i64 x0, .int .i64 x1, .string x2]) := HXA.out.below hb8
        obtain ⟨z80, _⟩ := X8.out 0 _ rfl
        clear CDD hb8 OA BA HXA z0 z1 z2 m0 m1 m2 hwa
        go_wp2_with (at_builtin; refine wpList_append_src _ rfl _ _ 31 rfl w7.heap.size 3 (.int .i64 0) 1 8 Tryz.underlying31 infoI rfl (by decide) (by decide) (.slice av g' vc) g' (cellsI (goI (Ms.take j))) rfl (O8.out.alloc _) (some ⟨w8.heap.size, 0, none⟩) 1 1 (cellsI [x0]) rfl rfl (src_oneI rfl) (cellsI_one _) (by omega) (by have := B8.out.size; simp; omega) ?_)
        intro v' w9 hown hgrow
        obtain ⟨a9, d9, rfl, _, _⟩ := own_src hown
        have B9 : Hid (Below w7.heap.size w7 w9) := (B8.out.alloc B8.out.size _).grown hgrow (le_alloc B8.out.size _) (fun g e => (O8.out.lt g e).1)
        have O9 : Hid (w9.ownsRow w7.heap.size 3 1 (.slice a9 (g' + 1) d9) (g' + 1) (cellsI (goI (Ms.take (j + 1))))) := own_congr hown HU.out
        clear hown hgrow O8 B8 X8 z80
        go_wp2_with fail
        exact ⟨⟨j + 1, g' + 1, _, _, by omega, hg9, rfl, by go_num, HLE.out, O9.out, B9.out⟩, by simp [RowKit.intOf]; omega⟩
    · obtain rfl : j = ml := by omega
      have hlti : ¬ (j : Int) < (j : Int) := by omega
      have e8 : Ms.take j = Ms := List.take_of_length_le (by rw [HML.out]; exact Nat.le_refl _)
      have OGr : Hid (wr.ownsRow w7.heap.size 3 1 (.slice av g' vc) g' (cellsI G) ∧ G.length = g') := by
        have h7 := hog.out
        have h6 := hlen.out
        rw [e8, HYY.out.2.2.2.2.1] at h7 h6
        exact ⟨h7, h6⟩
      have B5r : Hid (Below w5.heap.size w5 wr) := B57.out.trans (hbr.out.mono B57.out.size)
      have Br : Hid (Below w.heap.size w wr) := B7.out.trans (hbr.out.mono B7.out.size)
      have Xr : Hid (Box wr w6.heap.size [.string y, .int .i64 gv, .int .i64 gx, .slice ax j cx]) := X7.out.below hbr.out
      have Dr : DeskAt wr M ⟨a, n, c, va, S.aside, nx, x, S.word, X⟩ := HD5.out.later B5r.out
      have Or : wr.ownsRow (M + 2) 62 3 (.slice ax j cx) j (cellsMl Ms) := own_below HRW.out.1 B5r.out
      obtain ⟨kq, hkq⟩ : ∃ t, (keepM Ms).length = t := ⟨_, rfl⟩
      have hkl : kq ≤ j := by
        rw [← hkq, ← HML.out]
        exact List.length_filter_le _ _
      have CDL := deleteG ax j cx (M + 2) Ms HML.out y7 HM6.out wr Or kq hkq
      have HKQ : Hid ((keepM Ms).length = kq) := hkq
      have HDr : Hid (DeskAt wr M ⟨a, n, c, va, S.aside, nx, x, S.word, X⟩ ∧ wr.ownsRow (M + 2) 62 3 (.slice ax j cx) j (cellsMl Ms)) := ⟨Dr, Or⟩
      obtain ⟨xr3, _⟩ := Xr.out 3 _ rfl
      clear hog hlen e8 hkq Dr Or X7 B57 HSM hbr
      go_wp2_with fail
      refine CDL.mono ?_
      rintro e wd ⟨rfl, hod, hgd⟩
      obtain ⟨ro, hro⟩ : ∃ t, Value.ownBlock (.slice ax j cx) = t := ⟨_, rfl⟩
      rw [hro] at hgd
      have hrlo : ∀ b, ro = some b → M + 2 ≤ b ∧ b < w5.heap.size := fun b hb => by
        rw [← hro] at hb
        exact ⟨(HRW.out.1.lt b hb).1, (HRW.out.1.lt b hb).2⟩
      have boxg : ∀ {P : Nat} {vs : List Value}, Box wr P vs → ro ≠ some P → Box wd P vs := fun {P vs} h9 hne i v hv => by
        obtain ⟨h1, h2⟩ := h9 i v hv
        have hlt9 : P < wr.heap.size := World.block_lt_of_cell? _ _ h1
        have hb9 := hgd.block P hlt9 (fun e => hne e.symm)
        exact ⟨(World.cell?_of_block (a := ⟨P, i, none⟩) hb9).trans h1, (World.frozen?_of_block (a := ⟨P, i, none⟩) hb9).trans h2⟩
      have Xd : Box wd w6.heap.size [.string y, .int .i64 gv, .int .i64 gx, .slice ax j cx] := boxg Xr.out (fun e => by have h9 := hrlo _ e; have h8 := Z7.out.1; omega)
      have Xd2 := Xd.set 3 (.slice ax kq cx)
      obtain ⟨p3, pf3⟩ := Xd 3 _ rfl
      obtain ⟨r0, _⟩ := Xd2 0 _ rfl
      obtain ⟨r1, _⟩ := Xd2 1 _ rfl
      obtain ⟨r2, _⟩ := Xd2 2 _ rfl
      obtain ⟨r3, _⟩ := Xd2 3 _ rfl
      obtain ⟨W8, hW8⟩ : ∃ W, wd.setCell ⟨w6.heap.size, 3, none⟩ (.slice ax kq cx) = W := ⟨_, rfl⟩
      have hM6 : M + 2 ≤ w6.heap.size := by have h9 := Z7.out.1; omega
      have hlo6 : ∀ {v : Value} {b : Nat}, (∀ t, v.ownBlock = some t → t < w5.heap.size) → v.ownBlock ≠ some w6.heap.size := fun {v b} h9 h7 => by
        have h6 := h9 _ h7
        have h5 := Z7.out.1
        omega
      obtain ⟨d1, ⟨cl, d2⟩, d3, d4⟩ := HDr.out.1
      have hlt5 : ∀ z ∈ X, ∀ b, z.v.ownBlock = some b → b < w5.heap.size := fun z hz b hb => (HD5.out.2.2.2.1 z hz).lt b hb |>.2
      have hva5 : ∀ b, va.ownBlock = some b → b < w5.heap.size := fun b hb => (HD5.out.2.2.1.lt b hb).2
      have O8d : wd.ownsRow (M + 2) 62 3 (.slice ax kq cx) kq (cellsMl (keepM Ms)) := hod
      have D8 : DeskH W8 M ⟨a, n, c, va, S.aside, nx, x, S.word, X⟩ := by
        rw [← hW8]
        refine ⟨(boxg d1 (fun e => by have h9 := hrlo _ e; omega)).other _ (by show M + 1 ≠ w6.heap.size; omega) _, ⟨cl, MapIs.setCell ⟨?_, d2.2⟩ _ _ (by show M ≠ w6.heap.size; omega)⟩, own_setOther (own_grown d3 hgd (fun b hb e => by
          rw [← hro] at e
          exact own_ne d3 HDr.out.2 (by decide) b hb e)) (hlo6 (b := 0) hva5) _⟩
        have h9 : M < wr.heap.size := (Array.getElem?_eq_some_iff.1 d2.1).1
        exact (hgd.block M h9 (fun e => by have h8 := hrlo _ e.symm; omega)).trans d2.1
      have hKN : (X.map (·.k)).Nodup := by
        rw [HVN.out.1.keys]
        exact nodup_keys HVN.out.2.1
      have hap2 : ∀ z ∈ X, z.k ≠ folderK x y → ∀ b, z.v.ownBlock = some b → Value.ownBlock (.slice ax kq cx) ≠ some b := fun z hz hzk b hb => by
        have h9 := HRW.out.2 z hz hzk b hb
        cases ax with
        | none => intro e; cases e
        | some ad => exact h9
      have hoB : ∀ b, Value.ownBlock (.slice ax kq cx) = some b → b < w5.heap.size := fun b hb => by
        have h9 : Value.ownBlock (.slice ax j cx) = some b := by
          cases ax with
          | none => cases hb
          | some ad => exact hb
        exact (HRW.out.1.lt b h9).2
      have R8 : ∀ clock, Rows W8 M (setX ⟨folderK x y, 0, y, gv, gx, .slice ax kq cx, keepM Ms⟩ clock X) := fun clock => by
        refine rows_set' (fun z hz hzk => ?_) d4.2 ?_ hKN hap2 clock
        · rw [← hW8]
          refine own_setOther (own_grown (d4.1 z hz) hgd (fun b hb e => ?_)) (hlo6 (b := 0) (hlt5 z hz)) _
          rw [← hro] at e
          exact HRW.out.2 z hz hzk b hb e
        · show World.ownsRow _ _ _ _ _ (keepM Ms).length _
          rw [HKQ.out, ← hW8]
          exact own_setOther O8d (hlo6 (b := 0) hoB) _
      have OG8 : W8.ownsRow (M + 2) 3 1 (.slice av g' vc) g' (cellsI G) := by
        rw [← hW8]
        refine own_mono (own_setOther (own_grown OGr.out.1 hgd (fun b hb e => ?_)) (fun h9 => ?_) _) (show M + 2 ≤ w7.heap.size by have h9 := Z7.out; omega)
        · rw [← hro] at e
          exact own_ne OGr.out.1 HDr.out.2 (by decide) b hb e
        · have h7 := (OGr.out.1.lt _ h9).1
          have h6 := Z7.out.2
          dsimp only at h7
          omega
      have B8 : Below w.heap.size w W8 := by
        rw [← hW8]
        refine (Br.out.trans ⟨hgd.os, hgd.tape, hgd.output, hgd.size, fun b hb => ?_⟩).setCell (by show w.heap.size ≤ w6.heap.size; omega) _
        refine hgd.block b ?_ (fun e => ?_)
        · have h9 := Br.out.size
          omega
        · have h8 := hrlo _ e.symm
          omega
      have CP := putX ⟨folderK x y, 0, y, gv, gx, .slice ax kq cx, keepM Ms⟩ y gv gx ax kq cx W8 M ⟨a, n, c, va, S.aside, nx, x, S.word, X⟩ rfl (by omega) (by show x.size ≤ 1048576; omega) D8 R8
      have H8 : Hid (W8.ownsRow (M + 2) 3 1 (.slice av g' vc) g' (cellsI G) ∧ Below w.heap.size w W8) := ⟨OG8, B8⟩
      rw [hW8] at r0 r1 r2 r3
      clear hod hgd hro hrlo boxg Xd Xd2 hlo6 d1 d2 d3 d4 hlt5 hva5 O8d D8 hKN hap2 hoB R8 OG8 B8 CDL xr3
      go_wp2_with fail
      refine CP.mono ?_
      rintro e w9 ⟨rfl, ⟨clock, hd9⟩, hb9, ho9, _, _⟩
      have hv9 := HVN.out.1.put (y := ⟨folderK x y, 0, y, gv, gx, .slice ax kq cx, keepM Ms⟩) rfl clock
      have B9 : Hid (Below w.heap.size w w9) := H8.out.2.trans (hb9.mono hM2)
      have OG9 : Hid (w9.ownsRow w.heap.size 3 1 (.slice av g' vc) g' (cellsI G)) := own_mono (ho9 _ _ _ _ _ H8.out.1) (by omega)
      have hst9 : StAt w9 M a n c nx x (exS S g) n := by
        rw [HYY.out.2.2.2.2.2.2]
        exact st_putG hd9 hv9 HVN.out.2.1 HVN.out.2.2.1 ⟨HGB.out.1, HGB.out.2.1, by show (keepM Ms).length ≤ n; rw [HKQ.out]; have := HGB.out.2.2; omega⟩ HVN.out.2.2.2
      have CPP := pairsI w9 M a n c nx x (exS S g) n hst9 (by omega) (by omega) n2 HYY.out.2.2.2.1 (by omega) (HG.out.below h8 B9.out) (by omega) R HYY.out.1 HYY.out.2.1 _ rfl (by have := HYY.out.2.2.1; omega)
      clear CP hd9 hb9 ho9 hv9 hst9 p3 pf3 r0 r1 r2 r3 hW8 H8
      go_wp2_with fail
      refine CPP.mono ?_
      rintro e wp ⟨gp, cp, rfl, hop, hbp⟩
      have HF : Hid (wp.ownsRow w.heap.size 47 2 (.slice (some ⟨gp, 0, none⟩) R.length cp) R.length (cellsP R) ∧ wp.ownsRow w.heap.size 3 1 (.slice av g' vc) G.length (cellsI G) ∧ Below w.heap.size w wp) := ⟨own_mono hop B9.out.size, by rw [OGr.out.2]; exact own_below OG9.out hbp, B9.out.trans (hbp.mono B9.out.size)⟩
      have HQ0 : Hid (0 = Q) := HYY.out.2.2.2.2.2.1
      clear CPP hop hbp
      go_wp2_with fail
      exact bodyPost_ret (v := .tuple #[.slice (some ⟨gp, 0, none⟩) R.length cp, .slice av g' vc, .int .i64 0]) (by simp [results, Tryz.results15, go_sem]) rfl ⟨_, _, by rw [HQ0.out], HF.out⟩
end Go.Proofs.YtbpgncgmolpkiaaGreatDoor
namespace Go.Proofs.YtbpgncgmolpkiaaGreatDoor
open Go.ChangeShapes Go.WideShapes Go.ChangeAt Go.RowKit Go.Deep Go.Lib
set_option linter.unusedVariables false
theorem specExpungeFolderL (a : Option Addr) (n c : Nat) (L : List PM) (x y : ByteArray) (w : World) (hL : L.length = n) (hn : n ≤ 1048576) (hs : ∀ x ∈ L, x.1.size ≤ 1048576 ∧ x.2.size ≤ 1048576) (hx : x.size ≤ 1048576) (hy : y.size ≤ 1048576) (h : Src w a (cellsP L)) :
    Calls Tryz.prog 14 #[.slice a n c, .string x, .string y] w fun e w' => ∃ v1 v2 R G q, e = .returned (.tuple #[v1, v2, .int .i64 q]) ∧ eR L x y = (R, G, q) ∧ w'.ownsRow w.heap.size 47 2 v1 R.length (cellsP R) ∧ w'.ownsRow w.heap.size 3 1 v2 G.length (cellsI G) ∧ Below w.heap.size w w' :=
  (specExpungeFolder a n c L x y w hL hn hs h hx hy _ _ _ rfl).mono fun e w' ⟨v1, v2, h1, h2, h3, h4⟩ => ⟨v1, v2, _, _, _, h1, rfl, h2, h3, h4⟩
theorem implExpungeFolderL (a : Option Addr) (n c : Nat) (L : List PM) (x y : ByteArray) (w : World) (hL : L.length = n) (hn : n ≤ 1048576) (hs : ∀ x ∈ L, x.1.size ≤ 1048576 ∧ x.2.size ≤ 1048576) (hx : x.size ≤ 1048576) (hy : y.size ≤ 1048576) (hG : Gl w) (h8 : 8 ≤ w.heap.size) (h : Src w a (cellsP L)) :
    Calls Tryz.prog 15 #[.slice a n c, .string x, .string y] w fun e w' => ∃ v1 v2 R G q, e = .returned (.tuple #[v1, v2, .int .i64 q]) ∧ eR L x y = (R, G, q) ∧ w'.ownsRow w.heap.size 47 2 v1 R.length (cellsP R) ∧ w'.ownsRow w.heap.size 3 1 v2 G.length (cellsI G) ∧ Below w.heap.size w w' :=
  (implExpungeFolder a n c L x y w hL hn hs h hx hy hG h8 _ _ _ rfl).mono fun e w' ⟨v1, v2, h1, h2, h3, h4⟩ => ⟨v1, v2, _, _, _, h1, rfl, h2, h3, h4⟩
theorem eR_small {L R : List PM} {G : List Int} {x y : ByteArray} {q : Int} (h : eR L x y = (R, G, q)) : R.length ≤ 1048576 ∧ G.length ≤ 1048576 := by
  by_cases h0 : askM L [x, y] = 0
  · obtain ⟨hst, hsx, hsy⟩ := ask_zero2 h0
    have h1 := eR_good h h0
    have h60 := (store_facts hst).1.1
    have h2 := exR_len h1 h60
    refine ⟨by omega, ?_⟩
    unfold exR at h1
    split at h1
    · cases h1; simp
    · rename_i hk
      have hk0 : knownR L x y = 0 := by simpa using hk
      have hus := word_slash hsx
      have hfs := word_slash hsy
      obtain ⟨S, hS, _, _⟩ := take_all hst hus
      obtain ⟨hw, g, hl⟩ := known_zero hst hus hfs hS hk0
      rw [rnF_is hS hl] at h1
      cases h1
      have h9 := (store_sub hst hS g (lookF_mem hl).1).length_le
      rw [List.length_map] at h9
      have h8 := go_len g.mails g.mails.length
      rw [List.take_of_length_le (Nat.le_refl _)] at h8
      omega
  · obtain ⟨rfl, rfl, _⟩ := eR_bad h rfl h0
    simp
end Go.Proofs.YtbpgncgmolpkiaaGreatDoor
