/-
  Cpx Pux Rsp Rnf in one. By an AI agent.
-/
import Derived.Test.YthgbclipknfmjaaGreatDoorFr29
import Derived.Test.YthgbclipknfmjaaGreatDoorFr20
import Derived.Test.YthgbclipknfmjaaGreatDoorFr24
import Derived.Test.YthgbclipknfmjaaGreatDoorFr23
namespace Go.Proofs.YthgbclipknfmjaaGreatDoor
open Go.ChangeShapes Go.WideShapes Go.ChangeAt Go.RowKit Go.Deep Go.Lib
set_option linter.unusedVariables false
set_option linter.unusedSimpArgs false
set_option maxRecDepth 100000

/-- Validities rise where each folder is as it was, or is of a fresh validity. -/
theorem left_rises {N Y : List PM} {u : ByteArray} {S S' : SM} (hD : DeskS N u S) (hL : LeftS N Y u S S') (hn : nextM N ≤ nextM Y) (hall : ∀ g ∈ S'.fs, nextM N ≤ g.val ∨ ∃ m, metaM N u g.name = some (g.val, m) ∧ m ≤ g.next) : RiseP N Y := by
  have hus := word_slash hL.fit.us
  refine ⟨hD.st, hL.st, hn, fun p hp v f hv hf e => ?_⟩
  rcases desk_mem hL.pm hp with h8 | h8 | h8 | ⟨g', hg', h8 | ⟨m2, hm2, h8⟩⟩
  · rw [h8] at e
    exact absurd e.symm (folder_nv v f)
  · rw [h8] at e
    have h6 := congrArg (fun x : ByteArray => x.data.toList) e
    simp only [userK_data, folderK_data] at h6
    cases h6
  · rw [hL.asd] at h8
    obtain ⟨k1, k2⟩ := (aside_is hD.tk _ (notK_sub h8).2).1 h8
    have ha := store_pair hD.st k1 (notK_sub h8).2
    rw [e, split_folder hv hf] at ha
    obtain ⟨_, ha2⟩ := ha
    have ha3 : (shortB (bs f.data.toList) && (getM N (userK (bs v.data.toList))).isSome && foldB (nextM N) p.2 (metaM N (bs v.data.toList) (bs f.data.toList))) = true := ha2
    rw [data_bs, data_bs, Bool.and_eq_true] at ha3
    cases hm : metaM N v f with
    | none =>
      rw [hm] at ha3
      exact absurd (show false = true from ha3.2) (by decide)
    | some y =>
      obtain ⟨x, n⟩ := y
      obtain ⟨w, j1, j2⟩ := (meta_iff (store_facts hD.st).1.2.2).1 hm
      have hgv := (getM_mem (store_facts hD.st).1.2.2).2 j1
      have hpv : (folderK v f, p.2) ∈ N := by rw [← e]; exact k1
      have hgv2 := (getM_mem (store_facts hD.st).1.2.2).2 hpv
      rw [hgv] at hgv2
      have hw9 : w = p.2 := Option.some.inj hgv2
      refine ⟨x, n, (meta_iff hL.up).2 ⟨p.2, by rw [← e]; exact hp, by rw [← hw9]; exact j2⟩, .inr ⟨n, rfl, Int.le_refl _⟩⟩
  · rw [h8] at e
    have h6 := congrArg (fun x : ByteArray => x.data.toList) (show folderK u g'.name = folderK v f from e)
    simp only [folderK_data] at h6
    have hs := seg_inj hus hv (List.cons.inj (List.cons.inj h6).2).2
    obtain rfl : u = v := bs_inj hs.1
    obtain rfl : g'.name = f := bs_inj hs.2
    exact ⟨g'.val, g'.next, desk_folder hL.up hL.pm hg' (hL.fit.fs g' hg'), hall g' hg'⟩
  · rw [h8] at e
    unfold mailP at e
    have h6 := congrArg (fun x : ByteArray => x.data.toList) e
    simp only [mailK_data', folderK_data] at h6
    cases h6
end Go.Proofs.YthgbclipknfmjaaGreatDoor
namespace Go.Proofs.YthgbclipknfmjaaGreatDoor
open Go.ChangeShapes Go.WideShapes Go.ChangeAt Go.RowKit Go.Deep Go.Lib
open Go.ChangeMaps (setBlock)
set_option linter.unusedVariables false
set_option linter.unusedSimpArgs false
set_option maxRecDepth 100000

/-- A block's kind. -/
def KindAt (w : World) (B t : Nat) : Prop := ∃ c f, w.heap[B]? = some (.cells c t f)
theorem kind_set {w : World} {B t : Nat} (h : KindAt w B t) (a : Addr) (v : Value) : KindAt (w.setCell a v) B t := by
  obtain ⟨c, f, h⟩ := h
  by_cases e : B = a.block
  · subst e
    refine ⟨if a.spot.isSome then c else c.setIfInBounds a.off v, f, ?_⟩
    show (w.heap.modify a.block _)[a.block]? = _
    rw [Array.getElem?_modify, if_pos rfl, h]
    rfl
  · exact ⟨c, f, (Below.heap_setCell _ _ _ _ e).trans h⟩
theorem kind_below {w w' : World} {B t : Nat} (h : KindAt w B t) (hb : Below w.heap.size w w') : KindAt w' B t := by
  obtain ⟨c, f, h⟩ := h
  have h1 : B < w.heap.size := by
    rcases Nat.lt_or_ge B w.heap.size with h1 | h1
    · exact h1
    · rw [Array.getElem?_eq_none h1] at h
      cases h
  exact ⟨c, f, (hb.block B h1).trans h⟩
/-- All but a desk's own two blocks stays. -/
def Keep (M : Nat) (w w' : World) : Prop := ∀ B, B < w.heap.size → B ≠ M → B ≠ M + 1 → w'.heap[B]? = w.heap[B]?
theorem Keep.of_below {M : Nat} {w w' : World} (h : Below w.heap.size w w') : Keep M w w' := fun B hB _ _ => h.block B hB
theorem Keep.trans {M : Nat} {a b c : World} (h : Keep M a b) (hs : a.heap.size ≤ b.heap.size) (k : Keep M b c) : Keep M a c := fun B hB h1 h2 => (k B (by omega) h1 h2).trans (h B hB h1 h2)
theorem Keep.next {M : Nat} {a b c : World} (h : Keep M a b) (hs : a.heap.size ≤ b.heap.size) (hb : Below b.heap.size b c) : Keep M a c := h.trans hs (Keep.of_below hb)
theorem Keep.setCell {M : Nat} {a b : World} (h : Keep M a b) (p : Addr) (hp : a.heap.size ≤ p.block) (v : Value) : Keep M a (b.setCell p v) := fun B hB h1 h2 => (Below.heap_setCell _ _ _ _ (by omega)).trans (h B hB h1 h2)
set_option maxHeartbeats 2000000 in
theorem putX (y : FX) (nm : ByteArray) (vl nx : Int) (ay : Option Addr) (ny cy : Nat) (w : World) (M : Nat) (D : DK) (hy : y = ⟨folderK D.user nm, 0, nm, vl, nx, .slice ay ny cy, y.mails⟩) (hf : nm.size ≤ 1048576) (hu : D.user.size ≤ 1048576) (hD : DeskH w M D) (hR : ∀ clock, Rows w M (setX y clock D.X)) :
    Calls Tryz.prog 43 #[.pointer (some ⟨M + 1, 0, none⟩), .agg #[.string nm, .int .i64 vl, .int .i64 nx, .slice ay ny cy]] w fun e w' => e = .returned (.tuple #[]) ∧ (∃ clock, DeskAt w' M { D with X := setX y clock D.X }) ∧ Below M w w' ∧ (∀ t s v n xs, w.ownsRow (M + 2) t s v n xs → w'.ownsRow (M + 2) t s v n xs) ∧ (∀ B vs, B ≠ M → Box w B vs → Box w' B vs) ∧ (∀ B t, B ≠ M → KindAt w B t → KindAt w' B t) ∧ Keep M w w' := by
  have HD : Hid (DeskH w M D) := hD
  obtain ⟨hbox, ⟨clock, hmap⟩, hasd⟩ := hD
  have AL : Below w.heap.size w (w.alloc (.cells #[.string nm, .int .i64 vl, .int .i64 nx, .slice ay ny cy] 28)) := (Below.refl _ _).alloc (Nat.le_refl _) _
  have HAL : Hid (Below w.heap.size w (w.alloc (.cells #[.string nm, .int .i64 vl, .int .i64 nx, .slice ay ny cy] 28))) := AL
  have D1 := HD.out.later AL
  have hlt : M < w.heap.size := (Array.getElem?_eq_some_iff.1 hmap.1).1
  have hlt1 : M + 1 < w.heap.size := World.block_lt_of_cell? _ _ (hbox 0 _ rfl).1
  have HLT : Hid (M < w.heap.size ∧ M + 1 < w.heap.size) := ⟨hlt, hlt1⟩
  obtain ⟨b1, _, a1⟩ := D1
  have m1 := (hmap.later AL)
  have Y0 : Box (w.alloc (.cells #[.string nm, .int .i64 vl, .int .i64 nx, .slice ay ny cy] 28)) w.heap.size [.string nm, .int .i64 vl, .int .i64 nx, .slice ay ny cy] := Box.new rfl
  obtain ⟨p3, _⟩ := b1 3 _ rfl
  obtain ⟨p5, _⟩ := b1 5 _ rfl
  obtain ⟨q0, _⟩ := Y0 0 _ rfl
  obtain ⟨q1, _⟩ := Y0 1 _ rfl
  obtain ⟨q2, _⟩ := Y0 2 _ rfl
  obtain ⟨q3, _⟩ := Y0 3 _ rfl
  obtain ⟨cl, hup, hmi⟩ := run_put (w := (w.alloc (.cells #[.string nm, .int .i64 vl, .int .i64 nx, .slice ay ny cy] 28)).drew) (M := M) (clock := clock) (X := D.X) m1 y
  have hyk : y.k = folderK D.user nm := by rw [hy]
  have hyv : valX y = .agg #[.string nm, .int .i64 vl, .int .i64 nx, .slice ay ny cy] := by rw [hy]
  rw [hyk, hyv] at hup
  obtain ⟨O, hO⟩ : ∃ O, (.map ((setX y clock D.X).map entX).toArray cl : Obj) = O := ⟨_, rfl⟩
  rw [hO] at hup hmi
  obtain ⟨K9, hK9⟩ : ∃ K, folderK D.user nm = K := ⟨_, rfl⟩
  have CK := fun W => folderKeyI D.user nm W hu hf
  rw [hK9] at hup
  simp only [hK9] at CK
  have HF : Hid (DeskAt (setBlock (w.alloc (.cells #[.string nm, .int .i64 vl, .int .i64 nx, .slice ay ny cy] 28)).drew M O) M { D with X := setX y clock D.X }) :=
    ⟨box_sb b1 O (by omega), ⟨cl, hmi⟩, own_sb a1 O (by omega), fun x hx => own_sb (own_below ((hR clock).1 x hx) AL) O (by omega), (hR clock).2⟩
  have HB : Hid (Below M w (setBlock (w.alloc (.cells #[.string nm, .int .i64 vl, .int .i64 nx, .slice ay ny cy] 28)).drew M O)) := (AL.mono (Nat.le_of_lt hlt)).drew.trans (sb_below _ M O)
  have HOW : Hid ((∀ t s v n xs, w.ownsRow (M + 2) t s v n xs → (setBlock (w.alloc (.cells #[.string nm, .int .i64 vl, .int .i64 nx, .slice ay ny cy] 28)).drew M O).ownsRow (M + 2) t s v n xs) ∧ (∀ B vs, B ≠ M → Box w B vs → Box (setBlock (w.alloc (.cells #[.string nm, .int .i64 vl, .int .i64 nx, .slice ay ny cy] 28)).drew M O) B vs) ∧ (∀ B t, B ≠ M → KindAt w B t → KindAt (setBlock (w.alloc (.cells #[.string nm, .int .i64 vl, .int .i64 nx, .slice ay ny cy] 28)).drew M O) B t) ∧ Keep M w (setBlock (w.alloc (.cells #[.string nm, .int .i64 vl, .int .i64 nx, .slice ay ny cy] 28)).drew M O)) := ⟨fun t s v n xs h9 => own_sb (own_below h9 AL) O (by omega), fun B vs h9 h8 => box_sb (M := M) (h8.below AL) O h9, fun B t h9 h8 => by
    obtain ⟨c1, f1, k1⟩ := kind_below h8 AL
    exact ⟨c1, f1, (sb_block _ M B O h9).trans k1⟩, fun B hB h9 _ => (sb_block _ M B O h9).trans (AL.block B hB)⟩
  have HS : Hid ((setBlock (w.alloc (.cells #[.string nm, .int .i64 vl, .int .i64 nx, .slice ay ny cy] 28)).drew M O).cell? ⟨M + 1, 3, none⟩ = some (.string D.user) ∧ (setBlock (w.alloc (.cells #[.string nm, .int .i64 vl, .int .i64 nx, .slice ay ny cy] 28)).drew M O).cell? ⟨M + 1, 5, none⟩ = some (.map (some M)) ∧ (setBlock (w.alloc (.cells #[.string nm, .int .i64 vl, .int .i64 nx, .slice ay ny cy] 28)).drew M O).cell? ⟨w.heap.size, 0, none⟩ = some (.string nm) ∧ (setBlock (w.alloc (.cells #[.string nm, .int .i64 vl, .int .i64 nx, .slice ay ny cy] 28)).drew M O).cell? ⟨w.heap.size, 1, none⟩ = some (.int .i64 vl) ∧ (setBlock (w.alloc (.cells #[.string nm, .int .i64 vl, .int .i64 nx, .slice ay ny cy] 28)).drew M O).cell? ⟨w.heap.size, 2, none⟩ = some (.int .i64 nx) ∧ (setBlock (w.alloc (.cells #[.string nm, .int .i64 vl, .int .i64 nx, .slice ay ny cy] 28)).drew M O).cell? ⟨w.heap.size, 3, none⟩ = some (.slice ay ny cy)) := by
    have hx := box_sb (M := M) b1 O (by omega)
    have hz := box_sb (M := M) Y0 O (by omega)
    exact ⟨(hx 3 _ rfl).1, (hx 5 _ rfl).1, (hz 0 _ rfl).1, (hz 1 _ rfl).1, (hz 2 _ rfl).1, (hz 3 _ rfl).1⟩
  clear hbox hmap hasd AL b1 a1 m1 Y0 hmi hyk hyv hy hR hO hK9 HD
  go_enter Tryz.func43, Tryz.ntmps43
  go_wp2_with fail
  refine wp_region_noPanic ?_
  refine wp_region_held_drew (S := fun w' => w'.cell? ⟨M + 1, 3, none⟩ = some (.string D.user) ∧ w'.cell? ⟨M + 1, 5, none⟩ = some (.map (some M)) ∧ w'.cell? ⟨w.heap.size, 0, none⟩ = some (.string nm) ∧ w'.cell? ⟨w.heap.size, 1, none⟩ = some (.int .i64 vl) ∧ w'.cell? ⟨w.heap.size, 2, none⟩ = some (.int .i64 nx) ∧ w'.cell? ⟨w.heap.size, 3, none⟩ = some (.slice ay ny cy)) (by kernel_rfl) ⟨p3, p5, q0, q1, q2, q3⟩ (fun hHeld => ?_)
  refine tkA (i := 0) (v := .pointer (some ⟨M + 1, 0, none⟩)) ?_ hHeld ?_
  · intro w9 hSw
    obtain ⟨z0, z1, z2, z3, z4, z5⟩ := hSw
    go_simp
  simp only [Act.put, List.setIfInBounds_toArray, List.set_cons_zero, List.set_cons_succ]
  refine tkA (i := 1) (v := .pointer (some ⟨M + 1, 0, none⟩)) ?_ hHeld ?_
  · intro w9 hSw
    obtain ⟨z0, z1, z2, z3, z4, z5⟩ := hSw
    go_simp
  simp only [Act.put, List.setIfInBounds_toArray, List.set_cons_zero, List.set_cons_succ]
  refine tkA (i := 2) (v := .pointer (some ⟨M + 1, 5, none⟩)) ?_ hHeld ?_
  · intro w9 hSw
    obtain ⟨z0, z1, z2, z3, z4, z5⟩ := hSw
    go_simp
  simp only [Act.put, List.setIfInBounds_toArray, List.set_cons_zero, List.set_cons_succ]
  refine tkA (i := 3) (v := .map (some M)) ?_ hHeld ?_
  · intro w9 hSw
    obtain ⟨z0, z1, z2, z3, z4, z5⟩ := hSw
    go_simp
  simp only [Act.put, List.setIfInBounds_toArray, List.set_cons_zero, List.set_cons_succ]
  refine tkA (i := 4) (v := .pointer (some ⟨M + 1, 0, none⟩)) ?_ hHeld ?_
  · intro w9 hSw
    obtain ⟨z0, z1, z2, z3, z4, z5⟩ := hSw
    go_simp
  simp only [Act.put, List.setIfInBounds_toArray, List.set_cons_zero, List.set_cons_succ]
  refine tkA (i := 5) (v := .pointer (some ⟨M + 1, 0, none⟩)) ?_ hHeld ?_
  · intro w9 hSw
    obtain ⟨z0, z1, z2, z3, z4, z5⟩ := hSw
    go_simp
  simp only [Act.put, List.setIfInBounds_toArray, List.set_cons_zero, List.set_cons_succ]
  refine tkA (i := 6) (v := .pointer (some ⟨M + 1, 3, none⟩)) ?_ hHeld ?_
  · intro w9 hSw
    obtain ⟨z0, z1, z2, z3, z4, z5⟩ := hSw
    go_simp
  simp only [Act.put, List.setIfInBounds_toArray, List.set_cons_zero, List.set_cons_succ]
  refine tkA (i := 7) (v := .string D.user) ?_ hHeld ?_
  · intro w9 hSw
    obtain ⟨z0, z1, z2, z3, z4, z5⟩ := hSw
    go_simp
  simp only [Act.put, List.setIfInBounds_toArray, List.set_cons_zero, List.set_cons_succ]
  refine tkA (i := 8) (v := .pointer (some ⟨w.heap.size, 0, none⟩)) ?_ hHeld ?_
  · intro w9 hSw
    obtain ⟨z0, z1, z2, z3, z4, z5⟩ := hSw
    go_simp
  simp only [Act.put, List.setIfInBounds_toArray, List.set_cons_zero, List.set_cons_succ]
  refine tkA (i := 9) (v := .string nm) ?_ hHeld ?_
  · intro w9 hSw
    obtain ⟨z0, z1, z2, z3, z4, z5⟩ := hSw
    go_simp
  simp only [Act.put, List.setIfInBounds_toArray, List.set_cons_zero, List.set_cons_succ]
  refine tkA (i := 11) (v := .agg #[.string nm, .int .i64 vl, .int .i64 nx, .slice ay ny cy]) ?_ hHeld ?_
  · intro w9 hSw
    obtain ⟨z0, z1, z2, z3, z4, z5⟩ := hSw
    go_simp
  simp only [Act.put, List.setIfInBounds_toArray, List.set_cons_zero, List.set_cons_succ]
  refine wpAnyH_ready (rs := [10]) (by kernel_rfl) (by simp) ?_
  refine AllReadyH.cons rfl (fun K hK => ?_) AllReadyH.nil
  go_simp
  refine (CK _).mono ?_
  rintro e w1 ⟨rfl, hw1⟩
  obtain rfl := hw1
  dsimp only
  refine hK _ _ ⟨p3, p5, q0, q1, q2, q3⟩ (fun hHeld => ?_)
  clear hK K
  refine wpAnyH_ready (rs := [12]) (by kernel_rfl) (by simp) ?_
  refine AllReadyH.cons rfl (fun K hK => ?_) AllReadyH.nil
  go_simp
  refine hK _ _ HS.out (fun hHeld => ?_)
  clear hK K
  refine wpAnyH_done (by kernel_rfl) ?_ _
  refine NoPanic.normal ?_
  clear hHeld
  go_wp2_with fail
  go_end0
  exact ⟨rfl, ⟨clock, HF.out⟩, HB.out, HOW.out⟩
set_option maxHeartbeats 2000000 in
theorem freshY (nm : ByteArray) (v0 nx0 : Int) (ax : Option Addr) (ml cx : Nat) (Ms : List MMl) (hMs : Ms.length = ml) (w : World) (M : Nat) (a : Option Addr) (n c : Nat) (va : Value) (sd : List PM) (nx : Int) (u wd : ByteArray) (X : List FX) (fs : List FM) (hD : DeskAt w M ⟨a, n, c, va, sd, nx, u, wd, X⟩) (hV : View u X fs) (hN : (fs.map (·.name)).Nodup) (hu : u.size ≤ 1000) (hnm : nm.size ≤ 1000) (hnx : 0 ≤ nx) (hnx1 : nx ≤ 10000)
    (hrow : w.ownsRow (M + 2) 37 3 (.slice ax ml cx) ml (cellsMl Ms)) (hap : ∀ z ∈ X, z.k ≠ folderK u nm → ∀ g, z.v.ownBlock = some g → Value.ownBlock (.slice ax ml cx) ≠ some g) :
    Calls Tryz.prog 139 #[.pointer (some ⟨M + 1, 0, none⟩), .agg #[.string nm, .int .i64 v0, .int .i64 nx0, .slice ax ml cx]] w fun e w' => Below M w w' ∧ (∀ t s v n xs, w.ownsRow (M + 2) t s v n xs → w'.ownsRow (M + 2) t s v n xs) ∧ (∀ B vs, B ≠ M → B ≠ M + 1 → Box w B vs → Box w' B vs) ∧ ((∀ B t, B ≠ M → KindAt w B t → KindAt w' B t) ∧ Keep M w w') ∧ ((9999 < nx ∧ e = .returned (.int .i64 6) ∧ DeskAt w' M ⟨a, n, c, va, sd, nx, u, wd, X⟩) ∨ (¬ 9999 < nx ∧ e = .returned (.int .i64 0) ∧ ∃ clock, DeskAt w' M ⟨a, n, c, va, sd, nx + 1, u, wd, setX ⟨folderK u nm, 0, nm, nx, nx0, .slice ax ml cx, Ms⟩ clock X⟩)) := by
  have hM1 : M + 1 < w.heap.size := World.block_lt_of_cell? _ _ (hD.1 0 _ rfl).1
  obtain ⟨c2, f2⟩ := hD.1 2 _ rfl
  have hKN : (X.map (·.k)).Nodup := by
    rw [hV.keys]
    exact nodup_keys hN
  by_cases hb : 9999 < nx
  · have HD : Hid (DeskAt (w.alloc (.cells #[.string nm, .int .i64 v0, .int .i64 nx0, .slice ax ml cx] 28)) M ⟨a, n, c, va, sd, nx, u, wd, X⟩) := hD.later ((Below.refl _ _).alloc (Nat.le_refl _) _)
    have HB : Hid (Below M w (w.alloc (.cells #[.string nm, .int .i64 v0, .int .i64 nx0, .slice ax ml cx] 28))) := (Below.refl _ _).alloc (by omega) _
    have HOW : Hid ((∀ t s v n xs, w.ownsRow (M + 2) t s v n xs → (w.alloc (.cells #[.string nm, .int .i64 v0, .int .i64 nx0, .slice ax ml cx] 28)).ownsRow (M + 2) t s v n xs) ∧ (∀ B vs, B ≠ M → B ≠ M + 1 → Box w B vs → Box (w.alloc (.cells #[.string nm, .int .i64 v0, .int .i64 nx0, .slice ax ml cx] 28)) B vs) ∧ (∀ B t, B ≠ M → KindAt w B t → KindAt (w.alloc (.cells #[.string nm, .int .i64 v0, .int .i64 nx0, .slice ax ml cx] 28)) B t) ∧ Keep M w (w.alloc (.cells #[.string nm, .int .i64 v0, .int .i64 nx0, .slice ax ml cx] 28))) := ⟨fun t s v n xs h9 => own_below h9 ((Below.refl _ _).alloc (Nat.le_refl _) _), fun B vs _ _ h8 => h8.below ((Below.refl _ _).alloc (Nat.le_refl _) _), fun B t _ h8 => kind_below h8 ((Below.refl _ _).alloc (Nat.le_refl _) _), Keep.of_below ((Below.refl _ _).alloc (Nat.le_refl _) _)⟩
    clear hD hV hN hrow hap hKN
    go_enter Tryz.func139, Tryz.ntmps139
    go_wp2_with fail
    go_ret
    exact ⟨HB.out, HOW.out.1, HOW.out.2.1, HOW.out.2.2, .inl ⟨rfl, HD.out⟩⟩
  · obtain ⟨w1, hw1⟩ : ∃ W, w.alloc (.cells #[.string nm, .int .i64 nx, .int .i64 nx0, .slice ax ml cx] 28) = W := ⟨_, rfl⟩
    have B1 : Below w.heap.size w w1 := by rw [← hw1]; exact (Below.refl _ _).alloc (Nat.le_refl _) _
    have D2 : DeskAt (w1.setCell ⟨M + 1, 2, none⟩ (.int .i64 (nx + 1))) M ⟨a, n, c, va, sd, nx + 1, u, wd, X⟩ := desk_set (hD.later B1) 2 (.int .i64 (nx + 1)) rfl rfl rfl rfl
    have X1 : Box w1 w.heap.size [.string nm, .int .i64 nx, .int .i64 nx0, .slice ax ml cx] := by rw [← hw1]; exact Box.new rfl
    have R2 : (w1.setCell ⟨M + 1, 2, none⟩ (.int .i64 (nx + 1))).ownsRow (M + 2) 37 3 (.slice ax ml cx) ml (cellsMl Ms) := own_setLow (own_below hrow B1) (by show M + 1 < M + 2; omega) _
    have HB2 : Hid (Below M w (w1.setCell ⟨M + 1, 2, none⟩ (.int .i64 (nx + 1)))) := (B1.mono (by omega)).setCell (by show M ≤ M + 1; omega) _
    have HOW2 : Hid ((∀ t s v n xs, w.ownsRow (M + 2) t s v n xs → (w1.setCell ⟨M + 1, 2, none⟩ (.int .i64 (nx + 1))).ownsRow (M + 2) t s v n xs) ∧ (∀ B vs, B ≠ M + 1 → Box w B vs → Box (w1.setCell ⟨M + 1, 2, none⟩ (.int .i64 (nx + 1))) B vs) ∧ (∀ B t, KindAt w B t → KindAt (w1.setCell ⟨M + 1, 2, none⟩ (.int .i64 (nx + 1))) B t) ∧ Keep M w (w1.setCell ⟨M + 1, 2, none⟩ (.int .i64 (nx + 1))) ∧ w.heap.size ≤ (w1.setCell ⟨M + 1, 2, none⟩ (.int .i64 (nx + 1))).heap.size) := ⟨fun t s v n xs h9 => own_setLow (own_below h9 B1) (by show M + 1 < M + 2; omega) _, fun B vs h9 h8 => (h8.below B1).other _ (by show B ≠ M + 1; exact h9) _, fun B t h8 => kind_set (kind_below h8 B1) _ _, fun B hB _ h2 => (Below.heap_setCell _ _ _ _ (by show B ≠ M + 1; exact h2)).trans (B1.block B hB), by simp; exact B1.size⟩
    have CP := putX ⟨folderK u nm, 0, nm, nx, nx0, .slice ax ml cx, Ms⟩ nm nx nx0 ax ml cx (w1.setCell ⟨M + 1, 2, none⟩ (.int .i64 (nx + 1))) M ⟨a, n, c, va, sd, nx + 1, u, wd, X⟩ rfl (by omega) (by show u.size ≤ 1048576; omega) D2.head (fun clock => rows_set D2.2.2.2 (by show World.ownsRow _ _ _ _ _ Ms.length _; rw [hMs]; exact R2) hKN (fun x hx hk => hap x hx hk) clock)
    obtain ⟨g2, fz2⟩ := (hD.later B1).1 2 _ rfl
    have HX : Hid (Box (w1.setCell ⟨M + 1, 2, none⟩ (.int .i64 (nx + 1))) w.heap.size [.string nm, .int .i64 nx, .int .i64 nx0, .slice ax ml cx]) := X1.other _ (by show w.heap.size ≠ M + 1; omega) _
    obtain ⟨e0', _⟩ := HX.out 0 _ rfl
    obtain ⟨e1', _⟩ := HX.out 1 _ rfl
    obtain ⟨e2', _⟩ := HX.out 2 _ rfl
    obtain ⟨e3', _⟩ := HX.out 3 _ rfl
    have HV : Hid (View u X fs) := hV
    clear hD hV hN hrow hap D2 R2 B1 X1 hKN
    go_enter Tryz.func139, Tryz.ntmps139
    go_wp2_with fail
    refine CP.mono ?_
    rintro e w4 ⟨rfl, ⟨clock, hd4⟩, hb4, ho4, hx4, hy4, hz4⟩
    have HOW4 : Hid ((∀ t s v n xs, w.ownsRow (M + 2) t s v n xs → w4.ownsRow (M + 2) t s v n xs) ∧ (∀ B vs, B ≠ M → B ≠ M + 1 → Box w B vs → Box w4 B vs) ∧ (∀ B t, B ≠ M → KindAt w B t → KindAt w4 B t) ∧ Keep M w w4) := ⟨fun t s v n xs h9 => ho4 _ _ _ _ _ (HOW2.out.1 _ _ _ _ _ h9), fun B vs h9 h8 h7 => hx4 B vs h9 (HOW2.out.2.1 B vs h8 h7), fun B t h9 h8 => hy4 B t h9 (HOW2.out.2.2.1 B t h8), HOW2.out.2.2.2.1.trans HOW2.out.2.2.2.2 hz4⟩
    have HB4 : Hid (Below M w w4) := HB2.out.trans hb4
    have HD4 : Hid (∃ clock, DeskAt w4 M ⟨a, n, c, va, sd, nx + 1, u, wd, setX ⟨folderK u nm, 0, nm, nx, nx0, .slice ax ml cx, Ms⟩ clock X⟩) := ⟨clock, hd4⟩
    clear hd4 hb4 CP ho4 hx4 hy4 hz4
    go_wp2_with fail
    go_ret
    exact ⟨HB4.out, HOW4.out.1, HOW4.out.2.1, HOW4.out.2.2, .inr ⟨rfl, HD4.out⟩⟩
end Go.Proofs.YthgbclipknfmjaaGreatDoor
namespace Go.Proofs.YthgbclipknfmjaaGreatDoor
open Go.ChangeShapes Go.WideShapes Go.ChangeAt Go.RowKit Go.Deep Go.Lib
set_option linter.unusedVariables false
set_option linter.unusedSimpArgs false
set_option maxRecDepth 100000

def rsT (N : List PM) (u : ByteArray) (Ms : List PM) (r : List PM × Int) : List PM × Int := if r.2 ≠ 0 then (N, r.2) else if 6 < countM (insAll Ms r.1) u then (N, 12) else fitsR N (insAll Ms r.1)
def rsG (N : List PM) (u f : ByteArray) (g : FM) : List PM × Int := rsT N u (g.mails.map (mailP u f)) (freshR (emptyR N u f) N u f g.next)
def rsO (N : List PM) (u f : ByteArray) : Option FM → List PM × Int
  | some g => rsG N u f g
  | none => (N, 16)
/-- A folder of the list, if it is there. -/
def oldF (L : List PM) (u f : ByteArray) : Option FM := (takeAll (nextM L) u S0 L).bind fun S => lookF f S.fs
def rsR (N L : List PM) (u f : ByteArray) : List PM × Int := if (getM N (userK u)).isSome = false then (N, 15) else rsO N u f (oldF L u f)
abbrev S1F (nx : Int) (S : SM) (g : FM) : SM := ⟨S.aside, S.word, putF ⟨g.name, nx, g.next, []⟩ S.fs⟩
abbrev S2F (nx : Int) (S : SM) (g : FM) : SM := ⟨S.aside, S.word, putF ⟨g.name, nx, g.next, g.mails⟩ S.fs⟩
/-- What a restored folder makes of a desk. -/
def rsM (nx : Int) (u : ByteArray) (S : SM) (g : FM) : Int × Int × SM :=
  if 9999 < nx then (6, nx, S) else if 60 < (deskP (nx + 1) u (S1F nx S g)).length then (7, nx + 1, S1F nx S g) else if 6 < sumF (S2F nx S g).fs then (12, nx + 1, S2F nx S g) else if 60 < (deskP (nx + 1) u (S2F nx S g)).length then (7, nx + 1, S2F nx S g) else (0, nx + 1, S2F nx S g)
/-- What both say of a restored folder. -/
def RsFits (N : List PM) (nx : Int) (u : ByteArray) (g : FM) (q nx' : Int) (S' : SM) (A : List PM × Int) : Prop :=
  (q ≠ 0 → A = (N, q)) ∧ (q = 0 → A.2 = 0 ∧ nx' = nx + 1 ∧ A.1.length ≤ 60 ∧ Lies A.1 nx' u S')
theorem empty_next {N : List PM} {nx : Int} {u f : ByteArray} {S : SM} (h : Lies N nx u S) (n0 : 0 ≤ nx) (n1 : nx ≤ 10000) (hus : (47 : UInt8) ∉ u.data.toList) (hfs : (47 : UInt8) ∉ f.data.toList) : nextM (emptyR N u f) = nx := by
  have h1 : (vK, bs (itoa nx)) ∈ emptyR N u f := (empty_perm h hus hfs).mem_iff.2 List.mem_cons_self
  unfold nextM
  rw [(getM_mem (show UpL (emptyR N u f) from h.up.sublist List.filter_sublist)).2 h1]
  show (numB (bs (itoa nx)).data.toList).getD 0 = nx
  rw [show (bs (itoa nx)).data.toList = itoa nx from by simp [bs], num_of_is ⟨rfl, by omega⟩]
  rfl
theorem rs_fits {N : List PM} {nx : Int} {u f : ByteArray} {S S' : SM} {g : FM} {q nx' : Int} (h : Lies N nx u S) (n0 : 0 ≤ nx) (n1 : nx ≤ 10000) (hus : (47 : UInt8) ∉ u.data.toList) (hfs : (47 : UInt8) ∉ f.data.toList) (hgn : g.name = f) (hM : (g.mails.map (mailP u f)).Pairwise (fun a b => a.1 ≠ b.1)) (hQ : rsM nx u S g = (q, nx', S')) : RsFits N nx u g q nx' S' (rsG N u f g) := by
  unfold rsM at hQ
  unfold rsG freshR
  rw [empty_next h n0 n1 hus hfs]
  by_cases hx : 9999 < nx
  · rw [if_pos hx] at hQ
    cases hQ
    rw [if_pos hx]
    exact ⟨fun _ => rfl, fun h9 => by cases h9⟩
  rw [if_neg hx] at hQ
  rw [if_neg hx]
  have h1 := lies_fresh (next := g.next) h hus hfs
  obtain ⟨Y1, hY1⟩ : ∃ Y, insL (folderK u f) (metaT nx g.next) (insL vK (bs (itoa (nx + 1))) (emptyR N u f)) = Y := ⟨_, rfl⟩
  rw [hY1] at h1 ⊢
  have e1 : (⟨S.aside, S.word, putF ⟨f, nx, g.next, []⟩ S.fs⟩ : SM) = S1F nx S g := by rw [← hgn]
  have l1 : Y1.length = (deskP (nx + 1) u (S1F nx S g)).length := by rw [← e1]; exact h1.pm.length_eq
  by_cases hl1 : 60 < (deskP (nx + 1) u (S1F nx S g)).length
  · rw [if_pos hl1] at hQ
    cases hQ
    have e2 : fitsR N Y1 = (N, 7) := by unfold fitsR; rw [if_pos (by omega)]
    rw [e2]
    exact ⟨fun _ => rfl, fun h9 => by cases h9⟩
  rw [if_neg hl1] at hQ
  have e2 : fitsR N Y1 = (Y1, 0) := by unfold fitsR; rw [if_neg (by omega)]
  rw [e2]
  have h2 := lies_mails h1 hus hfs hM
  have e3 : (⟨S.aside, S.word, putF ⟨f, nx, g.next, g.mails⟩ S.fs⟩ : SM) = S2F nx S g := by rw [← hgn]
  rw [e3] at h2
  unfold rsT
  rw [if_neg (by simp)]
  show RsFits N nx u g q nx' S' (if 6 < countM (insAll (g.mails.map (mailP u f)) Y1) u then (N, 12) else fitsR N (insAll (g.mails.map (mailP u f)) Y1))
  rw [lies_count h2 hus]
  have l2 := h2.pm.length_eq
  obtain ⟨Y2, hY2⟩ : ∃ Y, insAll (g.mails.map (mailP u f)) Y1 = Y := ⟨_, rfl⟩
  rw [hY2] at h2 l2 ⊢
  by_cases hs : 6 < sumF (S2F nx S g).fs
  · rw [if_pos hs] at hQ
    cases hQ
    rw [if_pos hs]
    exact ⟨fun _ => rfl, fun h9 => by cases h9⟩
  rw [if_neg hs] at hQ
  rw [if_neg hs]
  by_cases hl2 : 60 < (deskP (nx + 1) u (S2F nx S g)).length
  · rw [if_pos hl2] at hQ
    cases hQ
    have e4 : fitsR N Y2 = (N, 7) := by unfold fitsR; rw [if_pos (by omega)]
    rw [e4]
    exact ⟨fun _ => rfl, fun h9 => by cases h9⟩
  rw [if_neg hl2] at hQ
  cases hQ
  have e4 : fitsR N Y2 = (Y2, 0) := by unfold fitsR; rw [if_neg (by omega)]
  rw [e4]
  exact ⟨fun h9 => absurd rfl h9, fun _ => ⟨rfl, rfl, by show Y2.length ≤ 60; omega, h2⟩⟩
theorem old_look {L : List PM} {u f : ByteArray} {S : SM} (hS : takeAll (nextM L) u S0 L = some S) : oldF L u f = lookF f S.fs := by
  unfold oldF
  rw [hS]
  rfl
theorem old_meta {L : List PM} {u f : ByteArray} (h : storeB L = true) (hus : (47 : UInt8) ∉ u.data.toList) (hfs : (47 : UInt8) ∉ f.data.toList) : (oldF L u f).isSome = (metaM L u f).isSome := by
  obtain ⟨S, hS, _, _⟩ := take_all h hus
  rw [old_look hS]
  exact (look_iff h hus hS hfs).1
end Go.Proofs.YthgbclipknfmjaaGreatDoor
namespace Go.Proofs.YthgbclipknfmjaaGreatDoor
open Go.ChangeShapes Go.WideShapes Go.ChangeAt Go.RowKit Go.Deep Go.Lib
open Go.ChangeMaps (setBlock)
set_option linter.unusedVariables false
set_option linter.unusedSimpArgs false
set_option maxRecDepth 100000

theorem st_putG {w : World} {M : Nat} {a : Option Addr} {n c : Nat} {va : Value} {sd : List PM} {nx' : Int} {u wd : ByteArray} {X : List FX} {fs : List FM} {k : Nat} {g : FM} (hD : DeskAt w M ⟨a, n, c, va, sd, nx', u, wd, X⟩) (hV : View u X (putF g fs)) (hN : (fs.map (·.name)).Nodup) (hf : ∀ f ∈ fs, 1 ≤ f.next ∧ f.next ≤ 999 ∧ f.mails.length ≤ k) (hg : 1 ≤ g.next ∧ g.next ≤ 999 ∧ g.mails.length ≤ k) (hk : sd.length ≤ k) : StAt w M a n c nx' u ⟨sd, wd, putF g fs⟩ k :=
  ⟨va, X, hD, hV, putF_names hN, fun x hx => by
    rcases putF_mem hx with hx | rfl
    · exact hf x hx
    · exact hg, hk⟩
theorem at_some {w : World} {M : Nat} {D : DK} {u f : ByteArray} {fs : List FM} {g : FM} (hD : DeskAt w M D) (hV : View u D.X fs) (hl : lookF f fs = some g) : ∃ ax cx, atX (lookX (folderK u f) D.X) = .agg #[.string g.name, .int .i64 g.val, .int .i64 g.next, .slice ax g.mails.length cx] ∧ w.ownsRow (M + 2) 37 3 (.slice ax g.mails.length cx) g.mails.length (cellsMl g.mails) ∧ ∀ z ∈ D.X, z.k ≠ folderK u f → ∀ y, z.v.ownBlock = some y → Value.ownBlock (.slice ax g.mails.length cx) ≠ some y := by
  have hlx := hV.look f
  rw [hl] at hlx
  obtain ⟨x, hx1, hx2⟩ := Option.map_eq_some_iff.1 hlx
  subst hx2
  have ho := hD.2.2.2.1 x (look_mem hx1)
  obtain ⟨ax, cx, hv, _, _⟩ := own_src ho
  refine ⟨ax, cx, ?_, ?_, fun z hz hk => ?_⟩
  · rw [hx1]
    show valX x = _
    unfold valX
    rw [hv]
  · rw [hv] at ho
    exact ho
  · have h9 := rows_apart hD.2.2.2 hx1 hz hk
    rw [hv] at h9
    exact h9
end Go.Proofs.YthgbclipknfmjaaGreatDoor
