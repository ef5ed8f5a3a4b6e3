/-
  Pux Rnf Exi Exl in one. By an AI agent.
-/
import Derived.Test.YthgbclipknfmjaaGreatDoorFl20
import Derived.Test.YthgbclipknfmjaaGreatDoorFl23
import Derived.Test.YthgbclipknfmjaaGreatDoorFl26
import Derived.Test.YthgbclipknfmjaaGreatDoorFl28
import Derived.Test.YthgbclipknfmjaaGreatDoorFl21
namespace Go.Proofs.YthgbclipknfmjaaGreatDoor
open Go.ChangeShapes Go.WideShapes Go.ChangeAt Go.RowKit Go.Deep Go.Lib
open Go.ChangeMaps (setBlock)
set_option linter.unusedVariables false
set_option linter.unusedSimpArgs false
set_option maxRecDepth 100000

/-- A block's kind. -/
def KindAt (w : World) (B t : Nat) : Prop := ∃ c f, w.heap[B]? = some (.cells c t f)
theorem kind_below {w w' : World} {B t : Nat} (h : KindAt w B t) (hb : Below w.heap.size w w') : KindAt w' B t := by
  obtain ⟨c, f, h⟩ := h
  have h1 : B < w.heap.size := by
    rcases Nat.lt_or_ge B w.heap.size with h1 | h1
    · exact h1
    · rw [Array.getElem?_eq_none h1] at h
      cases h
  exact ⟨c, f, (hb.block B h1).trans h⟩
/-- All but a desk's own two blocks stays. -/
def Keep (M : Nat) (w w' : World) : Prop := ∀ B, B < w.heap.size → B ≠ M → B ≠ M + 1 → w'.heap[B]? = w.heap[B]?
theorem Keep.of_below {M : Nat} {w w' : World} (h : Below w.heap.size w w') : Keep M w w' := fun B hB _ _ => h.block B hB
theorem Keep.trans {M : Nat} {a b c : World} (h : Keep M a b) (hs : a.heap.size ≤ b.heap.size) (k : Keep M b c) : Keep M a c := fun B hB h1 h2 => (k B (by omega) h1 h2).trans (h B hB h1 h2)
theorem Keep.next {M : Nat} {a b c : World} (h : Keep M a b) (hs : a.heap.size ≤ b.heap.size) (hb : Below b.heap.size b c) : Keep M a c := h.trans hs (Keep.of_below hb)
theorem Keep.setCell {M : Nat} {a b : World} (h : Keep M a b) (p : Addr) (hp : a.heap.size ≤ p.block) (v : Value) : Keep M a (b.setCell p v) := fun B hB h1 h2 => (Below.heap_setCell _ _ _ _ (by omega)).trans (h B hB h1 h2)
set_option maxHeartbeats 2000000 in
theorem putX (y : FX) (nm : ByteArray) (vl nx : Int) (ay : Option Addr) (ny cy : Nat) (w : World) (M : Nat) (D : DK) (hy : y = ⟨folderK D.user nm, 0, nm, vl, nx, .slice ay ny cy, y.mails⟩) (hf : nm.size ≤ 1048576) (hu : D.user.size ≤ 1048576) (hD : DeskH w M D) (hR : ∀ clock, Rows w M (setX y clock D.X)) :
    Calls Tryz.prog 43 #[.pointer (some ⟨M + 1, 0, none⟩), .agg #[.string nm, .int .i64 vl, .int .i64 nx, .slice ay ny cy]] w fun e w' => e = .returned (.tuple #[]) ∧ (∃ clock, DeskAt w' M { D with X := setX y clock D.X }) ∧ Below M w w' ∧ (∀ t s v n xs, w.ownsRow (M + 2) t s v n xs → w'.ownsRow (M + 2) t s v n xs) ∧ (∀ B vs, B ≠ M → Box w B vs → Box w' B vs) ∧ (∀ B t, B ≠ M → KindAt w B t → KindAt w' B t) ∧ Keep M w w' := by
  have HD : Hid (DeskH w M D) := hD
  obtain ⟨hbox, ⟨clock, hmap⟩, hasd⟩ := hD
  have AL : Below w.heap.size w (w.alloc (.cells #[.string nm, .int .i64 vl, .int .i64 nx, .slice ay ny cy] 28)) := (Below.refl _ _).alloc (Nat.le_refl _) _
  have HAL : Hid (Below w.heap.size w (w.alloc (.cells #[.string nm, .int .i64 vl, .int .i64 nx, .slice ay ny cy] 28))) := AL
  have D1 := HD.out.later AL
  have hlt : M < w.heap.size := (Array.getElem?_eq_some_iff.1 hmap.1).1
  have hlt1 : M + 1 < w.heap.size := World.block_lt_of_cell? _ _ (hbox 0 _ rfl).1
  have HLT : Hid (M < w.heap.size ∧ M + 1 < w.heap.size) := ⟨hlt, hlt1⟩
  obtain ⟨b1, _, a1⟩ := D1
  have m1 := (hmap.later AL)
  have Y0 : Box (w.alloc (.cells #[.string nm, .int .i64 vl, .int .i64 nx, .slice ay ny cy] 28)) w.heap.size [.string nm, .int .i64 vl, .int .i64 nx, .slice ay ny cy] := Box.new rfl
  obtain ⟨p3, _⟩ := b1 3 _ rfl
  obtain ⟨p5, _⟩ := b1 5 _ rfl
  obtain ⟨q0, _⟩ := Y0 0 _ rfl
  obtain ⟨q1, _⟩ := Y0 1 _ rfl
  obtain ⟨q2, _⟩ := Y0 2 _ rfl
  obtain ⟨q3, _⟩ := Y0 3 _ rfl
  obtain ⟨cl, hup, hmi⟩ := run_put (w := (w.alloc (.cells #[.string nm, .int .i64 vl, .int .i64 nx, .slice ay ny cy] 28)).drew) (M := M) (clock := clock) (X := D.X) m1 y
  have hyk : y.k = folderK D.user nm := by rw [hy]
  have hyv : valX y = .agg #[.string nm, .int .i64 vl, .int .i64 nx, .slice ay ny cy] := by rw [hy]
  rw [hyk, hyv] at hup
  obtain ⟨O, hO⟩ : ∃ O, (.map ((setX y clock D.X).map entX).toArray cl : Obj) = O := ⟨_, rfl⟩
  rw [hO] at hup hmi
  obtain ⟨K9, hK9⟩ : ∃ K, folderK D.user nm = K := ⟨_, rfl⟩
  have CK := fun W => folderKeyI D.user nm W hu hf
  rw [hK9] at hup
  simp only [hK9] at CK
  have HF : Hid (DeskAt (setBlock (w.alloc (.cells #[.string nm, .int .i64 vl, .int .i64 nx, .slice ay ny cy] 28)).drew M O) M { D with X := setX y clock D.X }) :=
    ⟨box_sb b1 O (by omega), ⟨cl, hmi⟩, own_sb a1 O (by omega), fun x hx => own_sb (own_below ((hR clock).1 x hx) AL) O (by omega), (hR clock).2⟩
  have HB : Hid (Below M w (setBlock (w.alloc (.cells #[.string nm, .int .i64 vl, .int .i64 nx, .slice ay ny cy] 28)).drew M O)) := (AL.mono (Nat.le_of_lt hlt)).drew.trans (sb_below _ M O)
  have HOW : Hid ((∀ t s v n xs, w.ownsRow (M + 2) t s v n xs → (setBlock (w.alloc (.cells #[.string nm, .int .i64 vl, .int .i64 nx, .slice ay ny cy] 28)).drew M O).ownsRow (M + 2) t s v n xs) ∧ (∀ B vs, B ≠ M → Box w B vs → Box (setBlock (w.alloc (.cells #[.string nm, .int .i64 vl, .int .i64 nx, .slice ay ny cy] 28)).drew M O) B vs) ∧ (∀ B t, B ≠ M → KindAt w B t → KindAt (setBlock (w.alloc (.cells #[.string nm, .int .i64 vl, .int .i64 nx, .slice ay ny cy] 28)).drew M O) B t) ∧ Keep M w (setBlock (w.alloc (.cells #[.string nm, .int .i64 vl, .int .i64 nx, .slice ay ny cy] 28)).drew M O)) := ⟨fun t s v n xs h9 => own_sb (own_below h9 AL) O (by omega), fun B vs h9 h8 => box_sb (M := M) (h8.below AL) O h9, fun B t h9 h8 => by
    obtain ⟨c1, f1, k1⟩ := kind_below h8 AL
    exact ⟨c1, f1, (sb_block _ M B O h9).trans k1⟩, fun B hB h9 _ => (sb_block _ M B O h9).trans (AL.block B hB)⟩
  have HS : Hid ((setBlock (w.alloc (.cells #[.string nm, .int .i64 vl, .int .i64 nx, .slice ay ny cy] 28)).drew M O).cell? ⟨M + 1, 3, none⟩ = some (.string D.user) ∧ (setBlock (w.alloc (.cells #[.string nm, .int .i64 vl, .int .i64 nx, .slice ay ny cy] 28)).drew M O).cell? ⟨M + 1, 5, none⟩ = some (.map (some M)) ∧ (setBlock (w.alloc (.cells #[.string nm, .int .i64 vl, .int .i64 nx, .slice ay ny cy] 28)).drew M O).cell? ⟨w.heap.size, 0, none⟩ = some (.string nm) ∧ (setBlock (w.alloc (.cells #[.string nm, .int .i64 vl, .int .i64 nx, .slice ay ny cy] 28)).drew M O).cell? ⟨w.heap.size, 1, none⟩ = some (.int .i64 vl) ∧ (setBlock (w.alloc (.cells #[.string nm, .int .i64 vl, .int .i64 nx, .slice ay ny cy] 28)).drew M O).cell? ⟨w.heap.size, 2, none⟩ = some (.int .i64 nx) ∧ (setBlock (w.alloc (.cells #[.string nm, .int .i64 vl, .int .i64 nx, .slice ay ny cy] 28)).drew M O).cell? ⟨w.heap.size, 3, none⟩ = some (.slice ay ny cy)) := by
    have hx := box_sb (M := M) b1 O (by omega)
    have hz := box_sb (M := M) Y0 O (by omega)
    exact ⟨(hx 3 _ rfl).1, (hx 5 _ rfl).1, (hz 0 _ rfl).1, (hz 1 _ rfl).1, (hz 2 _ rfl).1, (hz 3 _ rfl).1⟩
  clear hbox hmap hasd AL b1 a1 m1 Y0 hmi hyk hyv hy hR hO hK9 HD
  go_enter Tryz.func43, Tryz.ntmps43
  go_wp2_with fail
  refine wp_region_noPanic ?_
  refine wp_region_held_drew (S := fun w' => w'.cell? ⟨M + 1, 3, none⟩ = some (.string D.user) ∧ w'.cell? ⟨M + 1, 5, none⟩ = some (.map (some M)) ∧ w'.cell? ⟨w.heap.size, 0, none⟩ = some (.string nm) ∧ w'.cell? ⟨w.heap.size, 1, none⟩ = some (.int .i64 vl) ∧ w'.cell? ⟨w.heap.size, 2, none⟩ = some (.int .i64 nx) ∧ w'.cell? ⟨w.heap.size, 3, none⟩ = some (.slice ay ny cy)) (by kernel_rfl) ⟨p3, p5, q0, q1, q2, q3⟩ (fun hHeld => ?_)
  refine tkA (i := 0) (v := .pointer (some ⟨M + 1, 0, none⟩)) ?_ hHeld ?_
  · intro w9 hSw
    obtain ⟨z0, z1, z2, z3, z4, z5⟩ := hSw
    go_simp
  simp only [Act.put, List.setIfInBounds_toArray, List.set_cons_zero, List.set_cons_succ]
  refine tkA (i := 1) (v := .pointer (some ⟨M + 1, 0, none⟩)) ?_ hHeld ?_
  · intro w9 hSw
    obtain ⟨z0, z1, z2, z3, z4, z5⟩ := hSw
    go_simp
  simp only [Act.put, List.setIfInBounds_toArray, List.set_cons_zero, List.set_cons_succ]
  refine tkA (i := 2) (v := .pointer (some ⟨M + 1, 5, none⟩)) ?_ hHeld ?_
  · intro w9 hSw
    obtain ⟨z0, z1, z2, z3, z4, z5⟩ := hSw
    go_simp
  simp only [Act.put, List.setIfInBounds_toArray, List.set_cons_zero, List.set_cons_succ]
  refine tkA (i := 3) (v := .map (some M)) ?_ hHeld ?_
  · intro w9 hSw
    obtain ⟨z0, z1, z2, z3, z4, z5⟩ := hSw
    go_simp
  simp only [Act.put, List.setIfInBounds_toArray, List.set_cons_zero, List.set_cons_succ]
  refine tkA (i := 4) (v := .pointer (some ⟨M + 1, 0, none⟩)) ?_ hHeld ?_
  · intro w9 hSw
    obtain ⟨z0, z1, z2, z3, z4, z5⟩ := hSw
    go_simp
  simp only [Act.put, List.setIfInBounds_toArray, List.set_cons_zero, List.set_cons_succ]
  refine tkA (i := 5) (v := .pointer (some ⟨M + 1, 0, none⟩)) ?_ hHeld ?_
  · intro w9 hSw
    obtain ⟨z0, z1, z2, z3, z4, z5⟩ := hSw
    go_simp
  simp only [Act.put, List.setIfInBounds_toArray, List.set_cons_zero, List.set_cons_succ]
  refine tkA (i := 6) (v := .pointer (some ⟨M + 1, 3, none⟩)) ?_ hHeld ?_
  · intro w9 hSw
    obtain ⟨z0, z1, z2, z3, z4, z5⟩ := hSw
    go_simp
  simp only [Act.put, List.setIfInBounds_toArray, List.set_cons_zero, List.set_cons_succ]
  refine tkA (i := 7) (v := .string D.user) ?_ hHeld ?_
  · intro w9 hSw
    obtain ⟨z0, z1, z2, z3, z4, z5⟩ := hSw
    go_simp
  simp only [Act.put, List.setIfInBounds_toArray, List.set_cons_zero, List.set_cons_succ]
  refine tkA (i := 8) (v := .pointer (some ⟨w.heap.size, 0, none⟩)) ?_ hHeld ?_
  · intro w9 hSw
    obtain ⟨z0, z1, z2, z3, z4, z5⟩ := hSw
    go_simp
  simp only [Act.put, List.setIfInBounds_toArray, List.set_cons_zero, List.set_cons_succ]
  refine tkA (i := 9) (v := .string nm) ?_ hHeld ?_
  · intro w9 hSw
    obtain ⟨z0, z1, z2, z3, z4, z5⟩ := hSw
    go_simp
  simp only [Act.put, List.setIfInBounds_toArray, List.set_cons_zero, List.set_cons_succ]
  refine tkA (i := 11) (v := .agg #[.string nm, .int .i64 vl, .int .i64 nx, .slice ay ny cy]) ?_ hHeld ?_
  · intro w9 hSw
    obtain ⟨z0, z1, z2, z3, z4, z5⟩ := hSw
    go_simp
  simp only [Act.put, List.setIfInBounds_toArray, List.set_cons_zero, List.set_cons_succ]
  refine wpAnyH_ready (rs := [10]) (by kernel_rfl) (by simp) ?_
  refine AllReadyH.cons rfl (fun K hK => ?_) AllReadyH.nil
  go_simp
  refine (CK _).mono ?_
  rintro e w1 ⟨rfl, hw1⟩
  obtain rfl := hw1
  dsimp only
  refine hK _ _ ⟨p3, p5, q0, q1, q2, q3⟩ (fun hHeld => ?_)
  clear hK K
  refine wpAnyH_ready (rs := [12]) (by kernel_rfl) (by simp) ?_
  refine AllReadyH.cons rfl (fun K hK => ?_) AllReadyH.nil
  go_simp
  refine hK _ _ HS.out (fun hHeld => ?_)
  clear hK K
  refine wpAnyH_done (by kernel_rfl) ?_ _
  refine NoPanic.normal ?_
  clear hHeld
  go_wp2_with fail
  go_end0
  exact ⟨rfl, ⟨clock, HF.out⟩, HB.out, HOW.out⟩
end Go.Proofs.YthgbclipknfmjaaGreatDoor
namespace Go.Proofs.YthgbclipknfmjaaGreatDoor
open Go.ChangeShapes Go.WideShapes Go.ChangeAt Go.RowKit Go.Deep Go.Lib
open Go.ChangeMaps (setBlock)
set_option linter.unusedVariables false
set_option linter.unusedSimpArgs false
set_option maxRecDepth 100000

theorem st_putG {w : World} {M : Nat} {a : Option Addr} {n c : Nat} {va : Value} {sd : List PM} {nx' : Int} {u wd : ByteArray} {X : List FX} {fs : List FM} {k : Nat} {g : FM} (hD : DeskAt w M ⟨a, n, c, va, sd, nx', u, wd, X⟩) (hV : View u X (putF g fs)) (hN : (fs.map (·.name)).Nodup) (hf : ∀ f ∈ fs, 1 ≤ f.next ∧ f.next ≤ 999 ∧ f.mails.length ≤ k) (hg : 1 ≤ g.next ∧ g.next ≤ 999 ∧ g.mails.length ≤ k) (hk : sd.length ≤ k) : StAt w M a n c nx' u ⟨sd, wd, putF g fs⟩ k :=
  ⟨va, X, hD, hV, putF_names hN, fun x hx => by
    rcases putF_mem hx with hx | rfl
    · exact hf x hx
    · exact hg, hk⟩
theorem at_some {w : World} {M : Nat} {D : DK} {u f : ByteArray} {fs : List FM} {g : FM} (hD : DeskAt w M D) (hV : View u D.X fs) (hl : lookF f fs = some g) : ∃ ax cx, atX (lookX (folderK u f) D.X) = .agg #[.string g.name, .int .i64 g.val, .int .i64 g.next, .slice ax g.mails.length cx] ∧ w.ownsRow (M + 2) 37 3 (.slice ax g.mails.length cx) g.mails.length (cellsMl g.mails) ∧ ∀ z ∈ D.X, z.k ≠ folderK u f → ∀ y, z.v.ownBlock = some y → Value.ownBlock (.slice ax g.mails.length cx) ≠ some y := by
  have hlx := hV.look f
  rw [hl] at hlx
  obtain ⟨x, hx1, hx2⟩ := Option.map_eq_some_iff.1 hlx
  subst hx2
  have ho := hD.2.2.2.1 x (look_mem hx1)
  obtain ⟨ax, cx, hv, _, _⟩ := own_src ho
  refine ⟨ax, cx, ?_, ?_, fun z hz hk => ?_⟩
  · rw [hx1]
    show valX x = _
    unfold valX
    rw [hv]
  · rw [hv] at ho
    exact ho
  · have h9 := rows_apart hD.2.2.2 hx1 hz hk
    rw [hv] at h9
    exact h9
end Go.Proofs.YthgbclipknfmjaaGreatDoor
namespace Go.Proofs.YthgbclipknfmjaaGreatDoor
open Go.ChangeShapes Go.WideShapes Go.ChangeAt Go.RowKit Go.Deep Go.Lib
set_option linter.unusedVariables false
set_option linter.unusedSimpArgs false
set_option maxRecDepth 100000

theorem eR_bad {L R : List PM} {u f : ByteArray} {G : List Int} {q Q : Int} (h : eR L u f = (R, G, Q)) (hq : askM L [u, f] = q) (h0 : q ≠ 0) : [] = R ∧ [] = G ∧ q = Q := by
  unfold eR at h
  rw [hq, if_pos h0] at h
  cases h
  exact ⟨rfl, rfl, rfl⟩
theorem eR_good {L R : List PM} {u f : ByteArray} {G : List Int} {Q : Int} (h : eR L u f = (R, G, Q)) (hq : askM L [u, f] = 0) : exR L u f = (R, G, Q) := by
  unfold eR at h
  rw [hq, if_neg (by simp)] at h
  exact h
theorem exR_len {L R : List PM} {u f : ByteArray} {G : List Int} {Q : Int} (h : exR L u f = (R, G, Q)) (hl : L.length ≤ 60) : R.length ≤ 60 := by
  unfold exR at h
  split at h
  · cases h; exact hl
  · cases h
    exact Nat.le_trans (ex_len _ _ _ _ _) hl
set_option maxHeartbeats 4000000 in
theorem specExpungeFolder (a : Option Addr) (n c : Nat) (L : List PM) (x y : ByteArray) (w : World) (hL : L.length = n) (hn : n ≤ 1048576) (hs : ∀ x ∈ L, x.1.size ≤ 1048576 ∧ x.2.size ≤ 1048576) (h : Src w a (cellsP L)) (hx : x.size ≤ 1048576) (hy : y.size ≤ 1048576) (R : List PM) (G : List Int) (Q : Int) (HQ : Hid (eR L x y = (R, G, Q))) :
    Calls Tryz.prog 16 #[.slice a n c, .string x, .string y] w fun e w' => ∃ v1 v2, e = .returned (.tuple #[v1, v2, .int .i64 Q]) ∧ w'.ownsRow w.heap.size 68 2 v1 R.length (cellsP R) ∧ w'.ownsRow w.heap.size 3 1 v2 G.length (cellsI G) ∧ Below w.heap.size w w' := by
  have HLN : Hid (L.length = n) := hL
  have HS : Hid (Src w a (cellsP L)) := h
  have AL : Hid (Below w.heap.size w (w.alloc (.cells #[.string x, .string y] 9))) := (Below.refl _ _).alloc (Nat.le_refl _) _
  obtain ⟨q, hq⟩ : ∃ q, askM L [x, y] = q := ⟨_, rfl⟩
  have HQQ : Hid (askM L [x, y] = q) := hq
  have CA := l07AskS a n c L (some ⟨w.heap.size, 0, none⟩) 2 2 [x, y] (w.alloc (.cells #[.string x, .string y] 9)) hL hn hs (HS.out.below AL.out) rfl (by omega) (fun s hs => by
    rcases List.mem_cons.1 hs with rfl | hs
    · exact hx
    · rw [List.mem_singleton.1 hs]; exact hy) (src_2S rfl) q hq
  have B0 : Hid (Below w.heap.size w w) := Below.refl _ _
  have EM : Hid (((w.alloc (.cells #[] 68)).alloc (.cells #[] 3)).ownsRow w.heap.size 68 2 (.slice (some ⟨w.heap.size, 0, none⟩) 0 0) ([] : List PM).length (cellsP []) ∧ ((w.alloc (.cells #[] 68)).alloc (.cells #[] 3)).ownsRow w.heap.size 3 1 (.slice (some ⟨w.heap.size + 1, 0, none⟩) 0 0) ([] : List Int).length (cellsI []) ∧ Below w.heap.size w ((w.alloc (.cells #[] 68)).alloc (.cells #[] 3))) := ⟨own_below (own_empty rfl (B0.out).size) ((Below.refl _ _).alloc (Nat.le_refl _) _), own_empty (by simp) (le_alloc (B0.out).size _), ((B0.out).alloc (B0.out).size _).alloc (le_alloc (B0.out).size _) _⟩
  have HBAD : Hid (q ≠ 0 → [] = R ∧ [] = G ∧ q = Q) := fun h9 => eR_bad HQ.out HQQ.out h9
  have HTWO : Hid (askM L [x, y] = 2 → [] = R ∧ [] = G ∧ 2 = Q) := fun h9 => eR_bad HQ.out h9 (by decide)
  clear hL h hs hq
  by_cases h1 : 4096 < n
  · have h1i : (4096 : Int) < (n : Int) := by omega
    obtain ⟨rfl, rfl, rfl⟩ := HTWO.out (by unfold askM; rw [if_pos (.inl (by rw [HLN.out]; exact h1))])
    go_enter Tryz.func16, Tryz.ntmps16
    go_wp2_with fail
    exact bodyPost_ret (v := .tuple #[.slice (some ⟨w.heap.size, 0, none⟩) 0 0, .slice (some ⟨w.heap.size + 1, 0, none⟩) 0 0, .int .i64 2]) (by simp [results, Tryz.results16, go_sem]) rfl ⟨_, _, rfl, EM.out⟩
  have h1i : ¬ (4096 : Int) < (n : Int) := by omega
  by_cases h2 : 65536 < x.size
  · have h2i : (65536 : Int) < (x.size : Int) := by omega
    obtain ⟨rfl, rfl, rfl⟩ := HTWO.out (by
      unfold askM
      rw [if_pos (.inr (by show (smallT x && _) = false; rw [show smallT x = false from decide_eq_false (by omega)]; rfl))])
    go_enter Tryz.func16, Tryz.ntmps16
    go_wp2_with fail
    exact bodyPost_ret (v := .tuple #[.slice (some ⟨w.heap.size, 0, none⟩) 0 0, .slice (some ⟨w.heap.size + 1, 0, none⟩) 0 0, .int .i64 2]) (by simp [results, Tryz.results16, go_sem]) rfl ⟨_, _, rfl, EM.out⟩
  have h2i : ¬ (65536 : Int) < (x.size : Int) := by omega
  by_cases h3 : 65536 < y.size
  · have h3i : (65536 : Int) < (y.size : Int) := by omega
    obtain ⟨rfl, rfl, rfl⟩ := HTWO.out (by
      unfold askM
      rw [if_pos (.inr (by show (smallT x && (smallT y && true)) = false; rw [show smallT y = false from decide_eq_false (by omega)]; simp))])
    go_enter Tryz.func16, Tryz.ntmps16
    go_wp2_with fail
    exact bodyPost_ret (v := .tuple #[.slice (some ⟨w.heap.size, 0, none⟩) 0 0, .slice (some ⟨w.heap.size + 1, 0, none⟩) 0 0, .int .i64 2]) (by simp [results, Tryz.results16, go_sem]) rfl ⟨_, _, rfl, EM.out⟩
  have h3i : ¬ (65536 : Int) < (y.size : Int) := by omega
  by_cases hq0 : q = 0
  case neg =>
    obtain ⟨rfl, rfl, rfl⟩ := HBAD.out hq0
    have hqi : (q != 0) = true := by simpa using hq0
    go_enter Tryz.func16, Tryz.ntmps16
    go_wp2_with fail
    refine CA.mono ?_
    rintro e w3 ⟨rfl, hb3⟩
    have B3 : Hid (Below w.heap.size w w3) := AL.out.trans (hb3.mono AL.out.size)
    have EM3 : Hid (((w3.alloc (.cells #[] 68)).alloc (.cells #[] 3)).ownsRow w.heap.size 68 2 (.slice (some ⟨w3.heap.size, 0, none⟩) 0 0) ([] : List PM).length (cellsP []) ∧ ((w3.alloc (.cells #[] 68)).alloc (.cells #[] 3)).ownsRow w.heap.size 3 1 (.slice (some ⟨w3.heap.size + 1, 0, none⟩) 0 0) ([] : List Int).length (cellsI []) ∧ Below w.heap.size w ((w3.alloc (.cells #[] 68)).alloc (.cells #[] 3))) := ⟨own_below (own_empty rfl (B3.out).size) ((Below.refl _ _).alloc (Nat.le_refl _) _), own_empty (by simp) (le_alloc (B3.out).size _), ((B3.out).alloc (B3.out).size _).alloc (le_alloc (B3.out).size _) _⟩
    clear hb3 CA
    go_wp2_with fail
    exact bodyPost_ret (v := .tuple #[.slice (some ⟨w3.heap.size, 0, none⟩) 0 0, .slice (some ⟨w3.heap.size + 1, 0, none⟩) 0 0, .int .i64 q]) (by simp [results, Tryz.results16, go_sem]) rfl ⟨_, _, rfl, EM3.out⟩
  subst hq0
  obtain ⟨hst, hsx, hsy⟩ := ask_zero2 HQQ.out
  obtain ⟨hgl, nx0, hnm, n1, _⟩ := store_facts hst
  obtain ⟨b, o, rfl⟩ := store_src hst HS.out
  have HQ2 : Hid (exR L x y = (R, G, Q)) := eR_good HQ.out HQQ.out
  have hln : R.length ≤ 60 := exR_len HQ2.out hgl.1
  have CI := fun W (hW : Below w.heap.size w W) => l07ExpungeS b o n c L HLN.out hgl hst x y hsx hsy W (HS.out.below hW) R G Q HQ2.out
  clear hst hsx hsy hgl HBAD hnm n1 HTWO HQ EM
  go_enter Tryz.func16, Tryz.ntmps16
  go_wp2_with fail
  refine CA.mono ?_
  rintro e w3 ⟨rfl, hb3⟩
  have B3 : Hid (Below w.heap.size w w3) := AL.out.trans (hb3.mono AL.out.size)
  have CI3 := CI w3 B3.out
  clear hb3 CA CI
  go_wp2_with fail
  refine CI3.mono ?_
  rintro e w5 ⟨a5, n5, c5, v5, rfl, k1, k2, hog, hb5⟩
  obtain ⟨ag, cg, rfl, _, _⟩ := own_src hog
  have B5 : Hid (Below w.heap.size w w5) := B3.out.trans (hb5.mono B3.out.size)
  have CO := l07OwnS a5 n5 c5 R w5 k1 (by omega) k2
  have HN5 : Hid (R.length = n5) := k1
  have OG5 : Hid (w5.ownsRow w.heap.size 3 1 (.slice ag G.length cg) G.length (cellsI G)) := own_mono hog B3.out.size
  clear hb5 CI3 k1 k2 hog
  go_wp2_with fail
  refine CO.mono ?_
  rintro e w6 ⟨v6, rfl, ho6, hb6⟩
  obtain ⟨a6, c6, rfl, _, _⟩ := own_src ho6
  have HF : Hid (w6.ownsRow w.heap.size 68 2 (.slice a6 n5 c6) R.length (cellsP R) ∧ w6.ownsRow w.heap.size 3 1 (.slice ag G.length cg) G.length (cellsI G) ∧ Below w.heap.size w w6) := ⟨by rw [HN5.out]; exact own_mono ho6 B5.out.size, own_below OG5.out hb6, B5.out.trans (hb6.mono B5.out.size)⟩
  clear ho6 hb6 CO OG5
  go_wp2_with fail
  exact bodyPost_ret (v := .tuple #[.slice a6 n5 c6, .slice ag G.length cg, .int .i64 Q]) (by simp [results, Tryz.results16, go_sem]) rfl ⟨_, _, rfl, HF.out⟩
set_option maxHeartbeats 2000000 in
theorem deleteNil (w : World) : Calls Tryz.prog 42 #[.slice none 0 0, .func (.func 41) #[] #[]] w fun e w' => e = .returned (.slice none 0 0) ∧ Below w.heap.size w w' := by
  have CI := indexDelI none 0 0 [] w rfl (by omega) (fun m hm => by cases hm) (.inl rfl)
  go_enter Tryz.func42, Tryz.ntmps42
  go_wp2_with fail
  refine CI.mono ?_
  rintro e w1 ⟨i, rfl, hfi, hb1⟩
  have B1 : Hid (Below w.heap.size w w1) := hb1
  rcases hfi with ⟨k0, hk0, _⟩ | ⟨rfl, _⟩
  · exact absurd hk0 (by simp)
  · clear hb1 CI
    go_wp2_with fail
    go_ret
    exact ⟨rfl, B1.out⟩
theorem deleteG (ax : Option Addr) (ml cx base : Nat) (Ms : List MMl) (hml : Ms.length = ml) (hm : ml ≤ 60) (hM : ∀ m ∈ Ms, 0 ≤ m.2.1 ∧ m.2.1 ≤ 3) (w : World) (ho : w.ownsRow base 37 3 (.slice ax ml cx) ml (cellsMl Ms)) (k : Nat) (hk : (keepM Ms).length = k) :
    Calls Tryz.prog 42 #[.slice ax ml cx, .func (.func 41) #[] #[]] w fun e w' => e = .returned (.slice ax k cx) ∧ w'.ownsRow base 37 3 (.slice ax k cx) k (cellsMl (keepM Ms)) ∧ w.grownBy w' (Value.ownBlock (.slice ax ml cx)) := by
  have ho2 := ho
  obtain ⟨hl, ⟨hv, h0⟩ | ⟨g, cap, cur, hv, hb, _⟩⟩ := ho2
  · cases hv
    have hM0 : Ms = [] := List.eq_nil_of_length_eq_zero (by omega)
    subst hM0
    obtain rfl : 0 = k := hk
    refine (deleteNil w).mono ?_
    rintro e w' ⟨rfl, hb⟩
    exact ⟨rfl, World.ownsRow_nil _ _ _ _, gb_below (gb_refl w _) hb⟩
  · cases hv
    exact deleteI g ml cx base Ms hml hm hM w ho k hk
set_option maxHeartbeats 8000000 in
theorem implExpungeFolder (a : Option Addr) (n c : Nat) (L : List PM) (x y : ByteArray) (w : World) (hL : L.length = n) (hn : n ≤ 1048576) (hs : ∀ x ∈ L, x.1.size ≤ 1048576 ∧ x.2.size ≤ 1048576) (h : Src w a (cellsP L)) (hx : x.size ≤ 1048576) (hy : y.size ≤ 1048576) (hG : Gl w) (h8 : 8 ≤ w.heap.size) (R : List PM) (G : List Int) (Q : Int) (HQ : Hid (eR L x y = (R, G, Q))) :
    Calls Tryz.prog 11 #[.slice a n c, .string x, .string y] w fun e w' => ∃ v1 v2, e = .returned (.tuple #[v1, v2, .int .i64 Q]) ∧ w'.ownsRow w.heap.size 68 2 v1 R.length (cellsP R) ∧ w'.ownsRow w.heap.size 3 1 v2 G.length (cellsI G) ∧ Below w.heap.size w w' := by
  have HLN : Hid (L.length = n) := hL
  have HS : Hid (Src w a (cellsP L)) := h
  have HG : Hid (Gl w) := hG
  have AL : Hid (Below w.heap.size w (w.alloc (.cells #[.string x, .string y] 9))) := (Below.refl _ _).alloc (Nat.le_refl _) _
  obtain ⟨q, hq⟩ : ∃ q, askM L [x, y] = q := ⟨_, rfl⟩
  have HQQ : Hid (askM L [x, y] = q) := hq
  have CA := mailFaultI a n c L (some ⟨w.heap.size, 0, none⟩) 2 2 [x, y] (w.alloc (.cells #[.string x, .string y] 9)) hL hn hs (HS.out.below AL.out) rfl (by omega) (fun s hs => by
    rcases List.mem_cons.1 hs with rfl | hs
    · exact hx
    · rw [List.mem_singleton.1 hs]; exact hy) (src_2S rfl) (hG.below h8 AL.out) (by have := AL.out.size; omega) q hq
  clear hL h hs hq hG
  by_cases hq0 : q = 0
  case neg =>
    obtain ⟨rfl, rfl, rfl⟩ := eR_bad HQ.out HQQ.out hq0
    have hqi : (q != 0) = true := by simpa using hq0
    go_enter Tryz.func11, Tryz.ntmps11
    go_wp2_with fail
    refine CA.mono ?_
    rintro e w3 ⟨rfl, hb3⟩
    have B3 : Hid (Below w.heap.size w w3) := AL.out.trans (hb3.mono AL.out.size)
    clear hb3 CA
    go_wp2_with fail
    exact bodyPost_ret (v := .tuple #[.slice none 0 0, .slice none 0 0, .int .i64 q]) (by simp [results, Tryz.results11, go_sem]) rfl ⟨_, _, rfl, World.ownsRow_nil _ _ _ _, World.ownsRow_nil _ _ _ _, B3.out⟩
  subst hq0
  obtain ⟨hst, hsx, hsy⟩ := ask_zero2 HQQ.out
  have hus := word_slash hsx
  have hfs := word_slash hsy
  have hu8 := short_size hsx
  have hy8 := short_size hsy
  obtain ⟨hgl, nx0, hnm, n1, n2, _⟩ := store_facts hst
  have hn60 := hgl.1
  rw [HLN.out] at hn60
  rw [hnm] at n1 n2
  have HQ2 : Hid (exR L x y = (R, G, Q)) := eR_good HQ.out HQQ.out
  have CD := fun W (hW : Below w.heap.size w W) => deskWithI a n c L x W HLN.out (HS.out.below hW) (HG.out.below h8 hW) (by have := hW.size; omega) hst hus (by omega)
  obtain ⟨kk, hkk⟩ : ∃ z, knownR L x y = z := ⟨_, rfl⟩
  have HFI : Hid (∀ S, takeAll (nextM L) x S0 L = some S → lackM S.word S.fs [y] = kk ∧ (kk = 0 → ∃ g, lookF y S.fs = some g ∧ UpL (exY L x y) ∧ (deskP (nextM L) x (exS S g)).Perm (exY L x y) ∧ (exY L x y).length ≤ 60 ∧ (∀ z ∈ (exS S g).fs, FitF z) ∧ rnF L x y = g ∧ (∀ m ∈ g.mails, 0 ≤ m.2.1 ∧ m.2.1 ≤ 3) ∧ g.mails.length ≤ 60)) := fun S hS => by
    refine ⟨by rw [lack_known hst hus hfs hS, hkk], fun e => ?_⟩
    rw [e] at hkk
    obtain ⟨hw, g, hl⟩ := known_zero hst hus hfs hS hkk
    obtain ⟨k1, k2, k3, k4, k5⟩ := ex_fits hst hus hfs hS hw hl
    have hfit := (store_fit hst hS g (lookF_mem hl).1).2.2.2.2.2
    have h9 := (store_sub hst hS g (lookF_mem hl).1).length_le
    rw [List.length_map, HLN.out] at h9
    exact ⟨g, hl, k1, k2, k3, k4, k5, fun m hm => ⟨(hfit m hm).2.2.1, (hfit m hm).2.2.2.1⟩, by omega⟩
  have HRK : Hid ((kk ≠ 0 → L = R ∧ [] = G ∧ kk = Q) ∧ (kk = 0 → exY L x y = R ∧ goI (rnF L x y).mails = G ∧ 0 = Q)) := by
    have h9 := HQ2.out
    unfold exR at h9
    rw [hkk] at h9
    constructor
    · intro e
      rw [if_pos e] at h9
      cases h9
      exact ⟨rfl, rfl, rfl⟩
    · intro e
      rw [if_neg (by simp [e])] at h9
      cases h9
      exact ⟨rfl, rfl, rfl⟩
  obtain ⟨nx, hnx⟩ : ∃ t, nextM L = t := ⟨_, rfl⟩
  simp only [hnx] at CD n1 n2
  rw [hnx] at HFI
  clear hst hsx hsy hgl hnm hnx hus hfs hkk HQ HQ2 HQQ
  go_enter Tryz.func11, Tryz.ntmps11
  go_wp2_with fail
  refine CA.mono ?_
  rintro e w3 ⟨rfl, hb3⟩
  have B3 : Hid (Below w.heap.size w w3) := AL.out.trans (hb3.mono AL.out.size)
  clear hb3 CA
  go_wp2_with fail
  refine (CD _ B3.out).mono ?_
  rintro e w4 ⟨M, S, rfl, hS, hSt, hM, hb4⟩
  have B4 : Hid (Below w.heap.size w w4) := B3.out.trans (hb4.mono B3.out.size)
  have hM2 : w.heap.size ≤ M := by have h9 := B3.out.size; omega
  obtain ⟨hlk, hgo⟩ := HFI.out S hS
  have HGO : Hid (kk = 0 → ∃ g, lookF y S.fs = some g ∧ UpL (exY L x y) ∧ (deskP nx x (exS S g)).Perm (exY L x y) ∧ (exY L x y).length ≤ 60 ∧ (∀ z ∈ (exS S g).fs, FitF z) ∧ rnF L x y = g ∧ (∀ m ∈ g.mails, 0 ≤ m.2.1 ∧ m.2.1 ≤ 3) ∧ g.mails.length ≤ 60) := hgo
  have CL := lacksI (w4.alloc (.cells #[.string y] 9)) M a n c nx x S n (hSt.later ((Below.refl _ _).alloc (Nat.le_refl _) _)) (by omega) (some ⟨w4.heap.size, 0, none⟩) 1 1 [y] rfl (by omega) (fun s hs => by rw [List.mem_singleton.1 hs]; omega) (src_1S rfl) kk hlk
  have HST4 : Hid (StAt w4 M a n c nx x S n) := hSt
  have A4 : Hid (Below w4.heap.size w4 (w4.alloc (.cells #[.string y] 9))) := (Below.refl _ _).alloc (Nat.le_refl _) _
  clear hb4 hS hSt CD hM hlk hgo HFI
  go_wp2_with fail
  refine CL.mono ?_
  rintro e w5 ⟨rfl, hb5⟩
  have B45 : Hid (Below w4.heap.size w4 w5) := A4.out.trans (hb5.mono A4.out.size)
  have B5 : Hid (Below w.heap.size w w5) := B4.out.trans (B45.out.mono B4.out.size)
  have HST5 : Hid (StAt w5 M a n c nx x S n) := HST4.out.later B45.out
  clear hb5 CL A4 HST4
  by_cases hk0 : kk = 0
  case neg =>
    obtain ⟨hR, hGe, hQe⟩ := HRK.out.1 hk0
    have hki : (kk != 0) = true := by simpa using hk0
    have CC := copyListI a n c L w5 HLN.out (by omega) (HS.out.below B5.out)
    have HRE : Hid (L = R ∧ [] = G ∧ kk = Q) := ⟨hR, hGe, hQe⟩
    clear hR hGe hQe HRK HGO
    go_wp2_with fail
    refine CC.mono ?_
    rintro e w6 ⟨v6, rfl, ho6, hb6⟩
    obtain ⟨a6, c6, rfl, _, _⟩ := own_src ho6
    have HF : Hid (w6.ownsRow w.heap.size 68 2 (.slice a6 n c6) R.length (cellsP R) ∧ w6.ownsRow w.heap.size 3 1 (.slice none 0 0) G.length (cellsI G) ∧ Below w.heap.size w w6) := by
      rw [← HRE.out.1, ← HRE.out.2.1, HLN.out]
      exact ⟨own_mono ho6 B5.out.size, World.ownsRow_nil _ _ _ _, B5.out.trans (hb6.mono B5.out.size)⟩
    have HQE : Hid (kk = Q) := HRE.out.2.2
    clear ho6 hb6 CC HRE
    go_wp2_with fail
    exact bodyPost_ret (v := .tuple #[.slice a6 n c6, .slice none 0 0, .int .i64 kk]) (by simp [results, Tryz.results11, go_sem]) rfl ⟨_, _, by rw [HQE.out], HF.out⟩
  subst hk0
  obtain ⟨g, hlg, y1, y2, y3, y4, y5, y6, y7⟩ := HGO.out rfl
  obtain ⟨hR, hGe, hQe⟩ := HRK.out.2 rfl
  rw [hR] at y1 y2 y3
  rw [y5] at hGe
  obtain ⟨va, X, hD, hV, hN, hf, hk⟩ := HST5.out
  obtain ⟨ax, cx, hat, hrow, hap⟩ := at_some hD hV hlg
  obtain ⟨hgm, hgn⟩ := lookF_mem hlg
  have hgb := hf g hgm
  have CT := atI y w5 M ⟨a, n, c, va, S.aside, nx, x, S.word, X⟩ (by omega) (by show x.size ≤ 1048576; omega) hD
  have hat2 : atX (lookX (folderK x y) X) = .agg #[.string g.name, .int .i64 g.val, .int .i64 g.next, .slice ax g.mails.length cx] := hat
  have CT2 : Calls Tryz.prog 38 #[.pointer (some ⟨M + 1, 0, none⟩), .string y] w5 fun e w' => e = .returned (.agg #[.string g.name, .int .i64 g.val, .int .i64 g.next, .slice ax g.mails.length cx]) ∧ Below w5.heap.size w5 w' := by
    rw [← hat2]
    exact CT
  obtain ⟨gv, hgv⟩ : ∃ t, g.val = t := ⟨_, rfl⟩
  obtain ⟨gx, hgx⟩ : ∃ t, g.next = t := ⟨_, rfl⟩
  obtain ⟨Ms, hMs⟩ : ∃ t, g.mails = t := ⟨_, rfl⟩
  obtain ⟨ml, hml⟩ : ∃ t, Ms.length = t := ⟨_, rfl⟩
  rw [hgn, hgv, hgx, hMs, hml] at CT2
  rw [hMs, hml] at hrow hap
  rw [hMs] at y6 y7 hGe
  rw [hml] at y7
  have HML : Hid (Ms.length = ml) := hml
  have HM6 : Hid (∀ m ∈ Ms, 0 ≤ m.2.1 ∧ m.2.1 ≤ 3) := y6
  have HD5 : Hid (DeskAt w5 M ⟨a, n, c, va, S.aside, nx, x, S.word, X⟩) := hD
  have HVN : Hid (View x X S.fs ∧ (S.fs.map (·.name)).Nodup ∧ (∀ f ∈ S.fs, 1 ≤ f.next ∧ f.next ≤ 999 ∧ f.mails.length ≤ n) ∧ S.aside.length ≤ n) := ⟨hV, hN, hf, hk⟩
  have HRW : Hid (w5.ownsRow (M + 2) 37 3 (.slice ax ml cx) ml (cellsMl Ms) ∧ ∀ z ∈ X, z.k ≠ folderK x y → ∀ b, z.v.ownBlock = some b → Value.ownBlock (.slice ax ml cx) ≠ some b) := ⟨hrow, hap⟩
  have HGB : Hid (1 ≤ gx ∧ gx ≤ 999 ∧ ml ≤ n) := by
    rw [hgx, hMs, hml] at hgb
    exact hgb
  have HYY : Hid (UpL R ∧ (deskP nx x (exS S g)).Perm R ∧ R.length ≤ 60 ∧ (∀ z ∈ (exS S g).fs, FitF z) ∧ goI Ms = G ∧ 0 = Q ∧ g = ⟨y, gv, gx, Ms⟩) := ⟨y1, y2, y3, y4, hGe, hQe, by rw [← hgn, ← hgv, ← hgx, ← hMs]⟩
  have hM5 : M + 2 ≤ w5.heap.size := by
    have h9 : M + 1 < w5.heap.size := World.block_lt_of_cell? _ _ (hD.1 0 _ rfl).1
    omega
  clear hlg y1 y2 y3 y4 y5 y6 hR hGe hQe hD hV hN hf hk hat hrow hap hgm hgb CT hat2 hgv hgx hMs hml HST5 HGO HRK hgn
  go_wp2_with fail
  refine CT2.mono ?_
  rintro e w6 ⟨rfl, hb6⟩
  obtain ⟨w7, hw7⟩ : ∃ W, w6.alloc (.cells #[.string y, .int .i64 gv, .int .i64 gx, .slice ax ml cx] 28) = W := ⟨_, rfl⟩
  have A7 : Below w6.heap.size w6 w7 := by rw [← hw7]; exact (Below.refl _ _).alloc (Nat.le_refl _) _
  have B57 : Hid (Below w5.heap.size w5 w7) := hb6.trans (A7.mono hb6.size)
  have X7 : Hid (Box w7 w6.heap.size [.string y, .int .i64 gv, .int .i64 gx, .slice ax ml cx]) := by show Box _ _ _; rw [← hw7]; exact Box.new rfl
  have B7 : Hid (Below w.heap.size w w7) := B5.out.trans (B57.out.mono B5.out.size)
  have Z7 : Hid (w5.heap.size ≤ w6.heap.size ∧ w6.heap.size < w7.heap.size) := by
    refine ⟨hb6.size, ?_⟩
    rw [← hw7]
    simp
  have hsm : Src w7 ax (cellsMl Ms) := by
    obtain ⟨a9, c9, e9, s9, _⟩ := own_src (own_below HRW.out.1 B57.out)
    cases e9
    exact s9
  have HSM : Hid (Src w7 ax (cellsMl Ms)) := hsm
  obtain ⟨x73, _⟩ := X7.out 3 _ rfl
  clear CT2 hb6 A7 hsm
  go_wp2_with fail
  clear hw7 x73
  go_loopw [13, 42] (fun gv' iv wr => ∃ (j g' : Nat) (av : Option Addr) (vc : Nat), j ≤ ml ∧ g' ≤ ml ∧ gv' = .slice av g' vc ∧ iv = .int .i64 (j : Int) ∧ Hid ((goI (Ms.take j)).length = g') ∧ Hid (wr.ownsRow w7.heap.size 3 1 (.slice av g' vc) g' (cellsI (goI (Ms.take j)))) ∧ Hid (Below w7.heap.size w7 wr)) (fun _ i _ => ml - (RowKit.intOf i).toNat)
  case atStart => exact ⟨0, 0, none, 0, by omega, by omega, rfl, rfl, rfl, World.ownsRow_nil _ _ _ _, Below.refl _ _⟩
  case round =>
    obtain ⟨j, g', av, vc, hj, hg', rfl, rfl, hlen, hog, hbr⟩ := hrel
    by_cases hlt : j < ml
    · have hlti : (j : Int) < (ml : Int) := by omega
      have hjM : j < Ms.length := by rw [HML.out]; exact hlt
      obtain ⟨bm, om, x0, x1, x2, rfl, m0, m1, m2, hx⟩ := srcMl (HSM.out.below hbr.out) hjM
      have hr := HM6.out (Ms.getD j ml0) (mem_getD' Ms ml0 j hjM)
      rw [hx.out] at hr
      dsimp only at hr
      obtain ⟨wa, hwa⟩ : ∃ W, wr.alloc (.cells #[.int .i64 x0, .int .i64 x1, .string x2] 37) = W := ⟨_, rfl⟩
      have AA : Below wr.heap.size wr wa := by rw [← hwa]; exact (Below.refl _ _).alloc (Nat.le_refl _) _
      have XA : Box wa wr.heap.size [.int .i64 x0, .int .i64 x1, .string x2] := by rw [← hwa]; exact Box.new rfl
      obtain ⟨z0, _⟩ := XA 0 _ rfl
      obtain ⟨z1, _⟩ := XA 1 _ rfl
      obtain ⟨z2, _⟩ := XA 2 _ rfl
      have HXA : Hid (Box wa wr.heap.size [.int .i64 x0, .int .i64 x1, .string x2]) := XA
      have BA : Hid (Below w7.heap.size w7 wa) := hbr.out.trans (AA.mono hbr.out.size)
      have OA : Hid (wa.ownsRow w7.heap.size 3 1 (.slice av g' vc) g' (cellsI (goI (Ms.take j)))) := own_below hog.out AA
      cases hbb : delB (x0, x1, x2) with
      | false =>
        obtain ⟨_, k2⟩ := ex_miss (L := L) (u := x) (f := y) hjM (by rw [hx.out]; exact hbb)
        have CDD := deletedI x0 x1 x2 hr.1 hr.2 wa false hbb
        have HLE : Hid ((goI (Ms.take (j + 1))).length = g' ∧ goI (Ms.take (j + 1)) = goI (Ms.take j)) := ⟨by rw [k2]; exact hlen.out, k2⟩
        clear hx hr AA XA hbb k2 hog hlen
        go_wp2_with fail
        refine CDD.mono ?_
        rintro e w8 ⟨rfl, hb8⟩
        have B8 : Hid (Below w7.heap.size w7 w8) := BA.out.trans (hb8.mono BA.out.size)
        have O8 : Hid (w8.ownsRow w7.heap.size 3 1 (.slice av g' vc) g' (cellsI (goI (Ms.take (j + 1))))) := by
          show World.ownsRow _ _ _ _ _ _ _
          rw [HLE.out.2]
          exact own_below OA.out hb8
        clear CDD hb8 OA BA HXA z0 z1 z2 m0 m1 m2 hwa
        go_wp2_with fail
        exact ⟨⟨j + 1, g', _, _, by omega, hg', rfl, by go_num, HLE.out.1, O8.out, B8.out⟩, by simp [RowKit.intOf]; omega⟩
      | true =>
        obtain ⟨_, k2⟩ := ex_hit (L := L) (u := x) (f := y) hjM (by rw [hx.out]; exact hbb)
        rw [hx.out] at k2
        dsimp only at k2
        have CDD := deletedI x0 x1 x2 hr.1 hr.2 wa true hbb
        have HU : Hid (cellsI (goI (Ms.take j)) ++ cellsI [x0] = cellsI (goI (Ms.take (j + 1)))) := by
          show _ = _
          rw [k2, cellsI_append]
        have HLE : Hid ((goI (Ms.take (j + 1))).length = g' + 1) := by
          show _ = _
          rw [k2, List.length_append, hlen.out]
          rfl
        have hg9 : g' + 1 ≤ ml := by
          have h9 := go_len Ms (j + 1)
          rw [HLE.out, HML.out] at h9
          exact h9
        clear hx hr AA XA hbb k2 hog hlen
        go_wp2_with fail
        refine CDD.mono ?_
        rintro e w8 ⟨rfl, hb8⟩
        have B8 : Hid (Below w7.heap.size w7 w8) := BA.out.trans (hb8.mono BA.out.size)
        have O8 : Hid (w8.ownsRow w7.heap.size 3 1 (.slice av g' vc) g' (cellsI (goI (Ms.take j)))) := own_below OA.out hb8
        have X8 : Hid (Box w8 wr.heap.size [.int .i64 x0, .int .i64 x1, .string x2]) := HXA.out.below hb8
        obtain ⟨z80, _⟩ := X8.out 0 _ rfl
        clear CDD hb8 OA BA HXA z0 z1 z2 m0 m1 m2 hwa
        go_wp2_with (at_builtin; refine wpList_append_src _ rfl _ _ 31 rfl w7.heap.size 3 (.int .i64 0) 1 8 Tryz.underlying31 infoI rfl (by decide) (by decide) (.slice av g' vc) g' (cellsI (goI (Ms.take j))) rfl (O8.out.alloc _) (some ⟨w8.heap.size, 0, none⟩) 1 1 (cellsI [x0]) rfl rfl (src_oneI rfl) (cellsI_one _) (by omega) (by have := B8.out.size; simp; omega) ?_)
        intro v' w9 hown hgrow
        obtain ⟨a9, d9, rfl, _, _⟩ := own_src hown
        have B9 : Hid (Below w7.heap.size w7 w9) := (B8.out.alloc B8.out.size _).grown hgrow (le_alloc B8.out.size _) (fun g e => (O8.out.lt g e).1)
        have O9 : Hid (w9.ownsRow w7.heap.size 3 1 (.slice a9 (g' + 1) d9) (g' + 1) (cellsI (goI (Ms.take (j + 1))))) := own_congr hown HU.out
        clear hown hgrow O8 B8 X8 z80
        go_wp2_with fail
        exact ⟨⟨j + 1, g' + 1, _, _, by omega, hg9, rfl, by go_num, HLE.out, O9.out, B9.out⟩, by simp [RowKit.intOf]; omega⟩
    · obtain rfl : j = ml := by omega
      have hlti : ¬ (j : Int) < (j : Int) := by omega
      have e8 : Ms.take j = Ms := List.take_of_length_le (by rw [HML.out]; exact Nat.le_refl _)
      have OGr : Hid (wr.ownsRow w7.heap.size 3 1 (.slice av g' vc) g' (cellsI G) ∧ G.length = g') := by
        have h7 := hog.out
        have h6 := hlen.out
        rw [e8, HYY.out.2.2.2.2.1] at h7 h6
        exact ⟨h7, h6⟩
      have B5r : Hid (Below w5.heap.size w5 wr) := B57.out.trans (hbr.out.mono B57.out.size)
      have Br : Hid (Below w.heap.size w wr) := B7.out.trans (hbr.out.mono B7.out.size)
      have Xr : Hid (Box wr w6.heap.size [.string y, .int .i64 gv, .int .i64 gx, .slice ax j cx]) := X7.out.below hbr.out
      have Dr : DeskAt wr M ⟨a, n, c, va, S.aside, nx, x, S.word, X⟩ := HD5.out.later B5r.out
      have Or : wr.ownsRow (M + 2) 37 3 (.slice ax j cx) j (cellsMl Ms) := own_below HRW.out.1 B5r.out
      obtain ⟨kq, hkq⟩ : ∃ t, (keepM Ms).length = t := ⟨_, rfl⟩
      have hkl : kq ≤ j := by
        rw [← hkq, ← HML.out]
        exact List.length_filter_le _ _
      have CDL := deleteG ax j cx (M + 2) Ms HML.out y7 HM6.out wr Or kq hkq
      have HKQ : Hid ((keepM Ms).length = kq) := hkq
      have HDr : Hid (DeskAt wr M ⟨a, n, c, va, S.aside, nx, x, S.word, X⟩ ∧ wr.ownsRow (M + 2) 37 3 (.slice ax j cx) j (cellsMl Ms)) := ⟨Dr, Or⟩
      obtain ⟨xr3, _⟩ := Xr.out 3 _ rfl
      clear hog hlen e8 hkq Dr Or X7 B57 HSM hbr
      go_wp2_with fail
      refine CDL.mono ?_
      rintro e wd ⟨rfl, hod, hgd⟩
      obtain ⟨ro, hro⟩ : ∃ t, Value.ownBlock (.slice ax j cx) = t := ⟨_, rfl⟩
      rw [hro] at hgd
      have hrlo : ∀ b, ro = some b → M + 2 ≤ b ∧ b < w5.heap.size := fun b hb => by
        rw [← hro] at hb
        exact ⟨(HRW.out.1.lt b hb).1, (HRW.out.1.lt b hb).2⟩
      have boxg : ∀ {P : Nat} {vs : List Value}, Box wr P vs → ro ≠ some P → Box wd P vs := fun {P vs} h9 hne i v hv => by
        obtain ⟨h1, h2⟩ := h9 i v hv
        have hlt9 : P < wr.heap.size := World.block_lt_of_cell? _ _ h1
        have hb9 := hgd.block P hlt9 (fun e => hne e.symm)
        exact ⟨(World.cell?_of_block (a := ⟨P, i, none⟩) hb9).trans h1, (World.frozen?_of_block (a := ⟨P, i, none⟩) hb9).trans h2⟩
      have Xd : Box wd w6.heap.size [.string y, .int .i64 gv, .int .i64 gx, .slice ax j cx] := boxg Xr.out (fun e => by have h9 := hrlo _ e; have h8 := Z7.out.1; omega)
      have Xd2 := Xd.set 3 (.slice ax kq cx)
      obtain ⟨p3, pf3⟩ := Xd 3 _ rfl
      obtain ⟨r0, _⟩ := Xd2 0 _ rfl
      obtain ⟨r1, _⟩ := Xd2 1 _ rfl
      obtain ⟨r2, _⟩ := Xd2 2 _ rfl
      obtain ⟨r3, _⟩ := Xd2 3 _ rfl
      obtain ⟨W8, hW8⟩ : ∃ W, wd.setCell ⟨w6.heap.size, 3, none⟩ (.slice ax kq cx) = W := ⟨_, rfl⟩
      have hM6 : M + 2 ≤ w6.heap.size := by have h9 := Z7.out.1; omega
      have hlo6 : ∀ {v : Value} {b : Nat}, (∀ t, v.ownBlock = some t → t < w5.heap.size) → v.ownBlock ≠ some w6.heap.size := fun {v b} h9 h7 => by
        have h6 := h9 _ h7
        have h5 := Z7.out.1
        omega
      obtain ⟨d1, ⟨cl, d2⟩, d3, d4⟩ := HDr.out.1
      have hlt5 : ∀ z ∈ X, ∀ b, z.v.ownBlock = some b → b < w5.heap.size := fun z hz b hb => (HD5.out.2.2.2.1 z hz).lt b hb |>.2
      have hva5 : ∀ b, va.ownBlock = some b → b < w5.heap.size := fun b hb => (HD5.out.2.2.1.lt b hb).2
      have O8d : wd.ownsRow (M + 2) 37 3 (.slice ax kq cx) kq (cellsMl (keepM Ms)) := hod
      have D8 : DeskH W8 M ⟨a, n, c, va, S.aside, nx, x, S.word, X⟩ := by
        rw [← hW8]
        refine ⟨(boxg d1 (fun e => by have h9 := hrlo _ e; omega)).other _ (by show M + 1 ≠ w6.heap.size; omega) _, ⟨cl, MapIs.setCell ⟨?_, d2.2⟩ _ _ (by show M ≠ w6.heap.size; omega)⟩, own_setOther (own_grown d3 hgd (fun b hb e => by
          rw [← hro] at e
          exact own_ne d3 HDr.out.2 (by decide) b hb e)) (hlo6 (b := 0) hva5) _⟩
        have h9 : M < wr.heap.size := (Array.getElem?_eq_some_iff.1 d2.1).1
        exact (hgd.block M h9 (fun e => by have h8 := hrlo _ e.symm; omega)).trans d2.1
      have hKN : (X.map (·.k)).Nodup := by
        rw [HVN.out.1.keys]
        exact nodup_keys HVN.out.2.1
      have hap2 : ∀ z ∈ X, z.k ≠ folderK x y → ∀ b, z.v.ownBlock = some b → Value.ownBlock (.slice ax kq cx) ≠ some b := fun z hz hzk b hb => by
        have h9 := HRW.out.2 z hz hzk b hb
        cases ax with
        | none => intro e; cases e
        | some ad => exact h9
      have hoB : ∀ b, Value.ownBlock (.slice ax kq cx) = some b → b < w5.heap.size := fun b hb => by
        have h9 : Value.ownBlock (.slice ax j cx) = some b := by
          cases ax with
          | none => cases hb
          | some ad => exact hb
        exact (HRW.out.1.lt b h9).2
      have R8 : ∀ clock, Rows W8 M (setX ⟨folderK x y, 0, y, gv, gx, .slice ax kq cx, keepM Ms⟩ clock X) := fun clock => by
        refine rows_set' (fun z hz hzk => ?_) d4.2 ?_ hKN hap2 clock
        · rw [← hW8]
          refine own_setOther (own_grown (d4.1 z hz) hgd (fun b hb e => ?_)) (hlo6 (b := 0) (hlt5 z hz)) _
          rw [← hro] at e
          exact HRW.out.2 z hz hzk b hb e
        · show World.ownsRow _ _ _ _ _ (keepM Ms).length _
          rw [HKQ.out, ← hW8]
          exact own_setOther O8d (hlo6 (b := 0) hoB) _
      have OG8 : W8.ownsRow (M + 2) 3 1 (.slice av g' vc) g' (cellsI G) := by
        rw [← hW8]
        refine own_mono (own_setOther (own_grown OGr.out.1 hgd (fun b hb e => ?_)) (fun h9 => ?_) _) (show M + 2 ≤ w7.heap.size by have h9 := Z7.out; omega)
        · rw [← hro] at e
          exact own_ne OGr.out.1 HDr.out.2 (by decide) b hb e
        · have h7 := (OGr.out.1.lt _ h9).1
          have h6 := Z7.out.2
          dsimp only at h7
          omega
      have B8 : Below w.heap.size w W8 := by
        rw [← hW8]
        refine (Br.out.trans ⟨hgd.os, hgd.tape, hgd.output, hgd.size, fun b hb => ?_⟩).setCell (by show w.heap.size ≤ w6.heap.size; omega) _
        refine hgd.block b ?_ (fun e => ?_)
        · have h9 := Br.out.size
          omega
        · have h8 := hrlo _ e.symm
          omega
      have CP := putX ⟨folderK x y, 0, y, gv, gx, .slice ax kq cx, keepM Ms⟩ y gv gx ax kq cx W8 M ⟨a, n, c, va, S.aside, nx, x, S.word, X⟩ rfl (by omega) (by show x.size ≤ 1048576; omega) D8 R8
      have H8 : Hid (W8.ownsRow (M + 2) 3 1 (.slice av g' vc) g' (cellsI G) ∧ Below w.heap.size w W8) := ⟨OG8, B8⟩
      rw [hW8] at r0 r1 r2 r3
      clear hod hgd hro hrlo boxg Xd Xd2 hlo6 d1 d2 d3 d4 hlt5 hva5 O8d D8 hKN hap2 hoB R8 OG8 B8 CDL xr3
      go_wp2_with fail
      refine CP.mono ?_
      rintro e w9 ⟨rfl, ⟨clock, hd9⟩, hb9, ho9, _, _⟩
      have hv9 := HVN.out.1.put (y := ⟨folderK x y, 0, y, gv, gx, .slice ax kq cx, keepM Ms⟩) rfl clock
      have B9 : Hid (Below w.heap.size w w9) := H8.out.2.trans (hb9.mono hM2)
      have OG9 : Hid (w9.ownsRow w.heap.size 3 1 (.slice av g' vc) g' (cellsI G)) := own_mono (ho9 _ _ _ _ _ H8.out.1) (by omega)
      have hst9 : StAt w9 M a n c nx x (exS S g) n := by
        rw [HYY.out.2.2.2.2.2.2]
        exact st_putG hd9 hv9 HVN.out.2.1 HVN.out.2.2.1 ⟨HGB.out.1, HGB.out.2.1, by show (keepM Ms).length ≤ n; rw [HKQ.out]; have := HGB.out.2.2; omega⟩ HVN.out.2.2.2
      have CPP := pairsI w9 M a n c nx x (exS S g) n hst9 (by omega) (by omega) n2 HYY.out.2.2.2.1 (by omega) (HG.out.below h8 B9.out) (by omega) R HYY.out.1 HYY.out.2.1 _ rfl (by have := HYY.out.2.2.1; omega)
      clear CP hd9 hb9 ho9 hv9 hst9 p3 pf3 r0 r1 r2 r3 hW8 H8
      go_wp2_with fail
      refine CPP.mono ?_
      rintro e wp ⟨gp, cp, rfl, hop, hbp⟩
      have HF : Hid (wp.ownsRow w.heap.size 68 2 (.slice (some ⟨gp, 0, none⟩) R.length cp) R.length (cellsP R) ∧ wp.ownsRow w.heap.size 3 1 (.slice av g' vc) G.length (cellsI G) ∧ Below w.heap.size w wp) := ⟨own_mono hop B9.out.size, by rw [OGr.out.2]; exact own_below OG9.out hbp, B9.out.trans (hbp.mono B9.out.size)⟩
      have HQ0 : Hid (0 = Q) := HYY.out.2.2.2.2.2.1
      clear CPP hop hbp
      go_wp2_with fail
      exact bodyPost_ret (v := .tuple #[.slice (some ⟨gp, 0, none⟩) R.length cp, .slice av g' vc, .int .i64 0]) (by simp [results, Tryz.results11, go_sem]) rfl ⟨_, _, by rw [HQ0.out], HF.out⟩
end Go.Proofs.YthgbclipknfmjaaGreatDoor
namespace Go.Proofs.YthgbclipknfmjaaGreatDoor
open Go.ChangeShapes Go.WideShapes Go.ChangeAt Go.RowKit Go.Deep Go.Lib
set_option linter.unusedVariables false
end Go.Proofs.YthgbclipknfmjaaGreatDoor
