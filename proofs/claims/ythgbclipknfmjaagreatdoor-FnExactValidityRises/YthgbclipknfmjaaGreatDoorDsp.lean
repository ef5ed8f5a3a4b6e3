
/-
  The desk of a mail store: a folder is looked at, a folder is put. By an AI agent.
-/
import Derived.Test.YthgbclipknfmjaaGreatDoorDsk
namespace Go.Proofs.YthgbclipknfmjaaGreatDoor
open Go.ChangeShapes Go.WideShapes Go.ChangeAt Go.RowKit Go.Deep Go.Lib
open Go.ChangeMaps (setBlock)
set_option linter.unusedVariables false
set_option linter.unusedSimpArgs false
set_option maxRecDepth 100000

theorem sb_block (w : World) (M k : Nat) (o : Obj) (h : k ≠ M) : (setBlock w M o).heap[k]? = w.heap[k]? := by
  show (w.heap.setIfInBounds M o)[k]? = _
  rw [Array.getElem?_setIfInBounds]
  rw [if_neg (fun e => h e.symm)]
theorem sb_same (w : World) (M : Nat) (o : Obj) (h : M < w.heap.size) : (setBlock w M o).heap[M]? = some o := by
  show (w.heap.setIfInBounds M o)[M]? = _
  rw [Array.getElem?_setIfInBounds, if_pos rfl, if_pos h]
theorem sb_grown (w : World) (M : Nat) (o : Obj) : w.grownBy (setBlock w M o) (some M) :=
  ⟨rfl, rfl, rfl, by show w.heap.size ≤ (w.heap.setIfInBounds M o).size; simp, fun k _ hne => sb_block w M k o (fun e => hne (by rw [e]))⟩
theorem sb_below (w : World) (M : Nat) (o : Obj) : Below M w (setBlock w M o) :=
  ⟨rfl, rfl, rfl, by show w.heap.size ≤ (w.heap.setIfInBounds M o).size; simp, fun k hk => sb_block w M k o (by omega)⟩
theorem own_sb {w : World} {base e s n M : Nat} {v : Value} {xs : List Value} (h : w.ownsRow base e s v n xs) (o : Obj) (hM : M < base) : (setBlock w M o).ownsRow base e s v n xs := by
  obtain ⟨hl, h1 | ⟨g, cap, cur, hv, hb, hg, rest⟩⟩ := h
  · exact ⟨hl, .inl h1⟩
  · exact ⟨hl, .inr ⟨g, cap, cur, hv, hb, (sb_block w M g o (by omega)).trans hg, rest⟩⟩
theorem box_sb {w : World} {B M : Nat} {vs : List Value} (h : Box w B vs) (o : Obj) (hM : B ≠ M) : Box (setBlock w M o) B vs := fun i v hv => by
  obtain ⟨h1, h2⟩ := h i v hv
  have h3 := sb_block w M B o hM
  exact ⟨(World.cell?_of_block (a := ⟨B, i, none⟩) h3).trans h1, (World.frozen?_of_block (a := ⟨B, i, none⟩) h3).trans h2⟩
def setX (y : FX) (clock : Nat) : List FX → List FX
  | [] => [{ y with born := clock }]
  | x :: X => if x.k = y.k then { y with born := x.born } :: X else x :: setX y clock X
theorem setX_none (y : FX) (clock : Nat) : ∀ X : List FX, lookX y.k X = none → setX y clock X = X ++ [{ y with born := clock }]
  | [], _ => rfl
  | x :: X, h => by
    unfold lookX at h
    by_cases e : x.k = y.k
    · rw [if_pos e] at h; cases h
    · rw [if_neg e] at h
      rw [setX, if_neg e, setX_none y clock X h]
      rfl
theorem setX_some (y x : FX) (clock : Nat) (B : List FX) (hx : x.k = y.k) : ∀ A : List FX, (∀ z ∈ A, z.k ≠ y.k) → setX y clock (A ++ x :: B) = A ++ { y with born := x.born } :: B
  | [], _ => by rw [List.nil_append, setX, if_pos hx]; rfl
  | z :: A, h => by
    rw [List.cons_append, setX, if_neg (h z List.mem_cons_self), setX_some y x clock B hx A (fun u hu => h u (List.mem_cons_of_mem _ hu))]
    rfl
/-- A folder put into a map, at the operation. -/
theorem run_put {w : World} {M clock : Nat} {X : List FX} (h : MapIs w M clock X) (y : FX) :
    ∃ clock', (Instr.mapUpdate 86 (.map (some M)) (.string y.k) (valX y)).run Tryz.prog w = .ok () (setBlock w M (.map ((setX y clock X).map entX).toArray clock')) ∧
      MapIs (setBlock w M (.map ((setX y clock X).map entX).toArray clock')) M clock' (setX y clock X) := by
  obtain ⟨h1, h2, h3⟩ := h
  have hlt : M < w.heap.size := (Array.getElem?_eq_some_iff.1 h1).1
  cases hl : lookX y.k X with
  | none =>
    rw [setX_none y clock X hl]
    refine ⟨clock + 1, run_put_new h1 { y with born := clock } hl rfl, sb_same _ _ _ hlt, fun x hx => ?_, ?_⟩
    · rcases List.mem_append.1 hx with hx | hx
      · have := h2 x hx; omega
      · simp only [List.mem_singleton] at hx
        rw [hx]
        exact Nat.lt_succ_self clock
    · rw [List.map_append, List.nodup_append]
      refine ⟨h3, by simp, fun a ha b hb => ?_⟩
      obtain ⟨x, hx, rfl⟩ := List.mem_map.1 ha
      simp only [List.map_cons, List.map_nil, List.mem_singleton] at hb
      have := h2 x hx
      omega
  | some x =>
    obtain ⟨A, B, hX, hA, hx⟩ := lookX_some hl
    subst hX
    rw [setX_some y x clock B hx A hA]
    refine ⟨clock, run_put_old h1 { y with born := x.born } hA hx rfl, sb_same _ _ _ hlt, fun z hz => ?_, ?_⟩
    · rcases List.mem_append.1 hz with hz | hz
      · exact h2 z (List.mem_append_left _ hz)
      · rcases List.mem_cons.1 hz with rfl | hz
        · exact h2 x (by simp)
        · exact h2 z (by simp [hz])
    · have e1 : (A ++ { y with born := x.born } :: B).map (·.born) = (A ++ x :: B).map (·.born) := by simp
      rw [e1]
      exact h3

set_option maxHeartbeats 2000000 in
theorem atI (f : ByteArray) (w : World) (M : Nat) (D : DK) (hf : f.size ≤ 1048576) (hu : D.user.size ≤ 1048576) (hD : DeskAt w M D) :
    Calls Tryz.prog 38 #[.pointer (some ⟨M + 1, 0, none⟩), .string f] w fun e w' => e = .returned (atX (lookX (folderK D.user f) D.X)) ∧ Below w.heap.size w w' := by
  have HD : Hid (DeskAt w M D) := hD
  obtain ⟨hbox, ⟨clock, hmap⟩, hasd, hrows⟩ := hD
  obtain ⟨p3, _⟩ := hbox 3 _ rfl
  obtain ⟨p5, _⟩ := hbox 5 _ rfl
  obtain ⟨s9, i9, j9, a9, n9, c9, hlit⟩ := look_lit hrows (folderK D.user f)
  have hm := hmap.1
  have HQ : Hid (∀ o : Obj, (w.alloc o).heap[M]? = some (.map (D.X.map entX).toArray clock) ∧ (w.alloc o).cell? ⟨M + 1, 3, none⟩ = some (.string D.user) ∧ (w.alloc o).cell? ⟨M + 1, 5, none⟩ = some (.map (some M))) := fun o => ⟨(Below.heap_alloc w _ M (Array.getElem?_eq_some_iff.1 hm).1).trans hm, cell_later ((Below.refl _ _).alloc (Nat.le_refl _) _) p3, cell_later ((Below.refl _ _).alloc (Nat.le_refl _) _) p5⟩
  have HA : Hid (∀ o : Obj, Below w.heap.size w (w.alloc o)) := fun o => (Below.refl _ _).alloc (Nat.le_refl _) _
  have HL : Hid (∀ W : World, W.heap[M]? = some (.map (D.X.map entX).toArray clock) → (Instr.lookup 86 (.map (some M)) (.string (folderK D.user f)) false).run Tryz.prog W = .ok (.agg #[.string s9, .int .i64 i9, .int .i64 j9, .slice a9 n9 c9]) W) := fun W h9 => by
    have := run_look h9 (folderK D.user f) false
    rw [hlit] at this
    exact this
  rw [hlit]
  obtain ⟨K9, hK9⟩ : ∃ K, folderK D.user f = K := ⟨_, rfl⟩
  have CK := fun W => folderKeyI D.user f W hu hf
  rw [hK9] at HL
  simp only [hK9] at CK
  clear hbox hmap hasd hrows hlit hK9
  go_enter Tryz.func38, Tryz.ntmps38
  go_wp2_with fail
  refine wp_region_noPanic ?_
  refine wp_region_held_drew (S := fun w' => w'.heap[M]? = some (.map (D.X.map entX).toArray clock) ∧ w'.cell? ⟨M + 1, 3, none⟩ = some (.string D.user) ∧ w'.cell? ⟨M + 1, 5, none⟩ = some (.map (some M))) (by kernel_rfl) (HQ.out _) (fun hHeld => ?_)
  refine tkA (i := 0) (v := .pointer (some ⟨M + 1, 0, none⟩)) ?_ hHeld ?_
  · intro w9 hSw
    obtain ⟨z0, z1, z2⟩ := hSw
    go_simp
  simp only [Act.put, List.setIfInBounds_toArray, List.set_cons_zero, List.set_cons_succ]
  refine tkA (i := 1) (v := .pointer (some ⟨M + 1, 0, none⟩)) ?_ hHeld ?_
  · intro w9 hSw
    obtain ⟨z0, z1, z2⟩ := hSw
    go_simp
  simp only [Act.put, List.setIfInBounds_toArray, List.set_cons_zero, List.set_cons_succ]
  refine tkA (i := 2) (v := .pointer (some ⟨M + 1, 5, none⟩)) ?_ hHeld ?_
  · intro w9 hSw
    obtain ⟨z0, z1, z2⟩ := hSw
    go_simp
  simp only [Act.put, List.setIfInBounds_toArray, List.set_cons_zero, List.set_cons_succ]
  refine tkA (i := 3) (v := .map (some M)) ?_ hHeld ?_
  · intro w9 hSw
    obtain ⟨z0, z1, z2⟩ := hSw
    go_simp
  simp only [Act.put, List.setIfInBounds_toArray, List.set_cons_zero, List.set_cons_succ]
  refine tkA (i := 4) (v := .pointer (some ⟨M + 1, 0, none⟩)) ?_ hHeld ?_
  · intro w9 hSw
    obtain ⟨z0, z1, z2⟩ := hSw
    go_simp
  simp only [Act.put, List.setIfInBounds_toArray, List.set_cons_zero, List.set_cons_succ]
  refine tkA (i := 5) (v := .pointer (some ⟨M + 1, 0, none⟩)) ?_ hHeld ?_
  · intro w9 hSw
    obtain ⟨z0, z1, z2⟩ := hSw
    go_simp
  simp only [Act.put, List.setIfInBounds_toArray, List.set_cons_zero, List.set_cons_succ]
  refine tkA (i := 6) (v := .pointer (some ⟨M + 1, 3, none⟩)) ?_ hHeld ?_
  · intro w9 hSw
    obtain ⟨z0, z1, z2⟩ := hSw
    go_simp
  simp only [Act.put, List.setIfInBounds_toArray, List.set_cons_zero, List.set_cons_succ]
  refine tkA (i := 7) (v := .string D.user) ?_ hHeld ?_
  · intro w9 hSw
    obtain ⟨z0, z1, z2⟩ := hSw
    go_simp
  simp only [Act.put, List.setIfInBounds_toArray, List.set_cons_zero, List.set_cons_succ]
  refine tkA (i := 8) (v := .string f) ?_ hHeld ?_
  · intro w9 hSw
    obtain ⟨z0, z1, z2⟩ := hSw
    go_simp
  simp only [Act.put, List.setIfInBounds_toArray, List.set_cons_zero, List.set_cons_succ]
  refine wpAnyH_ready (rs := [9]) (by kernel_rfl) (by simp) ?_
  refine AllReadyH.cons rfl (fun K hK => ?_) AllReadyH.nil
  go_simp
  refine (CK _).mono ?_
  rintro e w1 ⟨rfl, hw1⟩
  obtain rfl := hw1
  dsimp only
  refine hK _ _ (HQ.out _) (fun hHeld => ?_)
  clear hK K
  refine tkA (i := 10) (v := .agg #[.string s9, .int .i64 i9, .int .i64 j9, .slice a9 n9 c9]) ?_ hHeld ?_
  · intro w9 hSw
    obtain ⟨z0, z1, z2⟩ := hSw
    have h9 := HL.out w9 z0
    go_simp
  simp only [Act.put, List.setIfInBounds_toArray, List.set_cons_zero, List.set_cons_succ]
  refine wpAnyH_ready (rs := [11]) (by kernel_rfl) (by simp) ?_
  refine AllReadyH.cons rfl (fun K hK => ?_) AllReadyH.nil
  go_simp
  refine hK _ _ (HQ.out _) (fun hHeld => ?_)
  clear hK K
  refine wpAnyH_done (by kernel_rfl) ?_ _
  refine NoPanic.normal ?_
  clear hHeld
  go_wp2_with fail
  refine bodyPost_ret (v := .agg #[.string s9, .int .i64 i9, .int .i64 j9, .slice a9 n9 c9]) (by simp [results, Tryz.results38, go_sem]) rfl ⟨rfl, (HA.out _).drew⟩

set_option maxHeartbeats 2000000 in
theorem putI (y : FX) (nm : ByteArray) (vl nx : Int) (ay : Option Addr) (ny cy : Nat) (w : World) (M : Nat) (D : DK) (hy : y = ⟨folderK D.user nm, 0, nm, vl, nx, .slice ay ny cy, y.mails⟩) (hf : nm.size ≤ 1048576) (hu : D.user.size ≤ 1048576) (hD : DeskH w M D) (hR : ∀ clock, Rows w M (setX y clock D.X)) :
    Calls Tryz.prog 43 #[.pointer (some ⟨M + 1, 0, none⟩), .agg #[.string nm, .int .i64 vl, .int .i64 nx, .slice ay ny cy]] w fun e w' => e = .returned (.tuple #[]) ∧ (∃ clock, DeskAt w' M { D with X := setX y clock D.X }) ∧ Below M w w' := by
  have HD : Hid (DeskH w M D) := hD
  obtain ⟨hbox, ⟨clock, hmap⟩, hasd⟩ := hD
  have AL : Below w.heap.size w (w.alloc (.cells #[.string nm, .int .i64 vl, .int .i64 nx, .slice ay ny cy] 28)) := (Below.refl _ _).alloc (Nat.le_refl _) _
  have HAL : Hid (Below w.heap.size w (w.alloc (.cells #[.string nm, .int .i64 vl, .int .i64 nx, .slice ay ny cy] 28))) := AL
  have D1 := HD.out.later AL
  have hlt : M < w.heap.size := (Array.getElem?_eq_some_iff.1 hmap.1).1
  have hlt1 : M + 1 < w.heap.size := World.block_lt_of_cell? _ _ (hbox 0 _ rfl).1
  have HLT : Hid (M < w.heap.size ∧ M + 1 < w.heap.size) := ⟨hlt, hlt1⟩
  obtain ⟨b1, _, a1⟩ := D1
  have m1 := (hmap.later AL)
  have Y0 : Box (w.alloc (.cells #[.string nm, .int .i64 vl, .int .i64 nx, .slice ay ny cy] 28)) w.heap.size [.string nm, .int .i64 vl, .int .i64 nx, .slice ay ny cy] := Box.new rfl
  obtain ⟨p3, _⟩ := b1 3 _ rfl
  obtain ⟨p5, _⟩ := b1 5 _ rfl
  obtain ⟨q0, _⟩ := Y0 0 _ rfl
  obtain ⟨q1, _⟩ := Y0 1 _ rfl
  obtain ⟨q2, _⟩ := Y0 2 _ rfl
  obtain ⟨q3, _⟩ := Y0 3 _ rfl
  obtain ⟨cl, hup, hmi⟩ := run_put (w := (w.alloc (.cells #[.string nm, .int .i64 vl, .int .i64 nx, .slice ay ny cy] 28)).drew) (M := M) (clock := clock) (X := D.X) m1 y
  have hyk : y.k = folderK D.user nm := by rw [hy]
  have hyv : valX y = .agg #[.string nm, .int .i64 vl, .int .i64 nx, .slice ay ny cy] := by rw [hy]
  rw [hyk, hyv] at hup
  obtain ⟨O, hO⟩ : ∃ O, (.map ((setX y clock D.X).map entX).toArray cl : Obj) = O := ⟨_, rfl⟩
  rw [hO] at hup hmi
  obtain ⟨K9, hK9⟩ : ∃ K, folderK D.user nm = K := ⟨_, rfl⟩
  have CK := fun W => folderKeyI D.user nm W hu hf
  rw [hK9] at hup
  simp only [hK9] at CK
  have HF : Hid (DeskAt (setBlock (w.alloc (.cells #[.string nm, .int .i64 vl, .int .i64 nx, .slice ay ny cy] 28)).drew M O) M { D with X := setX y clock D.X }) :=
    ⟨box_sb b1 O (by omega), ⟨cl, hmi⟩, own_sb a1 O (by omega), fun x hx => own_sb (own_below ((hR clock).1 x hx) AL) O (by omega), (hR clock).2⟩
  have HB : Hid (Below M w (setBlock (w.alloc (.cells #[.string nm, .int .i64 vl, .int .i64 nx, .slice ay ny cy] 28)).drew M O)) := (AL.mono (Nat.le_of_lt hlt)).drew.trans (sb_below _ M O)
  have HS : Hid ((setBlock (w.alloc (.cells #[.string nm, .int .i64 vl, .int .i64 nx, .slice ay ny cy] 28)).drew M O).cell? ⟨M + 1, 3, none⟩ = some (.string D.user) ∧ (setBlock (w.alloc (.cells #[.string nm, .int .i64 vl, .int .i64 nx, .slice ay ny cy] 28)).drew M O).cell? ⟨M + 1, 5, none⟩ = some (.map (some M)) ∧ (setBlock (w.alloc (.cells #[.string nm, .int .i64 vl, .int .i64 nx, .slice ay ny cy] 28)).drew M O).cell? ⟨w.heap.size, 0, none⟩ = some (.string nm) ∧ (setBlock (w.alloc (.cells #[.string nm, .int .i64 vl, .int .i64 nx, .slice ay ny cy] 28)).drew M O).cell? ⟨w.heap.size, 1, none⟩ = some (.int .i64 vl) ∧ (setBlock (w.alloc (.cells #[.string nm, .int .i64 vl, .int .i64 nx, .slice ay ny cy] 28)).drew M O).cell? ⟨w.heap.size, 2, none⟩ = some (.int .i64 nx) ∧ (setBlock (w.alloc (.cells #[.string nm, .int .i64 vl, .int .i64 nx, .slice ay ny cy] 28)).drew M O).cell? ⟨w.heap.size, 3, none⟩ = some (.slice ay ny cy)) := by
    have hx := box_sb (M := M) b1 O (by omega)
    have hz := box_sb (M := M) Y0 O (by omega)
    exact ⟨(hx 3 _ rfl).1, (hx 5 _ rfl).1, (hz 0 _ rfl).1, (hz 1 _ rfl).1, (hz 2 _ rfl).1, (hz 3 _ rfl).1⟩
  clear hbox hmap hasd AL b1 a1 m1 Y0 hmi hyk hyv hy hR hO hK9 HD
  go_enter Tryz.func43, Tryz.ntmps43
  go_wp2_with fail
  refine wp_region_noPanic ?_
  refine wp_region_held_drew (S := fun w' => w'.cell? ⟨M + 1, 3, none⟩ = some (.string D.user) ∧ w'.cell? ⟨M + 1, 5, none⟩ = some (.map (some M)) ∧ w'.cell? ⟨w.heap.size, 0, none⟩ = some (.string nm) ∧ w'.cell? ⟨w.heap.size, 1, none⟩ = some (.int .i64 vl) ∧ w'.cell? ⟨w.heap.size, 2, none⟩ = some (.int .i64 nx) ∧ w'.cell? ⟨w.heap.size, 3, none⟩ = some (.slice ay ny cy)) (by kernel_rfl) ⟨p3, p5, q0, q1, q2, q3⟩ (fun hHeld => ?_)
  refine tkA (i := 0) (v := .pointer (some ⟨M + 1, 0, none⟩)) ?_ hHeld ?_
  · intro w9 hSw
    obtain ⟨z0, z1, z2, z3, z4, z5⟩ := hSw
    go_simp
  simp only [Act.put, List.setIfInBounds_toArray, List.set_cons_zero, List.set_cons_succ]
  refine tkA (i := 1) (v := .pointer (some ⟨M + 1, 0, none⟩)) ?_ hHeld ?_
  · intro w9 hSw
    obtain ⟨z0, z1, z2, z3, z4, z5⟩ := hSw
    go_simp
  simp only [Act.put, List.setIfInBounds_toArray, List.set_cons_zero, List.set_cons_succ]
  refine tkA (i := 2) (v := .pointer (some ⟨M + 1, 5, none⟩)) ?_ hHeld ?_
  · intro w9 hSw
    obtain ⟨z0, z1, z2, z3, z4, z5⟩ := hSw
    go_simp
  simp only [Act.put, List.setIfInBounds_toArray, List.set_cons_zero, List.set_cons_succ]
  refine tkA (i := 3) (v := .map (some M)) ?_ hHeld ?_
  · intro w9 hSw
    obtain ⟨z0, z1, z2, z3, z4, z5⟩ := hSw
    go_simp
  simp only [Act.put, List.setIfInBounds_toArray, List.set_cons_zero, List.set_cons_succ]
  refine tkA (i := 4) (v := .pointer (some ⟨M + 1, 0, none⟩)) ?_ hHeld ?_
  · intro w9 hSw
    obtain ⟨z0, z1, z2, z3, z4, z5⟩ := hSw
    go_simp
  simp only [Act.put, List.setIfInBounds_toArray, List.set_cons_zero, List.set_cons_succ]
  refine tkA (i := 5) (v := .pointer (some ⟨M + 1, 0, none⟩)) ?_ hHeld ?_
  · intro w9 hSw
    obtain ⟨z0, z1, z2, z3, z4, z5⟩ := hSw
    go_simp
  simp only [Act.put, List.setIfInBounds_toArray, List.set_cons_zero, List.set_cons_succ]
  refine tkA (i := 6) (v := .pointer (some ⟨M + 1, 3, none⟩)) ?_ hHeld ?_
  · intro w9 hSw
    obtain ⟨z0, z1, z2, z3, z4, z5⟩ := hSw
    go_simp
  simp only [Act.put, List.setIfInBounds_toArray, List.set_cons_zero, List.set_cons_succ]
  refine tkA (i := 7) (v := .string D.user) ?_ hHeld ?_
  · intro w9 hSw
    obtain ⟨z0, z1, z2, z3, z4, z5⟩ := hSw
    go_simp
  simp only [Act.put, List.setIfInBounds_toArray, List.set_cons_zero, List.set_cons_succ]
  refine tkA (i := 8) (v := .pointer (some ⟨w.heap.size, 0, none⟩)) ?_ hHeld ?_
  · intro w9 hSw
    obtain ⟨z0, z1, z2, z3, z4, z5⟩ := hSw
    go_simp
  simp only [Act.put, List.setIfInBounds_toArray, List.set_cons_zero, List.set_cons_succ]
  refine tkA (i := 9) (v := .string nm) ?_ hHeld ?_
  · intro w9 hSw
    obtain ⟨z0, z1, z2, z3, z4, z5⟩ := hSw
    go_simp
  simp only [Act.put, List.setIfInBounds_toArray, List.set_cons_zero, List.set_cons_succ]
  refine tkA (i := 11) (v := .agg #[.string nm, .int .i64 vl, .int .i64 nx, .slice ay ny cy]) ?_ hHeld ?_
  · intro w9 hSw
    obtain ⟨z0, z1, z2, z3, z4, z5⟩ := hSw
    go_simp
  simp only [Act.put, List.setIfInBounds_toArray, List.set_cons_zero, List.set_cons_succ]
  refine wpAnyH_ready (rs := [10]) (by kernel_rfl) (by simp) ?_
  refine AllReadyH.cons rfl (fun K hK => ?_) AllReadyH.nil
  go_simp
  refine (CK _).mono ?_
  rintro e w1 ⟨rfl, hw1⟩
  obtain rfl := hw1
  dsimp only
  refine hK _ _ ⟨p3, p5, q0, q1, q2, q3⟩ (fun hHeld => ?_)
  clear hK K
  refine wpAnyH_ready (rs := [12]) (by kernel_rfl) (by simp) ?_
  refine AllReadyH.cons rfl (fun K hK => ?_) AllReadyH.nil
  go_simp
  refine hK _ _ HS.out (fun hHeld => ?_)
  clear hK K
  refine wpAnyH_done (by kernel_rfl) ?_ _
  refine NoPanic.normal ?_
  clear hHeld
  go_wp2_with fail
  go_end0
  exact ⟨rfl, ⟨clock, HF.out⟩, HB.out⟩
end Go.Proofs.YthgbclipknfmjaaGreatDoor
