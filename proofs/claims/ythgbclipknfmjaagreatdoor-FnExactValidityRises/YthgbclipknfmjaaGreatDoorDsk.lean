
/-
  The desk of a mail store: what lies on it, and its small steps. By an AI agent.
-/
import Derived.Test.YthgbclipknfmjaaGreatDoorMapx
import Derived.Test.YthgbclipknfmjaaGreatDoorInum
import Derived.Test.YthgbclipknfmjaaGreatDoorMsp
import Derived.Deep.RegionHeld3
import Derived.Deep.Cut
import Derived.Deep.CutRange
namespace Go.Proofs.YthgbclipknfmjaaGreatDoor
open Go.ChangeShapes Go.WideShapes Go.ChangeAt Go.RowKit Go.Deep Go.Lib
open Go.ChangeMaps (setBlock)
set_option linter.unusedVariables false
set_option linter.unusedSimpArgs false
set_option maxRecDepth 100000

/-- What lies on a desk. -/
structure DK where
  (a : Option Addr) (n c : Nat) (va : Value) (aside : List PM) (next : Int) (user word : ByteArray) (X : List FX)
abbrev cellsD (M : Nat) (D : DK) : List Value := [.slice D.a D.n D.c, D.va, .int .i64 D.next, .string D.user, .string D.word, .map (some M)]
def Rows (w : World) (M : Nat) (X : List FX) : Prop :=
  (∀ x ∈ X, w.ownsRow (M + 2) 37 3 x.v x.mails.length (cellsMl x.mails)) ∧ X.Pairwise (fun x y => ∀ g, x.v.ownBlock = some g → y.v.ownBlock ≠ some g)
def MapIs (w : World) (M clock : Nat) (X : List FX) : Prop :=
  w.heap[M]? = some (.map (X.map entX).toArray clock) ∧ (∀ x ∈ X, x.born < clock) ∧ (X.map (·.born)).Nodup
def DeskAt (w : World) (M : Nat) (D : DK) : Prop :=
  Box w (M + 1) (cellsD M D) ∧ (∃ clock, MapIs w M clock D.X) ∧ w.ownsRow (M + 2) 68 2 D.va D.aside.length (cellsP D.aside) ∧ Rows w M D.X
/-- A desk but for its folders' mails. -/
def DeskH (w : World) (M : Nat) (D : DK) : Prop :=
  Box w (M + 1) (cellsD M D) ∧ (∃ clock, MapIs w M clock D.X) ∧ w.ownsRow (M + 2) 68 2 D.va D.aside.length (cellsP D.aside)
theorem DeskAt.head {w : World} {M : Nat} {D : DK} (h : DeskAt w M D) : DeskH w M D := ⟨h.1, h.2.1, h.2.2.1⟩
theorem MapIs.later {w w' : World} {M clock : Nat} {X : List FX} (h : MapIs w M clock X) (hb : Below w.heap.size w w') : MapIs w' M clock X := by
  have hlt : M < w.heap.size := (Array.getElem?_eq_some_iff.1 h.1).1
  exact ⟨(hb.block M hlt).trans h.1, h.2⟩
theorem Rows.later {w w' : World} {M : Nat} {X : List FX} (h : Rows w M X) (hb : Below w.heap.size w w') : Rows w' M X := ⟨fun x hx => own_below (h.1 x hx) hb, h.2⟩
theorem DeskAt.later {w w' : World} {M : Nat} {D : DK} (h : DeskAt w M D) (hb : Below w.heap.size w w') : DeskAt w' M D := by
  obtain ⟨h1, ⟨c, h2⟩, h3, h4⟩ := h
  exact ⟨h1.below hb, ⟨c, h2.later hb⟩, own_below h3 hb, h4.later hb⟩
theorem DeskH.later {w w' : World} {M : Nat} {D : DK} (h : DeskH w M D) (hb : Below w.heap.size w w') : DeskH w' M D := by
  obtain ⟨h1, ⟨c, h2⟩, h3⟩ := h
  exact ⟨h1.below hb, ⟨c, h2.later hb⟩, own_below h3 hb⟩
theorem look_mem {k : ByteArray} {X : List FX} {x : FX} (h : lookX k X = some x) : x ∈ X := by
  obtain ⟨A, B, h1, _, _⟩ := lookX_some h
  rw [h1]; simp
theorem look_lit {w : World} {M : Nat} {X : List FX} (h : Rows w M X) (k : ByteArray) : ∃ s i j a n c, atX (lookX k X) = .agg #[.string s, .int .i64 i, .int .i64 j, .slice a n c] := by
  cases hl : lookX k X with
  | none => exact ⟨_, _, _, _, _, _, rfl⟩
  | some x =>
    obtain ⟨a, c, hv, _, _⟩ := own_src (h.1 x (look_mem hl))
    exact ⟨x.name, x.val, x.next, a, x.mails.length, c, by show valX x = _; unfold valX; rw [hv]⟩
theorem folderKeyI (u f : ByteArray) (w : World) (hu : u.size ≤ 1048576) (hf : f.size ≤ 1048576) : Calls Tryz.prog 79 #[.string u, .string f] w fun e w' => e = .returned (.string (folderK u f)) ∧ w' = w := by
  go_enter Tryz.func79, Tryz.ntmps79
  go_wp2_with fail
  go_ret
  exact ⟨rfl, rfl⟩
theorem userKeyI (u : ByteArray) (w : World) (hu : u.size ≤ 1048576) : Calls Tryz.prog 61 #[.string u] w fun e w' => e = .returned (.string (userK u)) ∧ w' = w := by
  go_enter Tryz.func61, Tryz.ntmps61
  go_wp2_with fail
  go_ret
  exact ⟨rfl, rfl⟩

set_option maxHeartbeats 2000000 in
theorem hasI (f : ByteArray) (w : World) (M : Nat) (D : DK) (hf : f.size ≤ 1048576) (hu : D.user.size ≤ 1048576) (hD : DeskAt w M D) (bb : Bool) (hbb : (lookX (folderK D.user f) D.X).isSome = bb) :
    Calls Tryz.prog 80 #[.pointer (some ⟨M + 1, 0, none⟩), .string f] w fun e w' => e = .returned (.bool bb) ∧ Below w.heap.size w w' := by
  have HD : Hid (DeskAt w M D) := hD
  obtain ⟨hbox, ⟨clock, hmap⟩, hasd, hrows⟩ := hD
  obtain ⟨p3, _⟩ := hbox 3 _ rfl
  obtain ⟨p5, _⟩ := hbox 5 _ rfl
  obtain ⟨s9, i9, j9, a9, n9, c9, hlit⟩ := look_lit hrows (folderK D.user f)
  have hm := hmap.1
  have HQ : Hid (∀ o : Obj, (w.alloc o).heap[M]? = some (.map (D.X.map entX).toArray clock) ∧ (w.alloc o).cell? ⟨M + 1, 3, none⟩ = some (.string D.user) ∧ (w.alloc o).cell? ⟨M + 1, 5, none⟩ = some (.map (some M))) := fun o => ⟨(Below.heap_alloc w _ M (Array.getElem?_eq_some_iff.1 hm).1).trans hm, cell_later ((Below.refl _ _).alloc (Nat.le_refl _) _) p3, cell_later ((Below.refl _ _).alloc (Nat.le_refl _) _) p5⟩
  have HA : Hid (∀ o : Obj, Below w.heap.size w (w.alloc o)) := fun o => (Below.refl _ _).alloc (Nat.le_refl _) _
  have HL : Hid (∀ W : World, W.heap[M]? = some (.map (D.X.map entX).toArray clock) → (Instr.lookup 86 (.map (some M)) (.string (folderK D.user f)) true).run Tryz.prog W = .ok (.tuple #[.agg #[.string s9, .int .i64 i9, .int .i64 j9, .slice a9 n9 c9], .bool bb]) W) := fun W h9 => by
    have := run_look h9 (folderK D.user f) true
    rw [hlit, hbb] at this
    exact this
  obtain ⟨K9, hK9⟩ : ∃ K, folderK D.user f = K := ⟨_, rfl⟩
  have CK := fun W => folderKeyI D.user f W hu hf
  rw [hK9] at HL
  simp only [hK9] at CK
  clear hbox hmap hasd hrows hlit hbb hK9
  go_enter Tryz.func80, Tryz.ntmps80
  go_wp2_with fail
  refine wp_region_noPanic ?_
  refine wp_region_held_drew (S := fun w' => w'.heap[M]? = some (.map (D.X.map entX).toArray clock) ∧ w'.cell? ⟨M + 1, 3, none⟩ = some (.string D.user) ∧ w'.cell? ⟨M + 1, 5, none⟩ = some (.map (some M))) (by kernel_rfl) ⟨hm, p3, p5⟩ (fun hHeld => ?_)
  refine tkA (i := 0) (v := .pointer (some ⟨M + 1, 0, none⟩)) ?_ hHeld ?_
  · intro w9 hSw
    obtain ⟨z0, z1, z2⟩ := hSw
    go_simp
  simp only [Act.put, List.setIfInBounds_toArray, List.set_cons_zero, List.set_cons_succ]
  refine tkA (i := 1) (v := .pointer (some ⟨M + 1, 0, none⟩)) ?_ hHeld ?_
  · intro w9 hSw
    obtain ⟨z0, z1, z2⟩ := hSw
    go_simp
  simp only [Act.put, List.setIfInBounds_toArray, List.set_cons_zero, List.set_cons_succ]
  refine tkA (i := 2) (v := .pointer (some ⟨M + 1, 5, none⟩)) ?_ hHeld ?_
  · intro w9 hSw
    obtain ⟨z0, z1, z2⟩ := hSw
    go_simp
  simp only [Act.put, List.setIfInBounds_toArray, List.set_cons_zero, List.set_cons_succ]
  refine tkA (i := 3) (v := .map (some M)) ?_ hHeld ?_
  · intro w9 hSw
    obtain ⟨z0, z1, z2⟩ := hSw
    go_simp
  simp only [Act.put, List.setIfInBounds_toArray, List.set_cons_zero, List.set_cons_succ]
  refine tkA (i := 4) (v := .pointer (some ⟨M + 1, 0, none⟩)) ?_ hHeld ?_
  · intro w9 hSw
    obtain ⟨z0, z1, z2⟩ := hSw
    go_simp
  simp only [Act.put, List.setIfInBounds_toArray, List.set_cons_zero, List.set_cons_succ]
  refine tkA (i := 5) (v := .pointer (some ⟨M + 1, 0, none⟩)) ?_ hHeld ?_
  · intro w9 hSw
    obtain ⟨z0, z1, z2⟩ := hSw
    go_simp
  simp only [Act.put, List.setIfInBounds_toArray, List.set_cons_zero, List.set_cons_succ]
  refine tkA (i := 6) (v := .pointer (some ⟨M + 1, 3, none⟩)) ?_ hHeld ?_
  · intro w9 hSw
    obtain ⟨z0, z1, z2⟩ := hSw
    go_simp
  simp only [Act.put, List.setIfInBounds_toArray, List.set_cons_zero, List.set_cons_succ]
  refine tkA (i := 7) (v := .string D.user) ?_ hHeld ?_
  · intro w9 hSw
    obtain ⟨z0, z1, z2⟩ := hSw
    go_simp
  simp only [Act.put, List.setIfInBounds_toArray, List.set_cons_zero, List.set_cons_succ]
  refine tkA (i := 8) (v := .string f) ?_ hHeld ?_
  · intro w9 hSw
    obtain ⟨z0, z1, z2⟩ := hSw
    go_simp
  simp only [Act.put, List.setIfInBounds_toArray, List.set_cons_zero, List.set_cons_succ]
  refine wpAnyH_ready (rs := [9, 14]) (by kernel_rfl) (by simp) ?_
  refine AllReadyH.cons rfl (fun K hK => ?_) (AllReadyH.cons rfl (fun K hK => ?_) AllReadyH.nil)
  · skip
    go_simp
    refine (CK _).mono ?_
    rintro e w1 ⟨rfl, hw1⟩
    obtain rfl := hw1
    dsimp only
    refine hK _ _ ⟨hm, p3, p5⟩ (fun hHeld => ?_)
    clear hK K
    refine tkA (i := 10) (v := .tuple #[.agg #[.string s9, .int .i64 i9, .int .i64 j9, .slice a9 n9 c9], .bool bb]) ?_ hHeld ?_
    · intro w9 hSw
      obtain ⟨z0, z1, z2⟩ := hSw
      have h9 := HL.out w9 z0
      go_simp
    simp only [Act.put, List.setIfInBounds_toArray, List.set_cons_zero, List.set_cons_succ]
    refine tkA (i := 11) (v := .tuple #[.agg #[.string s9, .int .i64 i9, .int .i64 j9, .slice a9 n9 c9], .bool bb]) ?_ hHeld ?_
    · intro w9 hSw
      obtain ⟨z0, z1, z2⟩ := hSw
      go_simp
    simp only [Act.put, List.setIfInBounds_toArray, List.set_cons_zero, List.set_cons_succ]
    refine tkA (i := 12) (v := .agg #[.string s9, .int .i64 i9, .int .i64 j9, .slice a9 n9 c9]) ?_ hHeld ?_
    · intro w9 hSw
      obtain ⟨z0, z1, z2⟩ := hSw
      go_simp
    simp only [Act.put, List.setIfInBounds_toArray, List.set_cons_zero, List.set_cons_succ]
    refine tkA (i := 13) (v := .bool bb) ?_ hHeld ?_
    · intro w9 hSw
      obtain ⟨z0, z1, z2⟩ := hSw
      go_simp
    simp only [Act.put, List.setIfInBounds_toArray, List.set_cons_zero, List.set_cons_succ]
    refine wpAnyH_ready (rs := [14]) (by kernel_rfl) (by simp) ?_
    refine AllReadyH.cons rfl (fun K hK => ?_) AllReadyH.nil
    go_simp
    refine hK _ _ (HQ.out _) (fun hHeld => ?_)
    clear hK K
    refine wpAnyH_ready (rs := [15]) (by kernel_rfl) (by simp) ?_
    refine AllReadyH.cons rfl (fun K hK => ?_) AllReadyH.nil
    go_simp
    refine hK _ _ (HQ.out _) (fun hHeld => ?_)
    clear hK K
    refine wpAnyH_ready (rs := [16]) (by kernel_rfl) (by simp) ?_
    refine AllReadyH.cons rfl (fun K hK => ?_) AllReadyH.nil
    go_simp
    refine hK _ _ (HQ.out _) (fun hHeld => ?_)
    clear hK K
    refine wpAnyH_done (by kernel_rfl) ?_ _
    refine NoPanic.normal ?_
    clear hHeld
    go_wp2_with fail
    go_ret
    exact ⟨rfl, (HA.out _).drew⟩
  · skip
    go_simp
    refine hK _ _ (HQ.out _) (fun hHeld => ?_)
    clear hK K
    refine wpAnyH_ready (rs := [9]) (by kernel_rfl) (by simp) ?_
    refine AllReadyH.cons rfl (fun K hK => ?_) AllReadyH.nil
    go_simp
    refine (CK _).mono ?_
    rintro e w1 ⟨rfl, hw1⟩
    obtain rfl := hw1
    dsimp only
    refine hK _ _ (HQ.out _) (fun hHeld => ?_)
    clear hK K
    refine tkA (i := 10) (v := .tuple #[.agg #[.string s9, .int .i64 i9, .int .i64 j9, .slice a9 n9 c9], .bool bb]) ?_ hHeld ?_
    · intro w9 hSw
      obtain ⟨z0, z1, z2⟩ := hSw
      have h9 := HL.out w9 z0
      go_simp
    simp only [Act.put, List.setIfInBounds_toArray, List.set_cons_zero, List.set_cons_succ]
    refine tkA (i := 11) (v := .tuple #[.agg #[.string s9, .int .i64 i9, .int .i64 j9, .slice a9 n9 c9], .bool bb]) ?_ hHeld ?_
    · intro w9 hSw
      obtain ⟨z0, z1, z2⟩ := hSw
      go_simp
    simp only [Act.put, List.setIfInBounds_toArray, List.set_cons_zero, List.set_cons_succ]
    refine tkA (i := 12) (v := .agg #[.string s9, .int .i64 i9, .int .i64 j9, .slice a9 n9 c9]) ?_ hHeld ?_
    · intro w9 hSw
      obtain ⟨z0, z1, z2⟩ := hSw
      go_simp
    simp only [Act.put, List.setIfInBounds_toArray, List.set_cons_zero, List.set_cons_succ]
    refine tkA (i := 13) (v := .bool bb) ?_ hHeld ?_
    · intro w9 hSw
      obtain ⟨z0, z1, z2⟩ := hSw
      go_simp
    simp only [Act.put, List.setIfInBounds_toArray, List.set_cons_zero, List.set_cons_succ]
    refine wpAnyH_ready (rs := [15]) (by kernel_rfl) (by simp) ?_
    refine AllReadyH.cons rfl (fun K hK => ?_) AllReadyH.nil
    go_simp
    refine hK _ _ (HQ.out _) (fun hHeld => ?_)
    clear hK K
    refine wpAnyH_ready (rs := [16]) (by kernel_rfl) (by simp) ?_
    refine AllReadyH.cons rfl (fun K hK => ?_) AllReadyH.nil
    go_simp
    refine hK _ _ (HQ.out _) (fun hHeld => ?_)
    clear hK K
    refine wpAnyH_done (by kernel_rfl) ?_ _
    refine NoPanic.normal ?_
    clear hHeld
    go_wp2_with fail
    go_ret
    exact ⟨rfl, (HA.out _).drew⟩
end Go.Proofs.YthgbclipknfmjaaGreatDoor
