/-
  Drp Sdr Dfi Ltx Ltsx in one. By an AI agent.
-/
import Derived.Test.YthejpemiaenfpaaGreatDoorMzb
import Derived.Test.YthejpemiaenfpaaGreatDoorUnder
namespace Go.Proofs.YthejpemiaenfpaaGreatDoor
open Go.ChangeShapes Go.WideShapes Go.ChangeAt Go.RowKit Go.Deep Go.Lib
open Go.ChangeMaps (setBlock)
set_option linter.unusedVariables false
set_option linter.unusedSimpArgs false
set_option maxRecDepth 100000

def dropX (k : ByteArray) : List FX → List FX
  | [] => []
  | x :: X => if x.k = k then X else x :: dropX k X
theorem dropX_some (k : ByteArray) (x : FX) (B : List FX) (hx : x.k = k) : ∀ A : List FX, (∀ z ∈ A, z.k ≠ k) → dropX k (A ++ x :: B) = A ++ B
  | [], _ => by rw [List.nil_append, dropX, if_pos hx]; rfl
  | z :: A, h => by
    rw [List.cons_append, dropX, if_neg (h z List.mem_cons_self), dropX_some k x B hx A (fun u hu => h u (List.mem_cons_of_mem _ hu))]
    rfl
theorem dropX_sub (k : ByteArray) : ∀ X : List FX, (dropX k X).Sublist X
  | [] => List.Sublist.refl _
  | x :: X => by
    unfold dropX
    split
    · exact List.sublist_cons_self _ _
    · exact (dropX_sub k X).cons_cons x
theorem View.drop {u n : ByteArray} : ∀ {X : List FX} {fs : List FM}, View u X fs → View u (dropX (folderK u n) X) (dropF n fs)
  | [], [], _ => rfl
  | [], _ :: _, h => by cases h
  | _ :: _, [], h => by cases h
  | x :: X, f :: fs, h => by
    unfold View at h
    simp only [List.map_cons, List.cons.injEq, Prod.mk.injEq] at h
    obtain ⟨⟨h1, h2⟩, h3⟩ := h
    have ih := View.drop (u := u) (n := n) (X := X) (fs := fs) h3
    unfold dropX dropF
    by_cases e : f.name = n
    · rw [if_pos e, if_pos (by rw [h1, e])]
      exact h3
    · rw [if_neg e, if_neg (fun e2 => e (folderK_inj (h1.symm.trans e2)))]
      unfold View at ih ⊢
      simp only [List.map_cons]
      rw [ih, h1, h2]
theorem run_del {w : World} {M clock : Nat} {X : List FX} (h : MapIs w M clock X) (k : ByteArray) (hx : (lookX k X).isSome = true) (ty : TypeId) :
    (Builtin.delete_ #[97, 9] ty #[.map (some M), .string k]).run Tryz.prog w = .ok (.tuple #[]) (setBlock w M (.map ((dropX k X).map entX).toArray clock)) ∧ MapIs (setBlock w M (.map ((dropX k X).map entX).toArray clock)) M clock (dropX k X) := by
  obtain ⟨hb, h2, h3⟩ := h
  have hlt : M < w.heap.size := (Array.getElem?_eq_some_iff.1 hb).1
  constructor
  · obtain ⟨x, hl⟩ := Option.isSome_iff_exists.1 hx
    obtain ⟨A, B, rfl, k3, k4⟩ := lookX_some hl
    have h1 := MapKept.run_findKey (P := Tryz.prog) (w := w) Tryz.underlying9 (find_yes k x B k4 A 0 k3)
    have e : ((A ++ B).map entX).toArray = ((A ++ x :: B).map entX).toArray.eraseIdxIfInBounds (0 + A.length) := by
      unfold Array.eraseIdxIfInBounds
      rw [dif_pos (by simp)]
      apply Array.ext'
      rw [Array.toList_eraseIdx]
      simp [List.eraseIdx_append_of_length_le]
    rw [dropX_some k x B k4 A k3, e]
    generalize (A ++ x :: B).map entX = E at hb h1 ⊢
    simp [Builtin.delete_, run_underlying Tryz.underlying97, MapKept.run_getObj_map hb, MapKept.run_checkKey (P := Tryz.prog) Tryz.underlying9 (isKeyS k), h1, MapKept.run_setObj_map _ hb, Result.andThen, setBlock]
  · refine ⟨sb_same _ _ _ hlt, fun z hz => h2 z ((dropX_sub k X).subset hz), ?_⟩
    exact h3.sublist ((dropX_sub k X).map _)
theorem rows_drop {w : World} {M : Nat} {X : List FX} (h : Rows w M X) (k : ByteArray) : Rows w M (dropX k X) := ⟨fun x hx => h.1 x ((dropX_sub k X).subset hx), h.2.sublist (dropX_sub k X)⟩
set_option maxHeartbeats 2000000 in
theorem dropI (f : ByteArray) (w : World) (M : Nat) (D : DK) (hf : f.size ≤ 1048576) (hu : D.user.size ≤ 1048576) (hD : DeskAt w M D) (hx : (lookX (folderK D.user f) D.X).isSome = true) :
    Calls Tryz.prog 99 #[.pointer (some ⟨M + 1, 0, none⟩), .string f] w fun e w' => e = .returned (.tuple #[]) ∧ DeskAt w' M { D with X := dropX (folderK D.user f) D.X } ∧ Below M w w' := by
  obtain ⟨hbox, ⟨clock, hmap⟩, hasd, hrows⟩ := hD
  obtain ⟨p3, _⟩ := hbox 3 _ rfl
  obtain ⟨p5, _⟩ := hbox 5 _ rfl
  have hlt : M < w.heap.size := (Array.getElem?_eq_some_iff.1 hmap.1).1
  have m1 : MapIs w.drew M clock D.X := hmap
  obtain ⟨hdel, hmi⟩ := run_del m1 (folderK D.user f) hx 0
  obtain ⟨O, hO⟩ : ∃ O, (.map ((dropX (folderK D.user f) D.X).map entX).toArray clock : Obj) = O := ⟨_, rfl⟩
  rw [hO] at hdel hmi
  have CK := fun W => folderKeyI D.user f W hu hf
  obtain ⟨K9, hK9⟩ : ∃ K, folderK D.user f = K := ⟨_, rfl⟩
  have HF : Hid (DeskAt (setBlock w.drew M O) M { D with X := dropX (folderK D.user f) D.X }) :=
    ⟨box_sb (w := w.drew) hbox O (by omega), ⟨clock, hmi⟩, own_sb (w := w.drew) hasd O (by omega), fun x hx => own_sb (w := w.drew) ((rows_drop hrows _).1 x hx) O (by omega), (rows_drop hrows _).2⟩
  have HB : Hid (Below M w (setBlock w.drew M O)) := (Below.refl _ _).drew.trans (sb_below _ M O)
  have HS : Hid ((setBlock w.drew M O).cell? ⟨M + 1, 3, none⟩ = some (.string D.user) ∧ (setBlock w.drew M O).cell? ⟨M + 1, 5, none⟩ = some (.map (some M))) := by
    have hx := box_sb (w := w.drew) (M := M) hbox O (by omega)
    exact ⟨(hx 3 _ rfl).1, (hx 5 _ rfl).1⟩
  rw [hK9] at hdel
  simp only [hK9] at CK
  obtain ⟨us, hus⟩ : ∃ x, D.user = x := ⟨_, rfl⟩
  have p3' : w.cell? ⟨M + 1, 3, none⟩ = some (.string us) := by rw [← hus]; exact p3
  rw [hus] at HS
  simp only [hus] at CK
  clear hbox hmap hasd hrows m1 hmi hO hK9 hx hus p3
  go_enter Tryz.func99, Tryz.ntmps99
  go_wp2_with fail
  refine wp_region_noPanic ?_
  refine wp_region_held_drew (S := fun w' => w'.cell? ⟨M + 1, 3, none⟩ = some (.string us) ∧ w'.cell? ⟨M + 1, 5, none⟩ = some (.map (some M))) (by kernel_rfl) ⟨p3', p5⟩ (fun hHeld => ?_)
  refine tkA (i := 0) (v := .pointer (some ⟨M + 1, 0, none⟩)) ?_ hHeld ?_
  · intro w9 hSw
    obtain ⟨z0, z1⟩ := hSw
    go_simp
  simp only [Act.put, List.setIfInBounds_toArray, List.set_cons_zero, List.set_cons_succ]
  refine tkA (i := 1) (v := .pointer (some ⟨M + 1, 0, none⟩)) ?_ hHeld ?_
  · intro w9 hSw
    obtain ⟨z0, z1⟩ := hSw
    go_simp
  simp only [Act.put, List.setIfInBounds_toArray, List.set_cons_zero, List.set_cons_succ]
  refine tkA (i := 2) (v := .pointer (some ⟨M + 1, 5, none⟩)) ?_ hHeld ?_
  · intro w9 hSw
    obtain ⟨z0, z1⟩ := hSw
    go_simp
  simp only [Act.put, List.setIfInBounds_toArray, List.set_cons_zero, List.set_cons_succ]
  refine tkA (i := 3) (v := .map (some M)) ?_ hHeld ?_
  · intro w9 hSw
    obtain ⟨z0, z1⟩ := hSw
    go_simp
  simp only [Act.put, List.setIfInBounds_toArray, List.set_cons_zero, List.set_cons_succ]
  refine tkA (i := 4) (v := .pointer (some ⟨M + 1, 0, none⟩)) ?_ hHeld ?_
  · intro w9 hSw
    obtain ⟨z0, z1⟩ := hSw
    go_simp
  simp only [Act.put, List.setIfInBounds_toArray, List.set_cons_zero, List.set_cons_succ]
  refine tkA (i := 5) (v := .pointer (some ⟨M + 1, 0, none⟩)) ?_ hHeld ?_
  · intro w9 hSw
    obtain ⟨z0, z1⟩ := hSw
    go_simp
  simp only [Act.put, List.setIfInBounds_toArray, List.set_cons_zero, List.set_cons_succ]
  refine tkA (i := 6) (v := .pointer (some ⟨M + 1, 3, none⟩)) ?_ hHeld ?_
  · intro w9 hSw
    obtain ⟨z0, z1⟩ := hSw
    go_simp
  simp only [Act.put, List.setIfInBounds_toArray, List.set_cons_zero, List.set_cons_succ]
  refine tkA (i := 7) (v := .string us) ?_ hHeld ?_
  · intro w9 hSw
    obtain ⟨z0, z1⟩ := hSw
    go_simp
  simp only [Act.put, List.setIfInBounds_toArray, List.set_cons_zero, List.set_cons_succ]
  refine tkA (i := 8) (v := .string f) ?_ hHeld ?_
  · intro w9 hSw
    obtain ⟨z0, z1⟩ := hSw
    go_simp
  simp only [Act.put, List.setIfInBounds_toArray, List.set_cons_zero, List.set_cons_succ]
  refine wpAnyH_ready (rs := [9]) (by kernel_rfl) (by simp) ?_
  refine AllReadyH.cons rfl (fun K hK => ?_) AllReadyH.nil
  go_simp
  refine (CK _).mono ?_
  rintro e wk ⟨rfl, hwk⟩
  obtain rfl := hwk.symm
  dsimp only
  refine hK _ _ ⟨p3', p5⟩ (fun hHeld => ?_)
  clear hK K
  refine wpAnyH_ready (rs := [10]) (by kernel_rfl) (by simp) ?_
  refine AllReadyH.cons rfl (fun K hK => ?_) AllReadyH.nil
  go_simp
  refine hK _ _ HS.out (fun hHeld => ?_)
  clear hK K
  refine wpAnyH_done (by kernel_rfl) ?_ _
  refine NoPanic.normal ?_
  clear hHeld
  go_wp2_with fail
  go_end0
  exact ⟨rfl, HF.out, HB.out⟩
def dropM (nx : Int) (S : SM) (f : ByteArray) : Int × Int × SM := if S.word.toList = [] then (15, nx, S) else if (lookF f S.fs).isSome = false then (16, nx, S) else if f = inboxT then (11, nx, S) else (0, nx, ⟨S.aside, S.word, dropF f S.fs⟩)
theorem dropF_sub (n : ByteArray) : ∀ fs : List FM, (dropF n fs).Sublist fs
  | [] => List.Sublist.refl _
  | x :: X => by
    unfold dropF
    split
    · exact List.sublist_cons_self _ _
    · exact (dropF_sub n X).cons_cons x
set_option maxHeartbeats 2000000 in
theorem dropFolderI (w : World) (M : Nat) (a : Option Addr) (n c : Nat) (nx : Int) (u : ByteArray) (S : SM) (k : Nat) (hS : StAt w M a n c nx u S k) (f : ByteArray) (hfz : f.size ≤ 1000) (hu : u.size ≤ 1000) (n0 : 0 ≤ nx) (n1 : nx ≤ 10000) (q nx' : Int) (S' : SM) (HQ : Hid (dropM nx S f = (q, nx', S'))) :
    Calls Tryz.prog 62 #[.pointer (some ⟨M + 1, 0, none⟩), .string f] w fun e w' => e = .returned (.int .i64 q) ∧ StAt w' M a n c nx' u S' k ∧ Below M w w' := by
  have hq9 := HQ.out
  unfold dropM at hq9
  have AL : Below w.heap.size w (w.alloc (.cells #[.string f] 9)) := (Below.refl _ _).alloc (Nat.le_refl _) _
  have HST : Hid (StAt (w.alloc (.cells #[.string f] 9)) M a n c nx u S k) := hS.later AL
  have hM : M ≤ w.heap.size := by
    obtain ⟨_, _, hD, _⟩ := hS
    have h9 : M + 1 < w.heap.size := World.block_lt_of_cell? _ _ (hD.1 0 _ rfl).1
    omega
  have HAL : Hid (Below w.heap.size w (w.alloc (.cells #[.string f] 9))) := AL
  obtain ⟨lq, hlq⟩ : ∃ x, lackM S.word S.fs [f] = x := ⟨_, rfl⟩
  have CL := lacksI (w.alloc (.cells #[.string f] 9)) M a n c nx u S k HST.out hu (some ⟨w.heap.size, 0, none⟩) 1 1 [f] rfl (by omega) (fun s hs => by rw [List.mem_singleton.1 hs]; omega) (src_1S rfl) lq hlq
  have hbad : ∀ z : Int, z ≠ 0 → lq = z → (q, nx', S') = (z, nx, S) → Calls Tryz.prog 62 #[.pointer (some ⟨M + 1, 0, none⟩), .string f] w fun e w' => e = .returned (.int .i64 q) ∧ StAt w' M a n c nx' u S' k ∧ Below M w w' := by
    intro z hz hl he
    cases he
    subst hl
    have hzi : (lq != 0) = true := by simpa using hz
    clear HQ hq9 hlq hS AL
    go_enter Tryz.func62, Tryz.ntmps62
    go_wp2_with fail
    refine CL.mono ?_
    rintro e w1 ⟨rfl, hb1⟩
    have HF : Hid (StAt w1 M a n c nx u S k ∧ Below M w w1) := ⟨HST.out.later hb1, (HAL.out.trans (hb1.mono HAL.out.size)).mono hM⟩
    clear CL hb1
    go_wp2_with fail
    go_ret
    exact ⟨rfl, HF.out.1, HF.out.2⟩
  by_cases hw : S.word.toList = []
  · rw [if_pos hw] at hq9
    exact hbad 15 (by decide) (by rw [← hlq]; unfold lackM; rw [if_pos hw]) hq9.symm
  rw [if_neg hw] at hq9
  by_cases hl : (lookF f S.fs).isSome = false
  · rw [if_pos hl] at hq9
    exact hbad 16 (by decide) (by rw [← hlq]; unfold lackM; rw [if_neg hw, if_pos (by show ((lookF f S.fs).isSome && true) = false; rw [hl]; rfl)]) hq9.symm
  rw [if_neg hl] at hq9
  have hlt : (lookF f S.fs).isSome = true := by
    cases h9 : (lookF f S.fs).isSome with
    | true => rfl
    | false => exact absurd h9 hl
  obtain rfl : 0 = lq := by rw [← hlq]; unfold lackM; rw [if_neg hw, if_neg (by show ¬ ((lookF f S.fs).isSome && true) = false; rw [hlt]; decide)]
  clear hbad hlq
  by_cases hi : f = inboxT
  · rw [if_pos hi] at hq9
    cases hq9
    have hib : (f.toList == [105, 110, 98, 111, 120]) = true := by rw [hi, ByteArray.toList_eq]; rfl
    clear HQ hS AL hi hl hlt hw
    go_enter Tryz.func62, Tryz.ntmps62
    go_wp2_with fail
    refine CL.mono ?_
    rintro e w1 ⟨rfl, hb1⟩
    have HF : Hid (StAt w1 M a n c nx u S k ∧ Below M w w1) := ⟨HST.out.later hb1, (HAL.out.trans (hb1.mono HAL.out.size)).mono hM⟩
    clear CL hb1
    go_wp2_with fail
    go_ret
    exact ⟨rfl, HF.out.1, HF.out.2⟩
  · rw [if_neg hi] at hq9
    cases hq9
    have hib : (f.toList == [105, 110, 98, 111, 120]) = false := by
      refine beq_eq_false_iff_ne.2 fun e => hi ?_
      refine bs_inj ?_
      rw [← ByteArray.toList_eq, e]
    have HLT : Hid ((lookF f S.fs).isSome = true) := hlt
    clear HQ hS AL hi hl hlt hw
    go_enter Tryz.func62, Tryz.ntmps62
    go_wp2_with fail
    refine CL.mono ?_
    rintro e w1 ⟨rfl, hb1⟩
    have B1 : Hid (Below M w w1) := (HAL.out.trans (hb1.mono HAL.out.size)).mono hM
    obtain ⟨va, X, hD, hV, hN, hf, hk⟩ := HST.out.later hb1
    have CX := dropI f w1 M _ (by omega) (by show u.size ≤ 1048576; omega) hD (hV.some f true HLT.out)
    have HF : Hid (∀ w2, DeskAt w2 M ⟨a, n, c, va, S.aside, nx, u, S.word, dropX (folderK u f) X⟩ → StAt w2 M a n c nx u ⟨S.aside, S.word, dropF f S.fs⟩ k) := fun w2 h2 =>
      ⟨va, _, h2, hV.drop, hN.sublist ((dropF_sub f S.fs).map _), fun g hg => hf g ((dropF_sub f S.fs).subset hg), hk⟩
    clear hD hV hN hf hk hb1 CL
    go_wp2_with fail
    refine CX.mono ?_
    rintro e w2 ⟨rfl, hd2, hb2⟩
    have HF2 : Hid (StAt w2 M a n c nx u ⟨S.aside, S.word, dropF f S.fs⟩ k ∧ Below M w w2) := ⟨HF.out w2 hd2, B1.out.trans hb2⟩
    clear CX hd2 hb2 HF
    go_wp2_with fail
    go_ret
    exact ⟨rfl, HF2.out.1, HF2.out.2⟩
end Go.Proofs.YthejpemiaenfpaaGreatDoor
namespace Go.Proofs.YthejpemiaenfpaaGreatDoor
open Go.ChangeShapes Go.WideShapes Go.ChangeAt Go.RowKit Go.Deep Go.Lib
set_option linter.unusedVariables false
set_option linter.unusedSimpArgs false
set_option maxRecDepth 100000

/-- Of the first k pairs those whose keys are others. -/
def dropTo (f g : Nat → ByteArray) (key : ByteArray) (k : Nat) : List (ByteArray × ByteArray) := ((List.range k).filter fun i => (f i).toList != key.toList).map fun i => (f i, g i)
theorem dropTo_hit (f g : Nat → ByteArray) (key : ByteArray) (k : Nat) (h : ((f k).toList != key.toList) = true) : dropTo f g key (k + 1) = dropTo f g key k ++ [(f k, g k)] := by
  simp [dropTo, List.range_succ, List.filter_append, h]
theorem dropTo_miss (f g : Nat → ByteArray) (key : ByteArray) (k : Nat) (h : ((f k).toList != key.toList) = false) : dropTo f g key (k + 1) = dropTo f g key k := by
  simp [dropTo, List.range_succ, List.filter_append, h]
theorem dropTo_le (f g : Nat → ByteArray) (key : ByteArray) (k : Nat) : (dropTo f g key k).length ≤ k := by
  unfold dropTo
  rw [List.length_map]
  have := List.length_filter_le (fun i => (f i).toList != key.toList) (List.range k)
  rw [List.length_range] at this
  exact this
set_option maxHeartbeats 1000000 in
theorem l01Drop (a : Option Addr) (n c : Nat) (f g : Nat → ByteArray) (key : ByteArray) (w : World) (hn : n ≤ 4096) (h : Sp w a n f g) :
    Calls Tryz.prog 96 #[.slice a n c, .string key] w fun e w' => ∃ v, e = .returned v ∧ OwnsP w' w.heap.size v (dropTo f g key n) ∧ Below w.heap.size w w' := by
  obtain ⟨i0, hi, hz0, hz1, hz2⟩ := infoPair'
  have HH : Hid (Sp w a n f g) := h
  have HI : Hid (Tryz.prog.info? 59 = some i0) := hi
  have HZ0 : Hid (i0.zero = some (.agg #[.string ⟨#[]⟩, .string ⟨#[]⟩])) := hz0
  have HZ1 : Hid (i0.size = 2) := hz1
  have HZ2 : Hid (i0.bytes = 32) := hz2
  clear h hi hz0 hz1 hz2
  go_enter Tryz.func96, Tryz.ntmps96
  go_wp2_with fail
  go_loopw [5, 6] (fun v i wr => ∃ k : Nat, k ≤ n ∧ i = .int .i64 k ∧ Hid (OwnsP wr w.heap.size v (dropTo f g key k)) ∧ Hid (Below w.heap.size w wr)) (fun _ i _ => n - (RowKit.intOf i).toNat)
  case atStart => exact ⟨0, by omega, rfl, OwnsP.made w _ (Nat.le_refl _), (Below.refl _ _).alloc (Nat.le_refl _) _⟩
  case round =>
    obtain ⟨k, hk, rfl, ho, hb⟩ := hrel
    by_cases hlt : k < n
    · rcases HH.out.below hb.out with h1 | ⟨b, off, rfl, hc⟩
      · omega
      obtain ⟨hc1, hc2⟩ := hc k hlt
      clear hc
      cases hbg : ((f k).toList == key.toList) with
      | true =>
        have E : Hid (dropTo f g key (k + 1) = dropTo f g key k) := dropTo_miss f g key k (by rw [bne, hbg]; rfl)
        go_wp2_with fail
        exact ⟨⟨k + 1, by omega, by go_num, by rw [E.out]; exact ho, hb⟩, by simp [RowKit.intOf]; omega⟩
      | false =>
        have E : Hid (dropTo f g key (k + 1) = dropTo f g key k ++ [(f k, g k)]) := dropTo_hit f g key k (by rw [bne, hbg]; rfl)
        have hle := dropTo_le f g key k
        go_wp2_with (at_builtin; refine wpList_append_own _ rfl _ _ 29 rfl w.heap.size 59 i0 (.agg #[.string ⟨#[]⟩, .string ⟨#[]⟩]) 2 32 Tryz.underlying29 HI.out HZ0.out HZ1.out HZ2.out rfl (by decide) _ _ _ rfl (ho.out.alloc _) ⟨wr.heap.size, 0, none⟩ 1 1 [.string (f k), .string (g k)] rfl rfl (two_newP wr (f k) (g k)) (two_oneP (f k) (g k)) ?c3 ?c4 (le_alloc hb.out.size _) ?_)
        case c3 => unfold maxLen; omega
        case c4 => omega
        intro v' w1 hown hgrow _
        have HO : Hid (OwnsP w1 w.heap.size v' (dropTo f g key (k + 1))) := by
          show OwnsP w1 w.heap.size v' (dropTo f g key (k + 1))
          rw [E.out]
          exact OwnsP.one hown
        have HB1 : Hid (Below w.heap.size w w1) := (hb.out.alloc hb.out.size _).grown hgrow (le_alloc hb.out.size _) ho.out.block
        clear hown hgrow
        go_wp2_with fail
        exact ⟨⟨k + 1, by omega, by go_num, HO, HB1⟩, by simp [RowKit.intOf]; omega⟩
    · have hkn : k = n := by omega
      subst hkn
      go_wp2_with fail
      go_ret
      exact ⟨_, rfl, ho.out, hb.out⟩

theorem dropTo_is (L : List PM) (k : ByteArray) : ∀ n, n ≤ L.length → dropTo (fK L) (fV L) k n = notK k (L.take n)
  | 0, _ => by simp [dropTo, notK]
  | n + 1, h => by
    have ih := dropTo_is L k n (by omega)
    have hn : n < L.length := by omega
    rw [notK_take k L n hn, ← ih]
    by_cases e : (L.getD n p0).1 = k
    · rw [if_pos e, List.append_nil]
      exact dropTo_miss _ _ _ _ (by show ((L.getD n p0).1.toList != k.toList) = false; rw [e]; simp)
    · rw [if_neg e]
      exact dropTo_hit _ _ _ _ (by show ((L.getD n p0).1.toList != k.toList) = true; simpa using fun h9 => e (toList_inj h9))
theorem l01DropM (a : Option Addr) (n c : Nat) (L : List PM) (key : ByteArray) (w : World) (hL : L.length = n) (hn : n ≤ 4096) (h : Src w a (cellsP L)) :
    Calls Tryz.prog 96 #[.slice a n c, .string key] w fun e w' => ∃ a2 n2 c2, e = .returned (.slice a2 n2 c2) ∧ (notK key L).length = n2 ∧ Src w' a2 (cellsP (notK key L)) ∧ Below w.heap.size w w' := by
  refine (l01Drop a n c (fK L) (fV L) key w hn (sp_src h hL)).mono ?_
  rintro e w' ⟨v, rfl, ho, hb⟩
  have e1 : dropTo (fK L) (fV L) key n = notK key L := by
    rw [dropTo_is L key n (by omega), List.take_of_length_le (by omega)]
  rw [e1] at ho
  have ho2 : w'.ownsRow w.heap.size 59 2 v (notK key L).length (cellsP (notK key L)) := ho
  obtain ⟨a2, c2, rfl, hs, _⟩ := own_src ho2
  exact ⟨a2, _, c2, rfl, rfl, hs, hb⟩
theorem under_is (L : List PM) (k : ByteArray) : ∀ n, n ≤ L.length → under (fK L) (fV L) k n = (L.take n).filter fun x => beginsB x.1 k := by
  intro n
  induction n with
  | zero => intro _; rfl
  | succ n ih =>
    intro hn
    have h1 := ih (by omega)
    have hlt : n < L.length := by omega
    rw [List.take_add_one, List.getElem?_eq_getElem hlt, List.filter_append]
    cases hb : beginsB (fK L n) k with
    | true =>
      rw [under_hit _ _ _ _ hb, h1, (at_fst hlt).1, (at_fst hlt).2]
      rw [(at_fst hlt).1] at hb
      simp [hb]
    | false =>
      rw [under_miss _ _ _ _ hb, h1]
      rw [(at_fst hlt).1] at hb
      simp [hb]
abbrev preK (u f : ByteArray) : ByteArray := (((⟨#[109, 47]⟩ ++ u) ++ ⟨#[47]⟩) ++ f) ++ ⟨#[47]⟩
theorem preK_data (u f : ByteArray) : (preK u f).data.toList = 109 :: 47 :: (u.data.toList ++ 47 :: (f.data.toList ++ [47])) := by
  simp [ByteArray.data_append]
theorem preK_size (u f : ByteArray) : (preK u f).size = u.size + f.size + 4 := by
  rw [ByteArray.size_append, ByteArray.size_append, ByteArray.size_append, ByteArray.size_append]
  show 2 + u.size + 1 + f.size + 1 = _
  omega
set_option maxHeartbeats 1000000 in
theorem l07MailsS (u f : ByteArray) (w : World) (hu : u.size ≤ 1000) (hf : f.size ≤ 1000) : Calls Tryz.prog 122 #[.string u, .string f] w fun e w' => e = .returned (.string (preK u f)) ∧ w' = w := by
  go_enter Tryz.func122, Tryz.ntmps122
  go_wp2_with fail
  go_ret
  exact ⟨rfl, rfl⟩
/-- What is left where the first mails are gone. -/
def lessTo (L U : List PM) (j : Nat) : List PM := L.filter fun p => (U.take j).all fun x => decide (p.1 ≠ x.1)
theorem less_step (L U : List PM) (j : Nat) (hj : j < U.length) : notK (U.getD j p0).1 (lessTo L U j) = lessTo L U (j + 1) := by
  unfold lessTo notK
  rw [List.filter_filter, List.take_add_one, List.getD_eq_getElem?_getD, List.getElem?_eq_getElem hj]
  refine List.filter_congr fun p _ => ?_
  simp only [Option.toList_some, Option.getD_some, List.all_append, List.all_cons, List.all_nil, Bool.and_true]
  rw [Bool.and_comm]
def emptyR (L : List PM) (u f : ByteArray) : List PM := L.filter fun p => !beginsB p.1 (preK u f)
theorem less_end (L : List PM) (k : ByteArray) : lessTo L (L.filter fun x => beginsB x.1 k) (L.filter fun x => beginsB x.1 k).length = L.filter fun p => !beginsB p.1 k := by
  unfold lessTo
  rw [List.take_of_length_le (Nat.le_refl _)]
  refine List.filter_congr fun p hp => ?_
  rw [Bool.eq_iff_iff, List.all_eq_true]
  constructor
  · intro h
    cases hb : beginsB p.1 k with
    | false => rfl
    | true => exact absurd rfl (of_decide_eq_true (h p (List.mem_filter.2 ⟨hp, hb⟩)))
  · intro h x hx
    refine decide_eq_true fun e => ?_
    have hb := (List.mem_filter.1 hx).2
    rw [← e] at hb
    rw [hb] at h
    cases h
theorem less_len (L U : List PM) (j : Nat) : (lessTo L U j).length ≤ L.length := List.length_filter_le _ _
set_option maxHeartbeats 2000000 in
theorem l07EmptyS (a : Option Addr) (n c : Nat) (L : List PM) (hL : L.length = n) (hg : GoodL L) (u f : ByteArray) (hus : u.size ≤ 1000) (hfs : f.size ≤ 1000) (w : World) (h : Src w a (cellsP L)) :
    Calls Tryz.prog 97 #[.slice a n c, .string u, .string f] w fun e w' => ∃ a2 n2 c2, e = .returned (.slice a2 n2 c2) ∧ (emptyR L u f).length = n2 ∧ Src w' a2 (cellsP (emptyR L u f)) ∧ Below w.heap.size w w' := by
  have hn60 := hg.1
  rw [hL] at hn60
  have CM := fun W => l07MailsS u f W hus hfs
  have hpz := preK_size u f
  have CU := fun W (hW : Below w.heap.size w W) => l01Under a n c (fK L) (fV L) (preK u f) W (by omega) (by omega) (fun i hi => by
    have hi2 : i < L.length := by omega
    obtain ⟨e1, e2⟩ := at_fst hi2
    rw [e1, e2]
    have := hg.2.1 _ (List.getElem_mem hi2)
    omega) (sp_src (h.below hW) hL)
  have eU : under (fK L) (fV L) (preK u f) n = L.filter fun x => beginsB x.1 (preK u f) := by
    rw [under_is L (preK u f) n (by omega), List.take_of_length_le (by omega)]
  simp only [eU] at CU
  have HE : Hid (lessTo L (L.filter fun x => beginsB x.1 (preK u f)) (L.filter fun x => beginsB x.1 (preK u f)).length = emptyR L u f) := less_end L (preK u f)
  have hul : (L.filter fun x => beginsB x.1 (preK u f)).length ≤ L.length := List.length_filter_le _ _
  obtain ⟨U, hU⟩ : ∃ t, (L.filter fun x => beginsB x.1 (preK u f)) = t := ⟨_, rfl⟩
  simp only [hU] at CU
  rw [hU] at HE hul
  obtain ⟨m, hm⟩ : ∃ t, U.length = t := ⟨_, rfl⟩
  rw [hm] at HE hul
  have hmb : m ≤ 60 := by rw [hL] at hul; omega
  have HUM : Hid (U.length = m) := hm
  obtain ⟨KP, hKP⟩ : ∃ t, preK u f = t := ⟨_, rfl⟩
  simp only [hKP] at CM CU
  have HLN : Hid (L.length = n) := hL
  have HLL : Hid (∀ j, (lessTo L U j).length ≤ n) := fun j => by rw [← hL]; exact less_len L U j
  have H0 : Hid ((lessTo L U 0).length = n ∧ Src w a (cellsP (lessTo L U 0))) := by
    have e : lessTo L U 0 = L := by
      unfold lessTo
      rw [List.filter_eq_self]
      intro p _
      rfl
    rw [e]
    exact ⟨hL, h⟩
  obtain ⟨ER, hER⟩ : ∃ t, emptyR L u f = t := ⟨_, rfl⟩
  rw [hER] at HE ⊢
  clear hL hg h eU hU hm hKP hpz hER hul
  go_enter Tryz.func97, Tryz.ntmps97
  go_wp2_with fail
  refine (CM _).mono ?_
  rintro e w1 ⟨rfl, hw1⟩
  obtain rfl := hw1
  clear CM
  go_wp2_with fail
  refine (CU _ (Below.refl _ _)).mono ?_
  rintro e w2 ⟨v2, rfl, ho2, hb2⟩
  have ho3 : w2.ownsRow w1.heap.size 59 2 v2 U.length (cellsP U) := ho2
  rw [HUM.out] at ho3
  obtain ⟨au, cu, rfl, hsu, _⟩ := own_src ho3
  have B2 : Hid (Below w1.heap.size w1 w2) := hb2
  have HSU : Hid (Src w2 au (cellsP U)) := hsu
  clear CU ho2 ho3 hb2 hsu
  go_wp2_with fail
  go_loopw [8, 9] (fun v iv wr => ∃ (j n' : Nat) (a' : Option Addr) (c' : Nat), j ≤ m ∧ n' ≤ n ∧ v = .slice a' n' c' ∧ iv = .int .i64 (j : Int) ∧ Hid ((lessTo L U j).length = n') ∧ Hid (Src wr a' (cellsP (lessTo L U j))) ∧ Hid (Below w1.heap.size w1 wr) ∧ Hid (Below w2.heap.size w2 wr)) (fun _ i _ => m - (RowKit.intOf i).toNat)
  case atStart => exact ⟨0, n, a, c, Nat.zero_le _, Nat.le_refl _, rfl, rfl, H0.out.1, H0.out.2.below B2.out, B2.out, Below.refl _ _⟩
  case round =>
    obtain ⟨j, n', a', c', hj, hn', rfl, rfl, hl, hs, hbr, hb2r⟩ := hrel
    by_cases hlt : j < m
    · have hltj : (j : Int) < (m : Int) := by omega
      have hjl : j < U.length := by rw [HUM.out]; exact hlt
      obtain ⟨b, o, x, y, rfl, e0, e1, hx⟩ := srcP (HSU.out.below hb2r.out) hjl
      have CD := l01DropM a' n' c' (lessTo L U j) x wr hl.out (by omega) hs.out
      have hstep := less_step L U j hjl
      rw [hx.out] at hstep
      rw [hstep] at CD
      have hln := HLL.out (j + 1)
      clear hstep hx hl hs
      go_wp2_with fail
      refine CD.mono ?_
      rintro e w4 ⟨a4, n4, c4, rfl, k1, k2, hb4⟩
      have HF : Hid ((lessTo L U (j + 1)).length = n4 ∧ Src w4 a4 (cellsP (lessTo L U (j + 1))) ∧ Below w1.heap.size w1 w4 ∧ Below w2.heap.size w2 w4) := ⟨k1, k2, hbr.out.trans (hb4.mono hbr.out.size), hb2r.out.trans (hb4.mono hb2r.out.size)⟩
      have hn4 : n4 ≤ n := by omega
      have hm60 : m ≤ 60 := hmb
      clear CD k1 k2 hb4
      go_wp2_with fail
      exact ⟨⟨j + 1, n4, a4, c4, by omega, hn4, rfl, by go_num, HF.out⟩, by simp [RowKit.intOf]; omega⟩
    · obtain rfl : j = m := by omega
      have hltj : ¬ (j : Int) < (j : Int) := by omega
      have HF : Hid (ER.length = n' ∧ Src wr a' (cellsP ER) ∧ Below w1.heap.size w1 wr) := by
        have e9 := HE.out
        rw [← e9]
        exact ⟨hl.out, hs.out, hbr.out⟩
      clear hl hs
      go_wp2_with fail
      go_ret
      exact ⟨a', n', ⟨c', rfl⟩, HF.out⟩
def dropR (L : List PM) (u f : ByteArray) : List PM × Int := if knownR L u f ≠ 0 then (L, knownR L u f) else if f = inboxT then (L, 11) else (notK (folderK u f) (emptyR L u f), 0)
set_option maxHeartbeats 2000000 in
theorem l07DropFolderS (b o n c : Nat) (L : List PM) (hL : L.length = n) (hc : n ≤ c) (hc9 : c ≤ maxLen) (hg : GoodL L) (u f : ByteArray) (hus : u.size ≤ 8) (hfs : f.size ≤ 8) (n0 : 0 ≤ nextM L) (w : World) (h : Src w (some ⟨b, o, none⟩) (cellsP L)) (R : List PM) (q : Int) (HR : Hid (dropR L u f = (R, q))) :
    Calls Tryz.prog 61 #[.slice (some ⟨b, o, none⟩) n c, .string u, .string f] w fun e w' => ∃ a2 n2 c2, e = .returned (.tuple #[.slice a2 n2 c2, .int .i64 q]) ∧ R.length = n2 ∧ Src w' a2 (cellsP R) ∧ Below w.heap.size w w' := by
  have hn60 := hg.1
  rw [hL] at hn60
  have HLN : Hid (L.length = n ∧ Src w (some ⟨b, o, none⟩) (cellsP L)) := ⟨hL, h⟩
  have CK := l07KnownS (some ⟨b, o, none⟩) n c L hL hg u f (by omega) (by omega) w h _ rfl
  have CE := fun W (hW : Below w.heap.size w W) => l07EmptyS (some ⟨b, o, none⟩) n c L hL hg u f (by omega) (by omega) W (h.below hW)
  have CF := fun W => l07FolderS u f W (by omega) (by omega)
  have hel : (emptyR L u f).length ≤ n := by rw [← hL]; exact List.length_filter_le _ _
  have CD := fun (a2 : Option Addr) (n2 c2 : Nat) (W : World) (k1 : (emptyR L u f).length = n2) (k2 : Src W a2 (cellsP (emptyR L u f))) => l01DropM a2 n2 c2 (emptyR L u f) (folderK u f) W k1 (by omega) k2
  have HR1 := HR.out
  unfold dropR at HR1
  obtain ⟨kk, hkk⟩ : ∃ t, knownR L u f = t := ⟨_, rfl⟩
  rw [hkk] at CK HR1
  obtain ⟨ER, hER⟩ : ∃ t, emptyR L u f = t := ⟨_, rfl⟩
  simp only [hER] at CE CD hel
  rw [hER] at HR1
  obtain ⟨KF, hKF⟩ : ∃ t, folderK u f = t := ⟨_, rfl⟩
  simp only [hKF] at CF CD
  rw [hKF] at HR1
  clear hL h hg HR hkk n0 hER hKF
  by_cases hk : kk = 0
  · subst hk
    rw [if_neg (by simp)] at HR1
    by_cases hi : f = inboxT
    · rw [if_pos hi] at HR1
      cases HR1
      have hib : (f.toList == [105, 110, 98, 111, 120]) = true := by rw [hi, ByteArray.toList_eq]; rfl
      clear CE CF CD hi
      go_enter Tryz.func61, Tryz.ntmps61
      go_wp2_with fail
      refine CK.mono ?_
      rintro e w1 ⟨rfl, hb1⟩
      have B1 : Hid (Below w.heap.size w w1) := hb1
      clear hb1 CK
      go_wp2_with fail
      exact bodyPost_ret (v := .tuple #[.slice (some ⟨b, o, none⟩) n c, .int .i64 11]) (by simp [results, Tryz.results61, go_sem]) rfl ⟨_, _, _, rfl, HLN.out.1, HLN.out.2.below B1.out, B1.out⟩
    · rw [if_neg hi] at HR1
      have HRQ : Hid (notK KF ER = R ∧ 0 = q) := by cases HR1; exact ⟨rfl, rfl⟩
      have hib : (f.toList == [105, 110, 98, 111, 120]) = false := by
        refine beq_eq_false_iff_ne.2 fun e => hi ?_
        refine bs_inj ?_
        rw [← ByteArray.toList_eq, e]
      clear HR1 hi
      go_enter Tryz.func61, Tryz.ntmps61
      go_wp2_with fail
      refine CK.mono ?_
      rintro e w1 ⟨rfl, hb1⟩
      have B1 : Hid (Below w.heap.size w w1) := hb1
      have CE1 := CE w1 hb1
      clear hb1 CK CE
      go_wp2_with fail
      refine CE1.mono ?_
      rintro e w2 ⟨a2, n2, c2, rfl, k1, k2, hb2⟩
      have B2 : Hid (Below w.heap.size w w2) := B1.out.trans (hb2.mono B1.out.size)
      have CD2 := CD a2 n2 c2 w2 k1 k2
      clear CE1 hb2 k1 k2 CD
      go_wp2_with fail
      refine (CF _).mono ?_
      rintro e w3 ⟨rfl, hw3⟩
      obtain rfl := hw3
      clear CF
      go_wp2_with fail
      refine CD2.mono ?_
      rintro e w4 ⟨a4, n4, c4, rfl, k1, k2, hb4⟩
      have HF : Hid (R.length = n4 ∧ Src w4 a4 (cellsP R) ∧ Below w.heap.size w w4) := by
        rw [← HRQ.out.1]
        exact ⟨k1, k2, B2.out.trans (hb4.mono B2.out.size)⟩
      have HQ0 : Hid (0 = q) := HRQ.out.2
      clear CD2 k1 k2 hb4
      go_wp2_with fail
      exact bodyPost_ret (v := .tuple #[.slice a4 n4 c4, .int .i64 0]) (by simp [results, Tryz.results61, go_sem]) rfl ⟨_, _, _, by rw [HQ0.out], HF.out⟩
  · rw [if_pos hk] at HR1
    obtain ⟨rfl, rfl⟩ : L = R ∧ kk = q := by cases HR1; exact ⟨rfl, rfl⟩
    have hki : (kk != 0) = true := by simpa using hk
    clear CE CF CD
    go_enter Tryz.func61, Tryz.ntmps61
    go_wp2_with fail
    refine CK.mono ?_
    rintro e w1 ⟨rfl, hb1⟩
    have B1 : Hid (Below w.heap.size w w1) := hb1
    clear hb1 CK
    go_wp2_with fail
    exact bodyPost_ret (v := .tuple #[.slice (some ⟨b, o, none⟩) n c, .int .i64 kk]) (by simp [results, Tryz.results61, go_sem]) rfl ⟨_, _, _, rfl, HLN.out.1, HLN.out.2.below B1.out, B1.out⟩
end Go.Proofs.YthejpemiaenfpaaGreatDoor
namespace Go.Proofs.YthejpemiaenfpaaGreatDoor
open Go.ChangeShapes Go.WideShapes Go.ChangeAt Go.RowKit Go.Deep Go.Lib
set_option linter.unusedVariables false
set_option linter.unusedSimpArgs false
set_option maxRecDepth 100000

theorem ins_same {k v : ByteArray} {L : List PM} (hu : UpL L) (h : (k, v) ∈ L) : insL k v L = L := by
  refine up_mem (ins_up hu) hu fun q => ⟨fun hq => ?_, fun hq => ?_⟩
  · rcases ins_mem hu hq with rfl | hq
    · exact h
    · exact hq.1
  · refine (ins_perm hu).mem_iff.2 ?_
    by_cases e : q.1 = k
    · have h2 : (k, q.2) ∈ L := by rw [← e]; exact hq
      have h3 := key_one hu h h2
      rw [h3]
      exact List.mem_cons.2 (.inl (Prod.ext e rfl))
    · exact List.mem_cons_of_mem _ (List.mem_filter.2 ⟨hq, decide_eq_true e⟩)
theorem split_k {k v : ByteArray} {L : List PM} (hu : UpL L) (h : (k, v) ∈ L) : L.Perm ((k, v) :: notK k L) := by
  have h1 := ins_perm (k := k) (v := v) hu
  rw [ins_same hu h] at h1
  exact h1
theorem v_mem {L : List PM} (h : storeB L = true) : (vK, bs (itoa (nextM L))) ∈ L := by
  obtain ⟨hg, nx0, hnm, n1, n2, _, _, _⟩ := store_facts h
  rw [hnm] at n1
  have h9 : nextM L = nextM L := rfl
  unfold nextM at n1 ⊢
  cases hv : getM L vK with
  | none => rw [hv] at n1; exact absurd n1 (by show ¬ (1 : Int) ≤ 0; omega)
  | some v =>
    rw [hv] at n1
    simp only [Option.bind_some] at n1 ⊢
    cases hn : numB v.data.toList with
    | none => rw [hn] at n1; exact absurd n1 (by show ¬ (1 : Int) ≤ 0; omega)
    | some x =>
      have h1 := (is_of_num hn).1
      have h2 : bs (itoa ((some x).getD 0)) = v := by
        refine bs_inj ?_
        show (bs (itoa x)).data.toList = _
        rw [h1]
        simp [bs]
      rw [h2]
      exact (getM_mem hg.2.2).1 hv
theorem seg_inj : ∀ {a b x y : List UInt8}, (47 : UInt8) ∉ a → (47 : UInt8) ∉ b → a ++ 47 :: x = b ++ 47 :: y → a = b ∧ x = y
  | [], [], x, y, _, _, h => by simpa using h
  | [], c :: b, x, y, _, hb, h => by
    simp only [List.nil_append, List.cons_append, List.cons.injEq] at h
    exact absurd (by rw [h.1]; exact List.mem_cons_self) hb
  | c :: a, [], x, y, ha, _, h => by
    simp only [List.nil_append, List.cons_append, List.cons.injEq] at h
    exact absurd (by rw [← h.1]; exact List.mem_cons_self) ha
  | c :: a, d :: b, x, y, ha, hb, h => by
    simp only [List.cons_append, List.cons.injEq] at h
    obtain ⟨h1, h2⟩ := seg_inj (fun h9 => ha (List.mem_cons_of_mem _ h9)) (fun h9 => hb (List.mem_cons_of_mem _ h9)) h.2
    exact ⟨by rw [h.1, h1], h2⟩
theorem names_take {nx : Int} {u : ByteArray} {S S' : SM} {q : PM} (hS : (S.fs.map (·.name)).Nodup) (h : takeM nx u S q = some S') : (S'.fs.map (·.name)).Nodup := by
  have hput : ∀ {o : Option FM}, putM S o = some S' → (S'.fs.map (·.name)).Nodup := fun {o} h9 => by
    unfold putM at h9
    obtain ⟨g, rfl, rfl⟩ := Option.map_eq_some_iff.1 h9
    exact putF_names hS
  have haside : asideM S q = some S' → (S'.fs.map (·.name)).Nodup := fun h9 => by cases h9; exact hS
  unfold takeM takeP at h
  split at h
  · split at h
    · unfold userM at h
      obtain ⟨_, rfl⟩ := ite_some h
      exact hS
    · exact haside h
  · split at h
    · exact hput h
    · exact haside h
  · split at h
    · exact hput h
    · exact haside h
  · exact haside h
theorem names_all {nx : Int} {u : ByteArray} : ∀ {L : List PM} {S S' : SM}, (S.fs.map (·.name)).Nodup → takeAll nx u S L = some S' → (S'.fs.map (·.name)).Nodup
  | [], S, S', hS, h => by cases h; exact hS
  | q :: L, S, S', hS, h => by
    unfold takeAll at h
    obtain ⟨S1, h1, h2⟩ := Option.bind_eq_some_iff.1 h
    exact names_all (names_take hS h1) h2
theorem look_mem' {f : FM} : ∀ {fs : List FM}, f ∈ fs → (lookF f.name fs).isSome = true
  | [], h => by cases h
  | g :: fs, h => by
    unfold lookF
    by_cases e : g.name = f.name
    · rw [if_pos e]; rfl
    · rw [if_neg e]
      rcases List.mem_cons.1 h with rfl | h
      · exact absurd rfl e
      · exact look_mem' h
theorem drop_names {n : ByteArray} : ∀ {fs : List FM}, (fs.map (·.name)).Nodup → ∀ g ∈ dropF n fs, g.name ≠ n
  | [], _, g, h => by cases h
  | f :: fs, hn, g, h => by
    rw [List.map_cons, List.nodup_cons] at hn
    unfold dropF at h
    by_cases e : f.name = n
    · rw [if_pos e] at h
      exact fun e2 => hn.1 (List.mem_map.2 ⟨g, h, by rw [e2, e]⟩)
    · rw [if_neg e] at h
      rcases List.mem_cons.1 h with rfl | h
      · exact e
      · exact drop_names hn.2 g h
theorem name_short {L : List PM} {u : ByteArray} {S : SM} (h : storeB L = true) (hus : (47 : UInt8) ∉ u.data.toList) (hS : takeAll (nextM L) u S0 L = some S) {g : FM} (hg : g ∈ S.fs) : shortB g.name = true := by
  obtain ⟨g2, h2⟩ := Option.isSome_iff_exists.1 (look_mem' hg)
  obtain ⟨w, _, _, k⟩ := look_known h hus hS h2
  exact k
/-- What a drop of a folder leaves. -/
def passB (u f : ByteArray) (p : PM) : Bool := decide (p.1 ≠ folderK u f) && !beginsB p.1 (preK u f)
theorem begins_pre {u f k : ByteArray} : beginsB k (preK u f) = true ↔ ∃ r, k.data.toList = 109 :: 47 :: (u.data.toList ++ 47 :: (f.data.toList ++ 47 :: r)) := by
  rw [begins_iff, preK_data]
  constructor
  · rintro ⟨r, h⟩
    exact ⟨r, by rw [h]; simp⟩
  · rintro ⟨r, h⟩
    exact ⟨r, by rw [h]; simp⟩
theorem drop_eq (L : List PM) (u f : ByteArray) : notK (folderK u f) (emptyR L u f) = L.filter (passB u f) := by
  unfold notK emptyR
  rw [List.filter_filter]
  rfl
theorem aside_pass {L : List PM} {u f : ByteArray} {S : SM} (h : storeB L = true) (hus : (47 : UInt8) ∉ u.data.toList) (hfs : (47 : UInt8) ∉ f.data.toList) (hS : takeAll (nextM L) u S0 L = some S) {p : PM} (hp : p ∈ notK vK S.aside) : passB u f p = true := by
  obtain ⟨h1, h2⟩ := notK_sub hp
  rw [all_aside hS] at h1
  have h3 : p ∈ L.filter fun p => !isOwn u p := by simpa using h1
  obtain ⟨h4, h5⟩ := List.mem_filter.1 h3
  have h6 : ownerM p ≠ some u := by simpa using h5
  obtain ⟨_, nx0, _, _, _, _, _, k⟩ := store_facts h
  rcases k _ h4 with k | ⟨u', k1, _⟩
  · exact absurd k h2
  · unfold passB
    rw [Bool.and_eq_true, decide_eq_true_eq]
    constructor
    · intro e
      have h7 : ownerM (folderK u f, p.2) = some u := owner_folder hus hfs
      exact h6 (by rw [← h7]; unfold ownerM; rw [e])
    · cases hb : beginsB p.1 (preK u f) with
      | false => rfl
      | true =>
        exfalso
        obtain ⟨r, hr⟩ := begins_pre.1 hb
        have hsp : splitL 47 p.1.data.toList = [109] :: u.data.toList :: f.data.toList :: splitL 47 r := by
          rw [hr]
          have e : (109 : UInt8) :: 47 :: (u.data.toList ++ 47 :: (f.data.toList ++ 47 :: r)) = [109] ++ 47 :: (u.data.toList ++ 47 :: (f.data.toList ++ 47 :: r)) := rfl
          rw [e, splitL_seg 47 [109] _ (by decide), splitL_seg 47 _ _ hus, splitL_seg 47 _ _ hfs]
        unfold ownerM at k1 h6
        rw [hsp] at k1 h6
        match hq : splitL 47 r, k1, h6 with
        | [], k1, h6 => exact absurd hq (splitL_ne 47 r)
        | [d], k1, h6 =>
          refine h6 ?_
          show (if ([109] : List UInt8) = [109] then some (bs u.data.toList) else none) = some u
          rw [if_pos rfl, data_bs]
        | _ :: _ :: _, k1, h6 => cases k1
theorem rest_pass {u f : ByteArray} {fs : List FM} (hus : (47 : UInt8) ∉ u.data.toList) (hfs : (47 : UInt8) ∉ f.data.toList) (hn : ∀ g ∈ fs, g.name ≠ f ∧ (47 : UInt8) ∉ g.name.data.toList) : (flatF u fs).filter (passB u f) = flatF u fs := by
  rw [List.filter_eq_self]
  intro p hp
  obtain ⟨g, hg, hpg⟩ := flat_mem hp
  obtain ⟨k1, k2⟩ := hn g hg
  unfold fPairs at hpg
  unfold passB
  rw [Bool.and_eq_true, decide_eq_true_eq]
  rcases List.mem_cons.1 hpg with rfl | hpg
  · refine ⟨fun e => k1 (folderK_inj e), ?_⟩
    cases hb : beginsB (folderK u g.name) (preK u f) with
    | false => rfl
    | true =>
      obtain ⟨r, hr⟩ := begins_pre.1 hb
      rw [folderK_data] at hr
      simp at hr
  · obtain ⟨m, _, rfl⟩ := List.mem_map.1 hpg
    refine ⟨fun e => ?_, ?_⟩
    · have h9 := congrArg (fun x : ByteArray => x.data.toList) e
      simp only [mailP, folderK_data] at h9
      simp [bs] at h9
    · cases hb : beginsB (mailP u g.name m).1 (preK u f) with
      | false => rfl
      | true =>
        exfalso
        obtain ⟨r, hr⟩ := begins_pre.1 hb
        have hr2 : 109 :: 47 :: (u.data.toList ++ 47 :: (g.name.data.toList ++ 47 :: d3 m.1.toNat)) = 109 :: 47 :: (u.data.toList ++ 47 :: (f.data.toList ++ 47 :: r)) := by
          rw [← hr]
          simp [mailP, bs]
        simp only [List.cons.injEq, true_and] at hr2
        obtain ⟨_, h2⟩ := seg_inj hus hus hr2
        obtain ⟨h3, _⟩ := seg_inj k2 hfs h2
        exact k1 (bs_inj h3)
theorem gone_pass {u f : ByteArray} {g : FM} (hg : g.name = f) : (fPairs u g).filter (passB u f) = [] := by
  rw [List.filter_eq_nil_iff]
  intro p hp
  unfold fPairs at hp
  unfold passB
  rcases List.mem_cons.1 hp with rfl | hp
  · rw [hg]; simp
  · obtain ⟨m, _, rfl⟩ := List.mem_map.1 hp
    have hb : beginsB (mailP u g.name m).1 (preK u f) = true := begins_pre.2 ⟨d3 m.1.toNat, by rw [hg]; simp [mailP, bs]⟩
    rw [hb]
    simp
theorem desk_list {L : List PM} {u : ByteArray} {S : SM} (h : storeB L = true) (hus : (47 : UInt8) ∉ u.data.toList) (hS : takeAll (nextM L) u S0 L = some S) (hw : S.word.toList ≠ []) : L.Perm ((vK, bs (itoa (nextM L))) :: (userK u, S.word) :: (notK vK S.aside ++ flatF u S.fs)) := by
  refine (split_k (store_facts h).1.2.2 (v_mem h)).trans (List.Perm.cons _ ?_)
  have h1 := rest_perm h hus hS
  unfold wordL at h1
  rw [if_neg hw] at h1
  exact h1
theorem drop_fits {L : List PM} {u f : ByteArray} {S S' : SM} {q nx' : Int} (h : storeB L = true) (hsu : shortB u = true) (hsf : shortB f = true) (hS : takeAll (nextM L) u S0 L = some S) (hQ : dropM (nextM L) S f = (q, nx', S')) : OpFits L u q nx' S' (dropR L u f) := by
  have hus := word_slash hsu
  have hfs := word_slash hsf
  obtain ⟨hg, nx0, hnm, n1, n2, _, _, _⟩ := store_facts h
  rw [hnm] at n1 n2
  obtain ⟨hwi, hwd⟩ := word_iff h hus hS
  obtain ⟨hli, hln⟩ := look_iff h hus hS hfs
  unfold dropM at hQ
  by_cases hw : S.word.toList = []
  · rw [if_pos hw] at hQ
    cases hQ
    have hk : knownR L u f = 15 := by unfold knownR; rw [hwi.1 hw]; rfl
    unfold dropR
    rw [hk, if_pos (by decide)]
    exact ⟨fun _ => rfl, fun h9 => by cases h9⟩
  · rw [if_neg hw] at hQ
    have hs : (getM L (userK u)).isSome = true := by
      cases hv : getM L (userK u) with
      | none => exact absurd (hwi.2 hv) hw
      | some v => rfl
    by_cases hl : (lookF f S.fs).isSome = false
    · rw [if_pos hl] at hQ
      cases hQ
      have hk : knownR L u f = 16 := by unfold knownR; rw [hs, ← hli, hl]; rfl
      unfold dropR
      rw [hk, if_pos (by decide)]
      exact ⟨fun _ => rfl, fun h9 => by cases h9⟩
    · rw [if_neg hl] at hQ
      have hl1 : (lookF f S.fs).isSome = true := by
        cases h9 : (lookF f S.fs).isSome with
        | true => rfl
        | false => exact absurd h9 hl
      have hk : knownR L u f = 0 := by unfold knownR; rw [hs, ← hli, hl1]; rfl
      unfold dropR
      rw [hk, if_neg (by decide)]
      by_cases hi : f = inboxT
      · rw [if_pos hi] at hQ
        cases hQ
        rw [if_pos hi]
        exact ⟨fun _ => rfl, fun h9 => by cases h9⟩
      · rw [if_neg hi] at hQ
        cases hQ
        rw [if_neg hi]
        obtain ⟨g, hgl⟩ := Option.isSome_iff_exists.1 hl1
        have hnd := names_all (S := S0) List.nodup_nil hS
        refine ⟨fun h9 => absurd rfl h9, fun _ => ⟨by omega, n2, fun x hx => store_fit h hS x ((dropF_sub f S.fs).subset hx), ?_⟩⟩
        have hlen : (notK (folderK u f) (emptyR L u f)).length ≤ 60 := by
          rw [drop_eq]
          exact Nat.le_trans (List.length_filter_le _ _) hg.1
        refine ⟨notK (folderK u f) (emptyR L u f), ?_, ?_, by omega, ?_⟩
        · rw [drop_eq]
          exact hg.2.2.sublist List.filter_sublist
        · rw [drop_eq]
          refine List.Perm.symm ?_
          refine ((desk_list h hus hS hw).filter _).trans ?_
          have e1 : passB u f (vK, bs (itoa (nextM L))) = true := by
            unfold passB
            rw [Bool.and_eq_true, decide_eq_true_eq]
            refine ⟨(folder_not u f).symm, ?_⟩
            cases hb : beginsB vK (preK u f) with
            | false => rfl
            | true =>
              obtain ⟨r, hr⟩ := begins_pre.1 hb
              simp at hr
          have e2 : passB u f (userK u, S.word) = true := by
            unfold passB
            rw [Bool.and_eq_true, decide_eq_true_eq]
            refine ⟨fun e => ?_, ?_⟩
            · have h9 := congrArg (fun x : ByteArray => x.data.toList) e
              simp [ByteArray.data_append] at h9
            · cases hb : beginsB (userK u) (preK u f) with
              | false => rfl
              | true =>
                obtain ⟨r, hr⟩ := begins_pre.1 hb
                simp [ByteArray.data_append] at hr
          rw [List.filter_cons_of_pos e1, List.filter_cons_of_pos e2, List.filter_append]
          have e3 : (notK vK S.aside).filter (passB u f) = notK vK S.aside := by
            rw [List.filter_eq_self]
            exact fun p hp => aside_pass h hus hfs hS hp
          rw [e3]
          unfold deskP
          refine List.Perm.cons _ (List.Perm.cons _ (List.Perm.append_left _ ?_))
          refine ((flat_perm (drop_perm hgl)).filter _).trans ?_
          rw [flat_cons, List.filter_append, gone_pass (lookF_mem hgl).2, List.nil_append, rest_pass hus hfs fun x hx => ⟨drop_names hnd x hx, word_slash (name_short h hus hS ((dropF_sub f S.fs).subset hx))⟩]
        · unfold fitsR
          rw [if_neg (by omega)]
end Go.Proofs.YthejpemiaenfpaaGreatDoor
namespace Go.Proofs.YthejpemiaenfpaaGreatDoor
open Go.ChangeShapes Go.WideShapes Go.ChangeAt Go.RowKit Go.Deep Go.Lib
set_option linter.unusedVariables false
set_option linter.unusedSimpArgs false
set_option maxRecDepth 100000

theorem dropR_len {L : List PM} (hg : GoodL L) (u p : ByteArray) : (dropR L u p).1.length ≤ 4000 := by
  have := hg.1
  unfold dropR
  split
  · show L.length ≤ 4000; omega
  · split
    · show L.length ≤ 4000; omega
    · show (notK (folderK u p) (emptyR L u p)).length ≤ 4000
      rw [drop_eq]
      have := List.length_filter_le (passB u p) L
      omega
set_option maxHeartbeats 2000000 in
theorem specDropFolder (a : Option Addr) (n c : Nat) (L : List PM) (x y : ByteArray) (w : World) (hL : L.length = n) (hn : n ≤ 1048576) (hc : n ≤ c) (hc9 : c ≤ maxLen) (hs : ∀ x ∈ L, x.1.size ≤ 1048576 ∧ x.2.size ≤ 1048576) (h : Src w a (cellsP L)) (hx : x.size ≤ 1048576) (hy : y.size ≤ 1048576) (R : List PM) (Q : Int) (HQ : Hid (lawM2 (dropR L x y) (askM L [x, y]) = (R, Q))) :
    Calls Tryz.prog 26 #[.slice a n c, .string x, .string y] w fun e w' => ∃ v, e = .returned (.tuple #[v, .int .i64 Q]) ∧ w'.ownsRow w.heap.size 59 2 v R.length (cellsP R) ∧ Below w.heap.size w w' := by
  have HLN : Hid (L.length = n) := hL
  have HS : Hid (Src w a (cellsP L)) := h
  have AL : Hid (Below w.heap.size w (w.alloc (.cells #[.string x, .string y] 9))) := (Below.refl _ _).alloc (Nat.le_refl _) _
  obtain ⟨q, hq⟩ : ∃ q, askM L [x, y] = q := ⟨_, rfl⟩
  have HQQ : Hid (askM L [x, y] = q) := hq
  have HQ1 : Hid (lawM2 (dropR L x y) q = (R, Q)) := by show _ = _; rw [← hq]; exact HQ.out
  have CA := l07AskS a n c L (some ⟨w.heap.size, 0, none⟩) 2 2 [x, y] (w.alloc (.cells #[.string x, .string y] 9)) hL hn hs (HS.out.below AL.out) rfl (by omega) (fun s hs => by
    rcases List.mem_cons.1 hs with rfl | hs
    · exact hx
    · rw [List.mem_singleton.1 hs]; exact hy) (src_2S rfl) q hq
  have EM : Hid ((w.alloc (.cells #[] 59)).ownsRow w.heap.size 59 2 (.slice (some ⟨w.heap.size, 0, none⟩) 0 0) ([] : List PM).length (cellsP []) ∧ Below w.heap.size w (w.alloc (.cells #[] 59))) := ⟨own_empty rfl (Nat.le_refl _), (Below.refl _ _).alloc (Nat.le_refl _) _⟩
  have HBAD : Hid (q = 2 → [] = R ∧ 2 = Q) := fun h9 => by
    have h7 := HQ1.out
    unfold lawM2 at h7
    rw [h9, if_neg (by decide)] at h7
    cases h7
    exact ⟨rfl, rfl⟩
  clear hL h hs hq HQ
  by_cases h1 : 4096 < n
  · have h1i : (4096 : Int) < (n : Int) := by omega
    obtain ⟨rfl, rfl⟩ := HBAD.out (by rw [← HQQ.out]; unfold askM; rw [if_pos (.inl (by rw [HLN.out]; exact h1))])
    go_enter Tryz.func26, Tryz.ntmps26
    go_wp2_with fail
    exact bodyPost_ret (v := .tuple #[.slice (some ⟨w.heap.size, 0, none⟩) 0 0, .int .i64 2]) (by simp [results, Tryz.results26, go_sem]) rfl ⟨_, rfl, EM.out⟩
  have h1i : ¬ (4096 : Int) < (n : Int) := by omega
  by_cases h2 : 65536 < x.size
  · have h2i : (65536 : Int) < (x.size : Int) := by omega
    obtain ⟨rfl, rfl⟩ := HBAD.out (by
      rw [← HQQ.out]
      unfold askM
      rw [if_pos (.inr (by show (smallT x && _) = false; rw [show smallT x = false from decide_eq_false (by omega)]; rfl))])
    go_enter Tryz.func26, Tryz.ntmps26
    go_wp2_with fail
    exact bodyPost_ret (v := .tuple #[.slice (some ⟨w.heap.size, 0, none⟩) 0 0, .int .i64 2]) (by simp [results, Tryz.results26, go_sem]) rfl ⟨_, rfl, EM.out⟩
  have h2i : ¬ (65536 : Int) < (x.size : Int) := by omega
  by_cases h3 : 65536 < y.size
  · have h3i : (65536 : Int) < (y.size : Int) := by omega
    obtain ⟨rfl, rfl⟩ := HBAD.out (by
      rw [← HQQ.out]
      unfold askM
      rw [if_pos (.inr (by show (smallT x && (smallT y && true)) = false; rw [show smallT y = false from decide_eq_false (by omega)]; simp))])
    go_enter Tryz.func26, Tryz.ntmps26
    go_wp2_with fail
    exact bodyPost_ret (v := .tuple #[.slice (some ⟨w.heap.size, 0, none⟩) 0 0, .int .i64 2]) (by simp [results, Tryz.results26, go_sem]) rfl ⟨_, rfl, EM.out⟩
  have h3i : ¬ (65536 : Int) < (y.size : Int) := by omega
  by_cases hq0 : q = 0
  · subst hq0
    obtain ⟨hst, hsx, hsy⟩ := ask_zero2 HQQ.out
    obtain ⟨hgl, nx0, hnm, n1, _⟩ := store_facts hst
    obtain ⟨b, o, rfl⟩ := store_src hst HS.out
    have zx := short_size' hsx
    have zy := short_size' hsy
    have HQ2 : Hid (dropR L x y = (R, Q)) := by have h9 := HQ1.out; unfold lawM2 at h9; rw [if_pos rfl] at h9; exact h9
    have CI := fun W (hW : Below w.heap.size w W) => l07DropFolderS b o n c L HLN.out hc hc9 hgl x y zx zy (by omega) W (HS.out.below hW) R Q HQ2.out
    have hln : R.length ≤ 4000 := by
      have h9 := dropR_len hgl x y
      rw [HQ2.out] at h9
      exact h9
    clear hst hsx hsy hgl HQ1 HBAD hnm n1
    go_enter Tryz.func26, Tryz.ntmps26
    go_wp2_with fail
    refine CA.mono ?_
    rintro e w3 ⟨rfl, hb3⟩
    have B3 : Hid (Below w.heap.size w w3) := AL.out.trans (hb3.mono AL.out.size)
    have CI3 := CI w3 B3.out
    clear hb3 CA CI
    go_wp2_with fail
    refine CI3.mono ?_
    rintro e w4 ⟨a4, n4, c4, rfl, k1, k2, hb4⟩
    have B4 : Hid (Below w.heap.size w w4) := B3.out.trans (hb4.mono B3.out.size)
    have CO := l07OwnS a4 n4 c4 R w4 k1 (by omega) k2
    have HN4 : Hid (R.length = n4) := k1
    clear hb4 CI3 k1 k2
    go_wp2_with fail
    refine CO.mono ?_
    rintro e w5 ⟨v5, rfl, ho5, hb5⟩
    obtain ⟨a5, c5, rfl, _, _⟩ := own_src ho5
    have HF : Hid (w5.ownsRow w.heap.size 59 2 (.slice a5 n4 c5) R.length (cellsP R) ∧ Below w.heap.size w w5) := ⟨by rw [HN4.out]; exact own_mono ho5 B4.out.size, B4.out.trans (hb5.mono B4.out.size)⟩
    clear ho5 hb5 CO
    go_wp2_with fail
    exact bodyPost_ret (v := .tuple #[.slice a5 n4 c5, .int .i64 Q]) (by simp [results, Tryz.results26, go_sem]) rfl ⟨_, rfl, HF.out⟩
  · obtain ⟨rfl, rfl⟩ : [] = R ∧ q = Q := by
      have h9 := HQ1.out
      unfold lawM2 at h9
      rw [if_neg hq0] at h9
      cases h9
      exact ⟨rfl, rfl⟩
    have hqi : (q != 0) = true := by simpa using hq0
    go_enter Tryz.func26, Tryz.ntmps26
    go_wp2_with fail
    refine CA.mono ?_
    rintro e w3 ⟨rfl, hb3⟩
    have B3 : Hid (Below w.heap.size w w3) := AL.out.trans (hb3.mono AL.out.size)
    have EM3 : Hid ((w3.alloc (.cells #[] 59)).ownsRow w.heap.size 59 2 (.slice (some ⟨w3.heap.size, 0, none⟩) 0 0) ([] : List PM).length (cellsP []) ∧ Below w.heap.size w (w3.alloc (.cells #[] 59))) := ⟨own_empty rfl B3.out.size, B3.out.alloc B3.out.size _⟩
    clear hb3 CA
    go_wp2_with fail
    exact bodyPost_ret (v := .tuple #[.slice (some ⟨w3.heap.size, 0, none⟩) 0 0, .int .i64 q]) (by simp [results, Tryz.results26, go_sem]) rfl ⟨_, rfl, EM3.out⟩
set_option maxHeartbeats 2000000 in
theorem implDropFolder (a : Option Addr) (n c : Nat) (L : List PM) (x y : ByteArray) (w : World) (hL : L.length = n) (hn : n ≤ 1048576) (hs : ∀ x ∈ L, x.1.size ≤ 1048576 ∧ x.2.size ≤ 1048576) (h : Src w a (cellsP L)) (hx : x.size ≤ 1048576) (hy : y.size ≤ 1048576) (hG : Gl w) (h8 : 8 ≤ w.heap.size) (R : List PM) (Q : Int) (HQ : Hid (lawM2 (dropR L x y) (askM L [x, y]) = (R, Q))) :
    Calls Tryz.prog 27 #[.slice a n c, .string x, .string y] w fun e w' => ∃ v, e = .returned (.tuple #[v, .int .i64 Q]) ∧ w'.ownsRow w.heap.size 59 2 v R.length (cellsP R) ∧ Below w.heap.size w w' := by
  have HLN : Hid (L.length = n) := hL
  have HS : Hid (Src w a (cellsP L)) := h
  have HG : Hid (Gl w) := hG
  have AL : Hid (Below w.heap.size w (w.alloc (.cells #[.string x, .string y] 9))) := (Below.refl _ _).alloc (Nat.le_refl _) _
  obtain ⟨q, hq⟩ : ∃ q, askM L [x, y] = q := ⟨_, rfl⟩
  have HQQ : Hid (askM L [x, y] = q) := hq
  have HQ1 : Hid (lawM2 (dropR L x y) q = (R, Q)) := by show _ = _; rw [← hq]; exact HQ.out
  have CA := mailFaultI a n c L (some ⟨w.heap.size, 0, none⟩) 2 2 [x, y] (w.alloc (.cells #[.string x, .string y] 9)) hL hn hs (HS.out.below AL.out) rfl (by omega) (fun s hs => by
    rcases List.mem_cons.1 hs with rfl | hs
    · exact hx
    · rw [List.mem_singleton.1 hs]; exact hy) (src_2S rfl) (hG.below h8 AL.out) (by have := AL.out.size; omega) q hq
  clear hL h hs hq HQ hG
  by_cases hq0 : q = 0
  · subst hq0
    obtain ⟨hst, hsx, hsy⟩ := ask_zero2 HQQ.out
    have hus := word_slash hsx
    have hu8 := short_size hsx
    have hy8 := short_size hsy
    obtain ⟨hgl, nx0, hnm, n1, n2, _⟩ := store_facts hst
    have hn60 := hgl.1
    rw [HLN.out] at hn60
    have HQ2 : Hid (dropR L x y = (R, Q)) := by have h9 := HQ1.out; unfold lawM2 at h9; rw [if_pos rfl] at h9; exact h9
    have CD := fun W (hW : Below w.heap.size w W) => deskWithI a n c L x W HLN.out (HS.out.below hW) (HG.out.below h8 hW) (by have := hW.size; omega) hst hus (by omega)
    have HFI : Hid (∀ S S' q nx', takeAll (nextM L) x S0 L = some S → dropM (nextM L) S y = (q, nx', S') → OpFits L x q nx' S' (dropR L x y)) := fun S S' q nx' k1 k2 => drop_fits hst hsx hsy k1 k2
    rw [hnm] at n1 n2
    obtain ⟨nx, hnx⟩ : ∃ t, nextM L = t := ⟨_, rfl⟩
    simp only [hnx] at CD HFI n1 n2
    clear hst hsx hsy HQ1 hgl hnm hnx
    go_enter Tryz.func27, Tryz.ntmps27
    go_wp2_with fail
    refine CA.mono ?_
    rintro e w3 ⟨rfl, hb3⟩
    have B3 : Hid (Below w.heap.size w w3) := AL.out.trans (hb3.mono AL.out.size)
    clear hb3 CA
    go_wp2_with fail
    refine (CD _ B3.out).mono ?_
    rintro e w4 ⟨M, S, rfl, hS, hSt, hM, hb4⟩
    have B4 : Hid (Below w.heap.size w w4) := B3.out.trans (hb4.mono B3.out.size)
    have hM2 : w.heap.size ≤ M := by have h9 := B3.out.size; omega
    obtain ⟨q1, nx1, S1, hop⟩ : ∃ q1 nx1 S1, dropM nx S y = (q1, nx1, S1) := ⟨_, _, _, rfl⟩
    have HOF : Hid (OpFits L x q1 nx1 S1 (dropR L x y)) := HFI.out S S1 q1 nx1 hS hop
    have COP := dropFolderI w4 M a n c nx x S n hSt y (by omega) (by omega) (by omega) n2 q1 nx1 S1 hop
    clear hb4 hS hSt CD hM hop HFI
    go_wp2_with fail
    refine COP.mono ?_
    rintro e w5 ⟨rfl, hst5, hb5⟩
    have B5 : Hid (Below w.heap.size w w5) := B4.out.trans (hb5.mono hM2)
    have HST5 : Hid (StAt w5 M a n c nx1 x S1 n) := hst5
    clear COP hb5 hst5
    by_cases hq1 : q1 = 0
    · subst hq1
      obtain ⟨k1, k2, k3, Y, k4, k5, k6, k7⟩ := HOF.out.2 rfl
      rw [HQ2.out] at k7
      have CE := doneOk w5 M a n c nx1 x S1 n HST5.out (by omega) k1 k2 k3 (by omega) (HG.out.below h8 B5.out) (by omega) Y k4 k5 _ rfl k6 L HLN.out hn60 (HS.out.below B5.out) R Q (by show _ = _; rw [k7]; rfl)
      clear k1 k2 k3 k4 k5 k6 k7 HOF
      go_wp2_with fail
      refine CE.mono ?_
      rintro e w6 ⟨v6, rfl, ho6, hb6⟩
      obtain ⟨a6, c6, rfl, _, _⟩ := own_src ho6
      have HF : Hid (w6.ownsRow w.heap.size 59 2 (.slice a6 R.length c6) R.length (cellsP R) ∧ Below w.heap.size w w6) := ⟨own_mono ho6 B5.out.size, B5.out.trans (hb6.mono B5.out.size)⟩
      clear CE ho6 hb6
      go_wp2_with fail
      exact bodyPost_ret (v := .tuple #[.slice a6 R.length c6, .int .i64 Q]) (by simp [results, Tryz.results27, go_sem]) rfl ⟨_, rfl, HF.out⟩
    · have k7 := HOF.out.1 hq1
      rw [HQ2.out] at k7
      obtain ⟨hk1, hk2⟩ : R = L ∧ Q = q1 := by cases k7; exact ⟨rfl, rfl⟩
      have e0c : w5.cell? ⟨M + 1, 0, none⟩ = some (.slice a n c) := by
        obtain ⟨_, _, hD, _⟩ := HST5.out
        exact (hD.1 0 _ rfl).1
      have CE := doneBad q1 hq1 w5 M a n c L HLN.out hn60 e0c (HS.out.below B5.out)
      have HK : Hid (R = L ∧ q1 = Q) := ⟨hk1, hk2.symm⟩
      clear k7 HOF hk1 hk2 e0c
      go_wp2_with fail
      refine CE.mono ?_
      rintro e w6 ⟨v6, rfl, ho6, hb6⟩
      obtain ⟨a6, c6, rfl, _, _⟩ := own_src ho6
      have HF : Hid (w6.ownsRow w.heap.size 59 2 (.slice a6 n c6) R.length (cellsP R) ∧ Below w.heap.size w w6) := ⟨by rw [HK.out.1, HLN.out]; exact own_mono ho6 B5.out.size, B5.out.trans (hb6.mono B5.out.size)⟩
      have HK2 : Hid (q1 = Q) := HK.out.2
      clear CE ho6 hb6
      go_wp2_with fail
      exact bodyPost_ret (v := .tuple #[.slice a6 n c6, .int .i64 q1]) (by simp [results, Tryz.results27, go_sem]) rfl ⟨_, by rw [HK2.out], HF.out⟩
  · obtain ⟨rfl, rfl⟩ : [] = R ∧ q = Q := by
      have h9 := HQ1.out
      unfold lawM2 at h9
      rw [if_neg hq0] at h9
      cases h9
      exact ⟨rfl, rfl⟩
    have hqi : (q != 0) = true := by simpa using hq0
    go_enter Tryz.func27, Tryz.ntmps27
    go_wp2_with fail
    refine CA.mono ?_
    rintro e w3 ⟨rfl, hb3⟩
    have B3 : Hid (Below w.heap.size w w3) := AL.out.trans (hb3.mono AL.out.size)
    clear hb3 CA
    go_wp2_with fail
    exact bodyPost_ret (v := .tuple #[.slice none 0 0, .int .i64 q]) (by simp [results, Tryz.results27, go_sem]) rfl ⟨_, rfl, World.ownsRow_nil _ _ _ _, B3.out⟩
end Go.Proofs.YthejpemiaenfpaaGreatDoor
namespace Go.Proofs.YthejpemiaenfpaaGreatDoor
open Go.ChangeShapes Go.WideShapes Go.ChangeAt Go.RowKit Go.Deep Go.Lib
set_option linter.unusedVariables false
theorem specDropFolderL (a : Option Addr) (n c : Nat) (L : List PM) (x y : ByteArray) (w : World) (hL : L.length = n) (hn : n ≤ 1048576) (hs : ∀ x ∈ L, x.1.size ≤ 1048576 ∧ x.2.size ≤ 1048576) (hcc : n ≤ c ∧ c ≤ maxLen) (hx : x.size ≤ 1048576) (hy : y.size ≤ 1048576) (h : Src w a (cellsP L)) :
    Calls Tryz.prog 26 #[.slice a n c, .string x, .string y] w fun e w' => ∃ v R q, e = .returned (.tuple #[v, .int .i64 q]) ∧ lawM2 (dropR L x y) (askM L [x, y]) = (R, q) ∧ w'.ownsRow w.heap.size 59 2 v R.length (cellsP R) ∧ Below w.heap.size w w' :=
  (specDropFolder a n c L x y w hL hn hcc.1 hcc.2 hs h hx hy _ _ rfl).mono fun e w' ⟨v, h1, h2, h3⟩ => ⟨v, _, _, h1, rfl, h2, h3⟩
theorem implDropFolderL (a : Option Addr) (n c : Nat) (L : List PM) (x y : ByteArray) (w : World) (hL : L.length = n) (hn : n ≤ 1048576) (hs : ∀ x ∈ L, x.1.size ≤ 1048576 ∧ x.2.size ≤ 1048576) (hx : x.size ≤ 1048576) (hy : y.size ≤ 1048576) (hG : Gl w) (h8 : 8 ≤ w.heap.size) (h : Src w a (cellsP L)) :
    Calls Tryz.prog 27 #[.slice a n c, .string x, .string y] w fun e w' => ∃ v R q, e = .returned (.tuple #[v, .int .i64 q]) ∧ lawM2 (dropR L x y) (askM L [x, y]) = (R, q) ∧ w'.ownsRow w.heap.size 59 2 v R.length (cellsP R) ∧ Below w.heap.size w w' :=
  (implDropFolder a n c L x y w hL hn hs h hx hy hG h8 _ _ rfl).mono fun e w' ⟨v, h1, h2, h3⟩ => ⟨v, _, _, h1, rfl, h2, h3⟩
theorem dropR_small {L R : List PM} {x y : ByteArray} {q : Int} (h : lawM2 (dropR L x y) (askM L [x, y]) = (R, q)) : R.length ≤ 1048576 := by
  unfold lawM2 at h
  split at h
  · rename_i h0
    have h9 := dropR_len (store_facts (ask_zero2 h0).1).1 x y
    rw [h] at h9
    have h8 : R.length ≤ 4000 := h9
    omega
  · cases h; simp
end Go.Proofs.YthejpemiaenfpaaGreatDoor
