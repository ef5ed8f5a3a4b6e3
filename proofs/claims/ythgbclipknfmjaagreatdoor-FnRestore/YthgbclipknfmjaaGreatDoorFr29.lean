/-
  Nms Lsp Fdp Vri in one. By an AI agent.
-/
import Derived.Test.YthgbclipknfmjaaGreatDoorFr28
import Derived.Test.YthgbclipknfmjaaGreatDoorShels
import Derived.Test.YthgbclipknfmjaaGreatDoorFr18
import Derived.Test.YthgbclipknfmjaaGreatDoorFr13
import Derived.Test.YthgbclipknfmjaaGreatDoorFr17
import Derived.Lib.OwnBridge
import Derived.Sort.OwnSorted
import Derived.Shelf.Slices.In.SortNone
namespace Go.Proofs.YthgbclipknfmjaaGreatDoor
open Go.ChangeShapes Go.WideShapes Go.ChangeAt Go.RowKit Go.Deep Go.Lib
open Go.ChangeMaps (setBlock)
set_option linter.unusedVariables false
set_option linter.unusedSimpArgs false
set_option maxRecDepth 100000

/-- The names of those folders that are still to come. -/
def leftNames (seen : Array Nat) : List FX → List ByteArray
  | [] => []
  | x :: X => if seen.contains x.born = true then leftNames seen X else x.name :: leftNames seen X
theorem leftN_other {seen : Array Nat} {b : Nat} : ∀ {X : List FX}, (∀ x ∈ X, x.born ≠ b) → leftNames (seen.push b) X = leftNames seen X
  | [], _ => rfl
  | x :: X, h => by
    unfold leftNames
    have h1 : (x.born == b) = false := beq_eq_false_iff_ne.2 (h x List.mem_cons_self)
    rw [contains_push, h1, Bool.or_false, leftN_other fun y hy => h y (List.mem_cons_of_mem _ hy)]
theorem leftN_push {seen : Array Nat} {x : FX} : ∀ {X : List FX}, (X.map (·.born)).Nodup → x ∈ X → seen.contains x.born = false → (leftNames seen X).Perm (x.name :: leftNames (seen.push x.born) X)
  | [], _, h, _ => by cases h
  | y :: X, hn, hx, hs => by
    rw [List.map_cons, List.nodup_cons] at hn
    unfold leftNames
    by_cases hb : y.born = x.born
    · have hno : ∀ z ∈ X, z.born ≠ x.born := fun z hz e => hn.1 (List.mem_map.2 ⟨z, hz, by rw [e, hb]⟩)
      rcases List.mem_cons.1 hx with rfl | hx
      · rw [leftN_other hno, contains_push, hs]
        simp
      · exact absurd rfl (hno x hx)
    · have h1 : (y.born == x.born) = false := beq_eq_false_iff_ne.2 hb
      rcases List.mem_cons.1 hx with rfl | hx
      · exact absurd rfl hb
      · have ih := leftN_push hn.2 hx hs
        rw [contains_push, h1, Bool.or_false]
        split
        · exact ih
        · exact (List.Perm.cons _ ih).trans (List.Perm.swap _ _ _)
theorem leftN_end {seen : Array Nat} : ∀ {X : List FX}, (∀ x ∈ X, seen.contains x.born = true) → leftNames seen X = []
  | [], _ => rfl
  | x :: X, h => by
    unfold leftNames
    rw [if_pos (h x List.mem_cons_self), leftN_end fun y hy => h y (List.mem_cons_of_mem _ hy)]
theorem leftN_view {u : ByteArray} : ∀ {X : List FX} {fs : List FM}, View u X fs → leftNames #[] X = fs.map (·.name)
  | [], [], _ => rfl
  | [], _ :: _, h => by cases h
  | _ :: _, [], h => by cases h
  | x :: X, f :: fs, h => by
    unfold View at h
    simp only [List.map_cons, List.cons.injEq, Prod.mk.injEq] at h
    obtain ⟨⟨_, h2⟩, h3⟩ := h
    have ih := leftN_view (u := u) (X := X) (fs := fs) h3
    unfold leftNames
    rw [ih, ← h2]
    simp
theorem own_sort1 {w0 w1 : World} {base g cap n nn : Nat} {os : Array Obj} {ss : List (List UInt8)} (ho : w1.ownsRow base 9 1 (.slice (some ⟨g, 0, none⟩) n cap) n (ss.map encStr)) (hb : Below w0.heap.size w0 w1) (hg : w0.heap.size ≤ g) (hl : ss.length = n) :
    let W := Sort.grow (Sort.putRow encStr (Sort.ahead w1 nn) g 0 (ss.mergeSort fun x y => decide (x ≤ y)).toArray) os
    W.ownsRow base 9 1 (.slice (some ⟨g, 0, none⟩) n cap) n ((ss.mergeSort fun x y => decide (x ≤ y)).map encStr) ∧ Below w0.heap.size w0 W := by
  have hm : (ss.mergeSort fun x y => decide (x ≤ y)).length = ss.length := List.length_mergeSort ss
  subst hl
  obtain ⟨_, ⟨hv, _⟩ | ⟨g', cap', cur, hv, h1, h2, h3, h4, h5, h6⟩⟩ := ho
  · cases hv
  cases hv
  have hs := ownsRow_sorted (n := nn) (os := os) (ts := ss.mergeSort fun x y => decide (x ≤ y)) hm h1 h2 h3 h4 h5
  exact ⟨hs, hb.grown (grownBy_sorted _) hb.size (fun j hj => by cases hj; exact hg)⟩
theorem sortNil (p : Option Addr) (cap : Nat) (w : World) : Calls Tryz.prog 121 #[.slice p 0 cap] w fun e w' => e = .returned (.tuple #[]) ∧ w' = w := Any.slices_Sort_string_none Tryz.lays190 p cap w
set_option maxHeartbeats 2000000 in
theorem namesI (w : World) (M : Nat) (D : DK) (hD : DeskAt w M D) (hX : D.X.length ≤ 60) :
    Calls Tryz.prog 67 #[.pointer (some ⟨M + 1, 0, none⟩)] w fun e w' => ∃ v, e = .returned v ∧ (∃ R : List ByteArray, R.Perm (leftNames #[] D.X) ∧ w'.ownsRow w.heap.size 9 1 v R.length (((R.map (·.data.toList)).mergeSort fun x y => decide (x ≤ y)).map encStr)) ∧ Below w.heap.size w w' := by
  obtain ⟨e5, _⟩ := hD.1 5 _ rfl
  have hM : M < w.heap.size := by have h9 : M + 1 < w.heap.size := World.block_lt_of_cell? _ _ e5; omega
  have HM : Hid (∃ clock, MapIs w M clock D.X) := hD.2.1
  have HSL : Hid (∀ x ∈ D.X, ∃ (ax : Option Addr) (cx : Nat), x.v = .slice ax x.mails.length cx) := fun x hx => by
    obtain ⟨ax, cx, h1, _, _⟩ := own_src (hD.2.2.2.1 x hx)
    exact ⟨ax, cx, h1⟩
  have HN : Hid ((D.X.map (·.born)).Nodup) := by obtain ⟨_, h9⟩ := hD.2.1; exact h9.2.2
  have hll : ∀ X : List FX, (leftNames #[] X).length ≤ X.length := fun X => by
    induction X with
    | nil => exact Nat.le_refl _
    | cons x X ih => unfold leftNames; simp; exact ih
  have HLL : Hid ((leftNames #[] D.X).length ≤ 60) := Nat.le_trans (hll D.X) hX
  clear hD hll
  go_enter Tryz.func67, Tryz.ntmps67
  go_wp2_with (first
    | (at_range; refine wpList_rangeX _ rfl _ 86 rfl Tryz.underlying86 M D.X rfl HM.out ?_; intro w0 hrg0 hb0 hs0)
    | go_in)
  go_frame
  go_loopw [3] (fun v wr => ∃ (seen : Array Nat) (u : Value) (R : List ByteArray), u = v ∧ Hid (RangeX wr M w.heap.size D.X seen) ∧ Hid ((R ++ leftNames seen D.X).Perm (leftNames #[] D.X)) ∧ Hid (wr.ownsRow (w.heap.size + 1) 9 1 u R.length (cellsS R)) ∧ Hid (Below w.heap.size w wr) ∧ Hid (w.heap.size < wr.heap.size)) (fun _ wr => wr.rangeLeft M w.heap.size)
  case atStart => exact ⟨#[], _, [], rfl, hrg0, by show List.Perm _ _; rw [List.nil_append], World.ownsRow_nil _ _ _ _, hb0, by show _ < _; omega⟩
  case round =>
    obtain ⟨seen, u, R, rfl, hrg, hperm, hown, hbw, hlt⟩ := hrel
    have hR60 : R.length ≤ 60 := by
      have h9 := hperm.out.length_eq
      have h7 := HLL.out
      rw [List.length_append] at h9
      omega
    go_wp2_with (first
      | (at_next; refine wpList_nextY _ rfl _ rfl M w.heap.size D.X seen hM rfl hrg.out HSL.out ?_ ?_)
      | go_in)
    · intro hall
      have hz := leftN_end (fun x hx => by simpa using hall.out x hx)
      have HP : Hid (R.Perm (leftNames #[] D.X)) := by have h9 := hperm.out; rw [hz, List.append_nil] at h9; exact h9
      clear hz hall hperm
      have SS : Hid (cellsS R = (R.map (·.data.toList)).map encStr) := by
        show _ = _
        unfold cellsS
        rw [List.map_map]
        exact List.map_congr_left fun x _ => rfl
      obtain ⟨m0, hm0⟩ : ∃ m, R.length = m := ⟨_, rfl⟩
      rw [hm0] at hR60
      have HM0 : Hid (R.length = m0) := hm0
      have HLs : Hid ((R.map (·.data.toList)).length = m0) := by show _ = _; rw [List.length_map, hm0]
      have HO : Hid (wr.ownsRow (w.heap.size + 1) 9 1 u m0 ((R.map (·.data.toList)).map encStr)) := by rw [← SS.out, ← hm0]; exact hown.out
      obtain ⟨ss, hss⟩ : ∃ ss, R.map (·.data.toList) = ss := ⟨_, rfl⟩
      have HSS : Hid (R.map (·.data.toList) = ss) := hss
      rw [hss] at HO HLs
      clear hm0 hown hss SS
      by_cases hu : u = .slice none 0 0
      · subst hu
        have hz : m0 = 0 := by
          obtain ⟨hl, ⟨_, h0⟩ | ⟨g, cap, cur, hv, _⟩⟩ := HO.out
          · exact h0
          · cases hv
        have HNIL : Hid (R = []) := List.eq_nil_of_length_eq_zero (HM0.out.trans hz)
        clear hz
        go_wp2_with (go_at_call 121; refine (sortNil _ _ _).mono ?_; rintro e w2 ⟨rfl, rfl⟩)
        go_ret
        refine ⟨.slice none 0 0, rfl, ⟨R, HP.out, ?_⟩, hbw.out⟩
        rw [HNIL.out]
        simp
        exact World.ownsRow_nil _ _ _ _
      · obtain ⟨g, cap, rfl, hg1, hg2, hg3, hg4, _, hH⟩ := Lib.holds_of_ownsRow HO.out hu
        have C1 : Hid (Calls Tryz.prog 121 #[.slice (some ⟨g, 0, none⟩) m0 cap] wr fun e w' => e = .returned (.tuple #[]) ∧ ∃ n os, w' = Sort.grow (Sort.putRow encStr (Sort.ahead wr n) g 0 (ss.mergeSort fun x y => decide (x ≤ y)).toArray) os) := by
          have h9 := Tryz.slices_Sort_string g 0 cap ss wr hH hg2 (by rw [HLs.out]; omega)
          rw [HLs.out] at h9
          exact h9
        clear hH hu
        go_wp2_with fail
        refine C1.out.mono ?_
        rintro e w2 ⟨rfl, nn, os, hw2⟩
        obtain ⟨oo, bb⟩ := own_sort1 (nn := nn) (os := os) (own_mono HO.out (show w.heap.size ≤ w.heap.size + 1 by omega)) hbw.out (by omega) HLs.out
        rw [← hw2] at oo bb
        have OO : Hid (w2.ownsRow w.heap.size 9 1 (.slice (some ⟨g, 0, none⟩) m0 cap) m0 ((ss.mergeSort fun x y => decide (x ≤ y)).map encStr) ∧ Below w.heap.size w w2) := ⟨oo, bb⟩
        clear oo bb hw2 C1
        go_wp2_with fail
        go_ret
        refine ⟨.slice (some ⟨g, 0, none⟩) m0 cap, rfl, ⟨R, HP.out, ?_⟩, OO.out.2⟩
        rw [HM0.out, HSS.out]
        exact OO.out.1
    · intro x hx hsx ax cx hv w1 hrg1 hlt1 hb1 hgr1 hs1 hen
      have hpush := leftN_push HN.out hx (by simpa using hsx.out)
      obtain ⟨ml, hml⟩ : ∃ k, x.mails.length = k := ⟨_, rfl⟩
      obtain ⟨xn, hxn⟩ : ∃ k, x.name = k := ⟨_, rfl⟩
      rw [hml] at hen ⊢
      rw [hxn] at hpush hen ⊢
      have HS2 : Hid (((R ++ [xn]) ++ leftNames (seen.push x.born) D.X).Perm (leftNames #[] D.X)) := by
        show List.Perm _ _
        rw [List.append_assoc]
        exact (List.Perm.append_left R hpush.symm).trans hperm.out
      have HR1 : Hid (RangeX w1 M w.heap.size D.X (seen.push x.born)) := hrg1
      have HB1 : Hid (Below w.heap.size w w1) := hbw.out.trans hb1
      have HL1 : Hid (w.heap.size < w1.heap.size) := by have h9 := hlt.out; show _ < _; omega
      have HLT : Hid (w1.rangeLeft M w.heap.size < wr.rangeLeft M w.heap.size) := hlt1
      have HO1 : Hid (w1.ownsRow (w.heap.size + 1) 9 1 u R.length (cellsS R)) := own_grown hown.out hgr1 (fun g h9 h7 => by have h5 := (hown.out.lt g h9).1; cases h7; omega)
      clear hpush hperm hrg1 hb1 hbw hlt hml hlt1 hs1 hxn hown hgr1
      go_wp2_with (at_builtin; refine wpList_append_src _ rfl _ _ 47 rfl (w.heap.size + 1) 9 (.string ⟨#[]⟩) 1 16 Tryz.underlying47 infoS rfl (by decide) (by decide) _ R.length (cellsS R) rfl ((HO1.out.alloc _).alloc _) (some ⟨w1.heap.size + 1, 0, none⟩) 1 1 (cellsS [xn]) rfl rfl (src_oneC (by simp)) (cellsS_one _) (by omega) (by have h9 := HL1.out; simp; omega) ?_)
      intro v2 w2 hown2 hgrow2
      have hub : ∀ g, u.ownBlock = some g → w.heap.size + 1 ≤ g := fun g e => (HO1.out.lt g e).1
      have HO2 : Hid (w2.ownsRow (w.heap.size + 1) 9 1 v2 (R ++ [xn]).length (cellsS (R ++ [xn]))) := by
        show w2.ownsRow _ _ _ _ _ _
        rw [cellsS_append, List.length_append]
        exact hown2
      have HR2 : Hid (RangeX w2 M w.heap.size D.X (seen.push x.born)) := RangeX.grown ((HR1.out.later ((Below.refl _ _).alloc (Nat.le_refl _) _)).later ((Below.refl _ _).alloc (Nat.le_refl _) _)) hgrow2 (fun e => by have := hub _ e; omega) (fun e => by have := hub _ e; omega)
      have HB2 : Hid (Below w.heap.size w w2) := ((HB1.out.alloc HB1.out.size _).alloc (by have := HB1.out.size; simp; omega) _).grown hgrow2 (by have := HB1.out.size; simp; omega) (fun g e => by have := hub _ e; omega)
      have HL2 : Hid (w.heap.size < w2.heap.size) := by have h9 := hgrow2.size; have h7 := HL1.out; simp at h9; show _ < _; omega
      clear hown2 hgrow2 hub
      go_wp2_with fail
      go_roundw
      case rel => exact ⟨_, _, R ++ [xn], rfl, HR2.out, HS2.out, HO2.out, HB2.out, HL2.out⟩
      case measure => rw [HR2.out.left, ← HR1.out.left]; exact HLT.out
end Go.Proofs.YthgbclipknfmjaaGreatDoor
namespace Go.Proofs.YthgbclipknfmjaaGreatDoor
open Go.ChangeShapes Go.WideShapes Go.ChangeAt Go.RowKit Go.Deep Go.Lib
set_option linter.unusedVariables false
set_option linter.unusedSimpArgs false
set_option maxRecDepth 100000

theorem bl_pre : ∀ p a b : List UInt8, Op.bytesLess (p ++ a) (p ++ b) = Op.bytesLess a b
  | [], _, _ => rfl
  | c :: p, a, b => by
    rw [List.cons_append, List.cons_append, Op.bytesLess, bl_pre p a b]
    simp
theorem foldersK_data (u : ByteArray) : (foldersK u).data.toList = 102 :: 47 :: (u.data.toList ++ [47]) := by
  rw [folderK_data]
theorem behind_data {u : ByteArray} {x : PM} (h : beginsB x.1 (foldersK u) = true) : x.1.data.toList = (foldersK u).data.toList ++ (behind u x).data.toList := by
  obtain ⟨r, hr⟩ := begins_iff.1 h
  have h1 : x.1.size = (foldersK u).size + r.length := by rw [← bytes_len x.1, hr, List.length_append, bytes_len]
  have h2 : (behind u x).data.toList = r := by
    unfold behind
    rw [ext_data x.1 (foldersK u).size x.1.size (Nat.le_refl _), hr, List.drop_append_of_le_length (by rw [bytes_len]; exact Nat.le_refl _)]
    rw [List.drop_of_length_le (by rw [bytes_len]; exact Nat.le_refl _), List.nil_append, List.take_of_length_le (by omega)]
  rw [h2, hr]
theorem behind_key {u : ByteArray} {x : PM} (h : beginsB x.1 (foldersK u) = true) : x.1 = folderK u (behind u x) := by
  apply bs_inj
  rw [behind_data h, foldersK_data, folderK_data]
  simp
theorem begins_folder (u name : ByteArray) : beginsB (folderK u name) (foldersK u) = true := by
  rw [begins_iff]
  exact ⟨name.data.toList, by rw [folderK_data, foldersK_data]; simp⟩
theorem lookF_iff {n : ByteArray} : ∀ {fs : List FM}, (lookF n fs).isSome = true ↔ n ∈ fs.map (·.name)
  | [] => by simp [lookF]
  | f :: fs => by
    have ih := lookF_iff (n := n) (fs := fs)
    unfold lookF
    by_cases e : f.name = n
    · rw [if_pos e]; simp [e]
    · rw [if_neg e, ih, List.map_cons, List.mem_cons]
      constructor
      · exact .inr
      · rintro (h | h)
        · exact absurd h.symm e
        · exact h
theorem folders_mem {L : List PM} {u : ByteArray} (hst : storeB L = true) (hus : (47 : UInt8) ∉ u.data.toList) {S : SM} (hI : Inv (nextM L) u L S) (name : ByteArray) : name ∈ S.fs.map (·.name) ↔ name ∈ listS L u := by
  obtain ⟨hg, nx, hnm, _, h2, _, k1, k2⟩ := store_facts hst
  rw [← lookF_iff]
  unfold listS
  rw [List.mem_map]
  constructor
  · intro h
    obtain ⟨f, hf⟩ := Option.isSome_iff_exists.1 h
    obtain ⟨w, _, hm, _⟩ := hI.a name f hf
    refine ⟨(folderK u name, w), List.mem_filter.2 ⟨hm, begins_folder u name⟩, ?_⟩
    exact (folderK_inj (behind_key (x := (folderK u name, w)) (begins_folder u name))).symm
  · rintro ⟨x, hx, rfl⟩
    rw [List.mem_filter] at hx
    have hk := behind_key hx.2
    have hsl : (47 : UInt8) ∉ (behind u x).data.toList := by
      have hp : splitL 47 x.1.data.toList = [102] :: u.data.toList :: splitL 47 (behind u x).data.toList := by
        have h1 : x.1.data.toList = [102] ++ 47 :: (u.data.toList ++ 47 :: (behind u x).data.toList) := by rw [behind_data hx.2, foldersK_data]; simp
        rw [h1, splitL_seg 47 [102] _ (by decide), splitL_seg 47 _ _ hus]
      rcases k2 x hx.1 with e | ⟨u2, ho, _⟩
      · rw [e] at hp; cases hp
      · unfold ownerM at ho
        rw [hp] at ho
        match hs : splitL 47 (behind u x).data.toList, ho with
        | [], ho => exact absurd hs (splitL_ne 47 _)
        | [b], ho => rw [(split_one hs).1]; exact (split_one hs).2
        | [_, _], ho => cases ho
        | _ :: _ :: _ :: _, ho => cases ho
    exact hI.b _ x.2 hsl (by rw [← hk]; exact hx.1)
theorem listS_up {L : List PM} {u : ByteArray} (hu : UpL L) : (listS L u).Pairwise ltK := by
  unfold listS
  rw [List.pairwise_map]
  have h1 : (L.filter fun x => beginsB x.1 (foldersK u)).Pairwise fun x y => ltK x.1 y.1 := List.Pairwise.filter _ hu
  refine List.Pairwise.imp_of_mem ?_ h1
  intro x y hx hy h
  rw [List.mem_filter] at hx hy
  unfold ltK at h ⊢
  rw [ByteArray.toList_eq, ByteArray.toList_eq] at h ⊢
  rw [behind_data hx.2, behind_data hy.2, bl_pre] at h
  exact h
theorem sort_eq {L : List PM} {u : ByteArray} (hst : storeB L = true) (hus : (47 : UInt8) ∉ u.data.toList) {S : SM} (hI : Inv (nextM L) u L S) (hn : (S.fs.map (·.name)).Nodup) {R : List ByteArray} (hR : R.Perm (S.fs.map (·.name))) :
    ((R.map (·.data.toList)).mergeSort fun x y => decide (x ≤ y)) = (listS L u).map (·.data.toList) := by
  have hup := listS_up (u := u) (store_facts hst).1.2.2
  have hnd : (listS L u).Nodup := hup.imp fun {a b} h e => by rw [e] at h; exact ltK_irrefl _ h
  have hp : R.Perm (listS L u) := hR.trans ((List.perm_ext_iff_of_nodup hn hnd).2 (folders_mem hst hus hI))
  refine List.Perm.eq_of_pairwise (le := fun a b => decide (a ≤ b) = true) ?_ (List.pairwise_mergeSort ?_ ?_ _) ?_ ((List.mergeSort_perm _ _).trans (hp.map _))
  · intro a b _ _ h1 h2
    exact List.le_antisymm (of_decide_eq_true h1) (of_decide_eq_true h2)
  · intro a b c h1 h2
    exact decide_eq_true (List.le_trans (of_decide_eq_true h1) (of_decide_eq_true h2))
  · intro a b
    rcases List.le_total a b with h | h
    · rw [decide_eq_true h]; rfl
    · rw [decide_eq_true h]; simp
  · rw [List.pairwise_map]
    refine hup.imp fun {a b} h => ?_
    unfold ltK at h
    rw [bl_eq, decide_eq_true_eq, ByteArray.toList_eq, ByteArray.toList_eq] at h
    exact decide_eq_true (List.le_of_lt h)
theorem none_left {L : List PM} {u : ByteArray} (hst : storeB L = true) (hus : (47 : UInt8) ∉ u.data.toList) (hno : getM L (userK u) = none) : listS L u = [] := by
  obtain ⟨hg, nx, hnm, _, h2, _, k1, k2⟩ := store_facts hst
  unfold listS
  rw [List.map_eq_nil_iff, List.filter_eq_nil_iff]
  intro x hx hb
  have hp : splitL 47 x.1.data.toList = [102] :: u.data.toList :: splitL 47 (behind u x).data.toList := by
    have h1 : x.1.data.toList = [102] ++ 47 :: (u.data.toList ++ 47 :: (behind u x).data.toList) := by rw [behind_data hb, foldersK_data]; simp
    rw [h1, splitL_seg 47 [102] _ (by decide), splitL_seg 47 _ _ hus]
  rcases k2 x hx with e | ⟨u2, ho, z, hz, ez⟩
  · rw [e] at hp; cases hp
  · unfold ownerM at ho
    rw [hp] at ho
    have hu2 : u = u2 := by
      match hs : splitL 47 (behind u x).data.toList, ho with
      | [], ho => exact absurd hs (splitL_ne 47 _)
      | [b], ho =>
        have h9 : some (bs u.data.toList) = some u2 := ho
        rw [data_bs] at h9
        exact Option.some.inj h9
      | [_, _], ho => cases ho
      | _ :: _ :: _ :: _, ho => cases ho
    rw [← hu2] at ez
    exact getM_none.1 hno z hz ez
def listG (L : List PM) (u : ByteArray) (b : Bool) : List ByteArray × Int := if b = true then (listS L u, 0) else ([], 15)
def flM (L : List PM) (u : ByteArray) : List ByteArray × Int := if askM L [u] = 0 then listG L u (getM L (userK u)).isSome else ([], askM L [u])
/-- A store's desk. -/
structure DeskS (N : List PM) (u : ByteArray) (S : SM) : Prop where
  st : storeB N = true
  tk : takeAll (nextM N) u S0 N = some S
  wd : S.word.toList ≠ []
  fit : FitS (nextM N) u S
  nd : (S.fs.map (·.name)).Nodup
  n1 : 1 ≤ nextM N
/-- What a list is that a desk's operation left. -/
structure LeftS (N Y : List PM) (u : ByteArray) (S S' : SM) : Prop where
  st : storeB Y = true
  up : UpL Y
  pm : (deskP (nextM Y) u S').Perm Y
  fit : FitS (nextM Y) u S'
  nd : (S'.fs.map (·.name)).Nodup
  wd : S'.word.toList ≠ []
  asd : S'.aside = S.aside
theorem LeftS.desk {N Y : List PM} {u : ByteArray} {S S' : SM} (h : LeftS N Y u S S') : ∃ S2, DeskS Y u S2 := by
  have hus := word_slash h.fit.us
  obtain ⟨S2, hS2, _, _⟩ := take_all h.st hus
  have hw : S2.word.toList ≠ [] := fun e => by
    have h1 := (word_iff h.st hus hS2).1.1 e
    rw [desk_user h.up h.pm] at h1
    cases h1
  obtain ⟨_, nx0, hnm, n1, _⟩ := store_facts h.st
  rw [hnm] at n1
  exact ⟨S2, h.st, hS2, hw, store_fits h.st hus hS2 hw, names_of hS2, n1⟩
theorem LeftS.fa {N Y : List PM} {u : ByteArray} {S S' : SM} {g : FM} (hD : DeskS N u S) (h : LeftS N Y u S S') (hg : g ∈ S'.fs) (hr : Rise g.mails) : faM Y u g.name = ((g.name, g.val, g.next, g.mails), 0) :=
  fa_exact hD.st hD.tk h.asd h.st h.fit h.nd h.up h.pm h.wd hg hr
/-- The folders' names, and what is told of them. -/
theorem names_told {Y : List PM} {u : ByteArray} {S : SM} (hD : DeskS Y u S) : flM Y u = (listS Y u, 0) ∧ (listS Y u).Nodup ∧ (listS Y u).length ≤ 60 ∧ (∀ nm ∈ listS Y u, shortB nm = true ∧ ∃ g ∈ S.fs, g.name = nm ∧ faM Y u nm = ((nm, g.val, g.next, g.mails), 0) ∧ metaM Y u nm = some (g.val, g.next)) ∧ ∀ g ∈ S.fs, g.name ∈ listS Y u := by
  have hsu := hD.fit.us
  have hus := word_slash hsu
  obtain ⟨S2, hS2, _, hI⟩ := take_all hD.st hus
  obtain rfl : S = S2 := by
    have h9 := hD.tk
    rw [hS2] at h9
    exact (Option.some.inj h9).symm
  have hk : (getM Y (userK u)).isSome = true := by
    cases hv : getM Y (userK u) with
    | some v => rfl
    | none => exact absurd ((word_iff hD.st hus hS2).1.2 hv) hD.wd
  have hnd : (listS Y u).Nodup := (listS_up (store_facts hD.st).1.2.2).imp fun {a b} h e => by rw [e] at h; exact ltK_irrefl _ h
  have hperm := (List.perm_ext_iff_of_nodup hD.nd hnd).2 (folders_mem hD.st hus hI)
  refine ⟨?_, hnd, ?_, fun nm hnm => ?_, fun g hg => (folders_mem hD.st hus hI g.name).1 (List.mem_map.2 ⟨g, hg, rfl⟩)⟩
  · unfold flM
    rw [ask_ok hD.st (by simp [hsu]), if_pos rfl, hk]
    rfl
  · rw [← hperm.length_eq, List.length_map]
    have l2 := (desk_list hD.st hus hD.tk hD.wd).length_eq
    simp only [List.length_cons, List.length_append, flat_len] at l2
    have := (store_facts hD.st).1.1
    omega
  · obtain ⟨g, hg, rfl⟩ := List.mem_map.1 ((folders_mem hD.st hus hI nm).2 hnm)
    have hsg := (hD.fit.fs g hg).1
    have hl := look_self hD.nd hg
    have hm := look_meta hD.st hS2 hl
    refine ⟨hsg, g, hg, rfl, ?_, hm⟩
    unfold faM
    rw [ask_ok hD.st (by simp [hsu, hsg]), if_pos rfl, show knownR Y u g.name = 0 from by unfold knownR; rw [hk, hm]; rfl, if_pos rfl, hS2]
    show (faG (lookF g.name S.fs), (0 : Int)) = _
    rw [hl]
    rfl
def fpre : ByteArray := ⟨#[102, 47]⟩
/-- The validities of B are none below those of A. -/
def RiseP (A B : List PM) : Prop := storeB A = true ∧ storeB B = true ∧ nextM A ≤ nextM B ∧ ∀ p ∈ B, ∀ v f : ByteArray, (47 : UInt8) ∉ v.data.toList → (47 : UInt8) ∉ f.data.toList → p.1 = folderK v f → ∃ x n, metaM B v f = some (x, n) ∧ (nextM A ≤ x ∨ ∃ m, metaM A v f = some (x, m) ∧ m ≤ n)
theorem folder_form {B : List PM} {p : PM} (h : storeB B = true) (hp : p ∈ B) (hb : beginsB p.1 fpre = true) : ∃ v f : ByteArray, (47 : UInt8) ∉ v.data.toList ∧ (47 : UInt8) ∉ f.data.toList ∧ p.1 = folderK v f ∧ v.size ≤ 30 ∧ f.size ≤ 30 ∧ (partsK p.1).map bs = [v, f] ∧ 2 ≤ p.1.size ∧ p.1.size ≤ 30 := by
  obtain ⟨r, hr⟩ := begins_iff.1 hb
  have hr2 : p.1.data.toList = 102 :: 47 :: r := by rw [hr]; rfl
  have hnv : p.1 ≠ vK := fun e => by rw [e] at hr2; cases hr2
  have ha := store_pair h hp hnv
  have hsp := parts_of hr2 (by decide)
  rw [hsp] at ha
  have hpk : partsK p.1 = splitL 47 r := by unfold partsK; rw [hr2]; rfl
  have hns := no_slash (c := 47) (l := r) rfl
  have hz := (store_facts h).1.2.1 p hp
  have hsz : p.1.size = r.length + 2 := by rw [size_of, hr2]; rfl
  match hs : splitL 47 r, ha, hns with
  | [], _, _ => exact absurd hs (splitL_ne 47 _)
  | [b], ha, _ =>
    have h1 : ([102] : List UInt8) = [117] := ha.1
    cases h1
  | [b, c], _, hns =>
    have hb1 := hns b (by simp)
    have hc1 := hns c (by simp)
    have hj : r = b ++ 47 :: c := by
      obtain ⟨rest, h1, h2, _⟩ := split_back hs
      rw [h1, (split_one h2).1]
    refine ⟨bs b, bs c, hb1, hc1, ?_, ?_, ?_, ?_, by omega, hz.2.1⟩
    · refine bs_inj ?_
      rw [hr2, folderK_data, hj]
      simp [bs]
    · have : (bs b).size = b.length := rfl
      rw [hj, List.length_append] at hsz
      omega
    · have : (bs c).size = c.length := rfl
      rw [hj, List.length_append, List.length_cons] at hsz
      omega
    · rw [hpk, hs]
      rfl
  | [b, c, d], ha, _ =>
    have h1 : ([102] : List UInt8) = [109] := ha.1
    cases h1
  | _ :: _ :: _ :: _ :: _, ha, _ =>
    exact ha.elim
theorem metaSome (a : Option Addr) (n c : Nat) (L : List PM) (u f : ByteArray) (w : World) (hL : L.length = n) (hg : GoodL L) (hu : u.size ≤ 1048576) (hf : f.size ≤ 1048576) (h : Src w a (cellsP L)) (x y : Int) (hm : metaM L u f = some (x, y)) :
    Calls Tryz.prog 66 #[.slice a n c, .string u, .string f] w fun e w' => e = .returned (.tuple #[.int .i64 x, .int .i64 y, .bool true]) ∧ Below w.heap.size w w' := by
  refine (l07MetaS a n c L u f w hL hg hu hf h).mono ?_
  rintro e w' ⟨p, q, rfl, hpost, hb⟩
  rw [hm] at hpost ⊢
  obtain ⟨h1, h2⟩ := hpost _ rfl
  dsimp only at h1 h2
  rw [h1, h2]
  exact ⟨rfl, hb⟩
set_option maxHeartbeats 8000000 in
theorem specRises (a1 : Option Addr) (n1 c1 : Nat) (A : List PM) (a2 : Option Addr) (n2 c2 : Nat) (B : List PM) (w : World) (hA : A.length = n1) (hB : B.length = n2) (hr : RiseP A B) (h1 : Src w a1 (cellsP A)) (h2 : Src w a2 (cellsP B)) :
    Calls Tryz.prog 22 #[.slice a1 n1 c1, .slice a2 n2 c2] w fun e w' => e = .returned (.tuple #[.bool true, .int .i64 0]) ∧ Below w.heap.size w w' := by
  obtain ⟨hsA, hsB, hnx, hall⟩ := hr
  have hgA := (store_facts hsA).1
  have hgB := (store_facts hsB).1
  have n16 : n1 ≤ 60 := by rw [← hA]; exact hgA.1
  have n26 : n2 ≤ 60 := by rw [← hB]; exact hgB.1
  have COA := fun (W : World) (k1 : Src W a1 (cellsP A)) => specMailStoreOK a1 n1 c1 A W hA (by omega) (fun x hx => by have := hgA.2.1 x hx; omega) k1 true hsA
  have COB := fun (W : World) (k1 : Src W a2 (cellsP B)) => specMailStoreOK a2 n2 c2 B W hB (by omega) (fun x hx => by have := hgB.2.1 x hx; omega) k1 true hsB
  have CNA := fun (W : World) (k1 : Src W a1 (cellsP A)) => l07NextW a1 n1 c1 A W hA hgA.wide k1
  have CNB := fun (W : World) (k1 : Src W a2 (cellsP B)) => l07NextW a2 n2 c2 B W hB hgB.wide k1
  have CMA := fun (v f : ByteArray) (hv : v.size ≤ 30) (hf : f.size ≤ 30) (W : World) (k1 : Src W a1 (cellsP A)) => l07MetaS a1 n1 c1 A v f W hA hgA (by omega) (by omega) k1
  have CMB := fun (v f : ByteArray) (hv : v.size ≤ 30) (hf : f.size ≤ 30) (W : World) (k1 : Src W a2 (cellsP B)) => metaSome a2 n2 c2 B v f W hB hgB (by omega) (by omega) k1
  have CMX := fun (v f : ByteArray) (hv : v.size ≤ 30) (hf : f.size ≤ 30) (W : World) (k1 : Src W a1 (cellsP A)) => metaSome a1 n1 c1 A v f W hA hgA (by omega) (by omega) k1
  have CU := fun (W : World) (k1 : Src W a2 (cellsP B)) => l01Under a2 n2 c2 (fK B) (fV B) fpre W (by omega) (by decide) (fun i hi => by
    have hi2 : i < B.length := by omega
    obtain ⟨e1, e2⟩ := at_fst hi2
    rw [e1, e2]
    have := hgB.2.1 _ (List.getElem_mem hi2)
    omega) (sp_src k1 hB)
  have eU : under (fK B) (fV B) fpre n2 = B.filter fun x => beginsB x.1 fpre := by
    rw [under_is B fpre n2 (by omega), List.take_of_length_le (by omega)]
  simp only [eU] at CU
  obtain ⟨U, hU⟩ : ∃ t, (B.filter fun x => beginsB x.1 fpre) = t := ⟨_, rfl⟩
  simp only [hU] at CU
  obtain ⟨m, hm⟩ : ∃ t, U.length = t := ⟨_, rfl⟩
  have HUM : Hid (U.length = m) := hm
  have hm60 : m ≤ 60 := by
    rw [← hm, ← hU]
    have := List.length_filter_le (fun x : PM => beginsB x.1 fpre) B
    omega
  have HEA : Hid (∀ p ∈ U, ∃ v f : ByteArray, v.size ≤ 30 ∧ f.size ≤ 30 ∧ (partsK p.1).map bs = [v, f] ∧ 2 ≤ p.1.size ∧ p.1.size ≤ 30 ∧ ∃ x n, metaM B v f = some (x, n) ∧ (nextM A ≤ x ∨ ∃ m, metaM A v f = some (x, m) ∧ m ≤ n)) := fun p hp => by
    rw [← hU, List.mem_filter] at hp
    obtain ⟨v, f, k1, k2, k3, k4, k5, k6, k7, k8⟩ := folder_form hsB hp.1 hp.2
    exact ⟨v, f, k4, k5, k6, k7, k8, hall p hp.1 v f k1 k2 k3⟩
  have HS : Hid (Src w a1 (cellsP A) ∧ Src w a2 (cellsP B)) := ⟨h1, h2⟩
  obtain ⟨xa, hxa⟩ : ∃ x, nextM A = x := ⟨_, rfl⟩
  obtain ⟨xb, hxb⟩ : ∃ x, nextM B = x := ⟨_, rfl⟩
  simp only [hxa] at CNA
  simp only [hxb] at CNB
  rw [hxa, hxb] at hnx
  rw [hxa] at HEA
  have hnb : ¬ xb < xa := by omega
  have hl1 : ¬ (4096 : Int) < (n1 : Int) := by omega
  have hl2 : ¬ (4096 : Int) < (n2 : Int) := by omega
  clear hsA hsB hall hgA hgB hA hB h1 h2 eU hU hm hxa hxb
  go_enter Tryz.func22, Tryz.ntmps22
  go_wp2_with fail
  refine (COA w HS.out.1).mono ?_
  rintro e w1 ⟨rfl, hb1⟩
  have B1 : Hid (Below w.heap.size w w1) := hb1
  clear hb1 COA
  go_wp2_with fail
  refine (COB w1 (HS.out.2.below B1.out)).mono ?_
  rintro e w2 ⟨rfl, hb2⟩
  have B2 : Hid (Below w.heap.size w w2) := B1.out.trans (hb2.mono B1.out.size)
  have S2 : Hid (Src w2 a1 (cellsP A) ∧ Src w2 a2 (cellsP B)) := ⟨HS.out.1.below B2.out, HS.out.2.below B2.out⟩
  clear hb2 COB HS
  go_wp2_with fail
  refine (CNB w2 S2.out.2).mono ?_
  rintro e w3 ⟨rfl, hw3⟩
  obtain rfl := hw3
  go_wp2_with fail
  refine (CNA w3 S2.out.1).mono ?_
  rintro e w4 ⟨rfl, hw4⟩
  obtain rfl := hw4
  clear CNB
  go_wp2_with fail
  refine (CU w4 S2.out.2).mono ?_
  rintro e w5 ⟨v5, rfl, ho5, hb5⟩
  have ho6 : w5.ownsRow w4.heap.size 68 2 v5 U.length (cellsP U) := ho5
  rw [HUM.out] at ho6
  obtain ⟨au, cu, rfl, hsu, _⟩ := own_src ho6
  have B5 : Hid (Below w.heap.size w w5) := B2.out.trans (hb5.mono B2.out.size)
  have S5 : Hid (Src w5 a1 (cellsP A) ∧ Src w5 a2 (cellsP B) ∧ Src w5 au (cellsP U)) := ⟨S2.out.1.below hb5, S2.out.2.below hb5, hsu⟩
  clear ho5 ho6 hb5 hsu CU S2
  go_wp2_with fail
  go_loopw [7] (fun iv wr => ∃ j : Nat, j ≤ m ∧ iv = .int .i64 (j : Int) ∧ Hid (Below w5.heap.size w5 wr)) (fun i _ => m - (RowKit.intOf i).toNat)
  case atStart => exact ⟨0, by omega, rfl, Below.refl _ _⟩
  case round =>
    obtain ⟨j, hj, rfl, hbr⟩ := hrel
    have B6 : Hid (Below w.heap.size w wr) := B5.out.trans (hbr.out.mono B5.out.size)
    by_cases hlt : j < m
    · have hlti : (j : Int) < (m : Int) := by omega
      have hj0 : (0 : Int) ≤ (j : Int) := by omega
      obtain ⟨b, o, x, y, rfl, e0, e1, hx⟩ := srcP (S5.out.2.2.below hbr.out) (i := j) (by rw [HUM.out]; exact hlt)
      have hmem : (x, y) ∈ U := by
        rw [← hx.out, List.getD_eq_getElem?_getD, List.getElem?_eq_getElem (by rw [HUM.out]; exact hlt)]
        exact List.getElem_mem _
      obtain ⟨v, f, hv, hf, hpk, z1, z2, xx, nn, hmB, hor⟩ := HEA.out (x, y) hmem
      have CK := l07NamesS x wr z1 (by have : x.size ≤ 30 := z2; omega)
      have hpk2 : (partsK x).map bs = [v, f] := hpk
      have hpl : (partsK x).length = 2 := by
        have h9 := congrArg List.length hpk2
        rw [List.length_map] at h9
        exact h9
      rw [hpk2, hpl] at CK
      have HOR : Hid (metaM B v f = some (xx, nn) ∧ (xa ≤ xx ∨ ∃ m, metaM A v f = some (xx, m) ∧ m ≤ nn)) := ⟨hmB, hor⟩
      clear hx hmem hpk hpk2 hpl hmB hor e1 z1 z2
      go_wp2_with fail
      refine CK.mono ?_
      rintro e w7 ⟨v7, rfl, ho7, hb7⟩
      obtain ⟨aw, cw, rfl, hsw, _⟩ := own_src ho7
      have B7 : Hid (Below w5.heap.size w5 w7) := hbr.out.trans (hb7.mono hbr.out.size)
      obtain ⟨b8, o8, s0, rfl, g0, hg0⟩ := srcS hsw (i := 0) (by show 0 < 2; omega)
      obtain ⟨b9, o9, s1, e9, g1, hg1⟩ := srcS hsw (i := 1) (by show 1 < 2; omega)
      cases e9
      obtain rfl : v = s0 := hg0.out
      obtain rfl : f = s1 := hg1.out
      have G7 : Hid (Src w7 (some ⟨b8, o8, none⟩) (cellsS [v, f])) := hsw
      have CB7 := CMB v f hv hf w7.drew (S5.out.2.1.below B7.out.drew) xx nn HOR.out.1
      clear ho7 hb7 CK hg0 hg1 hsw e0
      go_wp2_with fail
      go_upto_region 12 with fail
      refine wp_region_noPanic ?_
      refine wp_region_held_drew (S := fun w' => w'.cell? ⟨b8, o8, none⟩ = some (.string v) ∧ w'.cell? ⟨b8, o8 + 1, none⟩ = some (.string f)) (by kernel_rfl) ⟨g0, g1⟩ (fun hHeld => ?_)
      refine tkA (i := 0) (v := .slice a2 n2 c2) ?_ hHeld ?_
      · intro w9 hSw
        obtain ⟨y0, y1⟩ := hSw
        go_simp
      simp only [Act.put, List.setIfInBounds_toArray, List.set_cons_zero, List.set_cons_succ]
      refine tkA (i := 1) (v := .slice (some ⟨b8, o8, none⟩) 2 cw) ?_ hHeld ?_
      · intro w9 hSw
        obtain ⟨y0, y1⟩ := hSw
        go_simp
      simp only [Act.put, List.setIfInBounds_toArray, List.set_cons_zero, List.set_cons_succ]
      refine tkA (i := 2) (v := .pointer (some ⟨b8, o8, none⟩)) ?_ hHeld ?_
      · intro w9 hSw
        obtain ⟨y0, y1⟩ := hSw
        go_simp
      simp only [Act.put, List.setIfInBounds_toArray, List.set_cons_zero, List.set_cons_succ]
      refine tkA (i := 3) (v := .string v) ?_ hHeld ?_
      · intro w9 hSw
        obtain ⟨y0, y1⟩ := hSw
        go_simp
      simp only [Act.put, List.setIfInBounds_toArray, List.set_cons_zero, List.set_cons_succ]
      refine tkA (i := 4) (v := .slice (some ⟨b8, o8, none⟩) 2 cw) ?_ hHeld ?_
      · intro w9 hSw
        obtain ⟨y0, y1⟩ := hSw
        go_simp
      simp only [Act.put, List.setIfInBounds_toArray, List.set_cons_zero, List.set_cons_succ]
      refine tkA (i := 5) (v := .pointer (some ⟨b8, o8 + 1, none⟩)) ?_ hHeld ?_
      · intro w9 hSw
        obtain ⟨y0, y1⟩ := hSw
        go_simp
      simp only [Act.put, List.setIfInBounds_toArray, List.set_cons_zero, List.set_cons_succ]
      refine tkA (i := 6) (v := .string f) ?_ hHeld ?_
      · intro w9 hSw
        obtain ⟨y0, y1⟩ := hSw
        go_simp
      simp only [Act.put, List.setIfInBounds_toArray, List.set_cons_zero, List.set_cons_succ]
      refine wpAnyH_ready (rs := [7]) (by kernel_rfl) (by simp) ?_
      refine AllReadyH.cons rfl (fun K hK => ?_) AllReadyH.nil
      go_simp
      refine CB7.mono ?_
      rintro e w8 ⟨rfl, hb8⟩
      dsimp only
      have B8 : Hid (Below w5.heap.size w5 w8) := B7.out.drew.trans (Below.mono hb8 B7.out.size)
      have G8 : Hid (Src w8 (some ⟨b8, o8, none⟩) (cellsS [v, f])) := Src.below (w := w7.drew) G7.out hb8
      have y0 : w8.cell? ⟨b8, o8, none⟩ = some (.string v) := cell_later (w := w7.drew) hb8 g0
      have y1 : w8.cell? ⟨b8, o8 + 1, none⟩ = some (.string f) := cell_later (w := w7.drew) hb8 g1
      clear hb8 CB7 g0 g1
      refine hK _ _ ⟨y0, y1⟩ (fun hHeld => ?_)
      clear hK K
      refine tkA (i := 8) (v := .tuple #[.int .i64 xx, .int .i64 nn, .bool true]) ?_ hHeld ?_
      · intro w9 hSw
        obtain ⟨y0, y1⟩ := hSw
        go_simp
      simp only [Act.put, List.setIfInBounds_toArray, List.set_cons_zero, List.set_cons_succ]
      refine tkA (i := 9) (v := .int .i64 xx) ?_ hHeld ?_
      · intro w9 hSw
        obtain ⟨y0, y1⟩ := hSw
        go_simp
      simp only [Act.put, List.setIfInBounds_toArray, List.set_cons_zero, List.set_cons_succ]
      refine tkA (i := 10) (v := .int .i64 nn) ?_ hHeld ?_
      · intro w9 hSw
        obtain ⟨y0, y1⟩ := hSw
        go_simp
      simp only [Act.put, List.setIfInBounds_toArray, List.set_cons_zero, List.set_cons_succ]
      refine tkA (i := 11) (v := .bool true) ?_ hHeld ?_
      · intro w9 hSw
        obtain ⟨y0, y1⟩ := hSw
        go_simp
      simp only [Act.put, List.setIfInBounds_toArray, List.set_cons_zero, List.set_cons_succ]
      refine wpAnyH_ready (rs := [12]) (by kernel_rfl) (by simp) ?_
      refine AllReadyH.cons rfl (fun K hK => ?_) AllReadyH.nil
      go_simp
      refine hK _ _ ⟨y0, y1⟩ (fun hHeld => ?_)
      clear hK K
      refine wpAnyH_ready (rs := [13]) (by kernel_rfl) (by simp) ?_
      refine AllReadyH.cons rfl (fun K hK => ?_) AllReadyH.nil
      go_simp
      refine hK _ _ ⟨y0, y1⟩ (fun hHeld => ?_)
      clear hK K
      refine wpAnyH_ready (rs := [14]) (by kernel_rfl) (by simp) ?_
      refine AllReadyH.cons rfl (fun K hK => ?_) AllReadyH.nil
      go_simp
      refine hK _ _ ⟨y0, y1⟩ (fun hHeld => ?_)
      clear hK K
      refine wpAnyH_done (by kernel_rfl) ?_ _
      refine NoPanic.normal ?_
      clear hHeld
      have g0 := y0
      have g1 := y1
      clear y0 y1
      by_cases hx : xa ≤ xx
      · have CA8 := CMA v f hv hf w8.drew (S5.out.1.below B8.out.drew)
        obtain ⟨bm, hbm⟩ : ∃ bm, (metaM A v f).isSome = bm := ⟨_, rfl⟩
        rw [hbm] at CA8
        clear hbm
        go_upto_region 13 with fail
        refine wp_region_noPanic ?_
        refine wp_region_held_drew (S := fun w' => w'.cell? ⟨b8, o8, none⟩ = some (.string v) ∧ w'.cell? ⟨b8, o8 + 1, none⟩ = some (.string f)) (by kernel_rfl) ⟨g0, g1⟩ (fun hHeld => ?_)
        refine tkA (i := 0) (v := .slice a1 n1 c1) ?_ hHeld ?_
        · intro w9 hSw
          obtain ⟨y0, y1⟩ := hSw
          go_simp
        simp only [Act.put, List.setIfInBounds_toArray, List.set_cons_zero, List.set_cons_succ]
        refine tkA (i := 1) (v := .slice (some ⟨b8, o8, none⟩) 2 cw) ?_ hHeld ?_
        · intro w9 hSw
          obtain ⟨y0, y1⟩ := hSw
          go_simp
        simp only [Act.put, List.setIfInBounds_toArray, List.set_cons_zero, List.set_cons_succ]
        refine tkA (i := 2) (v := .pointer (some ⟨b8, o8, none⟩)) ?_ hHeld ?_
        · intro w9 hSw
          obtain ⟨y0, y1⟩ := hSw
          go_simp
        simp only [Act.put, List.setIfInBounds_toArray, List.set_cons_zero, List.set_cons_succ]
        refine tkA (i := 3) (v := .string v) ?_ hHeld ?_
        · intro w9 hSw
          obtain ⟨y0, y1⟩ := hSw
          go_simp
        simp only [Act.put, List.setIfInBounds_toArray, List.set_cons_zero, List.set_cons_succ]
        refine tkA (i := 4) (v := .slice (some ⟨b8, o8, none⟩) 2 cw) ?_ hHeld ?_
        · intro w9 hSw
          obtain ⟨y0, y1⟩ := hSw
          go_simp
        simp only [Act.put, List.setIfInBounds_toArray, List.set_cons_zero, List.set_cons_succ]
        refine tkA (i := 5) (v := .pointer (some ⟨b8, o8 + 1, none⟩)) ?_ hHeld ?_
        · intro w9 hSw
          obtain ⟨y0, y1⟩ := hSw
          go_simp
        simp only [Act.put, List.setIfInBounds_toArray, List.set_cons_zero, List.set_cons_succ]
        refine tkA (i := 6) (v := .string f) ?_ hHeld ?_
        · intro w9 hSw
          obtain ⟨y0, y1⟩ := hSw
          go_simp
        simp only [Act.put, List.setIfInBounds_toArray, List.set_cons_zero, List.set_cons_succ]
        refine wpAnyH_ready (rs := [7]) (by kernel_rfl) (by simp) ?_
        refine AllReadyH.cons rfl (fun K hK => ?_) AllReadyH.nil
        go_simp
        refine CA8.mono ?_
        rintro e w9 ⟨p, q, rfl, _, hb9⟩
        dsimp only
        have B9 : Hid (Below w5.heap.size w5 w9) := B8.out.drew.trans (Below.mono hb9 B8.out.size)
        have G9 : Hid (Src w9 (some ⟨b8, o8, none⟩) (cellsS [v, f])) := Src.below (w := w8.drew) G8.out hb9
        have y0 : w9.cell? ⟨b8, o8, none⟩ = some (.string v) := cell_later (w := w8.drew) hb9 g0
        have y1 : w9.cell? ⟨b8, o8 + 1, none⟩ = some (.string f) := cell_later (w := w8.drew) hb9 g1
        clear hb9 CA8 g0 g1
        refine hK _ _ ⟨y0, y1⟩ (fun hHeld => ?_)
        clear hK K
        refine tkA (i := 8) (v := .tuple #[.int .i64 p, .int .i64 q, .bool bm]) ?_ hHeld ?_
        · intro w9 hSw
          obtain ⟨y0, y1⟩ := hSw
          go_simp
        simp only [Act.put, List.setIfInBounds_toArray, List.set_cons_zero, List.set_cons_succ]
        refine tkA (i := 9) (v := .int .i64 p) ?_ hHeld ?_
        · intro w9 hSw
          obtain ⟨y0, y1⟩ := hSw
          go_simp
        simp only [Act.put, List.setIfInBounds_toArray, List.set_cons_zero, List.set_cons_succ]
        refine tkA (i := 10) (v := .int .i64 q) ?_ hHeld ?_
        · intro w9 hSw
          obtain ⟨y0, y1⟩ := hSw
          go_simp
        simp only [Act.put, List.setIfInBounds_toArray, List.set_cons_zero, List.set_cons_succ]
        refine tkA (i := 11) (v := .bool bm) ?_ hHeld ?_
        · intro w9 hSw
          obtain ⟨y0, y1⟩ := hSw
          go_simp
        simp only [Act.put, List.setIfInBounds_toArray, List.set_cons_zero, List.set_cons_succ]
        refine wpAnyH_ready (rs := [12]) (by kernel_rfl) (by simp) ?_
        refine AllReadyH.cons rfl (fun K hK => ?_) AllReadyH.nil
        go_simp
        refine hK _ _ ⟨y0, y1⟩ (fun hHeld => ?_)
        clear hK K
        refine wpAnyH_ready (rs := [13]) (by kernel_rfl) (by simp) ?_
        refine AllReadyH.cons rfl (fun K hK => ?_) AllReadyH.nil
        go_simp
        refine hK _ _ ⟨y0, y1⟩ (fun hHeld => ?_)
        clear hK K
        refine wpAnyH_ready (rs := [14]) (by kernel_rfl) (by simp) ?_
        refine AllReadyH.cons rfl (fun K hK => ?_) AllReadyH.nil
        go_simp
        refine hK _ _ ⟨y0, y1⟩ (fun hHeld => ?_)
        clear hK K
        refine wpAnyH_done (by kernel_rfl) ?_ _
        refine NoPanic.normal ?_
        clear hHeld
        have CN9 := CNA w9 (S5.out.1.below B9.out)
        clear y0 y1
        go_wp2_with fail
        refine CN9.mono ?_
        rintro e w10 ⟨rfl, hw10⟩
        obtain rfl := hw10
        clear CN9
        go_wp2_with fail
        exact ⟨⟨j + 1, by omega, by go_num, B9.out⟩, by simp [RowKit.intOf]; omega⟩
      · obtain ⟨mm, hmA, hmn⟩ := HOR.out.2.resolve_left hx
        have CA8 := CMX v f hv hf w8.drew (S5.out.1.below B8.out.drew) xx mm hmA
        have hmn2 : ¬ nn < mm := by omega
        clear hmA hmn
        go_upto_region 13 with fail
        refine wp_region_noPanic ?_
        refine wp_region_held_drew (S := fun w' => w'.cell? ⟨b8, o8, none⟩ = some (.string v) ∧ w'.cell? ⟨b8, o8 + 1, none⟩ = some (.string f)) (by kernel_rfl) ⟨g0, g1⟩ (fun hHeld => ?_)
        refine tkA (i := 0) (v := .slice a1 n1 c1) ?_ hHeld ?_
        · intro w9 hSw
          obtain ⟨y0, y1⟩ := hSw
          go_simp
        simp only [Act.put, List.setIfInBounds_toArray, List.set_cons_zero, List.set_cons_succ]
        refine tkA (i := 1) (v := .slice (some ⟨b8, o8, none⟩) 2 cw) ?_ hHeld ?_
        · intro w9 hSw
          obtain ⟨y0, y1⟩ := hSw
          go_simp
        simp only [Act.put, List.setIfInBounds_toArray, List.set_cons_zero, List.set_cons_succ]
        refine tkA (i := 2) (v := .pointer (some ⟨b8, o8, none⟩)) ?_ hHeld ?_
        · intro w9 hSw
          obtain ⟨y0, y1⟩ := hSw
          go_simp
        simp only [Act.put, List.setIfInBounds_toArray, List.set_cons_zero, List.set_cons_succ]
        refine tkA (i := 3) (v := .string v) ?_ hHeld ?_
        · intro w9 hSw
          obtain ⟨y0, y1⟩ := hSw
          go_simp
        simp only [Act.put, List.setIfInBounds_toArray, List.set_cons_zero, List.set_cons_succ]
        refine tkA (i := 4) (v := .slice (some ⟨b8, o8, none⟩) 2 cw) ?_ hHeld ?_
        · intro w9 hSw
          obtain ⟨y0, y1⟩ := hSw
          go_simp
        simp only [Act.put, List.setIfInBounds_toArray, List.set_cons_zero, List.set_cons_succ]
        refine tkA (i := 5) (v := .pointer (some ⟨b8, o8 + 1, none⟩)) ?_ hHeld ?_
        · intro w9 hSw
          obtain ⟨y0, y1⟩ := hSw
          go_simp
        simp only [Act.put, List.setIfInBounds_toArray, List.set_cons_zero, List.set_cons_succ]
        refine tkA (i := 6) (v := .string f) ?_ hHeld ?_
        · intro w9 hSw
          obtain ⟨y0, y1⟩ := hSw
          go_simp
        simp only [Act.put, List.setIfInBounds_toArray, List.set_cons_zero, List.set_cons_succ]
        refine wpAnyH_ready (rs := [7]) (by kernel_rfl) (by simp) ?_
        refine AllReadyH.cons rfl (fun K hK => ?_) AllReadyH.nil
        go_simp
        refine CA8.mono ?_
        rintro e w9 ⟨rfl, hb9⟩
        dsimp only
        have B9 : Hid (Below w5.heap.size w5 w9) := B8.out.drew.trans (Below.mono hb9 B8.out.size)
        have G9 : Hid (Src w9 (some ⟨b8, o8, none⟩) (cellsS [v, f])) := Src.below (w := w8.drew) G8.out hb9
        have y0 : w9.cell? ⟨b8, o8, none⟩ = some (.string v) := cell_later (w := w8.drew) hb9 g0
        have y1 : w9.cell? ⟨b8, o8 + 1, none⟩ = some (.string f) := cell_later (w := w8.drew) hb9 g1
        clear hb9 CA8 g0 g1
        refine hK _ _ ⟨y0, y1⟩ (fun hHeld => ?_)
        clear hK K
        refine tkA (i := 8) (v := .tuple #[.int .i64 xx, .int .i64 mm, .bool true]) ?_ hHeld ?_
        · intro w9 hSw
          obtain ⟨y0, y1⟩ := hSw
          go_simp
        simp only [Act.put, List.setIfInBounds_toArray, List.set_cons_zero, List.set_cons_succ]
        refine tkA (i := 9) (v := .int .i64 xx) ?_ hHeld ?_
        · intro w9 hSw
          obtain ⟨y0, y1⟩ := hSw
          go_simp
        simp only [Act.put, List.setIfInBounds_toArray, List.set_cons_zero, List.set_cons_succ]
        refine tkA (i := 10) (v := .int .i64 mm) ?_ hHeld ?_
        · intro w9 hSw
          obtain ⟨y0, y1⟩ := hSw
          go_simp
        simp only [Act.put, List.setIfInBounds_toArray, List.set_cons_zero, List.set_cons_succ]
        refine tkA (i := 11) (v := .bool true) ?_ hHeld ?_
        · intro w9 hSw
          obtain ⟨y0, y1⟩ := hSw
          go_simp
        simp only [Act.put, List.setIfInBounds_toArray, List.set_cons_zero, List.set_cons_succ]
        refine wpAnyH_ready (rs := [12]) (by kernel_rfl) (by simp) ?_
        refine AllReadyH.cons rfl (fun K hK => ?_) AllReadyH.nil
        go_simp
        refine hK _ _ ⟨y0, y1⟩ (fun hHeld => ?_)
        clear hK K
        refine wpAnyH_ready (rs := [13]) (by kernel_rfl) (by simp) ?_
        refine AllReadyH.cons rfl (fun K hK => ?_) AllReadyH.nil
        go_simp
        refine hK _ _ ⟨y0, y1⟩ (fun hHeld => ?_)
        clear hK K
        refine wpAnyH_ready (rs := [14]) (by kernel_rfl) (by simp) ?_
        refine AllReadyH.cons rfl (fun K hK => ?_) AllReadyH.nil
        go_simp
        refine hK _ _ ⟨y0, y1⟩ (fun hHeld => ?_)
        clear hK K
        refine wpAnyH_done (by kernel_rfl) ?_ _
        refine NoPanic.normal ?_
        clear hHeld
        have CN9 := CNA w9 (S5.out.1.below B9.out)
        clear y0 y1
        go_wp2_with fail
        refine CN9.mono ?_
        rintro e w10 ⟨rfl, hw10⟩
        obtain rfl := hw10
        clear CN9
        go_wp2_with fail
        exact ⟨⟨j + 1, by omega, by go_num, B9.out⟩, by simp [RowKit.intOf]; omega⟩
    · obtain rfl : j = m := by omega
      have hlti : ¬ (j : Int) < (j : Int) := by omega
      go_wp2_with fail
      exact bodyPost_ret (v := .tuple #[.bool true, .int .i64 0]) (by simp [results, Tryz.results22, go_sem]) rfl ⟨rfl, B6.out⟩
end Go.Proofs.YthgbclipknfmjaaGreatDoor
