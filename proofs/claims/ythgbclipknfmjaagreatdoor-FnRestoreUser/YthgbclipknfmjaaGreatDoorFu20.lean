/-
  Nms Lsp Fdp Vri Cpx Pux Rsp Rnf Rsi in one. By an AI agent.
-/
import Derived.Test.YthgbclipknfmjaaGreatDoorFu19
import Derived.Test.YthgbclipknfmjaaGreatDoorShels
import Derived.Test.YthgbclipknfmjaaGreatDoorFu13
import Derived.Test.YthgbclipknfmjaaGreatDoorFu09
import Derived.Test.YthgbclipknfmjaaGreatDoorFu12
import Derived.Test.YthgbclipknfmjaaGreatDoorFu14
import Derived.Test.YthgbclipknfmjaaGreatDoorFu17
import Derived.Test.YthgbclipknfmjaaGreatDoorFu16
import Derived.Lib.OwnBridge
import Derived.Sort.OwnSorted
import Derived.Shelf.Slices.In.SortNone
namespace Go.Proofs.YthgbclipknfmjaaGreatDoor
open Go.ChangeShapes Go.WideShapes Go.ChangeAt Go.RowKit Go.Deep Go.Lib
open Go.ChangeMaps (setBlock)
set_option linter.unusedVariables false
set_option linter.unusedSimpArgs false
set_option maxRecDepth 100000

/-- The names of those folders that are still to come. -/
def leftNames (seen : Array Nat) : List FX → List ByteArray
  | [] => []
  | x :: X => if seen.contains x.born = true then leftNames seen X else x.name :: leftNames seen X
theorem leftN_other {seen : Array Nat} {b : Nat} : ∀ {X : List FX}, (∀ x ∈ X, x.born ≠ b) → leftNames (seen.push b) X = leftNames seen X
  | [], _ => rfl
  | x :: X, h => by
    unfold leftNames
    have h1 : (x.born == b) = false := beq_eq_false_iff_ne.2 (h x List.mem_cons_self)
    rw [contains_push, h1, Bool.or_false, leftN_other fun y hy => h y (List.mem_cons_of_mem _ hy)]
theorem leftN_push {seen : Array Nat} {x : FX} : ∀ {X : List FX}, (X.map (·.born)).Nodup → x ∈ X → seen.contains x.born = false → (leftNames seen X).Perm (x.name :: leftNames (seen.push x.born) X)
  | [], _, h, _ => by cases h
  | y :: X, hn, hx, hs => by
    rw [List.map_cons, List.nodup_cons] at hn
    unfold leftNames
    by_cases hb : y.born = x.born
    · have hno : ∀ z ∈ X, z.born ≠ x.born := fun z hz e => hn.1 (List.mem_map.2 ⟨z, hz, by rw [e, hb]⟩)
      rcases List.mem_cons.1 hx with rfl | hx
      · rw [leftN_other hno, contains_push, hs]
        simp
      · exact absurd rfl (hno x hx)
    · have h1 : (y.born == x.born) = false := beq_eq_false_iff_ne.2 hb
      rcases List.mem_cons.1 hx with rfl | hx
      · exact absurd rfl hb
      · have ih := leftN_push hn.2 hx hs
        rw [contains_push, h1, Bool.or_false]
        split
        · exact ih
        · exact (List.Perm.cons _ ih).trans (List.Perm.swap _ _ _)
theorem leftN_end {seen : Array Nat} : ∀ {X : List FX}, (∀ x ∈ X, seen.contains x.born = true) → leftNames seen X = []
  | [], _ => rfl
  | x :: X, h => by
    unfold leftNames
    rw [if_pos (h x List.mem_cons_self), leftN_end fun y hy => h y (List.mem_cons_of_mem _ hy)]
theorem leftN_view {u : ByteArray} : ∀ {X : List FX} {fs : List FM}, View u X fs → leftNames #[] X = fs.map (·.name)
  | [], [], _ => rfl
  | [], _ :: _, h => by cases h
  | _ :: _, [], h => by cases h
  | x :: X, f :: fs, h => by
    unfold View at h
    simp only [List.map_cons, List.cons.injEq, Prod.mk.injEq] at h
    obtain ⟨⟨_, h2⟩, h3⟩ := h
    have ih := leftN_view (u := u) (X := X) (fs := fs) h3
    unfold leftNames
    rw [ih, ← h2]
    simp
theorem own_sort1 {w0 w1 : World} {base g cap n nn : Nat} {os : Array Obj} {ss : List (List UInt8)} (ho : w1.ownsRow base 9 1 (.slice (some ⟨g, 0, none⟩) n cap) n (ss.map encStr)) (hb : Below w0.heap.size w0 w1) (hg : w0.heap.size ≤ g) (hl : ss.length = n) :
    let W := Sort.grow (Sort.putRow encStr (Sort.ahead w1 nn) g 0 (ss.mergeSort fun x y => decide (x ≤ y)).toArray) os
    W.ownsRow base 9 1 (.slice (some ⟨g, 0, none⟩) n cap) n ((ss.mergeSort fun x y => decide (x ≤ y)).map encStr) ∧ Below w0.heap.size w0 W := by
  have hm : (ss.mergeSort fun x y => decide (x ≤ y)).length = ss.length := List.length_mergeSort ss
  subst hl
  obtain ⟨_, ⟨hv, _⟩ | ⟨g', cap', cur, hv, h1, h2, h3, h4, h5, h6⟩⟩ := ho
  · cases hv
  cases hv
  have hs := ownsRow_sorted (n := nn) (os := os) (ts := ss.mergeSort fun x y => decide (x ≤ y)) hm h1 h2 h3 h4 h5
  exact ⟨hs, hb.grown (grownBy_sorted _) hb.size (fun j hj => by cases hj; exact hg)⟩
theorem sortNil (p : Option Addr) (cap : Nat) (w : World) : Calls Tryz.prog 121 #[.slice p 0 cap] w fun e w' => e = .returned (.tuple #[]) ∧ w' = w := Any.slices_Sort_string_none Tryz.lays190 p cap w
set_option maxHeartbeats 2000000 in
theorem namesI (w : World) (M : Nat) (D : DK) (hD : DeskAt w M D) (hX : D.X.length ≤ 60) :
    Calls Tryz.prog 67 #[.pointer (some ⟨M + 1, 0, none⟩)] w fun e w' => ∃ v, e = .returned v ∧ (∃ R : List ByteArray, R.Perm (leftNames #[] D.X) ∧ w'.ownsRow w.heap.size 9 1 v R.length (((R.map (·.data.toList)).mergeSort fun x y => decide (x ≤ y)).map encStr)) ∧ Below w.heap.size w w' := by
  obtain ⟨e5, _⟩ := hD.1 5 _ rfl
  have hM : M < w.heap.size := by have h9 : M + 1 < w.heap.size := World.block_lt_of_cell? _ _ e5; omega
  have HM : Hid (∃ clock, MapIs w M clock D.X) := hD.2.1
  have HSL : Hid (∀ x ∈ D.X, ∃ (ax : Option Addr) (cx : Nat), x.v = .slice ax x.mails.length cx) := fun x hx => by
    obtain ⟨ax, cx, h1, _, _⟩ := own_src (hD.2.2.2.1 x hx)
    exact ⟨ax, cx, h1⟩
  have HN : Hid ((D.X.map (·.born)).Nodup) := by obtain ⟨_, h9⟩ := hD.2.1; exact h9.2.2
  have hll : ∀ X : List FX, (leftNames #[] X).length ≤ X.length := fun X => by
    induction X with
    | nil => exact Nat.le_refl _
    | cons x X ih => unfold leftNames; simp; exact ih
  have HLL : Hid ((leftNames #[] D.X).length ≤ 60) := Nat.le_trans (hll D.X) hX
  clear hD hll
  go_enter Tryz.func67, Tryz.ntmps67
  go_wp2_with (first
    | (at_range; refine wpList_rangeX _ rfl _ 86 rfl Tryz.underlying86 M D.X rfl HM.out ?_; intro w0 hrg0 hb0 hs0)
    | go_in)
  go_frame
  go_loopw [3] (fun v wr => ∃ (seen : Array Nat) (u : Value) (R : List ByteArray), u = v ∧ Hid (RangeX wr M w.heap.size D.X seen) ∧ Hid ((R ++ leftNames seen D.X).Perm (leftNames #[] D.X)) ∧ Hid (wr.ownsRow (w.heap.size + 1) 9 1 u R.length (cellsS R)) ∧ Hid (Below w.heap.size w wr) ∧ Hid (w.heap.size < wr.heap.size)) (fun _ wr => wr.rangeLeft M w.heap.size)
  case atStart => exact ⟨#[], _, [], rfl, hrg0, by show List.Perm _ _; rw [List.nil_append], World.ownsRow_nil _ _ _ _, hb0, by show _ < _; omega⟩
  case round =>
    obtain ⟨seen, u, R, rfl, hrg, hperm, hown, hbw, hlt⟩ := hrel
    have hR60 : R.length ≤ 60 := by
      have h9 := hperm.out.length_eq
      have h7 := HLL.out
      rw [List.length_append] at h9
      omega
    go_wp2_with (first
      | (at_next; refine wpList_nextY _ rfl _ rfl M w.heap.size D.X seen hM rfl hrg.out HSL.out ?_ ?_)
      | go_in)
    · intro hall
      have hz := leftN_end (fun x hx => by simpa using hall.out x hx)
      have HP : Hid (R.Perm (leftNames #[] D.X)) := by have h9 := hperm.out; rw [hz, List.append_nil] at h9; exact h9
      clear hz hall hperm
      have SS : Hid (cellsS R = (R.map (·.data.toList)).map encStr) := by
        show _ = _
        unfold cellsS
        rw [List.map_map]
        exact List.map_congr_left fun x _ => rfl
      obtain ⟨m0, hm0⟩ : ∃ m, R.length = m := ⟨_, rfl⟩
      rw [hm0] at hR60
      have HM0 : Hid (R.length = m0) := hm0
      have HLs : Hid ((R.map (·.data.toList)).length = m0) := by show _ = _; rw [List.length_map, hm0]
      have HO : Hid (wr.ownsRow (w.heap.size + 1) 9 1 u m0 ((R.map (·.data.toList)).map encStr)) := by rw [← SS.out, ← hm0]; exact hown.out
      obtain ⟨ss, hss⟩ : ∃ ss, R.map (·.data.toList) = ss := ⟨_, rfl⟩
      have HSS : Hid (R.map (·.data.toList) = ss) := hss
      rw [hss] at HO HLs
      clear hm0 hown hss SS
      by_cases hu : u = .slice none 0 0
      · subst hu
        have hz : m0 = 0 := by
          obtain ⟨hl, ⟨_, h0⟩ | ⟨g, cap, cur, hv, _⟩⟩ := HO.out
          · exact h0
          · cases hv
        have HNIL : Hid (R = []) := List.eq_nil_of_length_eq_zero (HM0.out.trans hz)
        clear hz
        go_wp2_with (go_at_call 121; refine (sortNil _ _ _).mono ?_; rintro e w2 ⟨rfl, rfl⟩)
        go_ret
        refine ⟨.slice none 0 0, rfl, ⟨R, HP.out, ?_⟩, hbw.out⟩
        rw [HNIL.out]
        simp
        exact World.ownsRow_nil _ _ _ _
      · obtain ⟨g, cap, rfl, hg1, hg2, hg3, hg4, _, hH⟩ := Lib.holds_of_ownsRow HO.out hu
        have C1 : Hid (Calls Tryz.prog 121 #[.slice (some ⟨g, 0, none⟩) m0 cap] wr fun e w' => e = .returned (.tuple #[]) ∧ ∃ n os, w' = Sort.grow (Sort.putRow encStr (Sort.ahead wr n) g 0 (ss.mergeSort fun x y => decide (x ≤ y)).toArray) os) := by
          have h9 := Tryz.slices_Sort_string g 0 cap ss wr hH hg2 (by rw [HLs.out]; omega)
          rw [HLs.out] at h9
          exact h9
        clear hH hu
        go_wp2_with fail
        refine C1.out.mono ?_
        rintro e w2 ⟨rfl, nn, os, hw2⟩
        obtain ⟨oo, bb⟩ := own_sort1 (nn := nn) (os := os) (own_mono HO.out (show w.heap.size ≤ w.heap.size + 1 by omega)) hbw.out (by omega) HLs.out
        rw [← hw2] at oo bb
        have OO : Hid (w2.ownsRow w.heap.size 9 1 (.slice (some ⟨g, 0, none⟩) m0 cap) m0 ((ss.mergeSort fun x y => decide (x ≤ y)).map encStr) ∧ Below w.heap.size w w2) := ⟨oo, bb⟩
        clear oo bb hw2 C1
        go_wp2_with fail
        go_ret
        refine ⟨.slice (some ⟨g, 0, none⟩) m0 cap, rfl, ⟨R, HP.out, ?_⟩, OO.out.2⟩
        rw [HM0.out, HSS.out]
        exact OO.out.1
    · intro x hx hsx ax cx hv w1 hrg1 hlt1 hb1 hgr1 hs1 hen
      have hpush := leftN_push HN.out hx (by simpa using hsx.out)
      obtain ⟨ml, hml⟩ : ∃ k, x.mails.length = k := ⟨_, rfl⟩
      obtain ⟨xn, hxn⟩ : ∃ k, x.name = k := ⟨_, rfl⟩
      rw [hml] at hen ⊢
      rw [hxn] at hpush hen ⊢
      have HS2 : Hid (((R ++ [xn]) ++ leftNames (seen.push x.born) D.X).Perm (leftNames #[] D.X)) := by
        show List.Perm _ _
        rw [List.append_assoc]
        exact (List.Perm.append_left R hpush.symm).trans hperm.out
      have HR1 : Hid (RangeX w1 M w.heap.size D.X (seen.push x.born)) := hrg1
      have HB1 : Hid (Below w.heap.size w w1) := hbw.out.trans hb1
      have HL1 : Hid (w.heap.size < w1.heap.size) := by have h9 := hlt.out; show _ < _; omega
      have HLT : Hid (w1.rangeLeft M w.heap.size < wr.rangeLeft M w.heap.size) := hlt1
      have HO1 : Hid (w1.ownsRow (w.heap.size + 1) 9 1 u R.length (cellsS R)) := own_grown hown.out hgr1 (fun g h9 h7 => by have h5 := (hown.out.lt g h9).1; cases h7; omega)
      clear hpush hperm hrg1 hb1 hbw hlt hml hlt1 hs1 hxn hown hgr1
      go_wp2_with (at_builtin; refine wpList_append_src _ rfl _ _ 47 rfl (w.heap.size + 1) 9 (.string ⟨#[]⟩) 1 16 Tryz.underlying47 infoS rfl (by decide) (by decide) _ R.length (cellsS R) rfl ((HO1.out.alloc _).alloc _) (some ⟨w1.heap.size + 1, 0, none⟩) 1 1 (cellsS [xn]) rfl rfl (src_oneC (by simp)) (cellsS_one _) (by omega) (by have h9 := HL1.out; simp; omega) ?_)
      intro v2 w2 hown2 hgrow2
      have hub : ∀ g, u.ownBlock = some g → w.heap.size + 1 ≤ g := fun g e => (HO1.out.lt g e).1
      have HO2 : Hid (w2.ownsRow (w.heap.size + 1) 9 1 v2 (R ++ [xn]).length (cellsS (R ++ [xn]))) := by
        show w2.ownsRow _ _ _ _ _ _
        rw [cellsS_append, List.length_append]
        exact hown2
      have HR2 : Hid (RangeX w2 M w.heap.size D.X (seen.push x.born)) := RangeX.grown ((HR1.out.later ((Below.refl _ _).alloc (Nat.le_refl _) _)).later ((Below.refl _ _).alloc (Nat.le_refl _) _)) hgrow2 (fun e => by have := hub _ e; omega) (fun e => by have := hub _ e; omega)
      have HB2 : Hid (Below w.heap.size w w2) := ((HB1.out.alloc HB1.out.size _).alloc (by have := HB1.out.size; simp; omega) _).grown hgrow2 (by have := HB1.out.size; simp; omega) (fun g e => by have := hub _ e; omega)
      have HL2 : Hid (w.heap.size < w2.heap.size) := by have h9 := hgrow2.size; have h7 := HL1.out; simp at h9; show _ < _; omega
      clear hown2 hgrow2 hub
      go_wp2_with fail
      go_roundw
      case rel => exact ⟨_, _, R ++ [xn], rfl, HR2.out, HS2.out, HO2.out, HB2.out, HL2.out⟩
      case measure => rw [HR2.out.left, ← HR1.out.left]; exact HLT.out
end Go.Proofs.YthgbclipknfmjaaGreatDoor
namespace Go.Proofs.YthgbclipknfmjaaGreatDoor
open Go.ChangeShapes Go.WideShapes Go.ChangeAt Go.RowKit Go.Deep Go.Lib
set_option linter.unusedVariables false
set_option linter.unusedSimpArgs false
set_option maxRecDepth 100000

theorem bl_pre : ∀ p a b : List UInt8, Op.bytesLess (p ++ a) (p ++ b) = Op.bytesLess a b
  | [], _, _ => rfl
  | c :: p, a, b => by
    rw [List.cons_append, List.cons_append, Op.bytesLess, bl_pre p a b]
    simp
theorem foldersK_data (u : ByteArray) : (foldersK u).data.toList = 102 :: 47 :: (u.data.toList ++ [47]) := by
  rw [folderK_data]
theorem behind_data {u : ByteArray} {x : PM} (h : beginsB x.1 (foldersK u) = true) : x.1.data.toList = (foldersK u).data.toList ++ (behind u x).data.toList := by
  obtain ⟨r, hr⟩ := begins_iff.1 h
  have h1 : x.1.size = (foldersK u).size + r.length := by rw [← bytes_len x.1, hr, List.length_append, bytes_len]
  have h2 : (behind u x).data.toList = r := by
    unfold behind
    rw [ext_data x.1 (foldersK u).size x.1.size (Nat.le_refl _), hr, List.drop_append_of_le_length (by rw [bytes_len]; exact Nat.le_refl _)]
    rw [List.drop_of_length_le (by rw [bytes_len]; exact Nat.le_refl _), List.nil_append, List.take_of_length_le (by omega)]
  rw [h2, hr]
theorem behind_key {u : ByteArray} {x : PM} (h : beginsB x.1 (foldersK u) = true) : x.1 = folderK u (behind u x) := by
  apply bs_inj
  rw [behind_data h, foldersK_data, folderK_data]
  simp
theorem begins_folder (u name : ByteArray) : beginsB (folderK u name) (foldersK u) = true := by
  rw [begins_iff]
  exact ⟨name.data.toList, by rw [folderK_data, foldersK_data]; simp⟩
theorem lookF_iff {n : ByteArray} : ∀ {fs : List FM}, (lookF n fs).isSome = true ↔ n ∈ fs.map (·.name)
  | [] => by simp [lookF]
  | f :: fs => by
    have ih := lookF_iff (n := n) (fs := fs)
    unfold lookF
    by_cases e : f.name = n
    · rw [if_pos e]; simp [e]
    · rw [if_neg e, ih, List.map_cons, List.mem_cons]
      constructor
      · exact .inr
      · rintro (h | h)
        · exact absurd h.symm e
        · exact h
theorem folders_mem {L : List PM} {u : ByteArray} (hst : storeB L = true) (hus : (47 : UInt8) ∉ u.data.toList) {S : SM} (hI : Inv (nextM L) u L S) (name : ByteArray) : name ∈ S.fs.map (·.name) ↔ name ∈ listS L u := by
  obtain ⟨hg, nx, hnm, _, h2, _, k1, k2⟩ := store_facts hst
  rw [← lookF_iff]
  unfold listS
  rw [List.mem_map]
  constructor
  · intro h
    obtain ⟨f, hf⟩ := Option.isSome_iff_exists.1 h
    obtain ⟨w, _, hm, _⟩ := hI.a name f hf
    refine ⟨(folderK u name, w), List.mem_filter.2 ⟨hm, begins_folder u name⟩, ?_⟩
    exact (folderK_inj (behind_key (x := (folderK u name, w)) (begins_folder u name))).symm
  · rintro ⟨x, hx, rfl⟩
    rw [List.mem_filter] at hx
    have hk := behind_key hx.2
    have hsl : (47 : UInt8) ∉ (behind u x).data.toList := by
      have hp : splitL 47 x.1.data.toList = [102] :: u.data.toList :: splitL 47 (behind u x).data.toList := by
        have h1 : x.1.data.toList = [102] ++ 47 :: (u.data.toList ++ 47 :: (behind u x).data.toList) := by rw [behind_data hx.2, foldersK_data]; simp
        rw [h1, splitL_seg 47 [102] _ (by decide), splitL_seg 47 _ _ hus]
      rcases k2 x hx.1 with e | ⟨u2, ho, _⟩
      · rw [e] at hp; cases hp
      · unfold ownerM at ho
        rw [hp] at ho
        match hs : splitL 47 (behind u x).data.toList, ho with
        | [], ho => exact absurd hs (splitL_ne 47 _)
        | [b], ho => rw [(split_one hs).1]; exact (split_one hs).2
        | [_, _], ho => cases ho
        | _ :: _ :: _ :: _, ho => cases ho
    exact hI.b _ x.2 hsl (by rw [← hk]; exact hx.1)
theorem listS_up {L : List PM} {u : ByteArray} (hu : UpL L) : (listS L u).Pairwise ltK := by
  unfold listS
  rw [List.pairwise_map]
  have h1 : (L.filter fun x => beginsB x.1 (foldersK u)).Pairwise fun x y => ltK x.1 y.1 := List.Pairwise.filter _ hu
  refine List.Pairwise.imp_of_mem ?_ h1
  intro x y hx hy h
  rw [List.mem_filter] at hx hy
  unfold ltK at h ⊢
  rw [ByteArray.toList_eq, ByteArray.toList_eq] at h ⊢
  rw [behind_data hx.2, behind_data hy.2, bl_pre] at h
  exact h
theorem sort_eq {L : List PM} {u : ByteArray} (hst : storeB L = true) (hus : (47 : UInt8) ∉ u.data.toList) {S : SM} (hI : Inv (nextM L) u L S) (hn : (S.fs.map (·.name)).Nodup) {R : List ByteArray} (hR : R.Perm (S.fs.map (·.name))) :
    ((R.map (·.data.toList)).mergeSort fun x y => decide (x ≤ y)) = (listS L u).map (·.data.toList) := by
  have hup := listS_up (u := u) (store_facts hst).1.2.2
  have hnd : (listS L u).Nodup := hup.imp fun {a b} h e => by rw [e] at h; exact ltK_irrefl _ h
  have hp : R.Perm (listS L u) := hR.trans ((List.perm_ext_iff_of_nodup hn hnd).2 (folders_mem hst hus hI))
  refine List.Perm.eq_of_pairwise (le := fun a b => decide (a ≤ b) = true) ?_ (List.pairwise_mergeSort ?_ ?_ _) ?_ ((List.mergeSort_perm _ _).trans (hp.map _))
  · intro a b _ _ h1 h2
    exact List.le_antisymm (of_decide_eq_true h1) (of_decide_eq_true h2)
  · intro a b c h1 h2
    exact decide_eq_true (List.le_trans (of_decide_eq_true h1) (of_decide_eq_true h2))
  · intro a b
    rcases List.le_total a b with h | h
    · rw [decide_eq_true h]; rfl
    · rw [decide_eq_true h]; simp
  · rw [List.pairwise_map]
    refine hup.imp fun {a b} h => ?_
    unfold ltK at h
    rw [bl_eq, decide_eq_true_eq, ByteArray.toList_eq, ByteArray.toList_eq] at h
    exact decide_eq_true (List.le_of_lt h)
theorem none_left {L : List PM} {u : ByteArray} (hst : storeB L = true) (hus : (47 : UInt8) ∉ u.data.toList) (hno : getM L (userK u) = none) : listS L u = [] := by
  obtain ⟨hg, nx, hnm, _, h2, _, k1, k2⟩ := store_facts hst
  unfold listS
  rw [List.map_eq_nil_iff, List.filter_eq_nil_iff]
  intro x hx hb
  have hp : splitL 47 x.1.data.toList = [102] :: u.data.toList :: splitL 47 (behind u x).data.toList := by
    have h1 : x.1.data.toList = [102] ++ 47 :: (u.data.toList ++ 47 :: (behind u x).data.toList) := by rw [behind_data hb, foldersK_data]; simp
    rw [h1, splitL_seg 47 [102] _ (by decide), splitL_seg 47 _ _ hus]
  rcases k2 x hx with e | ⟨u2, ho, z, hz, ez⟩
  · rw [e] at hp; cases hp
  · unfold ownerM at ho
    rw [hp] at ho
    have hu2 : u = u2 := by
      match hs : splitL 47 (behind u x).data.toList, ho with
      | [], ho => exact absurd hs (splitL_ne 47 _)
      | [b], ho =>
        have h9 : some (bs u.data.toList) = some u2 := ho
        rw [data_bs] at h9
        exact Option.some.inj h9
      | [_, _], ho => cases ho
      | _ :: _ :: _ :: _, ho => cases ho
    rw [← hu2] at ez
    exact getM_none.1 hno z hz ez
def listG (L : List PM) (u : ByteArray) (b : Bool) : List ByteArray × Int := if b = true then (listS L u, 0) else ([], 15)
def flM (L : List PM) (u : ByteArray) : List ByteArray × Int := if askM L [u] = 0 then listG L u (getM L (userK u)).isSome else ([], askM L [u])
/-- A store's desk. -/
structure DeskS (N : List PM) (u : ByteArray) (S : SM) : Prop where
  st : storeB N = true
  tk : takeAll (nextM N) u S0 N = some S
  wd : S.word.toList ≠ []
  fit : FitS (nextM N) u S
  nd : (S.fs.map (·.name)).Nodup
  n1 : 1 ≤ nextM N
/-- What a list is that a desk's operation left. -/
structure LeftS (N Y : List PM) (u : ByteArray) (S S' : SM) : Prop where
  st : storeB Y = true
  up : UpL Y
  pm : (deskP (nextM Y) u S').Perm Y
  fit : FitS (nextM Y) u S'
  nd : (S'.fs.map (·.name)).Nodup
  wd : S'.word.toList ≠ []
  asd : S'.aside = S.aside
theorem LeftS.desk {N Y : List PM} {u : ByteArray} {S S' : SM} (h : LeftS N Y u S S') : ∃ S2, DeskS Y u S2 := by
  have hus := word_slash h.fit.us
  obtain ⟨S2, hS2, _, _⟩ := take_all h.st hus
  have hw : S2.word.toList ≠ [] := fun e => by
    have h1 := (word_iff h.st hus hS2).1.1 e
    rw [desk_user h.up h.pm] at h1
    cases h1
  obtain ⟨_, nx0, hnm, n1, _⟩ := store_facts h.st
  rw [hnm] at n1
  exact ⟨S2, h.st, hS2, hw, store_fits h.st hus hS2 hw, names_of hS2, n1⟩
theorem LeftS.fa {N Y : List PM} {u : ByteArray} {S S' : SM} {g : FM} (hD : DeskS N u S) (h : LeftS N Y u S S') (hg : g ∈ S'.fs) (hr : Rise g.mails) : faM Y u g.name = ((g.name, g.val, g.next, g.mails), 0) :=
  fa_exact hD.st hD.tk h.asd h.st h.fit h.nd h.up h.pm h.wd hg hr
/-- The folders' names, and what is told of them. -/
theorem names_told {Y : List PM} {u : ByteArray} {S : SM} (hD : DeskS Y u S) : flM Y u = (listS Y u, 0) ∧ (listS Y u).Nodup ∧ (listS Y u).length ≤ 60 ∧ (∀ nm ∈ listS Y u, shortB nm = true ∧ ∃ g ∈ S.fs, g.name = nm ∧ faM Y u nm = ((nm, g.val, g.next, g.mails), 0) ∧ metaM Y u nm = some (g.val, g.next)) ∧ ∀ g ∈ S.fs, g.name ∈ listS Y u := by
  have hsu := hD.fit.us
  have hus := word_slash hsu
  obtain ⟨S2, hS2, _, hI⟩ := take_all hD.st hus
  obtain rfl : S = S2 := by
    have h9 := hD.tk
    rw [hS2] at h9
    exact (Option.some.inj h9).symm
  have hk : (getM Y (userK u)).isSome = true := by
    cases hv : getM Y (userK u) with
    | some v => rfl
    | none => exact absurd ((word_iff hD.st hus hS2).1.2 hv) hD.wd
  have hnd : (listS Y u).Nodup := (listS_up (store_facts hD.st).1.2.2).imp fun {a b} h e => by rw [e] at h; exact ltK_irrefl _ h
  have hperm := (List.perm_ext_iff_of_nodup hD.nd hnd).2 (folders_mem hD.st hus hI)
  refine ⟨?_, hnd, ?_, fun nm hnm => ?_, fun g hg => (folders_mem hD.st hus hI g.name).1 (List.mem_map.2 ⟨g, hg, rfl⟩)⟩
  · unfold flM
    rw [ask_ok hD.st (by simp [hsu]), if_pos rfl, hk]
    rfl
  · rw [← hperm.length_eq, List.length_map]
    have l2 := (desk_list hD.st hus hD.tk hD.wd).length_eq
    simp only [List.length_cons, List.length_append, flat_len] at l2
    have := (store_facts hD.st).1.1
    omega
  · obtain ⟨g, hg, rfl⟩ := List.mem_map.1 ((folders_mem hD.st hus hI nm).2 hnm)
    have hsg := (hD.fit.fs g hg).1
    have hl := look_self hD.nd hg
    have hm := look_meta hD.st hS2 hl
    refine ⟨hsg, g, hg, rfl, ?_, hm⟩
    unfold faM
    rw [ask_ok hD.st (by simp [hsu, hsg]), if_pos rfl, show knownR Y u g.name = 0 from by unfold knownR; rw [hk, hm]; rfl, if_pos rfl, hS2]
    show (faG (lookF g.name S.fs), (0 : Int)) = _
    rw [hl]
    rfl
theorem left_none {N Y : List PM} {u f : ByteArray} {S S' : SM} (hD : DeskS N u S) (hL : LeftS N Y u S S') (hsf : shortB f = true) (hno : ∀ g ∈ S'.fs, g.name ≠ f) : metaM Y u f = none := by
  have hus := word_slash hL.fit.us
  cases hv : metaM Y u f with
  | none => rfl
  | some p =>
    exfalso
    obtain ⟨w, k1, _⟩ := (meta_iff hL.up).1 hv
    rcases desk_mem hL.pm k1 with h8 | h8 | h8 | ⟨g', hg', h8 | ⟨m2, hm2, h8⟩⟩
    · exact folder_nv _ _ (congrArg Prod.fst h8)
    · have h7 := congrArg (fun x : PM => x.1.data.toList) h8
      simp only [userK_data, folderK_data] at h7
      cases h7
    · rw [hL.asd] at h8
      obtain ⟨_, k2⟩ := (aside_is hD.tk _ (notK_sub h8).2).1 h8
      exact k2 (owner_folderK hus (word_slash hsf))
    · exact hno g' hg' (folderK_inj (congrArg Prod.fst h8)).symm
    · have h7 := congrArg (fun x : PM => x.1.data.toList) h8
      unfold mailP at h7
      simp only [folderK_data, mailK_data'] at h7
      cases h7
end Go.Proofs.YthgbclipknfmjaaGreatDoor
namespace Go.Proofs.YthgbclipknfmjaaGreatDoor
open Go.ChangeShapes Go.WideShapes Go.ChangeAt Go.RowKit Go.Deep Go.Lib
open Go.ChangeMaps (setBlock)
set_option linter.unusedVariables false
set_option linter.unusedSimpArgs false
set_option maxRecDepth 100000

/-- A block's kind. -/
def KindAt (w : World) (B t : Nat) : Prop := ∃ c f, w.heap[B]? = some (.cells c t f)
theorem kind_set {w : World} {B t : Nat} (h : KindAt w B t) (a : Addr) (v : Value) : KindAt (w.setCell a v) B t := by
  obtain ⟨c, f, h⟩ := h
  by_cases e : B = a.block
  · subst e
    refine ⟨if a.spot.isSome then c else c.setIfInBounds a.off v, f, ?_⟩
    show (w.heap.modify a.block _)[a.block]? = _
    rw [Array.getElem?_modify, if_pos rfl, h]
    rfl
  · exact ⟨c, f, (Below.heap_setCell _ _ _ _ e).trans h⟩
theorem kind_below {w w' : World} {B t : Nat} (h : KindAt w B t) (hb : Below w.heap.size w w') : KindAt w' B t := by
  obtain ⟨c, f, h⟩ := h
  have h1 : B < w.heap.size := by
    rcases Nat.lt_or_ge B w.heap.size with h1 | h1
    · exact h1
    · rw [Array.getElem?_eq_none h1] at h
      cases h
  exact ⟨c, f, (hb.block B h1).trans h⟩
/-- All but a desk's own two blocks stays. -/
def Keep (M : Nat) (w w' : World) : Prop := ∀ B, B < w.heap.size → B ≠ M → B ≠ M + 1 → w'.heap[B]? = w.heap[B]?
theorem Keep.of_below {M : Nat} {w w' : World} (h : Below w.heap.size w w') : Keep M w w' := fun B hB _ _ => h.block B hB
theorem Keep.trans {M : Nat} {a b c : World} (h : Keep M a b) (hs : a.heap.size ≤ b.heap.size) (k : Keep M b c) : Keep M a c := fun B hB h1 h2 => (k B (by omega) h1 h2).trans (h B hB h1 h2)
theorem Keep.next {M : Nat} {a b c : World} (h : Keep M a b) (hs : a.heap.size ≤ b.heap.size) (hb : Below b.heap.size b c) : Keep M a c := h.trans hs (Keep.of_below hb)
theorem Keep.setCell {M : Nat} {a b : World} (h : Keep M a b) (p : Addr) (hp : a.heap.size ≤ p.block) (v : Value) : Keep M a (b.setCell p v) := fun B hB h1 h2 => (Below.heap_setCell _ _ _ _ (by omega)).trans (h B hB h1 h2)
set_option maxHeartbeats 2000000 in
theorem putX (y : FX) (nm : ByteArray) (vl nx : Int) (ay : Option Addr) (ny cy : Nat) (w : World) (M : Nat) (D : DK) (hy : y = ⟨folderK D.user nm, 0, nm, vl, nx, .slice ay ny cy, y.mails⟩) (hf : nm.size ≤ 1048576) (hu : D.user.size ≤ 1048576) (hD : DeskH w M D) (hR : ∀ clock, Rows w M (setX y clock D.X)) :
    Calls Tryz.prog 43 #[.pointer (some ⟨M + 1, 0, none⟩), .agg #[.string nm, .int .i64 vl, .int .i64 nx, .slice ay ny cy]] w fun e w' => e = .returned (.tuple #[]) ∧ (∃ clock, DeskAt w' M { D with X := setX y clock D.X }) ∧ Below M w w' ∧ (∀ t s v n xs, w.ownsRow (M + 2) t s v n xs → w'.ownsRow (M + 2) t s v n xs) ∧ (∀ B vs, B ≠ M → Box w B vs → Box w' B vs) ∧ (∀ B t, B ≠ M → KindAt w B t → KindAt w' B t) ∧ Keep M w w' := by
  have HD : Hid (DeskH w M D) := hD
  obtain ⟨hbox, ⟨clock, hmap⟩, hasd⟩ := hD
  have AL : Below w.heap.size w (w.alloc (.cells #[.string nm, .int .i64 vl, .int .i64 nx, .slice ay ny cy] 28)) := (Below.refl _ _).alloc (Nat.le_refl _) _
  have HAL : Hid (Below w.heap.size w (w.alloc (.cells #[.string nm, .int .i64 vl, .int .i64 nx, .slice ay ny cy] 28))) := AL
  have D1 := HD.out.later AL
  have hlt : M < w.heap.size := (Array.getElem?_eq_some_iff.1 hmap.1).1
  have hlt1 : M + 1 < w.heap.size := World.block_lt_of_cell? _ _ (hbox 0 _ rfl).1
  have HLT : Hid (M < w.heap.size ∧ M + 1 < w.heap.size) := ⟨hlt, hlt1⟩
  obtain ⟨b1, _, a1⟩ := D1
  have m1 := (hmap.later AL)
  have Y0 : Box (w.alloc (.cells #[.string nm, .int .i64 vl, .int .i64 nx, .slice ay ny cy] 28)) w.heap.size [.string nm, .int .i64 vl, .int .i64 nx, .slice ay ny cy] := Box.new rfl
  obtain ⟨p3, _⟩ := b1 3 _ rfl
  obtain ⟨p5, _⟩ := b1 5 _ rfl
  obtain ⟨q0, _⟩ := Y0 0 _ rfl
  obtain ⟨q1, _⟩ := Y0 1 _ rfl
  obtain ⟨q2, _⟩ := Y0 2 _ rfl
  obtain ⟨q3, _⟩ := Y0 3 _ rfl
  obtain ⟨cl, hup, hmi⟩ := run_put (w := (w.alloc (.cells #[.string nm, .int .i64 vl, .int .i64 nx, .slice ay ny cy] 28)).drew) (M := M) (clock := clock) (X := D.X) m1 y
  have hyk : y.k = folderK D.user nm := by rw [hy]
  have hyv : valX y = .agg #[.string nm, .int .i64 vl, .int .i64 nx, .slice ay ny cy] := by rw [hy]
  rw [hyk, hyv] at hup
  obtain ⟨O, hO⟩ : ∃ O, (.map ((setX y clock D.X).map entX).toArray cl : Obj) = O := ⟨_, rfl⟩
  rw [hO] at hup hmi
  obtain ⟨K9, hK9⟩ : ∃ K, folderK D.user nm = K := ⟨_, rfl⟩
  have CK := fun W => folderKeyI D.user nm W hu hf
  rw [hK9] at hup
  simp only [hK9] at CK
  have HF : Hid (DeskAt (setBlock (w.alloc (.cells #[.string nm, .int .i64 vl, .int .i64 nx, .slice ay ny cy] 28)).drew M O) M { D with X := setX y clock D.X }) :=
    ⟨box_sb b1 O (by omega), ⟨cl, hmi⟩, own_sb a1 O (by omega), fun x hx => own_sb (own_below ((hR clock).1 x hx) AL) O (by omega), (hR clock).2⟩
  have HB : Hid (Below M w (setBlock (w.alloc (.cells #[.string nm, .int .i64 vl, .int .i64 nx, .slice ay ny cy] 28)).drew M O)) := (AL.mono (Nat.le_of_lt hlt)).drew.trans (sb_below _ M O)
  have HOW : Hid ((∀ t s v n xs, w.ownsRow (M + 2) t s v n xs → (setBlock (w.alloc (.cells #[.string nm, .int .i64 vl, .int .i64 nx, .slice ay ny cy] 28)).drew M O).ownsRow (M + 2) t s v n xs) ∧ (∀ B vs, B ≠ M → Box w B vs → Box (setBlock (w.alloc (.cells #[.string nm, .int .i64 vl, .int .i64 nx, .slice ay ny cy] 28)).drew M O) B vs) ∧ (∀ B t, B ≠ M → KindAt w B t → KindAt (setBlock (w.alloc (.cells #[.string nm, .int .i64 vl, .int .i64 nx, .slice ay ny cy] 28)).drew M O) B t) ∧ Keep M w (setBlock (w.alloc (.cells #[.string nm, .int .i64 vl, .int .i64 nx, .slice ay ny cy] 28)).drew M O)) := ⟨fun t s v n xs h9 => own_sb (own_below h9 AL) O (by omega), fun B vs h9 h8 => box_sb (M := M) (h8.below AL) O h9, fun B t h9 h8 => by
    obtain ⟨c1, f1, k1⟩ := kind_below h8 AL
    exact ⟨c1, f1, (sb_block _ M B O h9).trans k1⟩, fun B hB h9 _ => (sb_block _ M B O h9).trans (AL.block B hB)⟩
  have HS : Hid ((setBlock (w.alloc (.cells #[.string nm, .int .i64 vl, .int .i64 nx, .slice ay ny cy] 28)).drew M O).cell? ⟨M + 1, 3, none⟩ = some (.string D.user) ∧ (setBlock (w.alloc (.cells #[.string nm, .int .i64 vl, .int .i64 nx, .slice ay ny cy] 28)).drew M O).cell? ⟨M + 1, 5, none⟩ = some (.map (some M)) ∧ (setBlock (w.alloc (.cells #[.string nm, .int .i64 vl, .int .i64 nx, .slice ay ny cy] 28)).drew M O).cell? ⟨w.heap.size, 0, none⟩ = some (.string nm) ∧ (setBlock (w.alloc (.cells #[.string nm, .int .i64 vl, .int .i64 nx, .slice ay ny cy] 28)).drew M O).cell? ⟨w.heap.size, 1, none⟩ = some (.int .i64 vl) ∧ (setBlock (w.alloc (.cells #[.string nm, .int .i64 vl, .int .i64 nx, .slice ay ny cy] 28)).drew M O).cell? ⟨w.heap.size, 2, none⟩ = some (.int .i64 nx) ∧ (setBlock (w.alloc (.cells #[.string nm, .int .i64 vl, .int .i64 nx, .slice ay ny cy] 28)).drew M O).cell? ⟨w.heap.size, 3, none⟩ = some (.slice ay ny cy)) := by
    have hx := box_sb (M := M) b1 O (by omega)
    have hz := box_sb (M := M) Y0 O (by omega)
    exact ⟨(hx 3 _ rfl).1, (hx 5 _ rfl).1, (hz 0 _ rfl).1, (hz 1 _ rfl).1, (hz 2 _ rfl).1, (hz 3 _ rfl).1⟩
  clear hbox hmap hasd AL b1 a1 m1 Y0 hmi hyk hyv hy hR hO hK9 HD
  go_enter Tryz.func43, Tryz.ntmps43
  go_wp2_with fail
  refine wp_region_noPanic ?_
  refine wp_region_held_drew (S := fun w' => w'.cell? ⟨M + 1, 3, none⟩ = some (.string D.user) ∧ w'.cell? ⟨M + 1, 5, none⟩ = some (.map (some M)) ∧ w'.cell? ⟨w.heap.size, 0, none⟩ = some (.string nm) ∧ w'.cell? ⟨w.heap.size, 1, none⟩ = some (.int .i64 vl) ∧ w'.cell? ⟨w.heap.size, 2, none⟩ = some (.int .i64 nx) ∧ w'.cell? ⟨w.heap.size, 3, none⟩ = some (.slice ay ny cy)) (by kernel_rfl) ⟨p3, p5, q0, q1, q2, q3⟩ (fun hHeld => ?_)
  refine tkA (i := 0) (v := .pointer (some ⟨M + 1, 0, none⟩)) ?_ hHeld ?_
  · intro w9 hSw
    obtain ⟨z0, z1, z2, z3, z4, z5⟩ := hSw
    go_simp
  simp only [Act.put, List.setIfInBounds_toArray, List.set_cons_zero, List.set_cons_succ]
  refine tkA (i := 1) (v := .pointer (some ⟨M + 1, 0, none⟩)) ?_ hHeld ?_
  · intro w9 hSw
    obtain ⟨z0, z1, z2, z3, z4, z5⟩ := hSw
    go_simp
  simp only [Act.put, List.setIfInBounds_toArray, List.set_cons_zero, List.set_cons_succ]
  refine tkA (i := 2) (v := .pointer (some ⟨M + 1, 5, none⟩)) ?_ hHeld ?_
  · intro w9 hSw
    obtain ⟨z0, z1, z2, z3, z4, z5⟩ := hSw
    go_simp
  simp only [Act.put, List.setIfInBounds_toArray, List.set_cons_zero, List.set_cons_succ]
  refine tkA (i := 3) (v := .map (some M)) ?_ hHeld ?_
  · intro w9 hSw
    obtain ⟨z0, z1, z2, z3, z4, z5⟩ := hSw
    go_simp
  simp only [Act.put, List.setIfInBounds_toArray, List.set_cons_zero, List.set_cons_succ]
  refine tkA (i := 4) (v := .pointer (some ⟨M + 1, 0, none⟩)) ?_ hHeld ?_
  · intro w9 hSw
    obtain ⟨z0, z1, z2, z3, z4, z5⟩ := hSw
    go_simp
  simp only [Act.put, List.setIfInBounds_toArray, List.set_cons_zero, List.set_cons_succ]
  refine tkA (i := 5) (v := .pointer (some ⟨M + 1, 0, none⟩)) ?_ hHeld ?_
  · intro w9 hSw
    obtain ⟨z0, z1, z2, z3, z4, z5⟩ := hSw
    go_simp
  simp only [Act.put, List.setIfInBounds_toArray, List.set_cons_zero, List.set_cons_succ]
  refine tkA (i := 6) (v := .pointer (some ⟨M + 1, 3, none⟩)) ?_ hHeld ?_
  · intro w9 hSw
    obtain ⟨z0, z1, z2, z3, z4, z5⟩ := hSw
    go_simp
  simp only [Act.put, List.setIfInBounds_toArray, List.set_cons_zero, List.set_cons_succ]
  refine tkA (i := 7) (v := .string D.user) ?_ hHeld ?_
  · intro w9 hSw
    obtain ⟨z0, z1, z2, z3, z4, z5⟩ := hSw
    go_simp
  simp only [Act.put, List.setIfInBounds_toArray, List.set_cons_zero, List.set_cons_succ]
  refine tkA (i := 8) (v := .pointer (some ⟨w.heap.size, 0, none⟩)) ?_ hHeld ?_
  · intro w9 hSw
    obtain ⟨z0, z1, z2, z3, z4, z5⟩ := hSw
    go_simp
  simp only [Act.put, List.setIfInBounds_toArray, List.set_cons_zero, List.set_cons_succ]
  refine tkA (i := 9) (v := .string nm) ?_ hHeld ?_
  · intro w9 hSw
    obtain ⟨z0, z1, z2, z3, z4, z5⟩ := hSw
    go_simp
  simp only [Act.put, List.setIfInBounds_toArray, List.set_cons_zero, List.set_cons_succ]
  refine tkA (i := 11) (v := .agg #[.string nm, .int .i64 vl, .int .i64 nx, .slice ay ny cy]) ?_ hHeld ?_
  · intro w9 hSw
    obtain ⟨z0, z1, z2, z3, z4, z5⟩ := hSw
    go_simp
  simp only [Act.put, List.setIfInBounds_toArray, List.set_cons_zero, List.set_cons_succ]
  refine wpAnyH_ready (rs := [10]) (by kernel_rfl) (by simp) ?_
  refine AllReadyH.cons rfl (fun K hK => ?_) AllReadyH.nil
  go_simp
  refine (CK _).mono ?_
  rintro e w1 ⟨rfl, hw1⟩
  obtain rfl := hw1
  dsimp only
  refine hK _ _ ⟨p3, p5, q0, q1, q2, q3⟩ (fun hHeld => ?_)
  clear hK K
  refine wpAnyH_ready (rs := [12]) (by kernel_rfl) (by simp) ?_
  refine AllReadyH.cons rfl (fun K hK => ?_) AllReadyH.nil
  go_simp
  refine hK _ _ HS.out (fun hHeld => ?_)
  clear hK K
  refine wpAnyH_done (by kernel_rfl) ?_ _
  refine NoPanic.normal ?_
  clear hHeld
  go_wp2_with fail
  go_end0
  exact ⟨rfl, ⟨clock, HF.out⟩, HB.out, HOW.out⟩
set_option maxHeartbeats 2000000 in
theorem freshY (nm : ByteArray) (v0 nx0 : Int) (ax : Option Addr) (ml cx : Nat) (Ms : List MMl) (hMs : Ms.length = ml) (w : World) (M : Nat) (a : Option Addr) (n c : Nat) (va : Value) (sd : List PM) (nx : Int) (u wd : ByteArray) (X : List FX) (fs : List FM) (hD : DeskAt w M ⟨a, n, c, va, sd, nx, u, wd, X⟩) (hV : View u X fs) (hN : (fs.map (·.name)).Nodup) (hu : u.size ≤ 1000) (hnm : nm.size ≤ 1000) (hnx : 0 ≤ nx) (hnx1 : nx ≤ 10000)
    (hrow : w.ownsRow (M + 2) 37 3 (.slice ax ml cx) ml (cellsMl Ms)) (hap : ∀ z ∈ X, z.k ≠ folderK u nm → ∀ g, z.v.ownBlock = some g → Value.ownBlock (.slice ax ml cx) ≠ some g) :
    Calls Tryz.prog 139 #[.pointer (some ⟨M + 1, 0, none⟩), .agg #[.string nm, .int .i64 v0, .int .i64 nx0, .slice ax ml cx]] w fun e w' => Below M w w' ∧ (∀ t s v n xs, w.ownsRow (M + 2) t s v n xs → w'.ownsRow (M + 2) t s v n xs) ∧ (∀ B vs, B ≠ M → B ≠ M + 1 → Box w B vs → Box w' B vs) ∧ ((∀ B t, B ≠ M → KindAt w B t → KindAt w' B t) ∧ Keep M w w') ∧ ((9999 < nx ∧ e = .returned (.int .i64 6) ∧ DeskAt w' M ⟨a, n, c, va, sd, nx, u, wd, X⟩) ∨ (¬ 9999 < nx ∧ e = .returned (.int .i64 0) ∧ ∃ clock, DeskAt w' M ⟨a, n, c, va, sd, nx + 1, u, wd, setX ⟨folderK u nm, 0, nm, nx, nx0, .slice ax ml cx, Ms⟩ clock X⟩)) := by
  have hM1 : M + 1 < w.heap.size := World.block_lt_of_cell? _ _ (hD.1 0 _ rfl).1
  obtain ⟨c2, f2⟩ := hD.1 2 _ rfl
  have hKN : (X.map (·.k)).Nodup := by
    rw [hV.keys]
    exact nodup_keys hN
  by_cases hb : 9999 < nx
  · have HD : Hid (DeskAt (w.alloc (.cells #[.string nm, .int .i64 v0, .int .i64 nx0, .slice ax ml cx] 28)) M ⟨a, n, c, va, sd, nx, u, wd, X⟩) := hD.later ((Below.refl _ _).alloc (Nat.le_refl _) _)
    have HB : Hid (Below M w (w.alloc (.cells #[.string nm, .int .i64 v0, .int .i64 nx0, .slice ax ml cx] 28))) := (Below.refl _ _).alloc (by omega) _
    have HOW : Hid ((∀ t s v n xs, w.ownsRow (M + 2) t s v n xs → (w.alloc (.cells #[.string nm, .int .i64 v0, .int .i64 nx0, .slice ax ml cx] 28)).ownsRow (M + 2) t s v n xs) ∧ (∀ B vs, B ≠ M → B ≠ M + 1 → Box w B vs → Box (w.alloc (.cells #[.string nm, .int .i64 v0, .int .i64 nx0, .slice ax ml cx] 28)) B vs) ∧ (∀ B t, B ≠ M → KindAt w B t → KindAt (w.alloc (.cells #[.string nm, .int .i64 v0, .int .i64 nx0, .slice ax ml cx] 28)) B t) ∧ Keep M w (w.alloc (.cells #[.string nm, .int .i64 v0, .int .i64 nx0, .slice ax ml cx] 28))) := ⟨fun t s v n xs h9 => own_below h9 ((Below.refl _ _).alloc (Nat.le_refl _) _), fun B vs _ _ h8 => h8.below ((Below.refl _ _).alloc (Nat.le_refl _) _), fun B t _ h8 => kind_below h8 ((Below.refl _ _).alloc (Nat.le_refl _) _), Keep.of_below ((Below.refl _ _).alloc (Nat.le_refl _) _)⟩
    clear hD hV hN hrow hap hKN
    go_enter Tryz.func139, Tryz.ntmps139
    go_wp2_with fail
    go_ret
    exact ⟨HB.out, HOW.out.1, HOW.out.2.1, HOW.out.2.2, .inl ⟨rfl, HD.out⟩⟩
  · obtain ⟨w1, hw1⟩ : ∃ W, w.alloc (.cells #[.string nm, .int .i64 nx, .int .i64 nx0, .slice ax ml cx] 28) = W := ⟨_, rfl⟩
    have B1 : Below w.heap.size w w1 := by rw [← hw1]; exact (Below.refl _ _).alloc (Nat.le_refl _) _
    have D2 : DeskAt (w1.setCell ⟨M + 1, 2, none⟩ (.int .i64 (nx + 1))) M ⟨a, n, c, va, sd, nx + 1, u, wd, X⟩ := desk_set (hD.later B1) 2 (.int .i64 (nx + 1)) rfl rfl rfl rfl
    have X1 : Box w1 w.heap.size [.string nm, .int .i64 nx, .int .i64 nx0, .slice ax ml cx] := by rw [← hw1]; exact Box.new rfl
    have R2 : (w1.setCell ⟨M + 1, 2, none⟩ (.int .i64 (nx + 1))).ownsRow (M + 2) 37 3 (.slice ax ml cx) ml (cellsMl Ms) := own_setLow (own_below hrow B1) (by show M + 1 < M + 2; omega) _
    have HB2 : Hid (Below M w (w1.setCell ⟨M + 1, 2, none⟩ (.int .i64 (nx + 1)))) := (B1.mono (by omega)).setCell (by show M ≤ M + 1; omega) _
    have HOW2 : Hid ((∀ t s v n xs, w.ownsRow (M + 2) t s v n xs → (w1.setCell ⟨M + 1, 2, none⟩ (.int .i64 (nx + 1))).ownsRow (M + 2) t s v n xs) ∧ (∀ B vs, B ≠ M + 1 → Box w B vs → Box (w1.setCell ⟨M + 1, 2, none⟩ (.int .i64 (nx + 1))) B vs) ∧ (∀ B t, KindAt w B t → KindAt (w1.setCell ⟨M + 1, 2, none⟩ (.int .i64 (nx + 1))) B t) ∧ Keep M w (w1.setCell ⟨M + 1, 2, none⟩ (.int .i64 (nx + 1))) ∧ w.heap.size ≤ (w1.setCell ⟨M + 1, 2, none⟩ (.int .i64 (nx + 1))).heap.size) := ⟨fun t s v n xs h9 => own_setLow (own_below h9 B1) (by show M + 1 < M + 2; omega) _, fun B vs h9 h8 => (h8.below B1).other _ (by show B ≠ M + 1; exact h9) _, fun B t h8 => kind_set (kind_below h8 B1) _ _, fun B hB _ h2 => (Below.heap_setCell _ _ _ _ (by show B ≠ M + 1; exact h2)).trans (B1.block B hB), by simp; exact B1.size⟩
    have CP := putX ⟨folderK u nm, 0, nm, nx, nx0, .slice ax ml cx, Ms⟩ nm nx nx0 ax ml cx (w1.setCell ⟨M + 1, 2, none⟩ (.int .i64 (nx + 1))) M ⟨a, n, c, va, sd, nx + 1, u, wd, X⟩ rfl (by omega) (by show u.size ≤ 1048576; omega) D2.head (fun clock => rows_set D2.2.2.2 (by show World.ownsRow _ _ _ _ _ Ms.length _; rw [hMs]; exact R2) hKN (fun x hx hk => hap x hx hk) clock)
    obtain ⟨g2, fz2⟩ := (hD.later B1).1 2 _ rfl
    have HX : Hid (Box (w1.setCell ⟨M + 1, 2, none⟩ (.int .i64 (nx + 1))) w.heap.size [.string nm, .int .i64 nx, .int .i64 nx0, .slice ax ml cx]) := X1.other _ (by show w.heap.size ≠ M + 1; omega) _
    obtain ⟨e0', _⟩ := HX.out 0 _ rfl
    obtain ⟨e1', _⟩ := HX.out 1 _ rfl
    obtain ⟨e2', _⟩ := HX.out 2 _ rfl
    obtain ⟨e3', _⟩ := HX.out 3 _ rfl
    have HV : Hid (View u X fs) := hV
    clear hD hV hN hrow hap D2 R2 B1 X1 hKN
    go_enter Tryz.func139, Tryz.ntmps139
    go_wp2_with fail
    refine CP.mono ?_
    rintro e w4 ⟨rfl, ⟨clock, hd4⟩, hb4, ho4, hx4, hy4, hz4⟩
    have HOW4 : Hid ((∀ t s v n xs, w.ownsRow (M + 2) t s v n xs → w4.ownsRow (M + 2) t s v n xs) ∧ (∀ B vs, B ≠ M → B ≠ M + 1 → Box w B vs → Box w4 B vs) ∧ (∀ B t, B ≠ M → KindAt w B t → KindAt w4 B t) ∧ Keep M w w4) := ⟨fun t s v n xs h9 => ho4 _ _ _ _ _ (HOW2.out.1 _ _ _ _ _ h9), fun B vs h9 h8 h7 => hx4 B vs h9 (HOW2.out.2.1 B vs h8 h7), fun B t h9 h8 => hy4 B t h9 (HOW2.out.2.2.1 B t h8), HOW2.out.2.2.2.1.trans HOW2.out.2.2.2.2 hz4⟩
    have HB4 : Hid (Below M w w4) := HB2.out.trans hb4
    have HD4 : Hid (∃ clock, DeskAt w4 M ⟨a, n, c, va, sd, nx + 1, u, wd, setX ⟨folderK u nm, 0, nm, nx, nx0, .slice ax ml cx, Ms⟩ clock X⟩) := ⟨clock, hd4⟩
    clear hd4 hb4 CP ho4 hx4 hy4 hz4
    go_wp2_with fail
    go_ret
    exact ⟨HB4.out, HOW4.out.1, HOW4.out.2.1, HOW4.out.2.2, .inr ⟨rfl, HD4.out⟩⟩
end Go.Proofs.YthgbclipknfmjaaGreatDoor
namespace Go.Proofs.YthgbclipknfmjaaGreatDoor
open Go.ChangeShapes Go.WideShapes Go.ChangeAt Go.RowKit Go.Deep Go.Lib
set_option linter.unusedVariables false
set_option linter.unusedSimpArgs false
set_option maxRecDepth 100000

def rsT (N : List PM) (u : ByteArray) (Ms : List PM) (r : List PM × Int) : List PM × Int := if r.2 ≠ 0 then (N, r.2) else if 6 < countM (insAll Ms r.1) u then (N, 12) else fitsR N (insAll Ms r.1)
def rsG (N : List PM) (u f : ByteArray) (g : FM) : List PM × Int := rsT N u (g.mails.map (mailP u f)) (freshR (emptyR N u f) N u f g.next)
def rsO (N : List PM) (u f : ByteArray) : Option FM → List PM × Int
  | some g => rsG N u f g
  | none => (N, 16)
/-- A folder of the list, if it is there. -/
def oldF (L : List PM) (u f : ByteArray) : Option FM := (takeAll (nextM L) u S0 L).bind fun S => lookF f S.fs
def rsR (N L : List PM) (u f : ByteArray) : List PM × Int := if (getM N (userK u)).isSome = false then (N, 15) else rsO N u f (oldF L u f)
abbrev S1F (nx : Int) (S : SM) (g : FM) : SM := ⟨S.aside, S.word, putF ⟨g.name, nx, g.next, []⟩ S.fs⟩
abbrev S2F (nx : Int) (S : SM) (g : FM) : SM := ⟨S.aside, S.word, putF ⟨g.name, nx, g.next, g.mails⟩ S.fs⟩
/-- What a restored folder makes of a desk. -/
def rsM (nx : Int) (u : ByteArray) (S : SM) (g : FM) : Int × Int × SM :=
  if 9999 < nx then (6, nx, S) else if 60 < (deskP (nx + 1) u (S1F nx S g)).length then (7, nx + 1, S1F nx S g) else if 6 < sumF (S2F nx S g).fs then (12, nx + 1, S2F nx S g) else if 60 < (deskP (nx + 1) u (S2F nx S g)).length then (7, nx + 1, S2F nx S g) else (0, nx + 1, S2F nx S g)
/-- What both say of a restored folder. -/
def RsFits (N : List PM) (nx : Int) (u : ByteArray) (g : FM) (q nx' : Int) (S' : SM) (A : List PM × Int) : Prop :=
  (q ≠ 0 → A = (N, q)) ∧ (q = 0 → A.2 = 0 ∧ nx' = nx + 1 ∧ A.1.length ≤ 60 ∧ Lies A.1 nx' u S')
theorem empty_next {N : List PM} {nx : Int} {u f : ByteArray} {S : SM} (h : Lies N nx u S) (n0 : 0 ≤ nx) (n1 : nx ≤ 10000) (hus : (47 : UInt8) ∉ u.data.toList) (hfs : (47 : UInt8) ∉ f.data.toList) : nextM (emptyR N u f) = nx := by
  have h1 : (vK, bs (itoa nx)) ∈ emptyR N u f := (empty_perm h hus hfs).mem_iff.2 List.mem_cons_self
  unfold nextM
  rw [(getM_mem (show UpL (emptyR N u f) from h.up.sublist List.filter_sublist)).2 h1]
  show (numB (bs (itoa nx)).data.toList).getD 0 = nx
  rw [show (bs (itoa nx)).data.toList = itoa nx from by simp [bs], num_of_is ⟨rfl, by omega⟩]
  rfl
theorem rs_fits {N : List PM} {nx : Int} {u f : ByteArray} {S S' : SM} {g : FM} {q nx' : Int} (h : Lies N nx u S) (n0 : 0 ≤ nx) (n1 : nx ≤ 10000) (hus : (47 : UInt8) ∉ u.data.toList) (hfs : (47 : UInt8) ∉ f.data.toList) (hgn : g.name = f) (hM : (g.mails.map (mailP u f)).Pairwise (fun a b => a.1 ≠ b.1)) (hQ : rsM nx u S g = (q, nx', S')) : RsFits N nx u g q nx' S' (rsG N u f g) := by
  unfold rsM at hQ
  unfold rsG freshR
  rw [empty_next h n0 n1 hus hfs]
  by_cases hx : 9999 < nx
  · rw [if_pos hx] at hQ
    cases hQ
    rw [if_pos hx]
    exact ⟨fun _ => rfl, fun h9 => by cases h9⟩
  rw [if_neg hx] at hQ
  rw [if_neg hx]
  have h1 := lies_fresh (next := g.next) h hus hfs
  obtain ⟨Y1, hY1⟩ : ∃ Y, insL (folderK u f) (metaT nx g.next) (insL vK (bs (itoa (nx + 1))) (emptyR N u f)) = Y := ⟨_, rfl⟩
  rw [hY1] at h1 ⊢
  have e1 : (⟨S.aside, S.word, putF ⟨f, nx, g.next, []⟩ S.fs⟩ : SM) = S1F nx S g := by rw [← hgn]
  have l1 : Y1.length = (deskP (nx + 1) u (S1F nx S g)).length := by rw [← e1]; exact h1.pm.length_eq
  by_cases hl1 : 60 < (deskP (nx + 1) u (S1F nx S g)).length
  · rw [if_pos hl1] at hQ
    cases hQ
    have e2 : fitsR N Y1 = (N, 7) := by unfold fitsR; rw [if_pos (by omega)]
    rw [e2]
    exact ⟨fun _ => rfl, fun h9 => by cases h9⟩
  rw [if_neg hl1] at hQ
  have e2 : fitsR N Y1 = (Y1, 0) := by unfold fitsR; rw [if_neg (by omega)]
  rw [e2]
  have h2 := lies_mails h1 hus hfs hM
  have e3 : (⟨S.aside, S.word, putF ⟨f, nx, g.next, g.mails⟩ S.fs⟩ : SM) = S2F nx S g := by rw [← hgn]
  rw [e3] at h2
  unfold rsT
  rw [if_neg (by simp)]
  show RsFits N nx u g q nx' S' (if 6 < countM (insAll (g.mails.map (mailP u f)) Y1) u then (N, 12) else fitsR N (insAll (g.mails.map (mailP u f)) Y1))
  rw [lies_count h2 hus]
  have l2 := h2.pm.length_eq
  obtain ⟨Y2, hY2⟩ : ∃ Y, insAll (g.mails.map (mailP u f)) Y1 = Y := ⟨_, rfl⟩
  rw [hY2] at h2 l2 ⊢
  by_cases hs : 6 < sumF (S2F nx S g).fs
  · rw [if_pos hs] at hQ
    cases hQ
    rw [if_pos hs]
    exact ⟨fun _ => rfl, fun h9 => by cases h9⟩
  rw [if_neg hs] at hQ
  rw [if_neg hs]
  by_cases hl2 : 60 < (deskP (nx + 1) u (S2F nx S g)).length
  · rw [if_pos hl2] at hQ
    cases hQ
    have e4 : fitsR N Y2 = (N, 7) := by unfold fitsR; rw [if_pos (by omega)]
    rw [e4]
    exact ⟨fun _ => rfl, fun h9 => by cases h9⟩
  rw [if_neg hl2] at hQ
  cases hQ
  have e4 : fitsR N Y2 = (Y2, 0) := by unfold fitsR; rw [if_neg (by omega)]
  rw [e4]
  exact ⟨fun h9 => absurd rfl h9, fun _ => ⟨rfl, rfl, by show Y2.length ≤ 60; omega, h2⟩⟩
theorem old_look {L : List PM} {u f : ByteArray} {S : SM} (hS : takeAll (nextM L) u S0 L = some S) : oldF L u f = lookF f S.fs := by
  unfold oldF
  rw [hS]
  rfl
theorem old_meta {L : List PM} {u f : ByteArray} (h : storeB L = true) (hus : (47 : UInt8) ∉ u.data.toList) (hfs : (47 : UInt8) ∉ f.data.toList) : (oldF L u f).isSome = (metaM L u f).isSome := by
  obtain ⟨S, hS, _, _⟩ := take_all h hus
  rw [old_look hS]
  exact (look_iff h hus hS hfs).1
end Go.Proofs.YthgbclipknfmjaaGreatDoor
namespace Go.Proofs.YthgbclipknfmjaaGreatDoor
open Go.ChangeShapes Go.WideShapes Go.ChangeAt Go.RowKit Go.Deep Go.Lib
open Go.ChangeMaps (setBlock)
set_option linter.unusedVariables false
set_option linter.unusedSimpArgs false
set_option maxRecDepth 100000

theorem st_putG {w : World} {M : Nat} {a : Option Addr} {n c : Nat} {va : Value} {sd : List PM} {nx' : Int} {u wd : ByteArray} {X : List FX} {fs : List FM} {k : Nat} {g : FM} (hD : DeskAt w M ⟨a, n, c, va, sd, nx', u, wd, X⟩) (hV : View u X (putF g fs)) (hN : (fs.map (·.name)).Nodup) (hf : ∀ f ∈ fs, 1 ≤ f.next ∧ f.next ≤ 999 ∧ f.mails.length ≤ k) (hg : 1 ≤ g.next ∧ g.next ≤ 999 ∧ g.mails.length ≤ k) (hk : sd.length ≤ k) : StAt w M a n c nx' u ⟨sd, wd, putF g fs⟩ k :=
  ⟨va, X, hD, hV, putF_names hN, fun x hx => by
    rcases putF_mem hx with hx | rfl
    · exact hf x hx
    · exact hg, hk⟩
theorem at_some {w : World} {M : Nat} {D : DK} {u f : ByteArray} {fs : List FM} {g : FM} (hD : DeskAt w M D) (hV : View u D.X fs) (hl : lookF f fs = some g) : ∃ ax cx, atX (lookX (folderK u f) D.X) = .agg #[.string g.name, .int .i64 g.val, .int .i64 g.next, .slice ax g.mails.length cx] ∧ w.ownsRow (M + 2) 37 3 (.slice ax g.mails.length cx) g.mails.length (cellsMl g.mails) ∧ ∀ z ∈ D.X, z.k ≠ folderK u f → ∀ y, z.v.ownBlock = some y → Value.ownBlock (.slice ax g.mails.length cx) ≠ some y := by
  have hlx := hV.look f
  rw [hl] at hlx
  obtain ⟨x, hx1, hx2⟩ := Option.map_eq_some_iff.1 hlx
  subst hx2
  have ho := hD.2.2.2.1 x (look_mem hx1)
  obtain ⟨ax, cx, hv, _, _⟩ := own_src ho
  refine ⟨ax, cx, ?_, ?_, fun z hz hk => ?_⟩
  · rw [hx1]
    show valX x = _
    unfold valX
    rw [hv]
  · rw [hv] at ho
    exact ho
  · have h9 := rows_apart hD.2.2.2 hx1 hz hk
    rw [hv] at h9
    exact h9
end Go.Proofs.YthgbclipknfmjaaGreatDoor
namespace Go.Proofs.YthgbclipknfmjaaGreatDoor
open Go.ChangeShapes Go.WideShapes Go.ChangeAt Go.RowKit Go.Deep Go.Lib
set_option linter.unusedVariables false
set_option linter.unusedSimpArgs false
set_option maxRecDepth 100000

theorem desk_box {w : World} {M B : Nat} {D : DK} (h : DeskAt w M D) (hk : KindAt w B 28) (hB : B ≠ M) (hB1 : B ≠ M + 1) (i : Nat) (v : Value) : DeskAt (w.setCell ⟨B, i, none⟩ v) M D := by
  obtain ⟨k1, ⟨cl, k2⟩, k3, k4⟩ := h
  have hk' : ∃ c f, w.heap[B]? = some (.cells c 28 f) := hk
  exact ⟨k1.other _ (by show M + 1 ≠ B; omega) _, ⟨cl, k2.setCell _ _ (by show M ≠ B; omega)⟩, own_setOther k3 (own_notkind (g := B) (e' := 28) k3 hk' (by decide)) _, fun x hx => own_setOther (k4.1 x hx) (own_notkind (g := B) (e' := 28) (k4.1 x hx) hk' (by decide)) _, k4.2⟩
theorem own_box {w : World} {base s n B : Nat} {v : Value} {xs : List Value} (h : w.ownsRow base 37 s v n xs) (hk : KindAt w B 28) (i : Nat) (u : Value) : (w.setCell ⟨B, i, none⟩ u).ownsRow base 37 s v n xs := by
  have hk' : ∃ c f, w.heap[B]? = some (.cells c 28 f) := hk
  exact own_setOther h (own_notkind (g := B) (e' := 28) h hk' (by decide)) _
set_option maxHeartbeats 1000000 in
theorem fullI (w : World) (M : Nat) (a : Option Addr) (n c : Nat) (nx : Int) (u : ByteArray) (S : SM) (k0 : Nat) (hS : StAt w M a n c nx u S k0) (hu : u.size ≤ 1000) (hn0 : 0 ≤ nx) (hn1 : nx ≤ 10000) (hF : ∀ f ∈ S.fs, FitF f) (hk : k0 ≤ 1000) (hg : Gl w) (h8 : 8 ≤ M) (Y : List PM) (hY : UpL Y) (hP : (deskP nx u S).Perm Y) (ny : Nat) (hny : Y.length = ny) (hl : ny ≤ 4000) (b : Bool) (hb : decide ((60 : Int) < (ny : Int)) = b) :
    Calls Tryz.prog 87 #[.pointer (some ⟨M + 1, 0, none⟩)] w fun e w' => e = .returned (.bool b) ∧ Below w.heap.size w w' := by
  have C1 := pairsI w M a n c nx u S k0 hS hu hn0 hn1 hF hk hg h8 Y hY hP ny hny hl
  have HB : Hid (decide ((60 : Int) < (ny : Int)) = b) := hb
  clear hS hF hY hP hny hb hg
  go_enter Tryz.func87, Tryz.ntmps87
  go_wp2_with fail
  refine C1.mono ?_
  rintro e w1 ⟨g, cap, rfl, ho, hb1⟩
  have B1 : Hid (Below w.heap.size w w1) := hb1
  clear ho hb1 C1
  go_wp2_with fail
  go_ret
  exact ⟨by rw [← HB.out]; rfl, B1.out⟩
theorem StAt.more {w : World} {M : Nat} {a : Option Addr} {n c : Nat} {nx : Int} {u : ByteArray} {S : SM} {k l : Nat} (h : StAt w M a n c nx u S k) (hk : k ≤ l) : StAt w M a n c nx u S l := by
  obtain ⟨va, X, h1, h2, h3, h4, h5⟩ := h
  exact ⟨va, X, h1, h2, h3, fun f hf => by have := h4 f hf; omega, by omega⟩
/-- What a restored folder leaves on the desk, told row by row. -/
def RestPost (q : Int) (w' : World) (M : Nat) (a : Option Addr) (n c : Nat) (nx' : Int) (u : ByteArray) (S' : SM) (k : Nat) (X : List FX) (v : Value) : Prop :=
  q = 0 → ∃ va X', DeskAt w' M ⟨a, n, c, va, S'.aside, nx', u, S'.word, X'⟩ ∧ View u X' S'.fs ∧ (S'.fs.map (·.name)).Nodup ∧ (∀ f ∈ S'.fs, 1 ≤ f.next ∧ f.next ≤ 999 ∧ f.mails.length ≤ k) ∧ S'.aside.length ≤ k ∧ ∀ z ∈ X', ∀ y, z.v.ownBlock = some y → (∃ z0 ∈ X, z0.v.ownBlock = some y) ∨ v.ownBlock = some y
theorem RestPost.bad {q : Int} {w' : World} {M : Nat} {a : Option Addr} {n c : Nat} {nx' : Int} {u : ByteArray} {S' : SM} {k : Nat} {X : List FX} {v : Value} (h : q ≠ 0) : RestPost q w' M a n c nx' u S' k X v := fun h9 => absurd h9 h
set_option maxHeartbeats 8000000 in
theorem restoreI (w : World) (M : Nat) (a : Option Addr) (n c : Nat) (nx : Int) (u : ByteArray) (S : SM) (k : Nat) (va : Value) (X : List FX) (hD : DeskAt w M ⟨a, n, c, va, S.aside, nx, u, S.word, X⟩) (hV : View u X S.fs) (hN : (S.fs.map (·.name)).Nodup) (hf : ∀ f ∈ S.fs, 1 ≤ f.next ∧ f.next ≤ 999 ∧ f.mails.length ≤ k) (hk : S.aside.length ≤ k) (hkk : k ≤ 1000)
    (g : FM) (nm : ByteArray) (gn gv : Int) (ax : Option Addr) (ml cx : Nat) (Ms : List MMl) (hgm : g = ⟨nm, g.val, gn, Ms⟩) (hml : Ms.length = ml) (hgb : 1 ≤ gn ∧ gn ≤ 999 ∧ ml ≤ k) (hrow : w.ownsRow (M + 2) 37 3 (.slice ax ml cx) ml (cellsMl Ms)) (hap : ∀ z ∈ X, ∀ y, z.v.ownBlock = some y → Value.ownBlock (.slice ax ml cx) ≠ some y)
    (N : List PM) (hl : Lies N nx u S) (hN6 : N.length ≤ 60) (hus : (47 : UInt8) ∉ u.data.toList) (hu : u.size ≤ 1000) (hgs : (47 : UInt8) ∉ nm.data.toList) (hgz : nm.size ≤ 1000) (hM : (Ms.map (mailP u nm)).Pairwise (fun a b => a.1 ≠ b.1)) (hfit : ∀ f ∈ S.fs, FitF f) (hgf : ∀ m ∈ Ms, 0 ≤ m.1 ∧ m.1 < 1000 ∧ 0 ≤ m.2.1 ∧ m.2.1 ≤ 3 ∧ m.2.2.size ≤ 1000) (n0 : 0 ≤ nx) (n1 : nx ≤ 10000) (hG : Gl w) (h8 : 8 ≤ M) (q nx' : Int) (S' : SM) (HQ : Hid (rsM nx u S g = (q, nx', S'))) :
    Calls Tryz.prog 103 #[.pointer (some ⟨M + 1, 0, none⟩), .agg #[.string nm, .int .i64 gv, .int .i64 gn, .slice ax ml cx]] w fun e w' => e = .returned (.int .i64 q) ∧ StAt w' M a n c nx' u S' k ∧ Below M w w' ∧ Keep M w w' ∧ RestPost q w' M a n c nx' u S' k X (.slice ax ml cx) := by
  have hM1 : M + 1 < w.heap.size := World.block_lt_of_cell? _ _ (hD.1 0 _ rfl).1
  have h1 := lies_fresh (next := gn) (f := nm) hl hus hgs
  have h2 := lies_mails h1 hus hgs hM
  obtain ⟨Y1, hY1⟩ : ∃ Y, insL (folderK u nm) (metaT nx gn) (insL vK (bs (itoa (nx + 1))) (emptyR N u nm)) = Y := ⟨_, rfl⟩
  have l1 : Y1.length ≤ 62 := by
    have u1 : UpL (emptyR N u nm) := hl.up.sublist List.filter_sublist
    have a1 := (ins_len (k := vK) (v := bs (itoa (nx + 1))) u1).1
    have a2 := (ins_len (k := folderK u nm) (v := metaT nx gn) (ins_up (k := vK) (v := bs (itoa (nx + 1))) u1)).1
    have a3 : (emptyR N u nm).length ≤ N.length := List.length_filter_le _ _
    rw [← hY1]
    omega
  rw [hY1] at h1 h2
  have l2 := insAll_len (Ms.map (mailP u nm)) h1.up
  rw [List.length_map, hml] at l2
  obtain ⟨Y2, hY2⟩ : ∃ Y, insAll (Ms.map (mailP u nm)) Y1 = Y := ⟨_, rfl⟩
  rw [hY2] at h2 l2
  obtain ⟨S1, hS1⟩ : ∃ T : SM, ⟨S.aside, S.word, putF ⟨nm, nx, gn, []⟩ S.fs⟩ = T := ⟨_, rfl⟩
  obtain ⟨S2, hS2⟩ : ∃ T : SM, ⟨S.aside, S.word, putF ⟨nm, nx, gn, Ms⟩ S.fs⟩ = T := ⟨_, rfl⟩
  rw [hS1] at h1
  rw [hS2] at h2
  obtain ⟨y1, hy1⟩ : ∃ t, Y1.length = t := ⟨_, rfl⟩
  obtain ⟨y2, hy2⟩ : ∃ t, Y2.length = t := ⟨_, rfl⟩
  obtain ⟨t2, ht2⟩ : ∃ t, sumF S2.fs = t := ⟨_, rfl⟩
  have ht9 : t2 ≤ 2000 := by
    have h9 := lies_count h2 hus
    rw [ht2] at h9
    have h8 : countM Y2 u ≤ Y2.length := List.length_filter_le _ _
    omega
  have HQ1 : Hid ((if 9999 < nx then (6, nx, S) else if 60 < y1 then (7, nx + 1, S1) else if 6 < t2 then (12, nx + 1, S2) else if 60 < y2 then (7, nx + 1, S2) else (0, nx + 1, S2)) = (q, nx', S')) := by
    have h9 := HQ.out
    unfold rsM at h9
    have e1 : S1F nx S g = S1 := by rw [← hS1, hgm]
    have e2 : S2F nx S g = S2 := by rw [← hS2, hgm]
    rw [e1, e2, ← h1.pm.length_eq, ← h2.pm.length_eq, hy1, hy2, ht2] at h9
    exact h9
  rw [hy1] at l1
  rw [hy1, hy2] at l2
  have hfs1 : ∀ f ∈ S1.fs, FitF f := fun f hf9 => by
    rw [← hS1] at hf9
    rcases putF_mem hf9 with hf9 | rfl
    · exact hfit f hf9
    · exact ⟨n0, n1, by show 0 ≤ gn; omega, by show gn ≤ 10000; omega, hgz, fun m hm => by cases hm⟩
  have hfs2 : ∀ f ∈ S2.fs, FitF f := fun f hf9 => by
    rw [← hS2] at hf9
    rcases putF_mem hf9 with hf9 | rfl
    · exact hfit f hf9
    · exact ⟨n0, n1, by show 0 ≤ gn; omega, by show gn ≤ 10000; omega, hgz, hgf⟩
  obtain ⟨w1, hw1⟩ : ∃ W, w.alloc (.cells #[.string nm, .int .i64 gv, .int .i64 gn, .slice none 0 0] 28) = W := ⟨_, rfl⟩
  have A1 : Below w.heap.size w w1 := by rw [← hw1]; exact (Below.refl _ _).alloc (Nat.le_refl _) _
  have X1 : Box w1 w.heap.size [.string nm, .int .i64 gv, .int .i64 gn, .slice none 0 0] := by rw [← hw1]; exact Box.new rfl
  have K1 : KindAt w1 w.heap.size 28 := by
    rw [← hw1]
    exact ⟨_, _, Array.getElem?_push_size⟩
  have D1 := hD.later A1
  have CF := freshY nm gv gn none 0 0 [] rfl w1 M a n c va S.aside nx u S.word X S.fs D1 hV hN hu hgz n0 n1 (World.ownsRow_nil _ _ _ _) (fun z _ _ y _ h9 => by cases h9)
  have HX1 : Hid (Box w1 w.heap.size [.string nm, .int .i64 gv, .int .i64 gn, .slice none 0 0] ∧ KindAt w1 w.heap.size 28 ∧ w1.ownsRow (M + 2) 37 3 (.slice ax ml cx) ml (cellsMl Ms) ∧ Below M w w1 ∧ Keep M w w1) := ⟨X1, K1, own_below hrow A1, A1.mono (by omega), Keep.of_below A1⟩
  have HST : Hid (View u X S.fs ∧ (S.fs.map (·.name)).Nodup ∧ (∀ f ∈ S.fs, 1 ≤ f.next ∧ f.next ≤ 999 ∧ f.mails.length ≤ k) ∧ S.aside.length ≤ k) := ⟨hV, hN, hf, hk⟩
  have HAP : Hid (∀ z ∈ X, ∀ y, z.v.ownBlock = some y → Value.ownBlock (.slice ax ml cx) ≠ some y) := hap
  have HG : Hid (Gl w) := hG
  have CFU1 : Hid (∀ W, ¬ 9999 < nx → Below M w W → StAt W M a n c (nx + 1) u S1 k → Calls Tryz.prog 87 #[.pointer (some ⟨M + 1, 0, none⟩)] W fun e w' => e = .returned (.bool (decide ((60 : Int) < (y1 : Int)))) ∧ Below W.heap.size W w') := fun W hx hW hst => by
    exact fullI W M a n c (nx + 1) u S1 k hst hu (by omega) (by omega) hfs1 hkk (HG.out.below h8 hW) h8 Y1 h1.up h1.pm.symm y1 hy1 (by omega) _ rfl
  have CFU2 : Hid (∀ W, ¬ 9999 < nx → Below M w W → StAt W M a n c (nx + 1) u S2 k → Calls Tryz.prog 87 #[.pointer (some ⟨M + 1, 0, none⟩)] W fun e w' => e = .returned (.bool (decide ((60 : Int) < (y2 : Int)))) ∧ Below W.heap.size W w') := fun W hx hW hst => by
    exact fullI W M a n c (nx + 1) u S2 k hst hu (by omega) (by omega) hfs2 hkk (HG.out.below h8 hW) h8 Y2 h2.up h2.pm.symm y2 hy2 (by omega) _ rfl
  have HS12 : Hid ((⟨S.aside, S.word, putF ⟨nm, nx, gn, []⟩ S.fs⟩ : SM) = S1 ∧ (⟨S.aside, S.word, putF ⟨nm, nx, gn, Ms⟩ S.fs⟩ : SM) = S2 ∧ sumF S2.fs = t2 ∧ Ms.length = ml) := ⟨hS1, hS2, ht2, hml⟩
  obtain ⟨x10, _⟩ := X1 0 _ rfl
  obtain ⟨x11, _⟩ := X1 1 _ rfl
  obtain ⟨x12, _⟩ := X1 2 _ rfl
  obtain ⟨x13, _⟩ := X1 3 _ rfl
  clear hD hV hN hf hk hrow hap hl hus hgs hM hfit hgf hG HQ h1 h2 hY1 hY2 hS1 hS2 hy1 hy2 ht2 hfs1 hfs2 A1 X1 K1 D1 hgm hml HG
  go_enter Tryz.func103, Tryz.ntmps103
  go_wp2_with fail
  refine CF.mono ?_
  rintro e w2 ⟨hb2, ho2, hx2, hk2, ⟨h9, rfl, hd2⟩ | ⟨h9, rfl, clock, hd2⟩⟩
  · have HF : Hid (StAt w2 M a n c nx u S k ∧ Below M w w2 ∧ Keep M w w2) := ⟨⟨va, X, hd2, HST.out⟩, HX1.out.2.2.2.1.trans hb2, HX1.out.2.2.2.2.trans HX1.out.2.2.2.1.size hk2.2⟩
    have hq := HQ1.out
    rw [if_pos h9] at hq
    cases hq
    clear CF hd2 hb2 ho2 hx2 hk2 HQ1 CFU1 CFU2
    go_wp2_with fail
    go_ret
    exact ⟨rfl, HF.out.1, HF.out.2.1, HF.out.2.2, RestPost.bad (by decide)⟩
  have hv2 : View u (setX ⟨folderK u nm, 0, nm, nx, gn, .slice none 0 0, []⟩ clock X) (putF ⟨nm, nx, gn, []⟩ S.fs) := HST.out.1.put (y := ⟨folderK u nm, 0, nm, nx, gn, .slice none 0 0, []⟩) rfl clock
  have hap2 : ∀ z ∈ setX ⟨folderK u nm, 0, nm, nx, gn, .slice none 0 0, []⟩ clock X, ∀ y, z.v.ownBlock = some y → Value.ownBlock (.slice ax ml cx) ≠ some y := fun z hz y hy => by
    rcases setX_mem hz with hz | ⟨hz, _, _⟩
    · exact HAP.out z hz y hy
    · rw [hz] at hy
      cases hy
  have HXM : Hid (∀ z ∈ setX ⟨folderK u nm, 0, nm, nx, gn, .slice none 0 0, []⟩ clock X, ∀ y, z.v.ownBlock = some y → ∃ z0 ∈ X, z0.v.ownBlock = some y) := fun z hz y hy => by
    rcases setX_mem hz with hz | ⟨hz, _, _⟩
    · exact ⟨z, hz, hy⟩
    · rw [hz] at hy
      cases hy
  obtain ⟨X2, hX2⟩ : ∃ T, setX ⟨folderK u nm, 0, nm, nx, gn, .slice none 0 0, []⟩ clock X = T := ⟨_, rfl⟩
  rw [hX2] at HXM
  rw [hX2] at hd2 hv2 hap2
  have HQ2 : Hid ((if 60 < y1 then (7, nx + 1, S1) else if 6 < t2 then (12, nx + 1, S2) else if 60 < y2 then (7, nx + 1, S2) else (0, nx + 1, S2)) = (q, nx', S')) := by
    have hq := HQ1.out
    rw [if_neg (by omega)] at hq
    exact hq
  have hne : w.heap.size ≠ M ∧ w.heap.size ≠ M + 1 := by omega
  have B2 : Hid (Below M w w2) := HX1.out.2.2.2.1.trans hb2
  have KP2 : Hid (Keep M w w2) := HX1.out.2.2.2.2.trans HX1.out.2.2.2.1.size hk2.2
  have hst2 : StAt w2 M a n c (nx + 1) u S1 k := by
    rw [← HS12.out.1]
    exact st_putG hd2 hv2 HST.out.2.1 HST.out.2.2.1 ⟨hgb.1, hgb.2.1, Nat.zero_le _⟩ HST.out.2.2.2
  have HST2 : Hid (StAt w2 M a n c (nx + 1) u S1 k) := hst2
  have CFU := CFU1.out w2 (by omega) B2.out hst2
  have HX2 : Hid (Box w2 w.heap.size [.string nm, .int .i64 gv, .int .i64 gn, .slice none 0 0] ∧ KindAt w2 w.heap.size 28 ∧ w2.ownsRow (M + 2) 37 3 (.slice ax ml cx) ml (cellsMl Ms)) := ⟨hx2 _ _ hne.1 hne.2 HX1.out.1, hk2.1 _ _ hne.1 HX1.out.2.1, ho2 _ _ _ _ _ HX1.out.2.2.1⟩
  have HD2 : Hid (DeskAt w2 M ⟨a, n, c, va, S.aside, nx + 1, u, S.word, X2⟩ ∧ View u X2 (putF ⟨nm, nx, gn, []⟩ S.fs) ∧ ∀ z ∈ X2, ∀ y, z.v.ownBlock = some y → Value.ownBlock (.slice ax ml cx) ≠ some y) := ⟨hd2, hv2, hap2⟩
  have hM2 : M + 2 ≤ w2.heap.size := by
    have h9 : M + 1 < w2.heap.size := World.block_lt_of_cell? _ _ (hd2.1 0 _ rfl).1
    omega
  clear CF hd2 hb2 ho2 hx2 hk2 HQ1 CFU1 hv2 hap2 hX2 hst2 hw1 HAP
  go_wp2_with fail
  refine CFU.mono ?_
  rintro e w3 ⟨rfl, hb3⟩
  have B3 : Hid (Below M w w3) := B2.out.trans (hb3.mono (by omega))
  have KP3 : Hid (Keep M w w3) := KP2.out.next B2.out.size hb3
  have HST3 : Hid (StAt w3 M a n c (nx + 1) u S1 k) := HST2.out.later hb3
  have HX3 : Hid (Box w3 w.heap.size [.string nm, .int .i64 gv, .int .i64 gn, .slice none 0 0] ∧ KindAt w3 w.heap.size 28 ∧ w3.ownsRow (M + 2) 37 3 (.slice ax ml cx) ml (cellsMl Ms)) := ⟨HX2.out.1.below hb3, kind_below HX2.out.2.1 hb3, own_below HX2.out.2.2 hb3⟩
  have HD3 : Hid (DeskAt w3 M ⟨a, n, c, va, S.aside, nx + 1, u, S.word, X2⟩) := HD2.out.1.later hb3
  have hM3 : M + 2 ≤ w3.heap.size := by have := hb3.size; omega
  clear CFU hb3 HST2 HX2
  by_cases hb1 : 60 < y1
  · have hb1i : (60 : Int) < (y1 : Int) := by omega
    have hq := HQ2.out
    rw [if_pos hb1] at hq
    cases hq
    go_wp2_with fail
    go_ret
    exact ⟨rfl, HST3.out, B3.out, KP3.out, RestPost.bad (by decide)⟩
  have hb1i : ¬ (60 : Int) < (y1 : Int) := by omega
  have HQ3 : Hid ((if 6 < t2 then (12, nx + 1, S2) else if 60 < y2 then (7, nx + 1, S2) else (0, nx + 1, S2)) = (q, nx', S')) := by
    have hq := HQ2.out
    rw [if_neg hb1] at hq
    exact hq
  clear HQ2 HST3
  have hlk : lookF nm (putF ⟨nm, nx, gn, []⟩ S.fs) = some ⟨nm, nx, gn, []⟩ := by rw [lookF_put, if_pos rfl]
  obtain ⟨ay, cy, hat, _, _⟩ := at_some HD3.out HD2.out.2.1 hlk
  have CT := atI nm w3 M ⟨a, n, c, va, S.aside, nx + 1, u, S.word, X2⟩ (by omega) (by show u.size ≤ 1048576; omega) HD3.out
  have CT2 : Calls Tryz.prog 38 #[.pointer (some ⟨M + 1, 0, none⟩), .string nm] w3 fun e w' => e = .returned (.agg #[.string nm, .int .i64 nx, .int .i64 gn, .slice ay 0 cy]) ∧ Below w3.heap.size w3 w' := by
    have h9 : atX (lookX (folderK u nm) X2) = .agg #[.string nm, .int .i64 nx, .int .i64 gn, .slice ay 0 cy] := hat
    rw [← h9]
    exact CT
  obtain ⟨x30, _⟩ := HX3.out.1 0 _ rfl
  clear CT hat hlk
  go_wp2_with fail
  refine CT2.mono ?_
  rintro e w4 ⟨rfl, hb4⟩
  have B4 : Hid (Below M w w4) := B3.out.trans (hb4.mono (by omega))
  have KP4 : Keep M w w4 := KP3.out.next B3.out.size hb4
  have X4 : Box w4 w.heap.size [.string nm, .int .i64 gv, .int .i64 gn, .slice none 0 0] := HX3.out.1.below hb4
  have K4 := kind_below HX3.out.2.1 hb4
  have O4 := own_below HX3.out.2.2 hb4
  have D4 := HD3.out.later hb4
  obtain ⟨p0, pf0⟩ := (X4) 0 _ rfl
  obtain ⟨p1, pf1⟩ := ((X4).set 0 (.string nm)) 1 _ rfl
  obtain ⟨p2, pf2⟩ := (((X4).set 0 (.string nm)).set 1 (.int .i64 nx)) 2 _ rfl
  obtain ⟨p3, pf3⟩ := ((((X4).set 0 (.string nm)).set 1 (.int .i64 nx)).set 2 (.int .i64 gn)) 3 _ rfl
  have X5 := ((((X4).set 0 (.string nm)).set 1 (.int .i64 nx)).set 2 (.int .i64 gn)).set 3 (.slice ay 0 cy)
  obtain ⟨p9, pf9⟩ := X5 3 _ rfl
  obtain ⟨r0, _⟩ := X5 0 _ rfl
  obtain ⟨r1, _⟩ := X5 1 _ rfl
  obtain ⟨r2, _⟩ := X5 2 _ rfl
  obtain ⟨r3, _⟩ := X5 3 _ rfl
  have X6 := X5.set 3 (.slice ax ml cx)
  obtain ⟨q0, _⟩ := X6 0 _ rfl
  obtain ⟨q1, _⟩ := X6 1 _ rfl
  obtain ⟨q2, _⟩ := X6 2 _ rfl
  obtain ⟨q3, _⟩ := X6 3 _ rfl
  have D5 : DeskAt (((((w4.setCell ⟨w.heap.size, 0, none⟩ (.string nm)).setCell ⟨w.heap.size, 1, none⟩ (.int .i64 nx)).setCell ⟨w.heap.size, 2, none⟩ (.int .i64 gn)).setCell ⟨w.heap.size, 3, none⟩ (.slice ay 0 cy)).setCell ⟨w.heap.size, 3, none⟩ (.slice ax ml cx)) M ⟨a, n, c, va, S.aside, nx + 1, u, S.word, X2⟩ := desk_box (desk_box (desk_box (desk_box (desk_box (D4) (K4) hne.1 hne.2 0 (.string nm)) (kind_set (K4) _ _) hne.1 hne.2 1 (.int .i64 nx)) (kind_set (kind_set (K4) _ _) _ _) hne.1 hne.2 2 (.int .i64 gn)) (kind_set (kind_set (kind_set (K4) _ _) _ _) _ _) hne.1 hne.2 3 (.slice ay 0 cy)) (kind_set (kind_set (kind_set (kind_set (K4) _ _) _ _) _ _) _ _) hne.1 hne.2 3 (.slice ax ml cx)
  have O5 : (((((w4.setCell ⟨w.heap.size, 0, none⟩ (.string nm)).setCell ⟨w.heap.size, 1, none⟩ (.int .i64 nx)).setCell ⟨w.heap.size, 2, none⟩ (.int .i64 gn)).setCell ⟨w.heap.size, 3, none⟩ (.slice ay 0 cy)).setCell ⟨w.heap.size, 3, none⟩ (.slice ax ml cx)).ownsRow (M + 2) 37 3 (.slice ax ml cx) ml (cellsMl Ms) := own_box (own_box (own_box (own_box (own_box (O4) (K4) 0 (.string nm)) (kind_set (K4) _ _) 1 (.int .i64 nx)) (kind_set (kind_set (K4) _ _) _ _) 2 (.int .i64 gn)) (kind_set (kind_set (kind_set (K4) _ _) _ _) _ _) 3 (.slice ay 0 cy)) (kind_set (kind_set (kind_set (kind_set (K4) _ _) _ _) _ _) _ _) 3 (.slice ax ml cx)
  have B5 : Hid (Below M w (((((w4.setCell ⟨w.heap.size, 0, none⟩ (.string nm)).setCell ⟨w.heap.size, 1, none⟩ (.int .i64 nx)).setCell ⟨w.heap.size, 2, none⟩ (.int .i64 gn)).setCell ⟨w.heap.size, 3, none⟩ (.slice ay 0 cy)).setCell ⟨w.heap.size, 3, none⟩ (.slice ax ml cx))) := B4.out.trans (((((((Below.refl M w4)).setCell (by show M ≤ w.heap.size; omega) _).setCell (by show M ≤ w.heap.size; omega) _).setCell (by show M ≤ w.heap.size; omega) _).setCell (by show M ≤ w.heap.size; omega) _).setCell (by show M ≤ w.heap.size; omega) _)
  have KP5 : Hid (Keep M w (((((w4.setCell ⟨w.heap.size, 0, none⟩ (.string nm)).setCell ⟨w.heap.size, 1, none⟩ (.int .i64 nx)).setCell ⟨w.heap.size, 2, none⟩ (.int .i64 gn)).setCell ⟨w.heap.size, 3, none⟩ (.slice ay 0 cy)).setCell ⟨w.heap.size, 3, none⟩ (.slice ax ml cx))) := (((((KP4).setCell _ (by show w.heap.size ≤ w.heap.size; omega) _).setCell _ (by show w.heap.size ≤ w.heap.size; omega) _).setCell _ (by show w.heap.size ≤ w.heap.size; omega) _).setCell _ (by show w.heap.size ≤ w.heap.size; omega) _).setCell _ (by show w.heap.size ≤ w.heap.size; omega) _
  have hKN : (X2.map (·.k)).Nodup := by
    rw [HD2.out.2.1.keys]
    exact nodup_keys (putF_names HST.out.2.1)
  have CP := putX ⟨folderK u nm, 0, nm, nx, gn, .slice ax ml cx, Ms⟩ nm nx gn ax ml cx (((((w4.setCell ⟨w.heap.size, 0, none⟩ (.string nm)).setCell ⟨w.heap.size, 1, none⟩ (.int .i64 nx)).setCell ⟨w.heap.size, 2, none⟩ (.int .i64 gn)).setCell ⟨w.heap.size, 3, none⟩ (.slice ay 0 cy)).setCell ⟨w.heap.size, 3, none⟩ (.slice ax ml cx)) M ⟨a, n, c, va, S.aside, nx + 1, u, S.word, X2⟩ rfl (by omega) (by show u.size ≤ 1048576; omega) D5.head (fun clock => rows_set D5.2.2.2 (by show World.ownsRow _ _ _ _ _ Ms.length _; rw [HS12.out.2.2.2]; exact O5) hKN (fun x hx _ y hy => HD2.out.2.2 x hx y hy) clock)
  clear X5 X6 CT2 D5 O5 D4 K4 O4 X4 hb4 hKN HX3 KP4
  go_wp2_with fail
  refine CP.mono ?_
  rintro e w6 ⟨rfl, ⟨clock2, hd6⟩, hb6, _, _, _, hkp6⟩
  have hv6 : View u (setX ⟨folderK u nm, 0, nm, nx, gn, .slice ax ml cx, Ms⟩ clock2 X2) S2.fs := by
    have h9 := HD2.out.2.1.put (y := ⟨folderK u nm, 0, nm, nx, gn, .slice ax ml cx, Ms⟩) rfl clock2
    have e9 : (putF ⟨nm, nx, gn, Ms⟩ (putF ⟨nm, nx, gn, []⟩ S.fs)) = S2.fs := by rw [put_put, ← HS12.out.2.1]
    rw [← e9]
    exact h9
  have B6 : Hid (Below M w w6) := B5.out.trans hb6
  have KP6 : Hid (Keep M w w6) := KP5.out.trans B5.out.size hkp6
  have hst6 : StAt w6 M a n c (nx + 1) u S2 k := by
    have e9 := HS12.out.2.1
    have e8 : S2.fs = putF ⟨nm, nx, gn, Ms⟩ S.fs := by rw [← e9]
    rw [← e9]
    rw [e8] at hv6
    exact st_putG hd6 hv6 HST.out.2.1 HST.out.2.2.1 ⟨hgb.1, hgb.2.1, by show Ms.length ≤ k; rw [HS12.out.2.2.2]; exact hgb.2.2⟩ HST.out.2.2.2
  have HST6 : Hid (StAt w6 M a n c (nx + 1) u S2 k) := hst6
  have HRP6 : Hid (RestPost 0 w6 M a n c (nx + 1) u S2 k X (.slice ax ml cx)) := fun _ => by
    have e9 := HS12.out.2.1
    refine ⟨va, _, by rw [← e9]; exact hd6, hv6, ?_, ?_, by rw [← e9]; exact HST.out.2.2.2, fun z hz y hy => ?_⟩
    · rw [← e9]
      exact putF_names HST.out.2.1
    · rw [← e9]
      intro f9 hf9
      rcases putF_mem hf9 with hf9 | rfl
      · exact HST.out.2.2.1 f9 hf9
      · exact ⟨hgb.1, hgb.2.1, by show Ms.length ≤ k; rw [HS12.out.2.2.2]; exact hgb.2.2⟩
    · rcases setX_mem hz with hz | ⟨hz, _, _⟩
      · exact .inl (HXM.out z hz y hy)
      · rw [hz] at hy
        exact .inr hy
  have CM := mailsI w6 M _ hd6 t2 ((sum_view hv6).trans HS12.out.2.2.1) (by omega)
  have hM6 : M + 2 ≤ w6.heap.size := by
    have h8 : M + 1 < w6.heap.size := World.block_lt_of_cell? _ _ (hd6.1 0 _ rfl).1
    omega
  clear CP hd6 hb6 hkp6 hv6 hst6 p0 p1 p2 p3 p9 r0 r1 r2 r3 q0 q1 q2 q3 pf0 pf1 pf2 pf3 pf9 x30
  go_wp2_with fail
  refine CM.mono ?_
  rintro e w7 ⟨rfl, hb7⟩
  have B7 : Hid (Below M w w7) := B6.out.trans (hb7.mono (by omega))
  have KP7 : Hid (Keep M w w7) := KP6.out.next B6.out.size hb7
  have HST7 : Hid (StAt w7 M a n c (nx + 1) u S2 k) := HST6.out.later hb7
  have HRP7 : Hid (RestPost 0 w7 M a n c (nx + 1) u S2 k X (.slice ax ml cx)) := fun _ => by
    obtain ⟨va9, X9, t1, t2⟩ := HRP6.out rfl
    exact ⟨va9, X9, t1.later hb7, t2⟩
  have hM7 : M + 2 ≤ w7.heap.size := by have := hb7.size; omega
  clear CM hb7 HST6
  by_cases ht6 : 6 < t2
  · have ht6i : (6 : Int) < (t2 : Int) := by omega
    have hq := HQ3.out
    rw [if_pos ht6] at hq
    cases hq
    go_wp2_with fail
    go_ret
    exact ⟨rfl, HST7.out, B7.out, KP7.out, RestPost.bad (by decide)⟩
  have ht6i : ¬ (6 : Int) < (t2 : Int) := by omega
  have HQ4 : Hid ((if 60 < y2 then (7, nx + 1, S2) else (0, nx + 1, S2)) = (q, nx', S')) := by
    have hq := HQ3.out
    rw [if_neg ht6] at hq
    exact hq
  have CFV := CFU2.out w7 (by omega) B7.out HST7.out
  clear HQ3 CFU2
  go_wp2_with fail
  refine CFV.mono ?_
  rintro e w8 ⟨rfl, hb8⟩
  have HF : Hid (StAt w8 M a n c (nx + 1) u S2 k ∧ Below M w w8 ∧ Keep M w w8) := ⟨HST7.out.later hb8, B7.out.trans (hb8.mono (by omega)), KP7.out.next B7.out.size hb8⟩
  have HRP8 : Hid (RestPost 0 w8 M a n c (nx + 1) u S2 k X (.slice ax ml cx)) := fun _ => by
    obtain ⟨va9, X9, t1, t2⟩ := HRP7.out rfl
    exact ⟨va9, X9, t1.later hb8, t2⟩
  clear CFV hb8
  by_cases hb2 : 60 < y2
  · have hb2i : (60 : Int) < (y2 : Int) := by omega
    have hq := HQ4.out
    rw [if_pos hb2] at hq
    cases hq
    go_wp2_with fail
    go_ret
    exact ⟨rfl, HF.out.1, HF.out.2.1, HF.out.2.2, RestPost.bad (by decide)⟩
  have hb2i : ¬ (60 : Int) < (y2 : Int) := by omega
  have hq := HQ4.out
  rw [if_neg hb2] at hq
  cases hq
  go_wp2_with fail
  go_ret
  exact ⟨rfl, HF.out.1, HF.out.2.1, HF.out.2.2, HRP8.out⟩
end Go.Proofs.YthgbclipknfmjaaGreatDoor
