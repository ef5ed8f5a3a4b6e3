/-
  Lsf Nms Lsp Lsq in one. By an AI agent.
-/
import Derived.Test.YtddnecljdecamaaGreatDoorQ23
import Derived.Test.YtddnecljdecamaaGreatDoorShels
import Derived.Test.YtddnecljdecamaaGreatDoorQ20
import Derived.Lib.OwnBridge
import Derived.Sort.OwnSorted
import Derived.Shelf.Slices.In.SortNone
namespace Go.Proofs.YtddnecljdecamaaGreatDoor
open Go.ChangeShapes Go.WideShapes Go.ChangeAt Go.RowKit Go.Deep Go.Lib
set_option linter.unusedVariables false
set_option linter.unusedSimpArgs false
set_option maxRecDepth 100000

theorem under_eq (L : List PM) (k : ByteArray) : ∀ n, n ≤ L.length → under (fK L) (fV L) k n = (L.take n).filter fun x => beginsB x.1 k := by
  intro n
  induction n with
  | zero => intro _; rfl
  | succ n ih =>
    intro hn
    have h1 := ih (by omega)
    have hlt : n < L.length := by omega
    rw [List.take_add_one, List.getElem?_eq_getElem hlt, List.filter_append]
    cases hb : beginsB (fK L n) k with
    | true =>
      rw [under_hit _ _ _ _ hb, h1, (at_fst hlt).1, (at_fst hlt).2]
      rw [(at_fst hlt).1] at hb
      simp [hb]
    | false =>
      rw [under_miss _ _ _ _ hb, h1]
      rw [(at_fst hlt).1] at hb
      simp [hb]
abbrev foldersK (u : ByteArray) : ByteArray := folderK u ⟨#[]⟩
def behind (u : ByteArray) (x : PM) : ByteArray := x.1.extract (foldersK u).size x.1.size
def listS (L : List PM) (u : ByteArray) : List ByteArray := (L.filter fun x => beginsB x.1 (foldersK u)).map (behind u)
end Go.Proofs.YtddnecljdecamaaGreatDoor
namespace Go.Proofs.YtddnecljdecamaaGreatDoor
open Go.ChangeShapes Go.WideShapes Go.ChangeAt Go.RowKit Go.Deep Go.Lib
open Go.ChangeMaps (setBlock)
set_option linter.unusedVariables false
set_option linter.unusedSimpArgs false
set_option maxRecDepth 100000

/-- The names of those folders that are still to come. -/
def leftNames (seen : Array Nat) : List FX → List ByteArray
  | [] => []
  | x :: X => if seen.contains x.born = true then leftNames seen X else x.name :: leftNames seen X
theorem leftN_other {seen : Array Nat} {b : Nat} : ∀ {X : List FX}, (∀ x ∈ X, x.born ≠ b) → leftNames (seen.push b) X = leftNames seen X
  | [], _ => rfl
  | x :: X, h => by
    unfold leftNames
    have h1 : (x.born == b) = false := beq_eq_false_iff_ne.2 (h x List.mem_cons_self)
    rw [contains_push, h1, Bool.or_false, leftN_other fun y hy => h y (List.mem_cons_of_mem _ hy)]
theorem leftN_push {seen : Array Nat} {x : FX} : ∀ {X : List FX}, (X.map (·.born)).Nodup → x ∈ X → seen.contains x.born = false → (leftNames seen X).Perm (x.name :: leftNames (seen.push x.born) X)
  | [], _, h, _ => by cases h
  | y :: X, hn, hx, hs => by
    rw [List.map_cons, List.nodup_cons] at hn
    unfold leftNames
    by_cases hb : y.born = x.born
    · have hno : ∀ z ∈ X, z.born ≠ x.born := fun z hz e => hn.1 (List.mem_map.2 ⟨z, hz, by rw [e, hb]⟩)
      rcases List.mem_cons.1 hx with rfl | hx
      · rw [leftN_other hno, contains_push, hs]
        simp
      · exact absurd rfl (hno x hx)
    · have h1 : (y.born == x.born) = false := beq_eq_false_iff_ne.2 hb
      rcases List.mem_cons.1 hx with rfl | hx
      · exact absurd rfl hb
      · have ih := leftN_push hn.2 hx hs
        rw [contains_push, h1, Bool.or_false]
        split
        · exact ih
        · exact (List.Perm.cons _ ih).trans (List.Perm.swap _ _ _)
theorem leftN_end {seen : Array Nat} : ∀ {X : List FX}, (∀ x ∈ X, seen.contains x.born = true) → leftNames seen X = []
  | [], _ => rfl
  | x :: X, h => by
    unfold leftNames
    rw [if_pos (h x List.mem_cons_self), leftN_end fun y hy => h y (List.mem_cons_of_mem _ hy)]
theorem leftN_view {u : ByteArray} : ∀ {X : List FX} {fs : List FM}, View u X fs → leftNames #[] X = fs.map (·.name)
  | [], [], _ => rfl
  | [], _ :: _, h => by cases h
  | _ :: _, [], h => by cases h
  | x :: X, f :: fs, h => by
    unfold View at h
    simp only [List.map_cons, List.cons.injEq, Prod.mk.injEq] at h
    obtain ⟨⟨_, h2⟩, h3⟩ := h
    have ih := leftN_view (u := u) (X := X) (fs := fs) h3
    unfold leftNames
    rw [ih, ← h2]
    simp
theorem own_sort1 {w0 w1 : World} {base g cap n nn : Nat} {os : Array Obj} {ss : List (List UInt8)} (ho : w1.ownsRow base 9 1 (.slice (some ⟨g, 0, none⟩) n cap) n (ss.map encStr)) (hb : Below w0.heap.size w0 w1) (hg : w0.heap.size ≤ g) (hl : ss.length = n) :
    let W := Sort.grow (Sort.putRow encStr (Sort.ahead w1 nn) g 0 (ss.mergeSort fun x y => decide (x ≤ y)).toArray) os
    W.ownsRow base 9 1 (.slice (some ⟨g, 0, none⟩) n cap) n ((ss.mergeSort fun x y => decide (x ≤ y)).map encStr) ∧ Below w0.heap.size w0 W := by
  have hm : (ss.mergeSort fun x y => decide (x ≤ y)).length = ss.length := List.length_mergeSort ss
  subst hl
  obtain ⟨_, ⟨hv, _⟩ | ⟨g', cap', cur, hv, h1, h2, h3, h4, h5, h6⟩⟩ := ho
  · cases hv
  cases hv
  have hs := ownsRow_sorted (n := nn) (os := os) (ts := ss.mergeSort fun x y => decide (x ≤ y)) hm h1 h2 h3 h4 h5
  exact ⟨hs, hb.grown (grownBy_sorted _) hb.size (fun j hj => by cases hj; exact hg)⟩
theorem sortNil (p : Option Addr) (cap : Nat) (w : World) : Calls Tryz.prog 108 #[.slice p 0 cap] w fun e w' => e = .returned (.tuple #[]) ∧ w' = w := Any.slices_Sort_string_none Tryz.lays190 p cap w
set_option maxHeartbeats 2000000 in
theorem namesI (w : World) (M : Nat) (D : DK) (hD : DeskAt w M D) (hX : D.X.length ≤ 60) :
    Calls Tryz.prog 60 #[.pointer (some ⟨M + 1, 0, none⟩)] w fun e w' => ∃ v, e = .returned v ∧ (∃ R : List ByteArray, R.Perm (leftNames #[] D.X) ∧ w'.ownsRow w.heap.size 9 1 v R.length (((R.map (·.data.toList)).mergeSort fun x y => decide (x ≤ y)).map encStr)) ∧ Below w.heap.size w w' := by
  obtain ⟨e5, _⟩ := hD.1 5 _ rfl
  have hM : M < w.heap.size := by have h9 : M + 1 < w.heap.size := World.block_lt_of_cell? _ _ e5; omega
  have HM : Hid (∃ clock, MapIs w M clock D.X) := hD.2.1
  have HSL : Hid (∀ x ∈ D.X, ∃ (ax : Option Addr) (cx : Nat), x.v = .slice ax x.mails.length cx) := fun x hx => by
    obtain ⟨ax, cx, h1, _, _⟩ := own_src (hD.2.2.2.1 x hx)
    exact ⟨ax, cx, h1⟩
  have HN : Hid ((D.X.map (·.born)).Nodup) := by obtain ⟨_, h9⟩ := hD.2.1; exact h9.2.2
  have hll : ∀ X : List FX, (leftNames #[] X).length ≤ X.length := fun X => by
    induction X with
    | nil => exact Nat.le_refl _
    | cons x X ih => unfold leftNames; simp; exact ih
  have HLL : Hid ((leftNames #[] D.X).length ≤ 60) := Nat.le_trans (hll D.X) hX
  clear hD hll
  go_enter Tryz.func60, Tryz.ntmps60
  go_wp2_with (first
    | (at_range; refine wpList_rangeX _ rfl _ 78 rfl Tryz.underlying78 M D.X rfl HM.out ?_; intro w0 hrg0 hb0 hs0)
    | go_in)
  go_frame
  go_loopw [3] (fun v wr => ∃ (seen : Array Nat) (u : Value) (R : List ByteArray), u = v ∧ Hid (RangeX wr M w.heap.size D.X seen) ∧ Hid ((R ++ leftNames seen D.X).Perm (leftNames #[] D.X)) ∧ Hid (wr.ownsRow (w.heap.size + 1) 9 1 u R.length (cellsS R)) ∧ Hid (Below w.heap.size w wr) ∧ Hid (w.heap.size < wr.heap.size)) (fun _ wr => wr.rangeLeft M w.heap.size)
  case atStart => exact ⟨#[], _, [], rfl, hrg0, by show List.Perm _ _; rw [List.nil_append], World.ownsRow_nil _ _ _ _, hb0, by show _ < _; omega⟩
  case round =>
    obtain ⟨seen, u, R, rfl, hrg, hperm, hown, hbw, hlt⟩ := hrel
    have hR60 : R.length ≤ 60 := by
      have h9 := hperm.out.length_eq
      have h7 := HLL.out
      rw [List.length_append] at h9
      omega
    go_wp2_with (first
      | (at_next; refine wpList_nextY _ rfl _ rfl M w.heap.size D.X seen hM rfl hrg.out HSL.out ?_ ?_)
      | go_in)
    · intro hall
      have hz := leftN_end (fun x hx => by simpa using hall.out x hx)
      have HP : Hid (R.Perm (leftNames #[] D.X)) := by have h9 := hperm.out; rw [hz, List.append_nil] at h9; exact h9
      clear hz hall hperm
      have SS : Hid (cellsS R = (R.map (·.data.toList)).map encStr) := by
        show _ = _
        unfold cellsS
        rw [List.map_map]
        exact List.map_congr_left fun x _ => rfl
      obtain ⟨m0, hm0⟩ : ∃ m, R.length = m := ⟨_, rfl⟩
      rw [hm0] at hR60
      have HM0 : Hid (R.length = m0) := hm0
      have HLs : Hid ((R.map (·.data.toList)).length = m0) := by show _ = _; rw [List.length_map, hm0]
      have HO : Hid (wr.ownsRow (w.heap.size + 1) 9 1 u m0 ((R.map (·.data.toList)).map encStr)) := by rw [← SS.out, ← hm0]; exact hown.out
      obtain ⟨ss, hss⟩ : ∃ ss, R.map (·.data.toList) = ss := ⟨_, rfl⟩
      have HSS : Hid (R.map (·.data.toList) = ss) := hss
      rw [hss] at HO HLs
      clear hm0 hown hss SS
      by_cases hu : u = .slice none 0 0
      · subst hu
        have hz : m0 = 0 := by
          obtain ⟨hl, ⟨_, h0⟩ | ⟨g, cap, cur, hv, _⟩⟩ := HO.out
          · exact h0
          · cases hv
        have HNIL : Hid (R = []) := List.eq_nil_of_length_eq_zero (HM0.out.trans hz)
        clear hz
        go_wp2_with (go_at_call 108; refine (sortNil _ _ _).mono ?_; rintro e w2 ⟨rfl, rfl⟩)
        go_ret
        refine ⟨.slice none 0 0, rfl, ⟨R, HP.out, ?_⟩, hbw.out⟩
        rw [HNIL.out]
        simp
        exact World.ownsRow_nil _ _ _ _
      · obtain ⟨g, cap, rfl, hg1, hg2, hg3, hg4, _, hH⟩ := Lib.holds_of_ownsRow HO.out hu
        have C1 : Hid (Calls Tryz.prog 108 #[.slice (some ⟨g, 0, none⟩) m0 cap] wr fun e w' => e = .returned (.tuple #[]) ∧ ∃ n os, w' = Sort.grow (Sort.putRow encStr (Sort.ahead wr n) g 0 (ss.mergeSort fun x y => decide (x ≤ y)).toArray) os) := by
          have h9 := Tryz.slices_Sort_string g 0 cap ss wr hH hg2 (by rw [HLs.out]; omega)
          rw [HLs.out] at h9
          exact h9
        clear hH hu
        go_wp2_with fail
        refine C1.out.mono ?_
        rintro e w2 ⟨rfl, nn, os, hw2⟩
        obtain ⟨oo, bb⟩ := own_sort1 (nn := nn) (os := os) (own_mono HO.out (show w.heap.size ≤ w.heap.size + 1 by omega)) hbw.out (by omega) HLs.out
        rw [← hw2] at oo bb
        have OO : Hid (w2.ownsRow w.heap.size 9 1 (.slice (some ⟨g, 0, none⟩) m0 cap) m0 ((ss.mergeSort fun x y => decide (x ≤ y)).map encStr) ∧ Below w.heap.size w w2) := ⟨oo, bb⟩
        clear oo bb hw2 C1
        go_wp2_with fail
        go_ret
        refine ⟨.slice (some ⟨g, 0, none⟩) m0 cap, rfl, ⟨R, HP.out, ?_⟩, OO.out.2⟩
        rw [HM0.out, HSS.out]
        exact OO.out.1
    · intro x hx hsx ax cx hv w1 hrg1 hlt1 hb1 hgr1 hs1 hen
      have hpush := leftN_push HN.out hx (by simpa using hsx.out)
      obtain ⟨ml, hml⟩ : ∃ k, x.mails.length = k := ⟨_, rfl⟩
      obtain ⟨xn, hxn⟩ : ∃ k, x.name = k := ⟨_, rfl⟩
      rw [hml] at hen ⊢
      rw [hxn] at hpush hen ⊢
      have HS2 : Hid (((R ++ [xn]) ++ leftNames (seen.push x.born) D.X).Perm (leftNames #[] D.X)) := by
        show List.Perm _ _
        rw [List.append_assoc]
        exact (List.Perm.append_left R hpush.symm).trans hperm.out
      have HR1 : Hid (RangeX w1 M w.heap.size D.X (seen.push x.born)) := hrg1
      have HB1 : Hid (Below w.heap.size w w1) := hbw.out.trans hb1
      have HL1 : Hid (w.heap.size < w1.heap.size) := by have h9 := hlt.out; show _ < _; omega
      have HLT : Hid (w1.rangeLeft M w.heap.size < wr.rangeLeft M w.heap.size) := hlt1
      have HO1 : Hid (w1.ownsRow (w.heap.size + 1) 9 1 u R.length (cellsS R)) := own_grown hown.out hgr1 (fun g h9 h7 => by have h5 := (hown.out.lt g h9).1; cases h7; omega)
      clear hpush hperm hrg1 hb1 hbw hlt hml hlt1 hs1 hxn hown hgr1
      go_wp2_with (at_builtin; refine wpList_append_src _ rfl _ _ 40 rfl (w.heap.size + 1) 9 (.string ⟨#[]⟩) 1 16 Tryz.underlying40 infoS rfl (by decide) (by decide) _ R.length (cellsS R) rfl ((HO1.out.alloc _).alloc _) (some ⟨w1.heap.size + 1, 0, none⟩) 1 1 (cellsS [xn]) rfl rfl (src_oneC (by simp)) (cellsS_one _) (by omega) (by have h9 := HL1.out; simp; omega) ?_)
      intro v2 w2 hown2 hgrow2
      have hub : ∀ g, u.ownBlock = some g → w.heap.size + 1 ≤ g := fun g e => (HO1.out.lt g e).1
      have HO2 : Hid (w2.ownsRow (w.heap.size + 1) 9 1 v2 (R ++ [xn]).length (cellsS (R ++ [xn]))) := by
        show w2.ownsRow _ _ _ _ _ _
        rw [cellsS_append, List.length_append]
        exact hown2
      have HR2 : Hid (RangeX w2 M w.heap.size D.X (seen.push x.born)) := RangeX.grown ((HR1.out.later ((Below.refl _ _).alloc (Nat.le_refl _) _)).later ((Below.refl _ _).alloc (Nat.le_refl _) _)) hgrow2 (fun e => by have := hub _ e; omega) (fun e => by have := hub _ e; omega)
      have HB2 : Hid (Below w.heap.size w w2) := ((HB1.out.alloc HB1.out.size _).alloc (by have := HB1.out.size; simp; omega) _).grown hgrow2 (by have := HB1.out.size; simp; omega) (fun g e => by have := hub _ e; omega)
      have HL2 : Hid (w.heap.size < w2.heap.size) := by have h9 := hgrow2.size; have h7 := HL1.out; simp at h9; show _ < _; omega
      clear hown2 hgrow2 hub
      go_wp2_with fail
      go_roundw
      case rel => exact ⟨_, _, R ++ [xn], rfl, HR2.out, HS2.out, HO2.out, HB2.out, HL2.out⟩
      case measure => rw [HR2.out.left, ← HR1.out.left]; exact HLT.out
end Go.Proofs.YtddnecljdecamaaGreatDoor
namespace Go.Proofs.YtddnecljdecamaaGreatDoor
open Go.ChangeShapes Go.WideShapes Go.ChangeAt Go.RowKit Go.Deep Go.Lib
set_option linter.unusedVariables false
set_option linter.unusedSimpArgs false
set_option maxRecDepth 100000

theorem bl_pre : ∀ p a b : List UInt8, Op.bytesLess (p ++ a) (p ++ b) = Op.bytesLess a b
  | [], _, _ => rfl
  | c :: p, a, b => by
    rw [List.cons_append, List.cons_append, Op.bytesLess, bl_pre p a b]
    simp
theorem foldersK_data (u : ByteArray) : (foldersK u).data.toList = 102 :: 47 :: (u.data.toList ++ [47]) := by
  rw [folderK_data]
theorem behind_data {u : ByteArray} {x : PM} (h : beginsB x.1 (foldersK u) = true) : x.1.data.toList = (foldersK u).data.toList ++ (behind u x).data.toList := by
  obtain ⟨r, hr⟩ := begins_iff.1 h
  have h1 : x.1.size = (foldersK u).size + r.length := by rw [← bytes_len x.1, hr, List.length_append, bytes_len]
  have h2 : (behind u x).data.toList = r := by
    unfold behind
    rw [ext_data x.1 (foldersK u).size x.1.size (Nat.le_refl _), hr, List.drop_append_of_le_length (by rw [bytes_len]; exact Nat.le_refl _)]
    rw [List.drop_of_length_le (by rw [bytes_len]; exact Nat.le_refl _), List.nil_append, List.take_of_length_le (by omega)]
  rw [h2, hr]
theorem behind_key {u : ByteArray} {x : PM} (h : beginsB x.1 (foldersK u) = true) : x.1 = folderK u (behind u x) := by
  apply bs_inj
  rw [behind_data h, foldersK_data, folderK_data]
  simp
theorem begins_folder (u name : ByteArray) : beginsB (folderK u name) (foldersK u) = true := by
  rw [begins_iff]
  exact ⟨name.data.toList, by rw [folderK_data, foldersK_data]; simp⟩
theorem lookF_iff {n : ByteArray} : ∀ {fs : List FM}, (lookF n fs).isSome = true ↔ n ∈ fs.map (·.name)
  | [] => by simp [lookF]
  | f :: fs => by
    have ih := lookF_iff (n := n) (fs := fs)
    unfold lookF
    by_cases e : f.name = n
    · rw [if_pos e]; simp [e]
    · rw [if_neg e, ih, List.map_cons, List.mem_cons]
      constructor
      · exact .inr
      · rintro (h | h)
        · exact absurd h.symm e
        · exact h
theorem folders_mem {L : List PM} {u : ByteArray} (hst : storeB L = true) (hus : (47 : UInt8) ∉ u.data.toList) {S : SM} (hI : Inv (nextM L) u L S) (name : ByteArray) : name ∈ S.fs.map (·.name) ↔ name ∈ listS L u := by
  obtain ⟨hg, nx, hnm, _, h2, _, k1, k2⟩ := store_facts hst
  rw [← lookF_iff]
  unfold listS
  rw [List.mem_map]
  constructor
  · intro h
    obtain ⟨f, hf⟩ := Option.isSome_iff_exists.1 h
    obtain ⟨w, _, hm, _⟩ := hI.a name f hf
    refine ⟨(folderK u name, w), List.mem_filter.2 ⟨hm, begins_folder u name⟩, ?_⟩
    exact (folderK_inj (behind_key (x := (folderK u name, w)) (begins_folder u name))).symm
  · rintro ⟨x, hx, rfl⟩
    rw [List.mem_filter] at hx
    have hk := behind_key hx.2
    have hsl : (47 : UInt8) ∉ (behind u x).data.toList := by
      have hp : splitL 47 x.1.data.toList = [102] :: u.data.toList :: splitL 47 (behind u x).data.toList := by
        have h1 : x.1.data.toList = [102] ++ 47 :: (u.data.toList ++ 47 :: (behind u x).data.toList) := by rw [behind_data hx.2, foldersK_data]; simp
        rw [h1, splitL_seg 47 [102] _ (by decide), splitL_seg 47 _ _ hus]
      rcases k2 x hx.1 with e | ⟨u2, ho, _⟩
      · rw [e] at hp; cases hp
      · unfold ownerM at ho
        rw [hp] at ho
        match hs : splitL 47 (behind u x).data.toList, ho with
        | [], ho => exact absurd hs (splitL_ne 47 _)
        | [b], ho => rw [(split_one hs).1]; exact (split_one hs).2
        | [_, _], ho => cases ho
        | _ :: _ :: _ :: _, ho => cases ho
    exact hI.b _ x.2 hsl (by rw [← hk]; exact hx.1)
theorem listS_up {L : List PM} {u : ByteArray} (hu : UpL L) : (listS L u).Pairwise ltK := by
  unfold listS
  rw [List.pairwise_map]
  have h1 : (L.filter fun x => beginsB x.1 (foldersK u)).Pairwise fun x y => ltK x.1 y.1 := List.Pairwise.filter _ hu
  refine List.Pairwise.imp_of_mem ?_ h1
  intro x y hx hy h
  rw [List.mem_filter] at hx hy
  unfold ltK at h ⊢
  rw [ByteArray.toList_eq, ByteArray.toList_eq] at h ⊢
  rw [behind_data hx.2, behind_data hy.2, bl_pre] at h
  exact h
theorem sort_eq {L : List PM} {u : ByteArray} (hst : storeB L = true) (hus : (47 : UInt8) ∉ u.data.toList) {S : SM} (hI : Inv (nextM L) u L S) (hn : (S.fs.map (·.name)).Nodup) {R : List ByteArray} (hR : R.Perm (S.fs.map (·.name))) :
    ((R.map (·.data.toList)).mergeSort fun x y => decide (x ≤ y)) = (listS L u).map (·.data.toList) := by
  have hup := listS_up (u := u) (store_facts hst).1.2.2
  have hnd : (listS L u).Nodup := hup.imp fun {a b} h e => by rw [e] at h; exact ltK_irrefl _ h
  have hp : R.Perm (listS L u) := hR.trans ((List.perm_ext_iff_of_nodup hn hnd).2 (folders_mem hst hus hI))
  refine List.Perm.eq_of_pairwise (le := fun a b => decide (a ≤ b) = true) ?_ (List.pairwise_mergeSort ?_ ?_ _) ?_ ((List.mergeSort_perm _ _).trans (hp.map _))
  · intro a b _ _ h1 h2
    exact List.le_antisymm (of_decide_eq_true h1) (of_decide_eq_true h2)
  · intro a b c h1 h2
    exact decide_eq_true (List.le_trans (of_decide_eq_true h1) (of_decide_eq_true h2))
  · intro a b
    rcases List.le_total a b with h | h
    · rw [decide_eq_true h]; rfl
    · rw [decide_eq_true h]; simp
  · rw [List.pairwise_map]
    refine hup.imp fun {a b} h => ?_
    unfold ltK at h
    rw [bl_eq, decide_eq_true_eq, ByteArray.toList_eq, ByteArray.toList_eq] at h
    exact decide_eq_true (List.le_of_lt h)
theorem none_left {L : List PM} {u : ByteArray} (hst : storeB L = true) (hus : (47 : UInt8) ∉ u.data.toList) (hno : getM L (userK u) = none) : listS L u = [] := by
  obtain ⟨hg, nx, hnm, _, h2, _, k1, k2⟩ := store_facts hst
  unfold listS
  rw [List.map_eq_nil_iff, List.filter_eq_nil_iff]
  intro x hx hb
  have hp : splitL 47 x.1.data.toList = [102] :: u.data.toList :: splitL 47 (behind u x).data.toList := by
    have h1 : x.1.data.toList = [102] ++ 47 :: (u.data.toList ++ 47 :: (behind u x).data.toList) := by rw [behind_data hb, foldersK_data]; simp
    rw [h1, splitL_seg 47 [102] _ (by decide), splitL_seg 47 _ _ hus]
  rcases k2 x hx with e | ⟨u2, ho, z, hz, ez⟩
  · rw [e] at hp; cases hp
  · unfold ownerM at ho
    rw [hp] at ho
    have hu2 : u = u2 := by
      match hs : splitL 47 (behind u x).data.toList, ho with
      | [], ho => exact absurd hs (splitL_ne 47 _)
      | [b], ho =>
        have h9 : some (bs u.data.toList) = some u2 := ho
        rw [data_bs] at h9
        exact Option.some.inj h9
      | [_, _], ho => cases ho
      | _ :: _ :: _ :: _, ho => cases ho
    rw [← hu2] at ez
    exact getM_none.1 hno z hz ez
def listG (L : List PM) (u : ByteArray) (b : Bool) : List ByteArray × Int := if b = true then (listS L u, 0) else ([], 15)
def flM (L : List PM) (u : ByteArray) : List ByteArray × Int := if askM L [u] = 0 then listG L u (getM L (userK u)).isSome else ([], askM L [u])
end Go.Proofs.YtddnecljdecamaaGreatDoor
namespace Go.Proofs.YtddnecljdecamaaGreatDoor
open Go.ChangeShapes Go.WideShapes Go.ChangeAt Go.RowKit Go.Deep Go.Lib
set_option linter.unusedVariables false
set_option linter.unusedSimpArgs false
set_option maxRecDepth 100000

theorem fs_len {L : List PM} {u : ByteArray} (hst : storeB L = true) (hus : (47 : UInt8) ∉ u.data.toList) {S : SM} (hI : Inv (nextM L) u L S) (hn : (S.fs.map (·.name)).Nodup) : S.fs.length ≤ 60 := by
  have hg := (store_facts hst).1
  have hup := listS_up (u := u) hg.2.2
  have hnd : (listS L u).Nodup := hup.imp fun {a b} h e => by rw [e] at h; exact ltK_irrefl _ h
  have hp := ((List.perm_ext_iff_of_nodup hn hnd).2 (folders_mem hst hus hI)).length_eq
  rw [List.length_map] at hp
  have h1 : (listS L u).length ≤ L.length := by unfold listS; rw [List.length_map]; exact List.length_filter_le _ _
  have h2 := hg.1
  omega
set_option maxHeartbeats 2000000 in
theorem implListFolders (a : Option Addr) (n c : Nat) (L : List PM) (u : ByteArray) (w : World) (hL : L.length = n) (hn : n ≤ 1048576) (hs : ∀ x ∈ L, x.1.size ≤ 1048576 ∧ x.2.size ≤ 1048576) (h : Src w a (cellsP L)) (hu : u.size ≤ 1048576) (hG : Gl w) (h8 : 8 ≤ w.heap.size) (T : List ByteArray) (Q : Int) (HQ : Hid (flM L u = (T, Q))) :
    Calls Tryz.prog 19 #[.slice a n c, .string u] w fun e w' => ∃ v, e = .returned (.tuple #[v, .int .i64 Q]) ∧ w'.ownsRow w.heap.size 9 1 v T.length (cellsS T) ∧ Below w.heap.size w w' := by
  have HLN : Hid (L.length = n) := hL
  have HS : Hid (Src w a (cellsP L)) := h
  have HG : Hid (Gl w) := hG
  have AL : Hid (Below w.heap.size w (w.alloc (.cells #[.string u] 9))) := (Below.refl _ _).alloc (Nat.le_refl _) _
  obtain ⟨q, hq⟩ : ∃ q, askM L [u] = q := ⟨_, rfl⟩
  have HQQ : Hid (askM L [u] = q) := hq
  have HQ1 : Hid ((if q = 0 then listG L u (getM L (userK u)).isSome else ([], q)) = (T, Q)) := by show _ = _; rw [← HQ.out]; unfold flM; rw [hq]
  have CA := mailFaultI a n c L (some ⟨w.heap.size, 0, none⟩) 1 1 [u] (w.alloc (.cells #[.string u] 9)) hL hn hs (HS.out.below AL.out) rfl (by omega) (fun s hs => by rw [List.mem_singleton.1 hs]; exact hu) (src_1S rfl) (hG.below h8 AL.out) (by have := AL.out.size; omega) q hq
  clear hL h hs hq HQ hG
  by_cases hq0 : q = 0
  · subst hq0
    obtain ⟨hst, hsh⟩ := ask_zero HQQ.out
    have hus := word_slash hsh
    have hu8 := short_size hsh
    have HQ2 : Hid (listG L u (getM L (userK u)).isSome = (T, Q)) := by have h9 := HQ1.out; rw [if_pos rfl] at h9; exact h9
    have HW : Hid (∀ S, takeAll (nextM L) u S0 L = some S → (S.fs.map (·.name)).Nodup → (∀ R : List ByteArray, R.Perm (S.fs.map (·.name)) → ((R.map (·.data.toList)).mergeSort fun x y => decide (x ≤ y)) = T.map (·.data.toList)) ∧ lackM S.word S.fs [] = Q ∧ S.fs.length ≤ 60) := fun S hS hnd => by
      obtain ⟨S', k1, k2, k3⟩ := take_all hst hus
      rw [hS] at k1
      cases k1
      have h9 := HQ2.out
      have hfl := fs_len hst hus k3 hnd
      unfold lackM
      rw [k2]
      cases hv : getM L (userK u) with
      | none =>
        rw [hv] at h9
        cases h9
        have h0 : (e0 : ByteArray).toList = [] := by rw [ByteArray.toList_eq]
        refine ⟨fun R hR => ?_, if_pos h0, hfl⟩
        rw [sort_eq hst hus k3 hnd hR, none_left hst hus hv]
      | some v =>
        rw [hv] at h9
        cases h9
        exact ⟨fun R hR => sort_eq hst hus k3 hnd hR, if_neg (word_some hst hus hv), hfl⟩
    have CD := fun W (hW : Below w.heap.size w W) => deskWithI a n c L u W HLN.out (HS.out.below hW) (HG.out.below h8 hW) (by have := hW.size; omega) hst hus (by omega)
    clear hst hsh HQ1
    go_enter Tryz.func19, Tryz.ntmps19
    go_wp2_with fail
    refine CA.mono ?_
    rintro e w3 ⟨rfl, hb3⟩
    have B3 : Hid (Below w.heap.size w w3) := AL.out.trans (hb3.mono AL.out.size)
    clear hb3 CA
    go_wp2_with fail
    refine (CD _ B3.out).mono ?_
    rintro e w4 ⟨M, S, rfl, hS, hSt, hM, hb4⟩
    have B4 : Hid (Below w.heap.size w w4) := B3.out.trans (hb4.mono B3.out.size)
    obtain ⟨k1, k2, k60⟩ := HW.out S hS (by obtain ⟨_, _, _, _, h9, _⟩ := hSt; exact h9)
    have CL := fun W (hW : Below w4.heap.size w4 W) => lacksI W M a n c _ u S n (hSt.later hW) (by omega) none 0 0 [] rfl (by omega) (fun s hs => by cases hs) (.inl rfl) Q k2
    obtain ⟨va, X, hD, hV, hSr⟩ := hSt
    have CN := namesI w4 M _ hD (by have h9 := congrArg List.length hV; rw [List.length_map, List.length_map] at h9; show X.length ≤ 60; omega)
    rw [leftN_view hV] at CN
    have HK : Hid (∀ R : List ByteArray, R.Perm (S.fs.map (·.name)) → ((R.map (·.data.toList)).mergeSort fun x y => decide (x ≤ y)) = T.map (·.data.toList)) := k1
    clear hb4 hS hD hV hSr k1 k2 k60 CD hM
    go_wp2_with fail
    refine CN.mono ?_
    rintro e w5 ⟨v5, rfl, ⟨R, hR, hown5⟩, hb5⟩
    have HO5 : Hid (w5.ownsRow w.heap.size 9 1 v5 T.length (cellsS T)) := by
      have h9 := HK.out R hR
      rw [h9] at hown5
      have h7 : R.length = T.length := by
        have h5 := congrArg List.length h9
        rw [List.length_mergeSort, List.length_map, List.length_map] at h5
        exact h5
      have h6 : (T.map (·.data.toList)).map encStr = cellsS T := by
        unfold cellsS
        rw [List.map_map]
        exact List.map_congr_left fun x _ => rfl
      rw [h7, h6] at hown5
      exact own_mono hown5 B4.out.size
    have B5 : Hid (Below w.heap.size w w5) := B4.out.trans (hb5.mono B4.out.size)
    have CL5 := CL w5 hb5
    clear hb5 hown5 hR CN CL
    go_wp2_with fail
    refine CL5.mono ?_
    rintro e w6 ⟨rfl, hb6⟩
    have HO6 : Hid (w6.ownsRow w.heap.size 9 1 v5 T.length (cellsS T)) := own_below HO5.out hb6
    have B6 : Hid (Below w.heap.size w w6) := B5.out.trans (hb6.mono B5.out.size)
    clear hb6 CL5
    go_wp2_with fail
    exact bodyPost_ret (v := .tuple #[v5, .int .i64 Q]) (by simp [results, Tryz.results19, go_sem]) rfl ⟨_, rfl, HO6.out, B6.out⟩
  · obtain ⟨rfl, rfl⟩ : ([] : List ByteArray) = T ∧ q = Q := by
      have h9 := HQ1.out
      rw [if_neg hq0] at h9
      cases h9
      exact ⟨rfl, rfl⟩
    have hqi : (q != 0) = true := by simpa using hq0
    go_enter Tryz.func19, Tryz.ntmps19
    go_wp2_with fail
    refine CA.mono ?_
    rintro e w3 ⟨rfl, hb3⟩
    have B3 : Hid (Below w.heap.size w w3) := AL.out.trans (hb3.mono AL.out.size)
    clear hb3 CA
    go_wp2_with fail
    exact bodyPost_ret (v := .tuple #[.slice none 0 0, .int .i64 q]) (by simp [results, Tryz.results19, go_sem]) rfl ⟨_, rfl, World.ownsRow_nil _ _ _ _, B3.out⟩
end Go.Proofs.YtddnecljdecamaaGreatDoor
