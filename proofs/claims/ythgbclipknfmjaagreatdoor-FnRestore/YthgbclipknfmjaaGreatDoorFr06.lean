/-
  Inum Msp Dsk Dsp in one. By an AI agent.
-/
import Derived.Test.YthgbclipknfmjaaGreatDoorFr05
import Derived.Lib.SmallJoins
import Derived.Deep.RegionHeld3
import Derived.Deep.Cut
import Derived.Deep.CutRange
namespace Go.Proofs.YthgbclipknfmjaaGreatDoor
open Go.ChangeShapes Go.WideShapes Go.ChangeAt Go.RowKit Go.Deep Go.Lib
set_option linter.unusedVariables false
set_option maxRecDepth 100000

/-- The variables of the library that are read: two errors, a number, a table of powers. -/
def Gl (w : World) : Prop :=
  (∃ ev, w.cell? ⟨2, 0, none⟩ = some ev ∧ (ev = .nilIface ∨ ∃ te pe, ev = .iface te pe)) ∧
  (∃ ev, w.cell? ⟨3, 0, none⟩ = some ev ∧ (ev = .nilIface ∨ ∃ te pe, ev = .iface te pe)) ∧
  (∃ m, w.cell? ⟨0, 0, none⟩ = some (.int .i64 m)) ∧
  TabIs Tryz.prog w "internal/strconv.uint64pow10" .u64 pow10Tab
theorem pow10_at : Tryz.prog.globalNamed "internal/strconv.uint64pow10" = some 1 := by kernel_rfl
theorem Gl.keep {w w' : World} (h : Gl w) (hb : ∀ k, k < 8 → w'.heap[k]? = w.heap[k]?) : Gl w' := by
  obtain ⟨⟨e1, h1, k1⟩, ⟨e2, h2, k2⟩, ⟨m, h3⟩, h4⟩ := h
  refine ⟨⟨e1, ?_, k1⟩, ⟨e2, ?_, k2⟩, ⟨m, ?_⟩, ?_⟩
  · rw [World.cell?_of_block (hb 2 (by omega))]; exact h1
  · rw [World.cell?_of_block (hb 3 (by omega))]; exact h2
  · rw [World.cell?_of_block (hb 0 (by omega))]; exact h3
  · unfold TabIs World.var? at h4 ⊢
    rw [pow10_at] at h4 ⊢
    simp only [Option.bind_some] at h4 ⊢
    rw [hb 1 (by omega)]
    exact h4
theorem Gl.below {w w' : World} {B : Nat} (h : Gl w) (hB : 8 ≤ B) (hb : Below B w w') : Gl w' := h.keep fun k hk => hb.block k (by omega)
theorem below_grow' (w : World) (k : Nat) (os : Array Obj) : Below w.heap.size w (Sort.grow (w.drewN k) os) :=
  ⟨by simp [Sort.grow, World.drewN], by simp [Sort.grow, World.drewN], by simp [Sort.grow, World.drewN], by simp [Sort.grow, World.drewN], fun j hj => by
    show (w.heap ++ os)[j]? = _
    rw [Array.getElem?_append_left hj]⟩
theorem atoi_range {t : List UInt8} {v : Int} (h : atoiAll t = .ok v) : -9223372036854775808 ≤ v ∧ v ≤ 9223372036854775807 := by
  unfold atoiAll at h
  split at h
  · cases h
  · dsimp only at h
    split at h
    · cases h
    · cases h
    · split at h
      · cases h
      · split at h
        · cases h
        · cases h
          split <;> omega
def NumPost (R : Option Int) (n : Int) : Prop := ∀ m, R = some m → n = m
theorem NumPost.none (n : Int) : NumPost none n := fun m h => by cases h
theorem below_bytes (w : World) (t : ByteArray) : Below w.heap.size w (Lib.bytesWorld w 5 t) := ⟨rfl, rfl, rfl, by rw [Lib.bytesWorld_size]; omega, fun j hj => Lib.bytesWorld_at_old w 5 _ j hj⟩
theorem trim_neg (t : ByteArray) (w : World) : ∃ q : ByteArray, q.data.toList = trimPrefix t.data.toList [45] ∧ Calls Tryz.prog 154 #[.string t, .string ⟨#[45]⟩] w fun e w' => e = .returned (.string q) ∧ w' = w :=
  ⟨_, rfl, Tryz.strings_TrimPrefix t ⟨#[45]⟩ w⟩
theorem trim_le (t : ByteArray) {q : ByteArray} (h : q.data.toList = trimPrefix t.data.toList [45]) : q.size ≤ t.size := by
  rw [← bytes_len q, ← bytes_len t, h]
  unfold trimPrefix
  split
  · rw [List.length_drop]; omega
  · exact Nat.le_refl _
theorem not_num_of {t : List UInt8} (h : ∀ n, ¬ NumIs t n) : numB t = none := by
  cases hn : numB t with
  | none => rfl
  | some n => exact absurd (is_of_num hn) (h n)
set_option maxHeartbeats 2000000 in
theorem readNumberI (t : ByteArray) (w : World) (ht : t.size ≤ 1048576) (hg : Gl w) (h8 : 8 ≤ w.heap.size) :
    Calls Tryz.prog 142 #[.string t] w fun e w' => ∃ n, e = .returned (.tuple #[.int .i64 n, .bool (numB t.data.toList).isSome]) ∧ NumPost (numB t.data.toList) n ∧ Below w.heap.size w w' := by
  obtain ⟨R, hR⟩ : ∃ R, numB t.data.toList = R := ⟨_, rfl⟩
  have HR : Hid (numB t.data.toList = R) := hR
  rw [hR]
  clear hR
  have HG : Hid (Gl w) := hg
  cases hat : atoiAll t.data.toList with
  | «syntax» =>
    obtain ⟨⟨ev, he1, he2⟩, _⟩ := hg
    have CA := Tryz.strconv_Atoi_syntax t (by omega) hat ev w he1 he2
    have HN : Hid (R = none) := by
      show _ = _
      rw [← HR.out]
      exact not_num_of fun n h9 => by rw [atoi_is h9] at hat; cases hat
    clear HR hat he1 he2
    go_enter Tryz.func142, Tryz.ntmps142
    go_wp2_with fail
    refine CA.mono ?_
    rintro e w1 ⟨N, rfl, _, _, hb1⟩
    have B1 : Hid (Below w.heap.size w w1) := hb1
    clear hb1 CA
    obtain ⟨q, hq, CT⟩ := trim_neg t w1
    have hqs := trim_le t hq
    clear hq
    go_wp2_with fail
    refine CT.mono ?_
    rintro e w2 ⟨rfl, hw2⟩
    obtain rfl := hw2
    go_wp2_with fail
    go_ret2
    exact ⟨_, by rw [HN.out]; rfl, by rw [HN.out]; exact NumPost.none _, B1.out⟩
  | range =>
    obtain ⟨_, ⟨ev, he1, he2⟩, _⟩ := hg
    have CA := Tryz.strconv_Atoi_range t (by omega) hat ev w he1 he2
    obtain ⟨z, hz⟩ : ∃ z, atoiSat t.data.toList = z := ⟨_, rfl⟩
    rw [hz] at CA
    have HN : Hid (R = none) := by
      show _ = _
      rw [← HR.out]
      exact not_num_of fun n h9 => by rw [atoi_is h9] at hat; cases hat
    clear HR hat he1 he2 hz
    go_enter Tryz.func142, Tryz.ntmps142
    go_wp2_with fail
    refine CA.mono ?_
    rintro e w1 ⟨N, rfl, _, _, hb1⟩
    have B1 : Hid (Below w.heap.size w w1) := hb1
    clear hb1 CA
    obtain ⟨q, hq, CT⟩ := trim_neg t w1
    have hqs := trim_le t hq
    clear hq
    go_wp2_with fail
    refine CT.mono ?_
    rintro e w2 ⟨rfl, hw2⟩
    obtain rfl := hw2
    go_wp2_with fail
    go_ret2
    exact ⟨_, by rw [HN.out]; rfl, by rw [HN.out]; exact NumPost.none _, B1.out⟩
  | ok v =>
    have CA := Tryz.strconv_Atoi_ok t (by omega) v hat w
    have hvr := atoi_range hat
    go_enter Tryz.func142, Tryz.ntmps142
    go_wp2_with fail
    refine CA.mono ?_
    rintro e w1 ⟨rfl, hw1⟩
    have B1 : Hid (Below w.heap.size w w1) := by
      rcases hw1 with rfl | ⟨t9, rfl⟩
      · exact Below.refl _ _
      · exact below_bytes w t9
    clear hw1 CA
    obtain ⟨q, hq, CT⟩ := trim_neg t w1
    have HQ : Hid (q.data.toList = trimPrefix t.data.toList [45]) := hq
    clear hq
    go_wp2_with fail
    refine CT.mono ?_
    rintro e w2 ⟨rfl, hw2⟩
    obtain rfl := hw2
    clear CT
    by_cases h18 : q.size ≤ 18
    · have h18i : (q.size : Int) ≤ 18 := by omega
      have G1 := HG.out.below h8 (B1.out.mono (Nat.le_refl _))
      have CI := Tryz.strconv_Itoa v hvr.1 hvr.2 w2 G1.2.2.2
      obtain ⟨I, hI⟩ : ∃ I : ByteArray, (⟨(itoa v).toArray⟩ : ByteArray) = I := ⟨_, rfl⟩
      rw [hI] at CI
      have HI : Hid ((⟨(itoa v).toArray⟩ : ByteArray) = I) := hI
      clear hI G1
      go_wp2_with fail
      refine CI.mono ?_
      rintro e w3 ⟨rfl, k, os, hw3⟩
      have B3 : Hid (Below w.heap.size w w3) := by
        rw [hw3]
        exact B1.out.trans ((below_grow' w2 k os).mono B1.out.size)
      clear hw3 CI
      by_cases heq : I = t
      · have HN : Hid (R = some v) := by
          show _ = _
          rw [← HR.out]
          have h1 : itoa v = t.data.toList := by rw [← heq, ← HI.out]
          refine num_of_is ⟨h1, (trim_is h1).1 ?_⟩
          rw [← HQ.out, bytes_len]
          exact h18
        have e1 : (I.toList == t.toList) = true := by rw [heq]; simp
        clear HR hat HI
        subst heq
        go_wp2_with fail
        go_ret2
        exact ⟨v, by rw [HN.out]; rfl, by rw [HN.out]; exact fun m h9 => by cases h9; rfl, B3.out⟩
      · have HN : Hid (R = none) := by
          show _ = _
          rw [← HR.out]
          refine not_num_of fun n h9 => ?_
          have h1 := atoi_is h9
          rw [hat] at h1
          cases h1
          apply heq
          rw [← HI.out]
          exact bs_inj h9.1
        have e1 : (I.toList == t.toList) = false := beq_eq_false_iff_ne.2 (fun h9 => heq (toList_inj h9))
        have e2 : ¬ I.toList = t.toList := fun h9 => heq (toList_inj h9)
        clear HR hat HI
        go_wp2_with fail
        go_ret2
        exact ⟨v, by rw [HN.out]; rfl, by rw [HN.out]; exact NumPost.none _, B3.out⟩
    · have h18i : ¬ (q.size : Int) ≤ 18 := by omega
      have HN : Hid (R = none) := by
        show _ = _
        rw [← HR.out]
        refine not_num_of fun n h9 => ?_
        have h1 := (trim_is h9.1).2 h9.2
        rw [← HQ.out, bytes_len] at h1
        exact h18 h1
      clear HR hat
      go_wp2_with fail
      go_ret2
      exact ⟨v, by rw [HN.out]; rfl, by rw [HN.out]; exact NumPost.none _, B1.out⟩
abbrev vK : ByteArray := ⟨#[118]⟩
abbrev inboxT : ByteArray := ⟨#[105, 110, 98, 111, 120]⟩
abbrev userK (u : ByteArray) : ByteArray := ⟨#[117, 47]⟩ ++ u
abbrev folderK (u f : ByteArray) : ByteArray := ((⟨#[102, 47]⟩ ++ u) ++ ⟨#[47]⟩) ++ f
def nextM (L : List PM) : Int := ((getM L vK).bind fun v => numB v.data.toList).getD 0
def metaN : Option Int → Option Int → Option (Int × Int)
  | some x, some y => if 1 ≤ x ∧ x ≤ 9999 ∧ 1 ≤ y ∧ y ≤ 999 then some (x, y) else none
  | _, _ => none
def metaL : List (List UInt8) → Option (Int × Int)
  | [a, b] => metaN (numB a) (numB b)
  | _ => none
def metaV (v : ByteArray) : Option (Int × Int) := metaL (splitL 32 v.data.toList)
def metaM (L : List PM) (u f : ByteArray) : Option (Int × Int) := (getM L (folderK u f)).bind metaV

theorem l07UserS (u : ByteArray) (w : World) (hu : u.size ≤ 1048576) : Calls Tryz.prog 106 #[.string u] w fun e w' => e = .returned (.string (userK u)) ∧ w' = w := by
  go_enter Tryz.func106, Tryz.ntmps106
  go_wp2_with fail
  go_ret
  exact ⟨rfl, rfl⟩
theorem l07FolderS (u f : ByteArray) (w : World) (hu : u.size ≤ 1048576) (hf : f.size ≤ 1048576) : Calls Tryz.prog 120 #[.string u, .string f] w fun e w' => e = .returned (.string (folderK u f)) ∧ w' = w := by
  go_enter Tryz.func120, Tryz.ntmps120
  go_wp2_with fail
  go_ret
  exact ⟨rfl, rfl⟩
set_option maxHeartbeats 1000000 in
theorem l07NextS (a : Option Addr) (n c : Nat) (L : List PM) (w : World) (hL : L.length = n) (hg : GoodL L) (h : Src w a (cellsP L)) :
    Calls Tryz.prog 63 #[.slice a n c] w fun e w' => e = .returned (.int .i64 (nextM L)) ∧ w' = w := by
  have CG := l01GetM a n c L vK w hL hg h
  have SZ := getM_size hg vK
  obtain ⟨R, hR⟩ : ∃ R, nextM L = R := ⟨_, rfl⟩
  have HR : Hid (nextM L = R) := hR
  rw [hR]
  clear hR h hg hL
  cases hm : getM L vK with
  | none =>
    rw [hm] at CG
    have H0 : Hid (R = 0) := by show _ = _; rw [← HR.out]; unfold nextM; rw [hm]; rfl
    have CN := l00NumberS e0 w (by unfold maxLen; decide)
    clear HR hm SZ
    go_enter Tryz.func63, Tryz.ntmps63
    go_wp2_with fail
    refine CG.mono ?_
    rintro e w1 ⟨rfl, rfl⟩
    go_wp2_with fail
    refine CN.mono ?_
    rintro e w2 ⟨rfl, rfl⟩
    go_wp2_with fail
    go_ret
    exact ⟨by rw [H0.out]; rfl, rfl⟩
  | some v =>
    rw [hm] at CG SZ
    have SZ2 : v.size ≤ 90 := SZ
    have CN := l00NumberS v w (by unfold maxLen; omega)
    have H0 : Hid (R = (numB v.data.toList).getD 0) := by show _ = _; rw [← HR.out]; unfold nextM; rw [hm]; rfl
    clear HR hm SZ
    cases hn : numB v.data.toList with
    | none =>
      rw [hn] at CN
      have H1 : Hid (R = 0) := by show _ = _; rw [H0.out, hn]; rfl
      clear hn H0
      go_enter Tryz.func63, Tryz.ntmps63
      go_wp2_with fail
      refine CG.mono ?_
      rintro e w1 ⟨rfl, rfl⟩
      go_wp2_with fail
      refine CN.mono ?_
      rintro e w2 ⟨rfl, rfl⟩
      go_wp2_with fail
      go_ret
      exact ⟨by rw [H1.out]; rfl, rfl⟩
    | some z =>
      rw [hn] at CN
      have H1 : Hid (R = z) := by show _ = _; rw [H0.out, hn]; rfl
      clear hn H0
      go_enter Tryz.func63, Tryz.ntmps63
      go_wp2_with fail
      refine CG.mono ?_
      rintro e w1 ⟨rfl, rfl⟩
      go_wp2_with fail
      refine CN.mono ?_
      rintro e w2 ⟨rfl, rfl⟩
      go_wp2_with fail
      go_ret
      exact ⟨by rw [H1.out]; rfl, rfl⟩
end Go.Proofs.YthgbclipknfmjaaGreatDoor
namespace Go.Proofs.YthgbclipknfmjaaGreatDoor
open Go.ChangeShapes Go.WideShapes Go.ChangeAt Go.RowKit Go.Deep Go.Lib
open Go.ChangeMaps (setBlock)
set_option linter.unusedVariables false
set_option linter.unusedSimpArgs false
set_option maxRecDepth 100000

/-- What lies on a desk. -/
structure DK where
  (a : Option Addr) (n c : Nat) (va : Value) (aside : List PM) (next : Int) (user word : ByteArray) (X : List FX)
abbrev cellsD (M : Nat) (D : DK) : List Value := [.slice D.a D.n D.c, D.va, .int .i64 D.next, .string D.user, .string D.word, .map (some M)]
def Rows (w : World) (M : Nat) (X : List FX) : Prop :=
  (∀ x ∈ X, w.ownsRow (M + 2) 37 3 x.v x.mails.length (cellsMl x.mails)) ∧ X.Pairwise (fun x y => ∀ g, x.v.ownBlock = some g → y.v.ownBlock ≠ some g)
def MapIs (w : World) (M clock : Nat) (X : List FX) : Prop :=
  w.heap[M]? = some (.map (X.map entX).toArray clock) ∧ (∀ x ∈ X, x.born < clock) ∧ (X.map (·.born)).Nodup
def DeskAt (w : World) (M : Nat) (D : DK) : Prop :=
  Box w (M + 1) (cellsD M D) ∧ (∃ clock, MapIs w M clock D.X) ∧ w.ownsRow (M + 2) 68 2 D.va D.aside.length (cellsP D.aside) ∧ Rows w M D.X
/-- A desk but for its folders' mails. -/
def DeskH (w : World) (M : Nat) (D : DK) : Prop :=
  Box w (M + 1) (cellsD M D) ∧ (∃ clock, MapIs w M clock D.X) ∧ w.ownsRow (M + 2) 68 2 D.va D.aside.length (cellsP D.aside)
theorem DeskAt.head {w : World} {M : Nat} {D : DK} (h : DeskAt w M D) : DeskH w M D := ⟨h.1, h.2.1, h.2.2.1⟩
theorem MapIs.later {w w' : World} {M clock : Nat} {X : List FX} (h : MapIs w M clock X) (hb : Below w.heap.size w w') : MapIs w' M clock X := by
  have hlt : M < w.heap.size := (Array.getElem?_eq_some_iff.1 h.1).1
  exact ⟨(hb.block M hlt).trans h.1, h.2⟩
theorem Rows.later {w w' : World} {M : Nat} {X : List FX} (h : Rows w M X) (hb : Below w.heap.size w w') : Rows w' M X := ⟨fun x hx => own_below (h.1 x hx) hb, h.2⟩
theorem DeskAt.later {w w' : World} {M : Nat} {D : DK} (h : DeskAt w M D) (hb : Below w.heap.size w w') : DeskAt w' M D := by
  obtain ⟨h1, ⟨c, h2⟩, h3, h4⟩ := h
  exact ⟨h1.below hb, ⟨c, h2.later hb⟩, own_below h3 hb, h4.later hb⟩
theorem DeskH.later {w w' : World} {M : Nat} {D : DK} (h : DeskH w M D) (hb : Below w.heap.size w w') : DeskH w' M D := by
  obtain ⟨h1, ⟨c, h2⟩, h3⟩ := h
  exact ⟨h1.below hb, ⟨c, h2.later hb⟩, own_below h3 hb⟩
theorem look_mem {k : ByteArray} {X : List FX} {x : FX} (h : lookX k X = some x) : x ∈ X := by
  obtain ⟨A, B, h1, _, _⟩ := lookX_some h
  rw [h1]; simp
theorem look_lit {w : World} {M : Nat} {X : List FX} (h : Rows w M X) (k : ByteArray) : ∃ s i j a n c, atX (lookX k X) = .agg #[.string s, .int .i64 i, .int .i64 j, .slice a n c] := by
  cases hl : lookX k X with
  | none => exact ⟨_, _, _, _, _, _, rfl⟩
  | some x =>
    obtain ⟨a, c, hv, _, _⟩ := own_src (h.1 x (look_mem hl))
    exact ⟨x.name, x.val, x.next, a, x.mails.length, c, by show valX x = _; unfold valX; rw [hv]⟩
theorem folderKeyI (u f : ByteArray) (w : World) (hu : u.size ≤ 1048576) (hf : f.size ≤ 1048576) : Calls Tryz.prog 79 #[.string u, .string f] w fun e w' => e = .returned (.string (folderK u f)) ∧ w' = w := by
  go_enter Tryz.func79, Tryz.ntmps79
  go_wp2_with fail
  go_ret
  exact ⟨rfl, rfl⟩
theorem userKeyI (u : ByteArray) (w : World) (hu : u.size ≤ 1048576) : Calls Tryz.prog 61 #[.string u] w fun e w' => e = .returned (.string (userK u)) ∧ w' = w := by
  go_enter Tryz.func61, Tryz.ntmps61
  go_wp2_with fail
  go_ret
  exact ⟨rfl, rfl⟩

set_option maxHeartbeats 2000000 in
theorem hasI (f : ByteArray) (w : World) (M : Nat) (D : DK) (hf : f.size ≤ 1048576) (hu : D.user.size ≤ 1048576) (hD : DeskAt w M D) (bb : Bool) (hbb : (lookX (folderK D.user f) D.X).isSome = bb) :
    Calls Tryz.prog 80 #[.pointer (some ⟨M + 1, 0, none⟩), .string f] w fun e w' => e = .returned (.bool bb) ∧ Below w.heap.size w w' := by
  have HD : Hid (DeskAt w M D) := hD
  obtain ⟨hbox, ⟨clock, hmap⟩, hasd, hrows⟩ := hD
  obtain ⟨p3, _⟩ := hbox 3 _ rfl
  obtain ⟨p5, _⟩ := hbox 5 _ rfl
  obtain ⟨s9, i9, j9, a9, n9, c9, hlit⟩ := look_lit hrows (folderK D.user f)
  have hm := hmap.1
  have HQ : Hid (∀ o : Obj, (w.alloc o).heap[M]? = some (.map (D.X.map entX).toArray clock) ∧ (w.alloc o).cell? ⟨M + 1, 3, none⟩ = some (.string D.user) ∧ (w.alloc o).cell? ⟨M + 1, 5, none⟩ = some (.map (some M))) := fun o => ⟨(Below.heap_alloc w _ M (Array.getElem?_eq_some_iff.1 hm).1).trans hm, cell_later ((Below.refl _ _).alloc (Nat.le_refl _) _) p3, cell_later ((Below.refl _ _).alloc (Nat.le_refl _) _) p5⟩
  have HA : Hid (∀ o : Obj, Below w.heap.size w (w.alloc o)) := fun o => (Below.refl _ _).alloc (Nat.le_refl _) _
  have HL : Hid (∀ W : World, W.heap[M]? = some (.map (D.X.map entX).toArray clock) → (Instr.lookup 86 (.map (some M)) (.string (folderK D.user f)) true).run Tryz.prog W = .ok (.tuple #[.agg #[.string s9, .int .i64 i9, .int .i64 j9, .slice a9 n9 c9], .bool bb]) W) := fun W h9 => by
    have := run_look h9 (folderK D.user f) true
    rw [hlit, hbb] at this
    exact this
  obtain ⟨K9, hK9⟩ : ∃ K, folderK D.user f = K := ⟨_, rfl⟩
  have CK := fun W => folderKeyI D.user f W hu hf
  rw [hK9] at HL
  simp only [hK9] at CK
  clear hbox hmap hasd hrows hlit hbb hK9
  go_enter Tryz.func80, Tryz.ntmps80
  go_wp2_with fail
  refine wp_region_noPanic ?_
  refine wp_region_held_drew (S := fun w' => w'.heap[M]? = some (.map (D.X.map entX).toArray clock) ∧ w'.cell? ⟨M + 1, 3, none⟩ = some (.string D.user) ∧ w'.cell? ⟨M + 1, 5, none⟩ = some (.map (some M))) (by kernel_rfl) ⟨hm, p3, p5⟩ (fun hHeld => ?_)
  refine tkA (i := 0) (v := .pointer (some ⟨M + 1, 0, none⟩)) ?_ hHeld ?_
  · intro w9 hSw
    obtain ⟨z0, z1, z2⟩ := hSw
    go_simp
  simp only [Act.put, List.setIfInBounds_toArray, List.set_cons_zero, List.set_cons_succ]
  refine tkA (i := 1) (v := .pointer (some ⟨M + 1, 0, none⟩)) ?_ hHeld ?_
  · intro w9 hSw
    obtain ⟨z0, z1, z2⟩ := hSw
    go_simp
  simp only [Act.put, List.setIfInBounds_toArray, List.set_cons_zero, List.set_cons_succ]
  refine tkA (i := 2) (v := .pointer (some ⟨M + 1, 5, none⟩)) ?_ hHeld ?_
  · intro w9 hSw
    obtain ⟨z0, z1, z2⟩ := hSw
    go_simp
  simp only [Act.put, List.setIfInBounds_toArray, List.set_cons_zero, List.set_cons_succ]
  refine tkA (i := 3) (v := .map (some M)) ?_ hHeld ?_
  · intro w9 hSw
    obtain ⟨z0, z1, z2⟩ := hSw
    go_simp
  simp only [Act.put, List.setIfInBounds_toArray, List.set_cons_zero, List.set_cons_succ]
  refine tkA (i := 4) (v := .pointer (some ⟨M + 1, 0, none⟩)) ?_ hHeld ?_
  · intro w9 hSw
    obtain ⟨z0, z1, z2⟩ := hSw
    go_simp
  simp only [Act.put, List.setIfInBounds_toArray, List.set_cons_zero, List.set_cons_succ]
  refine tkA (i := 5) (v := .pointer (some ⟨M + 1, 0, none⟩)) ?_ hHeld ?_
  · intro w9 hSw
    obtain ⟨z0, z1, z2⟩ := hSw
    go_simp
  simp only [Act.put, List.setIfInBounds_toArray, List.set_cons_zero, List.set_cons_succ]
  refine tkA (i := 6) (v := .pointer (some ⟨M + 1, 3, none⟩)) ?_ hHeld ?_
  · intro w9 hSw
    obtain ⟨z0, z1, z2⟩ := hSw
    go_simp
  simp only [Act.put, List.setIfInBounds_toArray, List.set_cons_zero, List.set_cons_succ]
  refine tkA (i := 7) (v := .string D.user) ?_ hHeld ?_
  · intro w9 hSw
    obtain ⟨z0, z1, z2⟩ := hSw
    go_simp
  simp only [Act.put, List.setIfInBounds_toArray, List.set_cons_zero, List.set_cons_succ]
  refine tkA (i := 8) (v := .string f) ?_ hHeld ?_
  · intro w9 hSw
    obtain ⟨z0, z1, z2⟩ := hSw
    go_simp
  simp only [Act.put, List.setIfInBounds_toArray, List.set_cons_zero, List.set_cons_succ]
  refine wpAnyH_ready (rs := [9, 14]) (by kernel_rfl) (by simp) ?_
  refine AllReadyH.cons rfl (fun K hK => ?_) (AllReadyH.cons rfl (fun K hK => ?_) AllReadyH.nil)
  · skip
    go_simp
    refine (CK _).mono ?_
    rintro e w1 ⟨rfl, hw1⟩
    obtain rfl := hw1
    dsimp only
    refine hK _ _ ⟨hm, p3, p5⟩ (fun hHeld => ?_)
    clear hK K
    refine tkA (i := 10) (v := .tuple #[.agg #[.string s9, .int .i64 i9, .int .i64 j9, .slice a9 n9 c9], .bool bb]) ?_ hHeld ?_
    · intro w9 hSw
      obtain ⟨z0, z1, z2⟩ := hSw
      have h9 := HL.out w9 z0
      go_simp
    simp only [Act.put, List.setIfInBounds_toArray, List.set_cons_zero, List.set_cons_succ]
    refine tkA (i := 11) (v := .tuple #[.agg #[.string s9, .int .i64 i9, .int .i64 j9, .slice a9 n9 c9], .bool bb]) ?_ hHeld ?_
    · intro w9 hSw
      obtain ⟨z0, z1, z2⟩ := hSw
      go_simp
    simp only [Act.put, List.setIfInBounds_toArray, List.set_cons_zero, List.set_cons_succ]
    refine tkA (i := 12) (v := .agg #[.string s9, .int .i64 i9, .int .i64 j9, .slice a9 n9 c9]) ?_ hHeld ?_
    · intro w9 hSw
      obtain ⟨z0, z1, z2⟩ := hSw
      go_simp
    simp only [Act.put, List.setIfInBounds_toArray, List.set_cons_zero, List.set_cons_succ]
    refine tkA (i := 13) (v := .bool bb) ?_ hHeld ?_
    · intro w9 hSw
      obtain ⟨z0, z1, z2⟩ := hSw
      go_simp
    simp only [Act.put, List.setIfInBounds_toArray, List.set_cons_zero, List.set_cons_succ]
    refine wpAnyH_ready (rs := [14]) (by kernel_rfl) (by simp) ?_
    refine AllReadyH.cons rfl (fun K hK => ?_) AllReadyH.nil
    go_simp
    refine hK _ _ (HQ.out _) (fun hHeld => ?_)
    clear hK K
    refine wpAnyH_ready (rs := [15]) (by kernel_rfl) (by simp) ?_
    refine AllReadyH.cons rfl (fun K hK => ?_) AllReadyH.nil
    go_simp
    refine hK _ _ (HQ.out _) (fun hHeld => ?_)
    clear hK K
    refine wpAnyH_ready (rs := [16]) (by kernel_rfl) (by simp) ?_
    refine AllReadyH.cons rfl (fun K hK => ?_) AllReadyH.nil
    go_simp
    refine hK _ _ (HQ.out _) (fun hHeld => ?_)
    clear hK K
    refine wpAnyH_done (by kernel_rfl) ?_ _
    refine NoPanic.normal ?_
    clear hHeld
    go_wp2_with fail
    go_ret
    exact ⟨rfl, (HA.out _).drew⟩
  · skip
    go_simp
    refine hK _ _ (HQ.out _) (fun hHeld => ?_)
    clear hK K
    refine wpAnyH_ready (rs := [9]) (by kernel_rfl) (by simp) ?_
    refine AllReadyH.cons rfl (fun K hK => ?_) AllReadyH.nil
    go_simp
    refine (CK _).mono ?_
    rintro e w1 ⟨rfl, hw1⟩
    obtain rfl := hw1
    dsimp only
    refine hK _ _ (HQ.out _) (fun hHeld => ?_)
    clear hK K
    refine tkA (i := 10) (v := .tuple #[.agg #[.string s9, .int .i64 i9, .int .i64 j9, .slice a9 n9 c9], .bool bb]) ?_ hHeld ?_
    · intro w9 hSw
      obtain ⟨z0, z1, z2⟩ := hSw
      have h9 := HL.out w9 z0
      go_simp
    simp only [Act.put, List.setIfInBounds_toArray, List.set_cons_zero, List.set_cons_succ]
    refine tkA (i := 11) (v := .tuple #[.agg #[.string s9, .int .i64 i9, .int .i64 j9, .slice a9 n9 c9], .bool bb]) ?_ hHeld ?_
    · intro w9 hSw
      obtain ⟨z0, z1, z2⟩ := hSw
      go_simp
    simp only [Act.put, List.setIfInBounds_toArray, List.set_cons_zero, List.set_cons_succ]
    refine tkA (i := 12) (v := .agg #[.string s9, .int .i64 i9, .int .i64 j9, .slice a9 n9 c9]) ?_ hHeld ?_
    · intro w9 hSw
      obtain ⟨z0, z1, z2⟩ := hSw
      go_simp
    simp only [Act.put, List.setIfInBounds_toArray, List.set_cons_zero, List.set_cons_succ]
    refine tkA (i := 13) (v := .bool bb) ?_ hHeld ?_
    · intro w9 hSw
      obtain ⟨z0, z1, z2⟩ := hSw
      go_simp
    simp only [Act.put, List.setIfInBounds_toArray, List.set_cons_zero, List.set_cons_succ]
    refine wpAnyH_ready (rs := [15]) (by kernel_rfl) (by simp) ?_
    refine AllReadyH.cons rfl (fun K hK => ?_) AllReadyH.nil
    go_simp
    refine hK _ _ (HQ.out _) (fun hHeld => ?_)
    clear hK K
    refine wpAnyH_ready (rs := [16]) (by kernel_rfl) (by simp) ?_
    refine AllReadyH.cons rfl (fun K hK => ?_) AllReadyH.nil
    go_simp
    refine hK _ _ (HQ.out _) (fun hHeld => ?_)
    clear hK K
    refine wpAnyH_done (by kernel_rfl) ?_ _
    refine NoPanic.normal ?_
    clear hHeld
    go_wp2_with fail
    go_ret
    exact ⟨rfl, (HA.out _).drew⟩
theorem sb_block (w : World) (M k : Nat) (o : Obj) (h : k ≠ M) : (setBlock w M o).heap[k]? = w.heap[k]? := by
  show (w.heap.setIfInBounds M o)[k]? = _
  rw [Array.getElem?_setIfInBounds]
  rw [if_neg (fun e => h e.symm)]
theorem sb_same (w : World) (M : Nat) (o : Obj) (h : M < w.heap.size) : (setBlock w M o).heap[M]? = some o := by
  show (w.heap.setIfInBounds M o)[M]? = _
  rw [Array.getElem?_setIfInBounds, if_pos rfl, if_pos h]
theorem sb_grown (w : World) (M : Nat) (o : Obj) : w.grownBy (setBlock w M o) (some M) :=
  ⟨rfl, rfl, rfl, by show w.heap.size ≤ (w.heap.setIfInBounds M o).size; simp, fun k _ hne => sb_block w M k o (fun e => hne (by rw [e]))⟩
theorem sb_below (w : World) (M : Nat) (o : Obj) : Below M w (setBlock w M o) :=
  ⟨rfl, rfl, rfl, by show w.heap.size ≤ (w.heap.setIfInBounds M o).size; simp, fun k hk => sb_block w M k o (by omega)⟩
theorem own_sb {w : World} {base e s n M : Nat} {v : Value} {xs : List Value} (h : w.ownsRow base e s v n xs) (o : Obj) (hM : M < base) : (setBlock w M o).ownsRow base e s v n xs := by
  obtain ⟨hl, h1 | ⟨g, cap, cur, hv, hb, hg, rest⟩⟩ := h
  · exact ⟨hl, .inl h1⟩
  · exact ⟨hl, .inr ⟨g, cap, cur, hv, hb, (sb_block w M g o (by omega)).trans hg, rest⟩⟩
theorem box_sb {w : World} {B M : Nat} {vs : List Value} (h : Box w B vs) (o : Obj) (hM : B ≠ M) : Box (setBlock w M o) B vs := fun i v hv => by
  obtain ⟨h1, h2⟩ := h i v hv
  have h3 := sb_block w M B o hM
  exact ⟨(World.cell?_of_block (a := ⟨B, i, none⟩) h3).trans h1, (World.frozen?_of_block (a := ⟨B, i, none⟩) h3).trans h2⟩
def setX (y : FX) (clock : Nat) : List FX → List FX
  | [] => [{ y with born := clock }]
  | x :: X => if x.k = y.k then { y with born := x.born } :: X else x :: setX y clock X
theorem setX_none (y : FX) (clock : Nat) : ∀ X : List FX, lookX y.k X = none → setX y clock X = X ++ [{ y with born := clock }]
  | [], _ => rfl
  | x :: X, h => by
    unfold lookX at h
    by_cases e : x.k = y.k
    · rw [if_pos e] at h; cases h
    · rw [if_neg e] at h
      rw [setX, if_neg e, setX_none y clock X h]
      rfl
theorem setX_some (y x : FX) (clock : Nat) (B : List FX) (hx : x.k = y.k) : ∀ A : List FX, (∀ z ∈ A, z.k ≠ y.k) → setX y clock (A ++ x :: B) = A ++ { y with born := x.born } :: B
  | [], _ => by rw [List.nil_append, setX, if_pos hx]; rfl
  | z :: A, h => by
    rw [List.cons_append, setX, if_neg (h z List.mem_cons_self), setX_some y x clock B hx A (fun u hu => h u (List.mem_cons_of_mem _ hu))]
    rfl
/-- A folder put into a map, at the operation. -/
theorem run_put {w : World} {M clock : Nat} {X : List FX} (h : MapIs w M clock X) (y : FX) :
    ∃ clock', (Instr.mapUpdate 86 (.map (some M)) (.string y.k) (valX y)).run Tryz.prog w = .ok () (setBlock w M (.map ((setX y clock X).map entX).toArray clock')) ∧
      MapIs (setBlock w M (.map ((setX y clock X).map entX).toArray clock')) M clock' (setX y clock X) := by
  obtain ⟨h1, h2, h3⟩ := h
  have hlt : M < w.heap.size := (Array.getElem?_eq_some_iff.1 h1).1
  cases hl : lookX y.k X with
  | none =>
    rw [setX_none y clock X hl]
    refine ⟨clock + 1, run_put_new h1 { y with born := clock } hl rfl, sb_same _ _ _ hlt, fun x hx => ?_, ?_⟩
    · rcases List.mem_append.1 hx with hx | hx
      · have := h2 x hx; omega
      · simp only [List.mem_singleton] at hx
        rw [hx]
        exact Nat.lt_succ_self clock
    · rw [List.map_append, List.nodup_append]
      refine ⟨h3, by simp, fun a ha b hb => ?_⟩
      obtain ⟨x, hx, rfl⟩ := List.mem_map.1 ha
      simp only [List.map_cons, List.map_nil, List.mem_singleton] at hb
      have := h2 x hx
      omega
  | some x =>
    obtain ⟨A, B, hX, hA, hx⟩ := lookX_some hl
    subst hX
    rw [setX_some y x clock B hx A hA]
    refine ⟨clock, run_put_old h1 { y with born := x.born } hA hx rfl, sb_same _ _ _ hlt, fun z hz => ?_, ?_⟩
    · rcases List.mem_append.1 hz with hz | hz
      · exact h2 z (List.mem_append_left _ hz)
      · rcases List.mem_cons.1 hz with rfl | hz
        · exact h2 x (by simp)
        · exact h2 z (by simp [hz])
    · have e1 : (A ++ { y with born := x.born } :: B).map (·.born) = (A ++ x :: B).map (·.born) := by simp
      rw [e1]
      exact h3

set_option maxHeartbeats 2000000 in
theorem atI (f : ByteArray) (w : World) (M : Nat) (D : DK) (hf : f.size ≤ 1048576) (hu : D.user.size ≤ 1048576) (hD : DeskAt w M D) :
    Calls Tryz.prog 38 #[.pointer (some ⟨M + 1, 0, none⟩), .string f] w fun e w' => e = .returned (atX (lookX (folderK D.user f) D.X)) ∧ Below w.heap.size w w' := by
  have HD : Hid (DeskAt w M D) := hD
  obtain ⟨hbox, ⟨clock, hmap⟩, hasd, hrows⟩ := hD
  obtain ⟨p3, _⟩ := hbox 3 _ rfl
  obtain ⟨p5, _⟩ := hbox 5 _ rfl
  obtain ⟨s9, i9, j9, a9, n9, c9, hlit⟩ := look_lit hrows (folderK D.user f)
  have hm := hmap.1
  have HQ : Hid (∀ o : Obj, (w.alloc o).heap[M]? = some (.map (D.X.map entX).toArray clock) ∧ (w.alloc o).cell? ⟨M + 1, 3, none⟩ = some (.string D.user) ∧ (w.alloc o).cell? ⟨M + 1, 5, none⟩ = some (.map (some M))) := fun o => ⟨(Below.heap_alloc w _ M (Array.getElem?_eq_some_iff.1 hm).1).trans hm, cell_later ((Below.refl _ _).alloc (Nat.le_refl _) _) p3, cell_later ((Below.refl _ _).alloc (Nat.le_refl _) _) p5⟩
  have HA : Hid (∀ o : Obj, Below w.heap.size w (w.alloc o)) := fun o => (Below.refl _ _).alloc (Nat.le_refl _) _
  have HL : Hid (∀ W : World, W.heap[M]? = some (.map (D.X.map entX).toArray clock) → (Instr.lookup 86 (.map (some M)) (.string (folderK D.user f)) false).run Tryz.prog W = .ok (.agg #[.string s9, .int .i64 i9, .int .i64 j9, .slice a9 n9 c9]) W) := fun W h9 => by
    have := run_look h9 (folderK D.user f) false
    rw [hlit] at this
    exact this
  rw [hlit]
  obtain ⟨K9, hK9⟩ : ∃ K, folderK D.user f = K := ⟨_, rfl⟩
  have CK := fun W => folderKeyI D.user f W hu hf
  rw [hK9] at HL
  simp only [hK9] at CK
  clear hbox hmap hasd hrows hlit hK9
  go_enter Tryz.func38, Tryz.ntmps38
  go_wp2_with fail
  refine wp_region_noPanic ?_
  refine wp_region_held_drew (S := fun w' => w'.heap[M]? = some (.map (D.X.map entX).toArray clock) ∧ w'.cell? ⟨M + 1, 3, none⟩ = some (.string D.user) ∧ w'.cell? ⟨M + 1, 5, none⟩ = some (.map (some M))) (by kernel_rfl) (HQ.out _) (fun hHeld => ?_)
  refine tkA (i := 0) (v := .pointer (some ⟨M + 1, 0, none⟩)) ?_ hHeld ?_
  · intro w9 hSw
    obtain ⟨z0, z1, z2⟩ := hSw
    go_simp
  simp only [Act.put, List.setIfInBounds_toArray, List.set_cons_zero, List.set_cons_succ]
  refine tkA (i := 1) (v := .pointer (some ⟨M + 1, 0, none⟩)) ?_ hHeld ?_
  · intro w9 hSw
    obtain ⟨z0, z1, z2⟩ := hSw
    go_simp
  simp only [Act.put, List.setIfInBounds_toArray, List.set_cons_zero, List.set_cons_succ]
  refine tkA (i := 2) (v := .pointer (some ⟨M + 1, 5, none⟩)) ?_ hHeld ?_
  · intro w9 hSw
    obtain ⟨z0, z1, z2⟩ := hSw
    go_simp
  simp only [Act.put, List.setIfInBounds_toArray, List.set_cons_zero, List.set_cons_succ]
  refine tkA (i := 3) (v := .map (some M)) ?_ hHeld ?_
  · intro w9 hSw
    obtain ⟨z0, z1, z2⟩ := hSw
    go_simp
  simp only [Act.put, List.setIfInBounds_toArray, List.set_cons_zero, List.set_cons_succ]
  refine tkA (i := 4) (v := .pointer (some ⟨M + 1, 0, none⟩)) ?_ hHeld ?_
  · intro w9 hSw
    obtain ⟨z0, z1, z2⟩ := hSw
    go_simp
  simp only [Act.put, List.setIfInBounds_toArray, List.set_cons_zero, List.set_cons_succ]
  refine tkA (i := 5) (v := .pointer (some ⟨M + 1, 0, none⟩)) ?_ hHeld ?_
  · intro w9 hSw
    obtain ⟨z0, z1, z2⟩ := hSw
    go_simp
  simp only [Act.put, List.setIfInBounds_toArray, List.set_cons_zero, List.set_cons_succ]
  refine tkA (i := 6) (v := .pointer (some ⟨M + 1, 3, none⟩)) ?_ hHeld ?_
  · intro w9 hSw
    obtain ⟨z0, z1, z2⟩ := hSw
    go_simp
  simp only [Act.put, List.setIfInBounds_toArray, List.set_cons_zero, List.set_cons_succ]
  refine tkA (i := 7) (v := .string D.user) ?_ hHeld ?_
  · intro w9 hSw
    obtain ⟨z0, z1, z2⟩ := hSw
    go_simp
  simp only [Act.put, List.setIfInBounds_toArray, List.set_cons_zero, List.set_cons_succ]
  refine tkA (i := 8) (v := .string f) ?_ hHeld ?_
  · intro w9 hSw
    obtain ⟨z0, z1, z2⟩ := hSw
    go_simp
  simp only [Act.put, List.setIfInBounds_toArray, List.set_cons_zero, List.set_cons_succ]
  refine wpAnyH_ready (rs := [9]) (by kernel_rfl) (by simp) ?_
  refine AllReadyH.cons rfl (fun K hK => ?_) AllReadyH.nil
  go_simp
  refine (CK _).mono ?_
  rintro e w1 ⟨rfl, hw1⟩
  obtain rfl := hw1
  dsimp only
  refine hK _ _ (HQ.out _) (fun hHeld => ?_)
  clear hK K
  refine tkA (i := 10) (v := .agg #[.string s9, .int .i64 i9, .int .i64 j9, .slice a9 n9 c9]) ?_ hHeld ?_
  · intro w9 hSw
    obtain ⟨z0, z1, z2⟩ := hSw
    have h9 := HL.out w9 z0
    go_simp
  simp only [Act.put, List.setIfInBounds_toArray, List.set_cons_zero, List.set_cons_succ]
  refine wpAnyH_ready (rs := [11]) (by kernel_rfl) (by simp) ?_
  refine AllReadyH.cons rfl (fun K hK => ?_) AllReadyH.nil
  go_simp
  refine hK _ _ (HQ.out _) (fun hHeld => ?_)
  clear hK K
  refine wpAnyH_done (by kernel_rfl) ?_ _
  refine NoPanic.normal ?_
  clear hHeld
  go_wp2_with fail
  refine bodyPost_ret (v := .agg #[.string s9, .int .i64 i9, .int .i64 j9, .slice a9 n9 c9]) (by simp [results, Tryz.results38, go_sem]) rfl ⟨rfl, (HA.out _).drew⟩

set_option maxHeartbeats 2000000 in
theorem putI (y : FX) (nm : ByteArray) (vl nx : Int) (ay : Option Addr) (ny cy : Nat) (w : World) (M : Nat) (D : DK) (hy : y = ⟨folderK D.user nm, 0, nm, vl, nx, .slice ay ny cy, y.mails⟩) (hf : nm.size ≤ 1048576) (hu : D.user.size ≤ 1048576) (hD : DeskH w M D) (hR : ∀ clock, Rows w M (setX y clock D.X)) :
    Calls Tryz.prog 43 #[.pointer (some ⟨M + 1, 0, none⟩), .agg #[.string nm, .int .i64 vl, .int .i64 nx, .slice ay ny cy]] w fun e w' => e = .returned (.tuple #[]) ∧ (∃ clock, DeskAt w' M { D with X := setX y clock D.X }) ∧ Below M w w' := by
  have HD : Hid (DeskH w M D) := hD
  obtain ⟨hbox, ⟨clock, hmap⟩, hasd⟩ := hD
  have AL : Below w.heap.size w (w.alloc (.cells #[.string nm, .int .i64 vl, .int .i64 nx, .slice ay ny cy] 28)) := (Below.refl _ _).alloc (Nat.le_refl _) _
  have HAL : Hid (Below w.heap.size w (w.alloc (.cells #[.string nm, .int .i64 vl, .int .i64 nx, .slice ay ny cy] 28))) := AL
  have D1 := HD.out.later AL
  have hlt : M < w.heap.size := (Array.getElem?_eq_some_iff.1 hmap.1).1
  have hlt1 : M + 1 < w.heap.size := World.block_lt_of_cell? _ _ (hbox 0 _ rfl).1
  have HLT : Hid (M < w.heap.size ∧ M + 1 < w.heap.size) := ⟨hlt, hlt1⟩
  obtain ⟨b1, _, a1⟩ := D1
  have m1 := (hmap.later AL)
  have Y0 : Box (w.alloc (.cells #[.string nm, .int .i64 vl, .int .i64 nx, .slice ay ny cy] 28)) w.heap.size [.string nm, .int .i64 vl, .int .i64 nx, .slice ay ny cy] := Box.new rfl
  obtain ⟨p3, _⟩ := b1 3 _ rfl
  obtain ⟨p5, _⟩ := b1 5 _ rfl
  obtain ⟨q0, _⟩ := Y0 0 _ rfl
  obtain ⟨q1, _⟩ := Y0 1 _ rfl
  obtain ⟨q2, _⟩ := Y0 2 _ rfl
  obtain ⟨q3, _⟩ := Y0 3 _ rfl
  obtain ⟨cl, hup, hmi⟩ := run_put (w := (w.alloc (.cells #[.string nm, .int .i64 vl, .int .i64 nx, .slice ay ny cy] 28)).drew) (M := M) (clock := clock) (X := D.X) m1 y
  have hyk : y.k = folderK D.user nm := by rw [hy]
  have hyv : valX y = .agg #[.string nm, .int .i64 vl, .int .i64 nx, .slice ay ny cy] := by rw [hy]
  rw [hyk, hyv] at hup
  obtain ⟨O, hO⟩ : ∃ O, (.map ((setX y clock D.X).map entX).toArray cl : Obj) = O := ⟨_, rfl⟩
  rw [hO] at hup hmi
  obtain ⟨K9, hK9⟩ : ∃ K, folderK D.user nm = K := ⟨_, rfl⟩
  have CK := fun W => folderKeyI D.user nm W hu hf
  rw [hK9] at hup
  simp only [hK9] at CK
  have HF : Hid (DeskAt (setBlock (w.alloc (.cells #[.string nm, .int .i64 vl, .int .i64 nx, .slice ay ny cy] 28)).drew M O) M { D with X := setX y clock D.X }) :=
    ⟨box_sb b1 O (by omega), ⟨cl, hmi⟩, own_sb a1 O (by omega), fun x hx => own_sb (own_below ((hR clock).1 x hx) AL) O (by omega), (hR clock).2⟩
  have HB : Hid (Below M w (setBlock (w.alloc (.cells #[.string nm, .int .i64 vl, .int .i64 nx, .slice ay ny cy] 28)).drew M O)) := (AL.mono (Nat.le_of_lt hlt)).drew.trans (sb_below _ M O)
  have HS : Hid ((setBlock (w.alloc (.cells #[.string nm, .int .i64 vl, .int .i64 nx, .slice ay ny cy] 28)).drew M O).cell? ⟨M + 1, 3, none⟩ = some (.string D.user) ∧ (setBlock (w.alloc (.cells #[.string nm, .int .i64 vl, .int .i64 nx, .slice ay ny cy] 28)).drew M O).cell? ⟨M + 1, 5, none⟩ = some (.map (some M)) ∧ (setBlock (w.alloc (.cells #[.string nm, .int .i64 vl, .int .i64 nx, .slice ay ny cy] 28)).drew M O).cell? ⟨w.heap.size, 0, none⟩ = some (.string nm) ∧ (setBlock (w.alloc (.cells #[.string nm, .int .i64 vl, .int .i64 nx, .slice ay ny cy] 28)).drew M O).cell? ⟨w.heap.size, 1, none⟩ = some (.int .i64 vl) ∧ (setBlock (w.alloc (.cells #[.string nm, .int .i64 vl, .int .i64 nx, .slice ay ny cy] 28)).drew M O).cell? ⟨w.heap.size, 2, none⟩ = some (.int .i64 nx) ∧ (setBlock (w.alloc (.cells #[.string nm, .int .i64 vl, .int .i64 nx, .slice ay ny cy] 28)).drew M O).cell? ⟨w.heap.size, 3, none⟩ = some (.slice ay ny cy)) := by
    have hx := box_sb (M := M) b1 O (by omega)
    have hz := box_sb (M := M) Y0 O (by omega)
    exact ⟨(hx 3 _ rfl).1, (hx 5 _ rfl).1, (hz 0 _ rfl).1, (hz 1 _ rfl).1, (hz 2 _ rfl).1, (hz 3 _ rfl).1⟩
  clear hbox hmap hasd AL b1 a1 m1 Y0 hmi hyk hyv hy hR hO hK9 HD
  go_enter Tryz.func43, Tryz.ntmps43
  go_wp2_with fail
  refine wp_region_noPanic ?_
  refine wp_region_held_drew (S := fun w' => w'.cell? ⟨M + 1, 3, none⟩ = some (.string D.user) ∧ w'.cell? ⟨M + 1, 5, none⟩ = some (.map (some M)) ∧ w'.cell? ⟨w.heap.size, 0, none⟩ = some (.string nm) ∧ w'.cell? ⟨w.heap.size, 1, none⟩ = some (.int .i64 vl) ∧ w'.cell? ⟨w.heap.size, 2, none⟩ = some (.int .i64 nx) ∧ w'.cell? ⟨w.heap.size, 3, none⟩ = some (.slice ay ny cy)) (by kernel_rfl) ⟨p3, p5, q0, q1, q2, q3⟩ (fun hHeld => ?_)
  refine tkA (i := 0) (v := .pointer (some ⟨M + 1, 0, none⟩)) ?_ hHeld ?_
  · intro w9 hSw
    obtain ⟨z0, z1, z2, z3, z4, z5⟩ := hSw
    go_simp
  simp only [Act.put, List.setIfInBounds_toArray, List.set_cons_zero, List.set_cons_succ]
  refine tkA (i := 1) (v := .pointer (some ⟨M + 1, 0, none⟩)) ?_ hHeld ?_
  · intro w9 hSw
    obtain ⟨z0, z1, z2, z3, z4, z5⟩ := hSw
    go_simp
  simp only [Act.put, List.setIfInBounds_toArray, List.set_cons_zero, List.set_cons_succ]
  refine tkA (i := 2) (v := .pointer (some ⟨M + 1, 5, none⟩)) ?_ hHeld ?_
  · intro w9 hSw
    obtain ⟨z0, z1, z2, z3, z4, z5⟩ := hSw
    go_simp
  simp only [Act.put, List.setIfInBounds_toArray, List.set_cons_zero, List.set_cons_succ]
  refine tkA (i := 3) (v := .map (some M)) ?_ hHeld ?_
  · intro w9 hSw
    obtain ⟨z0, z1, z2, z3, z4, z5⟩ := hSw
    go_simp
  simp only [Act.put, List.setIfInBounds_toArray, List.set_cons_zero, List.set_cons_succ]
  refine tkA (i := 4) (v := .pointer (some ⟨M + 1, 0, none⟩)) ?_ hHeld ?_
  · intro w9 hSw
    obtain ⟨z0, z1, z2, z3, z4, z5⟩ := hSw
    go_simp
  simp only [Act.put, List.setIfInBounds_toArray, List.set_cons_zero, List.set_cons_succ]
  refine tkA (i := 5) (v := .pointer (some ⟨M + 1, 0, none⟩)) ?_ hHeld ?_
  · intro w9 hSw
    obtain ⟨z0, z1, z2, z3, z4, z5⟩ := hSw
    go_simp
  simp only [Act.put, List.setIfInBounds_toArray, List.set_cons_zero, List.set_cons_succ]
  refine tkA (i := 6) (v := .pointer (some ⟨M + 1, 3, none⟩)) ?_ hHeld ?_
  · intro w9 hSw
    obtain ⟨z0, z1, z2, z3, z4, z5⟩ := hSw
    go_simp
  simp only [Act.put, List.setIfInBounds_toArray, List.set_cons_zero, List.set_cons_succ]
  refine tkA (i := 7) (v := .string D.user) ?_ hHeld ?_
  · intro w9 hSw
    obtain ⟨z0, z1, z2, z3, z4, z5⟩ := hSw
    go_simp
  simp only [Act.put, List.setIfInBounds_toArray, List.set_cons_zero, List.set_cons_succ]
  refine tkA (i := 8) (v := .pointer (some ⟨w.heap.size, 0, none⟩)) ?_ hHeld ?_
  · intro w9 hSw
    obtain ⟨z0, z1, z2, z3, z4, z5⟩ := hSw
    go_simp
  simp only [Act.put, List.setIfInBounds_toArray, List.set_cons_zero, List.set_cons_succ]
  refine tkA (i := 9) (v := .string nm) ?_ hHeld ?_
  · intro w9 hSw
    obtain ⟨z0, z1, z2, z3, z4, z5⟩ := hSw
    go_simp
  simp only [Act.put, List.setIfInBounds_toArray, List.set_cons_zero, List.set_cons_succ]
  refine tkA (i := 11) (v := .agg #[.string nm, .int .i64 vl, .int .i64 nx, .slice ay ny cy]) ?_ hHeld ?_
  · intro w9 hSw
    obtain ⟨z0, z1, z2, z3, z4, z5⟩ := hSw
    go_simp
  simp only [Act.put, List.setIfInBounds_toArray, List.set_cons_zero, List.set_cons_succ]
  refine wpAnyH_ready (rs := [10]) (by kernel_rfl) (by simp) ?_
  refine AllReadyH.cons rfl (fun K hK => ?_) AllReadyH.nil
  go_simp
  refine (CK _).mono ?_
  rintro e w1 ⟨rfl, hw1⟩
  obtain rfl := hw1
  dsimp only
  refine hK _ _ ⟨p3, p5, q0, q1, q2, q3⟩ (fun hHeld => ?_)
  clear hK K
  refine wpAnyH_ready (rs := [12]) (by kernel_rfl) (by simp) ?_
  refine AllReadyH.cons rfl (fun K hK => ?_) AllReadyH.nil
  go_simp
  refine hK _ _ HS.out (fun hHeld => ?_)
  clear hK K
  refine wpAnyH_done (by kernel_rfl) ?_ _
  refine NoPanic.normal ?_
  clear hHeld
  go_wp2_with fail
  go_end0
  exact ⟨rfl, ⟨clock, HF.out⟩, HB.out⟩
end Go.Proofs.YthgbclipknfmjaaGreatDoor
