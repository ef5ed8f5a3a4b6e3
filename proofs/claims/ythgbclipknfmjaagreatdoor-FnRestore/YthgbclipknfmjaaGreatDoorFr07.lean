/-
  Dskm Tkf Uidt in one. By an AI agent.
-/
import Derived.Test.YthgbclipknfmjaaGreatDoorFr06
namespace Go.Proofs.YthgbclipknfmjaaGreatDoor
open Go.ChangeShapes Go.WideShapes Go.ChangeAt Go.RowKit Go.Deep Go.Lib
open Go.ChangeMaps (setBlock)
set_option linter.unusedVariables false
set_option linter.unusedSimpArgs false
set_option maxRecDepth 100000

structure FM where
  (name : ByteArray) (val next : Int) (mails : List MMl)
abbrev fmX (x : FX) : FM := ⟨x.name, x.val, x.next, x.mails⟩
def View (u : ByteArray) (X : List FX) (fs : List FM) : Prop := X.map (fun x => (x.k, fmX x)) = fs.map fun f => (folderK u f.name, f)
def lookF (n : ByteArray) : List FM → Option FM
  | [] => none
  | f :: fs => if f.name = n then some f else lookF n fs
def putF (g : FM) : List FM → List FM
  | [] => [g]
  | f :: fs => if f.name = g.name then g :: fs else f :: putF g fs
theorem folderK_data (u f : ByteArray) : (folderK u f).data.toList = 102 :: 47 :: (u.data.toList ++ 47 :: f.data.toList) := by
  simp [folderK, ByteArray.data_append]
theorem folderK_inj {u a b : ByteArray} (h : folderK u a = folderK u b) : a = b := by
  have h1 := congrArg (fun x : ByteArray => x.data.toList) h
  simp only [folderK_data] at h1
  simp only [List.cons.injEq, true_and, List.append_cancel_left_eq] at h1
  exact bs_inj h1
theorem View.look {u : ByteArray} : ∀ {X : List FX} {fs : List FM}, View u X fs → ∀ n, (lookX (folderK u n) X).map fmX = lookF n fs
  | [], [], _, _ => rfl
  | [], _ :: _, h, _ => by cases h
  | _ :: _, [], h, _ => by cases h
  | x :: X, f :: fs, h, n => by
    unfold View at h
    simp only [List.map_cons, List.cons.injEq, Prod.mk.injEq] at h
    obtain ⟨⟨h1, h2⟩, h3⟩ := h
    have ih := View.look (u := u) (X := X) (fs := fs) h3 n
    unfold lookX lookF
    by_cases e : f.name = n
    · rw [if_pos e, if_pos (by rw [h1, e]), ← h2]
      rfl
    · rw [if_neg e, if_neg (fun e2 => e (folderK_inj (h1.symm.trans e2))), ih]
theorem View.put {u : ByteArray} {y : FX} (hy : y.k = folderK u y.name) (clock : Nat) : ∀ {X : List FX} {fs : List FM}, View u X fs → View u (setX y clock X) (putF (fmX y) fs)
  | [], [], _ => by
    unfold View
    simp only [setX, putF, List.map_cons, List.map_nil]
    rw [hy]
  | [], _ :: _, h => by cases h
  | _ :: _, [], h => by cases h
  | x :: X, f :: fs, h => by
    unfold View at h
    simp only [List.map_cons, List.cons.injEq, Prod.mk.injEq] at h
    obtain ⟨⟨h1, h2⟩, h3⟩ := h
    have ih := View.put (u := u) (y := y) hy clock (X := X) (fs := fs) h3
    unfold setX putF
    by_cases e : f.name = y.name
    · rw [if_pos (by rw [h1, hy, e]), if_pos e]
      unfold View
      simp only [List.map_cons]
      rw [h3, hy]
    · rw [if_neg (fun e2 => e (folderK_inj (h1.symm.trans (e2.trans hy)))), if_neg e]
      unfold View at ih ⊢
      simp only [List.map_cons]
      rw [ih, h1, h2]
theorem View.some {u : ByteArray} {X : List FX} {fs : List FM} (h : View u X fs) (n : ByteArray) (b : Bool) (hb : (lookF n fs).isSome = b) : (lookX (folderK u n) X).isSome = b := by
  rw [← hb, ← h.look n]
  cases lookX (folderK u n) X <;> rfl
theorem setX_mem {y z : FX} {clock : Nat} : ∀ {X : List FX}, z ∈ setX y clock X → z ∈ X ∨ (z.v = y.v ∧ z.mails = y.mails ∧ z.k = y.k)
  | [], h => by
    simp only [setX, List.mem_singleton] at h
    rw [h]; exact .inr ⟨rfl, rfl, rfl⟩
  | x :: X, h => by
    unfold setX at h
    by_cases e : x.k = y.k
    · rw [if_pos e] at h
      rcases List.mem_cons.1 h with rfl | h
      · exact .inr ⟨rfl, rfl, rfl⟩
      · exact .inl (List.mem_cons_of_mem _ h)
    · rw [if_neg e] at h
      rcases List.mem_cons.1 h with rfl | h
      · exact .inl List.mem_cons_self
      · rcases setX_mem h with h | h
        · exact .inl (List.mem_cons_of_mem _ h)
        · exact .inr h
theorem pair_set {y : FX} {clock : Nat} : ∀ {X : List FX}, X.Pairwise (fun x z => ∀ g, x.v.ownBlock = some g → z.v.ownBlock ≠ some g) → (X.map (·.k)).Nodup → (∀ x ∈ X, x.k ≠ y.k → ∀ g, x.v.ownBlock = some g → y.v.ownBlock ≠ some g) → (setX y clock X).Pairwise (fun x z => ∀ g, x.v.ownBlock = some g → z.v.ownBlock ≠ some g)
  | [], _, _, _ => List.pairwise_singleton _ _
  | x :: X, h, hN, hd => by
    obtain ⟨h1, h2⟩ := List.pairwise_cons.1 h
    rw [List.map_cons, List.nodup_cons] at hN
    unfold setX
    by_cases e : x.k = y.k
    · rw [if_pos e]
      refine List.pairwise_cons.2 ⟨fun z hz g h9 h8 => ?_, h2⟩
      have hzk : z.k ≠ y.k := fun e2 => hN.1 (List.mem_map.2 ⟨z, hz, e2.trans e.symm⟩)
      exact hd z (List.mem_cons_of_mem _ hz) hzk g h8 h9
    · rw [if_neg e]
      refine List.pairwise_cons.2 ⟨fun z hz g h9 h8 => ?_, pair_set h2 hN.2 (fun z hz => hd z (List.mem_cons_of_mem _ hz))⟩
      rcases setX_mem hz with hz | ⟨hv, _, _⟩
      · exact h1 z hz g h9 h8
      · rw [hv] at h8
        exact hd x List.mem_cons_self e g h9 h8
theorem rows_set {w : World} {M : Nat} {y : FX} {X : List FX} (hr : Rows w M X) (hy : w.ownsRow (M + 2) 37 3 y.v y.mails.length (cellsMl y.mails)) (hN : (X.map (·.k)).Nodup) (hd : ∀ x ∈ X, x.k ≠ y.k → ∀ g, x.v.ownBlock = some g → y.v.ownBlock ≠ some g) (clock : Nat) : Rows w M (setX y clock X) :=
  ⟨fun z hz => by
    rcases setX_mem hz with hz | ⟨hv, hm, _⟩
    · exact hr.1 z hz
    · rw [hv, hm]; exact hy, pair_set hr.2 hN hd⟩
/-- Folders with other names each, and right numbers. -/
def FsOK (fs : List FM) : Prop := (fs.map (·.name)).Nodup ∧ ∀ f ∈ fs, 1 ≤ f.next ∧ f.next ≤ 999 ∧ f.mails.length ≤ 1000
theorem View.keys {u : ByteArray} {X : List FX} {fs : List FM} (h : View u X fs) : X.map (·.k) = fs.map fun f => folderK u f.name := by
  have h1 := congrArg (List.map Prod.fst) h
  rw [List.map_map, List.map_map] at h1
  exact h1
theorem View.nodup {u : ByteArray} {X : List FX} {fs : List FM} (h : View u X fs) (hf : FsOK fs) : (X.map (·.k)).Nodup := by
  rw [h.keys]
  have h1 := hf.1
  rw [List.Nodup, List.pairwise_map] at h1 ⊢
  exact h1.imp fun hne e => hne (folderK_inj e)
theorem lookF_mem {n : ByteArray} {f : FM} : ∀ {fs : List FM}, lookF n fs = some f → f ∈ fs ∧ f.name = n
  | [], h => by cases h
  | g :: fs, h => by
    unfold lookF at h
    by_cases e : g.name = n
    · rw [if_pos e] at h
      cases h
      exact ⟨List.mem_cons_self, e⟩
    · rw [if_neg e] at h
      obtain ⟨h1, h2⟩ := lookF_mem h
      exact ⟨List.mem_cons_of_mem _ h1, h2⟩
theorem setX_keyed {y z : FX} {clock : Nat} : ∀ {X : List FX}, (X.map (·.k)).Nodup → z ∈ setX y clock X → z.k = y.k → z.v = y.v ∧ z.mails = y.mails
  | [], _, h, _ => by
    simp only [setX, List.mem_singleton] at h
    rw [h]; exact ⟨rfl, rfl⟩
  | x :: X, hN, h, hk => by
    rw [List.map_cons, List.nodup_cons] at hN
    unfold setX at h
    by_cases e : x.k = y.k
    · rw [if_pos e] at h
      rcases List.mem_cons.1 h with rfl | h
      · exact ⟨rfl, rfl⟩
      · exact absurd (List.mem_map.2 ⟨z, h, hk.trans e.symm⟩) hN.1
    · rw [if_neg e] at h
      rcases List.mem_cons.1 h with rfl | h
      · exact absurd hk e
      · exact setX_keyed hN.2 h hk
theorem rows_apart {w : World} {M : Nat} {X : List FX} {k : ByteArray} {x z : FX} (h : Rows w M X) (hx : lookX k X = some x) (hz : z ∈ X) (hzk : z.k ≠ k) : ∀ g, z.v.ownBlock = some g → x.v.ownBlock ≠ some g := by
  obtain ⟨A, B, hX, hA, hxk⟩ := lookX_some hx
  subst hX
  have hp := h.2
  rw [List.pairwise_append] at hp
  obtain ⟨_, h2, h3⟩ := hp
  rcases List.mem_append.1 hz with hz | hz
  · exact fun g h9 => h3 z hz x List.mem_cons_self g h9
  · rcases List.mem_cons.1 hz with rfl | hz
    · exact absurd hxk hzk
    · intro g h9 h7
      exact (List.pairwise_cons.1 h2).1 z hz g h7 h9
/-- Numbers between bounds. -/
def inB (R : Option Int) (lo hi : Int) : Bool := match R with
  | .some m => decide (lo ≤ m) && decide (m ≤ hi)
  | .none => false
set_option maxHeartbeats 1000000 in
theorem numberWithinI (t : ByteArray) (lo hi : Int) (w : World) (ht : t.size ≤ 1048576) (hg : Gl w) (h8 : 8 ≤ w.heap.size) (bb : Bool) (HB : Hid (inB (numB t.data.toList) lo hi = bb)) :
    Calls Tryz.prog 112 #[.string t, .int .i64 lo, .int .i64 hi] w fun e w' => ∃ n, e = .returned (.tuple #[.int .i64 n, .bool bb]) ∧ NumPost (numB t.data.toList) n ∧ Below w.heap.size w w' := by
  have CR := readNumberI t w ht hg h8
  obtain ⟨R, hR⟩ : ∃ R, numB t.data.toList = R := ⟨_, rfl⟩
  rw [hR] at CR HB ⊢
  clear hR hg
  cases R with
  | none =>
    have HZ : Hid (false = bb) := HB
    go_enter Tryz.func112, Tryz.ntmps112
    go_wp2_with fail
    refine CR.mono ?_
    rintro e w1 ⟨n, rfl, hn, hb1⟩
    have B1 : Hid (Below w.heap.size w w1) := hb1
    clear hb1
    dsimp only [Option.isSome]
    go_wp2_with fail
    go_ret2
    exact ⟨n, ret_num rfl HZ.out, hn, B1.out⟩
  | some m =>
    have HZ : Hid ((decide (lo ≤ m) && decide (m ≤ hi)) = bb) := HB
    by_cases h1 : lo ≤ m
    · by_cases h2 : m ≤ hi
      · have HY : Hid (true = bb) := by show _ = _; rw [← HZ.out, decide_eq_true h1, decide_eq_true h2]; rfl
        go_enter Tryz.func112, Tryz.ntmps112
        go_wp2_with fail
        refine CR.mono ?_
        rintro e w1 ⟨n, rfl, hn, hb1⟩
        have B1 : Hid (Below w.heap.size w w1) := hb1
        obtain rfl := hn m rfl
        clear hb1 hn HZ HB
        dsimp only [Option.isSome]
        go_wp2_with fail
        go_ret2
        exact ⟨n, ret_num rfl HY.out, fun m h9 => by cases h9; rfl, B1.out⟩
      · have HY : Hid (false = bb) := by show _ = _; rw [← HZ.out, decide_eq_true h1, decide_eq_false h2]; rfl
        go_enter Tryz.func112, Tryz.ntmps112
        go_wp2_with fail
        refine CR.mono ?_
        rintro e w1 ⟨n, rfl, hn, hb1⟩
        have B1 : Hid (Below w.heap.size w w1) := hb1
        obtain rfl := hn m rfl
        clear hb1 hn HZ HB
        dsimp only [Option.isSome]
        go_wp2_with fail
        go_ret2
        exact ⟨n, ret_num rfl (by rw [← HY.out]; exact decide_eq_false (by omega)), fun m h9 => by cases h9; rfl, B1.out⟩
    · have HY : Hid (false = bb) := by show _ = _; rw [← HZ.out, decide_eq_false h1]; rfl
      go_enter Tryz.func112, Tryz.ntmps112
      go_wp2_with fail
      refine CR.mono ?_
      rintro e w1 ⟨n, rfl, hn, hb1⟩
      have B1 : Hid (Below w.heap.size w w1) := hb1
      obtain rfl := hn m rfl
      clear hb1 hn HZ HB
      dsimp only [Option.isSome]
      go_wp2_with fail
      go_ret2
      exact ⟨n, ret_num rfl HY.out, fun m h9 => by cases h9; rfl, B1.out⟩
/-- What a folder's pair is taken as. -/
def folderN (nx : Int) (name : ByteArray) : Option Int → Option Int → Option FM
  | .some x, .some y => if shortB name = true ∧ 1 ≤ x ∧ x ≤ nx - 1 ∧ 1 ≤ y ∧ y ≤ 999 then some ⟨name, x, y, []⟩ else none
  | _, _ => none
def folderM (nx : Int) (name v : ByteArray) : Option FM := folderN nx name (numB (cut v.data.toList [32]).1) (numB (cut v.data.toList [32]).2.1)
theorem shortIs (b : Bool) (s : ByteArray) (w : World) (h : shortB s = b) (hs : s.size ≤ maxLen) : Calls Tryz.prog 127 #[.string s] w fun e w' => e = .returned (.bool b) ∧ w' = w := by
  rw [← h]; exact (shortName s w hs).mono fun e w' ⟨h1, h2⟩ => ⟨h1, h2.symm⟩
theorem cut_sizes (v : List UInt8) : (cut v [32]).1.length ≤ v.length ∧ (cut v [32]).2.1.length ≤ v.length := by
  unfold cut
  split
  · exact ⟨by rw [List.length_take]; omega, by rw [List.length_drop]; omega⟩
  · exact ⟨Nat.le_refl _, Nat.zero_le _⟩
/-- What is left of a desk behind a step: its map alone has turned. -/
def Taken (w' : World) (M : Nat) (D : DK) (fs : List FM) (o : Option FM) : Prop := ∀ f, o = some f → ∃ X', DeskAt w' M { D with X := X' } ∧ View D.user X' (putF f fs)
set_option maxHeartbeats 4000000 in
theorem takeFolderI (name v : ByteArray) (w : World) (M : Nat) (D : DK) (fs : List FM) (hD : DeskAt w M D) (hV : View D.user D.X fs) (hF : FsOK fs) (hg : Gl w) (h8 : 8 ≤ M) (hn : name.size ≤ 1000) (hv : v.size ≤ 90) (hu : D.user.size ≤ 1000) (hnx : 1 ≤ D.next ∧ D.next ≤ 10000) (bb : Bool) (HB : Hid ((folderM D.next name v).isSome = bb)) :
    Calls Tryz.prog 146 #[.pointer (some ⟨M + 1, 0, none⟩), .string name, .string v] w fun e w' => e = .returned (.bool bb) ∧ Taken w' M D fs (folderM D.next name v) ∧ Below M w w' := by
  have HD : Hid (DeskAt w M D) := hD
  have HV : Hid (View D.user D.X fs ∧ FsOK fs) := ⟨hV, hF⟩
  have HG : Hid (Gl w) := hg
  obtain ⟨m, hm⟩ := hg.2.2.1
  have CC := Tryz.strings_Cut v ⟨#[32]⟩ m w (by omega) hm
  obtain ⟨hz1, hz2⟩ := cut_sizes v.data.toList
  rw [bytes_len] at hz1 hz2
  obtain ⟨c1, hc1⟩ : ∃ l, (cut v.data.toList [32]).1 = l := ⟨_, rfl⟩
  obtain ⟨c2, hc2⟩ : ∃ l, (cut v.data.toList [32]).2.1 = l := ⟨_, rfl⟩
  obtain ⟨c3, hc3⟩ : ∃ l, (cut v.data.toList [32]).2.2 = l := ⟨_, rfl⟩
  have CC2 : Calls Tryz.prog 151 #[.string v, .string ⟨#[32]⟩] w fun e w' => e = .returned (.tuple #[.string (bs c1), .string (bs c2), .bool c3]) ∧ ∃ n, w' = w.drewN n := by
    rw [← hc1, ← hc2, ← hc3]; exact CC
  rw [hc1] at hz1
  rw [hc2] at hz2
  have hs1 : (bs c1).size ≤ 90 := by have : (bs c1).size = c1.length := rfl; omega
  have hs2 : (bs c2).size ≤ 90 := by have : (bs c2).size = c2.length := rfl; omega
  obtain ⟨R1, hR1⟩ : ∃ R, numB c1 = R := ⟨_, rfl⟩
  obtain ⟨R2, hR2⟩ : ∃ R, numB c2 = R := ⟨_, rfl⟩
  obtain ⟨F, hFm⟩ : ∃ F, folderM D.next name v = F := ⟨_, rfl⟩
  have HFM : Hid (F = folderN D.next name R1 R2) := by
    show _ = _
    rw [← hFm, ← hR1, ← hR2, ← hc1, ← hc2]
    rfl
  rw [hFm] at HB ⊢
  have N1 : ∀ W b, Gl W → 8 ≤ W.heap.size → inB R1 1 (D.next - 1) = b → Calls Tryz.prog 112 #[.string (bs c1), .int .i64 1, .int .i64 (D.next - 1)] W fun e w' => ∃ n, e = .returned (.tuple #[.int .i64 n, .bool b]) ∧ NumPost R1 n ∧ Below W.heap.size W w' := fun W b hg h9 hb => by
    have := numberWithinI (bs c1) 1 (D.next - 1) W (by omega) hg h9 b (by show inB (numB c1) _ _ = b; rw [hR1]; exact hb)
    rw [show numB (bs c1).data.toList = R1 from hR1] at this
    exact this
  have N2 : ∀ W b, Gl W → 8 ≤ W.heap.size → inB R2 1 999 = b → Calls Tryz.prog 112 #[.string (bs c2), .int .i64 1, .int .i64 999] W fun e w' => ∃ n, e = .returned (.tuple #[.int .i64 n, .bool b]) ∧ NumPost R2 n ∧ Below W.heap.size W w' := fun W b hg h9 hb => by
    have := numberWithinI (bs c2) 1 999 W (by omega) hg h9 b (by show inB (numB c2) _ _ = b; rw [hR2]; exact hb)
    rw [show numB (bs c2).data.toList = R2 from hR2] at this
    exact this
  obtain ⟨t1, ht1⟩ : ∃ t, bs c1 = t := ⟨_, rfl⟩
  obtain ⟨t2, ht2⟩ : ∃ t, bs c2 = t := ⟨_, rfl⟩
  rw [ht1] at N1
  rw [ht2] at N2
  rw [ht1, ht2] at CC2
  obtain ⟨b1, hb1⟩ : ∃ b, inB R1 1 (D.next - 1) = b := ⟨_, rfl⟩
  obtain ⟨b2, hb2⟩ : ∃ b, inB R2 1 999 = b := ⟨_, rfl⟩
  obtain ⟨b3, hb3⟩ : ∃ b, shortB name = b := ⟨_, rfl⟩
  have hM1 : M + 1 < w.heap.size := World.block_lt_of_cell? _ _ (hD.1 0 _ rfl).1
  have hans : (b3 && b1 && b2) = bb := by
    rw [← HB.out, HFM.out, ← hb1, ← hb2, ← hb3]
    cases R1 with
    | none => simp [inB, folderN]
    | some x =>
      cases R2 with
      | none => simp [inB, folderN]
      | some y =>
        simp only [inB, folderN]
        rw [Bool.eq_iff_iff]
        by_cases h9 : shortB name = true ∧ 1 ≤ x ∧ x ≤ D.next - 1 ∧ 1 ≤ y ∧ y ≤ 999
        · rw [if_pos h9]
          simp [h9]
        · rw [if_neg h9]
          simp only [Option.isSome_none, Bool.false_eq_true, iff_false, Bool.and_eq_true, decide_eq_true_eq]
          exact fun h8 => h9 ⟨h8.1.1, h8.1.2.1, h8.1.2.2, h8.2.1, h8.2.2⟩
  have HA : Hid ((b3 && b1 && b2) = bb) := hans
  have HN : Hid (1 ≤ D.next ∧ D.next ≤ 10000) := hnx
  have hnx1 : 1 ≤ D.next := hnx.1
  have hnx2 : D.next ≤ 10000 := hnx.2
  clear hc1 hc2 hc3 CC hz1 hz2 hR1 hR2 hFm ht1 ht2 hs1 hs2 hans hnx hm hg hD hV hF HB
  go_enter Tryz.func146, Tryz.ntmps146
  go_wp2_with fail
  refine CC2.mono ?_
  rintro e w1 ⟨rfl, dn, hw1⟩
  have L1 : Below w.heap.size w w1 := by rw [hw1]; exact Below.drewN' (Below.refl _ _) _
  have D1 : Hid (DeskAt w1 M D) := HD.out.later L1
  have B1 : Hid (Below w.heap.size w w1) := L1
  obtain ⟨p2, _⟩ := D1.out.1 2 _ rfl
  clear hw1 L1 CC2
  go_wp2_with fail
  refine (N1 _ b1 (HG.out.below h8 (B1.out.mono (by omega))) (by have := B1.out.size; omega) hb1).mono ?_
  rintro e w2 ⟨x, rfl, hx, hb2'⟩
  have HX : Hid (NumPost R1 x) := hx
  have D2 : Hid (DeskAt w2 M D) := D1.out.later hb2'
  have B2 : Hid (Below w.heap.size w w2) := B1.out.trans (hb2'.mono B1.out.size)
  clear hb2' hx p2 D1 B1
  go_wp2_with fail
  refine (N2 _ b2 (HG.out.below h8 (B2.out.mono (by omega))) (by have := B2.out.size; omega) hb2).mono ?_
  rintro e w3 ⟨y, rfl, hy, hb3'⟩
  have HY : Hid (NumPost R2 y) := hy
  have D3 : Hid (DeskAt w3 M D) := D2.out.later hb3'
  have B3 : Hid (Below w.heap.size w w3) := B2.out.trans (hb3'.mono B2.out.size)
  clear hb3' hy D2 B2
  go_wp2_with fail
  refine (putI ⟨folderK D.user name, 0, name, x, y, .slice none 0 0, []⟩ name x y none 0 0 _ M D rfl (by omega) (by omega) D3.out.head (fun clock => rows_set D3.out.2.2.2 (World.ownsRow_nil _ _ _ _) (HV.out.1.nodup HV.out.2) (fun x' _ _ g _ h9 => by cases h9) clock)).mono ?_
  rintro e w4 ⟨rfl, hd4, hb4⟩
  have B4 : Hid (Below M w w4) := (B3.out.mono (by omega)).trans hb4
  have HT : Hid (Taken w4 M D fs F) := by
    intro f hf
    obtain ⟨clock, hd⟩ := hd4
    refine ⟨_, hd, ?_⟩
    have h9 := HFM.out
    rw [hf] at h9
    cases R1 with
    | none => cases h9
    | some x1 =>
      cases R2 with
      | none => cases h9
      | some y1 =>
        simp only [folderN] at h9
        obtain rfl := HX.out x1 rfl
        obtain rfl := HY.out y1 rfl
        split at h9
        · cases h9
          exact HV.out.1.put (y := ⟨folderK D.user name, 0, name, x, y, .slice none 0 0, []⟩) rfl clock
        · cases h9
  clear hd4 hb4 D3 B3
  go_wp2_with fail
  refine (shortIs b3 name _ hb3 (by unfold maxLen; omega)).mono ?_
  rintro e w5 ⟨rfl, hw5⟩
  obtain rfl := hw5
  cases b3 <;> cases b1 <;> (go_wp2_with fail; go_ret; exact ⟨ret_bool HA.out, HT.out, B4.out⟩)
end Go.Proofs.YthgbclipknfmjaaGreatDoor
namespace Go.Proofs.YthgbclipknfmjaaGreatDoor
open Go.ChangeShapes Go.WideShapes Go.ChangeAt Go.RowKit Go.Deep Go.Lib
set_option linter.unusedVariables false
set_option maxRecDepth 100000

theorem dec4 (x y z : Nat) (hx : x < 10) (hy : y < 10) (hz : z < 10) : decDigits (1000 + (x * 100 + y * 10 + z)) = [49, UInt8.ofNat (48 + x), UInt8.ofNat (48 + y), UInt8.ofNat (48 + z)] := by
  rw [decDigits, dif_neg (by omega), decDigits, dif_neg (by omega), decDigits, dif_neg (by omega), decDigits, dif_pos (by omega)]
  have e1 : (1000 + (x * 100 + y * 10 + z)) % 10 = z := by omega
  have e2 : (1000 + (x * 100 + y * 10 + z)) / 10 % 10 = y := by omega
  have e3 : (1000 + (x * 100 + y * 10 + z)) / 10 / 10 % 10 = x := by omega
  have e4 : (1000 + (x * 100 + y * 10 + z)) / 10 / 10 / 10 = 1 := by omega
  rw [e1, e2, e3, e4]
  rfl
def d3 (u : Nat) : List UInt8 := (decDigits (1000 + u)).drop 1
theorem split3 (u : Nat) (h : u < 1000) : ∃ x y z, x < 10 ∧ y < 10 ∧ z < 10 ∧ u = x * 100 + y * 10 + z := ⟨u / 100, u / 10 % 10, u % 10, by omega, by omega, by omega, by omega⟩
theorem d3_is (u : Nat) (h : u < 1000) : (d3 u).length = 3 ∧ decFrom 0 (d3 u) = some u := by
  obtain ⟨x, y, z, hx, hy, hz, rfl⟩ := split3 u h
  unfold d3
  rw [dec4 x y z hx hy hz]
  refine ⟨rfl, ?_⟩
  simp only [List.drop_succ_cons, List.drop_zero, decFrom, digitVal_of x hx, digitVal_of y hy, digitVal_of z hz]
  congr 1
  omega
theorem d3_back {d : List UInt8} {u : Nat} (hl : d.length = 3) (h : decFrom 0 d = some u) : u < 1000 ∧ d = d3 u := by
  match d, hl with
  | [a, b, c], _ =>
    simp only [decFrom] at h
    cases ha : digitVal a with
    | none => rw [ha] at h; cases h
    | some x =>
      rw [ha] at h
      cases hb : digitVal b with
      | none => rw [hb] at h; cases h
      | some y =>
        rw [hb] at h
        cases hc : digitVal c with
        | none => rw [hc] at h; cases h
        | some z =>
          rw [hc] at h
          obtain ⟨h1, e1⟩ := digitVal_back ha
          obtain ⟨h2, e2⟩ := digitVal_back hb
          obtain ⟨h3, e3⟩ := digitVal_back hc
          simp only [Option.some.injEq] at h
          have hu : u = x * 100 + y * 10 + z := by omega
          refine ⟨by omega, ?_⟩
          unfold d3
          rw [hu, dec4 x y z h1 h2 h3, e1, e2, e3]
          rfl
theorem atoi3 {d : List UInt8} {u : Nat} (hl : d.length = 3) (h : decFrom 0 d = some u) : atoiAll d = .ok (u : Int) := by
  have hu := (d3_back hl h).1
  have hp := parse_dec _ _ _ h (by omega)
  match d, hl with
  | c :: r, hl2 =>
    have hc : ¬ (c.toNat = 43 ∨ c.toNat = 45) := by
      simp only [decFrom] at h
      cases hb : digitVal c with
      | none => rw [hb] at h; cases h
      | some x =>
        unfold digitVal at hb
        split at hb
        · omega
        · cases hb
    have hc2 : ¬ c.toNat = 45 := fun h9 => hc (.inr h9)
    unfold atoiAll
    have e4 : parseMag (c :: r) = .ok u := by unfold parseMag; rw [if_neg (by simp), hp]
    have hif : (if c.toNat = 43 ∨ c.toNat = 45 then r else c :: r) = c :: r := if_neg hc
    simp only [hif, e4]
    rw [if_neg (by omega), if_neg (by omega), if_neg hc2]
set_option maxHeartbeats 1000000 in
theorem uidTextI (u : Nat) (hu : u < 1000) (w : World) (hg : Gl w) : Calls Tryz.prog 155 #[.int .i64 (u : Int)] w fun e w' => e = .returned (.string (bs (d3 u))) ∧ Below w.heap.size w w' := by
  have CI := Tryz.strconv_Itoa (1000 + (u : Int)) (by omega) (by omega) w hg.2.2.2
  have h1 : itoa (1000 + (u : Int)) = decDigits (1000 + u) := by
    unfold itoa
    rw [if_neg (by omega)]
    congr 1
  rw [h1] at CI
  obtain ⟨I, hI⟩ : ∃ I : ByteArray, (⟨(decDigits (1000 + u)).toArray⟩ : ByteArray) = I := ⟨_, rfl⟩
  rw [hI] at CI
  have hIs : I.size = 4 := by
    obtain ⟨x, y, z, hx, hy, hz, rfl⟩ := split3 u hu
    rw [← hI, dec4 x y z hx hy hz]
    rfl
  have HE : Hid (I.extract 1 I.size = bs (d3 u)) := by
    show _ = _
    refine bs_inj ?_
    rw [ext_data I 1 I.size (Nat.le_refl _), ← hI, List.take_of_length_le (by simp [ByteArray.size])]
    rfl
  have hi1 : (1 : Int) ≤ (I.size : Int) := by omega
  rw [hIs] at HE
  clear h1 hI
  go_enter Tryz.func155, Tryz.ntmps155
  go_wp2_with fail
  refine CI.mono ?_
  rintro e w1 ⟨rfl, k, os, hw1⟩
  have B1 : Hid (Below w.heap.size w w1) := by rw [hw1]; exact below_grow' w k os
  clear hw1 CI
  go_wp2_with fail
  go_ret
  exact ⟨by rw [← HE.out]; rfl, B1.out⟩
/-- The library's Atoi, whatever comes. -/
theorem atoiI (t : ByteArray) (w : World) (ht : t.size ≤ 1048576) (hg : Gl w) : Calls Tryz.prog 168 #[.string t] w fun e w' => ∃ n er, e = .returned (.tuple #[.int .i64 n, er]) ∧ (∀ v, atoiAll t.data.toList = .ok v → n = v) ∧ Below w.heap.size w w' := by
  obtain ⟨⟨ev, he1, he2⟩, ⟨ev', hr1, hr2⟩, _⟩ := hg
  cases hat : atoiAll t.data.toList with
  | «syntax» =>
    exact (Tryz.strconv_Atoi_syntax t (by omega) hat ev w he1 he2).mono fun e w' ⟨N, h1, _, _, hb⟩ => ⟨_, _, h1, (fun v h9 => by cases h9), hb⟩
  | range =>
    exact (Tryz.strconv_Atoi_range t (by omega) hat ev' w hr1 hr2).mono fun e w' ⟨N, h1, _, _, hb⟩ => ⟨_, _, h1, (fun v h9 => by cases h9), hb⟩
  | ok v =>
    refine (Tryz.strconv_Atoi_ok t (by omega) v hat w).mono ?_
    rintro e w' ⟨h1, hw⟩
    refine ⟨v, _, h1, (fun v2 h9 => by cases h9; rfl), ?_⟩
    rcases hw with rfl | ⟨t9, rfl⟩
    · exact Below.refl _ _
    · exact below_bytes w t9
theorem flagsIs (b : Bool) (f : Int) (w : World) (h : (decide (0 ≤ f) && decide (f ≤ 3)) = b) : Calls Tryz.prog 45 #[.int .i64 f] w fun e w' => e = .returned (.bool b) ∧ w' = w := by
  have HB : Hid ((decide (0 ≤ f) && decide (f ≤ 3)) = b) := h
  clear h
  go_enter Tryz.func45, Tryz.ntmps45
  go_wp2
  all_goals
    go_ret
    exact ⟨ret_bool (by rw [← HB.out, Bool.eq_iff_iff]; simp; omega), rfl⟩
end Go.Proofs.YthgbclipknfmjaaGreatDoor
