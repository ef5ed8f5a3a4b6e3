
/-
  What lies on a desk, as lists; a folder is taken. By an AI agent.
-/
import Derived.Test.YthgbclipknfmjaaGreatDoorDsp
namespace Go.Proofs.YthgbclipknfmjaaGreatDoor
open Go.ChangeShapes Go.WideShapes Go.ChangeAt Go.RowKit Go.Deep Go.Lib
open Go.ChangeMaps (setBlock)
set_option linter.unusedVariables false
set_option linter.unusedSimpArgs false
set_option maxRecDepth 100000

structure FM where
  (name : ByteArray) (val next : Int) (mails : List MMl)
abbrev fmX (x : FX) : FM := ⟨x.name, x.val, x.next, x.mails⟩
def View (u : ByteArray) (X : List FX) (fs : List FM) : Prop := X.map (fun x => (x.k, fmX x)) = fs.map fun f => (folderK u f.name, f)
def lookF (n : ByteArray) : List FM → Option FM
  | [] => none
  | f :: fs => if f.name = n then some f else lookF n fs
def putF (g : FM) : List FM → List FM
  | [] => [g]
  | f :: fs => if f.name = g.name then g :: fs else f :: putF g fs
theorem folderK_data (u f : ByteArray) : (folderK u f).data.toList = 102 :: 47 :: (u.data.toList ++ 47 :: f.data.toList) := by
  simp [folderK, ByteArray.data_append]
theorem folderK_inj {u a b : ByteArray} (h : folderK u a = folderK u b) : a = b := by
  have h1 := congrArg (fun x : ByteArray => x.data.toList) h
  simp only [folderK_data] at h1
  simp only [List.cons.injEq, true_and, List.append_cancel_left_eq] at h1
  exact bs_inj h1
theorem View.look {u : ByteArray} : ∀ {X : List FX} {fs : List FM}, View u X fs → ∀ n, (lookX (folderK u n) X).map fmX = lookF n fs
  | [], [], _, _ => rfl
  | [], _ :: _, h, _ => by cases h
  | _ :: _, [], h, _ => by cases h
  | x :: X, f :: fs, h, n => by
    unfold View at h
    simp only [List.map_cons, List.cons.injEq, Prod.mk.injEq] at h
    obtain ⟨⟨h1, h2⟩, h3⟩ := h
    have ih := View.look (u := u) (X := X) (fs := fs) h3 n
    unfold lookX lookF
    by_cases e : f.name = n
    · rw [if_pos e, if_pos (by rw [h1, e]), ← h2]
      rfl
    · rw [if_neg e, if_neg (fun e2 => e (folderK_inj (h1.symm.trans e2))), ih]
theorem View.put {u : ByteArray} {y : FX} (hy : y.k = folderK u y.name) (clock : Nat) : ∀ {X : List FX} {fs : List FM}, View u X fs → View u (setX y clock X) (putF (fmX y) fs)
  | [], [], _ => by
    unfold View
    simp only [setX, putF, List.map_cons, List.map_nil]
    rw [hy]
  | [], _ :: _, h => by cases h
  | _ :: _, [], h => by cases h
  | x :: X, f :: fs, h => by
    unfold View at h
    simp only [List.map_cons, List.cons.injEq, Prod.mk.injEq] at h
    obtain ⟨⟨h1, h2⟩, h3⟩ := h
    have ih := View.put (u := u) (y := y) hy clock (X := X) (fs := fs) h3
    unfold setX putF
    by_cases e : f.name = y.name
    · rw [if_pos (by rw [h1, hy, e]), if_pos e]
      unfold View
      simp only [List.map_cons]
      rw [h3, hy]
    · rw [if_neg (fun e2 => e (folderK_inj (h1.symm.trans (e2.trans hy)))), if_neg e]
      unfold View at ih ⊢
      simp only [List.map_cons]
      rw [ih, h1, h2]
theorem View.some {u : ByteArray} {X : List FX} {fs : List FM} (h : View u X fs) (n : ByteArray) (b : Bool) (hb : (lookF n fs).isSome = b) : (lookX (folderK u n) X).isSome = b := by
  rw [← hb, ← h.look n]
  cases lookX (folderK u n) X <;> rfl
theorem setX_mem {y z : FX} {clock : Nat} : ∀ {X : List FX}, z ∈ setX y clock X → z ∈ X ∨ (z.v = y.v ∧ z.mails = y.mails ∧ z.k = y.k)
  | [], h => by
    simp only [setX, List.mem_singleton] at h
    rw [h]; exact .inr ⟨rfl, rfl, rfl⟩
  | x :: X, h => by
    unfold setX at h
    by_cases e : x.k = y.k
    · rw [if_pos e] at h
      rcases List.mem_cons.1 h with rfl | h
      · exact .inr ⟨rfl, rfl, rfl⟩
      · exact .inl (List.mem_cons_of_mem _ h)
    · rw [if_neg e] at h
      rcases List.mem_cons.1 h with rfl | h
      · exact .inl List.mem_cons_self
      · rcases setX_mem h with h | h
        · exact .inl (List.mem_cons_of_mem _ h)
        · exact .inr h
theorem pair_set {y : FX} {clock : Nat} : ∀ {X : List FX}, X.Pairwise (fun x z => ∀ g, x.v.ownBlock = some g → z.v.ownBlock ≠ some g) → (X.map (·.k)).Nodup → (∀ x ∈ X, x.k ≠ y.k → ∀ g, x.v.ownBlock = some g → y.v.ownBlock ≠ some g) → (setX y clock X).Pairwise (fun x z => ∀ g, x.v.ownBlock = some g → z.v.ownBlock ≠ some g)
  | [], _, _, _ => List.pairwise_singleton _ _
  | x :: X, h, hN, hd => by
    obtain ⟨h1, h2⟩ := List.pairwise_cons.1 h
    rw [List.map_cons, List.nodup_cons] at hN
    unfold setX
    by_cases e : x.k = y.k
    · rw [if_pos e]
      refine List.pairwise_cons.2 ⟨fun z hz g h9 h8 => ?_, h2⟩
      have hzk : z.k ≠ y.k := fun e2 => hN.1 (List.mem_map.2 ⟨z, hz, e2.trans e.symm⟩)
      exact hd z (List.mem_cons_of_mem _ hz) hzk g h8 h9
    · rw [if_neg e]
      refine List.pairwise_cons.2 ⟨fun z hz g h9 h8 => ?_, pair_set h2 hN.2 (fun z hz => hd z (List.mem_cons_of_mem _ hz))⟩
      rcases setX_mem hz with hz | ⟨hv, _, _⟩
      · exact h1 z hz g h9 h8
      · rw [hv] at h8
        exact hd x List.mem_cons_self e g h9 h8
theorem rows_set {w : World} {M : Nat} {y : FX} {X : List FX} (hr : Rows w M X) (hy : w.ownsRow (M + 2) 37 3 y.v y.mails.length (cellsMl y.mails)) (hN : (X.map (·.k)).Nodup) (hd : ∀ x ∈ X, x.k ≠ y.k → ∀ g, x.v.ownBlock = some g → y.v.ownBlock ≠ some g) (clock : Nat) : Rows w M (setX y clock X) :=
  ⟨fun z hz => by
    rcases setX_mem hz with hz | ⟨hv, hm, _⟩
    · exact hr.1 z hz
    · rw [hv, hm]; exact hy, pair_set hr.2 hN hd⟩
/-- Folders with other names each, and right numbers. -/
def FsOK (fs : List FM) : Prop := (fs.map (·.name)).Nodup ∧ ∀ f ∈ fs, 1 ≤ f.next ∧ f.next ≤ 999 ∧ f.mails.length ≤ 1000
theorem View.keys {u : ByteArray} {X : List FX} {fs : List FM} (h : View u X fs) : X.map (·.k) = fs.map fun f => folderK u f.name := by
  have h1 := congrArg (List.map Prod.fst) h
  rw [List.map_map, List.map_map] at h1
  exact h1
theorem View.nodup {u : ByteArray} {X : List FX} {fs : List FM} (h : View u X fs) (hf : FsOK fs) : (X.map (·.k)).Nodup := by
  rw [h.keys]
  have h1 := hf.1
  rw [List.Nodup, List.pairwise_map] at h1 ⊢
  exact h1.imp fun hne e => hne (folderK_inj e)
theorem lookF_mem {n : ByteArray} {f : FM} : ∀ {fs : List FM}, lookF n fs = some f → f ∈ fs ∧ f.name = n
  | [], h => by cases h
  | g :: fs, h => by
    unfold lookF at h
    by_cases e : g.name = n
    · rw [if_pos e] at h
      cases h
      exact ⟨List.mem_cons_self, e⟩
    · rw [if_neg e] at h
      obtain ⟨h1, h2⟩ := lookF_mem h
      exact ⟨List.mem_cons_of_mem _ h1, h2⟩
theorem setX_keyed {y z : FX} {clock : Nat} : ∀ {X : List FX}, (X.map (·.k)).Nodup → z ∈ setX y clock X → z.k = y.k → z.v = y.v ∧ z.mails = y.mails
  | [], _, h, _ => by
    simp only [setX, List.mem_singleton] at h
    rw [h]; exact ⟨rfl, rfl⟩
  | x :: X, hN, h, hk => by
    rw [List.map_cons, List.nodup_cons] at hN
    unfold setX at h
    by_cases e : x.k = y.k
    · rw [if_pos e] at h
      rcases List.mem_cons.1 h with rfl | h
      · exact ⟨rfl, rfl⟩
      · exact absurd (List.mem_map.2 ⟨z, h, hk.trans e.symm⟩) hN.1
    · rw [if_neg e] at h
      rcases List.mem_cons.1 h with rfl | h
      · exact absurd hk e
      · exact setX_keyed hN.2 h hk
theorem rows_apart {w : World} {M : Nat} {X : List FX} {k : ByteArray} {x z : FX} (h : Rows w M X) (hx : lookX k X = some x) (hz : z ∈ X) (hzk : z.k ≠ k) : ∀ g, z.v.ownBlock = some g → x.v.ownBlock ≠ some g := by
  obtain ⟨A, B, hX, hA, hxk⟩ := lookX_some hx
  subst hX
  have hp := h.2
  rw [List.pairwise_append] at hp
  obtain ⟨_, h2, h3⟩ := hp
  rcases List.mem_append.1 hz with hz | hz
  · exact fun g h9 => h3 z hz x List.mem_cons_self g h9
  · rcases List.mem_cons.1 hz with rfl | hz
    · exact absurd hxk hzk
    · intro g h9 h7
      exact (List.pairwise_cons.1 h2).1 z hz g h7 h9
/-- Numbers between bounds. -/
def inB (R : Option Int) (lo hi : Int) : Bool := match R with
  | .some m => decide (lo ≤ m) && decide (m ≤ hi)
  | .none => false
set_option maxHeartbeats 1000000 in
theorem numberWithinI (t : ByteArray) (lo hi : Int) (w : World) (ht : t.size ≤ 1048576) (hg : Gl w) (h8 : 8 ≤ w.heap.size) (bb : Bool) (HB : Hid (inB (numB t.data.toList) lo hi = bb)) :
    Calls Tryz.prog 112 #[.string t, .int .i64 lo, .int .i64 hi] w fun e w' => ∃ n, e = .returned (.tuple #[.int .i64 n, .bool bb]) ∧ NumPost (numB t.data.toList) n ∧ Below w.heap.size w w' := by
  have CR := readNumberI t w ht hg h8
  obtain ⟨R, hR⟩ : ∃ R, numB t.data.toList = R := ⟨_, rfl⟩
  rw [hR] at CR HB ⊢
  clear hR hg
  cases R with
  | none =>
    have HZ : Hid (false = bb) := HB
    go_enter Tryz.func112, Tryz.ntmps112
    go_wp2_with fail
    refine CR.mono ?_
    rintro e w1 ⟨n, rfl, hn, hb1⟩
    have B1 : Hid (Below w.heap.size w w1) := hb1
    clear hb1
    dsimp only [Option.isSome]
    go_wp2_with fail
    go_ret2
    exact ⟨n, ret_num rfl HZ.out, hn, B1.out⟩
  | some m =>
    have HZ : Hid ((decide (lo ≤ m) && decide (m ≤ hi)) = bb) := HB
    by_cases h1 : lo ≤ m
    · by_cases h2 : m ≤ hi
      · have HY : Hid (true = bb) := by show _ = _; rw [← HZ.out, decide_eq_true h1, decide_eq_true h2]; rfl
        go_enter Tryz.func112, Tryz.ntmps112
        go_wp2_with fail
        refine CR.mono ?_
        rintro e w1 ⟨n, rfl, hn, hb1⟩
        have B1 : Hid (Below w.heap.size w w1) := hb1
        obtain rfl := hn m rfl
        clear hb1 hn HZ HB
        dsimp only [Option.isSome]
        go_wp2_with fail
        go_ret2
        exact ⟨n, ret_num rfl HY.out, fun m h9 => by cases h9; rfl, B1.out⟩
      · have HY : Hid (false = bb) := by show _ = _; rw [← HZ.out, decide_eq_true h1, decide_eq_false h2]; rfl
        go_enter Tryz.func112, Tryz.ntmps112
        go_wp2_with fail
        refine CR.mono ?_
        rintro e w1 ⟨n, rfl, hn, hb1⟩
        have B1 : Hid (Below w.heap.size w w1) := hb1
        obtain rfl := hn m rfl
        clear hb1 hn HZ HB
        dsimp only [Option.isSome]
        go_wp2_with fail
        go_ret2
        exact ⟨n, ret_num rfl (by rw [← HY.out]; exact decide_eq_false (by omega)), fun m h9 => by cases h9; rfl, B1.out⟩
    · have HY : Hid (false = bb) := by show _ = _; rw [← HZ.out, decide_eq_false h1]; rfl
      go_enter Tryz.func112, Tryz.ntmps112
      go_wp2_with fail
      refine CR.mono ?_
      rintro e w1 ⟨n, rfl, hn, hb1⟩
      have B1 : Hid (Below w.heap.size w w1) := hb1
      obtain rfl := hn m rfl
      clear hb1 hn HZ HB
      dsimp only [Option.isSome]
      go_wp2_with fail
      go_ret2
      exact ⟨n, ret_num rfl HY.out, fun m h9 => by cases h9; rfl, B1.out⟩
/-- What a folder's pair is taken as. -/
def folderN (nx : Int) (name : ByteArray) : Option Int → Option Int → Option FM
  | .some x, .some y => if shortB name = true ∧ 1 ≤ x ∧ x ≤ nx - 1 ∧ 1 ≤ y ∧ y ≤ 999 then some ⟨name, x, y, []⟩ else none
  | _, _ => none
def folderM (nx : Int) (name v : ByteArray) : Option FM := folderN nx name (numB (cut v.data.toList [32]).1) (numB (cut v.data.toList [32]).2.1)
end Go.Proofs.YthgbclipknfmjaaGreatDoor
