/-
  Usp Fps Dpm Put in one. By an AI agent.
-/
import Derived.Test.YthgbclipknfmjaaGreatDoorFu10
import Derived.Test.YthgbclipknfmjaaGreatDoorFu06
import Derived.Test.YthgbclipknfmjaaGreatDoorFu09
import Derived.Test.YthgbclipknfmjaaGreatDoorFu04
namespace Go.Proofs.YthgbclipknfmjaaGreatDoor
open Go.ChangeShapes Go.WideShapes Go.ChangeAt Go.RowKit Go.Deep Go.Lib
set_option linter.unusedVariables false
set_option linter.unusedSimpArgs false
set_option maxRecDepth 100000

theorem take_word {nx : Int} {u : ByteArray} {S S' : SM} {q : PM} (hus : (47 : UInt8) ∉ u.data.toList) (h : takeM nx u S q = some S') : S'.word = if q.1 = userK u then q.2 else S.word := by
  by_cases ho : ownerM q = some u
  · unfold takeM at h
    unfold ownerM at ho
    match hG : splitL 47 q.1.data.toList, ho, h with
    | [a, b], ho, h =>
      obtain ⟨h1, h2⟩ := ite_some ho
      subst h1
      have h3 : takeP nx u S q [[117], b] = userM u S q.2 := if_pos ⟨h2, rfl⟩
      rw [h3] at h
      unfold userM at h
      obtain ⟨_, rfl⟩ := ite_some h
      rw [if_pos (by rw [(key_user hG).1, h2])]
    | [a, b, c], ho, h =>
      obtain ⟨h1, h2⟩ := ite_some ho
      have h3 : takeP nx u S q [a, b, c] = putM S (folderM nx (bs c) q.2) := if_pos ⟨h2, h1⟩
      rw [h3] at h
      rw [(put_aside h).2, if_neg fun e => by rw [e, parts_user hus] at hG; cases hG]
    | [a, b, c, d], ho, h =>
      obtain ⟨h1, h2⟩ := ite_some ho
      have h3 : takeP nx u S q [a, b, c, d] = putM S (mailM S.fs (bs c) (bs d) q.2) := if_pos ⟨h2, h1⟩
      rw [h3] at h
      rw [(put_aside h).2, if_neg fun e => by rw [e, parts_user hus] at hG; cases hG]
  · have h3 : asideM S q = some S' := (take_other ho).symm.trans h
    cases h3
    rw [if_neg fun e => ho (by unfold ownerM; rw [e, parts_user hus]; rfl)]
theorem all_word {nx : Int} {u : ByteArray} (hus : (47 : UInt8) ∉ u.data.toList) : ∀ {L : List PM} {S S' : SM}, UpL L → takeAll nx u S L = some S' → S'.word = (getM L (userK u)).getD S.word
  | [], S, S', _, h => by cases h; rfl
  | q :: L, S, S', hu, h => by
    unfold takeAll at h
    obtain ⟨S1, h1, h2⟩ := Option.bind_eq_some_iff.1 h
    obtain ⟨u1, u2⟩ := List.pairwise_cons.1 hu
    have hgm : getM (q :: L) (userK u) = if q.1 = userK u then some q.2 else getM L (userK u) := rfl
    rw [all_word hus u2 h2, take_word hus h1, hgm]
    by_cases e : q.1 = userK u
    · have h3 : getM L (userK u) = none := getM_none.2 fun x hx e9 => by
        have h9 := u1 x hx
        rw [e, e9] at h9
        exact ltK_irrefl _ h9
      rw [if_pos e, if_pos e, h3]
      rfl
    · rw [if_neg e, if_neg e]
theorem word_slash {u : ByteArray} (h : shortB u = true) : (47 : UInt8) ∉ u.data.toList := by
  unfold shortB wordB at h
  simp only [Bool.and_eq_true, decide_eq_true_eq] at h
  obtain ⟨⟨⟨⟨h1, _⟩, h2⟩, h3⟩, _⟩ := h
  match hd : u.data.toList with
  | [] => simp
  | c :: r =>
    rw [hd] at h2
    unfold okFrom at h3
    rw [hd] at h3
    rw [List.all_eq_true] at h3
    intro h9
    rcases List.mem_cons.1 h9 with h9 | h9
    · rw [← h9] at h2
      have h2 : letB (((47 : UInt8).toNat : Nat) : Int) = true := h2
      exact absurd h2 (by decide)
    · exact absurd (h3 47 (by simpa using h9)) (by decide)
/-- The facts that a right mail store gives. -/
theorem store_facts {L : List PM} (h : storeB L = true) : GoodL L ∧ ∃ nx, nx = nextM L ∧ 1 ≤ nx ∧ nx ≤ 10000 ∧ inB (numB ((getM L vK).getD e0).data.toList) 1 10000 = true ∧ (∀ u, (∃ q ∈ L, q.1 = userK u) → layF nx u S0 L = true) ∧ ∀ q ∈ L, q.1 = vK ∨ ∃ u, ownerM q = some u ∧ ∃ z ∈ L, z.1 = userK u := by
  have h2 : implB L = true := (impl_store L).trans h
  unfold implB at h2
  rw [Bool.and_eq_true, Bool.and_eq_true] at h2
  obtain ⟨h3, h4, h5⟩ := h2
  have hg := good_of h3
  cases hv : getM L vK with
  | none => rw [hv] at h4; exact absurd h4 (by decide)
  | some v0 =>
    have h4' := h4
    rw [hv, Option.getD_some] at h4
    cases hn : numB v0.data.toList with
    | none => rw [hn] at h4; cases h4
    | some nx =>
      have hnm : nx = nextM L := by unfold nextM; rw [hv]; simp [hn]
      rw [hn] at h4
      have h6 : (decide (1 ≤ nx) && decide (nx ≤ 10000)) = true := h4
      rw [Bool.and_eq_true, decide_eq_true_eq, decide_eq_true_eq] at h6
      obtain ⟨k1, k2⟩ := (known_iff hnm hg.2.2 ⟨_, (getM_mem hg.2.2).1 hv, rfl⟩).1 h5
      rw [hv] at h4'
      exact ⟨hg, nx, hnm, h6.1, h6.2, h4', k1, k2⟩
theorem take_all {L : List PM} {u : ByteArray} (h : storeB L = true) (hus : (47 : UInt8) ∉ u.data.toList) : ∃ S, takeAll (nextM L) u S0 L = some S ∧ S.word = (getM L (userK u)).getD e0 ∧ Inv (nextM L) u L S := by
  obtain ⟨hg, nx, hnm, _, h2, _, k1, k2⟩ := store_facts h
  rw [← hnm]
  have hI : Inv nx u [] S0 := ⟨fun name f' hf => (by cases hf), fun name w _ hm => (by cases hm), rfl⟩
  obtain ⟨m1, m2⟩ := all_step h2 hg.2.2 hus L [] S0 rfl hI
  have hs : (takeAll nx u S0 L).isSome = true := m1.2 fun q hq ho => by
    rcases k2 q hq with e | ⟨u2, ho2, hz⟩
    · rw [owner_v e] at ho; cases ho
    · rw [ho] at ho2
      cases ho2
      exact ((lay_iff h2 hg.2.2 hus).1 (k1 u hz)).1 q hq ho
  obtain ⟨S, hS⟩ := Option.isSome_iff_exists.1 hs
  exact ⟨S, hS, all_word hus hg.2.2 hS, m2 S hS⟩
theorem word_some {L : List PM} (h : storeB L = true) {u v : ByteArray} (hus : (47 : UInt8) ∉ u.data.toList) (hv : getM L (userK u) = some v) : v.toList ≠ [] := by
  obtain ⟨hg, nx, hnm, _, h2, _, k1, k2⟩ := store_facts h
  have hm := (getM_mem hg.2.2).1 hv
  have h3 := ((lay_iff h2 hg.2.2 hus).1 (k1 u ⟨_, hm, rfl⟩)).1 _ hm (by unfold ownerM; rw [parts_user hus]; rfl)
  have h4 : shortB v = true := by
    simp only [parts_user hus] at h3
    exact h3.2
  intro e
  rw [ByteArray.toList_eq] at e
  have h5 : v = ⟨#[]⟩ := bs_inj e
  rw [h5] at h4
  exact absurd h4 (by decide)
abbrev mailK (u f : ByteArray) (n : Int) : ByteArray := bs (109 :: 47 :: (u.data.toList ++ 47 :: (f.data.toList ++ 47 :: d3 n.toNat)))
def mailV (m : MMl) : ByteArray := bs (itoa m.2.1) ++ m.2.2
def mailP (u f : ByteArray) (m : MMl) : PM := (mailK u f m.1, mailV m)
def fPairs (u : ByteArray) (f : FM) : List PM := (folderK u f.name, metaT f.val f.next) :: f.mails.map (mailP u f.name)
/-- A folder whose numbers are small. -/
def FitF (f : FM) : Prop := 0 ≤ f.val ∧ f.val ≤ 10000 ∧ 0 ≤ f.next ∧ f.next ≤ 10000 ∧ f.name.size ≤ 1000 ∧ ∀ m ∈ f.mails, 0 ≤ m.1 ∧ m.1 < 1000 ∧ 0 ≤ m.2.1 ∧ m.2.1 ≤ 3 ∧ m.2.2.size ≤ 1000
theorem own_lit {w : World} {base t s n B : Nat} {cs : Array Value} {xs : List Value} (hB : B = w.heap.size) (hb : base ≤ w.heap.size) (hc : cs.toList = xs) (hl : xs.length = n * s) (hm : n ≤ 65536) : (w.alloc (.cells cs t)).ownsRow base t s (.slice (some ⟨B, 0, none⟩) n n) n xs := by
  subst hB
  have hsz : cs.size = n * s := by rw [← Array.length_toList, hc, hl]
  refine ⟨hl, .inr ⟨w.heap.size, n, cs, rfl, hb, heap_alloc_new _ _, Nat.le_refl _, by unfold maxLen; omega, hsz, ?_⟩⟩
  rw [hc, List.take_of_length_le (by omega)]
theorem itoaI (n : Int) (h0 : 0 ≤ n) (h1 : n ≤ 10000) (w : World) (hg : Gl w) : Calls Tryz.prog 82 #[.int .i64 n] w fun e w' => e = .returned (.string (bs (itoa n))) ∧ Below w.heap.size w w' := by
  refine (Tryz.strconv_Itoa n (by omega) (by omega) w hg.2.2.2).mono ?_
  rintro e w1 ⟨rfl, k, os, hw1⟩
  exact ⟨rfl, by rw [hw1]; exact below_grow' w k os⟩
theorem trim_f (t : ByteArray) (w : World) : ∃ q : ByteArray, q.data.toList = trimPrefix t.data.toList [102] ∧ Calls Tryz.prog 154 #[.string t, .string ⟨#[102]⟩] w fun e w' => e = .returned (.string q) ∧ w' = w :=
  ⟨_, rfl, Tryz.strings_TrimPrefix t ⟨#[102]⟩ w⟩
theorem size_of {q : ByteArray} : q.size = q.data.toList.length := by simp
set_option maxHeartbeats 1000000 in
theorem mailKeyI (u f : ByteArray) (n : Nat) (hn : n < 1000) (hu : u.size ≤ 1000) (hf : f.size ≤ 1000) (w : World) (hg : Gl w) : Calls Tryz.prog 129 #[.string (folderK u f), .int .i64 (n : Int)] w fun e w' => e = .returned (.string (mailK u f (n : Int))) ∧ Below w.heap.size w w' := by
  obtain ⟨q, hq, CT⟩ := trim_f (folderK u f) w
  have hqd : q.data.toList = 47 :: (u.data.toList ++ 47 :: f.data.toList) := by
    rw [hq, folderK_data]
    simp [trimPrefix, hasPrefix, List.isPrefixOf]
  have hqs : q.size ≤ 2100 := by
    rw [size_of, hqd]
    rw [size_of] at hu hf
    simp only [List.length_cons, List.length_append]
    omega
  have CU := uidTextI n hn w hg
  have hts : (bs (d3 n)).size = 3 := by rw [size_of]; exact (d3_is n hn).1
  obtain ⟨t, ht⟩ : ∃ t, bs (d3 n) = t := ⟨_, rfl⟩
  have HE : Hid (((⟨#[109]⟩ ++ q) ++ ⟨#[47]⟩) ++ t = mailK u f (n : Int)) := by
    show _ = _
    apply bs_inj
    rw [← ht]
    simp only [ByteArray.data_append, Array.toList_append, hqd]
    show _ = 109 :: 47 :: (u.data.toList ++ 47 :: (f.data.toList ++ 47 :: d3 n))
    simp
    rfl
  rw [ht] at CU hts
  obtain ⟨K, hK⟩ : ∃ K, folderK u f = K := ⟨_, rfl⟩
  rw [hK] at CT ⊢
  obtain ⟨G, hG⟩ : ∃ G, mailK u f (n : Int) = G := ⟨_, rfl⟩
  rw [hG] at HE ⊢
  clear hq hqd hK ht hG
  go_enter Tryz.func129, Tryz.ntmps129
  go_wp2_with fail
  refine CT.mono ?_
  rintro e w1 ⟨rfl, hw1⟩
  obtain rfl := hw1
  clear CT
  go_wp2_with fail
  refine CU.mono ?_
  rintro e w2 ⟨rfl, hb2⟩
  have B2 : Hid (Below w1.heap.size w1 w2) := hb2
  clear hb2 CU
  go_wp2_with fail
  go_ret
  exact ⟨by rw [← HE.out]; rfl, B2.out⟩
theorem map_take {α β : Type} (f : α → β) (d : α) (L : List α) (j : Nat) (hj : j < L.length) : (L.take (j + 1)).map f = (L.take j).map f ++ [f (L.getD j d)] := by
  rw [List.take_add_one, List.getD_eq_getElem?_getD, List.getElem?_eq_getElem hj]
  simp only [Option.toList_some, List.map_append, List.map_cons, List.map_nil, Option.getD_some]
theorem mem_getD' {α : Type} (L : List α) (d : α) (j : Nat) (hj : j < L.length) : L.getD j d ∈ L := by
  rw [List.getD_eq_getElem?_getD, List.getElem?_eq_getElem hj]
  exact List.getElem_mem _
set_option maxHeartbeats 4000000 in
theorem folPairsI (u : ByteArray) (f : FM) (ax : Option Addr) (ml cx : Nat) (hml : f.mails.length = ml) (hm : ml ≤ 1000) (hf : FitF f) (hu : u.size ≤ 1000) (w : World) (hs : Src w ax (cellsMl f.mails)) (hg : Gl w) (h8 : 8 ≤ w.heap.size) :
    Calls Tryz.prog 83 #[.agg #[.string f.name, .int .i64 f.val, .int .i64 f.next, .slice ax ml cx], .string (folderK u f.name)] w fun e w' => ∃ v, e = .returned v ∧ w'.ownsRow w.heap.size 68 2 v (ml + 1) (cellsP (fPairs u f)) ∧ Below w.heap.size w w' := by
  obtain ⟨fv0, fv1, fx0, fx1, hfn, hfm⟩ := hf
  have hks : (folderK u f.name).size ≤ 2100 := by
    rw [size_of, folderK_data]
    rw [size_of] at hu hfn
    simp only [List.length_cons, List.length_append]
    omega
  have HMK : Hid (∀ (n : Nat) (W : World), n < 1000 → Gl W → Calls Tryz.prog 129 #[.string (folderK u f.name), .int .i64 (n : Int)] W fun e w' => e = .returned (.string (mailK u f.name (n : Int))) ∧ Below W.heap.size W w') := fun n W hn hgW => mailKeyI u f.name n hn hu hfn W hgW
  have HFP : Hid (fPairs u f = (folderK u f.name, metaT f.val f.next) :: f.mails.map (mailP u f.name)) := rfl
  have HMT : Hid (metaT f.val f.next = (bs (itoa f.val) ++ ⟨#[32]⟩) ++ bs (itoa f.next)) := rfl
  have zv := itoa_small f.val fv0 fv1
  have zn := itoa_small f.next fx0 fx1
  obtain ⟨nm, hnm⟩ : ∃ x, f.name = x := ⟨_, rfl⟩
  obtain ⟨fv, hfv⟩ : ∃ x, f.val = x := ⟨_, rfl⟩
  obtain ⟨fx, hfx⟩ : ∃ x, f.next = x := ⟨_, rfl⟩
  obtain ⟨Ms, hMs⟩ : ∃ x, f.mails = x := ⟨_, rfl⟩
  rw [hfv] at zv HMT HFP fv0 fv1 ⊢
  rw [hfx] at zn HMT HFP fx0 fx1 ⊢
  rw [hnm] at hks HMK HFP ⊢
  rw [hMs] at hml hfm hs HFP
  obtain ⟨key, hkey⟩ : ∃ x, folderK u nm = x := ⟨_, rfl⟩
  rw [hkey] at hks HMK HFP ⊢
  obtain ⟨MT, hMT⟩ : ∃ x, metaT fv fx = x := ⟨_, rfl⟩
  rw [hMT] at HMT HFP
  have CV := fun W (hW : Gl W) => itoaI fv fv0 fv1 W hW
  have CN := fun W (hW : Gl W) => itoaI fx fx0 fx1 W hW
  obtain ⟨TV, hTV⟩ : ∃ x, bs (itoa fv) = x := ⟨_, rfl⟩
  obtain ⟨TN, hTN⟩ : ∃ x, bs (itoa fx) = x := ⟨_, rfl⟩
  simp only [hTV] at CV zv HMT
  simp only [hTN] at CN zn HMT
  have HL : Hid (Ms.length = ml) := hml
  have HFM : Hid (∀ m ∈ Ms, 0 ≤ m.1 ∧ m.1 < 1000 ∧ 0 ≤ m.2.1 ∧ m.2.1 ≤ 3 ∧ m.2.2.size ≤ 1000) := hfm
  have HS : Hid (Src w ax (cellsMl Ms)) := hs
  have HG : Hid (Gl w) := hg
  have H8 : Hid (8 ≤ w.heap.size) := h8
  obtain ⟨w0, hw0⟩ : ∃ W, w.alloc (.cells #[.string nm, .int .i64 fv, .int .i64 fx, .slice ax ml cx] 28) = W := ⟨_, rfl⟩
  have X0 : Hid (Box w0 w.heap.size [.string nm, .int .i64 fv, .int .i64 fx, .slice ax ml cx]) := by show Box _ _ _; rw [← hw0]; exact Box.new rfl
  have B0 : Hid (Below w.heap.size w w0) := by show Below _ _ _; rw [← hw0]; exact (Below.refl _ _).alloc (Nat.le_refl _) _
  have Z0 : Hid (w0.heap.size = w.heap.size + 1) := by show _ = _; rw [← hw0]; simp
  clear hml hfm hs hg h8 hnm hfv hfx hMs hkey hMT hTV hTN fv0 fv1 fx0 fx1 hfn
  go_enter Tryz.func83, Tryz.ntmps83
  go_upto_region 1 with fail
  clear hw0
  go_cut [5] from 8 to 18 (fun ps wx => ∃ p : Nat, ps = .slice (some ⟨p, 0, none⟩) 1 1 ∧ Hid (wx.ownsRow (w.heap.size + 1) 68 2 (.slice (some ⟨p, 0, none⟩) 1 1) 1 (cellsP [(key, MT)])) ∧ Hid (Below w0.heap.size w0 wx))
  case first =>
    obtain ⟨c1, _⟩ := X0.out 1 _ rfl
    obtain ⟨c2, _⟩ := X0.out 2 _ rfl
    refine wp_region_noPanic ?_
    refine wp_region_held_drew (S := fun w' => w'.cell? ⟨w.heap.size, 1, none⟩ = some (.int .i64 fv) ∧ w'.cell? ⟨w.heap.size, 2, none⟩ = some (.int .i64 fx)) (by kernel_rfl) ⟨c1, c2⟩ (fun hHeld => ?_)
    refine tkA (i := 0) (v := .string key) ?_ hHeld ?_
    · intro w9 hSw
      obtain ⟨z0, z1⟩ := hSw
      go_simp
    simp only [Act.put, List.setIfInBounds_toArray, List.set_cons_zero, List.set_cons_succ]
    refine tkA (i := 1) (v := .pointer (some ⟨w.heap.size, 1, none⟩)) ?_ hHeld ?_
    · intro w9 hSw
      obtain ⟨z0, z1⟩ := hSw
      go_simp
    simp only [Act.put, List.setIfInBounds_toArray, List.set_cons_zero, List.set_cons_succ]
    refine tkA (i := 2) (v := .int .i64 fv) ?_ hHeld ?_
    · intro w9 hSw
      obtain ⟨z0, z1⟩ := hSw
      go_simp
    simp only [Act.put, List.setIfInBounds_toArray, List.set_cons_zero, List.set_cons_succ]
    refine tkA (i := 5) (v := .pointer (some ⟨w.heap.size, 2, none⟩)) ?_ hHeld ?_
    · intro w9 hSw
      obtain ⟨z0, z1⟩ := hSw
      go_simp
    simp only [Act.put, List.setIfInBounds_toArray, List.set_cons_zero, List.set_cons_succ]
    refine tkA (i := 6) (v := .int .i64 fx) ?_ hHeld ?_
    · intro w9 hSw
      obtain ⟨z0, z1⟩ := hSw
      go_simp
    simp only [Act.put, List.setIfInBounds_toArray, List.set_cons_zero, List.set_cons_succ]
    refine wpAnyH_ready (rs := [3]) (by kernel_rfl) (by simp) ?_
    refine AllReadyH.cons rfl (fun K hK => ?_) AllReadyH.nil
    go_simp
    refine (CV _ (HG.out.below H8.out (B0.out.trans (((Below.refl w0.heap.size w0).drew).mono B0.out.size)))).mono ?_
    rintro e wa1 ⟨rfl, hb1⟩
    dsimp only
    have B1 : Hid (Below w0.heap.size w0 wa1) := Below.trans ((Below.refl w0.heap.size w0).drew) (hb1.mono ((Below.refl w0.heap.size w0).drew).size)
    have X1 : Hid (Box wa1 w.heap.size [.string nm, .int .i64 fv, .int .i64 fx, .slice ax ml cx]) := X0.out.below B1.out
    clear hb1
    refine hK _ _ ⟨(X1.out 1 _ rfl).1, (X1.out 2 _ rfl).1⟩ (fun hHeld => ?_)
    clear hK K
    refine tkA (i := 4) (v := .string (TV ++ ⟨#[32]⟩)) ?_ hHeld ?_
    · intro w9 hSw
      obtain ⟨z0, z1⟩ := hSw
      go_simp
      omega
    simp only [Act.put, List.setIfInBounds_toArray, List.set_cons_zero, List.set_cons_succ]
    refine wpAnyH_ready (rs := [7]) (by kernel_rfl) (by simp) ?_
    refine AllReadyH.cons rfl (fun K hK => ?_) AllReadyH.nil
    go_simp
    refine (CN _ (HG.out.below H8.out (B0.out.trans ((B1.out).mono B0.out.size)))).mono ?_
    rintro e wa2 ⟨rfl, hb2⟩
    dsimp only
    have B2 : Hid (Below w0.heap.size w0 wa2) := Below.trans (B1.out) (hb2.mono (B1.out).size)
    have X2 : Hid (Box wa2 w.heap.size [.string nm, .int .i64 fv, .int .i64 fx, .slice ax ml cx]) := X0.out.below B2.out
    clear hb2
    refine hK _ _ ⟨(X2.out 1 _ rfl).1, (X2.out 2 _ rfl).1⟩ (fun hHeld => ?_)
    clear hK K
    refine tkA (i := 8) (v := .string ((TV ++ ⟨#[32]⟩) ++ TN)) ?_ hHeld ?_
    · intro w9 hSw
      obtain ⟨z0, z1⟩ := hSw
      go_simp
      omega
    simp only [Act.put, List.setIfInBounds_toArray, List.set_cons_zero, List.set_cons_succ]
    refine tkA (i := 9) (v := .agg #[.string key, .string ((TV ++ ⟨#[32]⟩) ++ TN)]) ?_ hHeld ?_
    · intro w9 hSw
      obtain ⟨z0, z1⟩ := hSw
      go_simp
    simp only [Act.put, List.setIfInBounds_toArray, List.set_cons_zero, List.set_cons_succ]
    refine wpAnyH_ready (rs := [10]) (by kernel_rfl) (by simp) ?_
    refine AllReadyH.cons rfl (fun K hK => ?_) AllReadyH.nil
    go_simp
    have A3 : Hid (Below w0.heap.size w0 (wa2.alloc (.cells #[.string key, .string ((TV ++ ⟨#[32]⟩) ++ TN)] 68))) := Below.alloc (B2.out) (B2.out).size _
    have O3 : Hid ((wa2.alloc (.cells #[.string key, .string ((TV ++ ⟨#[32]⟩) ++ TN)] 68)).ownsRow (w.heap.size + 1) 68 2 (.slice (some ⟨wa2.heap.size, 0, none⟩) 1 1) 1 (cellsP [(key, MT)])) := own_lit rfl (by have h9 := (B2.out).size; have h7 := Z0.out; omega) (by rw [HMT.out]; rfl) rfl (by omega)
    have X3 : Hid (Box (wa2.alloc (.cells #[.string key, .string ((TV ++ ⟨#[32]⟩) ++ TN)] 68)) w.heap.size [.string nm, .int .i64 fv, .int .i64 fx, .slice ax ml cx]) := X0.out.below A3.out
    refine hK _ _ ⟨(X3.out 1 _ rfl).1, (X3.out 2 _ rfl).1⟩ (fun hHeld => ?_)
    clear hK K
    refine wpAnyH_ready (rs := [11]) (by kernel_rfl) (by simp) ?_
    refine AllReadyH.cons rfl (fun K hK => ?_) AllReadyH.nil
    go_simp
    refine hK _ _ ⟨(X3.out 1 _ rfl).1, (X3.out 2 _ rfl).1⟩ (fun hHeld => ?_)
    clear hK K
    refine wpAnyH_done (by kernel_rfl) ?_ _
    refine NoPanic.normal ?_
    clear hHeld
    go_wp2_with fail
    go_meet
    exact ⟨_, rfl, O3.out, A3.out⟩
  case rest =>
    obtain ⟨p, rfl, ho, hbc⟩ := hcut
    obtain ⟨c3, _⟩ := X0.out.below hbc.out 3 _ rfl
    have BC : Hid (Below w.heap.size w wc) := B0.out.trans (hbc.out.mono B0.out.size)
    have HO : Hid (wc.ownsRow (w.heap.size + 1) 68 2 (.slice (some ⟨p, 0, none⟩) 1 1) 1 (cellsP ((key, MT) :: (Ms.take 0).map (mailP u nm)))) := ho.out
    have ZC : Hid (w.heap.size < wc.heap.size) := by have h9 := hbc.out.size; have h7 := Z0.out; show _ < _; omega
    clear ho hbc CV CN
    go_wp2_with fail
    go_loopw [5, 22] (fun v iv wr => ∃ (j : Nat) (a' : Option Addr) (c' : Nat), j ≤ ml ∧ v = .slice a' (j + 1) c' ∧ iv = .int .i64 (j : Int) ∧ Hid (wr.ownsRow (w.heap.size + 1) 68 2 (.slice a' (j + 1) c') (j + 1) (cellsP ((key, MT) :: (Ms.take j).map (mailP u nm)))) ∧ Hid (Below w.heap.size w wr) ∧ Hid (w.heap.size < wr.heap.size)) (fun _ i _ => ml - (RowKit.intOf i).toNat)
    case atStart => exact ⟨0, _, _, Nat.zero_le _, rfl, rfl, HO.out, BC.out, ZC.out⟩
    case round =>
      obtain ⟨j, a', c', hj, rfl, rfl, ho, hbr, hzr⟩ := hrel
      by_cases hlt : j < ml
      · have hltj : (j : Int) < (ml : Int) := by omega
        have hjl : j < Ms.length := by rw [HL.out]; exact hlt
        obtain ⟨b, o, x0, x1, x2, rfl, d0, d1, d2, hx⟩ := srcMl (HS.out.below hbr.out) hjl
        have hmem := HFM.out _ (mem_getD' Ms ml0 j hjl)
        rw [hx.out] at hmem
        dsimp only at hmem
        obtain ⟨m0, m1, m2, m3, m4⟩ := hmem
        have HTK : Hid ((Ms.take (j + 1)).map (mailP u nm) = (Ms.take j).map (mailP u nm) ++ [mailP u nm (x0, x1, x2)]) := by show _ = _; rw [map_take _ ml0 Ms j hjl, hx.out]
        obtain ⟨n0, rfl⟩ : ∃ n0 : Nat, x0 = (n0 : Int) := ⟨x0.toNat, by omega⟩
        have CK := fun W (hW : Gl W) => HMK.out n0 W (by omega) hW
        have CD := fun W (hW : Gl W) => itoaI x1 m2 (by omega) W hW
        have zd := itoa_small x1 m2 (by omega)
        have HMP : Hid (mailP u nm ((n0 : Int), x1, x2) = (mailK u nm (n0 : Int), bs (itoa x1) ++ x2)) := rfl
        obtain ⟨TK, hTK⟩ : ∃ x, mailK u nm (n0 : Int) = x := ⟨_, rfl⟩
        obtain ⟨TD, hTD⟩ : ∃ x, bs (itoa x1) = x := ⟨_, rfl⟩
        simp only [hTK] at CK HMP
        simp only [hTD] at CD HMP zd
        obtain ⟨w1, hw1⟩ : ∃ W, wr.alloc (.cells #[.int .i64 (n0 : Int), .int .i64 x1, .string x2] 37) = W := ⟨_, rfl⟩
        have XQ : Hid (Box w1 wr.heap.size [.int .i64 (n0 : Int), .int .i64 x1, .string x2]) := by show Box _ _ _; rw [← hw1]; exact Box.new rfl
        have RQ : Hid (Below wr.heap.size wr w1) := by show Below _ _ _; rw [← hw1]; exact (Below.refl _ _).alloc (Nat.le_refl _) _
        have BQ : Hid (Below w.heap.size w w1) := hbr.out.trans (RQ.out.mono hbr.out.size)
        have OQ : Hid (w1.ownsRow (w.heap.size + 1) 68 2 (.slice a' (j + 1) c') (j + 1) (cellsP ((key, MT) :: (Ms.take j).map (mailP u nm)))) := own_below ho.out RQ.out
        have ZQ : Hid (w.heap.size < w1.heap.size) := by have h9 := RQ.out.size; have h7 := hzr.out; show _ < _; omega
        have HRB : Hid (∀ g, Value.ownBlock (.slice a' (j + 1) c') = some g → g < wr.heap.size) := fun g h9 => (ho.out.lt g h9).2
        clear hx m0 m1 m2 m3 hTK hTD ho
        go_upto_region 5 with fail
        clear hw1
        obtain ⟨e0', _⟩ := XQ.out 0 _ rfl
        obtain ⟨e1', _⟩ := XQ.out 1 _ rfl
        obtain ⟨e2', _⟩ := XQ.out 2 _ rfl
        refine wp_region_noPanic ?_
        refine wp_region_held_drew (S := fun w' => w'.cell? ⟨wr.heap.size, 0, none⟩ = some (.int .i64 (n0 : Int)) ∧ w'.cell? ⟨wr.heap.size, 1, none⟩ = some (.int .i64 x1) ∧ w'.cell? ⟨wr.heap.size, 2, none⟩ = some (.string x2)) (by kernel_rfl) ⟨e0', e1', e2'⟩ (fun hHeld => ?_)
        refine tkA (i := 0) (v := .slice a' (j + 1) c') ?_ hHeld ?_
        · intro w9 hSw
          obtain ⟨z0, z1, z2⟩ := hSw
          go_simp
        simp only [Act.put, List.setIfInBounds_toArray, List.set_cons_zero, List.set_cons_succ]
        refine tkA (i := 1) (v := .string key) ?_ hHeld ?_
        · intro w9 hSw
          obtain ⟨z0, z1, z2⟩ := hSw
          go_simp
        simp only [Act.put, List.setIfInBounds_toArray, List.set_cons_zero, List.set_cons_succ]
        refine tkA (i := 2) (v := .pointer (some ⟨wr.heap.size, 0, none⟩)) ?_ hHeld ?_
        · intro w9 hSw
          obtain ⟨z0, z1, z2⟩ := hSw
          go_simp
        simp only [Act.put, List.setIfInBounds_toArray, List.set_cons_zero, List.set_cons_succ]
        refine tkA (i := 3) (v := .int .i64 (n0 : Int)) ?_ hHeld ?_
        · intro w9 hSw
          obtain ⟨z0, z1, z2⟩ := hSw
          go_simp
        simp only [Act.put, List.setIfInBounds_toArray, List.set_cons_zero, List.set_cons_succ]
        refine tkA (i := 5) (v := .pointer (some ⟨wr.heap.size, 1, none⟩)) ?_ hHeld ?_
        · intro w9 hSw
          obtain ⟨z0, z1, z2⟩ := hSw
          go_simp
        simp only [Act.put, List.setIfInBounds_toArray, List.set_cons_zero, List.set_cons_succ]
        refine tkA (i := 6) (v := .int .i64 x1) ?_ hHeld ?_
        · intro w9 hSw
          obtain ⟨z0, z1, z2⟩ := hSw
          go_simp
        simp only [Act.put, List.setIfInBounds_toArray, List.set_cons_zero, List.set_cons_succ]
        refine tkA (i := 8) (v := .pointer (some ⟨wr.heap.size, 2, none⟩)) ?_ hHeld ?_
        · intro w9 hSw
          obtain ⟨z0, z1, z2⟩ := hSw
          go_simp
        simp only [Act.put, List.setIfInBounds_toArray, List.set_cons_zero, List.set_cons_succ]
        refine tkA (i := 9) (v := .string x2) ?_ hHeld ?_
        · intro w9 hSw
          obtain ⟨z0, z1, z2⟩ := hSw
          go_simp
        simp only [Act.put, List.setIfInBounds_toArray, List.set_cons_zero, List.set_cons_succ]
        refine wpAnyH_ready (rs := [4]) (by kernel_rfl) (by simp) ?_
        refine AllReadyH.cons rfl (fun K hK => ?_) AllReadyH.nil
        go_simp
        refine (CK _ (HG.out.below H8.out (BQ.out.trans (((Below.refl w1.heap.size w1).drew).mono BQ.out.size)))).mono ?_
        rintro e wa1 ⟨rfl, hb1⟩
        dsimp only
        have B1 : Hid (Below w1.heap.size w1 wa1) := Below.trans ((Below.refl w1.heap.size w1).drew) (hb1.mono ((Below.refl w1.heap.size w1).drew).size)
        have X1 : Hid (Box wa1 wr.heap.size [.int .i64 (n0 : Int), .int .i64 x1, .string x2]) := XQ.out.below B1.out
        clear hb1
        refine hK _ _ ⟨(X1.out 0 _ rfl).1, (X1.out 1 _ rfl).1, (X1.out 2 _ rfl).1⟩ (fun hHeld => ?_)
        clear hK K
        refine wpAnyH_ready (rs := [7]) (by kernel_rfl) (by simp) ?_
        refine AllReadyH.cons rfl (fun K hK => ?_) AllReadyH.nil
        go_simp
        refine (CD _ (HG.out.below H8.out (BQ.out.trans ((B1.out).mono BQ.out.size)))).mono ?_
        rintro e wa2 ⟨rfl, hb2⟩
        dsimp only
        have B2 : Hid (Below w1.heap.size w1 wa2) := Below.trans (B1.out) (hb2.mono (B1.out).size)
        have X2 : Hid (Box wa2 wr.heap.size [.int .i64 (n0 : Int), .int .i64 x1, .string x2]) := XQ.out.below B2.out
        clear hb2
        refine hK _ _ ⟨(X2.out 0 _ rfl).1, (X2.out 1 _ rfl).1, (X2.out 2 _ rfl).1⟩ (fun hHeld => ?_)
        clear hK K
        refine tkA (i := 10) (v := .string (TD ++ x2)) ?_ hHeld ?_
        · intro w9 hSw
          obtain ⟨z0, z1, z2⟩ := hSw
          go_simp
          omega
        simp only [Act.put, List.setIfInBounds_toArray, List.set_cons_zero, List.set_cons_succ]
        refine tkA (i := 11) (v := .agg #[.string TK, .string (TD ++ x2)]) ?_ hHeld ?_
        · intro w9 hSw
          obtain ⟨z0, z1, z2⟩ := hSw
          go_simp
        simp only [Act.put, List.setIfInBounds_toArray, List.set_cons_zero, List.set_cons_succ]
        refine wpAnyH_ready (rs := [12]) (by kernel_rfl) (by simp) ?_
        refine AllReadyH.cons rfl (fun K hK => ?_) AllReadyH.nil
        go_simp
        have A3 : Hid (Below w1.heap.size w1 (wa2.alloc (.cells #[.string TK, .string (TD ++ x2)] 68))) := Below.alloc (B2.out) (B2.out).size _
        have X3 : Hid (Box (wa2.alloc (.cells #[.string TK, .string (TD ++ x2)] 68)) wr.heap.size [.int .i64 (n0 : Int), .int .i64 x1, .string x2]) := XQ.out.below A3.out
        refine hK _ _ ⟨(X3.out 0 _ rfl).1, (X3.out 1 _ rfl).1, (X3.out 2 _ rfl).1⟩ (fun hHeld => ?_)
        clear hK K
        refine wpAnyH_ready (rs := [13]) (by kernel_rfl) (by simp) ?_
        refine AllReadyH.cons rfl (fun K hK => ?_) AllReadyH.nil
        refine step_append_src rfl (.tmp 26) (.tmp 38) 23 rfl (w.heap.size + 1) 68 (.agg #[.string ⟨#[]⟩, .string ⟨#[]⟩]) 2 32 Tryz.underlying23 infoP rfl (by decide) (by decide) (.slice a' (j + 1) c') (j + 1) (cellsP ((key, MT) :: (Ms.take j).map (mailP u nm))) (by rfl) (own_below OQ.out A3.out) ⟨wa2.heap.size, 0, none⟩ 1 1 (cellsP [(TK, TD ++ x2)]) (by rfl) (by rfl) (src_oneP rfl) (cellsP_one _) (by omega) (by omega) (by have h9 := A3.out.size; have h7 := ZQ.out; show w.heap.size + 1 ≤ (wa2.alloc (.cells #[.string TK, .string (TD ++ x2)] 68)).heap.size; omega) ?_
        intro v6 w6 hown6 hgrow6 hloc6
        obtain ⟨a6, c6, rfl, _, hl6⟩ := own_src hown6
        have B4 : Hid (Below w.heap.size w w6) := (BQ.out.trans (A3.out.mono BQ.out.size)).grown hgrow6 (by have h9 := A3.out.size; have h7 := ZQ.out; show w.heap.size ≤ (wa2.alloc (.cells #[.string TK, .string (TD ++ x2)] 68)).heap.size; omega) (fun g h9 => by have h7 := (OQ.out.lt g h9).1; omega)
        have Z4 : Hid (w.heap.size < w6.heap.size) := by have h9 := hgrow6.size; have h8 := A3.out.size; have h7 := ZQ.out; have h6 : (wa2.alloc (.cells #[.string TK, .string (TD ++ x2)] 68)).heap.size ≤ w6.heap.size := h9; show _ < _; omega
        have X4 : Hid (Box w6 wr.heap.size [.int .i64 (n0 : Int), .int .i64 x1, .string x2]) := Box.grown (w := (wa2.alloc (.cells #[.string TK, .string (TD ++ x2)] 68))) X3.out hgrow6 (fun h9 => by
          have h7 := HRB.out _ h9
          omega)
        have O4 : Hid (w6.ownsRow (w.heap.size + 1) 68 2 (.slice a6 (j + 1 + 1) c6) (j + 1 + 1) (cellsP ((key, MT) :: (Ms.take (j + 1)).map (mailP u nm)))) := by
          show w6.ownsRow _ _ _ _ _ _
          rw [HTK.out, HMP.out, ← List.cons_append, cellsP_append]
          exact hown6
        clear hown6 hgrow6 hloc6 hl6
        refine hK _ _ ⟨(X4.out 0 _ rfl).1, (X4.out 1 _ rfl).1, (X4.out 2 _ rfl).1⟩ (fun hHeld => ?_)
        clear hK K
        refine wpAnyH_ready (rs := [14]) (by kernel_rfl) (by simp) ?_
        refine AllReadyH.cons rfl (fun K hK => ?_) AllReadyH.nil
        go_simp
        refine hK _ _ ⟨(X4.out 0 _ rfl).1, (X4.out 1 _ rfl).1, (X4.out 2 _ rfl).1⟩ (fun hHeld => ?_)
        clear hK K
        refine wpAnyH_done (by kernel_rfl) ?_ _
        refine NoPanic.normal ?_
        clear hHeld
        go_wp2_with fail
        exact ⟨⟨j + 1, _, _, by omega, rfl, by go_num, O4.out, B4.out, Z4.out⟩, by simp [RowKit.intOf]; omega⟩
      · obtain rfl : j = ml := by omega
        have hltj : ¬ (j : Int) < (j : Int) := by omega
        have HFO : Hid (wr.ownsRow w.heap.size 68 2 (.slice a' (j + 1) c') (j + 1) (cellsP (fPairs u f))) := by
          show wr.ownsRow _ _ _ _ _ _
          rw [HFP.out]
          have h9 := ho.out
          rw [List.take_of_length_le (by rw [HL.out]; exact Nat.le_refl _)] at h9
          exact own_mono h9 (by omega)
        clear ho
        go_wp2_with fail
        go_ret
        exact ⟨_, rfl, HFO.out, hbr.out⟩
def wordL (u wd : ByteArray) : List PM := if wd.toList = [] then [] else [(userK u, wd)]
abbrev flatF (u : ByteArray) (fs : List FM) : List PM := fs.flatMap (fPairs u)
def deskX (u : ByteArray) (S : SM) : List PM := S.aside ++ (wordL u S.word ++ flatF u S.fs)
abbrev notK (k : ByteArray) (L : List PM) : List PM := L.filter fun p => decide (p.1 ≠ k)
/-- What a desk's pairs gives, ahead of the sorting. -/
def deskP (nx : Int) (u : ByteArray) (S : SM) : List PM := (vK, bs (itoa nx)) :: (userK u, S.word) :: (notK vK S.aside ++ flatF u S.fs)
def dropF (n : ByteArray) : List FM → List FM
  | [] => []
  | f :: fs => if f.name = n then fs else f :: dropF n fs
theorem put_none {g : FM} : ∀ {fs : List FM}, lookF g.name fs = none → putF g fs = fs ++ [g]
  | [], _ => rfl
  | f :: fs, h => by
    unfold lookF at h
    by_cases e : f.name = g.name
    · rw [if_pos e] at h; cases h
    · rw [if_neg e] at h
      unfold putF
      rw [if_neg e, put_none h]
      rfl
theorem put_perm {g f : FM} : ∀ {fs : List FM}, lookF g.name fs = some f → (putF g fs).Perm (g :: dropF g.name fs)
  | [], h => by cases h
  | x :: fs, h => by
    unfold lookF at h
    unfold putF dropF
    by_cases e : x.name = g.name
    · rw [if_pos e, if_pos e]
    · rw [if_neg e] at h
      rw [if_neg e, if_neg e]
      exact (List.Perm.cons x (put_perm h)).trans (List.Perm.swap _ _ _)
theorem drop_perm {n : ByteArray} {f : FM} : ∀ {fs : List FM}, lookF n fs = some f → fs.Perm (f :: dropF n fs)
  | [], h => by cases h
  | x :: fs, h => by
    unfold lookF at h
    unfold dropF
    by_cases e : x.name = n
    · rw [if_pos e] at h
      cases h
      rw [if_pos e]
    · rw [if_neg e] at h
      rw [if_neg e]
      exact (List.Perm.cons x (drop_perm h)).trans (List.Perm.swap _ _ _)
theorem flat_perm {u : ByteArray} {fs gs : List FM} (h : fs.Perm gs) : (flatF u fs).Perm (flatF u gs) := List.Perm.flatMap_right _ h
theorem flat_cons (u : ByteArray) (f : FM) (fs : List FM) : flatF u (f :: fs) = fPairs u f ++ flatF u fs := List.flatMap_cons
theorem digit_one {c : UInt8} (h : 48 ≤ (c.toNat : Int)) (h2 : (c.toNat : Int) ≤ 51) : itoa ((c.toNat : Int) - 48) = [c] := by
  unfold itoa
  rw [if_neg (by omega)]
  unfold decDigits
  rw [dif_pos (by omega)]
  have e : 48 + ((c.toNat : Int) - 48).toNat = c.toNat := by omega
  rw [e]
  simp
theorem mailV_back {v : ByteArray} {n : Int} (h1 : 1 ≤ v.size) (h : 48 ≤ hdV v) (h2 : hdV v ≤ 51) : mailV (n, hdV v - 48, v.extract 1 v.size) = v := by
  unfold mailV
  unfold hdV at h h2 ⊢
  apply bs_inj
  have hne : v.data.toList ≠ [] := fun e => by
    have h9 : v.data.toList.length = v.size := by simp
    rw [e] at h9
    simp at h9
    omega
  match hv : v.data.toList, hne with
  | c :: r, _ =>
    rw [hv] at h h2
    have h' : 48 ≤ (c.toNat : Int) := h
    have h2' : (c.toNat : Int) ≤ 51 := h2
    rw [ByteArray.data_append]
    simp only [Array.toList_append]
    show (bs (itoa ((c.toNat : Int) - 48))).data.toList ++ (v.extract 1 v.size).data.toList = c :: r
    rw [digit_one h' h2', ByteArray.data_extract]
    show [c] ++ (v.data.extract 1 v.size).toList = c :: r
    rw [Array.toList_extract, hv]
    have h9 : v.size = (c :: r).length := by rw [← hv]; simp
    rw [h9]
    simp [List.extract]
theorem mail_pairs {u : ByteArray} {f : FM} {d : List UInt8} {q : PM} {un : Nat} (hd : decFrom 0 d = some un) (hl : d.length = 3) (h1 : 1 ≤ q.2.size) (h2 : 48 ≤ hdV q.2) (h3 : hdV q.2 ≤ 51)
    (hk : q.1.data.toList = 109 :: 47 :: (u.data.toList ++ 47 :: (f.name.data.toList ++ 47 :: d))) : fPairs u (mailU f un q.2) = fPairs u f ++ [q] := by
  obtain ⟨_, hd3⟩ := d3_back hl hd
  unfold fPairs mailU
  simp only [List.map_append, List.map_cons, List.map_nil]
  rw [List.cons_append]
  congr 2
  congr 1
  refine Prod.ext ?_ (mailV_back h1 h2 h3)
  apply bs_inj
  rw [hk, hd3]
  rfl
theorem up_mem {X Y : List PM} (hX : UpL X) (hY : UpL Y) (h : ∀ q, q ∈ X ↔ q ∈ Y) : X = Y := by
  induction X generalizing Y with
  | nil =>
    cases Y with
    | nil => rfl
    | cons y Y => exact absurd ((h y).2 List.mem_cons_self) (by simp)
  | cons x X ih =>
    cases Y with
    | nil => exact absurd ((h x).1 List.mem_cons_self) (by simp)
    | cons y Y =>
      have hx := List.pairwise_cons.1 hX
      have hy := List.pairwise_cons.1 hY
      have e : x = y := by
        rcases List.mem_cons.1 ((h x).1 List.mem_cons_self) with e | e
        · exact e
        · rcases List.mem_cons.1 ((h y).2 List.mem_cons_self) with e2 | e2
          · exact e2.symm
          · exact absurd (bl_trans _ _ _ (hy.1 x e) (hx.1 y e2)) (ltK_irrefl _)
      subst e
      rw [ih hx.2 hy.2 fun q => ?_]
      constructor
      · intro hq
        rcases List.mem_cons.1 ((h q).1 (List.mem_cons_of_mem _ hq)) with e | e
        · subst e
          exact absurd (hx.1 q hq) (ltK_irrefl _)
        · exact e
      · intro hq
        rcases List.mem_cons.1 ((h q).2 (List.mem_cons_of_mem _ hq)) with e | e
        · subst e
          exact absurd (hy.1 q hq) (ltK_irrefl _)
        · exact e
theorem up_perm {X Y : List PM} (hX : UpL X) (hY : UpL Y) (h : X.Perm Y) : X = Y := up_mem hX hY fun _ => h.mem_iff
theorem take_perm {nx : Int} {u : ByteArray} {L P R : List PM} {q : PM} {S S' : SM} (hnx : nx ≤ 10000) (hu : UpL L) (hL : L = P ++ q :: R) (hus : (47 : UInt8) ∉ u.data.toList) (hI : Inv nx u P S) (hW : S.word.toList = [] ∨ ∃ z ∈ P, z.1 = userK u) (h : takeM nx u S q = some S') : (deskX u S').Perm (deskX u S ++ [q]) := by
  have hpq : ∀ z ∈ P, ltK z.1 q.1 := fun z hz => by
    rw [hL] at hu
    exact (List.pairwise_append.1 hu).2.2 z hz q List.mem_cons_self
  by_cases ho : ownerM q = some u
  · unfold takeM at h
    unfold ownerM at ho
    match hG : splitL 47 q.1.data.toList, ho with
    | [a, b], ho =>
      obtain ⟨h1, h2⟩ := ite_some ho
      subst h1
      have h3 : takeP nx u S q [[117], b] = userM u S q.2 := if_pos ⟨h2, rfl⟩
      rw [hG, h3] at h
      obtain ⟨h4, rfl⟩ := ite_some h
      have hk := (key_user hG).1
      rw [h2] at hk
      have hw : S.word.toList = [] := by
        rcases hW with hW | ⟨z, hz, hz2⟩
        · exact hW
        · have h9 := hpq z hz
          rw [hz2, hk] at h9
          exact absurd h9 (ltK_irrefl _)
      have hs : q.2.toList ≠ [] := fun e => by
        rw [Bool.and_eq_true] at h4
        have h9 := short_ne (b := q.2.data.toList) (by rw [data_bs]; exact h4.2)
        exact h9 (by rw [← ByteArray.toList_eq]; exact e)
      unfold deskX
      show (S.aside ++ (wordL u q.2 ++ flatF u S.fs)).Perm _
      unfold wordL
      rw [if_pos hw, if_neg hs, List.nil_append, List.append_assoc]
      refine List.Perm.append_left _ ?_
      have hqe : (userK u, q.2) = q := Prod.ext hk.symm rfl
      rw [hqe]
      exact (List.perm_append_comm (l₁ := [q]))
    | [a, b, c], ho =>
      obtain ⟨h1, h2⟩ := ite_some ho
      subst h1
      have h3 : takeP nx u S q [[102], b, c] = putM S (folderM nx (bs c) q.2) := if_pos ⟨h2, rfl⟩
      rw [hG, h3] at h
      obtain ⟨hk, hnb, hnc⟩ := key_folder hG
      rw [h2] at hk
      unfold putM at h
      obtain ⟨g, hg, rfl⟩ := Option.map_eq_some_iff.1 h
      have hgf := (folder_meta hnx).1 hg
      have hgn : g.name = bs c := by rw [hgf.2.2.2]
      have hno : lookF g.name S.fs = none := by
        rw [hgn]
        cases hl : lookF (bs c) S.fs with
        | none => rfl
        | some f' =>
          obtain ⟨w, f, k1, _⟩ := hI.a _ _ hl
          have k3 := hpq _ k1
          rw [hk] at k3
          exact absurd k3 (ltK_irrefl _)
      have hgp : fPairs u g = [q] := by
        have hm : g.mails = [] := by rw [hgf.2.2.2]
        unfold fPairs
        rw [hm, hgn]
        simp only [List.map_nil]
        congr 1
        exact Prod.ext hk.symm (meta_text hgf.2.1).symm
      unfold deskX
      show (S.aside ++ (wordL u S.word ++ flatF u (putF g S.fs))).Perm _
      rw [put_none hno]
      unfold flatF
      rw [List.flatMap_append, List.flatMap_cons, List.flatMap_nil, hgp, List.append_nil, List.append_assoc, List.append_assoc]
    | [a, b, c, d], ho =>
      obtain ⟨h1, h2⟩ := ite_some ho
      subst h1
      have h3 : takeP nx u S q [[109], b, c, d] = putM S (mailM S.fs (bs c) (bs d) q.2) := if_pos ⟨h2, rfl⟩
      rw [hG, h3] at h
      obtain ⟨hk, hnb, hnc⟩ := key_mail hG
      unfold putM mailM at h
      obtain ⟨g, hg, rfl⟩ := Option.map_eq_some_iff.1 h
      obtain ⟨f', hl, hg2⟩ := Option.bind_eq_some_iff.1 hg
      obtain ⟨un, m1, m2, m3, m4, m5, m6, m7, m8, hgm⟩ := mailO_some hg2
      have hfn := (lookF_mem hl).2
      have hgn : g.name = f'.name := by rw [hgm]; rfl
      have hub : u.data.toList = b := by rw [← h2]; simp [bs]
      have hpp : fPairs u g = fPairs u f' ++ [q] := by
        rw [hgm]
        refine mail_pairs m1 m2 m3 m5 m6 ?_
        rw [hk, hub, hfn]
        simp [bs]
      have hl2 : lookF g.name S.fs = some f' := by rw [hgn, hfn]; exact hl
      unfold deskX
      show (S.aside ++ (wordL u S.word ++ flatF u (putF g S.fs))).Perm _
      rw [List.append_assoc, List.append_assoc]
      refine List.Perm.append_left _ (List.Perm.append_left _ ?_)
      refine (flat_perm (put_perm hl2)).trans ?_
      refine List.Perm.trans ?_ (List.Perm.append_right [q] (flat_perm (drop_perm hl2)).symm)
      rw [flat_cons, flat_cons, hpp, List.append_assoc, List.append_assoc]
      exact List.Perm.append_left _ List.perm_append_comm
  · have ht : takeM nx u S q = asideM S q := take_other ho
    rw [ht] at h
    cases h
    unfold deskX
    show (S.aside ++ [q] ++ (wordL u S.word ++ flatF u S.fs)).Perm _
    rw [List.append_assoc, List.append_assoc]
    exact List.Perm.append_left _ List.perm_append_comm
theorem all_perm {nx : Int} {u : ByteArray} {L : List PM} (hnx : nx ≤ 10000) (hu : UpL L) (hus : (47 : UInt8) ∉ u.data.toList) : ∀ (R P : List PM) (S S' : SM), L = P ++ R → Inv nx u P S → (S.word.toList = [] ∨ ∃ z ∈ P, z.1 = userK u) → takeAll nx u S R = some S' → (deskX u S').Perm (deskX u S ++ R)
  | [], P, S, S', hL, hI, hW, h => by
    cases h
    rw [List.append_nil]
  | q :: R, P, S, S', hL, hI, hW, h => by
    have hL2 : L = (P ++ [q]) ++ R := by rw [hL]; simp
    unfold takeAll at h
    obtain ⟨S1, h1, h2⟩ := Option.bind_eq_some_iff.1 h
    have hI2 : Inv nx u (P ++ [q]) S1 := by
      by_cases ho : ownerM q = some u
      · exact (take_step hnx hu hL hus hI ho).2 S1 h1
      · have ht : takeM nx u S q = asideM S q := take_other ho
        rw [ht] at h1
        exact aside_step hus hI ho h1
    have hW2 : S1.word.toList = [] ∨ ∃ z ∈ P ++ [q], z.1 = userK u := by
      rw [take_word hus h1]
      by_cases e : q.1 = userK u
      · exact .inr ⟨q, by simp, e⟩
      · rw [if_neg e]
        rcases hW with hW | ⟨z, hz, hz2⟩
        · exact .inl hW
        · exact .inr ⟨z, List.mem_append_left _ hz, hz2⟩
    have h3 := all_perm hnx hu hus R (P ++ [q]) S1 S' hL2 hI2 hW2 h2
    refine h3.trans ?_
    have h4 := List.Perm.append_right R (take_perm hnx hu hL hus hI hW h1)
    rw [List.append_assoc] at h4
    exact h4
theorem take_desk {L : List PM} {u : ByteArray} {S : SM} (h : storeB L = true) (hus : (47 : UInt8) ∉ u.data.toList) (hS : takeAll (nextM L) u S0 L = some S) : (deskX u S).Perm L := by
  obtain ⟨hg, nx0, hnm, n1, n2, _, _, _⟩ := store_facts h
  have hI : Inv (nextM L) u [] S0 := ⟨fun name f' hf => (by cases hf), fun name w _ hm => (by cases hm), rfl⟩
  have h1 := all_perm (nx := nextM L) (by omega) hg.2.2 hus L [] S0 S rfl hI (.inl (by rw [ByteArray.toList_eq])) hS
  have h2 : deskX u S0 = [] := by
    unfold deskX wordL
    rw [if_pos (by rw [ByteArray.toList_eq])]
    rfl
  rw [h2, List.nil_append] at h1
  exact h1
end Go.Proofs.YthgbclipknfmjaaGreatDoor
namespace Go.Proofs.YthgbclipknfmjaaGreatDoor
open Go.ChangeShapes Go.WideShapes Go.ChangeAt Go.RowKit Go.Deep
set_option linter.unusedVariables false
set_option maxRecDepth 100000

/-- The pairs L lie at a place. -/
def SrcP (w : World) (b o : Nat) (L : List (ByteArray × ByteArray)) : Prop :=
  ∀ i, i < L.length → w.cell? ⟨b, o + i * 2, none⟩ = some (.string (fstL L i)) ∧ w.cell? ⟨b, o + i * 2 + 1, none⟩ = some (.string (sndL L i))
theorem SrcP.below {w w' : World} {b o : Nat} {L : List (ByteArray × ByteArray)} (h : SrcP w b o L) (hb : Below w.heap.size w w') : SrcP w' b o L := fun i hi => by
  obtain ⟨h1, h2⟩ := h i hi
  exact ⟨cell_later hb h1, cell_later hb h2⟩
theorem SrcP.take {w : World} {b o : Nat} {L : List (ByteArray × ByteArray)} (h : SrcP w b o L) (l : Nat) : SrcP w b o (L.take l) := fun i hi => by
  rw [List.length_take] at hi
  have h1 := h i (by omega)
  have e : (L.take l).getD i pe = L.getD i pe := by rw [List.getD_eq_getElem?_getD, List.getElem?_take, if_pos (by omega), ← List.getD_eq_getElem?_getD]
  unfold fstL sndL at *
  rw [e]; exact h1
theorem SrcP.drop {w : World} {b o : Nat} {L : List (ByteArray × ByteArray)} (h : SrcP w b o L) (l : Nat) : SrcP w b (o + l * 2) (L.drop l) := fun i hi => by
  rw [List.length_drop] at hi
  have h1 := h (l + i) (by omega)
  have e : (L.drop l).getD i pe = L.getD (l + i) pe := by rw [List.getD_eq_getElem?_getD, List.getElem?_drop, ← List.getD_eq_getElem?_getD]
  unfold fstL sndL at *
  rw [e, show o + l * 2 + i * 2 = o + (l + i) * 2 from by omega]; exact h1
theorem SrcP.news {w : World} {b o : Nat} {L : List (ByteArray × ByteArray)} (h : SrcP w b o L) : ∀ j u, (cellsP L)[j]? = some u → w.cell? ((⟨b, o, none⟩ : Addr).add j) = some u := fun j u hu => by
  have hj : j < (cellsP L).length := (List.getElem?_eq_some_iff.1 hu).1
  rw [cellsP_length] at hj
  rw [add_plain]
  obtain ⟨c1, c2⟩ := cellsP_get L (j / 2) (by omega)
  obtain ⟨h1, h2⟩ := h (j / 2) (by omega)
  by_cases e : j % 2 = 0
  · rw [show j / 2 * 2 = j from by omega] at c1 h1
    rw [hu] at c1; rw [h1]; exact c1.symm
  · rw [show j / 2 * 2 + 1 = j from by omega] at c2
    rw [show o + j / 2 * 2 + 1 = o + j from by omega] at h2
    rw [hu] at c2; rw [h2]; exact c2.symm
def listP (f g : Nat → ByteArray) (n : Nat) : List (ByteArray × ByteArray) := (List.range n).map fun i => (f i, g i)
theorem listP_length (f g : Nat → ByteArray) (n : Nat) : (listP f g n).length = n := by simp [listP]
theorem listP_get (f g : Nat → ByteArray) (n i : Nat) (h : i < n) : (listP f g n).getD i pe = (f i, g i) := by
  rw [List.getD_eq_getElem?_getD]; simp [listP, h]
theorem src_of {w : World} {b o n : Nat} {f g : Nat → ByteArray} (h : Sp w (some ⟨b, o, none⟩) n f g) : SrcP w b o (listP f g n) := fun i hi => by
  rw [listP_length] at hi
  rcases h with h0 | ⟨b', o', e, hc⟩
  · omega
  · cases e
    have h1 := hc i hi
    unfold fstL sndL
    rw [listP_get f g n i hi]; exact h1
/-- A list that is given to append, written behind what is owned. -/
theorem OwnsP.more {w' : World} {base : Nat} {v' : Value} {L M : List (ByteArray × ByteArray)} {m : Nat} (hm : M.length = m) (h : w'.ownsRow base 68 2 v' (L.length + m) (cellsP L ++ cellsP M)) : OwnsP w' base v' (L ++ M) := by
  unfold OwnsP
  rw [List.length_append, cellsP_append, hm]; exact h

theorem OwnsP.one {w' : World} {base : Nat} {v' : Value} {L : List (ByteArray × ByteArray)} {x y : ByteArray} (h : w'.ownsRow base 68 2 v' (L.length + 1) (cellsP L ++ [.string x, .string y])) : OwnsP w' base v' (L ++ [(x, y)]) :=
  OwnsP.more (M := [(x, y)]) (m := 1) rfl h
theorem OwnsP.mk {w' : World} {base : Nat} {v' : Value} {L : List (ByteArray × ByteArray)} {m : Nat} (hm : (cellsP L).length = m * 2) (h : w'.ownsRow base 68 2 v' m (cellsP L)) : OwnsP w' base v' L := by
  unfold OwnsP
  rw [cellsP_length] at hm
  rw [show L.length = m from by omega]; exact h
theorem two_newP (wr : World) (x y : ByteArray) (j : Nat) (u : Value) (h : [Value.string x, .string y][j]? = some u) :
    (wr.alloc (.cells #[.string x, .string y] 68)).cell? ((⟨wr.heap.size, 0, none⟩ : Addr).add j) = some u := by
  match j, h with
  | 0, h => simp at h; subst h; simp [Addr.add]
  | 1, h => simp at h; subst h; simp [Addr.add]

/-- What put leaves: val at key. -/
def putL (f g : Nat → ByteArray) (n : Nat) (key val : ByteArray) (p : Nat) : List (ByteArray × ByteArray) :=
  (listP f g n).take p ++ [(key, val)] ++ (listP f g n).drop (if hitB f n key p = true then p + 1 else p)
/-- Where the rest of a list begins. -/
def restO (o n q : Nat) : Nat := if n = q then o else o + q * 2
theorem rest_src {w : World} {b o n : Nat} {L : List (ByteArray × ByteArray)} (h : SrcP w b o L) (hl : L.length = n) (q : Nat) (hq : q ≤ n) : SrcP w b (restO o n q) (L.drop q) := by
  unfold restO
  by_cases e : n = q
  · intro i hi
    rw [List.length_drop] at hi
    omega
  · rw [if_neg e]; exact h.drop q

set_option maxHeartbeats 1000000 in
theorem l01Put (b o n : Nat) (f g : Nat → ByteArray) (key val : ByteArray) (p : Nat) (w : World) (hn : n ≤ 4096) (hp : IsPlace f n key p) (h : Sp w (some ⟨b, o, none⟩) n f g) :
    Calls Tryz.prog 93 #[.slice (some ⟨b, o, none⟩) n n, .string key, .string val] w fun e w' => ∃ v, e = .returned v ∧ OwnsP w' w.heap.size v (putL f g n key val p) ∧ Below w.heap.size w w' := by
  obtain ⟨i0, hi, hz0, hz1, hz2⟩ := infoPair'
  have HH : Hid (Sp w (some ⟨b, o, none⟩) n f g) := h
  have HP : Hid (IsPlace f n key p) := hp
  have HI : Hid (Tryz.prog.info? 68 = some i0) := hi
  have HZ0 : Hid (i0.zero = some (.agg #[.string ⟨#[]⟩, .string ⟨#[]⟩])) := hz0
  have HZ1 : Hid (i0.size = 2) := hz1
  have HZ2 : Hid (i0.bytes = 32) := hz2
  have hpn := hp.1
  clear h hp hi hz0 hz1 hz2
  by_cases hn0 : n = 0
  · subst hn0
    have hp0 : p = 0 := by omega
    subst hp0
    have HT : Hid (hitB f 0 key 0 = false) := by show hitB f 0 key 0 = false; rfl
    have T0 : Hid (((listP f g 0).take 0).length = 0) := by show ((listP f g 0).take 0).length = 0; have := List.length_take (i := 0) (l := listP f g 0); rw [listP_length] at this; omega
    have T1 : Hid ((cellsP ((listP f g 0).take 0)).length = 0 * 2) := by show (cellsP ((listP f g 0).take 0)).length = 0 * 2; rw [cellsP_length, T0.out]
    have T2 : Hid (((listP f g 0).take 0).length = 0) := T0
    have T5 : Hid (((listP f g 0).drop 0).length = 0) := by show ((listP f g 0).drop 0).length = 0; have := List.length_drop (i := 0) (l := listP f g 0); rw [listP_length] at this; omega
    have T3 : Hid ((cellsP ((listP f g 0).drop 0)).length = 0 * 2) := by show (cellsP ((listP f g 0).drop 0)).length = 0 * 2; rw [cellsP_length, T5.out]
    have T4 : Hid (((listP f g 0).take 0 ++ [(key, val)]).length = 0 + 1) := by show ((listP f g 0).take 0 ++ [(key, val)]).length = 0 + 1; rw [List.length_append, T0.out]; rfl
    have Q1 : Hid (((listP f g 0).take 0).length + 1 ≤ maxLen) := by show ((listP f g 0).take 0).length + 1 ≤ maxLen; rw [T0.out]; unfold maxLen; omega
    have Q2 : Hid ((((listP f g 0).take 0).length + 1) * 32 ≤ 140737488355328) := by show (((listP f g 0).take 0).length + 1) * 32 ≤ 140737488355328; rw [T0.out]; omega
    have Q3 : Hid (((listP f g 0).take 0 ++ [(key, val)]).length + 0 ≤ maxLen) := by show ((listP f g 0).take 0 ++ [(key, val)]).length + 0 ≤ maxLen; rw [T4.out]; unfold maxLen; omega
    have Q4 : Hid ((((listP f g 0).take 0 ++ [(key, val)]).length + 0) * 32 ≤ 140737488355328) := by show (((listP f g 0).take 0 ++ [(key, val)]).length + 0) * 32 ≤ 140737488355328; rw [T4.out]; omega
    have S0 : Hid (SrcP w b o (listP f g 0)) := src_of HH.out
    have N1 : Hid (∀ j u, (cellsP ((listP f g 0).take 0))[j]? = some u → (w.alloc (.cells #[] 68)).cell? ((⟨b, o, none⟩ : Addr).add j) = some u) := ((S0.out.take 0).below ((Below.refl _ _).alloc (Nat.le_refl _) _)).news
    have N3 : Hid (SrcP w b o ((listP f g 0).drop 0)) := by
      have h9 := rest_src S0.out (listP_length f g 0) 0 (by omega)
      unfold restO at h9
      first | (rw [if_pos (by omega)] at h9; exact h9) | (rw [if_neg (by omega)] at h9; exact h9)
    have EL : Hid (putL f g 0 key val 0 = (listP f g 0).take 0 ++ [(key, val)] ++ (listP f g 0).drop 0) := by show putL f g 0 key val 0 = _; unfold putL; rw [HT.out]; rfl
    go_enter Tryz.func93, Tryz.ntmps93
    go_wp2_with (first | (go_at_call 136; refine (l01At _ 0 0 f g key 0 _ (by omega) HP.out HH.out).mono ?_; rintro e w' ⟨rfl, rfl⟩) | (at_builtin; refine wpList_append_own _ rfl (.tmp 41) (.tmp 42) 23 rfl w.heap.size 68 i0 (.agg #[.string ⟨#[]⟩, .string ⟨#[]⟩]) 2 32 Tryz.underlying23 HI.out HZ0.out HZ1.out HZ2.out rfl (by decide) _ _ _ rfl O2.out ⟨b, o, none⟩ 0 0 (cellsP ((listP f g 0).drop 0)) rfl T3.out (N3.out.below B2.out).news (cellsP_one _) Q3.out Q4.out B2.out.size ?_; intro v3 w3 hown3 hgrow3 _; have B3 : Hid (Below w.heap.size w w3) := B2.out.grown hgrow3 B2.out.size O2.out.block; have O3 : Hid (OwnsP w3 w.heap.size v3 ((listP f g 0).take 0 ++ [(key, val)] ++ (listP f g 0).drop 0)) := OwnsP.more T5.out hown3; clear hown3 hgrow3) | (at_builtin; refine wpList_append_own _ rfl (.tmp 36) (.tmp 40) 23 rfl w.heap.size 68 i0 (.agg #[.string ⟨#[]⟩, .string ⟨#[]⟩]) 2 32 Tryz.underlying23 HI.out HZ0.out HZ1.out HZ2.out rfl (by decide) _ _ _ rfl (O1.out.alloc _) ⟨w1.heap.size, 0, none⟩ 1 1 [.string key, .string val] rfl rfl (two_newP w1 key val) (two_oneP key val) Q1.out Q2.out (le_alloc B1.out.size _) ?_; intro v2 w2 hown2 hgrow2 _; have B2 : Hid (Below w.heap.size w w2) := (B1.out.alloc B1.out.size _).grown hgrow2 (le_alloc B1.out.size _) O1.out.block; have O2 : Hid (OwnsP w2 w.heap.size v2 ((listP f g 0).take 0 ++ [(key, val)])) := OwnsP.one hown2; clear hown2 hgrow2) | (at_builtin; refine wpList_append_own _ rfl (.tmp 32) (.tmp 35) 23 rfl w.heap.size 68 i0 (.agg #[.string ⟨#[]⟩, .string ⟨#[]⟩]) 2 32 Tryz.underlying23 HI.out HZ0.out HZ1.out HZ2.out rfl (by decide) _ 0 [] rfl (OwnsP.made w _ (Nat.le_refl _)) ⟨b, o, none⟩ 0 0 (cellsP ((listP f g 0).take 0)) rfl T1.out N1.out (cellsP_one _) (by unfold maxLen; omega) (by omega) (by simp) ?_; intro v1 w1 hown1 hgrow1 _; have B1 : Hid (Below w.heap.size w w1) := ((Below.refl _ _).alloc (Nat.le_refl _) _).grown hgrow1 (by simp) (fun k e => by cases e; exact Nat.le_refl _); have O1 : Hid (OwnsP w1 w.heap.size v1 ((listP f g 0).take 0)) := OwnsP.mk T1.out (by simpa using hown1); clear hown1 hgrow1))
    go_ret
    exact ⟨_, rfl, by rw [EL.out]; exact O3.out, B3.out⟩
  by_cases hlt : p < n
  · have hne : ¬ n = p := by omega
    have hi1 : (p : Int) < (n : Int) := by omega
    rcases HH.out with h0 | ⟨b', o', e, hc⟩
    · omega
    cases e
    obtain ⟨hc1, hc2⟩ := hc p hlt
    clear hc hc2
    cases hq : ((f p).toList == key.toList) with
    | false =>
      have HT : Hid (hitB f n key p = false) := by show hitB f n key p = false; unfold hitB; rw [hq, decide_eq_true hlt]; rfl
      have T0 : Hid (((listP f g n).take p).length = p) := by show ((listP f g n).take p).length = p; have := List.length_take (i := p) (l := listP f g n); rw [listP_length] at this; omega
      have T1 : Hid ((cellsP ((listP f g n).take p)).length = p * 2) := by show (cellsP ((listP f g n).take p)).length = p * 2; rw [cellsP_length, T0.out]
      have T2 : Hid (((listP f g n).take p).length = p) := T0
      have T5 : Hid (((listP f g n).drop p).length = (n - p)) := by show ((listP f g n).drop p).length = (n - p); have := List.length_drop (i := p) (l := listP f g n); rw [listP_length] at this; omega
      have T3 : Hid ((cellsP ((listP f g n).drop p)).length = (n - p) * 2) := by show (cellsP ((listP f g n).drop p)).length = (n - p) * 2; rw [cellsP_length, T5.out]
      have T4 : Hid (((listP f g n).take p ++ [(key, val)]).length = p + 1) := by show ((listP f g n).take p ++ [(key, val)]).length = p + 1; rw [List.length_append, T0.out]; rfl
      have Q1 : Hid (((listP f g n).take p).length + 1 ≤ maxLen) := by show ((listP f g n).take p).length + 1 ≤ maxLen; rw [T0.out]; unfold maxLen; omega
      have Q2 : Hid ((((listP f g n).take p).length + 1) * 32 ≤ 140737488355328) := by show (((listP f g n).take p).length + 1) * 32 ≤ 140737488355328; rw [T0.out]; omega
      have Q3 : Hid (((listP f g n).take p ++ [(key, val)]).length + (n - p) ≤ maxLen) := by show ((listP f g n).take p ++ [(key, val)]).length + (n - p) ≤ maxLen; rw [T4.out]; unfold maxLen; omega
      have Q4 : Hid ((((listP f g n).take p ++ [(key, val)]).length + (n - p)) * 32 ≤ 140737488355328) := by show (((listP f g n).take p ++ [(key, val)]).length + (n - p)) * 32 ≤ 140737488355328; rw [T4.out]; omega
      have S0 : Hid (SrcP w b o (listP f g n)) := src_of HH.out
      have N1 : Hid (∀ j u, (cellsP ((listP f g n).take p))[j]? = some u → (w.alloc (.cells #[] 68)).cell? ((⟨b, o, none⟩ : Addr).add j) = some u) := ((S0.out.take p).below ((Below.refl _ _).alloc (Nat.le_refl _) _)).news
      have N3 : Hid (SrcP w b (o + p * 2) ((listP f g n).drop p)) := by
        have h9 := rest_src S0.out (listP_length f g n) p (by omega)
        unfold restO at h9
        first | (rw [if_pos (by omega)] at h9; exact h9) | (rw [if_neg (by omega)] at h9; exact h9)
      have EL : Hid (putL f g n key val p = (listP f g n).take p ++ [(key, val)] ++ (listP f g n).drop p) := by show putL f g n key val p = _; unfold putL; rw [HT.out]; rfl
      go_enter Tryz.func93, Tryz.ntmps93
      go_wp2_with (first | (go_at_call 136; refine (l01At _ n n f g key p _ (by omega) HP.out HH.out).mono ?_; rintro e w' ⟨rfl, rfl⟩) | (at_builtin; refine wpList_append_own _ rfl (.tmp 41) (.tmp 42) 23 rfl w.heap.size 68 i0 (.agg #[.string ⟨#[]⟩, .string ⟨#[]⟩]) 2 32 Tryz.underlying23 HI.out HZ0.out HZ1.out HZ2.out rfl (by decide) _ _ _ rfl O2.out ⟨b, (o + p * 2), none⟩ (n - p) (n - p) (cellsP ((listP f g n).drop p)) rfl T3.out (N3.out.below B2.out).news (cellsP_one _) Q3.out Q4.out B2.out.size ?_; intro v3 w3 hown3 hgrow3 _; have B3 : Hid (Below w.heap.size w w3) := B2.out.grown hgrow3 B2.out.size O2.out.block; have O3 : Hid (OwnsP w3 w.heap.size v3 ((listP f g n).take p ++ [(key, val)] ++ (listP f g n).drop p)) := OwnsP.more T5.out hown3; clear hown3 hgrow3) | (at_builtin; refine wpList_append_own _ rfl (.tmp 36) (.tmp 40) 23 rfl w.heap.size 68 i0 (.agg #[.string ⟨#[]⟩, .string ⟨#[]⟩]) 2 32 Tryz.underlying23 HI.out HZ0.out HZ1.out HZ2.out rfl (by decide) _ _ _ rfl (O1.out.alloc _) ⟨w1.heap.size, 0, none⟩ 1 1 [.string key, .string val] rfl rfl (two_newP w1 key val) (two_oneP key val) Q1.out Q2.out (le_alloc B1.out.size _) ?_; intro v2 w2 hown2 hgrow2 _; have B2 : Hid (Below w.heap.size w w2) := (B1.out.alloc B1.out.size _).grown hgrow2 (le_alloc B1.out.size _) O1.out.block; have O2 : Hid (OwnsP w2 w.heap.size v2 ((listP f g n).take p ++ [(key, val)])) := OwnsP.one hown2; clear hown2 hgrow2) | (at_builtin; refine wpList_append_own _ rfl (.tmp 32) (.tmp 35) 23 rfl w.heap.size 68 i0 (.agg #[.string ⟨#[]⟩, .string ⟨#[]⟩]) 2 32 Tryz.underlying23 HI.out HZ0.out HZ1.out HZ2.out rfl (by decide) _ 0 [] rfl (OwnsP.made w _ (Nat.le_refl _)) ⟨b, o, none⟩ p n (cellsP ((listP f g n).take p)) rfl T1.out N1.out (cellsP_one _) (by unfold maxLen; omega) (by omega) (by simp) ?_; intro v1 w1 hown1 hgrow1 _; have B1 : Hid (Below w.heap.size w w1) := ((Below.refl _ _).alloc (Nat.le_refl _) _).grown hgrow1 (by simp) (fun k e => by cases e; exact Nat.le_refl _); have O1 : Hid (OwnsP w1 w.heap.size v1 ((listP f g n).take p)) := OwnsP.mk T1.out (by simpa using hown1); clear hown1 hgrow1))
      go_ret
      exact ⟨_, rfl, by rw [EL.out]; exact O3.out, B3.out⟩
    | true =>
      have HT : Hid (hitB f n key p = true) := by show hitB f n key p = true; unfold hitB; rw [hq, decide_eq_true hlt]; rfl
      by_cases hlast : n = p + 1
      · subst hlast
        have T0 : Hid (((listP f g (p + 1)).take p).length = p) := by show ((listP f g (p + 1)).take p).length = p; have := List.length_take (i := p) (l := listP f g (p + 1)); rw [listP_length] at this; omega
        have T1 : Hid ((cellsP ((listP f g (p + 1)).take p)).length = p * 2) := by show (cellsP ((listP f g (p + 1)).take p)).length = p * 2; rw [cellsP_length, T0.out]
        have T2 : Hid (((listP f g (p + 1)).take p).length = p) := T0
        have T5 : Hid (((listP f g (p + 1)).drop (p + 1)).length = 0) := by show ((listP f g (p + 1)).drop (p + 1)).length = 0; have := List.length_drop (i := (p + 1)) (l := listP f g (p + 1)); rw [listP_length] at this; omega
        have T3 : Hid ((cellsP ((listP f g (p + 1)).drop (p + 1))).length = 0 * 2) := by show (cellsP ((listP f g (p + 1)).drop (p + 1))).length = 0 * 2; rw [cellsP_length, T5.out]
        have T4 : Hid (((listP f g (p + 1)).take p ++ [(key, val)]).length = p + 1) := by show ((listP f g (p + 1)).take p ++ [(key, val)]).length = p + 1; rw [List.length_append, T0.out]; rfl
        have Q1 : Hid (((listP f g (p + 1)).take p).length + 1 ≤ maxLen) := by show ((listP f g (p + 1)).take p).length + 1 ≤ maxLen; rw [T0.out]; unfold maxLen; omega
        have Q2 : Hid ((((listP f g (p + 1)).take p).length + 1) * 32 ≤ 140737488355328) := by show (((listP f g (p + 1)).take p).length + 1) * 32 ≤ 140737488355328; rw [T0.out]; omega
        have Q3 : Hid (((listP f g (p + 1)).take p ++ [(key, val)]).length + 0 ≤ maxLen) := by show ((listP f g (p + 1)).take p ++ [(key, val)]).length + 0 ≤ maxLen; rw [T4.out]; unfold maxLen; omega
        have Q4 : Hid ((((listP f g (p + 1)).take p ++ [(key, val)]).length + 0) * 32 ≤ 140737488355328) := by show (((listP f g (p + 1)).take p ++ [(key, val)]).length + 0) * 32 ≤ 140737488355328; rw [T4.out]; omega
        have S0 : Hid (SrcP w b o (listP f g (p + 1))) := src_of HH.out
        have N1 : Hid (∀ j u, (cellsP ((listP f g (p + 1)).take p))[j]? = some u → (w.alloc (.cells #[] 68)).cell? ((⟨b, o, none⟩ : Addr).add j) = some u) := ((S0.out.take p).below ((Below.refl _ _).alloc (Nat.le_refl _) _)).news
        have N3 : Hid (SrcP w b o ((listP f g (p + 1)).drop (p + 1))) := by
          have h9 := rest_src S0.out (listP_length f g (p + 1)) (p + 1) (by omega)
          unfold restO at h9
          first | (rw [if_pos (by omega)] at h9; exact h9) | (rw [if_neg (by omega)] at h9; exact h9)
        have EL : Hid (putL f g (p + 1) key val p = (listP f g (p + 1)).take p ++ [(key, val)] ++ (listP f g (p + 1)).drop (p + 1)) := by show putL f g (p + 1) key val p = _; unfold putL; rw [HT.out]; rfl
        go_enter Tryz.func93, Tryz.ntmps93
        go_wp2_with (first | (go_at_call 136; refine (l01At _ (p + 1) (p + 1) f g key p _ (by omega) HP.out HH.out).mono ?_; rintro e w' ⟨rfl, rfl⟩) | (at_builtin; refine wpList_append_own _ rfl (.tmp 41) (.tmp 42) 23 rfl w.heap.size 68 i0 (.agg #[.string ⟨#[]⟩, .string ⟨#[]⟩]) 2 32 Tryz.underlying23 HI.out HZ0.out HZ1.out HZ2.out rfl (by decide) _ _ _ rfl O2.out ⟨b, o, none⟩ 0 0 (cellsP ((listP f g (p + 1)).drop (p + 1))) rfl T3.out (N3.out.below B2.out).news (cellsP_one _) Q3.out Q4.out B2.out.size ?_; intro v3 w3 hown3 hgrow3 _; have B3 : Hid (Below w.heap.size w w3) := B2.out.grown hgrow3 B2.out.size O2.out.block; have O3 : Hid (OwnsP w3 w.heap.size v3 ((listP f g (p + 1)).take p ++ [(key, val)] ++ (listP f g (p + 1)).drop (p + 1))) := OwnsP.more T5.out hown3; clear hown3 hgrow3) | (at_builtin; refine wpList_append_own _ rfl (.tmp 36) (.tmp 40) 23 rfl w.heap.size 68 i0 (.agg #[.string ⟨#[]⟩, .string ⟨#[]⟩]) 2 32 Tryz.underlying23 HI.out HZ0.out HZ1.out HZ2.out rfl (by decide) _ _ _ rfl (O1.out.alloc _) ⟨w1.heap.size, 0, none⟩ 1 1 [.string key, .string val] rfl rfl (two_newP w1 key val) (two_oneP key val) Q1.out Q2.out (le_alloc B1.out.size _) ?_; intro v2 w2 hown2 hgrow2 _; have B2 : Hid (Below w.heap.size w w2) := (B1.out.alloc B1.out.size _).grown hgrow2 (le_alloc B1.out.size _) O1.out.block; have O2 : Hid (OwnsP w2 w.heap.size v2 ((listP f g (p + 1)).take p ++ [(key, val)])) := OwnsP.one hown2; clear hown2 hgrow2) | (at_builtin; refine wpList_append_own _ rfl (.tmp 32) (.tmp 35) 23 rfl w.heap.size 68 i0 (.agg #[.string ⟨#[]⟩, .string ⟨#[]⟩]) 2 32 Tryz.underlying23 HI.out HZ0.out HZ1.out HZ2.out rfl (by decide) _ 0 [] rfl (OwnsP.made w _ (Nat.le_refl _)) ⟨b, o, none⟩ p (p + 1) (cellsP ((listP f g (p + 1)).take p)) rfl T1.out N1.out (cellsP_one _) (by unfold maxLen; omega) (by omega) (by simp) ?_; intro v1 w1 hown1 hgrow1 _; have B1 : Hid (Below w.heap.size w w1) := ((Below.refl _ _).alloc (Nat.le_refl _) _).grown hgrow1 (by simp) (fun k e => by cases e; exact Nat.le_refl _); have O1 : Hid (OwnsP w1 w.heap.size v1 ((listP f g (p + 1)).take p)) := OwnsP.mk T1.out (by simpa using hown1); clear hown1 hgrow1))
        go_ret
        exact ⟨_, rfl, by rw [EL.out]; exact O3.out, B3.out⟩
      · have hne2 : ¬ n = p + 1 := hlast
        have T0 : Hid (((listP f g n).take p).length = p) := by show ((listP f g n).take p).length = p; have := List.length_take (i := p) (l := listP f g n); rw [listP_length] at this; omega
        have T1 : Hid ((cellsP ((listP f g n).take p)).length = p * 2) := by show (cellsP ((listP f g n).take p)).length = p * 2; rw [cellsP_length, T0.out]
        have T2 : Hid (((listP f g n).take p).length = p) := T0
        have T5 : Hid (((listP f g n).drop (p + 1)).length = (n - (p + 1))) := by show ((listP f g n).drop (p + 1)).length = (n - (p + 1)); have := List.length_drop (i := (p + 1)) (l := listP f g n); rw [listP_length] at this; omega
        have T3 : Hid ((cellsP ((listP f g n).drop (p + 1))).length = (n - (p + 1)) * 2) := by show (cellsP ((listP f g n).drop (p + 1))).length = (n - (p + 1)) * 2; rw [cellsP_length, T5.out]
        have T4 : Hid (((listP f g n).take p ++ [(key, val)]).length = p + 1) := by show ((listP f g n).take p ++ [(key, val)]).length = p + 1; rw [List.length_append, T0.out]; rfl
        have Q1 : Hid (((listP f g n).take p).length + 1 ≤ maxLen) := by show ((listP f g n).take p).length + 1 ≤ maxLen; rw [T0.out]; unfold maxLen; omega
        have Q2 : Hid ((((listP f g n).take p).length + 1) * 32 ≤ 140737488355328) := by show (((listP f g n).take p).length + 1) * 32 ≤ 140737488355328; rw [T0.out]; omega
        have Q3 : Hid (((listP f g n).take p ++ [(key, val)]).length + (n - (p + 1)) ≤ maxLen) := by show ((listP f g n).take p ++ [(key, val)]).length + (n - (p + 1)) ≤ maxLen; rw [T4.out]; unfold maxLen; omega
        have Q4 : Hid ((((listP f g n).take p ++ [(key, val)]).length + (n - (p + 1))) * 32 ≤ 140737488355328) := by show (((listP f g n).take p ++ [(key, val)]).length + (n - (p + 1))) * 32 ≤ 140737488355328; rw [T4.out]; omega
        have S0 : Hid (SrcP w b o (listP f g n)) := src_of HH.out
        have N1 : Hid (∀ j u, (cellsP ((listP f g n).take p))[j]? = some u → (w.alloc (.cells #[] 68)).cell? ((⟨b, o, none⟩ : Addr).add j) = some u) := ((S0.out.take p).below ((Below.refl _ _).alloc (Nat.le_refl _) _)).news
        have N3 : Hid (SrcP w b (o + (p + 1) * 2) ((listP f g n).drop (p + 1))) := by
          have h9 := rest_src S0.out (listP_length f g n) (p + 1) (by omega)
          unfold restO at h9
          first | (rw [if_pos (by omega)] at h9; exact h9) | (rw [if_neg (by omega)] at h9; exact h9)
        have EL : Hid (putL f g n key val p = (listP f g n).take p ++ [(key, val)] ++ (listP f g n).drop (p + 1)) := by show putL f g n key val p = _; unfold putL; rw [HT.out]; rfl
        go_enter Tryz.func93, Tryz.ntmps93
        go_wp2_with (first | (go_at_call 136; refine (l01At _ n n f g key p _ (by omega) HP.out HH.out).mono ?_; rintro e w' ⟨rfl, rfl⟩) | (at_builtin; refine wpList_append_own _ rfl (.tmp 41) (.tmp 42) 23 rfl w.heap.size 68 i0 (.agg #[.string ⟨#[]⟩, .string ⟨#[]⟩]) 2 32 Tryz.underlying23 HI.out HZ0.out HZ1.out HZ2.out rfl (by decide) _ _ _ rfl O2.out ⟨b, (o + (p + 1) * 2), none⟩ (n - (p + 1)) (n - (p + 1)) (cellsP ((listP f g n).drop (p + 1))) rfl T3.out (N3.out.below B2.out).news (cellsP_one _) Q3.out Q4.out B2.out.size ?_; intro v3 w3 hown3 hgrow3 _; have B3 : Hid (Below w.heap.size w w3) := B2.out.grown hgrow3 B2.out.size O2.out.block; have O3 : Hid (OwnsP w3 w.heap.size v3 ((listP f g n).take p ++ [(key, val)] ++ (listP f g n).drop (p + 1))) := OwnsP.more T5.out hown3; clear hown3 hgrow3) | (at_builtin; refine wpList_append_own _ rfl (.tmp 36) (.tmp 40) 23 rfl w.heap.size 68 i0 (.agg #[.string ⟨#[]⟩, .string ⟨#[]⟩]) 2 32 Tryz.underlying23 HI.out HZ0.out HZ1.out HZ2.out rfl (by decide) _ _ _ rfl (O1.out.alloc _) ⟨w1.heap.size, 0, none⟩ 1 1 [.string key, .string val] rfl rfl (two_newP w1 key val) (two_oneP key val) Q1.out Q2.out (le_alloc B1.out.size _) ?_; intro v2 w2 hown2 hgrow2 _; have B2 : Hid (Below w.heap.size w w2) := (B1.out.alloc B1.out.size _).grown hgrow2 (le_alloc B1.out.size _) O1.out.block; have O2 : Hid (OwnsP w2 w.heap.size v2 ((listP f g n).take p ++ [(key, val)])) := OwnsP.one hown2; clear hown2 hgrow2) | (at_builtin; refine wpList_append_own _ rfl (.tmp 32) (.tmp 35) 23 rfl w.heap.size 68 i0 (.agg #[.string ⟨#[]⟩, .string ⟨#[]⟩]) 2 32 Tryz.underlying23 HI.out HZ0.out HZ1.out HZ2.out rfl (by decide) _ 0 [] rfl (OwnsP.made w _ (Nat.le_refl _)) ⟨b, o, none⟩ p n (cellsP ((listP f g n).take p)) rfl T1.out N1.out (cellsP_one _) (by unfold maxLen; omega) (by omega) (by simp) ?_; intro v1 w1 hown1 hgrow1 _; have B1 : Hid (Below w.heap.size w w1) := ((Below.refl _ _).alloc (Nat.le_refl _) _).grown hgrow1 (by simp) (fun k e => by cases e; exact Nat.le_refl _); have O1 : Hid (OwnsP w1 w.heap.size v1 ((listP f g n).take p)) := OwnsP.mk T1.out (by simpa using hown1); clear hown1 hgrow1))
        go_ret
        exact ⟨_, rfl, by rw [EL.out]; exact O3.out, B3.out⟩
  · have hpe : p = n := by omega
    subst hpe
    clear hlt
    have HT : Hid (hitB f p key p = false) := by show hitB f p key p = false; unfold hitB; rw [decide_eq_false (by omega)]; rfl
    have T0 : Hid (((listP f g p).take p).length = p) := by show ((listP f g p).take p).length = p; have := List.length_take (i := p) (l := listP f g p); rw [listP_length] at this; omega
    have T1 : Hid ((cellsP ((listP f g p).take p)).length = p * 2) := by show (cellsP ((listP f g p).take p)).length = p * 2; rw [cellsP_length, T0.out]
    have T2 : Hid (((listP f g p).take p).length = p) := T0
    have T5 : Hid (((listP f g p).drop p).length = 0) := by show ((listP f g p).drop p).length = 0; have := List.length_drop (i := p) (l := listP f g p); rw [listP_length] at this; omega
    have T3 : Hid ((cellsP ((listP f g p).drop p)).length = 0 * 2) := by show (cellsP ((listP f g p).drop p)).length = 0 * 2; rw [cellsP_length, T5.out]
    have T4 : Hid (((listP f g p).take p ++ [(key, val)]).length = p + 1) := by show ((listP f g p).take p ++ [(key, val)]).length = p + 1; rw [List.length_append, T0.out]; rfl
    have Q1 : Hid (((listP f g p).take p).length + 1 ≤ maxLen) := by show ((listP f g p).take p).length + 1 ≤ maxLen; rw [T0.out]; unfold maxLen; omega
    have Q2 : Hid ((((listP f g p).take p).length + 1) * 32 ≤ 140737488355328) := by show (((listP f g p).take p).length + 1) * 32 ≤ 140737488355328; rw [T0.out]; omega
    have Q3 : Hid (((listP f g p).take p ++ [(key, val)]).length + 0 ≤ maxLen) := by show ((listP f g p).take p ++ [(key, val)]).length + 0 ≤ maxLen; rw [T4.out]; unfold maxLen; omega
    have Q4 : Hid ((((listP f g p).take p ++ [(key, val)]).length + 0) * 32 ≤ 140737488355328) := by show (((listP f g p).take p ++ [(key, val)]).length + 0) * 32 ≤ 140737488355328; rw [T4.out]; omega
    have S0 : Hid (SrcP w b o (listP f g p)) := src_of HH.out
    have N1 : Hid (∀ j u, (cellsP ((listP f g p).take p))[j]? = some u → (w.alloc (.cells #[] 68)).cell? ((⟨b, o, none⟩ : Addr).add j) = some u) := ((S0.out.take p).below ((Below.refl _ _).alloc (Nat.le_refl _) _)).news
    have N3 : Hid (SrcP w b o ((listP f g p).drop p)) := by
      have h9 := rest_src S0.out (listP_length f g p) p (by omega)
      unfold restO at h9
      first | (rw [if_pos (by omega)] at h9; exact h9) | (rw [if_neg (by omega)] at h9; exact h9)
    have EL : Hid (putL f g p key val p = (listP f g p).take p ++ [(key, val)] ++ (listP f g p).drop p) := by show putL f g p key val p = _; unfold putL; rw [HT.out]; rfl
    go_enter Tryz.func93, Tryz.ntmps93
    go_wp2_with (first | (go_at_call 136; refine (l01At _ p p f g key p _ (by omega) HP.out HH.out).mono ?_; rintro e w' ⟨rfl, rfl⟩) | (at_builtin; refine wpList_append_own _ rfl (.tmp 41) (.tmp 42) 23 rfl w.heap.size 68 i0 (.agg #[.string ⟨#[]⟩, .string ⟨#[]⟩]) 2 32 Tryz.underlying23 HI.out HZ0.out HZ1.out HZ2.out rfl (by decide) _ _ _ rfl O2.out ⟨b, o, none⟩ 0 0 (cellsP ((listP f g p).drop p)) rfl T3.out (N3.out.below B2.out).news (cellsP_one _) Q3.out Q4.out B2.out.size ?_; intro v3 w3 hown3 hgrow3 _; have B3 : Hid (Below w.heap.size w w3) := B2.out.grown hgrow3 B2.out.size O2.out.block; have O3 : Hid (OwnsP w3 w.heap.size v3 ((listP f g p).take p ++ [(key, val)] ++ (listP f g p).drop p)) := OwnsP.more T5.out hown3; clear hown3 hgrow3) | (at_builtin; refine wpList_append_own _ rfl (.tmp 36) (.tmp 40) 23 rfl w.heap.size 68 i0 (.agg #[.string ⟨#[]⟩, .string ⟨#[]⟩]) 2 32 Tryz.underlying23 HI.out HZ0.out HZ1.out HZ2.out rfl (by decide) _ _ _ rfl (O1.out.alloc _) ⟨w1.heap.size, 0, none⟩ 1 1 [.string key, .string val] rfl rfl (two_newP w1 key val) (two_oneP key val) Q1.out Q2.out (le_alloc B1.out.size _) ?_; intro v2 w2 hown2 hgrow2 _; have B2 : Hid (Below w.heap.size w w2) := (B1.out.alloc B1.out.size _).grown hgrow2 (le_alloc B1.out.size _) O1.out.block; have O2 : Hid (OwnsP w2 w.heap.size v2 ((listP f g p).take p ++ [(key, val)])) := OwnsP.one hown2; clear hown2 hgrow2) | (at_builtin; refine wpList_append_own _ rfl (.tmp 32) (.tmp 35) 23 rfl w.heap.size 68 i0 (.agg #[.string ⟨#[]⟩, .string ⟨#[]⟩]) 2 32 Tryz.underlying23 HI.out HZ0.out HZ1.out HZ2.out rfl (by decide) _ 0 [] rfl (OwnsP.made w _ (Nat.le_refl _)) ⟨b, o, none⟩ p p (cellsP ((listP f g p).take p)) rfl T1.out N1.out (cellsP_one _) (by unfold maxLen; omega) (by omega) (by simp) ?_; intro v1 w1 hown1 hgrow1 _; have B1 : Hid (Below w.heap.size w w1) := ((Below.refl _ _).alloc (Nat.le_refl _) _).grown hgrow1 (by simp) (fun k e => by cases e; exact Nat.le_refl _); have O1 : Hid (OwnsP w1 w.heap.size v1 ((listP f g p).take p)) := OwnsP.mk T1.out (by simpa using hown1); clear hown1 hgrow1))
    go_ret
    exact ⟨_, rfl, by rw [EL.out]; exact O3.out, B3.out⟩
end Go.Proofs.YthgbclipknfmjaaGreatDoor
