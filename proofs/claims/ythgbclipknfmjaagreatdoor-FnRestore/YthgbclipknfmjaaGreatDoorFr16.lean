/-
  Dpm Put in one. By an AI agent.
-/
import Derived.Test.YthgbclipknfmjaaGreatDoorFr15
import Derived.Test.YthgbclipknfmjaaGreatDoorFr05
namespace Go.Proofs.YthgbclipknfmjaaGreatDoor
open Go.ChangeShapes Go.WideShapes Go.ChangeAt Go.RowKit Go.Deep Go.Lib
set_option linter.unusedVariables false
set_option linter.unusedSimpArgs false
set_option maxRecDepth 100000

def wordL (u wd : ByteArray) : List PM := if wd.toList = [] then [] else [(userK u, wd)]
abbrev flatF (u : ByteArray) (fs : List FM) : List PM := fs.flatMap (fPairs u)
def deskX (u : ByteArray) (S : SM) : List PM := S.aside ++ (wordL u S.word ++ flatF u S.fs)
abbrev notK (k : ByteArray) (L : List PM) : List PM := L.filter fun p => decide (p.1 ≠ k)
/-- What a desk's pairs gives, ahead of the sorting. -/
def deskP (nx : Int) (u : ByteArray) (S : SM) : List PM := (vK, bs (itoa nx)) :: (userK u, S.word) :: (notK vK S.aside ++ flatF u S.fs)
def dropF (n : ByteArray) : List FM → List FM
  | [] => []
  | f :: fs => if f.name = n then fs else f :: dropF n fs
theorem put_none {g : FM} : ∀ {fs : List FM}, lookF g.name fs = none → putF g fs = fs ++ [g]
  | [], _ => rfl
  | f :: fs, h => by
    unfold lookF at h
    by_cases e : f.name = g.name
    · rw [if_pos e] at h; cases h
    · rw [if_neg e] at h
      unfold putF
      rw [if_neg e, put_none h]
      rfl
theorem put_perm {g f : FM} : ∀ {fs : List FM}, lookF g.name fs = some f → (putF g fs).Perm (g :: dropF g.name fs)
  | [], h => by cases h
  | x :: fs, h => by
    unfold lookF at h
    unfold putF dropF
    by_cases e : x.name = g.name
    · rw [if_pos e, if_pos e]
    · rw [if_neg e] at h
      rw [if_neg e, if_neg e]
      exact (List.Perm.cons x (put_perm h)).trans (List.Perm.swap _ _ _)
theorem drop_perm {n : ByteArray} {f : FM} : ∀ {fs : List FM}, lookF n fs = some f → fs.Perm (f :: dropF n fs)
  | [], h => by cases h
  | x :: fs, h => by
    unfold lookF at h
    unfold dropF
    by_cases e : x.name = n
    · rw [if_pos e] at h
      cases h
      rw [if_pos e]
    · rw [if_neg e] at h
      rw [if_neg e]
      exact (List.Perm.cons x (drop_perm h)).trans (List.Perm.swap _ _ _)
theorem flat_perm {u : ByteArray} {fs gs : List FM} (h : fs.Perm gs) : (flatF u fs).Perm (flatF u gs) := List.Perm.flatMap_right _ h
theorem flat_cons (u : ByteArray) (f : FM) (fs : List FM) : flatF u (f :: fs) = fPairs u f ++ flatF u fs := List.flatMap_cons
theorem digit_one {c : UInt8} (h : 48 ≤ (c.toNat : Int)) (h2 : (c.toNat : Int) ≤ 51) : itoa ((c.toNat : Int) - 48) = [c] := by
  unfold itoa
  rw [if_neg (by omega)]
  unfold decDigits
  rw [dif_pos (by omega)]
  have e : 48 + ((c.toNat : Int) - 48).toNat = c.toNat := by omega
  rw [e]
  simp
theorem mailV_back {v : ByteArray} {n : Int} (h1 : 1 ≤ v.size) (h : 48 ≤ hdV v) (h2 : hdV v ≤ 51) : mailV (n, hdV v - 48, v.extract 1 v.size) = v := by
  unfold mailV
  unfold hdV at h h2 ⊢
  apply bs_inj
  have hne : v.data.toList ≠ [] := fun e => by
    have h9 : v.data.toList.length = v.size := by simp
    rw [e] at h9
    simp at h9
    omega
  match hv : v.data.toList, hne with
  | c :: r, _ =>
    rw [hv] at h h2
    have h' : 48 ≤ (c.toNat : Int) := h
    have h2' : (c.toNat : Int) ≤ 51 := h2
    rw [ByteArray.data_append]
    simp only [Array.toList_append]
    show (bs (itoa ((c.toNat : Int) - 48))).data.toList ++ (v.extract 1 v.size).data.toList = c :: r
    rw [digit_one h' h2', ByteArray.data_extract]
    show [c] ++ (v.data.extract 1 v.size).toList = c :: r
    rw [Array.toList_extract, hv]
    have h9 : v.size = (c :: r).length := by rw [← hv]; simp
    rw [h9]
    simp [List.extract]
theorem mail_pairs {u : ByteArray} {f : FM} {d : List UInt8} {q : PM} {un : Nat} (hd : decFrom 0 d = some un) (hl : d.length = 3) (h1 : 1 ≤ q.2.size) (h2 : 48 ≤ hdV q.2) (h3 : hdV q.2 ≤ 51)
    (hk : q.1.data.toList = 109 :: 47 :: (u.data.toList ++ 47 :: (f.name.data.toList ++ 47 :: d))) : fPairs u (mailU f un q.2) = fPairs u f ++ [q] := by
  obtain ⟨_, hd3⟩ := d3_back hl hd
  unfold fPairs mailU
  simp only [List.map_append, List.map_cons, List.map_nil]
  rw [List.cons_append]
  congr 2
  congr 1
  refine Prod.ext ?_ (mailV_back h1 h2 h3)
  apply bs_inj
  rw [hk, hd3]
  rfl
theorem up_mem {X Y : List PM} (hX : UpL X) (hY : UpL Y) (h : ∀ q, q ∈ X ↔ q ∈ Y) : X = Y := by
  induction X generalizing Y with
  | nil =>
    cases Y with
    | nil => rfl
    | cons y Y => exact absurd ((h y).2 List.mem_cons_self) (by simp)
  | cons x X ih =>
    cases Y with
    | nil => exact absurd ((h x).1 List.mem_cons_self) (by simp)
    | cons y Y =>
      have hx := List.pairwise_cons.1 hX
      have hy := List.pairwise_cons.1 hY
      have e : x = y := by
        rcases List.mem_cons.1 ((h x).1 List.mem_cons_self) with e | e
        · exact e
        · rcases List.mem_cons.1 ((h y).2 List.mem_cons_self) with e2 | e2
          · exact e2.symm
          · exact absurd (bl_trans _ _ _ (hy.1 x e) (hx.1 y e2)) (ltK_irrefl _)
      subst e
      rw [ih hx.2 hy.2 fun q => ?_]
      constructor
      · intro hq
        rcases List.mem_cons.1 ((h q).1 (List.mem_cons_of_mem _ hq)) with e | e
        · subst e
          exact absurd (hx.1 q hq) (ltK_irrefl _)
        · exact e
      · intro hq
        rcases List.mem_cons.1 ((h q).2 (List.mem_cons_of_mem _ hq)) with e | e
        · subst e
          exact absurd (hy.1 q hq) (ltK_irrefl _)
        · exact e
theorem up_perm {X Y : List PM} (hX : UpL X) (hY : UpL Y) (h : X.Perm Y) : X = Y := up_mem hX hY fun _ => h.mem_iff
theorem take_perm {nx : Int} {u : ByteArray} {L P R : List PM} {q : PM} {S S' : SM} (hnx : nx ≤ 10000) (hu : UpL L) (hL : L = P ++ q :: R) (hus : (47 : UInt8) ∉ u.data.toList) (hI : Inv nx u P S) (hW : S.word.toList = [] ∨ ∃ z ∈ P, z.1 = userK u) (h : takeM nx u S q = some S') : (deskX u S').Perm (deskX u S ++ [q]) := by
  have hpq : ∀ z ∈ P, ltK z.1 q.1 := fun z hz => by
    rw [hL] at hu
    exact (List.pairwise_append.1 hu).2.2 z hz q List.mem_cons_self
  by_cases ho : ownerM q = some u
  · unfold takeM at h
    unfold ownerM at ho
    match hG : splitL 47 q.1.data.toList, ho with
    | [a, b], ho =>
      obtain ⟨h1, h2⟩ := ite_some ho
      subst h1
      have h3 : takeP nx u S q [[117], b] = userM u S q.2 := if_pos ⟨h2, rfl⟩
      rw [hG, h3] at h
      obtain ⟨h4, rfl⟩ := ite_some h
      have hk := (key_user hG).1
      rw [h2] at hk
      have hw : S.word.toList = [] := by
        rcases hW with hW | ⟨z, hz, hz2⟩
        · exact hW
        · have h9 := hpq z hz
          rw [hz2, hk] at h9
          exact absurd h9 (ltK_irrefl _)
      have hs : q.2.toList ≠ [] := fun e => by
        rw [Bool.and_eq_true] at h4
        have h9 := short_ne (b := q.2.data.toList) (by rw [data_bs]; exact h4.2)
        exact h9 (by rw [← ByteArray.toList_eq]; exact e)
      unfold deskX
      show (S.aside ++ (wordL u q.2 ++ flatF u S.fs)).Perm _
      unfold wordL
      rw [if_pos hw, if_neg hs, List.nil_append, List.append_assoc]
      refine List.Perm.append_left _ ?_
      have hqe : (userK u, q.2) = q := Prod.ext hk.symm rfl
      rw [hqe]
      exact (List.perm_append_comm (l₁ := [q]))
    | [a, b, c], ho =>
      obtain ⟨h1, h2⟩ := ite_some ho
      subst h1
      have h3 : takeP nx u S q [[102], b, c] = putM S (folderM nx (bs c) q.2) := if_pos ⟨h2, rfl⟩
      rw [hG, h3] at h
      obtain ⟨hk, hnb, hnc⟩ := key_folder hG
      rw [h2] at hk
      unfold putM at h
      obtain ⟨g, hg, rfl⟩ := Option.map_eq_some_iff.1 h
      have hgf := (folder_meta hnx).1 hg
      have hgn : g.name = bs c := by rw [hgf.2.2.2]
      have hno : lookF g.name S.fs = none := by
        rw [hgn]
        cases hl : lookF (bs c) S.fs with
        | none => rfl
        | some f' =>
          obtain ⟨w, f, k1, _⟩ := hI.a _ _ hl
          have k3 := hpq _ k1
          rw [hk] at k3
          exact absurd k3 (ltK_irrefl _)
      have hgp : fPairs u g = [q] := by
        have hm : g.mails = [] := by rw [hgf.2.2.2]
        unfold fPairs
        rw [hm, hgn]
        simp only [List.map_nil]
        congr 1
        exact Prod.ext hk.symm (meta_text hgf.2.1).symm
      unfold deskX
      show (S.aside ++ (wordL u S.word ++ flatF u (putF g S.fs))).Perm _
      rw [put_none hno]
      unfold flatF
      rw [List.flatMap_append, List.flatMap_cons, List.flatMap_nil, hgp, List.append_nil, List.append_assoc, List.append_assoc]
    | [a, b, c, d], ho =>
      obtain ⟨h1, h2⟩ := ite_some ho
      subst h1
      have h3 : takeP nx u S q [[109], b, c, d] = putM S (mailM S.fs (bs c) (bs d) q.2) := if_pos ⟨h2, rfl⟩
      rw [hG, h3] at h
      obtain ⟨hk, hnb, hnc⟩ := key_mail hG
      unfold putM mailM at h
      obtain ⟨g, hg, rfl⟩ := Option.map_eq_some_iff.1 h
      obtain ⟨f', hl, hg2⟩ := Option.bind_eq_some_iff.1 hg
      obtain ⟨un, m1, m2, m3, m4, m5, m6, m7, m8, hgm⟩ := mailO_some hg2
      have hfn := (lookF_mem hl).2
      have hgn : g.name = f'.name := by rw [hgm]; rfl
      have hub : u.data.toList = b := by rw [← h2]; simp [bs]
      have hpp : fPairs u g = fPairs u f' ++ [q] := by
        rw [hgm]
        refine mail_pairs m1 m2 m3 m5 m6 ?_
        rw [hk, hub, hfn]
        simp [bs]
      have hl2 : lookF g.name S.fs = some f' := by rw [hgn, hfn]; exact hl
      unfold deskX
      show (S.aside ++ (wordL u S.word ++ flatF u (putF g S.fs))).Perm _
      rw [List.append_assoc, List.append_assoc]
      refine List.Perm.append_left _ (List.Perm.append_left _ ?_)
      refine (flat_perm (put_perm hl2)).trans ?_
      refine List.Perm.trans ?_ (List.Perm.append_right [q] (flat_perm (drop_perm hl2)).symm)
      rw [flat_cons, flat_cons, hpp, List.append_assoc, List.append_assoc]
      exact List.Perm.append_left _ List.perm_append_comm
  · have ht : takeM nx u S q = asideM S q := take_other ho
    rw [ht] at h
    cases h
    unfold deskX
    show (S.aside ++ [q] ++ (wordL u S.word ++ flatF u S.fs)).Perm _
    rw [List.append_assoc, List.append_assoc]
    exact List.Perm.append_left _ List.perm_append_comm
theorem all_perm {nx : Int} {u : ByteArray} {L : List PM} (hnx : nx ≤ 10000) (hu : UpL L) (hus : (47 : UInt8) ∉ u.data.toList) : ∀ (R P : List PM) (S S' : SM), L = P ++ R → Inv nx u P S → (S.word.toList = [] ∨ ∃ z ∈ P, z.1 = userK u) → takeAll nx u S R = some S' → (deskX u S').Perm (deskX u S ++ R)
  | [], P, S, S', hL, hI, hW, h => by
    cases h
    rw [List.append_nil]
  | q :: R, P, S, S', hL, hI, hW, h => by
    have hL2 : L = (P ++ [q]) ++ R := by rw [hL]; simp
    unfold takeAll at h
    obtain ⟨S1, h1, h2⟩ := Option.bind_eq_some_iff.1 h
    have hI2 : Inv nx u (P ++ [q]) S1 := by
      by_cases ho : ownerM q = some u
      · exact (take_step hnx hu hL hus hI ho).2 S1 h1
      · have ht : takeM nx u S q = asideM S q := take_other ho
        rw [ht] at h1
        exact aside_step hus hI ho h1
    have hW2 : S1.word.toList = [] ∨ ∃ z ∈ P ++ [q], z.1 = userK u := by
      rw [take_word hus h1]
      by_cases e : q.1 = userK u
      · exact .inr ⟨q, by simp, e⟩
      · rw [if_neg e]
        rcases hW with hW | ⟨z, hz, hz2⟩
        · exact .inl hW
        · exact .inr ⟨z, List.mem_append_left _ hz, hz2⟩
    have h3 := all_perm hnx hu hus R (P ++ [q]) S1 S' hL2 hI2 hW2 h2
    refine h3.trans ?_
    have h4 := List.Perm.append_right R (take_perm hnx hu hL hus hI hW h1)
    rw [List.append_assoc] at h4
    exact h4
theorem take_desk {L : List PM} {u : ByteArray} {S : SM} (h : storeB L = true) (hus : (47 : UInt8) ∉ u.data.toList) (hS : takeAll (nextM L) u S0 L = some S) : (deskX u S).Perm L := by
  obtain ⟨hg, nx0, hnm, n1, n2, _, _, _⟩ := store_facts h
  have hI : Inv (nextM L) u [] S0 := ⟨fun name f' hf => (by cases hf), fun name w _ hm => (by cases hm), rfl⟩
  have h1 := all_perm (nx := nextM L) (by omega) hg.2.2 hus L [] S0 S rfl hI (.inl (by rw [ByteArray.toList_eq])) hS
  have h2 : deskX u S0 = [] := by
    unfold deskX wordL
    rw [if_pos (by rw [ByteArray.toList_eq])]
    rfl
  rw [h2, List.nil_append] at h1
  exact h1
end Go.Proofs.YthgbclipknfmjaaGreatDoor
namespace Go.Proofs.YthgbclipknfmjaaGreatDoor
open Go.ChangeShapes Go.WideShapes Go.ChangeAt Go.RowKit Go.Deep
set_option linter.unusedVariables false
set_option maxRecDepth 100000

/-- The pairs L lie at a place. -/
def SrcP (w : World) (b o : Nat) (L : List (ByteArray × ByteArray)) : Prop :=
  ∀ i, i < L.length → w.cell? ⟨b, o + i * 2, none⟩ = some (.string (fstL L i)) ∧ w.cell? ⟨b, o + i * 2 + 1, none⟩ = some (.string (sndL L i))
theorem SrcP.below {w w' : World} {b o : Nat} {L : List (ByteArray × ByteArray)} (h : SrcP w b o L) (hb : Below w.heap.size w w') : SrcP w' b o L := fun i hi => by
  obtain ⟨h1, h2⟩ := h i hi
  exact ⟨cell_later hb h1, cell_later hb h2⟩
theorem SrcP.take {w : World} {b o : Nat} {L : List (ByteArray × ByteArray)} (h : SrcP w b o L) (l : Nat) : SrcP w b o (L.take l) := fun i hi => by
  rw [List.length_take] at hi
  have h1 := h i (by omega)
  have e : (L.take l).getD i pe = L.getD i pe := by rw [List.getD_eq_getElem?_getD, List.getElem?_take, if_pos (by omega), ← List.getD_eq_getElem?_getD]
  unfold fstL sndL at *
  rw [e]; exact h1
theorem SrcP.drop {w : World} {b o : Nat} {L : List (ByteArray × ByteArray)} (h : SrcP w b o L) (l : Nat) : SrcP w b (o + l * 2) (L.drop l) := fun i hi => by
  rw [List.length_drop] at hi
  have h1 := h (l + i) (by omega)
  have e : (L.drop l).getD i pe = L.getD (l + i) pe := by rw [List.getD_eq_getElem?_getD, List.getElem?_drop, ← List.getD_eq_getElem?_getD]
  unfold fstL sndL at *
  rw [e, show o + l * 2 + i * 2 = o + (l + i) * 2 from by omega]; exact h1
theorem SrcP.news {w : World} {b o : Nat} {L : List (ByteArray × ByteArray)} (h : SrcP w b o L) : ∀ j u, (cellsP L)[j]? = some u → w.cell? ((⟨b, o, none⟩ : Addr).add j) = some u := fun j u hu => by
  have hj : j < (cellsP L).length := (List.getElem?_eq_some_iff.1 hu).1
  rw [cellsP_length] at hj
  rw [add_plain]
  obtain ⟨c1, c2⟩ := cellsP_get L (j / 2) (by omega)
  obtain ⟨h1, h2⟩ := h (j / 2) (by omega)
  by_cases e : j % 2 = 0
  · rw [show j / 2 * 2 = j from by omega] at c1 h1
    rw [hu] at c1; rw [h1]; exact c1.symm
  · rw [show j / 2 * 2 + 1 = j from by omega] at c2
    rw [show o + j / 2 * 2 + 1 = o + j from by omega] at h2
    rw [hu] at c2; rw [h2]; exact c2.symm
def listP (f g : Nat → ByteArray) (n : Nat) : List (ByteArray × ByteArray) := (List.range n).map fun i => (f i, g i)
theorem listP_length (f g : Nat → ByteArray) (n : Nat) : (listP f g n).length = n := by simp [listP]
theorem listP_get (f g : Nat → ByteArray) (n i : Nat) (h : i < n) : (listP f g n).getD i pe = (f i, g i) := by
  rw [List.getD_eq_getElem?_getD]; simp [listP, h]
theorem src_of {w : World} {b o n : Nat} {f g : Nat → ByteArray} (h : Sp w (some ⟨b, o, none⟩) n f g) : SrcP w b o (listP f g n) := fun i hi => by
  rw [listP_length] at hi
  rcases h with h0 | ⟨b', o', e, hc⟩
  · omega
  · cases e
    have h1 := hc i hi
    unfold fstL sndL
    rw [listP_get f g n i hi]; exact h1
/-- A list that is given to append, written behind what is owned. -/
theorem OwnsP.more {w' : World} {base : Nat} {v' : Value} {L M : List (ByteArray × ByteArray)} {m : Nat} (hm : M.length = m) (h : w'.ownsRow base 68 2 v' (L.length + m) (cellsP L ++ cellsP M)) : OwnsP w' base v' (L ++ M) := by
  unfold OwnsP
  rw [List.length_append, cellsP_append, hm]; exact h

theorem OwnsP.one {w' : World} {base : Nat} {v' : Value} {L : List (ByteArray × ByteArray)} {x y : ByteArray} (h : w'.ownsRow base 68 2 v' (L.length + 1) (cellsP L ++ [.string x, .string y])) : OwnsP w' base v' (L ++ [(x, y)]) :=
  OwnsP.more (M := [(x, y)]) (m := 1) rfl h
theorem OwnsP.mk {w' : World} {base : Nat} {v' : Value} {L : List (ByteArray × ByteArray)} {m : Nat} (hm : (cellsP L).length = m * 2) (h : w'.ownsRow base 68 2 v' m (cellsP L)) : OwnsP w' base v' L := by
  unfold OwnsP
  rw [cellsP_length] at hm
  rw [show L.length = m from by omega]; exact h
theorem two_newP (wr : World) (x y : ByteArray) (j : Nat) (u : Value) (h : [Value.string x, .string y][j]? = some u) :
    (wr.alloc (.cells #[.string x, .string y] 68)).cell? ((⟨wr.heap.size, 0, none⟩ : Addr).add j) = some u := by
  match j, h with
  | 0, h => simp at h; subst h; simp [Addr.add]
  | 1, h => simp at h; subst h; simp [Addr.add]

/-- What put leaves: val at key. -/
def putL (f g : Nat → ByteArray) (n : Nat) (key val : ByteArray) (p : Nat) : List (ByteArray × ByteArray) :=
  (listP f g n).take p ++ [(key, val)] ++ (listP f g n).drop (if hitB f n key p = true then p + 1 else p)
/-- Where the rest of a list begins. -/
def restO (o n q : Nat) : Nat := if n = q then o else o + q * 2
theorem rest_src {w : World} {b o n : Nat} {L : List (ByteArray × ByteArray)} (h : SrcP w b o L) (hl : L.length = n) (q : Nat) (hq : q ≤ n) : SrcP w b (restO o n q) (L.drop q) := by
  unfold restO
  by_cases e : n = q
  · intro i hi
    rw [List.length_drop] at hi
    omega
  · rw [if_neg e]; exact h.drop q

set_option maxHeartbeats 1000000 in
theorem l01Put (b o n : Nat) (f g : Nat → ByteArray) (key val : ByteArray) (p : Nat) (w : World) (hn : n ≤ 4096) (hp : IsPlace f n key p) (h : Sp w (some ⟨b, o, none⟩) n f g) :
    Calls Tryz.prog 93 #[.slice (some ⟨b, o, none⟩) n n, .string key, .string val] w fun e w' => ∃ v, e = .returned v ∧ OwnsP w' w.heap.size v (putL f g n key val p) ∧ Below w.heap.size w w' := by
  obtain ⟨i0, hi, hz0, hz1, hz2⟩ := infoPair'
  have HH : Hid (Sp w (some ⟨b, o, none⟩) n f g) := h
  have HP : Hid (IsPlace f n key p) := hp
  have HI : Hid (Tryz.prog.info? 68 = some i0) := hi
  have HZ0 : Hid (i0.zero = some (.agg #[.string ⟨#[]⟩, .string ⟨#[]⟩])) := hz0
  have HZ1 : Hid (i0.size = 2) := hz1
  have HZ2 : Hid (i0.bytes = 32) := hz2
  have hpn := hp.1
  clear h hp hi hz0 hz1 hz2
  by_cases hn0 : n = 0
  · subst hn0
    have hp0 : p = 0 := by omega
    subst hp0
    have HT : Hid (hitB f 0 key 0 = false) := by show hitB f 0 key 0 = false; rfl
    have T0 : Hid (((listP f g 0).take 0).length = 0) := by show ((listP f g 0).take 0).length = 0; have := List.length_take (i := 0) (l := listP f g 0); rw [listP_length] at this; omega
    have T1 : Hid ((cellsP ((listP f g 0).take 0)).length = 0 * 2) := by show (cellsP ((listP f g 0).take 0)).length = 0 * 2; rw [cellsP_length, T0.out]
    have T2 : Hid (((listP f g 0).take 0).length = 0) := T0
    have T5 : Hid (((listP f g 0).drop 0).length = 0) := by show ((listP f g 0).drop 0).length = 0; have := List.length_drop (i := 0) (l := listP f g 0); rw [listP_length] at this; omega
    have T3 : Hid ((cellsP ((listP f g 0).drop 0)).length = 0 * 2) := by show (cellsP ((listP f g 0).drop 0)).length = 0 * 2; rw [cellsP_length, T5.out]
    have T4 : Hid (((listP f g 0).take 0 ++ [(key, val)]).length = 0 + 1) := by show ((listP f g 0).take 0 ++ [(key, val)]).length = 0 + 1; rw [List.length_append, T0.out]; rfl
    have Q1 : Hid (((listP f g 0).take 0).length + 1 ≤ maxLen) := by show ((listP f g 0).take 0).length + 1 ≤ maxLen; rw [T0.out]; unfold maxLen; omega
    have Q2 : Hid ((((listP f g 0).take 0).length + 1) * 32 ≤ 140737488355328) := by show (((listP f g 0).take 0).length + 1) * 32 ≤ 140737488355328; rw [T0.out]; omega
    have Q3 : Hid (((listP f g 0).take 0 ++ [(key, val)]).length + 0 ≤ maxLen) := by show ((listP f g 0).take 0 ++ [(key, val)]).length + 0 ≤ maxLen; rw [T4.out]; unfold maxLen; omega
    have Q4 : Hid ((((listP f g 0).take 0 ++ [(key, val)]).length + 0) * 32 ≤ 140737488355328) := by show (((listP f g 0).take 0 ++ [(key, val)]).length + 0) * 32 ≤ 140737488355328; rw [T4.out]; omega
    have S0 : Hid (SrcP w b o (listP f g 0)) := src_of HH.out
    have N1 : Hid (∀ j u, (cellsP ((listP f g 0).take 0))[j]? = some u → (w.alloc (.cells #[] 68)).cell? ((⟨b, o, none⟩ : Addr).add j) = some u) := ((S0.out.take 0).below ((Below.refl _ _).alloc (Nat.le_refl _) _)).news
    have N3 : Hid (SrcP w b o ((listP f g 0).drop 0)) := by
      have h9 := rest_src S0.out (listP_length f g 0) 0 (by omega)
      unfold restO at h9
      first | (rw [if_pos (by omega)] at h9; exact h9) | (rw [if_neg (by omega)] at h9; exact h9)
    have EL : Hid (putL f g 0 key val 0 = (listP f g 0).take 0 ++ [(key, val)] ++ (listP f g 0).drop 0) := by show putL f g 0 key val 0 = _; unfold putL; rw [HT.out]; rfl
    go_enter Tryz.func93, Tryz.ntmps93
    go_wp2_with (first | (go_at_call 136; refine (l01At _ 0 0 f g key 0 _ (by omega) HP.out HH.out).mono ?_; rintro e w' ⟨rfl, rfl⟩) | (at_builtin; refine wpList_append_own _ rfl (.tmp 41) (.tmp 42) 23 rfl w.heap.size 68 i0 (.agg #[.string ⟨#[]⟩, .string ⟨#[]⟩]) 2 32 Tryz.underlying23 HI.out HZ0.out HZ1.out HZ2.out rfl (by decide) _ _ _ rfl O2.out ⟨b, o, none⟩ 0 0 (cellsP ((listP f g 0).drop 0)) rfl T3.out (N3.out.below B2.out).news (cellsP_one _) Q3.out Q4.out B2.out.size ?_; intro v3 w3 hown3 hgrow3 _; have B3 : Hid (Below w.heap.size w w3) := B2.out.grown hgrow3 B2.out.size O2.out.block; have O3 : Hid (OwnsP w3 w.heap.size v3 ((listP f g 0).take 0 ++ [(key, val)] ++ (listP f g 0).drop 0)) := OwnsP.more T5.out hown3; clear hown3 hgrow3) | (at_builtin; refine wpList_append_own _ rfl (.tmp 36) (.tmp 40) 23 rfl w.heap.size 68 i0 (.agg #[.string ⟨#[]⟩, .string ⟨#[]⟩]) 2 32 Tryz.underlying23 HI.out HZ0.out HZ1.out HZ2.out rfl (by decide) _ _ _ rfl (O1.out.alloc _) ⟨w1.heap.size, 0, none⟩ 1 1 [.string key, .string val] rfl rfl (two_newP w1 key val) (two_oneP key val) Q1.out Q2.out (le_alloc B1.out.size _) ?_; intro v2 w2 hown2 hgrow2 _; have B2 : Hid (Below w.heap.size w w2) := (B1.out.alloc B1.out.size _).grown hgrow2 (le_alloc B1.out.size _) O1.out.block; have O2 : Hid (OwnsP w2 w.heap.size v2 ((listP f g 0).take 0 ++ [(key, val)])) := OwnsP.one hown2; clear hown2 hgrow2) | (at_builtin; refine wpList_append_own _ rfl (.tmp 32) (.tmp 35) 23 rfl w.heap.size 68 i0 (.agg #[.string ⟨#[]⟩, .string ⟨#[]⟩]) 2 32 Tryz.underlying23 HI.out HZ0.out HZ1.out HZ2.out rfl (by decide) _ 0 [] rfl (OwnsP.made w _ (Nat.le_refl _)) ⟨b, o, none⟩ 0 0 (cellsP ((listP f g 0).take 0)) rfl T1.out N1.out (cellsP_one _) (by unfold maxLen; omega) (by omega) (by simp) ?_; intro v1 w1 hown1 hgrow1 _; have B1 : Hid (Below w.heap.size w w1) := ((Below.refl _ _).alloc (Nat.le_refl _) _).grown hgrow1 (by simp) (fun k e => by cases e; exact Nat.le_refl _); have O1 : Hid (OwnsP w1 w.heap.size v1 ((listP f g 0).take 0)) := OwnsP.mk T1.out (by simpa using hown1); clear hown1 hgrow1))
    go_ret
    exact ⟨_, rfl, by rw [EL.out]; exact O3.out, B3.out⟩
  by_cases hlt : p < n
  · have hne : ¬ n = p := by omega
    have hi1 : (p : Int) < (n : Int) := by omega
    rcases HH.out with h0 | ⟨b', o', e, hc⟩
    · omega
    cases e
    obtain ⟨hc1, hc2⟩ := hc p hlt
    clear hc hc2
    cases hq : ((f p).toList == key.toList) with
    | false =>
      have HT : Hid (hitB f n key p = false) := by show hitB f n key p = false; unfold hitB; rw [hq, decide_eq_true hlt]; rfl
      have T0 : Hid (((listP f g n).take p).length = p) := by show ((listP f g n).take p).length = p; have := List.length_take (i := p) (l := listP f g n); rw [listP_length] at this; omega
      have T1 : Hid ((cellsP ((listP f g n).take p)).length = p * 2) := by show (cellsP ((listP f g n).take p)).length = p * 2; rw [cellsP_length, T0.out]
      have T2 : Hid (((listP f g n).take p).length = p) := T0
      have T5 : Hid (((listP f g n).drop p).length = (n - p)) := by show ((listP f g n).drop p).length = (n - p); have := List.length_drop (i := p) (l := listP f g n); rw [listP_length] at this; omega
      have T3 : Hid ((cellsP ((listP f g n).drop p)).length = (n - p) * 2) := by show (cellsP ((listP f g n).drop p)).length = (n - p) * 2; rw [cellsP_length, T5.out]
      have T4 : Hid (((listP f g n).take p ++ [(key, val)]).length = p + 1) := by show ((listP f g n).take p ++ [(key, val)]).length = p + 1; rw [List.length_append, T0.out]; rfl
      have Q1 : Hid (((listP f g n).take p).length + 1 ≤ maxLen) := by show ((listP f g n).take p).length + 1 ≤ maxLen; rw [T0.out]; unfold maxLen; omega
      have Q2 : Hid ((((listP f g n).take p).length + 1) * 32 ≤ 140737488355328) := by show (((listP f g n).take p).length + 1) * 32 ≤ 140737488355328; rw [T0.out]; omega
      have Q3 : Hid (((listP f g n).take p ++ [(key, val)]).length + (n - p) ≤ maxLen) := by show ((listP f g n).take p ++ [(key, val)]).length + (n - p) ≤ maxLen; rw [T4.out]; unfold maxLen; omega
      have Q4 : Hid ((((listP f g n).take p ++ [(key, val)]).length + (n - p)) * 32 ≤ 140737488355328) := by show (((listP f g n).take p ++ [(key, val)]).length + (n - p)) * 32 ≤ 140737488355328; rw [T4.out]; omega
      have S0 : Hid (SrcP w b o (listP f g n)) := src_of HH.out
      have N1 : Hid (∀ j u, (cellsP ((listP f g n).take p))[j]? = some u → (w.alloc (.cells #[] 68)).cell? ((⟨b, o, none⟩ : Addr).add j) = some u) := ((S0.out.take p).below ((Below.refl _ _).alloc (Nat.le_refl _) _)).news
      have N3 : Hid (SrcP w b (o + p * 2) ((listP f g n).drop p)) := by
        have h9 := rest_src S0.out (listP_length f g n) p (by omega)
        unfold restO at h9
        first | (rw [if_pos (by omega)] at h9; exact h9) | (rw [if_neg (by omega)] at h9; exact h9)
      have EL : Hid (putL f g n key val p = (listP f g n).take p ++ [(key, val)] ++ (listP f g n).drop p) := by show putL f g n key val p = _; unfold putL; rw [HT.out]; rfl
      go_enter Tryz.func93, Tryz.ntmps93
      go_wp2_with (first | (go_at_call 136; refine (l01At _ n n f g key p _ (by omega) HP.out HH.out).mono ?_; rintro e w' ⟨rfl, rfl⟩) | (at_builtin; refine wpList_append_own _ rfl (.tmp 41) (.tmp 42) 23 rfl w.heap.size 68 i0 (.agg #[.string ⟨#[]⟩, .string ⟨#[]⟩]) 2 32 Tryz.underlying23 HI.out HZ0.out HZ1.out HZ2.out rfl (by decide) _ _ _ rfl O2.out ⟨b, (o + p * 2), none⟩ (n - p) (n - p) (cellsP ((listP f g n).drop p)) rfl T3.out (N3.out.below B2.out).news (cellsP_one _) Q3.out Q4.out B2.out.size ?_; intro v3 w3 hown3 hgrow3 _; have B3 : Hid (Below w.heap.size w w3) := B2.out.grown hgrow3 B2.out.size O2.out.block; have O3 : Hid (OwnsP w3 w.heap.size v3 ((listP f g n).take p ++ [(key, val)] ++ (listP f g n).drop p)) := OwnsP.more T5.out hown3; clear hown3 hgrow3) | (at_builtin; refine wpList_append_own _ rfl (.tmp 36) (.tmp 40) 23 rfl w.heap.size 68 i0 (.agg #[.string ⟨#[]⟩, .string ⟨#[]⟩]) 2 32 Tryz.underlying23 HI.out HZ0.out HZ1.out HZ2.out rfl (by decide) _ _ _ rfl (O1.out.alloc _) ⟨w1.heap.size, 0, none⟩ 1 1 [.string key, .string val] rfl rfl (two_newP w1 key val) (two_oneP key val) Q1.out Q2.out (le_alloc B1.out.size _) ?_; intro v2 w2 hown2 hgrow2 _; have B2 : Hid (Below w.heap.size w w2) := (B1.out.alloc B1.out.size _).grown hgrow2 (le_alloc B1.out.size _) O1.out.block; have O2 : Hid (OwnsP w2 w.heap.size v2 ((listP f g n).take p ++ [(key, val)])) := OwnsP.one hown2; clear hown2 hgrow2) | (at_builtin; refine wpList_append_own _ rfl (.tmp 32) (.tmp 35) 23 rfl w.heap.size 68 i0 (.agg #[.string ⟨#[]⟩, .string ⟨#[]⟩]) 2 32 Tryz.underlying23 HI.out HZ0.out HZ1.out HZ2.out rfl (by decide) _ 0 [] rfl (OwnsP.made w _ (Nat.le_refl _)) ⟨b, o, none⟩ p n (cellsP ((listP f g n).take p)) rfl T1.out N1.out (cellsP_one _) (by unfold maxLen; omega) (by omega) (by simp) ?_; intro v1 w1 hown1 hgrow1 _; have B1 : Hid (Below w.heap.size w w1) := ((Below.refl _ _).alloc (Nat.le_refl _) _).grown hgrow1 (by simp) (fun k e => by cases e; exact Nat.le_refl _); have O1 : Hid (OwnsP w1 w.heap.size v1 ((listP f g n).take p)) := OwnsP.mk T1.out (by simpa using hown1); clear hown1 hgrow1))
      go_ret
      exact ⟨_, rfl, by rw [EL.out]; exact O3.out, B3.out⟩
    | true =>
      have HT : Hid (hitB f n key p = true) := by show hitB f n key p = true; unfold hitB; rw [hq, decide_eq_true hlt]; rfl
      by_cases hlast : n = p + 1
      · subst hlast
        have T0 : Hid (((listP f g (p + 1)).take p).length = p) := by show ((listP f g (p + 1)).take p).length = p; have := List.length_take (i := p) (l := listP f g (p + 1)); rw [listP_length] at this; omega
        have T1 : Hid ((cellsP ((listP f g (p + 1)).take p)).length = p * 2) := by show (cellsP ((listP f g (p + 1)).take p)).length = p * 2; rw [cellsP_length, T0.out]
        have T2 : Hid (((listP f g (p + 1)).take p).length = p) := T0
        have T5 : Hid (((listP f g (p + 1)).drop (p + 1)).length = 0) := by show ((listP f g (p + 1)).drop (p + 1)).length = 0; have := List.length_drop (i := (p + 1)) (l := listP f g (p + 1)); rw [listP_length] at this; omega
        have T3 : Hid ((cellsP ((listP f g (p + 1)).drop (p + 1))).length = 0 * 2) := by show (cellsP ((listP f g (p + 1)).drop (p + 1))).length = 0 * 2; rw [cellsP_length, T5.out]
        have T4 : Hid (((listP f g (p + 1)).take p ++ [(key, val)]).length = p + 1) := by show ((listP f g (p + 1)).take p ++ [(key, val)]).length = p + 1; rw [List.length_append, T0.out]; rfl
        have Q1 : Hid (((listP f g (p + 1)).take p).length + 1 ≤ maxLen) := by show ((listP f g (p + 1)).take p).length + 1 ≤ maxLen; rw [T0.out]; unfold maxLen; omega
        have Q2 : Hid ((((listP f g (p + 1)).take p).length + 1) * 32 ≤ 140737488355328) := by show (((listP f g (p + 1)).take p).length + 1) * 32 ≤ 140737488355328; rw [T0.out]; omega
        have Q3 : Hid (((listP f g (p + 1)).take p ++ [(key, val)]).length + 0 ≤ maxLen) := by show ((listP f g (p + 1)).take p ++ [(key, val)]).length + 0 ≤ maxLen; rw [T4.out]; unfold maxLen; omega
        have Q4 : Hid ((((listP f g (p + 1)).take p ++ [(key, val)]).length + 0) * 32 ≤ 140737488355328) := by show (((listP f g (p + 1)).take p ++ [(key, val)]).length + 0) * 32 ≤ 140737488355328; rw [T4.out]; omega
        have S0 : Hid (SrcP w b o (listP f g (p + 1))) := src_of HH.out
        have N1 : Hid (∀ j u, (cellsP ((listP f g (p + 1)).take p))[j]? = some u → (w.alloc (.cells #[] 68)).cell? ((⟨b, o, none⟩ : Addr).add j) = some u) := ((S0.out.take p).below ((Below.refl _ _).alloc (Nat.le_refl _) _)).news
        have N3 : Hid (SrcP w b o ((listP f g (p + 1)).drop (p + 1))) := by
          have h9 := rest_src S0.out (listP_length f g (p + 1)) (p + 1) (by omega)
          unfold restO at h9
          first | (rw [if_pos (by omega)] at h9; exact h9) | (rw [if_neg (by omega)] at h9; exact h9)
        have EL : Hid (putL f g (p + 1) key val p = (listP f g (p + 1)).take p ++ [(key, val)] ++ (listP f g (p + 1)).drop (p + 1)) := by show putL f g (p + 1) key val p = _; unfold putL; rw [HT.out]; rfl
        go_enter Tryz.func93, Tryz.ntmps93
        go_wp2_with (first | (go_at_call 136; refine (l01At _ (p + 1) (p + 1) f g key p _ (by omega) HP.out HH.out).mono ?_; rintro e w' ⟨rfl, rfl⟩) | (at_builtin; refine wpList_append_own _ rfl (.tmp 41) (.tmp 42) 23 rfl w.heap.size 68 i0 (.agg #[.string ⟨#[]⟩, .string ⟨#[]⟩]) 2 32 Tryz.underlying23 HI.out HZ0.out HZ1.out HZ2.out rfl (by decide) _ _ _ rfl O2.out ⟨b, o, none⟩ 0 0 (cellsP ((listP f g (p + 1)).drop (p + 1))) rfl T3.out (N3.out.below B2.out).news (cellsP_one _) Q3.out Q4.out B2.out.size ?_; intro v3 w3 hown3 hgrow3 _; have B3 : Hid (Below w.heap.size w w3) := B2.out.grown hgrow3 B2.out.size O2.out.block; have O3 : Hid (OwnsP w3 w.heap.size v3 ((listP f g (p + 1)).take p ++ [(key, val)] ++ (listP f g (p + 1)).drop (p + 1))) := OwnsP.more T5.out hown3; clear hown3 hgrow3) | (at_builtin; refine wpList_append_own _ rfl (.tmp 36) (.tmp 40) 23 rfl w.heap.size 68 i0 (.agg #[.string ⟨#[]⟩, .string ⟨#[]⟩]) 2 32 Tryz.underlying23 HI.out HZ0.out HZ1.out HZ2.out rfl (by decide) _ _ _ rfl (O1.out.alloc _) ⟨w1.heap.size, 0, none⟩ 1 1 [.string key, .string val] rfl rfl (two_newP w1 key val) (two_oneP key val) Q1.out Q2.out (le_alloc B1.out.size _) ?_; intro v2 w2 hown2 hgrow2 _; have B2 : Hid (Below w.heap.size w w2) := (B1.out.alloc B1.out.size _).grown hgrow2 (le_alloc B1.out.size _) O1.out.block; have O2 : Hid (OwnsP w2 w.heap.size v2 ((listP f g (p + 1)).take p ++ [(key, val)])) := OwnsP.one hown2; clear hown2 hgrow2) | (at_builtin; refine wpList_append_own _ rfl (.tmp 32) (.tmp 35) 23 rfl w.heap.size 68 i0 (.agg #[.string ⟨#[]⟩, .string ⟨#[]⟩]) 2 32 Tryz.underlying23 HI.out HZ0.out HZ1.out HZ2.out rfl (by decide) _ 0 [] rfl (OwnsP.made w _ (Nat.le_refl _)) ⟨b, o, none⟩ p (p + 1) (cellsP ((listP f g (p + 1)).take p)) rfl T1.out N1.out (cellsP_one _) (by unfold maxLen; omega) (by omega) (by simp) ?_; intro v1 w1 hown1 hgrow1 _; have B1 : Hid (Below w.heap.size w w1) := ((Below.refl _ _).alloc (Nat.le_refl _) _).grown hgrow1 (by simp) (fun k e => by cases e; exact Nat.le_refl _); have O1 : Hid (OwnsP w1 w.heap.size v1 ((listP f g (p + 1)).take p)) := OwnsP.mk T1.out (by simpa using hown1); clear hown1 hgrow1))
        go_ret
        exact ⟨_, rfl, by rw [EL.out]; exact O3.out, B3.out⟩
      · have hne2 : ¬ n = p + 1 := hlast
        have T0 : Hid (((listP f g n).take p).length = p) := by show ((listP f g n).take p).length = p; have := List.length_take (i := p) (l := listP f g n); rw [listP_length] at this; omega
        have T1 : Hid ((cellsP ((listP f g n).take p)).length = p * 2) := by show (cellsP ((listP f g n).take p)).length = p * 2; rw [cellsP_length, T0.out]
        have T2 : Hid (((listP f g n).take p).length = p) := T0
        have T5 : Hid (((listP f g n).drop (p + 1)).length = (n - (p + 1))) := by show ((listP f g n).drop (p + 1)).length = (n - (p + 1)); have := List.length_drop (i := (p + 1)) (l := listP f g n); rw [listP_length] at this; omega
        have T3 : Hid ((cellsP ((listP f g n).drop (p + 1))).length = (n - (p + 1)) * 2) := by show (cellsP ((listP f g n).drop (p + 1))).length = (n - (p + 1)) * 2; rw [cellsP_length, T5.out]
        have T4 : Hid (((listP f g n).take p ++ [(key, val)]).length = p + 1) := by show ((listP f g n).take p ++ [(key, val)]).length = p + 1; rw [List.length_append, T0.out]; rfl
        have Q1 : Hid (((listP f g n).take p).length + 1 ≤ maxLen) := by show ((listP f g n).take p).length + 1 ≤ maxLen; rw [T0.out]; unfold maxLen; omega
        have Q2 : Hid ((((listP f g n).take p).length + 1) * 32 ≤ 140737488355328) := by show (((listP f g n).take p).length + 1) * 32 ≤ 140737488355328; rw [T0.out]; omega
        have Q3 : Hid (((listP f g n).take p ++ [(key, val)]).length + (n - (p + 1)) ≤ maxLen) := by show ((listP f g n).take p ++ [(key, val)]).length + (n - (p + 1)) ≤ maxLen; rw [T4.out]; unfold maxLen; omega
        have Q4 : Hid ((((listP f g n).take p ++ [(key, val)]).length + (n - (p + 1))) * 32 ≤ 140737488355328) := by show (((listP f g n).take p ++ [(key, val)]).length + (n - (p + 1))) * 32 ≤ 140737488355328; rw [T4.out]; omega
        have S0 : Hid (SrcP w b o (listP f g n)) := src_of HH.out
        have N1 : Hid (∀ j u, (cellsP ((listP f g n).take p))[j]? = some u → (w.alloc (.cells #[] 68)).cell? ((⟨b, o, none⟩ : Addr).add j) = some u) := ((S0.out.take p).below ((Below.refl _ _).alloc (Nat.le_refl _) _)).news
        have N3 : Hid (SrcP w b (o + (p + 1) * 2) ((listP f g n).drop (p + 1))) := by
          have h9 := rest_src S0.out (listP_length f g n) (p + 1) (by omega)
          unfold restO at h9
          first | (rw [if_pos (by omega)] at h9; exact h9) | (rw [if_neg (by omega)] at h9; exact h9)
        have EL : Hid (putL f g n key val p = (listP f g n).take p ++ [(key, val)] ++ (listP f g n).drop (p + 1)) := by show putL f g n key val p = _; unfold putL; rw [HT.out]; rfl
        go_enter Tryz.func93, Tryz.ntmps93
        go_wp2_with (first | (go_at_call 136; refine (l01At _ n n f g key p _ (by omega) HP.out HH.out).mono ?_; rintro e w' ⟨rfl, rfl⟩) | (at_builtin; refine wpList_append_own _ rfl (.tmp 41) (.tmp 42) 23 rfl w.heap.size 68 i0 (.agg #[.string ⟨#[]⟩, .string ⟨#[]⟩]) 2 32 Tryz.underlying23 HI.out HZ0.out HZ1.out HZ2.out rfl (by decide) _ _ _ rfl O2.out ⟨b, (o + (p + 1) * 2), none⟩ (n - (p + 1)) (n - (p + 1)) (cellsP ((listP f g n).drop (p + 1))) rfl T3.out (N3.out.below B2.out).news (cellsP_one _) Q3.out Q4.out B2.out.size ?_; intro v3 w3 hown3 hgrow3 _; have B3 : Hid (Below w.heap.size w w3) := B2.out.grown hgrow3 B2.out.size O2.out.block; have O3 : Hid (OwnsP w3 w.heap.size v3 ((listP f g n).take p ++ [(key, val)] ++ (listP f g n).drop (p + 1))) := OwnsP.more T5.out hown3; clear hown3 hgrow3) | (at_builtin; refine wpList_append_own _ rfl (.tmp 36) (.tmp 40) 23 rfl w.heap.size 68 i0 (.agg #[.string ⟨#[]⟩, .string ⟨#[]⟩]) 2 32 Tryz.underlying23 HI.out HZ0.out HZ1.out HZ2.out rfl (by decide) _ _ _ rfl (O1.out.alloc _) ⟨w1.heap.size, 0, none⟩ 1 1 [.string key, .string val] rfl rfl (two_newP w1 key val) (two_oneP key val) Q1.out Q2.out (le_alloc B1.out.size _) ?_; intro v2 w2 hown2 hgrow2 _; have B2 : Hid (Below w.heap.size w w2) := (B1.out.alloc B1.out.size _).grown hgrow2 (le_alloc B1.out.size _) O1.out.block; have O2 : Hid (OwnsP w2 w.heap.size v2 ((listP f g n).take p ++ [(key, val)])) := OwnsP.one hown2; clear hown2 hgrow2) | (at_builtin; refine wpList_append_own _ rfl (.tmp 32) (.tmp 35) 23 rfl w.heap.size 68 i0 (.agg #[.string ⟨#[]⟩, .string ⟨#[]⟩]) 2 32 Tryz.underlying23 HI.out HZ0.out HZ1.out HZ2.out rfl (by decide) _ 0 [] rfl (OwnsP.made w _ (Nat.le_refl _)) ⟨b, o, none⟩ p n (cellsP ((listP f g n).take p)) rfl T1.out N1.out (cellsP_one _) (by unfold maxLen; omega) (by omega) (by simp) ?_; intro v1 w1 hown1 hgrow1 _; have B1 : Hid (Below w.heap.size w w1) := ((Below.refl _ _).alloc (Nat.le_refl _) _).grown hgrow1 (by simp) (fun k e => by cases e; exact Nat.le_refl _); have O1 : Hid (OwnsP w1 w.heap.size v1 ((listP f g n).take p)) := OwnsP.mk T1.out (by simpa using hown1); clear hown1 hgrow1))
        go_ret
        exact ⟨_, rfl, by rw [EL.out]; exact O3.out, B3.out⟩
  · have hpe : p = n := by omega
    subst hpe
    clear hlt
    have HT : Hid (hitB f p key p = false) := by show hitB f p key p = false; unfold hitB; rw [decide_eq_false (by omega)]; rfl
    have T0 : Hid (((listP f g p).take p).length = p) := by show ((listP f g p).take p).length = p; have := List.length_take (i := p) (l := listP f g p); rw [listP_length] at this; omega
    have T1 : Hid ((cellsP ((listP f g p).take p)).length = p * 2) := by show (cellsP ((listP f g p).take p)).length = p * 2; rw [cellsP_length, T0.out]
    have T2 : Hid (((listP f g p).take p).length = p) := T0
    have T5 : Hid (((listP f g p).drop p).length = 0) := by show ((listP f g p).drop p).length = 0; have := List.length_drop (i := p) (l := listP f g p); rw [listP_length] at this; omega
    have T3 : Hid ((cellsP ((listP f g p).drop p)).length = 0 * 2) := by show (cellsP ((listP f g p).drop p)).length = 0 * 2; rw [cellsP_length, T5.out]
    have T4 : Hid (((listP f g p).take p ++ [(key, val)]).length = p + 1) := by show ((listP f g p).take p ++ [(key, val)]).length = p + 1; rw [List.length_append, T0.out]; rfl
    have Q1 : Hid (((listP f g p).take p).length + 1 ≤ maxLen) := by show ((listP f g p).take p).length + 1 ≤ maxLen; rw [T0.out]; unfold maxLen; omega
    have Q2 : Hid ((((listP f g p).take p).length + 1) * 32 ≤ 140737488355328) := by show (((listP f g p).take p).length + 1) * 32 ≤ 140737488355328; rw [T0.out]; omega
    have Q3 : Hid (((listP f g p).take p ++ [(key, val)]).length + 0 ≤ maxLen) := by show ((listP f g p).take p ++ [(key, val)]).length + 0 ≤ maxLen; rw [T4.out]; unfold maxLen; omega
    have Q4 : Hid ((((listP f g p).take p ++ [(key, val)]).length + 0) * 32 ≤ 140737488355328) := by show (((listP f g p).take p ++ [(key, val)]).length + 0) * 32 ≤ 140737488355328; rw [T4.out]; omega
    have S0 : Hid (SrcP w b o (listP f g p)) := src_of HH.out
    have N1 : Hid (∀ j u, (cellsP ((listP f g p).take p))[j]? = some u → (w.alloc (.cells #[] 68)).cell? ((⟨b, o, none⟩ : Addr).add j) = some u) := ((S0.out.take p).below ((Below.refl _ _).alloc (Nat.le_refl _) _)).news
    have N3 : Hid (SrcP w b o ((listP f g p).drop p)) := by
      have h9 := rest_src S0.out (listP_length f g p) p (by omega)
      unfold restO at h9
      first | (rw [if_pos (by omega)] at h9; exact h9) | (rw [if_neg (by omega)] at h9; exact h9)
    have EL : Hid (putL f g p key val p = (listP f g p).take p ++ [(key, val)] ++ (listP f g p).drop p) := by show putL f g p key val p = _; unfold putL; rw [HT.out]; rfl
    go_enter Tryz.func93, Tryz.ntmps93
    go_wp2_with (first | (go_at_call 136; refine (l01At _ p p f g key p _ (by omega) HP.out HH.out).mono ?_; rintro e w' ⟨rfl, rfl⟩) | (at_builtin; refine wpList_append_own _ rfl (.tmp 41) (.tmp 42) 23 rfl w.heap.size 68 i0 (.agg #[.string ⟨#[]⟩, .string ⟨#[]⟩]) 2 32 Tryz.underlying23 HI.out HZ0.out HZ1.out HZ2.out rfl (by decide) _ _ _ rfl O2.out ⟨b, o, none⟩ 0 0 (cellsP ((listP f g p).drop p)) rfl T3.out (N3.out.below B2.out).news (cellsP_one _) Q3.out Q4.out B2.out.size ?_; intro v3 w3 hown3 hgrow3 _; have B3 : Hid (Below w.heap.size w w3) := B2.out.grown hgrow3 B2.out.size O2.out.block; have O3 : Hid (OwnsP w3 w.heap.size v3 ((listP f g p).take p ++ [(key, val)] ++ (listP f g p).drop p)) := OwnsP.more T5.out hown3; clear hown3 hgrow3) | (at_builtin; refine wpList_append_own _ rfl (.tmp 36) (.tmp 40) 23 rfl w.heap.size 68 i0 (.agg #[.string ⟨#[]⟩, .string ⟨#[]⟩]) 2 32 Tryz.underlying23 HI.out HZ0.out HZ1.out HZ2.out rfl (by decide) _ _ _ rfl (O1.out.alloc _) ⟨w1.heap.size, 0, none⟩ 1 1 [.string key, .string val] rfl rfl (two_newP w1 key val) (two_oneP key val) Q1.out Q2.out (le_alloc B1.out.size _) ?_; intro v2 w2 hown2 hgrow2 _; have B2 : Hid (Below w.heap.size w w2) := (B1.out.alloc B1.out.size _).grown hgrow2 (le_alloc B1.out.size _) O1.out.block; have O2 : Hid (OwnsP w2 w.heap.size v2 ((listP f g p).take p ++ [(key, val)])) := OwnsP.one hown2; clear hown2 hgrow2) | (at_builtin; refine wpList_append_own _ rfl (.tmp 32) (.tmp 35) 23 rfl w.heap.size 68 i0 (.agg #[.string ⟨#[]⟩, .string ⟨#[]⟩]) 2 32 Tryz.underlying23 HI.out HZ0.out HZ1.out HZ2.out rfl (by decide) _ 0 [] rfl (OwnsP.made w _ (Nat.le_refl _)) ⟨b, o, none⟩ p p (cellsP ((listP f g p).take p)) rfl T1.out N1.out (cellsP_one _) (by unfold maxLen; omega) (by omega) (by simp) ?_; intro v1 w1 hown1 hgrow1 _; have B1 : Hid (Below w.heap.size w w1) := ((Below.refl _ _).alloc (Nat.le_refl _) _).grown hgrow1 (by simp) (fun k e => by cases e; exact Nat.le_refl _); have O1 : Hid (OwnsP w1 w.heap.size v1 ((listP f g p).take p)) := OwnsP.mk T1.out (by simpa using hown1); clear hown1 hgrow1))
    go_ret
    exact ⟨_, rfl, by rw [EL.out]; exact O3.out, B3.out⟩
end Go.Proofs.YthgbclipknfmjaaGreatDoor
