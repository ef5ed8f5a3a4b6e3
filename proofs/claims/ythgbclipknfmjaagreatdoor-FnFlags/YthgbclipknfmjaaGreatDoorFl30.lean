/-
  Fgp Lists4 Draws Draws2 Dmw in one. By an AI agent.
-/
import Derived.Test.YthgbclipknfmjaaGreatDoorFl28
import Derived.Test.YthgbclipknfmjaaGreatDoorFl29
import Derived.Test.YthgbclipknfmjaaGreatDoorFl01
import Derived.Test.YthgbclipknfmjaaGreatDoorFl27
import Derived.Test.YthgbclipknfmjaaGreatDoorFl19
namespace Go.Proofs.YthgbclipknfmjaaGreatDoor
open Go.ChangeShapes Go.WideShapes Go.ChangeAt Go.RowKit Go.Deep Go.Lib
set_option linter.unusedVariables false
set_option linter.unusedSimpArgs false
set_option maxRecDepth 100000

/-- A mail with other flags. -/
abbrev reF (m : MMl) (fl : Int) : MMl := (m.1, fl, m.2.2)
theorem getD_set {Ms : List MMl} {i j : Nat} {x : MMl} : (Ms.set i x).getD j ml0 = if i = j ∧ i < Ms.length then x else Ms.getD j ml0 := by
  rw [List.getD_eq_getElem?_getD, List.getElem?_set, List.getD_eq_getElem?_getD]
  by_cases e : i = j
  · subst e
    rw [if_pos rfl]
    by_cases h : i < Ms.length
    · rw [if_pos h, if_pos ⟨rfl, h⟩]
      rfl
    · rw [if_neg h, if_neg (fun h9 => h h9.2), List.getElem?_eq_none (by omega)]
  · rw [if_neg e, if_neg (fun h9 => e h9.1)]
theorem map_reF {Ms : List MMl} {j : Nat} {fl : Int} : (Ms.set j (reF (Ms.getD j ml0) fl)).map (·.1) = Ms.map (·.1) := by
  rw [List.map_set]
  by_cases h : j < Ms.length
  · refine List.ext_getElem (by simp) fun k h1 h2 => ?_
    rw [List.getElem_set]
    split
    · rename_i e
      subst e
      show (Ms.getD j ml0).1 = _
      rw [List.getD_eq_getElem?_getD, List.getElem?_eq_getElem h, List.getElem_map]
      rfl
    · rfl
  · rw [List.set_eq_of_length_le (by simp; omega)]
theorem rise_map {Ms Ns : List MMl} (h : Rise Ms) (e : Ns.map (·.1) = Ms.map (·.1)) : Rise Ns := by
  have h1 : (Ms.map (·.1)).Pairwise (· < ·) := List.pairwise_map.2 h
  rw [← e] at h1
  exact List.pairwise_map.1 h1
theorem rise_at {Ms : List MMl} (h : Rise Ms) {i j : Nat} (hi : i < Ms.length) (hj : j < Ms.length) (e : (Ms.getD i ml0).1 = (Ms.getD j ml0).1) : i = j := by
  rw [List.getD_eq_getElem?_getD, List.getD_eq_getElem?_getD, List.getElem?_eq_getElem hi, List.getElem?_eq_getElem hj] at e
  have e1 : (Ms[i]).1 = (Ms[j]).1 := e
  have h1 := List.pairwise_iff_getElem.1 h
  rcases Nat.lt_trichotomy i j with h2 | h2 | h2
  · have := h1 i j hi hj h2; omega
  · exact h2
  · have := h1 j i hj hi h2; omega
/-- A mail's flags are set. -/
theorem sf_set {k : Nat} {L R : List PM} {u f : ByteArray} {va nx fl q : Int} {Ms : List MMl} {i : Nat} (hk : k ≤ 900) (h : Drawn k L) (hu : u = annT ∨ u = bobT) (hsf : shortB f = true) (hfa : faM L u f = ((f, va, nx, Ms), 0)) (hi : i < Ms.length) (f0 : 0 ≤ fl) (f1 : fl ≤ 3) (hR : sfR L u f (Ms.getD i ml0).1 fl = (R, q)) :
    q = 0 ∧ Drawn (k + 1) R ∧ faM R u f = ((f, va, nx, Ms.set i (reF (Ms.getD i ml0) fl)), 0) := by
  have hsu := (h.desk hu).1
  have hus := word_slash hsu
  have hfs := word_slash hsf
  rcases fa_drawn h hu hsf with ⟨h16, hfa2⟩ | ⟨S, g, hS, hw, hl, hgn, h0, hfa2, hri, hfn, hF, hnd⟩
  · rw [hfa] at hfa2
    injection hfa2 with _ h9
    cases h9
  rw [hfa] at hfa2
  injection hfa2 with h9 _
  injection h9 with _ h9
  injection h9 with e1 h9
  injection h9 with e2 e3
  subst e1 e2 e3
  unfold sfR at hR
  rw [ask_ok h.st (by simp [hsu, hsf]), if_neg (by decide), if_neg (by unfold flagB; simp; omega)] at hR
  obtain ⟨q2, S', hQ⟩ := sf_is S f (g.mails.getD i ml0).1 fl
  have hO := sf_fits h.st hsu hsf f0 f1 hS hQ
  have hdr := fl_drawn (un := (g.mails.getD i ml0).1) h hu hsf f0 f1
  rw [hR] at hO hdr
  have hQ9 := hQ
  rcases hQ9 with ⟨k1, _, _⟩ | ⟨k1, g2, hl2, ⟨hno, _, _⟩ | ⟨j, hj, hju, rfl, rfl⟩⟩
  · rw [lack_known h.st hus hfs hS] at k1
    exact absurd h0 k1
  · rw [hl] at hl2
    cases hl2
    exact absurd rfl (hno _ (mem_getD' g.mails ml0 i hi))
  rw [hl] at hl2
  cases hl2
  obtain rfl : j = i := rise_at hri hj hi hju
  obtain ⟨_, j1, _, Y, up, pm, _, j5⟩ := hO.2 rfl
  have hD : DeskS L u S := ⟨h.st, hS, hw, hF, hnd, (h.desk hu).2.choose_spec.2.2.2.2⟩
  have hT := step_sf (P := fun _ => True) hF hnd f0 f1 hQ
  have hlg : lookF g.name S.fs = some g := by rw [hgn]; exact hl
  obtain ⟨G, hG⟩ : ∃ G, (⟨g.name, g.val, g.next, g.mails.set j (reF (g.mails.getD j ml0) fl)⟩ : FM) = G := ⟨_, rfl⟩
  have l1 : (deskP (nextM L) u ⟨S.aside, S.word, putF G S.fs⟩).length = Y.length := by rw [← hG]; exact pm.length_eq
  have l2 := (desk_list h.st hus hS hw).length_eq
  have hGn : G.name = g.name := by rw [← hG]
  have hGm : G.mails.length = g.mails.length := by rw [← hG]; exact List.length_set
  have l3 := sum_old (g := G) (fs := S.fs) (f := g) (by rw [hGn]; exact hlg)
  have l4 := put_len (g := G) (fs := S.fs) (f := g) (by rw [hGn]; exact hlg)
  clear hG
  unfold deskP at l1
  simp only [List.length_cons, List.length_append, flat_len] at l1 l2
  have h60 := (store_facts h.st).1.1
  unfold fitsR at j5
  rw [if_neg (by omega)] at j5
  injection j5 with j6 j7
  subst j6 j7
  obtain ⟨hL, hn⟩ := left_of hD hT j1 up pm (by omega)
  have hmem : (⟨g.name, g.val, g.next, g.mails.set j (reF (g.mails.getD j ml0) fl)⟩ : FM) ∈ (setM S g (g.mails.set j (reF (g.mails.getD j ml0) fl))).fs := put_self
  have hfo := hL.fa hD hmem (rise_map hri map_reF)
  refine ⟨rfl, hdr, ?_⟩
  rw [hgn] at hfo
  exact hfo
/-- No mail has the next uid. -/
theorem sf_none {k : Nat} {L : List PM} {u f : ByteArray} {va nx fl : Int} {Ms : List MMl} (h : Drawn k L) (hu : u = annT ∨ u = bobT) (hsf : shortB f = true) (hfa : faM L u f = ((f, va, nx, Ms), 0)) (f0 : 0 ≤ fl) (f1 : fl ≤ 3) : sfR L u f nx fl = (L, 5) := by
  have hsu := (h.desk hu).1
  have hus := word_slash hsu
  have hfs := word_slash hsf
  rcases fa_drawn h hu hsf with ⟨h16, hfa2⟩ | ⟨S, g, hS, hw, hl, hgn, h0, hfa2, hri, hfn, hF, hnd⟩
  · rw [hfa] at hfa2
    injection hfa2 with _ h9
    cases h9
  rw [hfa] at hfa2
  injection hfa2 with h9 _
  injection h9 with _ h9
  injection h9 with e1 h9
  injection h9 with e2 e3
  subst e1 e2 e3
  obtain ⟨g1, g2, g3, g4, g5, g6, g7⟩ := hF.fs g (lookF_mem hl).1
  have hno : ∀ m ∈ g.mails, m.1 ≠ g.next := fun m hm => by have := (g7 m hm).2.1; omega
  have hQ : SfIs S f g.next fl 5 S := .inr ⟨by rw [lack_known h.st hus hfs hS]; exact h0, g, hl, .inl ⟨hno, rfl, rfl⟩⟩
  have hO := sf_fits h.st hsu hsf f0 f1 hS hQ
  unfold sfR
  rw [ask_ok h.st (by simp [hsu, hsf]), if_neg (by decide), if_neg (by unfold flagB; simp; omega)]
  exact hO.1 (by decide)
/-- The folder is expunged. -/
theorem ex_told {k : Nat} {L : List PM} {u f : ByteArray} {va nx : Int} {Ms : List MMl} (hk : k ≤ 900) (h : Drawn k L) (hu : u = annT ∨ u = bobT) (hsf : shortB f = true) (hfa : faM L u f = ((f, va, nx, Ms), 0)) :
    ∃ R, eR L u f = (R, goI Ms, 0) ∧ storeB R = true ∧ faM R u f = ((f, va, nx, keepM Ms), 0) := by
  have hsu := (h.desk hu).1
  have hus := word_slash hsu
  have hfs := word_slash hsf
  have h25 := h.nx
  rcases fa_drawn h hu hsf with ⟨h16, hfa2⟩ | ⟨S, g, hS, hw, hl, hgn, h0, hfa2, hri, hfn, hF, hnd⟩
  · rw [hfa] at hfa2
    injection hfa2 with _ h9
    cases h9
  rw [hfa] at hfa2
  injection hfa2 with h9 _
  injection h9 with _ h9
  injection h9 with e1 h9
  injection h9 with e2 e3
  subst e1 e2 e3
  obtain ⟨k1, k2, k3, _, k5⟩ := ex_fits h.st hus hfs hS hw hl
  have hD : DeskS L u S := ⟨h.st, hS, hw, hF, hnd, (h.desk hu).2.choose_spec.2.2.2.2⟩
  obtain ⟨hL, hn⟩ := left_of hD (step_ex (P := fun _ => True) hF hnd hl) (by omega) k1 k2 k3
  have hmem : (⟨g.name, g.val, g.next, keepM g.mails⟩ : FM) ∈ (exS S g).fs := put_self
  have hfo := hL.fa hD hmem (hri.sublist (List.filter_sublist))
  refine ⟨exY L u f, ?_, hL.st, ?_⟩
  · unfold eR
    rw [ask_ok h.st (by simp [hsu, hsf]), if_neg (by decide)]
    unfold exR
    rw [if_neg (by omega), k5]
  · rw [hgn] at hfo
    exact hfo
theorem ex_gone {k : Nat} {L : List PM} {u f : ByteArray} {z : ByteArray × Int × Int × List MMl} {q : Int} (h : Drawn k L) (hu : u = annT ∨ u = bobT) (hsf : shortB f = true) (hfa : faM L u f = (z, q)) (hq : q ≠ 0) : q = 16 ∧ eR L u f = (L, [], 16) := by
  have hsu := (h.desk hu).1
  rcases fa_drawn h hu hsf with ⟨h16, hfa2⟩ | ⟨S, g, hS, hw, hl, hgn, h0, hfa2, _⟩
  · rw [hfa] at hfa2
    injection hfa2 with _ h9
    refine ⟨h9, ?_⟩
    unfold eR
    rw [ask_ok h.st (by simp [hsu, hsf]), if_neg (by decide)]
    unfold exR
    rw [h16, if_pos (by decide)]
  · rw [hfa] at hfa2
    injection hfa2 with _ h9
    exact absurd h9 hq
theorem fa_named {k : Nat} {L : List PM} {u f nm : ByteArray} {va nx q : Int} {Ms : List MMl} (h : Drawn k L) (hu : u = annT ∨ u = bobT) (hsf : shortB f = true) (hfa : faM L u f = ((nm, va, nx, Ms), q)) (hq : q = 0) : nm = f ∧ Ms.length ≤ 6 := by
  rcases fa_drawn h hu hsf with ⟨h16, hfa2⟩ | ⟨S, g, hS, hw, hl, hgn, h0, hfa2, hri, hfn, hF, hnd⟩
  · rw [hfa] at hfa2
    injection hfa2 with _ h9
    omega
  rw [hfa] at hfa2
  injection hfa2 with h9 _
  injection h9 with e0 h9
  injection h9 with e1 h9
  injection h9 with e2 e3
  subst e0 e1 e2 e3
  refine ⟨rfl, ?_⟩
  have h6 := hF.sm
  have h7 := sum_dropF hl
  omega
/-- The first i mails have flags of their own. -/
def flN (A : Nat → Int) : Nat → List MMl → List MMl
  | 0, Ms => Ms
  | i + 1, Ms => (flN A i Ms).set i (reF (Ms.getD i ml0) (A i))
theorem flN_len {A : Nat → Int} {Ms : List MMl} : ∀ i, (flN A i Ms).length = Ms.length
  | 0 => rfl
  | i + 1 => by
    show ((flN A i Ms).set i _).length = _
    rw [List.length_set, flN_len i]
theorem flN_at {A : Nat → Int} {Ms : List MMl} : ∀ i j, j < Ms.length → (flN A i Ms).getD j ml0 = if j < i then reF (Ms.getD j ml0) (A j) else Ms.getD j ml0
  | 0, j, h => rfl
  | i + 1, j, h => by
    show ((flN A i Ms).set i _).getD j ml0 = _
    rw [getD_set, flN_len, flN_at i j h]
    by_cases e : i = j
    · subst e
      rw [if_pos ⟨rfl, h⟩, if_pos (by omega)]
    · rw [if_neg (fun h9 => e h9.1)]
      by_cases h1 : j < i
      · rw [if_pos h1, if_pos (by omega)]
      · rw [if_neg h1, if_neg (by omega)]
/-- The next step of the loop. -/
theorem flN_next {A : Nat → Int} {Ms : List MMl} {i : Nat} (hi : i < Ms.length) : (flN A i Ms).getD i ml0 = Ms.getD i ml0 ∧ (flN A i Ms).set i (reF ((flN A i Ms).getD i ml0) (A i)) = flN A (i + 1) Ms := by
  have h1 : (flN A i Ms).getD i ml0 = Ms.getD i ml0 := by rw [flN_at i i hi, if_neg (by omega)]
  exact ⟨h1, by rw [h1]; rfl⟩
/-- What is kept, counted. -/
theorem keep_step {F : List MMl} {i : Nat} (hi : i < F.length) : (delB (F.getD i ml0) = true → (keepM (F.take (i + 1))).length = (keepM (F.take i)).length) ∧ (delB (F.getD i ml0) = false → (keepM (F.take (i + 1))).length = (keepM (F.take i)).length + 1 ∧ (keepM (F.take i)).length < (keepM F).length ∧ (keepM F).getD (keepM (F.take i)).length ml0 = F.getD i ml0) := by
  have e : F.take (i + 1) = F.take i ++ [F.getD i ml0] := by
    rw [List.take_add_one, List.getD_eq_getElem?_getD, List.getElem?_eq_getElem hi]
    rfl
  have e2 : F = F.take i ++ F.getD i ml0 :: F.drop (i + 1) := by
    conv => lhs; rw [← List.take_append_drop i F]
    rw [List.drop_eq_getElem_cons hi, List.getD_eq_getElem?_getD, List.getElem?_eq_getElem hi]
    rfl
  obtain ⟨x, hx⟩ : ∃ x, F.getD i ml0 = x := ⟨_, rfl⟩
  rw [hx] at e e2 ⊢
  clear hx
  constructor
  · intro h
    rw [e]
    unfold keepM
    rw [List.filter_append]
    simp [h]
  · intro h
    have e3 : keepM F = keepM (F.take i) ++ x :: keepM (F.drop (i + 1)) := by
      conv => lhs; rw [e2]
      unfold keepM
      rw [List.filter_append, List.filter_cons]
      simp [h]
    refine ⟨?_, ?_, ?_⟩
    · rw [e]
      unfold keepM
      rw [List.filter_append]
      simp [h]
    · have e4 := congrArg List.length e3
      rw [List.length_append, List.length_cons] at e4
      omega
    · generalize (keepM (F.take i)) = K at e3 ⊢
      rw [e3, List.getD_eq_getElem?_getD, List.getElem?_append_right (Nat.le_refl _)]
      simp
theorem keep_all {F : List MMl} : (goI F).length + (keepM F).length = F.length := by
  unfold goI keepM
  rw [List.length_map]
  induction F with
  | nil => rfl
  | cons m F ih =>
    cases h : delB m
    · simp [List.filter_cons, h]
      omega
    · simp [List.filter_cons, h]
      omega
end Go.Proofs.YthgbclipknfmjaaGreatDoor
namespace Go.Proofs.YthgbclipknfmjaaGreatDoor
open Go.ChangeShapes Go.WideShapes Go.ChangeAt Go.RowKit Go.Deep
set_option linter.unusedVariables false

def cellsB (L : List Nat) : List Value := L.map fun x => .int .u8 ((x : Nat) : Int)
theorem cellsB_length (L : List Nat) : (cellsB L).length = L.length := by simp [cellsB]
theorem cellsB_get (L : List Nat) (i : Nat) (h : i < L.length) : (cellsB L)[i]? = some (.int .u8 ((L.getD i 0 : Nat) : Int)) := by
  simp [cellsB, h]
end Go.Proofs.YthgbclipknfmjaaGreatDoor
namespace Go.Proofs.YthgbclipknfmjaaGreatDoor
open Go.ChangeShapes Go.WideShapes Go.ChangeAt Go.RowKit Go.Deep
set_option linter.unusedVariables false
set_option maxRecDepth 100000

/-- A block holds three cells, no more. -/
def NoMore (w : World) (P : Nat) : Prop := ∀ i, 3 ≤ i → w.cell? ⟨P, i, none⟩ = none
theorem NoMore.set {w : World} {P : Nat} (h : NoMore w P) (j : Nat) (hj : j < 3) (v : Value) : NoMore (w.setCell ⟨P, j, none⟩ v) P := fun i hi => by
  rw [World.cell?_setCell_other _ _ _ _ (fun e => by cases e; omega)]
  exact h i hi
theorem NoMore.drewN {w : World} {P : Nat} (h : NoMore w P) (n : Nat) : NoMore (w.drewN n) P := h
/-- A source at block P: its code, its place, its seed. -/
def Draw (w : World) (P : Nat) (ca : Option Addr) (n cc K : Nat) : Prop :=
  ∃ at_ seed : Nat, Box w P [.slice ca n cc, .int .i64 (at_ : Int), .int .i64 (seed : Int)] ∧ at_ ≤ K ∧ seed < 2147483648 ∧ NoMore w P
theorem turned_set {lo hi : Nat} (w : World) (p : Addr) (h1 : lo ≤ p.block) (h2 : p.block < hi) (u : Value) : Turned lo hi w (w.setCell p u) :=
  ⟨rfl, rfl, rfl, by simp, fun k hk hr => Below.heap_setCell _ _ _ _ (by intro e; omega)⟩
theorem turned_drewN {lo hi : Nat} {w w' : World} (h : Turned lo hi w w') (n : Nat) : Turned lo hi w (w'.drewN n) := ⟨h.os, h.tape, h.output, h.size, h.block⟩
theorem tmod_nat (a b : Nat) : Int.tmod (a : Int) (b : Int) = ((a % b : Nat) : Int) := by
  rw [Int.tmod_eq_emod_of_nonneg (by omega)]; simp
set_option maxHeartbeats 2000000 in
theorem drawByte (P n cc K : Nat) (ca : Option Addr) (C : List Nat) (w : World) (hC : C.length = n) (hn : n ≤ 1048576) (h8 : ∀ x ∈ C, x < 256) (hs : Src w ca (cellsB C)) (hP : 0 < n → ∀ a, ca = some a → a.block ≠ P) (hK : K ≤ 1000000000) (hx : Draw w P ca n cc K) :
    Calls Tryz.prog 126 #[.pointer (some ⟨P, 0, none⟩)] w fun e w' => ∃ x : Nat, e = .returned (.int .i64 (x : Int)) ∧ x < 256 ∧ Turned P (P + 1) w w' ∧ Draw w' P ca n cc (K + 1) := by
  obtain ⟨at_, seed, hbox, hat, hsd, hnm⟩ := hx
  have HNM : Hid (NoMore w P) := hnm
  clear hnm
  have HB : Hid (Box w P [.slice ca n cc, .int .i64 (at_ : Int), .int .i64 (seed : Int)]) := hbox
  have HC : Hid (C.length = n ∧ (∀ x ∈ C, x < 256) ∧ Src w ca (cellsB C) ∧ (0 < n → ∀ a, ca = some a → a.block ≠ P)) := ⟨hC, h8, hs, hP⟩
  obtain ⟨c0, c0f⟩ := hbox 0 _ rfl
  obtain ⟨c1, c1f⟩ := hbox 1 _ rfl
  obtain ⟨c2, c2f⟩ := hbox 2 _ rfl
  have T0 : Hid (Turned P (P + 1) w (w.setCell ⟨P, 1, none⟩ (.int .i64 ((at_ : Int) + 1)))) := turned_set w ⟨P, 1, none⟩ (by dsimp only; omega) (by dsimp only; omega) _
  have B1 : Hid (Box (w.setCell ⟨P, 1, none⟩ (.int .i64 ((at_ : Int) + 1))) P [.slice ca n cc, .int .i64 ((at_ : Int) + 1), .int .i64 (seed : Int)]) := hbox.set 1 _
  obtain ⟨d0, d0f⟩ := B1.out 0 _ rfl
  obtain ⟨d1, d1f⟩ := B1.out 1 _ rfl
  obtain ⟨d2, d2f⟩ := B1.out 2 _ rfl
  clear hC h8 hs hP hbox
  by_cases t1 : at_ < n
  · have hle : (at_ : Int) + 1 ≤ (n : Int) := by omega
    have hdec : decide ((at_ : Int) + 1 ≤ (n : Int)) = true := decide_eq_true hle
    obtain ⟨b, o, rfl, hcell⟩ : ∃ b o, ca = some ⟨b, o, none⟩ ∧ (w.setCell ⟨P, 1, none⟩ (.int .i64 ((at_ : Int) + 1))).cell? ⟨b, o + at_, none⟩ = some (.int .u8 ((C.getD at_ 0 : Nat) : Int)) := by
      rcases HC.out.2.2.1 with h | ⟨b, o, rfl, hc⟩
      · have h2 := cellsB_length C
        rw [h] at h2
        simp only [List.length_nil] at h2
        have := HC.out.1
        omega
      · refine ⟨b, o, rfl, ?_⟩
        have hne := HC.out.2.2.2 (by omega) _ rfl
        rw [World.cell?_setCell_other _ _ _ _ (fun e => hne (congrArg Addr.block e).symm), hc at_ (by rw [cellsB_length, HC.out.1]; exact t1), getD_some (cellsB_get C at_ (by rw [HC.out.1]; exact t1))]
    obtain ⟨y, hy⟩ : ∃ y, C.getD at_ 0 = y := ⟨_, rfl⟩
    rw [hy] at hcell
    have hy8 : y < 256 := by
      rw [← hy, List.getD_eq_getElem?_getD, List.getElem?_eq_getElem (by rw [HC.out.1]; exact t1)]
      exact HC.out.2.1 _ (List.getElem_mem _)
    obtain ⟨s2, hs2⟩ : ∃ s2, (seed * 31 + y + 7) % 2147483648 = s2 := ⟨_, rfl⟩
    have hs2l : s2 < 2147483648 := by rw [← hs2]; exact Nat.mod_lt _ (by omega)
    have R : Int.tmod ((seed : Int) * 31 + (y : Int) + 7) 2147483648 = (s2 : Int) := by
      have h9 := tmod_nat (seed * 31 + y + 7) 2147483648
      rw [hs2] at h9
      have e9 : (((seed * 31 + y + 7 : Nat)) : Int) = (seed : Int) * 31 + (y : Int) + 7 := by omega
      rw [e9] at h9
      exact h9
    have i0 : (0 : Int) ≤ (at_ : Int) + 1 - 1 := by omega
    have i1 : (at_ : Int) + 1 - 1 < (n : Int) := by omega
    have i2 : (at_ : Int) + 1 - 1 = (at_ : Int) := by omega
    have FACTS : Hid (∀ N W2, ((w.setCell ⟨P, 1, none⟩ (.int .i64 ((at_ : Int) + 1))).drewN N).setCell ⟨P, 2, none⟩ (.int .i64 (s2 : Int)) = W2 → Box W2 P [.slice (some ⟨b, o, none⟩) n cc, .int .i64 ((at_ : Int) + 1), .int .i64 (s2 : Int)] ∧ W2.cell? ⟨b, o + at_, none⟩ = some (.int .u8 (y : Int)) ∧ Turned P (P + 1) w W2) := fun N W2 e => by
      subst e
      have hne : b ≠ P := HC.out.2.2.2 (by omega) _ rfl
      refine ⟨Box.set (w := (w.setCell ⟨P, 1, none⟩ (.int .i64 ((at_ : Int) + 1))).drewN N) B1.out 2 _, ?_, (turned_drewN T0.out N).trans (turned_set _ ⟨P, 2, none⟩ (by dsimp only; omega) (by dsimp only; omega) _)⟩
      rw [World.cell?_setCell_other _ _ _ _ (fun e => hne (congrArg Addr.block e).symm)]
      exact hcell
    clear hs2 hy
    go_enter Tryz.func126, Tryz.ntmps126
    go_wp2_with fail
    go_quiet (fail)
    go_wp2_with fail
    go_region
    all_goals go_wp2_with fail
    all_goals
      generalize hW : World.setCell (World.drewN _ _) _ _ = W2
      obtain ⟨g1, g2, g3⟩ := FACTS.out _ _ hW
      have G1 : Hid (Box W2 P [.slice (some ⟨b, o, none⟩) n cc, .int .i64 ((at_ : Int) + 1), .int .i64 (s2 : Int)]) := g1
      have G3 : Hid (Turned P (P + 1) w W2) := g3
      have G4 : Hid (NoMore W2 P) := by show NoMore _ _; rw [← hW]; exact NoMore.set ((NoMore.set HNM.out 1 (by omega) _).drewN _) 2 (by omega) _
      obtain ⟨f0, _⟩ := g1 0 _ rfl
      obtain ⟨f1, _⟩ := g1 1 _ rfl
      clear hW g1 g3 c0 c1 c2 d0 d1 d2 c0f c1f c2f d0f d1f d2f hcell
      go_quiet (fail)
      go_wp2_with fail
      go_ret
      exact ⟨y, rfl, hy8, turned_drewN G3.out _, at_ + 1, s2, G1.out, by omega, hs2l, G4.out⟩
  have hle : ¬ (at_ : Int) + 1 ≤ (n : Int) := by omega
  have hdec : decide ((at_ : Int) + 1 ≤ (n : Int)) = false := decide_eq_false hle
  by_cases t2 : (3000 : Int) < (at_ : Int) + 1
  · go_enter Tryz.func126, Tryz.ntmps126
    go_wp2_with fail
    go_quiet (fail)
    go_wp2_with fail
    go_ret
    exact ⟨0, rfl, by omega, turned_drewN T0.out _, at_ + 1, seed, B1.out, by omega, hsd, (NoMore.set HNM.out 1 (by omega) _).drewN _⟩
  obtain ⟨s2, hs2⟩ : ∃ s2, (seed * 1103515245 + 12345) % 2147483648 = s2 := ⟨_, rfl⟩
  have hs2l : s2 < 2147483648 := by rw [← hs2]; exact Nat.mod_lt _ (by omega)
  have R : Int.tmod ((seed : Int) * 1103515245 + 12345) 2147483648 = (s2 : Int) := by
    have h9 := tmod_nat (seed * 1103515245 + 12345) 2147483648
    rw [hs2] at h9
    have e9 : (((seed * 1103515245 + 12345 : Nat)) : Int) = (seed : Int) * 1103515245 + 12345 := by omega
    rw [e9] at h9
    exact h9
  obtain ⟨x, hx9⟩ : ∃ x, s2 / 65536 % 256 = x := ⟨_, rfl⟩
  have hxl : x < 256 := by rw [← hx9]; exact Nat.mod_lt _ (by omega)
  have Q : (s2 : Int) / 65536 % 256 = (x : Int) := by rw [← hx9]; omega
  clear hs2 hx9
  go_enter Tryz.func126, Tryz.ntmps126
  go_wp2_with fail
  go_quiet (fail)
  go_wp2_with fail
  go_ret
  exact ⟨x, by show Ending.returned (.int .i64 ((s2 : Int) / 65536 % 256)) = _; rw [Q], hxl, (turned_drewN T0.out _).trans (turned_set _ ⟨P, 2, none⟩ (by dsimp only; omega) (by dsimp only; omega) _), at_ + 1, s2, Box.set (w := (w.setCell ⟨P, 1, none⟩ (.int .i64 ((at_ : Int) + 1))).drewN _) B1.out 2 _, by omega, hs2l, NoMore.set ((NoMore.set HNM.out 1 (by omega) _).drewN _) 2 (by omega) _⟩

theorem Src.turned {w w' : World} {lo hi : Nat} {a : Option Addr} {xs : List Value} (h : Src w a xs) (ht : Turned lo hi w w') (hP : 0 < xs.length → ∀ ad, a = some ad → ad.block < lo ∨ hi ≤ ad.block) : Src w' a xs := by
  rcases h with h | ⟨b, o, rfl, hc⟩
  · exact .inl h
  · refine .inr ⟨b, o, rfl, fun j hj => ?_⟩
    have h1 := hc j hj
    have hlt := World.block_lt_of_cell? _ _ h1
    dsimp only at hlt
    rw [← h1]
    exact World.cell?_of_block (a := ⟨b, o + j, none⟩) (ht.block b hlt (hP (by omega) _ rfl))
/-- A source with its code. -/
def DrawOK (w : World) (P : Nat) (ca : Option Addr) (n cc K : Nat) (C : List Nat) : Prop :=
  Draw w P ca n cc K ∧ C.length = n ∧ n ≤ 1048576 ∧ (∀ x ∈ C, x < 256) ∧ Src w ca (cellsB C) ∧ (0 < n → ∀ a, ca = some a → a.block ≠ P)
theorem DrawOK.byte {w : World} {P n cc K : Nat} {ca : Option Addr} {C : List Nat} (h : DrawOK w P ca n cc K C) (hK : K ≤ 1000000000) :
    Calls Tryz.prog 126 #[.pointer (some ⟨P, 0, none⟩)] w fun e w' => ∃ x : Nat, e = .returned (.int .i64 (x : Int)) ∧ x < 256 ∧ Turned P (P + 1) w w' ∧ DrawOK w' P ca n cc (K + 1) C := by
  obtain ⟨h1, h2, h3, h4, h5, h6⟩ := h
  refine (drawByte P n cc K ca C w h2 h3 h4 h5 h6 hK h1).mono ?_
  rintro e w' ⟨x, rfl, hx, ht, hd⟩
  exact ⟨x, rfl, hx, ht, hd, h2, h3, h4, h5.turned ht (fun hl ad e => by have := h6 (by rw [cellsB_length] at hl; omega) ad e; omega), h6⟩
set_option maxHeartbeats 1000000 in
theorem drawNext (P n cc K m : Nat) (ca : Option Addr) (C : List Nat) (w : World) (hm : 1 ≤ m) (hm2 : m ≤ 1000000) (hK : K ≤ 999999990) (h : DrawOK w P ca n cc K C) :
    Calls Tryz.prog 75 #[.pointer (some ⟨P, 0, none⟩), .int .i64 (m : Int)] w fun e w' => ∃ x : Nat, e = .returned (.int .i64 (x : Int)) ∧ x < m ∧ Turned P (P + 1) w w' ∧ DrawOK w' P ca n cc (K + 3) C := by
  have mono : ∀ {w9 : World} {K1 K2 : Nat}, K1 ≤ K2 → DrawOK w9 P ca n cc K1 C → DrawOK w9 P ca n cc K2 C := fun hk ⟨⟨a, s, h1, h2, h3⟩, h4⟩ => ⟨⟨a, s, h1, by omega, h3⟩, h4⟩
  have MO : Hid (∀ {w9 : World} {K1 K2 : Nat}, K1 ≤ K2 → DrawOK w9 P ca n cc K1 C → DrawOK w9 P ca n cc K2 C) := mono
  have H : Hid (DrawOK w P ca n cc K C) := h
  clear mono h
  by_cases t1 : (m : Int) ≤ 1
  · go_enter Tryz.func75, Tryz.ntmps75
    go_wp2_with fail
    go_ret
    exact ⟨0, rfl, by omega, Turned.of_below (Below.refl _ _), MO.out (by omega) H.out⟩
  have hmz : ¬ (m : Int) = 0 := by omega
  have hmz2 : ¬ m = 0 := by omega
  by_cases t2 : (m : Int) ≤ 256
  · go_enter Tryz.func75, Tryz.ntmps75
    go_wp2_with fail
    refine (H.out.byte (by omega)).mono ?_
    rintro e w1 ⟨x, rfl, hx, ht, hd⟩
    have R : Int.tmod (x : Int) (m : Int) = ((x % m : Nat) : Int) := tmod_nat x m
    obtain ⟨y, hy⟩ : ∃ y, x % m = y := ⟨_, rfl⟩
    rw [hy] at R
    have hyl : Hid (y < m) := by show y < m; rw [← hy]; exact Nat.mod_lt _ (by omega)
    have TT : Hid (Turned P (P + 1) w w1 ∧ DrawOK w1 P ca n cc (K + 1) C) := ⟨ht, hd⟩
    clear ht hd hy
    go_wp2_with fail
    go_ret
    exact ⟨y, rfl, hyl.out, TT.out.1, MO.out (by omega) TT.out.2⟩
  go_enter Tryz.func75, Tryz.ntmps75
  go_wp2_with fail
  refine (H.out.byte (by omega)).mono ?_
  rintro e w1 ⟨x1, rfl, hx1, ht1, hd1⟩
  have T1 : Hid (Turned P (P + 1) w w1 ∧ DrawOK w1 P ca n cc (K + 1) C) := ⟨ht1, hd1⟩
  clear ht1 hd1
  go_wp2_with fail
  refine (T1.out.2.byte (by omega)).mono ?_
  rintro e w2 ⟨x2, rfl, hx2, ht2, hd2⟩
  have T2 : Hid (Turned P (P + 1) w w2 ∧ DrawOK w2 P ca n cc (K + 1 + 1) C) := ⟨T1.out.1.trans ht2, hd2⟩
  clear ht2 hd2
  go_wp2_with fail
  refine (T2.out.2.byte (by omega)).mono ?_
  rintro e w3 ⟨x3, rfl, hx3, ht3, hd3⟩
  have T3 : Hid (Turned P (P + 1) w w3 ∧ DrawOK w3 P ca n cc (K + 1 + 1 + 1) C) := ⟨T2.out.1.trans ht3, hd3⟩
  clear ht3 hd3
  have R : Int.tmod ((x1 : Int) * 65536 + (x2 : Int) * 256 + (x3 : Int)) (m : Int) = (((x1 * 65536 + x2 * 256 + x3) % m : Nat) : Int) := by
    have h9 := tmod_nat (x1 * 65536 + x2 * 256 + x3) m
    have e9 : (((x1 * 65536 + x2 * 256 + x3 : Nat)) : Int) = (x1 : Int) * 65536 + (x2 : Int) * 256 + (x3 : Int) := by omega
    rw [e9] at h9
    exact h9
  obtain ⟨y, hy⟩ : ∃ y, (x1 * 65536 + x2 * 256 + x3) % m = y := ⟨_, rfl⟩
  rw [hy] at R
  have hyl : Hid (y < m) := by show y < m; rw [← hy]; exact Nat.mod_lt _ (by omega)
  clear hy
  go_wp2_with fail
  go_ret
  exact ⟨y, rfl, hyl.out, T3.out.1, T3.out.2⟩
set_option maxHeartbeats 1000000 in
theorem drawPick (P n cc K : Nat) (ca : Option Addr) (C : List Nat) (b o l c : Nat) (L : List ByteArray) (w : World) (hL : L.length = l) (hl : 1 ≤ l) (hl2 : l ≤ 1000) (hK : K ≤ 999999990) (hb : b ≠ P) (hs : Src w (some ⟨b, o, none⟩) (cellsS L)) (h : DrawOK w P ca n cc K C) :
    Calls Tryz.prog 77 #[.pointer (some ⟨P, 0, none⟩), .slice (some ⟨b, o, none⟩) l c] w fun e w' => ∃ s : ByteArray, e = .returned (.string s) ∧ s ∈ L ∧ Turned P (P + 1) w w' ∧ DrawOK w' P ca n cc (K + 3) C := by
  have H : Hid (DrawOK w P ca n cc K C) := h
  have HS : Hid (Src w (some ⟨b, o, none⟩) (cellsS L) ∧ L.length = l) := ⟨hs, hL⟩
  have hl0 : ((l : Int) == 0) = false := by simp; omega
  clear h hs hL
  go_enter Tryz.func77, Tryz.ntmps77
  go_wp2_with fail
  refine (drawNext P n cc K l ca C _ hl (by omega) hK H.out).mono ?_
  rintro e w1 ⟨x, rfl, hx, ht, hd⟩
  have T1 : Hid (Turned P (P + 1) w w1 ∧ DrawOK w1 P ca n cc (K + 3) C) := ⟨ht, hd⟩
  obtain ⟨b', o', y, e', yc, hy⟩ := srcS (HS.out.1.turned ht (fun _ ad e => by cases e; dsimp only; omega)) (i := x) (by rw [HS.out.2]; exact hx)
  cases e'
  have HY : Hid (y ∈ L) := by
    rw [← hy.out, List.getD_eq_getElem?_getD, List.getElem?_eq_getElem (by rw [HS.out.2]; exact hx)]
    exact List.getElem_mem _
  have i0 : (0 : Int) ≤ (x : Int) := by omega
  have i1 : (x : Int) < (l : Int) := by omega
  clear ht hd
  go_wp2_with fail
  go_ret
  exact ⟨y, rfl, HY.out, T1.out.1, T1.out.2⟩
end Go.Proofs.YthgbclipknfmjaaGreatDoor
namespace Go.Proofs.YthgbclipknfmjaaGreatDoor
open Go.ChangeShapes Go.WideShapes Go.ChangeAt Go.RowKit Go.Deep
set_option linter.unusedVariables false
set_option maxRecDepth 100000

theorem none_new {w : World} (vs : Array Value) (t : TypeId) (i : Nat) (hi : vs.size ≤ i) : (w.alloc (.cells vs t)).cell? ⟨w.heap.size, i, none⟩ = none := by
  rw [World.cell?_alloc_at _ _ _ _ rfl]
  exact Array.getElem?_eq_none hi
theorem NoMore.below {w w' : World} {P : Nat} (h : NoMore w P) (hP : P < w.heap.size) (hb : Below w.heap.size w w') : NoMore w' P := fun i hi => by
  rw [← h i hi]
  exact World.cell?_of_block (a := ⟨P, i, none⟩) (hb.block P hP)
set_option maxHeartbeats 1000000 in
theorem l00Source (ca : Option Addr) (n cc : Nat) (C : List Nat) (w : World) (hC : C.length = n) (hn : n ≤ 1048576) (h8 : ∀ x ∈ C, x < 256) (hs : Src w ca (cellsB C)) :
    Calls Tryz.prog 32 #[.slice ca n cc] w fun e w' => e = .returned (.pointer (some ⟨w.heap.size, 0, none⟩)) ∧ w'.heap.size = w.heap.size + 1 ∧ Below w.heap.size w w' ∧ DrawOK w' w.heap.size ca n cc 0 C := by
  obtain ⟨s, hs9⟩ : ∃ s, n % 1000 = s := ⟨_, rfl⟩
  have hsl : s < 1000 := by rw [← hs9]; exact Nat.mod_lt _ (by omega)
  have R : Int.tmod (n : Int) 1000 = (s : Int) := by rw [← hs9]; exact tmod_nat n 1000
  have HC : Hid (C.length = n ∧ (∀ x ∈ C, x < 256) ∧ Src w ca (cellsB C)) := ⟨hC, h8, hs⟩
  clear hC h8 hs hs9
  go_enter Tryz.func32, Tryz.ntmps32
  go_wp2_with fail
  go_ret
  refine ⟨rfl, by simp, (Below.refl _ _).alloc (Nat.le_refl _) _, ⟨0, s, Box.new rfl, by omega, by omega, fun i hi => none_new _ _ i hi⟩, HC.out.1, hn, HC.out.2.1, HC.out.2.2.below ((Below.refl _ _).alloc (Nat.le_refl _) _), fun h0 a e => ?_⟩
  rcases HC.out.2.2 with h | ⟨b, o, e2, hc⟩
  · have h2 := cellsB_length C
    rw [h] at h2
    simp only [List.length_nil] at h2
    have := HC.out.1
    omega
  · rw [e2] at e
    cases e
    have h1 := World.block_lt_of_cell? _ _ (hc 0 (by rw [cellsB_length, HC.out.1]; omega))
    dsimp only at h1 ⊢
    omega
theorem DrawOK.below {w w' : World} {P n cc K : Nat} {ca : Option Addr} {C : List Nat} (h : DrawOK w P ca n cc K C) (hb : Below w.heap.size w w') : DrawOK w' P ca n cc K C := by
  obtain ⟨⟨a, s, h1, h2, h3⟩, h4, h5, h6, h7, h8⟩ := h
  exact ⟨⟨a, s, h1.below hb, h2, h3.1, h3.2.below (World.block_lt_of_cell? _ _ (h1 0 _ rfl).1) hb⟩, h4, h5, h6, h7.below hb, h8⟩
/-- A list of texts lies elsewhere than the source. -/
theorem DrawOK.apart {w : World} {P n cc K : Nat} {ca : Option Addr} {C : List Nat} (h : DrawOK w P ca n cc K C) {b o : Nat} {s : ByteArray} (hc : w.cell? ⟨b, o, none⟩ = some (.string s)) : b ≠ P := fun e => by
  subst e
  obtain ⟨⟨a, z, h1, _, _, h4⟩, _⟩ := h
  by_cases ho : 3 ≤ o
  · rw [h4 o ho] at hc
    cases hc
  · match o, ho with
    | 0, _ => rw [(h1 0 _ rfl).1] at hc; cases hc
    | 1, _ => rw [(h1 1 _ rfl).1] at hc; cases hc
    | 2, _ => rw [(h1 2 _ rfl).1] at hc; cases hc
    | k + 3, ho => exact absurd (by omega) ho
theorem DrawOK.lt {w : World} {P n cc K : Nat} {ca : Option Addr} {C : List Nat} (h : DrawOK w P ca n cc K C) : P < w.heap.size := by
  obtain ⟨⟨a, s, h1, h2, h3⟩, h4⟩ := h
  exact World.block_lt_of_cell? _ _ (h1 0 _ rfl).1
theorem DrawOK.grown {w w' : World} {P n cc K : Nat} {ca : Option Addr} {C : List Nat} {row : Option Nat} (h : DrawOK w P ca n cc K C) (hg : w.grownBy w' row) (hP : row ≠ some P) (hc : 0 < n → ∀ a, ca = some a → row ≠ some a.block) : DrawOK w' P ca n cc K C := by
  obtain ⟨⟨a, s, h1, h2, h3⟩, h4, h5, h6, h7, h8⟩ := h
  refine ⟨⟨a, s, h1.grown hg hP, h2, h3.1, fun i hi => by rw [← h3.2 i hi]; exact World.cell?_of_block (a := ⟨P, i, none⟩) (hg.block P (World.block_lt_of_cell? _ _ (h1 0 _ rfl).1) (fun e => hP e.symm))⟩, h4, h5, h6, ?_, h8⟩
  rcases h7 with h7 | ⟨b, o, rfl, h9⟩
  · exact .inl h7
  · refine .inr ⟨b, o, rfl, fun j hj => ?_⟩
    have h10 := h9 j hj
    rw [← h10]
    exact World.cell?_of_block (a := ⟨b, o + j, none⟩) (hg.block b (World.block_lt_of_cell? _ _ h10) (fun e => hc (by rw [cellsB_length, h4] at hj; omega) _ rfl e.symm))
theorem src_list {w : World} {L : List ByteArray} {B ty : Nat} (hB : B = w.heap.size) (cs : Array Value) (hcs : cs.toList = cellsS L) : Src (w.alloc (.cells cs ty)) (some ⟨B, 0, none⟩) (cellsS L) := by
  obtain rfl : cs = (cellsS L).toArray := by rw [← hcs]
  have hb : Box (w.alloc (.cells (cellsS L).toArray ty)) B (cellsS L) := Box.new hB
  refine .inr ⟨B, 0, rfl, fun j hj => ?_⟩
  rw [Nat.zero_add]
  exact (hb j _ (by rw [List.getD_eq_getElem?_getD, List.getElem?_eq_getElem hj]; rfl)).1
theorem DrawOK.more {w : World} {P n cc K1 K2 : Nat} {ca : Option Addr} {C : List Nat} (h : DrawOK w P ca n cc K1 C) (hk : K1 ≤ K2) : DrawOK w P ca n cc K2 C := by
  obtain ⟨⟨a, s, h1, h2, h3⟩, h4⟩ := h
  exact ⟨⟨a, s, h1, by omega, h3⟩, h4⟩
end Go.Proofs.YthgbclipknfmjaaGreatDoor
namespace Go.Proofs.YthgbclipknfmjaaGreatDoor
open Go.ChangeShapes Go.WideShapes Go.ChangeAt Go.RowKit Go.Deep Go.Lib
set_option linter.unusedVariables false
set_option linter.unusedSimpArgs false
set_option maxRecDepth 100000

def drawUs : List ByteArray := [⟨#[97, 110, 110]⟩, ⟨#[98, 111, 98]⟩]
theorem users_are : ∀ s ∈ drawUs, s = annT ∨ s = bobT := by
  intro s hs
  simp [drawUs] at hs
  exact hs
def drawFs : List ByteArray := [⟨#[105, 110, 98, 111, 120]⟩, ⟨#[105, 110, 98, 111, 120]⟩, ⟨#[119, 111, 114, 107]⟩, ⟨#[111, 108, 100]⟩]
theorem folds_are : ∀ s ∈ drawFs, FoldN s := by
  intro s hs
  simp [drawFs] at hs
  exact hs
set_option maxHeartbeats 2000000 in
theorem userDr (P n cc K : Nat) (ca : Option Addr) (C : List Nat) (w : World) (hK : K ≤ 999000000) (h : DrawOK w P ca n cc K C) :
    Calls Tryz.prog 34 #[.pointer (some ⟨P, 0, none⟩)] w fun e w' => ∃ s : ByteArray, e = .returned (.string s) ∧ (s = annT ∨ s = bobT) ∧ Turned P (P + 1) w w' ∧ DrawOK w' P ca n cc (K + 3) C := by
  have H : Hid (DrawOK w P ca n cc K C) := h
  have PL : Hid (P < w.heap.size) := h.lt
  clear h
  go_enter Tryz.func34, Tryz.ntmps34
  go_wp2_with fail
  have B4 : Hid (Below w.heap.size w (w.alloc (.cells #[.string ⟨#[97, 110, 110]⟩, .string ⟨#[98, 111, 98]⟩] 9))) := (Below.refl _ _).alloc (Nat.le_refl _) _
  refine (drawPick P n cc K ca C w.heap.size 0 2 2 drawUs _ rfl (by omega) (by omega) (by omega) (by have := PL.out; omega) (src_list rfl _ rfl) (H.out.below B4.out)).mono ?_
  rintro e w1 ⟨s, rfl, hs, ht, hd⟩
  have T1 : Hid (Turned P (P + 1) w w1 ∧ DrawOK w1 P ca n cc (K + 3) C ∧ (s = annT ∨ s = bobT)) := ⟨(Turned.of_below B4.out).trans ht, hd, users_are s hs⟩
  clear ht hd hs
  go_wp2_with fail
  go_ret
  exact ⟨s, rfl, T1.out.2.2, T1.out.1, T1.out.2.1⟩
set_option maxHeartbeats 2000000 in
theorem folderDr (P n cc K : Nat) (ca : Option Addr) (C : List Nat) (w : World) (hK : K ≤ 999000000) (h : DrawOK w P ca n cc K C) :
    Calls Tryz.prog 35 #[.pointer (some ⟨P, 0, none⟩)] w fun e w' => ∃ s : ByteArray, e = .returned (.string s) ∧ FoldN s ∧ Turned P (P + 1) w w' ∧ DrawOK w' P ca n cc (K + 3) C := by
  have H : Hid (DrawOK w P ca n cc K C) := h
  have PL : Hid (P < w.heap.size) := h.lt
  clear h
  go_enter Tryz.func35, Tryz.ntmps35
  go_wp2_with fail
  have B4 : Hid (Below w.heap.size w (w.alloc (.cells #[.string ⟨#[105, 110, 98, 111, 120]⟩, .string ⟨#[105, 110, 98, 111, 120]⟩, .string ⟨#[119, 111, 114, 107]⟩, .string ⟨#[111, 108, 100]⟩] 9))) := (Below.refl _ _).alloc (Nat.le_refl _) _
  refine (drawPick P n cc K ca C w.heap.size 0 4 4 drawFs _ rfl (by omega) (by omega) (by omega) (by have := PL.out; omega) (src_list rfl _ rfl) (H.out.below B4.out)).mono ?_
  rintro e w1 ⟨s, rfl, hs, ht, hd⟩
  have T1 : Hid (Turned P (P + 1) w w1 ∧ DrawOK w1 P ca n cc (K + 3) C ∧ FoldN s) := ⟨(Turned.of_below B4.out).trans ht, hd, folds_are s hs⟩
  clear ht hd hs
  go_wp2_with fail
  go_ret
  exact ⟨s, rfl, T1.out.2.2, T1.out.1, T1.out.2.1⟩
def drawTs : List ByteArray := [⟨#[83, 117, 98, 106, 101, 99, 116, 58, 32, 111, 110, 101, 10, 10, 98, 111, 100, 121]⟩, ⟨#[83, 117, 98, 106, 101, 99, 116, 58, 32, 116, 119, 111, 10, 70, 114, 111, 109, 58, 32, 97, 110, 110, 10, 10]⟩, ⟨#[10]⟩, ⟨#[10, 98, 111, 100, 121, 10, 109, 111, 114, 101]⟩, ⟨#[110, 111, 32, 104, 101, 97, 100]⟩, ⟨#[]⟩]
theorem texts_small : ∀ s ∈ drawTs, s.size ≤ 85 := by
  intro s hs
  simp [drawTs] at hs
  rcases hs with rfl | rfl | rfl | rfl | rfl | rfl <;> decide
set_option maxHeartbeats 2000000 in
theorem mailTextDr (P n cc K : Nat) (ca : Option Addr) (C : List Nat) (w : World) (hK : K ≤ 999000000) (h : DrawOK w P ca n cc K C) :
    Calls Tryz.prog 102 #[.pointer (some ⟨P, 0, none⟩)] w fun e w' => ∃ s : ByteArray, e = .returned (.string s) ∧ s.size ≤ 85 ∧ Turned P (P + 1) w w' ∧ DrawOK w' P ca n cc (K + 3) C := by
  have H : Hid (DrawOK w P ca n cc K C) := h
  have PL : Hid (P < w.heap.size) := h.lt
  clear h
  go_enter Tryz.func102, Tryz.ntmps102
  go_wp2_with fail
  have B4 : Hid (Below w.heap.size w (w.alloc (.cells #[.string ⟨#[83, 117, 98, 106, 101, 99, 116, 58, 32, 111, 110, 101, 10, 10, 98, 111, 100, 121]⟩, .string ⟨#[83, 117, 98, 106, 101, 99, 116, 58, 32, 116, 119, 111, 10, 70, 114, 111, 109, 58, 32, 97, 110, 110, 10, 10]⟩, .string ⟨#[10]⟩, .string ⟨#[10, 98, 111, 100, 121, 10, 109, 111, 114, 101]⟩, .string ⟨#[110, 111, 32, 104, 101, 97, 100]⟩, .string ⟨#[]⟩] 9))) := (Below.refl _ _).alloc (Nat.le_refl _) _
  refine (drawPick P n cc K ca C w.heap.size 0 6 6 drawTs _ rfl (by omega) (by omega) (by omega) (by have := PL.out; omega) (src_list rfl _ rfl) (H.out.below B4.out)).mono ?_
  rintro e w1 ⟨s, rfl, hs, ht, hd⟩
  have T1 : Hid (Turned P (P + 1) w w1 ∧ DrawOK w1 P ca n cc (K + 3) C ∧ s.size ≤ 85) := ⟨(Turned.of_below B4.out).trans ht, hd, texts_small s hs⟩
  clear ht hd hs
  go_wp2_with fail
  go_ret
  exact ⟨s, rfl, T1.out.2.2, T1.out.1, T1.out.2.1⟩
/-- Where the draw of a store stands. -/
def DW (P n cc K : Nat) (ca : Option Addr) (C : List Nat) (b o : Nat) (L : List PM) (w w' : World) : Prop := Turned P (P + 1) w w' ∧ DrawOK w' P ca n cc K C ∧ Src w' (some ⟨b, o, none⟩) (cellsP L)
theorem src_first {w : World} {b o : Nat} {L : List PM} (hs : Src w (some ⟨b, o, none⟩) (cellsP L)) (hne : L ≠ []) : ∃ s, w.cell? ⟨b, o, none⟩ = some (.string s) := by
  match L, hne with
  | p :: R, _ =>
    rcases hs with h | ⟨b', o', e, hc⟩
    · cases h
    · cases e
      have h0 := hc 0 (by rw [cellsP_length]; simp)
      exact ⟨_, h0⟩
theorem DW.step {P n cc K1 K2 : Nat} {ca : Option Addr} {C : List Nat} {b o : Nat} {L : List PM} {w wi wj : World} (h : DW P n cc K1 ca C b o L w wi) (hne : L ≠ []) (ht : Turned P (P + 1) wi wj) (hd : DrawOK wj P ca n cc K2 C) : DW P n cc K2 ca C b o L w wj := by
  obtain ⟨h1, h2, h3⟩ := h
  obtain ⟨s, hc⟩ := src_first h3 hne
  have hb := h2.apart hc
  exact ⟨h1.trans ht, hd, h3.turned ht (fun _ ad e => by cases e; show b < P ∨ P + 1 ≤ b; omega)⟩
theorem Drawn.ne {k : Nat} {L : List PM} (h : Drawn k L) : L ≠ [] := fun e => by
  have h1 := (h.us annT (by decide)).2 (.inl rfl)
  rw [e] at h1
  cases h1
/-- What the work leaves. -/
def WorkT (k : Nat) (L : List PM) (P : Nat) (w w' : World) (v : Value) : Prop := ∃ a2 n2 c2 L', v = .slice a2 n2 c2 ∧ LenC L' n2 c2 ∧ Src w' a2 (cellsP L') ∧ (Drawn (k + 1) L' ∧ nextM L ≤ nextM L') ∧ Turned P (P + 1) w w'
theorem DW.work {k P n cc K : Nat} {ca : Option Addr} {C : List Nat} {b o : Nat} {L : List PM} {w wi w' : World} {v : Value} (h : DW P n cc K ca C b o L w wi) (hw : WorkD k L wi w' v) {K2 : Nat} (hK : K ≤ K2) : WorkT k L P w w' v ∧ DrawOK w' P ca n cc K2 C := by
  obtain ⟨a2, n2, c2, L', rfl, h1, h2, h3, h4⟩ := hw
  exact ⟨⟨a2, n2, c2, L', rfl, h1, h2, h3, h.1.trans (Turned.of_below h4)⟩, (h.2.1.below h4).more hK⟩
set_option maxHeartbeats 8000000 in
theorem workDr (P n cc K k : Nat) (ca : Option Addr) (C : List Nat) (b o m c : Nat) (L : List PM) (w : World) (hK : K ≤ 990000000) (h : DrawOK w P ca n cc K C) (hD : Drawn k L) (hL : LenC L m c) (hs : Src w (some ⟨b, o, none⟩) (cellsP L)) :
    Calls Tryz.prog 53 #[.pointer (some ⟨P, 0, none⟩), .slice (some ⟨b, o, none⟩) m c] w fun e w' => ∃ v, e = .returned v ∧ WorkT k L P w w' v ∧ DrawOK w' P ca n cc (K + 30) C := by
  have HD : Hid (Drawn k L ∧ LenC L m c ∧ L ≠ []) := ⟨hD, hL, hD.ne⟩
  have S0' : Hid (DW P n cc K ca C b o L w w) := ⟨Turned.of_below (Below.refl _ _), h, hs⟩
  clear h hD hL hs
  go_enter Tryz.func53, Tryz.ntmps53
  go_wp2_with fail
  refine (userDr P n cc K ca C w (by omega) S0'.out.2.1).mono ?_
  rintro e w1 ⟨u, rfl, hu, ht1, hd1⟩
  have S1 : Hid (DW P n cc (K + 3) ca C b o L w w1) := S0'.out.step HD.out.2.2 ht1 hd1
  have HU : Hid (u = annT ∨ u = bobT) := hu
  clear ht1 hd1 hu S0'
  go_wp2_with fail
  refine (folderDr P n cc (K + 3) ca C w1 (by omega) S1.out.2.1).mono ?_
  rintro e w2 ⟨f, rfl, hf, ht2, hd2⟩
  have S2 : Hid (DW P n cc (K + 6) ca C b o L w w2) := S1.out.step HD.out.2.2 ht2 hd2
  have HF : Hid (FoldN f) := hf
  clear ht2 hd2 hf S1
  go_wp2_with fail
  refine (drawNext P n cc (K + 6) 9 ca C w2 (by omega) (by omega) (by omega) S2.out.2.1).mono ?_
  rintro e w3 ⟨x, rfl, hx, ht3, hd3⟩
  have S3 : Hid (DW P n cc (K + 9) ca C b o L w w3) := S2.out.step HD.out.2.2 ht3 hd3
  clear ht3 hd3 S2
  have hcase : x = 0 ∨ x = 1 ∨ x = 2 ∨ x = 3 ∨ x = 4 ∨ x = 5 ∨ 6 ≤ x := by omega
  rcases hcase with rfl | rfl | rfl | rfl | rfl | rfl | h6
  · go_wp2_with fail
    refine (mkD b o m c k L HD.out.1 HD.out.2.1 u f HU.out HF.out w3 S3.out.2.2).mono ?_
    rintro e w4 ⟨v, q, rfl, hw⟩
    have E4 : Hid (WorkT k L P w w4 v ∧ DrawOK w4 P ca n cc (K + 30) C) := S3.out.work hw (by omega)
    clear hw
    go_wp2_with fail
    go_ret
    exact ⟨v, rfl, E4.out⟩
  · go_wp2_with fail
    refine (dropD b o m c k L HD.out.1 HD.out.2.1 u f HU.out (fold_short HF.out) w3 S3.out.2.2).mono ?_
    rintro e w4 ⟨v, q, rfl, hw⟩
    have E4 : Hid (WorkT k L P w w4 v ∧ DrawOK w4 P ca n cc (K + 30) C) := S3.out.work hw (by omega)
    clear hw
    go_wp2_with fail
    go_ret
    exact ⟨v, rfl, E4.out⟩
  · go_wp2_with fail
    refine (folderDr P n cc (K + 9) ca C w3 (by omega) S3.out.2.1).mono ?_
    rintro e w5 ⟨tf, rfl, hf5, ht5, hd5⟩
    have S5 : Hid (DW P n cc (K + 12) ca C b o L w w5) := S3.out.step HD.out.2.2 ht5 hd5
    have HF5 : Hid (FoldN tf) := hf5
    clear ht5 hd5 hf5 S3
    go_wp2_with fail
    refine (rnD b o m c k L HD.out.1 HD.out.2.1 u f tf HU.out (fold_short HF.out) HF5.out w5 S5.out.2.2).mono ?_
    rintro e w4 ⟨v, q, rfl, hw⟩
    have E4 : Hid (WorkT k L P w w4 v ∧ DrawOK w4 P ca n cc (K + 30) C) := S5.out.work hw (by omega)
    clear hw
    go_wp2_with fail
    go_ret
    exact ⟨v, rfl, E4.out⟩
  · go_wp2_with fail
    refine (drawNext P n cc (K + 9) 4 ca C w3 (by omega) (by omega) (by omega) S3.out.2.1).mono ?_
    rintro e w5 ⟨y, rfl, hy, ht5, hd5⟩
    have S5 : Hid (DW P n cc (K + 12) ca C b o L w w5) := S3.out.step HD.out.2.2 ht5 hd5
    clear ht5 hd5 S3
    go_wp2_with fail
    refine (drawNext P n cc (K + 12) 4 ca C w5 (by omega) (by omega) (by omega) S5.out.2.1).mono ?_
    rintro e w6 ⟨z, rfl, hz, ht6, hd6⟩
    have S6 : Hid (DW P n cc (K + 15) ca C b o L w w6) := S5.out.step HD.out.2.2 ht6 hd6
    clear ht6 hd6 S5
    go_wp2_with fail
    refine (flD b o m c k L HD.out.1 HD.out.2.1 u f _ (z : Int) HU.out (fold_short HF.out) (by omega) (by omega) w6 S6.out.2.2).mono ?_
    rintro e w4 ⟨v, q, rfl, hw⟩
    have E4 : Hid (WorkT k L P w w4 v ∧ DrawOK w4 P ca n cc (K + 30) C) := S6.out.work hw (by omega)
    clear hw
    go_wp2_with fail
    go_ret
    exact ⟨v, rfl, E4.out⟩
  · go_wp2_with fail
    refine (exD b o m c k L HD.out.1 HD.out.2.1 u f HU.out (fold_short HF.out) w3 S3.out.2.2).mono ?_
    rintro e w4 ⟨v, x, q, rfl, hw⟩
    have E4 : Hid (WorkT k L P w w4 v ∧ DrawOK w4 P ca n cc (K + 30) C) := S3.out.work hw (by omega)
    clear hw
    go_wp2_with fail
    go_ret
    exact ⟨v, rfl, E4.out⟩
  · go_wp2_with fail
    refine (drawNext P n cc (K + 9) 4 ca C w3 (by omega) (by omega) (by omega) S3.out.2.1).mono ?_
    rintro e w5 ⟨y, rfl, hy, ht5, hd5⟩
    have S5 : Hid (DW P n cc (K + 12) ca C b o L w w5) := S3.out.step HD.out.2.2 ht5 hd5
    clear ht5 hd5 S3
    go_wp2_with fail
    refine (folderDr P n cc (K + 12) ca C w5 (by omega) S5.out.2.1).mono ?_
    rintro e w6 ⟨tf, rfl, hf6, ht6, hd6⟩
    have S6 : Hid (DW P n cc (K + 15) ca C b o L w w6) := S5.out.step HD.out.2.2 ht6 hd6
    have HF6 : Hid (FoldN tf) := hf6
    clear ht6 hd6 hf6 S5
    go_wp2_with fail
    refine (cpD b o m c k L HD.out.1 HD.out.2.1 u f _ tf HU.out (fold_short HF.out) (fold_short HF6.out) w6 S6.out.2.2).mono ?_
    rintro e w4 ⟨v, x, q, rfl, hw⟩
    have E4 : Hid (WorkT k L P w w4 v ∧ DrawOK w4 P ca n cc (K + 30) C) := S6.out.work hw (by omega)
    clear hw
    go_wp2_with fail
    go_ret
    exact ⟨v, rfl, E4.out⟩
  · have x0 : ((x : Int) == 0) = false := beq_eq_false_iff_ne.2 (by omega)
    have x1 : ((x : Int) == 1) = false := beq_eq_false_iff_ne.2 (by omega)
    have x2 : ((x : Int) == 2) = false := beq_eq_false_iff_ne.2 (by omega)
    have x3 : ((x : Int) == 3) = false := beq_eq_false_iff_ne.2 (by omega)
    have x4 : ((x : Int) == 4) = false := beq_eq_false_iff_ne.2 (by omega)
    have x5 : ((x : Int) == 5) = false := beq_eq_false_iff_ne.2 (by omega)
    go_wp2_with fail
    refine (mailTextDr P n cc (K + 9) ca C w3 (by omega) S3.out.2.1).mono ?_
    rintro e w5 ⟨t, rfl, ht85, ht5, hd5⟩
    have S5 : Hid (DW P n cc (K + 12) ca C b o L w w5) := S3.out.step HD.out.2.2 ht5 hd5
    clear ht5 hd5 S3
    go_wp2_with fail
    refine (drawNext P n cc (K + 12) 4 ca C w5 (by omega) (by omega) (by omega) S5.out.2.1).mono ?_
    rintro e w6 ⟨z, rfl, hz, ht6, hd6⟩
    have S6 : Hid (DW P n cc (K + 15) ca C b o L w w6) := S5.out.step HD.out.2.2 ht6 hd6
    clear ht6 hd6 S5
    go_wp2_with fail
    refine (appD b o m c k L HD.out.1 HD.out.2.1 u f t (z : Int) HU.out (fold_short HF.out) (by omega) (by omega) ht85 w6 S6.out.2.2).mono ?_
    rintro e w4 ⟨v, x, q, rfl, hw⟩
    have E4 : Hid (WorkT k L P w w4 v ∧ DrawOK w4 P ca n cc (K + 30) C) := S6.out.work hw (by omega)
    clear hw
    go_wp2_with fail
    go_ret
    exact ⟨v, rfl, E4.out⟩
end Go.Proofs.YthgbclipknfmjaaGreatDoor
