/-
  Exp Wks Fol Usr Fae in one. By an AI agent.
-/
import Derived.Test.YthgbclipknfmjaaGreatDoorFr23
import Derived.Test.YthgbclipknfmjaaGreatDoorFr24
import Derived.Test.YthgbclipknfmjaaGreatDoorFr22
import Derived.Test.YthgbclipknfmjaaGreatDoorFr20
import Derived.Test.YthgbclipknfmjaaGreatDoorFr21
namespace Go.Proofs.YthgbclipknfmjaaGreatDoor
open Go.ChangeShapes Go.WideShapes Go.ChangeAt Go.RowKit Go.Deep Go.Lib
set_option linter.unusedVariables false
set_option linter.unusedSimpArgs false
set_option maxRecDepth 100000

/-- A mail that is marked as deleted. -/
def delB (m : MMl) : Bool := decide (2 ≤ m.2.1)
def goI (Ms : List MMl) : List Int := (Ms.filter delB).map (·.1)
abbrev keepM (Ms : List MMl) : List MMl := Ms.filter fun m => !delB m
def exP (u f : ByteArray) (Ms : List MMl) (p : PM) : Bool := (Ms.filter delB).all fun m => decide (p.1 ≠ mailK u f m.1)
def exTo (L : List PM) (u f : ByteArray) (Ms : List MMl) (j : Nat) : List PM := L.filter (exP u f (Ms.take j))
theorem take_next {Ms : List MMl} {j : Nat} (hj : j < Ms.length) : Ms.take (j + 1) = Ms.take j ++ [Ms.getD j ml0] := by
  rw [List.take_add_one, List.getD_eq_getElem?_getD, List.getElem?_eq_getElem hj]
  rfl
theorem ex_hit {L : List PM} {u f : ByteArray} {Ms : List MMl} {j : Nat} (hj : j < Ms.length) (h : delB (Ms.getD j ml0) = true) : notK (mailK u f (Ms.getD j ml0).1) (exTo L u f Ms j) = exTo L u f Ms (j + 1) ∧ goI (Ms.take (j + 1)) = goI (Ms.take j) ++ [(Ms.getD j ml0).1] := by
  constructor
  · unfold exTo notK
    rw [List.filter_filter]
    refine List.filter_congr fun p _ => ?_
    unfold exP
    rw [take_next hj, List.filter_append, List.filter_cons_of_pos h, List.filter_nil, List.all_append]
    simp only [List.all_cons, List.all_nil, Bool.and_true]
    rw [Bool.and_comm]
  · unfold goI
    rw [take_next hj, List.filter_append, List.filter_cons_of_pos h, List.filter_nil, List.map_append]
    rfl
theorem ex_miss {L : List PM} {u f : ByteArray} {Ms : List MMl} {j : Nat} (hj : j < Ms.length) (h : delB (Ms.getD j ml0) = false) : exTo L u f Ms j = exTo L u f Ms (j + 1) ∧ goI (Ms.take (j + 1)) = goI (Ms.take j) := by
  have e : (Ms.take (j + 1)).filter delB = (Ms.take j).filter delB := by
    rw [take_next hj, List.filter_append, List.filter_cons_of_neg (by rw [h]; simp), List.filter_nil, List.append_nil]
  constructor
  · unfold exTo exP
    rw [e]
  · unfold goI
    rw [e]
theorem ex_zero (L : List PM) (u f : ByteArray) (Ms : List MMl) : exTo L u f Ms 0 = L := by
  unfold exTo
  rw [List.filter_eq_self]
  intro p _
  rfl
theorem ex_len (L : List PM) (u f : ByteArray) (Ms : List MMl) (j : Nat) : (exTo L u f Ms j).length ≤ L.length := List.length_filter_le _ _
theorem go_len (Ms : List MMl) (j : Nat) : (goI (Ms.take j)).length ≤ Ms.length := by
  unfold goI
  rw [List.length_map]
  have h1 := List.length_filter_le delB (Ms.take j)
  have h2 : (Ms.take j).length ≤ Ms.length := by rw [List.length_take]; omega
  omega
def exY (L : List PM) (u f : ByteArray) : List PM := exTo L u f (rnF L u f).mails (rnF L u f).mails.length
def exR (L : List PM) (u f : ByteArray) : List PM × List Int × Int := if knownR L u f ≠ 0 then (L, [], knownR L u f) else (exY L u f, goI (rnF L u f).mails, 0)
abbrev exS (S : SM) (g : FM) : SM := ⟨S.aside, S.word, putF ⟨g.name, g.val, g.next, keepM g.mails⟩ S.fs⟩
theorem ex_pass {u f : ByteArray} {Ms : List MMl} {p : PM} (h : beginsB p.1 (preK u f) = false) : exP u f Ms p = true := by
  unfold exP
  rw [List.all_eq_true]
  intro m _
  refine decide_eq_true fun e => ?_
  have h9 := begins_mail u f m
  rw [show (mailP u f m).1 = p.1 from e.symm, h] at h9
  cases h9
theorem ex_mails {L : List PM} {u f : ByteArray} {S : SM} {g : FM} (h : storeB L = true) (hus : (47 : UInt8) ∉ u.data.toList) (hS : takeAll (nextM L) u S0 L = some S) (hl : lookF f S.fs = some g) : (g.mails.map (mailP u f)).filter (exP u f g.mails) = (keepM g.mails).map (mailP u f) := by
  rw [List.filter_map]
  congr 1
  refine List.filter_congr fun m hm => ?_
  show exP u f g.mails (mailP u f m) = !delB m
  have hfit := (store_fit h hS g (lookF_mem hl).1).2.2.2.2.2
  cases hd : delB m with
  | true =>
    unfold exP
    rw [Bool.eq_iff_iff]
    constructor
    · intro h9
      rw [List.all_eq_true] at h9
      exact absurd rfl (of_decide_eq_true (h9 m (List.mem_filter.2 ⟨hm, hd⟩)))
    · intro h9; cases h9
  | false =>
    unfold exP
    show _ = true
    rw [List.all_eq_true]
    intro m' hm'
    obtain ⟨k1, k2⟩ := List.mem_filter.1 hm'
    refine decide_eq_true fun e => ?_
    have p1 := mail_pair h hus hS hl hm
    have p2 := mail_pair h hus hS hl k1
    have e2 : mailK u f m.1 = mailK u f m'.1 := e
    rw [e2] at p1
    have e3 := key_one (store_facts h).1.2.2 p1 p2
    have q1 := (mailV_parts (hfit m hm).2.2.1 (hfit m hm).2.2.2.1).2
    have q2 := (mailV_parts (hfit m' k1).2.2.1 (hfit m' k1).2.2.2.1).2
    rw [e3, q2] at q1
    unfold delB at hd k2
    rw [q1] at k2
    rw [k2] at hd
    cases hd
theorem ex_fits {L : List PM} {u f : ByteArray} {S : SM} {g : FM} (h : storeB L = true) (hus : (47 : UInt8) ∉ u.data.toList) (hfs : (47 : UInt8) ∉ f.data.toList) (hS : takeAll (nextM L) u S0 L = some S) (hw : S.word.toList ≠ []) (hl : lookF f S.fs = some g) :
    UpL (exY L u f) ∧ (deskP (nextM L) u (exS S g)).Perm (exY L u f) ∧ (exY L u f).length ≤ 60 ∧ (∀ x ∈ (exS S g).fs, FitF x) ∧ rnF L u f = g := by
  have hg := (store_facts h).1
  have hr := rnF_is hS hl
  obtain ⟨hgm, hgn⟩ := lookF_mem hl
  have hnd := names_all (S := S0) List.nodup_nil hS
  have hy : exY L u f = L.filter (exP u f g.mails) := by
    unfold exY exTo
    rw [hr, List.take_of_length_le (Nat.le_refl _)]
  rw [hy]
  refine ⟨hg.2.2.sublist List.filter_sublist, ?_, Nat.le_trans (List.length_filter_le _ _) hg.1, fun x hx => ?_, hr⟩
  · refine List.Perm.symm ?_
    refine ((desk_list h hus hS hw).filter _).trans ?_
    rw [List.filter_cons_of_pos (ex_pass (pass_not (pass_v u f _))), List.filter_cons_of_pos (ex_pass (pass_not (pass_u u f _))), List.filter_append]
    have e3 : (notK vK S.aside).filter (exP u f g.mails) = notK vK S.aside := by
      rw [List.filter_eq_self]
      exact fun p hp => ex_pass (pass_not (aside_pass h hus hfs hS hp))
    rw [e3]
    unfold deskP
    refine List.Perm.cons _ (List.Perm.cons _ (List.Perm.append_left _ ?_))
    refine ((flat_perm (drop_perm hl)).filter _).trans ?_
    have hl2 : lookF (⟨g.name, g.val, g.next, keepM g.mails⟩ : FM).name S.fs = some g := by rw [show (⟨g.name, g.val, g.next, keepM g.mails⟩ : FM).name = f from hgn]; exact hl
    refine List.Perm.trans ?_ (flat_perm (put_perm hl2)).symm
    rw [flat_cons, flat_cons, List.filter_append]
    have e4 : (flatF u (dropF f S.fs)).filter (exP u f g.mails) = flatF u (dropF f S.fs) := by
      have h7 := rest_pass (u := u) (f := f) (fs := dropF f S.fs) hus hfs fun x hx => ⟨drop_names hnd x hx, word_slash (name_short h hus hS ((dropF_sub f S.fs).subset hx))⟩
      rw [List.filter_eq_self] at h7 ⊢
      exact fun p hp => ex_pass (pass_not (h7 p hp))
    have e5 : (fPairs u g).filter (exP u f g.mails) = fPairs u ⟨g.name, g.val, g.next, keepM g.mails⟩ := by
      unfold fPairs
      rw [hgn]
      have e6 : beginsB (folderK u f) (preK u f) = false := by
        cases hb : beginsB (folderK u f) (preK u f) with
        | false => rfl
        | true =>
          obtain ⟨r, hr⟩ := begins_pre.1 hb
          rw [folderK_data] at hr
          simp at hr
      rw [List.filter_cons_of_pos (ex_pass e6), ex_mails h hus hS hl]
    rw [e4, e5, show (⟨g.name, g.val, g.next, keepM g.mails⟩ : FM).name = f from hgn]
  · rcases putF_mem hx with hx | rfl
    · exact store_fit h hS x hx
    · obtain ⟨e1, e2, e3, e4, e5, e6⟩ := store_fit h hS g hgm
      exact ⟨e1, e2, e3, e4, e5, fun m hm => e6 m (List.mem_filter.1 hm).1⟩
/-- A right desk behind an operation. -/
structure StepS (P : ByteArray → Prop) (nx nx' : Int) (u : ByteArray) (S S' : SM) : Prop where
  aside : S'.aside = S.aside
  word : S'.word = S.word
  nd : (S'.fs.map (·.name)).Nodup
  n0 : nx ≤ nx'
  n1 : nx' ≤ nx + 1
  fit : FitS nx' u S'
  nxt : ∀ k : Int, (∀ g ∈ S.fs, g.next ≤ k) → 1 ≤ k → ∀ g ∈ S'.fs, g.next ≤ k + 1
  nm : ∀ g ∈ S'.fs, P g.name ∨ ∃ h ∈ S.fs, h.name = g.name
theorem nm_put {P : ByteArray → Prop} {g : FM} {fs gs : List FM} (hs : ∀ f ∈ fs, f ∈ gs) (hg : P g.name ∨ ∃ h ∈ gs, h.name = g.name) : ∀ f ∈ putF g fs, P f.name ∨ ∃ h ∈ gs, h.name = f.name := fun f hf => by
  rcases putF_mem hf with h | rfl
  · exact .inr ⟨f, hs f h, rfl⟩
  · exact hg
theorem fit_put {nx nx' : Int} {u : ByteArray} {S : SM} {g : FM} {fs : List FM} (hF : FitS nx u S) (hn : nx ≤ nx') (hs : ∀ f ∈ fs, f ∈ S.fs) (hib : (lookF inboxT fs).isSome = true ∨ g.name = inboxT) (hg : GoodF nx' g) (h6 : sumF (putF g fs) ≤ 6) : FitS nx' u ⟨S.aside, S.word, putF g fs⟩ := by
  refine ⟨hF.us, hF.ws, ?_, h6, fun f hf => ?_⟩
  · show (lookF inboxT (putF g fs)).isSome = true
    rw [lookF_put]
    split
    · rfl
    · rename_i h9
      exact hib.resolve_right h9
  · rcases putF_mem hf with h | rfl
    · exact goodF_mono hn (hF.fs f (hs f h))
    · exact hg
theorem nxt_put {g : FM} {fs gs : List FM} (hs : ∀ f ∈ fs, f ∈ gs) (hg : ∀ k : Int, (∀ g ∈ gs, g.next ≤ k) → 1 ≤ k → g.next ≤ k + 1) : ∀ k : Int, (∀ g ∈ gs, g.next ≤ k) → 1 ≤ k → ∀ f ∈ putF g fs, f.next ≤ k + 1 := fun k h0 h1 f hf => by
  rcases putF_mem hf with h | rfl
  · have := h0 f (hs f h)
    omega
  · exact hg k h0 h1
theorem sum_dropF {n : ByteArray} {g : FM} : ∀ {fs : List FM}, lookF n fs = some g → sumF (dropF n fs) + g.mails.length = sumF fs
  | [], h => by cases h
  | f :: fs, h => by
    unfold lookF at h
    unfold dropF
    by_cases e : f.name = n
    · rw [if_pos e] at h
      cases h
      rw [if_pos e]
      show sumF fs + g.mails.length = g.mails.length + sumF fs
      omega
    · rw [if_neg e] at h
      rw [if_neg e]
      show f.mails.length + sumF (dropF n fs) + g.mails.length = f.mails.length + sumF fs
      have := sum_dropF h
      omega
theorem look_dropK {n m : ByteArray} (hn : n ≠ m) : ∀ fs : List FM, lookF n (dropF m fs) = lookF n fs
  | [] => rfl
  | f :: fs => by
    unfold dropF
    by_cases e : f.name = m
    · rw [if_pos e]
      show lookF n fs = if f.name = n then some f else lookF n fs
      rw [if_neg (fun e9 => hn (by rw [← e9, e]))]
    · rw [if_neg e]
      show (if f.name = n then some f else lookF n (dropF m fs)) = if f.name = n then some f else lookF n fs
      rw [look_dropK hn fs]
theorem step_mk {P : ByteArray → Prop} {nx nx' : Int} {u f : ByteArray} {S S' : SM} (n1 : 1 ≤ nx) (hF : FitS nx u S) (hnd : (S.fs.map (·.name)).Nodup) (hsf : shortB f = true) (hp : P f) (hQ : mkM nx S f = (0, nx', S')) : StepS P nx nx' u S S' := by
  unfold mkM at hQ
  split at hQ
  · cases hQ
  split at hQ
  · cases hQ
  rename_i h9
  have hl : lookF f S.fs = none := by
    cases hv : lookF f S.fs with
    | none => rfl
    | some g => rw [hv] at h9; exact absurd rfl h9
  split at hQ
  · cases hQ
  cases hQ
  have h6 := sum_fresh (g := ⟨f, nx, 1, []⟩) (fs := S.fs) hl
  have s6 := hF.sm
  exact ⟨rfl, rfl, putF_names hnd, by omega, by omega, fit_put hF (by omega) (fun _ h => h) (.inl hF.ib) ⟨hsf, by show (1 : Int) ≤ nx; omega, by show nx ≤ 9999; omega, by show nx < nx + 1; omega, by show (1 : Int) ≤ 1; omega, by show (1 : Int) ≤ 999; omega, fun m hm => by cases hm⟩ (by rw [h6]; show sumF S.fs + 0 ≤ 6; omega), nxt_put (fun _ h => h) (fun k _ h1 => by show (1 : Int) ≤ k + 1; omega), nm_put (fun _ h => h) (.inl hp)⟩
theorem step_drop {P : ByteArray → Prop} {nx nx' : Int} {u f : ByteArray} {S S' : SM} (hF : FitS nx u S) (hnd : (S.fs.map (·.name)).Nodup) (hQ : dropM nx S f = (0, nx', S')) : StepS P nx nx' u S S' := by
  unfold dropM at hQ
  split at hQ
  · cases hQ
  split at hQ
  · cases hQ
  rename_i h9
  split at hQ
  · cases hQ
  rename_i hi
  obtain ⟨g, hg⟩ : ∃ g, lookF f S.fs = some g := by
    cases hv : lookF f S.fs with
    | none => rw [hv] at h9; exact absurd rfl h9
    | some g => exact ⟨g, rfl⟩
  cases hQ
  have h6 := sum_dropF hg
  have s6 := hF.sm
  have hsub := dropF_sub f S.fs
  refine ⟨rfl, rfl, hnd.sublist (hsub.map _), by omega, by omega, ⟨hF.us, hF.ws, ?_, by show sumF (dropF f S.fs) ≤ 6; omega, fun x hx => hF.fs x (hsub.subset hx)⟩, fun k h0 _ x hx => by have := h0 x (hsub.subset hx); omega, fun x hx => .inr ⟨x, hsub.subset hx, rfl⟩⟩
  show (lookF inboxT (dropF f S.fs)).isSome = true
  rw [look_dropK (fun e => hi e.symm)]
  exact hF.ib
theorem step_rn {P : ByteArray → Prop} {nx nx' : Int} {u f tf : ByteArray} {S S' : SM} (n1 : 1 ≤ nx) (hF : FitS nx u S) (hnd : (S.fs.map (·.name)).Nodup) (hst : shortB tf = true) (hp : P tf) (hQ : rnM nx S f tf = (0, nx', S')) : StepS P nx nx' u S S' := by
  unfold rnM at hQ
  split at hQ
  · cases hQ
  cases hg : lookF f S.fs with
  | none => rw [hg] at hQ; cases hQ
  | some g =>
    rw [hg, rnO_some] at hQ
    split at hQ
    · cases hQ
    rename_i hi
    split at hQ
    · cases hQ
    rename_i h9
    have hl : lookF tf S.fs = none := by
      cases hv : lookF tf S.fs with
      | none => rfl
      | some x => rw [hv] at h9; exact absurd rfl h9
    split at hQ
    · cases hQ
    cases hQ
    have h6 := sum_dropF hg
    have s6 := hF.sm
    have hsub := dropF_sub f S.fs
    have h7 := sum_fresh (g := ⟨tf, nx, g.next, g.mails⟩) (fs := dropF f S.fs) (look_drop hl)
    obtain ⟨g1, g2, g3, g4, g5, g6, g7⟩ := hF.fs g (lookF_mem hg).1
    exact ⟨rfl, rfl, putF_names (hnd.sublist (hsub.map _)), by omega, by omega, fit_put hF (by omega) (fun _ h => hsub.subset h) (.inl (by rw [look_dropK (fun e => hi e.symm)]; exact hF.ib)) ⟨hst, by show (1 : Int) ≤ nx; omega, by show nx ≤ 9999; omega, by show nx < nx + 1; omega, g5, g6, g7⟩ (by rw [h7]; show sumF (dropF f S.fs) + g.mails.length ≤ 6; omega), nxt_put (fun _ h => hsub.subset h) (fun k h0 h1 => by have := h0 g (lookF_mem hg).1; show g.next ≤ k + 1; omega), nm_put (fun _ h => hsub.subset h) (.inl hp)⟩
/-- A folder's mails are others. -/
theorem step_set {P : ByteArray → Prop} {nx : Int} {u f : ByteArray} {S : SM} {g : FM} {n2 : Int} {Ms : List MMl} (hF : FitS nx u S) (hnd : (S.fs.map (·.name)).Nodup) (hl : lookF f S.fs = some g) (h2 : g.next ≤ n2 ∧ n2 ≤ g.next + 1 ∧ n2 ≤ 999) (hM : ∀ m ∈ Ms, 1 ≤ m.1 ∧ m.1 < n2 ∧ 0 ≤ m.2.1 ∧ m.2.1 ≤ 3 ∧ m.2.2.size ≤ 85) (h6 : sumF S.fs + Ms.length ≤ 6 + g.mails.length) : StepS P nx nx u S ⟨S.aside, S.word, putF ⟨g.name, g.val, n2, Ms⟩ S.fs⟩ := by
  obtain ⟨k1, k2⟩ := lookF_mem hl
  obtain ⟨g1, g2, g3, g4, g5, g6, g7⟩ := hF.fs g k1
  have h7 := sum_old (g := ⟨g.name, g.val, n2, Ms⟩) (fs := S.fs) (f := g) (by show lookF g.name S.fs = some g; rw [k2]; exact hl)
  have h8 : sumF (putF ⟨g.name, g.val, n2, Ms⟩ S.fs) + g.mails.length = sumF S.fs + Ms.length := h7
  exact ⟨rfl, rfl, putF_names hnd, by omega, by omega, fit_put hF (by omega) (fun _ h => h) (.inl hF.ib) ⟨g1, g2, g3, g4, by show (1 : Int) ≤ n2; omega, h2.2.2, hM⟩ (by omega), nxt_put (fun _ h => h) (fun k h0 h1 => by have := h0 g k1; show n2 ≤ k + 1; omega), nm_put (fun _ h => h) (.inr ⟨g, k1, rfl⟩)⟩
theorem step_sf {P : ByteArray → Prop} {nx : Int} {u f : ByteArray} {un fl : Int} {S S' : SM} (hF : FitS nx u S) (hnd : (S.fs.map (·.name)).Nodup) (f0 : 0 ≤ fl) (f1 : fl ≤ 3) (hQ : SfIs S f un fl 0 S') : StepS P nx nx u S S' := by
  rcases hQ with ⟨h1, h2, _⟩ | ⟨_, g, hl, ⟨_, h2, _⟩ | ⟨j, hj, _, _, rfl⟩⟩
  · exact absurd h2.symm h1
  · cases h2
  · obtain ⟨g1, g2, g3, g4, g5, g6, g7⟩ := hF.fs g (lookF_mem hl).1
    have s6 := hF.sm
    have hjm := g7 _ (mem_getD' g.mails ml0 j hj)
    refine step_set hF hnd hl ⟨by omega, by omega, g6⟩ (fun m hm => ?_) (by rw [List.length_set]; omega)
    rcases List.mem_or_eq_of_mem_set hm with h | rfl
    · exact g7 m h
    · exact ⟨hjm.1, hjm.2.1, f0, f1, hjm.2.2.2.2⟩
theorem step_ex {P : ByteArray → Prop} {nx : Int} {u f : ByteArray} {S : SM} {g : FM} (hF : FitS nx u S) (hnd : (S.fs.map (·.name)).Nodup) (hl : lookF f S.fs = some g) : StepS P nx nx u S (exS S g) := by
  obtain ⟨g1, g2, g3, g4, g5, g6, g7⟩ := hF.fs g (lookF_mem hl).1
  have s6 := hF.sm
  have h9 : (keepM g.mails).length ≤ g.mails.length := List.length_filter_le _ _
  exact step_set hF hnd hl ⟨by omega, by omega, g6⟩ (fun m hm => g7 m ((List.mem_filter.1 hm).1)) (by omega)
theorem step_app {P : ByteArray → Prop} {nx : Int} {u f t : ByteArray} {fl : Int} {S S' : SM} {g : FM} (hF : FitS nx u S) (hnd : (S.fs.map (·.name)).Nodup) (f0 : 0 ≤ fl) (f1 : fl ≤ 3) (ht : t.size ≤ 85) (hl : lookF f S.fs = some g) (hQ : apM S g fl t = (0, S')) : StepS P nx nx u S S' := by
  unfold apM at hQ
  split at hQ
  · cases hQ
  split at hQ
  · cases hQ
  cases hQ
  obtain ⟨g1, g2, g3, g4, g5, g6, g7⟩ := hF.fs g (lookF_mem hl).1
  have s6 := hF.sm
  refine step_set hF hnd hl ⟨by omega, by omega, by omega⟩ (fun m hm => ?_) (by rw [List.length_append]; show sumF S.fs + (g.mails.length + 1) ≤ 6 + g.mails.length; omega)
  rcases List.mem_append.1 hm with h | h
  · have := g7 m h
    exact ⟨this.1, by omega, this.2.2⟩
  · rw [List.mem_singleton] at h
    subst h
    exact ⟨g5, by show g.next < g.next + 1; omega, f0, f1, ht⟩
def annT : ByteArray := ⟨#[97, 110, 110]⟩
def bobT : ByteArray := ⟨#[98, 111, 98]⟩
def workT : ByteArray := ⟨#[119, 111, 114, 107]⟩
def oldT : ByteArray := ⟨#[111, 108, 100]⟩
/-- The names of folders that are drawn. -/
def FoldN (f : ByteArray) : Prop := f = inboxT ∨ f = workT ∨ f = oldT
theorem fold_short {f : ByteArray} (h : FoldN f) : shortB f = true := by
  rcases h with rfl | rfl | rfl <;> kernel_rfl
/-- A drawn store, k steps behind the first one. -/
structure Drawn (k : Nat) (L : List PM) : Prop where
  st : storeB L = true
  nx : nextM L ≤ 3 + k
  us : ∀ v : ByteArray, (47 : UInt8) ∉ v.data.toList → ((getM L (userK v)).isSome = true ↔ v = annT ∨ v = bobT)
  fn : ∀ p ∈ L, ∀ v f, p.1 = folderK v f → ∀ y, metaV p.2 = some y → y.2 ≤ 1 + (k : Int)
  fo : ∀ p ∈ L, ∀ v f : ByteArray, (47 : UInt8) ∉ v.data.toList → (47 : UInt8) ∉ f.data.toList → p.1 = folderK v f → FoldN f
theorem Drawn.more {k : Nat} {L : List PM} (h : Drawn k L) : Drawn (k + 1) L :=
  ⟨h.st, by have := h.nx; omega, h.us, fun p hp v f e y hy => by have := h.fn p hp v f e y hy; omega, h.fo⟩
theorem lies_left {N Y : List PM} {nx : Int} {u : ByteArray} {S S' : SM} (h : storeB N = true) (hS : takeAll (nextM N) u S0 N = some S) (ha : S'.aside = S.aside) (hnd : (S'.fs.map (·.name)).Nodup) (hF : FitS nx u S') (up : UpL Y) (pm : (deskP nx u S').Perm Y) : Lies Y nx u S' := by
  have hus := word_slash hF.us
  exact ⟨up, pm.symm, hnd, fun g hg => word_slash (hF.fs g hg).1, fun f hf p hp => by
    rw [ha] at hp
    exact aside_pass h hus hf hS hp, fun p hp => by
    rw [ha] at hp
    obtain ⟨h1, h2⟩ := (aside_is hS p (notK_sub hp).2).1 hp
    rw [← mail_is h hus h1]
    exact away_owner h2⟩
theorem names_of {L : List PM} {u : ByteArray} {S : SM} (hS : takeAll (nextM L) u S0 L = some S) : (S.fs.map (·.name)).Nodup := names_all (S := S0) List.nodup_nil hS
theorem userK_inj {u v : ByteArray} (h : userK u = userK v) : u = v := by
  have h1 := congrArg (fun x : ByteArray => x.data.toList) h
  simp only [userK_data] at h1
  exact bs_inj (List.cons.inj (List.cons.inj h1).2).2
theorem drawn_step {k : Nat} {N Y : List PM} {u : ByteArray} {nx' : Int} {S S' : SM} (h : Drawn k N) (hS : takeAll (nextM N) u S0 N = some S) (hw : S.word.toList ≠ []) (hT : StepS FoldN (nextM N) nx' u S S') (h9 : nx' ≤ 10000) (up : UpL Y) (pm : (deskP nx' u S').Perm Y) (h6 : Y.length ≤ 60) : Drawn (k + 1) Y := by
  have hus := word_slash hT.fit.us
  obtain ⟨hgN, nx0, hnm, n1, n2, _⟩ := store_facts h.st
  rw [hnm] at n1
  have hst := store_left h.st hS hT.aside hT.nd hT.fit hT.n0 h9 up pm h6
  have hl := lies_left h.st hS hT.aside hT.nd hT.fit up pm
  have hnY : nextM Y = nx' := lies_next hl (by have := hT.n0; omega) h9
  have hmem : ∀ p, p ∈ Y → p = (vK, bs (itoa nx')) ∨ p = (userK u, S'.word) ∨ (p ∈ N ∧ p.1 ≠ vK ∧ ownerM p ≠ some u) ∨ ∃ g ∈ S'.fs, p ∈ fPairs u g := fun p hp => by
    rw [← pm.mem_iff] at hp
    unfold deskP at hp
    rw [List.mem_cons, List.mem_cons, List.mem_append] at hp
    rcases hp with hp | hp | hp | hp
    · exact .inl hp
    · exact .inr (.inl hp)
    · rw [hT.aside] at hp
      obtain ⟨j1, j2⟩ := (aside_is hS p (notK_sub hp).2).1 hp
      exact .inr (.inr (.inl ⟨j1, (notK_sub hp).2, j2⟩))
    · exact .inr (.inr (.inr (flat_mem hp)))
  have hback : ∀ p : PM, p ∈ N → p.1 ≠ vK → ownerM p ≠ some u → p ∈ Y := fun p hp hk ho => by
    rw [← pm.mem_iff]
    unfold deskP
    refine List.mem_cons_of_mem _ (List.mem_cons_of_mem _ (List.mem_append_left _ ?_))
    rw [hT.aside]
    exact (aside_is hS p hk).2 ⟨hp, ho⟩
  have hfp : ∀ g ∈ S'.fs, ∀ p ∈ fPairs u g, p = (folderK u g.name, metaT g.val g.next) ∨ ∃ m ∈ g.mails, p = mailP u g.name m := fun g hg p hp => by
    unfold fPairs at hp
    rcases List.mem_cons.1 hp with h | h
    · exact .inl h
    · obtain ⟨m, hm, e⟩ := List.mem_map.1 h
      exact .inr ⟨m, hm, e.symm⟩
  have hsome : (getM N (userK u)).isSome = true := by
    cases hv : getM N (userK u) with
    | some v => rfl
    | none => exact absurd ((word_iff h.st hus hS).1.2 hv) hw
  refine ⟨hst, by rw [hnY]; have := hT.n1; have := h.nx; omega, fun v hv => ?_, fun p hp v f e y hy => ?_, fun p hp v f hv hf e => ?_⟩
  · by_cases e : v = u
    · subst e
      have h8 : (userK v, S'.word) ∈ Y := by
        rw [← pm.mem_iff]
        unfold deskP
        exact List.mem_cons_of_mem _ List.mem_cons_self
      rw [(getM_mem up).2 h8]
      exact ⟨fun _ => (h.us v hv).1 hsome, fun _ => rfl⟩
    · rw [← h.us v hv]
      have hx : ∀ x, (userK v, x) ∈ Y ↔ (userK v, x) ∈ N := fun x => by
        constructor
        · intro hp
          rcases hmem _ hp with h8 | h8 | h8 | ⟨g, hg, h8⟩
          · exact absurd (congrArg Prod.fst h8) (user_nv v)
          · exact absurd (userK_inj (congrArg Prod.fst h8)) e
          · exact h8.1
          · rcases hfp g hg _ h8 with h7 | ⟨m, _, h7⟩
            · have h6 := congrArg (fun x : PM => x.1.data.toList) h7
              simp only [userK_data, folderK_data] at h6
              cases h6
            · have h6 := congrArg (fun x : PM => x.1.data.toList) h7
              unfold mailP at h6
              simp only [userK_data, mailK_data'] at h6
              cases h6
        · intro hp
          exact hback _ hp (user_nv v) (by rw [owner_user hv]; exact fun h8 => e (Option.some.inj h8))
      have hg : getM Y (userK v) = getM N (userK v) := by
        apply Option.ext
        intro x
        rw [getM_mem up, getM_mem hgN.2.2]
        exact hx x
      rw [hg]
  · rcases hmem p hp with h8 | h8 | h8 | ⟨g, hg, h8⟩
    · rw [h8] at e
      exact absurd e.symm (folder_nv v f)
    · rw [h8] at e
      have h6 := congrArg (fun x : ByteArray => x.data.toList) e
      simp only [userK_data, folderK_data] at h6
      cases h6
    · have := h.fn p h8.1 v f e y hy
      omega
    · rcases hfp g hg p h8 with rfl | ⟨m, _, rfl⟩
      · obtain ⟨g1, g2, g3, g4, g5, g6, g7⟩ := hT.fit.fs g hg
        have hy2 : metaV (metaT g.val g.next) = some y := hy
        rw [meta_is ⟨g2, g3, g5, g6⟩] at hy2
        cases hy2
        have := hT.nxt (1 + (k : Int)) (fun x hx => ?_) (by omega) g hg
        · show g.next ≤ 1 + ((k + 1 : Nat) : Int)
          omega
        · obtain ⟨w, k1, k2⟩ := (meta_iff hgN.2.2).1 (look_meta h.st hS (look_self (names_of hS) hx))
          exact h.fn _ k1 u x.name rfl _ k2
      · unfold mailP at e
        have h6 := congrArg (fun x : ByteArray => x.data.toList) e
        simp only [mailK_data', folderK_data] at h6
        cases h6
  · rcases hmem p hp with h8 | h8 | h8 | ⟨g, hg, h8⟩
    · rw [h8] at e
      exact absurd e.symm (folder_nv v f)
    · rw [h8] at e
      have h6 := congrArg (fun x : ByteArray => x.data.toList) e
      simp only [userK_data, folderK_data] at h6
      cases h6
    · exact h.fo p h8.1 v f hv hf e
    · rcases hfp g hg p h8 with rfl | ⟨m, _, rfl⟩
      · have h6 := congrArg (fun x : ByteArray => x.data.toList) (show folderK u g.name = folderK v f from e)
        simp only [folderK_data] at h6
        have hn := seg_inj hus hv (List.cons.inj (List.cons.inj h6).2).2
        obtain rfl : g.name = f := bs_inj hn.2
        rcases hT.nm g hg with h5 | ⟨x, hx, hxn⟩
        · exact h5
        · obtain ⟨w, k1, k2⟩ := (meta_iff hgN.2.2).1 (look_meta h.st hS (look_self (names_of hS) hx))
          rw [← hxn]
          exact h.fo _ k1 u x.name hus (by rw [hxn]; exact hf) rfl
      · unfold mailP at e
        have h6 := congrArg (fun x : ByteArray => x.data.toList) e
        simp only [mailK_data', folderK_data] at h6
        cases h6
/-- A folder as an answer tells it. -/
abbrev z4 : ByteArray × Int × Int × List MMl := (⟨#[]⟩, 0, 0, [])
def faG (o : Option FM) : ByteArray × Int × Int × List MMl := match o with
  | some g => (g.name, g.val, g.next, g.mails)
  | none => z4
def faO (o : Option SM) (f : ByteArray) : ByteArray × Int × Int × List MMl := match o with
  | some S => faG (lookF f S.fs)
  | none => z4
def faM (L : List PM) (u f : ByteArray) : (ByteArray × Int × Int × List MMl) × Int := if askM L [u, f] = 0 then (if knownR L u f = 0 then (faO (takeAll (nextM L) u S0 L) f, 0) else (z4, knownR L u f)) else (z4, askM L [u, f])
theorem fa_ask {L : List PM} {u f : ByteArray} {q : Int} (h : askM L [u, f] = q) (hq : q ≠ 0) : faM L u f = ((⟨#[]⟩, 0, 0, []), q) := by
  unfold faM
  rw [h, if_neg hq]
theorem fa_desk {L : List PM} {u f : ByteArray} {S : SM} (h : askM L [u, f] = 0) (hS : takeAll (nextM L) u S0 L = some S) : faM L u f = (faG (lookF f S.fs), knownR L u f) := by
  obtain ⟨hst, hsu, hsf⟩ := ask_zero2 h
  have hus := word_slash hsu
  have hfs := word_slash hsf
  unfold faM
  rw [h, if_pos rfl]
  by_cases hk : knownR L u f = 0
  · rw [hk, if_pos rfl, hS]
    rfl
  · rw [if_neg hk]
    have hn : lookF f S.fs = none := by
      obtain ⟨hwi, _⟩ := word_iff hst hus hS
      obtain ⟨hli, _⟩ := look_iff hst hus hS hfs
      cases hu : getM L (userK u) with
      | none => rw [no_folders hst hus hS hu]; rfl
      | some v =>
        cases hl : lookF f S.fs with
        | none => rfl
        | some g =>
          exfalso
          refine hk ?_
          unfold knownR
          rw [hu, ← hli, hl]
          rfl
    rw [hn]
    rfl
theorem fit_ms {g : FM} (h : FitF g) : FitMs g.mails := h.2.2.2.2.2
theorem at_pack {w : World} {M : Nat} {a : Option Addr} {n c : Nat} {nx : Int} {u : ByteArray} {S : SM} {k0 : Nat} (hS : StAt w M a n c nx u S k0) (f : ByteArray) : ∃ va X, DeskAt w M ⟨a, n, c, va, S.aside, nx, u, S.word, X⟩ ∧ ∃ nm v1 v2 a' n' c' R, atX (lookX (folderK u f) X) = .agg #[.string nm, .int .i64 v1, .int .i64 v2, .slice a' n' c'] ∧ R.length = n' ∧ w.ownsRow (M + 2) 37 3 (.slice a' n' c') n' (cellsMl R) ∧ faG (lookF f S.fs) = (nm, v1, v2, R) := by
  obtain ⟨va, X, hD, hV, _⟩ := hS
  refine ⟨va, X, hD, ?_⟩
  have hl := hV.look f
  have hrows := hD.2.2.2
  cases hx : lookX (folderK u f) X with
  | none =>
    rw [hx] at hl
    have hl2 : lookF f S.fs = none := hl.symm
    rw [hl2]
    exact ⟨_, _, _, none, 0, 0, [], rfl, rfl, World.ownsRow_nil _ _ _ _, rfl⟩
  | some x =>
    rw [hx] at hl
    have hl2 : lookF f S.fs = some (fmX x) := hl.symm
    rw [hl2]
    have ho := hrows.1 x (look_mem hx)
    obtain ⟨a', c', hv, _, _⟩ := own_src ho
    rw [hv] at ho
    exact ⟨x.name, x.val, x.next, a', x.mails.length, c', x.mails, by show valX x = _; unfold valX; rw [hv], rfl, ho, rfl⟩
set_option maxHeartbeats 2000000 in
theorem l07AtS (a : Option Addr) (n c : Nat) (L : List PM) (hL : L.length = n) (hg : GoodL L) (u f : ByteArray) (hus : u.size ≤ 1000) (hfs : f.size ≤ 1000) (Ms : List MMl) (hM : FitMs Ms) (hU : (L.filter fun x => beginsB x.1 (preK u f)) = Ms.map (mailP u f)) (va nx : Int) (hm : metaM L u f = some (va, nx)) (w : World) (h : Src w a (cellsP L)) :
    Calls Tryz.prog 137 #[.slice a n c, .string u, .string f] w fun e w' => ∃ a' c', e = .returned (.agg #[.string f, .int .i64 va, .int .i64 nx, .slice a' Ms.length c']) ∧ w'.ownsRow w.heap.size 37 3 (.slice a' Ms.length c') Ms.length (cellsMl Ms) ∧ Below w.heap.size w w' := by
  have AL : Hid (Below w.heap.size w (w.alloc (.cells #[.string ⟨#[]⟩, .int .i64 0, .int .i64 0, .slice none 0 0] 28))) := (Below.refl _ _).alloc (Nat.le_refl _) _
  have CM := l07MetaS a n c L u f (w.alloc (.cells #[.string ⟨#[]⟩, .int .i64 0, .int .i64 0, .slice none 0 0] 28)) hL hg (by omega) (by omega) (h.below AL.out)
  have CO := fun W (hW : Below w.heap.size w W) => l07OfS a n c L hL hg u f hus hfs Ms hM hU W (h.below hW)
  have HM : Hid (metaM L u f = some (va, nx)) := hm
  obtain ⟨tb, htb⟩ : ∃ t, (metaM L u f).isSome = t := ⟨_, rfl⟩
  rw [htb] at CM
  clear hL hg hM hU hm h htb
  go_enter Tryz.func137, Tryz.ntmps137
  go_wp2_with fail
  refine CM.mono ?_
  rintro e w1 ⟨x1, y1, rfl, hp, hb1⟩
  obtain ⟨e1, e2⟩ := hp _ HM.out
  have e1' : x1 = va := e1
  have e2' : y1 = nx := e2
  subst e1' e2'
  have B1 : Hid (Below w.heap.size w w1) := AL.out.trans (hb1.mono AL.out.size)
  have X1 : Hid (Box w1 w.heap.size [.string ⟨#[]⟩, .int .i64 0, .int .i64 0, .slice none 0 0]) := Box.below (Box.new rfl) hb1
  have Z1 : Hid (w.heap.size < w1.heap.size) := by
    have h9 := hb1.size
    have h8 : (w.alloc (.cells #[.string ⟨#[]⟩, .int .i64 0, .int .i64 0, .slice none 0 0] 28)).heap.size = w.heap.size + 1 := by simp
    show w.heap.size < w1.heap.size
    omega
  have CO1 := CO w1 B1.out
  clear hb1 hp e1 e2 CM CO HM
  go_wp2_with fail
  refine CO1.mono ?_
  rintro e w2 ⟨v2, rfl, ho2, hb2⟩
  obtain ⟨a2, c2, rfl, _, _⟩ := own_src ho2
  have B2 : Hid (Below w.heap.size w w2) := B1.out.trans (hb2.mono B1.out.size)
  have X2 : Hid (Box w2 w.heap.size [.string ⟨#[]⟩, .int .i64 0, .int .i64 0, .slice none 0 0]) := Box.below X1.out hb2
  have O2 : Hid (w2.ownsRow w1.heap.size 37 3 (.slice a2 Ms.length c2) Ms.length (cellsMl Ms)) := ho2
  clear ho2 hb2 CO1
  obtain ⟨p0, pf0⟩ := (X2.out) 0 _ rfl
  obtain ⟨p1, pf1⟩ := ((X2.out).set 0 (.string f)) 1 _ rfl
  obtain ⟨p2, pf2⟩ := (((X2.out).set 0 (.string f)).set 1 (.int .i64 x1)) 2 _ rfl
  obtain ⟨p3, pf3⟩ := ((((X2.out).set 0 (.string f)).set 1 (.int .i64 x1)).set 2 (.int .i64 y1)) 3 _ rfl
  have X8 := ((((X2.out).set 0 (.string f)).set 1 (.int .i64 x1)).set 2 (.int .i64 y1)).set 3 (.slice a2 Ms.length c2)
  obtain ⟨r0, _⟩ := X8 0 _ rfl
  obtain ⟨r1, _⟩ := X8 1 _ rfl
  obtain ⟨r2, _⟩ := X8 2 _ rfl
  obtain ⟨r3, _⟩ := X8 3 _ rfl
  clear X8
  have BE : Hid (Below w.heap.size w ((((w2.setCell ⟨w.heap.size, 0, none⟩ (.string f)).setCell ⟨w.heap.size, 1, none⟩ (.int .i64 x1)).setCell ⟨w.heap.size, 2, none⟩ (.int .i64 y1)).setCell ⟨w.heap.size, 3, none⟩ (.slice a2 Ms.length c2))) := (((B2.out.setCell (Nat.le_refl _) _).setCell (Nat.le_refl _) _).setCell (Nat.le_refl _) _).setCell (Nat.le_refl _) _
  have OE : Hid (((((w2.setCell ⟨w.heap.size, 0, none⟩ (.string f)).setCell ⟨w.heap.size, 1, none⟩ (.int .i64 x1)).setCell ⟨w.heap.size, 2, none⟩ (.int .i64 y1)).setCell ⟨w.heap.size, 3, none⟩ (.slice a2 Ms.length c2)).ownsRow w.heap.size 37 3 (.slice a2 Ms.length c2) Ms.length (cellsMl Ms)) := own_mono (own_setLow (own_setLow (own_setLow (own_setLow (O2.out) Z1.out _) Z1.out _) Z1.out _) Z1.out _) B1.out.size
  go_wp2_with fail
  exact bodyPost_ret (v := .agg #[.string f, .int .i64 x1, .int .i64 y1, .slice a2 Ms.length c2]) (by simp [results, Tryz.results137, go_sem, r0, r1, r2, r3]) rfl ⟨_, _, rfl, OE.out, BE.out⟩

theorem ask_ok {L : List PM} {Ns : List ByteArray} (h : storeB L = true) (hs : Ns.all shortB = true) : askM L Ns = 0 := by
  have h1 := (store_facts h).1.1
  have hz : Ns.all smallT = true := by
    rw [List.all_eq_true] at hs ⊢
    intro x hx
    have := short_size' (hs x hx)
    unfold smallT
    simp
    omega
  unfold askM
  rw [if_neg (by rw [hz]; exact fun h9 => h9.elim (fun h8 => by omega) (fun h8 => by cases h8)), if_neg (by rw [h]; decide), if_neg (by rw [hs]; decide)]
/-- What the pairs of a list that a desk tells are. -/
theorem desk_mem {Y : List PM} {nx : Int} {u : ByteArray} {S : SM} (pm : (deskP nx u S).Perm Y) {p : PM} (hp : p ∈ Y) : p = (vK, bs (itoa nx)) ∨ p = (userK u, S.word) ∨ p ∈ notK vK S.aside ∨ ∃ g ∈ S.fs, p = (folderK u g.name, metaT g.val g.next) ∨ ∃ m ∈ g.mails, p = mailP u g.name m := by
  rw [← pm.mem_iff] at hp
  unfold deskP at hp
  rw [List.mem_cons, List.mem_cons, List.mem_append] at hp
  rcases hp with hp | hp | hp | hp
  · exact .inl hp
  · exact .inr (.inl hp)
  · exact .inr (.inr (.inl hp))
  · obtain ⟨g, hg, h⟩ := flat_mem hp
    unfold fPairs at h
    rcases List.mem_cons.1 h with h | h
    · exact .inr (.inr (.inr ⟨g, hg, .inl h⟩))
    · obtain ⟨m, hm, e⟩ := List.mem_map.1 h
      exact .inr (.inr (.inr ⟨g, hg, .inr ⟨m, hm, e.symm⟩⟩))
theorem desk_user {Y : List PM} {nx : Int} {u : ByteArray} {S : SM} (up : UpL Y) (pm : (deskP nx u S).Perm Y) : getM Y (userK u) = some S.word := by
  refine (getM_mem up).2 ?_
  rw [← pm.mem_iff]
  unfold deskP
  exact List.mem_cons_of_mem _ List.mem_cons_self
theorem desk_folder {Y : List PM} {nx : Int} {u : ByteArray} {S : SM} (up : UpL Y) (pm : (deskP nx u S).Perm Y) {g : FM} (hg : g ∈ S.fs) (h : GoodF nx g) : metaM Y u g.name = some (g.val, g.next) := by
  obtain ⟨g1, g2, g3, g4, g5, g6, g7⟩ := h
  refine (meta_iff up).2 ⟨metaT g.val g.next, ?_, meta_is ⟨g2, g3, g5, g6⟩⟩
  rw [← pm.mem_iff]
  unfold deskP flatF
  exact List.mem_cons_of_mem _ (List.mem_cons_of_mem _ (List.mem_append_right _ (List.mem_flatMap.2 ⟨g, hg, List.mem_cons_self⟩)))
/-- A folder is told as its desk has it. -/
theorem fa_told {Y : List PM} {nx : Int} {u : ByteArray} {S : SM} {g : FM} (hst : storeB Y = true) (hF : FitS nx u S) (up : UpL Y) (pm : (deskP nx u S).Perm Y) (hw : S.word.toList ≠ []) (hl : lookF g.name S.fs = some g) : ∃ Ms, faM Y u g.name = ((g.name, g.val, g.next, Ms), 0) ∧ (Y.filter fun x => beginsB x.1 (preK u g.name)) = Ms.map (mailP u g.name) := by
  have hsu := hF.us
  have hus := word_slash hsu
  have hgm := (lookF_mem hl).1
  have hsg := (hF.fs g hgm).1
  have hgs := word_slash hsg
  obtain ⟨S2, hS2, _, _⟩ := take_all hst hus
  have hk : knownR Y u g.name = 0 := by
    unfold knownR
    rw [desk_user up pm, desk_folder up pm hgm (hF.fs g hgm)]
    rfl
  obtain ⟨hw2, g2, hl2⟩ := known_zero hst hus hgs hS2 hk
  have hm := look_meta hst hS2 hl2
  rw [desk_folder up pm hgm (hF.fs g hgm)] at hm
  injection hm with hm
  injection hm with hm1 hm2
  refine ⟨g2.mails, ?_, fol_mails hst hus hgs hS2 hw2 hl2⟩
  unfold faM
  rw [ask_ok hst (by simp [hsu, hsg]), if_pos rfl, hk, if_pos rfl, hS2]
  show (faG (lookF g.name S2.fs), (0 : Int)) = _
  rw [hl2]
  show ((g2.name, g2.val, g2.next, g2.mails), (0 : Int)) = _
  rw [(lookF_mem hl2).2, ← hm1, ← hm2]
/-- The uids rise. -/
def Rise (Ms : List MMl) : Prop := Ms.Pairwise fun a b => a.1 < b.1
theorem blp (p a b : List UInt8) : Op.bytesLess (p ++ a) (p ++ b) = Op.bytesLess a b := by
  induction p with
  | nil => rfl
  | cons x p ih =>
    show Op.bytesLess (x :: (p ++ a)) (x :: (p ++ b)) = _
    unfold Op.bytesLess
    simp [ih]
    cases a <;> cases b <;> simp [Op.bytesLess]
theorem bl3 {A B C A' B' C' : UInt8} (h : A < A' ∨ (A = A' ∧ (B < B' ∨ (B = B' ∧ C < C')))) : Op.bytesLess [A, B, C] [A', B', C'] = true := by
  rcases h with h | ⟨rfl, h | ⟨rfl, h⟩⟩ <;> simp [Op.bytesLess, h]
theorem d3_lt {x y : Nat} (h : x < y) (hy : y < 1000) : Op.bytesLess (d3 x) (d3 y) = true := by
  obtain ⟨a, b, c, ha, hb, hc, rfl⟩ := split3 x (by omega)
  obtain ⟨a', b', c', ha', hb', hc', rfl⟩ := split3 y hy
  unfold d3
  rw [dec4 a b c ha hb hc, dec4 a' b' c' ha' hb' hc']
  have key : ∀ {u v : Nat}, u < 10 → v < 10 → (UInt8.ofNat (48 + u) < UInt8.ofNat (48 + v) ↔ u < v) := fun {u v} hu hv => by
    rw [UInt8.lt_iff_toNat_lt]
    simp
    omega
  have keq : ∀ {u v : Nat}, u < 10 → v < 10 → (UInt8.ofNat (48 + u) = UInt8.ofNat (48 + v) ↔ u = v) := fun {u v} hu hv => by
    constructor
    · intro e
      have := congrArg UInt8.toNat e
      simp at this
      omega
    · rintro rfl
      rfl
  show Op.bytesLess [UInt8.ofNat (48 + a), UInt8.ofNat (48 + b), UInt8.ofNat (48 + c)] [UInt8.ofNat (48 + a'), UInt8.ofNat (48 + b'), UInt8.ofNat (48 + c')] = true
  refine bl3 ?_
  rw [key ha ha', key hb hb', key hc hc', keq ha ha', keq hb hb']
  omega
theorem key_lt {u f : ByteArray} {x y : Int} (h0 : 0 ≤ x) (h1 : x < y) (h2 : y < 1000) : ltK (mailK u f x) (mailK u f y) := by
  unfold ltK
  rw [ByteArray.toList_eq, ByteArray.toList_eq, mailK_data', mailK_data']
  have e : ∀ d : List UInt8, 109 :: 47 :: (u.data.toList ++ 47 :: (f.data.toList ++ 47 :: d)) = (109 :: 47 :: (u.data.toList ++ 47 :: (f.data.toList ++ [47]))) ++ d := fun d => by simp
  rw [e (d3 x.toNat), e (d3 y.toNat), blp]
  exact d3_lt (by omega) (by omega)
theorem mailP_inj {u f : ByteArray} {m m2 : MMl} (h : 0 ≤ m.1 ∧ m.1 < 1000 ∧ 0 ≤ m.2.1 ∧ m.2.1 ≤ 3) (h2 : 0 ≤ m2.1 ∧ m2.1 < 1000 ∧ 0 ≤ m2.2.1 ∧ m2.2.1 ≤ 3) (e : mailP u f m = mailP u f m2) : m = m2 := by
  have hk := congrArg (fun x : PM => x.1.data.toList) e
  have hv : mailV m = mailV m2 := congrArg Prod.snd e
  unfold mailP at hk
  simp only [mailK_data'] at hk
  have hd : d3 m.1.toNat = d3 m2.1.toNat := by
    have h9 := (List.cons.inj (List.cons.inj hk).2).2
    have h8 := List.append_cancel_left h9
    have h7 := (List.cons.inj h8).2
    have h6 := List.append_cancel_left h7
    exact (List.cons.inj h6).2
  have h1 := d3_inj (by omega) (by omega) hd
  have hdig : ∀ n : Int, 0 ≤ n → n ≤ 3 → ∃ c : UInt8, itoa n = [c] ∧ (c.toNat : Int) = 48 + n := fun n a b => by
    have : n = 0 ∨ n = 1 ∨ n = 2 ∨ n = 3 := by omega
    rcases this with rfl | rfl | rfl | rfl
    · exact ⟨48, by kernel_rfl, by decide⟩
    · exact ⟨49, by kernel_rfl, by decide⟩
    · exact ⟨50, by kernel_rfl, by decide⟩
    · exact ⟨51, by kernel_rfl, by decide⟩
  obtain ⟨c1, q1, z1⟩ := hdig m.2.1 h.2.2.1 h.2.2.2
  obtain ⟨c2, q2, z2⟩ := hdig m2.2.1 h2.2.2.1 h2.2.2.2
  unfold mailV at hv
  rw [q1, q2] at hv
  have hv2 := congrArg (fun x : ByteArray => x.data.toList) hv
  have hv3 : c1 :: m.2.2.data.toList = c2 :: m2.2.2.data.toList := by simpa [bs, ByteArray.data_append] using hv2
  have e1 := (List.cons.inj hv3).1
  have e2 := bs_inj (List.cons.inj hv3).2
  obtain ⟨a, b, t⟩ := m
  obtain ⟨a2, b2, t2⟩ := m2
  dsimp only at *
  subst e2
  rw [e1] at z1
  obtain rfl : a = a2 := by omega
  obtain rfl : b = b2 := by omega
  rfl
theorem rise_keys {u f : ByteArray} {Ms : List MMl} (h : Rise Ms) (hb : ∀ m ∈ Ms, 0 ≤ m.1 ∧ m.1 < 1000) : UpL (Ms.map (mailP u f)) := by
  unfold UpL
  rw [List.pairwise_map]
  exact h.imp_of_mem fun {a b} ha hb9 h9 => key_lt (hb a ha).1 h9 (hb b hb9).2
theorem keys_rise {u f : ByteArray} {Ms : List MMl} (h : UpL (Ms.map (mailP u f))) (hb : ∀ m ∈ Ms, 0 ≤ m.1 ∧ m.1 < 1000) : Rise Ms := by
  unfold UpL at h
  rw [List.pairwise_map] at h
  refine h.imp_of_mem fun {a b} ha hb9 h9 => ?_
  rcases Int.lt_trichotomy a.1 b.1 with h8 | h8 | h8
  · exact h8
  · have h7 : ltK (mailK u f a.1) (mailK u f b.1) := h9
    rw [h8] at h7
    exact absurd h7 (ltK_irrefl _)
  · have h7 : ltK (mailK u f a.1) (mailK u f b.1) := h9
    have h6 := key_lt (u := u) (f := f) (hb b hb9).1 h8 (hb a ha).2
    have h5 : ltK (mailK u f a.1) (mailK u f a.1) := bl_trans _ _ _ h7 h6
    exact absurd h5 (ltK_irrefl _)
theorem up_nodup {L : List PM} (h : UpL L) : L.Nodup := h.imp fun {a b} h9 e => by rw [e] at h9; exact ltK_irrefl _ h9
theorem up_same {A B : List PM} (hA : UpL A) (hB : UpL B) (h : ∀ p, p ∈ A ↔ p ∈ B) : A = B := by
  have hp : A.Perm B := (List.perm_ext_iff_of_nodup (up_nodup hA) (up_nodup hB)).2 h
  refine sorted_eq hB hp (hA.imp fun {a b} h9 => ?_)
  cases hc : Op.bytesLess b.1.data.toList a.1.data.toList with
  | false => rfl
  | true =>
    have h8 : ltK b.1 a.1 := by unfold ltK; rw [ByteArray.toList_eq, ByteArray.toList_eq]; exact hc
    exact absurd (bl_trans _ _ _ h9 h8 : ltK a.1 a.1) (ltK_irrefl _)
theorem map_inj {u f : ByteArray} {A B : List MMl} (hA : ∀ m ∈ A, 0 ≤ m.1 ∧ m.1 < 1000 ∧ 0 ≤ m.2.1 ∧ m.2.1 ≤ 3) (hB : ∀ m ∈ B, 0 ≤ m.1 ∧ m.1 < 1000 ∧ 0 ≤ m.2.1 ∧ m.2.1 ≤ 3) (h : A.map (mailP u f) = B.map (mailP u f)) : A = B := by
  induction A generalizing B with
  | nil =>
    cases B with
    | nil => rfl
    | cons b B => cases h
  | cons a A ih =>
    cases B with
    | nil => cases h
    | cons b B =>
      obtain ⟨h1, h2⟩ := List.cons.inj h
      rw [mailP_inj (hA a List.mem_cons_self) (hB b List.mem_cons_self) h1, ih (fun m hm => hA m (List.mem_cons_of_mem _ hm)) (fun m hm => hB m (List.mem_cons_of_mem _ hm)) h2]
theorem rise_store {L : List PM} {u : ByteArray} {S : SM} {g : FM} (h : storeB L = true) (hus : (47 : UInt8) ∉ u.data.toList) (hS : takeAll (nextM L) u S0 L = some S) (hw : S.word.toList ≠ []) (hg : g ∈ S.fs) : Rise g.mails := by
  have hF := store_fits h hus hS hw
  have h1 := fol_mails h hus (word_slash (hF.fs g hg).1) hS hw (look_self (names_of hS) hg)
  have h2 : UpL (g.mails.map (mailP u g.name)) := by rw [← h1]; exact (store_facts h).1.2.2.sublist List.filter_sublist
  exact keys_rise h2 fun m hm => by
    have := (hF.fs g hg).2.2.2.2.2
    obtain ⟨g6, g7⟩ := this
    have := g7 m hm
    omega
/-- A folder is told as its desk has it, mail by mail. -/
theorem fa_exact {N Y : List PM} {nx : Int} {u : ByteArray} {S S' : SM} {g : FM} (h : storeB N = true) (hS : takeAll (nextM N) u S0 N = some S) (ha : S'.aside = S.aside) (hst : storeB Y = true) (hF : FitS nx u S') (hnd : (S'.fs.map (·.name)).Nodup) (up : UpL Y) (pm : (deskP nx u S').Perm Y) (hw : S'.word.toList ≠ []) (hg : g ∈ S'.fs) (hr : Rise g.mails) : faM Y u g.name = ((g.name, g.val, g.next, g.mails), 0) := by
  have hus := word_slash hF.us
  obtain ⟨g1, g2, g3, g4, g5, g6, g7⟩ := hF.fs g hg
  have hgs := word_slash g1
  have hl := look_self hnd hg
  have hbnd : ∀ m ∈ g.mails, 0 ≤ m.1 ∧ m.1 < 1000 ∧ 0 ≤ m.2.1 ∧ m.2.1 ≤ 3 := fun m hm => by have := g7 m hm; omega
  obtain ⟨Ms, hfa, hMs⟩ := fa_told hst hF up pm hw hl
  have hup : UpL (Ms.map (mailP u g.name)) := by rw [← hMs]; exact up.sublist List.filter_sublist
  have hsame : ∀ p, p ∈ Ms.map (mailP u g.name) ↔ p ∈ g.mails.map (mailP u g.name) := fun p => by
    rw [← hMs, List.mem_filter]
    constructor
    · rintro ⟨hp, hb⟩
      obtain ⟨r, hr9⟩ := begins_pre.1 hb
      rcases desk_mem pm hp with h8 | h8 | h8 | ⟨g', hg', h8 | ⟨m2, hm2, h8⟩⟩
      · rw [h8] at hr9
        cases hr9
      · rw [h8] at hr9
        simp only [userK_data] at hr9
        cases hr9
      · rw [ha] at h8
        obtain ⟨k1, k2⟩ := (aside_is hS _ (notK_sub h8).2).1 h8
        have h9 := away_owner k2
        have h6 : beginsB p.1 (mailsK u) = true := begins_iff.2 ⟨g.name.data.toList ++ 47 :: r, by rw [hr9, mailsK_data]; simp⟩
        rw [mail_is h hus k1, h6] at h9
        cases h9
      · rw [h8] at hr9
        simp only [folderK_data] at hr9
        cases hr9
      · rw [h8] at hr9
        have hr8 : (mailK u g'.name m2.1).data.toList = 109 :: 47 :: (u.data.toList ++ 47 :: (g.name.data.toList ++ 47 :: r)) := hr9
        rw [mailK_data'] at hr8
        have h7 := List.append_cancel_left (List.cons.inj (List.cons.inj hr8).2).2
        have h6 := (List.cons.inj h7).2
        have hn : g'.name = g.name := bs_inj (seg_inj (word_slash (hF.fs g' hg').1) hgs h6).1
        obtain rfl := same_name hnd hg' hg hn
        rw [h8]
        exact List.mem_map.2 ⟨m2, hm2, rfl⟩
    · intro hp
      obtain ⟨m, hm, rfl⟩ := List.mem_map.1 hp
      refine ⟨?_, begins_mail u g.name m⟩
      rw [← pm.mem_iff]
      unfold deskP flatF
      exact List.mem_cons_of_mem _ (List.mem_cons_of_mem _ (List.mem_append_right _ (List.mem_flatMap.2 ⟨g, hg, List.mem_cons_of_mem _ (List.mem_map.2 ⟨m, hm, rfl⟩)⟩)))
  have heq := up_same hup (rise_keys hr (fun m hm => ⟨(hbnd m hm).1, (hbnd m hm).2.1⟩)) hsame
  have hMb : ∀ m ∈ Ms, 0 ≤ m.1 ∧ m.1 < 1000 ∧ 0 ≤ m.2.1 ∧ m.2.1 ≤ 3 := by
    obtain ⟨S2, hS2, _, _⟩ := take_all hst hus
    have hk : knownR Y u g.name = 0 := by
      unfold knownR
      rw [desk_user up pm, desk_folder up pm hg (hF.fs g hg)]
      rfl
    obtain ⟨hw2, g9, hl2⟩ := known_zero hst hus hgs hS2 hk
    have hM2 : Ms = g9.mails := by
      unfold faM at hfa
      rw [ask_ok hst (by simp [hF.us, g1]), if_pos rfl, hk, if_pos rfl, hS2] at hfa
      have hfa2 : ((faG (lookF g.name S2.fs), (0 : Int)) : (ByteArray × Int × Int × List MMl) × Int) = ((g.name, g.val, g.next, Ms), 0) := hfa
      rw [hl2] at hfa2
      have h8 : (g9.name, g9.val, g9.next, g9.mails) = (g.name, g.val, g.next, Ms) := congrArg Prod.fst hfa2
      injection h8 with _ h8
      injection h8 with _ h8
      injection h8 with _ h8
      exact h8.symm
    rw [hM2]
    intro m hm
    obtain ⟨_, _, _, _, _, e6⟩ := store_fit hst hS2 g9 (lookF_mem hl2).1
    obtain ⟨m1, m2, m3, m4, _⟩ := e6 m hm
    exact ⟨m1, m2, m3, m4⟩
  rw [map_inj hMb hbnd heq] at hfa
  exact hfa
end Go.Proofs.YthgbclipknfmjaaGreatDoor
